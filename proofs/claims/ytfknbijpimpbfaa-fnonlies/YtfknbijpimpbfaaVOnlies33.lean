/- Requests that a camera sees: the program and the model. -/
import Derived.Test.YtfknbijpimpbfaaVOnlies20
import Derived.Test.YtfknbijpimpbfaaVOnlies32
import Derived.Test.YtfknbijpimpbfaaVOnlies28
namespace Go.Proofs.Ytfknbijpimpbfaa
open Go.RowKit
set_option linter.unusedSimpArgs false
set_option linter.unusedVariables false
set_option maxRecDepth 100000

theorem CamAt.up {w w' : World} {b : Nat} {z x y wd ht : Int} (h : CamAt w b z x y wd ht) (hb : Below w.heap.size w w') : CamAt w' b z x y wd ht :=
  ⟨bl_cellR hb h.1, bl_cellR hb h.2.1, bl_cellR hb h.2.2.1, bl_cellR hb h.2.2.2.1, bl_cellR hb h.2.2.2.2⟩
/-- What OnlySeen tells. -/
def onlyC (n : Nat) (E : Nat → Req) (z x y wd ht : Int) : Int := or2 (reqsC n E) (camC z x y wd ht)
def onlyL (n : Nat) (E : Nat → Req) (z x y wd ht : Int) : List Req := if onlyC n E z x y wd ht = 0 then keptL (fun j => seenB z x y wd ht (E j).z (E j).x (E j).y) E n else []
theorem onlyC_zero {n : Nat} {E : Nat → Req} {z x y wd ht : Int} (h : onlyC n E z x y wd ht = 0) : reqsC n E = 0 ∧ camC z x y wd ht = 0 := by
  unfold onlyC or2 at h
  by_cases h1 : reqsC n E = 0
  · rw [if_pos h1] at h
    exact ⟨h1, h⟩
  · rw [if_neg h1] at h
    exact absurd h h1
theorem enter_os (args : Array Value) (w : World) : (callFunc 27 args).run Try.prog w = .ok (.enter 27 args) w := by
  have h1 : (Try.f27).name ≠ "runtime.NumGoroutine" := by
    have : ((Try.f27).name == "runtime.NumGoroutine") = false := by kernel_rfl
    simpa using this
  have hb : ∃ c, (Try.f27).body = some c := ⟨_, rfl⟩
  obtain ⟨c, hb⟩ := hb
  simp [callFunc, Try.func27, h1, hb]
set_option maxHeartbeats 2000000 in
theorem only1_any (e : Req) (r : Nat) (z x y wd ht : Int) (w : World) (h : CamAt w r z x y wd ht) :
    Calls Try.prog 27 #[reqV e, .pointer (some ⟨r, 0, none⟩)] w fun q w' => q = .returned (.bool (seenB z x y wd ht e.z e.x e.y)) ∧ Below w.heap.size w w' := by
  obtain ⟨c0, c1, c2, c3, c4⟩ := h.up (w' := w.alloc (.cells #[.int .i64 e.z, .int .i64 e.x, .int .i64 e.y, .int .i64 e.du, .int .i64 e.tr] 37)) (by (repeat (first | exact Below.refl _ _ | assumption | refine Below.drew ?_ | refine bl_alloc ?_ _ | refine bl_then ?_ (by assumption) | refine Below.setCell ?_ (by first | omega | (simp; done) | (simp; omega)) _ | refine bl_store ?_ ?_ _ _)))
  have hl := World.block_lt_of_cell? _ _ h.1
  have sI := fun w => impl_IsSeen_any z x y wd ht e.z e.x e.y w
  generalize seenB z x y wd ht e.z e.x e.y = B at *
  clear h
  go_enter Try.func27, Try.ntmps27
  go_wp2_with (go_at_call 9; refine (sI _).mono ?_; rintro e w' ⟨rfl, hb⟩)
  go_ret
  exact ⟨rfl, by (repeat (first | exact Below.refl _ _ | assumption | refine Below.drew ?_ | refine bl_alloc ?_ _ | refine bl_then ?_ (by assumption) | refine Below.setCell ?_ (by first | omega | (simp; done) | (simp; omega)) _ | refine bl_store ?_ ?_ _ _))⟩
theorem resOnly {T : Array Value} {Wf : World} {r : Nat} {c : Int} {v1 v2 : Value} (hT : T[4]?.getD undef = .pointer (some ⟨r, 0, none⟩)) (h0 : Wf.cell? ⟨r, 0, none⟩ = some (.int .i64 c)) (h1 : Wf.cell? ⟨r, 1, none⟩ = some v1) (h2 : Wf.cell? ⟨r, 2, none⟩ = some v2) :
    (results Try.f7 T).run Try.prog Wf = .ok (rqV c v1 v2) Wf := by
  simp [results, Try.results7, go_sem, hT, h0, h1, h2]
set_option maxHeartbeats 8000000 in
theorem impl_OnlySeen_any (a : Option Addr) (n cap : Nat) (E : Nat → Req) (z x y wd ht : Int) (w : World) (hp : IsWs w a n E) (hn : n ≤ 1048576) (hcap : n ≤ cap) :
    Calls Try.prog 7 #[.slice a n cap, camV z x y wd ht] w fun e w' => ∃ v2, e = .returned (rqV (onlyC n E z x y wd ht) (.slice none 0 0) v2) ∧ OwnW w' w.heap.size v2 (onlyL n E z x y wd ht).length (nw (onlyL n E z x y wd ht)) ∧ Below w.heap.size w w' := by
  have HP : Hid (IsWs w a n E) := hp
  have HF0 : Hid (∀ W, Below w.heap.size w W → Calls Try.prog 11 #[.slice a n cap] W fun e w' => e = .returned (.int .i64 (reqsC n E)) ∧ Below W.heap.size W w') := fun W h => impl_RequestsFault_any a n cap E W (hp.below h) hn hcap
  have HT : Hid (∀ W, Calls Try.prog 25 #[camV z x y wd ht] W fun e w' => e = .returned (.int .i64 (camC z x y wd ht)) ∧ Below W.heap.size W w') := fun W => camFault_any z x y wd ht W
  have HPC : Hid (onlyC n E z x y wd ht = or2 (reqsC n E) (camC z x y wd ht)) := rfl
  clear hp
  have hmf : ∀ (fn : Fn) (first cap : Array Value) (w : World), (Instr.makeFunc fn first cap).run Try.prog w = .ok (.func fn first cap) w := fun _ _ _ _ => rfl
  generalize reqsC n E = k1 at *
  generalize camC z x y wd ht = k2 at *
  go_enter Try.func7, Try.ntmps7
  go_wp2_with fail
  generalize hW : ((w.alloc _).alloc _ : World) = W
  have HB0 : Hid (Below w.heap.size w W) := by show Below _ _ _; subst hW; (repeat (first | exact Below.refl _ _ | assumption | refine Below.drew ?_ | refine bl_alloc ?_ _ | refine bl_then ?_ (by assumption) | refine Below.setCell ?_ (by first | omega | (simp; done) | (simp; omega)) _ | refine bl_store ?_ ?_ _ _))
  have HSZ : Hid (w.heap.size + 1 < W.heap.size) := by show _ < _; subst hW; simp
  have hCA : CamAt W w.heap.size z x y wd ht := by subst hW; exact ⟨by simp [go_sem], by simp [go_sem], by simp [go_sem], by simp [go_sem], by simp [go_sem]⟩
  have c0 : ∀ W', Below W.heap.size W W' → W'.cell? ⟨w.heap.size, 0, none⟩ = some (.int .i64 z) := fun W' h => (hCA.up h).1
  have c1 : ∀ W', Below W.heap.size W W' → W'.cell? ⟨w.heap.size, 1, none⟩ = some (.int .i64 x) := fun W' h => (hCA.up h).2.1
  have c2 : ∀ W', Below W.heap.size W W' → W'.cell? ⟨w.heap.size, 2, none⟩ = some (.int .i64 y) := fun W' h => (hCA.up h).2.2.1
  have c3 : ∀ W', Below W.heap.size W W' → W'.cell? ⟨w.heap.size, 3, none⟩ = some (.int .i64 wd) := fun W' h => (hCA.up h).2.2.2.1
  have c4 : ∀ W', Below W.heap.size W W' → W'.cell? ⟨w.heap.size, 4, none⟩ = some (.int .i64 ht) := fun W' h => (hCA.up h).2.2.2.2
  have HCA : Hid (CamAt W w.heap.size z x y wd ht) := hCA
  have HTH : Hid (There W (w.heap.size + 1) 3) := by
    show There _ _ _
    subst hW
    have := there3q (w.alloc (.cells #[.int .i64 z, .int .i64 x, .int .i64 y, .int .i64 wd, .int .i64 ht] 26)) (.int .i64 0) (.slice none 0 0) (.slice none 0 0) 31
    simpa using this
  clear hW hCA
  have HF : Hid (∀ W', Below W.heap.size W W' → Calls Try.prog 11 #[.slice a n cap] W' fun e w' => e = .returned (.int .i64 k1) ∧ Below W'.heap.size W' w') := fun W' h => HF0.out W' (bl_then HB0.out h)
  refine wp_region_noPanic ?_
  refine wp_region_held_drew (S := fun W' => Below W.heap.size W W') (by kernel_rfl) (by (repeat (first | exact Below.refl _ _ | assumption | refine Below.drew ?_ | refine bl_alloc ?_ _ | refine bl_then ?_ (by assumption) | refine Below.setCell ?_ (by first | omega | (simp; done) | (simp; omega)) _ | refine bl_store ?_ ?_ _ _))) (fun hHeld => ?_)
  have hX0 : Below W.heap.size W W.drew := hHeld
  refine takeD (i := 0) (d := some 6) (v := ?vo0) rfl rfl (by kernel_rfl) (by kernel_rfl) (by kernel_rfl) (fun _ _ _ h => h) (Or.inl ⟨by rfl, ?hyo0⟩) (by assumption) ?_
  case hyo0 => (intro w hSw; (try dsimp only at hSw); go_simp <;> with_reducible rfl)
  try simp only [Act.put, List.setIfInBounds_toArray, List.set_cons_zero, List.set_cons_succ]
  refine takeD (i := 2) (d := some 8) (v := ?vo2) rfl rfl (by kernel_rfl) (by kernel_rfl) (by kernel_rfl) (fun _ _ _ h => h) (Or.inl ⟨by rfl, ?hyo2⟩) (by assumption) ?_
  case hyo2 => (intro w hSw; (try dsimp only at hSw); go_simp <;> with_reducible rfl)
  try simp only [Act.put, List.setIfInBounds_toArray, List.set_cons_zero, List.set_cons_succ]
  refine wpAnyH_ready (rs := [1]) (by kernel_rfl) (by simp) ?_
  refine (AllReadyH.cons rfl (fun K hK => ?_) AllReadyH.nil)
  go_simp
  refine Calls.mono (HF.out _ hX0) ?_
  rintro e wo1 ⟨rfl, hbo1⟩
  have hX1 : Below W.heap.size W wo1 := bl_then hX0 hbo1
  go_wp2_with fail
  refine hK.out _ _ hX1 (fun hHeld => ?_)
  clear hK K
  try simp only [Act.put, List.setIfInBounds_toArray, List.set_cons_zero, List.set_cons_succ]
  refine wpAnyH_ready (rs := [3]) (by kernel_rfl) (by simp) ?_
  refine (AllReadyH.cons rfl (fun K hK => ?_) AllReadyH.nil)
  go_simp
  refine Calls.mono (HT.out _) ?_
  rintro e wo2 ⟨rfl, hbo2⟩
  have hX2 : Below W.heap.size W wo2 := bl_then hX1 hbo2
  go_wp2_with fail
  refine hK.out _ _ hX2 (fun hHeld => ?_)
  clear hK K
  try simp only [Act.put, List.setIfInBounds_toArray, List.set_cons_zero, List.set_cons_succ]
  refine wpAnyH_ready (rs := [4]) (by kernel_rfl) (by simp) ?_
  refine (AllReadyH.cons rfl (fun K hK => ?_) AllReadyH.nil)
  go_simp
  generalize hw4 : (World.alloc _ _ : World) = wo3
  have hb4 : Below wo2.heap.size wo2 wo3 := by subst hw4; (repeat (first | exact Below.refl _ _ | assumption | refine Below.drew ?_ | refine bl_alloc ?_ _ | refine bl_then ?_ (by assumption) | refine Below.setCell ?_ (by first | omega | (simp; done) | (simp; omega)) _ | refine bl_store ?_ ?_ _ _))
  have g0 : wo3.cell? ⟨wo2.heap.size, 0, none⟩ = some (.int .i64 k1) := by subst hw4; simp [go_sem]
  have g1 : wo3.cell? ⟨wo2.heap.size, 1, none⟩ = some (.int .i64 k2) := by subst hw4; simp [go_sem]
  have hX3 : Below W.heap.size W wo3 := bl_then hX2 hb4
  clear hw4
  refine hK.out _ _ hX3 (fun hHeld => ?_)
  clear hK K hb4
  try simp only [Act.put, List.setIfInBounds_toArray, List.set_cons_zero, List.set_cons_succ]
  refine wpAnyH_ready (rs := [5]) (by kernel_rfl) (by simp) ?_
  refine (AllReadyH.cons rfl (fun K hK => ?_) AllReadyH.nil)
  go_simp
  refine (cmpOr2_any _ _ k1 k2 _ g0 g1).mono ?_
  rintro e w5 ⟨rfl, rfl⟩
  go_wp2_with fail
  refine hK.out _ _ hX3 (fun hHeld => ?_)
  clear hK K g0 g1
  try simp only [Act.put, List.setIfInBounds_toArray, List.set_cons_zero, List.set_cons_succ]
  refine takeD (i := 6) (d := some 5) (v := ?vo6) rfl rfl (by kernel_rfl) (by kernel_rfl) (by kernel_rfl) (fun _ _ _ h => h) (Or.inl ⟨by rfl, ?hyo6⟩) (by assumption) ?_
  case hyo6 => (intro w hSw; (try dsimp only at hSw); go_simp <;> with_reducible rfl)
  try simp only [Act.put, List.setIfInBounds_toArray, List.set_cons_zero, List.set_cons_succ]
  refine wpAnyH_done (by kernel_rfl) ?_ _
  refine NoPanic.normal ?_
  simp only [Exit.then]
  refine (by assumption : ∀ (a : Act) (w : World), _ → _) _ _ ?_
  have hB5 : Below W.heap.size W w5 := hX3
  have HBS : Hid (W.heap.size ≤ w5.heap.size) := hB5.size
  rw [← HPC.out]
  clear hX0 hX1 hX2 hX3 hHeld hbo1 hbo2 HF HF0 HT c0 c1 c2 c3 c4
  have hT5 := HTH.out.below hB5
  have HSZ5 : Hid (w.heap.size + 1 < w5.heap.size) := by have := HBS.out; have := HSZ.out; show _ < _; omega
  by_cases hp0 : onlyC n E z x y wd ht = 0
  · rw [hp0]
    have HC0 : Hid (onlyC n E z x y wd ht = 0) := hp0
    have HL : Hid (onlyL n E z x y wd ht = keptL (fun j => seenB z x y wd ht (E j).z (E j).x (E j).y) E n) := by show _ = _; unfold onlyL; rw [if_pos hp0]
    have hOT := onlyThose_any a n cap 27 #[.pointer (some ⟨w.heap.size, 0, none⟩)] (fun j => seenB z x y wd ht (E j).z (E j).x (E j).y) E w5 (HP.out.below (bl_then HB0.out hB5)) hn enter_os (fun i W' hi hb => only1_any (E i) w.heap.size z x y wd ht W' ((HCA.out.up hB5).up hb))
    have HOT : Hid (Calls Try.prog 26 #[.slice a n cap, .func (.func 27) #[] #[.pointer (some ⟨w.heap.size, 0, none⟩)]] w5 fun e w' => ∃ va vc, e = .returned (.slice va (keptL (fun j => seenB z x y wd ht (E j).z (E j).x (E j).y) E n).length vc) ∧ OwnW w' w5.heap.size (.slice va (keptL (fun j => seenB z x y wd ht (E j).z (E j).x (E j).y) E n).length vc) (keptL (fun j => seenB z x y wd ht (E j).z (E j).x (E j).y) E n).length (nw (keptL (fun j => seenB z x y wd ht (E j).z (E j).x (E j).y) E n)) ∧ Below w5.heap.size w5 w') := hOT
    clear hp0 hOT
    generalize keptL (fun j => seenB z x y wd ht (E j).z (E j).x (E j).y) E n = KL at *
    go_wp2_with fail
    refine Calls.mono HOT.out ?_
    rintro e w6 ⟨va, vc, rfl, hO6, hb6⟩
    have HO6 : Hid (OwnW w6 w5.heap.size (.slice va KL.length vc) KL.length (nw KL)) := hO6
    have HT6 : Hid (There w6 (w.heap.size + 1) 3) := hT5.below hb6
    have HB6 : Hid (Below w.heap.size w w6) := bl_then HB0.out (bl_then hB5 hb6)
    have t0 := HT6.out.cell 0 (by omega)
    have t1 := HT6.out.cell 1 (by omega)
    have t2 := HT6.out.cell 2 (by omega)
    have f0 := (HT6.out 0 (by omega)).2
    have f1 := (HT6.out 1 (by omega)).2
    have f2 := (HT6.out 2 (by omega)).2
    clear hO6 hb6 HOT hT5 hB5
    generalize hLL : KL.length = LL at *
    go_wp2_with fail
    obtain ⟨q0, q1, q2⟩ := set3q (a := .int .i64 0) (b := .slice none 0 0) (c := .slice va LL vc) HT6.out
    refine bodyPost_ret (resOnly rfl q0 q1 q2) rfl ⟨_, by rw [HC0.out], by rw [HL.out, hLL]; exact HO6.out.set3 HSZ5.out (by have := HSZ5.out; omega), ?_⟩
    exact ((HB6.out.setCell (Nat.le_succ _) _).setCell (Nat.le_succ _) _).setCell (Nat.le_succ _) _
  · have hp0' : (onlyC n E z x y wd ht == 0) = false := by simpa using hp0
    have HL : Hid (onlyL n E z x y wd ht = []) := by show _ = _; unfold onlyL; rw [if_neg hp0]
    obtain ⟨kk, hkk⟩ : ∃ kk, onlyC n E z x y wd ht = kk := ⟨_, rfl⟩
    have HKK : Hid (onlyC n E z x y wd ht = kk) := hkk
    rw [hkk] at hp0' ⊢
    have HT6 : Hid (There w5 (w.heap.size + 1) 3) := hT5
    have HB6 : Hid (Below w.heap.size w w5) := bl_then HB0.out hB5
    have t0 := HT6.out.cell 0 (by omega)
    have t1 := HT6.out.cell 1 (by omega)
    have t2 := HT6.out.cell 2 (by omega)
    have f0 := (HT6.out 0 (by omega)).2
    have f1 := (HT6.out 1 (by omega)).2
    have f2 := (HT6.out 2 (by omega)).2
    clear hp0 hkk hT5 hB5
    go_wp2_with fail
    obtain ⟨q0, q1, q2⟩ := set3q (a := .int .i64 kk) (b := .slice none 0 0) (c := .slice none 0 0) HT6.out
    refine bodyPost_ret (resOnly rfl q0 q1 q2) rfl ⟨_, by rw [HKK.out], by rw [HL.out]; exact (RowW.no _ _).own, ?_⟩
    exact ((HB6.out.setCell (Nat.le_succ _) _).setCell (Nat.le_succ _) _).setCell (Nat.le_succ _) _
set_option maxHeartbeats 8000000 in
theorem l12Seen_any (a : Option Addr) (n cap r : Nat) (E : Nat → Req) (z x y wd ht : Int) (w : World) (hp : IsWs w a n E) (hc : CamAt w r z x y wd ht) (hr : camB z x y wd ht = true) (hn : n ≤ 8) :
    Calls Try.prog 31 #[.slice a n cap, .pointer (some ⟨r, 0, none⟩)] w fun e w' => ∃ v, e = .returned v ∧ RowW w.heap.size w' v (keptL (fun j => seenB z x y wd ht (E j).z (E j).x (E j).y) E n) ∧ Below w.heap.size w w' := by
  obtain ⟨i0, hi, hz0, hz1, hz2⟩ := info_parts info_req
  have hm : visM z x y wd ht ≤ 1048576 := by have := visM_le z x y wd ht; omega
  have HSN : Hid (∀ (e : Req) (W : World), CamAt W r z x y wd ht → Calls Try.prog 58 #[.pointer (some ⟨r, 0, none⟩), refV e.z e.x e.y] W fun q w' => q = .returned (.bool (seenB z x y wd ht e.z e.x e.y)) ∧ Below W.heap.size W w') := fun e W h => l9Seen_any r _ _ e.z e.x e.y W hm (fun W' hW => l9Refs_any r W' (h.up hW) hr)
  have HP : Hid (IsWs w a n E) := hp
  have HC : Hid (CamAt w r z x y wd ht) := hc
  clear hp hc hr hm
  go_enter Try.func31, Try.ntmps31
  go_wp2_with fail
  generalize hW : (w.alloc _ : World) = W
  have HB0 : Hid (Below w.heap.size w W) := by show Below _ _ _; subst hW; (repeat (first | exact Below.refl _ _ | assumption | refine Below.drew ?_ | refine bl_alloc ?_ _ | refine bl_then ?_ (by assumption) | refine Below.setCell ?_ (by first | omega | (simp; done) | (simp; omega)) _ | refine bl_store ?_ ?_ _ _))
  have HR0 : Hid (RowW w.heap.size W (.slice (some ⟨w.heap.size, 0, none⟩) 0 0) []) := by
    show World.ownsRow _ _ _ _ _ _ _
    subst hW
    exact World.ownsRow_lit (base := w.heap.size) (size := 5) w #[] 0 (Nat.le_refl _) (Nat.zero_le _) rfl
  clear hW
  go_loopw [5, 6] (fun v i wr => ∃ (k : Nat) (va : Option Addr) (vc : Nat), k ≤ n ∧ i = .int .i64 (k : Int) ∧ v = .slice va (keptL (fun j => seenB z x y wd ht (E j).z (E j).x (E j).y) E k).length vc ∧ RowW w.heap.size wr v (keptL (fun j => seenB z x y wd ht (E j).z (E j).x (E j).y) E k) ∧ Below w.heap.size w wr) (fun _ i _ => n - (intOf i).toNat)
  case atStart => exact ⟨0, _, _, by omega, rfl, rfl, HR0.out, HB0.out⟩
  case round =>
    obtain ⟨k, va, vc, hk, rfl, rfl, hR, hB⟩ := hrel
    have HRr : Hid (RowW w.heap.size wr (.slice va (keptL (fun j => seenB z x y wd ht (E j).z (E j).x (E j).y) E k).length vc) (keptL (fun j => seenB z x y wd ht (E j).z (E j).x (E j).y) E k)) := hR
    have HBr : Hid (Below w.heap.size w wr) := hB
    by_cases hlt : k < n
    · rcases HP.out with h0 | ⟨b, off, rfl, hbl, hpt⟩
      · omega
      obtain ⟨q0, q1, q2, q3, q4⟩ := (hpt.below hB hbl) k hlt
      have hi' : (k : Int) < (n : Int) := by omega
      have hi0 : (0 : Int) ≤ (k : Int) := by omega
      have HLT : Hid (k < n) := hlt
      have HPT : Hid (WsAt w b off n E) := hpt
      have hle := keptL_le (fun j => seenB z x y wd ht (E j).z (E j).x (E j).y) E k
      clear hR hB hpt
      go_wp2_with fail
      refine (HSN.out (E k) _ (HC.out.up HBr.out)).mono ?_
      rintro e w2 ⟨rfl, hb2⟩
      have HB2 : Hid (Below w.heap.size w w2) := bl_then HBr.out hb2
      have HR2 : Hid (RowW w.heap.size w2 (.slice va (keptL (fun j => seenB z x y wd ht (E j).z (E j).x (E j).y) E k).length vc) (keptL (fun j => seenB z x y wd ht (E j).z (E j).x (E j).y) E k)) := HRr.out.below hb2
      obtain ⟨p0, p1, p2, p3, p4⟩ := (HPT.out.below HB2.out hbl) k hlt
      clear hb2 q0 q1 q2 q3 q4 HRr HBr
      cases hS : seenB z x y wd ht (E k).z (E k).x (E k).y
      · have HK : Hid (keptL (fun j => seenB z x y wd ht (E j).z (E j).x (E j).y) E (k + 1) = keptL (fun j => seenB z x y wd ht (E j).z (E j).x (E j).y) E k) := keptL_no hS
        clear hS
        generalize keptL (fun j => seenB z x y wd ht (E j).z (E j).x (E j).y) E k = KL at *
        go_wp2_with fail
        go_roundw
        case rel => exact ⟨k + 1, va, vc, by have := HLT.out; omega, by go_num, by rw [HK.out], by rw [HK.out]; exact HR2.out, HB2.out⟩
        case measure => have := HLT.out; simp [intOf]; omega
      · have HK : Hid (keptL (fun j => seenB z x y wd ht (E j).z (E j).x (E j).y) E (k + 1) = keptL (fun j => seenB z x y wd ht (E j).z (E j).x (E j).y) E k ++ [E k]) := keptL_yes hS
        clear hS
        generalize keptL (fun j => seenB z x y wd ht (E j).z (E j).x (E j).y) E k = KL at *
        have HSZ : Hid (w.heap.size ≤ w2.heap.size) := HB2.out.size
        go_wp2_with (first
          | (at_builtin; go_must (refine wpList_append_own _ rfl _ _ 24 rfl w.heap.size 37 i0 (.agg #[.int .i64 0, .int .i64 0, .int .i64 0, .int .i64 0, .int .i64 0]) 5 40 Try.underlying24 hi hz0 hz1 hz2 rfl (by decide) (.slice va KL.length vc) KL.length (cellsW KL) rfl ?r0 ⟨w2.heap.size, 0, none⟩ 1 1 (reqCells (E k)) rfl rfl ?r1 ?r2 ?r3 ?r4 ?r5 ?_)))
        case r0 => exact World.ownsRow.alloc HR2.out _
        case r1 => exact lit_cells _ _ _
        case r2 => exact reqCells_one _
        case r3 => unfold maxLen; omega
        case r4 => omega
        case r5 => have := HSZ.out; simp; omega
        intro v6 w6 hown6 hg6 hnil6
        have hR6 : RowW w.heap.size w6 v6 (KL ++ [E k]) := by unfold RowW; rw [cellsW_app, cellsW_one, List.length_append]; exact hown6
        have hbA : Below w2.heap.size w2 (w2.alloc (.cells #[.int .i64 (E k).z, .int .i64 (E k).x, .int .i64 (E k).y, .int .i64 (E k).du, .int .i64 (E k).tr] 37)) := by (repeat (first | exact Below.refl _ _ | assumption | refine Below.drew ?_ | refine bl_alloc ?_ _ | refine bl_then ?_ (by assumption) | refine Below.setCell ?_ (by first | omega | (simp; done) | (simp; omega)) _ | refine bl_store ?_ ?_ _ _))
        have hb6 : Below w.heap.size (w2.alloc (.cells #[.int .i64 (E k).z, .int .i64 (E k).x, .int .i64 (E k).y, .int .i64 (E k).du, .int .i64 (E k).tr] 37)) w6 := below_rowR hg6 (fun p hp => HR2.out.block p hp) (by have := HSZ.out; simp; omega)
        obtain ⟨va6, vc6, hv6⟩ := hR6.slice
        subst hv6
        have HR6 : Hid (RowW w.heap.size w6 (.slice va6 (KL ++ [E k]).length vc6) (KL ++ [E k])) := hR6
        have HB6 : Hid (Below w.heap.size w w6) := (bl_then HB2.out hbA).trans hb6
        clear hown6 hg6 hnil6 hR6 hbA hb6 p0 p1 p2 p3 p4
        obtain ⟨SL, hSL⟩ : ∃ SL, (KL ++ [E k]).length = SL := ⟨_, rfl⟩
        have HSL : Hid ((KL ++ [E k]).length = SL) := hSL
        rw [hSL] at HR6 ⊢
        clear hSL
        go_wp2_with fail
        go_roundw
        case rel => exact ⟨k + 1, va6, vc6, by have := HLT.out; omega, by go_num, by rw [HK.out, HSL.out], by rw [HK.out]; exact HR6.out, HB6.out⟩
        case measure => have := HLT.out; simp [intOf]; omega
    · obtain rfl : n = k := by omega
      go_wp2_with fail
      go_ret
      exact ⟨_, rfl, HRr.out, HBr.out⟩
end Go.Proofs.Ytfknbijpimpbfaa
