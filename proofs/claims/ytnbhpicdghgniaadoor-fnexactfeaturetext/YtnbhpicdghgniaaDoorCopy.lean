/- toPointS hands back the same points in new memory; eqPointS tells that two lists are the same. -/
import Derived.Test.YtnbhpicdghgniaaDoorList
import Derived.Test.YtnbhpicdghgniaaDoorLeaf
import Derived.Test.YtnbhpicdghgniaaDoorReg
import Derived.Deep.RegionHeld3
import Derived.Deep.OwnRows
namespace Go.Proofs.YtnbhpicdghgniaaDoor
open Go.RowKit
set_option linter.unusedSimpArgs false
set_option linter.unusedVariables false

/-- A list of n points that came in: there is none, or they lie at an address. -/
def IsPts (w : World) (a : Option Addr) (n : Nat) (X Y : Nat → Int) : Prop :=
  n = 0 ∨ ∃ b off, a = some ⟨b, off, none⟩ ∧ b < w.heap.size ∧ PtsAt w b off n X Y
theorem IsPts.below {w w' : World} {a : Option Addr} {n : Nat} {X Y : Nat → Int} (h : IsPts w a n X Y) (hb : Below w.heap.size w w') : IsPts w' a n X Y := by
  rcases h with h | ⟨b, off, e, hl, hp⟩
  · exact .inl h
  · exact .inr ⟨b, off, e, Nat.lt_of_lt_of_le hl hb.size, hp.below hb hl⟩

theorem There.set {W : World} {r n : Nat} (h : There W r n) (o : Nat) (v : Value) : There (W.setCell ⟨r, o, none⟩ v) r n := fun o' ho => by
  obtain ⟨u, hu⟩ := (h o' ho).1
  refine ⟨?_, ?_⟩
  · by_cases e : o = o'
    · subst e
      exact ⟨v, World.cell?_setCell_same _ _ _ (by rw [hu])⟩
    · exact ⟨u, by rw [World.cell?_setCell_other]; exact hu; simp [e]⟩
  · rw [World.frozen?_setCell]; exact (h o' ho).2

theorem fill_step {W : World} {B n k : Nat} {X Y : Nat → Int} (hT : There W B (n * 2)) (hk : k < n) (hp : PtsAt W B 0 k X Y) :
    PtsAt ((W.setCell ⟨B, k * 2, none⟩ (.int .i64 (X k))).setCell ⟨B, k * 2 + 1, none⟩ (.int .i64 (Y k))) B 0 (k + 1) X Y := fun i hi => by
  by_cases e : i = k
  · subst e
    obtain ⟨u, hu⟩ := (hT (i * 2) (by omega)).1
    obtain ⟨v, hv⟩ := ((hT.set (i * 2) (.int .i64 (X i))) (i * 2 + 1) (by omega)).1
    refine ⟨?_, ?_⟩
    · rw [World.cell?_setCell_other]
      · simpa using World.cell?_setCell_same _ _ _ (by rw [hu])
      · simp
    · simpa using World.cell?_setCell_same _ _ _ (by rw [hv])
  · obtain ⟨h1, h2⟩ := hp i (by omega)
    refine ⟨?_, ?_⟩
    · rw [World.cell?_setCell_other, World.cell?_setCell_other]
      · exact h1
      · simp <;> omega
      · simp <;> omega
    · rw [World.cell?_setCell_other, World.cell?_setCell_other]
      · exact h2
      · simp <;> omega
      · simp <;> omega

theorem info_ip : (Tryd.prog.info? 56).map (fun i => (i.zero, i.size, i.bytes)) = some (some (.agg #[.int .i64 0, .int .i64 0]), 2, 16) := by kernel_rfl
theorem make_pts (n : Nat) (h : n ≤ 1048576) (w : World) :
    (Instr.makeSlice 29 (.int .i64 (n : Int)) (.int .i64 (n : Int))).run Tryd.prog w = .ok (.slice (some ⟨w.heap.size, 0, none⟩) n n) (w.alloc (.cells (madeCells #[.int .i64 0, .int .i64 0] (n * 2)) 56)) := by
  obtain ⟨i, hi, hz, hs, hb⟩ := info_parts info_ip
  have hr := run_make (P := Tryd.prog) w 29 56 i _ Tryd.underlying29 hi hz .i64 .i64 (n : Int) (n : Int) (by omega) (Int.le_refl _) (by rw [hb]; omega) (by omega)
  simp only [Int.toNat_natCast, hs] at hr
  exact hr
theorem there_made (n : Nat) (w : World) (t : TypeId) : There (w.alloc (.cells (madeCells #[.int .i64 0, .int .i64 0] n) t)) w.heap.size n := fun o ho => by
  have hz := size_madeCells #[.int .i64 0, .int .i64 0] n
  refine ⟨⟨(madeCells #[.int .i64 0, .int .i64 0] n)[o]'(by rw [hz]; exact ho), ?_⟩, World.frozen?_alloc_at _ _ _ _ rfl⟩
  rw [World.cell?_alloc_at _ _ _ _ rfl]
  exact Array.getElem?_eq_getElem _

set_option maxHeartbeats 1000000 in
theorem toPointS_own (a : Option Addr) (n cap : Nat) (X Y : Nat → Int) (w : World) (hp : IsPts w a n X Y) (hmax : n ≤ 1048576) :
    Calls Tryd.prog 19 #[.slice a n cap] w fun e w' => ∃ b, e = .returned (.slice (some ⟨b, 0, none⟩) n n) ∧ w.heap.size ≤ b ∧ b < w'.heap.size ∧ PtsAt w' b 0 n X Y ∧ There w' b (n * 2) ∧ Below w.heap.size w w' := by
  have hmk := make_pts n hmax
  have HP : Hid (IsPts w a n X Y) := hp
  clear hp
  go_enter Tryd.func19, Tryd.ntmps19
  go_wp2
  generalize hW : (w.alloc _ : World) = W
  have HB0 : Hid (Below w.heap.size w W) := by show Below _ _ _; subst hW; (repeat (first | exact Below.refl _ _ | assumption | refine Below.drew ?_ | refine bl_alloc ?_ _ | refine bl_then ?_ (by assumption) | refine Below.setCell ?_ (by first | omega | (simp; done) | (simp; omega)) _ | refine bl_store ?_ ?_ _ _))
  have HT0 : Hid (There W w.heap.size (n * 2)) := by show There _ _ _; subst hW; exact there_made _ _ _
  have HL0 : Hid (w.heap.size < W.heap.size) := by show _ < _; subst hW; simp
  clear hW hmk
  go_loopw [4] (fun i wr => ∃ k : Nat, k ≤ n ∧ i = .int .i64 k ∧ Below w.heap.size w wr ∧ There wr w.heap.size (n * 2) ∧ PtsAt wr w.heap.size 0 k X Y ∧ w.heap.size < wr.heap.size) (fun i _ => n - (intOf i).toNat)
  case atStart => exact ⟨0, by omega, rfl, HB0.out, HT0.out, fun i hi => by omega, HL0.out⟩
  case round =>
    obtain ⟨k, hk, rfl, hB, hT, hPt, hlw⟩ := hrel
    by_cases hlt : k < n
    · rcases HP.out with h0 | ⟨b, off, rfl, hbl, hpt⟩
      · omega
      · obtain ⟨hx, hy⟩ := (hpt.below hB hbl) k hlt
        have HB : Hid (Below w.heap.size w wr) := hB
        have HT : Hid (There wr w.heap.size (n * 2)) := hT
        have HQ : Hid (PtsAt wr w.heap.size 0 k X Y) := hPt
        clear hB hT hPt hpt
        have hi : (k : Int) < (n : Int) := by omega
        go_wp2_with fail
        refine (toPoint_any _ _ _).mono ?_
        rintro e w' ⟨rfl, hb⟩
        have hT' := HT.out.below hb
        have t0 := hT'.cell (k * 2) (by omega)
        have t1 := hT'.cell (k * 2 + 1) (by omega)
        have f0 := (hT' (k * 2) (by omega)).2
        have f1 := (hT' (k * 2 + 1) (by omega)).2
        have HT' : Hid (There w' w.heap.size (n * 2)) := hT'
        clear hT'
        go_wp2
        go_roundw
        case rel =>
          have hsz := hb.size
          refine ⟨k + 1, by omega, by go_num, ?_, (HT'.out.set _ _).set _ _, fill_step HT'.out hlt (HQ.out.below hb hlw), ?_⟩
          · have HB' := HB.out
            (repeat (first | exact Below.refl _ _ | assumption | refine Below.drew ?_ | refine bl_alloc ?_ _ | refine bl_then ?_ (by assumption) | refine Below.setCell ?_ (by first | omega | (simp; done) | (simp; omega)) _ | refine bl_store ?_ ?_ _ _))
          · simp; omega
        case measure => simp [intOf]; omega
    · go_wp2
      go_ret
      have hkn : k = n := by omega
      subst hkn
      exact ⟨_, rfl, Nat.le_refl _, hlw, hPt, hT, hB⟩

theorem toPointS_any (a : Option Addr) (n cap : Nat) (X Y : Nat → Int) (w : World) (hp : IsPts w a n X Y) (hmax : n ≤ 1048576) :
    Calls Tryd.prog 19 #[.slice a n cap] w fun e w' => ∃ b, e = .returned (.slice (some ⟨b, 0, none⟩) n n) ∧ w.heap.size ≤ b ∧ b < w'.heap.size ∧ PtsAt w' b 0 n X Y ∧ Below w.heap.size w w' :=
  (toPointS_own a n cap X Y w hp hmax).mono fun e w' ⟨b, h1, h2, h3, h4, _, h6⟩ => ⟨b, h1, h2, h3, h4, h6⟩
set_option maxHeartbeats 1000000 in
theorem eqPointS_any (b d n : Nat) (X Y : Nat → Int) (w : World) (hp : PtsAt w b 0 n X Y) (hq : PtsAt w d 0 n X Y) (hb : b < w.heap.size) (hd : d < w.heap.size) (hmax : n ≤ 1048576) :
    Calls Tryd.prog 25 #[.slice (some ⟨b, 0, none⟩) n n, .slice (some ⟨d, 0, none⟩) n n] w fun e w' => e = .returned (.bool true) ∧ Below w.heap.size w w' := by
  have HP : Hid (PtsAt w b 0 n X Y) := hp
  have HQ : Hid (PtsAt w d 0 n X Y) := hq
  clear hp hq
  go_enter Tryd.func25, Tryd.ntmps25
  go_wp2
  go_loopw [5] (fun i wr => ∃ k : Nat, k ≤ n ∧ i = .int .i64 k ∧ Below w.heap.size w wr) (fun i _ => n - (intOf i).toNat)
  case atStart => exact ⟨0, by omega, rfl, Below.refl _ _⟩
  case round =>
    obtain ⟨k, hk, rfl, hB⟩ := hrel
    by_cases hlt : k < n
    · have c0 : ∀ W', Below wr.heap.size wr W' → W'.cell? ⟨b, k * 2, none⟩ = some (.int .i64 (X k)) := fun W' h => by
        simpa using ((HP.out.below hB hb).below h (Nat.lt_of_lt_of_le hb hB.size) k hlt).1
      have c1 : ∀ W', Below wr.heap.size wr W' → W'.cell? ⟨b, k * 2 + 1, none⟩ = some (.int .i64 (Y k)) := fun W' h => by
        simpa using ((HP.out.below hB hb).below h (Nat.lt_of_lt_of_le hb hB.size) k hlt).2
      have e0 : ∀ W', Below wr.heap.size wr W' → W'.cell? ⟨d, k * 2, none⟩ = some (.int .i64 (X k)) := fun W' h => by
        simpa using ((HQ.out.below hB hd).below h (Nat.lt_of_lt_of_le hd hB.size) k hlt).1
      have e1 : ∀ W', Below wr.heap.size wr W' → W'.cell? ⟨d, k * 2 + 1, none⟩ = some (.int .i64 (Y k)) := fun W' h => by
        simpa using ((HQ.out.below hB hd).below h (Nat.lt_of_lt_of_le hd hB.size) k hlt).2
      have HB : Hid (Below w.heap.size w wr) := hB
      clear hB
      have hi : (k : Int) < (n : Int) := by omega
      have hi0 : (0 : Int) ≤ (k : Int) := by omega
      go_wp2
      go_region_held3 (fun W' => Below wr.heap.size wr W') ((repeat (first | exact Below.refl _ _ | assumption | refine Below.drew ?_ | refine bl_alloc ?_ _ | refine bl_then ?_ (by assumption) | refine Below.setCell ?_ (by first | omega | (simp; done) | (simp; omega)) _ | refine bl_store ?_ ?_ _ _)))
        (first
          | (go_at_call 46; refine (eqPoint_any _ _ _).mono ?_; rintro e w' ⟨rfl, hb⟩))
      go_wp2
      go_roundw
      case rel => exact ⟨k + 1, by omega, by go_num, bl_then HB.out (by assumption)⟩
      case measure => simp [intOf]; omega
    · go_wp2
      go_ret
      exact ⟨rfl, hB⟩
end Go.Proofs.YtnbhpicdghgniaaDoor
