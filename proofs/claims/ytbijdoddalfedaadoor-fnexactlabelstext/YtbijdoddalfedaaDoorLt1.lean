/- Labels in lines, as the model writes them. -/
import Derived.Test.YtbijdoddalfedaaDoorPd
import Derived.Test.YtbijdoddalfedaaDoorTx1
import Derived.Test.YtbijdoddalfedaaDoorTake
namespace Go.Proofs.YtbijdoddalfedaaDoor
open Go.RowKit
set_option linter.unusedSimpArgs false
set_option linter.unusedVariables false
set_option maxRecDepth 100000

def ltL : ByteArray := ⟨#[108, 97, 98, 101, 108, 32]⟩
def ltS : ByteArray := ⟨#[32]⟩
def ltN : ByteArray := ⟨#[10]⟩
def ltNo : ByteArray := ⟨#[110, 111, 110, 101, 10]⟩
/-- A label that may be told. -/
def okL (e : Plc) : Bool := inB e.id 1 999 && (inB e.a 0 9999 && (inB e.b 0 9999 && (inB e.c 0 9999 && inB e.d 0 9999)))
def allL (E : Nat → Plc) : Nat → Bool
  | 0 => true
  | k + 1 => allL E k && okL (E k)
theorem allL_true {E : Nat → Plc} : ∀ {n : Nat}, (∀ j, j < n → okL (E j) = true) → allL E n = true
  | 0, _ => rfl
  | n + 1, h => by
    unfold allL
    rw [allL_true (fun j hj => h j (by omega)), h n (by omega)]
    rfl
theorem allL_get {E : Nat → Plc} : ∀ {n : Nat}, allL E n = true → ∀ j, j < n → okL (E j) = true
  | n + 1, h, j, hj => by
    unfold allL at h
    simp at h
    by_cases e : j = n
    · rw [e]; exact h.2
    · exact allL_get h.1 j (by omega)
theorem allL_false {E : Nat → Plc} {n k : Nat} (hk : k < n) (h : okL (E k) = false) : allL E n = false := by
  cases e : allL E n
  · rfl
  · rw [allL_get e k hk] at h
    cases h
/-- A line behind a text. -/
def lnT (T : ByteArray) (e : Plc) : ByteArray := T ++ ltL ++ digB e.id ++ ltS ++ digB e.a ++ ltS ++ digB e.b ++ ltS ++ digB e.c ++ ltS ++ digB e.d ++ ltN
def lbsT (E : Nat → Plc) : Nat → ByteArray
  | 0 => ⟨#[]⟩
  | k + 1 => lnT (lbsT E k) (E k)
/-- The code and the text of labels. -/
def lblC (n : Nat) (E : Nat → Plc) : Int := if 12 < n then 2 else if allL E n = true then 0 else 3
def lblT (n : Nat) (E : Nat → Plc) : ByteArray := if 12 < n then ⟨#[]⟩ else if allL E n = true then (if n = 0 then ltNo else lbsT E n) else ⟨#[]⟩
theorem okL_bd {e : Plc} (h : okL e = true) : (0 ≤ e.id ∧ e.id ≤ 9999) ∧ (0 ≤ e.a ∧ e.a ≤ 9999) ∧ (0 ≤ e.b ∧ e.b ≤ 9999) ∧ (0 ≤ e.c ∧ e.c ≤ 9999) ∧ (0 ≤ e.d ∧ e.d ≤ 9999) := by
  unfold okL at h
  simp [inB] at h
  omega
theorem lnT_size {T : ByteArray} {e : Plc} (h : okL e = true) : T.size + 6 ≤ (lnT T e).size ∧ (lnT T e).size ≤ T.size + 116 := by
  obtain ⟨h0, h1, h2, h3, h4⟩ := okL_bd h
  have a0 := digB_size e.id h0.1 (by omega)
  have a1 := digB_size e.a h1.1 (by omega)
  have a2 := digB_size e.b h2.1 (by omega)
  have a3 := digB_size e.c h3.1 (by omega)
  have a4 := digB_size e.d h4.1 (by omega)
  have e1 : ltL.size = 6 := rfl
  have e2 : ltS.size = 1 := rfl
  have e3 : ltN.size = 1 := rfl
  simp only [lnT, ByteArray.size_append, e1, e2, e3]
  omega
theorem lbsT_size {E : Nat → Plc} : ∀ {n : Nat}, (∀ j, j < n → okL (E j) = true) → n ≤ (lbsT E n).size ∧ (lbsT E n).size ≤ 116 * n
  | 0, _ => ⟨Nat.le_refl _, Nat.le_refl _⟩
  | n + 1, h => by
    have h1 := lbsT_size (E := E) (n := n) (fun j hj => h j (by omega))
    have h2 := lnT_size (T := lbsT E n) (h n (by omega))
    unfold lbsT
    omega
theorem plc_get {w : World} {a : Option Addr} {n k : Nat} {E : Nat → Plc} (h : IsLb w a n E) (hk : k < n) : ∃ b off, a = some ⟨b, off, none⟩ ∧ b < w.heap.size ∧ PlcAt w b (off + k * 5) (E k) := by
  rcases h with h | ⟨b, off, e, hl, hp⟩
  · omega
  · exact ⟨b, off, e, hl, hp k hk⟩
theorem strL_ne {T : ByteArray} (h : 0 < T.size) : T.toList.isEmpty = false := by
  cases hb : T.toList.isEmpty
  · rfl
  · rw [ByteArray.toList_eq] at hb
    have h2 : T.data.toList = [] := List.isEmpty_iff.1 hb
    have h3 : T.size = 0 := by
      have : T.data.toList.length = 0 := by rw [h2]; rfl
      rw [Array.length_toList] at this
      exact this
    omega
set_option maxHeartbeats 8000000 in
theorem l16Labels_any (a : Option Addr) (n cap : Nat) (E : Nat → Plc) (w : World) (hp : IsLb w a n E) (hn : n ≤ 12) (hok : ∀ j, j < n → okL (E j) = true) :
    Calls Tryd.prog 11 #[.slice a n cap] w fun e w' => e = .returned (.string (if n = 0 then ltNo else lbsT E n)) ∧ Below w.heap.size w w' := by
  have HP : Hid (IsLb w a n E) := hp
  have HO : Hid (∀ j, j < n → okL (E j) = true) := hok
  have HD : Hid (∀ (n : Int) (W : World), 0 ≤ n → n ≤ 1048576 → Calls Tryd.prog 16 #[.int .i64 n] W fun e w' => e = .returned (.string (digB n)) ∧ Below W.heap.size W w') := fun n W h0 h1 => l1Digits_any (n.toNat + 1) n W h0 (by omega) h1
  clear hp hok
  go_enter Tryd.func11, Tryd.ntmps11
  go_wp2_with fail
  go_loopw [3, 4] (fun t i wr => ∃ k : Nat, i = .int .i64 (k : Int) ∧ t = .string (lbsT E k) ∧ k ≤ n ∧ Below w.heap.size w wr) (fun _ i _ => n - (intOf i).toNat)
  case atStart => exact ⟨0, rfl, rfl, Nat.zero_le _, Below.refl _ _⟩
  case round =>
    obtain ⟨k, rfl, rfl, hkn, hB⟩ := hrel
    have HB : Hid (Below w.heap.size w wr) := hB
    have zt : ((lbsT E k).size : Int) ≤ 2000 := by have := (lbsT_size (E := E) (n := k) (fun j hj => HO.out j (by omega))).2; omega
    clear hB
    by_cases hk : k < n
    · have hki : (k : Int) < (n : Int) := by omega
      have hki0 : (0 : Int) ≤ (k : Int) := by omega
      obtain ⟨b, off, rfl, hbl, hp⟩ := plc_get (HP.out.below HB.out) hk
      have hT : lnT (lbsT E k) (E k) = lbsT E (k + 1) := rfl
      obtain ⟨h0, h1, h2, h3, h4⟩ := okL_bd (HO.out k hk)
      have HT : Hid (lnT (lbsT E k) (E k) = lbsT E (k + 1)) := hT
      clear hT
      generalize lbsT E k = T at *
      generalize hE : E k = ek at *
      obtain ⟨id, xa, xb, xc, xd⟩ := ek
      dsimp only at h0 h1 h2 h3 h4
      have s0 : ((digB id).size : Int) ≤ 21 := by have := digB_size id h0.1 (by omega); omega
      have s1 : ((digB xa).size : Int) ≤ 21 := by have := digB_size xa h1.1 (by omega); omega
      have s2 : ((digB xb).size : Int) ≤ 21 := by have := digB_size xb h2.1 (by omega); omega
      have s3 : ((digB xc).size : Int) ≤ 21 := by have := digB_size xc h3.1 (by omega); omega
      have s4 : ((digB xd).size : Int) ≤ 21 := by have := digB_size xd h4.1 (by omega); omega
      obtain ⟨g0, g1, g2, g3, g4⟩ := hp
      have p0 : ∀ W', Below wr.heap.size wr W' → W'.cell? ⟨b, off + k * 5, none⟩ = some (.int .i64 id) := fun W' h => (h.cell (p := ⟨b, off + k * 5, none⟩) hbl).trans g0
      have p1 : ∀ W', Below wr.heap.size wr W' → W'.cell? ⟨b, off + k * 5 + 1, none⟩ = some (.int .i64 xa) := fun W' h => (h.cell (p := ⟨b, off + k * 5 + 1, none⟩) hbl).trans g1
      have p2 : ∀ W', Below wr.heap.size wr W' → W'.cell? ⟨b, off + k * 5 + 2, none⟩ = some (.int .i64 xb) := fun W' h => (h.cell (p := ⟨b, off + k * 5 + 2, none⟩) hbl).trans g2
      have p3 : ∀ W', Below wr.heap.size wr W' → W'.cell? ⟨b, off + k * 5 + 3, none⟩ = some (.int .i64 xc) := fun W' h => (h.cell (p := ⟨b, off + k * 5 + 3, none⟩) hbl).trans g3
      have p4 : ∀ W', Below wr.heap.size wr W' → W'.cell? ⟨b, off + k * 5 + 4, none⟩ = some (.int .i64 xd) := fun W' h => (h.cell (p := ⟨b, off + k * 5 + 4, none⟩) hbl).trans g4
      have b0 : 0 ≤ id ∧ id ≤ 1048576 := by omega
      have b1 : 0 ≤ xa ∧ xa ≤ 1048576 := by omega
      have b2 : 0 ≤ xb ∧ xb ≤ 1048576 := by omega
      have b3 : 0 ≤ xc ∧ xc ≤ 1048576 := by omega
      have b4 : 0 ≤ xd ∧ xd ≤ 1048576 := by omega
      clear g0 g1 g2 g3 g4 h0 h1 h2 h3 h4 hE
      go_upto_region 6 with fail
      refine wp_region_noPanic ?_
      refine wp_region_held_drew (S := fun W' => Below wr.heap.size wr W') (by kernel_rfl) (by have := Below.refl wr.heap.size wr; (repeat (first | exact Below.refl _ _ | assumption | refine Below.drew ?_ | refine bl_alloc ?_ _ | refine bl_then ?_ (by assumption) | refine Below.setCell ?_ (by first | omega | (simp; done) | (simp; omega)) _ | refine bl_store ?_ ?_ _ _))) (fun hHeld => ?_)
      have hX0a : Below wr.heap.size wr wr.drew := hHeld
      generalize wr.drew = wk0a at *
      refine takeD (i := 0) (d := some 15) (v := ?va0) rfl rfl (by kernel_rfl) (by kernel_rfl) (by kernel_rfl) (fun _ _ _ h => h) (Or.inl ⟨by rfl, ?hya0⟩) (by assumption) ?_
      case hya0 => (intro w hSw; (try dsimp only at hSw); go_simp <;> with_reducible rfl)
      try simp only [Act.put, List.setIfInBounds_toArray, List.set_cons_zero, List.set_cons_succ]
      refine takeD (i := 2) (d := some 17) (v := ?va2) rfl rfl (by kernel_rfl) (by kernel_rfl) (by kernel_rfl) (fun _ _ _ h => h) (Or.inl ⟨by rfl, ?hya2⟩) (by assumption) ?_
      case hya2 => (intro w hSw; (try dsimp only at hSw); go_simp <;> with_reducible rfl)
      try simp only [Act.put, List.setIfInBounds_toArray, List.set_cons_zero, List.set_cons_succ]
      refine takeD (i := 3) (d := some 18) (v := ?va3) rfl rfl (by kernel_rfl) (by kernel_rfl) (by kernel_rfl) (fun _ _ _ h => h) (Or.inl ⟨by rfl, ?hya3⟩) (by assumption) ?_
      case hya3 => (intro w hSw; (try dsimp only at hSw); go_simp <;> with_reducible rfl)
      try simp only [Act.put, List.setIfInBounds_toArray, List.set_cons_zero, List.set_cons_succ]
      refine takeD (i := 4) (d := some 19) (v := ?va4) rfl rfl (by kernel_rfl) (by kernel_rfl) (by kernel_rfl) (fun _ _ _ h => h) (Or.inl ⟨by rfl, ?hya4⟩) (by assumption) ?_
      case hya4 => (intro w hSw; (try dsimp only at hSw); go_simp <;> with_reducible rfl)
      try simp only [Act.put, List.setIfInBounds_toArray, List.set_cons_zero, List.set_cons_succ]
      refine takeD (i := 5) (d := some 20) (v := ?va5) rfl rfl (by kernel_rfl) (by kernel_rfl) (by kernel_rfl) (fun _ _ _ h => h) (Or.inl ⟨by rfl, ?hya5⟩) (by assumption) ?_
      case hya5 => (intro w hSw; (try dsimp only at hSw); go_simp <;> with_reducible rfl)
      try simp only [Act.put, List.setIfInBounds_toArray, List.set_cons_zero, List.set_cons_succ]
      refine takeD (i := 9) (d := some 24) (v := ?va9) rfl rfl (by kernel_rfl) (by kernel_rfl) (by kernel_rfl) (fun _ _ _ h => h) (Or.inl ⟨by rfl, ?hya9⟩) (by assumption) ?_
      case hya9 => (intro w hSw; (try dsimp only at hSw); go_simp <;> with_reducible rfl)
      try simp only [Act.put, List.setIfInBounds_toArray, List.set_cons_zero, List.set_cons_succ]
      refine takeD (i := 10) (d := some 25) (v := ?va10) rfl rfl (by kernel_rfl) (by kernel_rfl) (by kernel_rfl) (fun _ _ _ h => h) (Or.inl ⟨by rfl, ?hya10⟩) (by assumption) ?_
      case hya10 => (intro w hSw; (try dsimp only at hSw); go_simp <;> with_reducible rfl)
      try simp only [Act.put, List.setIfInBounds_toArray, List.set_cons_zero, List.set_cons_succ]
      refine takeD (i := 11) (d := some 26) (v := ?va11) rfl rfl (by kernel_rfl) (by kernel_rfl) (by kernel_rfl) (fun _ _ _ h => h) (Or.inl ⟨by rfl, ?hya11⟩) (by assumption) ?_
      case hya11 => (intro w hSw; (try dsimp only at hSw); go_simp <;> with_reducible rfl)
      try simp only [Act.put, List.setIfInBounds_toArray, List.set_cons_zero, List.set_cons_succ]
      refine takeD (i := 12) (d := some 27) (v := ?va12) rfl rfl (by kernel_rfl) (by kernel_rfl) (by kernel_rfl) (fun _ _ _ h => h) (Or.inl ⟨by rfl, ?hya12⟩) (by assumption) ?_
      case hya12 => (intro w hSw; (try dsimp only at hSw); go_simp <;> with_reducible rfl)
      try simp only [Act.put, List.setIfInBounds_toArray, List.set_cons_zero, List.set_cons_succ]
      refine takeD (i := 16) (d := some 31) (v := ?va16) rfl rfl (by kernel_rfl) (by kernel_rfl) (by kernel_rfl) (fun _ _ _ h => h) (Or.inl ⟨by rfl, ?hya16⟩) (by assumption) ?_
      case hya16 => (intro w hSw; (try dsimp only at hSw); go_simp <;> with_reducible rfl)
      try simp only [Act.put, List.setIfInBounds_toArray, List.set_cons_zero, List.set_cons_succ]
      refine takeD (i := 17) (d := some 32) (v := ?va17) rfl rfl (by kernel_rfl) (by kernel_rfl) (by kernel_rfl) (fun _ _ _ h => h) (Or.inl ⟨by rfl, ?hya17⟩) (by assumption) ?_
      case hya17 => (intro w hSw; (try dsimp only at hSw); go_simp <;> with_reducible rfl)
      try simp only [Act.put, List.setIfInBounds_toArray, List.set_cons_zero, List.set_cons_succ]
      refine takeD (i := 18) (d := some 33) (v := ?va18) rfl rfl (by kernel_rfl) (by kernel_rfl) (by kernel_rfl) (fun _ _ _ h => h) (Or.inl ⟨by rfl, ?hya18⟩) (by assumption) ?_
      case hya18 => (intro w hSw; (try dsimp only at hSw); go_simp <;> with_reducible rfl)
      try simp only [Act.put, List.setIfInBounds_toArray, List.set_cons_zero, List.set_cons_succ]
      refine takeD (i := 19) (d := some 34) (v := ?va19) rfl rfl (by kernel_rfl) (by kernel_rfl) (by kernel_rfl) (fun _ _ _ h => h) (Or.inl ⟨by rfl, ?hya19⟩) (by assumption) ?_
      case hya19 => (intro w hSw; (try dsimp only at hSw); go_simp <;> with_reducible rfl)
      try simp only [Act.put, List.setIfInBounds_toArray, List.set_cons_zero, List.set_cons_succ]
      refine takeD (i := 23) (d := some 38) (v := ?va23) rfl rfl (by kernel_rfl) (by kernel_rfl) (by kernel_rfl) (fun _ _ _ h => h) (Or.inl ⟨by rfl, ?hya23⟩) (by assumption) ?_
      case hya23 => (intro w hSw; (try dsimp only at hSw); go_simp <;> with_reducible rfl)
      try simp only [Act.put, List.setIfInBounds_toArray, List.set_cons_zero, List.set_cons_succ]
      refine takeD (i := 24) (d := some 39) (v := ?va24) rfl rfl (by kernel_rfl) (by kernel_rfl) (by kernel_rfl) (fun _ _ _ h => h) (Or.inl ⟨by rfl, ?hya24⟩) (by assumption) ?_
      case hya24 => (intro w hSw; (try dsimp only at hSw); go_simp <;> with_reducible rfl)
      try simp only [Act.put, List.setIfInBounds_toArray, List.set_cons_zero, List.set_cons_succ]
      refine takeD (i := 25) (d := some 40) (v := ?va25) rfl rfl (by kernel_rfl) (by kernel_rfl) (by kernel_rfl) (fun _ _ _ h => h) (Or.inl ⟨by rfl, ?hya25⟩) (by assumption) ?_
      case hya25 => (intro w hSw; (try dsimp only at hSw); go_simp <;> with_reducible rfl)
      try simp only [Act.put, List.setIfInBounds_toArray, List.set_cons_zero, List.set_cons_succ]
      refine takeD (i := 26) (d := some 41) (v := ?va26) rfl rfl (by kernel_rfl) (by kernel_rfl) (by kernel_rfl) (fun _ _ _ h => h) (Or.inl ⟨by rfl, ?hya26⟩) (by assumption) ?_
      case hya26 => (intro w hSw; (try dsimp only at hSw); go_simp <;> with_reducible rfl)
      try simp only [Act.put, List.setIfInBounds_toArray, List.set_cons_zero, List.set_cons_succ]
      refine takeD (i := 30) (d := some 45) (v := ?va30) rfl rfl (by kernel_rfl) (by kernel_rfl) (by kernel_rfl) (fun _ _ _ h => h) (Or.inl ⟨by rfl, ?hya30⟩) (by assumption) ?_
      case hya30 => (intro w hSw; (try dsimp only at hSw); go_simp <;> with_reducible rfl)
      try simp only [Act.put, List.setIfInBounds_toArray, List.set_cons_zero, List.set_cons_succ]
      refine takeD (i := 31) (d := some 46) (v := ?va31) rfl rfl (by kernel_rfl) (by kernel_rfl) (by kernel_rfl) (fun _ _ _ h => h) (Or.inl ⟨by rfl, ?hya31⟩) (by assumption) ?_
      case hya31 => (intro w hSw; (try dsimp only at hSw); go_simp <;> with_reducible rfl)
      try simp only [Act.put, List.setIfInBounds_toArray, List.set_cons_zero, List.set_cons_succ]
      refine takeD (i := 32) (d := some 47) (v := ?va32) rfl rfl (by kernel_rfl) (by kernel_rfl) (by kernel_rfl) (fun _ _ _ h => h) (Or.inl ⟨by rfl, ?hya32⟩) (by assumption) ?_
      case hya32 => (intro w hSw; (try dsimp only at hSw); go_simp <;> with_reducible rfl)
      try simp only [Act.put, List.setIfInBounds_toArray, List.set_cons_zero, List.set_cons_succ]
      refine takeD (i := 33) (d := some 48) (v := ?va33) rfl rfl (by kernel_rfl) (by kernel_rfl) (by kernel_rfl) (fun _ _ _ h => h) (Or.inl ⟨by rfl, ?hya33⟩) (by assumption) ?_
      case hya33 => (intro w hSw; (try dsimp only at hSw); go_simp <;> with_reducible rfl)
      try simp only [Act.put, List.setIfInBounds_toArray, List.set_cons_zero, List.set_cons_succ]
      refine takeD (i := 1) (d := some 16) (v := ?va1) rfl rfl (by kernel_rfl) (by kernel_rfl) (by kernel_rfl) (fun _ _ _ h => h) (Or.inl ⟨by rfl, ?hya1⟩) (by assumption) ?_
      case hya1 => (intro w hSw; (try dsimp only at hSw); go_simp; refine Eq.trans (if_neg (by omega)) ?_; with_reducible rfl)
      try simp only [Act.put, List.setIfInBounds_toArray, List.set_cons_zero, List.set_cons_succ]
      refine wpAnyH_ready (rs := [6]) (by kernel_rfl) (by simp) ?_
      refine (AllReadyH.cons rfl (fun K hK => ?_) AllReadyH.nil)
      rw [if_pos (by rfl)]
      go_simp
      refine Calls.mono (HD.out _ _ b0.1 b0.2) ?_
      rintro e wk1a ⟨rfl, hb1a⟩
      have hX1a : Below wr.heap.size wr wk1a := bl_then hX0a hb1a
      go_wp2_with fail
      refine hK.out _ _ (by assumption) (fun hHeld => ?_)
      clear hK K
      try simp only [Act.put, List.setIfInBounds_toArray, List.set_cons_zero, List.set_cons_succ]
      refine takeD (i := 7) (d := some 22) (v := ?va7) rfl rfl (by kernel_rfl) (by kernel_rfl) (by kernel_rfl) (fun _ _ _ h => h) (Or.inl ⟨by rfl, ?hya7⟩) (by assumption) ?_
      case hya7 => (intro w hSw; (try dsimp only at hSw); go_simp; refine Eq.trans (if_neg (by omega)) ?_; with_reducible rfl)
      try simp only [Act.put, List.setIfInBounds_toArray, List.set_cons_zero, List.set_cons_succ]
      refine takeD (i := 8) (d := some 23) (v := ?va8) rfl rfl (by kernel_rfl) (by kernel_rfl) (by kernel_rfl) (fun _ _ _ h => h) (Or.inl ⟨by rfl, ?hya8⟩) (by assumption) ?_
      case hya8 => (intro w hSw; (try dsimp only at hSw); go_simp; refine Eq.trans (if_neg (by omega)) ?_; with_reducible rfl)
      try simp only [Act.put, List.setIfInBounds_toArray, List.set_cons_zero, List.set_cons_succ]
      refine wpAnyH_ready (rs := [13]) (by kernel_rfl) (by simp) ?_
      refine (AllReadyH.cons rfl (fun K hK => ?_) AllReadyH.nil)
      rw [if_pos (by rfl)]
      go_simp
      refine Calls.mono (HD.out _ _ b1.1 b1.2) ?_
      rintro e wk2a ⟨rfl, hb2a⟩
      have hX2a : Below wr.heap.size wr wk2a := bl_then hX1a hb2a
      go_wp2_with fail
      refine hK.out _ _ (by assumption) (fun hHeld => ?_)
      clear hK K
      try simp only [Act.put, List.setIfInBounds_toArray, List.set_cons_zero, List.set_cons_succ]
      refine takeD (i := 14) (d := some 29) (v := ?va14) rfl rfl (by kernel_rfl) (by kernel_rfl) (by kernel_rfl) (fun _ _ _ h => h) (Or.inl ⟨by rfl, ?hya14⟩) (by assumption) ?_
      case hya14 => (intro w hSw; (try dsimp only at hSw); go_simp; refine Eq.trans (if_neg (by omega)) ?_; with_reducible rfl)
      try simp only [Act.put, List.setIfInBounds_toArray, List.set_cons_zero, List.set_cons_succ]
      refine takeD (i := 15) (d := some 30) (v := ?va15) rfl rfl (by kernel_rfl) (by kernel_rfl) (by kernel_rfl) (fun _ _ _ h => h) (Or.inl ⟨by rfl, ?hya15⟩) (by assumption) ?_
      case hya15 => (intro w hSw; (try dsimp only at hSw); go_simp; refine Eq.trans (if_neg (by omega)) ?_; with_reducible rfl)
      try simp only [Act.put, List.setIfInBounds_toArray, List.set_cons_zero, List.set_cons_succ]
      refine wpAnyH_ready (rs := [20]) (by kernel_rfl) (by simp) ?_
      refine (AllReadyH.cons rfl (fun K hK => ?_) AllReadyH.nil)
      rw [if_pos (by rfl)]
      go_simp
      refine Calls.mono (HD.out _ _ b2.1 b2.2) ?_
      rintro e wk3a ⟨rfl, hb3a⟩
      have hX3a : Below wr.heap.size wr wk3a := bl_then hX2a hb3a
      go_wp2_with fail
      refine hK.out _ _ (by assumption) (fun hHeld => ?_)
      clear hK K
      try simp only [Act.put, List.setIfInBounds_toArray, List.set_cons_zero, List.set_cons_succ]
      refine takeD (i := 21) (d := some 36) (v := ?va21) rfl rfl (by kernel_rfl) (by kernel_rfl) (by kernel_rfl) (fun _ _ _ h => h) (Or.inl ⟨by rfl, ?hya21⟩) (by assumption) ?_
      case hya21 => (intro w hSw; (try dsimp only at hSw); go_simp; refine Eq.trans (if_neg (by omega)) ?_; with_reducible rfl)
      try simp only [Act.put, List.setIfInBounds_toArray, List.set_cons_zero, List.set_cons_succ]
      refine takeD (i := 22) (d := some 37) (v := ?va22) rfl rfl (by kernel_rfl) (by kernel_rfl) (by kernel_rfl) (fun _ _ _ h => h) (Or.inl ⟨by rfl, ?hya22⟩) (by assumption) ?_
      case hya22 => (intro w hSw; (try dsimp only at hSw); go_simp; refine Eq.trans (if_neg (by omega)) ?_; with_reducible rfl)
      try simp only [Act.put, List.setIfInBounds_toArray, List.set_cons_zero, List.set_cons_succ]
      refine wpAnyH_ready (rs := [27]) (by kernel_rfl) (by simp) ?_
      refine (AllReadyH.cons rfl (fun K hK => ?_) AllReadyH.nil)
      rw [if_pos (by rfl)]
      go_simp
      refine Calls.mono (HD.out _ _ b3.1 b3.2) ?_
      rintro e wk4a ⟨rfl, hb4a⟩
      have hX4a : Below wr.heap.size wr wk4a := bl_then hX3a hb4a
      go_wp2_with fail
      refine hK.out _ _ (by assumption) (fun hHeld => ?_)
      clear hK K
      try simp only [Act.put, List.setIfInBounds_toArray, List.set_cons_zero, List.set_cons_succ]
      refine takeD (i := 28) (d := some 43) (v := ?va28) rfl rfl (by kernel_rfl) (by kernel_rfl) (by kernel_rfl) (fun _ _ _ h => h) (Or.inl ⟨by rfl, ?hya28⟩) (by assumption) ?_
      case hya28 => (intro w hSw; (try dsimp only at hSw); go_simp; refine Eq.trans (if_neg (by omega)) ?_; with_reducible rfl)
      try simp only [Act.put, List.setIfInBounds_toArray, List.set_cons_zero, List.set_cons_succ]
      refine takeD (i := 29) (d := some 44) (v := ?va29) rfl rfl (by kernel_rfl) (by kernel_rfl) (by kernel_rfl) (fun _ _ _ h => h) (Or.inl ⟨by rfl, ?hya29⟩) (by assumption) ?_
      case hya29 => (intro w hSw; (try dsimp only at hSw); go_simp; refine Eq.trans (if_neg (by omega)) ?_; with_reducible rfl)
      try simp only [Act.put, List.setIfInBounds_toArray, List.set_cons_zero, List.set_cons_succ]
      refine wpAnyH_ready (rs := [34]) (by kernel_rfl) (by simp) ?_
      refine (AllReadyH.cons rfl (fun K hK => ?_) AllReadyH.nil)
      rw [if_pos (by rfl)]
      go_simp
      refine Calls.mono (HD.out _ _ b4.1 b4.2) ?_
      rintro e wk5a ⟨rfl, hb5a⟩
      have hX5a : Below wr.heap.size wr wk5a := bl_then hX4a hb5a
      go_wp2_with fail
      refine hK.out _ _ (by assumption) (fun hHeld => ?_)
      clear hK K
      try simp only [Act.put, List.setIfInBounds_toArray, List.set_cons_zero, List.set_cons_succ]
      refine takeD (i := 35) (d := some 50) (v := ?va35) rfl rfl (by kernel_rfl) (by kernel_rfl) (by kernel_rfl) (fun _ _ _ h => h) (Or.inl ⟨by rfl, ?hya35⟩) (by assumption) ?_
      case hya35 => (intro w hSw; (try dsimp only at hSw); go_simp; refine Eq.trans (if_neg (by omega)) ?_; with_reducible rfl)
      try simp only [Act.put, List.setIfInBounds_toArray, List.set_cons_zero, List.set_cons_succ]
      refine takeD (i := 36) (d := some 51) (v := ?va36) rfl rfl (by kernel_rfl) (by kernel_rfl) (by kernel_rfl) (fun _ _ _ h => h) (Or.inl ⟨by rfl, ?hya36⟩) (by assumption) ?_
      case hya36 => (intro w hSw; (try dsimp only at hSw); go_simp; refine Eq.trans (if_neg (by omega)) ?_; with_reducible rfl)
      try simp only [Act.put, List.setIfInBounds_toArray, List.set_cons_zero, List.set_cons_succ]
      refine takeD (i := 37) (d := some 3) (v := ?va37) rfl rfl (by kernel_rfl) (by kernel_rfl) (by kernel_rfl) (fun _ _ _ h => h) (Or.inl ⟨by rfl, ?hya37⟩) (by assumption) ?_
      case hya37 => (intro w hSw; (try dsimp only at hSw); go_simp <;> with_reducible rfl)
      try simp only [Act.put, List.setIfInBounds_toArray, List.set_cons_zero, List.set_cons_succ]
      refine wpAnyH_done (by kernel_rfl) ?_ _
      refine NoPanic.normal ?_
      have HX : Hid (Below w.heap.size w wk5a) := bl_then HB.out hX5a
      clear hX0a hX1a hX2a hX3a hX4a hX5a hb1a hb2a hb3a hb4a hb5a
      go_wp2_with fail
      go_roundw
      case rel => exact ⟨k + 1, by simp, by rw [← HT.out]; rfl, by omega, HX.out⟩
      case measure => simp [intOf]; omega
    · obtain rfl : k = n := by omega
      have hne : ¬ (k : Int) < (k : Int) := by omega
      by_cases h0 : k = 0
      · subst h0
        have e0 : lbsT E 0 = ⟨#[]⟩ := rfl
        rw [e0]
        clear zt
        go_wp2_with fail
        go_ret
        exact ⟨rfl, HB.out⟩
      · have hz : 0 < (lbsT E k).size := by have := (lbsT_size (E := E) (n := k) HO.out).1; omega
        have he : (lbsT E k).toList.isEmpty = false := strL_ne hz
        have HV : Hid ((if k = 0 then ltNo else lbsT E k) = lbsT E k) := if_neg h0
        go_wp2_with fail
        go_ret
        first
          | exact ⟨rfl, HB.out⟩
          | exact ⟨by rw [HV.out], HB.out⟩
set_option maxHeartbeats 16000000 in
theorem spec_LabelsText_any (a : Option Addr) (n cap : Nat) (E : Nat → Plc) (w : World) (hp : IsLb w a n E) (hn : n ≤ 1048576) :
    Calls Tryd.prog 5 #[.slice a n cap] w fun e w' => e = .returned (.agg #[.int .i64 (lblC n E), .string (lblT n E)]) ∧ Below w.heap.size w w' := by
  obtain ⟨C, hC⟩ : ∃ C, lblC n E = C := ⟨_, rfl⟩
  obtain ⟨TT, hTT⟩ : ∃ TT, lblT n E = TT := ⟨_, rfl⟩
  have HC : Hid (lblC n E = C) := hC
  have HT : Hid (lblT n E = TT) := hTT
  rw [hC, hTT]
  have HP : Hid (IsLb w a n E) := hp
  clear hp hC hTT
  go_enter Tryd.func5, Tryd.ntmps5
  go_upto_region 1 with fail
  generalize hW : (w.alloc _ : World) = W
  have HB0 : Hid (Below w.heap.size w W) := by show Below _ _ _; subst hW; (repeat (first | exact Below.refl _ _ | assumption | refine Below.drew ?_ | refine bl_alloc ?_ _ | refine bl_then ?_ (by assumption) | refine Below.setCell ?_ (by first | omega | (simp; done) | (simp; omega)) _ | refine bl_store ?_ ?_ _ _))
  have HR : Hid (∀ W', Below W.heap.size W W' → W'.cell? ⟨w.heap.size, 0, none⟩ = some (.int .i64 0) ∧ W'.cell? ⟨w.heap.size, 1, none⟩ = some (.string ⟨#[]⟩) ∧ W'.frozen? ⟨w.heap.size, 0, none⟩ = false ∧ W'.frozen? ⟨w.heap.size, 1, none⟩ = false) := fun W' h => by
    rw [h.cell (by subst hW; simp), h.cell (by subst hW; simp), h.frozen (by subst hW; simp), h.frozen (by subst hW; simp)]
    subst hW
    simp [go_sem]
  have hfin : ∀ W' W'', Below W.heap.size W W' → W'' = (W'.setCell ⟨w.heap.size, 0, none⟩ (.int .i64 C)).setCell ⟨w.heap.size, 1, none⟩ (.string TT) → Below w.heap.size w W'' := fun W' W'' h e => by
    subst e
    exact ((HB0.out.trans (h.mono HB0.out.size)).setCell (Nat.le_refl _) _).setCell (Nat.le_refl _) _
  have HFin := (show Hid _ from hfin)
  have hWl : w.heap.size ≤ W.heap.size := HB0.out.size
  clear hW hfin
  have HPW : Hid (∀ W', Below W.heap.size W W' → IsLb W' a n E) := fun W' h => HP.out.below (HB0.out.trans (h.mono HB0.out.size))
  by_cases h12 : 12 < n
  · have h12i : (12 : Int) < (n : Int) := by omega
    obtain rfl : C = 2 := by rw [← HC.out]; unfold lblC; rw [if_pos h12]
    obtain rfl : TT = ⟨#[]⟩ := by rw [← HT.out]; unfold lblT; rw [if_pos h12]
    obtain ⟨u0, u1, v0, v1⟩ := HR.out W (Below.refl _ _)
    go_wp2_with fail
    refine bodyPost_ret (v := .agg #[.int .i64 2, .string ⟨#[]⟩]) (by simp [results, Tryd.results5, go_sem, *]) rfl ⟨rfl, ?_⟩
    exact HFin.out W _ (Below.refl _ _) rfl
  have h12i : ¬ (12 : Int) < (n : Int) := by omega
  have HC2 : Hid (C = if allL E n = true then 0 else 3) := by show _ = _; rw [← HC.out]; unfold lblC; rw [if_neg h12]
  have HT2 : Hid (TT = if allL E n = true then (if n = 0 then ltNo else lbsT E n) else ⟨#[]⟩) := by show _ = _; rw [← HT.out]; unfold lblT; rw [if_neg h12]
  clear HC HT HP
  have HI : Hid (∀ (v lo hi : Int) (r : Bool) (W : World), inB v lo hi = r → Calls Tryd.prog 10 #[.int .i64 v, .int .i64 lo, .int .i64 hi] W fun e w' => e = .returned (.bool r) ∧ Below W.heap.size W w') := fun v lo hi r W hr => by
    rw [← hr]
    exact (l1In_any v lo hi W).mono fun e w' ⟨h1, h2⟩ => ⟨h1, by rw [h2]; exact Below.refl _ _⟩
  go_wp2_with fail
  go_loopw [3] (fun i wr => ∃ k : Nat, i = .int .i64 (k : Int) ∧ k ≤ n ∧ (∀ j, j < k → okL (E j) = true) ∧ Below W.heap.size W wr) (fun i _ => n - (intOf i).toNat)
  case atStart => exact ⟨0, rfl, Nat.zero_le _, fun j hj => absurd hj (Nat.not_lt_zero _), Below.refl _ _⟩
  case round =>
    obtain ⟨k, rfl, hkn, hz, hB⟩ := hrel
    have HB : Hid (Below W.heap.size W wr) := hB
    have HZ : Hid (∀ j, j < k → okL (E j) = true) := hz
    clear hB hz
    by_cases hk : k < n
    · have hki : (k : Int) < (n : Int) := by omega
      have hki0 : (0 : Int) ≤ (k : Int) := by omega
      obtain ⟨b, off, rfl, hbl, hp⟩ := plc_get (HPW.out _ HB.out) hk
      have hokE : okL (E k) = (inB (E k).id 1 999 && (inB (E k).a 0 9999 && (inB (E k).b 0 9999 && (inB (E k).c 0 9999 && inB (E k).d 0 9999)))) := rfl
      have HNo : Hid (okL (E k) = false → C = 3 ∧ TT = ⟨#[]⟩) := fun h => by
        rw [HC2.out, HT2.out, if_neg (by rw [allL_false hk h]; simp), if_neg (by rw [allL_false hk h]; simp)]
        exact ⟨rfl, rfl⟩
      have HYes : Hid (okL (E k) = true → ∀ j, j < k + 1 → okL (E j) = true) := fun h j hj => by
        by_cases e : j = k
        · rw [e]; exact h
        · exact HZ.out j (by omega)
      obtain ⟨g0, g1, g2, g3, g4⟩ := hp
      generalize okL (E k) = ok at *
      have HOK := (show Hid _ from hokE)
      clear hokE
      generalize (E k).id = id at *
      generalize (E k).a = xa at *
      generalize (E k).b = xb at *
      generalize (E k).c = xc at *
      generalize (E k).d = xd at *
      have p0 : ∀ W', Below wr.heap.size wr W' → W'.cell? ⟨b, off + k * 5, none⟩ = some (.int .i64 id) := fun W' h => (h.cell (p := ⟨b, off + k * 5, none⟩) hbl).trans g0
      have p1 : ∀ W', Below wr.heap.size wr W' → W'.cell? ⟨b, off + k * 5 + 1, none⟩ = some (.int .i64 xa) := fun W' h => (h.cell (p := ⟨b, off + k * 5 + 1, none⟩) hbl).trans g1
      have p2 : ∀ W', Below wr.heap.size wr W' → W'.cell? ⟨b, off + k * 5 + 2, none⟩ = some (.int .i64 xb) := fun W' h => (h.cell (p := ⟨b, off + k * 5 + 2, none⟩) hbl).trans g2
      have p3 : ∀ W', Below wr.heap.size wr W' → W'.cell? ⟨b, off + k * 5 + 3, none⟩ = some (.int .i64 xc) := fun W' h => (h.cell (p := ⟨b, off + k * 5 + 3, none⟩) hbl).trans g3
      have p4 : ∀ W', Below wr.heap.size wr W' → W'.cell? ⟨b, off + k * 5 + 4, none⟩ = some (.int .i64 xd) := fun W' h => (h.cell (p := ⟨b, off + k * 5 + 4, none⟩) hbl).trans g4
      have q0 := p0 wr (Below.refl _ _)
      clear g0 g1 g2 g3 g4 p0
      cases f0 : inB id 1 999
      case false =>
        go_wp2_with fail
        refine Calls.mono (HI.out _ _ _ false _ f0) ?_
        rintro e y0 ⟨rfl, hb0⟩
        have HX0 : Hid (Below W.heap.size W y0) := bl_then HB.out hb0
        have hy0 : Below wr.heap.size wr y0 := hb0
        clear hb0
        clear hy0
        obtain ⟨hc3, ht3⟩ := HNo.out (by rw [HOK.out]; simp [f0])
        subst hc3 ht3
        obtain ⟨u0, u1, v0, v1⟩ := HR.out _ HX0.out
        go_wp2_with fail
        refine bodyPost_ret (v := .agg #[.int .i64 3, .string ⟨#[]⟩]) (by simp [results, Tryd.results5, go_sem, *]) rfl ⟨rfl, ?_⟩
        exact HFin.out _ _ HX0.out rfl
      case true =>
        cases f1 : inB xa 0 9999
        case false =>
          go_wp2_with fail
          refine Calls.mono (HI.out _ _ _ true _ f0) ?_
          rintro e y0 ⟨rfl, hb0⟩
          have HX0 : Hid (Below W.heap.size W y0) := bl_then HB.out hb0
          have hy0 : Below wr.heap.size wr y0 := hb0
          have q1 := p1 y0 hy0
          clear hb0
          go_wp2_with fail
          refine Calls.mono (HI.out _ _ _ false _ f1) ?_
          rintro e y1 ⟨rfl, hb1⟩
          have HX1 : Hid (Below W.heap.size W y1) := bl_then HX0.out hb1
          have hy1 : Below wr.heap.size wr y1 := bl_then hy0 hb1
          clear hb1
          clear hy0 hy1
          obtain ⟨hc3, ht3⟩ := HNo.out (by rw [HOK.out]; simp [f0, f1])
          subst hc3 ht3
          obtain ⟨u0, u1, v0, v1⟩ := HR.out _ HX1.out
          go_wp2_with fail
          refine bodyPost_ret (v := .agg #[.int .i64 3, .string ⟨#[]⟩]) (by simp [results, Tryd.results5, go_sem, *]) rfl ⟨rfl, ?_⟩
          exact HFin.out _ _ HX1.out rfl
        case true =>
          cases f2 : inB xb 0 9999
          case false =>
            go_wp2_with fail
            refine Calls.mono (HI.out _ _ _ true _ f0) ?_
            rintro e y0 ⟨rfl, hb0⟩
            have HX0 : Hid (Below W.heap.size W y0) := bl_then HB.out hb0
            have hy0 : Below wr.heap.size wr y0 := hb0
            have q1 := p1 y0 hy0
            clear hb0
            go_wp2_with fail
            refine Calls.mono (HI.out _ _ _ true _ f1) ?_
            rintro e y1 ⟨rfl, hb1⟩
            have HX1 : Hid (Below W.heap.size W y1) := bl_then HX0.out hb1
            have hy1 : Below wr.heap.size wr y1 := bl_then hy0 hb1
            have q2 := p2 y1 hy1
            clear hb1
            go_wp2_with fail
            refine Calls.mono (HI.out _ _ _ false _ f2) ?_
            rintro e y2 ⟨rfl, hb2⟩
            have HX2 : Hid (Below W.heap.size W y2) := bl_then HX1.out hb2
            have hy2 : Below wr.heap.size wr y2 := bl_then hy1 hb2
            clear hb2
            clear hy0 hy1 hy2
            obtain ⟨hc3, ht3⟩ := HNo.out (by rw [HOK.out]; simp [f0, f1, f2])
            subst hc3 ht3
            obtain ⟨u0, u1, v0, v1⟩ := HR.out _ HX2.out
            go_wp2_with fail
            refine bodyPost_ret (v := .agg #[.int .i64 3, .string ⟨#[]⟩]) (by simp [results, Tryd.results5, go_sem, *]) rfl ⟨rfl, ?_⟩
            exact HFin.out _ _ HX2.out rfl
          case true =>
            cases f3 : inB xc 0 9999
            case false =>
              go_wp2_with fail
              refine Calls.mono (HI.out _ _ _ true _ f0) ?_
              rintro e y0 ⟨rfl, hb0⟩
              have HX0 : Hid (Below W.heap.size W y0) := bl_then HB.out hb0
              have hy0 : Below wr.heap.size wr y0 := hb0
              have q1 := p1 y0 hy0
              clear hb0
              go_wp2_with fail
              refine Calls.mono (HI.out _ _ _ true _ f1) ?_
              rintro e y1 ⟨rfl, hb1⟩
              have HX1 : Hid (Below W.heap.size W y1) := bl_then HX0.out hb1
              have hy1 : Below wr.heap.size wr y1 := bl_then hy0 hb1
              have q2 := p2 y1 hy1
              clear hb1
              go_wp2_with fail
              refine Calls.mono (HI.out _ _ _ true _ f2) ?_
              rintro e y2 ⟨rfl, hb2⟩
              have HX2 : Hid (Below W.heap.size W y2) := bl_then HX1.out hb2
              have hy2 : Below wr.heap.size wr y2 := bl_then hy1 hb2
              have q3 := p3 y2 hy2
              clear hb2
              go_wp2_with fail
              refine Calls.mono (HI.out _ _ _ false _ f3) ?_
              rintro e y3 ⟨rfl, hb3⟩
              have HX3 : Hid (Below W.heap.size W y3) := bl_then HX2.out hb3
              have hy3 : Below wr.heap.size wr y3 := bl_then hy2 hb3
              clear hb3
              clear hy0 hy1 hy2 hy3
              obtain ⟨hc3, ht3⟩ := HNo.out (by rw [HOK.out]; simp [f0, f1, f2, f3])
              subst hc3 ht3
              obtain ⟨u0, u1, v0, v1⟩ := HR.out _ HX3.out
              go_wp2_with fail
              refine bodyPost_ret (v := .agg #[.int .i64 3, .string ⟨#[]⟩]) (by simp [results, Tryd.results5, go_sem, *]) rfl ⟨rfl, ?_⟩
              exact HFin.out _ _ HX3.out rfl
            case true =>
              cases f4 : inB xd 0 9999
              case false =>
                go_wp2_with fail
                refine Calls.mono (HI.out _ _ _ true _ f0) ?_
                rintro e y0 ⟨rfl, hb0⟩
                have HX0 : Hid (Below W.heap.size W y0) := bl_then HB.out hb0
                have hy0 : Below wr.heap.size wr y0 := hb0
                have q1 := p1 y0 hy0
                clear hb0
                go_wp2_with fail
                refine Calls.mono (HI.out _ _ _ true _ f1) ?_
                rintro e y1 ⟨rfl, hb1⟩
                have HX1 : Hid (Below W.heap.size W y1) := bl_then HX0.out hb1
                have hy1 : Below wr.heap.size wr y1 := bl_then hy0 hb1
                have q2 := p2 y1 hy1
                clear hb1
                go_wp2_with fail
                refine Calls.mono (HI.out _ _ _ true _ f2) ?_
                rintro e y2 ⟨rfl, hb2⟩
                have HX2 : Hid (Below W.heap.size W y2) := bl_then HX1.out hb2
                have hy2 : Below wr.heap.size wr y2 := bl_then hy1 hb2
                have q3 := p3 y2 hy2
                clear hb2
                go_wp2_with fail
                refine Calls.mono (HI.out _ _ _ true _ f3) ?_
                rintro e y3 ⟨rfl, hb3⟩
                have HX3 : Hid (Below W.heap.size W y3) := bl_then HX2.out hb3
                have hy3 : Below wr.heap.size wr y3 := bl_then hy2 hb3
                have q4 := p4 y3 hy3
                clear hb3
                go_wp2_with fail
                refine Calls.mono (HI.out _ _ _ false _ f4) ?_
                rintro e y4 ⟨rfl, hb4⟩
                have HX4 : Hid (Below W.heap.size W y4) := bl_then HX3.out hb4
                have hy4 : Below wr.heap.size wr y4 := bl_then hy3 hb4
                clear hb4
                clear hy0 hy1 hy2 hy3 hy4
                obtain ⟨hc3, ht3⟩ := HNo.out (by rw [HOK.out]; simp [f0, f1, f2, f3, f4])
                subst hc3 ht3
                obtain ⟨u0, u1, v0, v1⟩ := HR.out _ HX4.out
                go_wp2_with fail
                refine bodyPost_ret (v := .agg #[.int .i64 3, .string ⟨#[]⟩]) (by simp [results, Tryd.results5, go_sem, *]) rfl ⟨rfl, ?_⟩
                exact HFin.out _ _ HX4.out rfl
              case true =>
                go_wp2_with fail
                refine Calls.mono (HI.out _ _ _ true _ f0) ?_
                rintro e y0 ⟨rfl, hb0⟩
                have HX0 : Hid (Below W.heap.size W y0) := bl_then HB.out hb0
                have hy0 : Below wr.heap.size wr y0 := hb0
                have q1 := p1 y0 hy0
                clear hb0
                go_wp2_with fail
                refine Calls.mono (HI.out _ _ _ true _ f1) ?_
                rintro e y1 ⟨rfl, hb1⟩
                have HX1 : Hid (Below W.heap.size W y1) := bl_then HX0.out hb1
                have hy1 : Below wr.heap.size wr y1 := bl_then hy0 hb1
                have q2 := p2 y1 hy1
                clear hb1
                go_wp2_with fail
                refine Calls.mono (HI.out _ _ _ true _ f2) ?_
                rintro e y2 ⟨rfl, hb2⟩
                have HX2 : Hid (Below W.heap.size W y2) := bl_then HX1.out hb2
                have hy2 : Below wr.heap.size wr y2 := bl_then hy1 hb2
                have q3 := p3 y2 hy2
                clear hb2
                go_wp2_with fail
                refine Calls.mono (HI.out _ _ _ true _ f3) ?_
                rintro e y3 ⟨rfl, hb3⟩
                have HX3 : Hid (Below W.heap.size W y3) := bl_then HX2.out hb3
                have hy3 : Below wr.heap.size wr y3 := bl_then hy2 hb3
                have q4 := p4 y3 hy3
                clear hb3
                go_wp2_with fail
                refine Calls.mono (HI.out _ _ _ true _ f4) ?_
                rintro e y4 ⟨rfl, hb4⟩
                have HX4 : Hid (Below W.heap.size W y4) := bl_then HX3.out hb4
                have hy4 : Below wr.heap.size wr y4 := bl_then hy3 hb4
                clear hb4
                clear hy0 hy1 hy2 hy3 hy4
                have hok : ok = true := by rw [HOK.out]; simp [f0, f1, f2, f3, f4]
                have HY2 := (show Hid _ from HYes.out hok)
                clear hok
                go_wp2_with fail
                exact ⟨⟨k + 1, by simp, by omega, HY2.out, HX4.out⟩, by simp [intOf]; omega⟩
    · obtain rfl : k = n := by omega
      have hne : ¬ (k : Int) < (k : Int) := by omega
      have hall := allL_true HZ.out
      obtain rfl : C = 0 := by rw [HC2.out, if_pos hall]
      have HTe : Hid (TT = if k = 0 then ltNo else lbsT E k) := by show _ = _; rw [HT2.out, if_pos hall]
      have HL := (show Hid _ from l16Labels_any a k cap E wr (HPW.out _ HB.out) (by omega) HZ.out)
      go_wp2_with fail
      refine Calls.mono HL.out ?_
      rintro e w2 ⟨rfl, hb2⟩
      rw [← HTe.out]
      have HX : Hid (Below W.heap.size W w2) := bl_then HB.out hb2
      obtain ⟨u0, u1, v0, v1⟩ := HR.out _ HX.out
      clear hb2
      go_wp2_with fail
      refine bodyPost_ret (v := .agg #[.int .i64 0, .string TT]) (by simp [results, Tryd.results5, go_sem, *]) rfl ⟨rfl, ?_⟩
      exact HFin.out _ _ HX.out rfl
end Go.Proofs.YtbijdoddalfedaaDoor
