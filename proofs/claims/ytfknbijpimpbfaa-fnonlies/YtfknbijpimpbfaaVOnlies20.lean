/- Several texts in one. -/
import Derived.Test.YtfknbijpimpbfaaVOnlies19
import Derived.Test.YtfknbijpimpbfaaVOnlies18
import Derived.Deep.DeepCutAuto

/- Requests without the one of a ref: the program and the model. -/

namespace Go.Proofs.Ytfknbijpimpbfaa
open Go.RowKit
set_option linter.unusedSimpArgs false
set_option linter.unusedVariables false
set_option maxRecDepth 100000

/-- Two requests are the same. -/
def eqR (e f : Req) : Bool := isR e f.z f.x f.y && ((e.du == f.du) && (e.tr == f.tr))
theorem eqR_self (e : Req) : eqR e e = true := by simp [eqR, isR]
theorem reqs_apart {n : Nat} {E : Nat → Req} (h : reqsC n E = 0) {i j : Nat} (hi : i < j) (hj : j < n) : isR (E i) (E j).z (E j).x (E j).y = false := by
  have h8 := reqsC_le h
  unfold reqsC at h
  rw [if_neg (by omega)] at h
  have h0 := scan_zero (rCode E) n 0 h j (by omega) (by omega)
  unfold rCode at h0
  by_cases hb : reqB (E j) = true
  · rw [if_pos hb] at h0
    by_cases ha : 0 ≤ atW j E (E j).z (E j).x (E j).y
    · rw [if_pos ha] at h0; cases h0
    · rcases firstI_or (fun i => isR (E i) (E j).z (E j).x (E j).y) j with ⟨_, hn⟩ | ⟨k, _, _, hf, _⟩
      · exact hn i hi
      · exact absurd (by unfold atW; rw [hf]; omega) ha
  · rw [if_neg hb] at h0; cases h0
theorem isR_sym (e f : Req) : isR e f.z f.x f.y = isR f e.z e.x e.y := by
  unfold isR
  rw [Bool.eq_iff_iff]
  simp
  constructor <;> (rintro ⟨h1, h2, h3⟩; exact ⟨h1.symm, h2.symm, h3.symm⟩)
theorem gone_is {n p : Nat} {E : Nat → Req} (h : reqsC n E = 0) (hp : p < n) {j : Nat} (hj : j < n) : (!eqR (E j) (E p)) = decide (j ≠ p) := by
  by_cases e : j = p
  · subst e; simp [eqR_self]
  · have hz : isR (E j) (E p).z (E p).x (E p).y = false := by
      rcases Nat.lt_or_gt_of_ne e with h1 | h1
      · exact reqs_apart h h1 hp
      · rw [isR_sym]; exact reqs_apart h h1 hj
    simp [eqR, hz, e]
theorem keptL_congr {G G' : Nat → Bool} {E : Nat → Req} : ∀ n, (∀ j, j < n → G j = G' j) → keptL G E n = keptL G' E n
  | 0, _ => rfl
  | n + 1, h => by rw [keptL, keptL, keptL_congr n (fun j hj => h j (by omega)), h n (by omega)]
/-- All but the one at a place. -/
def lessL (p n : Nat) (E : Nat → Req) : List Req := keptL (fun j => decide (j ≠ p)) E n
theorem keptL_all {G : Nat → Bool} {E : Nat → Req} : ∀ n, (∀ j, j < n → G j = true) → keptL G E n = listW n E
  | 0, _ => rfl
  | n + 1, h => by rw [keptL_yes (h n (by omega)), keptL_all n (fun j hj => h j (by omega)), listW_succ]
theorem lessL_eq (p : Nat) (E : Nat → Req) : ∀ k, lessL p (p + 1 + k) E = listW p E ++ listW k (fun i => E (p + 1 + i))
  | 0 => by
    unfold lessL
    rw [Nat.add_zero, keptL_no (by simp), keptL_all p (fun j hj => by simp; omega)]
    simp [listW]
  | k + 1 => by
    have h := lessL_eq p E k
    unfold lessL at h ⊢
    rw [← Nat.add_assoc, keptL_yes (by simp; omega), h, listW_succ, List.append_assoc]
/-- What DropRequest tells. -/
def dropC (n : Nat) (E : Nat → Req) (z x y : Int) : Int := if reqsC n E = 0 then (if 0 ≤ atW n E z x y then 0 else 4) else reqsC n E
def dropL (n : Nat) (E : Nat → Req) (z x y : Int) : List Req := if reqsC n E = 0 then (if 0 ≤ atW n E z x y then lessL (atW n E z x y).toNat n E else []) else []
theorem equalIn_req (n : Nat) (e f : Req) (w : World) : (Op.equalIn (n + 3) 37 (reqV e) (reqV f)).run Try.prog w = .ok (eqR e f) w := by
  have hr := fun (a b c a' b' c' : Int) (w : World) => equalIn_ref n a b c a' b' c' w
  have hp0 : ∀ (a b c d e : Int) (w : World), (part 35 #[.int .i64 a, .int .i64 b, .int .i64 c, .int .i64 d, .int .i64 e] 0).run Try.prog w = .ok (.agg #[.int .i64 a, .int .i64 b, .int .i64 c]) w := fun _ _ _ _ _ _ => by kernel_rfl
  have hp3 : ∀ (a b c d e : Int) (w : World), (part 2 #[.int .i64 a, .int .i64 b, .int .i64 c, .int .i64 d, .int .i64 e] 3).run Try.prog w = .ok (.int .i64 d) w := fun _ _ _ _ _ _ => by kernel_rfl
  have hp4 : ∀ (a b c d e : Int) (w : World), (part 2 #[.int .i64 a, .int .i64 b, .int .i64 c, .int .i64 d, .int .i64 e] 4).run Try.prog w = .ok (.int .i64 e) w := fun _ _ _ _ _ _ => by kernel_rfl
  have hi := fun (a b : Int) (w : World) => run_equalIn_int (P := Try.prog) w (n + 1) 2 .i64 .i64 a b Try.underlying2
  rw [run_equalIn_struct w (n + 2) 37 _ _ (by kernel_rfl) (by kernel_rfl)]
  simp [Op.eqFields, Program.fieldsOf, Try.underlying37, hp0, hp3, hp4, hi, hr]
  unfold eqR isR
  by_cases h1 : e.z = f.z <;> by_cases h2 : e.x = f.x <;> by_cases h3 : e.y = f.y <;> by_cases h4 : e.du = f.du <;> by_cases h5 : e.tr = f.tr <;> simp [h1, h2, h3, h4, h5]
theorem neq_req (e f : Req) (w : World) : (binOp .neq 37 (reqV e) (reqV f)).run Try.prog w = .ok (.bool (!eqR e f)) w := by
  rw [run_neq_struct, equalIn_req 9997]
  rfl
end Go.Proofs.Ytfknbijpimpbfaa
/- Answers in rows are of their own. -/

namespace Go.Proofs.Ytfknbijpimpbfaa
open Go.RowKit
set_option linter.unusedSimpArgs false
set_option linter.unusedVariables false
set_option maxRecDepth 100000

theorem RowS.ans {base : Nat} {w : World} {v1 v2 : Value} {s l : List Req} (h1 : RowS base w v1 s) (h2 : RowW base w v2 l) : OwA base s.length (rfsOf s) l.length (nw l) w v1 v2 :=
  ⟨h1.own, h2.own, fun p c p' c' e1 e2 => rows_apart h1 h2 (by decide) p _ c p' _ c' e1 e2⟩
end Go.Proofs.Ytfknbijpimpbfaa
/- DropRequest: the program and the model. -/

namespace Go.Proofs.Ytfknbijpimpbfaa
open Go.RowKit
set_option linter.unusedSimpArgs false
set_option linter.unusedVariables false
set_option maxRecDepth 100000

/-- The cells of a request. -/
theorem ReqAt.up {w w' : World} {p o : Nat} {e : Req} (h : ReqAt w p o e) (hb : Below w.heap.size w w') : ReqAt w' p o e := h.below hb (World.block_lt_of_cell? _ _ h.1)
theorem drop_bad {n : Nat} {E : Nat → Req} {z x y : Int} (h : reqsC n E ≠ 0) : dropC n E z x y = reqsC n E ∧ dropL n E z x y = [] := by
  unfold dropC dropL
  rw [if_neg h, if_neg h]
  exact ⟨rfl, rfl⟩
theorem drop_none {n : Nat} {E : Nat → Req} {z x y : Int} (h : reqsC n E = 0) (h2 : ¬ 0 ≤ atW n E z x y) : dropC n E z x y = 4 ∧ dropL n E z x y = [] := by
  unfold dropC dropL
  rw [if_pos h, if_pos h, if_neg h2, if_neg h2]
  exact ⟨rfl, rfl⟩
theorem drop_at {n p : Nat} {E : Nat → Req} {z x y : Int} (h : reqsC n E = 0) (h2 : atW n E z x y = (p : Int)) : dropC n E z x y = 0 ∧ dropL n E z x y = lessL p n E := by
  unfold dropC dropL
  have h3 : 0 ≤ atW n E z x y := by omega
  rw [if_pos h, if_pos h, if_pos h3, if_pos h3, h2]
  exact ⟨rfl, by simp⟩
theorem OwnW.wide {w : World} {base B : Nat} {v : Value} {n : Nat} {E : Nat → Req} (h : OwnW w base v n E) (hB : B ≤ base) : OwnW w B v n E := by
  obtain ⟨a, cap, hv, hc, h0 | ⟨b, ha, hbb, hr⟩⟩ := h
  · exact ⟨a, cap, hv, hc, .inl h0⟩
  · exact ⟨a, cap, hv, hc, .inr ⟨b, ha, by omega, hr⟩⟩
theorem OwnW.set3 {base B r : Nat} {w : World} {v a b c : Value} {n : Nat} {E : Nat → Req} (h : OwnW w B v n E) (hr : r < B) (hB : base ≤ B) : OwnW (((w.setCell ⟨r, 0, none⟩ a).setCell ⟨r, 1, none⟩ b).setCell ⟨r, 2, none⟩ c) base v n E :=
  (h.mid ((((MidB.refl r (r + 1) w).set (Nat.le_refl _) (Nat.lt_succ_self _) 0 a).set (Nat.le_refl _) (Nat.lt_succ_self _) 1 b).set (Nat.le_refl _) (Nat.lt_succ_self _) 2 c) hr).wide hB
/-- An answer without refs that were sent. -/
theorem OwnW.ans {base : Nat} {w : World} {v : Value} {n : Nat} {E : Nat → Req} (h : OwnW w base v n E) : OwA base ([] : List Req).length (rfsOf []) n E w (.slice none 0 0) v :=
  ⟨⟨none, 0, rfl, Nat.le_refl _, .inl rfl⟩, h, fun p c p' c' e => by cases e⟩
end Go.Proofs.Ytfknbijpimpbfaa
