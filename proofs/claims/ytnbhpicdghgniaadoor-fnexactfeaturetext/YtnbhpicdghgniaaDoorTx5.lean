/- The words of a feature, joined, are its text (no program). -/
import Derived.Test.YtnbhpicdghgniaaDoorTx3
import Derived.Lib.Join
namespace Go.Proofs.YtnbhpicdghgniaaDoor
set_option linter.unusedSimpArgs false
set_option linter.unusedVariables false

/-- The words of the points. -/
def ptW (X Y : Nat → Int) (k : Nat) : ByteArray := digB (X k) ++ coB ++ digB (Y k)
def wordsT (id la : Int) (kk : Nat) (wi pr : Int) (lab : ByteArray) (X Y : Nat → Int) (k : Nat) : List ByteArray :=
  [digB id, digB la, kindT kk, digB wi, digB pr, ⟨#[45]⟩ ++ lab] ++ (List.range k).map (ptW X Y)

theorem join_snoc (x : List UInt8) (r : List (List UInt8)) (sep y : List UInt8) : Go.Lib.join ((x :: r) ++ [y]) sep = Go.Lib.join (x :: r) sep ++ sep ++ y := by
  rw [List.cons_append, Go.Lib.join_cons, Go.Lib.join_cons]
  unfold Go.Lib.joinTail
  simp

theorem wordsT_succ (id la : Int) (kk : Nat) (wi pr : Int) (lab : ByteArray) (X Y : Nat → Int) (k : Nat) : wordsT id la kk wi pr lab X Y (k + 1) = wordsT id la kk wi pr lab X Y k ++ [ptW X Y k] := by
  unfold wordsT
  rw [List.range_succ, List.map_append, ← List.append_assoc]
  rfl
theorem wordsT_len (id la : Int) (kk : Nat) (wi pr : Int) (lab : ByteArray) (X Y : Nat → Int) (k : Nat) : (wordsT id la kk wi pr lab X Y k).length = 6 + k := by
  simp [wordsT]
  omega

theorem join_words (id la : Int) (kk : Nat) (wi pr : Int) (lab : ByteArray) (X Y : Nat → Int) : ∀ k, Go.Lib.join ((wordsT id la kk wi pr lab X Y k).map (·.data.toList)) [32] = (ptsT X Y (headT id la kk wi pr lab) k).data.toList
  | 0 => by
    simp [wordsT, Go.Lib.join_cons, Go.Lib.joinTail, ptsT, headT, spB, daB]
  | k + 1 => by
    have h := join_words id la kk wi pr lab X Y k
    rw [wordsT_succ, List.map_append]
    have e : (wordsT id la kk wi pr lab X Y k).map (·.data.toList) = (digB id).data.toList :: ((wordsT id la kk wi pr lab X Y k).tail.map (·.data.toList)) := by
      simp [wordsT]
    rw [e] at h ⊢
    rw [List.map_cons, List.map_nil, join_snoc, h]
    simp [ptsT, ptW, spB, coB]
end Go.Proofs.YtnbhpicdghgniaaDoor
