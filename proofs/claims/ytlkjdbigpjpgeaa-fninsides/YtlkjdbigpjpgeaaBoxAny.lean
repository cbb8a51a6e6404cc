/- BoxOf at every list of points: the model and the program answer the same. -/
import Derived.Test.YtlkjdbigpjpgeaaBoxImpl2
namespace Go.Proofs.Ytlkjdbigpjpgeaa
open Go.RowKit
def boxW (n : Nat) (X Y : Nat → Int) : Value :=
  if n = 0 then .agg #[.int .i64 4, .int .i64 0, .int .i64 0, .int .i64 0, .int .i64 0] else if 40 < n then .agg #[.int .i64 2, .int .i64 0, .int .i64 0, .int .i64 0, .int .i64 0] else boxV n X Y
theorem boxW_form (n : Nat) (X Y : Nat → Int) : ∃ c0 c1 c2 c3 c4 : Int, boxW n X Y = .agg #[.int .i64 c0, .int .i64 c1, .int .i64 c2, .int .i64 c3, .int .i64 c4] := by
  unfold boxW boxV
  split
  · exact ⟨_, _, _, _, _, rfl⟩
  · split
    · exact ⟨_, _, _, _, _, rfl⟩
    · split <;> exact ⟨_, _, _, _, _, rfl⟩
theorem impl_BoxOf_any (b n cap : Nat) (X Y : Nat → Int) (w : World) (hpt : PtsAt w b 0 n X Y) (hbl : b < w.heap.size) (hcap : n ≤ cap) (hmax : n ≤ 1048576) (c0 c1 c2 c3 c4 : Int) (hf : boxW n X Y = .agg #[.int .i64 c0, .int .i64 c1, .int .i64 c2, .int .i64 c3, .int .i64 c4]) :
    Calls Try.prog 22 #[.slice (some ⟨b, 0, none⟩) n cap] w fun e w' => e = .returned (.agg #[.int .i64 c0, .int .i64 c1, .int .i64 c2, .int .i64 c3, .int .i64 c4]) ∧ Below w.heap.size w w' := by
  rw [← hf]
  unfold boxW
  by_cases h0 : n = 0
  · subst h0; rw [if_pos rfl]; exact impl_BoxOf_none _ _ _
  rw [if_neg h0]
  by_cases h1 : 40 < n
  · rw [if_pos h1]; exact impl_BoxOf_many _ _ _ _ h1 hmax
  rw [if_neg h1]
  cases ha : allOk n X Y
  · exact impl_BoxOf_bad _ _ _ _ _ _ hpt hbl hcap (by omega) (by omega) ha
  · exact impl_BoxOf_ok _ _ _ _ _ _ hpt hbl hcap (by omega) (by omega) ha
theorem spec_BoxOf_any (b n cap : Nat) (X Y : Nat → Int) (w : World) (hpt : PtsAt w b 0 n X Y) (hbl : b < w.heap.size) (hcap : n ≤ cap) (hmax : n ≤ 1048576) (c0 c1 c2 c3 c4 : Int) (hf : boxW n X Y = .agg #[.int .i64 c0, .int .i64 c1, .int .i64 c2, .int .i64 c3, .int .i64 c4]) :
    Calls Try.prog 23 #[.slice (some ⟨b, 0, none⟩) n cap] w fun e w' => e = .returned (.agg #[.int .i64 c0, .int .i64 c1, .int .i64 c2, .int .i64 c3, .int .i64 c4]) ∧ Below w.heap.size w w' := by
  rw [← hf]
  unfold boxW
  by_cases h0 : n = 0
  · subst h0; rw [if_pos rfl]; exact spec_BoxOf_none _ _ _
  rw [if_neg h0]
  by_cases h1 : 40 < n
  · rw [if_pos h1]; exact spec_BoxOf_many _ _ _ _ h1 hmax
  rw [if_neg h1]
  exact spec_BoxOf_some _ _ _ _ _ _ hpt hbl hcap (by omega) (by omega)
end Go.Proofs.Ytlkjdbigpjpgeaa
