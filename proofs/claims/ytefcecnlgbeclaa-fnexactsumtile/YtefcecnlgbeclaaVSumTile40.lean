/- Several texts in one. -/
import Derived.Test.YtefcecnlgbeclaaVSumTile34
import Derived.Test.YtefcecnlgbeclaaVSumTile39
import Derived.Deep.RegionLawGrows
import Derived.OwnWalk

/- What PackList answers hangs on what features have alone; its bytes. -/

namespace Go.Proofs.Ytefcecnlgbeclaa
open Go.RowKit
set_option linter.unusedSimpArgs false
set_option linter.unusedVariables false
set_option maxRecDepth 100000

theorem fL_same {f g : Feat} (h : f.same g) : fL f = fL g := by
  obtain ⟨h1, h2, h3, h4, h5, h6, h7, h8, h9⟩ := h
  unfold fL
  rw [h1, h2, h3, h4, h5, h6, h7, h8, h9]
theorem catL_same {G H : Nat → Feat} {n : Nat} (h : ∀ i, i < n → (G i).same (H i)) : ∀ k, k ≤ n → catL G k = catL H k
  | 0, _ => rfl
  | k + 1, hk => by rw [catL, catL, catL_same h k (by omega), fL_same (h k (by omega))]
theorem pl_same {G H : Nat → Feat} {n : Nat} (h : ∀ i, i < n → (G i).same (H i)) : plC n G = plC n H ∧ plL n G = plL n H := by
  have e1 : featsC n G = featsC n H := featsC_same h
  have e2 : ordS n G = ordS n H := ord_congr h
  have e3 : datL n G = datL n H := by unfold datL; rw [catL_same h n (Nat.le_refl _)]
  have e4 : plC n G = plC n H := by unfold plC; rw [e1, e2, e3]
  refine ⟨e4, ?_⟩
  unfold plL
  rw [e4, e3]
theorem plL_len (n : Nat) (G : Nat → Feat) : (plL n G).length ≤ 1048576 := by
  unfold plL
  split
  · rename_i h
    have h1 : (datL n G).length + 2 ≤ 900 ∨ featsC n G ≠ 0 ∨ True := .inr (.inr trivial)
    unfold plC at h
    split at h
    · split at h
      · split at h
        · omega
        · simp [endL]; omega
      · omega
    · contradiction
  · simp
theorem plL_byt (n : Nat) (G : Nat → Feat) : Byt (plL n G) := by
  unfold plL
  split
  · intro z hz
    unfold endL at hz
    rcases List.mem_append.1 hz with h | h
    · exact datL_byt n G z h
    · have := sumL_lt (datL n G)
      simp at h
      omega
  · intro z hz
    cases hz
end Go.Proofs.Ytefcecnlgbeclaa
/- An append to a row of the call's own, as one step of a region that draws its order. -/

namespace Go.Proofs.Ytefcecnlgbeclaa
open Go

theorem step_append_own {P : Program} {ops : Array Oper} {o : Oper} {a : Act} {w : World} {K : Act → World → Prop} {Q : Exit → Act → World → Prop} {E : Prop}
    (hg : o.guard = none) (s x : Operand) (t : TypeId) (hop : o.op = Op.call { callee := Callee.builtin Builtin.append, args := #[s, x], argTypes := #[t, t] })
    (base : Nat) (e : TypeId) (i : TypeInfo) (z : Value) (size bytes : Nat) (h1 : P.underlying t = some (.slice e)) (h2 : P.info? e = some i) (h3 : i.zero = some z) (h4 : i.size = size) (h5 : i.bytes = bytes) (h6 : z.cells.size = size) (h7 : 0 < size)
    (v : Value) (n : Nat) (xs : List Value) (hs : a.eval s = v) (hown : w.ownsRow base e size v n xs)
    (ad : Addr) (m c : Nat) (news : List Value) (hx : a.eval x = .slice (some ad) m c) (hn : news.length = m * size) (hc : ∀ j u, news[j]? = some u → w.cell? (ad.add j) = some u) (h1c : ∀ u ∈ news, u.oneCell' = true)
    (b1 : n + m ≤ maxLen) (b2 : (n + m) * bytes ≤ 140737488355328) (hbase : base ≤ w.heap.size)
    (hK : ∀ v' w', w'.ownsRow base e size v' (n + m) (xs ++ news) → w.grownBy w' v.ownBlock → (v' = .slice none 0 0 ↔ v = .slice none 0 0 ∧ m = 0) → K (a.put o.dst v') w') :
    if Region.wanted o (yielded ops a.tmps) = true then Oper.wp P o a w K Q else E := by
  have hw : Region.wanted o (yielded ops a.tmps) = true := by simp [Region.wanted, hg]
  rw [if_pos hw]
  obtain ⟨v', w', hrun, r1, r2, r3⟩ := run_append_own (P := P) w base t o.type e i z size bytes h1 h2 h3 h4 h5 h6 h7 v n xs hown ad m c news hn hc h1c b1 b2 hbase
  unfold Oper.wp
  simp [execOp, hop, resolve, invoke, builtin, hs, hx, hrun, Result.andThen]
  exact hK v' w' r1 r2 r3
end Go.Proofs.Ytefcecnlgbeclaa
