/- The program's EntriesIn. -/
import Derived.Test.YtjnhaigmfjndhaaVEntriesIn30
import Derived.Test.YtjnhaigmfjndhaaVEntriesIn31
import Derived.Test.YtjnhaigmfjndhaaVEntriesIn32
import Derived.Test.YtjnhaigmfjndhaaVEntriesIn33
import Derived.Test.YtjnhaigmfjndhaaVEntriesIn35
namespace Go.Proofs.Ytjnhaigmfjndhaa
open Go.RowKit
set_option linter.unusedSimpArgs false
set_option linter.unusedVariables false
set_option maxRecDepth 100000

theorem range_entAt (es : List Ent) : (List.range es.length).map (entAt es) = es := by
  apply List.ext_getElem?
  intro i
  by_cases hi : i < es.length
  · simp [entAt, hi]
  · simp [hi]
set_option maxHeartbeats 4000000 in
theorem impl_EntriesIn_any (p off n cap : Nat) (Q : Nat → Qd) (w : World) (hQ : QsAt w w.heap.size p off n Q) (hn : n ≤ 1048576) (hcap : n ≤ cap) (hen : ∀ i, i < n → (Q i).en ≤ 1048576) (hall : (allE Q n).length ≤ 1048576) :
    Calls Try.prog 16 #[.slice (some ⟨p, off, none⟩) n cap] w fun e w' => ∃ v, e = .returned (.agg #[.int .i64 (quadsC Q n), v]) ∧ OwnE w' w.heap.size v (eiN Q n) (eiE Q n) ∧ Below w.heap.size w w' := by
  have HQ : Hid (QsAt w w.heap.size p off n Q) := hQ
  have HE : Hid (∀ i, i < n → (Q i).en ≤ 1048576) := hen
  have HA : Hid ((allE Q n).length ≤ 1048576) := hall
  clear hQ hen hall
  go_enter Try.func16, Try.ntmps16
  go_wp2_with fail
  generalize hW : (w.alloc _ : World) = W
  have hB0 : Below w.heap.size w W := by subst hW; (repeat (first | exact Below.refl _ _ | assumption | refine Below.drew ?_ | refine bl_alloc ?_ _ | refine bl_then ?_ (by assumption) | refine Below.setCell ?_ (by first | omega | (simp; done) | (simp; omega)) _ | refine bl_store ?_ ?_ _ _))
  have HT : Hid (There W w.heap.size 2) := by
    show There _ _ _
    subst hW
    exact there2e w (.int .i64 0) (.slice none 0 0) 45
  have hsz : w.heap.size < W.heap.size := by subst hW; simp
  clear hW
  refine (impl_QuadsFault_any p off n cap Q W (HQ.out.now hB0) hn hcap HE.out HA.out).mono ?_
  rintro e w1 ⟨rfl, hb1⟩
  have HB1 : Hid (Below w.heap.size w w1) := bl_then hB0 hb1
  have HT1 : Hid (There w1 w.heap.size 2) := HT.out.below hb1
  have hsz1 : w.heap.size < w1.heap.size := Nat.lt_of_lt_of_le hsz hb1.size
  clear hB0 hb1 HT hsz
  by_cases hc : quadsC Q n = 0
  · obtain ⟨h24, hap, hin⟩ := ents_ok hc
    have HN : Hid (eiN Q n = (esOf Q n).length) := by show _ = _; simp [eiN, hc]
    have HAP : Hid (apartK (fun i => (entAt (esOf Q n) i).id) (esOf Q n).length) := hap
    have hlen : (allE Q n).length = (esOf Q n).length := by simp [esOf]
    have HC : Hid (quadsC Q n = 0) := hc
    rw [hc]
    clear hap hin hc
    go_wp2_with fail
    refine (listOf_any p off n cap Q w1 (HQ.out.now HB1.out) hn HE.out HA.out).mono ?_
    rintro e w2 ⟨v, rfl, hR2, hb2⟩
    have hR : ERow w1.heap.size w2 v (entAt (esOf Q n)) (esOf Q n).length := by
      show World.ownsRow _ _ _ _ _ _ _
      rw [range_entAt, ← hlen]
      exact hR2
    have HR : Hid (ERow w1.heap.size w2 v (entAt (esOf Q n)) (esOf Q n).length) := hR
    have HB2 : Hid (Below w.heap.size w w2) := bl_then HB1.out hb2
    have HT2 : Hid (There w2 w.heap.size 2) := HT1.out.below hb2
    have hs12 := hb2.size
    clear hR hR2 hb2 hlen HB1 HT1 HA HE HQ
    have HX : Hid (∀ i, eiE Q n i = entAt (esOf Q n) ((srtE (entAt (esOf Q n)) (esOf Q n).length).getD i 0)) := fun i => rfl
    generalize entAt (esOf Q n) = E at *
    generalize (esOf Q n).length = m at *
    obtain ⟨av, nv, cv, hvs⟩ : ∃ a k c, v = .slice a k c := by
      obtain ⟨_, h2 | ⟨g, c, cur, hv, _⟩⟩ := HR.out
      · exact ⟨_, _, _, h2.1⟩
      · exact ⟨_, _, _, hv⟩
    subst hvs
    go_wp2_with fail
    refine (sortE_any m w1.heap.size _ E w2 HR.out (by omega)).mono ?_
    rintro e w3 ⟨rfl, h3⟩
    have hO3 : OwnE w3 w1.heap.size (.slice av nv cv) m (eiE Q n) ∧ Below w1.heap.size w2 w3 := by
      rcases h3 with ⟨h0, rfl⟩ | ⟨g, c, l, hv, hg, hgl, hp, hs, hG, hT, hmc, hE⟩
      · subst h0
        obtain ⟨_, h2 | ⟨g, c, cur, hv, hg, hh, hkc, _⟩⟩ := HR.out
        · obtain ⟨hv, _⟩ := h2
          injection hv with h1 h2 h3
          subst h1 h2 h3
          exact ⟨⟨none, 0, rfl, Nat.le_refl _, .inl rfl⟩, Below.refl _ _⟩
        · injection hv with h1 h2 h3
          subst h1 h2 h3
          exact ⟨⟨_, _, rfl, hkc, .inl rfl⟩, Below.refl _ _⟩
      · injection hv with h1 h2 h3
        subst h1 h2 h3
        have hl : l = srtE E _ := srtK_unique _ _ _ HAP.out l hp hs
        refine ⟨⟨_, _, rfl, hmc, .inr ⟨g, rfl, hg, Nat.lt_of_lt_of_le hgl hG.size, fun i hi => ?_, hT⟩⟩, below_grown hG hg hs12⟩
        rw [HX.out i, ← hl, Nat.zero_add]
        exact hE i hi
    obtain ⟨hO3, hb3⟩ := hO3
    have HO3 : Hid (OwnE w3 w1.heap.size (.slice av nv cv) m (eiE Q n)) := hO3
    have HB3 : Hid (Below w.heap.size w w3) := HB2.out.trans (hb3.mono (by omega))
    have hT' := HT2.out.belowE hb3 hsz1
    have t0 := hT'.cell 0 (by omega)
    have t1 := hT'.cell 1 (by omega)
    have f0 := (hT' 0 (by omega)).2
    have f1 := (hT' 1 (by omega)).2
    clear hO3 hb3 h3 hT' HT2 HB2 HR
    go_wp2_with fail
    obtain ⟨q0, q1⟩ := set2_at (u := .int .i64 0) (v := .slice av nv cv) (show (0 : Nat) ≠ 1 by omega) (by rw [t0]; rfl) (by rw [t1]; rfl)
    refine bodyPost_ret (v := .agg #[.int .i64 0, .slice av nv cv]) (by simp [results, Try.results16, go_sem, q0, q1]) rfl ⟨_, by rw [HC.out], by rw [HN.out]; exact (HO3.out.set (by omega) (Nat.le_refl _)).set (by omega) (by omega), ?_⟩
    have HB := HB3.out
    (repeat (first | exact Below.refl _ _ | assumption | refine Below.drew ?_ | refine bl_alloc ?_ _ | refine bl_then ?_ (by assumption) | refine Below.setCell ?_ (by first | omega | (simp; done) | (simp; omega)) _ | refine bl_store ?_ ?_ _ _))
  · have HN : Hid (eiN Q n = 0) := by show _ = _; simp [eiN, hc]
    obtain ⟨qc, hqc⟩ : ∃ qc, quadsC Q n = qc := ⟨_, rfl⟩
    have HC : Hid (quadsC Q n = qc) := hqc
    rw [hqc] at hc ⊢
    clear hqc
    have hT' := HT1.out
    have t0 := hT'.cell 0 (by omega)
    have t1 := hT'.cell 1 (by omega)
    have f0 := (hT' 0 (by omega)).2
    have f1 := (hT' 1 (by omega)).2
    clear hT'
    go_wp2_with fail
    obtain ⟨q0, q1⟩ := set2_at (u := .int .i64 qc) (v := .slice none 0 0) (show (0 : Nat) ≠ 1 by omega) (by rw [t0]; rfl) (by rw [t1]; rfl)
    refine bodyPost_ret (v := .agg #[.int .i64 qc, .slice none 0 0]) (by simp [results, Try.results16, go_sem, q0, q1]) rfl ⟨_, by rw [HC.out], by rw [HN.out]; exact ⟨none, 0, rfl, Nat.le_refl _, .inl rfl⟩, ?_⟩
    have HB := HB1.out
    (repeat (first | exact Below.refl _ _ | assumption | refine Below.drew ?_ | refine bl_alloc ?_ _ | refine bl_then ?_ (by assumption) | refine Below.setCell ?_ (by first | omega | (simp; done) | (simp; omega)) _ | refine bl_store ?_ ?_ _ _))
end Go.Proofs.Ytjnhaigmfjndhaa
