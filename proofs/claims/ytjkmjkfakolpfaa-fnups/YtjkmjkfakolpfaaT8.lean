/- Drawn refs and pixels: whatever they are, nothing that was there is written. -/
import Derived.Test.YtjkmjkfakolpfaaT4
import Derived.Test.YtjkmjkfakolpfaaT8a
import Derived.Deep.DeepMust
import Derived.Deep.DeepCutAuto
namespace Go.Proofs.Ytjkmjkfakolpfaa
open Go.RowKit
set_option linter.unusedSimpArgs false
set_option linter.unusedVariables false
set_option maxRecDepth 100000
theorem res7D (T : Array Value) (Wf : World) (r : Nat) (v0 v1 v2 : Value) (hT : T[2]?.getD undef = .pointer (some ⟨r, 0, none⟩)) (h0 : Wf.cell? ⟨r, 0, none⟩ = some v0) (h1 : Wf.cell? ⟨r, 1, none⟩ = some v1) (h2 : Wf.cell? ⟨r, 2, none⟩ = some v2) :
    (results Try.f39 T).run Try.prog Wf = .ok (.agg #[v0, v1, v2]) Wf := by
  simp [results, Try.results39, go_sem, hT, h0, h1, h2]
set_option maxHeartbeats 4000000 in
theorem l7Draw_any (a : Option Addr) (n cap : Nat) (Z : Nat → Int) (s t : Nat) (w : World) (h : Src a n cap Z s t w) (hcap : n ≤ cap) (ht : t ≤ 800) :
    Calls Try.prog 39 #[.pointer (some ⟨s, 0, none⟩)] w fun e w' => ∃ z x y : Int, e = .returned (refV z x y) ∧ Src a n cap Z s (t + 3) w' ∧ Keeps s w w' := by
  have hsl : s < w.heap.size := World.block_lt_of_cell? _ _ h.code
  have HS0 : Hid (Src a n cap Z s t w) := h
  clear h
  go_enter Try.func39, Try.ntmps39
  go_wp2_with fail
  generalize hW : (w.alloc _ : World) = W
  have hB0 : Below w.heap.size w W := by subst hW; (repeat (first | exact Below.refl _ _ | assumption | refine Below.drew ?_ | refine bl_alloc ?_ _ | refine bl_then ?_ (by assumption) | refine Below.setCell ?_ (by first | omega | (simp; done) | (simp; omega)) _ | refine bl_store ?_ ?_ _ _))
  have hlt : w.heap.size < W.heap.size := by subst hW; simp
  have HT : Hid (There W w.heap.size 3) := by
    show There _ _ _
    subst hW
    exact there3r w (.int .i64 0) (.int .i64 0) (.int .i64 0) 26
  clear hW
  have HS : Hid (Src a n cap Z s t W) := HS0.out.below hB0
  have HK : Hid (Keeps s w W) := Keeps.of_below hB0
  clear hB0 HS0
  refine (l1Next_any a n cap Z s t 4 _ HS.out hcap (by omega) (by omega) (by omega)).mono ?_
  rintro e w1 ⟨v1, rfl, hv1, hS1, hK1⟩
  have HS1 : Hid (Src a n cap Z s (t + 1) w1) := hS1
  have HT1 : Hid (There w1 w.heap.size 3) := HT.out.keeps hK1 (by omega)
  have HK1 : Hid (Keeps s w w1) := HK.out.trans hK1
  have hlt1 : w.heap.size < w1.heap.size := Nat.lt_of_lt_of_le hlt hK1.size
  clear hS1 hK1 HS HK HT hlt
  obtain ⟨m, hm, hm1, hm2⟩ : ∃ m : Nat, Hid ((v1 = 0 ∧ m = 1) ∨ (v1 = 1 ∧ m = 2) ∨ (v1 = 2 ∧ m = 4) ∨ (v1 = 3 ∧ m = 8)) ∧ 0 < m ∧ m ≤ 8 := by
    have : v1 = 0 ∨ v1 = 1 ∨ v1 = 2 ∨ v1 = 3 := by omega
    rcases this with rfl | rfl | rfl | rfl
    · exact ⟨1, .inl ⟨rfl, rfl⟩, by omega, by omega⟩
    · exact ⟨2, .inr (.inl ⟨rfl, rfl⟩), by omega, by omega⟩
    · exact ⟨4, .inr (.inr (.inl ⟨rfl, rfl⟩)), by omega, by omega⟩
    · exact ⟨8, .inr (.inr (.inr ⟨rfl, rfl⟩)), by omega, by omega⟩
  have hN := fun t w h ht => l1Next_any a n cap Z s t m w h hcap ht hm1 (by omega)
  have HN := (show Hid _ from hN)
  clear hN
  rcases hm.out with ⟨rfl, rfl⟩ | ⟨rfl, rfl⟩ | ⟨rfl, rfl⟩ | ⟨rfl, rfl⟩
  all_goals
    clear hm hm1 hm2
    go_wp2_with fail
    refine (HN.out _ _ HS1.out (by omega)).mono ?_
    rintro e w2 ⟨v2, rfl, hv2, hS2, hK2⟩
    have HS2 : Hid (Src a n cap Z s (t + 1 + 1) w2) := hS2
    have HT2 : Hid (There w2 w.heap.size 3) := HT1.out.keeps hK2 (by omega)
    have HK2 : Hid (Keeps s w w2) := HK1.out.trans hK2
    have hlt2 : w.heap.size < w2.heap.size := Nat.lt_of_lt_of_le hlt1 hK2.size
    clear hS2 hK2 HS1 HK1 HT1 hlt1
    go_wp2_with fail
    refine (HN.out _ _ HS2.out (by omega)).mono ?_
    rintro e w3 ⟨v3, rfl, hv3, hS3, hK3⟩
    have HS3 : Hid (Src a n cap Z s (t + 1 + 1 + 1) w3) := hS3
    have HT3 : Hid (There w3 w.heap.size 3) := HT2.out.keeps hK3 (by omega)
    have HK3 : Hid (Keeps s w w3) := HK2.out.trans hK3
    have hlt3 : w.heap.size < w3.heap.size := Nat.lt_of_lt_of_le hlt2 hK3.size
    clear hS3 hK3 HS2 HK2 HT2 hlt2
    have hT' := HT3.out
    have t0 := hT'.cell 0 (by omega)
    have t1 := hT'.cell 1 (by omega)
    have t2 := hT'.cell 2 (by omega)
    have f0 := (hT' 0 (by omega)).2
    have f1 := (hT' 1 (by omega)).2
    have f2 := (hT' 2 (by omega)).2
    clear hT'
    go_wp2_with fail
    refine bodyPost_ret (res7D _ _ _ _ _ _ rfl (set3_atr HT3.out).1 (set3_atr HT3.out).2.1 (set3_atr HT3.out).2.2) rfl ⟨_, _, _, rfl, ((HS3.out.other 0 _ hsl).other 1 _ hsl).other 2 _ hsl, ((HK3.out.own1 (Nat.le_refl _) 0 _).own1 (Nat.le_refl _) 1 _).own1 (Nat.le_refl _) 2 _⟩
end Go.Proofs.Ytjkmjkfakolpfaa
