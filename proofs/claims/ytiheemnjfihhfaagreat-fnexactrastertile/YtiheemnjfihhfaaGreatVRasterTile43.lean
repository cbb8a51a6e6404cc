/- Several texts in one. -/
import Derived.Test.YtiheemnjfihhfaaGreatVRasterTile39
import Derived.Test.YtiheemnjfihhfaaGreatVRasterTile42
import Derived.Test.YtiheemnjfihhfaaGreatVRasterTile1
import Derived.Deep.RegionHeld3

/- RasterTile of the model. -/

namespace Go.Proofs.YtiheemnjfihhfaaGreat
open Go.RowKit
set_option linter.unusedSimpArgs false
set_option linter.unusedVariables false
set_option maxRecDepth 100000

/-- The code of RasterTile, and its raster. -/
noncomputable def rtC (z x y : Int) (n : Nat) (G : Nat → Feat) : Int := if refC z x y = 0 then (if featsC n G = 0 then (if ordS n G = true then 0 else 1) else featsC n G) else refC z x y
noncomputable def rtL (z x y : Int) (n : Nat) (G : Nat → Feat) : List Int := if rtC z x y n G = 0 then rasK (paintF G n z) (x * 8) (y * 8) 64 else []
theorem there2t (w : World) (x y : Value) (t : TypeId) : There (w.alloc (.cells #[x, y] t)) w.heap.size 2 := fun o ho => by
  have : o = 0 ∨ o = 1 := by omega
  rcases this with rfl | rfl <;> exact ⟨⟨_, by simp [go_sem]; rfl⟩, by simp [go_sem]⟩
theorem set2t {W : World} {r : Nat} {a b : Value} (hT : There W r 2) :
    ((W.setCell ⟨r, 0, none⟩ a).setCell ⟨r, 1, none⟩ b).cell? ⟨r, 0, none⟩ = some a ∧ ((W.setCell ⟨r, 0, none⟩ a).setCell ⟨r, 1, none⟩ b).cell? ⟨r, 1, none⟩ = some b := by
  obtain ⟨u0, h0⟩ := (hT 0 (by omega)).1
  obtain ⟨u1, h1⟩ := (hT 1 (by omega)).1
  have ne : ∀ i j : Nat, i ≠ j → (⟨r, i, none⟩ : Addr) ≠ ⟨r, j, none⟩ := fun i j hij h => hij (by injection h)
  refine ⟨?_, ?_⟩
  · rw [set1_other (ne 1 0 (by omega))]; exact set1_same h0
  · exact set1_same (by rw [set1_other (ne 0 1 (by omega))]; exact h1)
theorem ownN_none (w : World) (base : Nat) : OwnN w base (.slice none 0 0) ([] : List Int).length (nz []) := ⟨none, 0, rfl, Nat.le_refl _, .inl rfl⟩
set_option maxHeartbeats 4000000 in
theorem l8Tile_any (q : Nat) (z x y : Int) (b n cap : Nat) (G : Nat → Feat) (w : World) (ht : TileA w q z x y (.slice (some ⟨b, 0, none⟩) n cap)) (hg : FsAt w b 0 n G) (hbl : b < w.heap.size) (hs : SmallFs n G) :
    Calls Tryz.prog 14 #[.pointer (some ⟨q, 0, none⟩)] w fun e w' => e = .returned (.int .i64 (rtC z x y n G)) ∧ Below w.heap.size w w' := by
  have hql : q < w.heap.size := World.block_lt_of_cell? _ _ ht.1
  have HT : Hid (TileA w q z x y (.slice (some ⟨b, 0, none⟩) n cap)) := ht
  have HG : Hid (FsAt w b 0 n G) := hg
  have HS : Hid (SmallFs n G) := hs
  have HK : Hid (rtC z x y n G = if refC z x y = 0 then (if featsC n G = 0 then (if ordS n G = true then 0 else 1) else featsC n G) else refC z x y) := rfl
  obtain ⟨p0, p1, p2, p3⟩ := ht
  clear hg hs
  go_enter Tryz.func14, Tryz.ntmps14
  go_wp2_with fail
  refine (l7Fault_any z x y _).mono ?_
  rintro e w1 ⟨rfl, hb1⟩
  obtain ⟨q0, q1, q2, q3⟩ := HT.out.below hb1 hql
  have HB1 : Hid (Below w.heap.size w w1) := hb1
  have hql1 : q < w1.heap.size := Nat.lt_of_lt_of_le hql hb1.size
  clear p0 p1 p2 p3 hb1
  by_cases hr : refC z x y = 0
  · rw [hr]
    rw [if_pos hr] at HK
    go_wp2_with fail
    refine (l2Many_any b n cap G _ (HG.out.below HB1.out hbl) (Nat.lt_of_lt_of_le hbl HB1.out.size) HS.out).mono ?_
    rintro e w2 ⟨rfl, hb2⟩
    have HB2 : Hid (Below w.heap.size w w2) := bl_then HB1.out hb2
    obtain ⟨t0, t1, t2, t3⟩ := HT.out.below HB2.out hql
    clear q0 q1 q2 q3 hb2
    by_cases hf : featsC n G = 0
    · rw [hf]
      rw [if_pos hf] at HK
      go_wp2_with fail
      refine (l6Ordered_any b n cap G _ (HG.out.below HB2.out hbl) (Nat.lt_of_lt_of_le hbl HB2.out.size) HS.out.1).mono ?_
      rintro e w3 ⟨rfl, hb3⟩
      have HB3 : Hid (Below w.heap.size w w3) := bl_then HB2.out hb3
      clear hb3 t0 t1 t2 t3
      cases ho : ordS n G
      · rw [ho] at HK
        go_wp2
        go_ret
        exact ⟨ret_int (by rw [HK.out]; rfl), HB3.out⟩
      · rw [ho] at HK
        go_wp2
        go_ret
        exact ⟨ret_int (by rw [HK.out]; rfl), HB3.out⟩
    · rw [if_neg hf] at HK
      have hcb : (featsC n G == 0) = false := by simpa using hf
      generalize featsC n G = fc at *
      clear hf
      go_wp2
      go_ret
      exact ⟨ret_int HK.out.symm, HB2.out⟩
  · rw [if_neg hr] at HK
    have hcb : (refC z x y == 0) = false := by simpa using hr
    generalize refC z x y = rc at *
    clear hr
    go_wp2
    go_ret
    exact ⟨ret_int HK.out.symm, HB1.out⟩
theorem rtC_zero {z x y : Int} {n : Nat} {G : Nat → Feat} (h : rtC z x y n G = 0) : refB z x y = true ∧ featsC n G = 0 ∧ ordS n G = true := by
  unfold rtC at h
  rcases refC_cases z x y with ⟨hc, hr⟩ | ⟨hc, hr⟩
  · rw [if_pos hc] at h
    by_cases hf : featsC n G = 0
    · rw [if_pos hf] at h
      cases ho : ordS n G
      · rw [ho] at h; simp at h
      · exact ⟨hr, hf, rfl⟩
    · rw [if_neg hf] at h; exact absurd h hf
  · rw [hc] at h; simp at h
set_option maxHeartbeats 4000000 in
theorem spec_RasterTile_any (z x y : Int) (b n cap : Nat) (G : Nat → Feat) (w : World) (hg : FsAt w b 0 n G) (hbl : b < w.heap.size) (hs : SmallFs n G) :
    Calls Tryz.prog 5 #[.agg #[.int .i64 z, .int .i64 x, .int .i64 y, .slice (some ⟨b, 0, none⟩) n cap]] w fun e w' => ∃ v, e = .returned (.agg #[.int .i64 (rtC z x y n G), v]) ∧ OwnN w' w.heap.size v (rtL z x y n G).length (nz (rtL z x y n G)) ∧ Below w.heap.size w w' := by
  have HG : Hid (FsAt w b 0 n G) := hg
  have HS : Hid (SmallFs n G) := hs
  clear hg hs
  go_enter Tryz.func5, Tryz.ntmps5
  go_wp2_with fail
  generalize hW : ((w.alloc _).alloc _ : World) = W
  have HB0 : Hid (Below w.heap.size w W) := by show Below _ _ _; subst hW; (repeat (first | exact Below.refl _ _ | assumption | refine Below.drew ?_ | refine bl_alloc ?_ _ | refine bl_then ?_ (by assumption) | refine Below.setCell ?_ (by first | omega | (simp; done) | (simp; omega)) _ | refine bl_store ?_ ?_ _ _))
  have HT : Hid (There W (w.heap.size + 1) 2) := by
    show There _ _ _
    subst hW
    have := there2t (w.alloc (.cells #[.int .i64 z, .int .i64 x, .int .i64 y, .slice (some ⟨b, 0, none⟩) n cap] 35)) (.int .i64 0) (.slice none 0 0) 30
    simpa using this
  have HA : Hid (TileA W w.heap.size z x y (.slice (some ⟨b, 0, none⟩) n cap)) := by
    show TileA _ _ _ _ _ _
    subst hW
    refine ⟨?_, ?_, ?_, ?_⟩ <;> simp [go_sem]
  have HSZ : Hid (w.heap.size + 1 < W.heap.size) := by show _ < _; subst hW; simp
  have hlW : w.heap.size < W.heap.size := by subst hW; simp <;> omega
  clear hW
  refine (l8Tile_any w.heap.size z x y b n cap G W HA.out (HG.out.below HB0.out hbl) (Nat.lt_of_lt_of_le hbl HB0.out.size) HS.out).mono ?_
  rintro e w1 ⟨rfl, hb1⟩
  have HA1 : Hid (TileA w1 w.heap.size z x y (.slice (some ⟨b, 0, none⟩) n cap)) := HA.out.below hb1 hlW
  have hT1 := HT.out.below hb1
  have HT1 : Hid (There w1 (w.heap.size + 1) 2) := hT1
  have HB1 : Hid (Below w.heap.size w w1) := bl_then HB0.out hb1
  have hs1 : w.heap.size + 1 < w1.heap.size := Nat.lt_of_lt_of_le HSZ.out hb1.size
  clear hb1
  by_cases hC : rtC z x y n G = 0
  · obtain ⟨hr, hf, _⟩ := rtC_zero hC
    obtain ⟨h12, hok⟩ := feats_okF hf
    have HL : Hid (rtL z x y n G = rasK (paintF G n z) (x * 8) (y * 8) 64) := if_pos hC
    have HCZ : Hid (rtC z x y n G = 0) := hC
    rw [hC]
    clear hC hT1
    go_wp2_with fail
    refine (l8Raster_any w.heap.size z x y b n cap G w1 HA1.out (HG.out.below HB1.out hbl) (Nat.lt_of_lt_of_le hbl HB1.out.size) h12 hok hr).mono ?_
    rintro e w2 ⟨v, rfl, hR, hb2⟩
    have HR : Hid (RowN w1.heap.size w2 v (rasK (paintF G n z) (x * 8) (y * 8) 64)) := hR
    have hT2 := HT1.out.below hb2
    have HT2 : Hid (There w2 (w.heap.size + 1) 2) := hT2
    have HB2 : Hid (Below w.heap.size w w2) := bl_then HB1.out hb2
    have t0 := hT2.cell 0 (by omega)
    have t1 := hT2.cell 1 (by omega)
    have f0 := (hT2 0 (by omega)).2
    have f1 := (hT2 1 (by omega)).2
    obtain ⟨va, vn, vc, hvs⟩ : ∃ va vn vc, v = .slice va vn vc := by
      obtain ⟨a', c', e', _, _⟩ := hR.own
      exact ⟨_, _, _, e'⟩
    subst hvs
    clear hR hb2 hT2
    go_wp2_with fail
    obtain ⟨q0, q1⟩ := set2t (a := .int .i64 0) (b := .slice va vn vc) HT2.out
    refine bodyPost_ret (v := .agg #[.int .i64 0, .slice va vn vc]) (by simp [results, Tryz.results5, go_sem, q0, q1]) rfl ⟨_, by rw [HCZ.out], ?_, ?_⟩
    · rw [HL.out]
      exact (((HR.out.other hs1).other hs1).wide (by omega)).own
    · exact (HB2.out.setCell (Nat.le_succ _) _).setCell (Nat.le_succ _) _
  · have HL : Hid (rtL z x y n G = []) := if_neg hC
    have hcb : (rtC z x y n G == 0) = false := by simpa using hC
    have t0 := hT1.cell 0 (by omega)
    have t1 := hT1.cell 1 (by omega)
    have f0 := (hT1 0 (by omega)).2
    have f1 := (hT1 1 (by omega)).2
    obtain ⟨rc, hrc⟩ : ∃ rc, rtC z x y n G = rc := ⟨_, rfl⟩
    have HRC : Hid (rtC z x y n G = rc) := hrc
    rw [hrc] at hcb ⊢
    clear hC hT1 hrc
    go_wp2_with fail
    obtain ⟨q0, q1⟩ := set2t (a := .int .i64 rc) (b := .slice none 0 0) HT1.out
    refine bodyPost_ret (v := .agg #[.int .i64 rc, .slice none 0 0]) (by simp [results, Tryz.results5, go_sem, q0, q1]) rfl ⟨_, by rw [HRC.out], ?_, ?_⟩
    · rw [HL.out]; exact ownN_none _ _
    · exact (HB1.out.setCell (Nat.le_succ _) _).setCell (Nat.le_succ _) _
end Go.Proofs.YtiheemnjfihhfaaGreat
/- A region that draws its order, whose last operation alone writes what the others read: a law of our own. -/

namespace Go.Proofs.YtiheemnjfihhfaaGreat
open Go.RowKit

section
variable {P : Program} {ops : Array Oper} {Q : Exit → Act → World → Prop} {md : Region.Mode} {S : World → Prop} {z : Nat}

/-- Whatever order is picked from here on; S holds behind every operation that is carried out but number z. -/
def wpAnyL (P : Program) (md : Region.Mode) (ops : Array Oper) (Q : Exit → Act → World → Prop) (S : World → Prop) (z : Nat) : Nat → Array Bool → Act → World → Prop
  | 0, listed, a, w => Region.ready md ops listed = [] ∧ Q .normal a w
  | fuel + 1, listed, a, w =>
    (Region.ready md ops listed = [] → Q .normal a w) ∧
    ∀ i ∈ Region.ready md ops listed, wpOp P ops Q i (fun a' w' => (i ≠ z → S w') ∧ wpAnyL P md ops Q S z fuel (listed.setIfInBounds i true) a' w') a w

theorem wpAny_of_L : ∀ (fuel : Nat) (listed : Array Bool) (a : Act) (w : World), wpAnyL P md ops Q S z fuel listed a w → wpAny P md ops Q fuel listed a w
  | 0, _, _, _, h => h
  | fuel + 1, _, _, _, h => ⟨h.1, fun i hi => wpOp_mono (fun a' w' h' => wpAny_of_L fuel _ a' w' h'.2) (h.2 i hi)⟩

/-- Number z waits for number i. -/
def waitsFor (md : Region.Mode) (ops : Array Oper) (z i : Nat) : Bool := ((ops[z]?).map (·.after.any fun e => Region.binds md e && (e.on == i))).getD false
theorem not_ready {i : Nat} {listed : Array Bool} (hw : waitsFor md ops z i = true) (hi : listed.getD i true = false) : ¬ z ∈ Region.ready md ops listed := by
  intro hz
  obtain ⟨_, oz, hoz, hall⟩ := mem_ready.1 hz
  unfold waitsFor at hw
  rw [hoz] at hw
  simp only [Option.map_some, Option.getD_some, Array.any_eq_true] at hw
  obtain ⟨k, hk, he⟩ := hw
  rw [Bool.and_eq_true, beq_iff_eq] at he
  have h1 := hall _ (Array.getElem_mem hk) he.1
  rw [he.2] at h1
  rcases Nat.lt_or_ge i listed.size with h' | h'
  · simp [h'] at hi h1; rw [hi] at h1; cases h1
  · simp [Array.getElem?_eq_none h'] at h1

theorem wpAnyL_first {i : Nat} {oi : Oper} {v : Value} (hi : ops[i]? = some oi) (hsel : ∀ (j : Nat) (o : Oper) cs b, ops[j]? = some o → o.op ≠ .select cs b)
    (hQ : ∀ c a w, Q (.panic c) (a.put oi.dst v) w → Q (.panic c) a w) (hwz : waitsFor md ops z i = true) :
    ∀ (fuel : Nat) (listed : Array Bool) (a : Act) (w : World),
      (∀ j oj, ops[j]? = some oj → j ≠ i → listed.getD j true = false → (∀ e ∈ oj.after, Region.binds md e = true → e.on ≠ i) → oi.apart ops oj = true) →
      i ∈ Region.ready md ops listed → YieldsIf P ops S oi v a → S w →
      wpAnyL P md ops Q S z fuel (listed.setIfInBounds i true) (a.put oi.dst v) w → wpAnyL P md ops Q S z (fuel + 1) listed a w := by
  intro fuel
  induction fuel with
  | zero =>
    intro listed a w _ hr hy hS H
    refine ⟨fun h => (by rw [h] at hr; cases hr), fun j hj => ?_⟩
    by_cases hji : j = i
    · subst hji; exact hy.wpOp hi hS ⟨fun _ => hS, H⟩
    · have := ready_mono hj hji
      rw [H.1] at this
      cases this
  | succ fuel ih =>
    intro listed a w hfree hr hy hS H
    refine ⟨fun h => (by rw [h] at hr; cases hr), fun j hj => ?_⟩
    by_cases hji : j = i
    · subst hji; exact hy.wpOp hi hS ⟨fun _ => hS, H⟩
    · have hjz : j ≠ z := fun e => not_ready hwz (mem_ready.1 hr).1 (e ▸ hj)
      have h1 := H.2 j (ready_mono hj hji)
      obtain ⟨hjun, oj, hoj, hall⟩ := mem_ready.1 hj
      have hnot : ∀ e ∈ oj.after, Region.binds md e = true → e.on ≠ i := fun e he hb heq => by
        have h1 := hall e he hb
        have h0 := (mem_ready.1 hr).1
        rw [heq] at h1
        rcases Nat.lt_or_ge i listed.size with h' | h'
        · simp [h'] at h0 h1; rw [h0] at h1; cases h1
        · simp [Array.getElem?_eq_none h'] at h1
      have h2 := wpOp_putIf hoj (hfree j oj hoj hji hjun hnot) (fun cs b => hsel i oi cs b hi) (fun cs b => hsel j oj cs b hoj) hQ hy h1
      have hfree' : ∀ k ok, ops[k]? = some ok → k ≠ i → (listed.setIfInBounds j true).getD k true = false →
          (∀ e ∈ ok.after, Region.binds md e = true → e.on ≠ i) → oi.apart ops ok = true := fun k ok hk hki hun hno => by
        refine hfree k ok hk hki ?_ hno
        by_cases hjk : j = k
        · subst hjk; exact hjun
        · rw [getD_set_ne true hjk] at hun; exact hun
      refine wpOp_mono (fun a' w' h3 => ⟨h3.2.1, ih (listed.setIfInBounds j true) a' w' hfree' (ready_mono hr (Ne.symm hji)) h3.1 (h3.2.1 hjz) ?_⟩) h2
      rw [Array.setIfInBounds_comm _ _ hji]
      exact h3.2.2

theorem wpAnyL_take {i : Nat} {oi : Oper} {v : Value} {fuel : Nat} {listed : Array Bool} {a : Act} {w : World} (hi : ops[i]? = some oi)
    (hs : Region.noSelect ops = true) (hf : Region.free md ops listed i = true) (hr : (Region.ready md ops listed).contains i = true) (hwz : waitsFor md ops z i = true)
    (hQ : ∀ c a w, Q (.panic c) (a.put oi.dst v) w → Q (.panic c) a w) (hy : YieldsIf P ops S oi v a) (hS : S w)
    (h : wpAnyL P md ops Q S z fuel (listed.setIfInBounds i true) (a.put oi.dst v) w) : wpAnyL P md ops Q S z (fuel + 1) listed a w :=
  wpAnyL_first hi (Region.noSelect_spec hs) hQ hwz fuel listed a w (Region.free_spec hi hf) (by simpa using hr) hy hS h

/-- One alone may come up. -/
theorem wpAnyL_one {i : Nat} {o : Oper} {fuel : Nat} {listed : Array Bool} {a : Act} {w : World} (hr : Region.ready md ops listed = [i]) (ho : ops[i]? = some o)
    (h : ∀ K' : Act → World → Prop, Shut (∀ a w, (i ≠ z → S w) → wpAnyL P md ops Q S z fuel (listed.setIfInBounds i true) a w → K' a w) → if Region.wanted o (yielded ops a.tmps) = true then Oper.wp P o a w K' Q else K' (a.put o.dst undef) w) :
    wpAnyL P md ops Q S z (fuel + 1) listed a w := by
  refine ⟨fun h0 => (by rw [hr] at h0; cases h0), fun j hj => ?_⟩
  rw [hr] at hj
  obtain rfl : j = i := by simpa using hj
  exact wpOp_step ho (fun K' hK => h K' (fun a w hS hW => hK a w ⟨hS, hW⟩))

theorem wpAnyL_done {listed : Array Bool} {a : Act} {w : World} (hr : Region.ready md ops listed = []) (h : Q .normal a w) :
    ∀ fuel, wpAnyL P md ops Q S z fuel listed a w
  | 0 => ⟨hr, h⟩
  | _ + 1 => ⟨fun _ => h, by rw [hr]; simp⟩

theorem wp_region_L {id : Nat} {a : Act} {w : World} (hm : P.follows .mixedOrders = true)
    (h : wpAnyL P .any ops Q S z ops.size (Array.replicate ops.size false) a w.drew) : (Code.region id ops true).wp P Q a w :=
  wp_region_any hm (wpAny_of_L _ _ _ _ h)
end
end Go.Proofs.YtiheemnjfihhfaaGreat
