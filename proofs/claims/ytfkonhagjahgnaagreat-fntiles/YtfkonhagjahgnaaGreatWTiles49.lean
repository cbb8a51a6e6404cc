/- Texts. -/
import Derived.Test.YtfkonhagjahgnaaGreatWTiles48
import Derived.Test.YtfkonhagjahgnaaGreatWTiles42
import Derived.Test.YtfkonhagjahgnaaGreatWTiles1
import Derived.Test.YtfkonhagjahgnaaGreatWTiles5
import Derived.Test.YtfkonhagjahgnaaGreatWTiles31
import Derived.Test.YtfkonhagjahgnaaGreatWTiles29
set_option linter.unusedSimpArgs false
set_option linter.unusedVariables false
set_option maxRecDepth 100000
set_option maxHeartbeats 32000000
namespace Go.Proofs.YtfkonhagjahgnaaGreat
open Go.RowKit
theorem map_getD_range (l : List Nat) : (List.range l.length).map (fun j => l.getD j 0) = l := by
 apply List.ext_getElem
 ·simp
 ·intro i h1 h2
  simp [List.getD_eq_getElem?_getD,h2]
noncomputable def ksM (z x y : Int) (n : Nat) (G : Nat → Feat) (k : Nat) : List Nat := (List.range k).filter fun j => rchF z x y (G ((srtF n G).getD j 0))
theorem ksM_all {z x y : Int} {n : Nat} {G : Nat → Feat} : chs z x y n G = (ksM z x y n G n).map fun j => (srtF n G).getD j 0 := by
 have hlen : (srtF n G).length = n := srtK_len _ _ _
 unfold chs ksM
 conv => lhs; rw [← map_getD_range (srtF n G),hlen]
 rw [List.filter_map]
 rfl
theorem ksM_yes {z x y : Int} {n k : Nat} {G : Nat → Feat} (h : rchF z x y (G ((srtF n G).getD k 0)) = true) : ksM z x y n G (k + 1) = ksM z x y n G k ++ [k] := by
 unfold ksM
 rw [List.range_succ,List.filter_append,List.filter_cons_of_pos (by exact h)]
 rfl
theorem ksM_no {z x y : Int} {n k : Nat} {G : Nat → Feat} (h : rchF z x y (G ((srtF n G).getD k 0)) = false) : ksM z x y n G (k + 1) = ksM z x y n G k := by
 unfold ksM
 rw [List.range_succ,List.filter_append,List.filter_cons_of_neg (by simpa using h),List.filter_nil,List.append_nil]
theorem ksM_le {z x y : Int} {n k : Nat} {G : Nat → Feat} : (ksM z x y n G k).length ≤ k := by
 refine Nat.le_trans (List.length_filter_le _ _) ?_
 simp
theorem ksM_lt {z x y : Int} {n k : Nat} {G : Nat → Feat} (i : Nat) (hi : i < (ksM z x y n G k).length) : (ksM z x y n G k).getD i 0 < k := by
 have e : (ksM z x y n G k).getD i 0 = (ksM z x y n G k)[i] := by simp [List.getD_eq_getElem?_getD,hi]
 rw [e]
 have hm : (ksM z x y n G k)[i] ∈ ksM z x y n G k := List.getElem_mem hi
 exact List.mem_range.1 (List.mem_filter.1 hm).1
theorem ksM_get {z x y : Int} {n : Nat} {G : Nat → Feat} (i : Nat) (hi : i < (ksM z x y n G n).length) : (chs z x y n G).getD i 0 = (srtF n G).getD ((ksM z x y n G n).getD i 0) 0 := by
 rw [ksM_all]
 simp [List.getD_eq_getElem?_getD,hi]
theorem FRow.put {base r o : Nat} {w : World} {v u : Value} {H : Nat → Feat} {l : List Nat} (h : FRow base w v H l) (hr : r < base) : FRow base (w.setCell ⟨r,o,none⟩ u) v H l := ownsRow_otherB h hr
def SkB (P : Nat) (W : World) (g k : Nat) (f : Feat) (W' : World) : Prop := Below P W W' ∧ FeatAt W' g (k * 7) f.id f.la f.ki f.wi (.slice f.a f.n f.cap) f.lab f.pr
theorem sim_meet {z x y : Int} {f t : Feat} (h : simOf z f t) : meetB (mnTo (px (dblL t.X t.Y t.n)) (dblL t.X t.Y t.n).length - reachI t.wi z) (mnTo (py (dblL t.X t.Y t.n)) (dblL t.X t.Y t.n).length - reachI t.wi z) (mxTo (px (dblL t.X t.Y t.n)) (dblL t.X t.Y t.n).length + reachI t.wi z) (mxTo (py (dblL t.X t.Y t.n)) (dblL t.X t.Y t.n).length + reachI t.wi z) (centI z (x * 8)) (centI z (y * 8)) (centI z (x * 8 + 7)) (centI z (y * 8 + 7)) = rchF z x y f := by
 obtain ⟨e1,e2,e3,e4,e5,e6,e7,e8,e9⟩ := h
 unfold rchF rchB rb1 rb2 rb3 rb4
 have e0 : ∀ v : Int,zI 0 v = v := fun v => if_pos rfl
 simp only [e0]
 rw [e4,e5,e6,e7]
theorem sim_okB {z : Int} {f t : Feat} (h : simOf z f t) (hf : okC f) (hz : zoomB z = true) : 0 < t.n ∧ t.n ≤ 12 ∧ (∀ i,i < t.n → inW (t.X i) (t.Y i) = true) ∧ (0 ≤ t.wi ∧ t.wi ≤ 3) := by
 obtain ⟨e1,e2,e3,e4,e5,e6,e7,e8,e9⟩ := h
 obtain ⟨h1,h2,h3,h4⟩ := simL_facts hf hz
 exact ⟨by rw [e5]; exact h4,by rw [e5]; exact h2,fun i _ => by rw [e6,e7]; exact h3.at i,by rw [e4]; exact (featC_rng hf).2.2.1⟩
theorem StayP.set {P base : Nat} (w : World) (o : Nat) (v : Value) : StayP P base w (w.setCell ⟨P,o,none⟩ v) := fun b o' v' hb hp hc => by rw [set1_other (fun e => hp (by injection e with e; exact e.symm))]; exact hc
theorem SrcB.set4 {lo base r n : Nat} {w : World} {a : Option Addr} {T : Nat → Feat} {v0 v1 v2 v3 : Value} (h : SrcB lo base w a n T) (hr : r < lo) : SrcB lo base ((((w.setCell ⟨r,0,none⟩ v0).setCell ⟨r,1,none⟩ v1).setCell ⟨r,2,none⟩ v2).setCell ⟨r,3,none⟩ v3) a n T := h.stay (((StayP.set w 0 v0).trans (StayP.set _ 1 v1)).trans ((StayP.set _ 2 v2).trans (StayP.set _ 3 v3))) hr
theorem SrcB.set5 {lo base r n : Nat} {w : World} {a : Option Addr} {T : Nat → Feat} {v0 v1 v2 v3 v4 : Value} (h : SrcB lo base w a n T) (hr : r < lo) : SrcB lo base (((((w.setCell ⟨r,0,none⟩ v0).setCell ⟨r,1,none⟩ v1).setCell ⟨r,2,none⟩ v2).setCell ⟨r,3,none⟩ v3).setCell ⟨r,4,none⟩ v4) a n T := (h.set4 hr).stay (StayP.set _ 4 v4) hr

noncomputable def svC (z x y : Int) (n : Nat) (G : Nat → Feat) : Int := if btC z x y n G = 0 then plC (btM z x y n G) (btG z x y n G) else btC z x y n G
noncomputable def svL (z x y : Int) (n : Nat) (G : Nat → Feat) : List Int := if btC z x y n G = 0 then plL (btM z x y n G) (btG z x y n G) else []
theorem BtAns.bs {C z x y : Int} {m : Nat} {G : Nat → Feat} {w w' : World} {e : Ending} (h : BtAns C z x y m G w e w') : BsAns C z x y m G w e w' := by
 obtain ⟨a,cap,T,h1,h2,h3,_,h5,h6⟩ := h
 exact ⟨a,cap,T,h1,h2,h3,h5,h6⟩
theorem btG_lab {z x y : Int} {n : Nat} {G : Nat → Feat} (hs : SmallFs n G) (i : Nat) (hi : i < btM z x y n G) : (btG z x y n G i).lab.size ≤ 1048576 := by
 unfold btM at hi
 split at hi
 ·exact (hs.2 _ (chs_lt i hi)).2
 ·exact absurd hi (Nat.not_lt_zero _)
theorem SrcB.take {lo : Nat} {w : World} {a : Option Addr} {m : Nat} {T : Nat → Feat} {r : Nat} (h : SrcB lo w.heap.size w a m T) (hr : r < w.heap.size) : ∃ b,(m = 0 ∨ a = some ⟨b,0,none⟩) ∧ FsAt w b 0 m T ∧ b < w.heap.size := by
 rcases h with h | ⟨g,ea,⟨g1,g2⟩,h⟩
 ·exact ⟨r, .inl h,fun i hi => absurd hi (by omega),hr⟩
 ·refine ⟨g, .inr ea,fun i hi => ?_,g2⟩
  obtain ⟨hF,q,o,eq,⟨_,q2⟩,hp⟩ := h i hi
  rw [Nat.zero_add]
  exact ⟨hF, .inr ⟨q,o,eq,q2,hp⟩⟩
theorem impl_ServeTile_any (z x y : Int) (b n cap : Nat) (G : Nat → Feat) (w : World) (hg : FsAt w b 0 n G) (hbl : b < w.heap.size) (hs : SmallFs n G) (hcap : n ≤ cap) :
  Calls Tryz.prog 8 #[.slice (some ⟨b,0,none⟩) n cap,refV z x y] w fun e w' => ∃ v,e = .returned (.agg #[.int .i64 (svC z x y n G),v]) ∧ RowB w.heap.size w' v (svL z x y n G) ∧ Below w.heap.size w w' := by
 have HBT : Hid (∀ W,Below w.heap.size w W → Calls Tryz.prog 6 #[.slice (some ⟨b,0,none⟩) n cap, .agg #[.int .i64 z, .int .i64 x, .int .i64 y]] W (BsAns (btC z x y n G) (btK z x y n G z) (btK z x y n G x) (btK z x y n G y) (btM z x y n G) (btG z x y n G) W)) := fun W hW => (impl_BuildTile_any z x y b n cap G W (hg.below hW hbl) (Nat.lt_of_lt_of_le hbl hW.size) hs hcap).mono fun e w' h => h.bs
 have HM : Hid (btM z x y n G ≤ 12 ∧ (∀ i,i < btM z x y n G → (btG z x y n G i).n ≤ 12) ∧ ∀ i,i < btM z x y n G → (btG z x y n G i).lab.size ≤ 1048576) := ⟨(btM_ok z x y n G).1,(btM_ok z x y n G).2,btG_lab hs⟩
 have HC0 : Hid (btC z x y n G = 0 → svC z x y n G = plC (btM z x y n G) (btG z x y n G) ∧ svL z x y n G = plL (btM z x y n G) (btG z x y n G)) := fun h => by unfold svC svL; rw [if_pos h,if_pos h]; exact ⟨rfl,rfl⟩
 have HC1 : Hid (btC z x y n G ≠ 0 → svC z x y n G = btC z x y n G ∧ svL z x y n G = []) := fun h => by unfold svC svL; rw [if_neg h,if_neg h]; exact ⟨rfl,rfl⟩
 clear hg hs
 generalize btC z x y n G = C at *
 generalize btK z x y n G z = z' at *
 generalize btK z x y n G x = x' at *
 generalize btK z x y n G y = y' at *
 generalize btM z x y n G = M at *
 generalize btG z x y n G = GG at *
 unfold BsAns at HBT
 generalize svC z x y n G = SC at *
 generalize svL z x y n G = SL at *
 go_enter Tryz.func8,Tryz.ntmps8
 go_wp2_with fail
 generalize hW : ((w.alloc _).alloc _ : World) = W
 have HB0 : Hid (Below w.heap.size w W) := by show Below _ _ _; subst hW; (repeat (first|exact Qr _ _|assumption|refine Qd ?_|refine Qa ?_ _|refine Qt ?_|refine Qs ?_ _|refine Qo ?_ ?_ _ _))
 have hlW : W.heap.size = w.heap.size + 2 := by subst hW; simp
 have HT : Hid (There W (w.heap.size + 1) 2) := fun o ho => by
  subst hW
  match o,ho with
  | 0,_ => exact ⟨⟨_,by simp [go_sem]; rfl⟩,by simp [go_sem]⟩
  | 1,_ => exact ⟨⟨_,by simp [go_sem]; rfl⟩,by simp [go_sem]⟩
 clear hW
 refine Calls.mono (HBT.out _ HB0.out) ?_
 rintro e w1 ⟨a,c,T,rfl,hS,hsam,hc,hb1⟩
 have HS1 : Hid (SrcB W.heap.size w1.heap.size w1 a M T) := hS
 have HSAM : Hid (∀ i,i < M → (T i).same (GG i)) := hsam
 have HB1 : Hid (Below w.heap.size w w1) := bl_then HB0.out hb1
 have HT1 : Hid (There w1 (w.heap.size + 1) 2) := HT.out.below hb1
 have hs1 := hb1.size
 clear hS hsam hb1
 by_cases h0 : C = 0
 ·subst h0
  have HEE := (show Hid (_ ∧ _) from HC0.out rfl)
  clear HC0 HC1
  go_wp2_with fail
  generalize hV : (w1.alloc _ : World) = w2
  have hb2 : Below w1.heap.size w1 w2 := by subst hV; (repeat (first|exact Qr _ _|assumption|refine Qd ?_|refine Qa ?_ _|refine Qt ?_|refine Qs ?_ _|refine Qo ?_ ?_ _ _))
  have k0 : w2.cell? ⟨w1.heap.size,0,none⟩ = some (.int .i64 0) := by subst hV; simp [go_sem]
  have k4 : w2.cell? ⟨w1.heap.size,4,none⟩ = some (.slice a M c) := by subst hV; simp [go_sem]
  have hl2 : w1.heap.size < w2.heap.size := by subst hV; simp
  clear hV
  have HS2 : Hid (SrcB W.heap.size w2.heap.size w2 a M T) := HS1.out.up hb2 (by omega)
  have HB2 : Hid (Below w.heap.size w w2) := bl_then HB1.out hb2
  have hT2 := HT1.out.below hb2
  have HT2 : Hid (There w2 (w.heap.size + 1) 2) := hT2
  have hle : w.heap.size ≤ w.heap.size + 1 := Nat.le_succ _
  obtain ⟨r,hr⟩ : ∃ r,w.heap.size + 1 = r := ⟨_,rfl⟩
  rw [hr] at HT1 HT2 hle hT2 ⊢
  have hrW : r < W.heap.size := by omega
  clear hb2 HS1 hr hlW HT
  obtain ⟨e1,e2⟩ := HEE.out
  obtain ⟨bq,haa,hF,hbq⟩ := HS2.out.take (r := r) (by omega)
  obtain ⟨p1,p2⟩ := pl_same HSAM.out
  have hsm : SmallFs M T := ⟨by have := HM.out.1; omega,fun i hi => ⟨by have h1 := (HSAM.out i hi).2.2.2.2.1; have h2 := HM.out.2.1 i hi; omega,by rw [(HSAM.out i hi).2.2.2.2.2.2.2.1]; exact HM.out.2.2 i hi⟩⟩
  have HPK := (show Hid _ from impl_PackList_a a bq M c T haa w2 hF hbq hsm hc)
  rw [p1,p2, ← e1, ← e2] at HPK
  clear e1 e2 p1 p2 hF hsm haa hT2
  go_wp2_with fail
  refine Calls.mono HPK.out ?_
  rintro e w3 ⟨v3,rfl,hR3,hb3⟩
  obtain ⟨a3,c3,rfl,hc3,_⟩ := hR3.own.pts
  have HR3 : Hid (RowB w2.heap.size w3 (.slice a3 SL.length c3) SL) := hR3
  have hT3 := HT2.out.below hb3
  have HT3 : Hid (There w3 r 2) := hT3
  have HB3 : Hid (Below w.heap.size w w3) := bl_then HB2.out hb3
  have x0 := hT3.cell 0 (by omega)
  have x1 := hT3.cell 1 (by omega)
  have f0 := (hT3 0 (by omega)).2
  have f1 := (hT3 1 (by omega)).2
  clear hb3 hT3 hR3 k0 k4
  go_wp2_with fail
  have s0 : ((w3.setCell ⟨r,0,none⟩ (.int .i64 SC)).setCell ⟨r,1,none⟩ (.slice a3 SL.length c3)).cell? ⟨r,0,none⟩ = some (.int .i64 SC) := set2_0 (by rw [x0]; rfl)
  have s1 : ((w3.setCell ⟨r,0,none⟩ (.int .i64 SC)).setCell ⟨r,1,none⟩ (.slice a3 SL.length c3)).cell? ⟨r,1,none⟩ = some (.slice a3 SL.length c3) := set2_1 (by rw [x1]; rfl)
  have hBf : Below w.heap.size w ((w3.setCell ⟨r,0,none⟩ (.int .i64 SC)).setCell ⟨r,1,none⟩ (.slice a3 SL.length c3)) := (HB3.out.setCell (p := ⟨r,0,none⟩) hle _).setCell (p := ⟨r,1,none⟩) hle _
  have hRf : RowB w.heap.size ((w3.setCell ⟨r,0,none⟩ (.int .i64 SC)).setCell ⟨r,1,none⟩ (.slice a3 SL.length c3)) (.slice a3 SL.length c3) SL := (RowB.other (RowB.other HR3.out (by omega)) (by omega)).wide HB2.out.size
  generalize ((w3.setCell ⟨r,0,none⟩ (.int .i64 SC)).setCell ⟨r,1,none⟩ (.slice a3 SL.length c3)) = Wf at *
  exact bodyPost_ret (v := .agg #[.int .i64 SC, .slice a3 SL.length c3]) (by simp [results,Tryz.results8,go_sem,s0,s1]) rfl ⟨_,rfl,hRf,hBf⟩
 ·have hcb : (C == 0) = false := by simpa using h0
  obtain ⟨e1,e2⟩ := HC1.out h0
  subst e1
  subst e2
  clear HC0 HC1 h0
  have hle : w.heap.size ≤ w.heap.size + 1 := Nat.le_succ _
  have hT2 := HT1.out.below (bl_alloc (Below.refl _ _) (.cells #[.int .i64 SC, .int .i64 z', .int .i64 x', .int .i64 y', .slice a M c] 32))
  have HB2 : Hid (Below w.heap.size w (w1.alloc (.cells #[.int .i64 SC, .int .i64 z', .int .i64 x', .int .i64 y', .slice a M c] 32))) := bl_alloc HB1.out _
  have HT2 : Hid (There (w1.alloc (.cells #[.int .i64 SC, .int .i64 z', .int .i64 x', .int .i64 y', .slice a M c] 32)) (w.heap.size + 1) 2) := hT2
  have x0 := hT2.cell 0 (by omega)
  have x1 := hT2.cell 1 (by omega)
  have f0 := (hT2 0 (by omega)).2
  have f1 := (hT2 1 (by omega)).2
  clear hT2
  go_wp2_with fail
  generalize hV : (w1.alloc _ : World) = w2 at *
  clear hV
  have s0 : ((w2.setCell ⟨w.heap.size + 1,0,none⟩ (.int .i64 SC)).setCell ⟨w.heap.size + 1,1,none⟩ (.slice none 0 0)).cell? ⟨w.heap.size + 1,0,none⟩ = some (.int .i64 SC) := set2_0 (by rw [HT2.out.cell 0 (by omega)]; rfl)
  have s1 : ((w2.setCell ⟨w.heap.size + 1,0,none⟩ (.int .i64 SC)).setCell ⟨w.heap.size + 1,1,none⟩ (.slice none 0 0)).cell? ⟨w.heap.size + 1,1,none⟩ = some (.slice none 0 0) := set2_1 (by rw [HT2.out.cell 1 (by omega)]; rfl)
  have hBf : Below w.heap.size w ((w2.setCell ⟨w.heap.size + 1,0,none⟩ (.int .i64 SC)).setCell ⟨w.heap.size + 1,1,none⟩ (.slice none 0 0)) := (HB2.out.setCell (p := ⟨w.heap.size + 1,0,none⟩) hle _).setCell (p := ⟨w.heap.size + 1,1,none⟩) hle _
  exact bodyPost_ret (v := .agg #[.int .i64 SC, .slice none 0 0]) (by simp [results,Tryz.results8,go_sem,s0,s1]) rfl ⟨_,rfl,RowB.no _ _,hBf⟩
end Go.Proofs.YtfkonhagjahgnaaGreat
