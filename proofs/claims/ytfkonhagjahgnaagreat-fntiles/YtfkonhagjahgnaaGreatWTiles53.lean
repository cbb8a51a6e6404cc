/- Texts. -/
import Derived.Test.YtfkonhagjahgnaaGreatWTiles52
set_option linter.unusedSimpArgs false
set_option linter.unusedVariables false
set_option maxRecDepth 100000
set_option maxHeartbeats 32000000
namespace Go.Proofs.YtfkonhagjahgnaaGreat
open Go.RowKit
theorem src_fsZ {lo base m : Nat} {w : World} {a : Option Addr} {T : Nat → Feat} (h : SrcB lo base w a m T) (hB : base ≤ w.heap.size) (ho : Off0 m T) : FsZ w a m T := by
 refine ⟨h.isT hB,?_,fun i hi => ?_⟩
 ·rcases h with h0 | ⟨g,ea,_⟩
  ·exact .inl h0
  ·exact .inr ⟨g,ea⟩
 ·rcases h with h0 | ⟨g,ea,_,hF⟩
  ·omega
  ·obtain ⟨_,q,o,eq,⟨_,q2⟩,hp⟩ := hF i hi
   have e0 := ho i hi q o eq
   subst e0
   exact ⟨q,eq,by omega,hp⟩
theorem own_fsZ {lo hi m : Nat} {w : World} {a : Option Addr} {T : Nat → Feat} (h : IsFs w a m T) (hO : OwnR w lo hi a m (fun i => (T i).n) (fun i => (T i).cap)) : FsZ w a m T := by
 refine ⟨h,?_,fun i hi => ?_⟩
 ·rcases hO with h0 | ⟨g,q,ea,_⟩
  ·exact .inl h0
  ·exact .inr ⟨g,ea⟩
 ·rcases hO with h0 | ⟨g,q,ea,⟨_,_,h3⟩,_,h5,_⟩
  ·omega
  ·obtain ⟨⟨_,q2,_⟩,_,c1⟩ := h5 i hi
   rcases h with h0 | ⟨b,off,e,hbl,hF⟩
   ·omega
   ·rw [ea] at e
    injection e with e
    injection e with e1 e2
    subst e1
    subst e2
    obtain ⟨⟨_,_,_,_,c4,_,_⟩,hp⟩ := hF i hi
    rw [Nat.zero_add] at c4
    rw [c1] at c4
    injection c4 with c4
    injection c4 with c4 c5 c6
    refine ⟨q i,c4.symm,by omega,?_⟩
    rcases hp with h0 | ⟨q',o',e',_,hpt⟩
    ·intro j hj
     omega
    ·rw [← c4] at e'
     injection e' with e'
     injection e' with e1 e2
     subst e1
     subst e2
     exact hpt
theorem bt_read {z x y : Int} {n : Nat} {G : Nat → Feat} (hc : btC z x y n G = 0) : svC z x y n G = 0 ∧ svL z x y n G = plL (btM z x y n G) (btG z x y n G) ∧ tlC z x y (zz (plL (btM z x y n G) (btG z x y n G))) (plL (btM z x y n G) (btG z x y n G)).length = 0 ∧ tlL z x y (zz (plL (btM z x y n G) (btG z x y n G))) (plL (btM z x y n G) (btG z x y n G)).length = btX z x y n G ∧ ∀ v,tlK z x y (zz (plL (btM z x y n G) (btG z x y n G))) (plL (btM z x y n G) (btG z x y n G)).length v = v := by
 have hu := bt_up hc
 have h9 := plL_900 (btM z x y n G) (btG z x y n G)
 have hr := (btC_zero hc).1
 have uC : upC (zz (plL (btM z x y n G) (btG z x y n G))) (plL (btM z x y n G) (btG z x y n G)).length = 0 := by
  unfold upC
  rw [if_neg (by omega),hu]
 have uL : upL (zz (plL (btM z x y n G) (btG z x y n G))) (plL (btM z x y n G) (btG z x y n G)).length = btX z x y n G := by
  unfold upL
  rw [if_neg (by omega),hu]
  rfl
 have tC : tlC z x y (zz (plL (btM z x y n G) (btG z x y n G))) (plL (btM z x y n G) (btG z x y n G)).length = 0 := by
  unfold tlC
  rw [if_pos hr,uC]
 refine ⟨by unfold svC; rw [if_pos hc]; exact (bt_pl hc).1,by unfold svL; rw [if_pos hc],tC,?_,fun v => ?_⟩
 ·unfold tlL
  rw [tC,if_pos rfl,uL]
 ·unfold tlK
  rw [tC,if_pos rfl]
theorem equalIn_refT (n : Nat) (a b c a' b' c' : Int) (w : World) : (Op.equalIn (n + 2) 26 (.agg #[.int .i64 a, .int .i64 b, .int .i64 c]) (.agg #[.int .i64 a', .int .i64 b', .int .i64 c'])).run Tryz.prog w = .ok ((a == a') && ((b == b') && (c == c'))) w := by
 have hp0 : ∀ (x y z : Int) (w : World),(part 2 #[.int .i64 x, .int .i64 y, .int .i64 z] 0).run Tryz.prog w = .ok (.int .i64 x) w := fun _ _ _ _ => by kernel_rfl
 have hp1 : ∀ (x y z : Int) (w : World),(part 2 #[.int .i64 x, .int .i64 y, .int .i64 z] 1).run Tryz.prog w = .ok (.int .i64 y) w := fun _ _ _ _ => by kernel_rfl
 have hp2 : ∀ (x y z : Int) (w : World),(part 2 #[.int .i64 x, .int .i64 y, .int .i64 z] 2).run Tryz.prog w = .ok (.int .i64 z) w := fun _ _ _ _ => by kernel_rfl
 have hi := fun (a b : Int) (w : World) => run_equalIn_int (P := Tryz.prog) w n 2 .i64 .i64 a b Tryz.underlying2
 rw [run_equalIn_struct w (n + 1) 26 _ _ (by kernel_rfl) (by kernel_rfl)]
 simp [Op.eqFields,Program.fieldsOf,Tryz.underlying26,hp0,hp1,hp2,hi]
 by_cases h1 : a = a' <;> by_cases h2 : b = b' <;> by_cases h3 : c = c' <;> simp [h1,h2,h3]
theorem eql_refT (a b c : Int) (w : World) : (binOp .eql 26 (.agg #[.int .i64 a, .int .i64 b, .int .i64 c]) (.agg #[.int .i64 a, .int .i64 b, .int .i64 c])).run Tryz.prog w = .ok (.bool true) w := by
 rw [run_eql_struct,equalIn_refT 9998]
 simp
theorem FnTiles_walk (a : Option Addr) (n cap : Nat) (Z : Nat → Int) (w : World) (h : IsBytes w a n Z ∧ (∀ i,0 ≤ Z i ∧ Z i ≤ 255) ∧ n ≤ cap) :
  Calls Tryz.prog 3 #[.slice a n cap] w fun e w' => e = .returned (.bool true) ∧ Below w.heap.size w w' := by
 obtain ⟨hI,hR,hcap⟩ := h
 by_cases hbig : 1048576 < n
 ·exact FnTiles_big a n cap w hbig
 have hn1 : n ≤ 1048576 := by omega
 have HI : Hid (IsBytes w a n Z) := hI
 have HR : Hid (∀ i,0 ≤ Z i ∧ Z i ≤ 255) := hR
 have hn : decide (1048576 < (n : Int)) = false := by simp; omega
 clear hI hR hbig
 go_enter Tryz.func3,Tryz.ntmps3
 go_wp2_with fail
 refine (lwBig_any _ _ _ _).mono ?_
 rintro e w0 ⟨rfl,hw0⟩
 have hw0' := hw0.symm
 subst hw0'
 clear hw0
 go_wp2_with fail
 refine (DrawBuildTile_any a n cap Z _ HI.out HR.out hn1 hcap).mono ?_
 rintro e w1 ⟨g,m,c,G,z,x,y,rfl,⟨hmc,hm13,hgl,hF1,hS1⟩,hcG,hb1⟩
 have HF1 : Hid (FsAt w1 g 0 m G) := hF1
 have HS1 : Hid (SmallFs m G) := hS1
 have HCG : Hid (∀ i,i < m → (G i).n ≤ (G i).cap) := hcG
 have HB1 : Hid (Below w.heap.size w w1) := hb1
 clear hF1 hS1 hb1 hcG HI HR
 have HBI : Hid (∀ W,Below w1.heap.size w1 W → Calls Tryz.prog 6 #[.slice (some ⟨g,0,none⟩) m c, .agg #[.int .i64 z, .int .i64 x, .int .i64 y]] W (BoAns (btC z x y m G) (btK z x y m G z) (btK z x y m G x) (btK z x y m G y) (btM z x y m G) (btG z x y m G) W)) := fun W hW => (impl_BuildTile_any z x y g m c G W (HF1.out.below hW hgl) (Nat.lt_of_lt_of_le hgl hW.size) HS1.out hmc).mono fun e w' h => h.bo
 have HBS : Hid (∀ W,Below w1.heap.size w1 W → Calls Tryz.prog 7 #[.slice (some ⟨g,0,none⟩) m c, .agg #[.int .i64 z, .int .i64 x, .int .i64 y]] W (BoAns (btC z x y m G) (btK z x y m G z) (btK z x y m G x) (btK z x y m G y) (btM z x y m G) (btG z x y m G) W)) := fun W hW => spec_BuildTile_off z x y g m c G W (HF1.out.below hW hgl) (Nat.lt_of_lt_of_le hgl hW.size) HS1.out
 have HSV : Hid (∀ W,Below w1.heap.size w1 W → Calls Tryz.prog 8 #[.slice (some ⟨g,0,none⟩) m c, .agg #[.int .i64 z, .int .i64 x, .int .i64 y]] W fun e w' => ∃ v,e = .returned (.agg #[.int .i64 (svC z x y m G),v]) ∧ RowB W.heap.size w' v (svL z x y m G) ∧ Below W.heap.size W w') := fun W hW => impl_ServeTile_any z x y g m c G W (HF1.out.below hW hgl) (Nat.lt_of_lt_of_le hgl hW.size) HS1.out hmc
 unfold BoAns at HBI HBS
 go_wp2_with fail
 generalize hV : (w1.alloc _ : World) = V1
 have hbV : Below w1.heap.size w1 V1 := by subst hV; (repeat (first|exact Qr _ _|assumption|refine Qd ?_|refine Qa ?_ _|refine Qt ?_|refine Qs ?_ _|refine Qo ?_ ?_ _ _))
 have HRC1 : Hid (V1.cell? ⟨w1.heap.size,0,none⟩ = some (.int .i64 z) ∧ V1.cell? ⟨w1.heap.size,1,none⟩ = some (.int .i64 x) ∧ V1.cell? ⟨w1.heap.size,2,none⟩ = some (.int .i64 y)) := by refine ⟨?_,?_,?_⟩ <;> (subst hV; simp [go_sem])
 have hlV : w1.heap.size < V1.heap.size := by subst hV; simp
 clear hV
 refine (HBI.out _ hbV).mono ?_
 rintro e w2 ⟨at',ct,T,rfl,hS2,hsam2,hct,hof2,hb2⟩
 have HS2 : Hid (SrcB V1.heap.size w2.heap.size w2 at' (btM z x y m G) T) := hS2
 have HSAM : Hid (∀ i,i < btM z x y m G → (T i).same (btG z x y m G i)) := hsam2
 have HOF : Hid (Off0 (btM z x y m G) T) := hof2
 have HB2 : Hid (Below w1.heap.size w1 w2) := bl_then hbV hb2
 have HRC2 : Hid (∀ W',Below w2.heap.size w2 W' → W'.cell? ⟨w1.heap.size,0,none⟩ = some (.int .i64 z) ∧ W'.cell? ⟨w1.heap.size,1,none⟩ = some (.int .i64 x) ∧ W'.cell? ⟨w1.heap.size,2,none⟩ = some (.int .i64 y)) := fun W' h => ⟨bl_cellB (bl_then hb2 h) HRC1.out.1,bl_cellB (bl_then hb2 h) HRC1.out.2.1,bl_cellB (bl_then hb2 h) HRC1.out.2.2⟩
 have hs2 := hb2.size
 clear hS2 hsam2 hof2 hb2 hbV HRC1 HBI
 by_cases hC : btC z x y m G = 0
 ·have hr := (btC_zero hC).1
  have hfz := (btC_zero hC).2
  have hz : zoomB z = true := by simp [refB] at hr; exact hr.1
  obtain ⟨hxb,hyb⟩ := ref_bdB hr
  obtain ⟨hsv,hsl,htc,htl,htk⟩ := bt_read hC
  have hk : ∀ v,btK z x y m G v = v := fun v => by unfold btK; rw [if_pos hC]
  have hM12 := (btM_ok z x y m G).1
  have HN12 : Hid (∀ i,i < btM z x y m G → (btG z x y m G i).n ≤ 1048576 ∧ (btG z x y m G i).lab.size ≤ 1048576) := fun i hi => ⟨by have := (btM_ok z x y m G).2 i hi; omega,btG_lab HS1.out i hi⟩
  have HSML : Hid (∀ {T' : Nat → Feat},(∀ i,i < btM z x y m G → (T' i).same (btG z x y m G i)) → SmallFs (btM z x y m G) T') := fun {T'} hT => ⟨by omega,fun i hi => by
   have h5 := (hT i hi).2.2.2.2.1
   have h8 := (hT i hi).2.2.2.2.2.2.2.1
   rw [h5,h8]
   exact HN12.out i hi⟩
  have HNC : Hid (∀ k,k < m → hasB (fun j => (T j).id) (G k).id (btM z x y m G) = false → ∀ q : Nat,q < 64 → covT z (centI z (x * 8 + ((q % 8 : Nat) : Int))) (centI z (y * 8 + ((q / 8 : Nat) : Int))) (G k) = false) := fun k hkm hno q hq => by
   refine not_cov hC k hkm ?_ _ _ (by omega) (by omega)
   rw [← hasB_congr (fun j hj => (HSAM.out j hj).1)]
   exact hno
  have HOK : Hid (∀ i,i < m → okC (G i)) := (featsC_ok hfz).2.2
  have HDC : Hid (∀ W k,Below w1.heap.size w1 W → k < m → ∀ X Y : Int,Calls Tryz.prog 9 #[.agg #[.int .i64 (G k).id, .int .i64 (G k).la, .int .i64 (G k).ki, .int .i64 (G k).wi, .slice (G k).a (G k).n (G k).cap, .string (G k).lab, .int .i64 (G k).pr], .int .i64 z, .int .i64 X, .int .i64 Y] W fun e w' => e = .returned (.bool (pixB z X Y && covT z (centI z X) (centI z Y) (G k))) ∧ Below W.heap.size W w') := fun W k hW hkm X Y => by
   have hok := HOK.out k hkm
   have hn0 : 0 < (G k).n := (featC_zero hok).2.1
   obtain ⟨q,o,ea,hql,hpt⟩ : ∃ q o,(G k).a = some ⟨q,o,none⟩ ∧ q < W.heap.size ∧ PtsAt W q o (G k).n (G k).X (G k).Y := by
    rcases ((HF1.out.below hW hgl) k hkm).2 with h' | ⟨q,o,e,hl,hp⟩
    ·omega
    ·exact ⟨q,o,e,hl,hp⟩
   have hcz : (0 : Int) = simpC z (featC (G k).id (G k).la (G k).ki (G k).wi (G k).n (G k).X (G k).Y (G k).lab (G k).pr) := by unfold simpC; rw [if_pos hz]; exact hok.symm
   have hh := impl_DoesCover_any (G k).id (G k).la (G k).ki (G k).wi z X Y q (G k).n (G k).cap (G k).X (G k).Y (G k).lab (G k).pr (thinOf z (G k)) W hpt hql (HS1.out.2 k hkm).1 (HCG.out k hkm) (HS1.out.2 k hkm).2 (thinOf_spec z (G k)) 0 hcz
   rw [ea]
   refine hh.mono fun e w' ⟨h1,h2⟩ => ⟨?_,h2⟩
   rw [h1]
   congr 2
  have HRD : Hid (∀ W a5 c5,IsBytes W a5 (plL (btM z x y m G) (btG z x y m G)).length (zz (plL (btM z x y m G) (btG z x y m G))) → (plL (btM z x y m G) (btG z x y m G)).length ≤ c5 → Calls Tryz.prog 10 #[.agg #[.int .i64 z, .int .i64 x, .int .i64 y], .slice a5 (plL (btM z x y m G) (btG z x y m G)).length c5] W fun e w' => ∃ a6 c6 T6,e = .returned (.agg #[.int .i64 0, .int .i64 z, .int .i64 x, .int .i64 y, .slice a6 (btM z x y m G) c6]) ∧ FsZ w' a6 (btM z x y m G) T6 ∧ (∀ i,i < btM z x y m G → (T6 i).same (btG z x y m G i)) ∧ Below W.heap.size W w') := fun W a5 c5 hI hcp => by
   have h9 := plL_900 (btM z x y m G) (btG z x y m G)
   have hh := impl_ReadTile_a z x y a5 _ c5 _ W hI hcp (zz_byt (plL_byt _ _)) (by omega)
   rw [htc,htl,htk,htk,htk] at hh
   unfold TlAns at hh
   rw [btX_len] at hh
   refine hh.mono ?_
   rintro e w' ⟨a6,c6,T6,h1,h2,h3,h4,h5⟩
   exact ⟨a6,c6,T6,h1,own_fsZ h2 h4,fun i hi => Feat.same_trans (h3 i hi) (Feat.same_symm (btX_same hC i hi)),h5⟩
  have hst : stC z x y (btM z x y m G) T = 0 ∧ stN z x y (btM z x y m G) T = stN z x y (btM z x y m G) (btG z x y m G) := by
   obtain ⟨s1,s2⟩ := st_same (z := z) (x := x) (y := y) HSAM.out
   refine ⟨?_,s2⟩
   rw [s1]
   unfold stC
   have hrc : refC z x y = 0 := by
    rcases refC_cases z x y with ⟨h,_⟩ | ⟨_,h⟩
    ·exact h
    ·rw [hr] at h; cases h
   rw [if_pos hrc]
   exact (bt_pl hC).1
  have HSU : Hid (∀ W,Below w2.heap.size w2 W → Calls Tryz.prog 11 #[.agg #[.int .i64 z, .int .i64 x, .int .i64 y, .slice at' (btM z x y m G) ct]] W fun e w' => e = .returned (.agg #[.int .i64 0, .int .i64 (stN z x y (btM z x y m G) (btG z x y m G))]) ∧ Below W.heap.size W w') := fun W hW => by
   obtain ⟨b',haa,hF,hb'⟩ := ((HS2.out.up hW (Nat.le_refl _)).topT hW.size).take (r := w1.heap.size) (by have := hW.size; omega)
   have hh := impl_SumTile_a z x y at' b' _ ct T haa W hF hb' (HSML.out HSAM.out) hct
   rw [hst.1,hst.2] at hh
   exact hh
  have HSS : Hid (∀ W,Below w2.heap.size w2 W → Calls Tryz.prog 13 #[.agg #[.int .i64 z, .int .i64 x, .int .i64 y, .slice at' (btM z x y m G) ct]] W fun e w' => e = .returned (.agg #[.int .i64 0, .int .i64 (stN z x y (btM z x y m G) (btG z x y m G))]) ∧ Below W.heap.size W w') := fun W hW => by
   obtain ⟨b',haa,hF,hb'⟩ := ((HS2.out.up hW (Nat.le_refl _)).topT hW.size).take (r := w1.heap.size) (by have := hW.size; omega)
   have hh := spec_SumTile_a z x y at' b' _ ct T haa W hF hb' (HSML.out HSAM.out) hct
   rw [hst.1,hst.2] at hh
   exact hh
  have HZT : Hid (∀ W,Below w2.heap.size w2 W → FsZ W at' (btM z x y m G) T) := fun W hW => src_fsZ (HS2.out.up hW (Nat.le_refl _)) hW.size HOF.out
  have HM1 : Hid (∀ W a6 c6 T6,Below w2.heap.size w2 W → FsZ W a6 (btM z x y m G) T6 → (∀ i,i < btM z x y m G → (T6 i).same (btG z x y m G i)) → Calls Tryz.prog 12 #[.slice a6 (btM z x y m G) c6, .slice at' (btM z x y m G) ct] W fun e w' => e = .returned (.bool true) ∧ Below W.heap.size W w') := fun W a6 c6 T6 hW hZ hs => sameFs_any a6 at' _ c6 ct T6 T W hZ (HZT.out W hW) (fun i hi => Feat.same_trans (hs i hi) (Feat.same_symm (HSAM.out i hi))) (HSML.out HSAM.out)
  have HM2 : Hid (∀ W a7 c7 T7,Below w2.heap.size w2 W → FsZ W a7 (btM z x y m G) T7 → (∀ i,i < btM z x y m G → (T7 i).same (btG z x y m G i)) → Calls Tryz.prog 12 #[.slice at' (btM z x y m G) ct, .slice a7 (btM z x y m G) c7] W fun e w' => e = .returned (.bool true) ∧ Below W.heap.size W w') := fun W a7 c7 T7 hW hZ hs => sameFs_any at' a7 _ ct c7 T T7 W (HZT.out W hW) hZ (fun i hi => Feat.same_trans (HSAM.out i hi) (Feat.same_symm (hs i hi))) (HSML.out hs)
  have HBS2 : Hid (∀ W,Below w1.heap.size w1 W → Calls Tryz.prog 7 #[.slice (some ⟨g,0,none⟩) m c, .agg #[.int .i64 z, .int .i64 x, .int .i64 y]] W fun e w' => ∃ a7 c7 T7,e = .returned (.agg #[.int .i64 0, .int .i64 z, .int .i64 x, .int .i64 y, .slice a7 (btM z x y m G) c7]) ∧ FsZ w' a7 (btM z x y m G) T7 ∧ (∀ i,i < btM z x y m G → (T7 i).same (btG z x y m G i)) ∧ Below W.heap.size W w') := fun W hW => (HBS.out W hW).mono fun e w' ⟨a7,c7,T7,h1,h2,h3,_,h5,h6⟩ => ⟨a7,c7,T7,by rw [h1,hC,hk,hk,hk],src_fsZ h2 (Nat.le_refl _) h5,h3,h6⟩
  rw [hsv,hsl] at HSV
  have HIT : Hid (∀ W,Below w2.heap.size w2 W → IsFs W at' (btM z x y m G) T) := fun W hW => (HZT.out W hW).1
  rw [hC,hk,hk,hk]
  generalize stN z x y (btM z x y m G) (btG z x y m G) = sn at *
  generalize plL (btM z x y m G) (btG z x y m G) = SL at *
  generalize btG z x y m G = GG at *
  generalize btM z x y m G = M at *
  clear HBS HS2 HSAM HOF HN12 HSML hst htc htl htk hk hsv hsl hC hr hfz HOK HZT
  go_wp2_with fail
  generalize hV : (w2.alloc _ : World) = V2
  have hbV : Below w2.heap.size w2 V2 := by subst hV; (repeat (first|exact Qr _ _|assumption|refine Qd ?_|refine Qa ?_ _|refine Qt ?_|refine Qs ?_ _|refine Qo ?_ ?_ _ _))
  have hl2 : w2.heap.size < V2.heap.size := by subst hV; simp
  have HT5 : Hid (T5At V2 w2.heap.size 0 z x y (.slice at' M ct)) := by show T5At _ _ _ _ _ _ _; subst hV; exact ⟨by simp [go_sem],by simp [go_sem],by simp [go_sem],by simp [go_sem],by simp [go_sem]⟩
  clear hV
  have HBV2 : Hid (Below w1.heap.size w1 V2) := bl_then HB2.out hbV
  have HVV : Hid (Below w2.heap.size w2 V2) := hbV
  have h12 := HB2.out.size
  clear hbV
  go_loopw [6] (fun i wr => ∃ k : Nat,k ≤ m ∧ i = .int .i64 (k : Int) ∧ Below V2.heap.size V2 wr) (fun i _ => m - (intOf i).toNat)
  case atStart => exact ⟨0,by omega,rfl,Below.refl _ _⟩
  case round =>
   obtain ⟨k,hkm,rfl,hBr⟩ := hrel
   have HBr : Hid (Below V2.heap.size V2 wr) := hBr
   clear hBr
   by_cases hlt : k < m
   ·go_wp2_with fail
    go_loopw [7,8] (fun b j wr2 => ∃ j' : Nat,j' ≤ M ∧ j = .int .i64 (j' : Int) ∧ b = .bool (hasB (fun j => (T j).id) (G k).id j') ∧ Below V2.heap.size V2 wr2) (fun _ j _ => M - (intOf j).toNat)
    case atStart => exact ⟨0,by omega,rfl,rfl,HBr.out⟩
    case round =>
     obtain ⟨j',hjM,rfl,rfl,hB2r⟩ := hrel
     have HBj : Hid (Below V2.heap.size V2 wr) := hB2r
     have hsj := hB2r.size
     clear hB2r
     obtain ⟨k0,k1,k2,k3,k4⟩ := HT5.out.below HBj.out
     by_cases hj : j' < M
     ·rcases HIT.out wr (bl_then HVV.out HBj.out) with h0 | ⟨b1,o1,ea,hbl1,hFs⟩
      ·omega
      rw [ea] at k4
      have q0 := (hFs j' hj).1.1
      have g0 : wr.cell? ⟨g,k * 7,none⟩ = some (.int .i64 (G k).id) := by
       have := ((HF1.out.below (bl_then HBV2.out HBj.out) hgl) k hlt).1.1
       rwa [Nat.zero_add] at this
      have hgw : g < wr.heap.size := by have := (bl_then HBV2.out HBj.out).size; omega
      have hi1 : (k : Int) < (m : Int) := by omega
      have hi0 : (0 : Int) ≤ (k : Int) := by omega
      have hj1 : (j' : Int) < (M : Int) := by omega
      have hj0 : (0 : Int) ≤ (j' : Int) := by omega
      have hw2 : w2.heap.size < wr.heap.size := by omega
      clear hFs k0 k1 k2 k3
      cases hb : hasB (fun j => (T j).id) (G k).id j'
      ·have hnx : hasB (fun j => (T j).id) (G k).id (j' + 1) = decide ((T j').id = (G k).id) := by
        show (hasB (fun j => (T j).id) (G k).id j' || decide ((T j').id = (G k).id)) = _
        rw [hb]
        rfl
       go_wp2_with fail
       go_quiet (fail)
       have hd8 : Below wr.heap.size wr (wr.drewN nq) := ⟨rfl,rfl,rfl,Nat.le_refl _,fun _ _ => rfl⟩
       generalize hw8 : wr.drewN nq = w8 at *
       clear hw8
       go_wp2_with fail
       go_roundw
       case rel => exact ⟨j' + 1,by omega,by go_num,by rw [hnx]; first | rfl | (congr 1; simp) | (simp),bl_then HBj.out hd8⟩
       case measure => simp [intOf]; omega
      ·have hnx : hasB (fun j => (T j).id) (G k).id (j' + 1) = true := by
        show (hasB (fun j => (T j).id) (G k).id j' || decide ((T j').id = (G k).id)) = _
        rw [hb]
        rfl
       go_wp2_with fail
       go_quiet (fail)
       have hd8 : Below wr.heap.size wr (wr.drewN nq) := ⟨rfl,rfl,rfl,Nat.le_refl _,fun _ _ => rfl⟩
       generalize hw8 : wr.drewN nq = w8 at *
       clear hw8
       go_wp2_with fail
       go_roundw
       case rel => exact ⟨j' + 1,by omega,by go_num,by rw [hnx],bl_then HBj.out hd8⟩
       case measure => simp [intOf]; omega
     ·obtain rfl : M = j' := by omega
      have hji : ¬ (M : Int) < (M : Int) := by omega
      cases hb : hasB (fun j => (T j).id) (G k).id M
      ·have HCV := (show Hid (∀ q : Nat,q < 64 → covT z (centI z (x * 8 + ((q % 8 : Nat) : Int))) (centI z (y * 8 + ((q / 8 : Nat) : Int))) (G k) = false) from HNC.out k hlt hb)
       go_wp2_with fail
       clear k0 k1 k2 k3 k4
       go_loopw [9] (fun q wr3 => ∃ q' : Nat,q' ≤ 64 ∧ q = .int .i64 (q' : Int) ∧ Below V2.heap.size V2 wr3) (fun q _ => 64 - (intOf q).toNat)
       case atStart => exact ⟨0,by omega,rfl,HBj.out⟩
       case round =>
        obtain ⟨q',hq64,rfl,hB3r⟩ := hrel
        have HBq : Hid (Below V2.heap.size V2 wr) := hB3r
        clear hB3r
        by_cases hq : q' < 64
        ·have hq1 : (q' : Int) < 64 := by omega
         have hfa := ((HF1.out.below (bl_then HBV2.out HBq.out) hgl) k hlt).1
         rw [Nat.zero_add] at hfa
         have hgw : g < wr.heap.size := by have := (bl_then HBV2.out HBq.out).size; omega
         have d0 : ∀ W',Below wr.heap.size wr W' → W'.cell? ⟨w1.heap.size,0,none⟩ = some (.int .i64 z) := fun W' h => (HRC2.out W' (bl_then HVV.out (bl_then HBq.out h))).1
         have d1 : ∀ W',Below wr.heap.size wr W' → W'.cell? ⟨w1.heap.size,1,none⟩ = some (.int .i64 x) := fun W' h => (HRC2.out W' (bl_then HVV.out (bl_then HBq.out h))).2.1
         have d2 : ∀ W',Below wr.heap.size wr W' → W'.cell? ⟨w1.heap.size,2,none⟩ = some (.int .i64 y) := fun W' h => (HRC2.out W' (bl_then HVV.out (bl_then HBq.out h))).2.2
         have f0 : ∀ W',Below wr.heap.size wr W' → W'.cell? ⟨g,k * 7,none⟩ = some (.int .i64 (G k).id) := fun W' h => (hfa.below h hgw).1
         have f1 : ∀ W',Below wr.heap.size wr W' → W'.cell? ⟨g,k * 7 + 1,none⟩ = some (.int .i64 (G k).la) := fun W' h => (hfa.below h hgw).2.1
         have f2 : ∀ W',Below wr.heap.size wr W' → W'.cell? ⟨g,k * 7 + 2,none⟩ = some (.int .i64 (G k).ki) := fun W' h => (hfa.below h hgw).2.2.1
         have f3 : ∀ W',Below wr.heap.size wr W' → W'.cell? ⟨g,k * 7 + 3,none⟩ = some (.int .i64 (G k).wi) := fun W' h => (hfa.below h hgw).2.2.2.1
         have f4 : ∀ W',Below wr.heap.size wr W' → W'.cell? ⟨g,k * 7 + 4,none⟩ = some (.slice (G k).a (G k).n (G k).cap) := fun W' h => (hfa.below h hgw).2.2.2.2.1
         have f5 : ∀ W',Below wr.heap.size wr W' → W'.cell? ⟨g,k * 7 + 5,none⟩ = some (.string (G k).lab) := fun W' h => (hfa.below h hgw).2.2.2.2.2.1
         have f6 : ∀ W',Below wr.heap.size wr W' → W'.cell? ⟨g,k * 7 + 6,none⟩ = some (.int .i64 (G k).pr) := fun W' h => (hfa.below h hgw).2.2.2.2.2.2
         have hi1 : (k : Int) < (m : Int) := by omega
         have hi0 : (0 : Int) ≤ (k : Int) := by omega
         have em : (q' : Int).tmod 8 = ((q' % 8 : Nat) : Int) := by rw [Int.tmod_eq_emod_of_nonneg (by omega)]; omega
         have ed : (q' : Int).tdiv 8 = ((q' / 8 : Nat) : Int) := by rw [Int.tdiv_eq_ediv_of_nonneg (by omega)]; omega
         have p1 : IntKind.i64.wrap (x * 8) = x * 8 := IntWalk.i64_in _ (by omega)
         have p2 : IntKind.i64.wrap (y * 8) = y * 8 := IntWalk.i64_in _ (by omega)
         have p3 : IntKind.i64.wrap (x * 8 + ((q' % 8 : Nat) : Int)) = x * 8 + ((q' % 8 : Nat) : Int) := IntWalk.i64_in _ (by omega)
         have p4 : IntKind.i64.wrap (y * 8 + ((q' / 8 : Nat) : Int)) = y * 8 + ((q' / 8 : Nat) : Int) := IntWalk.i64_in _ (by omega)
         have p5 : IntKind.i64.wrap ((q' / 8 : Nat) : Int) = ((q' / 8 : Nat) : Int) := IntWalk.i64_in _ (by omega)
         have HDK : Hid (∀ W',Below wr.heap.size wr W' → Calls Tryz.prog 9 #[.agg #[.int .i64 (G k).id, .int .i64 (G k).la, .int .i64 (G k).ki, .int .i64 (G k).wi, .slice (G k).a (G k).n (G k).cap, .string (G k).lab, .int .i64 (G k).pr], .int .i64 z, .int .i64 (x * 8 + ((q' % 8 : Nat) : Int)), .int .i64 (y * 8 + ((q' / 8 : Nat) : Int))] W' fun e w' => e = .returned (.bool false) ∧ Below W'.heap.size W' w') := fun W' h => by
          have hh := HDC.out W' k (bl_then HBV2.out (bl_then HBq.out h)) hlt (x * 8 + ((q' % 8 : Nat) : Int)) (y * 8 + ((q' / 8 : Nat) : Int))
          rw [HCV.out q' hq,Bool.and_false] at hh
          exact hh
         generalize ((q' % 8 : Nat) : Int) = qm at *
         generalize ((q' / 8 : Nat) : Int) = qd at *
         clear hfa HSV HRD HSU HSS HM1 HM2 HBS2 HIT HNC HDC HCV HF1 HS1 HCG HB1 HT5 HRC2 HB2 HVV HBV2 HBr HBj hcap hn1 hn hmc hct hs2 hlV hl2 h12 hM12 hsj hm13 hxb hyb hgl hji hb hz hjM
         go_wp2_with fail
         refine wp_region_noPanic ?_
         refine wp_region_held_drew (S := fun W' => Below wr.heap.size wr W') (by kernel_rfl) (by (repeat (first|exact Qr _ _|assumption|refine Qd ?_|refine Qa ?_ _|refine Qt ?_|refine Qs ?_ _|refine Qo ?_ ?_ _ _))) (fun hHeld => ?_)
         have hX0 : Below wr.heap.size wr wr.drew := hHeld
         refine takeK (i := 0) (d := some 80) (v := ?vz0) rfl rfl (Or.inl ⟨by rfl,?hyz0⟩) hX0 ?_
         case hyz0 => (intro w hSw; (try dsimp only at hSw); go_simp <;> with_reducible rfl)
         try simp only [Act.put,Qx,Qy,Qz]
         refine takeK (i := 1) (d := some 81) (v := ?vz1) rfl rfl (Or.inl ⟨by rfl,?hyz1⟩) hX0 ?_
         case hyz1 => (intro w hSw; (try dsimp only at hSw); go_simp <;> with_reducible rfl)
         try simp only [Act.put,Qx,Qy,Qz]
         refine takeK (i := 2) (d := some 82) (v := ?vz2) rfl rfl (Or.inl ⟨by rfl,?hyz2⟩) hX0 ?_
         case hyz2 => (intro w hSw; (try dsimp only at hSw); go_simp <;> with_reducible rfl)
         try simp only [Act.put,Qx,Qy,Qz]
         refine takeK (i := 3) (d := some 83) (v := ?vz3) rfl rfl (Or.inl ⟨by rfl,?hyz3⟩) hX0 ?_
         case hyz3 => (intro w hSw; (try dsimp only at hSw); go_simp <;> with_reducible rfl)
         try simp only [Act.put,Qx,Qy,Qz]
         refine takeK (i := 4) (d := some 84) (v := ?vz4) rfl rfl (Or.inl ⟨by rfl,?hyz4⟩) hX0 ?_
         case hyz4 => (intro w hSw; (try dsimp only at hSw); go_simp <;> with_reducible rfl)
         try simp only [Act.put,Qx,Qy,Qz]
         refine takeK (i := 5) (d := some 85) (v := ?vz5) rfl rfl (Or.inl ⟨by rfl,?hyz5⟩) hX0 ?_
         case hyz5 => (intro w hSw; (try dsimp only at hSw); go_simp <;> with_reducible rfl)
         try simp only [Act.put,Qx,Qy,Qz]
         refine takeK (i := 6) (d := some 86) (v := ?vz6) rfl rfl (Or.inl ⟨by rfl,?hyz6⟩) hX0 ?_
         case hyz6 => (intro w hSw; (try dsimp only at hSw); go_simp <;> with_reducible rfl)
         try simp only [Act.put,Qx,Qy,Qz]
         refine takeK (i := 7) (d := some 87) (v := ?vz7) rfl rfl (Or.inl ⟨by rfl,?hyz7⟩) hX0 ?_
         case hyz7 => (intro w hSw; (try dsimp only at hSw); go_simp <;> with_reducible rfl)
         try simp only [Act.put,Qx,Qy,Qz]
         refine takeK (i := 8) (d := some 88) (v := ?vz8) rfl rfl (Or.inl ⟨by rfl,?hyz8⟩) hX0 ?_
         case hyz8 => (intro w hSw; (try dsimp only at hSw); go_simp <;> with_reducible rfl)
         try simp only [Act.put,Qx,Qy,Qz]
         refine takeK (i := 9) (d := some 89) (v := ?vz9) rfl rfl (Or.inl ⟨by rfl,?hyz9⟩) hX0 ?_
         case hyz9 => (intro w hSw; (try dsimp only at hSw); go_simp <;> with_reducible rfl)
         try simp only [Act.put,Qx,Qy,Qz]
         refine takeK (i := 10) (d := some 90) (v := ?vz10) rfl rfl (Or.inl ⟨by rfl,?hyz10⟩) hX0 ?_
         case hyz10 => (intro w hSw; (try dsimp only at hSw); go_simp <;> with_reducible rfl)
         try simp only [Act.put,Qx,Qy,Qz]
         refine takeK (i := 11) (d := some 91) (v := ?vz11) rfl rfl (Or.inl ⟨by rfl,?hyz11⟩) hX0 ?_
         case hyz11 => (intro w hSw; (try dsimp only at hSw); go_simp <;> with_reducible rfl)
         try simp only [Act.put,Qx,Qy,Qz]
         refine takeK (i := 12) (d := some 92) (v := ?vz12) rfl rfl (Or.inl ⟨by rfl,?hyz12⟩) hX0 ?_
         case hyz12 => (intro w hSw; (try dsimp only at hSw); go_simp <;> with_reducible rfl)
         try simp only [Act.put,Qx,Qy,Qz]
         refine takeK (i := 13) (d := some 93) (v := ?vz13) rfl rfl (Or.inl ⟨by rfl,?hyz13⟩) hX0 ?_
         case hyz13 => (intro w hSw; (try dsimp only at hSw); go_simp <;> with_reducible rfl)
         try simp only [Act.put,Qx,Qy,Qz]
         refine takeK (i := 14) (d := some 94) (v := ?vz14) rfl rfl (Or.inl ⟨by rfl,?hyz14⟩) hX0 ?_
         case hyz14 => (intro w hSw; (try dsimp only at hSw); go_simp <;> with_reducible rfl)
         try simp only [Act.put,Qx,Qy,Qz]
         refine takeK (i := 15) (d := some 95) (v := ?vz15) rfl rfl (Or.inl ⟨by rfl,?hyz15⟩) hX0 ?_
         case hyz15 => (intro w hSw; (try dsimp only at hSw); go_simp <;> with_reducible rfl)
         try simp only [Act.put,Qx,Qy,Qz]
         refine takeK (i := 16) (d := some 96) (v := ?vz16) rfl rfl (Or.inl ⟨by rfl,?hyz16⟩) hX0 ?_
         case hyz16 => (intro w hSw; (try dsimp only at hSw); go_simp <;> with_reducible rfl)
         try simp only [Act.put,Qx,Qy,Qz]
         refine takeK (i := 17) (d := some 97) (v := ?vz17) rfl rfl (Or.inl ⟨by rfl,?hyz17⟩) hX0 ?_
         case hyz17 => (intro w hSw; (try dsimp only at hSw); go_simp <;> with_reducible rfl)
         try simp only [Act.put,Qx,Qy,Qz]
         refine wpAnyH_ready (rs := [18]) (by kernel_rfl) (by simp) ?_
         refine (AllReadyH.cons rfl (fun K hK => ?_) AllReadyH.nil)
         rw [if_pos (by rfl)]
         go_simp
         refine Calls.mono (HDK.out _ hX0) ?_
         rintro e w9 ⟨rfl,hb9⟩
         have hB9 : Below wr.heap.size wr w9 := bl_then hX0 hb9
         go_wp2_with fail
         refine hK.out _ _ hB9 (fun hHeld => ?_)
         clear hK K
         try simp only [Act.put,Qx,Qy,Qz]
         refine wpAnyH_done (by kernel_rfl) ?_ _
         refine NoPanic.normal ?_
         have HB9 : Hid (Below V2.heap.size V2 w9) := bl_then HBq.out hB9
         clear d0 d1 d2 f0 f1 f2 f3 f4 f5 f6
         go_wp2_with fail
         go_roundw
         case rel => exact ⟨q' + 1,by omega,by go_num,HB9.out⟩
         case measure => simp [intOf]; omega
        ·have hq1 : ¬ (q' : Int) < 64 := by omega
         go_wp2_with fail
         go_roundw
         case rel => exact ⟨k + 1,by omega,by go_num,HBq.out⟩
         case measure => simp [intOf]; omega
      ·go_wp2_with fail
       clear k0 k1 k2 k3 k4
       go_loopw [9] (fun q wr3 => ∃ q' : Nat,q' ≤ 64 ∧ q = .int .i64 (q' : Int) ∧ Below V2.heap.size V2 wr3) (fun q _ => 64 - (intOf q).toNat)
       case atStart => exact ⟨0,by omega,rfl,HBj.out⟩
       case round =>
        obtain ⟨q',hq64,rfl,hB3r⟩ := hrel
        have HBq : Hid (Below V2.heap.size V2 wr) := hB3r
        clear hB3r
        by_cases hq : (q' : Int) < 64
        ·go_wp2_with fail
         go_roundw
         case rel => exact ⟨k + 1,by omega,by go_num,HBq.out⟩
         case measure => simp [intOf]; omega
        ·go_wp2_with fail
         go_roundw
         case rel => exact ⟨k + 1,by omega,by go_num,HBq.out⟩
         case measure => simp [intOf]; omega
   ·obtain rfl : m = k := by omega
    have hii : ¬ (m : Int) < (m : Int) := by omega
    have hW2 : Below w2.heap.size w2 wr := bl_then HVV.out HBr.out
    obtain ⟨d0,d1,d2⟩ := HRC2.out wr hW2
    have hw1 : w1.heap.size < wr.heap.size := by have := hW2.size; omega
    have HW2 : Hid (Below w2.heap.size w2 wr) := hW2
    clear hW2
    go_wp2_with fail
    refine (HSV.out wr (bl_then HBV2.out HBr.out)).mono ?_
    rintro e w5 ⟨v5,rfl,hR5,hb5⟩
    obtain ⟨a5,c5,rfl,hc5,hI5⟩ := hR5.own.pts
    have HW5 : Hid (Below w2.heap.size w2 w5) := bl_then HW2.out hb5
    have HI5 : Hid (IsBytes w5 a5 SL.length (zz SL)) := hI5
    have HV5 : Hid (Below V2.heap.size V2 w5) := bl_then HBr.out hb5
    obtain ⟨e0,e1,e2⟩ := HRC2.out w5 HW5.out
    have hw5 : w1.heap.size < w5.heap.size := by have := HW5.out.size; omega
    clear d0 d1 d2 hR5 hI5 hb5
    go_wp2_with fail
    generalize hV : (w5.alloc _ : World) = V3
    have hbV : Below w5.heap.size w5 V3 := by subst hV; (repeat (first|exact Qr _ _|assumption|refine Qd ?_|refine Qa ?_ _|refine Qt ?_|refine Qs ?_ _|refine Qo ?_ ?_ _ _))
    have HS3 : Hid (V3.cell? ⟨w5.heap.size,0,none⟩ = some (.int .i64 0)) := by show _ = _; subst hV; simp [go_sem]
    clear hV
    have HW3 : Hid (Below w2.heap.size w2 V3) := bl_then HW5.out hbV
    have HVb3 : Hid (Below V2.heap.size V2 V3) := bl_then HV5.out hbV
    refine (HRD.out V3 a5 c5 (HI5.out.below hbV) hc5).mono ?_
    rintro e w6 ⟨a6,c6,T6,rfl,hZ6,hs6,hb6⟩
    have HZ6 : Hid (FsZ w6 a6 M T6) := hZ6
    have HS6 : Hid (∀ i,i < M → (T6 i).same (GG i)) := hs6
    have HC6 : Hid (w6.cell? ⟨w5.heap.size,0,none⟩ = some (.int .i64 0)) := bl_cellB hb6 HS3.out
    have HW6 : Hid (Below w2.heap.size w2 w6) := bl_then HW3.out hb6
    have HV6 : Hid (Below V2.heap.size V2 w6) := bl_then HVb3.out hb6
    obtain ⟨k0,k1,k2,k3,k4⟩ := HT5.out.below HV6.out
    have hw6 : w2.heap.size < w6.heap.size := by have := HV6.out.size; omega
    clear e0 e1 e2 hZ6 hs6 hb6 hbV HS3
    go_wp2_with fail
    generalize hV : (w6.alloc _ : World) = V4
    have hbV : Below w6.heap.size w6 V4 := by subst hV; (repeat (first|exact Qr _ _|assumption|refine Qd ?_|refine Qa ?_ _|refine Qt ?_|refine Qs ?_ _|refine Qo ?_ ?_ _ _))
    have HB4 : Hid (T5At V4 w6.heap.size 0 z x y (.slice a6 M c6)) := by show T5At _ _ _ _ _ _ _; subst hV; exact ⟨by simp [go_sem],by simp [go_sem],by simp [go_sem],by simp [go_sem],by simp [go_sem]⟩
    clear hV k0 k1 k2 k3 k4
    have HW4 : Hid (Below w2.heap.size w2 V4) := bl_then HW6.out hbV
    have HV4 : Hid (Below V2.heap.size V2 V4) := bl_then HV6.out hbV
    have HC4 : Hid (V4.cell? ⟨w5.heap.size,0,none⟩ = some (.int .i64 0)) := bl_cellB hbV HC6.out
    have HZ4 : Hid (FsZ V4 a6 M T6) := HZ6.out.below hbV
    refine (HSU.out V4 HW4.out).mono ?_
    rintro e w7 ⟨rfl,hb7⟩
    have HB7 : Hid (T5At w7 w6.heap.size 0 z x y (.slice a6 M c6)) := HB4.out.below hb7
    have HW7 : Hid (Below w2.heap.size w2 w7) := bl_then HW4.out hb7
    have HV7 : Hid (Below V2.heap.size V2 w7) := bl_then HV4.out hb7
    have HC7 : Hid (w7.cell? ⟨w5.heap.size,0,none⟩ = some (.int .i64 0)) := bl_cellB hb7 HC4.out
    have HZ7 : Hid (FsZ w7 a6 M T6) := HZ4.out.below hb7
    clear hb7 hbV
    go_wp2_with fail
    generalize hV : (w7.alloc _ : World) = V5
    have hbV : Below w7.heap.size w7 V5 := by subst hV; (repeat (first|exact Qr _ _|assumption|refine Qd ?_|refine Qa ?_ _|refine Qt ?_|refine Qs ?_ _|refine Qo ?_ ?_ _ _))
    have HX5 : Hid (V5.cell? ⟨w7.heap.size,0,none⟩ = some (.int .i64 0) ∧ V5.cell? ⟨w7.heap.size,1,none⟩ = some (.int .i64 sn)) := by refine ⟨?_,?_⟩ <;> (subst hV; simp [go_sem])
    clear hV
    have HB5 := (show Hid (T5At V5 w6.heap.size 0 z x y (.slice a6 M c6)) from HB7.out.below hbV)
    have HWV : Hid (Below w2.heap.size w2 V5) := bl_then HW7.out hbV
    have HVV5 : Hid (Below V2.heap.size V2 V5) := bl_then HV7.out hbV
    have HC5 : Hid (V5.cell? ⟨w5.heap.size,0,none⟩ = some (.int .i64 0)) := bl_cellB hbV HC7.out
    have HZ5 : Hid (∀ W',Below V5.heap.size V5 W' → FsZ W' a6 M T6) := fun W' h => (HZ7.out.below hbV).below h
    have HBE : Hid (Below w.heap.size w V5) := bl_then HB1.out (bl_then HB2.out HWV.out)
    have s0 : ∀ W',Below V5.heap.size V5 W' → W'.cell? ⟨w5.heap.size,0,none⟩ = some (.int .i64 0) := fun W' h => bl_cellB h HC5.out
    have x0 : ∀ W',Below V5.heap.size V5 W' → W'.cell? ⟨w7.heap.size,0,none⟩ = some (.int .i64 0) := fun W' h => bl_cellB h HX5.out.1
    have x1 : ∀ W',Below V5.heap.size V5 W' → W'.cell? ⟨w7.heap.size,1,none⟩ = some (.int .i64 sn) := fun W' h => bl_cellB h HX5.out.2
    have b0 : ∀ W',Below V5.heap.size V5 W' → W'.cell? ⟨w6.heap.size,0,none⟩ = some (.int .i64 0) := fun W' h => (HB5.out.below h).1
    have b1 : ∀ W',Below V5.heap.size V5 W' → W'.cell? ⟨w6.heap.size,1,none⟩ = some (.int .i64 z) := fun W' h => (HB5.out.below h).2.1
    have b2 : ∀ W',Below V5.heap.size V5 W' → W'.cell? ⟨w6.heap.size,2,none⟩ = some (.int .i64 x) := fun W' h => (HB5.out.below h).2.2.1
    have b3 : ∀ W',Below V5.heap.size V5 W' → W'.cell? ⟨w6.heap.size,3,none⟩ = some (.int .i64 y) := fun W' h => (HB5.out.below h).2.2.2.1
    have b4 : ∀ W',Below V5.heap.size V5 W' → W'.cell? ⟨w6.heap.size,4,none⟩ = some (.slice a6 M c6) := fun W' h => (HB5.out.below h).2.2.2.2
    have HT9 := (show Hid (T5At V5 w2.heap.size 0 z x y (.slice at' M ct)) from HT5.out.below HVV5.out)
    have t1 : ∀ W',Below V5.heap.size V5 W' → W'.cell? ⟨w2.heap.size,1,none⟩ = some (.int .i64 z) := fun W' h => (HT9.out.below h).2.1
    have t2 : ∀ W',Below V5.heap.size V5 W' → W'.cell? ⟨w2.heap.size,2,none⟩ = some (.int .i64 x) := fun W' h => (HT9.out.below h).2.2.1
    have t3 : ∀ W',Below V5.heap.size V5 W' → W'.cell? ⟨w2.heap.size,3,none⟩ = some (.int .i64 y) := fun W' h => (HT9.out.below h).2.2.2.1
    have t4 : ∀ W',Below V5.heap.size V5 W' → W'.cell? ⟨w2.heap.size,4,none⟩ = some (.slice at' M ct) := fun W' h => (HT9.out.below h).2.2.2.2
    have r0 : ∀ W',Below V5.heap.size V5 W' → W'.cell? ⟨w1.heap.size,0,none⟩ = some (.int .i64 z) := fun W' h => (HRC2.out W' (bl_then HWV.out h)).1
    have r1 : ∀ W',Below V5.heap.size V5 W' → W'.cell? ⟨w1.heap.size,1,none⟩ = some (.int .i64 x) := fun W' h => (HRC2.out W' (bl_then HWV.out h)).2.1
    have r2 : ∀ W',Below V5.heap.size V5 W' → W'.cell? ⟨w1.heap.size,2,none⟩ = some (.int .i64 y) := fun W' h => (HRC2.out W' (bl_then HWV.out h)).2.2
    have hel : ∀ w,(binOp .eql 26 (.agg #[.int .i64 z, .int .i64 x, .int .i64 y]) (.agg #[.int .i64 z, .int .i64 x, .int .i64 y])).run Tryz.prog w = .ok (.bool true) w := fun w => eql_refT z x y w
    have fl1 : ∀ w,(Instr.field 43 (.agg #[.int .i64 0, .int .i64 sn]) 1).run Tryz.prog w = .ok (.int .i64 sn) w := fun _ => by kernel_rfl
    have fl2 : ∀ (a' : Option Addr) (c' : Nat) w,(Instr.field 32 (.agg #[.int .i64 0, .int .i64 z, .int .i64 x, .int .i64 y, .slice a' M c']) 1).run Tryz.prog w = .ok (.agg #[.int .i64 z, .int .i64 x, .int .i64 y, .slice a' M c']) w := fun _ _ _ => by kernel_rfl
    have fl3 : ∀ (a' : Option Addr) (c' : Nat) w,(Instr.field 30 (.agg #[.int .i64 z, .int .i64 x, .int .i64 y, .slice a' M c']) 1).run Tryz.prog w = .ok (.slice a' M c') w := fun _ _ _ => by kernel_rfl
    clear hbV HX5 HC7 HC5 HB5 HB7 HZ7 HT9
    try simp only [List.append_eq,List.cons_append,List.nil_append]
    go_region_held3 (fun W' => Below V5.heap.size V5 W') ((repeat (first|exact Qr _ _|assumption|refine Qd ?_|refine Qa ?_ _|refine Qt ?_|refine Qs ?_ _|refine Qo ?_ ?_ _ _)))
     (first
      | (go_at_call 13; refine Calls.mono (HSS.out _ (bl_then HWV.out (by assumption))) ?_; rintro e w8 ⟨rfl,hb8⟩)
      | (go_at_call 7; refine Calls.mono (HBS2.out _ (bl_then HB2.out (bl_then HWV.out (by assumption)))) ?_; rintro e w9 ⟨a9,c9,T9,rfl,hZ9,hs9,hb9⟩)
      | (go_at_call 12; refine Calls.mono (HM1.out _ a6 c6 T6 (bl_then HWV.out (by assumption)) (HZ5.out _ (by assumption)) HS6.out) ?_; rintro e w10 ⟨rfl,hb10⟩)
      | (go_at_call 12; refine Calls.mono (HM2.out _ a9 c9 T9 (bl_then HWV.out (by assumption)) (hZ9.below (by first | exact Below.refl _ _ | (repeat (first|exact Qr _ _|assumption|refine Qd ?_|refine Qa ?_ _|refine Qt ?_|refine Qs ?_ _|refine Qo ?_ ?_ _ _)))) hs9) ?_; rintro e w11 ⟨rfl,hb11⟩))
    go_wp2
    go_ret
    exact ⟨rfl,bl_then HBE.out (by assumption)⟩
 ·have hcb : (btC z x y m G == 0) = false := by simpa using hC
  have hsv : svC z x y m G = btC z x y m G := by unfold svC; rw [if_neg hC]
  rw [hsv] at HSV
  clear HSAM HOF HS2
  generalize btC z x y m G = C at *
  generalize btK z x y m G z = z' at *
  generalize btK z x y m G x = x' at *
  generalize btK z x y m G y = y' at *
  generalize btM z x y m G = M at *
  generalize btG z x y m G = GG at *
  generalize svL z x y m G = SL at *
  have fld : ∀ (a' : Option Addr) (c' : Nat) w,(Instr.field 32 (.agg #[.int .i64 C, .int .i64 z', .int .i64 x', .int .i64 y', .slice a' M c']) 0).run Tryz.prog w = .ok (.int .i64 C) w := fun _ _ _ => by kernel_rfl
  have fld2 : ∀ (a' : Option Addr) (k' c' : Nat) w,(Instr.field 35 (.agg #[.int .i64 C, .slice a' k' c']) 0).run Tryz.prog w = .ok (.int .i64 C) w := fun _ _ _ _ => by kernel_rfl
  clear hC hsv
  go_wp2_with fail
  generalize hV : (w2.alloc _ : World) = V2
  have hbV : Below w2.heap.size w2 V2 := by subst hV; (repeat (first|exact Qr _ _|assumption|refine Qd ?_|refine Qa ?_ _|refine Qt ?_|refine Qs ?_ _|refine Qo ?_ ?_ _ _))
  have hl2 : w2.heap.size < V2.heap.size := by subst hV; simp
  have c0 : ∀ W',Below V2.heap.size V2 W' → W'.cell? ⟨w2.heap.size,0,none⟩ = some (.int .i64 C) := fun W' h => by rw [h.cell (by subst hV; simp)]; subst hV; simp [go_sem]
  clear hV
  have d0 : ∀ W',Below V2.heap.size V2 W' → W'.cell? ⟨w1.heap.size,0,none⟩ = some (.int .i64 z) := fun W' h => (HRC2.out W' (bl_then hbV h)).1
  have d1 : ∀ W',Below V2.heap.size V2 W' → W'.cell? ⟨w1.heap.size,1,none⟩ = some (.int .i64 x) := fun W' h => (HRC2.out W' (bl_then hbV h)).2.1
  have d2 : ∀ W',Below V2.heap.size V2 W' → W'.cell? ⟨w1.heap.size,2,none⟩ = some (.int .i64 y) := fun W' h => (HRC2.out W' (bl_then hbV h)).2.2
  have HBV2 : Hid (Below w1.heap.size w1 V2) := bl_then HB2.out hbV
  have HS' : Hid (∀ W',Below V2.heap.size V2 W' → Calls Tryz.prog 7 #[.slice (some ⟨g,0,none⟩) m c, .agg #[.int .i64 z, .int .i64 x, .int .i64 y]] W' fun e w' => ∃ a' c',e = .returned (.agg #[.int .i64 C, .int .i64 z', .int .i64 x', .int .i64 y', .slice a' M c']) ∧ Below W'.heap.size W' w') := fun W' h => (HBS.out W' (bl_then HBV2.out h)).mono fun e w' ⟨a',c',_,h1,_,_,_,_,h6⟩ => ⟨a',c',h1,h6⟩
  have HV' : Hid (∀ W',Below V2.heap.size V2 W' → Calls Tryz.prog 8 #[.slice (some ⟨g,0,none⟩) m c, .agg #[.int .i64 z, .int .i64 x, .int .i64 y]] W' fun e w' => ∃ a' c',e = .returned (.agg #[.int .i64 C, .slice a' SL.length c']) ∧ Below W'.heap.size W' w') := fun W' h => (HSV.out W' (bl_then HBV2.out h)).mono fun e w' ⟨v,h1,h2,h3⟩ => by
   obtain ⟨a',c',hv,_⟩ := h2.own
   exact ⟨a',c',by rw [h1,hv],h3⟩
  clear hbV HRC2 HBS HSV
  go_region_held3 (fun W' => Below V2.heap.size V2 W') ((repeat (first|exact Qr _ _|assumption|refine Qd ?_|refine Qa ?_ _|refine Qt ?_|refine Qs ?_ _|refine Qo ?_ ?_ _ _)))
   (first
    | (go_at_call 7; refine Calls.mono (HS'.out _ (by assumption)) ?_; rintro e w6 ⟨a6,c6,rfl,hb6⟩)
    | (go_at_call 8; refine Calls.mono (HV'.out _ (by assumption)) ?_; rintro e w7 ⟨a7,c7,rfl,hb7⟩))
  go_wp2
  go_ret
  exact ⟨rfl,bl_then HB1.out (bl_then HBV2.out (by assumption))⟩
end Go.Proofs.YtfkonhagjahgnaaGreat
