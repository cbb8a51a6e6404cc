/- Texts. -/
import Derived.Test.YtpaiholildedcaaGreatVNewViewer24
set_option linter.unusedSimpArgs false
set_option linter.unusedVariables false
set_option maxRecDepth 100000
set_option maxHeartbeats 32000000
namespace Go.Proofs.YtpaiholildedcaaGreat
open Go.RowKit
def CtS (W:World)(q:Nat)(z x y:Int)(v:Value):Prop:=W.cell? ⟨q,0,none⟩=some (.int .i64 z)∧W.cell? ⟨q,1,none⟩=some (.int .i64 x)∧W.cell? ⟨q,2,none⟩=some (.int .i64 y)∧W.cell? ⟨q,3,none⟩=some v
theorem CtS.below {w w':World}{q:Nat}{z x y:Int}{v:Value}(h:CtS w q z x y v)(hb:Below w.heap.size w w'):CtS w' q z x y v :=
 have hl:=World.block_lt_of_cell? _ _ h.1
 ⟨(hb.cell (p:=⟨q,0,none⟩) hl).trans h.1,(hb.cell (p:=⟨q,1,none⟩) hl).trans h.2.1,(hb.cell (p:=⟨q,2,none⟩) hl).trans h.2.2.1,(hb.cell (p:=⟨q,3,none⟩) hl).trans h.2.2.2⟩
theorem there4c (V:World)(a b c d:Value)(t:TypeId):zC (V.alloc (.cells #[a,b,c,d] t)) V.heap.size 4:=fun o ho=>by
 have hc:o=0∨o=1∨o=2∨o=3:=by omega
 rcases hc with rfl | rfl | rfl | rfl <;> exact ⟨⟨_,by simp [go_sem];rfl⟩,by simp [go_sem]⟩
theorem resCT {T:Array Value}{Wf:World}{r:Nat}{z x y:Int}{u:Value}(hT:T[2]?.getD undef=.pointer (some ⟨r,0,none⟩))(h0:Wf.cell? ⟨r,0,none⟩=some (.int .i64 z))(h1:Wf.cell? ⟨r,1,none⟩=some (.int .i64 x))(h2:Wf.cell? ⟨r,2,none⟩=some (.int .i64 y))(h3:Wf.cell? ⟨r,3,none⟩=some u) :
  (results Tryz.f110 T).run Tryz.prog Wf=.ok (.agg #[.int .i64 z,.int .i64 x,.int .i64 y,u]) Wf:=by
 simp [results,Tryz.results110,go_sem,hT,h0,h1,h2,h3]
theorem uG (z x y:Int)(fb n fc:Nat)(F:Nat→xG)(w:World)(hft:zJh w fb 0 n F)(hfl:fb<w.heap.size)(hn:n≤12)(hpos:∀ i,i<n→0<(F i).n)(hs:vX n F) :
  Calls Tryz.prog 110 #[.agg #[.int .i64 z,.int .i64 x,.int .i64 y,.slice (some ⟨fb,0,none⟩) n fc]] w fun e w'=>∃ g c H,e=.returned (.agg #[.int .i64 z,.int .i64 x,.int .i64 y,.slice (some ⟨g,0,none⟩) n c])∧g<w'.heap.size∧uT w' w.heap.size w'.heap.size (some ⟨g,0,none⟩) n F H∧Bw w w':=by
 have HCf:Hid (∀ W,Bw w W→Calls Tryz.prog 165 #[.slice (some ⟨fb,0,none⟩) n fc] W fun e w'=>∃ g c H,e=.returned (.slice (some ⟨g,0,none⟩) n c)∧g<w'.heap.size∧uT w' W.heap.size w'.heap.size (some ⟨g,0,none⟩) n F H∧Bw W w'):=fun W h=>by
  refine (zIv fb n fc F W (hft.below h hfl) (Nat.lt_of_lt_of_le hfl h.size) hn hpos hs).mono ?_
  rintro e w' ⟨v,H,rfl,hnn,h1,h2,h3⟩
  obtain ⟨a,c,rfl,_,h4⟩:=zKi h1 h2 hpos
  rcases h1.at with ⟨hv,_⟩ | ⟨g,c',hv,_,hgl,_⟩
  ·exact absurd hv hnn
  ·injection hv with e1 _ _
   subst e1
   exact ⟨g,c,H,rfl,hgl,h4,h3⟩
 clear hft hfl hn hpos hs
 go_enter Tryz.func110,Tryz.ntmps110
 go_wp2_with fail
 generalize hW:((w.alloc _).alloc _:World)=W
 have HB0:Hid (Bw w W):=by show Below _ _ _;subst hW;exact Qb
 have HS:Hid (CtS W w.heap.size z x y (.slice (some ⟨fb,0,none⟩) n fc)):=by show CtS _ _ _ _ _ _;subst hW;refine ⟨?_,?_,?_,?_⟩ <;> simp [go_sem]
 have HT:Hid (zC W (w.heap.size+1) 4):=by
  show zC _ _ _
  subst hW
  have:=there4c (w.alloc (.cells #[.int .i64 z,.int .i64 x,.int .i64 y,.slice (some ⟨fb,0,none⟩) n fc] 139)) (.int .i64 0) (.int .i64 0) (.int .i64 0) (.slice none 0 0) 139
  simpa using this
 have hsz:w.heap.size+1<W.heap.size:=by subst hW;simp
 clear hW
 refine wp_region_noPanic ?_
 refine wp_region_held_drew (S:=fun W'=>CtS W' w.heap.size z x y (.slice (some ⟨fb,0,none⟩) n fc)) (by kernel_rfl) HS.out (fun hHeld=>?_)
 have hSd:CtS W.drew w.heap.size z x y (.slice (some ⟨fb,0,none⟩) n fc):=HS.out
 refine zL (i:=0) (d:=some 3) (v:=?va0) rfl rfl (Or.inl ⟨by rfl,?hya0⟩) (by assumption) ?_
 case hya0=>(intro w hSw;obtain ⟨k0,k1,k2,k3⟩:=(show CtS w _ z x y _ from hSw);go_simp <;> with_reducible rfl)
 try simp only [Act.put,Qx,Qy,Qz]
 refine zL (i:=1) (d:=some 4) (v:=?va1) rfl rfl (Or.inl ⟨by rfl,?hya1⟩) (by assumption) ?_
 case hya1=>(intro w hSw;obtain ⟨k0,k1,k2,k3⟩:=(show CtS w _ z x y _ from hSw);go_simp <;> with_reducible rfl)
 try simp only [Act.put,Qx,Qy,Qz]
 refine zL (i:=2) (d:=some 5) (v:=?va2) rfl rfl (Or.inl ⟨by rfl,?hya2⟩) (by assumption) ?_
 case hya2=>(intro w hSw;obtain ⟨k0,k1,k2,k3⟩:=(show CtS w _ z x y _ from hSw);go_simp <;> with_reducible rfl)
 try simp only [Act.put,Qx,Qy,Qz]
 refine zL (i:=3) (d:=some 6) (v:=?va3) rfl rfl (Or.inl ⟨by rfl,?hya3⟩) (by assumption) ?_
 case hya3=>(intro w hSw;obtain ⟨k0,k1,k2,k3⟩:=(show CtS w _ z x y _ from hSw);go_simp <;> with_reducible rfl)
 try simp only [Act.put,Qx,Qy,Qz]
 have hD0:Bw W W.drew:=by have:=Below.refl W.heap.size W;exact Qb
 generalize W.drew=wk0 at *
 refine zN 4 fun K hK=>?_
 rw [if_pos (by rfl)]
 go_simp
 refine Calls.mono (HCf.out _ (zB HB0.out hD0)) ?_
 rintro e wk1 ⟨rg,rc,RF,rfl,hg1,hF1,hb1⟩
 have hS1:CtS wk1 w.heap.size z x y (.slice (some ⟨fb,0,none⟩) n fc):=hSd.below hb1
 have HD1:Hid (Bw W wk1):=zB hD0 hb1
 have HF1:Hid (uT wk1 wk0.heap.size wk1.heap.size (some ⟨rg,0,none⟩) n F RF):=hF1
 have HG1:Hid (rg<wk1.heap.size):=hg1
 have hz0:=hD0.size
 clear hF1 hg1 hSd
 go_wp2_with fail
 refine hK.out _ _ (by assumption) (fun hHeld=>?_)
 clear hK K
 try simp only [Act.put,Qx,Qy,Qz]
 refine zL (i:=5) (d:=some 8) (v:=?vb5) rfl rfl (Or.inl ⟨by rfl,?hyb5⟩) (by assumption) ?_
 case hyb5=>(intro w hSw;skip;go_simp <;> with_reducible rfl)
 try simp only [Act.put,Qx,Qy,Qz]
 have hT2:=HT.out.below HD1.out
 have HT2:Hid (zC wk1 (w.heap.size+1) 4):=hT2
 have t0:=hT2.cell 0 (by omega)
 have t1:=hT2.cell 1 (by omega)
 have t2:=hT2.cell 2 (by omega)
 have t3:=hT2.cell 3 (by omega)
 have f0:=(hT2 0 (by omega)).2
 have f1:=(hT2 1 (by omega)).2
 have f2:=(hT2 2 (by omega)).2
 have f3:=(hT2 3 (by omega)).2
 refine zN 6 fun K hK=>?_
 rw [if_pos (by rfl)]
 go_simp
 obtain ⟨q0,q1,q2,q3⟩:=zGy (a:=.int .i64 z) (b:=.int .i64 x) (c:=.int .i64 y) (d:=.slice (some ⟨rg,0,none⟩) n rc) HT2.out
 generalize hwF:(World.setCell _ _ _:World)=wF at *
 have hM:zI (w.heap.size+1) (w.heap.size+1+1) wk1 wF:=by subst hwF;exact ((((zI.refl _ _ _).set (Nat.le_refl _) (Nat.lt_succ_self _) _ _).set (Nat.le_refl _) (Nat.lt_succ_self _) _ _).set (Nat.le_refl _) (Nat.lt_succ_self _) _ _).set (Nat.le_refl _) (Nat.lt_succ_self _) _ _
 have hSF:CtS wF w.heap.size z x y (.slice (some ⟨fb,0,none⟩) n fc):=by
  obtain ⟨a0,a1,a2,a3⟩:=hS1
  exact ⟨hM.cell a0 (.inl (by omega)),hM.cell a1 (.inl (by omega)),hM.cell a2 (.inl (by omega)),hM.cell a3 (.inl (by omega))⟩
 refine hK.out _ _ hSF (fun hHeld=>?_)
 clear hK K
 try simp only [Act.put,Qx,Qy,Qz]
 refine wpAnyH_done (by kernel_rfl) ?_ _
 refine NoPanic.normal ?_
 have hs2:=HD1.out.size
 have HQ:Hid (wF.cell? ⟨w.heap.size+1,0,none⟩=some (.int .i64 z)∧wF.cell? ⟨w.heap.size+1,1,none⟩=some (.int .i64 x)∧wF.cell? ⟨w.heap.size+1,2,none⟩=some (.int .i64 y)∧wF.cell? ⟨w.heap.size+1,3,none⟩=some (.slice (some ⟨rg,0,none⟩) n rc)):=⟨q0,q1,q2,q3⟩
 have HFin:Hid (rg<wF.heap.size∧uT wF w.heap.size wF.heap.size (some ⟨rg,0,none⟩) n F RF∧Bw w wF):=⟨Nat.lt_of_lt_of_le HG1.out hM.size,HF1.out.mid hM (by omega) (by omega),(zB HB0.out HD1.out).trans (hM.below (by omega) |>.mono (by omega))⟩
 clear hwF hM hSF q0 q1 q2 q3 hS1 hT2 HT2 t0 f0 t1 f1 t2 f2 t3 f3
 go_wp2_with fail
 exact bodyPost_ret (resCT rfl HQ.out.1 HQ.out.2.1 HQ.out.2.2.1 HQ.out.2.2.2) rfl ⟨rg,rc,RF,rfl,HFin.out⟩
theorem zKv (A:Nat→Kp):∀ n,agL A n=(List.range n).map (fun i=>agK (A i) ((i:Int)+1))
 | 0=>rfl
 | n+1=>by rw [agL,zKv A n,List.range_succ,List.map_append];rfl
def xP (n:Nat)(A:Nat→Kp)(z x y:Int):List Nat:=(List.range n).filter (fun i=>!isK (A i) z x y)
theorem zC.belowK {W W':World}{r n B:Nat}(h:zC W r n)(hb:Below B W W')(hr:r<B):zC W' r n:=fun o ho=>by
 obtain ⟨⟨v,h1⟩,h2⟩:=h o ho
 exact ⟨⟨v,(hb.cell (p:=⟨r,o,none⟩) hr).trans h1⟩,(hb.frozen (p:=⟨r,o,none⟩) hr).trans h2⟩
end Go.Proofs.YtpaiholildedcaaGreat
