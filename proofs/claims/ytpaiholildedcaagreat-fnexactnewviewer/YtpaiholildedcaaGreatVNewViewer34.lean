/- Texts. -/
import Derived.Test.YtpaiholildedcaaGreatVNewViewer33
set_option linter.unusedSimpArgs false
set_option linter.unusedVariables false
set_option maxRecDepth 100000
set_option maxHeartbeats 32000000
namespace Go.Proofs.YtpaiholildedcaaGreat
open Go.RowKit
theorem zIm (z x y wd ht s:Int):zK5 (zJd z x y wd ht s):=by
 unfold zJd
 split
 ·have hm4:xJ z x y wd ht≤4:=zA7 _ _ _ _ _
  have hl:=uW 0 (vO z x y wd) noK 0 [] (xJ z x y wd ht)
  simp at hl
  refine ⟨?_,?_,⟨Nat.zero_le _,fun i hi=>absurd hi (Nat.not_lt_zero _)⟩,?_⟩
  ·show (stS _ _ _ _ _ _).length≤1048576
   omega
  ·show 0≤100
   omega
  ·show (stQ _ _ _ _ _ _).length≤1048576
   omega
 ·exact zK5.zero _
theorem FnExactNewViewer_walk (z x y wd ht s:Int)(w:World) :
  Calls Tryz.prog 3 #[zBg z x y wd ht,.int .i64 s] w fun e w'=>e=.returned (.bool true)∧Bw w w':=by
 obtain ⟨v,hv⟩:∃ v,zJd z x y wd ht s=v:=⟨_,rfl⟩
 have Hsm:Hid (zK5 v):=by show zK5 v;rw [← hv];exact zIm _ _ _ _ _ _
 have Hsp:Hid (∀ W,Calls Tryz.prog 7 #[zBg z x y wd ht,.int .i64 s] W fun e w'=>∃ u,e=.returned (vaV v u)∧zC7 w' v u∧Bw W w'):=fun W=>by rw [← hv];exact zAm z x y wd ht s W
 have Him:Hid (∀ W,Calls Tryz.prog 9 #[zBg z x y wd ht,.int .i64 s] W fun e w'=>∃ u,e=.returned (vaV v u)∧zA3 W.heap.size w'.heap.size w' v u∧Bw W w'):=fun W=>by rw [← hv];exact zA0 z x y wd ht s W
 have HTo:Hid (∀ W,Calls Tryz.prog 8 #[zBg z x y wd ht] W fun e w'=>e=.returned (zBg z x y wd ht)∧Bw W w'):=fun W=>zFk z x y wd ht W
 have HEqR:Hid (∀ (W:World) (u t:Vm),zC7 W v u→zC7 W v t→Calls Tryz.prog 10 #[vaV v u,vaV v t] W fun e w'=>e=.returned (.bool true)∧Bw W w'):=fun W u t h1 h2=>eqVa v u t W h1 h2 Hsm.out
 clear hv
 go_enter Tryz.func3,Tryz.ntmps3
 go_wp2_with fail
 generalize hW:(w.alloc _:World)=w1
 have HBw:Hid (Bw w w1):=by show Below _ _ _;subst hW;exact Qb
 have HCm:Hid (Blk w1 w.heap.size [.int .i64 z,.int .i64 x,.int .i64 y,.int .i64 wd,.int .i64 ht]):=by show Blk _ _ _;subst hW;exact Blk.new _ _ _
 have hwl:w.heap.size<w1.heap.size:=HCm.out.lt
 have HV1:Hid (∀ W',Bw w1 W'→Blk W' w.heap.size [.int .i64 z,.int .i64 x,.int .i64 y,.int .i64 wd,.int .i64 ht]):=fun W' h=>HCm.out.below hwl h
 clear hW HCm
 refine Calls.mono (HTo.out _) ?_
 rintro e wp ⟨rfl,hbp⟩
 have HBp:Hid (Bw w1 wp):=hbp
 clear hbp
 go_wp2_with fail
 refine (Hsp.out _).mono ?_
 rintro e wq ⟨uq,rfl,hIq,hbq⟩
 have HIq:Hid (zC7 wq v uq):=hIq
 have HBq:Hid (Bw w1 wq):=zB HBp.out hbq
 clear hIq hbq HBp Hsp
 have hlq:w.heap.size<wq.heap.size:=Nat.lt_of_lt_of_le hwl HBq.out.size
 have hvq:=HV1.out wq HBq.out
 have v0:∀ o,(wq.alloc o).cell? ⟨w.heap.size,0,none⟩=_:=fun o=>(hvq.alloc hlq o).cell 0 rfl
 have v1:∀ o,(wq.alloc o).cell? ⟨w.heap.size,1,none⟩=_:=fun o=>(hvq.alloc hlq o).cell 1 rfl
 have v2:∀ o,(wq.alloc o).cell? ⟨w.heap.size,2,none⟩=_:=fun o=>(hvq.alloc hlq o).cell 2 rfl
 have v3:∀ o,(wq.alloc o).cell? ⟨w.heap.size,3,none⟩=_:=fun o=>(hvq.alloc hlq o).cell 3 rfl
 have v4:∀ o,(wq.alloc o).cell? ⟨w.heap.size,4,none⟩=_:=fun o=>(hvq.alloc hlq o).cell 4 rfl
 clear hvq
 go_wp2_with fail
 generalize hW3:(wq.alloc _:World)=w3
 have hb3:Bw wq w3:=by subst hW3;exact Qb
 have HQ3:Hid (Blk w3 wq.heap.size (vaL v uq)):=by show Blk _ _ _;subst hW3;exact Blk.new _ _ _
 clear hW3
 obtain ⟨b7,hb7e⟩:∃ b,wq.heap.size=b:=⟨_,rfl⟩
 have hb7q:b7<w3.heap.size:=by rw [← hb7e];exact HQ3.out.lt
 have HI3:Hid (zI8 w3.heap.size w3 v uq):=(HIq.out.below hb3).un
 have hB3:Bw w1 w3:=zB HBq.out hb3
 rw [hb7e] at HQ3
 simp only [hb7e]
 clear hb3 HIq HBq hb7e
 have hw3:=hB3.size
 have HB3:Hid (Bw w1 w3):=hB3
 clear hB3 v0 v1 v2 v3 v4
 refine Calls.mono (HTo.out _) ?_
 rintro e w4 ⟨rfl,hb4⟩
 have HB4:Hid (Bw w1 w4):=zB HB3.out hb4
 have HI4:Hid (zI8 w3.heap.size w4 v uq):=HI3.out.below hb4
 have HQ4:Hid (Blk w4 b7 (vaL v uq)):=HQ3.out.below hb7q hb4
 have hle34:=hb4.size
 have hb7r:b7<w4.heap.size:=by omega
 clear HI3 hb4 HQ3 HB3
 go_wp2_with fail
 refine (Him.out _).mono ?_
 rintro e wr ⟨ur,rfl,hOr,hbr⟩
 have HOr:Hid (zA3 w4.heap.size wr.heap.size wr v ur):=hOr
 have HQr:Hid (Blk wr b7 (vaL v uq)):=HQ4.out.below hb7r hbr
 have lz:b7<wr.heap.size:=HQr.out.lt
 have hbr4:=hbr.size
 clear hOr
 have hqr:=HQr.out
 have z0:∀ o,(wr.alloc o).cell? ⟨b7,0,none⟩=_:=fun o=>(hqr.alloc lz o).cell 0 rfl
 have z1:∀ o,(wr.alloc o).cell? ⟨b7,1,none⟩=_:=fun o=>(hqr.alloc lz o).cell 1 rfl
 have z2:∀ o,(wr.alloc o).cell? ⟨b7,2,none⟩=_:=fun o=>(hqr.alloc lz o).cell 2 rfl
 have z3:∀ o,(wr.alloc o).cell? ⟨b7,3,none⟩=_:=fun o=>(hqr.alloc lz o).cell 3 rfl
 have z4:∀ o,(wr.alloc o).cell? ⟨b7,4,none⟩=_:=fun o=>(hqr.alloc lz o).cell 4 rfl
 have z5:∀ o,(wr.alloc o).cell? ⟨b7,5,none⟩=_:=fun o=>(hqr.alloc lz o).cell 5 rfl
 have z6:∀ o,(wr.alloc o).cell? ⟨b7,6,none⟩=_:=fun o=>(hqr.alloc lz o).cell 6 rfl
 have z7:∀ o,(wr.alloc o).cell? ⟨b7,7,none⟩=_:=fun o=>(hqr.alloc lz o).cell 7 rfl
 have z8:∀ o,(wr.alloc o).cell? ⟨b7,8,none⟩=_:=fun o=>(hqr.alloc lz o).cell 8 rfl
 have z9:∀ o,(wr.alloc o).cell? ⟨b7,9,none⟩=_:=fun o=>(hqr.alloc lz o).cell 9 rfl
 have z10:∀ o,(wr.alloc o).cell? ⟨b7,10,none⟩=_:=fun o=>(hqr.alloc lz o).cell 10 rfl
 have z11:∀ o,(wr.alloc o).cell? ⟨b7,11,none⟩=_:=fun o=>(hqr.alloc lz o).cell 11 rfl
 have z12:∀ o,(wr.alloc o).cell? ⟨b7,12,none⟩=_:=fun o=>(hqr.alloc lz o).cell 12 rfl
 clear hqr
 go_wp2_with fail
 generalize hW5:(wr.alloc _:World)=w5
 have hb5:Bw wr w5:=by subst hW5;exact Qb
 have HG5:Hid (Blk w5 wr.heap.size (vaL v ur)):=by show Blk _ _ _;subst hW5;exact Blk.new _ _ _
 clear hW5 z0 z1 z2 z3 z4 z5 z6 z7 z8 z9 z10 z11 z12
 have hB5:Bw w4 w5:=zB hbr hb5
 obtain ⟨b9,hb9e⟩:∃ b,wr.heap.size=b:=⟨_,rfl⟩
 have hb9:w4.heap.size≤b9:=by rw [← hb9e];exact hbr4
 have hl9:b9<w5.heap.size:=by rw [← hb9e];exact HG5.out.lt
 have HO5:Hid (zA3 w4.heap.size b9 w5 v ur):=by have h:=HOr.out.below hb5;rw [hb9e] at h;exact h
 rw [hb9e] at HG5
 simp only [hb9e]
 have HQ5:Hid (Blk w5 b7 (vaL v uq)):=HQr.out.below lz hb5
 have hl7:b7<w5.heap.size:=HQ5.out.lt
 clear hb5 hbr HOr HQr lz hb9e hbr4
 have HI5:Hid (zI8 w3.heap.size w5 v uq):=HI4.out.below (hB5.mono hle34)
 have hw5:=hB5.size
 have HB5:Hid (Bw w1 w5):=zB HB4.out hB5
 clear HI4 HB4 hB5 HQ4
 refine (HEqR.out _ _ _ HO5.out.is HI5.out.is).mono ?_
 rintro e wb ⟨rfl,hbb⟩
 have hwb:=hbb.size
 have HOb:Hid (zA3 w4.heap.size b9 wb v ur):=HO5.out.below hbb
 have HIb:Hid (zI8 w3.heap.size wb v uq):=HI5.out.below (hbb.mono (by omega))
 have HBb:Hid (Bw w1 wb):=zB HB5.out hbb
 have HGb:Hid (Blk wb b9 (vaL v ur)):=HG5.out.below hl9 hbb
 have HQb:Hid (Blk wb b7 (vaL v uq)):=HQ5.out.below hl7 hbb
 clear HO5 HI5 HB5 hbb HG5 HQ5
 have hgb:=HGb.out
 obtain ⟨g0,g1,g2,g3,g4,g5,g6,g7,g8,g9,g10,g11,g12⟩:=Blk.c13 hgb
 have Hmark:=(show Hid _ from markVa w4.heap.size b9 v ur wb HOb.out Hsm.out)
 have Hheld:Hid (∀ w,zJg w v ur→Calls Tryz.prog 12 #[vaV v ur,.int .i64 1] w fun e w'=>e=.returned (.int .i64 ((qVa v ur:Nat):Int))∧Bw w w'):=fun w h=>heldVa v ur w h Hsm.out
 have hqm:¬ ((qVa v ur:Nat):Int)<0:=by omega
 generalize ((qVa v ur:Nat):Int)=qm at *
 clear hgb
 go_wp2_with fail
 refine Calls.mono Hmark.out ?_
 rintro e wc ⟨rfl,hMc,hGc⟩
 have hwc:=hGc.size
 have hgc:Blk wc b9 (vaL v ur):=fun i u hi=>⟨hGc.cell (HGb.out i u hi).1 (.inr (Nat.le_refl _)),(World.frozen?_of_block (a:=⟨b9,i,none⟩) (hGc.block b9 HGb.out.lt (.inr (Nat.le_refl _)))).trans (HGb.out i u hi).2⟩
 have hqc:Blk wc b7 (vaL v uq):=fun i u hi=>⟨hGc.cell (HQb.out i u hi).1 (.inl (by omega)),(World.frozen?_of_block (a:=⟨b7,i,none⟩) (hGc.block b7 HQb.out.lt (.inl (by omega)))).trans (HQb.out i u hi).2⟩
 have HGc:Hid (Blk wc b9 (vaL v ur)):=hgc
 have HQc:Hid (Blk wc b7 (vaL v uq)):=hqc
 have HOc:Hid (zJg wc v ur):=hMc
 have hs4b:w4.heap.size≤wb.heap.size:=by omega
 have HIc:Hid (zI8 w3.heap.size wc v uq):=HIb.out.below ((hGc.below hs4b).mono hle34)
 have HBc:Hid (Bw w1 wc):=HBb.out.trans ((hGc.below hs4b).mono (by omega))
 clear g0 g1 g2 g3 g4 g5 g6 g7 g8 g9 g10 g11 g12
 obtain ⟨g0,g1,g2,g3,g4,g5,g6,g7,g8,g9,g10,g11,g12⟩:=Blk.c13 hgc
 clear hgc hqc hMc hGc HBb HIb HOb Hmark HGb HQb
 go_wp2_with fail
 refine (Hheld.out _ HOc.out).mono ?_
 rintro e wd' ⟨rfl,hbd⟩
 have hwd:=hbd.size
 have HOd:Hid (zJg wd' v ur):=HOc.out.below hbd
 have HId:Hid (zI8 w3.heap.size wd' v uq):=HIc.out.below (hbd.mono (by omega))
 have HBd:Hid (Bw w1 wd'):=zB HBc.out hbd
 have HGd:Hid (Blk wd' b9 (vaL v ur)):=HGc.out.below HGc.out.lt hbd
 have HQd:Hid (Blk wd' b7 (vaL v uq)):=HQc.out.below HQc.out.lt hbd
 clear g0 g1 g2 g3 g4 g5 g6 g7 g8 g9 g10 g11 g12
 have hvd:=HV1.out wd' HBd.out
 obtain ⟨v0,v1,v2,v3,v4⟩:=Blk.c5 hvd
 clear HOc HIc HBc hbd hvd HGc HQc
 go_wp2_with fail
 refine Calls.mono (HTo.out _) ?_
 rintro e we ⟨rfl,hbe⟩
 clear v0 v1 v2 v3 v4
 go_wp2_with fail
 refine (Him.out _).mono ?_
 rintro e wf ⟨uf,rfl,hOf,hbf⟩
 have hbdf:=zB hbe hbf
 have hwf:=hbdf.size
 have HOf:Hid (zJg wf v ur):=HOd.out.below hbdf
 have HIf:Hid (zI8 w3.heap.size wf v uq):=HId.out.below (hbdf.mono (by omega))
 have HBf:Hid (Bw w1 wf):=zB HBd.out hbdf
 have HJf:Hid (zC7 wf v uf):=hOf.is
 have HGf:Hid (Blk wf b9 (vaL v ur)):=HGd.out.below HGd.out.lt hbdf
 have HQf:Hid (Blk wf b7 (vaL v uq)):=HQd.out.below HQd.out.lt hbdf
 have lm:b7<wf.heap.size:=HQf.out.lt
 have ll:b9<wf.heap.size:=HGf.out.lt
 clear HOd HId HBd hbdf hOf hbe hbf Him HTo HGd HQd
 have hqf:=HQf.out
 have q0:∀ o,(wf.alloc o).cell? ⟨b7,0,none⟩=_:=fun o=>(hqf.alloc lm o).cell 0 rfl
 have q1:∀ o,(wf.alloc o).cell? ⟨b7,1,none⟩=_:=fun o=>(hqf.alloc lm o).cell 1 rfl
 have q2:∀ o,(wf.alloc o).cell? ⟨b7,2,none⟩=_:=fun o=>(hqf.alloc lm o).cell 2 rfl
 have q3:∀ o,(wf.alloc o).cell? ⟨b7,3,none⟩=_:=fun o=>(hqf.alloc lm o).cell 3 rfl
 have q4:∀ o,(wf.alloc o).cell? ⟨b7,4,none⟩=_:=fun o=>(hqf.alloc lm o).cell 4 rfl
 have q5:∀ o,(wf.alloc o).cell? ⟨b7,5,none⟩=_:=fun o=>(hqf.alloc lm o).cell 5 rfl
 have q6:∀ o,(wf.alloc o).cell? ⟨b7,6,none⟩=_:=fun o=>(hqf.alloc lm o).cell 6 rfl
 have q7:∀ o,(wf.alloc o).cell? ⟨b7,7,none⟩=_:=fun o=>(hqf.alloc lm o).cell 7 rfl
 have q8:∀ o,(wf.alloc o).cell? ⟨b7,8,none⟩=_:=fun o=>(hqf.alloc lm o).cell 8 rfl
 have q9:∀ o,(wf.alloc o).cell? ⟨b7,9,none⟩=_:=fun o=>(hqf.alloc lm o).cell 9 rfl
 have q10:∀ o,(wf.alloc o).cell? ⟨b7,10,none⟩=_:=fun o=>(hqf.alloc lm o).cell 10 rfl
 have q11:∀ o,(wf.alloc o).cell? ⟨b7,11,none⟩=_:=fun o=>(hqf.alloc lm o).cell 11 rfl
 have q12:∀ o,(wf.alloc o).cell? ⟨b7,12,none⟩=_:=fun o=>(hqf.alloc lm o).cell 12 rfl
 clear hqf
 go_wp2_with fail
 generalize hWx:(wf.alloc _:World)=wx
 have hbx':Bw wf wx:=by subst hWx;exact Qb
 clear hWx q0 q1 q2 q3 q4 q5 q6 q7 q8 q9 q10 q11 q12
 have hwx:=hbx'.size
 refine (HEqR.out _ _ _ (HJf.out.below hbx') ((HIf.out.below (hbx'.mono (by omega))).is)).mono ?_
 rintro e wh ⟨rfl,hbh⟩
 have hbfh:=zB hbx' hbh
 have HOh:Hid (zJg wh v ur):=HOf.out.below hbfh
 have HBh:Hid (Bw w1 wh):=zB HBf.out hbfh
 have hgh:=HGf.out.below ll hbfh
 obtain ⟨g0,g1,g2,g3,g4,g5,g6,g7,g8,g9,g10,g11,g12⟩:=Blk.c13 hgh
 clear HOf HIf HBf HJf hbfh hbx' hbh HGf HQf hgh
 go_wp2_with fail
 refine (Hheld.out _ HOh.out).mono ?_
 rintro e wi ⟨rfl,hbi'⟩
 have HBi:Hid (Bw w wi):=zB HBw.out (zB HBh.out hbi')
 clear hbi'
 go_wp2
 go_ret
 exact ⟨rfl,HBi.out⟩
end Go.Proofs.YtpaiholildedcaaGreat
