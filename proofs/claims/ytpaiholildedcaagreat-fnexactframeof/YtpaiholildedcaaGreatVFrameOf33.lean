/- Texts. -/
import Derived.Test.YtpaiholildedcaaGreatVFrameOf32
set_option linter.unusedSimpArgs false
set_option linter.unusedVariables false
set_option maxRecDepth 100000
set_option maxHeartbeats 32000000
namespace Go.Proofs.YtpaiholildedcaaGreat
open Go.RowKit
noncomputable def frmA (z x y wd ht now s:Int)(n:Nat)(A:Nat→Kp)(rn:Nat)(E:Nat→Req)(bad:Int):List Int:=if viewC z x y wd ht now s n A rn E bad=0 then xL (frI n A z) x y wd.toNat ht.toNat else []
theorem zP2 {z x y wd ht:Int}(h:zBh z x y wd ht=true):((wd.toNat:Nat):Int)=wd∧((ht.toNat:Nat):Int)=ht:=by
 have:=xT h
 omega
theorem uM.setB {w:World}{base B r o:Nat}{v u:Value}{n:Nat}{Z:Nat→Int}(h:uM w base v n Z)(hr:r<base)(hB:B≤base):uM (w.setCell ⟨r,o,none⟩ u) B v n Z:=by
 obtain ⟨a,cap,hv,hc,h0 | ⟨b,ha,hbb,hl,hp,ht⟩⟩:=h
 ·exact ⟨a,cap,hv,hc,.inl h0⟩
 ·have hne:∀ i:Nat,(⟨r,o,none⟩:Addr)≠⟨b,i,none⟩:=fun i e=>by injection e with e;omega
  refine ⟨a,cap,hv,hc,.inr ⟨b,ha,by omega,by simpa [World.setCell] using hl,fun i hi=>?_,fun o' ho'=>?_⟩⟩
  ·rw [zB (hne _)];exact hp i hi
  ·obtain ⟨⟨x,hx⟩,hf⟩:=ht o' ho'
   exact ⟨⟨x,by rw [zB (hne _)];exact hx⟩,by rw [World.frozen?_setCell];exact hf⟩
theorem zJ0 (w:World)(base:Nat)(Z:Nat→Int):uM w base (.slice none 0 0) 0 Z:=⟨none,0,rfl,Nat.le_refl _,.inl rfl⟩
theorem resFr {T:Array Value}{Wf:World}{r:Nat}{c:Int}{v:Value}(hT:T[2]?.getD undef=.pointer (some ⟨r,0,none⟩))(h0:Wf.cell? ⟨r,0,none⟩=some (.int .i64 c))(h1:Wf.cell? ⟨r,1,none⟩=some v) :
  (results Tryz.f16 T).run Tryz.prog Wf=.ok (.agg #[.int .i64 c,v]) Wf:=by
 simp [results,Tryz.results16,go_sem,hT,h0,h1]
theorem resFs {T:Array Value}{Wf:World}{r:Nat}{c:Int}{v:Value}(hT:T[2]?.getD undef=.pointer (some ⟨r,0,none⟩))(h0:Wf.cell? ⟨r,0,none⟩=some (.int .i64 c))(h1:Wf.cell? ⟨r,1,none⟩=some v) :
  (results Tryz.f14 T).run Tryz.prog Wf=.ok (.agg #[.int .i64 c,v]) Wf:=by
 simp [results,Tryz.results14,go_sem,hT,h0,h1]
theorem zCd (z x y wd ht now s:Int)(b n cap:Nat)(A:Nat→Kp)(ra:Option Addr)(rn rc:Nat)(E:Nat→Req)(bad:Int)(w:World)(ha:zB7 w b n A)(hs:zL n A)(hcap:∀ i,i<n→(A i).fn≤(A i).fc)(hnc:n≤cap)(hr:uQ w ra rn E)(hrn:rn≤1048576)(hrc:rn≤rc) :
  Calls Tryz.prog 16 #[vwV z x y wd ht now s (.slice (some ⟨b,0,none⟩) n cap) (.slice ra rn rc) bad] w fun e w'=>∃ v,e=.returned (.agg #[.int .i64 (viewC z x y wd ht now s n A rn E bad),v])∧uM w' w.heap.size v (frmA z x y wd ht now s n A rn E bad).length (nz (frmA z x y wd ht now s n A rn E bad))∧Bw w w':=by
 obtain ⟨VC,hVC⟩:∃ VC,viewC z x y wd ht now s n A rn E bad=VC:=⟨_,rfl⟩
 have HF:Hid (∀ W,Bw w W→Calls Tryz.prog 34 #[vwV z x y wd ht now s (.slice (some ⟨b,0,none⟩) n cap) (.slice ra rn rc) bad] W fun e w'=>∃ p,e=.returned (.tuple #[.pointer (some ⟨p,0,none⟩),.int .i64 VC])∧Bw W w'∧(VC=0→LkA w' W.heap.size p z x y wd ht now s n A ra rn rc bad)):=fun W h=>zG0 z x y wd ht now s b n cap A ra rn rc E bad VC W hVC (ha.below h) hs hcap hnc (hr.below h) hrn hrc
 have HC:Hid (VC=0→zBh z x y wd ht=true∧∀ j,j<n→kC A j=0):=fun h=>by
  obtain ⟨h1,h2⟩:=zBl (hVC.trans h)
  exact ⟨h1,zA3 h2⟩
 obtain ⟨L,hL⟩:∃ L,frmA z x y wd ht now s n A rn E bad=L:=⟨_,rfl⟩
 have HL0:Hid (VC=0→xL (frI n A z) x y wd.toNat ht.toNat=L):=fun h=>by
  rw [← hL];unfold frmA;rw [if_pos (hVC.trans h)]
 have HL1:Hid (VC≠0→L=[]):=fun h=>by
  rw [← hL];unfold frmA;rw [if_neg (fun e=>h (hVC.symm.trans e))]
 rw [hVC,hL]
 have HA:Hid (zB7 w b n A):=ha
 clear ha hs hcap hnc hr hVC hL
 go_enter Tryz.func16,Tryz.ntmps16
 go_wp2_with fail
 generalize hW:((w.alloc _).alloc _:World)=W
 have HB0:Hid (Bw w W):=by show Below _ _ _;subst hW;exact Qb
 have HT:Hid (zC W (w.heap.size+1) 2):=by
  show zC _ _ _
  subst hW
  have:=zFb (w.alloc (.cells #[.int .i64 z,.int .i64 x,.int .i64 y,.int .i64 wd,.int .i64 ht,.int .i64 now,.int .i64 s,.slice (some ⟨b,0,none⟩) n cap,.slice ra rn rc,.int .i64 bad] 31)) (.int .i64 0) (.slice none 0 0) 48
  simpa using this
 have hsz:w.heap.size+1<W.heap.size:=by subst hW;simp
 clear hW
 refine Calls.mono (HF.out W HB0.out) ?_
 rintro e w1 ⟨p,rfl,hb1,hK1⟩
 have HK1:Hid (VC=0→LkA w1 W.heap.size p z x y wd ht now s n A ra rn rc bad):=hK1
 have HB1:Hid (Bw w w1):=zA HB0.out hb1
 have HT1:Hid (zC w1 (w.heap.size+1) 2):=HT.out.below hb1
 have hs1:W.heap.size≤w1.heap.size:=hb1.size
 clear hb1 hK1 HF HT HB0
 by_cases h0:VC=0
 case neg =>
  have hcb:(VC == 0)=false:=by simpa using h0
  have HE:=(show Hid _ from HL1.out h0)
  have hT':=HT1.out
  have t0:=hT'.cell 0 (by omega)
  have t1:=hT'.cell 1 (by omega)
  have f0:=(hT' 0 (by omega)).2
  have f1:=(hT' 1 (by omega)).2
  clear hT' HK1 HL0 HL1 HC h0
  go_wp2_with fail
  obtain ⟨q0,q1⟩:=zAq (W:=w1) (r:=w.heap.size+1) (i:=0) (j:=1) (u:=.int .i64 VC) (v:=.slice none 0 0) (by omega) (by rw [t0];rfl) (by rw [t1];rfl)
  refine bodyPost_ret (resFr rfl q0 q1) rfl ⟨_,rfl,?_,(HB1.out.setCell (Nat.le_succ _) _).setCell (Nat.le_succ _) _⟩
  rw [HE.out]
  exact zJ0 _ _ _
 obtain ⟨hcam,hall⟩:=HC.out h0
 have HM:Hid (Calls Tryz.prog 47 #[.pointer (some ⟨p,0,none⟩)] w1 fun e w'=>∃ v,e=.returned v∧xJ w1.heap.size w' v L∧Bw w1 w'):=by
  have:=zNy W.heap.size p b z x y wd ht now s n A ra rn rc bad w1 (HK1.out h0) hcam hall (HA.out.below HB1.out)
  rw [HL0.out h0] at this
  exact this
 subst h0
 clear HK1 HL0 HL1 HC hcam hall
 go_wp2_with fail
 refine Calls.mono HM.out ?_
 rintro e w2 ⟨v,rfl,hR,hb2⟩
 obtain ⟨a2,c2,hv,hc2,_⟩:=hR.own
 have HO2:Hid (uM w2 w1.heap.size v L.length (nz L)):=hR.own
 subst hv
 have HB2:Hid (Bw w w2):=zA HB1.out hb2
 have hT2:=HT1.out.below hb2
 have t0:=hT2.cell 0 (by omega)
 have t1:=hT2.cell 1 (by omega)
 have f0:=(hT2 0 (by omega)).2
 have f1:=(hT2 1 (by omega)).2
 clear hR hb2 hT2 HM HB1 HT1
 go_wp2_with fail
 obtain ⟨q0,q1⟩:=zAq (W:=w2) (r:=w.heap.size+1) (i:=0) (j:=1) (u:=.int .i64 0) (v:=.slice a2 L.length c2) (by omega) (by rw [t0];rfl) (by rw [t1];rfl)
 refine bodyPost_ret (resFr rfl q0 q1) rfl ⟨_,rfl,?_,(HB2.out.setCell (Nat.le_succ _) _).setCell (Nat.le_succ _) _⟩
 exact (HO2.out.setB (B:=w1.heap.size) (by omega) (Nat.le_refl _)).setB (B:=w.heap.size) (by omega) (by omega)
theorem zB8 (z x y wd ht now s:Int)(b n cap:Nat)(A:Nat→Kp)(ra:Option Addr)(rn rc:Nat)(E:Nat→Req)(bad:Int)(w:World)(ha:zB7 w b n A)(hs:zL n A)(hr:uQ w ra rn E)(hrn:rn≤1048576) :
  Calls Tryz.prog 14 #[vwV z x y wd ht now s (.slice (some ⟨b,0,none⟩) n cap) (.slice ra rn rc) bad] w fun e w'=>∃ v,e=.returned (.agg #[.int .i64 (viewC z x y wd ht now s n A rn E bad),v])∧uM w' w.heap.size v (frmA z x y wd ht now s n A rn E bad).length (nz (frmA z x y wd ht now s n A rn E bad))∧Bw w w':=by
 obtain ⟨VC,hVC⟩:∃ VC,viewC z x y wd ht now s n A rn E bad=VC:=⟨_,rfl⟩
 have HA:Hid (zB7 w b n A):=ha
 have HS:Hid (zL n A):=hs
 have HR:Hid (uQ w ra rn E):=hr
 have HVC:Hid (viewC z x y wd ht now s n A rn E bad=VC):=hVC
 have HC:Hid (VC=0→zBh z x y wd ht=true∧∀ j,j<n→kC A j=0):=fun h=>by
  obtain ⟨h1,h2⟩:=zBl (hVC.trans h)
  exact ⟨h1,zA3 h2⟩
 obtain ⟨L,hL⟩:∃ L,frmA z x y wd ht now s n A rn E bad=L:=⟨_,rfl⟩
 have HL0:Hid (VC=0→xL (frI n A z) x y wd.toNat ht.toNat=L):=fun h=>by
  rw [← hL];unfold frmA;rw [if_pos (hVC.trans h)]
 have HL1:Hid (VC≠0→L=[]):=fun h=>by
  rw [← hL];unfold frmA;rw [if_neg (fun e=>h (hVC.symm.trans e))]
 rw [hVC,hL]
 clear ha hs hr hVC hL
 go_enter Tryz.func14,Tryz.ntmps14
 go_wp2_with fail
 generalize hW:((w.alloc _).alloc _:World)=W
 have HB0:Hid (Bw w W):=by show Below _ _ _;subst hW;exact Qb
 have HT:Hid (zC W (w.heap.size+1) 2):=by
  show zC _ _ _
  subst hW
  have:=zFb (w.alloc (.cells #[.int .i64 z,.int .i64 x,.int .i64 y,.int .i64 wd,.int .i64 ht,.int .i64 now,.int .i64 s,.slice (some ⟨b,0,none⟩) n cap,.slice ra rn rc,.int .i64 bad] 31)) (.int .i64 0) (.slice none 0 0) 48
  simpa using this
 have HV:Hid (Blk W w.heap.size [.int .i64 z,.int .i64 x,.int .i64 y,.int .i64 wd,.int .i64 ht,.int .i64 now,.int .i64 s,.slice (some ⟨b,0,none⟩) n cap,.slice ra rn rc,.int .i64 bad]):=by show Blk _ _ _;subst hW;exact (Blk.new w _ _).alloc (by simp) _
 have hsz:w.heap.size+1<W.heap.size:=by subst hW;simp
 clear hW
 have HF:=(show Hid _ from zHa _ z x y wd ht now s b n cap A ra rn rc E bad W HV.out (HA.out.below HB0.out) HS.out (HR.out.below HB0.out) hrn)
 rw [HVC.out] at HF
 refine Calls.mono HF.out ?_
 rintro e w1 ⟨rfl,hb1⟩
 have HB1:Hid (Bw w w1):=zA HB0.out hb1
 have HT1:Hid (zC w1 (w.heap.size+1) 2):=HT.out.below hb1
 have HV1:Hid (Blk w1 w.heap.size [.int .i64 z,.int .i64 x,.int .i64 y,.int .i64 wd,.int .i64 ht,.int .i64 now,.int .i64 s,.slice (some ⟨b,0,none⟩) n cap,.slice ra rn rc,.int .i64 bad]):=HV.out.below HV.out.lt hb1
 have hs1:W.heap.size≤w1.heap.size:=hb1.size
 clear hb1 HF HT HB0 HV HVC
 by_cases h0:VC=0
 case neg =>
  have hcb:(VC == 0)=false:=by simpa using h0
  have HE:=(show Hid _ from HL1.out h0)
  have hT':=HT1.out
  have t0:=hT'.cell 0 (by omega)
  have t1:=hT'.cell 1 (by omega)
  have f0:=(hT' 0 (by omega)).2
  have f1:=(hT' 1 (by omega)).2
  clear hT' HL0 HL1 HC h0
  go_wp2_with fail
  obtain ⟨q0,q1⟩:=zAq (W:=w1) (r:=w.heap.size+1) (i:=0) (j:=1) (u:=.int .i64 VC) (v:=.slice none 0 0) (by omega) (by rw [t0];rfl) (by rw [t1];rfl)
  refine bodyPost_ret (resFs rfl q0 q1) rfl ⟨_,rfl,?_,(HB1.out.setCell (Nat.le_succ _) _).setCell (Nat.le_succ _) _⟩
  rw [HE.out]
  exact zJ0 _ _ _
 obtain ⟨hcam,hall⟩:=HC.out h0
 have HM:Hid (Calls Tryz.prog 44 #[.pointer (some ⟨w.heap.size,0,none⟩)] w1 fun e w'=>∃ v,e=.returned v∧xJ w1.heap.size w' v L∧Bw w1 w'):=by
  obtain ⟨ew,eh⟩:=zP2 hcam
  have:=zG9 w.heap.size z x y wd.toNat ht.toNat now s b n cap A ra rn rc bad w1 (by rw [ew,eh];exact HV1.out) (by rw [ew,eh];exact hcam) (HA.out.below HB1.out) HS.out.1 hall
  rw [HL0.out h0] at this
  exact this
 subst h0
 clear HL0 HL1 HC hcam hall
 go_wp2_with fail
 refine Calls.mono HM.out ?_
 rintro e w2 ⟨v,rfl,hR,hb2⟩
 obtain ⟨a2,c2,hv,hc2,_⟩:=hR.own
 have HO2:Hid (uM w2 w1.heap.size v L.length (nz L)):=hR.own
 subst hv
 have HB2:Hid (Bw w w2):=zA HB1.out hb2
 have hT2:=HT1.out.below hb2
 have t0:=hT2.cell 0 (by omega)
 have t1:=hT2.cell 1 (by omega)
 have f0:=(hT2 0 (by omega)).2
 have f1:=(hT2 1 (by omega)).2
 clear hR hb2 hT2 HM HB1 HT1
 go_wp2_with fail
 obtain ⟨q0,q1⟩:=zAq (W:=w2) (r:=w.heap.size+1) (i:=0) (j:=1) (u:=.int .i64 0) (v:=.slice a2 L.length c2) (by omega) (by rw [t0];rfl) (by rw [t1];rfl)
 refine bodyPost_ret (resFs rfl q0 q1) rfl ⟨_,rfl,?_,(HB2.out.setCell (Nat.le_succ _) _).setCell (Nat.le_succ _) _⟩
 exact (HO2.out.setB (B:=w1.heap.size) (by omega) (Nat.le_refl _)).setB (B:=w.heap.size) (by omega) (by omega)
end Go.Proofs.YtpaiholildedcaaGreat
