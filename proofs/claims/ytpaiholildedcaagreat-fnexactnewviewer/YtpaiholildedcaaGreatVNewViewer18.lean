/- Texts. -/
import Derived.Test.YtpaiholildedcaaGreatVNewViewer17
set_option linter.unusedSimpArgs false
set_option linter.unusedVariables false
set_option maxRecDepth 100000
set_option maxHeartbeats 32000000
namespace Go.Proofs.YtpaiholildedcaaGreat
open Go.RowKit
def LkA (w:World)(B p:Nat)(z x y wd ht now s:Int)(n:Nat)(A:Nat→Kp)(ra:Option Addr)(rn rc:Nat)(bad:Int):Prop:=B≤p∧∃ sp,Blk w p [.int .i64 z,.int .i64 x,.int .i64 y,.int .i64 wd,.int .i64 ht,.int .i64 now,.pointer (some ⟨sp,0,none⟩),.slice ra rn rc,.int .i64 bad,.slice none 0 0]∧ShK w B sp s n A∧sp≠p
theorem zHw {a b:Int}(h:or2 a b=0):a=0∧b=0:=by
 unfold or2 at h
 split at h
 ·rename_i h0;exact ⟨h0,h⟩
 ·rename_i h0;exact absurd h h0
theorem zHv {a b c:Int}(h:or3 a b c=0):a=0∧b=0∧c=0:=by
 unfold or3 at h
 by_cases h1:a=0
 ·rw [if_pos h1] at h
  by_cases h2:b=0
  ·rw [if_pos h2] at h;exact ⟨h1,h2,h⟩
  ·rw [if_neg h2] at h;exact absurd h h2
 ·rw [if_neg h1] at h;exact absurd h h1
theorem zGs {z x y wd ht now s:Int}{n:Nat}{K:Nat→Kp}{rn:Nat}{E:Nat→Req}{bad:Int}(h:or2 (xN z x y wd ht) (zD5 now bad)≠0):zC8 z x y wd ht now s n K rn E bad=or2 (xN z x y wd ht) (zD5 now bad):=by
 unfold zC8 or2 at *
 by_cases h1:xN z x y wd ht=0
 ·rw [if_pos h1,if_pos h1]
  rw [if_pos h1] at h
  unfold zD5 at *
  by_cases h2:inV now bad=true
  ·rw [if_pos h2] at h;exact absurd rfl h
  ·rw [if_neg h2,if_neg h2]
 ·rw [if_neg h1,if_neg h1]
theorem zFi {z x y wd ht now s:Int}{n:Nat}{K:Nat→Kp}{rn:Nat}{E:Nat→Req}{bad:Int}(h:or2 (xN z x y wd ht) (zD5 now bad)=0)(h2:or3 (yC s n K) (if s<4 then 3 else 0) (zQ rn E)≠0):zC8 z x y wd ht now s n K rn E bad=or3 (yC s n K) (if s<4 then 3 else 0) (zQ rn E):=by
 obtain ⟨h0,h1⟩:=zHw h
 have hi:inV now bad=true:=by
  unfold zD5 at h1
  by_cases h:inV now bad=true
  ·exact h
  ·rw [if_neg h] at h1;cases h1
 unfold zC8 or3 at *
 rw [if_pos h0,if_pos hi]
 by_cases h3:yC s n K=0
 ·rw [if_pos h3,if_pos h3]
  rw [if_pos h3] at h2
  by_cases h4:s<4
  ·simp [h4]
  ·simp [h4] at h2 ⊢
   intro h;exact absurd h h2
 ·rw [if_neg h3,if_neg h3]
theorem zGr {z x y wd ht now s:Int}{n:Nat}{K:Nat→Kp}{rn:Nat}{E:Nat→Req}{bad:Int}(h:or2 (xN z x y wd ht) (zD5 now bad)=0)(h2:or3 (yC s n K) (if s<4 then 3 else 0) (zQ rn E)=0):zC8 z x y wd ht now s n K rn E bad=uB (zGv z x y wd ht n K E) 0 rn:=by
 obtain ⟨h0,h1⟩:=zHw h
 obtain ⟨h3,h4,h5⟩:=zHv h2
 have hi:inV now bad=true:=by
  unfold zD5 at h1
  by_cases h:inV now bad=true
  ·exact h
  ·rw [if_neg h] at h1;cases h1
 have h4':¬ s<4:=fun h=>by rw [if_pos h] at h4;cases h4
 unfold zC8
 rw [if_pos h0,if_pos hi,if_pos h3,if_neg h4',if_pos h5]
theorem zFv (z x y wd ht now s:Int)(ka:Option Addr)(n cap:Nat)(A:Nat→Kp)(ra:Option Addr)(rn rc:Nat)(E:Nat→Req)(bad VC:Int)(w:World)(hVC:zC8 z x y wd ht now s n A rn E bad=VC)(hsh:∀ W,Bw w W→Calls Tryz.prog 74 #[caV s (.slice ka n cap)] W fun e w'=>∃ p,e=.returned (.tuple #[.pointer (some ⟨p,0,none⟩),.int .i64 (yC s n A)])∧Bw W w'∧(yC s n A=0→ShK w' W.heap.size p s n A))(hr:xV w ra rn E)(hrn:rn≤1048576)(hrc:rn≤rc) :
  Calls Tryz.prog 34 #[vwV z x y wd ht now s (.slice ka n cap) (.slice ra rn rc) bad] w fun e w'=>∃ p,e=.returned (.tuple #[.pointer (some ⟨p,0,none⟩),.int .i64 VC])∧Bw w w'∧(VC=0→LkA w' w.heap.size p z x y wd ht now s n A ra rn rc bad):=by
 have HVC:Hid (zC8 z x y wd ht now s n A rn E bad=VC):=hVC
 have HR:Hid (xV w ra rn E):=hr
 have HSh:Hid (∀ W,Bw w W→Calls Tryz.prog 74 #[caV s (.slice ka n cap)] W fun e w'=>∃ p,e=.returned (.tuple #[.pointer (some ⟨p,0,none⟩),.int .i64 (yC s n A)])∧Bw W w'∧(yC s n A=0→ShK w' W.heap.size p s n A)):=hsh
 have HRq:Hid (∀ W,Bw w W→Calls Tryz.prog 76 #[.slice ra rn rc] W fun e w'=>e=.returned (.int .i64 (zQ rn E))∧Bw W w'):=fun W h=>yO ra rn rc E W (HR.out.below h) hrn hrc
 clear hVC hsh hr
 go_enter Tryz.func34,Tryz.ntmps34
 go_wp2_with fail
 generalize hW:((w.alloc _).alloc _:World)=W
 have HB0:Hid (Bw w W):=by show Below _ _ _;subst hW;exact Qb
 have HV:Hid (Blk W w.heap.size [.int .i64 z,.int .i64 x,.int .i64 y,.int .i64 wd,.int .i64 ht,.int .i64 now,.int .i64 s,.slice ka n cap,.slice ra rn rc,.int .i64 bad]):=by show Blk _ _ _;subst hW;exact (Blk.new w _ _).alloc (by simp) _
 have HL:Hid (Blk W (w.heap.size+1) [.int .i64 z,.int .i64 x,.int .i64 y,.int .i64 wd,.int .i64 ht,.int .i64 now,.pointer none,.slice ra rn rc,.int .i64 bad,.slice none 0 0]):=by
  show Blk _ _ _;subst hW
  have:=Blk.new (w.alloc (.cells #[.int .i64 z,.int .i64 x,.int .i64 y,.int .i64 wd,.int .i64 ht,.int .i64 now,.int .i64 s,.slice ka n cap,.slice ra rn rc,.int .i64 bad] 31)) [.int .i64 z,.int .i64 x,.int .i64 y,.int .i64 wd,.int .i64 ht,.int .i64 now,.pointer none,.slice ra rn rc,.int .i64 bad,.slice none 0 0] 100
  simpa using this
 have hvl:w.heap.size<W.heap.size:=HV.out.lt
 have hll:w.heap.size+1<W.heap.size:=HL.out.lt
 clear hW
 refine (vF z x y wd ht W).mono ?_
 rintro e w1 ⟨rfl,hb1⟩
 have HB1:Hid (Bw W w1):=hb1
 have HCt:Hid (Calls Tryz.prog 73 #[.pointer (some ⟨w.heap.size+1,0,none⟩)] w1 fun e w'=>e=.returned (.int .i64 (zD5 now bad))∧Bw w1 w'):=zCx _ now bad w1 ((HL.out.below hll hb1).cell 5 rfl) ((HL.out.below hll hb1).cell 8 rfl)
 clear hb1
 go_wp2_with fail
 refine Calls.mono HCt.out ?_
 rintro e w2 ⟨rfl,hb2⟩
 have HB2:Hid (Bw W w2):=zB HB1.out hb2
 clear hb2 HCt HB1
 go_wp2_with fail
 generalize hw3:(w2.alloc _:World)=w3
 have HB3:Hid (Bw W w3):=by show Below _ _ _;subst hw3;exact zB HB2.out (yX (Below.refl _ _) _)
 have HOr:Hid (Calls Tryz.prog 71 #[.slice (some ⟨w2.heap.size,0,none⟩) 2 2] w3 fun e w'=>e=.returned (.int .i64 (or2 (xN z x y wd ht) (zD5 now bad)))∧w'=w3):=by
  show Calls _ _ _ _ _
  subst hw3
  exact zD7 _ _ _ _ _ (by simp [go_sem]) (by simp [go_sem])
 clear hw3
 refine Calls.mono HOr.out ?_
 rintro e w4 ⟨rfl,h4⟩
 subst w4
 clear HOr HB2
 by_cases hor:or2 (xN z x y wd ht) (zD5 now bad)=0
 case neg =>
  have hq:Hid (VC=or2 (xN z x y wd ht) (zD5 now bad)):=HVC.out.symm.trans (zGs hor)
  have hcb:(or2 (xN z x y wd ht) (zD5 now bad) == 0)=false:=by simpa using hor
  clear HVC HSh HRq
  generalize or2 (xN z x y wd ht) (zD5 now bad)=oc at *
  go_wp2_with fail
  refine bodyPost_ret (v:=.tuple #[.pointer (some ⟨w.heap.size+1,0,none⟩),.int .i64 oc]) (by simp [results,Tryz.results34,go_sem]) rfl ?_
  exact ⟨_,by rw [hq.out],zB HB0.out HB3.out,fun h=>absurd (hq.out.symm.trans h) hor⟩
 have HOR:Hid (or2 (xN z x y wd ht) (zD5 now bad)=0):=hor
 rw [hor]
 have c6:=(HV.out.below hvl HB3.out).cell 6 rfl
 have c7:=(HV.out.below hvl HB3.out).cell 7 rfl
 clear hor
 go_wp2_with fail
 refine Calls.mono (HSh.out _ (zB HB0.out HB3.out)) ?_
 rintro e w5 ⟨sp,rfl,hb5,hK5⟩
 have HK5:Hid (yC s n A=0→ShK w5 w3.heap.size sp s n A):=hK5
 have HB5:Hid (Bw W w5):=zB HB3.out hb5
 have hw35:w.heap.size+1<w3.heap.size:=Nat.lt_of_lt_of_le hll HB3.out.size
 have HL5:Hid (Blk w5 (w.heap.size+1) [.int .i64 z,.int .i64 x,.int .i64 y,.int .i64 wd,.int .i64 ht,.int .i64 now,.pointer none,.slice ra rn rc,.int .i64 bad,.slice none 0 0]):=HL.out.below hll HB5.out
 have HV5:Hid (Blk w5 w.heap.size [.int .i64 z,.int .i64 x,.int .i64 y,.int .i64 wd,.int .i64 ht,.int .i64 now,.int .i64 s,.slice ka n cap,.slice ra rn rc,.int .i64 bad]):=HV.out.below hvl HB5.out
 have t6:=HL5.out.cell 6 rfl
 have f6:=HL5.out.free 6 rfl
 clear hb5 hK5 c6 c7 HSh HL HV HB3
 go_wp2_with fail
 generalize hw6:(World.setCell _ _ _:World)=w6
 have HG6:Hid (w5.grownBy w6 (some (w.heap.size+1))):=by show World.grownBy _ _ _;subst hw6;exact uJ (uO _ _) 6 _
 have HL6:Hid (Blk w6 (w.heap.size+1) [.int .i64 z,.int .i64 x,.int .i64 y,.int .i64 wd,.int .i64 ht,.int .i64 now,.pointer (some ⟨sp,0,none⟩),.slice ra rn rc,.int .i64 bad,.slice none 0 0]):=by show Blk _ _ _;subst hw6;exact HL5.out.set 6 _
 have HV6:Hid (Blk w6 w.heap.size [.int .i64 z,.int .i64 x,.int .i64 y,.int .i64 wd,.int .i64 ht,.int .i64 now,.int .i64 s,.slice ka n cap,.slice ra rn rc,.int .i64 bad]):=by show Blk _ _ _;subst hw6;exact HV5.out.other (by omega)
 have HB6:Hid (Bw w w6):=by show Below _ _ _;subst hw6;exact (zB HB0.out HB5.out).setCell (Nat.le_succ _) _
 clear hw6 t6 f6 HL5 HV5
 have HK6:Hid (yC s n A=0→ShK w6 w.heap.size sp s n A∧sp≠w.heap.size+1):=fun h=>by
  obtain ⟨mb,h1,h2,h3,h4,h5⟩:=HK5.out h
  have e1:sp≠w.heap.size+1:=by omega
  exact ⟨⟨mb,by omega,by omega,⟨yF HG6.out h3.1 e1,yF HG6.out h3.2.1 e1,yF HG6.out h3.2.2 e1⟩,h4.grown HG6.out e1,h5.kept HG6.out (by simp;omega)⟩,e1⟩
 have hvl6:w.heap.size<w6.heap.size:=HV6.out.lt
 have hll6:w.heap.size+1<w6.heap.size:=HL6.out.lt
 clear HK5 HG6 HB5 HB0 hw35 hvl hll
 have c6:∀ W',Bw w6 W'→W'.cell? ⟨w.heap.size,6,none⟩=some (.int .i64 s):=fun W' h=>(HV6.out.below hvl6 h).cell 6 rfl
 have c7:∀ W',Bw w6 W'→W'.cell? ⟨w.heap.size+1,7,none⟩=some (.slice ra rn rc):=fun W' h=>(HL6.out.below hll6 h).cell 7 rfl
 have HRo:Hid (∀ W',Calls Tryz.prog 75 #[.int .i64 s] W' fun e w'=>e=.returned (.int .i64 (if s<4 then 3 else 0))∧w'=W'):=fun W'=>zEo s W'
 have HO3:Hid (∀ (W':World) (bb:Nat) (u1 u2 u3:Int),W'.cell? ⟨bb,0,none⟩=some (.int .i64 u1)→W'.cell? ⟨bb,1,none⟩=some (.int .i64 u2)→W'.cell? ⟨bb,2,none⟩=some (.int .i64 u3)→Calls Tryz.prog 71 #[.slice (some ⟨bb,0,none⟩) 3 3] W' fun e w'=>e=.returned (.int .i64 (or3 u1 u2 u3))∧w'=W'):=fun W' bb u1 u2 u3 h0 h1 h2=>zD6 bb 3 u1 u2 u3 W' h0 h1 h2
 have HSt:Hid (∀ W',Bw w6 W'→yC s n A=0→zQ rn E=0→Calls Tryz.prog 77 #[.pointer (some ⟨w.heap.size+1,0,none⟩)] W' fun e w'=>e=.returned (.int .i64 (uB (zGv z x y wd ht n A E) 0 rn))∧Below W'.heap.size W' w'):=fun W' h h0 hq=>zC9 w.heap.size (w.heap.size+1) sp z x y wd ht now s n A ra rn rc E bad W' (HL6.out.below hll6 h) ((HK6.out h0).1.below h) h0 (HR.out.below (zB HB6.out h)) hrn hrc hq
 generalize hRM:(if s<4 then (3:Int) else 0)=RM at *
 have HRM:Hid ((if s<4 then (3:Int) else 0)=RM):=hRM
 clear hRM
 refine wp_region_noPanic ?_
 refine wp_region_held_drew (S:=fun W'=>Bw w6 W') (by kernel_rfl) (by have:=Below.refl w6.heap.size w6;exact Qb) (fun hHeld=>?_)
 have hX0:Bw w6 w6.drew:=hHeld
 refine zE (i:=0) (d:=some 41) rfl rfl ?_
 try simp only [Act.put,Qx,Qy,Qz]
 refine zE (i:=1) (d:=some 42) rfl rfl ?_
 try simp only [Act.put,Qx,Qy,Qz]
 refine zE (i:=2) (d:=some 43) rfl rfl ?_
 try simp only [Act.put,Qx,Qy,Qz]
 refine zE (i:=3) (d:=some 44) rfl rfl ?_
 try simp only [Act.put,Qx,Qy,Qz]
 refine zE (i:=5) (d:=some 46) rfl rfl ?_
 try simp only [Act.put,Qx,Qy,Qz]
 refine zE (i:=6) (d:=some 47) rfl rfl ?_
 try simp only [Act.put,Qx,Qy,Qz]
 refine zE (i:=7) (d:=some 48) rfl rfl ?_
 try simp only [Act.put,Qx,Qy,Qz]
 refine zE (i:=8) (d:=some 49) rfl rfl ?_
 try simp only [Act.put,Qx,Qy,Qz]
 generalize w6.drew=wk0 at *
 refine zN 4 fun K hK=>?_
 rw [if_pos (by rfl)]
 go_simp
 refine Calls.mono (HRo.out _) ?_
 rintro e wk1 ⟨rfl,hw⟩
 subst wk1
 go_wp2_with fail
 refine hK.out _ _ (by assumption) (fun hHeld=>?_)
 clear hK K
 try simp only [Act.put,Qx,Qy,Qz]
 refine zN 9 fun K hK=>?_
 rw [if_pos (by rfl)]
 go_simp
 refine Calls.mono (HRq.out _ (zB HB6.out hX0)) ?_
 rintro e wk2 ⟨rfl,hb2⟩
 have hX2:Bw w6 wk2:=zB hX0 hb2
 go_wp2_with fail
 refine hK.out _ _ (by assumption) (fun hHeld=>?_)
 clear hK K
 try simp only [Act.put,Qx,Qy,Qz]
 refine zN 10 fun K hK=>?_
 rw [if_pos (by rfl)]
 go_simp
 generalize hwA:(World.alloc _ _:World)=wk3
 have hb3:Bw wk2 wk3:=by subst hwA;exact Qb
 have j0:wk3.cell? ⟨wk2.heap.size,0,none⟩=some (.int .i64 (yC s n A)):=by subst hwA;simp [go_sem]
 have j1:wk3.cell? ⟨wk2.heap.size,1,none⟩=some (.int .i64 RM):=by subst hwA;simp [go_sem]
 have j2:wk3.cell? ⟨wk2.heap.size,2,none⟩=some (.int .i64 (zQ rn E)):=by subst hwA;simp [go_sem]
 clear hwA
 have hX3:Bw w6 wk3:=zB hX2 hb3
 refine hK.out _ _ hX3 (fun hHeld=>?_)
 clear hK K
 try simp only [Act.put,Qx,Qy,Qz]
 refine zN 11 fun K hK=>?_
 rw [if_pos (by rfl)]
 go_simp
 refine Calls.mono (HO3.out _ _ _ _ _ j0 j1 j2) ?_
 rintro e wk4 ⟨rfl,hw⟩
 subst wk4
 go_wp2_with fail
 refine hK.out _ _ (by assumption) (fun hHeld=>?_)
 clear hK K
 try simp only [Act.put,Qx,Qy,Qz]
 refine zE (i:=12) (d:=some 7) rfl rfl ?_
 try simp only [Act.put,Qx,Qy,Qz]
 refine wpAnyH_done (by kernel_rfl) ?_ _
 refine NoPanic.normal ?_
 have HX3:Hid (Bw w6 wk3):=hX3
 clear c6 c7 HRo HRq HO3 hX0 hb2 hX2 hb3 hX3 j0 j1 j2
 have HB7:Hid (Bw w wk3):=zB HB6.out HX3.out
 by_cases ho3:or3 (yC s n A) RM (zQ rn E)=0
 case neg =>
  have hq:Hid (VC=or3 (yC s n A) RM (zQ rn E)):=by
   show _=_
   rw [← HVC.out,← HRM.out]
   exact zFi HOR.out (by rw [HRM.out];exact ho3)
  have hcb:(or3 (yC s n A) RM (zQ rn E) == 0)=false:=by simpa using ho3
  clear HVC HSt HK6
  generalize or3 (yC s n A) RM (zQ rn E)=oc at *
  go_wp2_with fail
  refine bodyPost_ret (v:=.tuple #[.pointer (some ⟨w.heap.size+1,0,none⟩),.int .i64 oc]) (by simp [results,Tryz.results34,go_sem]) rfl ?_
  exact ⟨_,by rw [hq.out],HB7.out,fun h=>absurd (hq.out.symm.trans h) ho3⟩
 obtain ⟨h1,h2,h3⟩:=zHv ho3
 have hq:Hid (VC=uB (zGv z x y wd ht n A E) 0 rn):=by
  show _=_
  rw [← HVC.out]
  exact zGr HOR.out (by rw [HRM.out];exact ho3)
 have HSt2:=(show Hid _ from HSt.out wk3 HX3.out h1 h3)
 have HK7:Hid (ShK wk3 w.heap.size sp s n A∧sp≠w.heap.size+1):=⟨(HK6.out h1).1.below HX3.out,(HK6.out h1).2⟩
 have HL7:Hid (Blk wk3 (w.heap.size+1) [.int .i64 z,.int .i64 x,.int .i64 y,.int .i64 wd,.int .i64 ht,.int .i64 now,.pointer (some ⟨sp,0,none⟩),.slice ra rn rc,.int .i64 bad,.slice none 0 0]):=HL6.out.below hll6 HX3.out
 rw [ho3]
 clear HSt HK6 ho3 h1 h2 h3
 generalize uB (zGv z x y wd ht n A E) 0 rn=sc at *
 go_wp2_with fail
 refine Calls.mono HSt2.out ?_
 rintro e w8 ⟨rfl,hb8⟩
 go_wp2_with fail
 refine bodyPost_ret (v:=.tuple #[.pointer (some ⟨w.heap.size+1,0,none⟩),.int .i64 sc]) (by simp [results,Tryz.results34,go_sem]) rfl ?_
 exact ⟨_,by rw [hq.out],zB HB7.out hb8,fun _=>⟨Nat.le_succ _,sp,HL7.out.below HL7.out.lt hb8,HK7.out.1.below hb8,HK7.out.2⟩⟩
end Go.Proofs.YtpaiholildedcaaGreat
namespace Go.Proofs.YtpaiholildedcaaGreat
open Go.RowKit Go.Sort Go.Shelf
def zMg (f g:Ag):Int:=cmpI f.t g.t
theorem zCa (e:Ag):(zB2 e).length=6:=rfl
theorem zLz (e:Ag):∀ v ∈ zB2 e,v.oneCell'=true:=by simp [zB2,Value.oneCell']
def AgAt (w:World)(p o:Nat)(a:Ag):Prop:=w.cell? ⟨p,o,none⟩=some (.int .i64 a.z)∧w.cell? ⟨p,o+1,none⟩=some (.int .i64 a.x)∧w.cell? ⟨p,o+2,none⟩=some (.int .i64 a.y)∧w.cell? ⟨p,o+3,none⟩=some (.slice a.fa a.fn a.fc)∧w.cell? ⟨p,o+4,none⟩=some (.slice a.ia a.m a.ic)∧w.cell? ⟨p,o+5,none⟩=some (.int .i64 a.t)
theorem zBy (f g:Ag)(w:World):Calls Tryz.prog 179 #[.agg (zB2 f).toArray,.agg (zB2 g).toArray] w fun e w'=>e=.returned (.int .i64 (zMg f g))∧Gro w w':=by
 have H1:Hid (∀ W,Calls Tryz.prog 201 #[.int .i64 f.t,.int .i64 g.t] W fun e w'=>e=.returned (.int .i64 (zMg f g))∧w'=W):=fun W=>zDs _ _ _
 generalize zMg f g=A at *
 unfold zB2
 go_enter Tryz.func179,Tryz.ntmps179
 go_wp2_with fail
 generalize hV:((w.alloc _).alloc _:World)=V
 have hB0:Gro w V:=by subst hV;exact ((Gro.refl _).alloc _).alloc _
 clear hV
 refine (H1.out _).mono ?_
 rintro e w1 ⟨rfl,rfl⟩
 go_wp2
 go_ret
 exact ⟨rfl,hB0⟩
theorem zBz (f g:Ag)(w:World):Calls Tryz.prog 179 #[.agg (zB2 f).toArray,.agg (zB2 g).toArray] w fun e w'=>e=.returned (.int .i64 (zMg f g))∧∃ q os',w'=grow (w.drewN q) os' :=
 (zBy f g w).mono fun e w' ⟨he,hg⟩=>⟨he,hg.grow⟩
def ARow (base:Nat)(w:World)(v:Value)(E:Nat→Ag)(n:Nat):Prop:=w.ownsRow base 181 6 v n (zB1 ((List.range n).map E))
theorem zEd (e:Ag)(l:List Ag):zB1 (e :: l)=zB2 e ++ zB1 l:=rfl
theorem zGi:∀ (l:List Ag) (i k:Nat) (e:Ag),l[i]?=some e→k<6→(zB1 l)[i * 6+k]?=(zB2 e)[k]?
 | [],i,k,e,h,_=>by simp at h
 | a :: l,0,k,e,h,hk=>by
  simp at h
  subst h
  rw [zEd,Nat.zero_mul,Nat.zero_add,List.getElem?_append_left (by rw [zCa];exact hk)]
 | a :: l,i+1,k,e,h,hk=>by
  have h':l[i]?=some e:=by simpa using h
  rw [zEd,List.getElem?_append_right (by rw [zCa];omega),zCa,← zGi l i k e h' hk]
  congr 1
  omega
theorem zI7 (E:Nat→Ag)(n i k:Nat)(hi:i<n)(hk:k<6):(zB1 ((List.range n).map E))[i * 6+k]?=(zB2 (E i))[k]? :=
 zGi _ i k _ (by simp [hi]) hk
theorem zEx (H:Nat→Ag)(i j:Nat):ltOf (fun i j=>zMg (H i) (H j)) i j=ltK (fun _=>0) (fun i=>(H i).t) i j:=by
 show decide (cmpI (H i).t (H j).t<0)=(decide ((0:Int)<0) || (decide ((0:Int)=0) && decide ((H i).t<(H j).t)))
 simp [cmpI_lt]
theorem zLc (H:Nat→Ag):SWO (ltOf (fun i j=>zMg (H i) (H j))) where
 irrefl x:=by rw [zEx,zJ7];omega
 trans x y z h1 h2:=by rw [zEx,zJ8] at *;omega
 ntrans x y z h1 h2:=by rw [zEx,zJ7] at *;omega
theorem zKr (H:Nat→Ag)(blk off size:Nat)(w:World):CmpLays Tryz.prog 179 #[] (fun i=>zB2 (H i)) 6 (fun i j=>zMg (H i) (H j)) blk off size w :=
 fun _ _ _ _ x y=>zBz (H x) (H y) _
theorem holds_A {base:Nat}{w:World}{v:Value}{H:Nat→Ag}{n g c:Nat}(h:ARow base w v H n)(hv:v=.slice (some ⟨g,0,none⟩) n c):HoldsK (fun i=>zB2 (H i)) 6 w g 0 (Array.range n):=by
 subst hv
 have hrow:w.ownsRow base 181 6 (.slice (some ⟨g,0,none⟩) n c) n (zB1 ((List.range n).map H)):=h
 intro t ht
 rw [size_flatK,Array.size_range] at ht
 rw [get_flatK _ _ _ _ (by rw [Array.size_range];exact ht),Nat.zero_add]
 refine ⟨?_,hrow.frozenAt t⟩
 have hi:t / 6<n:=by omega
 have hk:t % 6<6:=by omega
 have e:=zI7 H n (t / 6) (t % 6) hi hk
 have et:t / 6 * 6+t % 6=t:=by omega
 rw [et] at e
 rw [hrow.cellAt t ht,e]
 have ea:(Array.range n)[t / 6]! = t / 6:=by simp [hi]
 rw [ea]
 show (zB2 (H (t / 6)))[t % 6]?=some (zB2 (H (t / 6)))[t % 6]!
 have hl:t % 6<(zB2 (H (t / 6))).length:=by rw [zCa];exact hk
 rw [List.getElem?_eq_getElem hl,getElem!_pos (zB2 (H (t / 6))) (t % 6) hl]
theorem at_A {w:World}{H:Nat→Ag}{g:Nat}{d:Array Nat}(h:HoldsK (fun i=>zB2 (H i)) 6 w g 0 d){i:Nat}(hi:i<d.size):AgAt w g (i * 6) (H d[i]!):=by
 have c:=fun k (hk:k<6)=>(h.cell hi hk).1
 simp only [Nat.zero_add] at c
 exact ⟨c 0 (by omega),c 1 (by omega),c 2 (by omega),c 3 (by omega),c 4 (by omega),c 5 (by omega)⟩
theorem there_A {w:World}{H:Nat→Ag}{g:Nat}{d:Array Nat}(h:HoldsK (fun i=>zB2 (H i)) 6 w g 0 d):zC w g (d.size * 6):=fun o ho=>by
 have:=h.cell (i:=o / 6) (c:=o % 6) (by omega) (by omega)
 have e:0+o / 6 * 6+o % 6=o:=by omega
 rw [e] at this
 exact ⟨⟨_,this.1⟩,this.2⟩
theorem zJq (n base:Nat)(v:Value)(H:Nat→Ag)(w:World)(hR:ARow base w v H n)(hn:n≤1048576) :
  Calls Tryz.prog 215 #[v,.func (.func 179) #[] #[]] w fun e w'=>e=.returned (.tuple #[]) ∧
   ((n=0∧w'=w)∨∃ (g c:Nat) (l:List Nat),v=.slice (some ⟨g,0,none⟩) n c∧base≤g∧g<w.heap.size∧l.Perm (List.range n)∧l.Pairwise (fun a b=>ltK (fun _=>0) (fun i=>(H i).t) b a=false)∧w.grownBy w' (some g)∧zC w' g (n * 6)∧n≤c ∧
    ∀ i,i<n→AgAt w' g (i * 6) (H (l.getD i 0))):=by
 obtain ⟨h1,h2 | ⟨g,c,cur,hv,hg,hh,hkc,hcm,hcs,htk⟩⟩:=id hR
 ·obtain ⟨hv,hn0⟩:=h2
  subst hv
  have hcon:=AnyF.slices_SortFunc_none Tryz.sortA none 0 (.func (.func 179) #[] #[]) w
  exact hcon.mono fun e w' ⟨he,hw⟩=>⟨he,.inl ⟨hn0,hw⟩⟩
 ·have hgl:g<w.heap.size:=by
   rcases Nat.lt_or_ge g w.heap.size with h' | h'
   ·exact h'
   ·rw [Array.getElem?_eq_none h'] at hh;cases hh
  have eg:∀ args w,(callFunc 179 args).run Tryz.prog w=.ok (.enter 179 args) w:=enters_of Tryz.func179 (by kernel_rfl) rfl
  have hH:=holds_A hR hv
  have hcon:=AnyQ.slices_SortFunc Tryz.sortA 6 Tryz.isAgg181 Tryz.sizeOf181 (fun i=>zB2 (H i)) (fun _=>rfl) (fun i=>zLz (H i)) (fun i j=>zMg (H i) (H j)) (zLc H) 179 #[] g 0 c (Array.range n) w eg (zKr H g 0 _ w) hH hgl (by rw [Array.size_range];omega)
  rw [Array.size_range] at hcon
  subst hv
  refine Calls.mono (show Calls Tryz.prog 215 _ _ _ from hcon) ?_
  rintro e w' ⟨he,d',m,os,hp,hs,rfl⟩
  obtain ⟨hp1,hp2,hp3⟩:=hp
  rw [Array.size_range] at hp1
  have hH':=holdsK_sortWorldK_c (fun i=>zB2 (H i)) 6 w g 0 (Array.range n) d' m os hH hgl (by rw [hp1,Array.size_range])
  have hget:∀ i,i<n→d'[i]! = d'.toList.getD i 0:=fun i hi=>by
   rw [List.getD_eq_getElem?_getD,Array.getElem?_toList,getElem!_pos d' i (by omega),Array.getElem?_eq_getElem (by omega)]
   rfl
  refine ⟨he,.inr ⟨g,c,d'.toList,rfl,hg,hgl,?_,?_,zHd _ _ _ _ _ _ _ _,?_,hkc,fun i hi=>?_⟩⟩
  ·have h3:d'.extract 0 n=d':=by rw [← hp1];exact Array.extract_size
   have h4:(Array.range n).extract 0 n=Array.range n:=by
    have:=Array.extract_size (xs:=Array.range n)
    rw [Array.size_range] at this
    exact this
   rw [h3,h4] at hp3
   simpa using hp3
  ·rw [List.pairwise_iff_getElem]
   intro i j hi hj hij
   have hi':i<d'.size:=by simpa using hi
   have hj':j<d'.size:=by simpa using hj
   have:=hs i j (Nat.zero_le _) hij (by omega)
   rw [zEx,getElem!_pos d' i hi',getElem!_pos d' j hj'] at this
   simpa using this
  ·have:=there_A hH'
   rw [hp1] at this
   exact this
  ·have:=at_A hH' (i:=i) (by omega)
   rw [hget i hi] at this
   exact this
end Go.Proofs.YtpaiholildedcaaGreat
namespace Go.Proofs.YtpaiholildedcaaGreat
open Go.RowKit
end Go.Proofs.YtpaiholildedcaaGreat
namespace Go.Proofs.YtpaiholildedcaaGreat
open Go.RowKit Go.Sort Go.Shelf Go.Maps
abbrev zBu (a:Ag):Lit:=uS a.z a.x a.y
structure Rep (D:DataW Value) (L:List Ag):Prop where
 tidy:Maps.Tidy D
 size:Maps.size D=L.length
 ints:∀ a ∈ L,I64 a.z∧I64 a.x∧I64 a.y
 has:∀ x,Maps.has D (.string x)=true ↔ ∃ a ∈ L,zBu a=.string x
 at_:∀ a ∈ L,∀ zd,D.atKey (zBu a) zd=.held (agW a)
 keys:L.Pairwise (fun a b=>zBu a≠zBu b)
 turns:L.Pairwise (fun a b=>a.t<b.t)
theorem zLp (a:Ag):∃ x,zBu a=.string x:=⟨_,rfl⟩
theorem Rep.nodup {D:DataW Value}{L:List Ag}(h:Rep D L):L.Nodup:=h.turns.imp (fun hlt e=>by subst e;exact absurd hlt (Int.lt_irrefl _))
theorem Rep.perm {D:DataW Value}{L xs:List Ag}(h:Rep D L)(hx:AllA D xs):xs.Perm L:=by
 obtain ⟨ps,⟨hn,hm,ha⟩,rfl⟩:=hx
 have hkey:∀ p ∈ ps,∃ a ∈ L,zBu a=.string p.1∧p.2=a:=fun p hp=>by
  obtain ⟨a,haL,hk⟩:=(h.has p.1).1 ((hm p.1).1 (List.mem_map_of_mem hp))
  refine ⟨a,haL,hk,?_⟩
  have e1:=ha p hp (.held (agW a))
  have e2:=h.at_ a haL (.held (agW a))
  rw [hk] at e2
  rw [e1] at e2
  injection e2 with e2
  exact agW_inj e2
 have hnx:(ps.map (·.2)).Nodup:=by
  rw [List.Nodup,List.pairwise_map]
  have hn':ps.Pairwise (fun p q=>p.1≠q.1):=by
   have:=hn
   rw [List.Nodup,List.pairwise_map] at this
   exact this
  refine List.Pairwise.imp_of_mem ?_ hn'
  intro p q hp hq hne e
  obtain ⟨a,_,hk,e1⟩:=hkey p hp
  obtain ⟨b,_,hk',e2⟩:=hkey q hq
  rw [e1,e2] at e
  subst e
  rw [hk] at hk'
  injection hk' with hk'
  exact hne hk'
 refine (List.perm_ext_iff_of_nodup hnx h.nodup).2 (fun a=>⟨fun hm'=>?_,fun hL=>?_⟩)
 ·obtain ⟨p,hp,rfl⟩:=List.mem_map.1 hm'
  obtain ⟨b,hb,_,e⟩:=hkey p hp
  rw [e];exact hb
 ·obtain ⟨x,hx⟩:=zLp a
  have h1:=(hm x).2 ((h.has x).2 ⟨a,hL,hx⟩)
  obtain ⟨p,hp,e⟩:=List.mem_map.1 h1
  obtain ⟨b,hb,hk,e2⟩:=hkey p hp
  have hab:a=b:=by
   by_cases hab:a=b
   ·exact hab
   ·exfalso
    have:∀ (l:List Ag),l.Pairwise (fun a b=>zBu a≠zBu b)→∀ a ∈ l,∀ b ∈ l,a≠b→zBu a≠zBu b:=by
     intro l hl
     induction hl with
     | nil=>intro a ha;simp at ha
     | cons hh _ ih =>
      intro a ha b hb hne
      rcases List.mem_cons.1 ha with ha1 | ha1
      ·rcases List.mem_cons.1 hb with hb1 | hb1
       ·exact absurd (ha1.trans hb1.symm) hne
       ·rw [ha1];exact hh b hb1
      ·rcases List.mem_cons.1 hb with hb1 | hb1
       ·rw [hb1];exact fun e=>hh a ha1 e.symm
       ·exact ih a ha1 b hb1 hne
    exact this L h.keys a hL b hb hab (by rw [hx,hk,e])
  exact List.mem_map.2 ⟨p,hp,by rw [e2,hab]⟩
theorem zFl:∀ {L ys:List Ag},ys.Perm L→ys.Pairwise (fun a b=>a.t≤b.t)→L.Pairwise (fun a b=>a.t<b.t)→ys=L
 | [],ys,hp,_,_=>List.perm_nil.1 hp
 | a :: L,[],hp,_,_=>absurd hp.length_eq (by simp)
 | a :: L,y :: ys,hp,hy,hL=>by
  obtain ⟨h1,h2⟩:=List.pairwise_cons.1 hL
  obtain ⟨h3,h4⟩:=List.pairwise_cons.1 hy
  have e:y=a:=by
   have hy':y ∈ a :: L:=hp.subset (List.mem_cons_self)
   have ha':a ∈ y :: ys:=hp.symm.subset (List.mem_cons_self)
   rcases List.mem_cons.1 hy' with e | hyL
   ·exact e
   ·rcases List.mem_cons.1 ha' with e | hay
    ·exact e.symm
    ·have:=h1 y hyL
     have:=h3 a hay
     omega
  subst e
  rw [zFl (List.Perm.cons_inv hp) h4 h2]
def zL5 (w:World)(g:Nat)(L:List Ag):Prop:=∀ i a,L[i]?=some a→AgAt w g (i * 6) a
theorem zL5.below {w w':World}{g:Nat}{L:List Ag}(h:zL5 w g L)(hg:g<w.heap.size)(hb:Below w.heap.size w w'):zL5 w' g L:=fun i a hi=>by
 obtain ⟨h0,h1,h2,h3,h4,h5⟩:=h i a hi
 exact ⟨(hb.cell (p:=⟨g,i * 6,none⟩) hg).trans h0,(hb.cell (p:=⟨g,i * 6+1,none⟩) hg).trans h1,(hb.cell (p:=⟨g,i * 6+2,none⟩) hg).trans h2,(hb.cell (p:=⟨g,i * 6+3,none⟩) hg).trans h3,(hb.cell (p:=⟨g,i * 6+4,none⟩) hg).trans h4,(hb.cell (p:=⟨g,i * 6+5,none⟩) hg).trans h5⟩
def IsAgs (w:World)(v:Value)(L:List Ag):Prop:=(L=[]∧∃ a c,v=.slice a 0 c)∨∃ g c,v=.slice (some ⟨g,0,none⟩) L.length c∧g<w.heap.size∧zL5 w g L
theorem zGc (Bm b nn:Nat)(D0:DataW Value)(w:World)(hBm:Bm<w.heap.size)(hm:w.cell? ⟨Bm,0,none⟩=some (.map (some b)))(hown:w.ownsMap Tryz.prog 111 RV b nn D0)(hall:Maps.size D0≤1048576) :
  Calls Tryz.prog 214 #[.func (.func 216) #[] #[.pointer (some ⟨Bm,0,none⟩)]] w fun e w'=>∃ v xs,e=.returned v∧AllA D0 xs∧w'.ownsRow w.heap.size 181 6 v xs.length (zB1 xs)∧Bw w w':=by
 have HA:=(show Hid _ from zDt Bm b nn D0 w hBm hm hown hall)
 clear hBm hm hown
 go_enter Tryz.func214,Tryz.ntmps214
 go_wp2_with fail
 refine Calls.mono HA.out ?_
 rintro e w1 ⟨v,xs,rfl,h1,h2,h3⟩
 have H3:Hid (AllA D0 xs∧w1.ownsRow w.heap.size 181 6 v xs.length (zB1 xs)∧Bw w w1):=⟨h1,h2,h3⟩
 clear h1 h2 h3
 go_wp2
 go_ret
 exact ⟨v,xs,rfl,H3.out⟩
theorem zGw (Bm b nn:Nat)(D0:DataW Value)(L:List Ag)(w:World)(hBm:Bm<w.heap.size)(hm:w.cell? ⟨Bm,0,none⟩=some (.map (some b)))(hown:w.ownsMap Tryz.prog 111 RV b nn D0)(hR:Rep D0 L)(hall:Maps.size D0≤1048576)(hL:L.length≤1048576) :
  Calls Tryz.prog 177 #[.func (.func 216) #[] #[.pointer (some ⟨Bm,0,none⟩)],.func (.func 179) #[] #[]] w fun e w'=>∃ v,e=.returned v∧IsAgs w' v L∧Bw w w':=by
 have HC:=(show Hid _ from zGc Bm b nn D0 w hBm hm hown hall)
 have HR:Hid (Rep D0 L):=hR
 clear hBm hm hown hR
 go_enter Tryz.func177,Tryz.ntmps177
 go_wp2_with fail
 refine Calls.mono HC.out ?_
 rintro e w1 ⟨v,xs,rfl,h1,h2,h3⟩
 have hp:xs.Perm L:=HR.out.perm h1
 have HP:Hid (xs.Perm L):=hp
 have HB1:Hid (Bw w w1):=h3
 have hxl:xs.length=L.length:=hp.length_eq
 have hE:(List.range xs.length).map (fun i=>xs.getD i ⟨0,0,0,none,0,0,none,0,0,0⟩)=xs:=by
  apply List.ext_getElem
  ·simp
  ·intro i h1 h2
   simp at h1
   simp [List.getD_eq_getElem?_getD,h1]
 have HRow:Hid (ARow w.heap.size w1 v (fun i=>xs.getD i ⟨0,0,0,none,0,0,none,0,0,0⟩) xs.length):=by
  show ARow _ _ _ _ _
  unfold ARow
  rw [hE]
  exact h2
 clear h1 h2 h3 hp hE
 have HS:=(show Hid _ from zJq xs.length w.heap.size v (fun i=>xs.getD i ⟨0,0,0,none,0,0,none,0,0,0⟩) w1 HRow.out (by omega))
 go_wp2_with fail
 refine Calls.mono HS.out ?_
 rintro e w2 ⟨rfl,hres⟩
 have HF:Hid (IsAgs w2 v L∧Bw w w2):=by
  show _∧_
  rcases hres with ⟨h0,rfl⟩ | ⟨g,c,l,hv,hg,hgl,hp,hs,hgr,hT,hc,hF⟩
  ·have hL0:L=[]:=List.length_eq_zero_iff.1 (by omega)
   refine ⟨.inl ⟨hL0,?_⟩,HB1.out⟩
   rcases HRow.out.2 with ⟨e,_⟩ | ⟨g,c,cur,e,hg,hh,h5,h6,h7,h8⟩
   ·exact ⟨_,_,e⟩
   ·exact ⟨_,_,by rw [e,h0]⟩
  ·have hys:(l.map (fun i=>xs.getD i ⟨0,0,0,none,0,0,none,0,0,0⟩)).Perm L:=by
    refine List.Perm.trans (hp.map _) ?_
    have hE:(List.range xs.length).map (fun i=>xs.getD i ⟨0,0,0,none,0,0,none,0,0,0⟩)=xs:=by
     apply List.ext_getElem
     ·simp
     ·intro i h1 h2
      simp at h1
      simp [List.getD_eq_getElem?_getD,h1]
    rw [hE]
    exact HP.out
   have hsrt:(l.map (fun i=>xs.getD i ⟨0,0,0,none,0,0,none,0,0,0⟩)).Pairwise (fun a b=>a.t≤b.t):=by
    rw [List.pairwise_map]
    refine hs.imp ?_
    intro i j hij
    rw [zJ7] at hij
    omega
   have hyL:=zFl hys hsrt HR.out.turns
   have hll:l.length=L.length:=by rw [← hyL];simp
   refine ⟨.inr ⟨g,c,by rw [hv,hxl],Nat.lt_of_lt_of_le hgl hgr.size,fun i a hi=>?_⟩,HB1.out.trans (xE hgr hg HB1.out.size)⟩
   have hiL:i<L.length:=(List.getElem?_eq_some_iff.1 hi).1
   have:=hF i (by omega)
   rw [← hyL] at hi
   rw [List.getElem?_map,List.getElem?_eq_getElem (by omega)] at hi
   have e2:l.getD i 0=l[i]'(by omega):=by simp [List.getD_eq_getElem?_getD,show i<l.length by omega]
   rw [e2] at this
   simp only [Option.map_some,Option.some.injEq] at hi
   rw [← hi]
   exact this
 clear hres
 go_wp2
 go_ret
 exact ⟨v,rfl,HF.out⟩
end Go.Proofs.YtpaiholildedcaaGreat
namespace Go.Proofs.YtpaiholildedcaaGreat
open Go.RowKit
end Go.Proofs.YtpaiholildedcaaGreat
