/- Texts. -/
import Derived.Test.YtpaiholildedcaaGreatVLabelsIn32
set_option linter.unusedSimpArgs false
set_option linter.unusedVariables false
set_option maxRecDepth 100000
set_option maxHeartbeats 32000000
namespace Go.Proofs.YtpaiholildedcaaGreat
open Go.RowKit
def LkA (w:World)(B p:Nat)(z x y wd ht now s:Int)(n:Nat)(A:Nat→Kp)(ra:Option Addr)(rn rc:Nat)(bad:Int):Prop:=B≤p∧∃ sp,Blk w p [.int .i64 z,.int .i64 x,.int .i64 y,.int .i64 wd,.int .i64 ht,.int .i64 now,.pointer (some ⟨sp,0,none⟩),.slice ra rn rc,.int .i64 bad,.slice none 0 0]∧ShK w B sp s n A∧sp≠p
theorem zG4 {a b:Int}(h:or2 a b=0):a=0∧b=0:=by
 unfold or2 at h
 split at h
 ·rename_i h0;exact ⟨h0,h⟩
 ·rename_i h0;exact absurd h h0
theorem zG3 {a b c:Int}(h:or3 a b c=0):a=0∧b=0∧c=0:=by
 unfold or3 at h
 by_cases h1:a=0
 ·rw [if_pos h1] at h
  by_cases h2:b=0
  ·rw [if_pos h2] at h;exact ⟨h1,h2,h⟩
  ·rw [if_neg h2] at h;exact absurd h h2
 ·rw [if_neg h1] at h;exact absurd h h1
theorem zDp {z x y wd ht now s:Int}{n:Nat}{K:Nat→Kp}{rn:Nat}{E:Nat→Req}{bad:Int}(h:or2 (uJ z x y wd ht) (zE5 now bad)≠0):viewC z x y wd ht now s n K rn E bad=or2 (uJ z x y wd ht) (zE5 now bad):=by
 unfold viewC or2 at *
 by_cases h1:uJ z x y wd ht=0
 ·rw [if_pos h1,if_pos h1]
  rw [if_pos h1] at h
  unfold zE5 at *
  by_cases h2:inV now bad=true
  ·rw [if_pos h2] at h;exact absurd rfl h
  ·rw [if_neg h2,if_neg h2]
 ·rw [if_neg h1,if_neg h1]
theorem zC0 {z x y wd ht now s:Int}{n:Nat}{K:Nat→Kp}{rn:Nat}{E:Nat→Req}{bad:Int}(h:or2 (uJ z x y wd ht) (zE5 now bad)=0)(h2:or3 (cacheC s n K) (if s<4 then 3 else 0) (zX rn E)≠0):viewC z x y wd ht now s n K rn E bad=or3 (cacheC s n K) (if s<4 then 3 else 0) (zX rn E):=by
 obtain ⟨h0,h1⟩:=zG4 h
 have hi:inV now bad=true:=by
  unfold zE5 at h1
  by_cases h:inV now bad=true
  ·exact h
  ·rw [if_neg h] at h1;cases h1
 unfold viewC or3 at *
 rw [if_pos h0,if_pos hi]
 by_cases h3:cacheC s n K=0
 ·rw [if_pos h3,if_pos h3]
  rw [if_pos h3] at h2
  by_cases h4:s<4
  ·simp [h4]
  ·simp [h4] at h2 ⊢
   intro h;exact absurd h h2
 ·rw [if_neg h3,if_neg h3]
theorem zKd {z x y wd ht now s:Int}{n:Nat}{K:Nat→Kp}{rn:Nat}{E:Nat→Req}{bad:Int}(h:or2 (uJ z x y wd ht) (zE5 now bad)=0)(h2:or3 (cacheC s n K) (if s<4 then 3 else 0) (zX rn E)=0):viewC z x y wd ht now s n K rn E bad=yR (zBh z x y wd ht n K E) 0 rn:=by
 obtain ⟨h0,h1⟩:=zG4 h
 obtain ⟨h3,h4,h5⟩:=zG3 h2
 have hi:inV now bad=true:=by
  unfold zE5 at h1
  by_cases h:inV now bad=true
  ·exact h
  ·rw [if_neg h] at h1;cases h1
 have h4':¬ s<4:=fun h=>by rw [if_pos h] at h4;cases h4
 unfold viewC
 rw [if_pos h0,if_pos hi,if_pos h3,if_neg h4',if_pos h5]
theorem zIv (z x y wd ht now s:Int)(ka:Option Addr)(n cap:Nat)(A:Nat→Kp)(ra:Option Addr)(rn rc:Nat)(E:Nat→Req)(bad VC:Int)(w:World)(hVC:viewC z x y wd ht now s n A rn E bad=VC)(hsh:∀ W,Bw w W→Calls Tryz.prog 74 #[caV s (.slice ka n cap)] W fun e w'=>∃ p,e=.returned (.tuple #[.pointer (some ⟨p,0,none⟩),.int .i64 (cacheC s n A)])∧Bw W w'∧(cacheC s n A=0→ShK w' W.heap.size p s n A))(hr:zAn w ra rn E)(hrn:rn≤1048576)(hrc:rn≤rc) :
  Calls Tryz.prog 34 #[vwV z x y wd ht now s (.slice ka n cap) (.slice ra rn rc) bad] w fun e w'=>∃ p,e=.returned (.tuple #[.pointer (some ⟨p,0,none⟩),.int .i64 VC])∧Bw w w'∧(VC=0→LkA w' w.heap.size p z x y wd ht now s n A ra rn rc bad):=by
 have HVC:Hid (viewC z x y wd ht now s n A rn E bad=VC):=hVC
 have HR:Hid (zAn w ra rn E):=hr
 have HSh:Hid (∀ W,Bw w W→Calls Tryz.prog 74 #[caV s (.slice ka n cap)] W fun e w'=>∃ p,e=.returned (.tuple #[.pointer (some ⟨p,0,none⟩),.int .i64 (cacheC s n A)])∧Bw W w'∧(cacheC s n A=0→ShK w' W.heap.size p s n A)):=hsh
 have HRq:Hid (∀ W,Bw w W→Calls Tryz.prog 76 #[.slice ra rn rc] W fun e w'=>e=.returned (.int .i64 (zX rn E))∧Bw W w'):=fun W h=>zAk ra rn rc E W (HR.out.below h) hrn hrc
 clear hVC hsh hr
 go_enter Tryz.func34,Tryz.ntmps34
 go_wp2_with fail
 generalize hW:((w.alloc _).alloc _:World)=W
 have HB0:Hid (Bw w W):=by show Below _ _ _;subst hW;exact Qb
 have HV:Hid (Blk W w.heap.size [.int .i64 z,.int .i64 x,.int .i64 y,.int .i64 wd,.int .i64 ht,.int .i64 now,.int .i64 s,.slice ka n cap,.slice ra rn rc,.int .i64 bad]):=by show Blk _ _ _;subst hW;exact (Blk.new w _ _).alloc (by simp) _
 have HL:Hid (Blk W (w.heap.size+1) [.int .i64 z,.int .i64 x,.int .i64 y,.int .i64 wd,.int .i64 ht,.int .i64 now,.pointer none,.slice ra rn rc,.int .i64 bad,.slice none 0 0]):=by
  show Blk _ _ _;subst hW
  have:=Blk.new (w.alloc (.cells #[.int .i64 z,.int .i64 x,.int .i64 y,.int .i64 wd,.int .i64 ht,.int .i64 now,.int .i64 s,.slice ka n cap,.slice ra rn rc,.int .i64 bad] 31)) [.int .i64 z,.int .i64 x,.int .i64 y,.int .i64 wd,.int .i64 ht,.int .i64 now,.pointer none,.slice ra rn rc,.int .i64 bad,.slice none 0 0] 100
  simpa using this
 have hvl:w.heap.size<W.heap.size:=HV.out.lt
 have hll:w.heap.size+1<W.heap.size:=HL.out.lt
 clear hW
 refine (zA4 z x y wd ht W).mono ?_
 rintro e w1 ⟨rfl,hb1⟩
 have HB1:Hid (Bw W w1):=hb1
 have HCt:Hid (Calls Tryz.prog 73 #[.pointer (some ⟨w.heap.size+1,0,none⟩)] w1 fun e w'=>e=.returned (.int .i64 (zE5 now bad))∧Bw w1 w'):=zEu _ now bad w1 ((HL.out.below hll hb1).cell 5 rfl) ((HL.out.below hll hb1).cell 8 rfl)
 clear hb1
 go_wp2_with fail
 refine Calls.mono HCt.out ?_
 rintro e w2 ⟨rfl,hb2⟩
 have HB2:Hid (Bw W w2):=zA HB1.out hb2
 clear hb2 HCt HB1
 go_wp2_with fail
 generalize hw3:(w2.alloc _:World)=w3
 have HB3:Hid (Bw W w3):=by show Below _ _ _;subst hw3;exact zA HB2.out (xD (Below.refl _ _) _)
 have HOr:Hid (Calls Tryz.prog 71 #[.slice (some ⟨w2.heap.size,0,none⟩) 2 2] w3 fun e w'=>e=.returned (.int .i64 (or2 (uJ z x y wd ht) (zE5 now bad)))∧w'=w3):=by
  show Calls _ _ _ _ _
  subst hw3
  exact zGh _ _ _ _ _ (by simp [go_sem]) (by simp [go_sem])
 clear hw3
 refine Calls.mono HOr.out ?_
 rintro e w4 ⟨rfl,h4⟩
 subst w4
 clear HOr HB2
 by_cases hor:or2 (uJ z x y wd ht) (zE5 now bad)=0
 case neg =>
  have hq:Hid (VC=or2 (uJ z x y wd ht) (zE5 now bad)):=HVC.out.symm.trans (zDp hor)
  have hcb:(or2 (uJ z x y wd ht) (zE5 now bad) == 0)=false:=by simpa using hor
  clear HVC HSh HRq
  generalize or2 (uJ z x y wd ht) (zE5 now bad)=oc at *
  go_wp2_with fail
  refine bodyPost_ret (v:=.tuple #[.pointer (some ⟨w.heap.size+1,0,none⟩),.int .i64 oc]) (by simp [results,Tryz.results34,go_sem]) rfl ?_
  exact ⟨_,by rw [hq.out],zA HB0.out HB3.out,fun h=>absurd (hq.out.symm.trans h) hor⟩
 have HOR:Hid (or2 (uJ z x y wd ht) (zE5 now bad)=0):=hor
 rw [hor]
 have c6:=(HV.out.below hvl HB3.out).cell 6 rfl
 have c7:=(HV.out.below hvl HB3.out).cell 7 rfl
 clear hor
 go_wp2_with fail
 refine Calls.mono (HSh.out _ (zA HB0.out HB3.out)) ?_
 rintro e w5 ⟨sp,rfl,hb5,hK5⟩
 have HK5:Hid (cacheC s n A=0→ShK w5 w3.heap.size sp s n A):=hK5
 have HB5:Hid (Bw W w5):=zA HB3.out hb5
 have hw35:w.heap.size+1<w3.heap.size:=Nat.lt_of_lt_of_le hll HB3.out.size
 have HL5:Hid (Blk w5 (w.heap.size+1) [.int .i64 z,.int .i64 x,.int .i64 y,.int .i64 wd,.int .i64 ht,.int .i64 now,.pointer none,.slice ra rn rc,.int .i64 bad,.slice none 0 0]):=HL.out.below hll HB5.out
 have HV5:Hid (Blk w5 w.heap.size [.int .i64 z,.int .i64 x,.int .i64 y,.int .i64 wd,.int .i64 ht,.int .i64 now,.int .i64 s,.slice ka n cap,.slice ra rn rc,.int .i64 bad]):=HV.out.below hvl HB5.out
 have t6:=HL5.out.cell 6 rfl
 have f6:=HL5.out.free 6 rfl
 clear hb5 hK5 c6 c7 HSh HL HV HB3
 go_wp2_with fail
 generalize hw6:(World.setCell _ _ _:World)=w6
 have HG6:Hid (w5.grownBy w6 (some (w.heap.size+1))):=by show World.grownBy _ _ _;subst hw6;exact xM (zA8 _ _) 6 _
 have HL6:Hid (Blk w6 (w.heap.size+1) [.int .i64 z,.int .i64 x,.int .i64 y,.int .i64 wd,.int .i64 ht,.int .i64 now,.pointer (some ⟨sp,0,none⟩),.slice ra rn rc,.int .i64 bad,.slice none 0 0]):=by show Blk _ _ _;subst hw6;exact HL5.out.set 6 _
 have HV6:Hid (Blk w6 w.heap.size [.int .i64 z,.int .i64 x,.int .i64 y,.int .i64 wd,.int .i64 ht,.int .i64 now,.int .i64 s,.slice ka n cap,.slice ra rn rc,.int .i64 bad]):=by show Blk _ _ _;subst hw6;exact HV5.out.other (by omega)
 have HB6:Hid (Bw w w6):=by show Below _ _ _;subst hw6;exact (zA HB0.out HB5.out).setCell (Nat.le_succ _) _
 clear hw6 t6 f6 HL5 HV5
 have HK6:Hid (cacheC s n A=0→ShK w6 w.heap.size sp s n A∧sp≠w.heap.size+1):=fun h=>by
  obtain ⟨mb,h1,h2,h3,h4,h5⟩:=HK5.out h
  have e1:sp≠w.heap.size+1:=by omega
  exact ⟨⟨mb,by omega,by omega,⟨xF HG6.out h3.1 e1,xF HG6.out h3.2.1 e1,xF HG6.out h3.2.2 e1⟩,h4.grown HG6.out e1,h5.kept HG6.out (by simp;omega)⟩,e1⟩
 have hvl6:w.heap.size<w6.heap.size:=HV6.out.lt
 have hll6:w.heap.size+1<w6.heap.size:=HL6.out.lt
 clear HK5 HG6 HB5 HB0 hw35 hvl hll
 have c6:∀ W',Bw w6 W'→W'.cell? ⟨w.heap.size,6,none⟩=some (.int .i64 s):=fun W' h=>(HV6.out.below hvl6 h).cell 6 rfl
 have c7:∀ W',Bw w6 W'→W'.cell? ⟨w.heap.size+1,7,none⟩=some (.slice ra rn rc):=fun W' h=>(HL6.out.below hll6 h).cell 7 rfl
 have HRo:Hid (∀ W',Calls Tryz.prog 75 #[.int .i64 s] W' fun e w'=>e=.returned (.int .i64 (if s<4 then 3 else 0))∧w'=W'):=fun W'=>zG0 s W'
 have HO3:Hid (∀ (W':World) (bb:Nat) (u1 u2 u3:Int),W'.cell? ⟨bb,0,none⟩=some (.int .i64 u1)→W'.cell? ⟨bb,1,none⟩=some (.int .i64 u2)→W'.cell? ⟨bb,2,none⟩=some (.int .i64 u3)→Calls Tryz.prog 71 #[.slice (some ⟨bb,0,none⟩) 3 3] W' fun e w'=>e=.returned (.int .i64 (or3 u1 u2 u3))∧w'=W'):=fun W' bb u1 u2 u3 h0 h1 h2=>zOb bb 3 u1 u2 u3 W' h0 h1 h2
 have HSt:Hid (∀ W',Bw w6 W'→cacheC s n A=0→zX rn E=0→Calls Tryz.prog 77 #[.pointer (some ⟨w.heap.size+1,0,none⟩)] W' fun e w'=>e=.returned (.int .i64 (yR (zBh z x y wd ht n A E) 0 rn))∧Below W'.heap.size W' w'):=fun W' h h0 hq=>zE9 w.heap.size (w.heap.size+1) sp z x y wd ht now s n A ra rn rc E bad W' (HL6.out.below hll6 h) ((HK6.out h0).1.below h) h0 (HR.out.below (zA HB6.out h)) hrn hrc hq
 generalize hRM:(if s<4 then (3:Int) else 0)=RM at *
 have HRM:Hid ((if s<4 then (3:Int) else 0)=RM):=hRM
 clear hRM
 refine wp_region_noPanic ?_
 refine wp_region_held_drew (S:=fun W'=>Bw w6 W') (by kernel_rfl) (by have:=Below.refl w6.heap.size w6;exact Qb) (fun hHeld=>?_)
 have hX0:Bw w6 w6.drew:=hHeld
 refine zC (i:=0) (d:=some 41) rfl rfl ?_
 try simp only [Act.put,Qx,Qy,Qz]
 refine zC (i:=1) (d:=some 42) rfl rfl ?_
 try simp only [Act.put,Qx,Qy,Qz]
 refine zC (i:=2) (d:=some 43) rfl rfl ?_
 try simp only [Act.put,Qx,Qy,Qz]
 refine zC (i:=3) (d:=some 44) rfl rfl ?_
 try simp only [Act.put,Qx,Qy,Qz]
 refine zC (i:=5) (d:=some 46) rfl rfl ?_
 try simp only [Act.put,Qx,Qy,Qz]
 refine zC (i:=6) (d:=some 47) rfl rfl ?_
 try simp only [Act.put,Qx,Qy,Qz]
 refine zC (i:=7) (d:=some 48) rfl rfl ?_
 try simp only [Act.put,Qx,Qy,Qz]
 refine zC (i:=8) (d:=some 49) rfl rfl ?_
 try simp only [Act.put,Qx,Qy,Qz]
 generalize w6.drew=wk0 at *
 refine zN 4 fun K hK=>?_
 rw [if_pos (by rfl)]
 go_simp
 refine Calls.mono (HRo.out _) ?_
 rintro e wk1 ⟨rfl,hw⟩
 subst wk1
 go_wp2_with fail
 refine hK.out _ _ (by assumption) (fun hHeld=>?_)
 clear hK K
 try simp only [Act.put,Qx,Qy,Qz]
 refine zN 9 fun K hK=>?_
 rw [if_pos (by rfl)]
 go_simp
 refine Calls.mono (HRq.out _ (zA HB6.out hX0)) ?_
 rintro e wk2 ⟨rfl,hb2⟩
 have hX2:Bw w6 wk2:=zA hX0 hb2
 go_wp2_with fail
 refine hK.out _ _ (by assumption) (fun hHeld=>?_)
 clear hK K
 try simp only [Act.put,Qx,Qy,Qz]
 refine zN 10 fun K hK=>?_
 rw [if_pos (by rfl)]
 go_simp
 generalize hwA:(World.alloc _ _:World)=wk3
 have hb3:Bw wk2 wk3:=by subst hwA;exact Qb
 have j0:wk3.cell? ⟨wk2.heap.size,0,none⟩=some (.int .i64 (cacheC s n A)):=by subst hwA;simp [go_sem]
 have j1:wk3.cell? ⟨wk2.heap.size,1,none⟩=some (.int .i64 RM):=by subst hwA;simp [go_sem]
 have j2:wk3.cell? ⟨wk2.heap.size,2,none⟩=some (.int .i64 (zX rn E)):=by subst hwA;simp [go_sem]
 clear hwA
 have hX3:Bw w6 wk3:=zA hX2 hb3
 refine hK.out _ _ hX3 (fun hHeld=>?_)
 clear hK K
 try simp only [Act.put,Qx,Qy,Qz]
 refine zN 11 fun K hK=>?_
 rw [if_pos (by rfl)]
 go_simp
 refine Calls.mono (HO3.out _ _ _ _ _ j0 j1 j2) ?_
 rintro e wk4 ⟨rfl,hw⟩
 subst wk4
 go_wp2_with fail
 refine hK.out _ _ (by assumption) (fun hHeld=>?_)
 clear hK K
 try simp only [Act.put,Qx,Qy,Qz]
 refine zC (i:=12) (d:=some 7) rfl rfl ?_
 try simp only [Act.put,Qx,Qy,Qz]
 refine wpAnyH_done (by kernel_rfl) ?_ _
 refine NoPanic.normal ?_
 have HX3:Hid (Bw w6 wk3):=hX3
 clear c6 c7 HRo HRq HO3 hX0 hb2 hX2 hb3 hX3 j0 j1 j2
 have HB7:Hid (Bw w wk3):=zA HB6.out HX3.out
 by_cases ho3:or3 (cacheC s n A) RM (zX rn E)=0
 case neg =>
  have hq:Hid (VC=or3 (cacheC s n A) RM (zX rn E)):=by
   show _=_
   rw [← HVC.out,← HRM.out]
   exact zC0 HOR.out (by rw [HRM.out];exact ho3)
  have hcb:(or3 (cacheC s n A) RM (zX rn E) == 0)=false:=by simpa using ho3
  clear HVC HSt HK6
  generalize or3 (cacheC s n A) RM (zX rn E)=oc at *
  go_wp2_with fail
  refine bodyPost_ret (v:=.tuple #[.pointer (some ⟨w.heap.size+1,0,none⟩),.int .i64 oc]) (by simp [results,Tryz.results34,go_sem]) rfl ?_
  exact ⟨_,by rw [hq.out],HB7.out,fun h=>absurd (hq.out.symm.trans h) ho3⟩
 obtain ⟨h1,h2,h3⟩:=zG3 ho3
 have hq:Hid (VC=yR (zBh z x y wd ht n A E) 0 rn):=by
  show _=_
  rw [← HVC.out]
  exact zKd HOR.out (by rw [HRM.out];exact ho3)
 have HSt2:=(show Hid _ from HSt.out wk3 HX3.out h1 h3)
 have HK7:Hid (ShK wk3 w.heap.size sp s n A∧sp≠w.heap.size+1):=⟨(HK6.out h1).1.below HX3.out,(HK6.out h1).2⟩
 have HL7:Hid (Blk wk3 (w.heap.size+1) [.int .i64 z,.int .i64 x,.int .i64 y,.int .i64 wd,.int .i64 ht,.int .i64 now,.pointer (some ⟨sp,0,none⟩),.slice ra rn rc,.int .i64 bad,.slice none 0 0]):=HL6.out.below hll6 HX3.out
 rw [ho3]
 clear HSt HK6 ho3 h1 h2 h3
 generalize yR (zBh z x y wd ht n A E) 0 rn=sc at *
 go_wp2_with fail
 refine Calls.mono HSt2.out ?_
 rintro e w8 ⟨rfl,hb8⟩
 go_wp2_with fail
 refine bodyPost_ret (v:=.tuple #[.pointer (some ⟨w.heap.size+1,0,none⟩),.int .i64 sc]) (by simp [results,Tryz.results34,go_sem]) rfl ?_
 exact ⟨_,by rw [hq.out],zA HB7.out hb8,fun _=>⟨Nat.le_succ _,sp,HL7.out.below HL7.out.lt hb8,HK7.out.1.below hb8,HK7.out.2⟩⟩
theorem zIw (z x y wd ht now s:Int)(b n cap:Nat)(A:Nat→Kp)(ra:Option Addr)(rn rc:Nat)(E:Nat→Req)(bad VC:Int)(w:World)(hVC:viewC z x y wd ht now s n A rn E bad=VC)(ha:zB0 w b n A)(hs:zL n A)(hcap:∀ i,i<n→(A i).fn≤(A i).fc)(hnc:n≤cap)(hr:zAn w ra rn E)(hrn:rn≤1048576)(hrc:rn≤rc) :
  Calls Tryz.prog 34 #[vwV z x y wd ht now s (.slice (some ⟨b,0,none⟩) n cap) (.slice ra rn rc) bad] w fun e w'=>∃ p,e=.returned (.tuple #[.pointer (some ⟨p,0,none⟩),.int .i64 VC])∧Bw w w'∧(VC=0→LkA w' w.heap.size p z x y wd ht now s n A ra rn rc bad) :=
 zIv z x y wd ht now s (some ⟨b,0,none⟩) n cap A ra rn rc E bad VC w hVC (fun W h=>zKr s b n cap A W (ha.below h) hs hcap hnc) hr hrn hrc

theorem yB.sameK {w:World}{B b n:Nat}{K A:Nat→Kp}(h:yB w B b n K A){i:Nat}(hi:i<n):(A i).z=(K i).z∧(A i).x=(K i).x∧(A i).y=(K i).y∧(A i).fn=(K i).fn∧(A i).m=(K i).m∧(A i).I=(K i).I∧∀ j,j<(A i).fn→((A i).F j).same ((K i).F j):=by
 obtain ⟨⟨e1,e2,e3⟩,⟨fb,_,e4,_,hF⟩,ib,_,e5,_,e6,_⟩:=(h.2.2 i hi).2
 exact ⟨e1,e2,e3,e4,e5,e6,fun j hj=>(hF.2.2.2 j (by omega)).1⟩
end Go.Proofs.YtpaiholildedcaaGreat
