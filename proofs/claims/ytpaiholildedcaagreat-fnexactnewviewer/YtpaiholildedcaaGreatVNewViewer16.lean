/- Texts. -/
import Derived.Test.YtpaiholildedcaaGreatVNewViewer13
set_option linter.unusedSimpArgs false
set_option linter.unusedVariables false
set_option maxRecDepth 100000
set_option maxHeartbeats 32000000
namespace Go.Proofs.YtpaiholildedcaaGreat
open Go.RowKit
def zEf (w:World)(b:Nat)(e:Req):Prop:=∀ j u,(yJ e)[j]?=some u→w.cell? ((⟨b,0,none⟩:Addr).add j)=some u
theorem zEf.below {w w':World}{b:Nat}{e:Req}(h:zEf w b e)(hb:Below w.heap.size w w'):zEf w' b e:=fun j u hj=>vW hb (h j u hj)
theorem zEf.of (w:World)(e:Req):zEf (w.alloc (.cells #[.int .i64 e.z,.int .i64 e.x,.int .i64 e.y,.int .i64 e.du,.int .i64 e.tr] 134)) w.heap.size e:=zCn w _ _
theorem yA.grown {base base':Nat}{w w':World}{v v':Value}{l l':List Req}(h:yA base w v l)(h':zX base' w v' l')(hg:w.grownBy w' v'.ownBlock):yA base w' v l:=by
 have hap:=zDy h h' (by decide)
 obtain ⟨h1,h2 | ⟨g,cp,cur,hv,hg',hh,hk⟩⟩:=h
 ·exact ⟨h1,.inl h2⟩
 ·refine ⟨h1,.inr ⟨g,cp,cur,hv,hg',?_,hk⟩⟩
  have hgl:g<w.heap.size:=by
   rcases Nat.lt_or_ge g w.heap.size with h' | h'
   ·exact h'
   ·rw [Array.getElem?_eq_none h'] at hh;cases hh
  rw [hg.block g hgl (fun e=>?_)]
  ·exact hh
  ·obtain ⟨a',c',hv'⟩:=h'.slice
   cases a' with
   | none=>rw [hv'] at e;simp [Value.ownBlock] at e
   | some p =>
    rw [hv'] at e
    simp [Value.ownBlock] at e
    exact hap ⟨g,0,none⟩ _ cp p _ c' hv hv' e
theorem zBc (c:Int)(w:World):Calls Tryz.prog 112 #[.int .i64 c] w fun e w'=>e=.returned (rqV c (.slice none 0 0) (.slice none 0 0))∧Bw w w':=by
 go_enter Tryz.func112,Tryz.ntmps112
 go_wp2
 exact bodyPost_ret (v:=rqV c (.slice none 0 0) (.slice none 0 0)) (by simp [results,Tryz.results112,go_sem]) rfl ⟨rfl,Qb⟩
theorem zFy (a:Option Addr)(n cap:Nat)(E:Nat→Req)(now:Int)(w:World)(hp:xV w a n E)(hn:n≤1048576) :
  Calls Tryz.prog 111 #[.slice a n cap,.int .i64 now] w fun e w'=>e=.returned (.int .i64 (or2 (zQ n E) (zBp now)))∧Bw w w':=by
 have HF:Hid (Calls Tryz.prog 90 #[.slice a n cap] w fun e w'=>e=.returned (.int .i64 (zQ n E))∧Bw w w'):=zFw a n cap E w hp hn
 clear hp
 by_cases h0:zQ n E=0
 ·have hk:Hid (or2 (zQ n E) (zBp now)=if inB now 0 9000=true then 0 else 3):=by show _=_;unfold or2;rw [if_pos h0];rfl
  rw [h0] at HF
  clear h0
  generalize or2 (zQ n E) (zBp now)=r at *
  cases h:inB now 0 9000
  all_goals
   rw [h] at hk
   go_enter Tryz.func111,Tryz.ntmps111
   go_wp2_with (first | (go_at_call 90;refine HF.out.mono ?_;rintro e w' ⟨rfl,hb⟩) | (go_at_call 32;refine (yL _ _ _ _).mono ?_;rintro e w' ⟨rfl,rfl⟩))
   go_ret
   exact ⟨zH (by rw [hk.out];rfl),Qb⟩
 ·have hk:Hid (or2 (zQ n E) (zBp now)=zQ n E):=by show _=_;unfold or2;rw [if_neg h0]
  have h0':(zQ n E == 0)=false:=by simpa using h0
  clear h0
  generalize or2 (zQ n E) (zBp now)=r at *
  generalize zQ n E=q at *
  go_enter Tryz.func111,Tryz.ntmps111
  go_wp2_with (go_at_call 90;refine HF.out.mono ?_;rintro e w' ⟨rfl,hb⟩)
  go_ret
  exact ⟨zH hk.out.symm,Qb⟩
theorem zLj (n:Nat)(E:Nat→Req)(z x y now:Int):zBa n E z x y now=if or2 (zQ n E) (zBp now)=0 then zB5 z x y else or2 (zQ n E) (zBp now):=by
 unfold zBa or3 or2
 by_cases h1:zQ n E=0
 ·rw [if_pos h1,if_pos h1]
 ·rw [if_neg h1,if_neg h1,if_neg h1]
theorem xL {T:Array Value}{Wf:World}{r:Nat}{c:Int}{v1 v2:Value}(hT:T[6]?.getD undef=.pointer (some ⟨r,0,none⟩))(h0:Wf.cell? ⟨r,0,none⟩=some (.int .i64 c))(h1:Wf.cell? ⟨r,1,none⟩=some v1)(h2:Wf.cell? ⟨r,2,none⟩=some v2) :
  (results Tryz.f70 T).run Tryz.prog Wf=.ok (rqV c v1 v2) Wf:=by
 simp [results,Tryz.results70,go_sem,hT,h0,h1,h2]
theorem zG6 (w:World)(E:Nat→Req) :
  Calls Tryz.prog 115 #[.slice none 0 0] w fun e w'=>∃ v,e=.returned v∧zX w.heap.size w' v (zM 0 E)∧Bw w w':=by
 obtain ⟨i0,hi,hz0,hz1,hz2⟩:=info_parts vS
 go_enter Tryz.func115,Tryz.ntmps115
 go_wp2_with (first
  | (at_builtin;go_must (refine wpList_append_own_none rfl _ _ 29 rfl w.heap.size 134 i0 5 Tryz.underlying29 hi (.slice (some ⟨w.heap.size,0,none⟩) 0 0) 0 [] rfl ?c0 rfl ?_)))
 case c0=>exact World.ownsRow_lit (base:=w.heap.size) (size:=5) w #[] 0 (Nat.le_refl _) (Nat.zero_le _) rfl
 go_wp2
 go_ret
 refine ⟨_,rfl,?_,Qb⟩
 exact World.ownsRow_lit (base:=w.heap.size) (size:=5) w #[] 0 (Nat.le_refl _) (Nat.zero_le _) rfl
theorem zBr (a:Option Addr)(n cap:Nat)(E:Nat→Req)(z x y now:Int)(w:World)(hp:xV w a n E)(hn:n≤1048576)(hcopy:(∃ ad,a=some ad)∨a=none∧n=0∧cap=0) :
  Calls Tryz.prog 70 #[.slice a n cap,xK z x y,.int .i64 now] w fun e w'=>∃ v1 v2,e=.returned (rqV (zBm n E z x y now) v1 v2)∧yA w.heap.size w' v1 (vJ n E z x y now)∧zX w.heap.size w' v2 (vB n E z x y now)∧Bw w w':=by
 obtain ⟨i0,hi,hz0,hz1,hz2⟩:=info_parts vS
 have HF0:Hid (∀ W,Bw w W→Calls Tryz.prog 111 #[.slice a n cap,.int .i64 now] W fun e w'=>e=.returned (.int .i64 (or2 (zQ n E) (zBp now)))∧Bw W w'):=fun W h=>zFy _ n cap E now W (hp.below h) hn
 have HR:Hid (∀ W,Calls Tryz.prog 113 #[xK z x y] W fun e w'=>e=.returned (.int .i64 (zB5 z x y))∧Bw W w'):=fun W=>zCq z x y W
 have HI:Hid (∀ W,Bw w W→Calls Tryz.prog 114 #[.slice a n cap,xK z x y] W fun e w'=>e=.returned (.int .i64 (atW n E z x y))∧Bw W w'):=fun W h=>zFx _ n cap E z x y W (hp.below h) hn
 have HC:Hid (∀ W,Bw w W→Calls Tryz.prog 115 #[.slice a n cap] W fun e w'=>∃ va vc,e=.returned (.slice va n vc)∧zX W.heap.size w' (.slice va n vc) (zM n E)∧Bw W w'):=fun W h=>by
  have h0:Calls Tryz.prog 115 #[.slice a n cap] W fun e w'=>∃ v,e=.returned v∧zX W.heap.size w' v (zM n E)∧Bw W w':=by
   rcases hcopy with ⟨ad,e⟩ | ⟨rfl,rfl,rfl⟩
   ·exact zG7 _ n cap E W (hp.below h) hn ⟨ad,e⟩
   ·exact zG6 W E
  refine h0.mono fun e w' ⟨v,he,hr,hb⟩=>?_
  obtain ⟨va,vc,hv⟩:=hr.slice
  rw [yB] at hv
  subst hv
  exact ⟨va,vc,he,hr,hb⟩
 have HPC:Hid (zBa n E z x y now=if or2 (zQ n E) (zBp now)=0 then zB5 z x y else or2 (zQ n E) (zBp now)):=zLj n E z x y now
 have HLE:Hid (zBa n E z x y now=0→(0≤now∧now≤9000)∧n≤8):=fun h=>⟨zJm (zAr h).2.1,zHt (zAr h).1⟩
 clear hp hcopy
 generalize or2 (zQ n E) (zBp now)=k1 at *
 generalize zB5 z x y=k3 at *
 go_enter Tryz.func70,Tryz.ntmps70
 go_wp2_with fail
 generalize hW:((w.alloc _).alloc _:World)=W
 have HB0:Hid (Bw w W):=by show Below _ _ _;subst hW;exact Qb
 have HSZ:Hid (w.heap.size+1<W.heap.size):=by show _<_;subst hW;simp
 have c0:∀ W',Bw W W'→W'.cell? ⟨w.heap.size,0,none⟩=some (.int .i64 z):=fun W' h=>by rw [h.cell (by subst hW;simp;omega)];subst hW;simp [go_sem]
 have c1:∀ W',Bw W W'→W'.cell? ⟨w.heap.size,1,none⟩=some (.int .i64 x):=fun W' h=>by rw [h.cell (by subst hW;simp;omega)];subst hW;simp [go_sem]
 have c2:∀ W',Bw W W'→W'.cell? ⟨w.heap.size,2,none⟩=some (.int .i64 y):=fun W' h=>by rw [h.cell (by subst hW;simp;omega)];subst hW;simp [go_sem]
 have HTH:Hid (zC W (w.heap.size+1) 3):=by
  show zC _ _ _
  subst hW
  have:=zGu (w.alloc (.cells #[.int .i64 z,.int .i64 x,.int .i64 y] 111)) (.int .i64 0) (.slice none 0 0) (.slice none 0 0) 114
  simpa using this
 clear hW
 refine (HF0.out _ HB0.out).mono ?_
 rintro e w1 ⟨rfl,hb1⟩
 by_cases hk1:k1=0
 ·subst hk1
  have m0:=c0 w1 hb1
  have m1:=c1 w1 hb1
  have m2:=c2 w1 hb1
  have HPC':Hid (zBa n E z x y now=k3):=by show _=_;rw [HPC.out,if_pos rfl]
  clear HPC
  go_wp2_with fail
  refine (HR.out _).mono ?_
  rintro e w2 ⟨rfl,hb2⟩
  have hB2:Bw W w2:=zB hb1 hb2
  clear m0 m1 m2 hb1 hb2 HF0 HR
  have m0:=c0 w2 hB2
  have m1:=c1 w2 hB2
  have m2:=c2 w2 hB2
  by_cases hk3:k3=0
  ·subst hk3
   have HP0:Hid (zBa n E z x y now=0):=HPC'.out
   obtain ⟨⟨n0,n1⟩,hn8⟩:=HLE.out HP0.out
   go_wp2_with fail
   refine (HI.out _ (zB HB0.out hB2)).mono ?_
   rintro e w3 ⟨rfl,hb3⟩
   have hB3:Bw W w3:=zB hB2 hb3
   clear hB2 hb3 m0 m1 m2 HI
   by_cases hat:0≤atW n E z x y
   ·obtain ⟨ha,hl,hs⟩:=zGh HP0.out hat
    have HA:Hid (zBm n E z x y now=0):=ha
    have HL:Hid (vB n E z x y now=zM n E):=hl
    have HS:Hid (vJ n E z x y now=[]):=hs
    clear ha hl hs
    generalize atW n E z x y=q at *
    go_wp2_with fail
    refine (HC.out _ (zB HB0.out hB3)).mono ?_
    rintro e w4 ⟨va,vc,rfl,hr4,hb4⟩
    have HR4:Hid (zX w3.heap.size w4 (.slice va n vc) (zM n E)):=hr4
    have HT4:Hid (zC w4 (w.heap.size+1) 3):=(HTH.out.below hB3).below hb4
    have HB4:Hid (Bw w w4):=zB HB0.out (zB hB3 hb4)
    have HSZ3:Hid (w.heap.size+1<w3.heap.size):=by have:=hB3.size;have:=HSZ.out;show _<_;omega
    have t0:=HT4.out.cell 0 (by omega)
    have t1:=HT4.out.cell 1 (by omega)
    have t2:=HT4.out.cell 2 (by omega)
    have f0:=(HT4.out 0 (by omega)).2
    have f1:=(HT4.out 1 (by omega)).2
    have f2:=(HT4.out 2 (by omega)).2
    clear hr4 hb4 hB3
    go_wp2_with fail
    obtain ⟨q0,q1,q2⟩:=uA (a:=.int .i64 0) (b:=.slice none 0 0) (c:=.slice va n vc) HT4.out
    refine bodyPost_ret (xL rfl q0 q1 q2) rfl ⟨_,_,by rw [HA.out],by rw [HS.out];exact yA.no _ _,by rw [HL.out];exact HR4.out.set3 HSZ3.out (by have:=HSZ3.out;omega),?_⟩
    exact ((HB4.out.setCell (Nat.le_succ _) _).setCell (Nat.le_succ _) _).setCell (Nat.le_succ _) _
   ·by_cases h8:8≤n
    ·obtain ⟨ha,hl,hs⟩:=zH7 HP0.out hat h8
     have HA:Hid (zBm n E z x y now=7):=ha
     have HL:Hid (vB n E z x y now=[]):=hl
     have HS:Hid (vJ n E z x y now=[]):=hs
     have h8':(8:Int)≤(n:Int):=by omega
     clear ha hl hs
     generalize atW n E z x y=q at *
     go_wp2_with fail
     refine (zBc 7 _).mono ?_
     rintro e w4 ⟨rfl,hb4⟩
     have HT4:Hid (zC w4 (w.heap.size+1) 3):=(HTH.out.below hB3).below hb4
     have HB4:Hid (Bw w w4):=zB HB0.out (zB hB3 hb4)
     have t0:=HT4.out.cell 0 (by omega)
     have t1:=HT4.out.cell 1 (by omega)
     have t2:=HT4.out.cell 2 (by omega)
     have f0:=(HT4.out 0 (by omega)).2
     have f1:=(HT4.out 1 (by omega)).2
     have f2:=(HT4.out 2 (by omega)).2
     clear hb4 hB3
     go_wp2_with fail
     obtain ⟨q0,q1,q2⟩:=uA (a:=.int .i64 7) (b:=.slice none 0 0) (c:=.slice none 0 0) HT4.out
     refine bodyPost_ret (xL rfl q0 q1 q2) rfl ⟨_,_,by rw [HA.out],by rw [HS.out];exact yA.no _ _,by rw [HL.out];exact zX.no _ _,?_⟩
     exact ((HB4.out.setCell (Nat.le_succ _) _).setCell (Nat.le_succ _) _).setCell (Nat.le_succ _) _
    ·obtain ⟨ha,hl,hs⟩:=zKu HP0.out hat h8
     have HA:Hid (zBm n E z x y now=0):=ha
     have HL:Hid (vB n E z x y now=zM n E ++ [⟨z,x,y,now+3,1⟩]):=hl
     have HS:Hid (vJ n E z x y now=[⟨z,x,y,now+3,1⟩]):=hs
     have h8':¬ (8:Int)≤(n:Int):=by omega
     have HLEN:Hid ((zM n E).length=n):=yB n E
     clear ha hl hs
     generalize atW n E z x y=q at *
     have HSZ3:Hid (w.heap.size+1<w3.heap.size):=by have:=hB3.size;have:=HSZ.out;show _<_;omega
     have HB3:Hid (Bw w w3):=zB HB0.out hB3
     have HT3:Hid (zC w3 (w.heap.size+1) 3):=HTH.out.below hB3
     have d0:∀ W',Below (w.heap.size+1) w3 W'→W'.cell? ⟨w.heap.size,0,none⟩=some (.int .i64 z):=fun W' h=>(h.cell (p:=⟨w.heap.size,0,none⟩) (Nat.lt_succ_self w.heap.size)).trans (c0 w3 hB3)
     have d1:∀ W',Below (w.heap.size+1) w3 W'→W'.cell? ⟨w.heap.size,1,none⟩=some (.int .i64 x):=fun W' h=>(h.cell (p:=⟨w.heap.size,1,none⟩) (Nat.lt_succ_self w.heap.size)).trans (c1 w3 hB3)
     have d2:∀ W',Below (w.heap.size+1) w3 W'→W'.cell? ⟨w.heap.size,2,none⟩=some (.int .i64 y):=fun W' h=>(h.cell (p:=⟨w.heap.size,2,none⟩) (Nat.lt_succ_self w.heap.size)).trans (c2 w3 hB3)
     clear c0 c1 c2 hB3
     have hwr:IntKind.i64.wrap (now+3)=now+3:=IntWalk.i64_in _ (by omega)
     go_wp2_with fail
     refine wp_region_noPanic ?_
     refine wp_region_held_drew (S:=fun W'=>Below (w.heap.size+1) w3 W') (by kernel_rfl) (by exact Qb) (fun hHeld=>?_)
     have hX0:Bw w3 w3.drew:=by exact Qb
     refine zE (i:=0) (d:=some 33) rfl rfl ?_
     try simp only [Act.put,Qx,Qy,Qz]
     refine zE (i:=2) (d:=some 35) rfl rfl ?_
     try simp only [Act.put,Qx,Qy,Qz]
     refine zE (i:=4) (d:=some 37) rfl rfl ?_
     try simp only [Act.put,Qx,Qy,Qz]
     refine zE (i:=5) (d:=some 38) rfl rfl ?_
     try simp only [Act.put,Qx,Qy,Qz]
     refine zE (i:=6) (d:=some 39) rfl rfl ?_
     try simp only [Act.put,Qx,Qy,Qz]
     refine zE (i:=7) (d:=some 40) rfl rfl ?_
     try simp only [Act.put,Qx,Qy,Qz]
     generalize w3.drew=wk0 at *
     refine wpAnyH_ready (rs:=[1,3,8]) (by kernel_rfl) (by simp) ?_
     refine (AllReadyH.cons rfl (fun K hK=>?_) (AllReadyH.cons rfl (fun K hK=>?_) (AllReadyH.cons rfl (fun K hK=>?_) AllReadyH.nil)))
     ·rw [if_pos (by rfl)]
      go_simp
      generalize hwA:(World.alloc _ _:World)=wk1
      have hb1:Bw wk0 wk1:=by subst hwA;exact Qb
      have hs1:yA w3.heap.size wk1 (.slice (some ⟨wk0.heap.size,0,none⟩) 1 1) [⟨z,x,y,now+3,1⟩]:=by subst hwA;exact (vD wk0 ⟨z,x,y,now+3,1⟩ (by have:=hX0.size;simp at this ⊢;try omega)).below (by exact Qb)
      clear hwA
      have hXk1:Bw w3 wk1:=zB hX0 hb1
      refine hK.out _ _ (hXk1.mono (Nat.le_of_lt HSZ3.out)) (fun hHeld=>?_)
      clear hK K
      try simp only [Act.put,Qx,Qy,Qz]
      refine wpAnyH_ready (rs:=[3,8]) (by kernel_rfl) (by simp) ?_
      refine (AllReadyH.cons rfl (fun K hK=>?_) (AllReadyH.cons rfl (fun K hK=>?_) AllReadyH.nil))
      ·rw [if_pos (by rfl)]
       go_simp
       refine Calls.mono (HC.out _ (zB HB3.out hXk1)) ?_
       rintro e wk2 ⟨va2,vc2,rfl,hc2,hb2⟩
       have hXk2:Bw w3 wk2:=zB hXk1 hb2
       have hC2:zX w3.heap.size wk2 (.slice va2 n vc2) (zM n E):=zK hc2 hXk1.size
       have hS2:=hs1.below hb2
       go_wp2_with fail
       refine hK.out _ _ (hXk2.mono (Nat.le_of_lt HSZ3.out)) (fun hHeld=>?_)
       clear hK K
       try simp only [Act.put,Qx,Qy,Qz]
       refine zN 8 fun K hK=>?_
       rw [if_pos (by rfl)]
       go_simp
       generalize hwA:(World.alloc _ _:World)=wk3
       have hb3:Bw wk2 wk3:=by subst hwA;exact Qb
       have hs3:zEf wk3 wk2.heap.size ⟨z,x,y,now+3,1⟩:=by subst hwA;exact zEf.below (zEf.of wk2 ⟨z,x,y,now+3,1⟩) (by exact Qb)
       clear hwA
       have hXk3:Bw w3 wk3:=zB hXk2 hb3
       have hS3:=hS2.below hb3
       have hC3:=hC2.below hb3
       refine hK.out _ _ (hXk3.mono (Nat.le_of_lt HSZ3.out)) (fun hHeld=>?_)
       clear hK K
       try simp only [Act.put,Qx,Qy,Qz]
       refine zN 9 fun K hK=>?_
       refine zP rfl (.tmp 36) (.tmp 41) 29 rfl w3.heap.size 134 i0 (.agg #[.int .i64 0,.int .i64 0,.int .i64 0,.int .i64 0,.int .i64 0]) 5 40 Tryz.underlying29 hi hz0 hz1 hz2 rfl (by decide) (.slice va2 n vc2) n (zV (zM n E)) rfl (by have h:=hC3;unfold zX at h;rw [HLEN.out] at h;exact h) ⟨wk2.heap.size,0,none⟩ 1 1 (yJ ⟨z,x,y,now+3,1⟩) rfl rfl hs3 (zZ _) (by unfold maxLen;omega) (by omega) (hXk3.size) ?_
       intro v4 wk4 hown4 hg4 hnil4
       have hD4:zX w3.heap.size wk4 v4 (zM n E ++ [⟨z,x,y,now+3,1⟩]):=by unfold zX;rw [yM,yG,List.length_append,HLEN.out];exact hown4
       have hXk4:Bw w3 wk4:=hXk3.trans (yN hg4 (fun s hs=>hC3.block s hs) hXk3.size)
       obtain ⟨va4,vc4,hv4⟩:=hD4.slice
       rw [List.length_append,HLEN.out] at hv4
       replace hv4:v4=.slice va4 (n+1) vc4:=hv4
       subst hv4
       have hS4:=yA.grown hS3 hC3 hg4
       refine hK.out _ _ (hXk4.mono (Nat.le_of_lt HSZ3.out)) (fun hHeld=>?_)
       clear hK K
       try simp only [Act.put,Qx,Qy,Qz]
       have hSk4:Below (w.heap.size+1) w3 wk4:=hXk4.mono (Nat.le_of_lt HSZ3.out)
       refine zE (i:=10) (d:=some 43) rfl rfl ?_
       try simp only [Act.put,Qx,Qy,Qz]
       have hTk:=HT3.out.below hXk4
       have t0:=hTk.cell 0 (by omega)
       have f0:=(hTk 0 (by omega)).2
       have t1:=hTk.cell 1 (by omega)
       have f1:=(hTk 1 (by omega)).2
       have t2:=hTk.cell 2 (by omega)
       have f2:=(hTk 2 (by omega)).2
       refine zN 11 fun K hK=>?_
       rw [if_pos (by rfl)]
       go_simp
       refine hK.out _ _ (((hSk4.setCell (Nat.le_refl _) _).setCell (Nat.le_refl _) _).setCell (Nat.le_refl _) _) (fun hHeld=>?_)
       clear hK K
       try simp only [Act.put,Qx,Qy,Qz]
       refine wpAnyH_done (by kernel_rfl) ?_ _
       refine NoPanic.normal ?_
       go_wp2_with fail
       obtain ⟨q0,q1,q2⟩:=uA (a:=.int .i64 0) (b:=.slice (some ⟨wk0.heap.size,0,none⟩) 1 1) (c:=.slice va4 (n+1) vc4) hTk
       refine bodyPost_ret (xL rfl q0 q1 q2) rfl ⟨_,_,by rw [HA.out],?_,?_,?_⟩
       ·rw [HS.out];exact hS4.set3 HSZ3.out (by have:=HSZ3.out;omega)
       ·rw [HL.out];exact hD4.set3 HSZ3.out (by have:=HSZ3.out;omega)
       ·exact (((zB HB3.out hXk4).setCell (Nat.le_succ _) _).setCell (Nat.le_succ _) _).setCell (Nat.le_succ _) _
      ·rw [if_pos (by rfl)]
       go_simp
       generalize hwA:(World.alloc _ _:World)=wk5
       have hb5:Bw wk1 wk5:=by subst hwA;exact Qb
       have hs5:zEf wk5 wk1.heap.size ⟨z,x,y,now+3,1⟩:=by subst hwA;exact zEf.below (zEf.of wk1 ⟨z,x,y,now+3,1⟩) (by exact Qb)
       clear hwA
       have hXk5:Bw w3 wk5:=zB hXk1 hb5
       have hS5:=hs1.below hb5
       refine hK.out _ _ (hXk5.mono (Nat.le_of_lt HSZ3.out)) (fun hHeld=>?_)
       clear hK K
       try simp only [Act.put,Qx,Qy,Qz]
       refine zN 3 fun K hK=>?_
       rw [if_pos (by rfl)]
       go_simp
       refine Calls.mono (HC.out _ (zB HB3.out hXk5)) ?_
       rintro e wk6 ⟨va6,vc6,rfl,hc6,hb6⟩
       have hXk6:Bw w3 wk6:=zB hXk5 hb6
       have hC6:zX w3.heap.size wk6 (.slice va6 n vc6) (zM n E):=zK hc6 hXk5.size
       have hS6:=hS5.below hb6
       have hQ6:=hs5.below hb6
       go_wp2_with fail
       refine hK.out _ _ (hXk6.mono (Nat.le_of_lt HSZ3.out)) (fun hHeld=>?_)
       clear hK K
       try simp only [Act.put,Qx,Qy,Qz]
       refine zN 9 fun K hK=>?_
       refine zP rfl (.tmp 36) (.tmp 41) 29 rfl w3.heap.size 134 i0 (.agg #[.int .i64 0,.int .i64 0,.int .i64 0,.int .i64 0,.int .i64 0]) 5 40 Tryz.underlying29 hi hz0 hz1 hz2 rfl (by decide) (.slice va6 n vc6) n (zV (zM n E)) rfl (by have h:=hC6;unfold zX at h;rw [HLEN.out] at h;exact h) ⟨wk1.heap.size,0,none⟩ 1 1 (yJ ⟨z,x,y,now+3,1⟩) rfl rfl hQ6 (zZ _) (by unfold maxLen;omega) (by omega) (hXk6.size) ?_
       intro v7 wk7 hown7 hg7 hnil7
       have hD7:zX w3.heap.size wk7 v7 (zM n E ++ [⟨z,x,y,now+3,1⟩]):=by unfold zX;rw [yM,yG,List.length_append,HLEN.out];exact hown7
       have hXk7:Bw w3 wk7:=hXk6.trans (yN hg7 (fun s hs=>hC6.block s hs) hXk6.size)
       obtain ⟨va7,vc7,hv7⟩:=hD7.slice
       rw [List.length_append,HLEN.out] at hv7
       replace hv7:v7=.slice va7 (n+1) vc7:=hv7
       subst hv7
       have hS7:=yA.grown hS6 hC6 hg7
       refine hK.out _ _ (hXk7.mono (Nat.le_of_lt HSZ3.out)) (fun hHeld=>?_)
       clear hK K
       try simp only [Act.put,Qx,Qy,Qz]
       have hSk7:Below (w.heap.size+1) w3 wk7:=hXk7.mono (Nat.le_of_lt HSZ3.out)
       refine zE (i:=10) (d:=some 43) rfl rfl ?_
       try simp only [Act.put,Qx,Qy,Qz]
       have hTk:=HT3.out.below hXk7
       have t0:=hTk.cell 0 (by omega)
       have f0:=(hTk 0 (by omega)).2
       have t1:=hTk.cell 1 (by omega)
       have f1:=(hTk 1 (by omega)).2
       have t2:=hTk.cell 2 (by omega)
       have f2:=(hTk 2 (by omega)).2
       refine zN 11 fun K hK=>?_
       rw [if_pos (by rfl)]
       go_simp
       refine hK.out _ _ (((hSk7.setCell (Nat.le_refl _) _).setCell (Nat.le_refl _) _).setCell (Nat.le_refl _) _) (fun hHeld=>?_)
       clear hK K
       try simp only [Act.put,Qx,Qy,Qz]
       refine wpAnyH_done (by kernel_rfl) ?_ _
       refine NoPanic.normal ?_
       go_wp2_with fail
       obtain ⟨q0,q1,q2⟩:=uA (a:=.int .i64 0) (b:=.slice (some ⟨wk0.heap.size,0,none⟩) 1 1) (c:=.slice va7 (n+1) vc7) hTk
       refine bodyPost_ret (xL rfl q0 q1 q2) rfl ⟨_,_,by rw [HA.out],?_,?_,?_⟩
       ·rw [HS.out];exact hS7.set3 HSZ3.out (by have:=HSZ3.out;omega)
       ·rw [HL.out];exact hD7.set3 HSZ3.out (by have:=HSZ3.out;omega)
       ·exact (((zB HB3.out hXk7).setCell (Nat.le_succ _) _).setCell (Nat.le_succ _) _).setCell (Nat.le_succ _) _
     ·rw [if_pos (by rfl)]
      go_simp
      refine Calls.mono (HC.out _ (zB HB3.out hX0)) ?_
      rintro e wk8 ⟨va8,vc8,rfl,hc8,hb8⟩
      have hXk8:Bw w3 wk8:=zB hX0 hb8
      have hC8:zX w3.heap.size wk8 (.slice va8 n vc8) (zM n E):=zK hc8 hX0.size
      go_wp2_with fail
      refine hK.out _ _ (hXk8.mono (Nat.le_of_lt HSZ3.out)) (fun hHeld=>?_)
      clear hK K
      try simp only [Act.put,Qx,Qy,Qz]
      refine wpAnyH_ready (rs:=[1,8]) (by kernel_rfl) (by simp) ?_
      refine (AllReadyH.cons rfl (fun K hK=>?_) (AllReadyH.cons rfl (fun K hK=>?_) AllReadyH.nil))
      ·rw [if_pos (by rfl)]
       go_simp
       generalize hwA:(World.alloc _ _:World)=wk9
       have hb9:Bw wk8 wk9:=by subst hwA;exact Qb
       have hs9:yA w3.heap.size wk9 (.slice (some ⟨wk8.heap.size,0,none⟩) 1 1) [⟨z,x,y,now+3,1⟩]:=by subst hwA;exact (vD wk8 ⟨z,x,y,now+3,1⟩ (by have:=hXk8.size;simp at this ⊢;try omega)).below (by exact Qb)
       clear hwA
       have hXk9:Bw w3 wk9:=zB hXk8 hb9
       have hC9:=hC8.below hb9
       refine hK.out _ _ (hXk9.mono (Nat.le_of_lt HSZ3.out)) (fun hHeld=>?_)
       clear hK K
       try simp only [Act.put,Qx,Qy,Qz]
       refine zN 8 fun K hK=>?_
       rw [if_pos (by rfl)]
       go_simp
       generalize hwA:(World.alloc _ _:World)=wk10
       have hb10:Bw wk9 wk10:=by subst hwA;exact Qb
       have hs10:zEf wk10 wk9.heap.size ⟨z,x,y,now+3,1⟩:=by subst hwA;exact zEf.below (zEf.of wk9 ⟨z,x,y,now+3,1⟩) (by exact Qb)
       clear hwA
       have hXk10:Bw w3 wk10:=zB hXk9 hb10
       have hS10:=hs9.below hb10
       have hC10:=hC9.below hb10
       refine hK.out _ _ (hXk10.mono (Nat.le_of_lt HSZ3.out)) (fun hHeld=>?_)
       clear hK K
       try simp only [Act.put,Qx,Qy,Qz]
       refine zN 9 fun K hK=>?_
       refine zP rfl (.tmp 36) (.tmp 41) 29 rfl w3.heap.size 134 i0 (.agg #[.int .i64 0,.int .i64 0,.int .i64 0,.int .i64 0,.int .i64 0]) 5 40 Tryz.underlying29 hi hz0 hz1 hz2 rfl (by decide) (.slice va8 n vc8) n (zV (zM n E)) rfl (by have h:=hC10;unfold zX at h;rw [HLEN.out] at h;exact h) ⟨wk9.heap.size,0,none⟩ 1 1 (yJ ⟨z,x,y,now+3,1⟩) rfl rfl hs10 (zZ _) (by unfold maxLen;omega) (by omega) (hXk10.size) ?_
       intro v11 wk11 hown11 hg11 hnil11
       have hD11:zX w3.heap.size wk11 v11 (zM n E ++ [⟨z,x,y,now+3,1⟩]):=by unfold zX;rw [yM,yG,List.length_append,HLEN.out];exact hown11
       have hXk11:Bw w3 wk11:=hXk10.trans (yN hg11 (fun s hs=>hC10.block s hs) hXk10.size)
       obtain ⟨va11,vc11,hv11⟩:=hD11.slice
       rw [List.length_append,HLEN.out] at hv11
       replace hv11:v11=.slice va11 (n+1) vc11:=hv11
       subst hv11
       have hS11:=yA.grown hS10 hC10 hg11
       refine hK.out _ _ (hXk11.mono (Nat.le_of_lt HSZ3.out)) (fun hHeld=>?_)
       clear hK K
       try simp only [Act.put,Qx,Qy,Qz]
       have hSk11:Below (w.heap.size+1) w3 wk11:=hXk11.mono (Nat.le_of_lt HSZ3.out)
       refine zE (i:=10) (d:=some 43) rfl rfl ?_
       try simp only [Act.put,Qx,Qy,Qz]
       have hTk:=HT3.out.below hXk11
       have t0:=hTk.cell 0 (by omega)
       have f0:=(hTk 0 (by omega)).2
       have t1:=hTk.cell 1 (by omega)
       have f1:=(hTk 1 (by omega)).2
       have t2:=hTk.cell 2 (by omega)
       have f2:=(hTk 2 (by omega)).2
       refine zN 11 fun K hK=>?_
       rw [if_pos (by rfl)]
       go_simp
       refine hK.out _ _ (((hSk11.setCell (Nat.le_refl _) _).setCell (Nat.le_refl _) _).setCell (Nat.le_refl _) _) (fun hHeld=>?_)
       clear hK K
       try simp only [Act.put,Qx,Qy,Qz]
       refine wpAnyH_done (by kernel_rfl) ?_ _
       refine NoPanic.normal ?_
       go_wp2_with fail
       obtain ⟨q0,q1,q2⟩:=uA (a:=.int .i64 0) (b:=.slice (some ⟨wk8.heap.size,0,none⟩) 1 1) (c:=.slice va11 (n+1) vc11) hTk
       refine bodyPost_ret (xL rfl q0 q1 q2) rfl ⟨_,_,by rw [HA.out],?_,?_,?_⟩
       ·rw [HS.out];exact hS11.set3 HSZ3.out (by have:=HSZ3.out;omega)
       ·rw [HL.out];exact hD11.set3 HSZ3.out (by have:=HSZ3.out;omega)
       ·exact (((zB HB3.out hXk11).setCell (Nat.le_succ _) _).setCell (Nat.le_succ _) _).setCell (Nat.le_succ _) _
      ·rw [if_pos (by rfl)]
       go_simp
       generalize hwA:(World.alloc _ _:World)=wk12
       have hb12:Bw wk8 wk12:=by subst hwA;exact Qb
       have hs12:zEf wk12 wk8.heap.size ⟨z,x,y,now+3,1⟩:=by subst hwA;exact zEf.below (zEf.of wk8 ⟨z,x,y,now+3,1⟩) (by exact Qb)
       clear hwA
       have hXk12:Bw w3 wk12:=zB hXk8 hb12
       have hC12:=hC8.below hb12
       refine hK.out _ _ (hXk12.mono (Nat.le_of_lt HSZ3.out)) (fun hHeld=>?_)
       clear hK K
       try simp only [Act.put,Qx,Qy,Qz]
       refine wpAnyH_ready (rs:=[1,9]) (by kernel_rfl) (by simp) ?_
       refine (AllReadyH.cons rfl (fun K hK=>?_) (AllReadyH.cons rfl (fun K hK=>?_) AllReadyH.nil))
       ·rw [if_pos (by rfl)]
        go_simp
        generalize hwA:(World.alloc _ _:World)=wk13
        have hb13:Bw wk12 wk13:=by subst hwA;exact Qb
        have hs13:yA w3.heap.size wk13 (.slice (some ⟨wk12.heap.size,0,none⟩) 1 1) [⟨z,x,y,now+3,1⟩]:=by subst hwA;exact (vD wk12 ⟨z,x,y,now+3,1⟩ (by have:=hXk12.size;simp at this ⊢;try omega)).below (by exact Qb)
        clear hwA
        have hXk13:Bw w3 wk13:=zB hXk12 hb13
        have hC13:=hC12.below hb13
        have hQ13:=hs12.below hb13
        refine hK.out _ _ (hXk13.mono (Nat.le_of_lt HSZ3.out)) (fun hHeld=>?_)
        clear hK K
        try simp only [Act.put,Qx,Qy,Qz]
        refine zN 9 fun K hK=>?_
        refine zP rfl (.tmp 36) (.tmp 41) 29 rfl w3.heap.size 134 i0 (.agg #[.int .i64 0,.int .i64 0,.int .i64 0,.int .i64 0,.int .i64 0]) 5 40 Tryz.underlying29 hi hz0 hz1 hz2 rfl (by decide) (.slice va8 n vc8) n (zV (zM n E)) rfl (by have h:=hC13;unfold zX at h;rw [HLEN.out] at h;exact h) ⟨wk8.heap.size,0,none⟩ 1 1 (yJ ⟨z,x,y,now+3,1⟩) rfl rfl hQ13 (zZ _) (by unfold maxLen;omega) (by omega) (hXk13.size) ?_
        intro v14 wk14 hown14 hg14 hnil14
        have hD14:zX w3.heap.size wk14 v14 (zM n E ++ [⟨z,x,y,now+3,1⟩]):=by unfold zX;rw [yM,yG,List.length_append,HLEN.out];exact hown14
        have hXk14:Bw w3 wk14:=hXk13.trans (yN hg14 (fun s hs=>hC13.block s hs) hXk13.size)
        obtain ⟨va14,vc14,hv14⟩:=hD14.slice
        rw [List.length_append,HLEN.out] at hv14
        replace hv14:v14=.slice va14 (n+1) vc14:=hv14
        subst hv14
        have hS14:=yA.grown hs13 hC13 hg14
        refine hK.out _ _ (hXk14.mono (Nat.le_of_lt HSZ3.out)) (fun hHeld=>?_)
        clear hK K
        try simp only [Act.put,Qx,Qy,Qz]
        have hSk14:Below (w.heap.size+1) w3 wk14:=hXk14.mono (Nat.le_of_lt HSZ3.out)
        refine zE (i:=10) (d:=some 43) rfl rfl ?_
        try simp only [Act.put,Qx,Qy,Qz]
        have hTk:=HT3.out.below hXk14
        have t0:=hTk.cell 0 (by omega)
        have f0:=(hTk 0 (by omega)).2
        have t1:=hTk.cell 1 (by omega)
        have f1:=(hTk 1 (by omega)).2
        have t2:=hTk.cell 2 (by omega)
        have f2:=(hTk 2 (by omega)).2
        refine zN 11 fun K hK=>?_
        rw [if_pos (by rfl)]
        go_simp
        refine hK.out _ _ (((hSk14.setCell (Nat.le_refl _) _).setCell (Nat.le_refl _) _).setCell (Nat.le_refl _) _) (fun hHeld=>?_)
        clear hK K
        try simp only [Act.put,Qx,Qy,Qz]
        refine wpAnyH_done (by kernel_rfl) ?_ _
        refine NoPanic.normal ?_
        go_wp2_with fail
        obtain ⟨q0,q1,q2⟩:=uA (a:=.int .i64 0) (b:=.slice (some ⟨wk12.heap.size,0,none⟩) 1 1) (c:=.slice va14 (n+1) vc14) hTk
        refine bodyPost_ret (xL rfl q0 q1 q2) rfl ⟨_,_,by rw [HA.out],?_,?_,?_⟩
        ·rw [HS.out];exact hS14.set3 HSZ3.out (by have:=HSZ3.out;omega)
        ·rw [HL.out];exact hD14.set3 HSZ3.out (by have:=HSZ3.out;omega)
        ·exact (((zB HB3.out hXk14).setCell (Nat.le_succ _) _).setCell (Nat.le_succ _) _).setCell (Nat.le_succ _) _
       ·refine zP rfl (.tmp 36) (.tmp 41) 29 rfl w3.heap.size 134 i0 (.agg #[.int .i64 0,.int .i64 0,.int .i64 0,.int .i64 0,.int .i64 0]) 5 40 Tryz.underlying29 hi hz0 hz1 hz2 rfl (by decide) (.slice va8 n vc8) n (zV (zM n E)) rfl (by have h:=hC12;unfold zX at h;rw [HLEN.out] at h;exact h) ⟨wk8.heap.size,0,none⟩ 1 1 (yJ ⟨z,x,y,now+3,1⟩) rfl rfl hs12 (zZ _) (by unfold maxLen;omega) (by omega) (hXk12.size) ?_
        intro v15 wk15 hown15 hg15 hnil15
        have hD15:zX w3.heap.size wk15 v15 (zM n E ++ [⟨z,x,y,now+3,1⟩]):=by unfold zX;rw [yM,yG,List.length_append,HLEN.out];exact hown15
        have hXk15:Bw w3 wk15:=hXk12.trans (yN hg15 (fun s hs=>hC12.block s hs) hXk12.size)
        obtain ⟨va15,vc15,hv15⟩:=hD15.slice
        rw [List.length_append,HLEN.out] at hv15
        replace hv15:v15=.slice va15 (n+1) vc15:=hv15
        subst hv15
        refine hK.out _ _ (hXk15.mono (Nat.le_of_lt HSZ3.out)) (fun hHeld=>?_)
        clear hK K
        try simp only [Act.put,Qx,Qy,Qz]
        refine zN 1 fun K hK=>?_
        rw [if_pos (by rfl)]
        go_simp
        generalize hwA:(World.alloc _ _:World)=wk16
        have hb16:Bw wk15 wk16:=by subst hwA;exact Qb
        have hs16:yA w3.heap.size wk16 (.slice (some ⟨wk15.heap.size,0,none⟩) 1 1) [⟨z,x,y,now+3,1⟩]:=by subst hwA;exact (vD wk15 ⟨z,x,y,now+3,1⟩ (by have:=hXk15.size;simp at this ⊢;try omega)).below (by exact Qb)
        clear hwA
        have hXk16:Bw w3 wk16:=zB hXk15 hb16
        have hD16:=hD15.below hb16
        refine hK.out _ _ (hXk16.mono (Nat.le_of_lt HSZ3.out)) (fun hHeld=>?_)
        clear hK K
        try simp only [Act.put,Qx,Qy,Qz]
        have hSk16:Below (w.heap.size+1) w3 wk16:=hXk16.mono (Nat.le_of_lt HSZ3.out)
        refine zE (i:=10) (d:=some 43) rfl rfl ?_
        try simp only [Act.put,Qx,Qy,Qz]
        have hTk:=HT3.out.below hXk16
        have t0:=hTk.cell 0 (by omega)
        have f0:=(hTk 0 (by omega)).2
        have t1:=hTk.cell 1 (by omega)
        have f1:=(hTk 1 (by omega)).2
        have t2:=hTk.cell 2 (by omega)
        have f2:=(hTk 2 (by omega)).2
        refine zN 11 fun K hK=>?_
        rw [if_pos (by rfl)]
        go_simp
        refine hK.out _ _ (((hSk16.setCell (Nat.le_refl _) _).setCell (Nat.le_refl _) _).setCell (Nat.le_refl _) _) (fun hHeld=>?_)
        clear hK K
        try simp only [Act.put,Qx,Qy,Qz]
        refine wpAnyH_done (by kernel_rfl) ?_ _
        refine NoPanic.normal ?_
        go_wp2_with fail
        obtain ⟨q0,q1,q2⟩:=uA (a:=.int .i64 0) (b:=.slice (some ⟨wk15.heap.size,0,none⟩) 1 1) (c:=.slice va15 (n+1) vc15) hTk
        refine bodyPost_ret (xL rfl q0 q1 q2) rfl ⟨_,_,by rw [HA.out],?_,?_,?_⟩
        ·rw [HS.out];exact hs16.set3 HSZ3.out (by have:=HSZ3.out;omega)
        ·rw [HL.out];exact hD16.set3 HSZ3.out (by have:=HSZ3.out;omega)
        ·exact (((zB HB3.out hXk16).setCell (Nat.le_succ _) _).setCell (Nat.le_succ _) _).setCell (Nat.le_succ _) _
     ·rw [if_pos (by rfl)]
      go_simp
      generalize hwA:(World.alloc _ _:World)=wk17
      have hb17:Bw wk0 wk17:=by subst hwA;exact Qb
      have hs17:zEf wk17 wk0.heap.size ⟨z,x,y,now+3,1⟩:=by subst hwA;exact zEf.below (zEf.of wk0 ⟨z,x,y,now+3,1⟩) (by exact Qb)
      clear hwA
      have hXk17:Bw w3 wk17:=zB hX0 hb17
      refine hK.out _ _ (hXk17.mono (Nat.le_of_lt HSZ3.out)) (fun hHeld=>?_)
      clear hK K
      try simp only [Act.put,Qx,Qy,Qz]
      refine wpAnyH_ready (rs:=[1,3]) (by kernel_rfl) (by simp) ?_
      refine (AllReadyH.cons rfl (fun K hK=>?_) (AllReadyH.cons rfl (fun K hK=>?_) AllReadyH.nil))
      ·rw [if_pos (by rfl)]
       go_simp
       generalize hwA:(World.alloc _ _:World)=wk18
       have hb18:Bw wk17 wk18:=by subst hwA;exact Qb
       have hs18:yA w3.heap.size wk18 (.slice (some ⟨wk17.heap.size,0,none⟩) 1 1) [⟨z,x,y,now+3,1⟩]:=by subst hwA;exact (vD wk17 ⟨z,x,y,now+3,1⟩ (by have:=hXk17.size;simp at this ⊢;try omega)).below (by exact Qb)
       clear hwA
       have hXk18:Bw w3 wk18:=zB hXk17 hb18
       have hQ18:=hs17.below hb18
       refine hK.out _ _ (hXk18.mono (Nat.le_of_lt HSZ3.out)) (fun hHeld=>?_)
       clear hK K
       try simp only [Act.put,Qx,Qy,Qz]
       refine zN 3 fun K hK=>?_
       rw [if_pos (by rfl)]
       go_simp
       refine Calls.mono (HC.out _ (zB HB3.out hXk18)) ?_
       rintro e wk19 ⟨va19,vc19,rfl,hc19,hb19⟩
       have hXk19:Bw w3 wk19:=zB hXk18 hb19
       have hC19:zX w3.heap.size wk19 (.slice va19 n vc19) (zM n E):=zK hc19 hXk18.size
       have hS19:=hs18.below hb19
       have hQ19:=hQ18.below hb19
       go_wp2_with fail
       refine hK.out _ _ (hXk19.mono (Nat.le_of_lt HSZ3.out)) (fun hHeld=>?_)
       clear hK K
       try simp only [Act.put,Qx,Qy,Qz]
       refine zN 9 fun K hK=>?_
       refine zP rfl (.tmp 36) (.tmp 41) 29 rfl w3.heap.size 134 i0 (.agg #[.int .i64 0,.int .i64 0,.int .i64 0,.int .i64 0,.int .i64 0]) 5 40 Tryz.underlying29 hi hz0 hz1 hz2 rfl (by decide) (.slice va19 n vc19) n (zV (zM n E)) rfl (by have h:=hC19;unfold zX at h;rw [HLEN.out] at h;exact h) ⟨wk0.heap.size,0,none⟩ 1 1 (yJ ⟨z,x,y,now+3,1⟩) rfl rfl hQ19 (zZ _) (by unfold maxLen;omega) (by omega) (hXk19.size) ?_
       intro v20 wk20 hown20 hg20 hnil20
       have hD20:zX w3.heap.size wk20 v20 (zM n E ++ [⟨z,x,y,now+3,1⟩]):=by unfold zX;rw [yM,yG,List.length_append,HLEN.out];exact hown20
       have hXk20:Bw w3 wk20:=hXk19.trans (yN hg20 (fun s hs=>hC19.block s hs) hXk19.size)
       obtain ⟨va20,vc20,hv20⟩:=hD20.slice
       rw [List.length_append,HLEN.out] at hv20
       replace hv20:v20=.slice va20 (n+1) vc20:=hv20
       subst hv20
       have hS20:=yA.grown hS19 hC19 hg20
       refine hK.out _ _ (hXk20.mono (Nat.le_of_lt HSZ3.out)) (fun hHeld=>?_)
       clear hK K
       try simp only [Act.put,Qx,Qy,Qz]
       have hSk20:Below (w.heap.size+1) w3 wk20:=hXk20.mono (Nat.le_of_lt HSZ3.out)
       refine zE (i:=10) (d:=some 43) rfl rfl ?_
       try simp only [Act.put,Qx,Qy,Qz]
       have hTk:=HT3.out.below hXk20
       have t0:=hTk.cell 0 (by omega)
       have f0:=(hTk 0 (by omega)).2
       have t1:=hTk.cell 1 (by omega)
       have f1:=(hTk 1 (by omega)).2
       have t2:=hTk.cell 2 (by omega)
       have f2:=(hTk 2 (by omega)).2
       refine zN 11 fun K hK=>?_
       rw [if_pos (by rfl)]
       go_simp
       refine hK.out _ _ (((hSk20.setCell (Nat.le_refl _) _).setCell (Nat.le_refl _) _).setCell (Nat.le_refl _) _) (fun hHeld=>?_)
       clear hK K
       try simp only [Act.put,Qx,Qy,Qz]
       refine wpAnyH_done (by kernel_rfl) ?_ _
       refine NoPanic.normal ?_
       go_wp2_with fail
       obtain ⟨q0,q1,q2⟩:=uA (a:=.int .i64 0) (b:=.slice (some ⟨wk17.heap.size,0,none⟩) 1 1) (c:=.slice va20 (n+1) vc20) hTk
       refine bodyPost_ret (xL rfl q0 q1 q2) rfl ⟨_,_,by rw [HA.out],?_,?_,?_⟩
       ·rw [HS.out];exact hS20.set3 HSZ3.out (by have:=HSZ3.out;omega)
       ·rw [HL.out];exact hD20.set3 HSZ3.out (by have:=HSZ3.out;omega)
       ·exact (((zB HB3.out hXk20).setCell (Nat.le_succ _) _).setCell (Nat.le_succ _) _).setCell (Nat.le_succ _) _
      ·rw [if_pos (by rfl)]
       go_simp
       refine Calls.mono (HC.out _ (zB HB3.out hXk17)) ?_
       rintro e wk21 ⟨va21,vc21,rfl,hc21,hb21⟩
       have hXk21:Bw w3 wk21:=zB hXk17 hb21
       have hC21:zX w3.heap.size wk21 (.slice va21 n vc21) (zM n E):=zK hc21 hXk17.size
       have hQ21:=hs17.below hb21
       go_wp2_with fail
       refine hK.out _ _ (hXk21.mono (Nat.le_of_lt HSZ3.out)) (fun hHeld=>?_)
       clear hK K
       try simp only [Act.put,Qx,Qy,Qz]
       refine wpAnyH_ready (rs:=[1,9]) (by kernel_rfl) (by simp) ?_
       refine (AllReadyH.cons rfl (fun K hK=>?_) (AllReadyH.cons rfl (fun K hK=>?_) AllReadyH.nil))
       ·rw [if_pos (by rfl)]
        go_simp
        generalize hwA:(World.alloc _ _:World)=wk22
        have hb22:Bw wk21 wk22:=by subst hwA;exact Qb
        have hs22:yA w3.heap.size wk22 (.slice (some ⟨wk21.heap.size,0,none⟩) 1 1) [⟨z,x,y,now+3,1⟩]:=by subst hwA;exact (vD wk21 ⟨z,x,y,now+3,1⟩ (by have:=hXk21.size;simp at this ⊢;try omega)).below (by exact Qb)
        clear hwA
        have hXk22:Bw w3 wk22:=zB hXk21 hb22
        have hC22:=hC21.below hb22
        have hQ22:=hQ21.below hb22
        refine hK.out _ _ (hXk22.mono (Nat.le_of_lt HSZ3.out)) (fun hHeld=>?_)
        clear hK K
        try simp only [Act.put,Qx,Qy,Qz]
        refine zN 9 fun K hK=>?_
        refine zP rfl (.tmp 36) (.tmp 41) 29 rfl w3.heap.size 134 i0 (.agg #[.int .i64 0,.int .i64 0,.int .i64 0,.int .i64 0,.int .i64 0]) 5 40 Tryz.underlying29 hi hz0 hz1 hz2 rfl (by decide) (.slice va21 n vc21) n (zV (zM n E)) rfl (by have h:=hC22;unfold zX at h;rw [HLEN.out] at h;exact h) ⟨wk0.heap.size,0,none⟩ 1 1 (yJ ⟨z,x,y,now+3,1⟩) rfl rfl hQ22 (zZ _) (by unfold maxLen;omega) (by omega) (hXk22.size) ?_
        intro v23 wk23 hown23 hg23 hnil23
        have hD23:zX w3.heap.size wk23 v23 (zM n E ++ [⟨z,x,y,now+3,1⟩]):=by unfold zX;rw [yM,yG,List.length_append,HLEN.out];exact hown23
        have hXk23:Bw w3 wk23:=hXk22.trans (yN hg23 (fun s hs=>hC22.block s hs) hXk22.size)
        obtain ⟨va23,vc23,hv23⟩:=hD23.slice
        rw [List.length_append,HLEN.out] at hv23
        replace hv23:v23=.slice va23 (n+1) vc23:=hv23
        subst hv23
        have hS23:=yA.grown hs22 hC22 hg23
        refine hK.out _ _ (hXk23.mono (Nat.le_of_lt HSZ3.out)) (fun hHeld=>?_)
        clear hK K
        try simp only [Act.put,Qx,Qy,Qz]
        have hSk23:Below (w.heap.size+1) w3 wk23:=hXk23.mono (Nat.le_of_lt HSZ3.out)
        refine zE (i:=10) (d:=some 43) rfl rfl ?_
        try simp only [Act.put,Qx,Qy,Qz]
        have hTk:=HT3.out.below hXk23
        have t0:=hTk.cell 0 (by omega)
        have f0:=(hTk 0 (by omega)).2
        have t1:=hTk.cell 1 (by omega)
        have f1:=(hTk 1 (by omega)).2
        have t2:=hTk.cell 2 (by omega)
        have f2:=(hTk 2 (by omega)).2
        refine zN 11 fun K hK=>?_
        rw [if_pos (by rfl)]
        go_simp
        refine hK.out _ _ (((hSk23.setCell (Nat.le_refl _) _).setCell (Nat.le_refl _) _).setCell (Nat.le_refl _) _) (fun hHeld=>?_)
        clear hK K
        try simp only [Act.put,Qx,Qy,Qz]
        refine wpAnyH_done (by kernel_rfl) ?_ _
        refine NoPanic.normal ?_
        go_wp2_with fail
        obtain ⟨q0,q1,q2⟩:=uA (a:=.int .i64 0) (b:=.slice (some ⟨wk21.heap.size,0,none⟩) 1 1) (c:=.slice va23 (n+1) vc23) hTk
        refine bodyPost_ret (xL rfl q0 q1 q2) rfl ⟨_,_,by rw [HA.out],?_,?_,?_⟩
        ·rw [HS.out];exact hS23.set3 HSZ3.out (by have:=HSZ3.out;omega)
        ·rw [HL.out];exact hD23.set3 HSZ3.out (by have:=HSZ3.out;omega)
        ·exact (((zB HB3.out hXk23).setCell (Nat.le_succ _) _).setCell (Nat.le_succ _) _).setCell (Nat.le_succ _) _
       ·refine zP rfl (.tmp 36) (.tmp 41) 29 rfl w3.heap.size 134 i0 (.agg #[.int .i64 0,.int .i64 0,.int .i64 0,.int .i64 0,.int .i64 0]) 5 40 Tryz.underlying29 hi hz0 hz1 hz2 rfl (by decide) (.slice va21 n vc21) n (zV (zM n E)) rfl (by have h:=hC21;unfold zX at h;rw [HLEN.out] at h;exact h) ⟨wk0.heap.size,0,none⟩ 1 1 (yJ ⟨z,x,y,now+3,1⟩) rfl rfl hQ21 (zZ _) (by unfold maxLen;omega) (by omega) (hXk21.size) ?_
        intro v24 wk24 hown24 hg24 hnil24
        have hD24:zX w3.heap.size wk24 v24 (zM n E ++ [⟨z,x,y,now+3,1⟩]):=by unfold zX;rw [yM,yG,List.length_append,HLEN.out];exact hown24
        have hXk24:Bw w3 wk24:=hXk21.trans (yN hg24 (fun s hs=>hC21.block s hs) hXk21.size)
        obtain ⟨va24,vc24,hv24⟩:=hD24.slice
        rw [List.length_append,HLEN.out] at hv24
        replace hv24:v24=.slice va24 (n+1) vc24:=hv24
        subst hv24
        refine hK.out _ _ (hXk24.mono (Nat.le_of_lt HSZ3.out)) (fun hHeld=>?_)
        clear hK K
        try simp only [Act.put,Qx,Qy,Qz]
        refine zN 1 fun K hK=>?_
        rw [if_pos (by rfl)]
        go_simp
        generalize hwA:(World.alloc _ _:World)=wk25
        have hb25:Bw wk24 wk25:=by subst hwA;exact Qb
        have hs25:yA w3.heap.size wk25 (.slice (some ⟨wk24.heap.size,0,none⟩) 1 1) [⟨z,x,y,now+3,1⟩]:=by subst hwA;exact (vD wk24 ⟨z,x,y,now+3,1⟩ (by have:=hXk24.size;simp at this ⊢;try omega)).below (by exact Qb)
        clear hwA
        have hXk25:Bw w3 wk25:=zB hXk24 hb25
        have hD25:=hD24.below hb25
        refine hK.out _ _ (hXk25.mono (Nat.le_of_lt HSZ3.out)) (fun hHeld=>?_)
        clear hK K
        try simp only [Act.put,Qx,Qy,Qz]
        have hSk25:Below (w.heap.size+1) w3 wk25:=hXk25.mono (Nat.le_of_lt HSZ3.out)
        refine zE (i:=10) (d:=some 43) rfl rfl ?_
        try simp only [Act.put,Qx,Qy,Qz]
        have hTk:=HT3.out.below hXk25
        have t0:=hTk.cell 0 (by omega)
        have f0:=(hTk 0 (by omega)).2
        have t1:=hTk.cell 1 (by omega)
        have f1:=(hTk 1 (by omega)).2
        have t2:=hTk.cell 2 (by omega)
        have f2:=(hTk 2 (by omega)).2
        refine zN 11 fun K hK=>?_
        rw [if_pos (by rfl)]
        go_simp
        refine hK.out _ _ (((hSk25.setCell (Nat.le_refl _) _).setCell (Nat.le_refl _) _).setCell (Nat.le_refl _) _) (fun hHeld=>?_)
        clear hK K
        try simp only [Act.put,Qx,Qy,Qz]
        refine wpAnyH_done (by kernel_rfl) ?_ _
        refine NoPanic.normal ?_
        go_wp2_with fail
        obtain ⟨q0,q1,q2⟩:=uA (a:=.int .i64 0) (b:=.slice (some ⟨wk24.heap.size,0,none⟩) 1 1) (c:=.slice va24 (n+1) vc24) hTk
        refine bodyPost_ret (xL rfl q0 q1 q2) rfl ⟨_,_,by rw [HA.out],?_,?_,?_⟩
        ·rw [HS.out];exact hs25.set3 HSZ3.out (by have:=HSZ3.out;omega)
        ·rw [HL.out];exact hD25.set3 HSZ3.out (by have:=HSZ3.out;omega)
        ·exact (((zB HB3.out hXk25).setCell (Nat.le_succ _) _).setCell (Nat.le_succ _) _).setCell (Nat.le_succ _) _
  ·have hk3':(k3 == 0)=false:=by simpa using hk3
   obtain ⟨ha,hl,hs⟩:=zHj (by rw [HPC'.out];exact hk3:zBa n E z x y now≠0)
   have HA:Hid (zBm n E z x y now=k3):=ha.trans HPC'.out
   have HL:Hid (vB n E z x y now=[]):=hl
   have HS:Hid (vJ n E z x y now=[]):=hs
   clear ha hl hs hk3
   go_wp2_with fail
   refine (zBc k3 _).mono ?_
   rintro e w4 ⟨rfl,hb4⟩
   have HT4:Hid (zC w4 (w.heap.size+1) 3):=(HTH.out.below hB2).below hb4
   have HB4:Hid (Bw w w4):=zB HB0.out (zB hB2 hb4)
   have t0:=HT4.out.cell 0 (by omega)
   have t1:=HT4.out.cell 1 (by omega)
   have t2:=HT4.out.cell 2 (by omega)
   have f0:=(HT4.out 0 (by omega)).2
   have f1:=(HT4.out 1 (by omega)).2
   have f2:=(HT4.out 2 (by omega)).2
   clear hb4 hB2
   go_wp2_with fail
   obtain ⟨q0,q1,q2⟩:=uA (a:=.int .i64 k3) (b:=.slice none 0 0) (c:=.slice none 0 0) HT4.out
   refine bodyPost_ret (xL rfl q0 q1 q2) rfl ⟨_,_,by rw [HA.out],by rw [HS.out];exact yA.no _ _,by rw [HL.out];exact zX.no _ _,?_⟩
   exact ((HB4.out.setCell (Nat.le_succ _) _).setCell (Nat.le_succ _) _).setCell (Nat.le_succ _) _
 ·have hk1':(k1 == 0)=false:=by simpa using hk1
  have HPC':Hid (zBa n E z x y now=k1):=by show _=_;rw [HPC.out,if_neg hk1]
  obtain ⟨ha,hl,hs⟩:=zHj (by rw [HPC'.out];exact hk1:zBa n E z x y now≠0)
  have HA:Hid (zBm n E z x y now=k1):=ha.trans HPC'.out
  have HL:Hid (vB n E z x y now=[]):=hl
  have HS:Hid (vJ n E z x y now=[]):=hs
  clear ha hl hs hk1
  go_wp2_with fail
  refine (zBc k1 _).mono ?_
  rintro e w4 ⟨rfl,hb4⟩
  have HT4:Hid (zC w4 (w.heap.size+1) 3):=(HTH.out.below hb1).below hb4
  have HB4:Hid (Bw w w4):=zB HB0.out (zB hb1 hb4)
  have t0:=HT4.out.cell 0 (by omega)
  have t1:=HT4.out.cell 1 (by omega)
  have t2:=HT4.out.cell 2 (by omega)
  have f0:=(HT4.out 0 (by omega)).2
  have f1:=(HT4.out 1 (by omega)).2
  have f2:=(HT4.out 2 (by omega)).2
  clear hb4 hb1
  go_wp2_with fail
  obtain ⟨q0,q1,q2⟩:=uA (a:=.int .i64 k1) (b:=.slice none 0 0) (c:=.slice none 0 0) HT4.out
  refine bodyPost_ret (xL rfl q0 q1 q2) rfl ⟨_,_,by rw [HA.out],by rw [HS.out];exact yA.no _ _,by rw [HL.out];exact zX.no _ _,?_⟩
  exact ((HB4.out.setCell (Nat.le_succ _) _).setCell (Nat.le_succ _) _).setCell (Nat.le_succ _) _
end Go.Proofs.YtpaiholildedcaaGreat
