/- Texts. -/
import Derived.Test.YtpaiholildedcaaGreatVLabelsIn6
import Derived.Test.YtpaiholildedcaaGreatVLabelsIn4
import Derived.Shelf.Pu.Clone
set_option linter.unusedSimpArgs false
set_option linter.unusedVariables false
set_option maxRecDepth 100000
set_option maxHeartbeats 32000000
namespace Go.Proofs.YtpaiholildedcaaGreat
open Go.RowKit
def uF (z:Int):Int:=if z=0 then 0 else if z=1 then 1 else if z=2 then 3 else 7
def zAv (z x y:Int):Bool:=yH z && (inB x 0 (uF z) && inB y 0 (uF z))
def zE4 (z x y:Int):Int:=if zAv z x y=true then 0 else 3
theorem uM (z x y:Int):(zE4 z x y=0∧zAv z x y=true)∨(zE4 z x y=3∧zAv z x y=false):=by
 unfold zE4
 cases h:zAv z x y <;> simp
theorem zPe {z x y:Int}(h:zAv z x y=true):z=0∨z=1∨z=2∨z=3:=by
 simp [zAv] at h
 exact zP h.1
theorem refB_in {z x y:Int}(h:zAv z x y=true):(0≤x∧x≤uF z)∧(0≤y∧y≤uF z):=by
 simp [zAv,inB] at h
 exact h.2
theorem zR2 (z:Int):uF z≤7:=by unfold uF;split;omega;split;omega;split <;> omega
theorem zTc {z x y:Int}(h:zAv z x y=true):(0≤z∧z≤3)∧(0≤x∧x≤7)∧(0≤y∧y≤7):=by
 have h1:=refB_in h
 have h2:=zR2 z
 refine ⟨?_,⟨h1.1.1,by omega⟩,h1.2.1,by omega⟩
 rcases zPe h with rfl | rfl | rfl | rfl <;> omega
theorem zAu (z x y:Int)(w:World):Calls Tryz.prog 132 #[.agg #[.int .i64 z,.int .i64 x,.int .i64 y]] w fun e w'=>e=.returned (.int .i64 (zE4 z x y))∧Bw w w':=by
 cases h:yH z
 ·have hk:Hid (zE4 z x y=3):=by show _=_;simp [zE4,zAv,h]
  go_enter Tryz.func132,Tryz.ntmps132
  go_wp2_with (first | (go_at_call 176;refine (yX _ _).mono ?_;rintro e w' ⟨rfl,rfl⟩) | (go_at_call 62;refine (zM _ _ _ _).mono ?_;rintro e w' ⟨rfl,rfl⟩))
  go_ret
  exact ⟨zE hk.out.symm,Qb⟩
 ·have hk:Hid (zE4 z x y=if (inB x 0 (uF z) && inB y 0 (uF z))=true then 0 else 3):=by show _=_;simp [zE4,zAv,h]
  rcases zP h with rfl | rfl | rfl | rfl
  ·simp only [show uF 0=0 from rfl] at hk
   cases hx:inB x 0 0 <;> cases hy:inB y 0 0
   all_goals
    rw [hx,hy] at hk
    go_enter Tryz.func132,Tryz.ntmps132
    go_wp2_with (first | (go_at_call 176;refine (yX _ _).mono ?_;rintro e w' ⟨rfl,rfl⟩) | (go_at_call 62;refine (zM _ _ _ _).mono ?_;rintro e w' ⟨rfl,rfl⟩))
    all_goals (go_ret;exact ⟨zE (by rw [hk.out];rfl),Qb⟩)
  ·simp only [show uF 1=1 from rfl] at hk
   cases hx:inB x 0 1 <;> cases hy:inB y 0 1
   all_goals
    rw [hx,hy] at hk
    go_enter Tryz.func132,Tryz.ntmps132
    go_wp2_with (first | (go_at_call 176;refine (yX _ _).mono ?_;rintro e w' ⟨rfl,rfl⟩) | (go_at_call 62;refine (zM _ _ _ _).mono ?_;rintro e w' ⟨rfl,rfl⟩))
    all_goals (go_ret;exact ⟨zE (by rw [hk.out];rfl),Qb⟩)
  ·simp only [show uF 2=3 from rfl] at hk
   cases hx:inB x 0 3 <;> cases hy:inB y 0 3
   all_goals
    rw [hx,hy] at hk
    go_enter Tryz.func132,Tryz.ntmps132
    go_wp2_with (first | (go_at_call 176;refine (yX _ _).mono ?_;rintro e w' ⟨rfl,rfl⟩) | (go_at_call 62;refine (zM _ _ _ _).mono ?_;rintro e w' ⟨rfl,rfl⟩))
    all_goals (go_ret;exact ⟨zE (by rw [hk.out];rfl),Qb⟩)
  ·simp only [show uF 3=7 from rfl] at hk
   cases hx:inB x 0 7 <;> cases hy:inB y 0 7
   all_goals
    rw [hx,hy] at hk
    go_enter Tryz.func132,Tryz.ntmps132
    go_wp2_with (first | (go_at_call 176;refine (yX _ _).mono ?_;rintro e w' ⟨rfl,rfl⟩) | (go_at_call 62;refine (zM _ _ _ _).mono ?_;rintro e w' ⟨rfl,rfl⟩))
    all_goals (go_ret;exact ⟨zE (by rw [hk.out];rfl),Qb⟩)
theorem zD7 (z x y:Int)(w:World):Calls Tryz.prog 113 #[.agg #[.int .i64 z,.int .i64 x,.int .i64 y]] w fun e w'=>e=.returned (.int .i64 (zE4 z x y))∧Bw w w':=by
 cases h:yH z
 ·have hk:Hid (zE4 z x y=3):=by show _=_;simp [zE4,zAv,h]
  go_enter Tryz.func113,Tryz.ntmps113
  go_wp2_with (first | (go_at_call 64;refine (xT _ _).mono ?_;rintro e w' ⟨rfl,rfl⟩) | (go_at_call 32;refine (zO _ _ _ _).mono ?_;rintro e w' ⟨rfl,rfl⟩))
  go_ret
  exact ⟨zE hk.out.symm,Qb⟩
 ·have hk:Hid (zE4 z x y=if (inB x 0 (uF z) && inB y 0 (uF z))=true then 0 else 3):=by show _=_;simp [zE4,zAv,h]
  rcases zP h with rfl | rfl | rfl | rfl
  ·simp only [show uF 0=0 from rfl] at hk
   cases hx:inB x 0 0 <;> cases hy:inB y 0 0
   all_goals
    rw [hx,hy] at hk
    go_enter Tryz.func113,Tryz.ntmps113
    go_wp2_with (first | (go_at_call 64;refine (xT _ _).mono ?_;rintro e w' ⟨rfl,rfl⟩) | (go_at_call 32;refine (zO _ _ _ _).mono ?_;rintro e w' ⟨rfl,rfl⟩))
    all_goals (go_ret;exact ⟨zE (by rw [hk.out];rfl),Qb⟩)
  ·simp only [show uF 1=1 from rfl] at hk
   cases hx:inB x 0 1 <;> cases hy:inB y 0 1
   all_goals
    rw [hx,hy] at hk
    go_enter Tryz.func113,Tryz.ntmps113
    go_wp2_with (first | (go_at_call 64;refine (xT _ _).mono ?_;rintro e w' ⟨rfl,rfl⟩) | (go_at_call 32;refine (zO _ _ _ _).mono ?_;rintro e w' ⟨rfl,rfl⟩))
    all_goals (go_ret;exact ⟨zE (by rw [hk.out];rfl),Qb⟩)
  ·simp only [show uF 2=3 from rfl] at hk
   cases hx:inB x 0 3 <;> cases hy:inB y 0 3
   all_goals
    rw [hx,hy] at hk
    go_enter Tryz.func113,Tryz.ntmps113
    go_wp2_with (first | (go_at_call 64;refine (xT _ _).mono ?_;rintro e w' ⟨rfl,rfl⟩) | (go_at_call 32;refine (zO _ _ _ _).mono ?_;rintro e w' ⟨rfl,rfl⟩))
    all_goals (go_ret;exact ⟨zE (by rw [hk.out];rfl),Qb⟩)
  ·simp only [show uF 3=7 from rfl] at hk
   cases hx:inB x 0 7 <;> cases hy:inB y 0 7
   all_goals
    rw [hx,hy] at hk
    go_enter Tryz.func113,Tryz.ntmps113
    go_wp2_with (first | (go_at_call 64;refine (xT _ _).mono ?_;rintro e w' ⟨rfl,rfl⟩) | (go_at_call 32;refine (zO _ _ _ _).mono ?_;rintro e w' ⟨rfl,rfl⟩))
    all_goals (go_ret;exact ⟨zE (by rw [hk.out];rfl),Qb⟩)
abbrev uL (z x y:Int):Value:=.agg #[.int .i64 z,.int .i64 x,.int .i64 y]
abbrev rrV (c z x y:Int):Value:=.agg #[.int .i64 c,.int .i64 z,.int .i64 x,.int .i64 y]
def atV (z x y:Int):Value:=if uW z x y=true then rrV 0 z (x / 8) (y / 8) else rrV 3 0 0 0
theorem zL8 (z x y:Int)(w:World)(h:uW z x y=true):Calls Tryz.prog 93 #[.int .i64 z,.int .i64 x,.int .i64 y] w fun e w'=>e=.returned (uL z (x / 8) (y / 8))∧Bw w w':=by
 obtain ⟨⟨x0,x1⟩,y0,y1⟩:=zBj h
 have hp:=(xJ (vC h)).2
 clear h
 generalize zAp z=u at *
 have dx:x.tdiv 8=x / 8:=Int.tdiv_eq_ediv_of_nonneg x0
 have dy:y.tdiv 8=y / 8:=Int.tdiv_eq_ediv_of_nonneg y0
 go_enter Tryz.func93,Tryz.ntmps93
 go_wp2
 exact bodyPost_ret (v:=uL z (x / 8) (y / 8)) (by simp [results,Tryz.results93,go_sem]) rfl ⟨rfl,Qb⟩
theorem zKm (V:World)(a b c d:Value)(t:TypeId):zD (V.alloc (.cells #[a,b,c,d] t)) V.heap.size 4:=fun o ho=>by
 have:o=0∨o=1∨o=2∨o=3:=by omega
 rcases this with rfl | rfl | rfl | rfl <;> exact ⟨⟨_,by simp [go_sem];rfl⟩,by simp [go_sem]⟩
theorem zCk (V:World)(a b c:Value)(t:TypeId):zD (V.alloc (.cells #[a,b,c] t)) V.heap.size 3:=fun o ho=>by
 have:o=0∨o=1∨o=2:=by omega
 rcases this with rfl | rfl | rfl <;> exact ⟨⟨_,by simp [go_sem];rfl⟩,by simp [go_sem]⟩
theorem zFk (z x y:Int)(w:World):Calls Tryz.prog 174 #[.int .i64 z,.int .i64 x,.int .i64 y] w fun e w'=>e=.returned (atV z x y)∧Bw w w':=by
 go_enter Tryz.func174,Tryz.ntmps174
 go_wp2_with fail
 generalize hW:(w.alloc _:World)=W
 have HB0:Hid (Bw w W):=by show Below _ _ _;subst hW;exact Qb
 have HT:Hid (zD W w.heap.size 4):=by
  show zD _ _ _
  subst hW
  exact zKm w (.int .i64 0) (.int .i64 0) (.int .i64 0) (.int .i64 0) 230
 have hsz:w.heap.size<W.heap.size:=by subst hW;simp
 clear hW
 refine (vN _ _ _ _).mono ?_
 rintro e w1 ⟨rfl,hb1⟩
 have hT':=HT.out.below hb1
 have HT1:Hid (zD w1 w.heap.size 4):=hT'
 have t0:=hT'.cell 0 (by omega)
 have t1:=hT'.cell 1 (by omega)
 have t2:=hT'.cell 2 (by omega)
 have t3:=hT'.cell 3 (by omega)
 have f0:=(hT' 0 (by omega)).2
 have f1:=(hT' 1 (by omega)).2
 have f2:=(hT' 2 (by omega)).2
 have f3:=(hT' 3 (by omega)).2
 have HB1:Hid (Bw w w1):=zA HB0.out hb1
 have hsz1:w.heap.size<w1.heap.size:=Nat.lt_of_lt_of_le hsz hb1.size
 clear hb1 HT HB0 hT' hsz
 cases h:uW z x y
 ·have hq:Hid (atV z x y=rrV 3 0 0 0):=by show _=_;simp [atV,h]
  go_wp2_with fail
  obtain ⟨q0,q1,q2,q3⟩:=zAt (a:=.int .i64 3) (b:=.int .i64 0) (c:=.int .i64 0) (d:=.int .i64 0) HT1.out
  refine bodyPost_ret (v:=rrV 3 0 0 0) (by simp [results,Tryz.results174,go_sem,q0,q1,q2,q3]) rfl ⟨by rw [hq.out],?_⟩
  have HB:=HB1.out
  exact Qb
 ·have hq:Hid (atV z x y=rrV 0 z (x / 8) (y / 8)):=by show _=_;simp [atV,h]
  obtain ⟨⟨x0,x1⟩,y0,y1⟩:=zBj h
  have hp:=(xJ (vC h)).2
  clear h
  generalize zAp z=u at *
  have dx:x.tdiv 8=x / 8:=Int.tdiv_eq_ediv_of_nonneg x0
  have dy:y.tdiv 8=y / 8:=Int.tdiv_eq_ediv_of_nonneg y0
  go_wp2_with fail
  obtain ⟨q0,q1,q2,q3⟩:=zAt (a:=.int .i64 0) (b:=.int .i64 z) (c:=.int .i64 (x / 8)) (d:=.int .i64 (y / 8)) HT1.out
  refine bodyPost_ret (v:=rrV 0 z (x / 8) (y / 8)) (by simp [results,Tryz.results174,go_sem,q0,q1,q2,q3]) rfl ⟨by rw [hq.out],?_⟩
  have HB:=HB1.out
  exact Qb
theorem zH9 (z x y:Int)(w:World):Calls Tryz.prog 144 #[uL z x y] w fun e w'=>e=.returned (uL z x y)∧Bw w w':=by
 go_enter Tryz.func144,Tryz.ntmps144
 go_wp2
 exact bodyPost_ret (v:=uL z x y) (by simp [results,Tryz.results144,go_sem]) rfl ⟨rfl,Qb⟩
theorem zJk (z x y:Int)(w:World):Calls Tryz.prog 85 #[uL z x y,uL z x y] w fun e w'=>e=.returned (.bool true)∧Bw w w':=by
 go_enter Tryz.func85,Tryz.ntmps85
 go_wp2
 go_ret
 exact ⟨rfl,Qb⟩

def zB4 (G:Int→Int→Int)(x y:Int)(wide high:Nat):List Int:=(List.range high).flatMap fun (r:Nat)=>(List.range wide).map fun (c:Nat)=>G (x+(c:Int)) (y+(r:Int))
def uE (G:Int→Int→Int)(x y:Int)(wide r c:Nat):List Int:=zB4 G x y wide r ++ (List.range c).map fun (c:Nat)=>G (x+(c:Int)) (y+(r:Int))
theorem zIl (G:Int→Int→Int)(x y:Int)(wide:Nat):∀ high,(zB4 G x y wide high).length=high * wide
 | 0=>by simp [zB4]
 | h+1=>by
  have:=zIl G x y wide h
  unfold zB4 at this ⊢
  rw [List.range_succ,List.flatMap_append,List.length_append,this]
  simp
  rw [Nat.add_mul];omega
theorem zM9 (G:Int→Int→Int)(x y:Int)(wide r c:Nat):uE G x y wide r (c+1)=uE G x y wide r c ++ [G (x+(c:Int)) (y+(r:Int))]:=by
 simp [uE,List.range_succ]
theorem zNa (G:Int→Int→Int)(x y:Int)(wide r:Nat):uE G x y wide r wide=zB4 G x y wide (r+1):=by
 simp [uE,zB4,List.range_succ]
theorem zM8 (G:Int→Int→Int)(x y:Int)(wide r:Nat):uE G x y wide r 0=zB4 G x y wide r:=by simp [uE]
theorem zPb (G:Int→Int→Int)(x y:Int)(wide r c:Nat):(uE G x y wide r c).length=r * wide+c:=by
 simp [uE,zIl]
theorem zIm (f:Nat)(caps:Array Value)(x y:Int)(wide high:Nat)(G:Int→Int→Int)(w:World)(hwide:wide≤8)(hhigh:high≤8)(hx:0≤x∧x≤1000)(hy:0≤y∧y≤1000)(hce:∀ args w,(callFunc f args).run Tryz.prog w=.ok (.enter f args) w)(hF:∀ W c r,Bw w W→c<wide→r<high→Calls Tryz.prog f (#[.int .i64 (x+(c:Nat)),.int .i64 (y+(r:Nat))] ++ caps) W fun e W'=>e=.returned (.int .i64 (G (x+(c:Nat)) (y+(r:Nat))))∧Bw W W') :
  Calls Tryz.prog 145 #[.int .i64 x,.int .i64 y,.int .i64 (wide:Int),.int .i64 (high:Int),.func (.func f) #[] caps] w fun e w'=>∃ v,e=.returned v∧zAq w.heap.size w' v (zB4 G x y wide high)∧Bw w w':=by
 obtain ⟨i0,hi,hz0,hz1,hz2⟩:=info_parts zHm
 have HF:=(show Hid _ from hF)
 clear hF
 go_enter Tryz.func145,Tryz.ntmps145
 go_wp2_with fail
 go_loopw [11,15] (fun v j wr=>∃ r:Nat,r≤high∧j=.int .i64 ((r:Nat):Int)∧zAq w.heap.size wr v (zB4 G x y wide r)∧Bw w wr) (fun _ j _=>high - (intOf j).toNat)
 case atStart=>exact ⟨0,by omega,rfl,zAq.no _ _,Below.refl _ _⟩
 case round =>
  obtain ⟨r,hr,rfl,hO,hB⟩:=hrel
  have HO0:Hid (zAq w.heap.size wr u11 (zB4 G x y wide r)):=hO
  have HB0:Hid (Bw w wr):=hB
  clear hO hB
  by_cases hlt:r<high
  ·have hi':(r:Int)<(high:Int):=by omega
   go_wp2_with fail
   go_loopw [11,19] (fun v j wr=>∃ m:Nat,m≤wide∧j=.int .i64 (m:Int)∧zAq w.heap.size wr v (uE G x y wide r m)∧Bw w wr) (fun _ j _=>wide - (intOf j).toNat)
   case atStart=>exact ⟨0,by omega,rfl,by rw [zM8];exact HO0.out,HB0.out⟩
   case round =>
    obtain ⟨m,hm,rfl,hO,hB⟩:=hrel
    have HO:Hid (zAq w.heap.size wr u11 (uE G x y wide r m)):=hO
    have HB:Hid (Bw w wr):=hB
    have hszr:w.heap.size≤wr.heap.size:=hB.size
    clear hO hB HO0 HB0
    by_cases hlm:m<wide
    ·have hm':(m:Int)<(wide:Int):=by omega
     have HC:Hid (Calls Tryz.prog f (#[.int .i64 (x+(m:Nat)),.int .i64 (y+(r:Nat))] ++ caps) wr fun e W'=>e=.returned (.int .i64 (G (x+(m:Nat)) (y+(r:Nat))))∧Bw wr W'):=HF.out wr m r HB.out hlm hlt
     have HS:Hid (uE G x y wide r (m+1)=uE G x y wide r m ++ [G (x+(m:Int)) (y+(r:Int))]):=zM9 _ _ _ _ _ _
     have HL:Hid ((uE G x y wide r m).length≤64):=by
      show _≤_
      rw [zPb]
      have:r * wide≤7 * 8:=Nat.mul_le_mul (by omega) hwide
      omega
     go_wp2_with fail
     refine Calls.mono HC.out ?_
     rintro e w2 ⟨rfl,hb2⟩
     have HO2:Hid (zAq w.heap.size w2 u11 (uE G x y wide r m)):=HO.out.below hb2
     have HB2:Hid (Bw w w2):=zA HB.out hb2
     have hsz2:w.heap.size≤w2.heap.size:=Nat.le_trans hszr hb2.size
     clear HC hb2 HO HB
     generalize G (x+(m:Int)) (y+(r:Int))=g at *
     have hlen:=HL.out
     have hblk:∀ b,u11.ownBlock=some b→w.heap.size≤b:=fun b hb=>(World.ownsRow.lt HO2.out b hb).1
     have HR:Hid (∀ w' v',w'.ownsRow w.heap.size 2 1 v' ((uE G x y wide r m).length+1) ((uE G x y wide r m).map (.int .i64 ·) ++ [.int .i64 g])→zAq w.heap.size w' v' (uE G x y wide r (m+1))):=fun w' v' h=>by
      rw [HS.out]
      show World.ownsRow _ _ _ _ _ _ _
      rw [List.length_append,List.map_append]
      exact h
     clear HS HL
     go_wp2_with (first
      | (at_builtin;go_must (refine wpList_append_own _ rfl _ _ 46 rfl w.heap.size 2 i0 (.int .i64 0) 1 8 Tryz.underlying46 hi hz0 hz1 hz2 rfl (by decide) _ (uE G x y wide r m).length ((uE G x y wide r m).map (.int .i64 ·)) rfl (World.ownsRow.alloc HO2.out _) ⟨w2.heap.size,0,none⟩ 1 1 [.int .i64 g] rfl rfl ?c1 ?c2 ?c3 ?c4 ?c5 ?_)))
     case c1 =>
      intro q u hq
      match q,hq with
      | 0,hq=>simp at hq;subst hq;simp [Addr.add,go_sem]
      | q+1,hq=>simp at hq
     case c2=>intro u hu;simp at hu;subst hu;rfl
     case c3=>unfold maxLen;omega
     case c4=>omega
     case c5=>simp;omega
     intro v' w3 hown' hgrow hnil
     clear hnil
     generalize hV:(w2.alloc _:World)=V at hgrow
     have hBV:Bw w2 V:=by subst hV;exact Qb
     have hBg:Below w.heap.size V w3:=(Below.refl _ _).grown hgrow (by have:=hBV.size;omega) (fun k hk=>hblk k hk)
     have HB3:Hid (Bw w w3):=HB2.out.trans ((hBV.mono hsz2).trans hBg)
     have HO3:Hid (zAq w.heap.size w3 v' (uE G x y wide r (m+1))):=HR.out _ _ hown'
     clear hown' hgrow hBg hBV hV HO2 HB2 HR hblk
     go_wp2
     go_roundw
     case rel=>exact ⟨m+1,by omega,by go_num,HO3.out,HB3.out⟩
     case measure=>simp [intOf];omega
    ·have hmw:m=wide:=by omega
     subst hmw
     rw [zNa] at HO
     go_wp2_with fail
     go_roundw
     case rel=>exact ⟨r+1,by omega,by go_num,HO.out,HB.out⟩
     case measure=>simp [intOf];omega
  ·have hrh:r=high:=by omega
   subst hrh
   obtain ⟨av,cv,hvs,_,_⟩:=HO0.out.own
   have HV:Hid (∃ nv,u11=.slice av nv cv):=⟨_,hvs⟩
   go_wp2
   go_ret
   exact ⟨_,rfl,HO0.out,HB0.out⟩
structure Rfs where
 z:Nat→Int
 x:Nat→Int
 y:Nat→Int
def zQ7 (w:World)(b off n:Nat)(R:Rfs):Prop:=∀ i,i<n→w.cell? ⟨b,off+i * 3,none⟩=some (.int .i64 (R.z i))∧w.cell? ⟨b,off+i * 3+1,none⟩=some (.int .i64 (R.x i))∧w.cell? ⟨b,off+i * 3+2,none⟩=some (.int .i64 (R.y i))
theorem zQ7.below {w w':World}{b off n B:Nat}{R:Rfs}(h:zQ7 w b off n R)(hb:Below B w w')(hB:b<B):zQ7 w' b off n R:=fun i hi =>
 ⟨(hb.cell (p:=⟨b,off+i * 3,none⟩) hB).trans (h i hi).1,(hb.cell (p:=⟨b,off+i * 3+1,none⟩) hB).trans (h i hi).2.1,(hb.cell (p:=⟨b,off+i * 3+2,none⟩) hB).trans (h i hi).2.2⟩
def zOm (w:World)(a:Option Addr)(n:Nat)(R:Rfs):Prop:=n=0∨∃ b off,a=some ⟨b,off,none⟩∧b<w.heap.size∧zQ7 w b off n R
theorem zOm.below {w w':World}{a:Option Addr}{n:Nat}{R:Rfs}(h:zOm w a n R)(hb:Below w.heap.size w w'):zOm w' a n R:=by
 rcases h with h | ⟨b,off,e,hl,hz⟩
 ·exact .inl h
 ·exact .inr ⟨b,off,e,Nat.lt_of_lt_of_le hl hb.size,hz.below hb hl⟩
theorem uS {w w':World}{b:Nat}(h:w.grownBy w' (some b))(o:Nat)(v:Value):w.grownBy (w'.setCell ⟨b,o,none⟩ v) (some b):=by
 have hb:Below b w' (w'.setCell ⟨b,o,none⟩ v):=(Below.refl b w').setCell (Nat.le_refl _) v
 exact ⟨hb.os.trans h.os,hb.tape.trans h.tape,hb.output.trans h.output,Nat.le_trans h.size hb.size,fun k hk hne=>(Below.heap_setCell w' ⟨b,o,none⟩ v k (fun e=>hne (by simp at e;rw [e]))).trans (h.block k hk hne)⟩
theorem zLg (w:World)(row:Option Nat):w.grownBy w row:=⟨rfl,rfl,rfl,Nat.le_refl _,fun _ _ _=>rfl⟩
def zQ8 (w:World)(base:Nat)(v:Value)(n:Nat)(R:Rfs):Prop :=
 ∃ a cap,v=.slice a n cap∧n≤cap∧(n=0∨∃ b,a=some ⟨b,0,none⟩∧base≤b∧b<w.heap.size∧zQ7 w b 0 n R∧zD w b (n * 3))
theorem zQ8.pts {w:World}{base:Nat}{v:Value}{n:Nat}{R:Rfs}(h:zQ8 w base v n R):∃ a cap,v=.slice a n cap∧n≤cap∧zOm w a n R:=by
 obtain ⟨a,cap,hv,hc,h0 | ⟨b,ha,hb,hl,hp,ht⟩⟩:=h
 ·exact ⟨a,cap,hv,hc,.inl h0⟩
 ·exact ⟨a,cap,hv,hc,.inr ⟨b,0,ha,hl,hp⟩⟩
theorem zSz {w w':World}{p:Addr}{v:Value}(hb:Below w.heap.size w w')(h:w.cell? p=some v):w'.cell? p=some v:=(hb.cell (World.block_lt_of_cell? _ _ h)).trans h
structure Req where
 z:Int
 x:Int
 y:Int
 du:Int
 tr:Int
abbrev zTa (e:Req):Value:=.agg #[.int .i64 e.z,.int .i64 e.x,.int .i64 e.y,.int .i64 e.du,.int .i64 e.tr]
def zJ6 (w:World)(p o:Nat)(e:Req):Prop:=w.cell? ⟨p,o,none⟩=some (.int .i64 e.z)∧w.cell? ⟨p,o+1,none⟩=some (.int .i64 e.x)∧w.cell? ⟨p,o+2,none⟩=some (.int .i64 e.y)∧w.cell? ⟨p,o+3,none⟩=some (.int .i64 e.du)∧w.cell? ⟨p,o+4,none⟩=some (.int .i64 e.tr)
theorem zJ6.below {w w':World}{p o B:Nat}{e:Req}(h:zJ6 w p o e)(hb:Below B w w')(hp:p<B):zJ6 w' p o e:=by
 obtain ⟨h0,h1,h2,h3,h4⟩:=h
 exact ⟨(hb.cell (p:=⟨p,o,none⟩) hp).trans h0,(hb.cell (p:=⟨p,o+1,none⟩) hp).trans h1,(hb.cell (p:=⟨p,o+2,none⟩) hp).trans h2,(hb.cell (p:=⟨p,o+3,none⟩) hp).trans h3,(hb.cell (p:=⟨p,o+4,none⟩) hp).trans h4⟩
def zGl (w:World)(p off n:Nat)(E:Nat→Req):Prop:=∀ i,i<n→zJ6 w p (off+i * 5) (E i)
theorem zGl.below {w w':World}{p off n B:Nat}{E:Nat→Req}(h:zGl w p off n E)(hb:Below B w w')(hp:p<B):zGl w' p off n E:=fun i hi=>(h i hi).below hb hp
def zAn (w:World)(a:Option Addr)(n:Nat)(E:Nat→Req):Prop:=n=0∨∃ b off,a=some ⟨b,off,none⟩∧b<w.heap.size∧zGl w b off n E
theorem zAn.below {w w':World}{a:Option Addr}{n:Nat}{E:Nat→Req}(h:zAn w a n E)(hb:Below w.heap.size w w'):zAn w' a n E:=by
 rcases h with h | ⟨b,off,e,hl,hp⟩
 ·exact .inl h
 ·exact .inr ⟨b,off,e,Nat.lt_of_lt_of_le hl hb.size,hp.below hb hl⟩
theorem zD.outW {w:World}{O r n o:Nat}{x:Value}(h:zD w r n)(hne:O≠r):zD (w.setCell ⟨O,o,none⟩ x) r n:=fun i hi=>by
 obtain ⟨u,hu⟩:=(h i hi).1
 refine ⟨⟨u,?_⟩,?_⟩
 ·rw [zB (fun e=>hne (by injection e))];exact hu
 ·rw [World.frozen?_setCell];exact (h i hi).2
def zCp (W:World)(B o:Nat)(e:Req):World:=(((((W.setCell ⟨B,o,none⟩ (.int .i64 e.z)).setCell ⟨B,o+1,none⟩ (.int .i64 e.x)).setCell ⟨B,o+2,none⟩ (.int .i64 e.y)).setCell ⟨B,o+3,none⟩ (.int .i64 e.du)).setCell ⟨B,o+4,none⟩ (.int .i64 e.tr))
theorem vM {W:World}{B o:Nat}{e:Req}{p:Addr}(h:p.block≠B∨p.off<o∨o+4<p.off):(zCp W B o e).cell? p=W.cell? p:=by
 have ne:∀ k:Nat,k≤4→(⟨B,o+k,none⟩:Addr)≠p:=fun k hk e=>by subst e;simp at h;omega
 have ne0:(⟨B,o,none⟩:Addr)≠p:=ne 0 (by omega)
 unfold zCp
 rw [zB (ne 4 (by omega)),zB (ne 3 (by omega)),zB (ne 2 (by omega)),zB (ne 1 (by omega)),zB ne0]
theorem zK2 {W:World}{B o m:Nat}{e:Req}(h:zD W B m):zD (zCp W B o e) B m:=by
 unfold zCp
 exact (((((h.set _ _).set _ _).set _ _).set _ _).set _ _)
theorem zNn (W:World)(B o:Nat)(e:Req):(zCp W B o e).heap.size=W.heap.size:=by unfold zCp;simp
theorem zK3 {V W:World}{n B o:Nat}{e:Req}(h:Below n V W)(hB:n≤B):Below n V (zCp W B o e):=by
 unfold zCp
 exact (((((h.setCell hB _).setCell hB _).setCell hB _).setCell hB _).setCell hB _)
theorem zL5 {W:World}{B o m:Nat}{e:Req}(h:zD W B m)(ho:o+4<m):zJ6 (zCp W B o e) B o e:=by
 have ne:∀ i j:Nat,i≠j→(⟨B,i,none⟩:Addr)≠⟨B,j,none⟩:=fun i j hij h=>hij (by injection h)
 obtain ⟨u0,g0⟩:=(h (o) (by omega)).1
 obtain ⟨u1,g1⟩:=((h.set (o) (.int .i64 e.z)) (o+1) (by omega)).1
 obtain ⟨u2,g2⟩:=(((h.set (o) (.int .i64 e.z)).set (o+1) (.int .i64 e.x)) (o+2) (by omega)).1
 obtain ⟨u3,g3⟩:=((((h.set (o) (.int .i64 e.z)).set (o+1) (.int .i64 e.x)).set (o+2) (.int .i64 e.y)) (o+3) (by omega)).1
 obtain ⟨u4,g4⟩:=(((((h.set (o) (.int .i64 e.z)).set (o+1) (.int .i64 e.x)).set (o+2) (.int .i64 e.y)).set (o+3) (.int .i64 e.du)) (o+4) (by omega)).1
 unfold zCp
 refine ⟨?_,?_,?_,?_,?_⟩
 ·rw [zB (ne (o+4) (o) (by omega)),zB (ne (o+3) (o) (by omega)),zB (ne (o+2) (o) (by omega)),zB (ne (o+1) (o) (by omega))];exact zG g0
 ·rw [zB (ne (o+4) (o+1) (by omega)),zB (ne (o+3) (o+1) (by omega)),zB (ne (o+2) (o+1) (by omega))];exact zG g1
 ·rw [zB (ne (o+4) (o+2) (by omega)),zB (ne (o+3) (o+2) (by omega))];exact zG g2
 ·rw [zB (ne (o+4) (o+3) (by omega))];exact zG g3
 ·exact zG g4
theorem zGl.lay {W:World}{B n k:Nat}{E:Nat→Req}(h:zGl W B 0 k E)(hT:zD W B (n * 5))(hk:k<n):zGl (zCp W B (k * 5) (E k)) B 0 (k+1) E:=fun i hi=>by
 by_cases e:i=k
 ·subst e
  rw [Nat.zero_add]
  exact zL5 hT (by omega)
 ·have h':=h i (by omega)
  unfold zJ6 at h' ⊢
  rw [vM (.inr (.inl (by simp;omega))),vM (.inr (.inl (by simp;omega))),vM (.inr (.inl (by simp;omega))),vM (.inr (.inl (by simp;omega))),vM (.inr (.inl (by simp;omega)))]
  exact h'
abbrev zOo:Array Value:=#[.int .i64 0,.int .i64 0,.int .i64 0,.int .i64 0,.int .i64 0]
theorem info_iw:(Tryz.prog.info? 134).map (fun i=>(i.zero,i.size,i.bytes))=some (some (.agg zOo),5,40):=by kernel_rfl
theorem zPt (n:Nat)(h:n≤1048576)(w:World) :
  (Instr.makeSlice 29 (.int .i64 (n:Int)) (.int .i64 (n:Int))).run Tryz.prog w=.ok (.slice (some ⟨w.heap.size,0,none⟩) n n) (w.alloc (.cells (madeCells zOo (n * 5)) 134)):=by
 obtain ⟨i,hi,hz,hs,hb⟩:=info_parts info_iw
 have hr:=run_make (P:=Tryz.prog) w 29 134 i _ Tryz.underlying29 hi hz .i64 .i64 (n:Int) (n:Int) (by omega) (Int.le_refl _) (by rw [hb];omega) (by omega)
 simp only [Int.toNat_natCast,hs] at hr
 exact hr
theorem zKh (n:Nat)(w:World)(t:TypeId):zD (w.alloc (.cells (madeCells zOo n) t)) w.heap.size n:=fun o ho=>by
 have hz:=size_madeCells zOo n
 refine ⟨⟨(madeCells zOo n)[o]'(by rw [hz];exact ho),?_⟩,World.frozen?_alloc_at _ _ _ _ rfl⟩
 rw [World.cell?_alloc_at _ _ _ _ rfl]
 exact Array.getElem?_eq_getElem _
theorem zGo (e:Req)(w:World):Calls Tryz.prog 96 #[zTa e] w fun r w'=>r=.returned (zTa e)∧Bw w w':=by
 go_enter Tryz.func96,Tryz.ntmps96
 go_wp2_with fail
 generalize hW:(((w.alloc _).alloc _).alloc _:World)=W
 have hB0:Bw w W:=by subst hW;exact Qb
 have hT1:zD W (w.heap.size+1) 5:=fun o ho=>by
  subst hW
  have hc:o=0∨o=1∨o=2∨o=3∨o=4:=by omega
  rcases hc with rfl | rfl | rfl | rfl | rfl <;> exact ⟨⟨_,by simp [go_sem];rfl⟩,by simp [go_sem]⟩
 have hT2:zD W (w.heap.size+1+1) 5:=fun o ho=>by
  subst hW
  have hc:o=0∨o=1∨o=2∨o=3∨o=4:=by omega
  rcases hc with rfl | rfl | rfl | rfl | rfl <;> exact ⟨⟨_,by simp [go_sem];rfl⟩,by simp [go_sem]⟩
 have c3:W.cell? ⟨w.heap.size,3,none⟩=some (.int .i64 e.du):=by subst hW;simp [go_sem]
 have c4:W.cell? ⟨w.heap.size,4,none⟩=some (.int .i64 e.tr):=by subst hW;simp [go_sem]
 have hsz:w.heap.size+1+1<W.heap.size:=by subst hW;simp
 clear hW
 refine (zH9 _ _ _ _).mono ?_
 rintro r w1 ⟨rfl,hb1⟩
 have hT1':=hT1.below hb1
 have hT2':=hT2.below hb1
 have c3':w1.cell? ⟨w.heap.size,3,none⟩=some (.int .i64 e.du):=(hb1.cell (p:=⟨w.heap.size,3,none⟩) (by show w.heap.size<_;omega)).trans c3
 have c4':w1.cell? ⟨w.heap.size,4,none⟩=some (.int .i64 e.tr):=(hb1.cell (p:=⟨w.heap.size,4,none⟩) (by show w.heap.size<_;omega)).trans c4
 have HB1:Hid (Bw w w1):=zA hB0 hb1
 have s0:=hT1'.cell 0 (by omega)
 have s1:=hT1'.cell 1 (by omega)
 have s2:=hT1'.cell 2 (by omega)
 have s3:=hT1'.cell 3 (by omega)
 have s4:=hT1'.cell 4 (by omega)
 have y0:=(hT1' 0 (by omega)).2
 have y1:=(hT1' 1 (by omega)).2
 have y2:=(hT1' 2 (by omega)).2
 have y3:=(hT1' 3 (by omega)).2
 have y4:=(hT1' 4 (by omega)).2
 have t0:=hT2'.cell 0 (by omega)
 have t1:=hT2'.cell 1 (by omega)
 have t2:=hT2'.cell 2 (by omega)
 have t3:=hT2'.cell 3 (by omega)
 have t4:=hT2'.cell 4 (by omega)
 have z0:=(hT2' 0 (by omega)).2
 have z1:=(hT2' 1 (by omega)).2
 have z2:=(hT2' 2 (by omega)).2
 have z3:=(hT2' 3 (by omega)).2
 have z4:=(hT2' 4 (by omega)).2
 have HT1:Hid (zD w1 (w.heap.size+1) 5):=hT1'
 clear hT1 hT2 c3 c4 hb1 hB0 hT1' hT2'
 have hsz':=hsz
 clear hsz
 go_wp2_with fail
 have key:∀ (T:Array Value) (Wf:World),T[2]?.getD undef=.pointer (some ⟨w.heap.size+1,0,none⟩)→zJ6 Wf (w.heap.size+1) 0 e→(results Tryz.f96 T).run Tryz.prog Wf=.ok (zTa e) Wf:=fun T Wf hT ⟨h0,h1,h2,h3,h4⟩=>by
  simp only [Nat.zero_add] at h0 h1 h2 h3 h4
  simp [results,Tryz.results96,go_sem,hT,h0,h1,h2,h3,h4]
 have hL:∀ V:World,zD V (w.heap.size+1) 5→zJ6 (zCp V (w.heap.size+1) 0 e) (w.heap.size+1) 0 e:=fun V hV=>zL5 hV (by omega)
 refine bodyPost_ret (key _ _ rfl (hL _ ?_)) rfl ⟨rfl,?_⟩
 ·exact (((((HT1.out.outW (by omega)).outW (by omega)).outW (by omega)).outW (by omega)).outW (by omega))
 ·exact ((((((((((HB1.out.setCell (by simp;omega) _).setCell (by simp;omega) _).setCell (by simp;omega) _).setCell (by simp;omega) _).setCell (by simp;omega) _).setCell (by simp) _).setCell (by simp) _).setCell (by simp) _).setCell (by simp) _).setCell (by simp) _)
theorem zE6 (a:Option Addr)(n cap:Nat)(E:Nat→Req)(w:World)(hp:zAn w a n E)(hmax:n≤1048576) :
  Calls Tryz.prog 46 #[.slice a n cap] w fun e w'=>∃ b,e=.returned (.slice (some ⟨b,0,none⟩) n n)∧w.heap.size≤b∧b<w'.heap.size∧zGl w' b 0 n E∧zD w' b (n * 5)∧Bw w w':=by
 have hmk:=zPt n hmax
 have HP:Hid (zAn w a n E):=hp
 clear hp
 go_enter Tryz.func46,Tryz.ntmps46
 go_wp2
 generalize hW:(w.alloc _:World)=W
 have HB0:Hid (Bw w W):=by show Below _ _ _;subst hW;exact Qb
 have HT0:Hid (zD W w.heap.size (n * 5)):=by show zD _ _ _;subst hW;exact zKh _ _ _
 have HL0:Hid (w.heap.size<W.heap.size):=by show _<_;subst hW;simp
 clear hW hmk
 go_loopw [4] (fun i wr=>∃ (k:Nat),k≤n∧i=.int .i64 k∧Bw w wr∧zD wr w.heap.size (n * 5)∧zGl wr w.heap.size 0 k E∧w.heap.size<wr.heap.size) (fun i _=>n - (intOf i).toNat)
 case atStart=>exact ⟨0,by omega,rfl,HB0.out,HT0.out,fun i hi=>by omega,HL0.out⟩
 case round =>
  obtain ⟨k,hk,rfl,hB,hT,hO,hlw⟩:=hrel
  by_cases hlt:k<n
  ·rcases HP.out with h0 | ⟨b,off,rfl,hbl,hpt⟩
   ·omega
   ·obtain ⟨f0,f1,f2,f3,f4⟩:=(hpt.below hB hbl) k hlt
    have HB:Hid (Bw w wr):=hB
    have HT:Hid (zD wr w.heap.size (n * 5)):=hT
    have HO:Hid (zGl wr w.heap.size 0 k E):=hO
    clear hB hT hO hpt
    have hi:(k:Int)<(n:Int):=by omega
    have hi0:(0:Int)≤(k:Int):=by omega
    go_wp2_with fail
    refine (zGo (E k) _).mono ?_
    rintro e w' ⟨rfl,hb⟩
    have hT':=HT.out.below hb
    have t0:=hT'.cell (k * 5+0) (by omega)
    have t1:=hT'.cell (k * 5+1) (by omega)
    have t2:=hT'.cell (k * 5+2) (by omega)
    have t3:=hT'.cell (k * 5+3) (by omega)
    have t4:=hT'.cell (k * 5+4) (by omega)
    have y0:=(hT' (k * 5+0) (by omega)).2
    have y1:=(hT' (k * 5+1) (by omega)).2
    have y2:=(hT' (k * 5+2) (by omega)).2
    have y3:=(hT' (k * 5+3) (by omega)).2
    have y4:=(hT' (k * 5+4) (by omega)).2
    simp only [Nat.add_zero] at t0 y0
    have HT':Hid (zD w' w.heap.size (n * 5)):=hT'
    have HBn:Hid (Bw wr w'):=hb
    clear hT' hb f0 f1 f2 f3 f4
    go_wp2
    go_roundw
    case rel =>
     refine ⟨k+1,by omega,by go_num,?_,?_,?_,?_⟩
     ·exact zK3 (e:=E k) (B:=w.heap.size) (o:=k * 5) (HB.out.trans (HBn.out.mono HB.out.size)) (Nat.le_refl _)
     ·exact zK2 (e:=E k) (B:=w.heap.size) (o:=k * 5) HT'.out
     ·exact zGl.lay (HO.out.below HBn.out hlw) HT'.out hlt
     ·have:=HBn.out.size
      show _<(zCp w' w.heap.size (k * 5) (E k)).heap.size
      rw [zNn];omega
    case measure=>simp [intOf];omega
  ·go_wp2
   go_ret
   have hkn:k=n:=by omega
   subst hkn
   exact ⟨_,rfl,Nat.le_refl _,hlw,hO,hT,hB⟩
theorem zHs (e:Req)(w:World):Calls Tryz.prog 100 #[zTa e,zTa e] w fun r w'=>r=.returned (.bool true)∧Bw w w':=by
 go_enter Tryz.func100,Tryz.ntmps100
 go_wp2_with fail
 generalize hW:((w.alloc _).alloc _:World)=W
 have hB0:Bw w W:=by subst hW;exact Qb
 have c3:∀ W',Bw W W'→W'.cell? ⟨w.heap.size,3,none⟩=some (.int .i64 e.du):=fun W' h=>by rw [h.cell (by subst hW;simp;omega)];subst hW;simp [go_sem]
 have c4:∀ W',Bw W W'→W'.cell? ⟨w.heap.size,4,none⟩=some (.int .i64 e.tr):=fun W' h=>by rw [h.cell (by subst hW;simp;omega)];subst hW;simp [go_sem]
 have d3:∀ W',Bw W W'→W'.cell? ⟨w.heap.size+1,3,none⟩=some (.int .i64 e.du):=fun W' h=>by rw [h.cell (by subst hW;simp)];subst hW;simp [go_sem]
 have d4:∀ W',Bw W W'→W'.cell? ⟨w.heap.size+1,4,none⟩=some (.int .i64 e.tr):=fun W' h=>by rw [h.cell (by subst hW;simp)];subst hW;simp [go_sem]
 clear hW
 refine (zJk _ _ _ _).mono ?_
 rintro r w1 ⟨rfl,hb1⟩
 have k3:=c3 w1 hb1
 have k4:=c4 w1 hb1
 have l3:=d3 w1 hb1
 have l4:=d4 w1 hb1
 have HB1:Hid (Bw w w1):=zA hB0 hb1
 clear c3 c4 d3 d4 hb1 hB0
 go_wp2
 go_ret
 exact ⟨rfl,HB1.out⟩
theorem zFo (a a':Option Addr)(n cap cap':Nat)(E:Nat→Req)(w:World)(hp:zAn w a n E)(hq:zAn w a' n E)(hmax:n≤1048576) :
  Calls Tryz.prog 51 #[.slice a n cap,.slice a' n cap'] w fun e w'=>e=.returned (.bool true)∧Bw w w':=by
 have HP:Hid (zAn w a n E):=hp
 have HQ:Hid (zAn w a' n E):=hq
 clear hp hq
 go_enter Tryz.func51,Tryz.ntmps51
 go_wp2
 go_loopw [5] (fun i wr=>∃ k:Nat,k≤n∧i=.int .i64 k∧Bw w wr) (fun i _=>n - (intOf i).toNat)
 case atStart=>exact ⟨0,by omega,rfl,Below.refl _ _⟩
 case round =>
  obtain ⟨k,hk,rfl,hB⟩:=hrel
  by_cases hlt:k<n
  ·rcases HP.out with h0 | ⟨b,off,rfl,hb,hpt⟩
   ·omega
   rcases HQ.out with h0 | ⟨d,off',rfl,hd,hqt⟩
   ·omega
   have hpr:=hpt.below hB hb
   have hqr:=hqt.below hB hd
   have hbr:b<wr.heap.size:=Nat.lt_of_lt_of_le hb hB.size
   have hdr:d<wr.heap.size:=Nat.lt_of_lt_of_le hd hB.size
   have c0:∀ W',Bw wr W'→W'.cell? ⟨b,off+k * 5,none⟩=some (.int .i64 (E k).z):=fun W' h=>(hpr.below h hbr k hlt).1
   have c1:∀ W',Bw wr W'→W'.cell? ⟨b,off+k * 5+1,none⟩=some (.int .i64 (E k).x):=fun W' h=>(hpr.below h hbr k hlt).2.1
   have c2:∀ W',Bw wr W'→W'.cell? ⟨b,off+k * 5+2,none⟩=some (.int .i64 (E k).y):=fun W' h=>(hpr.below h hbr k hlt).2.2.1
   have c3:∀ W',Bw wr W'→W'.cell? ⟨b,off+k * 5+3,none⟩=some (.int .i64 (E k).du):=fun W' h=>(hpr.below h hbr k hlt).2.2.2.1
   have c4:∀ W',Bw wr W'→W'.cell? ⟨b,off+k * 5+4,none⟩=some (.int .i64 (E k).tr):=fun W' h=>(hpr.below h hbr k hlt).2.2.2.2
   have d0:∀ W',Bw wr W'→W'.cell? ⟨d,off'+k * 5,none⟩=some (.int .i64 (E k).z):=fun W' h=>(hqr.below h hdr k hlt).1
   have d1:∀ W',Bw wr W'→W'.cell? ⟨d,off'+k * 5+1,none⟩=some (.int .i64 (E k).x):=fun W' h=>(hqr.below h hdr k hlt).2.1
   have d2:∀ W',Bw wr W'→W'.cell? ⟨d,off'+k * 5+2,none⟩=some (.int .i64 (E k).y):=fun W' h=>(hqr.below h hdr k hlt).2.2.1
   have d3:∀ W',Bw wr W'→W'.cell? ⟨d,off'+k * 5+3,none⟩=some (.int .i64 (E k).du):=fun W' h=>(hqr.below h hdr k hlt).2.2.2.1
   have d4:∀ W',Bw wr W'→W'.cell? ⟨d,off'+k * 5+4,none⟩=some (.int .i64 (E k).tr):=fun W' h=>(hqr.below h hdr k hlt).2.2.2.2
   have HB:Hid (Bw w wr):=hB
   have HLT:Hid (k<n):=hlt
   clear hB hpt hqt hpr hqr
   have hi:(k:Int)<(n:Int):=by omega
   have hi0:(0:Int)≤(k:Int):=by omega
   go_wp2
   go_region_held3 (fun W'=>Bw wr W') ((repeat (first|exact Qr _ _|assumption|refine Qd ?_|refine Qa ?_ _|refine Qt ?_|refine Qs ?_ _|refine Qo ?_ ?_ _ _)))
    (first
     | (go_at_call 100;refine (zHs (E k) _).mono ?_;rintro e w' ⟨rfl,hb⟩)
     | fail)
   go_wp2
   go_roundw
   case rel=>exact ⟨k+1,by have:=HLT.out;omega,by go_num,zA HB.out (by assumption)⟩
   case measure=>have:=HLT.out;simp [intOf];omega
  ·go_wp2
   go_ret
   exact ⟨rfl,hB⟩
theorem zGv (a:Option Addr)(n cap left:Nat)(w:World)(hl:left≤1048576)(hn:left<n)(hm:n≤maxLen) :
  Calls Tryz.prog 42 #[.slice a n cap,.int .i64 (left:Int)] w fun e w'=>e=.returned (.int .i64 (-1))∧Bw w w':=by
 unfold maxLen at hm
 have hneg:(left:Int) - (n:Int)<0:=by omega
 go_enter Tryz.func42,Tryz.ntmps42
 go_wp2
 go_ret
 exact ⟨rfl,Qb⟩
theorem zGu (a:Option Addr)(n cap left:Nat)(w:World)(hl:left≤1048576)(hn:n≤left) :
  Calls Tryz.prog 42 #[.slice a n cap,.int .i64 (left:Int)] w fun e w'=>e=.returned (.int .i64 ((left:Int) - (n:Int)))∧Bw w w':=by
 have hneg:¬ (left:Int) - (n:Int)<0:=by omega
 go_enter Tryz.func42,Tryz.ntmps42
 go_wp2
 go_ret
 exact ⟨rfl,Qb⟩
theorem zP6:(Tryz.prog.info? 111).map (fun i=>(i.zero,i.size,i.bytes))=some (some (.agg #[.int .i64 0,.int .i64 0,.int .i64 0]),3,24):=by kernel_rfl
def xP (R:Rfs)(n:Nat):List Value:=(List.range n).flatMap fun i=>[.int .i64 (R.z i),.int .i64 (R.x i),.int .i64 (R.y i)]
theorem zBb (R:Rfs)(n:Nat):xP R (n+1)=xP R n ++ [.int .i64 (R.z n),.int .i64 (R.x n),.int .i64 (R.y n)]:=by simp [xP,List.range_succ]
theorem zBa (R:Rfs):∀ n,(xP R n).length=n * 3
 | 0=>rfl
 | n+1=>by rw [zBb,List.length_append,zBa R n];simp;omega
theorem zJy (R:Rfs):∀ (n i:Nat),i<n→(xP R n)[i * 3]?=some (.int .i64 (R.z i))∧(xP R n)[i * 3+1]?=some (.int .i64 (R.x i))∧(xP R n)[i * 3+2]?=some (.int .i64 (R.y i))
 | 0,i,h=>absurd h (by omega)
 | n+1,i,h=>by
  rw [zBb]
  by_cases e:i=n
  ·subst e
   have hl:=zBa R i
   rw [List.getElem?_append_right (by omega),List.getElem?_append_right (by omega),List.getElem?_append_right (by omega),hl]
   have e1:i * 3+1 - i * 3=1:=by omega
   have e2:i * 3+2 - i * 3=2:=by omega
   rw [Nat.sub_self,e1,e2]
   exact ⟨rfl,rfl,rfl⟩
  ·have hl:=zBa R n
   rw [List.getElem?_append_left (by omega),List.getElem?_append_left (by omega),List.getElem?_append_left (by omega)]
   exact zJy R n i (by omega)
def zDm (base:Nat)(w:World)(v:Value)(n:Nat)(R:Rfs):Prop:=w.ownsRow base 111 3 v n (xP R n)
theorem zDm.no (base:Nat)(w:World)(R:Rfs):zDm base w (.slice none 0 0) 0 R:=World.ownsRow_nil _ _ _ _
theorem zDm.own {base:Nat}{w:World}{v:Value}{n:Nat}{R:Rfs}(h:zDm base w v n R):zQ8 w base v n R:=by
 obtain ⟨h1,h2 | ⟨g,cp,cur,hv,hg,hh,hkc,hcm,hcs,htk⟩⟩:=h
 ·obtain ⟨rfl,h0⟩:=h2
  rw [h0]
  exact ⟨none,0,rfl,Nat.le_refl _,.inl rfl⟩
 ·have hgl:g<w.heap.size:=by
   rcases Nat.lt_or_ge g w.heap.size with h' | h'
   ·exact h'
   ·rw [Array.getElem?_eq_none h'] at hh;cases hh
  have hrow:w.ownsRow base 111 3 (.slice (some ⟨g,0,none⟩) n cp) n (xP R n):=⟨h1,.inr ⟨g,cp,cur,rfl,hg,hh,hkc,hcm,hcs,htk⟩⟩
  refine ⟨some ⟨g,0,none⟩,cp,hv,hkc,.inr ⟨g,rfl,hg,hgl,fun i hi=>?_,fun o ho=>⟨?_,hrow.frozenAt o⟩⟩⟩
  ·obtain ⟨e1,e2,e3⟩:=zJy R n i hi
   simp only [Nat.zero_add]
   exact ⟨(hrow.cellAt _ (by omega)).trans e1,(hrow.cellAt _ (by omega)).trans e2,(hrow.cellAt _ (by omega)).trans e3⟩
  ·rw [hrow.cellAt o ho]
   have hlt:o<(xP R n).length:=by rw [zBa];exact ho
   exact ⟨(xP R n)[o],List.getElem?_eq_getElem hlt⟩
theorem zGs (V:World)(a b:Value)(t:TypeId):zD (V.alloc (.cells #[a,b] t)) V.heap.size 2:=fun o ho=>by
 have:o=0∨o=1:=by omega
 rcases this with rfl | rfl <;> exact ⟨⟨_,by simp [go_sem];rfl⟩,by simp [go_sem]⟩
theorem zQ8.set {w:World}{base B r o:Nat}{v u:Value}{n:Nat}{R:Rfs}(h:zQ8 w base v n R)(hr:r<base)(hB:B≤base):zQ8 (w.setCell ⟨r,o,none⟩ u) B v n R:=by
 obtain ⟨a,cap,hv,hc,h0 | ⟨b,ha,hbb,hl,hp,ht⟩⟩:=h
 ·exact ⟨a,cap,hv,hc,.inl h0⟩
 ·have hne:∀ i:Nat,(⟨r,o,none⟩:Addr)≠⟨b,i,none⟩:=fun i e=>by injection e with e;omega
  refine ⟨a,cap,hv,hc,.inr ⟨b,ha,by omega,by simpa [World.setCell] using hl,fun i hi=>?_,fun o' ho'=>?_⟩⟩
  ·obtain ⟨h0,h1,h2⟩:=hp i hi
   exact ⟨by rw [zB (hne _)];exact h0,by rw [zB (hne _)];exact h1,by rw [zB (hne _)];exact h2⟩
  ·obtain ⟨⟨x,hx⟩,hf⟩:=ht o' ho'
   exact ⟨⟨x,by rw [zB (hne _)];exact hx⟩,by rw [World.frozen?_setCell];exact hf⟩

theorem zSk (args : Array Value) (w : World) : (callFunc 203 args).run Tryz.prog w = .ok (.enter 203 args) w := by
 have h1 : (Tryz.f203).name ≠ "runtime.NumGoroutine" := by
  have : ((Tryz.f203).name == "runtime.NumGoroutine") = false := by kernel_rfl
  simpa using this
 have hb : ∃ c, (Tryz.f203).body = some c := ⟨_, rfl⟩
 obtain ⟨c, hb⟩ := hb
 simp [callFunc, Tryz.func203, h1, hb]
theorem zLc (a : Option Addr) (n cap : Nat) (E : Nat → Plc) (f : Plc) (w : World) (hp : zDc w a n E) (hn : n ≤ 1048576) :
  Calls Tryz.prog 202 #[.slice a n cap, .func (.func 203) #[zL2 f] #[]] w fun e w' => e = .returned (.int .i64 (yK (fun i => ovB f (E i)) n)) ∧ Bw w w' := by
 have HP : Hid (zDc w a n E) := hp
 have hce := zSk
 clear hp
 go_enter Tryz.func202, Tryz.ntmps202
 go_wp2_with fail
 go_loopw [8] (fun i wr => ∃ k : Nat, k ≤ n ∧ i = .int .i64 (k : Int) ∧ (∀ j, j < k → ovB f (E j) = false) ∧ Bw w wr) (fun i _ => n - (intOf i).toNat)
 case atStart => exact ⟨0, by omega, rfl, fun j hj => absurd hj (Nat.not_lt_zero _), Below.refl _ _⟩
 case round =>
  obtain ⟨k, hk, rfl, hno, hB⟩ := hrel
  have HN : Hid (∀ j, j < k → ovB f (E j) = false) := hno
  have HB : Hid (Bw w wr) := hB
  by_cases hlt : k < n
  ·rcases HP.out with h0 | ⟨b, off, rfl, hb, hpt⟩
   ·omega
   obtain ⟨q0, q1, q2, q3, q4⟩ := (hpt.below hB hb) k hlt
   have hi : (k : Int) < (n : Int) := by omega
   have hi0 : (0 : Int) ≤ (k : Int) := by omega
   have sO : ∀ w, Calls Tryz.prog 203 #[zL2 f, zL2 (E k)] w fun r w' => r = .returned (.bool (ovB f (E k))) ∧ Bw w w' := fun w => zIt f (E k) w
   clear hno hB hpt
   cases hE : ovB f (E k)
   ·rw [hE] at sO
    have HN2 : Hid (∀ j, j < k + 1 → ovB f (E j) = false) := fun j hj => by
     by_cases e : j = k
     ·rw [e]; exact hE
     ·exact HN.out j (by omega)
    clear hE
    go_wp2_with fail
    refine (sO _).mono ?_
    rintro e w1 ⟨rfl, hb1⟩
    go_wp2_with fail
    exact ⟨⟨k + 1, by omega, by simp, HN2.out, zA HB.out hb1⟩, by simp [intOf]; omega⟩
   ·rw [hE] at sO
    have HY : Hid (yK (fun i => ovB f (E i)) n = (k : Int)) := yP hlt hE HN.out
    clear hE
    go_wp2_with fail
    refine (sO _).mono ?_
    rintro e w1 ⟨rfl, hb1⟩
    go_wp2
    go_ret
    exact ⟨zE HY.out.symm, zA HB.out hb1⟩
  ·obtain rfl : n = k := by omega
   have HY : Hid (yK (fun i => ovB f (E i)) n = -1) := vQ HN.out
   go_wp2
   go_ret
   exact ⟨zE HY.out.symm, HB.out⟩
theorem zHr (a : Option Addr) (n cap : Nat) (E : Nat → Plc) (f : Plc) (w : World) (hp : zDc w a n E) (hn : n ≤ 1048576) :
  Calls Tryz.prog 160 #[zL2 f, .slice a n cap] w fun e w' => e = .returned (.int .i64 (yK (fun i => ovB f (E i)) n)) ∧ Bw w w' := by
 have HI : Hid (∀ W, Bw w W → Calls Tryz.prog 202 #[.slice a n cap, .func (.func 203) #[zL2 f] #[]] W fun e w' => e = .returned (.int .i64 (yK (fun i => ovB f (E i)) n)) ∧ Bw W w') := fun W h => zLc a n cap E f W (hp.below h) hn
 clear hp
 have hmf : ∀ (fn : Fn) (first cap : Array Value) (w : World), (Instr.makeFunc fn first cap).run Tryz.prog w = .ok (.func fn first cap) w := fun _ _ _ _ => rfl
 generalize yK (fun i => ovB f (E i)) n = r at *
 go_enter Tryz.func160, Tryz.ntmps160
 go_wp2_with fail
 generalize hW : (w.alloc _ : World) = W
 have HB0 : Bw w W := by subst hW; exact Qb
 clear hW
 refine (HI.out _ HB0).mono ?_
 rintro e w1 ⟨rfl, hb1⟩
 go_wp2
 go_ret
 exact ⟨rfl, zA HB0 hb1⟩

end Go.Proofs.YtpaiholildedcaaGreat
