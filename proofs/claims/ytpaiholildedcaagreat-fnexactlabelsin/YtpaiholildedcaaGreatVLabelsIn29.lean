/- Texts. -/
import Derived.Test.YtpaiholildedcaaGreatVLabelsIn27
import Derived.Test.YtpaiholildedcaaGreatVLabelsIn22
set_option linter.unusedSimpArgs false
set_option linter.unusedVariables false
set_option maxRecDepth 100000
set_option maxHeartbeats 32000000
namespace Go.Proofs.YtpaiholildedcaaGreat
open Go.RowKit
theorem zN5 (a a':Option Addr)(n m cap cap':Nat)(I J:Nat→Int)(w:World)(hp:zCi w a n I)(hq:zCi w a' m J)(hn:n≤1048576) :
  Calls Tryz.prog 169 #[.slice a n cap,.slice a' m cap'] w fun e w'=>e=.returned (.bool (vW n m I J))∧Bw w w':=by
 have HP:Hid (zCi w a n I):=hp
 have HQ:Hid (zCi w a' m J):=hq
 clear hp hq
 by_cases hnm:n=m
 ·subst hnm
  go_enter Tryz.func169,Tryz.ntmps169
  go_wp2_with fail
  go_loopw [13] (fun i wr=>∃ k:Nat,k≤n∧i=.int .i64 (k:Int)∧(∀ j,j<k→I j=J j)∧Bw w wr) (fun i _=>n - (intOf i).toNat)
  case atStart=>exact ⟨0,by omega,rfl,fun j hj=>absurd hj (Nat.not_lt_zero _),Below.refl _ _⟩
  case round =>
   obtain ⟨k,hk,rfl,hno,hB⟩:=hrel
   have HN:Hid (∀ j,j<k→I j=J j):=hno
   have HB:Hid (Bw w wr):=hB
   by_cases hlt:k<n
   ·rcases HP.out with h0 | ⟨b,off,rfl,hb,hpt⟩
    ·omega
    rcases HQ.out with h0 | ⟨b',off',rfl,hb',hpt'⟩
    ·omega
    have q0:wr.cell? ⟨b,off+k,none⟩=some (.int .i64 (I k)):=(hB.cell (p:=⟨b,off+k,none⟩) hb).trans (hpt k hlt)
    have q1:wr.cell? ⟨b',off'+k,none⟩=some (.int .i64 (J k)):=(hB.cell (p:=⟨b',off'+k,none⟩) hb').trans (hpt' k hlt)
    have hi:(k:Int)<(n:Int):=by omega
    have hi0:(0:Int)≤(k:Int):=by omega
    clear hno hB hpt hpt'
    by_cases hE:I k=J k
    ·have HN2:Hid (∀ j,j<k+1→I j=J j):=fun j hj=>by
      by_cases e:j=k
      ·rw [e];exact hE
      ·exact HN.out j (by omega)
     rw [hE] at q0
     clear hE
     generalize J k=v at *
     go_wp2_with fail
     go_quiet (fail)
     go_wp2_with fail
     exact ⟨⟨k+1,by omega,by simp,HN2.out,below_drewN HB.out _⟩,by simp [intOf];omega⟩
    ·have HY:Hid (vW n n I J=false):=zL0 hlt hE
     generalize I k=u at *
     generalize J k=v at *
     have hcb:(u == v)=false:=by simpa using hE
     go_wp2_with fail
     go_quiet (fail)
     go_wp2
     go_ret
     exact ⟨zF HY.out.symm,below_drewN HB.out _⟩
   ·obtain rfl:n=k:=by omega
    have HY:Hid (vW n n I J=true):=zIj HN.out
    go_wp2
    go_ret
    exact ⟨zF HY.out.symm,HB.out⟩
 ·have HY:Hid (vW n m I J=false):=zIk hnm
  have hne:((n:Int) == (m:Int))=false:=by simp;omega
  have hne2:¬ ((n:Int)=(m:Int)):=by omega
  go_enter Tryz.func169,Tryz.ntmps169
  go_wp2
  go_ret
  exact ⟨zF HY.out.symm,Below.refl _ _⟩
theorem zQ5 {z:Int}(h0:-1000000≤z)(h1:z≤1000000):I64 z:=by
 show (decide (_≤_) && decide (_≤_))=true
 rw [Bool.and_eq_true,decide_eq_true_eq,decide_eq_true_eq]
 have e0:IntKind.i64.min=-9223372036854775808:=by decide
 have e1:IntKind.i64.max=9223372036854775807:=by decide
 rw [e0,e1]
 omega
theorem zDv {z x y:Int}(h:zAv z x y=true):I64 z∧I64 x∧I64 y:=by
 unfold zAv yH inB at h
 simp at h
 obtain ⟨⟨h1,h2⟩,⟨h3,h4⟩,h5,h6⟩:=h
 have hz:z=0∨z=1∨z=2∨z=3:=by omega
 have hl:uF z≤7:=by rcases hz with rfl | rfl | rfl | rfl <;> decide
 exact ⟨zQ5 (by omega) (by omega),zQ5 (by omega) (by omega),zQ5 (by omega) (by omega)⟩
theorem zS5 {k:Kp}(h:rtC k.z k.x k.y k.fn k.F=0):zAv k.z k.x k.y=true:=by
 rcases uM k.z k.x k.y with ⟨_,h2⟩ | ⟨h1,_⟩
 ·exact h2
 ·unfold rtC at h;simp [h1] at h
noncomputable def fK (D:DataW Value)(k:Kp):Int:=if tC k=0 then (if Maps.has D (zBd k.z k.x k.y)=true then 6 else 0) else tC k
theorem zFa (p mb n:Nat)(s t:Int)(D:DataW Value)(k:Kp)(fb:Nat)(w:World)(hp:ShA w p s t mb)(hm:w.ownsMap Tryz.prog 111 RV mb n D)(hf:k.fa=some ⟨fb,0,none⟩)(hfl:fb<w.heap.size)(hft:vY w fb 0 k.fn k.F)(hids:zCi w k.ia k.m k.I)(hs:vV k)(hcap:k.fn≤k.fc) :
  Calls Tryz.prog 123 #[.pointer (some ⟨p,0,none⟩),kpV k] w fun e w'=>e=.returned (.int .i64 (fK D k))∧Bw w w':=by
 have HP:Hid (ShA w p s t mb):=hp
 have HM:Hid (w.ownsMap Tryz.prog 111 RV mb n D):=hm
 have HI:Hid (zCi w k.ia k.m k.I):=hids
 have hkm:k.m≤1048576:=hs.2
 have HR:Hid (∀ W,Bw w W→Calls Tryz.prog 168 #[.agg #[.int .i64 k.z,.int .i64 k.x,.int .i64 k.y,.slice k.fa k.fn k.fc]] W fun e w'=>∃ v,e=.returned (.agg #[.int .i64 (rtC k.z k.x k.y k.fn k.F),v])∧OwnN w' W.heap.size v (rtL k.z k.x k.y k.fn k.F).length (nz (rtL k.z k.x k.y k.fn k.F))∧Bw W w'):=fun W h=>by
  rw [hf]
  exact zBr k.z k.x k.y fb k.fn k.fc k.F W (hft.below h hfl) (Nat.lt_of_lt_of_le hfl h.size) hs.1 hcap
 have HRef:Hid (rtC k.z k.x k.y k.fn k.F=0→zAv k.z k.x k.y=true):=zS5
 have HV:Hid (∀ B,vW k.m (rtL k.z k.x k.y k.fn k.F).length k.I (nz (rtL k.z k.x k.y k.fn k.F))=B→rtC k.z k.x k.y k.fn k.F=0→fK D k=if B=true then (if Maps.has D (zBd k.z k.x k.y)=true then 6 else 0) else 8):=fun B hB h0=>by
  cases B
  ·unfold fK;rw [zGt h0 hB];rfl
  ·unfold fK;rw [tC_ok h0 hB];rfl
 have HV0:Hid (rtC k.z k.x k.y k.fn k.F≠0→fK D k=rtC k.z k.x k.y k.fn k.F):=fun h=>by unfold fK;rw [zO0 h,if_neg h]
 clear hp hm hids hs hft hfl hf hcap
 generalize fK D k=FC at *
 generalize (rtL k.z k.x k.y k.fn k.F).length=RN at *
 generalize nz (rtL k.z k.x k.y k.fn k.F)=RZ at *
 generalize rtC k.z k.x k.y k.fn k.F=rc at *
 obtain ⟨kz,kx,ky,fa,fn,fc,KF,ia,m,ic,KI⟩:=k
 simp only at HI hkm HR HRef HV HV0
 go_enter Tryz.func123,Tryz.ntmps123
 go_wp2_with fail
 generalize hW:(w.alloc _:World)=W
 have HB0:Hid (Bw w W):=by show Below _ _ _;subst hW;exact Qb
 have HK:Hid (RK W w.heap.size kz kx ky∧W.cell? ⟨w.heap.size,4,none⟩=some (.slice ia m ic)):=by
  show _∧_;subst hW;refine ⟨⟨?_,?_,?_⟩,?_⟩ <;> simp [go_sem]
 have hkl:w.heap.size<W.heap.size:=World.block_lt_of_cell? _ _ HK.out.2
 clear hW
 refine Calls.mono (HR.out W HB0.out) ?_
 rintro e w1 ⟨v,rfl,hrow,hb1⟩
 obtain ⟨va,vc,rfl,hvc,hvn⟩:=hrow.pts
 have HN:Hid (zCi w1 va RN RZ):=hvn
 have HB1:Hid (Bw W w1):=hb1
 clear hrow hvn hb1 HR
 by_cases h0:rc=0
 ·subst h0
  have HF:Hid (∀ B,vW m RN KI RZ=B→FC=if B=true then (if Maps.has D (zBd kz kx ky)=true then 6 else 0) else 8):=fun B hB=>HV.out B hB rfl
  obtain ⟨iz,ix,iy⟩:=zDv (HRef.out rfl)
  have HIz:Hid (I64 kz∧I64 kx∧I64 ky):=⟨iz,ix,iy⟩
  clear HV HV0 HRef iz ix iy
  have hkl1:w.heap.size<w1.heap.size:=Nat.lt_of_lt_of_le hkl HB1.out.size
  have g4:∀ o,(w1.alloc o).cell? ⟨w.heap.size,4,none⟩=some (.slice ia m ic):=fun o=>by
   rw [World.cell?_alloc_old _ _ _ (Nat.ne_of_lt hkl1)]
   exact (HB1.out.cell (p:=⟨w.heap.size,4,none⟩) hkl).trans HK.out.2
  go_wp2_with fail
  generalize hW2:(w1.alloc _:World)=W2
  have HB2:Hid (Bw w1 W2):=by show Below _ _ _;subst hW2;exact Qb
  clear hW2 g4
  have HBW:Hid (Bw w W2):=zA HB0.out (zA HB1.out HB2.out)
  have HKW:Hid (RK W2 w.heap.size kz kx ky):=HK.out.1.below (zA HB1.out HB2.out)
  refine Calls.mono (zN5 ia va m RN ic vc KI RZ W2 (HI.out.below HBW.out) (HN.out.below HB2.out) hkm) ?_
  rintro e w3 ⟨rfl,hb3⟩
  have HB3:Hid (Bw w w3):=zA HBW.out hb3
  obtain ⟨r0,r1,r2⟩:=HKW.out.below hb3
  clear hb3
  obtain ⟨B,hB⟩:∃ B,vW m RN KI RZ=B:=⟨_,rfl⟩
  have hFC:=HF.out B hB
  rw [hB]
  cases B
  ·have HFC:Hid (FC=8):=hFC
   clear hFC
   go_wp2
   go_ret
   exact ⟨zE HFC.out.symm,HB3.out⟩
  ·have HH:Hid (Calls Tryz.prog 81 #[.pointer (some ⟨p,0,none⟩),uL kz kx ky] w3 fun e w'=>e=.returned (.bool (Maps.has D (zBd kz kx ky)))∧Bw w3 w') :=
    zC1 p mb n s t D kz kx ky w3 (HP.out.below HB3.out) (yW HM.out HB3.out) HIz.out.1 HIz.out.2.1 HIz.out.2.2
   generalize Maps.has D (zBd kz kx ky)=B at *
   cases B
   ·have HFC:Hid (FC=0):=hFC
    clear hFC
    go_wp2_with (go_at_call 81;refine HH.out.mono ?_;rintro e w' ⟨rfl,hb⟩)
    go_ret
    exact ⟨zE HFC.out.symm,zA HB3.out (by assumption)⟩
   ·have HFC:Hid (FC=6):=hFC
    clear hFC
    go_wp2_with (go_at_call 81;refine HH.out.mono ?_;rintro e w' ⟨rfl,hb⟩)
    go_ret
    exact ⟨zE HFC.out.symm,zA HB3.out (by assumption)⟩
 ·have HFC:Hid (FC=rc):=HV0.out h0
  have hcb:(rc == 0)=false:=by simpa using h0
  have HBW:Hid (Bw w w1):=zA HB0.out HB1.out
  clear HV HV0 HRef
  go_wp2
  go_ret
  exact ⟨zE HFC.out.symm,by have:=HBW.out;exact Qb⟩
theorem zRl (z x y wd ht px_ py_:Int)(w:World)(hx:IntKind.i64.wrap (x+wd)=x+wd)(hx':IntKind.i64.wrap (x+wd - 1)=x+wd - 1)(hy:IntKind.i64.wrap (y+ht)=y+ht)(hy':IntKind.i64.wrap (y+ht - 1)=y+ht - 1) :
  Calls Tryz.prog 155 #[zFq z x y wd ht,.agg #[.int .i64 px_,.int .i64 py_]] w fun e w'=>e=.returned (.bool (inB px_ x (x+wd - 1) && inB py_ y (y+ht - 1)))∧Bw w w':=by
 have hk:Hid ((inB px_ x (x+wd - 1) && inB py_ y (y+ht - 1))=(inB px_ x (x+wd - 1) && inB py_ y (y+ht - 1))):=rfl
 cases h1:inB px_ x (x+wd - 1) <;> cases h2:inB py_ y (y+ht - 1)
 all_goals
  go_enter Tryz.func155,Tryz.ntmps155
  go_wp2_with (go_at_call 62;refine (zM _ _ _ _).mono ?_;rintro e w' ⟨rfl,rfl⟩)
  go_ret
  exact ⟨by first | rfl | simp [h1,h2],Qb⟩
theorem _root_.Go.World.ownsRow.belowL {base s n:Nat}{t:TypeId}{w w':World}{v:Value}{xs:List Value}(h:w.ownsRow base t s v n xs)(hb:Below w.heap.size w w'):w'.ownsRow base t s v n xs:=by
 obtain ⟨h1,h2 | ⟨g,cp,cur,hv,hg,hh,h3⟩⟩:=h
 ·exact ⟨h1,.inl h2⟩
 ·exact ⟨h1,.inr ⟨g,cp,cur,hv,hg,(hb.block g (Array.getElem?_eq_some_iff.1 hh).1).trans hh,h3⟩⟩
theorem zAl.wide {base base':Nat}{w:World}{v:Value}{L:List Plc}(h:zAl base w v L)(hb:base'≤base):zAl base' w v L:=by
 obtain ⟨h1,h2 | ⟨g,cp,cur,hv,hg,hh,h3⟩⟩:=h
 ·exact ⟨h1,.inl h2⟩
 ·exact ⟨h1,.inr ⟨g,cp,cur,hv,Nat.le_trans hb hg,hh,h3⟩⟩
theorem zIh (x y wd ht:Int)(B:Nat→Plc)(l:List Nat):uN x y wd ht B l=uN x y wd ht B (l.filter (fun i=>vB x y wd ht (B i))):=by
 unfold uN
 generalize ([]:List Plc)=L
 induction l generalizing L with
 | nil=>rfl
 | cons i r ih =>
  rw [List.foldl_cons,List.filter_cons]
  by_cases h:vB x y wd ht (B i)=true
  ·rw [if_pos h,List.foldl_cons];exact ih _
  ·rw [if_neg h]
   have e:zB2 x y wd ht B L i=L:=by unfold zB2;rw [if_neg h]
   rw [e];exact ih _
def okI (x y wd ht:Int)(B:Nat→Plc)(n:Nat):List Nat:=(List.range n).filter (fun i=>vB x y wd ht (B i))
theorem zRv (x y wd ht:Int)(B:Nat→Plc)(n:Nat):okI x y wd ht B (n+1)=if vB x y wd ht (B n)=true then okI x y wd ht B n ++ [n] else okI x y wd ht B n:=by
 unfold okI
 rw [List.range_succ,List.filter_append]
 by_cases h:vB x y wd ht (B n)=true
 ·rw [if_pos h];simp [h]
 ·rw [if_neg h];simp [h]
theorem zPm (x y wd ht:Int)(B:Nat→Plc)(n:Nat):(okI x y wd ht B n).length≤n:=by
 have:=List.length_filter_le (fun i=>vB x y wd ht (B i)) (List.range n)
 simpa [okI] using this
theorem srtL_ok (n:Nat)(T:Nat→zS)(hap:zE2 (fun i=>(T i).id) n)(p:Nat→Bool)(l:List Nat)(hl:l.Perm (List.range ((List.range n).filter p).length))(hs:l.Pairwise (fun a b=>ltK (fun i=>(T (((List.range n).filter p).getD i 0)).pr) (fun i=>(T (((List.range n).filter p).getD i 0)).id) b a=false)) :
  l.map (fun i=>((List.range n).filter p).getD i 0)=(zY n T).filter p:=by
 generalize hF:(List.range n).filter p=F at *
 have e1:(List.range F.length).map (fun i=>F.getD i 0)=F:=by
  apply List.ext_getElem
  ·simp
  ·intro i h1 h2
   simp at h1
   simp [List.getD_eq_getElem?_getD,h1]
 have hp:(l.map (fun i=>F.getD i 0)).Perm ((zY n T).filter p):=by
  have h1:=hl.map (fun i=>F.getD i 0)
  rw [e1,← hF] at h1
  rw [← hF]
  exact h1.trans ((zAs (fun i=>(T i).pr) (fun i=>(T i).id) n).symm.filter p)
 have hlt:∀ a,a ∈ (zY n T).filter p→a<n:=fun a ha=>(uX _ _ n a).1 (List.mem_filter.1 ha).1
 refine List.Perm.eq_of_pairwise (le:=fun a b=>ltK (fun i=>(T i).pr) (fun i=>(T i).id) b a=false) (fun a b ha hb h1 h2=>?_) ?_ ?_ hp
 ·have ha':=hlt a (hp.mem_iff.1 ha)
  have hb':=hlt b hb
  rw [zL3] at h1 h2
  refine hap a b ha' hb' ?_
  show (T a).id=(T b).id
  omega
 ·rw [List.pairwise_map]
  exact hs.imp (fun h=>h)
 ·refine List.Pairwise.filter _ ((zDs (fun i=>(T i).pr) (fun i=>(T i).id) n hap).imp (fun {a b} hab=>?_))
  rw [zD5] at hab
  rw [zL3]
  omega
theorem zOe (H:Nat→zS)(f:Nat→Nat)(l:List Nat):zR H (l.map f)=zR (fun j=>H (f j)) l:=by
 induction l with
 | nil=>rfl
 | cons i r ih=>rw [List.map_cons,xV,xV,ih]
theorem zJ0 (T:Nat→zS)(l:List Nat):zR T l=zR (fun j=>T (l.getD j 0)) (List.range l.length):=by
 have e1:(List.range l.length).map (fun i=>l.getD i 0)=l:=by
  apply List.ext_getElem
  ·simp
  ·intro i h1 h2
   simp at h1
   simp [List.getD_eq_getElem?_getD,h1]
 have:=zOe T (fun i=>l.getD i 0) (List.range l.length)
 rw [e1] at this
 exact this
theorem yG.byRange {base:Nat}{w:World}{v:Value}{T:Nat→zS}{l:List Nat}(h:yG base w v T l):yG base w v (fun j=>T (l.getD j 0)) (List.range l.length):=by
 unfold yG at h ⊢
 rw [List.length_range,← zJ0]
 exact h
theorem zC2 (ga:Option Addr)(n cap:Nat)(T:Nat→zS)(z x y wd ht:Int)(w:World)(hg:n=0∨∃ b,ga=some ⟨b,0,none⟩∧b<w.heap.size∧vY w b 0 n T)(hn:n≤1000)(hap:zE2 (fun i=>(T i).id) n)(hz:yH z=true)(hw:zBy z x y wd ht=true)(hpt:∀ i,i<n→0<(T i).n∧inW ((T i).X 0) ((T i).Y 0)=true∧(T i).lab.size≤1048576) :
  Calls Tryz.prog 104 #[zFq z x y wd ht,.slice ga n cap] w fun e w'=>∃ v,e=.returned v∧zAl w.heap.size w' v (uN x y wd ht (lbB z T) (zY n T))∧Bw w w':=by
 obtain ⟨i0,hi,hz0,hz1,hz2⟩:=info_parts zEh
 obtain ⟨j0,hj,hy0,hy1,hy2⟩:=info_parts zP8
 have HG:Hid (n=0∨∃ b,ga=some ⟨b,0,none⟩∧b<w.heap.size∧vY w b 0 n T):=hg
 have HP:Hid (∀ i,i<n→0<(T i).n∧inW ((T i).X 0) ((T i).Y 0)=true∧(T i).lab.size≤1048576):=hpt
 have HAP:Hid (zE2 (fun i=>(T i).id) n):=hap
 obtain ⟨⟨⟨w1,w2⟩,w3,w4⟩,⟨x1,x2⟩,y1,y2⟩:=zAd hw
 have hpx:=xJ hz
 have HSe:Hid (∀ (a b:Int) (W:World),Calls Tryz.prog 155 #[zFq z x y wd ht,.agg #[.int .i64 a,.int .i64 b]] W fun e w'=>e=.returned (.bool (inB a x (x+wd - 1) && inB b y (y+ht - 1)))∧Bw W w'):=fun a b W =>
  zRl z x y wd ht a b W (IntWalk.i64_in _ (by omega)) (IntWalk.i64_in _ (by omega)) (IntWalk.i64_in _ (by omega)) (IntWalk.i64_in _ (by omega))
 have HZ:Hid (yH z=true):=hz
 clear hg hpt hap w1 w2 w3 w4 x1 x2 y1 y2 hpx hw hz
 go_enter Tryz.func104,Tryz.ntmps104
 go_wp2_with fail
 generalize hW:(w.alloc _:World)=W
 have HB0:Hid (Bw w W):=by show Below _ _ _;subst hW;exact Qb
 have HC:Hid (zAo W w.heap.size z x y wd ht):=by show zAo _ _ _ _ _ _ _;subst hW;refine ⟨?_,?_,?_,?_,?_⟩ <;> simp [go_sem]
 have hWl:w.heap.size<W.heap.size:=by subst hW;simp
 clear hW
 go_loopw [5,14] (fun v i wr=>∃ k:Nat,k≤n∧i=.int .i64 (k:Int)∧yG W.heap.size wr v T (okI x y wd ht (lbB z T) k)∧Bw W wr) (fun _ i _=>n - (intOf i).toNat)
 case atStart=>exact ⟨0,by omega,rfl,World.ownsRow_nil _ _ _ _,Below.refl _ _⟩
 case round =>
  obtain ⟨k,hk,rfl,hO,hB⟩:=hrel
  have HO:Hid (yG W.heap.size wr u5 T (okI x y wd ht (lbB z T) k)):=hO
  have HB:Hid (Bw W wr):=hB
  clear hO hB
  by_cases hlt:k<n
  ·have HLT:Hid (k<n):=hlt
   have hok1:=zPm x y wd ht (lbB z T) k
   have HSC:=(show Hid _ from zRv x y wd ht (lbB z T) k)
   have HBw:Hid (Bw w wr):=HB0.out.trans (HB.out.mono (by omega))
   have HCr:Hid (zAo wr w.heap.size z x y wd ht):=uD HC.out HB.out
   obtain ⟨hp0,hpin,hpl⟩:=HP.out k hlt
   obtain ⟨b,hga,hbl,hfs⟩:=HG.out.resolve_left (by omega)
   subst hga
   have hff:=(hfs k hlt).1
   rw [Nat.zero_add] at hff
   obtain ⟨b',off',ha',hbl',hptk⟩:=(hfs k hlt).2.resolve_left (by omega)
   have HA':=(show Hid _ from ha')
   rw [ha'] at hff
   obtain ⟨f0,f1,f2,f3,f4,f5,f6⟩:=hff.below HBw.out hbl
   have HAn:Hid (∀ W',Bw wr W'→Calls Tryz.prog 156 #[.agg #[.int .i64 (T k).id,.int .i64 (T k).la,.int .i64 (T k).ki,.int .i64 (T k).wi,.slice (some ⟨b',off',none⟩) (T k).n (T k).cap,.string (T k).lab,.int .i64 (T k).pr],.int .i64 z] W' fun e w'=>e=.returned (.agg #[.int .i64 (zCh z ((T k).X 0)),.int .i64 (zCh z ((T k).Y 0))])∧Below W'.heap.size W' w'):=fun W' h =>
    zAh (T k).id (T k).la (T k).ki (T k).wi z b' (T k).n (T k).cap (T k).X (T k).Y (T k).lab (T k).pr W' (hptk.below (zA HBw.out h) hbl') (Nat.lt_of_lt_of_le hbl' (zA HBw.out h).size) hp0 hpin HZ.out
   have HSk:=(show Hid _ from HSe.out (zCh z ((T k).X 0)) (zCh z ((T k).Y 0)))
   have HSP:Hid (vB x y wd ht (lbB z T k)=(!((2 * ((T k).lab.size:Int)) == 0) && (inB (zCh z ((T k).X 0)) x (x+wd - 1) && inB (zCh z ((T k).Y 0)) y (y+ht - 1)))):=rfl
   have HLE:Hid ((T k).lab=⟨#[]⟩∨(T k).lab≠⟨#[]⟩):=Classical.em _
   have hi':(k:Int)<(n:Int):=by omega
   have hi0:(0:Int)≤(k:Int):=by omega
   clear hff hptk hfs hp0 hpin hpl ha' hlt HSe
   generalize zCh z ((T k).X 0)=ax at *
   generalize zCh z ((T k).Y 0)=ay at *
   generalize wr=wU at *
   go_upto_region 5 with fail
   generalize hV:(wU.alloc _:World)=wV at *
   have HBV:Hid (Bw wU wV):=by show Below _ _ _;subst hV;exact Qb
   have v0:∀ W',Bw wV W'→W'.cell? ⟨wU.heap.size,0,none⟩=some (.int .i64 (T k).id):=fun W' h=>by rw [h.cell (by subst hV;simp <;> omega)];subst hV;simp [go_sem]
   have v1:∀ W',Bw wV W'→W'.cell? ⟨wU.heap.size,1,none⟩=some (.int .i64 (T k).la):=fun W' h=>by rw [h.cell (by subst hV;simp <;> omega)];subst hV;simp [go_sem]
   have v2:∀ W',Bw wV W'→W'.cell? ⟨wU.heap.size,2,none⟩=some (.int .i64 (T k).ki):=fun W' h=>by rw [h.cell (by subst hV;simp <;> omega)];subst hV;simp [go_sem]
   have v3:∀ W',Bw wV W'→W'.cell? ⟨wU.heap.size,3,none⟩=some (.int .i64 (T k).wi):=fun W' h=>by rw [h.cell (by subst hV;simp <;> omega)];subst hV;simp [go_sem]
   have v4:∀ W',Bw wV W'→W'.cell? ⟨wU.heap.size,4,none⟩=some (.slice (some ⟨b',off',none⟩) (T k).n (T k).cap):=fun W' h=>by rw [h.cell (by subst hV;simp <;> omega)];subst hV;simp [go_sem]
   have v5:∀ W',Bw wV W'→W'.cell? ⟨wU.heap.size,5,none⟩=some (.string (T k).lab):=fun W' h=>by rw [h.cell (by subst hV;simp <;> omega)];subst hV;simp [go_sem]
   have v6:∀ W',Bw wV W'→W'.cell? ⟨wU.heap.size,6,none⟩=some (.int .i64 (T k).pr):=fun W' h=>by rw [h.cell (by subst hV;simp <;> omega)];subst hV;simp [go_sem]
   clear hV f0 f1 f2 f3 f4 f5 f6
   have hUV:=HBV.out.size
   go_cut [14,28] from 14 to 33 (fun i t wx=>i=.int .i64 (k:Int)∧t=.bool (vB x y wd ht (lbB z T k))∧Bw wV wx)
   case first =>
    have c0:∀ W',Bw wV W'→W'.cell? ⟨w.heap.size,0,none⟩=some (.int .i64 z):=fun W' h=>zH (zA HBV.out h) HCr.out.1
    have c1:∀ W',Bw wV W'→W'.cell? ⟨w.heap.size,1,none⟩=some (.int .i64 x):=fun W' h=>zH (zA HBV.out h) HCr.out.2.1
    have c2:∀ W',Bw wV W'→W'.cell? ⟨w.heap.size,2,none⟩=some (.int .i64 y):=fun W' h=>zH (zA HBV.out h) HCr.out.2.2.1
    have c3:∀ W',Bw wV W'→W'.cell? ⟨w.heap.size,3,none⟩=some (.int .i64 wd):=fun W' h=>zH (zA HBV.out h) HCr.out.2.2.2.1
    have c4:∀ W',Bw wV W'→W'.cell? ⟨w.heap.size,4,none⟩=some (.int .i64 ht):=fun W' h=>zH (zA HBV.out h) HCr.out.2.2.2.2
    rcases HLE.out with he | he
    ·have hle:(T k).lab.toList.isEmpty=true:=by rw [he,ByteArray.toList_eq];rfl
     have HSN:Hid (vB x y wd ht (lbB z T k)=false):=by show _=_;rw [HSP.out,he];rfl
     clear HSP he
     refine wp_region_noPanic ?_
     refine wp_region_held_drew (S:=fun W'=>Bw wV W') (by kernel_rfl) (by have:=Below.refl wV.heap.size wV;exact Qb) (fun hHeld=>?_)
     have hX0e:Bw wV wV.drew:=hHeld
     refine zC (i:=0) (d:=some 18) rfl rfl ?_
     try simp only [Act.put,Qx,Qy,Qz]
     refine zC (i:=1) (d:=some 19) rfl rfl ?_
     try simp only [Act.put,Qx,Qy,Qz]
     refine zC (i:=2) (d:=some 20) rfl rfl ?_
     try simp only [Act.put,Qx,Qy,Qz]
     refine zC (i:=3) (d:=some 21) rfl rfl ?_
     try simp only [Act.put,Qx,Qy,Qz]
     refine zJ (i:=4) (d:=some 22) rfl rfl (by rfl) (by assumption) ?_
     try simp only [Act.put,Qx,Qy,Qz]
     refine zJ (i:=5) (d:=some 23) rfl rfl (by rfl) (by assumption) ?_
     try simp only [Act.put,Qx,Qy,Qz]
     refine zJ (i:=6) (d:=some 24) rfl rfl (by rfl) (by assumption) ?_
     try simp only [Act.put,Qx,Qy,Qz]
     refine zJ (i:=7) (d:=some 25) rfl rfl (by rfl) (by assumption) ?_
     try simp only [Act.put,Qx,Qy,Qz]
     refine zJ (i:=8) (d:=some 26) rfl rfl (by rfl) (by assumption) ?_
     try simp only [Act.put,Qx,Qy,Qz]
     refine zJ (i:=9) (d:=some 27) rfl rfl (by rfl) (by assumption) ?_
     try simp only [Act.put,Qx,Qy,Qz]
     refine zC (i:=10) (d:=some 28) rfl rfl ?_
     try simp only [Act.put,Qx,Qy,Qz]
     refine wpAnyH_done (by kernel_rfl) ?_ _
     refine NoPanic.normal ?_
     go_wp2_with fail
     go_meet
     case rel=>exact ⟨rfl,by rw [HSN.out],by assumption⟩
    ·have hle:(T k).lab.toList.isEmpty=false:=lab_ne he
     have hsz:((2 * ((T k).lab.size:Int)) == 0)=false:=by
      cases hb:((2 * ((T k).lab.size:Int)) == 0)
      ·rfl
      ·have h0:(T k).lab.size=0:=by simp at hb;omega
       exact absurd (ByteArray.ext (Array.eq_empty_of_size_eq_zero h0)) he
     have HSN:Hid (vB x y wd ht (lbB z T k)=(inB ax x (x+wd - 1) && inB ay y (y+ht - 1))):=by show _=_;rw [HSP.out,hsz];rfl
     have HAn:Hid (∀ W',Bw wV W'→_):=fun W' h=>HAn.out W' (zA HBV.out h)
     have HSe:=HSk
     clear HSP he hsz
     generalize (inB ax x (x+wd - 1) && inB ay y (y+ht - 1))=sb at *
     refine wp_region_noPanic ?_
     refine wp_region_held_drew (S:=fun W'=>Bw wV W') (by kernel_rfl) (by have:=Below.refl wV.heap.size wV;exact Qb) (fun hHeld=>?_)
     have hX0n:Bw wV wV.drew:=hHeld
     refine zC (i:=0) (d:=some 18) rfl rfl ?_
     try simp only [Act.put,Qx,Qy,Qz]
     refine zC (i:=1) (d:=some 19) rfl rfl ?_
     try simp only [Act.put,Qx,Qy,Qz]
     refine zC (i:=2) (d:=some 20) rfl rfl ?_
     try simp only [Act.put,Qx,Qy,Qz]
     refine zC (i:=3) (d:=some 21) rfl rfl ?_
     try simp only [Act.put,Qx,Qy,Qz]
     refine zC (i:=4) (d:=some 22) rfl rfl ?_
     try simp only [Act.put,Qx,Qy,Qz]
     refine zC (i:=5) (d:=some 23) rfl rfl ?_
     try simp only [Act.put,Qx,Qy,Qz]
     refine zC (i:=6) (d:=some 24) rfl rfl ?_
     try simp only [Act.put,Qx,Qy,Qz]
     refine zC (i:=7) (d:=some 25) rfl rfl ?_
     try simp only [Act.put,Qx,Qy,Qz]
     generalize wV.drew=wk0n at *
     refine zN 8 fun K hK=>?_
     rw [if_pos (by rfl)]
     go_simp
     refine Calls.mono (HAn.out _ hX0n) ?_
     rintro e wk1n ⟨rfl,hb1n⟩
     have hX1n:Bw wV wk1n:=zA hX0n hb1n
     go_wp2_with fail
     refine hK.out _ _ (by assumption) (fun hHeld=>?_)
     clear hK K
     try simp only [Act.put,Qx,Qy,Qz]
     refine zN 9 fun K hK=>?_
     rw [if_pos (by rfl)]
     go_simp
     refine Calls.mono (HSe.out _) ?_
     rintro e wk2n ⟨rfl,hb2n⟩
     have hX2n:Bw wV wk2n:=zA hX1n hb2n
     go_wp2_with fail
     refine hK.out _ _ (by assumption) (fun hHeld=>?_)
     clear hK K
     try simp only [Act.put,Qx,Qy,Qz]
     refine zC (i:=10) (d:=some 28) rfl rfl ?_
     try simp only [Act.put,Qx,Qy,Qz]
     refine wpAnyH_done (by kernel_rfl) ?_ _
     refine NoPanic.normal ?_
     go_wp2_with fail
     go_meet
     case rel=>exact ⟨rfl,by rw [HSN.out],by assumption⟩
   obtain ⟨rfl,rfl,hBx⟩:=hcut
   generalize wc=wx at *
   have hBUx:Bw wU wx:=zA HBV.out hBx
   have HOx:Hid (yG W.heap.size wx u5 T (okI x y wd ht (lbB z T) k)):=HO.out.below hBUx
   have HBx:Hid (Bw W wx):=zA HB.out hBUx
   have g0:=v0 _ hBx
   have g1:=v1 _ hBx
   have g2:=v2 _ hBx
   have g3:=v3 _ hBx
   have g4:=v4 _ hBx
   have g5:=v5 _ hBx
   have g6:=v6 _ hBx
   have hWx:=HBx.out.size
   clear hBx hBUx HO HB HBV v0 v1 v2 v3 v4 v5 v6 HAn HSk HSP HLE HCr HBw hUV
   cases hok:vB x y wd ht (lbB z T k)
   case false =>
    have HS1:Hid (okI x y wd ht (lbB z T) (k+1)=okI x y wd ht (lbB z T) k):=by show _=_;rw [HSC.out,hok];rfl
    clear hok g0 g1 g2 g3 g4 g5 g6
    go_wp2_with fail
    go_roundw
    case rel=>exact ⟨k+1,by have:=HLT.out;omega,by go_num,by rw [HS1.out];exact HOx.out,HBx.out⟩
    case measure=>have:=HLT.out;simp [intOf];omega
   case true =>
    have HS1:Hid (okI x y wd ht (lbB z T) (k+1)=okI x y wd ht (lbB z T) k ++ [k]):=by show _=_;rw [HSC.out,hok];rfl
    clear hok
    obtain ⟨m,hm⟩:∃ m,(okI x y wd ht (lbB z T) k).length=m:=⟨_,rfl⟩
    have hOx:=HOx.out
    unfold yG at hOx
    rw [hm] at hOx hok1
    obtain ⟨ua,uc,hu5⟩:∃ ua uc,u5=.slice ua m uc:=by
     obtain ⟨_,⟨h1,h2⟩ | ⟨g',cp,cur,hv,_⟩⟩:=id hOx
     ·exact ⟨none,0,by rw [h1,h2]⟩
     ·exact ⟨_,cp,hv⟩
    subst hu5
    have HOw:Hid (wx.ownsRow W.heap.size 209 7 (.slice ua m uc) m (zR T (okI x y wd ht (lbB z T) k))):=hOx
    clear hOx HOx
    go_wp2_with (first
     | (at_builtin;go_must (refine wpList_append_own _ rfl _ _ 137 rfl W.heap.size 209 i0 (.agg #[.int .i64 0,.int .i64 0,.int .i64 0,.int .i64 0,.slice none 0 0,.string ⟨#[]⟩,.int .i64 0]) 7 80 Tryz.underlying137 hi hz0 hz1 hz2 rfl (by decide) (.slice ua m uc) m (zR T (okI x y wd ht (lbB z T) k)) rfl ?c6 ⟨wx.heap.size,0,none⟩ 1 1 (yO { T k with a:=some ⟨b',off',none⟩ }) rfl ?c0 ?c1 ?c2 ?c3 ?c4 ?c5 ?_)))
    case c6=>exact World.ownsRow.belowL HOw.out (by exact Qb)
    case c0=>rfl
    case c1 =>
     intro q u hq
     have hq7:q<7:=(List.getElem?_eq_some_iff.1 hq).1
     have hc:q=0∨q=1∨q=2∨q=3∨q=4∨q=5∨q=6:=by omega
     rcases hc with rfl | rfl | rfl | rfl | rfl | rfl | rfl <;> (simp [yO] at hq;subst hq;simp [Addr.add,go_sem])
    case c2=>exact uU _
    case c3=>unfold maxLen;omega
    case c4=>omega
    case c5=>first | omega | (simp;omega)
    intro v' w4 hown' hgrow hnil
    have eT:({ T k with a:=some ⟨b',off',none⟩ }:zS)=T k:=by rw [← HA'.out]
    rw [eT] at hown'
    have HO4:Hid (yG W.heap.size w4 v' T (okI x y wd ht (lbB z T) (k+1))):=by
     show yG _ _ _ _ _
     unfold yG
     rw [HS1.out,xW,zBc,List.length_append,hm]
     exact hown'
    have HB4:Hid (Bw W w4):=(zA HBx.out (by exact Qb)).grown hgrow (by simp;omega) (fun q hq=>(World.ownsRow.lt (World.ownsRow.belowL HOw.out (by exact Qb)) q hq).1)
    clear hown' hgrow hnil g0 g1 g2 g3 g4 g5 g6 eT
    go_wp2_with fail
    go_roundw
    case rel=>exact ⟨k+1,by have:=HLT.out;omega,by go_num,HO4.out,HB4.out⟩
    case measure=>have:=HLT.out;simp [intOf];omega
  ·obtain rfl:k=n:=by omega
   have hF:=HO.out
   have hlk:=zPm x y wd ht (lbB z T) k
   have hF2:=hF.byRange
   have hsort:=zO5 (okI x y wd ht (lbB z T) k).length W.heap.size u5 _ wr hF2 (by omega)
   obtain ⟨F,hFe⟩:∃ F,okI x y wd ht (lbB z T) k=F:=⟨_,rfl⟩
   have HFe:=(show Hid _ from hFe)
   rw [hFe] at hsort hF hlk
   obtain ⟨ua,uc,hu5⟩:∃ ua uc,u5=.slice ua F.length uc:=by
    rcases hF.at with ⟨hv,hl⟩ | ⟨g',c',hv,_⟩
    ·exact ⟨none,0,by rw [hv,hl];rfl⟩
    ·exact ⟨_,c',hv⟩
   subst hu5
   have hwr:=HB.out.size
   have HSo:Hid (Calls Tryz.prog 157 #[.slice ua F.length uc,.func (.func 158) #[] #[]] wr fun e w'=>e=.returned (.tuple #[])∧Bw w w'∧zAo w' w.heap.size z x y wd ht∧∃ S:List Nat,S=(zY k T).filter (fun i=>vB x y wd ht (lbB z T i))∧S.length=F.length∧∀ i,i<F.length→S.getD i 0<k∧∃ g,ua=some ⟨g,0,none⟩∧g<w'.heap.size∧yJ w' g (i * 7) (T (S.getD i 0)).id (T (S.getD i 0)).la (T (S.getD i 0)).ki (T (S.getD i 0)).wi (.slice (T (S.getD i 0)).a (T (S.getD i 0)).n (T (S.getD i 0)).cap) (T (S.getD i 0)).lab (T (S.getD i 0)).pr):=by
    refine hsort.mono ?_
    rintro e w' ⟨he,hres⟩
    have hFf:F=(List.range k).filter (fun i=>vB x y wd ht (lbB z T i)):=HFe.out.symm
    rcases hres with ⟨h0,rfl⟩ | ⟨g,c,l,hv,hg,hgl,hp,hs,hgr,hT,hA⟩
    ·refine ⟨he,HB0.out.trans (HB.out.mono (by omega)),uD HC.out HB.out,_,rfl,?_,fun i hi=>by omega⟩
     have:=((zAs (fun i=>(T i).pr) (fun i=>(T i).id) k).filter (fun i=>vB x y wd ht (lbB z T i))).length_eq
     rw [hFf];exact this
    ·injection hv with e1 e2 e3
     subst e1
     have hS:=srtL_ok k T HAP.out (fun i=>vB x y wd ht (lbB z T i)) l (by rw [← hFf];exact hp) (by rw [← hFf];exact hs)
     rw [← hFf] at hS
     have hll:l.length=F.length:=by simpa using hp.length_eq
     have hSl:((zY k T).filter (fun i=>vB x y wd ht (lbB z T i))).length=F.length:=by rw [← hS,List.length_map,hll]
     have hgs:=hgr.size
     refine ⟨he,(HB0.out.trans (HB.out.mono (by omega))).grown hgr (by omega) (fun q hq=>by injection hq with hq;omega),?_,_,rfl,hSl,fun i hi=>?_⟩
     ·obtain ⟨a0,a1,a2,a3,a4⟩:=uD HC.out HB.out
      have hne:w.heap.size≠g:=by omega
      exact ⟨hgr.cell a0 (fun e=>by injection e with e;exact hne e),hgr.cell a1 (fun e=>by injection e with e;exact hne e),hgr.cell a2 (fun e=>by injection e with e;exact hne e),hgr.cell a3 (fun e=>by injection e with e;exact hne e),hgr.cell a4 (fun e=>by injection e with e;exact hne e)⟩
     ·have hge:((zY k T).filter (fun i=>vB x y wd ht (lbB z T i))).getD i 0=F.getD (l.getD i 0) 0:=by
       rw [← hS]
       simp [List.getD_eq_getElem?_getD,hll,hi]
      have hlt2:((zY k T).filter (fun i=>vB x y wd ht (lbB z T i))).getD i 0<k:=by
       have hi2:i<((zY k T).filter (fun i=>vB x y wd ht (lbB z T i))).length:=by rw [hSl];exact hi
       rw [List.getD_eq_getElem?_getD,List.getElem?_eq_getElem hi2]
       exact (uX _ _ k _).1 (List.mem_filter.1 (List.getElem_mem hi2)).1
      refine ⟨hlt2,g,rfl,by omega,?_⟩
      rw [hge]
      exact hA i hi
   clear hsort hF hF2 HO HFe hFe
   go_wp2_with fail
   refine Calls.mono HSo.out ?_
   rintro e w3 ⟨rfl,hB3,hC3,S,hS,hSl,hA3⟩
   have HB3:Hid (Bw w w3):=hB3
   have HC3:Hid (zAo w3 w.heap.size z x y wd ht):=hC3
   have HSe2:Hid (S=(zY k T).filter (fun i=>vB x y wd ht (lbB z T i))):=hS
   have HA3:=(show Hid _ from hA3)
   have hw3:=hB3.size
   clear hB3 hC3 hS hA3 HSo HC HB
   generalize F.length=m at *
   have HCw:Hid (∀ i,i<m→vB x y wd ht (lbB z T (S.getD i 0))=true):=fun i hi=>by
    have:=List.mem_filter.1 (show S.getD i 0 ∈ (zY k T).filter (fun i=>vB x y wd ht (lbB z T i)) from by
     rw [← HSe2.out,List.getD_eq_getElem?_getD,List.getElem?_eq_getElem (by omega)]
     exact List.getElem_mem _)
    exact this.2
   go_wp2_with fail
   go_loopw [8,38] (fun v i wr=>∃ j:Nat,j≤m∧i=.int .i64 (j:Int)∧(∃ a c',v=.slice a (uN x y wd ht (lbB z T) (S.take j)).length c')∧zAl w3.heap.size wr v (uN x y wd ht (lbB z T) (S.take j))∧Bw w3 wr) (fun _ i _=>m - (intOf i).toNat)
   case atStart=>exact ⟨0,by omega,rfl,⟨none,0,by simp [uN]⟩,by simpa [uN,zAl,uZ] using World.ownsRow_nil _ _ _ _,Below.refl _ _⟩
   case round =>
    obtain ⟨j,hj',rfl,⟨a,c',rfl⟩,hO,hB⟩:=hrel
    have HO:Hid (zAl w3.heap.size wr (.slice a (uN x y wd ht (lbB z T) (S.take j)).length c') (uN x y wd ht (lbB z T) (S.take j))):=hO
    have HB:Hid (Bw w3 wr):=hB
    have hml:=zB7 x y wd ht (lbB z T) S j
    clear hO hB
    by_cases hlt:j<m
    ·have HLT:Hid (j<m):=hlt
     have HSc:Hid (uN x y wd ht (lbB z T) (S.take (j+1))=zB2 x y wd ht (lbB z T) (uN x y wd ht (lbB z T) (S.take j)) (S.getD j 0)):=zDy x y wd ht (lbB z T) S j (by omega)
     obtain ⟨hIk,g,hg,hgl,hfa⟩:=HA3.out j hlt
     have hsn:=HCw.out j hlt
     obtain ⟨I,hI⟩:∃ I,S.getD j 0=I:=⟨_,rfl⟩
     rw [hI] at HSc hIk hfa hsn
     obtain ⟨L,hL⟩:∃ L,uN x y wd ht (lbB z T) (S.take j)=L:=⟨_,rfl⟩
     rw [hL] at HO HSc hml
     rw [hL]
     clear hL hI
     subst hg
     obtain ⟨hp0,hpin,hpl⟩:=HP.out I hIk
     obtain ⟨b1,hga,hbl,hfs⟩:=HG.out.resolve_left (by omega)
     obtain ⟨b',off',ha',hbl',hptk⟩:=(hfs I hIk).2.resolve_left (by omega)
     rw [ha'] at hfa
     have HBw:Hid (Bw w wr):=HB3.out.trans (HB.out.mono hw3)
     obtain ⟨f0,f1,f2,f3,f4,f5,f6⟩:=hfa.below HB.out hgl
     obtain ⟨c0,_⟩:=uD HC3.out HB.out
     have HLb:Hid (∀ W',Bw wr W'→Calls Tryz.prog 159 #[.agg #[.int .i64 (T I).id,.int .i64 (T I).la,.int .i64 (T I).ki,.int .i64 (T I).wi,.slice (some ⟨b',off',none⟩) (T I).n (T I).cap,.string (T I).lab,.int .i64 (T I).pr],.int .i64 z] W' fun e w'=>e=.returned (zL2 (lbB z T I))∧Below W'.heap.size W' w'):=fun W' h =>
      zD6 (T I).id (T I).la (T I).ki (T I).wi z b' (T I).n (T I).cap (T I).X (T I).Y (T I).lab (T I).pr W' (hptk.below (zA HBw.out h) hbl') (Nat.lt_of_lt_of_le hbl' (zA HBw.out h).size) hp0 hpin HZ.out hpl
     have HS1:Hid (uN x y wd ht (lbB z T) (S.take (j+1))=if L.all (fun e=>!ovB e (lbB z T I))=true then L ++ [lbB z T I] else L):=by show _=_;rw [HSc.out];unfold zB2;rw [hsn,if_pos rfl]
     have hi':(j:Int)<(m:Int):=by omega
     have hi0:(0:Int)≤(j:Int):=by omega
     obtain ⟨E,hE⟩:∃ E,lbB z T I=E:=⟨_,rfl⟩
     rw [hE] at HLb HS1
     clear hfa hptk hp0 hpin hpl ha' hlt hsn hfs hga HSc hE
     generalize wr=wU at *
     have c0':∀ o,(wU.alloc o).cell? ⟨w.heap.size,0,none⟩=some (.int .i64 z):=fun o=>zH (by exact Qb) c0
     go_wp2_with fail
     generalize hV:(wU.alloc _:World)=wV
     have HBV:Hid (Bw wU wV):=by show Below _ _ _;subst hV;exact Qb
     clear hV f0 f1 f2 f3 f4 f5 f6 c0 c0'
     refine Calls.mono (HLb.out _ HBV.out) ?_
     rintro e wL ⟨rfl,hbL⟩
     have HBL:Hid (Bw wU wL):=zA HBV.out hbL
     clear hbL HBV HLb
     go_wp2_with fail
     generalize hX:(wL.alloc _:World)=wX
     have HBX:Hid (Bw wU wX):=zA HBL.out (by subst hX;exact Qb)
     have HPX:Hid (zAf wX wL.heap.size 0 E):=by show zAf _ _ _ _;subst hX;refine ⟨?_,?_,?_,?_,?_⟩ <;> simp [go_sem]
     clear hX HBL
     have HOX:Hid (zAl w3.heap.size wX (.slice a L.length c') L):=HO.out.below HBX.out
     have HBX3:Hid (Bw w3 wX):=zA HB.out HBX.out
     have hfo:=zHr a L.length c' (fun i=>L.getD i zPl) E wX (by
      obtain ⟨a9,c9,hv9,hc9,hI9⟩:=HOX.out.own.pts
      injection hv9 with e1 e2 e3
      subst e1
      exact hI9) (by omega)
     have HFO:=(show Hid _ from hfo)
     have HFI:Hid ((L.all (fun e=>!ovB e E)=true∧yK (fun i=>ovB E (L.getD i zPl)) L.length<0)∨(L.all (fun e=>!ovB e E)=false∧¬ yK (fun i=>ovB E (L.getD i zPl)) L.length<0)):=by
      rcases uT (fun i=>ovB E (L.getD i zPl)) L.length with ⟨h1,h2⟩ | ⟨i,hi,hg,hf,_⟩
      ·refine .inl ⟨List.all_eq_true.2 (fun e he=>?_),by rw [h1];decide⟩
       obtain ⟨i,hi,rfl⟩:=List.getElem_of_mem he
       have:=h2 i hi
       simp only [List.getD_eq_getElem?_getD,List.getElem?_eq_getElem hi,Option.getD_some] at this
       rw [zTe,this];rfl
      ·refine .inr ⟨?_,by rw [hf];omega⟩
       cases hall:L.all (fun e=>!ovB e E)
       ·rfl
       ·have:=List.all_eq_true.1 hall _ (List.getElem_mem hi)
        simp only [List.getD_eq_getElem?_getD,List.getElem?_eq_getElem hi,Option.getD_some] at hg
        rw [zTe,hg] at this
        cases this
     obtain ⟨p0,p1,p2,p3,p4⟩:=HPX.out
     simp only [Nat.zero_add] at p1 p2 p3 p4
     have hw3x:=HBX3.out.size
     clear hfo HBX HO HB HBw
     generalize yK (fun i=>ovB E (L.getD i zPl)) L.length=fi at *
     go_wp2_with fail
     refine Calls.mono HFO.out ?_
     rintro e wY ⟨rfl,hbY⟩
     have q0:=zH hbY p0
     have q1:=zH hbY p1
     have q2:=zH hbY p2
     have q3:=zH hbY p3
     have q4:=zH hbY p4
     have HOY:Hid (zAl w3.heap.size wY (.slice a L.length c') L):=HOX.out.below hbY
     have HBY:Hid (Bw w3 wY):=zA HBX3.out hbY
     have hw3y:=HBY.out.size
     clear hbY p0 p1 p2 p3 p4 HPX HOX HBX3 HFO
     rcases HFI.out with ⟨hall,hfi⟩ | ⟨hall,hfi⟩
     ·have HS2:Hid (uN x y wd ht (lbB z T) (S.take (j+1))=L ++ [E]):=by show _=_;rw [HS1.out,hall];rfl
      clear hall HFI HS1
      go_wp2_with (first
       | (at_builtin;go_must (refine wpList_append_own _ rfl _ _ 56 rfl w3.heap.size 158 j0 (.agg zeroP) 5 40 Tryz.underlying56 hj hy0 hy1 hy2 rfl (by decide) (.slice a L.length c') L.length (uZ L) rfl ?c6 ⟨wY.heap.size,0,none⟩ 1 1 (zAx E) rfl ?c0 ?c1 ?c2 ?c3 ?c4 ?c5 ?_)))
      case c6=>exact HOY.out.below (by exact Qb)
      case c0=>rfl
      case c1 =>
       intro q u hq
       have hq5:q<5:=(List.getElem?_eq_some_iff.1 hq).1
       have hc:q=0∨q=1∨q=2∨q=3∨q=4:=by omega
       rcases hc with rfl | rfl | rfl | rfl | rfl <;> (simp [zAx] at hq;subst hq;simp [Addr.add,go_sem])
      case c2=>exact zIp _
      case c3=>unfold maxLen;omega
      case c4=>omega
      case c5=>first | omega | (simp;omega)
      intro v' w4 hown' hgrow hnil
      obtain ⟨g4,c4,hv4⟩:∃ g4 c4,v'=.slice g4 (L.length+1) c4:=by
       obtain ⟨_,⟨h1,h2⟩ | ⟨g',cp,cur,hv,_⟩⟩:=id hown'
       ·omega
       ·exact ⟨_,cp,hv⟩
      subst hv4
      have hbA:Bw wY (wY.alloc (.cells (zAx E).toArray 158)):=by exact Qb
      have HO4:Hid (zAl w3.heap.size w4 (.slice g4 (L.length+1) c4) (L ++ [E])):=by
       show World.ownsRow _ _ _ _ _ _ _
       rw [zIo,List.length_append]
       have e1:uZ [E]=zAx E:=by simp [uZ]
       rw [e1]
       exact hown'
      have HB4:Hid (Bw w3 w4):=(zA HBY.out hbA).grown hgrow (by simp;omega) (fun q hq=>(World.ownsRow.lt (HOY.out.below hbA) q hq).1)
      clear hown' hgrow hnil hbA q0 q1 q2 q3 q4
      go_wp2_with fail
      go_roundw
      case rel=>exact ⟨j+1,by have:=HLT.out;omega,by go_num,⟨g4,c4,by rw [HS2.out,List.length_append];rfl⟩,by rw [HS2.out];exact HO4.out,HB4.out⟩
      case measure=>have:=HLT.out;simp [intOf];omega
     ·have HS2:Hid (uN x y wd ht (lbB z T) (S.take (j+1))=L):=by show _=_;rw [HS1.out,hall];rfl
      clear hall HFI HS1
      go_wp2_with fail
      go_roundw
      case rel=>exact ⟨j+1,by have:=HLT.out;omega,by go_num,⟨a,c',by rw [HS2.out]⟩,by rw [HS2.out];exact HOY.out,HBY.out⟩
      case measure=>have:=HLT.out;simp [intOf];omega
    ·obtain rfl:j=m:=by omega
     have hT:S.take j=S:=List.take_of_length_le (by omega)
     rw [hT] at HO ⊢
     clear hT
     have HFin:Hid (uN x y wd ht (lbB z T) S=uN x y wd ht (lbB z T) (zY k T)):=by show _=_;rw [HSe2.out,← zIh]
     rw [HFin.out] at HO ⊢
     go_wp2_with fail
     go_ret
     exact ⟨_,rfl,HO.out.wide hw3,HB3.out.trans (HB.out.mono hw3)⟩
theorem rt_same {z x y:Int}{n:Nat}{G F:Nat→zS}(h:∀ i,i<n→(G i).same (F i)):rtC z x y n G=rtC z x y n F∧rtL z x y n G=rtL z x y n F:=by
 have e1:zV n G=zV n F:=zLj h
 have e2:zFc n G=zFc n F:=by
  unfold zFc
  rw [decide_eq_decide]
  refine forall_congr' fun i=>forall_congr' fun hi=>?_
  have a:=h i (by omega)
  have b:=h (i+1) (by omega)
  have e:ltF (G i) (G (i+1))=ltF (F i) (F (i+1)):=by unfold ltF;rw [a.1,a.2.1,b.1,b.2.1]
  rw [e]
 have e3:rtC z x y n G=rtC z x y n F:=by unfold rtC;rw [e1,e2]
 have e4:yE G n z=yE F n z:=by
  funext X Y
  unfold yE
  have:∀ k,k≤n→xK (fun i=>zOa z (zZ z X) (zZ z Y) (G i)) (fun i=>(G i).id) k=xK (fun i=>zOa z (zZ z X) (zZ z Y) (F i)) (fun i=>(F i).id) k:=fun k hk=>by
   induction k with
   | zero=>rfl
   | succ k ih =>
    obtain ⟨i1,i2,i3,i4,i5,i6,i7,i8,i9⟩:=h k (by omega)
    have ec:zOa z (zZ z X) (zZ z Y) (G k)=zOa z (zZ z X) (zZ z Y) (F k):=by unfold zOa;rw [i3,i4,i5,i6,i7]
    rw [xK,xK,ih (by omega),ec,i1]
  exact this n (Nat.le_refl _)
 exact ⟨e3,by unfold rtL;rw [e3,e4]⟩
end Go.Proofs.YtpaiholildedcaaGreat
