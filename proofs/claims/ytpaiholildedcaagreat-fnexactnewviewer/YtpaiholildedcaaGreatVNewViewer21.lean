/- Texts. -/
import Derived.Test.YtpaiholildedcaaGreatVNewViewer16
set_option linter.unusedSimpArgs false
set_option linter.unusedVariables false
set_option maxRecDepth 100000
set_option maxHeartbeats 32000000
namespace Go.Proofs.YtpaiholildedcaaGreat
open Go.RowKit
def zS (G:Nat→Bool)(E:Nat→Req):Nat→List Req
 | 0=>[]
 | k+1=>if G k=true then zS G E k ++ [E k] else zS G E k
theorem zAz (G:Nat→Bool)(E:Nat→Req):∀ k,(zS G E k).length≤k
 | 0=>by simp [zS]
 | k+1=>by
  have:=zAz G E k
  unfold zS
  split
  ·simp;omega
  ·omega
theorem zF2 {G:Nat→Bool}{E:Nat→Req}{k:Nat}(h:G k=true):zS G E (k+1)=zS G E k ++ [E k]:=by rw [zS,if_pos h]
theorem zH3 {G:Nat→Bool}{E:Nat→Req}{k:Nat}(h:G k=false):zS G E (k+1)=zS G E k:=by rw [zS,if_neg (by simp [h])]
theorem vG.same {w:World}{b off n:Nat}{E E':Nat→Req}(h:vG w b off n E)(he:∀ i,i<n→E i=E' i):vG w b off n E':=fun i hi=>by rw [← he i hi];exact h i hi
theorem vG.grow {W:World}{B n:Nat}{l:List Req}{e:Req}(h:vG W B 0 l.length (nw l))(hT:zC W B (n * 5))(hk:l.length<n):vG (uX W B (l.length * 5) e) B 0 (l ++ [e]).length (nw (l ++ [e])):=by
 have h1:vG W B 0 l.length (nw (l ++ [e])):=h.same (fun i hi=>(nw_app l [e] i hi).symm)
 have h2:=h1.lay hT hk
 rw [nw_last] at h2
 rw [List.length_append]
 exact h2
theorem Below.setCells {n B:Nat}{V:World}(hB:n≤B):∀ (vs:List Value) (o:Nat) {W:World},Below n V W→Below n V (W.setCells B o vs)
 | [],_,_,h=>h
 | v :: r,o,_,h=>Below.setCells hB r (o+1) (h.setCell hB v)
theorem zAn (b:Nat):∀ (vs:List Value) (o:Nat) (w:World) (x:Addr),(w.cell? x).isSome=true→((w.setCells b o vs).cell? x).isSome=true
 | [],_,_,_,h=>h
 | v :: r,o,w,x,h=>by
  rw [World.setCells]
  refine zAn b r (o+1) _ x ?_
  by_cases e:(⟨b,o,none⟩:Addr)=x
  ·subst e
   obtain ⟨u,hu⟩:=Option.isSome_iff_exists.1 h
   rw [World.cell?_setCell_same _ _ _ hu];rfl
  ·rw [World.cell?_setCell_other _ _ _ _ e];exact h
theorem zeros5 (n:Nat):(Builtin.zeroCells #[.int .i64 0,.int .i64 0,.int .i64 0,.int .i64 0,.int .i64 0] n).toList=List.replicate (n * 5) (Value.int .i64 0):=by
 simp [Builtin.zeroCells]
 apply List.ext_getElem
 ·simp
 ·intro i h1 h2
  have hr:i % 5=0∨i % 5=1∨i % 5=2∨i % 5=3∨i % 5=4:=by omega
  rcases hr with h | h | h | h | h <;> simp [h]
theorem zIj (w:World)(ty:TypeId)(b o n c:Nat)(hn:0<n)(hc:∀ j,j<n * 5→(w.cell? ⟨b,o+j,none⟩).isSome=true)(hf:∀ j,j<n * 5→w.frozen? ⟨b,o+j,none⟩=false) :
  (Builtin.clear_ #[29] ty #[.slice (some ⟨b,o,none⟩) n c]).run Tryz.prog w=.ok (.tuple #[]) (w.setCells b o (List.replicate (n * 5) (.int .i64 0))):=by
 have hst:=run_storeCells_cells (P:=Tryz.prog) b o (List.replicate (n * 5) (.int .i64 0)) 0 w (by simpa using hc) (by simpa using hf) (by intro v hv';rw [List.eq_of_mem_replicate hv'];rfl)
 simp only [Nat.add_zero] at hst
 have hv:∀ w,(zeroValue 134).run Tryz.prog w=.ok (.agg #[.int .i64 0,.int .i64 0,.int .i64 0,.int .i64 0,.int .i64 0]) w:=fun _=>by kernel_rfl
 obtain ⟨m,rfl⟩:∃ m,n=m+1:=⟨n - 1,by omega⟩
 have hz:=zeros5 (m+1)
 simp [Builtin.clear_,run_underlying Tryz.underlying29,hv,Value.cells,hz,hst]
theorem zCg (w:World)(ty:TypeId)(b:Option Addr)(c:Nat):(Builtin.clear_ #[29] ty #[.slice b 0 c]).run Tryz.prog w=.ok (.tuple #[]) w:=by
 cases b <;> simp [Builtin.clear_,run_underlying Tryz.underlying29]
def ArmV (v:Value):Prop:=v=.slice none 0 0∨∃ ad n c,v=.slice (some ad) n c
theorem zDe (b off n cap f:Nat)(cp:Array Value)(G:Nat→Bool)(E:Nat→Req)(w:World)(hn0:0<n)(hp:vG w b off n E)(hbl:b<w.heap.size)(hn:n≤1048576)(hce:∀ args w,(callFunc f args).run Tryz.prog w=.ok (.enter f args) w)(hG:∀ i W,i<n→Bw w W→Calls Tryz.prog f (#[zFe (E i)] ++ cp) W fun e w'=>e=.returned (.bool (G i))∧Bw W w') :
  Calls Tryz.prog 128 #[.slice (some ⟨b,off,none⟩) n cap,.func (.func f) #[] cp] w fun e w'=>∃ v,e=.returned v∧ArmV v∧zCb w' w.heap.size v (zS G E n).length (nw (zS G E n))∧Bw w w':=by
 have HP:Hid (vG w b off n E):=hp
 have HG:Hid (∀ i W,i<n→Bw w W→Calls Tryz.prog f (#[zFe (E i)] ++ cp) W fun e w'=>e=.returned (.bool (G i))∧Bw W w'):=hG
 clear hp hG
 go_enter Tryz.func128,Tryz.ntmps128
 go_wp2_with fail
 refine (zBf _ n cap E w (.inr ⟨b,off,rfl,hbl,HP.out⟩) hn).mono ?_
 rintro e w1 ⟨v,rfl,hrow,hb1⟩
 obtain ⟨a1,c1,hv,hc1,h0 | ⟨g,ha,hgb,hgl,_,hT⟩⟩:=hrow.own
 ·rw [yB] at h0;omega
 rw [yB] at hv hT hc1
 subst ha hv
 have HT1:Hid (zC w1 g (n * 5)):=hT
 have HB1:Hid (Bw w w1):=hb1
 have HGB:Hid (w.heap.size≤g):=hgb
 clear hrow hT hb1
 go_wp2_with fail
 go_loopw [6,13] (fun cc i wr=>∃ k:Nat,k≤n∧i=.int .i64 (k:Int)∧cc=.int .i64 ((zS G E k).length:Int)∧Bw w wr∧zC wr g (n * 5)∧vG wr g 0 (zS G E k).length (nw (zS G E k))∧g<wr.heap.size) (fun _ i _=>n - (intOf i).toNat)
 case atStart=>exact ⟨0,by omega,rfl,rfl,HB1.out,HT1.out,fun i hi=>absurd hi (Nat.not_lt_zero _),hgl⟩
 case round =>
  obtain ⟨k,hk,rfl,rfl,hB,hT,hP,hgr⟩:=hrel
  have HBr:Hid (Bw w wr):=hB
  have HTr:Hid (zC wr g (n * 5)):=hT
  have HPr:Hid (vG wr g 0 (zS G E k).length (nw (zS G E k))):=hP
  have hle:=zAz G E k
  by_cases hlt:k<n
  ·obtain ⟨q0,q1,q2,q3,q4⟩:=(HP.out.below hB hbl) k hlt
   have hi:(k:Int)<(n:Int):=by omega
   have hi0:(0:Int)≤(k:Int):=by omega
   have HLT:Hid (k<n):=hlt
   have HC:=fun W h=>HG.out k W hlt h
   have HCC:Hid (∀ W,Bw w W→Calls Tryz.prog f (#[zFe (E k)] ++ cp) W fun e w'=>e=.returned (.bool (G k))∧Bw W w'):=HC
   clear hB hT hP HC
   have HEV:Hid (zFe (E k)=zFe (E k)):=rfl
   go_wp2_with fail
   generalize hV:(wr.alloc _:World)=V
   have hBV:Bw wr V:=by subst hV;exact Qb
   have v0:∀ W',Bw V W'→W'.cell? ⟨wr.heap.size,0,none⟩=some (.int .i64 (E k).z):=fun W' h=>by rw [h.cell (by subst hV;simp)];subst hV;simp [go_sem]
   have v1:∀ W',Bw V W'→W'.cell? ⟨wr.heap.size,1,none⟩=some (.int .i64 (E k).x):=fun W' h=>by rw [h.cell (by subst hV;simp)];subst hV;simp [go_sem]
   have v2:∀ W',Bw V W'→W'.cell? ⟨wr.heap.size,2,none⟩=some (.int .i64 (E k).y):=fun W' h=>by rw [h.cell (by subst hV;simp)];subst hV;simp [go_sem]
   have v3:∀ W',Bw V W'→W'.cell? ⟨wr.heap.size,3,none⟩=some (.int .i64 (E k).du):=fun W' h=>by rw [h.cell (by subst hV;simp)];subst hV;simp [go_sem]
   have v4:∀ W',Bw V W'→W'.cell? ⟨wr.heap.size,4,none⟩=some (.int .i64 (E k).tr):=fun W' h=>by rw [h.cell (by subst hV;simp)];subst hV;simp [go_sem]
   clear hV q0 q1 q2 q3 q4
   refine (HCC.out V (HBr.out.trans (hBV.mono HBr.out.size))).mono ?_
   rintro e w2 ⟨rfl,hb2⟩
   have hB2:Bw wr w2:=zB hBV hb2
   have HB2:Hid (Bw w w2):=zB HBr.out hB2
   have HT2:Hid (zC w2 g (n * 5)):=HTr.out.below hB2
   have HP2:Hid (vG w2 g 0 (zS G E k).length (nw (zS G E k))):=HPr.out.below hB2 hgr
   have hg2:g<w2.heap.size:=Nat.lt_of_lt_of_le hgr hB2.size
   cases hGk:G k
   ·have HK:Hid (zS G E (k+1)=zS G E k):=zH3 hGk
    clear hGk v0 v1 v2 v3 v4 hb2 hBV hB2
    go_wp2_with fail
    go_roundw
    case rel=>exact ⟨k+1,by have:=HLT.out;omega,by go_num,by rw [HK.out],HB2.out,HT2.out,by rw [HK.out];exact HP2.out,hg2⟩
    case measure=>have:=HLT.out;simp [intOf];omega
   ·have HK:Hid (zS G E (k+1)=zS G E k ++ [E k]):=zF2 hGk
    have p0:=v0 w2 hb2
    have p1:=v1 w2 hb2
    have p2:=v2 w2 hb2
    have p3:=v3 w2 hb2
    have p4:=v4 w2 hb2
    clear hGk v0 v1 v2 v3 v4 hb2 hBV hB2
    obtain ⟨L,hL⟩:∃ L:Nat,(zS G E k).length=L:=⟨_,rfl⟩
    rw [hL] at hle ⊢
    have HL:Hid ((zS G E k).length=L):=hL
    clear hL
    have hLn:L<n:=by have:=HLT.out;omega
    have hi2:(L:Int)<(n:Int):=by omega
    have hi3:(0:Int)≤(L:Int):=by omega
    have t0:=HT2.out.cell (L * 5+0) (by omega)
    have t1:=HT2.out.cell (L * 5+1) (by omega)
    have t2:=HT2.out.cell (L * 5+2) (by omega)
    have t3:=HT2.out.cell (L * 5+3) (by omega)
    have t4:=HT2.out.cell (L * 5+4) (by omega)
    have y0:=(HT2.out (L * 5+0) (by omega)).2
    have y1:=(HT2.out (L * 5+1) (by omega)).2
    have y2:=(HT2.out (L * 5+2) (by omega)).2
    have y3:=(HT2.out (L * 5+3) (by omega)).2
    have y4:=(HT2.out (L * 5+4) (by omega)).2
    simp only [Nat.add_zero] at t0 y0
    go_wp2_with fail
    go_roundw
    case rel =>
     refine ⟨k+1,by have:=HLT.out;omega,by go_num,?_,?_,?_,?_,?_⟩
     ·rw [HK.out,List.length_append,HL.out]
      go_num
     ·exact zCp (e:=E k) (B:=g) (o:=L * 5) HB2.out HGB.out
     ·exact zCo (e:=E k) (B:=g) (o:=L * 5) HT2.out
     ·rw [HK.out]
      have h:=vG.grow (e:=E k) HP2.out HT2.out (by rw [HL.out];exact hLn)
      rw [HL.out] at h
      exact h
     ·show _<(uX w2 g (L * 5) (E k)).heap.size
      rw [zD1];exact hg2
    case measure=>have:=HLT.out;simp [intOf];omega
  ·obtain rfl:n=k:=by omega
   obtain ⟨L,hL⟩:∃ L:Nat,(zS G E n).length=L:=⟨_,rfl⟩
   rw [hL] at hle ⊢
   have HL:Hid ((zS G E n).length=L):=hL
   clear hL hB hT hP
   have hLi:(L:Int)≤(n:Int):=by omega
   have hLc:(L:Int)≤(c1:Int):=by omega
   have hL0:(0:Int)≤(L:Int):=by omega
   by_cases hLn:L=n
   ·subst hLn
    have hcl:∀ (w:World) (ty:TypeId) (b:Option Addr) (c:Nat),(Builtin.clear_ #[29] ty #[.slice b 0 c]).run Tryz.prog w=.ok (.tuple #[]) w:=fun w ty b c=>zCg w ty b c
    have hL1':((L:Int) == 0)=false:=by simp;omega
    go_wp2_with fail
    all_goals
     go_ret
     first
      | exact ⟨_,rfl,.inr ⟨_,_,_,rfl⟩,⟨some ⟨g,0,none⟩,c1,by rw [HL.out];rfl,by rw [HL.out];omega,.inr ⟨g,rfl,HGB.out,hgr,HPr.out,by rw [HL.out];exact HTr.out⟩⟩,HBr.out⟩
      | exact ⟨_,rfl,.inr ⟨_,_,_,rfl⟩,⟨some ⟨g,0,none⟩,L,by rw [HL.out];rfl,by rw [HL.out];exact Nat.le_refl _,.inr ⟨g,rfl,HGB.out,hgr,HPr.out,by rw [HL.out];exact HTr.out⟩⟩,HBr.out⟩
   have HX:∃ W2,(∀ ty,(Builtin.clear_ #[29] ty #[.slice (some ⟨g,L * 5,none⟩) (n - L) (c1 - L)]).run Tryz.prog wr=.ok (.tuple #[]) W2)∧Bw w W2∧zC W2 g (n * 5)∧vG W2 g 0 L (nw (zS G E n))∧g<W2.heap.size:=by
    have hP0:=HPr.out
    rw [HL.out] at hP0
    refine ⟨_,fun ty=>zIj wr ty g (L * 5) (n - L) (c1 - L) (by omega) (fun j hj=>?_) (fun j hj=>?_),?_,?_,?_,?_⟩
    ·obtain ⟨u,hu⟩:=(HTr.out (L * 5+j) (by omega)).1
     rw [hu];rfl
    ·exact (HTr.out (L * 5+j) (by omega)).2
    ·exact Below.setCells HGB.out _ _ HBr.out
    ·intro o ho
     refine ⟨?_,by rw [World.frozen?_setCells];exact (HTr.out o ho).2⟩
     obtain ⟨u,hu⟩:=(HTr.out o ho).1
     exact Option.isSome_iff_exists.1 (zAn g _ (L * 5) wr ⟨g,o,none⟩ (by rw [hu];rfl))
    ·intro i hi
     obtain ⟨h0,h1,h2,h3,h4⟩:=hP0 i hi
     exact ⟨(World.cell?_setCells_out g _ _ _ _ (fun _ _=>.inl (by simp;omega))).trans h0,(World.cell?_setCells_out g _ _ _ _ (fun _ _=>.inl (by simp;omega))).trans h1,(World.cell?_setCells_out g _ _ _ _ (fun _ _=>.inl (by simp;omega))).trans h2,(World.cell?_setCells_out g _ _ _ _ (fun _ _=>.inl (by simp;omega))).trans h3,(World.cell?_setCells_out g _ _ _ _ (fun _ _=>.inl (by simp;omega))).trans h4⟩
    ·exact Nat.lt_of_lt_of_le hgr (Below.setCells (n:=0) (Nat.zero_le _) _ _ (Below.refl 0 wr)).size
   obtain ⟨W2,hcl,hB2,hT2,hP2,hg2⟩:=HX
   have HB2:Hid (Bw w W2):=hB2
   have HT2:Hid (zC W2 g (n * 5)):=hT2
   have HP2:Hid (vG W2 g 0 L (nw (zS G E n))):=hP2
   have hne:¬ c1=L:=by omega
   have hne2:¬ c1 - L=0:=by omega
   clear hB2 hT2 hP2 hLn
   by_cases hL1:L=0
   ·subst hL1
    simp only [Nat.zero_mul,Nat.sub_zero] at hcl
    go_wp2_with fail
    go_ret
    exact ⟨_,rfl,.inl rfl,⟨none,0,by rw [HL.out];rfl,by rw [HL.out];exact Nat.le_refl _,.inl HL.out⟩,HB2.out⟩
   ·have hL1':((L:Int) == 0)=false:=by simp;omega
    go_wp2_with fail
    go_ret
    exact ⟨_,rfl,.inr ⟨_,_,_,rfl⟩,⟨some ⟨g,0,none⟩,c1,by rw [HL.out];rfl,by rw [HL.out];omega,.inr ⟨g,rfl,HGB.out,hg2,by rw [HL.out];exact HP2.out,by rw [HL.out];exact fun o ho=>HT2.out o (by omega)⟩⟩,HB2.out⟩
theorem zDf (a:Option Addr)(cap:Nat)(fv:Value)(w:World) :
  Calls Tryz.prog 128 #[.slice a 0 cap,fv] w fun e w'=>e=.returned (.slice none 0 0)∧Bw w w':=by
 have hcl:∀ (w:World) (ty:TypeId) (b:Option Addr) (c:Nat),(Builtin.clear_ #[29] ty #[.slice b 0 c]).run Tryz.prog w=.ok (.tuple #[]) w:=fun w ty b c=>zCg w ty b c
 have HC:Hid (Calls Tryz.prog 133 #[.slice a 0 cap] w fun e w'=>((∃ g cp,e=.returned (.slice (some ⟨g,0,none⟩) 0 cp))∨e=.returned (.slice none 0 0))∧Bw w w'):=(zBf a 0 cap (fun _=>⟨0,0,0,0,0⟩) w (.inl rfl) (by omega)).mono fun e w' ⟨v,he,hr,hb⟩=>by
  subst he
  obtain ⟨_,h2 | ⟨g,cp,cur,hv,_⟩⟩:=hr
  ·exact ⟨.inr (by rw [h2.1]),hb⟩
  ·exact ⟨.inl ⟨g,cp,by rw [hv];rfl⟩,hb⟩
 go_enter Tryz.func128,Tryz.ntmps128
 go_wp2_with fail
 refine HC.out.mono ?_
 rintro e w1 ⟨⟨g,cp,rfl⟩ | rfl,hb1⟩
 ·go_wp2_with fail
  go_loopw [6,13] (fun cc i wr=>cc=.int .i64 0∧i=.int .i64 0∧w1=wr) (fun _ _ _=>0)
  case atStart=>exact ⟨rfl,rfl,rfl⟩
  case round =>
   obtain ⟨rfl,rfl,rfl⟩:=hrel
   go_wp2_with fail
   all_goals
    go_ret
    exact ⟨rfl,hb1⟩
 ·go_wp2_with fail
  go_loopw [6,13] (fun cc i wr=>cc=.int .i64 0∧i=.int .i64 0∧w1=wr) (fun _ _ _=>0)
  case atStart=>exact ⟨rfl,rfl,rfl⟩
  case round =>
   obtain ⟨rfl,rfl,rfl⟩:=hrel
   go_wp2_with fail
   all_goals
    go_ret
    exact ⟨rfl,hb1⟩
theorem zEs (a:Option Addr)(n cap f:Nat)(cp:Array Value)(G:Nat→Bool)(E:Nat→Req)(w:World)(hp:xV w a n E)(hn:n≤1048576)(hce:∀ args w,(callFunc f args).run Tryz.prog w=.ok (.enter f args) w)(hG:∀ i W,i<n→Bw w W→Calls Tryz.prog f (#[zFe (E i)] ++ cp) W fun e w'=>e=.returned (.bool (G i))∧Bw W w') :
  Calls Tryz.prog 128 #[.slice a n cap,.func (.func f) #[] cp] w fun e w'=>∃ va vc,e=.returned (.slice va (zS G E n).length vc)∧ArmV (.slice va (zS G E n).length vc)∧zCb w' w.heap.size (.slice va (zS G E n).length vc) (zS G E n).length (nw (zS G E n))∧Bw w w':=by
 by_cases h0:n=0
 ·subst h0
  exact (zDf a cap _ w).mono fun e w' ⟨he,hb⟩=>⟨none,0,he,.inl rfl,⟨none,0,rfl,Nat.le_refl _,.inl rfl⟩,hb⟩
 ·rcases hp with h | ⟨b,off,rfl,hbl,hpt⟩
  ·exact absurd h h0
  ·exact (zDe b off n cap f cp G E w (by omega) hpt hbl hn hce hG).mono fun e w' ⟨v,he,ha,ho,hb⟩=>by
    obtain ⟨va,vc,hv,hr⟩:=ho
    subst hv
    exact ⟨va,vc,he,ha,⟨va,vc,rfl,hr⟩,hb⟩

end Go.Proofs.YtpaiholildedcaaGreat
