/- Texts. -/
import Derived.Test.YtkjbafcalamgnaaGreatVSizeViewer8
import Derived.Test.YtkjbafcalamgnaaGreatVSizeViewer9
import Derived.Test.YtkjbafcalamgnaaGreatVSizeViewer10
set_option linter.unusedSimpArgs false
set_option linter.unusedVariables false
set_option maxRecDepth 100000
set_option maxHeartbeats 32000000
namespace Go.Proofs.YtkjbafcalamgnaaGreat
open Go.RowKit
def byB (cx cy r:Int)(X Y:Nat→Int):Nat→Bool
 | 0=>false
 | k+1=>byB cx cy r X Y k || yG cx cy (X (k - 1)) (Y (k - 1)) (X k) (Y k) r
def zI7 (cx cy r:Int)(X Y:Nat→Int):Nat→Bool
 | 0=>false
 | k+1=>zI7 cx cy r X Y k || yG cx cy (X k) (Y k) (X (k+1)) (Y (k+1)) r
theorem zU6 (cx cy r:Int)(X Y:Nat→Int):∀ k,byB cx cy r X Y (k+1)=(yG cx cy (X 0) (Y 0) (X 0) (Y 0) r || zI7 cx cy r X Y k)
 | 0=>by simp [byB,zI7]
 | k+1=>by
  rw [byB,zU6 cx cy r X Y k,zI7,Bool.or_assoc]
  rfl
theorem zT2 {px py ax ay bx by' r:Int}(h:yG px py ax ay ax ay r=true)(hb:okP bx by'=true):yG px py ax ay bx by' r=true:=by
 simp only [yG,Bool.and_eq_true] at h ⊢
 obtain ⟨h1,h2,h3,h4,h5⟩:=h
 refine ⟨h1,h2,hb,h4,zT3 ?_⟩
 have:=of_decide_eq_true h5
 have ha:vH px py ax ay ax ay=0:=by simp [vH]
 simp only [zE0,uG,ha,Int.le_refl,if_true] at this
 omega
theorem zI6 (cx cy r:Int)(X Y:Nat→Int)(h:yG cx cy (X 0) (Y 0) (X 1) (Y 1) r=true):∀ k,zI7 cx cy r X Y (k+1)=true
 | 0=>by simp [zI7,h]
 | k+1=>by rw [zI7,zI6 cx cy r X Y h k];rfl
theorem zXj (cx cy r:Int)(X Y:Nat→Int)(n:Nat)(hn:2≤n)(h1:okP (X 1) (Y 1)=true):byB cx cy r X Y n=zI7 cx cy r X Y (n - 1):=by
 obtain ⟨k,rfl⟩:∃ k,n=k+2:=⟨n - 2,by omega⟩
 rw [zU6]
 show _=zI7 cx cy r X Y (k+1)
 cases h:yG cx cy (X 0) (Y 0) (X 0) (Y 0) r
 ·rfl
 ·rw [zI6 cx cy r X Y (zT2 h h1) k];rfl
theorem zXi {cx cy r:Int}{X Y:Nat→Int}(k:Nat)(h:byB cx cy r X Y k=true):∀ n,k≤n→byB cx cy r X Y n=true:=by
 intro n hn
 induction n with
 | zero=>rw [show k=0 by omega] at h;exact h
 | succ m ih =>
  by_cases e:k=m+1
  ·rw [← e];exact h
  ·rw [byB,ih (by omega)];rfl
theorem zTq {cx cy r:Int}{X Y:Nat→Int}(k:Nat)(h:zI7 cx cy r X Y k=true):∀ n,k≤n→zI7 cx cy r X Y n=true:=by
 intro n hn
 induction n with
 | zero=>rw [show k=0 by omega] at h;exact h
 | succ m ih =>
  by_cases e:k=m+1
  ·rw [← e];exact h
  ·rw [zI7,ih (by omega)];rfl
theorem zM9 (cx cy r:Int)(b n cap:Nat)(X Y:Nat→Int)(w:World)(hp:zL w b 0 n X Y)(hbl:b<w.heap.size)(hn:0<n)(hmax:n≤1048576)(hcap:n≤cap) :
  Calls Tryz.prog 239 #[.agg #[.int .i64 cx,.int .i64 cy],.slice (some ⟨b,0,none⟩) n cap,.int .i64 r] w fun e w'=>e=.returned (.bool (byB cx cy r X Y n))∧Bw w w':=by
 have HP:Hid (zL w b 0 n X Y):=hp
 obtain ⟨e0,e1⟩:=hp 0 hn
 simp only [Nat.zero_add,Nat.zero_mul] at e0 e1
 clear hp
 have hni:(0:Int)<(n:Int):=by omega
 go_enter Tryz.func239,Tryz.ntmps239
 go_wp2_with fail
 generalize hW:((w.alloc _).alloc _:World)=W
 have HB0:Hid (Bw w W):=by show Below _ _ _;subst hW;exact Qb
 have hT:zC W (w.heap.size+1) 2:=by
  subst hW
  have:=there2 (w.alloc (.cells #[.int .i64 cx,.int .i64 cy] 206)) (.int .i64 (X 0)) (.int .i64 (Y 0)) 206
  simpa using this
 have c00:∀ W',Bw W W'→W'.cell? ⟨w.heap.size,0,none⟩=some (.int .i64 cx):=Qc hW
 have c01:∀ W',Bw W W'→W'.cell? ⟨w.heap.size,1,none⟩=some (.int .i64 cy):=Qc hW
 have c10:∀ W',Bw W W'→W'.cell? ⟨w.heap.size+1,0,none⟩=some (.int .i64 (X 0)):=Qc hW
 have c11:∀ W',Bw W W'→W'.cell? ⟨w.heap.size+1,1,none⟩=some (.int .i64 (Y 0)):=Qc hW
 have hszW:W.heap.size=w.heap.size+1+1:=by subst hW;simp
 clear hW
 have q0:=c00 W (Below.refl _ _)
 have q1:=c01 W (Below.refl _ _)
 have q2:=c10 W (Below.refl _ _)
 have q3:=c11 W (Below.refl _ _)
 clear c00 c01 c10 c11
 go_loopw [15] (fun i wr=>∃ k:Nat,k≤n∧i=.int .i64 (k:Int)∧byB cx cy r X Y k=false∧Below (w.heap.size+1) W wr∧zC wr (w.heap.size+1) 2∧wr.cell? ⟨w.heap.size+1,0,none⟩=some (.int .i64 (X (k - 1)))∧wr.cell? ⟨w.heap.size+1,1,none⟩=some (.int .i64 (Y (k - 1)))) (fun i _=>n - (intOf i).toNat)
 case atStart=>exact ⟨0,by omega,rfl,rfl,Below.refl _ _,hT,q2,q3⟩
 case round =>
  obtain ⟨k,hk,rfl,hF,hB,hT',f0,f1⟩:=hrel
  have HB:Hid (Below (w.heap.size+1) W wr):=hB
  have HBw:Hid (Bw w wr):=HB0.out.trans (hB.mono (by omega))
  have HF:Hid (byB cx cy r X Y k=false):=hF
  have hszr:=hB.size
  have g0:=(hB.cell (p:=⟨w.heap.size,0,none⟩) (by show w.heap.size<_;omega)).trans q0
  have g1:=(hB.cell (p:=⟨w.heap.size,1,none⟩) (by show w.heap.size<_;omega)).trans q1
  clear hB hF
  by_cases hlt:k<n
  ·obtain ⟨hx,hy⟩:=(HP.out.below HBw.out hbl) k hlt
   simp only [Nat.zero_add] at hx hy
   have hi':(k:Int)<(n:Int):=by omega
   have hbw:b<wr.heap.size:=by omega
   have HT:Hid (zC wr (w.heap.size+1) 2):=hT'
   have hl0:w.heap.size<wr.heap.size:=by omega
   have hl1:w.heap.size+1<wr.heap.size:=by omega
   clear hT'
   go_wp2_with fail
   generalize hV:(wr.alloc _:World)=V
   have hbV:Bw wr V:=by subst hV;exact Qb
   have d0:∀ W',Bw V W'→W'.cell? ⟨wr.heap.size,0,none⟩=some (.int .i64 (X k)):=Qc hV
   have d1:∀ W',Bw V W'→W'.cell? ⟨wr.heap.size,1,none⟩=some (.int .i64 (Y k)):=Qc hV
   have hszV:wr.heap.size<V.heap.size:=by subst hV;simp
   clear hV hx hy
   refine (zHl _ _ _ _ _ _ _ _).mono ?_
   rintro e w1 ⟨rfl,hb1⟩
   have hbr1:=zA hbV hb1
   have HB1:Hid (Bw w w1):=zA HBw.out hbr1
   cases hq:yG cx cy (X (k - 1)) (Y (k - 1)) (X k) (Y k) r
   ·have hT1:=HT.out.below hbr1
    have t0:=hT1.cell 0 (by omega)
    have t1:=hT1.cell 1 (by omega)
    have z0:=(hT1 0 (by omega)).2
    have z1:=(hT1 1 (by omega)).2
    have p0:=d0 w1 hb1
    have p1:=d1 w1 hb1
    have HT1:Hid (zC w1 (w.heap.size+1) 2):=hT1
    have HBW1:Hid (Below (w.heap.size+1) W w1):=HB.out.trans (hbr1.mono (by omega))
    have hsz1:=hbr1.size
    have HK:Hid (byB cx cy r X Y (k+1)=false):=by show _=_;rw [byB,HF.out,hq];rfl
    clear hT1 d0 d1 hbr1 hb1 hbV f0 f1 g0 g1
    go_wp2_with fail
    go_roundw
    case rel =>
     refine ⟨k+1,by omega,by go_num,HK.out,(HBW1.out.setCell (by show w.heap.size+1≤w.heap.size+1;omega) _).setCell (by show w.heap.size+1≤w.heap.size+1;omega) _,?_,zX0 (Option.isSome_iff_exists.2 ⟨_,t0⟩),zXz (Option.isSome_iff_exists.2 ⟨_,t1⟩)⟩
     exact (HT1.out.set 0 _).set 1 _
    case measure=>simp [intOf];omega
   ·have HK:Hid (byB cx cy r X Y n=true):=zXi (k+1) (by rw [byB,hq];simp) n (by omega)
    go_wp2_with fail
    go_ret
    exact ⟨zG (by rw [HK.out]),HB1.out⟩
  ·have hkn:k=n:=by omega
   subst hkn
   go_wp2_with fail
   go_ret
   exact ⟨zG (by rw [HF.out]),HBw.out⟩
theorem zM6 (cx cy r:Int)(b n cap:Nat)(X Y:Nat→Int)(w:World)(hp:zL w b 0 n X Y)(hbl:b<w.heap.size)(hmax:n≤1048576)(hcap:n≤cap) :
  Calls Tryz.prog 238 #[.agg #[.int .i64 cx,.int .i64 cy],.slice (some ⟨b,0,none⟩) n cap,.int .i64 r] w fun e w'=>e=.returned (.bool (xF cx cy n X Y))∧Bw w w':=by
 have HP:Hid (zL w b 0 n X Y):=hp
 clear hp
 go_enter Tryz.func238,Tryz.ntmps238
 go_wp2_with fail
 generalize hW:(w.alloc _:World)=W
 have hB0:Bw w W:=by subst hW;exact Qb
 clear hW
 refine (zE8 _ _ b n cap X Y W (HP.out.below hB0 hbl) (Nat.lt_of_lt_of_le hbl hB0.size) hcap hmax).mono ?_
 rintro e w1 ⟨rfl,hb1⟩
 go_wp2_with fail
 go_ret
 exact ⟨rfl,zA hB0 hb1⟩
theorem Row.setB {base r o:Nat}{w:World}{v x:Value}{l:List (Int × Int)}(h:Row base w v l)(hr:r<base):Row base (w.setCell ⟨r,o,none⟩ x) v l:=by
 obtain ⟨h1,h2 | ⟨g,cp,cur,hv,hg,hh,hrest⟩⟩:=h
 ·exact ⟨h1,.inl h2⟩
 ·refine ⟨h1,.inr ⟨g,cp,cur,hv,hg,?_,hrest⟩⟩
  rw [Below.heap_setCell _ _ _ _ (by simp;omega)]
  exact hh
theorem Row.wideB {base B:Nat}{w:World}{v:Value}{l:List (Int × Int)}(h:Row base w v l)(hB:B≤base):Row B w v l:=by
 obtain ⟨h1,h2 | ⟨g,cp,cur,hv,hg,hrest⟩⟩:=h
 ·exact ⟨h1,.inl h2⟩
 ·exact ⟨h1,.inr ⟨g,cp,cur,hv,by omega,hrest⟩⟩
set_option maxRecDepth 8000 in
theorem zGt {off:Nat}(b n cap:Nat)(X Y:Nat→Int)(w:World)(hp:zL w b off n X Y)(hbl:b<w.heap.size)(hn:n≤1048576) :
  Calls Tryz.prog 245 #[.slice (some ⟨b,off,none⟩) n cap] w fun e w'=>∃ a c,e=.returned (.slice a n c)∧Row w.heap.size w' (.slice a n c) (vC X Y (List.range n))∧Bw w w':=by
 obtain ⟨i0,hi,hz0,hz1,hz2⟩:=info_parts (show (Tryz.prog.info? 206).map (fun i=>(i.zero,i.size,i.bytes))=some (some (.agg #[.int .i64 0,.int .i64 0]),2,16) by kernel_rfl)
 have HP:Hid (zL w b off n X Y):=hp
 have HLEN:Hid ((vC X Y (List.range n)).length=n):=by show _=_;simp [vC]
 clear hp
 have hnl:∀ w,Sem.run Tryz.prog (binOp BinOp.eql 136 (.slice (some ⟨b,off,none⟩) n cap) (.slice none 0 0)) w=.ok (.bool false) w:=fun _=>by kernel_rfl
 go_enter Tryz.func245,Tryz.ntmps245
 go_wp2_with (first
  | (at_builtin;go_must (refine wpList_append_own _ rfl _ _ 136 rfl w.heap.size 206 i0 (.agg #[.int .i64 0,.int .i64 0]) 2 16 Tryz.underlying136 hi hz0 hz1 hz2 rfl (by decide) (.slice (some ⟨w.heap.size,0,none⟩) 0 0) 0 [] rfl (World.ownsRow_lit (base:=w.heap.size) w #[] 0 (Nat.le_refl _) (Nat.zero_le _) rfl) ⟨b,off,none⟩ n cap (vO (vC X Y (List.range n))) rfl ?c0 ?c1 ?c2 ?c3 ?c4 ?c5 ?_)))
 case c0=>rw [zBd,HLEN.out]
 case c1 =>
  intro q u hq
  have h1:=zJd (HP.out.below (by exact Qb:Below w.heap.size w (w.alloc (.cells #[] 206))) hbl) q u hq
  by_cases hq0:q=0
  ·subst hq0;simpa [Addr.add] using h1
  ·simpa [Addr.add,hq0] using h1
 case c2 =>
  intro u hu
  unfold vO at hu
  rw [List.mem_flatMap] at hu
  obtain ⟨p,_,hp⟩:=hu
  simp at hp
  rcases hp with rfl | rfl <;> rfl
 case c3=>unfold maxLen;omega
 case c4=>omega
 case c5=>first | omega | (simp;done) | (simp;omega)
 intro v' w2 hown' hgrow hnil
 clear hnil
 obtain ⟨a,c,hv⟩:∃ a c,v'=.slice a n c:=by
  obtain ⟨_,h2 | ⟨g,cp,cur,hv,_⟩⟩:=hown'
  ·exact ⟨none,0,by have e:=h2.2;have e2:n=0:=(by omega);subst e2;exact h2.1⟩
  ·exact ⟨_,cp,by rw [hv]⟩
 have HB2:Hid (Bw w w2):=((Below.refl _ _).alloc (Nat.le_refl _) _).trans ((Below.refl _ _).grown hgrow (by simp) (fun k hk=>by simp [Value.ownBlock] at hk;omega))
 subst hv
 have HOWN:Hid (Row w.heap.size w2 (.slice a n c) (vC X Y (List.range n))):=by
  show Row _ _ _ _
  unfold Row
  rw [HLEN.out]
  simpa using hown'
 clear hown' hgrow
 go_wp2
 go_ret
 exact ⟨a,c,rfl,HOWN.out,HB2.out⟩
theorem zHu {off:Nat}(id la ki wi:Int)(b n cap:Nat)(X Y:Nat→Int)(lab:ByteArray)(pr:Int)(w:World)(hp:zL w b off n X Y)(hbl:b<w.heap.size)(hn:n≤1048576)(hl:lab.size≤1048576) :
  Calls Tryz.prog 229 #[.agg #[.int .i64 id,.int .i64 la,.int .i64 ki,.int .i64 wi,.slice (some ⟨b,off,none⟩) n cap,.string lab,.int .i64 pr]] w fun e w'=>∃ a c,e=.returned (.agg #[.int .i64 id,.int .i64 la,.int .i64 ki,.int .i64 wi,.slice a n c,.string lab,.int .i64 pr])∧Row w.heap.size w' (.slice a n c) (vC X Y (List.range n))∧Bw w w':=by
 have HP:Hid (zL w b off n X Y):=hp
 clear hp
 go_enter Tryz.func229,Tryz.ntmps229
 go_wp2_with fail
 generalize hW:((w.alloc _).alloc _:World)=W
 have hB0:Bw w W:=by subst hW;exact Qb
 have q0:W.cell? ⟨w.heap.size,0,none⟩=some (.int .i64 id):=by subst hW;simp [go_sem]
 have q1:W.cell? ⟨w.heap.size,1,none⟩=some (.int .i64 la):=by subst hW;simp [go_sem]
 have q2:W.cell? ⟨w.heap.size,2,none⟩=some (.int .i64 ki):=by subst hW;simp [go_sem]
 have q3:W.cell? ⟨w.heap.size,3,none⟩=some (.int .i64 wi):=by subst hW;simp [go_sem]
 have q4:W.cell? ⟨w.heap.size,4,none⟩=some (.slice (some ⟨b,off,none⟩) n cap):=by subst hW;simp [go_sem]
 have q5:W.cell? ⟨w.heap.size,5,none⟩=some (.string lab):=by subst hW;simp [go_sem]
 have q6:W.cell? ⟨w.heap.size,6,none⟩=some (.int .i64 pr):=by subst hW;simp [go_sem]
 have fz:∀ o,W.frozen? ⟨w.heap.size,o,none⟩=false:=fun o=>by subst hW;simp [go_sem]
 have hT:zC W (w.heap.size+1) 7:=fun o ho=>by
  subst hW
  have hc:o=0∨o=1∨o=2∨o=3∨o=4∨o=5∨o=6:=by omega
  rcases hc with rfl | rfl | rfl | rfl | rfl | rfl | rfl <;> exact ⟨⟨_,by simp [go_sem];rfl⟩,by simp [go_sem]⟩
 have hsz:w.heap.size+1<W.heap.size:=by subst hW;simp
 clear hW
 refine (zGt b n cap X Y W (HP.out.below hB0 hbl) (Nat.lt_of_lt_of_le hbl hB0.size) hn).mono ?_
 rintro e w1 ⟨a1,c1,rfl,hR1,hb1⟩
 have HR1:Hid (Row W.heap.size w1 (.slice a1 n c1) (vC X Y (List.range n))):=hR1
 clear hR1
 have hB1:Bw w w1:=zA hB0 hb1
 have p0:=zT hb1 q0
 have p1:=zT hb1 q1
 have p2:=zT hb1 q2
 have p3:=zT hb1 q3
 have p4:=zT hb1 q4
 have p5:=zT hb1 q5
 have p6:=zT hb1 q6
 have f1:w1.frozen? ⟨w.heap.size,4,none⟩=false:=(hb1.frozen (p:=⟨w.heap.size,4,none⟩) (by show w.heap.size<_;omega)).trans (fz 4)
 have f2:w1.frozen? ⟨w.heap.size,5,none⟩=false:=(hb1.frozen (p:=⟨w.heap.size,5,none⟩) (by show w.heap.size<_;omega)).trans (fz 5)
 have hT1:=hT.below hb1
 have hsz1:=hb1.size
 clear q0 q1 q2 q3 q4 q5 q6 fz hT hb1 hB0
 have HT1:Hid (zC w1 (w.heap.size+1) 7):=hT1
 clear hT1
 go_wp2_with fail
 generalize hW2:(w1.setCell _ _:World)=W2
 have g0:W2.cell? ⟨w.heap.size,0,none⟩=some (.int .i64 id):=by subst hW2;rw [zB (by simp)];exact p0
 have g1:W2.cell? ⟨w.heap.size,1,none⟩=some (.int .i64 la):=by subst hW2;rw [zB (by simp)];exact p1
 have g2:W2.cell? ⟨w.heap.size,2,none⟩=some (.int .i64 ki):=by subst hW2;rw [zB (by simp)];exact p2
 have g3:W2.cell? ⟨w.heap.size,3,none⟩=some (.int .i64 wi):=by subst hW2;rw [zB (by simp)];exact p3
 have g4:W2.cell? ⟨w.heap.size,4,none⟩=some (.slice a1 n c1):=by subst hW2;exact zE p4
 have g5:W2.cell? ⟨w.heap.size,5,none⟩=some (.string lab):=by subst hW2;rw [zB (by simp)];exact p5
 have g6:W2.cell? ⟨w.heap.size,6,none⟩=some (.int .i64 pr):=by subst hW2;rw [zB (by simp)];exact p6
 have ff:W2.frozen? ⟨w.heap.size,5,none⟩=false:=by subst hW2;rw [World.frozen?_setCell];exact f2
 have hT2:zC W2 (w.heap.size+1) 7:=fun o ho=>by
  subst hW2
  obtain ⟨u,hu⟩:=(HT1.out o ho).1
  exact ⟨⟨u,by rw [zB (by simp)];exact hu⟩,by rw [World.frozen?_setCell];exact (HT1.out o ho).2⟩
 have hB2:Bw w W2:=by subst hW2;exact hB1.setCell (Nat.le_refl _) _
 have hsz2:w1.heap.size≤W2.heap.size:=by subst hW2;simp [World.setCell]
 have HR2:Hid (Row W.heap.size W2 (.slice a1 n c1) (vC X Y (List.range n))):=by show Row _ _ _ _;subst hW2;exact HR1.out.setB (by omega)
 clear hW2 p0 p1 p2 p3 p4 p5 p6 f1 f2 hB1
 refine (zFt lab W2 hl).mono ?_
 rintro e w3 ⟨rfl,hb3⟩
 have HR3:Hid (Row W.heap.size w3 (.slice a1 n c1) (vC X Y (List.range n))):=HR2.out.below hb3
 have hB3:Bw w w3:=zA hB2 hb3
 have p0:=zT hb3 g0
 have p1:=zT hb3 g1
 have p2:=zT hb3 g2
 have p3:=zT hb3 g3
 have p4:=zT hb3 g4
 have p5:=zT hb3 g5
 have p6:=zT hb3 g6
 have f5:w3.frozen? ⟨w.heap.size,5,none⟩=false:=(hb3.frozen (p:=⟨w.heap.size,5,none⟩) (by show w.heap.size<_;omega)).trans ff
 have hT3:=hT2.below hb3
 have hsz3:=hb3.size
 have t0:=hT3.cell 0 (by omega)
 have t1:=hT3.cell 1 (by omega)
 have t2:=hT3.cell 2 (by omega)
 have t3:=hT3.cell 3 (by omega)
 have t4:=hT3.cell 4 (by omega)
 have t5:=hT3.cell 5 (by omega)
 have t6:=hT3.cell 6 (by omega)
 have z0:=(hT3 0 (by omega)).2
 have z1:=(hT3 1 (by omega)).2
 have z2:=(hT3 2 (by omega)).2
 have z3:=(hT3 3 (by omega)).2
 have z4:=(hT3 4 (by omega)).2
 have z5:=(hT3 5 (by omega)).2
 have z6:=(hT3 6 (by omega)).2
 have HT4:Hid (zC (w3.setCell ⟨w.heap.size,5,none⟩ (.string lab)) (w.heap.size+1) 7):=fun o ho=>by
  obtain ⟨u,hu⟩:=(hT3 o ho).1
  exact ⟨⟨u,by rw [zB (by simp)];exact hu⟩,by rw [World.frozen?_setCell];exact (hT3 o ho).2⟩
 have HB3:Hid (Bw w w3):=hB3
 clear g0 g1 g2 g3 g4 g5 g6 ff hT2 hT3 hB2 hB3 hb3
 go_wp2_with fail
 obtain ⟨y0,y1,y2,y3,y4,y5,y6⟩:=zTo (v0:=.int .i64 id) (v1:=.int .i64 la) (v2:=.int .i64 ki) (v3:=.int .i64 wi) (v4:=.slice a1 n c1) (v5:=.string lab) (v6:=.int .i64 pr) HT4.out
 have key:∀ (T:Array Value) (Wf:World),T[2]?.getD undef=.pointer (some ⟨w.heap.size+1,0,none⟩)→Wf.cell? ⟨w.heap.size+1,0,none⟩=some (.int .i64 id)→Wf.cell? ⟨w.heap.size+1,1,none⟩=some (.int .i64 la)→Wf.cell? ⟨w.heap.size+1,2,none⟩=some (.int .i64 ki)→Wf.cell? ⟨w.heap.size+1,3,none⟩=some (.int .i64 wi)→Wf.cell? ⟨w.heap.size+1,4,none⟩=some (.slice a1 n c1)→Wf.cell? ⟨w.heap.size+1,5,none⟩=some (.string lab)→Wf.cell? ⟨w.heap.size+1,6,none⟩=some (.int .i64 pr) →
   (results Tryz.f229 T).run Tryz.prog Wf=.ok (.agg #[.int .i64 id,.int .i64 la,.int .i64 ki,.int .i64 wi,.slice a1 n c1,.string lab,.int .i64 pr]) Wf:=fun T Wf hT h0 h1 h2 h3 h4 h5 h6=>by
  simp [results,Tryz.results229,go_sem,hT,h0,h1,h2,h3,h4,h5,h6]
 refine bodyPost_ret (key _ _ rfl y0 y1 y2 y3 y4 y5 y6) rfl ⟨a1,c1,rfl,?_,?_⟩
 ·exact ((((((((((HR3.out.setB (by omega)).setB (by omega)).setB (by omega)).setB (by omega)).setB (by omega)).setB (by omega)).setB (by omega)).setB (by omega)).wideB (by omega)))
 ·exact ((((((((HB3.out.setCell (Nat.le_refl _) _).setCell (Nat.le_succ _) _).setCell (Nat.le_succ _) _).setCell (Nat.le_succ _) _).setCell (Nat.le_succ _) _).setCell (Nat.le_succ _) _).setCell (Nat.le_succ _) _).setCell (Nat.le_succ _) _)
theorem zDn (z x y wd ht a b:Int)(w:World):Calls Tryz.prog 49 #[zCn z x y wd ht,.int .i64 a,.int .i64 b] w fun e w'=>e=.returned (zFv z x y wd ht a b)∧Bw w w':=by
 have hp:Hid (zFv z x y wd ht a b=if zAi z x y wd ht=true then (if (inB a 1 8 && inB b 1 8)=true then crV 0 z (yQ x (xO z - a)) (yQ y (xO z - b)) a b else crV 3 0 0 0 0 0) else crV 3 0 0 0 0 0):=rfl
 go_enter Tryz.func49,Tryz.ntmps49
 go_wp2_with fail
 generalize hW:((w.alloc _).alloc _:World)=W
 have HB0:Hid (Bw w W):=by show Below _ _ _;subst hW;exact Qb
 have hL:w.heap.size+1<W.heap.size:=by subst hW;simp
 have HT:Hid (zC W (w.heap.size+1) 6):=by
  show zC _ _ _
  subst hW
  have:=zKa (w.alloc (.cells #[.int .i64 z,.int .i64 x,.int .i64 y,.int .i64 wd,.int .i64 ht] 32)) (.int .i64 0) (.int .i64 0) (.int .i64 0) (.int .i64 0) (.int .i64 0) (.int .i64 0) 68
  simpa using this
 have HC:Hid (zC W w.heap.size 5):=by
  show zC _ _ _
  subst hW
  exact (zEx w (.int .i64 z) (.int .i64 x) (.int .i64 y) (.int .i64 wd) (.int .i64 ht) 32).below (by exact Qb)
 have c00:∀ W',Bw W W'→W'.cell? ⟨w.heap.size,0,none⟩=some (.int .i64 z):=Qc hW
 have c01:∀ W',Bw W W'→W'.cell? ⟨w.heap.size,1,none⟩=some (.int .i64 x):=Qc hW
 have c02:∀ W',Bw W W'→W'.cell? ⟨w.heap.size,2,none⟩=some (.int .i64 y):=Qc hW
 have c03:∀ W',Bw W W'→W'.cell? ⟨w.heap.size,3,none⟩=some (.int .i64 wd):=Qc hW
 have c04:∀ W',Bw W W'→W'.cell? ⟨w.heap.size,4,none⟩=some (.int .i64 ht):=Qc hW
 clear hW
 refine (vP z x y wd ht _).mono ?_
 rintro e w1 ⟨rfl,hb1⟩
 have HT1:Hid (zC w1 (w.heap.size+1) 6):=HT.out.below hb1
 have HB1:Hid (Bw w w1):=zA HB0.out hb1
 have HC1:Hid (zC w1 w.heap.size 5):=HC.out.below hb1
 have hL1:w.heap.size+1<w1.heap.size:=Nat.lt_of_lt_of_le hL hb1.size
 have d0:∀ W',Reg (w.heap.size+1) w1 (w.heap.size+1) 6 W'→W'.cell? ⟨w.heap.size,0,none⟩=some (.int .i64 z):=fun W' h=>(h.bel.cell (p:=⟨w.heap.size,0,none⟩) (by simp <;> omega)).trans (c00 w1 hb1)
 have d1:∀ W',Reg (w.heap.size+1) w1 (w.heap.size+1) 6 W'→W'.cell? ⟨w.heap.size,1,none⟩=some (.int .i64 x):=fun W' h=>(h.bel.cell (p:=⟨w.heap.size,1,none⟩) (by simp <;> omega)).trans (c01 w1 hb1)
 have d2:∀ W',Reg (w.heap.size+1) w1 (w.heap.size+1) 6 W'→W'.cell? ⟨w.heap.size,2,none⟩=some (.int .i64 y):=fun W' h=>(h.bel.cell (p:=⟨w.heap.size,2,none⟩) (by simp <;> omega)).trans (c02 w1 hb1)
 have d3:∀ W',Reg (w.heap.size+1) w1 (w.heap.size+1) 6 W'→W'.cell? ⟨w.heap.size,3,none⟩=some (.int .i64 wd):=fun W' h=>(h.bel.cell (p:=⟨w.heap.size,3,none⟩) (by simp <;> omega)).trans (c03 w1 hb1)
 have d4:∀ W',Reg (w.heap.size+1) w1 (w.heap.size+1) 6 W'→W'.cell? ⟨w.heap.size,4,none⟩=some (.int .i64 ht):=fun W' h=>(h.bel.cell (p:=⟨w.heap.size,4,none⟩) (by simp <;> omega)).trans (c04 w1 hb1)
 have hreg:Reg (w.heap.size+1) w1 (w.heap.size+1) 6 w1:=Reg.start (Nat.le_of_lt hL1) HT1.out
 have t0:∀ W',Reg (w.heap.size+1) w1 (w.heap.size+1) 6 W'→W'.cell? ⟨w.heap.size+1,0,none⟩=some (xV W' (w.heap.size+1) 0):=fun W' h=>h.there.cell 0 (by omega)
 have t1:∀ W',Reg (w.heap.size+1) w1 (w.heap.size+1) 6 W'→W'.cell? ⟨w.heap.size+1,1,none⟩=some (xV W' (w.heap.size+1) 1):=fun W' h=>h.there.cell 1 (by omega)
 have t2:∀ W',Reg (w.heap.size+1) w1 (w.heap.size+1) 6 W'→W'.cell? ⟨w.heap.size+1,2,none⟩=some (xV W' (w.heap.size+1) 2):=fun W' h=>h.there.cell 2 (by omega)
 have t3:∀ W',Reg (w.heap.size+1) w1 (w.heap.size+1) 6 W'→W'.cell? ⟨w.heap.size+1,3,none⟩=some (xV W' (w.heap.size+1) 3):=fun W' h=>h.there.cell 3 (by omega)
 have t4:∀ W',Reg (w.heap.size+1) w1 (w.heap.size+1) 6 W'→W'.cell? ⟨w.heap.size+1,4,none⟩=some (xV W' (w.heap.size+1) 4):=fun W' h=>h.there.cell 4 (by omega)
 have t5:∀ W',Reg (w.heap.size+1) w1 (w.heap.size+1) 6 W'→W'.cell? ⟨w.heap.size+1,5,none⟩=some (xV W' (w.heap.size+1) 5):=fun W' h=>h.there.cell 5 (by omega)
 have f0:∀ W',Reg (w.heap.size+1) w1 (w.heap.size+1) 6 W'→W'.frozen? ⟨w.heap.size+1,0,none⟩=false:=fun W' h=>(h.there 0 (by omega)).2
 have f1:∀ W',Reg (w.heap.size+1) w1 (w.heap.size+1) 6 W'→W'.frozen? ⟨w.heap.size+1,1,none⟩=false:=fun W' h=>(h.there 1 (by omega)).2
 have f2:∀ W',Reg (w.heap.size+1) w1 (w.heap.size+1) 6 W'→W'.frozen? ⟨w.heap.size+1,2,none⟩=false:=fun W' h=>(h.there 2 (by omega)).2
 have f3:∀ W',Reg (w.heap.size+1) w1 (w.heap.size+1) 6 W'→W'.frozen? ⟨w.heap.size+1,3,none⟩=false:=fun W' h=>(h.there 3 (by omega)).2
 have f4:∀ W',Reg (w.heap.size+1) w1 (w.heap.size+1) 6 W'→W'.frozen? ⟨w.heap.size+1,4,none⟩=false:=fun W' h=>(h.there 4 (by omega)).2
 have f5:∀ W',Reg (w.heap.size+1) w1 (w.heap.size+1) 6 W'→W'.frozen? ⟨w.heap.size+1,5,none⟩=false:=fun W' h=>(h.there 5 (by omega)).2
 clear hb1 HT HB0 c00 c01 c02 c03 c04 hL
 rcases zBe z x y wd ht with ⟨hc,hr⟩ | ⟨hc,hr⟩
 ·simp only [hc]
  cases hd:(inB a 1 8 && inB b 1 8)
  ·have hq:Hid (zFv z x y wd ht a b=crV 3 0 0 0 0 0):=by show _=_;rw [hp.out,hd];simp [hr]
   clear hr hc hp
   cases h1:inB a 1 8 <;> cases h2:inB b 1 8
   all_goals first | (rw [h1,h2] at hd;cases hd;done) | skip
   all_goals
    clear hd
    go_wp2_with (go_at_call 93;refine (zCi _ _).mono ?_;rintro e w1 ⟨rfl,rfl⟩)
    obtain ⟨q0,q1,q2,q3,q4,q5⟩:=vJ (a:=.int .i64 3) (b:=.int .i64 0) (c:=.int .i64 0) (d:=.int .i64 0) (e:=.int .i64 0) (f:=.int .i64 0) HT1.out
    exact bodyPost_ret (v:=crV 3 0 0 0 0 0) (by simp [results,Tryz.results49,go_sem,q0,q1,q2,q3,q4,q5]) rfl ⟨by rw [hq.out],zBw HB1.out (Nat.le_succ _)⟩
  ·have hq:Hid (zFv z x y wd ht a b=crV 0 z (yQ x (xO z - a)) (yQ y (xO z - b)) a b):=by show _=_;rw [hp.out,hd];simp [hr]
   have hz:=vG hr
   have hi:=zAf hr
   have hn:=vD hz
   simp only [Bool.and_eq_true] at hd
   obtain ⟨h1,h2⟩:=hd
   have g1:1≤a∧a≤8:=by simpa [inB] using h1
   have g2:1≤b∧b≤8:=by simpa [inB] using h2
   have sA:=fun w=>zJr z x y a b x y w hz g1 g2 (by omega) (by omega)
   generalize yQ x (xO z - a)=hx at *
   generalize yQ y (xO z - b)=hy at *
   have u0:=d0 w1 hreg
   have u1:=d1 w1 hreg
   have u2:=d2 w1 hreg
   have u3:=d3 w1 hreg
   have u4:=d4 w1 hreg
   have HC1':=HC1.out
   have p3:=(HC1' 3 (by omega)).2
   have p4:=(HC1' 4 (by omega)).2
   clear hr hc hp hi hn g1 g2 hz HC1' d0 d1 d2 d3 d4 t0 t1 t2 t3 t4 t5 f0 f1 f2 f3 f4 f5 hreg
   go_wp2_with (go_at_call 93;refine (zCi _ _).mono ?_;rintro e w1 ⟨rfl,rfl⟩)
   generalize hV:((w1.setCell _ _).setCell _ _:World)=V
   have HBV:Hid (Bw w V):=by show Below _ _ _;subst hV;exact (HB1.out.setCell (Nat.le_refl _) _).setCell (Nat.le_refl _) _
   have HTV:Hid (zC V (w.heap.size+1) 6):=by show zC _ _ _;subst hV;exact HT1.out.putC.putC
   have v0:V.cell? ⟨w.heap.size,0,none⟩=some (.int .i64 z):=by subst hV;simpa [go_sem] using u0
   have v1:V.cell? ⟨w.heap.size,1,none⟩=some (.int .i64 x):=by subst hV;simpa [go_sem] using u1
   have v2:V.cell? ⟨w.heap.size,2,none⟩=some (.int .i64 y):=by subst hV;simpa [go_sem] using u2
   have v3:V.cell? ⟨w.heap.size,3,none⟩=some (.int .i64 a):=by subst hV;rw [zB (by simp)];exact zE u3
   have v4:V.cell? ⟨w.heap.size,4,none⟩=some (.int .i64 b):=by subst hV;exact zE (by rw [zB (by simp)];exact u4)
   have hLV:w.heap.size+1≤V.heap.size:=Nat.le_of_lt (World.block_lt_of_cell? _ _ (HTV.out.cell 0 (by omega)))
   clear hV u0 u1 u2 u3 u4 p3 p4 HT1 HB1
   have d0:∀ W',Reg (w.heap.size+1) V (w.heap.size+1) 6 W'→W'.cell? ⟨w.heap.size,0,none⟩=some (.int .i64 z):=fun W' h=>(h.bel.cell (p:=⟨w.heap.size,0,none⟩) (by simp <;> omega)).trans v0
   have d1:∀ W',Reg (w.heap.size+1) V (w.heap.size+1) 6 W'→W'.cell? ⟨w.heap.size,1,none⟩=some (.int .i64 x):=fun W' h=>(h.bel.cell (p:=⟨w.heap.size,1,none⟩) (by simp <;> omega)).trans v1
   have d2:∀ W',Reg (w.heap.size+1) V (w.heap.size+1) 6 W'→W'.cell? ⟨w.heap.size,2,none⟩=some (.int .i64 y):=fun W' h=>(h.bel.cell (p:=⟨w.heap.size,2,none⟩) (by simp <;> omega)).trans v2
   have d3:∀ W',Reg (w.heap.size+1) V (w.heap.size+1) 6 W'→W'.cell? ⟨w.heap.size,3,none⟩=some (.int .i64 a):=fun W' h=>(h.bel.cell (p:=⟨w.heap.size,3,none⟩) (by simp <;> omega)).trans v3
   have d4:∀ W',Reg (w.heap.size+1) V (w.heap.size+1) 6 W'→W'.cell? ⟨w.heap.size,4,none⟩=some (.int .i64 b):=fun W' h=>(h.bel.cell (p:=⟨w.heap.size,4,none⟩) (by simp <;> omega)).trans v4
   have hreg:Reg (w.heap.size+1) V (w.heap.size+1) 6 V:=Reg.start hLV HTV.out
   have t0:∀ W',Reg (w.heap.size+1) V (w.heap.size+1) 6 W'→W'.cell? ⟨w.heap.size+1,0,none⟩=some (xV W' (w.heap.size+1) 0):=fun W' h=>h.there.cell 0 (by omega)
   have t1:∀ W',Reg (w.heap.size+1) V (w.heap.size+1) 6 W'→W'.cell? ⟨w.heap.size+1,1,none⟩=some (xV W' (w.heap.size+1) 1):=fun W' h=>h.there.cell 1 (by omega)
   have t2:∀ W',Reg (w.heap.size+1) V (w.heap.size+1) 6 W'→W'.cell? ⟨w.heap.size+1,2,none⟩=some (xV W' (w.heap.size+1) 2):=fun W' h=>h.there.cell 2 (by omega)
   have t3:∀ W',Reg (w.heap.size+1) V (w.heap.size+1) 6 W'→W'.cell? ⟨w.heap.size+1,3,none⟩=some (xV W' (w.heap.size+1) 3):=fun W' h=>h.there.cell 3 (by omega)
   have t4:∀ W',Reg (w.heap.size+1) V (w.heap.size+1) 6 W'→W'.cell? ⟨w.heap.size+1,4,none⟩=some (xV W' (w.heap.size+1) 4):=fun W' h=>h.there.cell 4 (by omega)
   have t5:∀ W',Reg (w.heap.size+1) V (w.heap.size+1) 6 W'→W'.cell? ⟨w.heap.size+1,5,none⟩=some (xV W' (w.heap.size+1) 5):=fun W' h=>h.there.cell 5 (by omega)
   have f0:∀ W',Reg (w.heap.size+1) V (w.heap.size+1) 6 W'→W'.frozen? ⟨w.heap.size+1,0,none⟩=false:=fun W' h=>(h.there 0 (by omega)).2
   have f1:∀ W',Reg (w.heap.size+1) V (w.heap.size+1) 6 W'→W'.frozen? ⟨w.heap.size+1,1,none⟩=false:=fun W' h=>(h.there 1 (by omega)).2
   have f2:∀ W',Reg (w.heap.size+1) V (w.heap.size+1) 6 W'→W'.frozen? ⟨w.heap.size+1,2,none⟩=false:=fun W' h=>(h.there 2 (by omega)).2
   have f3:∀ W',Reg (w.heap.size+1) V (w.heap.size+1) 6 W'→W'.frozen? ⟨w.heap.size+1,3,none⟩=false:=fun W' h=>(h.there 3 (by omega)).2
   have f4:∀ W',Reg (w.heap.size+1) V (w.heap.size+1) 6 W'→W'.frozen? ⟨w.heap.size+1,4,none⟩=false:=fun W' h=>(h.there 4 (by omega)).2
   have f5:∀ W',Reg (w.heap.size+1) V (w.heap.size+1) 6 W'→W'.frozen? ⟨w.heap.size+1,5,none⟩=false:=fun W' h=>(h.there 5 (by omega)).2
   clear v0 v1 v2 v3 v4
   go_region_held3 (Reg (w.heap.size+1) V (w.heap.size+1) 6) (first | with_reducible assumption | with_reducible exact Reg.drew hreg | with_reducible exact Reg.store6 (by with_reducible assumption) (Nat.le_refl _) | with_reducible exact Reg.call (by with_reducible assumption) (by with_reducible assumption))
    (first
     | (go_at_call 79;refine (zAt _ _ _ _ _ _).mono ?_;rintro e w' ⟨rfl,hb⟩)
     | (go_at_call 78;refine (sA _).mono ?_;rintro e w' ⟨rfl,hb⟩;have hk:Reg (w.heap.size+1) V (w.heap.size+1) 6 w':=Reg.call (by assumption) hb)
     | fail)
   go_wp2
   obtain ⟨q0,q1,q2,q3,q4,q5⟩:=vJ (a:=.int .i64 0) (b:=.int .i64 z) (c:=.int .i64 hx) (d:=.int .i64 hy) (e:=.int .i64 a) (f:=.int .i64 b) hk.there
   exact bodyPost_ret (v:=crV 0 z hx hy a b) (by simp [results,Tryz.results49,go_sem,q0,q1,q2,q3,q4,q5]) rfl ⟨by rw [hq.out],zBw (HBV.out.trans (hk.bel.mono (Nat.le_succ _))) (Nat.le_succ _)⟩
 ·simp only [hc]
  have hq:Hid (zFv z x y wd ht a b=crV 3 0 0 0 0 0):=by show _=_;rw [hp.out];simp [hr]
  clear hr hc hp
  go_wp2_with fail
  obtain ⟨q0,q1,q2,q3,q4,q5⟩:=vJ (a:=.int .i64 3) (b:=.int .i64 0) (c:=.int .i64 0) (d:=.int .i64 0) (e:=.int .i64 0) (f:=.int .i64 0) HT1.out
  exact bodyPost_ret (v:=crV 3 0 0 0 0 0) (by simp [results,Tryz.results49,go_sem,q0,q1,q2,q3,q4,q5]) rfl ⟨by rw [hq.out],zBw HB1.out (Nat.le_succ _)⟩
end Go.Proofs.YtkjbafcalamgnaaGreat
