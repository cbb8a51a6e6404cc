/- Texts. -/
import Derived.Test.YtkjbafcalamgnaaGreatVZoomViewer8
import Derived.Test.YtkjbafcalamgnaaGreatVZoomViewer9
import Derived.Test.YtkjbafcalamgnaaGreatVZoomViewer10
set_option linter.unusedSimpArgs false
set_option linter.unusedVariables false
set_option maxRecDepth 100000
set_option maxHeartbeats 32000000
namespace Go.Proofs.YtkjbafcalamgnaaGreat
open Go.RowKit
def byB (cx cy r:Int)(X Y:Nat→Int):Nat→Bool
 | 0=>false
 | k+1=>byB cx cy r X Y k || yH cx cy (X (k - 1)) (Y (k - 1)) (X k) (Y k) r
def zJb (cx cy r:Int)(X Y:Nat→Int):Nat→Bool
 | 0=>false
 | k+1=>zJb cx cy r X Y k || yH cx cy (X k) (Y k) (X (k+1)) (Y (k+1)) r
theorem zVk (cx cy r:Int)(X Y:Nat→Int):∀ k,byB cx cy r X Y (k+1)=(yH cx cy (X 0) (Y 0) (X 0) (Y 0) r || zJb cx cy r X Y k)
 | 0=>by simp [byB,zJb]
 | k+1=>by
  rw [byB,zVk cx cy r X Y k,zJb,Bool.or_assoc]
  rfl
theorem zUi {px py ax ay bx by' r:Int}(h:yH px py ax ay ax ay r=true)(hb:okP bx by'=true):yH px py ax ay bx by' r=true:=by
 simp only [yH,Bool.and_eq_true] at h ⊢
 obtain ⟨h1,h2,h3,h4,h5⟩:=h
 refine ⟨h1,h2,hb,h4,zUj ?_⟩
 have:=of_decide_eq_true h5
 have ha:vH px py ax ay ax ay=0:=by simp [vH]
 simp only [zE4,uI,ha,Int.le_refl,if_true] at this
 omega
theorem zJa (cx cy r:Int)(X Y:Nat→Int)(h:yH cx cy (X 0) (Y 0) (X 1) (Y 1) r=true):∀ k,zJb cx cy r X Y (k+1)=true
 | 0=>by simp [zJb,h]
 | k+1=>by rw [zJb,zJa cx cy r X Y h k];rfl
theorem zXz (cx cy r:Int)(X Y:Nat→Int)(n:Nat)(hn:2≤n)(h1:okP (X 1) (Y 1)=true):byB cx cy r X Y n=zJb cx cy r X Y (n - 1):=by
 obtain ⟨k,rfl⟩:∃ k,n=k+2:=⟨n - 2,by omega⟩
 rw [zVk]
 show _=zJb cx cy r X Y (k+1)
 cases h:yH cx cy (X 0) (Y 0) (X 0) (Y 0) r
 ·rfl
 ·rw [zJa cx cy r X Y (zUi h h1) k];rfl
theorem zXy {cx cy r:Int}{X Y:Nat→Int}(k:Nat)(h:byB cx cy r X Y k=true):∀ n,k≤n→byB cx cy r X Y n=true:=by
 intro n hn
 induction n with
 | zero=>rw [show k=0 by omega] at h;exact h
 | succ m ih =>
  by_cases e:k=m+1
  ·rw [← e];exact h
  ·rw [byB,ih (by omega)];rfl
theorem zT6 {cx cy r:Int}{X Y:Nat→Int}(k:Nat)(h:zJb cx cy r X Y k=true):∀ n,k≤n→zJb cx cy r X Y n=true:=by
 intro n hn
 induction n with
 | zero=>rw [show k=0 by omega] at h;exact h
 | succ m ih =>
  by_cases e:k=m+1
  ·rw [← e];exact h
  ·rw [zJb,ih (by omega)];rfl
theorem zNg (cx cy r:Int)(b n cap:Nat)(X Y:Nat→Int)(w:World)(hp:zL w b 0 n X Y)(hbl:b<w.heap.size)(hn:0<n)(hmax:n≤1048576)(hcap:n≤cap) :
  Calls Tryz.prog 239 #[.agg #[.int .i64 cx,.int .i64 cy],.slice (some ⟨b,0,none⟩) n cap,.int .i64 r] w fun e w'=>e=.returned (.bool (byB cx cy r X Y n))∧Bw w w':=by
 have HP:Hid (zL w b 0 n X Y):=hp
 obtain ⟨e0,e1⟩:=hp 0 hn
 simp only [Nat.zero_add,Nat.zero_mul] at e0 e1
 clear hp
 have hni:(0:Int)<(n:Int):=by omega
 go_enter Tryz.func239,Tryz.ntmps239
 go_wp2_with fail
 generalize hW:((w.alloc _).alloc _:World)=W
 have HB0:Hid (Bw w W):=by show Below _ _ _;subst hW;exact Qb
 have hT:zC W (w.heap.size+1) 2:=by
  subst hW
  have:=there2 (w.alloc (.cells #[.int .i64 cx,.int .i64 cy] 206)) (.int .i64 (X 0)) (.int .i64 (Y 0)) 206
  simpa using this
 have c00:∀ W',Bw W W'→W'.cell? ⟨w.heap.size,0,none⟩=some (.int .i64 cx):=Qc hW
 have c01:∀ W',Bw W W'→W'.cell? ⟨w.heap.size,1,none⟩=some (.int .i64 cy):=Qc hW
 have c10:∀ W',Bw W W'→W'.cell? ⟨w.heap.size+1,0,none⟩=some (.int .i64 (X 0)):=Qc hW
 have c11:∀ W',Bw W W'→W'.cell? ⟨w.heap.size+1,1,none⟩=some (.int .i64 (Y 0)):=Qc hW
 have hszW:W.heap.size=w.heap.size+1+1:=by subst hW;simp
 clear hW
 have q0:=c00 W (Below.refl _ _)
 have q1:=c01 W (Below.refl _ _)
 have q2:=c10 W (Below.refl _ _)
 have q3:=c11 W (Below.refl _ _)
 clear c00 c01 c10 c11
 go_loopw [15] (fun i wr=>∃ k:Nat,k≤n∧i=.int .i64 (k:Int)∧byB cx cy r X Y k=false∧Below (w.heap.size+1) W wr∧zC wr (w.heap.size+1) 2∧wr.cell? ⟨w.heap.size+1,0,none⟩=some (.int .i64 (X (k - 1)))∧wr.cell? ⟨w.heap.size+1,1,none⟩=some (.int .i64 (Y (k - 1)))) (fun i _=>n - (intOf i).toNat)
 case atStart=>exact ⟨0,by omega,rfl,rfl,Below.refl _ _,hT,q2,q3⟩
 case round =>
  obtain ⟨k,hk,rfl,hF,hB,hT',f0,f1⟩:=hrel
  have HB:Hid (Below (w.heap.size+1) W wr):=hB
  have HBw:Hid (Bw w wr):=HB0.out.trans (hB.mono (by omega))
  have HF:Hid (byB cx cy r X Y k=false):=hF
  have hszr:=hB.size
  have g0:=(hB.cell (p:=⟨w.heap.size,0,none⟩) (by show w.heap.size<_;omega)).trans q0
  have g1:=(hB.cell (p:=⟨w.heap.size,1,none⟩) (by show w.heap.size<_;omega)).trans q1
  clear hB hF
  by_cases hlt:k<n
  ·obtain ⟨hx,hy⟩:=(HP.out.below HBw.out hbl) k hlt
   simp only [Nat.zero_add] at hx hy
   have hi':(k:Int)<(n:Int):=by omega
   have hbw:b<wr.heap.size:=by omega
   have HT:Hid (zC wr (w.heap.size+1) 2):=hT'
   have hl0:w.heap.size<wr.heap.size:=by omega
   have hl1:w.heap.size+1<wr.heap.size:=by omega
   clear hT'
   go_wp2_with fail
   generalize hV:(wr.alloc _:World)=V
   have hbV:Bw wr V:=by subst hV;exact Qb
   have d0:∀ W',Bw V W'→W'.cell? ⟨wr.heap.size,0,none⟩=some (.int .i64 (X k)):=Qc hV
   have d1:∀ W',Bw V W'→W'.cell? ⟨wr.heap.size,1,none⟩=some (.int .i64 (Y k)):=Qc hV
   have hszV:wr.heap.size<V.heap.size:=by subst hV;simp
   clear hV hx hy
   refine (zHq _ _ _ _ _ _ _ _).mono ?_
   rintro e w1 ⟨rfl,hb1⟩
   have hbr1:=zA hbV hb1
   have HB1:Hid (Bw w w1):=zA HBw.out hbr1
   cases hq:yH cx cy (X (k - 1)) (Y (k - 1)) (X k) (Y k) r
   ·have hT1:=HT.out.below hbr1
    have t0:=hT1.cell 0 (by omega)
    have t1:=hT1.cell 1 (by omega)
    have z0:=(hT1 0 (by omega)).2
    have z1:=(hT1 1 (by omega)).2
    have p0:=d0 w1 hb1
    have p1:=d1 w1 hb1
    have HT1:Hid (zC w1 (w.heap.size+1) 2):=hT1
    have HBW1:Hid (Below (w.heap.size+1) W w1):=HB.out.trans (hbr1.mono (by omega))
    have hsz1:=hbr1.size
    have HK:Hid (byB cx cy r X Y (k+1)=false):=by show _=_;rw [byB,HF.out,hq];rfl
    clear hT1 d0 d1 hbr1 hb1 hbV f0 f1 g0 g1
    go_wp2_with fail
    go_roundw
    case rel =>
     refine ⟨k+1,by omega,by go_num,HK.out,(HBW1.out.setCell (by show w.heap.size+1≤w.heap.size+1;omega) _).setCell (by show w.heap.size+1≤w.heap.size+1;omega) _,?_,zYg (Option.isSome_iff_exists.2 ⟨_,t0⟩),zYf (Option.isSome_iff_exists.2 ⟨_,t1⟩)⟩
     exact (HT1.out.set 0 _).set 1 _
    case measure=>simp [intOf];omega
   ·have HK:Hid (byB cx cy r X Y n=true):=zXy (k+1) (by rw [byB,hq];simp) n (by omega)
    go_wp2_with fail
    go_ret
    exact ⟨zI (by rw [HK.out]),HB1.out⟩
  ·have hkn:k=n:=by omega
   subst hkn
   go_wp2_with fail
   go_ret
   exact ⟨zI (by rw [HF.out]),HBw.out⟩
theorem zNd (cx cy r:Int)(b n cap:Nat)(X Y:Nat→Int)(w:World)(hp:zL w b 0 n X Y)(hbl:b<w.heap.size)(hmax:n≤1048576)(hcap:n≤cap) :
  Calls Tryz.prog 238 #[.agg #[.int .i64 cx,.int .i64 cy],.slice (some ⟨b,0,none⟩) n cap,.int .i64 r] w fun e w'=>e=.returned (.bool (xI cx cy n X Y))∧Bw w w':=by
 have HP:Hid (zL w b 0 n X Y):=hp
 clear hp
 go_enter Tryz.func238,Tryz.ntmps238
 go_wp2_with fail
 generalize hW:(w.alloc _:World)=W
 have hB0:Bw w W:=by subst hW;exact Qb
 clear hW
 refine (zFc _ _ b n cap X Y W (HP.out.below hB0 hbl) (Nat.lt_of_lt_of_le hbl hB0.size) hcap hmax).mono ?_
 rintro e w1 ⟨rfl,hb1⟩
 go_wp2_with fail
 go_ret
 exact ⟨rfl,zA hB0 hb1⟩
theorem Row.setB {base r o:Nat}{w:World}{v x:Value}{l:List (Int × Int)}(h:Row base w v l)(hr:r<base):Row base (w.setCell ⟨r,o,none⟩ x) v l:=by
 obtain ⟨h1,h2 | ⟨g,cp,cur,hv,hg,hh,hrest⟩⟩:=h
 ·exact ⟨h1,.inl h2⟩
 ·refine ⟨h1,.inr ⟨g,cp,cur,hv,hg,?_,hrest⟩⟩
  rw [Below.heap_setCell _ _ _ _ (by simp;omega)]
  exact hh
theorem Row.wideB {base B:Nat}{w:World}{v:Value}{l:List (Int × Int)}(h:Row base w v l)(hB:B≤base):Row B w v l:=by
 obtain ⟨h1,h2 | ⟨g,cp,cur,hv,hg,hrest⟩⟩:=h
 ·exact ⟨h1,.inl h2⟩
 ·exact ⟨h1,.inr ⟨g,cp,cur,hv,by omega,hrest⟩⟩
set_option maxRecDepth 8000 in
theorem zGx {off:Nat}(b n cap:Nat)(X Y:Nat→Int)(w:World)(hp:zL w b off n X Y)(hbl:b<w.heap.size)(hn:n≤1048576) :
  Calls Tryz.prog 245 #[.slice (some ⟨b,off,none⟩) n cap] w fun e w'=>∃ a c,e=.returned (.slice a n c)∧Row w.heap.size w' (.slice a n c) (vE X Y (List.range n))∧Bw w w':=by
 obtain ⟨i0,hi,hz0,hz1,hz2⟩:=info_parts (show (Tryz.prog.info? 206).map (fun i=>(i.zero,i.size,i.bytes))=some (some (.agg #[.int .i64 0,.int .i64 0]),2,16) by kernel_rfl)
 have HP:Hid (zL w b off n X Y):=hp
 have HLEN:Hid ((vE X Y (List.range n)).length=n):=by show _=_;simp [vE]
 clear hp
 have hnl:∀ w,Sem.run Tryz.prog (binOp BinOp.eql 136 (.slice (some ⟨b,off,none⟩) n cap) (.slice none 0 0)) w=.ok (.bool false) w:=fun _=>by kernel_rfl
 go_enter Tryz.func245,Tryz.ntmps245
 go_wp2_with (first
  | (at_builtin;go_must (refine wpList_append_own _ rfl _ _ 136 rfl w.heap.size 206 i0 (.agg #[.int .i64 0,.int .i64 0]) 2 16 Tryz.underlying136 hi hz0 hz1 hz2 rfl (by decide) (.slice (some ⟨w.heap.size,0,none⟩) 0 0) 0 [] rfl (World.ownsRow_lit (base:=w.heap.size) w #[] 0 (Nat.le_refl _) (Nat.zero_le _) rfl) ⟨b,off,none⟩ n cap (vP (vE X Y (List.range n))) rfl ?c0 ?c1 ?c2 ?c3 ?c4 ?c5 ?_)))
 case c0=>rw [zBe,HLEN.out]
 case c1 =>
  intro q u hq
  have h1:=zJf (HP.out.below (by exact Qb:Below w.heap.size w (w.alloc (.cells #[] 206))) hbl) q u hq
  by_cases hq0:q=0
  ·subst hq0;simpa [Addr.add] using h1
  ·simpa [Addr.add,hq0] using h1
 case c2 =>
  intro u hu
  unfold vP at hu
  rw [List.mem_flatMap] at hu
  obtain ⟨p,_,hp⟩:=hu
  simp at hp
  rcases hp with rfl | rfl <;> rfl
 case c3=>unfold maxLen;omega
 case c4=>omega
 case c5=>first | omega | (simp;done) | (simp;omega)
 intro v' w2 hown' hgrow hnil
 clear hnil
 obtain ⟨a,c,hv⟩:∃ a c,v'=.slice a n c:=by
  obtain ⟨_,h2 | ⟨g,cp,cur,hv,_⟩⟩:=hown'
  ·exact ⟨none,0,by have e:=h2.2;have e2:n=0:=(by omega);subst e2;exact h2.1⟩
  ·exact ⟨_,cp,by rw [hv]⟩
 have HB2:Hid (Bw w w2):=((Below.refl _ _).alloc (Nat.le_refl _) _).trans ((Below.refl _ _).grown hgrow (by simp) (fun k hk=>by simp [Value.ownBlock] at hk;omega))
 subst hv
 have HOWN:Hid (Row w.heap.size w2 (.slice a n c) (vE X Y (List.range n))):=by
  show Row _ _ _ _
  unfold Row
  rw [HLEN.out]
  simpa using hown'
 clear hown' hgrow
 go_wp2
 go_ret
 exact ⟨a,c,rfl,HOWN.out,HB2.out⟩
theorem zHz {off:Nat}(id la ki wi:Int)(b n cap:Nat)(X Y:Nat→Int)(lab:ByteArray)(pr:Int)(w:World)(hp:zL w b off n X Y)(hbl:b<w.heap.size)(hn:n≤1048576)(hl:lab.size≤1048576) :
  Calls Tryz.prog 229 #[.agg #[.int .i64 id,.int .i64 la,.int .i64 ki,.int .i64 wi,.slice (some ⟨b,off,none⟩) n cap,.string lab,.int .i64 pr]] w fun e w'=>∃ a c,e=.returned (.agg #[.int .i64 id,.int .i64 la,.int .i64 ki,.int .i64 wi,.slice a n c,.string lab,.int .i64 pr])∧Row w.heap.size w' (.slice a n c) (vE X Y (List.range n))∧Bw w w':=by
 have HP:Hid (zL w b off n X Y):=hp
 clear hp
 go_enter Tryz.func229,Tryz.ntmps229
 go_wp2_with fail
 generalize hW:((w.alloc _).alloc _:World)=W
 have hB0:Bw w W:=by subst hW;exact Qb
 have q0:W.cell? ⟨w.heap.size,0,none⟩=some (.int .i64 id):=by subst hW;simp [go_sem]
 have q1:W.cell? ⟨w.heap.size,1,none⟩=some (.int .i64 la):=by subst hW;simp [go_sem]
 have q2:W.cell? ⟨w.heap.size,2,none⟩=some (.int .i64 ki):=by subst hW;simp [go_sem]
 have q3:W.cell? ⟨w.heap.size,3,none⟩=some (.int .i64 wi):=by subst hW;simp [go_sem]
 have q4:W.cell? ⟨w.heap.size,4,none⟩=some (.slice (some ⟨b,off,none⟩) n cap):=by subst hW;simp [go_sem]
 have q5:W.cell? ⟨w.heap.size,5,none⟩=some (.string lab):=by subst hW;simp [go_sem]
 have q6:W.cell? ⟨w.heap.size,6,none⟩=some (.int .i64 pr):=by subst hW;simp [go_sem]
 have fz:∀ o,W.frozen? ⟨w.heap.size,o,none⟩=false:=fun o=>by subst hW;simp [go_sem]
 have hT:zC W (w.heap.size+1) 7:=fun o ho=>by
  subst hW
  have hc:o=0∨o=1∨o=2∨o=3∨o=4∨o=5∨o=6:=by omega
  rcases hc with rfl | rfl | rfl | rfl | rfl | rfl | rfl <;> exact ⟨⟨_,by simp [go_sem];rfl⟩,by simp [go_sem]⟩
 have hsz:w.heap.size+1<W.heap.size:=by subst hW;simp
 clear hW
 refine (zGx b n cap X Y W (HP.out.below hB0 hbl) (Nat.lt_of_lt_of_le hbl hB0.size) hn).mono ?_
 rintro e w1 ⟨a1,c1,rfl,hR1,hb1⟩
 have HR1:Hid (Row W.heap.size w1 (.slice a1 n c1) (vE X Y (List.range n))):=hR1
 clear hR1
 have hB1:Bw w w1:=zA hB0 hb1
 have p0:=zU hb1 q0
 have p1:=zU hb1 q1
 have p2:=zU hb1 q2
 have p3:=zU hb1 q3
 have p4:=zU hb1 q4
 have p5:=zU hb1 q5
 have p6:=zU hb1 q6
 have f1:w1.frozen? ⟨w.heap.size,4,none⟩=false:=(hb1.frozen (p:=⟨w.heap.size,4,none⟩) (by show w.heap.size<_;omega)).trans (fz 4)
 have f2:w1.frozen? ⟨w.heap.size,5,none⟩=false:=(hb1.frozen (p:=⟨w.heap.size,5,none⟩) (by show w.heap.size<_;omega)).trans (fz 5)
 have hT1:=hT.below hb1
 have hsz1:=hb1.size
 clear q0 q1 q2 q3 q4 q5 q6 fz hT hb1 hB0
 have HT1:Hid (zC w1 (w.heap.size+1) 7):=hT1
 clear hT1
 go_wp2_with fail
 generalize hW2:(w1.setCell _ _:World)=W2
 have g0:W2.cell? ⟨w.heap.size,0,none⟩=some (.int .i64 id):=by subst hW2;rw [zB (by simp)];exact p0
 have g1:W2.cell? ⟨w.heap.size,1,none⟩=some (.int .i64 la):=by subst hW2;rw [zB (by simp)];exact p1
 have g2:W2.cell? ⟨w.heap.size,2,none⟩=some (.int .i64 ki):=by subst hW2;rw [zB (by simp)];exact p2
 have g3:W2.cell? ⟨w.heap.size,3,none⟩=some (.int .i64 wi):=by subst hW2;rw [zB (by simp)];exact p3
 have g4:W2.cell? ⟨w.heap.size,4,none⟩=some (.slice a1 n c1):=by subst hW2;exact zE p4
 have g5:W2.cell? ⟨w.heap.size,5,none⟩=some (.string lab):=by subst hW2;rw [zB (by simp)];exact p5
 have g6:W2.cell? ⟨w.heap.size,6,none⟩=some (.int .i64 pr):=by subst hW2;rw [zB (by simp)];exact p6
 have ff:W2.frozen? ⟨w.heap.size,5,none⟩=false:=by subst hW2;rw [World.frozen?_setCell];exact f2
 have hT2:zC W2 (w.heap.size+1) 7:=fun o ho=>by
  subst hW2
  obtain ⟨u,hu⟩:=(HT1.out o ho).1
  exact ⟨⟨u,by rw [zB (by simp)];exact hu⟩,by rw [World.frozen?_setCell];exact (HT1.out o ho).2⟩
 have hB2:Bw w W2:=by subst hW2;exact hB1.setCell (Nat.le_refl _) _
 have hsz2:w1.heap.size≤W2.heap.size:=by subst hW2;simp [World.setCell]
 have HR2:Hid (Row W.heap.size W2 (.slice a1 n c1) (vE X Y (List.range n))):=by show Row _ _ _ _;subst hW2;exact HR1.out.setB (by omega)
 clear hW2 p0 p1 p2 p3 p4 p5 p6 f1 f2 hB1
 refine (zFy lab W2 hl).mono ?_
 rintro e w3 ⟨rfl,hb3⟩
 have HR3:Hid (Row W.heap.size w3 (.slice a1 n c1) (vE X Y (List.range n))):=HR2.out.below hb3
 have hB3:Bw w w3:=zA hB2 hb3
 have p0:=zU hb3 g0
 have p1:=zU hb3 g1
 have p2:=zU hb3 g2
 have p3:=zU hb3 g3
 have p4:=zU hb3 g4
 have p5:=zU hb3 g5
 have p6:=zU hb3 g6
 have f5:w3.frozen? ⟨w.heap.size,5,none⟩=false:=(hb3.frozen (p:=⟨w.heap.size,5,none⟩) (by show w.heap.size<_;omega)).trans ff
 have hT3:=hT2.below hb3
 have hsz3:=hb3.size
 have t0:=hT3.cell 0 (by omega)
 have t1:=hT3.cell 1 (by omega)
 have t2:=hT3.cell 2 (by omega)
 have t3:=hT3.cell 3 (by omega)
 have t4:=hT3.cell 4 (by omega)
 have t5:=hT3.cell 5 (by omega)
 have t6:=hT3.cell 6 (by omega)
 have z0:=(hT3 0 (by omega)).2
 have z1:=(hT3 1 (by omega)).2
 have z2:=(hT3 2 (by omega)).2
 have z3:=(hT3 3 (by omega)).2
 have z4:=(hT3 4 (by omega)).2
 have z5:=(hT3 5 (by omega)).2
 have z6:=(hT3 6 (by omega)).2
 have HT4:Hid (zC (w3.setCell ⟨w.heap.size,5,none⟩ (.string lab)) (w.heap.size+1) 7):=fun o ho=>by
  obtain ⟨u,hu⟩:=(hT3 o ho).1
  exact ⟨⟨u,by rw [zB (by simp)];exact hu⟩,by rw [World.frozen?_setCell];exact (hT3 o ho).2⟩
 have HB3:Hid (Bw w w3):=hB3
 clear g0 g1 g2 g3 g4 g5 g6 ff hT2 hT3 hB2 hB3 hb3
 go_wp2_with fail
 obtain ⟨y0,y1,y2,y3,y4,y5,y6⟩:=zT4 (v0:=.int .i64 id) (v1:=.int .i64 la) (v2:=.int .i64 ki) (v3:=.int .i64 wi) (v4:=.slice a1 n c1) (v5:=.string lab) (v6:=.int .i64 pr) HT4.out
 have key:∀ (T:Array Value) (Wf:World),T[2]?.getD undef=.pointer (some ⟨w.heap.size+1,0,none⟩)→Wf.cell? ⟨w.heap.size+1,0,none⟩=some (.int .i64 id)→Wf.cell? ⟨w.heap.size+1,1,none⟩=some (.int .i64 la)→Wf.cell? ⟨w.heap.size+1,2,none⟩=some (.int .i64 ki)→Wf.cell? ⟨w.heap.size+1,3,none⟩=some (.int .i64 wi)→Wf.cell? ⟨w.heap.size+1,4,none⟩=some (.slice a1 n c1)→Wf.cell? ⟨w.heap.size+1,5,none⟩=some (.string lab)→Wf.cell? ⟨w.heap.size+1,6,none⟩=some (.int .i64 pr) →
   (results Tryz.f229 T).run Tryz.prog Wf=.ok (.agg #[.int .i64 id,.int .i64 la,.int .i64 ki,.int .i64 wi,.slice a1 n c1,.string lab,.int .i64 pr]) Wf:=fun T Wf hT h0 h1 h2 h3 h4 h5 h6=>by
  simp [results,Tryz.results229,go_sem,hT,h0,h1,h2,h3,h4,h5,h6]
 refine bodyPost_ret (key _ _ rfl y0 y1 y2 y3 y4 y5 y6) rfl ⟨a1,c1,rfl,?_,?_⟩
 ·exact ((((((((((HR3.out.setB (by omega)).setB (by omega)).setB (by omega)).setB (by omega)).setB (by omega)).setB (by omega)).setB (by omega)).setB (by omega)).wideB (by omega)))
 ·exact ((((((((HB3.out.setCell (Nat.le_refl _) _).setCell (Nat.le_succ _) _).setCell (Nat.le_succ _) _).setCell (Nat.le_succ _) _).setCell (Nat.le_succ _) _).setCell (Nat.le_succ _) _).setCell (Nat.le_succ _) _).setCell (Nat.le_succ _) _)
def yD (a f t : Int) : Int := if f ≤ t then (if t = f then a else if t = f + 1 then a * 2 else if t = f + 2 then a * 4 else a * 8) else (if f = t + 1 then a / 2 else if f = t + 2 then a / 4 else a / 8)
theorem zP6 {a f i : Int} (h : f ≤ i) (hf : 0 ≤ f) (hi : i ≤ 2) : yD a f (i + 1) = 2 * yD a f i := by
 unfold yD
 repeat' split
 all_goals omega
theorem zP7 {a f i : Int} (h : i ≤ f) (hf : f ≤ 3) (hi : 1 ≤ i) (ha : 0 ≤ a) : yD a f (i - 1) = yD a f i / 2 := by
 unfold yD
 repeat' split
 all_goals omega
theorem zAm {a f i : Int} (hf : 0 ≤ f ∧ f ≤ 3) (hi : 0 ≤ i ∧ i ≤ 3) (ha : 0 ≤ a ∧ a ≤ 71) : 0 ≤ yD a f i ∧ yD a f i ≤ 568 ∧ (i ≤ 2 → yD a f i ≤ 284) := by
 unfold yD
 repeat' split
 all_goals omega
theorem zKp (x : Nat) (h : (FloatKind.f64.decode x).isNaN = false) (w : World) : (callFunc 182 #[.float .f64 x]).run Tryz.prog w = .ok (.value (.float .f64 (zJw x))) w := by
 rw [run_callFunc_extern (e := Extern.MathFloor.toIntegral "math.archFloor" .down) Tryz.func182 (by kernel_rfl) (by kernel_rfl) (by kernel_rfl) (by kernel_rfl)]
 unfold zJw
 change (Sem.run Tryz.prog (Go.Extern.MathFloor.toIntegral.match_1 (fun _ => Sem Value) (FloatKind.f64.decode x) _ _) w).andThen _ = _
 cases hd : FloatKind.f64.decode x with
 | number s m i => rfl
 | infinity s => rfl
 | nan s t => rw [hd] at h; cases h
theorem zOe (x : Nat) (h : (FloatKind.f64.decode x).isNaN = false) (w : World) : Calls Tryz.prog 141 #[.float .f64 x] w fun e w' => e = .returned (.float .f64 (zJw x)) ∧ w = w' := by
 have hf := zKp x h
 clear h
 generalize zJw x = y at *
 go_enter Tryz.func141, Tryz.ntmps141
 go_wp2
 go_ret
 exact ⟨rfl, rfl⟩
theorem zJv (a b : Int) (w : World) (ha : 0 ≤ a ∧ a < 600) (hb : 0 ≤ b ∧ b < 600) : Calls Tryz.prog 91 #[pxV a b] w fun e w' => e = .returned (pxV (a / 2) (b / 2)) ∧ w = w' := by
 obtain ⟨r, hr, hn, hd⟩ := zQw ha.1 ha.2
 obtain ⟨s, hs, gn, gd⟩ := zQw hb.1 hb.2
 rw [flo_2] at hr hs
 have q1 := fun t (w : World) => run_float_arith (P := Tryz.prog) w .quo t .f64 _ _ _ hr
 have q2 := fun t (w : World) => run_float_arith (P := Tryz.prog) w .quo t .f64 _ _ _ hs
 have f1 := fun w => zOe r hn w
 have f2 := fun w => zOe s gn w
 rw [hd] at f1
 rw [gd] at f2
 clear hr hs hn gn hd gd ha hb
 go_enter Tryz.func91, Tryz.ntmps91
 go_wp2_with fail
 refine (f1 _).mono ?_
 rintro e w1 ⟨rfl, rfl⟩
 go_wp2_with fail
 refine (f2 _).mono ?_
 rintro e w1 ⟨rfl, rfl⟩
 go_wp2
 go_ret
 exact ⟨rfl, rfl⟩
theorem zRc (a b f t : Int) (w : World) (hf : 0 ≤ f ∧ f ≤ 3) (ht : 0 ≤ t ∧ t ≤ 3) (ha : 0 ≤ a ∧ a ≤ 71) (hb : 0 ≤ b ∧ b ≤ 71) : Calls Tryz.prog 92 #[pxV a b, .int .i64 f, .int .i64 t] w fun e w' => e = .returned (pxV (yD a f t) (yD b f t)) ∧ w = w' := by
 go_enter Tryz.func92, Tryz.ntmps92
 go_wp2
 go_loopw [0, 1] (fun u m wr => ∃ i : Int, f ≤ i ∧ (i ≤ f ∨ i ≤ t) ∧ m = .int .i64 i ∧ u = pxV (yD a f i) (yD b f i) ∧ w = wr) (fun _ m _ => (t - intOf m).toNat)
 case atStart => exact ⟨f, by omega, by omega, rfl, by simp [yD], rfl⟩
 case round =>
  obtain ⟨i, h0, h1, rfl, rfl, rfl⟩ := hrel
  have b1 := zAm (a := a) hf (i := i) (by omega) ha
  have b2 := zAm (a := b) hf (i := i) (by omega) hb
  by_cases hlt : i < t
  ·have HU1 : Hid (yD a f (i + 1) = 2 * yD a f i) := zP6 h0 hf.1 (by omega)
   have HU2 : Hid (yD b f (i + 1) = 2 * yD b f i) := zP6 h0 hf.1 (by omega)
   generalize yD a f i = p at *
   generalize yD b f i = q at *
   have hm : ∀ ty (w : World), (binOp .mul ty (pxV p q) (.complex .f64 4611686018427387904 0)).run Tryz.prog w = .ok (pxV (2 * p) (2 * q)) w := fun ty w => by
    have := zSt (a := p) (b := q) (by omega) (by omega) (by omega) (by omega)
    rw [flo_2, zXh] at this
    exact run_complex_mul w ty _ _ _ _ _ _ this
   go_wp2
   go_roundw
   case rel => exact ⟨i + 1, by omega, by omega, by go_num, by rw [HU1.out, HU2.out], by first | rfl | trivial⟩
   case measure => simp [intOf]; omega
  ·go_wp2
   go_loopw [0, 1] (fun u m wr => ∃ j : Int, t ≤ j ∧ j ≤ 3 ∧ (j = t ∨ j ≤ f) ∧ m = .int .i64 j ∧ u = pxV (yD a f j) (yD b f j) ∧ w = wr) (fun _ m _ => (intOf m - t).toNat)
   case atStart => exact ⟨i, by omega, by omega, by omega, rfl, rfl, rfl⟩
   case round =>
    obtain ⟨j, j0, j1, j2, rfl, rfl, rfl⟩ := hrel
    have b3 := zAm (a := a) hf (i := j) (by omega) ha
    have b4 := zAm (a := b) hf (i := j) (by omega) hb
    by_cases hgt : t < j
    ·have HD1 : Hid (yD a f (j - 1) = yD a f j / 2) := zP7 (by omega) hf.2 (by omega) ha.1
     have HD2 : Hid (yD b f (j - 1) = yD b f j / 2) := zP7 (by omega) hf.2 (by omega) hb.1
     have sH := fun w => zJv (yD a f j) (yD b f j) w (by omega) (by omega)
     generalize yD a f j = p at *
     generalize yD b f j = q at *
     go_wp2_with (go_at_call 91; refine (sH _).mono ?_; rintro e w1 ⟨rfl, rfl⟩)
     go_roundw
     case rel => exact ⟨j - 1, by omega, by omega, by omega, by go_num, by rw [HD1.out, HD2.out], by first | rfl | trivial⟩
     case measure => simp [intOf]; omega
    ·obtain rfl : j = t := by omega
     go_wp2
     go_ret
     exact ⟨rfl, rfl⟩
theorem zHe (a f t : Int) (w : World) (hf : 0 ≤ f ∧ f ≤ 3) (ht : 0 ≤ t ∧ t ≤ 3) (ha : 0 ≤ a ∧ a ≤ 71) : Calls Tryz.prog 88 #[.int .i64 a, .int .i64 f, .int .i64 t] w fun e w' => e = .returned (.int .i64 (yD a f t)) ∧ w = w' := by
 have c1 : f = 0 ∨ f = 1 ∨ f = 2 ∨ f = 3 := by omega
 have c2 : t = 0 ∨ t = 1 ∨ t = 2 ∨ t = 3 := by omega
 clear hf ht
 rcases c1 with rfl | rfl | rfl | rfl <;> rcases c2 with rfl | rfl | rfl | rfl
 all_goals
  simp [yD]
  go_enter Tryz.func88, Tryz.ntmps88
  go_wp2
  go_ret
  exact ⟨rfl, rfl⟩
end Go.Proofs.YtkjbafcalamgnaaGreat
