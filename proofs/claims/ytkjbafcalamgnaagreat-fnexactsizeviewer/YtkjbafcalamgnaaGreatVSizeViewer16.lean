/- Texts. -/
import Derived.Test.YtkjbafcalamgnaaGreatVSizeViewer15
import Derived.Test.YtkjbafcalamgnaaGreatVSizeViewer14
set_option linter.unusedSimpArgs false
set_option linter.unusedVariables false
set_option maxRecDepth 100000
set_option maxHeartbeats 32000000
namespace Go.Proofs.YtkjbafcalamgnaaGreat
open Go.RowKit
theorem zL.store {W:World}{b off n:Nat}{X Y:Nat→Int}(h:zL W b off n X Y){r o:Nat}{v:Value}(hne:r≠b):zL (W.setCell ⟨r,o,none⟩ v) b off n X Y:=fun i hi=>by
 obtain ⟨h1,h2⟩:=h i hi
 refine ⟨?_,?_⟩
 ·rw [World.cell?_setCell_other]
  ·exact h1
  ·simp [hne]
 ·rw [World.cell?_setCell_other]
  ·exact h2
  ·simp [hne]
theorem zC.store {W:World}{b n:Nat}(h:zC W b n){r o:Nat}{v:Value}(hne:r≠b):zC (W.setCell ⟨r,o,none⟩ v) b n:=fun i hi=>by
 obtain ⟨u,hu⟩:=(h i hi).1
 refine ⟨⟨u,?_⟩,by rw [World.frozen?_setCell];exact (h i hi).2⟩
 rw [World.cell?_setCell_other]
 ·exact hu
 ·simp [hne]
theorem zJ9 (id la ki wi:Int)(a:Option Addr)(n cap:Nat)(X Y:Nat→Int)(lab:ByteArray)(pr:Int)(w:World)(hpt:xP w a n X Y)(hn:n≤1048576) :
  Calls Tryz.prog 96 #[.agg #[.int .i64 id,.int .i64 la,.int .i64 ki,.int .i64 wi,.slice a n cap,.string lab,.int .i64 pr]] w fun e w'=>∃ b,e=.returned (.agg #[.int .i64 id,.int .i64 la,.int .i64 ki,.int .i64 wi,.slice (some ⟨b,0,none⟩) n n,.string lab,.int .i64 pr])∧w.heap.size≤b∧b<w'.heap.size∧zL w' b 0 n X Y∧zC w' b (n * 2)∧Bw w w':=by
 have HP:Hid (xP w a n X Y):=hpt
 clear hpt
 go_enter Tryz.func96,Tryz.ntmps96
 go_wp2_with fail
 generalize hW:(((w.alloc _).alloc _).alloc _:World)=W
 have hB0:Bw w W:=by subst hW;exact Qb
 have hsz:W.heap.size=w.heap.size+1+1+1:=by subst hW;simp
 have c5:W.cell? ⟨w.heap.size,5,none⟩=some (.string lab):=by subst hW;simp [go_sem]
 have c6:W.cell? ⟨w.heap.size,6,none⟩=some (.int .i64 pr):=by subst hW;simp [go_sem]
 have o0:W.cell? ⟨w.heap.size+1+1,0,none⟩=some (.int .i64 id):=by subst hW;simp [go_sem]
 have o1:W.cell? ⟨w.heap.size+1+1,1,none⟩=some (.int .i64 la):=by subst hW;simp [go_sem]
 have o2:W.cell? ⟨w.heap.size+1+1,2,none⟩=some (.int .i64 ki):=by subst hW;simp [go_sem]
 have o3:W.cell? ⟨w.heap.size+1+1,3,none⟩=some (.int .i64 wi):=by subst hW;simp [go_sem]
 have o4:W.cell? ⟨w.heap.size+1+1,4,none⟩=some (.slice none 0 0):=by subst hW;simp [go_sem]
 have o5:W.cell? ⟨w.heap.size+1+1,5,none⟩=some (.string ⟨#[]⟩):=by subst hW;simp [go_sem]
 have o6:W.cell? ⟨w.heap.size+1+1,6,none⟩=some (.int .i64 0):=by subst hW;simp [go_sem]
 have z0:W.frozen? ⟨w.heap.size+1+1,0,none⟩=false:=by subst hW;simp [go_sem]
 have z1:W.frozen? ⟨w.heap.size+1+1,1,none⟩=false:=by subst hW;simp [go_sem]
 have z2:W.frozen? ⟨w.heap.size+1+1,2,none⟩=false:=by subst hW;simp [go_sem]
 have z3:W.frozen? ⟨w.heap.size+1+1,3,none⟩=false:=by subst hW;simp [go_sem]
 have z4:W.frozen? ⟨w.heap.size+1+1,4,none⟩=false:=by subst hW;simp [go_sem]
 have z5:W.frozen? ⟨w.heap.size+1+1,5,none⟩=false:=by subst hW;simp [go_sem]
 have z6:W.frozen? ⟨w.heap.size+1+1,6,none⟩=false:=by subst hW;simp [go_sem]
 have r0:W.cell? ⟨w.heap.size+1,0,none⟩=some (.int .i64 0):=by subst hW;simp [go_sem]
 have r1:W.cell? ⟨w.heap.size+1,1,none⟩=some (.int .i64 0):=by subst hW;simp [go_sem]
 have r2:W.cell? ⟨w.heap.size+1,2,none⟩=some (.int .i64 0):=by subst hW;simp [go_sem]
 have r3:W.cell? ⟨w.heap.size+1,3,none⟩=some (.int .i64 0):=by subst hW;simp [go_sem]
 have r4:W.cell? ⟨w.heap.size+1,4,none⟩=some (.slice none 0 0):=by subst hW;simp [go_sem]
 have r5:W.cell? ⟨w.heap.size+1,5,none⟩=some (.string ⟨#[]⟩):=by subst hW;simp [go_sem]
 have r6:W.cell? ⟨w.heap.size+1,6,none⟩=some (.int .i64 0):=by subst hW;simp [go_sem]
 have x0:W.frozen? ⟨w.heap.size+1,0,none⟩=false:=by subst hW;simp [go_sem]
 have x1:W.frozen? ⟨w.heap.size+1,1,none⟩=false:=by subst hW;simp [go_sem]
 have x2:W.frozen? ⟨w.heap.size+1,2,none⟩=false:=by subst hW;simp [go_sem]
 have x3:W.frozen? ⟨w.heap.size+1,3,none⟩=false:=by subst hW;simp [go_sem]
 have x4:W.frozen? ⟨w.heap.size+1,4,none⟩=false:=by subst hW;simp [go_sem]
 have x5:W.frozen? ⟨w.heap.size+1,5,none⟩=false:=by subst hW;simp [go_sem]
 have x6:W.frozen? ⟨w.heap.size+1,6,none⟩=false:=by subst hW;simp [go_sem]
 clear hW
 refine (zL6 a n cap X Y W (HP.out.below hB0) hn).mono ?_
 rintro e w1 ⟨b,rfl,hle,hlt,hp,ht,hb⟩
 have hlw:w.heap.size<W.heap.size:=by omega
 have hlo:w.heap.size+1+1<W.heap.size:=by omega
 have d5:w1.cell? ⟨w.heap.size,5,none⟩=some (.string lab):=(hb.cell (p:=⟨w.heap.size,5,none⟩) hlw).trans c5
 have d6:w1.cell? ⟨w.heap.size,6,none⟩=some (.int .i64 pr):=(hb.cell (p:=⟨w.heap.size,6,none⟩) hlw).trans c6
 have q0:w1.cell? ⟨w.heap.size+1+1,0,none⟩=some (.int .i64 id):=(hb.cell (p:=⟨w.heap.size+1+1,0,none⟩) hlo).trans o0
 have q1:w1.cell? ⟨w.heap.size+1+1,1,none⟩=some (.int .i64 la):=(hb.cell (p:=⟨w.heap.size+1+1,1,none⟩) hlo).trans o1
 have q2:w1.cell? ⟨w.heap.size+1+1,2,none⟩=some (.int .i64 ki):=(hb.cell (p:=⟨w.heap.size+1+1,2,none⟩) hlo).trans o2
 have q3:w1.cell? ⟨w.heap.size+1+1,3,none⟩=some (.int .i64 wi):=(hb.cell (p:=⟨w.heap.size+1+1,3,none⟩) hlo).trans o3
 have q4:w1.cell? ⟨w.heap.size+1+1,4,none⟩=some (.slice none 0 0):=(hb.cell (p:=⟨w.heap.size+1+1,4,none⟩) hlo).trans o4
 have q5:w1.cell? ⟨w.heap.size+1+1,5,none⟩=some (.string ⟨#[]⟩):=(hb.cell (p:=⟨w.heap.size+1+1,5,none⟩) hlo).trans o5
 have q6:w1.cell? ⟨w.heap.size+1+1,6,none⟩=some (.int .i64 0):=(hb.cell (p:=⟨w.heap.size+1+1,6,none⟩) hlo).trans o6
 have y0:w1.frozen? ⟨w.heap.size+1+1,0,none⟩=false:=(hb.frozen (p:=⟨w.heap.size+1+1,0,none⟩) hlo).trans z0
 have y1:w1.frozen? ⟨w.heap.size+1+1,1,none⟩=false:=(hb.frozen (p:=⟨w.heap.size+1+1,1,none⟩) hlo).trans z1
 have y2:w1.frozen? ⟨w.heap.size+1+1,2,none⟩=false:=(hb.frozen (p:=⟨w.heap.size+1+1,2,none⟩) hlo).trans z2
 have y3:w1.frozen? ⟨w.heap.size+1+1,3,none⟩=false:=(hb.frozen (p:=⟨w.heap.size+1+1,3,none⟩) hlo).trans z3
 have y4:w1.frozen? ⟨w.heap.size+1+1,4,none⟩=false:=(hb.frozen (p:=⟨w.heap.size+1+1,4,none⟩) hlo).trans z4
 have y5:w1.frozen? ⟨w.heap.size+1+1,5,none⟩=false:=(hb.frozen (p:=⟨w.heap.size+1+1,5,none⟩) hlo).trans z5
 have y6:w1.frozen? ⟨w.heap.size+1+1,6,none⟩=false:=(hb.frozen (p:=⟨w.heap.size+1+1,6,none⟩) hlo).trans z6
 have hl1:w.heap.size+1<W.heap.size:=by omega
 have s0:w1.cell? ⟨w.heap.size+1,0,none⟩=some (.int .i64 0):=(hb.cell (p:=⟨w.heap.size+1,0,none⟩) hl1).trans r0
 have s1:w1.cell? ⟨w.heap.size+1,1,none⟩=some (.int .i64 0):=(hb.cell (p:=⟨w.heap.size+1,1,none⟩) hl1).trans r1
 have s2:w1.cell? ⟨w.heap.size+1,2,none⟩=some (.int .i64 0):=(hb.cell (p:=⟨w.heap.size+1,2,none⟩) hl1).trans r2
 have s3:w1.cell? ⟨w.heap.size+1,3,none⟩=some (.int .i64 0):=(hb.cell (p:=⟨w.heap.size+1,3,none⟩) hl1).trans r3
 have s4:w1.cell? ⟨w.heap.size+1,4,none⟩=some (.slice none 0 0):=(hb.cell (p:=⟨w.heap.size+1,4,none⟩) hl1).trans r4
 have s5:w1.cell? ⟨w.heap.size+1,5,none⟩=some (.string ⟨#[]⟩):=(hb.cell (p:=⟨w.heap.size+1,5,none⟩) hl1).trans r5
 have s6:w1.cell? ⟨w.heap.size+1,6,none⟩=some (.int .i64 0):=(hb.cell (p:=⟨w.heap.size+1,6,none⟩) hl1).trans r6
 have t0:w1.frozen? ⟨w.heap.size+1,0,none⟩=false:=(hb.frozen (p:=⟨w.heap.size+1,0,none⟩) hl1).trans x0
 have t1:w1.frozen? ⟨w.heap.size+1,1,none⟩=false:=(hb.frozen (p:=⟨w.heap.size+1,1,none⟩) hl1).trans x1
 have t2:w1.frozen? ⟨w.heap.size+1,2,none⟩=false:=(hb.frozen (p:=⟨w.heap.size+1,2,none⟩) hl1).trans x2
 have t3:w1.frozen? ⟨w.heap.size+1,3,none⟩=false:=(hb.frozen (p:=⟨w.heap.size+1,3,none⟩) hl1).trans x3
 have t4:w1.frozen? ⟨w.heap.size+1,4,none⟩=false:=(hb.frozen (p:=⟨w.heap.size+1,4,none⟩) hl1).trans x4
 have t5:w1.frozen? ⟨w.heap.size+1,5,none⟩=false:=(hb.frozen (p:=⟨w.heap.size+1,5,none⟩) hl1).trans x5
 have t6:w1.frozen? ⟨w.heap.size+1,6,none⟩=false:=(hb.frozen (p:=⟨w.heap.size+1,6,none⟩) hl1).trans x6
 have hne:w.heap.size+1+1≠b:=by omega
 have hne1:w.heap.size+1≠b:=by omega
 have hS1:w.heap.size≤w.heap.size+1:=by omega
 have hS2:w.heap.size≤w.heap.size+1+1:=by omega
 have hge:w.heap.size≤b:=by omega
 have HP1:Hid (zL w1 b 0 n X Y):=hp
 have HT1:Hid (zC w1 b (n * 2)):=ht
 clear ht
 have HB1:Hid (Bw w w1):=zA hB0 hb
 clear r0 r1 r2 r3 r4 r5 r6 x0 x1 x2 x3 x4 x5 x6 hl1 o0 o1 o2 o3 o4 o5 o6 z0 z1 z2 z3 z4 z5 z6 c5 c6 hp hb hB0 hsz hle hlw hlo
 go_wp2
 exact bodyPost_ret (v:=.agg #[.int .i64 id,.int .i64 la,.int .i64 ki,.int .i64 wi,.slice (some ⟨b,0,none⟩) n n,.string lab,.int .i64 pr]) (by simp [results,Tryz.results96,go_sem, *]) rfl ⟨b,rfl,hge,by simpa using hlt,((((((((((HP1.out).store hne).store hne).store hne).store hne1).store hne1).store hne1).store hne1).store hne1).store hne1).store hne1,((((((((((HT1.out).store hne).store hne).store hne).store hne1).store hne1).store hne1).store hne1).store hne1).store hne1).store hne1,((((((((((HB1.out).setCell hS2 _).setCell hS2 _).setCell hS2 _).setCell hS1 _).setCell hS1 _).setCell hS1 _).setCell hS1 _).setCell hS1 _).setCell hS1 _).setCell hS1 _⟩
theorem zOp (a:Option Addr)(n cap left:Nat)(w:World)(hl:left≤1048576)(hn:left<n)(hm:n≤maxLen) :
  Calls Tryz.prog 142 #[.slice a n cap,.int .i64 left] w fun e w'=>e=.returned (.int .i64 (-1))∧w=w':=by
 unfold maxLen at hm
 have hneg:(left:Int) - (n:Int)<0:=by omega
 go_enter Tryz.func142,Tryz.ntmps142
 go_wp2
 go_ret
 exact ⟨rfl,rfl⟩
theorem zGs (a:Option Addr)(n cap left:Nat)(w:World)(hl:left≤1048576)(hn:n≤left) :
  Calls Tryz.prog 142 #[.slice a n cap,.int .i64 left] w fun e w'=>e=.returned (.int .i64 ((left:Int) - (n:Int)))∧w=w':=by
 have hneg:¬ (left:Int) - (n:Int)<0:=by omega
 go_enter Tryz.func142,Tryz.ntmps142
 go_wp2
 go_ret
 exact ⟨rfl,rfl⟩
def szF (left n s:Nat):Int:=if left<n+s then -1 else (left:Int) - (n:Int) - (s:Int)
theorem zKd (id la ki wi:Int)(a:Option Addr)(n cap:Nat)(lab:ByteArray)(pr:Int)(left:Nat)(w:World)(hl:left≤1048576)(hn:n≤maxLen)(hs:lab.size≤maxLen) :
  Calls Tryz.prog 94 #[.agg #[.int .i64 id,.int .i64 la,.int .i64 ki,.int .i64 wi,.slice a n cap,.string lab,.int .i64 pr],.int .i64 left] w fun e w'=>e=.returned (.int .i64 (szF left n lab.size))∧Bw w w':=by
 have hs':lab.size≤9223372036854775807:=by unfold maxLen at hs;omega
 clear hs
 by_cases h1:left<n
 ·have hz:Hid (szF left n lab.size=-1):=by show _=_;unfold szF;rw [if_pos (by omega)]
  go_enter Tryz.func94,Tryz.ntmps94
  go_wp2_with (go_at_call 142;refine (zOp _ _ _ _ _ hl h1 hn).mono ?_;rintro e w' ⟨rfl,rfl⟩)
  go_ret
  exact ⟨zD hz.out.symm,Qb⟩
 ·have hge:n≤left:=by omega
  have g1:¬ (left:Int) - (n:Int)<0:=by omega
  by_cases h2:left<n+lab.size
  ·have hz:Hid (szF left n lab.size=-1):=by show _=_;unfold szF;rw [if_pos h2]
   have g2:(left:Int) - (n:Int) - (lab.size:Int)<0:=by omega
   go_enter Tryz.func94,Tryz.ntmps94
   go_wp2_with (go_at_call 142;refine (zGs _ _ _ _ _ hl hge).mono ?_;rintro e w' ⟨rfl,rfl⟩)
   go_ret
   exact ⟨zD hz.out.symm,Qb⟩
  ·have hz:Hid (szF left n lab.size=(left:Int) - (n:Int) - (lab.size:Int)):=by show _=_;unfold szF;rw [if_neg h2]
   have g2:¬ (left:Int) - (n:Int) - (lab.size:Int)<0:=by omega
   go_enter Tryz.func94,Tryz.ntmps94
   go_wp2_with (go_at_call 142;refine (zGs _ _ _ _ _ hl hge).mono ?_;rintro e w' ⟨rfl,rfl⟩)
   go_ret
   exact ⟨zD hz.out.symm,Qb⟩
theorem zLl (id la ki wi:Int)(n:Nat)(X Y:Nat→Int)(lab:ByteArray)(pr:Int)(b d:Nat)(w:World)(hp:zL w b 0 n X Y)(hq:zL w d 0 n X Y)(hb:b<w.heap.size)(hd:d<w.heap.size)(hmax:n≤1048576) :
  Calls Tryz.prog 99 #[.agg #[.int .i64 id,.int .i64 la,.int .i64 ki,.int .i64 wi,.slice (some ⟨b,0,none⟩) n n,.string lab,.int .i64 pr],.agg #[.int .i64 id,.int .i64 la,.int .i64 ki,.int .i64 wi,.slice (some ⟨d,0,none⟩) n n,.string lab,.int .i64 pr]] w fun e w'=>e=.returned (.bool true)∧Bw w w':=by
 have HP:Hid (zL w b 0 n X Y):=hp
 have HQ:Hid (zL w d 0 n X Y):=hq
 clear hp hq
 go_enter Tryz.func99,Tryz.ntmps99
 go_wp2_with fail
 generalize hW:((w.alloc _).alloc _:World)=W
 have hB0:Bw w W:=by subst hW;exact Qb
 have hsz:W.heap.size=w.heap.size+1+1:=by subst hW;simp
 have c5:W.cell? ⟨w.heap.size,5,none⟩=some (.string lab):=by subst hW;simp [go_sem]
 have c6:W.cell? ⟨w.heap.size,6,none⟩=some (.int .i64 pr):=by subst hW;simp [go_sem]
 have o5:W.cell? ⟨w.heap.size+1,5,none⟩=some (.string lab):=by subst hW;simp [go_sem]
 have o6:W.cell? ⟨w.heap.size+1,6,none⟩=some (.int .i64 pr):=by subst hW;simp [go_sem]
 clear hW
 refine (zNl b d n X Y W (HP.out.below hB0 hb) (HQ.out.below hB0 hd) (by omega) (by omega) hmax).mono ?_
 rintro e w1 ⟨rfl,hb1⟩
 have d5:=(hb1.cell (p:=⟨w.heap.size,5,none⟩) (show w.heap.size<_ by omega)).trans c5
 have d6:=(hb1.cell (p:=⟨w.heap.size,6,none⟩) (show w.heap.size<_ by omega)).trans c6
 have e5:=(hb1.cell (p:=⟨w.heap.size+1,5,none⟩) (show w.heap.size+1<_ by omega)).trans o5
 have e6:=(hb1.cell (p:=⟨w.heap.size+1,6,none⟩) (show w.heap.size+1<_ by omega)).trans o6
 have HB1:Hid (Bw w w1):=zA hB0 hb1
 clear c5 c6 o5 o6 hb1 hB0 hsz
 go_wp2
 go_ret
 exact ⟨rfl,HB1.out⟩
theorem zQv {n k:Nat}{E:Nat→Req}(h:k<n):(atW k E (E k).z (E k).x (E k).y=-1∧atW n E (E k).z (E k).x (E k).y=(k:Int))∨(0≤atW k E (E k).z (E k).x (E k).y∧∃ i:Nat,i<k∧atW n E (E k).z (E k).x (E k).y=(i:Int)):=by
 rcases zCc (fun i=>isR (E i) (E k).z (E k).x (E k).y) k with ⟨h1,h2⟩ | ⟨i,hi,hg,hf,hn⟩
 ·exact .inl ⟨h1,xY (G:=fun i=>isR (E i) (E k).z (E k).x (E k).y) h (zWy _) h2⟩
 ·exact .inr ⟨by unfold atW;rw [hf];omega,i,hi,xY (G:=fun i=>isR (E i) (E k).z (E k).x (E k).y) (by omega) hg hn⟩
theorem zRp (e:Req):(zX1 e=0∧zN7 e=true)∨(zX1 e=3∧zN7 e=false):=by
 unfold zX1
 cases h:zN7 e <;> simp
theorem xK (a:Option Addr)(n cap:Nat)(E:Nat→Req)(w:World)(hp:xL w a n E)(hn:n≤1048576)(hcap:n≤cap) :
  Calls Tryz.prog 73 #[.slice a n cap] w fun e w'=>e=.returned (.int .i64 (zO n E))∧Bw w w':=by
 have HP:Hid (xL w a n E):=hp
 clear hp
 by_cases h8:(8:Int)<n
 ·have hz:Hid (zO n E=2):=by show _=_;unfold zO;rw [if_pos (by omega)]
  go_enter Tryz.func73,Tryz.ntmps73
  go_wp2
  go_ret
  exact ⟨zD hz.out.symm,Qb⟩
 ·have hz:Hid (zO n E=xN (vK E) 0 n):=by show _=_;unfold zO;rw [if_neg (by omega)]
  go_enter Tryz.func73,Tryz.ntmps73
  go_wp2
  go_loopw [11] (fun v wr=>∃ k:Nat,k≤n∧v=.int .i64 k∧(∀ j,j<k→vK E j=0)∧Bw w wr) (fun v _=>n - (intOf v).toNat)
  case atStart=>exact ⟨0,by omega,rfl,by omega,Below.refl _ _⟩
  case round =>
   obtain ⟨k,hk,rfl,hA,hB⟩:=hrel
   have HB:Hid (Bw w wr):=hB
   have HA:Hid (∀ j,j<k→vK E j=0):=hA
   by_cases hlt:k<n
   ·rcases HP.out with h0 | ⟨b,off,rfl,hbl,hpt⟩
    ·omega
    have HGr:Hid (zAj wr b off n E):=hpt.below hB hbl
    have hblr:b<wr.heap.size:=Nat.lt_of_lt_of_le hbl hB.size
    obtain ⟨f0,f1,f2,f3,f4⟩:=HGr.out k hlt
    have HLT:Hid (k<n):=hlt
    have first:Hid (∀ c,vK E k=c→c≠0→zO n E=c):=fun c hc h0=>by
     rw [hz.out,yJ (vK E) n 0 k (fun j _ hj=>HA.out j hj) (by omega) (by have:=HLT.out;omega) (by rw [hc];exact h0),hc]
    have HOK:Hid (vK E k=0→∀ j,j<k+1→vK E j=0):=fun h0 j hj=>by
     by_cases e:j=k
     ·rw [e];exact h0
     ·exact HA.out j (by omega)
    clear hB hA hpt
    have hi:(k:Int)<(n:Int):=by omega
    have hi0:(0:Int)≤(k:Int):=by omega
    go_wp2_with fail
    generalize hV:(wr.alloc _:World)=V
    have hBV:Bw wr V:=by subst hV;exact Qb
    have v0:∀ W',Bw V W'→W'.cell? ⟨wr.heap.size,0,none⟩=some (.int .i64 (E k).z):=Qc hV
    have v1:∀ W',Bw V W'→W'.cell? ⟨wr.heap.size,1,none⟩=some (.int .i64 (E k).x):=Qc hV
    have v2:∀ W',Bw V W'→W'.cell? ⟨wr.heap.size,2,none⟩=some (.int .i64 (E k).y):=Qc hV
    clear hV
    have HBV:Hid (Bw w V):=zA HB.out hBV
    have HGV:Hid (zAj V b off n E):=HGr.out.below hBV hblr
    have hblV:b<V.heap.size:=Nat.lt_of_lt_of_le hblr hBV.size
    clear hBV f0 f1 f2 f3 f4 HGr
    refine (zFw (E k) _).mono ?_
    rintro e w1 ⟨rfl,hb1⟩
    rcases zRp (E k) with ⟨hc0,hcB⟩ | ⟨hc3,hcB⟩
    ·rw [hc0]
     have hr1:Bw V w1:=hb1
     have hkn:(k:Int)≤(n:Int):=by omega
     have hkc:(k:Int)≤(cap:Int):=by omega
     have HH:Hid (∀ W',Bw V W'→Calls Tryz.prog 126 #[.slice (some ⟨b,off,none⟩) k cap,vT (E k).z (E k).x (E k).y] W' fun e w'=>e=.returned (.int .i64 (atW k E (E k).z (E k).x (E k).y))∧Below W'.heap.size W' w'):=fun W' h =>
      zD5 _ k cap E _ _ _ W' (.inr ⟨b,off,rfl,Nat.lt_of_lt_of_le hblV h.size,fun i hi=>(HGV.out.below h hblV) i (by have:=HLT.out;omega)⟩) (by omega)
     clear hc0 hb1
     rcases zQv HLT.out with ⟨hq,_⟩ | ⟨hq,_⟩
     ·have hok:Hid (vK E k=0):=zQa hcB hq
      rw [hq] at HH
      clear hq hcB
      generalize (E k).z=rz at *
      generalize (E k).x=rx at *
      generalize (E k).y=ry at *
      go_wp2_with fail
      go_region_held3 (fun W'=>Bw V W') ((repeat (first|exact Qr _ _|assumption|refine Qd ?_|refine Qa ?_ _|refine Qt ?_|refine Qs ?_ _|refine Qo ?_ ?_ _ _)))
       (first | (go_at_call 126;refine (HH.out _ (by assumption)).mono ?_;rintro e w' ⟨rfl,hb⟩) | fail)
      go_wp2
      go_roundw
      case rel=>exact ⟨k+1,by have:=HLT.out;omega,by go_num,HOK.out hok.out,zA HBV.out (by assumption)⟩
      case measure=>have:=HLT.out;simp [intOf];omega
     ·have hsc:Hid (zO n E=6):=first.out 6 (zG0 hcB hq) (by decide)
      have hq':(0:Int)≤atW k E (E k).z (E k).x (E k).y:=hq
      clear hq hcB
      generalize atW k E (E k).z (E k).x (E k).y=q at *
      generalize (E k).z=rz at *
      generalize (E k).x=rx at *
      generalize (E k).y=ry at *
      go_wp2_with fail
      go_region_held3 (fun W'=>Bw V W') ((repeat (first|exact Qr _ _|assumption|refine Qd ?_|refine Qa ?_ _|refine Qt ?_|refine Qs ?_ _|refine Qo ?_ ?_ _ _)))
       (first | (go_at_call 126;refine (HH.out _ (by assumption)).mono ?_;rintro e w' ⟨rfl,hb⟩) | fail)
      go_wp2
      go_ret
      exact ⟨zD hsc.out.symm,zA HBV.out (by assumption)⟩
    ·have hsc:Hid (zO n E=3):=first.out 3 (zD6 hcB) (by decide)
     rw [hc3]
     have HB1:Hid (Bw w w1):=zA HBV.out hb1
     clear hc3 hcB hb1
     go_wp2
     go_ret
     exact ⟨zD hsc.out.symm,HB1.out⟩
   ·have hsc:Hid (zO n E=0):=by
     show _=_
     rw [hz.out]
     exact xR _ _ _ (fun j _ hj=>HA.out j (by omega))
    go_wp2
    go_ret
    exact ⟨zD hsc.out.symm,HB.out⟩
theorem zFh (a:Option Addr)(n cap:Nat)(E:Nat→Req)(w:World)(hp:xL w a n E)(hn:n≤1048576) :
  Calls Tryz.prog 61 #[.slice a n cap] w fun e w'=>e=.returned (.int .i64 (zO n E))∧Bw w w':=by
 have HP:Hid (xL w a n E):=hp
 clear hp
 by_cases h8:(8:Int)<n
 ·have hz:Hid (zO n E=2):=by show _=_;unfold zO;rw [if_pos (by omega)]
  go_enter Tryz.func61,Tryz.ntmps61
  go_wp2
  go_ret
  exact ⟨zD hz.out.symm,Qb⟩
 ·have hz:Hid (zO n E=xN (vK E) 0 n):=by show _=_;unfold zO;rw [if_neg (by omega)]
  go_enter Tryz.func61,Tryz.ntmps61
  go_wp2
  go_loopw [3] (fun v wr=>∃ k:Nat,k≤n∧v=.int .i64 k∧(∀ j,j<k→vK E j=0)∧Bw w wr) (fun v _=>n - (intOf v).toNat)
  case atStart=>exact ⟨0,by omega,rfl,by omega,Below.refl _ _⟩
  case round =>
   obtain ⟨k,hk,rfl,hA,hB⟩:=hrel
   have HB:Hid (Bw w wr):=hB
   have HA:Hid (∀ j,j<k→vK E j=0):=hA
   by_cases hlt:k<n
   ·rcases HP.out with h0 | ⟨b,off,rfl,hbl,hpt⟩
    ·omega
    have HGr:Hid (zAj wr b off n E):=hpt.below hB hbl
    have hblr:b<wr.heap.size:=Nat.lt_of_lt_of_le hbl hB.size
    have hr:Bw wr wr:=Below.refl _ _
    obtain ⟨f0,f1,f2,_,_⟩:=HGr.out k hlt
    have HLT:Hid (k<n):=hlt
    have first:Hid (∀ c,vK E k=c→c≠0→zO n E=c):=fun c hc h0=>by
     rw [hz.out,yJ (vK E) n 0 k (fun j _ hj=>HA.out j hj) (by omega) (by have:=HLT.out;omega) (by rw [hc];exact h0),hc]
    have HOK:Hid (vK E k=0→∀ j,j<k+1→vK E j=0):=fun h0 j hj=>by
     by_cases e:j=k
     ·rw [e];exact h0
     ·exact HA.out j (by omega)
    clear hB hA hpt
    have hi:(k:Int)<(n:Int):=by omega
    have hi0:(0:Int)≤(k:Int):=by omega
    go_wp2_with fail
    refine (zDe _ _ _ _).mono ?_
    rintro e w1 ⟨rfl,hb1⟩
    have HB1:Hid (Bw w w1):=zA HB.out hb1
    have HG1:Hid (zAj w1 b off n E):=HGr.out.below hb1 hblr
    have hbl1:b<w1.heap.size:=Nat.lt_of_lt_of_le hblr hb1.size
    clear f0 f1 f2 hb1 hr
    rcases zA6 (E k).z (E k).x (E k).y with ⟨h1,h2⟩ | ⟨h1,h2⟩
    ·rw [h1]
     obtain ⟨g0,g1,g2,g3,g4⟩:=HG1.out k hlt
     clear h1
     cases hcB:(inB (E k).du 0 9999 && inB (E k).tr 1 99)
     ·have hsc:Hid (zO n E=3):=first.out 3 (zD6 (by simp [zN7,h2,hcB])) (by decide)
      clear h2
      cases h3:inB (E k).du 0 9999
      ·clear hcB
       go_wp2_with (go_at_call 59;refine (zY _ _ _ _).mono ?_;rintro e w' ⟨rfl,rfl⟩)
       go_ret
       exact ⟨zD hsc.out.symm,HB1.out⟩
      ·have h4:inB (E k).tr 1 99=false:=by rw [h3] at hcB;simpa using hcB
       clear hcB
       go_wp2_with (go_at_call 59;refine (zY _ _ _ _).mono ?_;rintro e w' ⟨rfl,rfl⟩)
       go_ret
       exact ⟨zD hsc.out.symm,HB1.out⟩
     ·have h3:inB (E k).du 0 9999=true:=by simp at hcB;exact hcB.1
      have h4:inB (E k).tr 1 99=true:=by simp at hcB;exact hcB.2
      have hrq:Hid (zN7 (E k)=true):=by show _=_;simp [zN7,h2,hcB]
      clear hcB h2
      have HH:Hid (Calls Tryz.prog 106 #[.slice (some ⟨b,off,none⟩) n cap,vT (E k).z (E k).x (E k).y] w1 fun e w'=>e=.returned (.int .i64 (atW n E (E k).z (E k).x (E k).y))∧Bw w1 w') :=
       zMx _ n cap E _ _ _ w1 (.inr ⟨b,off,rfl,hbl1,HG1.out⟩) (by omega)
      rcases zQv HLT.out with ⟨hq,hq2⟩ | ⟨hq,i,hik,hq2⟩
      ·have hok:Hid (vK E k=0):=zQa hrq.out hq
       rw [hq2] at HH
       clear hq hq2
       generalize (E k).z=rz at *
       generalize (E k).x=rx at *
       generalize (E k).y=ry at *
       generalize (E k).du=rd at *
       generalize (E k).tr=rt at *
       go_wp2_with (first | (go_at_call 59;refine (zY _ _ _ _).mono ?_;rintro e w' ⟨rfl,rfl⟩) | (go_at_call 106;refine HH.out.mono ?_;rintro e w' ⟨rfl,hb⟩))
       go_roundw
       case rel=>exact ⟨k+1,by have:=HLT.out;omega,by go_num,HOK.out hok.out,zA HB1.out (by assumption)⟩
       case measure=>have:=HLT.out;simp [intOf];omega
      ·have hsc:Hid (zO n E=6):=first.out 6 (zG0 hrq.out hq) (by decide)
       have hne:((i:Int) == (k:Int))=false:=by simp;omega
       rw [hq2] at HH
       clear hq hq2
       generalize (E k).z=rz at *
       generalize (E k).x=rx at *
       generalize (E k).y=ry at *
       generalize (E k).du=rd at *
       generalize (E k).tr=rt at *
       generalize (i:Int)=ii at *
       clear hik
       go_wp2_with (first | (go_at_call 59;refine (zY _ _ _ _).mono ?_;rintro e w' ⟨rfl,rfl⟩) | (go_at_call 106;refine HH.out.mono ?_;rintro e w' ⟨rfl,hb⟩))
       go_ret
       exact ⟨zD hsc.out.symm,zA HB1.out (by assumption)⟩
    ·have hsc:Hid (zO n E=3):=first.out 3 (zD6 (by simp [zN7,h2])) (by decide)
     rw [h1]
     clear h1 h2
     go_wp2
     go_ret
     exact ⟨zD hsc.out.symm,HB1.out⟩
   ·have hsc:Hid (zO n E=0):=by
     show _=_
     rw [hz.out]
     exact xR _ _ _ (fun j _ hj=>HA.out j (by omega))
    go_wp2
    go_ret
    exact ⟨zD hsc.out.symm,HB.out⟩
theorem zE2 {z x y wd ht:Int}(b:Nat)(w:World)(hA:uN w b z x y wd ht)(hr:zAi z x y wd ht=true):Calls Tryz.prog 107 #[.pointer (some ⟨b,0,none⟩)] w fun e w'=>∃ v,e=.returned v∧zFq w.heap.size w' v (uS z x y wd ht) (zB0 z x y wd)∧Bw w w':=by
 have e2:uS z x y wd ht=zGb y ht * zGb x wd:=by unfold uS;rw [if_pos hr]
 have hin:=zAf hr
 have nx:=zB2 (x:=x) hin.1.1
 have ny:=zB2 (x:=y) hin.1.2
 rw [e2]
 exact zUc b w hA hr rfl rfl rfl rfl rfl rfl ⟨⟨nx.1,nx.2.1⟩,by omega⟩ ⟨⟨ny.1,ny.2.1⟩,by omega⟩ rfl
def zEy (n:Nat)(E:Nat→Req)(z x y now:Int):Int:=or3 (zO n E) (zFs now) (zC9 z x y)
theorem zD7 {n:Nat}{E:Nat→Req}{z x y now:Int}(h:zEy n E z x y now=0):zO n E=0∧zFs now=0∧zC9 z x y=0:=by
 unfold zEy or3 at h
 by_cases h1:zO n E=0
 ·rw [if_pos h1] at h
  by_cases h2:zFs now=0
  ·rw [if_pos h2] at h
   exact ⟨h1,h2,h⟩
  ·rw [if_neg h2] at h
   exact absurd h h2
 ·rw [if_neg h1] at h
  exact absurd h h1
theorem zBh {n:Nat}{E:Nat→Req}(h:zO n E=0):n≤8:=by
 unfold zO at h
 by_cases h8:8<n
 ·rw [if_pos h8] at h;cases h
 ·omega
def zFp (n:Nat)(E:Nat→Req)(z x y now:Int):Int:=if zEy n E z x y now=0 then (if 0≤atW n E z x y then 0 else if 8≤n then 7 else 0) else zEy n E z x y now
def zAg (n:Nat)(E:Nat→Req)(z x y now:Int):List Req:=if zEy n E z x y now=0 then (if 0≤atW n E z x y then zV n E else if 8≤n then [] else zV n E ++ [⟨z,x,y,now+3,1⟩]) else []
def zA3 (n:Nat)(E:Nat→Req)(z x y now:Int):List Req:=if zEy n E z x y now=0 then (if 0≤atW n E z x y then [] else if 8≤n then [] else [⟨z,x,y,now+3,1⟩]) else []
theorem zPt {n:Nat}{E:Nat→Req}{z x y now:Int}(h:zEy n E z x y now≠0):zFp n E z x y now=zEy n E z x y now∧zAg n E z x y now=[]∧zA3 n E z x y now=[]:=by
 unfold zFp zAg zA3
 rw [if_neg h,if_neg h,if_neg h]
 exact ⟨rfl,rfl,rfl⟩
theorem zNz {n:Nat}{E:Nat→Req}{z x y now:Int}(h:zEy n E z x y now=0)(h2:0≤atW n E z x y):zFp n E z x y now=0∧zAg n E z x y now=zV n E∧zA3 n E z x y now=[]:=by
 unfold zFp zAg zA3
 rw [if_pos h,if_pos h,if_pos h,if_pos h2,if_pos h2,if_pos h2]
 exact ⟨rfl,rfl,rfl⟩
theorem zQw {n:Nat}{E:Nat→Req}{z x y now:Int}(h:zEy n E z x y now=0)(h2:¬ 0≤atW n E z x y)(h3:8≤n):zFp n E z x y now=7∧zAg n E z x y now=[]∧zA3 n E z x y now=[]:=by
 unfold zFp zAg zA3
 rw [if_pos h,if_pos h,if_pos h,if_neg h2,if_neg h2,if_neg h2,if_pos h3,if_pos h3,if_pos h3]
 exact ⟨rfl,rfl,rfl⟩
theorem zU8 {n:Nat}{E:Nat→Req}{z x y now:Int}(h:zEy n E z x y now=0)(h2:¬ 0≤atW n E z x y)(h3:¬ 8≤n):zFp n E z x y now=0∧zAg n E z x y now=zV n E ++ [⟨z,x,y,now+3,1⟩]∧zA3 n E z x y now=[⟨z,x,y,now+3,1⟩]:=by
 unfold zFp zAg zA3
 rw [if_pos h,if_pos h,if_pos h,if_neg h2,if_neg h2,if_neg h2,if_neg h3,if_neg h3,if_neg h3]
 exact ⟨rfl,rfl,rfl⟩
theorem zTs (ts:Array TypeId)(t:TypeId)(a b:Int)(w:World):(Builtin.min_ ts t #[.int .i64 a,.int .i64 b]).run Tryz.prog w=.ok (.int .i64 (min a b)) w:=by
 simp only [Builtin.min_,Builtin.min2,List.foldlM]
 by_cases h:b<a
 ·have e:min a b=b:=by omega
  simp [h,e]
 ·have e:min a b=a:=by omega
  simp [h,e]
theorem zOn (V:World)(a b c:Value)(t:TypeId):zC (V.alloc (.cells #[a,b,c] t)) V.heap.size 3:=zC2 V a b c t
theorem zBy {W:World}{r:Nat}{a b c:Value}(hT:zC W r 3) :
  (((W.setCell ⟨r,0,none⟩ a).setCell ⟨r,1,none⟩ b).setCell ⟨r,2,none⟩ c).cell? ⟨r,0,none⟩=some a ∧
  (((W.setCell ⟨r,0,none⟩ a).setCell ⟨r,1,none⟩ b).setCell ⟨r,2,none⟩ c).cell? ⟨r,1,none⟩=some b ∧
  (((W.setCell ⟨r,0,none⟩ a).setCell ⟨r,1,none⟩ b).setCell ⟨r,2,none⟩ c).cell? ⟨r,2,none⟩=some c:=by
 obtain ⟨x0,h0⟩:=(hT 0 (by omega)).1
 obtain ⟨x1,h1⟩:=(hT 1 (by omega)).1
 obtain ⟨x2,h2⟩:=(hT 2 (by omega)).1
 have ne:∀ i j:Nat,i≠j→(⟨r,i,none⟩:Addr)≠⟨r,j,none⟩:=fun i j hij h=>hij (by injection h)
 refine ⟨?_,?_,?_⟩
 ·rw [zB (ne 2 0 (by omega)),zB (ne 1 0 (by omega))];exact zE h0
 ·rw [zB (ne 2 1 (by omega))];exact zE (by rw [zB (ne 0 1 (by omega))];exact h1)
 ·exact zE (by rw [zB (ne 1 2 (by omega)),zB (ne 0 2 (by omega))];exact h2)
theorem zG6 (w:World)(cs:Array Value)(t:TypeId):∀ j u,cs.toList[j]?=some u→(w.alloc (.cells cs t)).cell? ((⟨w.heap.size,0,none⟩:Addr).add j)=some u:=fun j u h=>by
 have h1:(w.alloc (.cells cs t)).cell? ⟨w.heap.size,j,none⟩=some u:=by
  rw [World.cell?_alloc_at _ _ _ _ rfl]
  simpa using h
 by_cases hj:j=0
 ·subst hj;simpa [Addr.add] using h1
 ·simpa [Addr.add,hj] using h1
theorem zAp {base:Nat}(w:World)(e:Req)(hb:base≤w.heap.size):yP base (w.alloc (.cells #[.int .i64 e.z,.int .i64 e.x,.int .i64 e.y] 104)) (.slice (some ⟨w.heap.size,0,none⟩) 1 1) [e] :=
 World.ownsRow_lit (base:=base) (size:=3) w #[.int .i64 e.z,.int .i64 e.x,.int .i64 e.y] 1 hb (by unfold maxLen;omega) rfl
theorem yO (e:Req):∀ u ∈ xD e,u.oneCell'=true:=fun u hu=>zBq [e] u (by rw [xC];exact hu)
theorem yL.slice {base:Nat}{w:World}{v:Value}{l:List Req}(h:yL base w v l):∃ a c,v=.slice a l.length c:=by
 obtain ⟨a,c,hv,_⟩:=h.own
 exact ⟨a,c,hv⟩
theorem yL.block {base:Nat}{w:World}{v:Value}{l:List Req}(h:yL base w v l):∀ s,v.ownBlock=some s→base≤s:=fun s hs=>by
 obtain ⟨_,h2 | ⟨g,cp,cur,hv,hg,_⟩⟩:=h
 ·rw [h2.1] at hs;cases hs
 ·rw [hv] at hs
  simp [Value.ownBlock] at hs
  omega
theorem yL.set3 {base B r:Nat}{w:World}{v a b c:Value}{l:List Req}(h:yL B w v l)(hr:r<B)(hB:base≤B):yL base (((w.setCell ⟨r,0,none⟩ a).setCell ⟨r,1,none⟩ b).setCell ⟨r,2,none⟩ c) v l :=
 zS (zP (zP (zP h hr) hr) hr) hB
theorem yP.set3 {base B r:Nat}{w:World}{v a b c:Value}{l:List Req}(h:yP B w v l)(hr:r<B)(hB:base≤B):yP base (((w.setCell ⟨r,0,none⟩ a).setCell ⟨r,1,none⟩ b).setCell ⟨r,2,none⟩ c) v l :=
 zS (zP (zP (zP h hr) hr) hr) hB
theorem zRj (e:Req)(now:Int)(w:World)(hn:0≤now∧now≤9000)(ht:0≤e.tr∧e.tr≤99):Calls Tryz.prog 174 #[zLx e,.int .i64 now] w fun r w'=>r=.returned (zLx ⟨e.z,e.x,e.y,now+3,min (e.tr+1) 99⟩)∧Bw w w':=by
 obtain ⟨n0,n1⟩:=hn
 obtain ⟨t0,t1⟩:=ht
 have hmin:=zTs
 go_enter Tryz.func174,Tryz.ntmps174
 go_wp2
 exact bodyPost_ret (v:=zLx ⟨e.z,e.x,e.y,now+3,min (e.tr+1) 99⟩) (by simp [results,Tryz.results174,go_sem]) rfl ⟨rfl,Qb⟩
theorem zP9 {T:Array Value}{Wf:World}{r:Nat}{c:Int}{v1 v2:Value}(hT:T[6]?.getD undef=.pointer (some ⟨r,0,none⟩))(h0:Wf.cell? ⟨r,0,none⟩=some (.int .i64 c))(h1:Wf.cell? ⟨r,1,none⟩=some v1)(h2:Wf.cell? ⟨r,2,none⟩=some v2) :
  (results Tryz.f133 T).run Tryz.prog Wf=.ok (rqV c v1 v2) Wf:=by
 simp [results,Tryz.results133,go_sem,hT,h0,h1,h2]
theorem zF0 (a:Option Addr)(n cap:Nat)(E:Nat→Req)(z x y now:Int)(w:World)(hp:xL w a n E)(hn:n≤1048576)(hcap:n≤cap) :
  Calls Tryz.prog 133 #[.slice a n cap,vT z x y,.int .i64 now] w fun e w'=>∃ v1 v2,e=.returned (rqV (zFp n E z x y now) v1 v2)∧yP w.heap.size w' v1 (zA3 n E z x y now)∧yL w.heap.size w' v2 (zAg n E z x y now)∧Bw w w':=by
 obtain ⟨i0,hi,hz0,hz1,hz2⟩:=info_parts zBo
 have HP:Hid (xL w a n E):=hp
 have HT:Hid (∀ W,Calls Tryz.prog 121 #[.int .i64 now] W fun e w'=>e=.returned (.int .i64 (zFs now))∧Bw W w'):=fun W=>zDx now W
 have HR:Hid (∀ W,Calls Tryz.prog 166 #[vT z x y] W fun e w'=>e=.returned (.int .i64 (zC9 z x y))∧Bw W w'):=fun W=>zAn z x y W
 have HF0:Hid (∀ W,Bw w W→Calls Tryz.prog 73 #[.slice a n cap] W fun e w'=>e=.returned (.int .i64 (zO n E))∧Bw W w'):=fun W h=>xK a n cap E W (hp.below h) hn hcap
 have HI:Hid (∀ W,Bw w W→Calls Tryz.prog 126 #[.slice a n cap,vT z x y] W fun e w'=>e=.returned (.int .i64 (atW n E z x y))∧Bw W w'):=fun W h=>zD5 a n cap E z x y W (hp.below h) hn
 have HC:Hid (∀ W,Bw w W→Calls Tryz.prog 173 #[.slice a n cap] W fun e w'=>∃ v,e=.returned v∧yL W.heap.size w' v (zV n E)∧Bw W w'):=fun W h=>zFb a n cap E W (hp.below h) hn
 have HPC:Hid (zEy n E z x y now=or3 (zO n E) (zFs now) (zC9 z x y)):=rfl
 have HLE:Hid (zEy n E z x y now=0→(0≤now∧now≤9000)∧n≤8):=fun h=>⟨zTd (zD7 h).2.1,zBh (zD7 h).1⟩
 clear hp
 generalize zO n E=k1 at *
 generalize zFs now=k2 at *
 generalize zC9 z x y=k3 at *
 go_enter Tryz.func133,Tryz.ntmps133
 go_wp2_with fail
 generalize hW:((w.alloc _).alloc _:World)=W
 have HB0:Hid (Bw w W):=by show Below _ _ _;subst hW;exact Qb
 have HSZ:Hid (w.heap.size+1<W.heap.size):=by show _<_;subst hW;simp
 have c0:∀ W',Bw W W'→W'.cell? ⟨w.heap.size,0,none⟩=some (.int .i64 z):=fun W' h=>by rw [h.cell (by subst hW;simp;omega)];subst hW;simp [go_sem]
 have c1:∀ W',Bw W W'→W'.cell? ⟨w.heap.size,1,none⟩=some (.int .i64 x):=fun W' h=>by rw [h.cell (by subst hW;simp;omega)];subst hW;simp [go_sem]
 have c2:∀ W',Bw W W'→W'.cell? ⟨w.heap.size,2,none⟩=some (.int .i64 y):=fun W' h=>by rw [h.cell (by subst hW;simp;omega)];subst hW;simp [go_sem]
 have HTH:Hid (zC W (w.heap.size+1) 3):=by
  show zC _ _ _
  subst hW
  have:=zOn (w.alloc (.cells #[.int .i64 z,.int .i64 x,.int .i64 y] 104)) (.int .i64 0) (.slice none 0 0) (.slice none 0 0) 165
  simpa using this
 clear hW
 have HF:Hid (∀ W',Bw W W'→Calls Tryz.prog 73 #[.slice a n cap] W' fun e w'=>e=.returned (.int .i64 k1)∧Below W'.heap.size W' w'):=fun W' h=>HF0.out W' (zA HB0.out h)
 refine wp_region_noPanic ?_
 refine wp_region_held_drew (S:=fun W'=>Bw W W') (by kernel_rfl) (by exact Qb) (fun hHeld=>?_)
 have hX0:Bw W W.drew:=hHeld
 refine zF (i:=0) (d:=some 9) rfl rfl ?_
 try simp only [Act.put,Qx,Qy,Qz]
 refine zF (i:=2) (d:=some 11) rfl rfl ?_
 try simp only [Act.put,Qx,Qy,Qz]
 refine zF (i:=4) (d:=some 13) rfl rfl ?_
 try simp only [Act.put,Qx,Qy,Qz]
 refine zN 1 fun K hK=>?_
 go_simp
 refine Calls.mono (HF.out _ hX0) ?_
 rintro e wo1 ⟨rfl,hbo1⟩
 have hX1:Bw W wo1:=zA hX0 hbo1
 go_wp2_with fail
 refine hK.out _ _ hX1 (fun hHeld=>?_)
 clear hK K
 try simp only [Act.put,Qx,Qy,Qz]
 refine zN 3 fun K hK=>?_
 go_simp
 refine Calls.mono (HT.out _) ?_
 rintro e wo2 ⟨rfl,hbo2⟩
 have hX2:Bw W wo2:=zA hX1 hbo2
 go_wp2_with fail
 refine hK.out _ _ hX2 (fun hHeld=>?_)
 clear hK K
 try simp only [Act.put,Qx,Qy,Qz]
 refine zN 5 fun K hK=>?_
 go_simp
 refine Calls.mono (HR.out _) ?_
 rintro e wo3 ⟨rfl,hbo3⟩
 have hX3:Bw W wo3:=zA hX2 hbo3
 go_wp2_with fail
 refine hK.out _ _ hX3 (fun hHeld=>?_)
 clear hK K
 try simp only [Act.put,Qx,Qy,Qz]
 refine zN 6 fun K hK=>?_
 go_simp
 generalize hw4:(World.alloc _ _:World)=wo4
 have hb4:Bw wo3 wo4:=by subst hw4;exact Qb
 have g0:wo4.cell? ⟨wo3.heap.size,0,none⟩=some (.int .i64 k1):=by subst hw4;simp [go_sem]
 have g1:wo4.cell? ⟨wo3.heap.size,1,none⟩=some (.int .i64 k2):=by subst hw4;simp [go_sem]
 have g2:wo4.cell? ⟨wo3.heap.size,2,none⟩=some (.int .i64 k3):=by subst hw4;simp [go_sem]
 have hX4:Bw W wo4:=zA hX3 hb4
 clear hw4
 refine hK.out _ _ hX4 (fun hHeld=>?_)
 clear hK K hb4
 try simp only [Act.put,Qx,Qy,Qz]
 refine zN 7 fun K hK=>?_
 go_simp
 refine (zJt _ _ k1 k2 k3 _ g0 g1 g2).mono ?_
 rintro e w5 ⟨rfl,rfl⟩
 go_wp2_with fail
 refine hK.out _ _ hX4 (fun hHeld=>?_)
 clear hK K g0 g1 g2
 try simp only [Act.put,Qx,Qy,Qz]
 refine zF (i:=8) (d:=some 7) rfl rfl ?_
 try simp only [Act.put,Qx,Qy,Qz]
 refine wpAnyH_done (by kernel_rfl) ?_ _
 refine NoPanic.normal ?_
 simp only [Exit.then]
 refine (by assumption:∀ (a:Act) (w:World),_→_) _ _ ?_
 have hB5:Bw W w5:=hX4
 have hT5:=HTH.out.below hB5
 have HSZ5:Hid (w.heap.size+1<w5.heap.size):=by have:=hB5.size;have:=HSZ.out;show _<_;omega
 have HBS:Hid (W.heap.size≤w5.heap.size):=hB5.size
 rw [← HPC.out]
 clear hX0 hX1 hX2 hX3 hX4 hHeld hbo1 hbo2 hbo3 HF HF0 HT HR
 by_cases hp0:zEy n E z x y now=0
 ·rw [hp0]
  obtain ⟨⟨n0,n1⟩,hn8⟩:=HLE.out hp0
  have HP0:Hid (zEy n E z x y now=0):=hp0
  clear hp0 hT5
  go_wp2_with fail
  refine (HC.out _ (zA HB0.out hB5)).mono ?_
  rintro e w6 ⟨v,rfl,hrow,hb6⟩
  obtain ⟨va,vc,hv⟩:=hrow.slice
  rw [yN] at hv
  subst hv
  have hB6:Bw W w6:=zA hB5 hb6
  have HRW:Hid (yL w5.heap.size w6 (.slice va n vc) (zV n E)):=hrow
  have HS6:Hid (w5.heap.size≤w6.heap.size):=hb6.size
  have m0:=c0 w6 hB6
  have m1:=c1 w6 hB6
  have m2:=c2 w6 hB6
  clear hb6 hrow hB5
  go_wp2_with fail
  refine (HI.out _ (zA HB0.out hB6)).mono ?_
  rintro e w7 ⟨rfl,hb7⟩
  have hB7:Bw W w7:=zA hB6 hb7
  have HRW7:Hid (yL w5.heap.size w7 (.slice va n vc) (zV n E)):=HRW.out.below hb7
  have hT7:=HTH.out.below hB7
  have hs7:w5.heap.size≤w7.heap.size:=Nat.le_trans HS6.out hb7.size
  have k0:=c0 w7 hB7
  have k1':=c1 w7 hB7
  have k2':=c2 w7 hB7
  have t0:=hT7.cell 0 (by omega)
  have t1:=hT7.cell 1 (by omega)
  have t2:=hT7.cell 2 (by omega)
  have f0:=(hT7 0 (by omega)).2
  have f1:=(hT7 1 (by omega)).2
  have f2:=(hT7 2 (by omega)).2
  have HT7:Hid (zC w7 (w.heap.size+1) 3):=hT7
  clear hT7 hb7 HRW HI HC m0 m1 m2
  by_cases hat:0≤atW n E z x y
  ·obtain ⟨ha,hl,hs⟩:=zNz HP0.out hat
   have HA:Hid (zFp n E z x y now=0):=ha
   have HL:Hid (zAg n E z x y now=zV n E):=hl
   have HS:Hid (zA3 n E z x y now=[]):=hs
   clear ha hl hs
   generalize atW n E z x y=q at *
   go_wp2_with fail
   obtain ⟨q0,q1,q2⟩:=zBy (a:=.int .i64 0) (b:=.slice none 0 0) (c:=.slice va n vc) HT7.out
   refine bodyPost_ret (zP9 rfl q0 q1 q2) rfl ⟨_,_,by rw [HA.out],by rw [HS.out];exact yP.no _ _,by rw [HL.out];exact HRW7.out.set3 HSZ5.out (by have:=HSZ5.out;omega),?_⟩
   exact (((zA HB0.out hB7).setCell (Nat.le_succ _) _).setCell (Nat.le_succ _) _).setCell (Nat.le_succ _) _
  ·by_cases h8:8≤n
   ·obtain ⟨ha,hl,hs⟩:=zQw HP0.out hat h8
    have HA:Hid (zFp n E z x y now=7):=ha
    have HL:Hid (zAg n E z x y now=[]):=hl
    have HS:Hid (zA3 n E z x y now=[]):=hs
    obtain rfl:n=8:=by omega
    clear ha hl hs
    generalize atW 8 E z x y=q at *
    go_wp2_with fail
    obtain ⟨q0,q1,q2⟩:=zBy (a:=.int .i64 7) (b:=.slice none 0 0) (c:=.slice none 0 0) HT7.out
    refine bodyPost_ret (zP9 rfl q0 q1 q2) rfl ⟨_,_,by rw [HA.out],by rw [HS.out];exact yP.no _ _,by rw [HL.out];exact yL.no _ _,?_⟩
    exact (((zA HB0.out hB7).setCell (Nat.le_succ _) _).setCell (Nat.le_succ _) _).setCell (Nat.le_succ _) _
   ·obtain ⟨ha,hl,hs⟩:=zU8 HP0.out hat h8
    have HA:Hid (zFp n E z x y now=0):=ha
    have HL:Hid (zAg n E z x y now=zV n E ++ [⟨z,x,y,now+3,1⟩]):=hl
    have HS:Hid (zA3 n E z x y now=[⟨z,x,y,now+3,1⟩]):=hs
    have HLEN:Hid ((zV n E).length=n):=yN n E
    have hn8':((n:Int) == 8)=false:=by simp;omega
    clear ha hl hs t0 t1 t2 f0 f1 f2
    generalize atW n E z x y=q at *
    go_wp2_with fail
    refine (zRj ⟨z,x,y,0,0⟩ now _ ⟨n0,n1⟩ ⟨by simp,by simp⟩).mono ?_
    rintro e w8 ⟨rfl,hb8⟩
    have hB8:Bw W w8:=zA hB7 hb8
    have HR8:Hid (yL w5.heap.size w8 (.slice va n vc) (zV n E)):=HRW7.out.below hb8
    have hs8:w5.heap.size≤w8.heap.size:=Nat.le_trans hs7 hb8.size
    clear hb8 k0 k1' k2' HRW7 HT7
    have hm1:min ((0:Int)+1) 99=1:=by decide
    dsimp only
    simp only [hm1]
    go_wp2_with (first
     | (at_builtin;go_must (refine wpList_append_own _ rfl _ _ 36 rfl w5.heap.size 106 i0 (.agg #[.int .i64 0,.int .i64 0,.int .i64 0,.int .i64 0,.int .i64 0]) 5 40 Tryz.underlying36 hi hz0 hz1 hz2 rfl (by decide) (.slice va n vc) n (yI (zV n E)) rfl ?r0 ⟨w8.heap.size,0,none⟩ 1 1 (xD ⟨z,x,y,now+3,1⟩) rfl rfl ?r1 ?r2 ?r3 ?r4 ?r5 ?_)))
    case r0 =>
     have h:=HR8.out
     unfold yL at h
     rw [HLEN.out] at h
     exact World.ownsRow.alloc h _
    case r1=>exact zG6 _ _ _
    case r2=>exact yO _
    case r3=>unfold maxLen;omega
    case r4=>omega
    case r5=>simp;omega
    intro v' w9 hown' hgrow hnil
    have HR9:yL w5.heap.size w9 v' (zV n E ++ [⟨z,x,y,now+3,1⟩]):=by
     unfold yL
     rw [xI,xC,List.length_append,HLEN.out]
     exact hown'
    have hB9:Bw W w9:=by
     refine (Below.alloc hB8 hB8.size _).trans (xJ hgrow (fun s hs=>?_) (by have:=hB8.size;simp;omega))
     have:=HR8.out.block s hs
     have:=HBS.out
     omega
    have hs9:w5.heap.size≤w9.heap.size:=by have:=hgrow.size;simp at this;omega
    obtain ⟨va',vc',hv'⟩:=yL.slice HR9
    have hl1:(zV n E ++ [(⟨z,x,y,now+3,1⟩:Req)]).length=n+1:=by rw [List.length_append,yN];rfl
    rw [hl1] at hv'
    subst hv'
    have HR9':Hid (yL w5.heap.size w9 (.slice va' (n+1) vc') (zV n E ++ [⟨z,x,y,now+3,1⟩])):=HR9
    clear hl1
    have k0:=c0 w9 hB9
    have k1':=c1 w9 hB9
    have k2':=c2 w9 hB9
    have hT9:=HTH.out.below hB9
    have HT9:Hid (zC (w9.alloc (.cells #[.int .i64 z,.int .i64 x,.int .i64 y] 104)) (w.heap.size+1) 3):=hT9.below (by exact Qb)
    have t0:=HT9.out.cell 0 (by omega)
    have t1:=HT9.out.cell 1 (by omega)
    have t2:=HT9.out.cell 2 (by omega)
    have f0:=(HT9.out 0 (by omega)).2
    have f1:=(HT9.out 1 (by omega)).2
    have f2:=(HT9.out 2 (by omega)).2
    have HB9:Hid (Bw w (w9.alloc (.cells #[.int .i64 z,.int .i64 x,.int .i64 y] 104))):=by
     have h1:Bw w w9:=zA HB0.out hB9
     show Below _ _ _
     exact Qb
    clear hT9 hown' hgrow hnil HR9 HR8 hB8
    go_wp2_with fail
    obtain ⟨q0,q1,q2⟩:=zBy (a:=.int .i64 0) (b:=.slice (some ⟨w9.heap.size,0,none⟩) 1 1) (c:=.slice va' (n+1) vc') HT9.out
    refine bodyPost_ret (zP9 rfl q0 q1 q2) rfl ⟨_,_,by rw [HA.out],?_,?_,?_⟩
    ·rw [HS.out];exact (zAp w9 ⟨z,x,y,now+3,1⟩ hs9).set3 HSZ5.out (by have:=HSZ5.out;omega)
    ·rw [HL.out];exact (HR9'.out.below (by exact Qb)).set3 HSZ5.out (by have:=HSZ5.out;omega)
    ·exact ((HB9.out.setCell (Nat.le_succ _) _).setCell (Nat.le_succ _) _).setCell (Nat.le_succ _) _
 ·have hpb:(zEy n E z x y now == 0)=false:=by simpa using hp0
  obtain ⟨ha,hl,hs⟩:=zPt hp0
  have HA:Hid (zFp n E z x y now=zEy n E z x y now):=ha
  have HL:Hid (zAg n E z x y now=[]):=hl
  have HS:Hid (zA3 n E z x y now=[]):=hs
  have t0:=hT5.cell 0 (by omega)
  have t1:=hT5.cell 1 (by omega)
  have t2:=hT5.cell 2 (by omega)
  have f0:=(hT5 0 (by omega)).2
  have f1:=(hT5 1 (by omega)).2
  have f2:=(hT5 2 (by omega)).2
  clear hp0 ha hl hs
  have HT5:Hid (zC w5 (w.heap.size+1) 3):=hT5
  clear hT5
  go_wp2_with fail
  obtain ⟨q0,q1,q2⟩:=zBy (a:=.int .i64 (zEy n E z x y now)) (b:=.slice none 0 0) (c:=.slice none 0 0) HT5.out
  refine bodyPost_ret (zP9 rfl q0 q1 q2) rfl ⟨_,_,by rw [HA.out],by rw [HS.out];exact yP.no _ _,by rw [HL.out];exact yL.no _ _,?_⟩
  exact (((zA HB0.out hB5).setCell (Nat.le_succ _) _).setCell (Nat.le_succ _) _).setCell (Nat.le_succ _) _


end Go.Proofs.YtkjbafcalamgnaaGreat
