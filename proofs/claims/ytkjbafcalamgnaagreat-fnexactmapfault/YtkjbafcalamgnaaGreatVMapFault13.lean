/- Texts. -/
import Derived.Test.YtkjbafcalamgnaaGreatVMapFault11
set_option linter.unusedSimpArgs false
set_option linter.unusedVariables false
set_option maxRecDepth 100000
set_option maxHeartbeats 32000000
namespace Go.Proofs.YtkjbafcalamgnaaGreat
open Go.RowKit
theorem zI.store {W:World}{b off n:Nat}{X Y:Nat→Int}(h:zI W b off n X Y){r o:Nat}{v:Value}(hne:r≠b):zI (W.setCell ⟨r,o,none⟩ v) b off n X Y:=fun i hi=>by
 obtain ⟨h1,h2⟩:=h i hi
 refine ⟨?_,?_⟩
 ·rw [World.cell?_setCell_other]
  ·exact h1
  ·simp [hne]
 ·rw [World.cell?_setCell_other]
  ·exact h2
  ·simp [hne]
theorem zD.store {W:World}{b n:Nat}(h:zD W b n){r o:Nat}{v:Value}(hne:r≠b):zD (W.setCell ⟨r,o,none⟩ v) b n:=fun i hi=>by
 obtain ⟨u,hu⟩:=(h i hi).1
 refine ⟨⟨u,?_⟩,by rw [World.frozen?_setCell];exact (h i hi).2⟩
 rw [World.cell?_setCell_other]
 ·exact hu
 ·simp [hne]
theorem zDs (id la ki wi:Int)(a:Option Addr)(n cap:Nat)(X Y:Nat→Int)(lab:ByteArray)(pr:Int)(w:World)(hpt:xD w a n X Y)(hn:n≤1048576) :
  Calls Tryz.prog 96 #[.agg #[.int .i64 id,.int .i64 la,.int .i64 ki,.int .i64 wi,.slice a n cap,.string lab,.int .i64 pr]] w fun e w'=>∃ b,e=.returned (.agg #[.int .i64 id,.int .i64 la,.int .i64 ki,.int .i64 wi,.slice (some ⟨b,0,none⟩) n n,.string lab,.int .i64 pr])∧w.heap.size≤b∧b<w'.heap.size∧zI w' b 0 n X Y∧zD w' b (n * 2)∧Bw w w':=by
 have HP:Hid (xD w a n X Y):=hpt
 clear hpt
 go_enter Tryz.func96,Tryz.ntmps96
 go_wp2_with fail
 generalize hW:(((w.alloc _).alloc _).alloc _:World)=W
 have hB0:Bw w W:=by subst hW;exact Qb
 have hsz:W.heap.size=w.heap.size+1+1+1:=by subst hW;simp
 have c5:W.cell? ⟨w.heap.size,5,none⟩=some (.string lab):=by subst hW;simp [go_sem]
 have c6:W.cell? ⟨w.heap.size,6,none⟩=some (.int .i64 pr):=by subst hW;simp [go_sem]
 have o0:W.cell? ⟨w.heap.size+1+1,0,none⟩=some (.int .i64 id):=by subst hW;simp [go_sem]
 have o1:W.cell? ⟨w.heap.size+1+1,1,none⟩=some (.int .i64 la):=by subst hW;simp [go_sem]
 have o2:W.cell? ⟨w.heap.size+1+1,2,none⟩=some (.int .i64 ki):=by subst hW;simp [go_sem]
 have o3:W.cell? ⟨w.heap.size+1+1,3,none⟩=some (.int .i64 wi):=by subst hW;simp [go_sem]
 have o4:W.cell? ⟨w.heap.size+1+1,4,none⟩=some (.slice none 0 0):=by subst hW;simp [go_sem]
 have o5:W.cell? ⟨w.heap.size+1+1,5,none⟩=some (.string ⟨#[]⟩):=by subst hW;simp [go_sem]
 have o6:W.cell? ⟨w.heap.size+1+1,6,none⟩=some (.int .i64 0):=by subst hW;simp [go_sem]
 have z0:W.frozen? ⟨w.heap.size+1+1,0,none⟩=false:=by subst hW;simp [go_sem]
 have z1:W.frozen? ⟨w.heap.size+1+1,1,none⟩=false:=by subst hW;simp [go_sem]
 have z2:W.frozen? ⟨w.heap.size+1+1,2,none⟩=false:=by subst hW;simp [go_sem]
 have z3:W.frozen? ⟨w.heap.size+1+1,3,none⟩=false:=by subst hW;simp [go_sem]
 have z4:W.frozen? ⟨w.heap.size+1+1,4,none⟩=false:=by subst hW;simp [go_sem]
 have z5:W.frozen? ⟨w.heap.size+1+1,5,none⟩=false:=by subst hW;simp [go_sem]
 have z6:W.frozen? ⟨w.heap.size+1+1,6,none⟩=false:=by subst hW;simp [go_sem]
 have r0:W.cell? ⟨w.heap.size+1,0,none⟩=some (.int .i64 0):=by subst hW;simp [go_sem]
 have r1:W.cell? ⟨w.heap.size+1,1,none⟩=some (.int .i64 0):=by subst hW;simp [go_sem]
 have r2:W.cell? ⟨w.heap.size+1,2,none⟩=some (.int .i64 0):=by subst hW;simp [go_sem]
 have r3:W.cell? ⟨w.heap.size+1,3,none⟩=some (.int .i64 0):=by subst hW;simp [go_sem]
 have r4:W.cell? ⟨w.heap.size+1,4,none⟩=some (.slice none 0 0):=by subst hW;simp [go_sem]
 have r5:W.cell? ⟨w.heap.size+1,5,none⟩=some (.string ⟨#[]⟩):=by subst hW;simp [go_sem]
 have r6:W.cell? ⟨w.heap.size+1,6,none⟩=some (.int .i64 0):=by subst hW;simp [go_sem]
 have x0:W.frozen? ⟨w.heap.size+1,0,none⟩=false:=by subst hW;simp [go_sem]
 have x1:W.frozen? ⟨w.heap.size+1,1,none⟩=false:=by subst hW;simp [go_sem]
 have x2:W.frozen? ⟨w.heap.size+1,2,none⟩=false:=by subst hW;simp [go_sem]
 have x3:W.frozen? ⟨w.heap.size+1,3,none⟩=false:=by subst hW;simp [go_sem]
 have x4:W.frozen? ⟨w.heap.size+1,4,none⟩=false:=by subst hW;simp [go_sem]
 have x5:W.frozen? ⟨w.heap.size+1,5,none⟩=false:=by subst hW;simp [go_sem]
 have x6:W.frozen? ⟨w.heap.size+1,6,none⟩=false:=by subst hW;simp [go_sem]
 clear hW
 refine (zE3 a n cap X Y W (HP.out.below hB0) hn).mono ?_
 rintro e w1 ⟨b,rfl,hle,hlt,hp,ht,hb⟩
 have hlw:w.heap.size<W.heap.size:=by omega
 have hlo:w.heap.size+1+1<W.heap.size:=by omega
 have d5:w1.cell? ⟨w.heap.size,5,none⟩=some (.string lab):=(hb.cell (p:=⟨w.heap.size,5,none⟩) hlw).trans c5
 have d6:w1.cell? ⟨w.heap.size,6,none⟩=some (.int .i64 pr):=(hb.cell (p:=⟨w.heap.size,6,none⟩) hlw).trans c6
 have q0:w1.cell? ⟨w.heap.size+1+1,0,none⟩=some (.int .i64 id):=(hb.cell (p:=⟨w.heap.size+1+1,0,none⟩) hlo).trans o0
 have q1:w1.cell? ⟨w.heap.size+1+1,1,none⟩=some (.int .i64 la):=(hb.cell (p:=⟨w.heap.size+1+1,1,none⟩) hlo).trans o1
 have q2:w1.cell? ⟨w.heap.size+1+1,2,none⟩=some (.int .i64 ki):=(hb.cell (p:=⟨w.heap.size+1+1,2,none⟩) hlo).trans o2
 have q3:w1.cell? ⟨w.heap.size+1+1,3,none⟩=some (.int .i64 wi):=(hb.cell (p:=⟨w.heap.size+1+1,3,none⟩) hlo).trans o3
 have q4:w1.cell? ⟨w.heap.size+1+1,4,none⟩=some (.slice none 0 0):=(hb.cell (p:=⟨w.heap.size+1+1,4,none⟩) hlo).trans o4
 have q5:w1.cell? ⟨w.heap.size+1+1,5,none⟩=some (.string ⟨#[]⟩):=(hb.cell (p:=⟨w.heap.size+1+1,5,none⟩) hlo).trans o5
 have q6:w1.cell? ⟨w.heap.size+1+1,6,none⟩=some (.int .i64 0):=(hb.cell (p:=⟨w.heap.size+1+1,6,none⟩) hlo).trans o6
 have y0:w1.frozen? ⟨w.heap.size+1+1,0,none⟩=false:=(hb.frozen (p:=⟨w.heap.size+1+1,0,none⟩) hlo).trans z0
 have y1:w1.frozen? ⟨w.heap.size+1+1,1,none⟩=false:=(hb.frozen (p:=⟨w.heap.size+1+1,1,none⟩) hlo).trans z1
 have y2:w1.frozen? ⟨w.heap.size+1+1,2,none⟩=false:=(hb.frozen (p:=⟨w.heap.size+1+1,2,none⟩) hlo).trans z2
 have y3:w1.frozen? ⟨w.heap.size+1+1,3,none⟩=false:=(hb.frozen (p:=⟨w.heap.size+1+1,3,none⟩) hlo).trans z3
 have y4:w1.frozen? ⟨w.heap.size+1+1,4,none⟩=false:=(hb.frozen (p:=⟨w.heap.size+1+1,4,none⟩) hlo).trans z4
 have y5:w1.frozen? ⟨w.heap.size+1+1,5,none⟩=false:=(hb.frozen (p:=⟨w.heap.size+1+1,5,none⟩) hlo).trans z5
 have y6:w1.frozen? ⟨w.heap.size+1+1,6,none⟩=false:=(hb.frozen (p:=⟨w.heap.size+1+1,6,none⟩) hlo).trans z6
 have hl1:w.heap.size+1<W.heap.size:=by omega
 have s0:w1.cell? ⟨w.heap.size+1,0,none⟩=some (.int .i64 0):=(hb.cell (p:=⟨w.heap.size+1,0,none⟩) hl1).trans r0
 have s1:w1.cell? ⟨w.heap.size+1,1,none⟩=some (.int .i64 0):=(hb.cell (p:=⟨w.heap.size+1,1,none⟩) hl1).trans r1
 have s2:w1.cell? ⟨w.heap.size+1,2,none⟩=some (.int .i64 0):=(hb.cell (p:=⟨w.heap.size+1,2,none⟩) hl1).trans r2
 have s3:w1.cell? ⟨w.heap.size+1,3,none⟩=some (.int .i64 0):=(hb.cell (p:=⟨w.heap.size+1,3,none⟩) hl1).trans r3
 have s4:w1.cell? ⟨w.heap.size+1,4,none⟩=some (.slice none 0 0):=(hb.cell (p:=⟨w.heap.size+1,4,none⟩) hl1).trans r4
 have s5:w1.cell? ⟨w.heap.size+1,5,none⟩=some (.string ⟨#[]⟩):=(hb.cell (p:=⟨w.heap.size+1,5,none⟩) hl1).trans r5
 have s6:w1.cell? ⟨w.heap.size+1,6,none⟩=some (.int .i64 0):=(hb.cell (p:=⟨w.heap.size+1,6,none⟩) hl1).trans r6
 have t0:w1.frozen? ⟨w.heap.size+1,0,none⟩=false:=(hb.frozen (p:=⟨w.heap.size+1,0,none⟩) hl1).trans x0
 have t1:w1.frozen? ⟨w.heap.size+1,1,none⟩=false:=(hb.frozen (p:=⟨w.heap.size+1,1,none⟩) hl1).trans x1
 have t2:w1.frozen? ⟨w.heap.size+1,2,none⟩=false:=(hb.frozen (p:=⟨w.heap.size+1,2,none⟩) hl1).trans x2
 have t3:w1.frozen? ⟨w.heap.size+1,3,none⟩=false:=(hb.frozen (p:=⟨w.heap.size+1,3,none⟩) hl1).trans x3
 have t4:w1.frozen? ⟨w.heap.size+1,4,none⟩=false:=(hb.frozen (p:=⟨w.heap.size+1,4,none⟩) hl1).trans x4
 have t5:w1.frozen? ⟨w.heap.size+1,5,none⟩=false:=(hb.frozen (p:=⟨w.heap.size+1,5,none⟩) hl1).trans x5
 have t6:w1.frozen? ⟨w.heap.size+1,6,none⟩=false:=(hb.frozen (p:=⟨w.heap.size+1,6,none⟩) hl1).trans x6
 have hne:w.heap.size+1+1≠b:=by omega
 have hne1:w.heap.size+1≠b:=by omega
 have hS1:w.heap.size≤w.heap.size+1:=by omega
 have hS2:w.heap.size≤w.heap.size+1+1:=by omega
 have hge:w.heap.size≤b:=by omega
 have HP1:Hid (zI w1 b 0 n X Y):=hp
 have HT1:Hid (zD w1 b (n * 2)):=ht
 clear ht
 have HB1:Hid (Bw w w1):=zA hB0 hb
 clear r0 r1 r2 r3 r4 r5 r6 x0 x1 x2 x3 x4 x5 x6 hl1 o0 o1 o2 o3 o4 o5 o6 z0 z1 z2 z3 z4 z5 z6 c5 c6 hp hb hB0 hsz hle hlw hlo
 go_wp2
 exact bodyPost_ret (v:=.agg #[.int .i64 id,.int .i64 la,.int .i64 ki,.int .i64 wi,.slice (some ⟨b,0,none⟩) n n,.string lab,.int .i64 pr]) (by simp [results,Tryz.results96,go_sem, *]) rfl ⟨b,rfl,hge,by simpa using hlt,((((((((((HP1.out).store hne).store hne).store hne).store hne1).store hne1).store hne1).store hne1).store hne1).store hne1).store hne1,((((((((((HT1.out).store hne).store hne).store hne).store hne1).store hne1).store hne1).store hne1).store hne1).store hne1).store hne1,((((((((((HB1.out).setCell hS2 _).setCell hS2 _).setCell hS2 _).setCell hS1 _).setCell hS1 _).setCell hS1 _).setCell hS1 _).setCell hS1 _).setCell hS1 _).setCell hS1 _⟩
theorem zDt (id la ki wi:Int)(a:Option Addr)(n cap:Nat)(X Y:Nat→Int)(lab:ByteArray)(pr:Int)(w:World)(hpt:xD w a n X Y)(hn:n≤1048576) :
  Calls Tryz.prog 96 #[.agg #[.int .i64 id,.int .i64 la,.int .i64 ki,.int .i64 wi,.slice a n cap,.string lab,.int .i64 pr]] w fun e w'=>∃ b,e=.returned (.agg #[.int .i64 id,.int .i64 la,.int .i64 ki,.int .i64 wi,.slice (some ⟨b,0,none⟩) n n,.string lab,.int .i64 pr])∧w.heap.size≤b∧b<w'.heap.size∧zI w' b 0 n X Y∧Bw w w' :=
 (zDs id la ki wi a n cap X Y lab pr w hpt hn).mono fun e w' ⟨b,h1,h2,h3,h4,_,h6⟩=>⟨b,h1,h2,h3,h4,h6⟩
theorem zG3 (a:Option Addr)(n cap left:Nat)(w:World)(hl:left≤1048576)(hn:left<n)(hm:n≤maxLen) :
  Calls Tryz.prog 142 #[.slice a n cap,.int .i64 left] w fun e w'=>e=.returned (.int .i64 (-1))∧w=w':=by
 unfold maxLen at hm
 have hneg:(left:Int) - (n:Int)<0:=by omega
 go_enter Tryz.func142,Tryz.ntmps142
 go_wp2
 go_ret
 exact ⟨rfl,rfl⟩
theorem zBs (a:Option Addr)(n cap left:Nat)(w:World)(hl:left≤1048576)(hn:n≤left) :
  Calls Tryz.prog 142 #[.slice a n cap,.int .i64 left] w fun e w'=>e=.returned (.int .i64 ((left:Int) - (n:Int)))∧w=w':=by
 have hneg:¬ (left:Int) - (n:Int)<0:=by omega
 go_enter Tryz.func142,Tryz.ntmps142
 go_wp2
 go_ret
 exact ⟨rfl,rfl⟩
def szF (left n s:Nat):Int:=if left<n+s then -1 else (left:Int) - (n:Int) - (s:Int)
theorem zDy (id la ki wi:Int)(a:Option Addr)(n cap:Nat)(lab:ByteArray)(pr:Int)(left:Nat)(w:World)(hl:left≤1048576)(hn:n≤maxLen)(hs:lab.size≤maxLen) :
  Calls Tryz.prog 94 #[.agg #[.int .i64 id,.int .i64 la,.int .i64 ki,.int .i64 wi,.slice a n cap,.string lab,.int .i64 pr],.int .i64 left] w fun e w'=>e=.returned (.int .i64 (szF left n lab.size))∧Bw w w':=by
 have hs':lab.size≤9223372036854775807:=by unfold maxLen at hs;omega
 clear hs
 by_cases h1:left<n
 ·have hz:Hid (szF left n lab.size=-1):=by show _=_;unfold szF;rw [if_pos (by omega)]
  go_enter Tryz.func94,Tryz.ntmps94
  go_wp2_with (go_at_call 142;refine (zG3 _ _ _ _ _ hl h1 hn).mono ?_;rintro e w' ⟨rfl,rfl⟩)
  go_ret
  exact ⟨zC hz.out.symm,Qb⟩
 ·have hge:n≤left:=by omega
  have g1:¬ (left:Int) - (n:Int)<0:=by omega
  by_cases h2:left<n+lab.size
  ·have hz:Hid (szF left n lab.size=-1):=by show _=_;unfold szF;rw [if_pos h2]
   have g2:(left:Int) - (n:Int) - (lab.size:Int)<0:=by omega
   go_enter Tryz.func94,Tryz.ntmps94
   go_wp2_with (go_at_call 142;refine (zBs _ _ _ _ _ hl hge).mono ?_;rintro e w' ⟨rfl,rfl⟩)
   go_ret
   exact ⟨zC hz.out.symm,Qb⟩
  ·have hz:Hid (szF left n lab.size=(left:Int) - (n:Int) - (lab.size:Int)):=by show _=_;unfold szF;rw [if_neg h2]
   have g2:¬ (left:Int) - (n:Int) - (lab.size:Int)<0:=by omega
   go_enter Tryz.func94,Tryz.ntmps94
   go_wp2_with (go_at_call 142;refine (zBs _ _ _ _ _ hl hge).mono ?_;rintro e w' ⟨rfl,rfl⟩)
   go_ret
   exact ⟨zC hz.out.symm,Qb⟩
theorem zEo (id la ki wi:Int)(n:Nat)(X Y:Nat→Int)(lab:ByteArray)(pr:Int)(b d:Nat)(w:World)(hp:zI w b 0 n X Y)(hq:zI w d 0 n X Y)(hb:b<w.heap.size)(hd:d<w.heap.size)(hmax:n≤1048576) :
  Calls Tryz.prog 99 #[.agg #[.int .i64 id,.int .i64 la,.int .i64 ki,.int .i64 wi,.slice (some ⟨b,0,none⟩) n n,.string lab,.int .i64 pr],.agg #[.int .i64 id,.int .i64 la,.int .i64 ki,.int .i64 wi,.slice (some ⟨d,0,none⟩) n n,.string lab,.int .i64 pr]] w fun e w'=>e=.returned (.bool true)∧Bw w w':=by
 have HP:Hid (zI w b 0 n X Y):=hp
 have HQ:Hid (zI w d 0 n X Y):=hq
 clear hp hq
 go_enter Tryz.func99,Tryz.ntmps99
 go_wp2_with fail
 generalize hW:((w.alloc _).alloc _:World)=W
 have hB0:Bw w W:=by subst hW;exact Qb
 have hsz:W.heap.size=w.heap.size+1+1:=by subst hW;simp
 have c5:W.cell? ⟨w.heap.size,5,none⟩=some (.string lab):=by subst hW;simp [go_sem]
 have c6:W.cell? ⟨w.heap.size,6,none⟩=some (.int .i64 pr):=by subst hW;simp [go_sem]
 have o5:W.cell? ⟨w.heap.size+1,5,none⟩=some (.string lab):=by subst hW;simp [go_sem]
 have o6:W.cell? ⟨w.heap.size+1,6,none⟩=some (.int .i64 pr):=by subst hW;simp [go_sem]
 clear hW
 refine (zF1 b d n X Y W (HP.out.below hB0 hb) (HQ.out.below hB0 hd) (by omega) (by omega) hmax).mono ?_
 rintro e w1 ⟨rfl,hb1⟩
 have d5:=(hb1.cell (p:=⟨w.heap.size,5,none⟩) (show w.heap.size<_ by omega)).trans c5
 have d6:=(hb1.cell (p:=⟨w.heap.size,6,none⟩) (show w.heap.size<_ by omega)).trans c6
 have e5:=(hb1.cell (p:=⟨w.heap.size+1,5,none⟩) (show w.heap.size+1<_ by omega)).trans o5
 have e6:=(hb1.cell (p:=⟨w.heap.size+1,6,none⟩) (show w.heap.size+1<_ by omega)).trans o6
 have HB1:Hid (Bw w w1):=zA hB0 hb1
 clear c5 c6 o5 o6 hb1 hB0 hsz
 go_wp2
 go_ret
 exact ⟨rfl,HB1.out⟩
theorem zJ0 {id la ki wi:Int}{n:Nat}{X Y:Nat→Int}{lab:ByteArray}{pr:Int}(h:zH id la ki wi n X Y lab pr=0) :
  (ki=1∨ki=2∨ki=3)∧0<n∧n≤12∧(ki≤n)∧(∀ i,i<n→inW (X i) (Y i)=true)∧lab.size≤6:=by
 unfold zH at h
 split at h
 ·rename_i h1
  split at h
  ·rename_i h2
   split at h
   ·rename_i h3
    split at h
    ·rename_i h4
     have hk:1≤ki∧ki≤3:=by
      simp [zAj,inB] at h1
      omega
     have hlab:lab.size≤6:=by
      unfold zEu at h4
      simp at h4
      exact h4.1
     have hin:∀ i,i<n→inW (X i) (Y i)=true:=of_decide_eq_true h3
     have hkk:ki=1∨ki=2∨ki=3:=by omega
     refine ⟨hkk,?_,?_,?_,hin,hlab⟩
     all_goals
      rcases hkk with rfl | rfl | rfl
      ·simp [xB] at h2;omega
      ·simp [xB,inB] at h2;omega
      ·simp [xB,inB] at h2;omega
    ·cases h
   ·cases h
  ·cases h
 ·cases h
theorem zLz {id la ki wi:Int}{n:Nat}{X Y:Nat→Int}{lab:ByteArray}{pr:Int}(h:zH id la ki wi n X Y lab pr=0) :
  (1≤id∧id≤999)∧(0≤la∧la≤9)∧(0≤wi∧wi≤3)∧(0≤pr∧pr≤9):=by
 unfold zH at h
 split at h
 ·rename_i h1
  simp [zAj,inB] at h1
  omega
 ·cases h
def kindN (ki:Int)(n:Nat):Prop:=(ki=1∧n=1)∨(ki=2∧2≤n)∨(ki=3∧3≤n)
theorem zHt {id la wi:Int}{n:Nat}{X Y:Nat→Int}{lab:ByteArray}{pr:Int}(h:zH id la 1 wi n X Y lab pr=0):n=1:=by
 unfold zH at h
 split at h
 ·split at h
  ·rename_i h2
   simp [xB] at h2
   omega
  ·cases h
 ·cases h
def zX (wi z:Int):Int:=(wi+1) * yF z
theorem zMx {wi z:Int}(hw:0≤wi∧wi≤3)(hz:yR z=true):16≤zX wi z∧zX wi z≤512:=by
 unfold zX
 rcases zN hz with rfl | rfl | rfl | rfl
 all_goals
  simp only [show yF 0=128 from rfl,show yF 1=64 from rfl,show yF 2=32 from rfl,show yF 3=16 from rfl]
  omega
theorem zH6 {z:Int}(hz:yR z=true):yF z=128∨yF z=64∨yF z=32∨yF z=16:=by rcases zN hz with rfl | rfl | rfl | rfl <;> simp [yF]
theorem zHa (id la ki wi z:Int)(v:Value)(lab:ByteArray)(pr:Int)(w:World)(hw:0≤wi∧wi≤3)(hz:yR z=true)(hv:∃ a n c,v=.slice a n c) :
  Calls Tryz.prog 220 #[.agg #[.int .i64 id,.int .i64 la,.int .i64 ki,.int .i64 wi,v,.string lab,.int .i64 pr],.int .i64 z] w fun e w'=>e=.returned (.int .i64 (zX wi z))∧Bw w w':=by
 obtain ⟨a,n,c,rfl⟩:=hv
 have s1:=fun w=>uG z w
 have hv:zIt z=.agg #[.int .i64 0,.int .i64 (yF z)]:=by simp [zIt,hz]
 simp only [hv] at s1
 have hbd:=zH6 hz
 have hr:Hid (zX wi z=(wi+1) * yF z):=rfl
 generalize yF z=u at *
 have i1:∀ w,(Instr.field 185 (.agg #[.int .i64 0,.int .i64 u]) 1).run Tryz.prog w=.ok (.int .i64 u) w:=fun _=>by kernel_rfl
 have hS:=(show Hid _ from s1)
 clear s1 hv
 obtain ⟨hw0,hw1⟩:=hw
 go_enter Tryz.func220,Tryz.ntmps220
 go_wp2_with fail
 generalize hW:(w.alloc _:World)=W
 have hB0:Bw w W:=by subst hW;exact Qb
 have c3:∀ W',Bw W W'→W'.cell? ⟨w.heap.size,3,none⟩=some (.int .i64 wi):=Qc hW
 clear hW
 have hr0:Bw W W:=Below.refl _ _
 rcases hbd with rfl | rfl | rfl | rfl
 all_goals
  go_region_held3 (fun W'=>Bw W W') ((repeat (first|exact Qr _ _|assumption|refine Qd ?_|refine Qa ?_ _|refine Qt ?_|refine Qs ?_ _|refine Qo ?_ ?_ _ _)))
   (first | (go_at_call 224;refine (hS.out _).mono ?_;rintro e w' ⟨rfl,hb⟩))
  go_wp2
  go_ret
  exact ⟨zC (by rw [IntWalk.i64_in (wi+1) (by omega),IntWalk.i64_in _ (by omega)];exact hr.out.symm),zA hB0 (by assumption)⟩
def xV (ki wi z cx cy:Int)(D:List (Int × Int)):Bool:=if ki=3 then yB cx cy D.length (px D) (py D) else byB cx cy (zX wi z) (px D) (py D) D.length
theorem zCh (w:World):Calls Tryz.prog 218 #[.int .i64 3] w fun e w'=>e=.returned (.func (.func 238) #[] #[])∧w=w':=by
 go_enter Tryz.func218,Tryz.ntmps218
 go_wp2
 go_ret
 exact ⟨rfl,rfl⟩
theorem zCg (ki:Int)(w:World)(h:ki≠3):Calls Tryz.prog 218 #[.int .i64 ki] w fun e w'=>e=.returned (.func (.func 239) #[] #[])∧w=w':=by
 have hk:(ki == 3)=false:=by simpa using h
 go_enter Tryz.func218,Tryz.ntmps218
 go_wp2
 go_ret
 exact ⟨rfl,rfl⟩
theorem dbl_ok (X Y:Nat→Int)(n:Nat)(hin:∀ i,i<n→inW (X i) (Y i)=true):∀ i,i<n→okP (px (yU X Y n) i) (py (yU X Y n) i)=true:=fun i hi=>by
 obtain ⟨e1,e2⟩:=dblL_px X Y n i hi
 have:=zLr (hin i hi)
 rw [e1,e2,zD5]
 omega
theorem zB5 {px py ax ay bx by' r:Int}(hp:okP px py=true)(ha:okP ax ay=true)(hb:okP bx by'=true)(h0:0≤r)(h1:r≤4096):zO px py ax ay bx by' r=zAn px py ax ay bx by' r:=by
 simp [zO,hp,ha,hb,inB,h0,h1]
theorem zFj (b off n cap:Nat)(X Y:Nat→Int)(w:World)(hp:zI w b off n X Y)(hbl:b<w.heap.size)(hn0:0<n)(hn:n≤40)(hin:∀ i,i<n→inW (X i) (Y i)=true) :
  Calls Tryz.prog 211 #[.slice (some ⟨b,off,none⟩) n cap] w fun e w'=>∃ g cg,e=.returned (.slice (some ⟨g,0,none⟩) n cg)∧g<w'.heap.size∧n≤cg∧zI w' g 0 n (px (yU X Y n)) (py (yU X Y n))∧Bw w w' :=
 (zEa b off n cap X Y w hp hbl hn hin).mono fun e w' ⟨v,he,hR,hb⟩=>by
  obtain ⟨g,cg,hv,h1,h2,h3,h4⟩:=hR.at (by rw [xU];exact hn0)
  rw [xU] at hv h3 h4
  exact ⟨g,cg,by rw [he,hv],h2,h3,h4,hb⟩
theorem zB2 (q o:Nat)(wi z:Int)(w:World)(hf:w.cell? ⟨q,o+3,none⟩=some (.int .i64 wi))(hw:0≤wi∧wi≤3)(hz:yR z=true) :
  Calls Tryz.prog 213 #[.pointer (some ⟨q,o,none⟩),.int .i64 z] w fun e w'=>e=.returned (.int .i64 (zX wi z))∧Bw w w':=by
 have s1:=fun w=>zDd z w hz
 have hbd:=zH6 hz
 have hr:Hid (zX wi z=(wi+1) * yF z):=rfl
 generalize yF z=u at *
 obtain ⟨hw0,hw1⟩:=hw
 have hS:=(show Hid _ from s1)
 clear s1
 have c3:∀ W',Bw w W'→W'.cell? ⟨q,o+3,none⟩=some (.int .i64 wi):=fun W' h=>yI h hf
 have hr0:Bw w w:=Below.refl _ _
 clear hf
 rcases hbd with rfl | rfl | rfl | rfl
 all_goals
  go_enter Tryz.func213,Tryz.ntmps213
  go_wp2_with fail
  go_region_held3 (fun W'=>Bw w W') ((repeat (first|exact Qr _ _|assumption|refine Qd ?_|refine Qa ?_ _|refine Qt ?_|refine Qs ?_ _|refine Qo ?_ ?_ _ _)))
   (first | (go_at_call 233;refine (hS.out _).mono ?_;rintro e w1 ⟨rfl,rfl⟩))
  go_wp2
  go_ret
  exact ⟨zC (by rw [IntWalk.i64_in (wi+1) (by omega),IntWalk.i64_in _ (by omega)];exact hr.out.symm),by assumption⟩
theorem zFi (q o:Nat)(id la ki wi z x y:Int)(b off n cap:Nat)(X Y:Nat→Int)(lab:ByteArray)(pr:Int)(w:World)(hf:vU w q o id la ki wi (.slice (some ⟨b,off,none⟩) n cap) lab pr)(hp:zI w b off n X Y)(hbl:b<w.heap.size)(hn:n≤40)(hkn:kindN ki n)(hin:∀ i,i<n→inW (X i) (Y i)=true)(hw:0≤wi∧wi≤3)(hpx:vN z x y=true) :
  Calls Tryz.prog 191 #[.pointer (some ⟨q,o,none⟩),.int .i64 z,.int .i64 x,.int .i64 y] w fun e w'=>e=.returned (.bool (xV ki wi z (zV z x) (zV z y) (yU X Y n)))∧Bw w w':=by
 have hz:=xF hpx
 have hcok:=cent_ok hpx
 have HCK:Hid (okP (zV z x) (zV z y)=true):=hcok
 have hrb:=zMx hw hz
 have hn0:0<n:=by rcases hkn with ⟨_,h⟩ | ⟨_,h⟩ | ⟨_,h⟩ <;> omega
 have HF:Hid (vU w q o id la ki wi (.slice (some ⟨b,off,none⟩) n cap) lab pr):=hf
 have hql:q<w.heap.size:=World.block_lt_of_cell? _ _ hf.1
 have HP:Hid (zI w b off n X Y):=hp
 have HIN:Hid (∀ i,i<n→inW (X i) (Y i)=true):=hin
 have HOK:Hid (∀ i,i<n→okP (px (yU X Y n) i) (py (yU X Y n) i)=true):=dbl_ok X Y n hin
 have HW:Hid (0≤wi∧wi≤3):=hw
 have HPX:Hid (vN z x y=true):=hpx
 have hdl:=xU X Y n
 have Hce:=(show Hid _ from fun w=>zFk z x y w hpx)
 generalize zV z x=cx at *
 generalize zV z y=cy at *
 generalize hD:yU X Y n=D at *
 have HD:Hid (yU X Y n=D):=hD
 clear hp hin hw hpx hf hcok hD
 go_enter Tryz.func191,Tryz.ntmps191
 go_wp2_with fail
 refine (Hce.out _).mono ?_
 rintro e w1 ⟨rfl,hb1⟩
 obtain ⟨q0,q1,q2,q3,q4,q5,q6⟩:=HF.out.below hb1 hql
 have hql1:q<w1.heap.size:=Nat.lt_of_lt_of_le hql hb1.size
 go_wp2_with fail
 generalize hW:(w1.alloc _:World)=W
 have hbW1:Bw w1 W:=by subst hW;exact Qb
 have d0:∀ W',Bw W W'→W'.cell? ⟨w1.heap.size,0,none⟩=some (.int .i64 cx):=Qc hW
 have d1:∀ W',Bw W W'→W'.cell? ⟨w1.heap.size,1,none⟩=some (.int .i64 cy):=Qc hW
 have hszW:w1.heap.size<W.heap.size:=by subst hW;simp
 clear hW
 have hBW:Bw w W:=zA hb1 hbW1
 have HBW:Hid (Bw w W):=hBW
 have HFW:Hid (vU W q o id la ki wi (.slice (some ⟨b,off,none⟩) n cap) lab pr):=HF.out.below hBW hql
 have hqlW:q<W.heap.size:=Nat.lt_of_lt_of_le hql hBW.size
 clear q0 q1 q2 q3 q4 q5 q6 hb1 hbW1
 refine (zFj b off n cap X Y W (HP.out.below hBW hbl) (Nat.lt_of_lt_of_le hbl hBW.size) hn0 hn HIN.out).mono ?_
 rw [HD.out]
 rintro e w2 ⟨g,cg,rfl,hgl,hcg,hPg,hb2⟩
 have HPg:Hid (zI w2 g 0 n (px D) (py D)):=hPg
 obtain ⟨q0,q1,q2,q3,q4,q5,q6⟩:=HFW.out.below hb2 hqlW
 have hB2:Bw W w2:=hb2
 have hql2:q<w2.heap.size:=Nat.lt_of_lt_of_le hqlW hb2.size
 have k0:=d0 w2 hb2
 have k1:=d1 w2 hb2
 have hsz2:=hb2.size
 clear hb2 hBW hPg
 rcases hkn with ⟨rfl,rfl⟩ | ⟨rfl,h2⟩ | ⟨rfl,h3⟩
 ·have HK:Hid (xV 1 wi z cx cy D=zAn cx cy (px D 0) (py D 0) (px D 0) (py D 0) (zX wi z)):=by
   show _=_
   simp only [xV,hdl]
   rw [if_neg (by decide)]
   simp only [byB,Bool.false_or]
   exact zB5 HCK.out (HOK.out 0 (by omega)) (HOK.out 0 (by omega)) (by omega) (by omega)
  go_wp2_with fail
  refine (zB2 q o wi z _ q3 HW.out hz).mono ?_
  rintro e w3 ⟨rfl,hb3⟩
  have hB3:Bw W w3:=zA hB2 hb3
  have hg3:g<w3.heap.size:=Nat.lt_of_lt_of_le hgl hb3.size
  have e0:∀ W',Bw w3 W'→W'.cell? ⟨g,0,none⟩=some (.int .i64 (px D 0)):=fun W' h=>by simpa using ((HPg.out.below hb3 hgl).below h hg3 0 (by omega)).1
  have e1:∀ W',Bw w3 W'→W'.cell? ⟨g,1,none⟩=some (.int .i64 (py D 0)):=fun W' h=>by simpa using ((HPg.out.below hb3 hgl).below h hg3 0 (by omega)).2
  have m0:∀ W',Bw w3 W'→W'.cell? ⟨w1.heap.size,0,none⟩=some (.int .i64 cx):=fun W' h=>d0 W' (zA hB3 h)
  have m1:∀ W',Bw w3 W'→W'.cell? ⟨w1.heap.size,1,none⟩=some (.int .i64 cy):=fun W' h=>d1 W' (zA hB3 h)
  have hr3:Bw w3 w3:=Below.refl _ _
  obtain ⟨p0,p1,p2,p3,p4,p5,p6⟩:=HFW.out.below hB3 hqlW
  clear q0 q1 q2 q3 q4 q5 q6 k0 k1 d0 d1
  generalize zX wi z=r at *
  go_wp2_with fail
  go_region_held3 (fun W'=>Bw w3 W') ((repeat (first|exact Qr _ _|assumption|refine Qd ?_|refine Qa ?_ _|refine Qt ?_|refine Qs ?_ _|refine Qo ?_ ?_ _ _)))
   (first | (go_at_call 214;refine (zDg cx cy _ _ _ _ r _ HCK.out (HOK.out 0 (by omega)) (HOK.out 0 (by omega)) (by omega) (by omega)).mono ?_;rintro e w4 ⟨rfl,hb4⟩))
  go_wp2_with fail
  go_ret
  exact ⟨zF HK.out.symm,zA HBW.out (zA hB3 (by assumption))⟩
 ·have HK:Hid (xV 2 wi z cx cy D=zC9 cx cy (zX wi z) (px D) (py D) (n - 1)):=by
   show _=_
   simp only [xV,hdl]
   rw [if_neg (by decide)]
   exact zNy _ _ _ _ _ _ h2 (HOK.out 1 (by omega))
  go_wp2_with fail
  refine (zB2 q o wi z _ q3 HW.out hz).mono ?_
  rintro e w3 ⟨rfl,hb3⟩
  have hB3:Bw W w3:=zA hB2 hb3
  have HP3:Hid (zI w3 g 0 n (px D) (py D)):=HPg.out.below hb3 hgl
  have hg3:g<w3.heap.size:=Nat.lt_of_lt_of_le hgl hb3.size
  have HB3:Hid (Bw w w3):=zA HBW.out hB3
  obtain ⟨p0,p1,p2,p3,p4,p5,p6⟩:=HFW.out.below hB3 hqlW
  have m0:∀ W',Bw w3 W'→W'.cell? ⟨w1.heap.size,0,none⟩=some (.int .i64 cx):=fun W' h=>d0 W' (zA hB3 h)
  have m1:∀ W',Bw w3 W'→W'.cell? ⟨w1.heap.size,1,none⟩=some (.int .i64 cy):=fun W' h=>d1 W' (zA hB3 h)
  have hsz3:w1.heap.size<w3.heap.size:=by have:=hB3.size;omega
  clear q0 q1 q2 q3 q4 q5 q6 k0 k1 d0 d1 hb3 hB2 hB3 HFW HF HP
  generalize zX wi z=r at *
  go_wp2_with fail
  go_loopw [12] (fun i wr=>∃ k:Nat,k+1≤n∧i=.int .i64 (k:Int)∧zC9 cx cy r (px D) (py D) k=false∧Bw w3 wr) (fun i _=>n - (intOf i).toNat)
  case atStart=>exact ⟨0,by omega,rfl,rfl,Below.refl _ _⟩
  case round =>
   obtain ⟨k,hk,rfl,hF,hB⟩:=hrel
   have HF:Hid (zC9 cx cy r (px D) (py D) k=false):=hF
   have HB:Hid (Bw w3 wr):=hB
   have n0:=m0 wr hB
   have n1:=m1 wr hB
   have hszr:=hB.size
   by_cases hlt:k+1<n
   ·have hgr:g<wr.heap.size:=by omega
    have e0:∀ W',Bw wr W'→W'.cell? ⟨g,k * 2,none⟩=some (.int .i64 (px D k)):=fun W' h=>by simpa using ((HP3.out.below HB.out hg3).below h hgr k (by omega)).1
    have e1:∀ W',Bw wr W'→W'.cell? ⟨g,k * 2+1,none⟩=some (.int .i64 (py D k)):=fun W' h=>by simpa using ((HP3.out.below HB.out hg3).below h hgr k (by omega)).2
    have e2:∀ W',Bw wr W'→W'.cell? ⟨g,(k+1) * 2,none⟩=some (.int .i64 (px D (k+1))):=fun W' h=>by simpa using ((HP3.out.below HB.out hg3).below h hgr (k+1) hlt).1
    have e3:∀ W',Bw wr W'→W'.cell? ⟨g,(k+1) * 2+1,none⟩=some (.int .i64 (py D (k+1))):=fun W' h=>by simpa using ((HP3.out.below HB.out hg3).below h hgr (k+1) hlt).2
    have o0:∀ W',Bw wr W'→W'.cell? ⟨w1.heap.size,0,none⟩=some (.int .i64 cx):=fun W' h=>m0 W' (zA HB.out h)
    have o1:∀ W',Bw wr W'→W'.cell? ⟨w1.heap.size,1,none⟩=some (.int .i64 cy):=fun W' h=>m1 W' (zA HB.out h)
    have hrr:Bw wr wr:=Below.refl _ _
    have hi1:(k:Int)+1<(n:Int):=by omega
    have hi0:(k:Int)<(n:Int):=by omega
    have hwr:IntKind.i64.wrap ((k:Int)+1)=(k:Int)+1:=IntWalk.i64_in _ (by omega)
    have hto:((k:Int)+1).toNat=k+1:=by omega
    have hi00:(0:Int)≤(k:Int)+1:=by omega
    clear hF hB n0 n1
    go_wp2_with fail
    go_region_held3 (fun W'=>Bw wr W') ((repeat (first|exact Qr _ _|assumption|refine Qd ?_|refine Qa ?_ _|refine Qt ?_|refine Qs ?_ _|refine Qo ?_ ?_ _ _)))
     (first | (go_at_call 214;refine (zDg cx cy _ _ _ _ r _ HCK.out (HOK.out k (by omega)) (HOK.out (k+1) hlt) (by omega) (by omega)).mono ?_;rintro e w4 ⟨rfl,hb4'⟩))
    have hb4:Bw wr w4:=by assumption
    cases hq:zAn cx cy (px D k) (py D k) (px D (k+1)) (py D (k+1)) r
    ·have HK1:Hid (zC9 cx cy r (px D) (py D) (k+1)=false):=by
      show _=_
      rw [zC9,HF.out,zB5 HCK.out (HOK.out k (by omega)) (HOK.out (k+1) hlt) (by omega) (by omega),hq];rfl
     go_wp2_with fail
     go_roundw
     case rel=>exact ⟨k+1,by omega,by go_num,HK1.out,zA HB.out hb4⟩
     case measure=>simp [intOf];omega
    ·have HK1:Hid (zC9 cx cy r (px D) (py D) (n - 1)=true):=zK5 (k+1) (by
      rw [zC9,zB5 HCK.out (HOK.out k (by omega)) (HOK.out (k+1) hlt) (by omega) (by omega),hq];simp) (n - 1) (by omega)
     go_wp2_with fail
     go_ret
     exact ⟨zF (by rw [HK.out,HK1.out]),zA HB3.out (zA HB.out hb4)⟩
   ·have hkk:k=n - 1:=by omega
    have hi1:¬ (k:Int)+1<(n:Int):=by omega
    have HK1:Hid (zC9 cx cy r (px D) (py D) (n - 1)=false):=by show _=_;rw [← hkk];exact HF.out
    clear hF hB
    go_wp2_with fail
    go_ret
    exact ⟨zF (by rw [HK.out,HK1.out]),zA HB3.out HB.out⟩
 ·have HK:Hid (xV 3 wi z cx cy D=xH (xN cx cy n (px D) (py D)) n):=by
   show _=_
   simp only [xV,hdl,if_true]
   have ha:zGg n (px D) (py D)=true:=decide_eq_true HOK.out
   simp [yB,HCK.out,ha,h3,hn]
  go_wp2_with fail
  refine (zFl _ _ g n cg _ _ _ HCK.out HPg.out hgl HOK.out hcg (by omega)).mono ?_
  rintro e w4 ⟨rfl,hb4⟩
  go_wp2_with fail
  go_ret
  exact ⟨zF HK.out.symm,zA HBW.out (zA hB2 hb4)⟩
theorem zHy (b off n cap : Nat) (X Y : Nat → Int) (w : World) (hp : zI w b off n X Y) (hbl : b < w.heap.size) (hn0 : 0 < n) (hn : n ≤ 40) (hin : ∀ i, i < n → inW (X i) (Y i) = true) :
  Calls Tryz.prog 219 #[.slice (some ⟨b, off, none⟩) n cap] w fun e w' => ∃ g cg, e = .returned (.slice (some ⟨g, 0, none⟩) n cg) ∧ w.heap.size ≤ g ∧ g < w'.heap.size ∧ n ≤ cg ∧ zI w' g 0 n (px (yU X Y n)) (py (yU X Y n)) ∧ Bw w w' :=
 (zHz b off n cap X Y w hp hbl hn hin).mono fun e w' ⟨v, he, hR, hb⟩ => by
  obtain ⟨g, cg, hv, h1, h2, h3, h4⟩ := hR.at (by rw [xU]; exact hn0)
  rw [xU] at hv h3 h4
  exact ⟨g, cg, by rw [he, hv], h1, h2, h3, h4, hb⟩
theorem zI.apart {w : World} {b r o n : Nat} {v : Value} {X Y : Nat → Int} (h : zI w b 0 n X Y) (hr : b ≠ r) : zI (w.setCell ⟨r, o, none⟩ v) b 0 n X Y := fun i hi =>
 ⟨(zB (fun e => hr (by injection e with e1; exact e1.symm))).trans (h i hi).1, (zB (fun e => hr (by injection e with e1; exact e1.symm))).trans (h i hi).2⟩
def byF (ki : Int) : Nat := if ki = 3 then 238 else 239
abbrev zK3 (id ki wi z : Int) (g n cg : Nat) : Value := .agg #[.int .i64 id, .func (.func (byF ki)) #[] #[], .slice (some ⟨g, 0, none⟩) n cg, .int .i64 (zX wi z)]
theorem zEq (ki : Int) (w : World) : Calls Tryz.prog 218 #[.int .i64 ki] w fun e w' => e = .returned (.func (.func (byF ki)) #[] #[]) ∧ w = w' := by
 unfold byF
 by_cases h : ki = 3
 ·subst h
  exact zCh w
 ·rw [if_neg h]
  exact zCg ki w h
theorem there4s (V : World) (a b c d : Value) (t : TypeId) : zD (V.alloc (.cells #[a, b, c, d] t)) V.heap.size 4 := fun o ho => by
 have : o = 0 ∨ o = 1 ∨ o = 2 ∨ o = 3 := by omega
 rcases this with rfl | rfl | rfl | rfl <;> exact ⟨⟨_, by simp [go_sem]; rfl⟩, by simp [go_sem]⟩
theorem zG7 {off : Nat} (id la ki wi z : Int) (b n cap : Nat) (X Y : Nat → Int) (lab : ByteArray) (pr : Int) (w : World) (hp : zI w b off n X Y) (hbl : b < w.heap.size) (hn0 : 0 < n) (hn : n ≤ 40) (hin : ∀ i, i < n → inW (X i) (Y i) = true) (hw : 0 ≤ wi ∧ wi ≤ 3) (hz : yR z = true) :
  Calls Tryz.prog 194 #[.agg #[.int .i64 id, .int .i64 la, .int .i64 ki, .int .i64 wi, .slice (some ⟨b, off, none⟩) n cap, .string lab, .int .i64 pr], .int .i64 z] w fun e w' => ∃ g cg, e = .returned (zK3 id ki wi z g n cg) ∧ g < w'.heap.size ∧ n ≤ cg ∧ zI w' g 0 n (px (yU X Y n)) (py (yU X Y n)) ∧ Bw w w' := by
 have HP : Hid (zI w b off n X Y) := hp
 have HIN : Hid (∀ i, i < n → inW (X i) (Y i) = true) := hin
 have HW : Hid (0 ≤ wi ∧ wi ≤ 3) := hw
 have HR : Hid (∀ W, Calls Tryz.prog 220 #[.agg #[.int .i64 id, .int .i64 la, .int .i64 ki, .int .i64 wi, .slice (some ⟨b, off, none⟩) n cap, .string lab, .int .i64 pr], .int .i64 z] W fun e w' => e = .returned (.int .i64 (zX wi z)) ∧ Bw W w') := fun W => zHa id la ki wi z _ lab pr W hw hz ⟨_, _, _, rfl⟩
 have HV : Hid (∀ W, Calls Tryz.prog 218 #[.int .i64 ki] W fun e w' => e = .returned (.func (.func (byF ki)) #[] #[]) ∧ W = w') := fun W => zEq ki W
 clear hp hin hw
 show Calls Tryz.prog 194 _ w fun e w' => ∃ g cg, e = .returned (.agg #[.int .i64 id, .func (.func (byF ki)) #[] #[], .slice (some ⟨g, 0, none⟩) n cg, .int .i64 (zX wi z)]) ∧ g < w'.heap.size ∧ n ≤ cg ∧ zI w' g 0 n (px (yU X Y n)) (py (yU X Y n)) ∧ Bw w w'
 generalize byF ki = fby at *
 generalize zX wi z = rch at *
 have hsf : ∀ (a : Addr) (m : Mode) (w : World), (store a (.func (.func fby) #[] #[]) m).run Tryz.prog w = stored Tryz.prog w a (.func (.func fby) #[] #[]) m := fun a m w => run_store Tryz.prog w a _ m rfl
 go_enter Tryz.func194, Tryz.ntmps194
 go_wp2_with fail
 generalize hW : ((w.alloc _).alloc _ : World) = W
 have hB0 : Bw w W := by subst hW; exact Qb
 have HT : Hid (zD W (w.heap.size + 1) 4) := by
  show zD _ _ _
  subst hW
  have := there4s (w.alloc (.cells #[.int .i64 id, .int .i64 la, .int .i64 ki, .int .i64 wi, .slice (some ⟨b, off, none⟩) n cap, .string lab, .int .i64 pr] 138)) (.int .i64 0) .nilFunc (.slice none 0 0) (.int .i64 0) 254
  simpa using this
 have c0 : ∀ W', Below (w.heap.size + 1) W W' → W'.cell? ⟨w.heap.size, 0, none⟩ = some (.int .i64 id) := fun W' h => by
  rw [h.cell (by simp)]; subst hW; simp [go_sem]
 have c1 : ∀ W', Below (w.heap.size + 1) W W' → W'.cell? ⟨w.heap.size, 1, none⟩ = some (.int .i64 la) := fun W' h => by
  rw [h.cell (by simp)]; subst hW; simp [go_sem]
 have c2 : ∀ W', Below (w.heap.size + 1) W W' → W'.cell? ⟨w.heap.size, 2, none⟩ = some (.int .i64 ki) := fun W' h => by
  rw [h.cell (by simp)]; subst hW; simp [go_sem]
 have c3 : ∀ W', Below (w.heap.size + 1) W W' → W'.cell? ⟨w.heap.size, 3, none⟩ = some (.int .i64 wi) := fun W' h => by
  rw [h.cell (by simp)]; subst hW; simp [go_sem]
 have c4 : ∀ W', Below (w.heap.size + 1) W W' → W'.cell? ⟨w.heap.size, 4, none⟩ = some (.slice (some ⟨b, off, none⟩) n cap) := fun W' h => by
  rw [h.cell (by simp)]; subst hW; simp [go_sem]
 have c5 : ∀ W', Below (w.heap.size + 1) W W' → W'.cell? ⟨w.heap.size, 5, none⟩ = some (.string lab) := fun W' h => by
  rw [h.cell (by simp)]; subst hW; simp [go_sem]
 have c6 : ∀ W', Below (w.heap.size + 1) W W' → W'.cell? ⟨w.heap.size, 6, none⟩ = some (.int .i64 pr) := fun W' h => by
  rw [h.cell (by simp)]; subst hW; simp [go_sem]
 have hsz : w.heap.size + 1 < W.heap.size := by subst hW; simp
 clear hW
 have HB0 : Hid (Bw w W) := hB0
 have HPW : Hid (zI W b off n X Y) := HP.out.below hB0 hbl
 have hblW : b < W.heap.size := Nat.lt_of_lt_of_le hbl hB0.size
 clear hB0 HP
 refine wp_region_noPanic ?_
 refine wp_region_held_drew (S := fun W' => Below (w.heap.size + 1) W W') (by kernel_rfl) (by exact Qb) (fun hHeld => ?_)
 have hX0 : Below (w.heap.size + 1) W W.drew := hHeld
 refine zE (i := 0) (d := some 5) rfl rfl ?_
 try simp only [Act.put, Qx, Qy, Qz]
 refine zE (i := 1) (d := some 6) rfl rfl ?_
 try simp only [Act.put, Qx, Qy, Qz]
 refine zE (i := 2) (d := some 7) rfl rfl ?_
 try simp only [Act.put, Qx, Qy, Qz]
 refine zE (i := 3) (d := some 8) rfl rfl ?_
 try simp only [Act.put, Qx, Qy, Qz]
 refine zE (i := 5) (d := some 10) rfl rfl ?_
 try simp only [Act.put, Qx, Qy, Qz]
 refine zE (i := 6) (d := some 11) rfl rfl ?_
 try simp only [Act.put, Qx, Qy, Qz]
 refine zE (i := 8) (d := some 13) rfl rfl ?_
 try simp only [Act.put, Qx, Qy, Qz]
 refine zE (i := 9) (d := some 14) rfl rfl ?_
 try simp only [Act.put, Qx, Qy, Qz]
 refine zR 4 fun K hK => ?_
 go_simp
 refine Calls.mono (HV.out _) ?_
 rintro e w1 ⟨rfl, rfl⟩
 go_wp2_with fail
 refine hK.out _ _ hX0 (fun hHeld => ?_)
 clear hK K
 try simp only [Act.put, Qx, Qy, Qz]
 refine zR 7 fun K hK => ?_
 go_simp
 refine Calls.mono (zHy b off n cap X Y _ (zI.below HPW.out (show Bw W W.drew by (repeat (first|exact Qr _ _|assumption|refine Qd ?_|refine Qa ?_ _|refine Qt ?_|refine Qs ?_ _|refine Qo ?_ ?_ _ _))) hblW) hblW hn0 hn HIN.out) ?_
 rintro e w2 ⟨g, cg, rfl, hgg, hgl, hcg, hPg, hb2⟩
 have hgW : W.heap.size ≤ g := hgg
 have hF2 : Bw W w2 := (show Bw W W.drew by (repeat (first|exact Qr _ _|assumption|refine Qd ?_|refine Qa ?_ _|refine Qt ?_|refine Qs ?_ _|refine Qo ?_ ?_ _ _))).trans hb2
 have hX2 : Below (w.heap.size + 1) W w2 := hF2.mono (Nat.le_of_lt hsz)
 go_wp2_with fail
 refine hK.out _ _ hX2 (fun hHeld => ?_)
 clear hK K hb2
 try simp only [Act.put, Qx, Qy, Qz]
 refine zR 10 fun K hK => ?_
 go_simp
 refine Calls.mono (HR.out _) ?_
 rintro e w3 ⟨rfl, hb3⟩
 have hF3 : Bw W w3 := zA hF2 hb3
 have hX3 : Below (w.heap.size + 1) W w3 := hF3.mono (Nat.le_of_lt hsz)
 have hP3 : zI w3 g 0 n (px (yU X Y n)) (py (yU X Y n)) := zI.below hPg hb3 hgl
 have hg3 : g < w3.heap.size := Nat.lt_of_lt_of_le hgl hb3.size
 have hge : W.heap.size ≤ g ∨ True := .inr trivial
 go_wp2_with fail
 refine hK.out _ _ hX3 (fun hHeld => ?_)
 clear hK K hb3
 try simp only [Act.put, Qx, Qy, Qz]
 refine zE (i := 11) (d := some 16) rfl rfl ?_
 try simp only [Act.put, Qx, Qy, Qz]
 have hT3 := HT.out.below hF3
 have HT3 : Hid (zD w3 (w.heap.size + 1) 4) := hT3
 have t0 := hT3.cell 0 (by omega)
 have t1 := hT3.cell 1 (by omega)
 have t2 := hT3.cell 2 (by omega)
 have t3 := hT3.cell 3 (by omega)
 have f0 := (hT3 0 (by omega)).2
 have f1 := (hT3 1 (by omega)).2
 have f2 := (hT3 2 (by omega)).2
 have f3 := (hT3 3 (by omega)).2
 clear hT3
 refine zR 12 fun K hK => ?_
 go_simp
 have HBs : Below (w.heap.size + 1) W ((((w3.setCell ⟨w.heap.size + 1, 0, none⟩ (.int .i64 id)).setCell ⟨w.heap.size + 1, 1, none⟩ (.func (.func fby) #[] #[])).setCell ⟨w.heap.size + 1, 2, none⟩ (.slice (some ⟨g, 0, none⟩) n cg)).setCell ⟨w.heap.size + 1, 3, none⟩ (.int .i64 rch)) := (((hX3.setCell (Nat.le_refl _) _).setCell (Nat.le_refl _) _).setCell (Nat.le_refl _) _).setCell (Nat.le_refl _) _
 refine hK.out _ _ HBs (fun hHeld => ?_)
 clear hK K
 try simp only [Act.put, Qx, Qy, Qz]
 refine wpAnyH_done (by kernel_rfl) ?_ _
 refine NoPanic.normal ?_
 go_wp2_with fail
 obtain ⟨q0, q1, q2, q3⟩ := uB (a := .int .i64 id) (b := .func (.func fby) #[] #[]) (c := .slice (some ⟨g, 0, none⟩) n cg) (d := .int .i64 rch) HT3.out
 refine bodyPost_ret (v := .agg #[.int .i64 id, .func (.func fby) #[] #[], .slice (some ⟨g, 0, none⟩) n cg, .int .i64 rch]) (by simp [results, Tryz.results194, go_sem, q0, q1, q2, q3]) rfl ⟨g, cg, rfl, by simpa [World.setCell] using hg3, hcg, ?_, (HB0.out.trans (HBs.mono (Nat.le_succ _)))⟩
 exact (((hP3.apart (by omega)).apart (by omega)).apart (by omega)).apart (by omega)
theorem zIg {f : Nat} {fn : Func} (hf : Tryz.prog.funcs[f]? = some fn) (h1 : (fn.name == "runtime.NumGoroutine") = false) (hb : fn.body.isSome = true) (args : Array Value) (w : World) : (callFunc f args).run Tryz.prog w = .ok (.enter f args) w := by
 have h1' : fn.name ≠ "runtime.NumGoroutine" := by simpa using h1
 obtain ⟨c, hc⟩ := Option.isSome_iff_exists.1 hb
 simp [callFunc, hf, h1', hc]
theorem zNn (ki : Int) (args : Array Value) (w : World) : (callFunc (byF ki) args).run Tryz.prog w = .ok (.enter (byF ki) args) w := by
 unfold byF
 split
 ·exact zIg Tryz.func238 (by kernel_rfl) (by kernel_rfl) args w
 ·exact zIg Tryz.func239 (by kernel_rfl) (by kernel_rfl) args w
theorem by_any (ki wi z cx cy : Int) (g n cg : Nat) (X Y : Nat → Int) (w : World) (hp : zI w g 0 n (px (yU X Y n)) (py (yU X Y n))) (hg : g < w.heap.size) (hn0 : 0 < n) (hn : n ≤ 40) (hcg : n ≤ cg) :
  Calls Tryz.prog (byF ki) #[.agg #[.int .i64 cx, .int .i64 cy], .slice (some ⟨g, 0, none⟩) n cg, .int .i64 (zX wi z)] w fun e w' => e = .returned (.bool (xV ki wi z cx cy (yU X Y n))) ∧ Bw w w' := by
 have hdl := xU X Y n
 unfold byF xV
 by_cases h : ki = 3
 ·rw [if_pos h, if_pos h, hdl]
  exact zFr _ _ _ g n cg _ _ _ hp hg (by omega) hcg
 ·rw [if_neg h, if_neg h, hdl]
  exact zFu _ _ _ g n cg _ _ _ hp hg hn0 (by omega) hcg
theorem zJ5 (id ki wi z cx cy : Int) (g n cg : Nat) (X Y : Nat → Int) (w : World) (hp : zI w g 0 n (px (yU X Y n)) (py (yU X Y n))) (hg : g < w.heap.size) (hn0 : 0 < n) (hn : n ≤ 40) (hcg : n ≤ cg) :
  Calls Tryz.prog 223 #[zK3 id ki wi z g n cg, .agg #[.int .i64 cx, .int .i64 cy]] w fun e w' => e = .returned (.bool (xV ki wi z cx cy (yU X Y n))) ∧ Bw w w' := by
 have HP : Hid (zI w g 0 n (px (yU X Y n)) (py (yU X Y n))) := hp
 have HC : Hid (∀ W, zI W g 0 n (px (yU X Y n)) (py (yU X Y n)) → g < W.heap.size → Calls Tryz.prog (byF ki) #[.agg #[.int .i64 cx, .int .i64 cy], .slice (some ⟨g, 0, none⟩) n cg, .int .i64 (zX wi z)] W fun e w' => e = .returned (.bool (xV ki wi z cx cy (yU X Y n))) ∧ Bw W w') := fun W h1 h2 => by_any ki wi z cx cy g n cg X Y W h1 h2 hn0 hn hcg
 have hce := zNn ki
 clear hp
 show Calls Tryz.prog 223 #[.agg #[.int .i64 id, .func (.func (byF ki)) #[] #[], .slice (some ⟨g, 0, none⟩) n cg, .int .i64 (zX wi z)], _] w _
 generalize byF ki = fby at *
 generalize zX wi z = rch at *
 generalize xV ki wi z cx cy (yU X Y n) = cv at *
 go_enter Tryz.func223, Tryz.ntmps223
 go_wp2_with fail
 generalize hW : ((w.alloc _).alloc _ : World) = W
 have hB0 : Bw w W := by subst hW; exact Qb
 clear hW
 refine Calls.mono (HC.out W (HP.out.below hB0 hg) (Nat.lt_of_lt_of_le hg hB0.size)) ?_
 rintro e w' ⟨rfl, hb⟩
 have HB : Hid (Bw w w') := zA hB0 hb
 clear hb hB0
 go_wp2
 go_ret
 exact ⟨rfl, HB.out⟩
end Go.Proofs.YtkjbafcalamgnaaGreat
