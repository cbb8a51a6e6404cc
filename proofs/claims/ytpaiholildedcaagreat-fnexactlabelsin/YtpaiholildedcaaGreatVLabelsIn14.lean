/- Texts. -/
import Derived.Test.YtpaiholildedcaaGreatVLabelsIn13
import Derived.Test.YtpaiholildedcaaGreatVLabelsIn11
set_option linter.unusedSimpArgs false
set_option linter.unusedVariables false
set_option maxRecDepth 100000
set_option maxHeartbeats 32000000
namespace Go.Proofs.YtpaiholildedcaaGreat
open Go.RowKit
theorem zK.store {W:World}{b off n:Nat}{X Y:Nat→Int}(h:zK W b off n X Y){r o:Nat}{v:Value}(hne:r≠b):zK (W.setCell ⟨r,o,none⟩ v) b off n X Y:=fun i hi=>by
 obtain ⟨h1,h2⟩:=h i hi
 refine ⟨?_,?_⟩
 ·rw [World.cell?_setCell_other]
  ·exact h1
  ·simp [hne]
 ·rw [World.cell?_setCell_other]
  ·exact h2
  ·simp [hne]
theorem zD.store {W:World}{b n:Nat}(h:zD W b n){r o:Nat}{v:Value}(hne:r≠b):zD (W.setCell ⟨r,o,none⟩ v) b n:=fun i hi=>by
 obtain ⟨u,hu⟩:=(h i hi).1
 refine ⟨⟨u,?_⟩,by rw [World.frozen?_setCell];exact (h i hi).2⟩
 rw [World.cell?_setCell_other]
 ·exact hu
 ·simp [hne]
theorem zGp (id la ki wi:Int)(a:Option Addr)(n cap:Nat)(X Y:Nat→Int)(lab:ByteArray)(pr:Int)(w:World)(hpt:xY w a n X Y)(hn:n≤1048576) :
  Calls Tryz.prog 260 #[.agg #[.int .i64 id,.int .i64 la,.int .i64 ki,.int .i64 wi,.slice a n cap,.string lab,.int .i64 pr]] w fun e w'=>∃ b,e=.returned (.agg #[.int .i64 id,.int .i64 la,.int .i64 ki,.int .i64 wi,.slice (some ⟨b,0,none⟩) n n,.string lab,.int .i64 pr])∧w.heap.size≤b∧b<w'.heap.size∧zK w' b 0 n X Y∧zD w' b (n * 2)∧Bw w w':=by
 have HP:Hid (xY w a n X Y):=hpt
 clear hpt
 go_enter Tryz.func260,Tryz.ntmps260
 go_wp2_with fail
 generalize hW:(((w.alloc _).alloc _).alloc _:World)=W
 have hB0:Bw w W:=by subst hW;exact Qb
 have hsz:W.heap.size=w.heap.size+1+1+1:=by subst hW;simp
 have c5:W.cell? ⟨w.heap.size,5,none⟩=some (.string lab):=by subst hW;simp [go_sem]
 have c6:W.cell? ⟨w.heap.size,6,none⟩=some (.int .i64 pr):=by subst hW;simp [go_sem]
 have o0:W.cell? ⟨w.heap.size+1+1,0,none⟩=some (.int .i64 id):=by subst hW;simp [go_sem]
 have o1:W.cell? ⟨w.heap.size+1+1,1,none⟩=some (.int .i64 la):=by subst hW;simp [go_sem]
 have o2:W.cell? ⟨w.heap.size+1+1,2,none⟩=some (.int .i64 ki):=by subst hW;simp [go_sem]
 have o3:W.cell? ⟨w.heap.size+1+1,3,none⟩=some (.int .i64 wi):=by subst hW;simp [go_sem]
 have o4:W.cell? ⟨w.heap.size+1+1,4,none⟩=some (.slice none 0 0):=by subst hW;simp [go_sem]
 have o5:W.cell? ⟨w.heap.size+1+1,5,none⟩=some (.string ⟨#[]⟩):=by subst hW;simp [go_sem]
 have o6:W.cell? ⟨w.heap.size+1+1,6,none⟩=some (.int .i64 0):=by subst hW;simp [go_sem]
 have z0:W.frozen? ⟨w.heap.size+1+1,0,none⟩=false:=by subst hW;simp [go_sem]
 have z1:W.frozen? ⟨w.heap.size+1+1,1,none⟩=false:=by subst hW;simp [go_sem]
 have z2:W.frozen? ⟨w.heap.size+1+1,2,none⟩=false:=by subst hW;simp [go_sem]
 have z3:W.frozen? ⟨w.heap.size+1+1,3,none⟩=false:=by subst hW;simp [go_sem]
 have z4:W.frozen? ⟨w.heap.size+1+1,4,none⟩=false:=by subst hW;simp [go_sem]
 have z5:W.frozen? ⟨w.heap.size+1+1,5,none⟩=false:=by subst hW;simp [go_sem]
 have z6:W.frozen? ⟨w.heap.size+1+1,6,none⟩=false:=by subst hW;simp [go_sem]
 have r0:W.cell? ⟨w.heap.size+1,0,none⟩=some (.int .i64 0):=by subst hW;simp [go_sem]
 have r1:W.cell? ⟨w.heap.size+1,1,none⟩=some (.int .i64 0):=by subst hW;simp [go_sem]
 have r2:W.cell? ⟨w.heap.size+1,2,none⟩=some (.int .i64 0):=by subst hW;simp [go_sem]
 have r3:W.cell? ⟨w.heap.size+1,3,none⟩=some (.int .i64 0):=by subst hW;simp [go_sem]
 have r4:W.cell? ⟨w.heap.size+1,4,none⟩=some (.slice none 0 0):=by subst hW;simp [go_sem]
 have r5:W.cell? ⟨w.heap.size+1,5,none⟩=some (.string ⟨#[]⟩):=by subst hW;simp [go_sem]
 have r6:W.cell? ⟨w.heap.size+1,6,none⟩=some (.int .i64 0):=by subst hW;simp [go_sem]
 have x0:W.frozen? ⟨w.heap.size+1,0,none⟩=false:=by subst hW;simp [go_sem]
 have x1:W.frozen? ⟨w.heap.size+1,1,none⟩=false:=by subst hW;simp [go_sem]
 have x2:W.frozen? ⟨w.heap.size+1,2,none⟩=false:=by subst hW;simp [go_sem]
 have x3:W.frozen? ⟨w.heap.size+1,3,none⟩=false:=by subst hW;simp [go_sem]
 have x4:W.frozen? ⟨w.heap.size+1,4,none⟩=false:=by subst hW;simp [go_sem]
 have x5:W.frozen? ⟨w.heap.size+1,5,none⟩=false:=by subst hW;simp [go_sem]
 have x6:W.frozen? ⟨w.heap.size+1,6,none⟩=false:=by subst hW;simp [go_sem]
 clear hW
 refine (zIa a n cap X Y W (HP.out.below hB0) hn).mono ?_
 rintro e w1 ⟨b,rfl,hle,hlt,hp,ht,hb⟩
 have hlw:w.heap.size<W.heap.size:=by omega
 have hlo:w.heap.size+1+1<W.heap.size:=by omega
 have d5:w1.cell? ⟨w.heap.size,5,none⟩=some (.string lab):=(hb.cell (p:=⟨w.heap.size,5,none⟩) hlw).trans c5
 have d6:w1.cell? ⟨w.heap.size,6,none⟩=some (.int .i64 pr):=(hb.cell (p:=⟨w.heap.size,6,none⟩) hlw).trans c6
 have q0:w1.cell? ⟨w.heap.size+1+1,0,none⟩=some (.int .i64 id):=(hb.cell (p:=⟨w.heap.size+1+1,0,none⟩) hlo).trans o0
 have q1:w1.cell? ⟨w.heap.size+1+1,1,none⟩=some (.int .i64 la):=(hb.cell (p:=⟨w.heap.size+1+1,1,none⟩) hlo).trans o1
 have q2:w1.cell? ⟨w.heap.size+1+1,2,none⟩=some (.int .i64 ki):=(hb.cell (p:=⟨w.heap.size+1+1,2,none⟩) hlo).trans o2
 have q3:w1.cell? ⟨w.heap.size+1+1,3,none⟩=some (.int .i64 wi):=(hb.cell (p:=⟨w.heap.size+1+1,3,none⟩) hlo).trans o3
 have q4:w1.cell? ⟨w.heap.size+1+1,4,none⟩=some (.slice none 0 0):=(hb.cell (p:=⟨w.heap.size+1+1,4,none⟩) hlo).trans o4
 have q5:w1.cell? ⟨w.heap.size+1+1,5,none⟩=some (.string ⟨#[]⟩):=(hb.cell (p:=⟨w.heap.size+1+1,5,none⟩) hlo).trans o5
 have q6:w1.cell? ⟨w.heap.size+1+1,6,none⟩=some (.int .i64 0):=(hb.cell (p:=⟨w.heap.size+1+1,6,none⟩) hlo).trans o6
 have y0:w1.frozen? ⟨w.heap.size+1+1,0,none⟩=false:=(hb.frozen (p:=⟨w.heap.size+1+1,0,none⟩) hlo).trans z0
 have y1:w1.frozen? ⟨w.heap.size+1+1,1,none⟩=false:=(hb.frozen (p:=⟨w.heap.size+1+1,1,none⟩) hlo).trans z1
 have y2:w1.frozen? ⟨w.heap.size+1+1,2,none⟩=false:=(hb.frozen (p:=⟨w.heap.size+1+1,2,none⟩) hlo).trans z2
 have y3:w1.frozen? ⟨w.heap.size+1+1,3,none⟩=false:=(hb.frozen (p:=⟨w.heap.size+1+1,3,none⟩) hlo).trans z3
 have y4:w1.frozen? ⟨w.heap.size+1+1,4,none⟩=false:=(hb.frozen (p:=⟨w.heap.size+1+1,4,none⟩) hlo).trans z4
 have y5:w1.frozen? ⟨w.heap.size+1+1,5,none⟩=false:=(hb.frozen (p:=⟨w.heap.size+1+1,5,none⟩) hlo).trans z5
 have y6:w1.frozen? ⟨w.heap.size+1+1,6,none⟩=false:=(hb.frozen (p:=⟨w.heap.size+1+1,6,none⟩) hlo).trans z6
 have hl1:w.heap.size+1<W.heap.size:=by omega
 have s0:w1.cell? ⟨w.heap.size+1,0,none⟩=some (.int .i64 0):=(hb.cell (p:=⟨w.heap.size+1,0,none⟩) hl1).trans r0
 have s1:w1.cell? ⟨w.heap.size+1,1,none⟩=some (.int .i64 0):=(hb.cell (p:=⟨w.heap.size+1,1,none⟩) hl1).trans r1
 have s2:w1.cell? ⟨w.heap.size+1,2,none⟩=some (.int .i64 0):=(hb.cell (p:=⟨w.heap.size+1,2,none⟩) hl1).trans r2
 have s3:w1.cell? ⟨w.heap.size+1,3,none⟩=some (.int .i64 0):=(hb.cell (p:=⟨w.heap.size+1,3,none⟩) hl1).trans r3
 have s4:w1.cell? ⟨w.heap.size+1,4,none⟩=some (.slice none 0 0):=(hb.cell (p:=⟨w.heap.size+1,4,none⟩) hl1).trans r4
 have s5:w1.cell? ⟨w.heap.size+1,5,none⟩=some (.string ⟨#[]⟩):=(hb.cell (p:=⟨w.heap.size+1,5,none⟩) hl1).trans r5
 have s6:w1.cell? ⟨w.heap.size+1,6,none⟩=some (.int .i64 0):=(hb.cell (p:=⟨w.heap.size+1,6,none⟩) hl1).trans r6
 have t0:w1.frozen? ⟨w.heap.size+1,0,none⟩=false:=(hb.frozen (p:=⟨w.heap.size+1,0,none⟩) hl1).trans x0
 have t1:w1.frozen? ⟨w.heap.size+1,1,none⟩=false:=(hb.frozen (p:=⟨w.heap.size+1,1,none⟩) hl1).trans x1
 have t2:w1.frozen? ⟨w.heap.size+1,2,none⟩=false:=(hb.frozen (p:=⟨w.heap.size+1,2,none⟩) hl1).trans x2
 have t3:w1.frozen? ⟨w.heap.size+1,3,none⟩=false:=(hb.frozen (p:=⟨w.heap.size+1,3,none⟩) hl1).trans x3
 have t4:w1.frozen? ⟨w.heap.size+1,4,none⟩=false:=(hb.frozen (p:=⟨w.heap.size+1,4,none⟩) hl1).trans x4
 have t5:w1.frozen? ⟨w.heap.size+1,5,none⟩=false:=(hb.frozen (p:=⟨w.heap.size+1,5,none⟩) hl1).trans x5
 have t6:w1.frozen? ⟨w.heap.size+1,6,none⟩=false:=(hb.frozen (p:=⟨w.heap.size+1,6,none⟩) hl1).trans x6
 have hne:w.heap.size+1+1≠b:=by omega
 have hne1:w.heap.size+1≠b:=by omega
 have hS1:w.heap.size≤w.heap.size+1:=by omega
 have hS2:w.heap.size≤w.heap.size+1+1:=by omega
 have hge:w.heap.size≤b:=by omega
 have HP1:Hid (zK w1 b 0 n X Y):=hp
 have HT1:Hid (zD w1 b (n * 2)):=ht
 clear ht
 have HB1:Hid (Bw w w1):=zA hB0 hb
 clear r0 r1 r2 r3 r4 r5 r6 x0 x1 x2 x3 x4 x5 x6 hl1 o0 o1 o2 o3 o4 o5 o6 z0 z1 z2 z3 z4 z5 z6 c5 c6 hp hb hB0 hsz hle hlw hlo
 go_wp2
 exact bodyPost_ret (v:=.agg #[.int .i64 id,.int .i64 la,.int .i64 ki,.int .i64 wi,.slice (some ⟨b,0,none⟩) n n,.string lab,.int .i64 pr]) (by simp [results,Tryz.results260,go_sem, *]) rfl ⟨b,rfl,hge,by simpa using hlt,((((((((((HP1.out).store hne).store hne).store hne).store hne1).store hne1).store hne1).store hne1).store hne1).store hne1).store hne1,((((((((((HT1.out).store hne).store hne).store hne).store hne1).store hne1).store hne1).store hne1).store hne1).store hne1).store hne1,((((((((((HB1.out).setCell hS2 _).setCell hS2 _).setCell hS2 _).setCell hS1 _).setCell hS1 _).setCell hS1 _).setCell hS1 _).setCell hS1 _).setCell hS1 _).setCell hS1 _⟩
theorem zKo (a:Option Addr)(n cap left:Nat)(w:World)(hl:left≤1048576)(hn:left<n)(hm:n≤maxLen) :
  Calls Tryz.prog 284 #[.slice a n cap,.int .i64 left] w fun e w'=>e=.returned (.int .i64 (-1))∧w=w':=by
 unfold maxLen at hm
 have hneg:(left:Int) - (n:Int)<0:=by omega
 go_enter Tryz.func284,Tryz.ntmps284
 go_wp2
 go_ret
 exact ⟨rfl,rfl⟩
theorem zDr (a:Option Addr)(n cap left:Nat)(w:World)(hl:left≤1048576)(hn:n≤left) :
  Calls Tryz.prog 284 #[.slice a n cap,.int .i64 left] w fun e w'=>e=.returned (.int .i64 ((left:Int) - (n:Int)))∧w=w':=by
 have hneg:¬ (left:Int) - (n:Int)<0:=by omega
 go_enter Tryz.func284,Tryz.ntmps284
 go_wp2
 go_ret
 exact ⟨rfl,rfl⟩
def szF (left n s:Nat):Int:=if left<n+s then -1 else (left:Int) - (n:Int) - (s:Int)
theorem zGw (id la ki wi:Int)(a:Option Addr)(n cap:Nat)(lab:ByteArray)(pr:Int)(left:Nat)(w:World)(hl:left≤1048576)(hn:n≤maxLen)(hs:lab.size≤maxLen) :
  Calls Tryz.prog 252 #[.agg #[.int .i64 id,.int .i64 la,.int .i64 ki,.int .i64 wi,.slice a n cap,.string lab,.int .i64 pr],.int .i64 left] w fun e w'=>e=.returned (.int .i64 (szF left n lab.size))∧Bw w w':=by
 have hs':lab.size≤9223372036854775807:=by unfold maxLen at hs;omega
 clear hs
 by_cases h1:left<n
 ·have hz:Hid (szF left n lab.size=-1):=by show _=_;unfold szF;rw [if_pos (by omega)]
  go_enter Tryz.func252,Tryz.ntmps252
  go_wp2_with (go_at_call 284;refine (zKo _ _ _ _ _ hl h1 hn).mono ?_;rintro e w' ⟨rfl,rfl⟩)
  go_ret
  exact ⟨zE hz.out.symm,Qb⟩
 ·have hge:n≤left:=by omega
  have g1:¬ (left:Int) - (n:Int)<0:=by omega
  by_cases h2:left<n+lab.size
  ·have hz:Hid (szF left n lab.size=-1):=by show _=_;unfold szF;rw [if_pos h2]
   have g2:(left:Int) - (n:Int) - (lab.size:Int)<0:=by omega
   go_enter Tryz.func252,Tryz.ntmps252
   go_wp2_with (go_at_call 284;refine (zDr _ _ _ _ _ hl hge).mono ?_;rintro e w' ⟨rfl,rfl⟩)
   go_ret
   exact ⟨zE hz.out.symm,Qb⟩
  ·have hz:Hid (szF left n lab.size=(left:Int) - (n:Int) - (lab.size:Int)):=by show _=_;unfold szF;rw [if_neg h2]
   have g2:¬ (left:Int) - (n:Int) - (lab.size:Int)<0:=by omega
   go_enter Tryz.func252,Tryz.ntmps252
   go_wp2_with (go_at_call 284;refine (zDr _ _ _ _ _ hl hge).mono ?_;rintro e w' ⟨rfl,rfl⟩)
   go_ret
   exact ⟨zE hz.out.symm,Qb⟩
theorem zHu (id la ki wi:Int)(n:Nat)(X Y:Nat→Int)(lab:ByteArray)(pr:Int)(b d:Nat)(w:World)(hp:zK w b 0 n X Y)(hq:zK w d 0 n X Y)(hb:b<w.heap.size)(hd:d<w.heap.size)(hmax:n≤1048576) :
  Calls Tryz.prog 261 #[.agg #[.int .i64 id,.int .i64 la,.int .i64 ki,.int .i64 wi,.slice (some ⟨b,0,none⟩) n n,.string lab,.int .i64 pr],.agg #[.int .i64 id,.int .i64 la,.int .i64 ki,.int .i64 wi,.slice (some ⟨d,0,none⟩) n n,.string lab,.int .i64 pr]] w fun e w'=>e=.returned (.bool true)∧Bw w w':=by
 have HP:Hid (zK w b 0 n X Y):=hp
 have HQ:Hid (zK w d 0 n X Y):=hq
 clear hp hq
 go_enter Tryz.func261,Tryz.ntmps261
 go_wp2_with fail
 generalize hW:((w.alloc _).alloc _:World)=W
 have hB0:Bw w W:=by subst hW;exact Qb
 have hsz:W.heap.size=w.heap.size+1+1:=by subst hW;simp
 have c5:W.cell? ⟨w.heap.size,5,none⟩=some (.string lab):=by subst hW;simp [go_sem]
 have c6:W.cell? ⟨w.heap.size,6,none⟩=some (.int .i64 pr):=by subst hW;simp [go_sem]
 have o5:W.cell? ⟨w.heap.size+1,5,none⟩=some (.string lab):=by subst hW;simp [go_sem]
 have o6:W.cell? ⟨w.heap.size+1,6,none⟩=some (.int .i64 pr):=by subst hW;simp [go_sem]
 clear hW
 refine (zJl b d n X Y W (HP.out.below hB0 hb) (HQ.out.below hB0 hd) (by omega) (by omega) hmax).mono ?_
 rintro e w1 ⟨rfl,hb1⟩
 have d5:=(hb1.cell (p:=⟨w.heap.size,5,none⟩) (show w.heap.size<_ by omega)).trans c5
 have d6:=(hb1.cell (p:=⟨w.heap.size,6,none⟩) (show w.heap.size<_ by omega)).trans c6
 have e5:=(hb1.cell (p:=⟨w.heap.size+1,5,none⟩) (show w.heap.size+1<_ by omega)).trans o5
 have e6:=(hb1.cell (p:=⟨w.heap.size+1,6,none⟩) (show w.heap.size+1<_ by omega)).trans o6
 have HB1:Hid (Bw w w1):=zA hB0 hb1
 clear c5 c6 o5 o6 hb1 hB0 hsz
 go_wp2
 go_ret
 exact ⟨rfl,HB1.out⟩
theorem zN3 {id la ki wi:Int}{n:Nat}{X Y:Nat→Int}{lab:ByteArray}{pr:Int}(h:zI id la ki wi n X Y lab pr=0) :
  (ki=1∨ki=2∨ki=3)∧0<n∧n≤12∧(ki≤n)∧(∀ i,i<n→inW (X i) (Y i)=true)∧lab.size≤6:=by
 unfold zI at h
 split at h
 ·rename_i h1
  split at h
  ·rename_i h2
   split at h
   ·rename_i h3
    split at h
    ·rename_i h4
     have hk:1≤ki∧ki≤3:=by
      simp [zB5,inB] at h1
      omega
     have hlab:lab.size≤6:=by
      unfold zH2 at h4
      simp at h4
      exact h4.1
     have hin:∀ i,i<n→inW (X i) (Y i)=true:=of_decide_eq_true h3
     have hkk:ki=1∨ki=2∨ki=3:=by omega
     refine ⟨hkk,?_,?_,?_,hin,hlab⟩
     all_goals
      rcases hkk with rfl | rfl | rfl
      ·simp [xS] at h2;omega
      ·simp [xS,inB] at h2;omega
      ·simp [xS,inB] at h2;omega
    ·cases h
   ·cases h
  ·cases h
 ·cases h
theorem zQi {id la ki wi:Int}{n:Nat}{X Y:Nat→Int}{lab:ByteArray}{pr:Int}(h:zI id la ki wi n X Y lab pr=0) :
  (1≤id∧id≤999)∧(0≤la∧la≤9)∧(0≤wi∧wi≤3)∧(0≤pr∧pr≤9):=by
 unfold zI at h
 split at h
 ·rename_i h1
  simp [zB5,inB] at h1
  omega
 ·cases h
def kindN (ki:Int)(n:Nat):Prop:=(ki=1∧n=1)∨(ki=2∧2≤n)∨(ki=3∧3≤n)
theorem zLk {id la wi:Int}{n:Nat}{X Y:Nat→Int}{lab:ByteArray}{pr:Int}(h:zI id la 1 wi n X Y lab pr=0):n=1:=by
 unfold zI at h
 split at h
 ·split at h
  ·rename_i h2
   simp [xS] at h2
   omega
  ·cases h
 ·cases h
theorem zMn {n k:Nat}{E:Nat→Req}(h:k<n):(atW k E (E k).z (E k).x (E k).y=-1∧atW n E (E k).z (E k).x (E k).y=(k:Int))∨(0≤atW k E (E k).z (E k).x (E k).y∧∃ i:Nat,i<k∧atW n E (E k).z (E k).x (E k).y=(i:Int)):=by
 rcases uT (fun i=>isR (E i) (E k).z (E k).x (E k).y) k with ⟨h1,h2⟩ | ⟨i,hi,hg,hf,hn⟩
 ·exact .inl ⟨h1,yP (G:=fun i=>isR (E i) (E k).z (E k).x (E k).y) h (zSg _) h2⟩
 ·exact .inr ⟨by unfold atW;rw [hf];omega,i,hi,yP (G:=fun i=>isR (E i) (E k).z (E k).x (E k).y) (by omega) hg hn⟩
theorem zNc (e:Req):(zTb e=0∧zJ8 e=true)∨(zTb e=3∧zJ8 e=false):=by
 unfold zTb
 cases h:zJ8 e <;> simp
theorem zAk (a:Option Addr)(n cap:Nat)(E:Nat→Req)(w:World)(hp:zAn w a n E)(hn:n≤1048576)(hcap:n≤cap) :
  Calls Tryz.prog 76 #[.slice a n cap] w fun e w'=>e=.returned (.int .i64 (zX n E))∧Bw w w':=by
 have HP:Hid (zAn w a n E):=hp
 clear hp
 by_cases h8:(8:Int)<n
 ·have hz:Hid (zX n E=2):=by show _=_;unfold zX;rw [if_pos (by omega)]
  go_enter Tryz.func76,Tryz.ntmps76
  go_wp2
  go_ret
  exact ⟨zE hz.out.symm,Qb⟩
 ·have hz:Hid (zX n E=yR (xE E) 0 n):=by show _=_;unfold zX;rw [if_neg (by omega)]
  go_enter Tryz.func76,Tryz.ntmps76
  go_wp2
  go_loopw [11] (fun v wr=>∃ k:Nat,k≤n∧v=.int .i64 k∧(∀ j,j<k→xE E j=0)∧Bw w wr) (fun v _=>n - (intOf v).toNat)
  case atStart=>exact ⟨0,by omega,rfl,by omega,Below.refl _ _⟩
  case round =>
   obtain ⟨k,hk,rfl,hA,hB⟩:=hrel
   have HB:Hid (Bw w wr):=hB
   have HA:Hid (∀ j,j<k→xE E j=0):=hA
   by_cases hlt:k<n
   ·rcases HP.out with h0 | ⟨b,off,rfl,hbl,hpt⟩
    ·omega
    have HGr:Hid (zGl wr b off n E):=hpt.below hB hbl
    have hblr:b<wr.heap.size:=Nat.lt_of_lt_of_le hbl hB.size
    obtain ⟨f0,f1,f2,f3,f4⟩:=HGr.out k hlt
    have HLT:Hid (k<n):=hlt
    have first:Hid (∀ c,xE E k=c→c≠0→zX n E=c):=fun c hc h0=>by
     rw [hz.out,zU (xE E) n 0 k (fun j _ hj=>HA.out j hj) (by omega) (by have:=HLT.out;omega) (by rw [hc];exact h0),hc]
    have HOK:Hid (xE E k=0→∀ j,j<k+1→xE E j=0):=fun h0 j hj=>by
     by_cases e:j=k
     ·rw [e];exact h0
     ·exact HA.out j (by omega)
    clear hB hA hpt
    have hi:(k:Int)<(n:Int):=by omega
    have hi0:(0:Int)≤(k:Int):=by omega
    go_wp2_with fail
    generalize hV:(wr.alloc _:World)=V
    have hBV:Bw wr V:=by subst hV;exact Qb
    have v0:∀ W',Bw V W'→W'.cell? ⟨wr.heap.size,0,none⟩=some (.int .i64 (E k).z):=Qc hV
    have v1:∀ W',Bw V W'→W'.cell? ⟨wr.heap.size,1,none⟩=some (.int .i64 (E k).x):=Qc hV
    have v2:∀ W',Bw V W'→W'.cell? ⟨wr.heap.size,2,none⟩=some (.int .i64 (E k).y):=Qc hV
    clear hV
    have HBV:Hid (Bw w V):=zA HB.out hBV
    have HGV:Hid (zGl V b off n E):=HGr.out.below hBV hblr
    have hblV:b<V.heap.size:=Nat.lt_of_lt_of_le hblr hBV.size
    clear hBV f0 f1 f2 f3 f4 HGr
    refine (zC8 (E k) _).mono ?_
    rintro e w1 ⟨rfl,hb1⟩
    rcases zNc (E k) with ⟨hc0,hcB⟩ | ⟨hc3,hcB⟩
    ·rw [hc0]
     have hr1:Bw V w1:=hb1
     have hkn:(k:Int)≤(n:Int):=by omega
     have hkc:(k:Int)≤(cap:Int):=by omega
     have HH:Hid (∀ W',Bw V W'→Calls Tryz.prog 126 #[.slice (some ⟨b,off,none⟩) k cap,uL (E k).z (E k).x (E k).y] W' fun e w'=>e=.returned (.int .i64 (atW k E (E k).z (E k).x (E k).y))∧Below W'.heap.size W' w'):=fun W' h =>
      zG2 _ k cap E _ _ _ W' (.inr ⟨b,off,rfl,Nat.lt_of_lt_of_le hblV h.size,fun i hi=>(HGV.out.below h hblV) i (by have:=HLT.out;omega)⟩) (by omega)
     clear hc0 hb1
     rcases zMn HLT.out with ⟨hq,_⟩ | ⟨hq,_⟩
     ·have hok:Hid (xE E k=0):=zL1 hcB hq
      rw [hq] at HH
      clear hq hcB
      generalize (E k).z=rz at *
      generalize (E k).x=rx at *
      generalize (E k).y=ry at *
      go_wp2_with fail
      go_region_held3 (fun W'=>Bw V W') ((repeat (first|exact Qr _ _|assumption|refine Qd ?_|refine Qa ?_ _|refine Qt ?_|refine Qs ?_ _|refine Qo ?_ ?_ _ _)))
       (first | (go_at_call 126;refine (HH.out _ (by assumption)).mono ?_;rintro e w' ⟨rfl,hb⟩) | fail)
      go_wp2
      go_roundw
      case rel=>exact ⟨k+1,by have:=HLT.out;omega,by go_num,HOK.out hok.out,zA HBV.out (by assumption)⟩
      case measure=>have:=HLT.out;simp [intOf];omega
     ·have hsc:Hid (zX n E=6):=first.out 6 (zDx hcB hq) (by decide)
      have hq':(0:Int)≤atW k E (E k).z (E k).x (E k).y:=hq
      clear hq hcB
      generalize atW k E (E k).z (E k).x (E k).y=q at *
      generalize (E k).z=rz at *
      generalize (E k).x=rx at *
      generalize (E k).y=ry at *
      go_wp2_with fail
      go_region_held3 (fun W'=>Bw V W') ((repeat (first|exact Qr _ _|assumption|refine Qd ?_|refine Qa ?_ _|refine Qt ?_|refine Qs ?_ _|refine Qo ?_ ?_ _ _)))
       (first | (go_at_call 126;refine (HH.out _ (by assumption)).mono ?_;rintro e w' ⟨rfl,hb⟩) | fail)
      go_wp2
      go_ret
      exact ⟨zE hsc.out.symm,zA HBV.out (by assumption)⟩
    ·have hsc:Hid (zX n E=3):=first.out 3 (zB6 hcB) (by decide)
     rw [hc3]
     have HB1:Hid (Bw w w1):=zA HBV.out hb1
     clear hc3 hcB hb1
     go_wp2
     go_ret
     exact ⟨zE hsc.out.symm,HB1.out⟩
   ·have hsc:Hid (zX n E=0):=by
     show _=_
     rw [hz.out]
     exact yT _ _ _ (fun j _ hj=>HA.out j (by omega))
    go_wp2
    go_ret
    exact ⟨zE hsc.out.symm,HB.out⟩
theorem zI5 (a:Option Addr)(n cap:Nat)(E:Nat→Req)(w:World)(hp:zAn w a n E)(hn:n≤1048576) :
  Calls Tryz.prog 90 #[.slice a n cap] w fun e w'=>e=.returned (.int .i64 (zX n E))∧Bw w w':=by
 have HP:Hid (zAn w a n E):=hp
 clear hp
 by_cases h8:(8:Int)<n
 ·have hz:Hid (zX n E=2):=by show _=_;unfold zX;rw [if_pos (by omega)]
  go_enter Tryz.func90,Tryz.ntmps90
  go_wp2
  go_ret
  exact ⟨zE hz.out.symm,Qb⟩
 ·have hz:Hid (zX n E=yR (xE E) 0 n):=by show _=_;unfold zX;rw [if_neg (by omega)]
  go_enter Tryz.func90,Tryz.ntmps90
  go_wp2
  go_loopw [3] (fun v wr=>∃ k:Nat,k≤n∧v=.int .i64 k∧(∀ j,j<k→xE E j=0)∧Bw w wr) (fun v _=>n - (intOf v).toNat)
  case atStart=>exact ⟨0,by omega,rfl,by omega,Below.refl _ _⟩
  case round =>
   obtain ⟨k,hk,rfl,hA,hB⟩:=hrel
   have HB:Hid (Bw w wr):=hB
   have HA:Hid (∀ j,j<k→xE E j=0):=hA
   by_cases hlt:k<n
   ·rcases HP.out with h0 | ⟨b,off,rfl,hbl,hpt⟩
    ·omega
    have HGr:Hid (zGl wr b off n E):=hpt.below hB hbl
    have hblr:b<wr.heap.size:=Nat.lt_of_lt_of_le hbl hB.size
    have hr:Bw wr wr:=Below.refl _ _
    obtain ⟨f0,f1,f2,_,_⟩:=HGr.out k hlt
    have HLT:Hid (k<n):=hlt
    have first:Hid (∀ c,xE E k=c→c≠0→zX n E=c):=fun c hc h0=>by
     rw [hz.out,zU (xE E) n 0 k (fun j _ hj=>HA.out j hj) (by omega) (by have:=HLT.out;omega) (by rw [hc];exact h0),hc]
    have HOK:Hid (xE E k=0→∀ j,j<k+1→xE E j=0):=fun h0 j hj=>by
     by_cases e:j=k
     ·rw [e];exact h0
     ·exact HA.out j (by omega)
    clear hB hA hpt
    have hi:(k:Int)<(n:Int):=by omega
    have hi0:(0:Int)≤(k:Int):=by omega
    go_wp2_with fail
    refine (zD7 _ _ _ _).mono ?_
    rintro e w1 ⟨rfl,hb1⟩
    have HB1:Hid (Bw w w1):=zA HB.out hb1
    have HG1:Hid (zGl w1 b off n E):=HGr.out.below hb1 hblr
    have hbl1:b<w1.heap.size:=Nat.lt_of_lt_of_le hblr hb1.size
    clear f0 f1 f2 hb1 hr
    rcases uM (E k).z (E k).x (E k).y with ⟨h1,h2⟩ | ⟨h1,h2⟩
    ·rw [h1]
     obtain ⟨g0,g1,g2,g3,g4⟩:=HG1.out k hlt
     clear h1
     cases hcB:(inB (E k).du 0 9999 && inB (E k).tr 1 99)
     ·have hsc:Hid (zX n E=3):=first.out 3 (zB6 (by simp [zJ8,h2,hcB])) (by decide)
      clear h2
      cases h3:inB (E k).du 0 9999
      ·clear hcB
       go_wp2_with (go_at_call 32;refine (zO _ _ _ _).mono ?_;rintro e w' ⟨rfl,rfl⟩)
       go_ret
       exact ⟨zE hsc.out.symm,HB1.out⟩
      ·have h4:inB (E k).tr 1 99=false:=by rw [h3] at hcB;simpa using hcB
       clear hcB
       go_wp2_with (go_at_call 32;refine (zO _ _ _ _).mono ?_;rintro e w' ⟨rfl,rfl⟩)
       go_ret
       exact ⟨zE hsc.out.symm,HB1.out⟩
     ·have h3:inB (E k).du 0 9999=true:=by simp at hcB;exact hcB.1
      have h4:inB (E k).tr 1 99=true:=by simp at hcB;exact hcB.2
      have hrq:Hid (zJ8 (E k)=true):=by show _=_;simp [zJ8,h2,hcB]
      clear hcB h2
      have HH:Hid (Calls Tryz.prog 114 #[.slice (some ⟨b,off,none⟩) n cap,uL (E k).z (E k).x (E k).y] w1 fun e w'=>e=.returned (.int .i64 (atW n E (E k).z (E k).x (E k).y))∧Bw w1 w') :=
       zP2 _ n cap E _ _ _ w1 (.inr ⟨b,off,rfl,hbl1,HG1.out⟩) (by omega)
      rcases zMn HLT.out with ⟨hq,hq2⟩ | ⟨hq,i,hik,hq2⟩
      ·have hok:Hid (xE E k=0):=zL1 hrq.out hq
       rw [hq2] at HH
       clear hq hq2
       generalize (E k).z=rz at *
       generalize (E k).x=rx at *
       generalize (E k).y=ry at *
       generalize (E k).du=rd at *
       generalize (E k).tr=rt at *
       go_wp2_with (first | (go_at_call 32;refine (zO _ _ _ _).mono ?_;rintro e w' ⟨rfl,rfl⟩) | (go_at_call 114;refine HH.out.mono ?_;rintro e w' ⟨rfl,hb⟩))
       go_roundw
       case rel=>exact ⟨k+1,by have:=HLT.out;omega,by go_num,HOK.out hok.out,zA HB1.out (by assumption)⟩
       case measure=>have:=HLT.out;simp [intOf];omega
      ·have hsc:Hid (zX n E=6):=first.out 6 (zDx hrq.out hq) (by decide)
       have hne:((i:Int) == (k:Int))=false:=by simp;omega
       rw [hq2] at HH
       clear hq hq2
       generalize (E k).z=rz at *
       generalize (E k).x=rx at *
       generalize (E k).y=ry at *
       generalize (E k).du=rd at *
       generalize (E k).tr=rt at *
       generalize (i:Int)=ii at *
       clear hik
       go_wp2_with (first | (go_at_call 32;refine (zO _ _ _ _).mono ?_;rintro e w' ⟨rfl,rfl⟩) | (go_at_call 114;refine HH.out.mono ?_;rintro e w' ⟨rfl,hb⟩))
       go_ret
       exact ⟨zE hsc.out.symm,zA HB1.out (by assumption)⟩
    ·have hsc:Hid (zX n E=3):=first.out 3 (zB6 (by simp [zJ8,h2])) (by decide)
     rw [h1]
     clear h1 h2
     go_wp2
     go_ret
     exact ⟨zE hsc.out.symm,HB1.out⟩
   ·have hsc:Hid (zX n E=0):=by
     show _=_
     rw [hz.out]
     exact yT _ _ _ (fun j _ hj=>HA.out j (by omega))
    go_wp2
    go_ret
    exact ⟨zE hsc.out.symm,HB.out⟩
def zLe (R:Rfs)(z x y:Int):Nat→Bool
 | 0=>false
 | n+1=>zLe R z x y n || ((R.z n == z) && ((R.x n == x) && (R.y n == y)))
theorem zLd {R:Rfs}{z x y:Int}:∀ {n:Nat},(∀ i,i<n→((R.z i == z) && ((R.x i == x) && (R.y i == y)))=false)→zLe R z x y n=false
 | 0,_=>rfl
 | n+1,h=>by rw [zLe,zLd (fun i hi=>h i (by omega)),h n (by omega)];rfl
theorem zHq {R:Rfs}{z x y:Int}:∀ {n i:Nat},i<n→((R.z i == z) && ((R.x i == x) && (R.y i == y)))=true→zLe R z x y n=true
 | n+1,i,hi,h=>by
  rw [zLe]
  by_cases e:i=n
  ·subst e;rw [h];simp
  ·rw [zHq (n:=n) (by omega) h];rfl
theorem zNx (a:Option Addr)(n cap:Nat)(R:Rfs)(z x y:Int)(w:World)(hp:zOm w a n R)(hn:n≤1048576) :
  Calls Tryz.prog 213 #[.slice a n cap,uL z x y] w fun e w'=>(∃ k:Int,e=.returned (.int .i64 k)∧decide (0≤k)=zLe R z x y n)∧Bw w w':=by
 have HP:Hid (zOm w a n R):=hp
 clear hp
 go_enter Tryz.func213,Tryz.ntmps213
 go_wp2_with fail
 generalize hW:(w.alloc _:World)=W
 have HB0:Hid (Bw w W):=by show Below _ _ _;subst hW;exact Qb
 have HV:Hid (uC W w.heap.size z x y):=by show uC _ _ _ _ _;subst hW;exact ⟨by simp [go_sem],by simp [go_sem],by simp [go_sem]⟩
 clear hW
 go_loopw [8] (fun i wr=>∃ k:Nat,k≤n∧i=.int .i64 (k:Int)∧(∀ j,j<k→((R.z j == z) && ((R.x j == x) && (R.y j == y)))=false)∧Bw W wr) (fun i _=>n - (intOf i).toNat)
 case atStart=>exact ⟨0,by omega,rfl,fun j hj=>absurd hj (Nat.not_lt_zero _),Below.refl _ _⟩
 case round =>
  obtain ⟨k,hk,rfl,hno,hB⟩:=hrel
  have HN:Hid (∀ j,j<k→((R.z j == z) && ((R.x j == x) && (R.y j == y)))=false):=hno
  have HB:Hid (Bw W wr):=hB
  obtain ⟨p0,p1,p2⟩:=HV.out.below hB
  by_cases hlt:k<n
  ·rcases HP.out with h0 | ⟨b,off,rfl,hb,hpt⟩
   ·omega
   obtain ⟨q0,q1,q2⟩:=(hpt.below (zA HB0.out hB) hb) k hlt
   have hi:(k:Int)<(n:Int):=by omega
   have hi0:(0:Int)≤(k:Int):=by omega
   have heq:=fun w=>zEq z x y (R.z k) (R.x k) (R.y k) w
   rw [zRm] at heq
   clear hno hB hpt
   cases hE:((R.z k == z) && ((R.x k == x) && (R.y k == y)))
   ·rw [hE] at heq
    have HN2:Hid (∀ j,j<k+1→((R.z j == z) && ((R.x j == x) && (R.y j == y)))=false):=fun j hj=>by
     by_cases e:j=k
     ·rw [e];exact hE
     ·exact HN.out j (by omega)
    clear hE
    generalize R.z k=rz at *
    generalize R.x k=rx at *
    generalize R.y k=ry at *
    go_wp2_with fail
    go_quiet (fail)
    go_wp2_with fail
    exact ⟨⟨k+1,by omega,by simp,HN2.out,below_drewN HB.out _⟩,by simp [intOf];omega⟩
   ·rw [hE] at heq
    have HY:Hid (zLe R z x y n=true):=zHq hlt hE
    clear hE
    generalize R.z k=rz at *
    generalize R.x k=rx at *
    generalize R.y k=ry at *
    go_wp2_with fail
    go_quiet (fail)
    go_wp2
    go_ret
    exact ⟨⟨(k:Int),rfl,by rw [HY.out];simp⟩,below_drewN (zA HB0.out HB.out) _⟩
  ·obtain rfl:n=k:=by omega
   have HY:Hid (zLe R z x y n=false):=zLd HN.out
   go_wp2
   go_ret
   exact ⟨⟨-1,rfl,by rw [HY.out];simp⟩,zA HB0.out HB.out⟩
theorem zHx (a:Option Addr)(n cap:Nat)(R:Rfs)(z x y:Int)(w:World)(hp:zOm w a n R)(hn:n≤1048576) :
  Calls Tryz.prog 173 #[.slice a n cap,uL z x y] w fun e w'=>e=.returned (.bool (zLe R z x y n))∧Bw w w':=by
 have HI:Hid (∀ W,Bw w W→Calls Tryz.prog 213 #[.slice a n cap,uL z x y] W fun e w'=>(∃ k:Int,e=.returned (.int .i64 k)∧decide (0≤k)=zLe R z x y n)∧Bw W w'):=fun W h=>zNx a n cap R z x y W (hp.below h) hn
 clear hp
 generalize zLe R z x y n=B at *
 go_enter Tryz.func173,Tryz.ntmps173
 go_wp2_with fail
 generalize hW:(w.alloc _:World)=W
 have HB0:Bw w W:=by subst hW;exact Qb
 clear hW
 refine (HI.out _ HB0).mono ?_
 rintro e w1 ⟨⟨k,rfl,hk⟩,hb1⟩
 have HK:Hid (decide (0≤k)=B):=hk
 clear hk
 go_wp2
 go_ret
 exact ⟨zF HK.out,zA HB0 hb1⟩
theorem zNq (b n:Nat)(R:Rfs)(z x y:Int)(w:World)(hn:n≤1048576)(hL:∀ W,Bw w W→Calls Tryz.prog 67 #[.pointer (some ⟨b,0,none⟩)] W fun e w'=>∃ v,e=.returned v∧zDm W.heap.size w' v n R∧Bw W w') :
  Calls Tryz.prog 91 #[.pointer (some ⟨b,0,none⟩),uL z x y] w fun e w'=>e=.returned (.bool (zLe R z x y n))∧Bw w w':=by
 have HL:Hid (∀ W,Bw w W→Calls Tryz.prog 67 #[.pointer (some ⟨b,0,none⟩)] W fun e w'=>∃ v,e=.returned v∧zDm W.heap.size w' v n R∧Bw W w'):=hL
 clear hL
 go_enter Tryz.func91,Tryz.ntmps91
 go_wp2_with fail
 generalize hW:(w.alloc _:World)=W
 have HB0:Hid (Bw w W):=by show Below _ _ _;subst hW;exact Qb
 have HV:Hid (uC W w.heap.size z x y):=by show uC _ _ _ _ _;subst hW;exact ⟨by simp [go_sem],by simp [go_sem],by simp [go_sem]⟩
 clear hW
 refine (HL.out _ HB0.out).mono ?_
 rintro e w1 ⟨v,rfl,hO,hb1⟩
 obtain ⟨a0,cap0,hv,hc0,hcase⟩:=hO.own
 subst hv
 have HP:Hid (zOm w1 a0 n R):=by
  rcases hcase with h | ⟨g,ha,h1,h2,h3,_⟩
  ·exact .inl h
  ·exact .inr ⟨g,0,ha,h2,h3⟩
 have HV1:Hid (uC w1 w.heap.size z x y):=HV.out.below hb1
 have HB1:Hid (Bw w w1):=zA HB0.out hb1
 clear hcase hO hb1 HV HB0 HL
 go_wp2_with fail
 go_loopw [6] (fun i wr=>∃ k:Nat,k≤n∧i=.int .i64 (k:Int)∧(∀ j,j<k→((R.z j == z) && ((R.x j == x) && (R.y j == y)))=false)∧Bw w1 wr) (fun i _=>n - (intOf i).toNat)
 case atStart=>exact ⟨0,by omega,rfl,fun j hj=>absurd hj (Nat.not_lt_zero _),Below.refl _ _⟩
 case round =>
  obtain ⟨k,hk,rfl,hno,hB⟩:=hrel
  have HN:Hid (∀ j,j<k→((R.z j == z) && ((R.x j == x) && (R.y j == y)))=false):=hno
  have HB:Hid (Bw w1 wr):=hB
  obtain ⟨p0,p1,p2⟩:=HV1.out.below hB
  by_cases hlt:k<n
  ·rcases HP.out with h0 | ⟨g,off,rfl,hb,hpt⟩
   ·omega
   obtain ⟨q0,q1,q2⟩:=(hpt.below hB hb) k hlt
   have hi:(k:Int)<(n:Int):=by omega
   have hi0:(0:Int)≤(k:Int):=by omega
   have heq:=fun w=>zEq (R.z k) (R.x k) (R.y k) z x y w
   clear hno hB hpt
   cases hE:((R.z k == z) && ((R.x k == x) && (R.y k == y)))
   ·rw [hE] at heq
    have HN2:Hid (∀ j,j<k+1→((R.z j == z) && ((R.x j == x) && (R.y j == y)))=false):=fun j hj=>by
     by_cases e:j=k
     ·rw [e];exact hE
     ·exact HN.out j (by omega)
    clear hE
    generalize R.z k=rz at *
    generalize R.x k=rx at *
    generalize R.y k=ry at *
    go_wp2_with fail
    go_quiet (fail)
    go_wp2_with fail
    exact ⟨⟨k+1,by omega,by simp,HN2.out,below_drewN HB.out _⟩,by simp [intOf];omega⟩
   ·rw [hE] at heq
    have HY:Hid (zLe R z x y n=true):=zHq hlt hE
    clear hE
    generalize R.z k=rz at *
    generalize R.x k=rx at *
    generalize R.y k=ry at *
    go_wp2_with fail
    go_quiet (fail)
    go_wp2
    go_ret
    exact ⟨zF (by rw [HY.out]),below_drewN (zA HB1.out HB.out) _⟩
  ·obtain rfl:n=k:=by omega
   have HY:Hid (zLe R z x y n=false):=zLd HN.out
   go_wp2
   go_ret
   exact ⟨zF (by rw [HY.out]),zA HB1.out HB.out⟩
end Go.Proofs.YtpaiholildedcaaGreat
