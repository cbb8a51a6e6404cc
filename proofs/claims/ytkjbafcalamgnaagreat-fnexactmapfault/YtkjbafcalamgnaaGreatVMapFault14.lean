/- Texts. -/
import Derived.Test.YtkjbafcalamgnaaGreatVMapFault9
set_option linter.unusedSimpArgs false
set_option linter.unusedVariables false
set_option maxRecDepth 100000
set_option maxHeartbeats 32000000
namespace Go.Proofs.YtkjbafcalamgnaaGreat
open Go.RowKit

def zBu (z x y wd ht rz rx ry:Int):Bool:=zHr (visR z x y wd) rz rx ry (zEy z x y wd ht)
theorem zB6 (z x y wd ht rz rx ry:Int)(w:World):Calls Tryz.prog 127 #[zGl z x y wd ht,vW rz rx ry] w fun e w'=>e=.returned (.bool (zBu z x y wd ht rz rx ry))∧Bw w w':=by
 have sV:∀ w,Calls Tryz.prog 131 #[zGl z x y wd ht] w fun e w'=>∃ a cap,e=.returned (.agg #[.int .i64 (vZ z x y wd ht),.slice a (zEy z x y wd ht) cap])∧zMg w' a (zEy z x y wd ht) (visR z x y wd)∧Bw w w':=fun w=>(uM z x y wd ht w).mono fun e w' ⟨v,h1,h2,h3⟩=>by
  obtain ⟨a,cap,rfl,_,hI⟩:=h2.pts
  exact ⟨a,cap,h1,hI,h3⟩
 have hm:zEy z x y wd ht≤1048576:=by have:=zKk z x y wd ht;omega
 have HC:Hid (∀ a cap w,zMg w a (zEy z x y wd ht) (visR z x y wd)→Calls Tryz.prog 169 #[.slice a (zEy z x y wd ht) cap,vW rz rx ry] w fun e w'=>e=.returned (.bool (zBu z x y wd ht rz rx ry))∧Bw w w'):=fun a cap w h=>zEr a _ cap _ rz rx ry w h hm
 clear hm
 generalize zBu z x y wd ht rz rx ry=B at *
 generalize zEy z x y wd ht=m at *
 generalize visR z x y wd=R at *
 generalize vZ z x y wd ht=c at *
 have i1:∀ (a:Option Addr) (cap:Nat) w,(Instr.field 180 (.agg #[.int .i64 c,.slice a m cap]) 1).run Tryz.prog w=.ok (.slice a m cap) w:=fun _ _ _=>by kernel_rfl
 go_enter Tryz.func127,Tryz.ntmps127
 go_wp2_with fail
 generalize hW:((w.alloc _).alloc _:World)=W
 have HB0:Hid (Bw w W):=by show Below _ _ _;subst hW;exact Qb
 have c00:∀ W',Bw W W'→W'.cell? ⟨w.heap.size,0,none⟩=some (.int .i64 z):=Qc hW
 have c01:∀ W',Bw W W'→W'.cell? ⟨w.heap.size,1,none⟩=some (.int .i64 x):=Qc hW
 have c02:∀ W',Bw W W'→W'.cell? ⟨w.heap.size,2,none⟩=some (.int .i64 y):=Qc hW
 have c03:∀ W',Bw W W'→W'.cell? ⟨w.heap.size,3,none⟩=some (.int .i64 wd):=Qc hW
 have c04:∀ W',Bw W W'→W'.cell? ⟨w.heap.size,4,none⟩=some (.int .i64 ht):=Qc hW
 have c10:∀ W',Bw W W'→W'.cell? ⟨w.heap.size+1,0,none⟩=some (.int .i64 rz):=Qc hW
 have c11:∀ W',Bw W W'→W'.cell? ⟨w.heap.size+1,1,none⟩=some (.int .i64 rx):=Qc hW
 have c12:∀ W',Bw W W'→W'.cell? ⟨w.heap.size+1,2,none⟩=some (.int .i64 ry):=Qc hW
 clear hW
 have hr:Bw W W:=Below.refl _ _
 go_region_held3 (fun W'=>Bw W W') ((repeat (first|exact Qr _ _|assumption|refine Qd ?_|refine Qa ?_ _|refine Qt ?_|refine Qs ?_ _|refine Qo ?_ ?_ _ _)))
  (first
   | (go_at_call 131;refine (sV _).mono ?_;rintro e w1 ⟨a,cap,rfl,hI,hb⟩;have HI:Hid (zMg w1 a m R):=hI;clear hI)
   | (go_at_call 169;refine (HC.out _ _ _ HI.out).mono ?_;rintro e w2 ⟨rfl,hb⟩)
   | fail)
 go_wp2
 go_ret
 exact ⟨rfl,zA HB0.out (by assumption)⟩
end Go.Proofs.YtkjbafcalamgnaaGreat
