/- Texts. -/
import Derived.Test.YtpaiholildedcaaGreatVNewViewer14
import Derived.Test.YtpaiholildedcaaGreatVNewViewer13
set_option linter.unusedSimpArgs false
set_option linter.unusedVariables false
set_option maxRecDepth 100000
set_option maxHeartbeats 32000000
namespace Go.Proofs.YtpaiholildedcaaGreat
open Go.RowKit
theorem zD2 {z x y wd ht:Int}(b:Nat)(w:World)(hA:zAj w b z x y wd ht)(hr:zB0 z x y wd ht=true):Calls Tryz.prog 67 #[.pointer (some ⟨b,0,none⟩)] w fun e w'=>∃ v,e=.returned v∧zBn w.heap.size w' v (xJ z x y wd ht) (vO z x y wd)∧Bw w w':=by
 have e2:xJ z x y wd ht=zB3 y ht * zB3 x wd:=by unfold xJ;rw [if_pos hr]
 have hin:=zAh hr
 have nx:=uE (x:=x) hin.1.1
 have ny:=uE (x:=y) hin.1.2
 rw [e2]
 exact zKd b w hA hr rfl rfl rfl rfl rfl rfl ⟨⟨nx.1,nx.2.1⟩,by omega⟩ ⟨⟨ny.1,ny.2.1⟩,by omega⟩ rfl
def yI (z x y wd ht rz rx ry:Int):Bool:=hasR (vO z x y wd) rz rx ry (xJ z x y wd ht)
theorem uI (z x y wd ht rz rx ry:Int)(w:World):Calls Tryz.prog 127 #[zBg z x y wd ht,xK rz rx ry] w fun e w'=>e=.returned (.bool (yI z x y wd ht rz rx ry))∧Bw w w':=by
 have sV:∀ w,Calls Tryz.prog 80 #[zBg z x y wd ht] w fun e w'=>∃ a cap,e=.returned (.agg #[.int .i64 (xN z x y wd ht),.slice a (xJ z x y wd ht) cap])∧zC4 w' a (xJ z x y wd ht) (vO z x y wd)∧Bw w w':=fun w=>(xM z x y wd ht w).mono fun e w' ⟨v,h1,h2,h3⟩=>by
  obtain ⟨a,cap,rfl,_,hI⟩:=h2.pts
  exact ⟨a,cap,h1,hI,h3⟩
 have hm:xJ z x y wd ht≤1048576:=by have:=zA7 z x y wd ht;omega
 have HC:Hid (∀ a cap w,zC4 w a (xJ z x y wd ht) (vO z x y wd)→Calls Tryz.prog 173 #[.slice a (xJ z x y wd ht) cap,xK rz rx ry] w fun e w'=>e=.returned (.bool (yI z x y wd ht rz rx ry))∧Bw w w'):=fun a cap w h=>zFa a _ cap _ rz rx ry w h hm
 clear hm
 generalize yI z x y wd ht rz rx ry=B at *
 generalize xJ z x y wd ht=m at *
 generalize vO z x y wd=R at *
 generalize xN z x y wd ht=c at *
 have i1:∀ (a:Option Addr) (cap:Nat) w,(Instr.field 124 (.agg #[.int .i64 c,.slice a m cap]) 1).run Tryz.prog w=.ok (.slice a m cap) w:=fun _ _ _=>by kernel_rfl
 go_enter Tryz.func127,Tryz.ntmps127
 go_wp2_with fail
 generalize hW:((w.alloc _).alloc _:World)=W
 have HB0:Hid (Bw w W):=by show Below _ _ _;subst hW;exact Qb
 have c00:∀ W',Bw W W'→W'.cell? ⟨w.heap.size,0,none⟩=some (.int .i64 z):=Qc hW
 have c01:∀ W',Bw W W'→W'.cell? ⟨w.heap.size,1,none⟩=some (.int .i64 x):=Qc hW
 have c02:∀ W',Bw W W'→W'.cell? ⟨w.heap.size,2,none⟩=some (.int .i64 y):=Qc hW
 have c03:∀ W',Bw W W'→W'.cell? ⟨w.heap.size,3,none⟩=some (.int .i64 wd):=Qc hW
 have c04:∀ W',Bw W W'→W'.cell? ⟨w.heap.size,4,none⟩=some (.int .i64 ht):=Qc hW
 have c10:∀ W',Bw W W'→W'.cell? ⟨w.heap.size+1,0,none⟩=some (.int .i64 rz):=Qc hW
 have c11:∀ W',Bw W W'→W'.cell? ⟨w.heap.size+1,1,none⟩=some (.int .i64 rx):=Qc hW
 have c12:∀ W',Bw W W'→W'.cell? ⟨w.heap.size+1,2,none⟩=some (.int .i64 ry):=Qc hW
 clear hW
 have hr:Bw W W:=Below.refl _ _
 go_region_held3 (fun W'=>Bw W W') ((repeat (first|exact Qr _ _|assumption|refine Qd ?_|refine Qa ?_ _|refine Qt ?_|refine Qs ?_ _|refine Qo ?_ ?_ _ _)))
  (first
   | (go_at_call 80;refine (sV _).mono ?_;rintro e w1 ⟨a,cap,rfl,hI,hb⟩;have HI:Hid (zC4 w1 a m R):=hI;clear hI)
   | (go_at_call 173;refine (HC.out _ _ _ HI.out).mono ?_;rintro e w2 ⟨rfl,hb⟩)
   | fail)
 go_wp2
 go_ret
 exact ⟨rfl,zB HB0.out (by assumption)⟩
def inV (now bad:Int):Bool:=inB now 0 9000 && inB bad 0 9999
def zGv (z x y wd ht:Int)(n:Nat)(K:Nat→Kp)(E:Nat→Req)(i:Nat):Int:=if yI z x y wd ht (E i).z (E i).x (E i).y=true then (if 0≤atK n K (E i).z (E i).x (E i).y then 8 else 0) else 8
noncomputable def zC8 (z x y wd ht now s:Int)(n:Nat)(K:Nat→Kp)(rn:Nat)(E:Nat→Req)(bad:Int):Int :=
 if xN z x y wd ht=0 then (if inV now bad=true then (if yC s n K=0 then (if s<4 then 3 else (if zQ rn E=0 then uB (zGv z x y wd ht n K E) 0 rn else zQ rn E)) else yC s n K) else 3) else xN z x y wd ht
theorem Blk.cam {w:World}{q:Nat}{z x y wd ht:Int}{l:List Value}(h:Blk w q (.int .i64 z :: .int .i64 x :: .int .i64 y :: .int .i64 wd :: .int .i64 ht :: l)):zAj w q z x y wd ht:=⟨h.cell 0 rfl,h.cell 1 rfl,h.cell 2 rfl,h.cell 3 rfl,h.cell 4 rfl⟩
theorem zK1 {z:Int}(h0:-1000000≤z)(h1:z≤1000000):I64 z:=by
 show (decide (_≤_) && decide (_≤_))=true
 rw [Bool.and_eq_true,decide_eq_true_eq,decide_eq_true_eq]
 have e0:IntKind.i64.min=-9223372036854775808:=by decide
 have e1:IntKind.i64.max=9223372036854775807:=by decide
 rw [e0,e1]
 omega
theorem zEp {z x y:Int}(h:zFo z x y=true):I64 z∧I64 x∧I64 y:=by
 unfold zFo xX inB at h
 simp at h
 obtain ⟨⟨h1,h2⟩,⟨h3,h4⟩,h5,h6⟩:=h
 have hz:z=0∨z=1∨z=2∨z=3:=by omega
 have hl:uQ z≤7:=by rcases hz with rfl | rfl | rfl | rfl <;> decide
 exact ⟨zK1 (by omega) (by omega),zK1 (by omega) (by omega),zK1 (by omega) (by omega)⟩
theorem tC_ref {k:Kp}(h:rtC k.z k.x k.y k.fn k.F=0):zFo k.z k.x k.y=true:=by
 rcases zA9 k.z k.x k.y with ⟨_,h2⟩ | ⟨h1,_⟩
 ·exact h2
 ·unfold rtC at h;simp [h1] at h
theorem xF {n:Nat}{K:Nat→Kp}{z x y:Int}:0≤atK n K z x y ↔ ∃ i,i<n∧isK (K i) z x y=true:=by
 unfold atK
 rcases zCu (fun i=>isK (K i) z x y) n with ⟨h1,h2⟩ | ⟨i,hi,hg,hf,hn⟩
 ·rw [h1]
  exact ⟨fun h=>by omega,fun ⟨i,hi,h⟩=>by have:=h2 i hi;rw [h] at this;cases this⟩
 ·rw [hf]
  exact ⟨fun _=>⟨i,hi,hg⟩,fun _=>by omega⟩
theorem xA {e:Kp}{z x y:Int}:isK e z x y=true ↔ e.z=z∧e.x=x∧e.y=y:=by simp [isK]
def shD (A:Nat→Kp):Nat→DataW Value
 | 0=>.map []
 | k+1=>zGo (shD A k) (A k) ((k:Int)+1)
theorem zHq (A:Nat→Kp):∀ k,Maps.Tidy (shD A k)
 | 0=>Maps.tidy_empty
 | k+1=>(zHq A k).put (zCr _ _ _) _
def Rgt (A:Nat→Kp)(k:Nat):Prop:=∀ j,j<k→I64 (A j).z∧I64 (A j).x∧I64 (A j).y
theorem zJs {A:Nat→Kp}{z x y:Int}(hz:I64 z)(hx:I64 x)(hy:I64 y):∀ k,Rgt A k→Maps.has (shD A k) (uS z x y)=decide (0≤atK k A z x y)
 | 0,_=>by
  have:¬ (0≤atK 0 A z x y):=fun h=>by obtain ⟨i,hi,_⟩:=xF.1 h;omega
  rw [decide_eq_false this];rfl
 | k+1,h=>by
  have ih:=zJs hz hx hy k (fun j hj=>h j (by omega))
  obtain ⟨az,ax,ay⟩:=h k (by omega)
  by_cases hE:isK (A k) z x y=true
  ·obtain ⟨rfl,rfl,rfl⟩:=xA.1 hE
   rw [decide_eq_true (xF.2 ⟨k,by omega,hE⟩)]
   exact Maps.has_put_same (zHq A k).isMap (zCr _ _ _) _
  ·have hne:uS z x y≠uS (A k).z (A k).x (A k).y:=fun e=>by
    obtain ⟨h1,h2,h3⟩:=zKf hz hx hy az ax ay e
    exact hE (xA.2 ⟨h1.symm,h2.symm,h3.symm⟩)
   have e1:Maps.has (shD A (k+1)) (uS z x y)=Maps.has (shD A k) (uS z x y):=Maps.has_put_other hne _
   rw [e1,ih,decide_eq_decide]
   constructor
   ·intro h;obtain ⟨i,hi,h⟩:=xF.1 h;exact xF.2 ⟨i,by omega,h⟩
   ·intro h
    obtain ⟨i,hi,h'⟩:=xF.1 h
    refine xF.2 ⟨i,?_,h'⟩
    by_cases e:i=k
    ·exact absurd (e ▸ h') hE
    ·omega
theorem uH {A:Nat→Kp}{k:Nat}(h:kC A k=0):tC (A k)=0∧¬ (0≤atK k A (A k).z (A k).x (A k).y):=by
 unfold kC at h
 split at h
 ·rename_i h0
  refine ⟨h0,fun h'=>?_⟩
  rw [if_pos h'] at h
  cases h
 ·rename_i h0;exact absurd h h0
theorem zJo {k:Kp}(h:tC k=0):rtC k.z k.x k.y k.fn k.F=0:=by
 unfold tC at h
 split at h
 ·rename_i h0;exact h0
 ·rename_i h0;exact absurd h h0
theorem zL7 {k:Kp}(h:tC k=0):I64 k.z∧I64 k.x∧I64 k.y:=zEp (tC_ref (zJo h))
theorem Rgt_of {A:Nat→Kp}{k:Nat}(h:∀ j,j<k→kC A j=0):Rgt A k:=fun j hj=>zL7 (uH (h j hj)).1
theorem shelf3 (V:World)(a b c:Value)(t:TypeId):zC (V.alloc (.cells #[a,b,c] t)) V.heap.size 3:=fun o ho=>by
 have hc:o=0∨o=1∨o=2:=by omega
 rcases hc with rfl | rfl | rfl <;> exact ⟨⟨_,by simp [go_sem];rfl⟩,by simp [go_sem]⟩
def ShK (w:World)(B p:Nat)(s:Int)(k:Nat)(A:Nat→Kp):Prop:=∃ mb,B≤p∧B≤mb∧ShA w p s (k:Int) mb∧zC w p 3∧w.ownsMap Tryz.prog 111 RV mb k (shD A k)
theorem ShK.below {w w':World}{B p:Nat}{s:Int}{k:Nat}{A:Nat→Kp}(h:ShK w B p s k A)(hb:Below w.heap.size w w'):ShK w' B p s k A:=by
 obtain ⟨mb,h1,h2,h3,h4,h5⟩:=h
 exact ⟨mb,h1,h2,h3.below hb,h4.below hb,zW h5 hb⟩
theorem zHi {s:Int}{n:Nat}{A:Nat→Kp}(h:yC s n A=0):∀ j,j<n→kC A j=0:=by
 unfold yC at h
 split at h
 ·split at h
  ·cases h
  ·intro j hj
   by_cases h0:kC A j=0
   ·exact h0
   ·exact absurd h (by
     obtain ⟨i,hi,hne,hall⟩:∃ i,i≤j∧kC A i≠0∧∀ l,l<i→kC A l=0:=by
      have:∀ m,(∃ i,i≤m∧kC A i≠0)→∃ i,i≤m∧kC A i≠0∧∀ l,l<i→kC A l=0:=by
       intro m
       induction m with
       | zero=>rintro ⟨i,hi,h⟩;exact ⟨i,hi,h,fun l hl=>by omega⟩
       | succ m ih =>
        rintro ⟨i,hi,h⟩
        by_cases hx:∃ i,i≤m∧kC A i≠0
        ·obtain ⟨i,h1,h2⟩:=ih hx;exact ⟨i,by omega,h2⟩
        ·refine ⟨i,hi,h,fun l hl=>?_⟩
         by_cases e:kC A l=0
         ·exact e
         ·exact absurd ⟨l,by omega,e⟩ hx
      exact this j ⟨j,Nat.le_refl _,h0⟩
     rw [xQ (kC A) n 0 i (fun l _ hl=>hall l hl) (by omega) (by omega) hne]
     exact hne)
 ·cases h

end Go.Proofs.YtpaiholildedcaaGreat
