/- Texts. -/
import Derived.Test.YtpaiholildedcaaGreatVLabelsIn21
set_option linter.unusedSimpArgs false
set_option linter.unusedVariables false
set_option maxRecDepth 100000
set_option maxHeartbeats 32000000
namespace Go.Proofs.YtpaiholildedcaaGreat
open Go.RowKit
theorem zW.wide {lo hi lo' hi':Nat}{a b:World}(h:zW lo' hi' a b)(h1:lo≤lo')(h2:hi'≤hi):zW lo hi a b:=⟨h.os,h.tape,h.output,h.size,fun k hk ho=>h.block k hk (by omega)⟩
abbrev ptN (r:Kp):Nat→Nat:=fun i=>(r.F i).n
abbrev ptC (r:Kp):Nat→Nat:=fun i=>(r.F i).cap
def kN (r:Kp)(k:Nat):Nat:=kS (ptN r) (k+3) r.fn+r.m
def kK (R:Nat→Kp)(k0:Nat):Nat→Nat
 | 0=>k0
 | j+1=>kN (R j) (kK R k0 j)
theorem kS_ge (N:Nat→Nat)(k0:Nat):∀ i,k0≤kS N k0 i
 | 0=>Nat.le_refl _
 | i+1=>by have:=kS_ge N k0 i;rw [kS];omega
theorem zL9 {r:Kp}{k:Nat}(h:vV r):k≤kS (ptN r) k r.fn∧kS (ptN r) k r.fn≤k+2199029547008:=by
 refine ⟨kS_ge _ _ _,?_⟩
 have h1:=kS_le (ptN r) k r.fn (fun i hi=>(h.1.2 i hi).1) r.fn (Nat.le_refl _)
 have h2:=h.1.1
 omega
theorem kN_le {r:Kp}{k:Nat}(h:vV r):k≤kN r k∧kN r k≤k+2199030595587:=by
 have h1:=zL9 (k:=k+3) h
 have h2:=h.2
 unfold kN
 omega
theorem kK_le {R:Nat→Kp}{k0 n:Nat}(h:zL n R):∀ j,j≤n→k0≤kK R k0 j∧kK R k0 j≤k0+j * 2199030595587
 | 0,_=>by simp [kK]
 | j+1,hj=>by
  have h1:=kK_le (k0:=k0) h j (by omega)
  have h2:=kN_le (k:=kK R k0 j) (h.2 j (by omega))
  rw [kK];omega
theorem zHg {R:Nat→Kp}{k0 n:Nat}(h:zL n R)(h0:k0≤1000000000){j:Nat}(hj:j≤n):k0≤kK R k0 j∧kK R k0 j≤2400000000000000000:=by
 have h1:=kK_le (k0:=k0) h j hj
 have h2:=h.1
 omega
theorem zH1.mid {w w':World}{b q i N C k l h:Nat}(hm:zH1 w b q i N C k)(hM:zW l h w w')(hb:b<l∨h≤b)(hq:q<l∨h≤q):zH1 w' b q i N C k:=by
 obtain ⟨⟨a0,a1,a2,a3,a4,a5,a6⟩,hp⟩:=hm
 exact ⟨⟨hM.cell a0 hb,hM.cell a1 hb,hM.cell a2 hb,hM.cell a3 hb,hM.cell a4 hb,hM.cell a5 hb,hM.cell a6 hb⟩,fun i hi=>⟨hM.cell (hp i hi).1 hq,hM.cell (hp i hi).2 hq⟩⟩
def MkR (w:World)(lo md:Nat)(a:Option Addr)(m:Nat)(N C:Nat→Nat)(k:Nat):Prop:=m=0∨∃ (g:Nat) (q:Nat→Nat),a=some ⟨g,0,none⟩∧(lo≤g∧g<md)∧(∀ i,i<m→lo≤q i∧q i<md)∧∀ i,i<m→zH1 w g (q i) i (N i) (C i) (kS N k i)
def TlW (w:World)(lo hi:Nat)(r:Kp):Prop:=∃ md,lo≤md∧md≤hi∧hi≤w.heap.size∧OwnR w lo md r.fa r.fn (ptN r) (ptC r)∧(r.m=0∨∃ ib,r.ia=some ⟨ib,0,none⟩∧md≤ib∧ib<hi∧zD w ib r.m)
def TlM (w:World)(lo hi:Nat)(r:Kp)(k:Nat):Prop:=∃ md,lo≤md∧md≤hi∧hi≤w.heap.size∧MkR w lo md r.fa r.fn (ptN r) (ptC r) (k+3)∧(r.m=0∨∃ ib,r.ia=some ⟨ib,0,none⟩∧md≤ib∧ib<hi∧zGm w ib 0 r.m (mkN (kS (ptN r) (k+3) r.fn)))
theorem TlW.mid {w w':World}{lo hi l h:Nat}{r:Kp}(hT:TlW w lo hi r)(hM:zW l h w w')(ho:h≤lo∨hi≤l):TlW w' lo hi r:=by
 obtain ⟨md,h1,h2,h3,h4,h5⟩:=hT
 refine ⟨md,h1,h2,Nat.le_trans h3 hM.size,h4.away hM (by omega),h5.imp id (fun ⟨ib,e,a,b,c⟩=>⟨ib,e,a,b,hM.there c (by omega)⟩)⟩
theorem MkR.mid {w w':World}{lo md l h:Nat}{a:Option Addr}{m:Nat}{N C:Nat→Nat}{k:Nat}(hT:MkR w lo md a m N C k)(hM:zW l h w w')(ho:h≤lo∨md≤l):MkR w' lo md a m N C k :=
 hT.imp id (fun ⟨g,q,e,h1,h2,h3⟩=>⟨g,q,e,h1,h2,fun i hi=>(h3 i hi).mid hM (by omega) (by have:=h2 i hi;omega)⟩)
theorem TlM.mid {w w':World}{lo hi l h:Nat}{r:Kp}{k:Nat}(hT:TlM w lo hi r k)(hM:zW l h w w')(ho:h≤lo∨hi≤l):TlM w' lo hi r k:=by
 obtain ⟨md,h1,h2,h3,h4,h5⟩:=hT
 refine ⟨md,h1,h2,Nat.le_trans h3 hM.size,h4.mid hM (by omega),h5.imp id (fun ⟨ib,e,a,b,c⟩=>⟨ib,e,a,b,fun i hi=>hM.cell (c i hi) (by omega)⟩)⟩
def Sl2 (w:World)(g j:Nat)(r:Kp):Prop:=w.cell? ⟨g,j * 5+3,none⟩=some (.slice r.fa r.fn r.fc)∧w.cell? ⟨g,j * 5+4,none⟩=some (.slice r.ia r.m r.ic)
def Rf3 (w:World)(g j k:Nat):Prop:=w.cell? ⟨g,j * 5,none⟩=some (.int .i64 ((k:Nat):Int))∧w.cell? ⟨g,j * 5+1,none⟩=some (.int .i64 ((k+1:Nat):Int))∧w.cell? ⟨g,j * 5+2,none⟩=some (.int .i64 ((k+2:Nat):Int))
theorem Sl2.mid {w w':World}{g j l h:Nat}{r:Kp}(hS:Sl2 w g j r)(hM:zW l h w w')(ho:g<l∨h≤g):Sl2 w' g j r:=⟨hM.cell hS.1 ho,hM.cell hS.2 ho⟩
theorem Rf3.mid {w w':World}{g j l h k:Nat}(hS:Rf3 w g j k)(hM:zW l h w w')(ho:g<l∨h≤g):Rf3 w' g j k:=⟨hM.cell hS.1 ho,hM.cell hS.2.1 ho,hM.cell hS.2.2 ho⟩
def KsW (w:World)(g n:Nat)(R:Nat→Kp)(M:Nat→Nat):Prop:=zD w g (n * 5)∧g<M 0∧(∀ j,j<n→M j≤M (j+1)∧Sl2 w g j (R j)∧TlW w (M j) (M (j+1)) (R j))∧M n≤w.heap.size
def KsM (w:World)(g n:Nat)(R:Nat→Kp)(M:Nat→Nat)(k0:Nat):Prop:=g<M 0∧M n≤w.heap.size∧∀ j,j<n→M j≤M (j+1)∧Sl2 w g j (R j)∧Rf3 w g j (kK R k0 j)∧TlM w (M j) (M (j+1)) (R j) (kK R k0 j)
theorem upM {M:Nat→Nat}{n:Nat}(h:∀ j,j<n→M j≤M (j+1)):∀ {i j},i≤j→j≤n→M i≤M j:=by
 intro i j hij
 induction j with
 | zero=>exact fun _=>by rw [show i=0 by omega];exact Nat.le_refl _
 | succ j ih =>
  intro hj
  by_cases e:i=j+1
  ·subst e;exact Nat.le_refl _
  ·exact Nat.le_trans (ih (by omega) (by omega)) (h j (by omega))
theorem zKz (lo md:Nat)(a:Option Addr)(m cap k:Nat)(N C:Nat→Nat)(w:World)(h:OwnR w lo md a m N C)(hm:m≤1048576)(hN:∀ i,i<m→N i≤1048576)(h0:0<k)(hk:k≤5000000000000000000) :
  Calls Tryz.prog 150 #[.slice a m cap,.int .i64 (k:Int)] w fun e w'=>e=.returned (.int .i64 ((kS N k m:Nat):Int))∧zW lo md w w'∧MkR w' lo md a m N C k:=by
 rcases h with rfl | ⟨g,q,rfl,hO⟩
 ·refine (zKy a cap _ w).mono ?_
  rintro e w' ⟨rfl,rfl⟩
  exact ⟨rfl,zW.refl _ _ _,.inl rfl⟩
 ·refine (zNi lo md g m cap k N C q w hO hm hN h0 hk).mono ?_
  rintro e w' ⟨rfl,h1,h2,h3⟩
  exact ⟨rfl,h2,.inr ⟨g,q,rfl,⟨h1.1.1,h1.1.2.1⟩,fun i hi=>⟨(h1.2.2.1 i hi).1.1,(h1.2.2.1 i hi).1.2.1⟩,h3⟩⟩
theorem zKx (md hi:Nat)(a:Option Addr)(m cap k:Nat)(w:World)(h:m=0∨∃ ib,a=some ⟨ib,0,none⟩∧md≤ib∧ib<hi∧zD w ib m)(hh:hi≤w.heap.size)(hm:m≤1048576)(hk:k≤6000000000000000000) :
  Calls Tryz.prog 54 #[.slice a m cap,.int .i64 (k:Int)] w fun e w'=>e=.returned (.int .i64 ((k+m:Nat):Int))∧zW md hi w w'∧(m=0∨∃ ib,a=some ⟨ib,0,none⟩∧md≤ib∧ib<hi∧zGm w' ib 0 m (mkN k)):=by
 rcases h with rfl | ⟨ib,rfl,h1,h2,h3⟩
 ·refine (zD4 a cap _ w).mono ?_
  rintro e w' ⟨rfl,rfl⟩
  exact ⟨rfl,zW.refl _ _ _,.inl rfl⟩
 ·refine (zFg ib m cap k w h3 (by omega) hm hk).mono ?_
  rintro e w' ⟨rfl,h4,h5,h6⟩
  exact ⟨rfl,zW.of_grown h4 h1 h2,.inr ⟨ib,rfl,h1,h2,h6⟩⟩
def zOk (W:World)(g j k:Nat):World:=((W.setCell ⟨g,j * 5,none⟩ (.int .i64 (k:Nat))).setCell ⟨g,j * 5+1,none⟩ (.int .i64 ((k+1:Nat):Int))).setCell ⟨g,j * 5+2,none⟩ (.int .i64 ((k+2:Nat):Int))
theorem zL6 (W:World)(g j k:Nat):zW g (g+1) W (zOk W g j k):=(((zW.refl g (g+1) W).set (Nat.le_refl _) (Nat.lt_succ_self _) _ _).set (Nat.le_refl _) (Nat.lt_succ_self _) _ _).set (Nat.le_refl _) (Nat.lt_succ_self _) _ _
theorem zNo {W:World}{g j k m:Nat}(h:zD W g m):zD (zOk W g j k) g m:=((h.set _ _).set _ _).set _ _
theorem vI {W:World}{g j k:Nat}{p:Addr}(h:p.block≠g∨p.off<j * 5∨j * 5+2<p.off):(zOk W g j k).cell? p=W.cell? p:=by
 have ne:∀ i:Nat,i≤2→(⟨g,j * 5+i,none⟩:Addr)≠p:=fun i hi e=>by subst e;simp at h;omega
 have ne0:(⟨g,j * 5,none⟩:Addr)≠p:=ne 0 (by omega)
 unfold zOk
 rw [zB (ne 2 (by omega)),zB (ne 1 (by omega)),zB ne0]
theorem lay3_at {W:World}{g j k m:Nat}(h:zD W g m)(ho:j * 5+2<m):Rf3 (zOk W g j k) g j k:=by
 have ne:∀ a b:Nat,a≠b→(⟨g,a,none⟩:Addr)≠⟨g,b,none⟩:=fun a b hab e=>hab (by injection e)
 obtain ⟨u0,g0⟩:=(h (j * 5) (by omega)).1
 obtain ⟨u1,g1⟩:=((h.set (j * 5) (.int .i64 (k:Nat))) (j * 5+1) (by omega)).1
 obtain ⟨u2,g2⟩:=(((h.set (j * 5) (.int .i64 (k:Nat))).set (j * 5+1) (.int .i64 ((k+1:Nat):Int))) (j * 5+2) (by omega)).1
 unfold zOk
 refine ⟨?_,?_,?_⟩
 ·rw [zB (ne _ _ (by omega)),zB (ne _ _ (by omega))];exact zG g0
 ·rw [zB (ne _ _ (by omega))];exact zG g1
 ·exact zG g2
def MkAt (w:World)(g n j:Nat)(R:Nat→Kp)(M:Nat→Nat)(k0:Nat):Prop:=zD w g (n * 5)∧M n≤w.heap.size∧(∀ i,i<n→Sl2 w g i (R i))∧(∀ i,j≤i→i<n→TlW w (M i) (M (i+1)) (R i))∧∀ i,i<j→Rf3 w g i (kK R k0 i)∧TlM w (M i) (M (i+1)) (R i) (kK R k0 i)
theorem zNh {wr w5 w6:World}{g n j k0 md:Nat}{R:Nat→Kp}{M:Nat→Nat}(hA:MkAt wr g n j R M k0)(hj:j<n)(hg:g<M 0)(hM:∀ j,j<n→M j≤M (j+1))(hm:M j≤md∧md≤M (j+1))(h5:zW (M j) md (zOk wr g j (kK R k0 j)) w5)(hR:MkR w5 (M j) md (R j).fa (R j).fn (ptN (R j)) (ptC (R j)) (kK R k0 j+3))(h6:zW md (M (j+1)) w5 w6)(hI:(R j).m=0∨∃ ib,(R j).ia=some ⟨ib,0,none⟩∧md≤ib∧ib<M (j+1)∧zGm w6 ib 0 (R j).m (mkN (kS (ptN (R j)) (kK R k0 j+3) (R j).fn))) :
  MkAt w6 g n (j+1) R M k0∧zW g (M n) wr w6:=by
 obtain ⟨a1,a2,a3,a4,a5⟩:=hA
 have hu:=fun i j (a:i≤j) (b:j≤n)=>upM hM a b
 have u0:=hu 0 j (Nat.zero_le _) (by omega)
 have u1:=hu (j+1) n (by omega) (Nat.le_refl _)
 have hl:=zL6 wr g j (kK R k0 j)
 have hw:∀ {lo hi lo' hi':Nat} {a b:World},zW lo' hi' a b→lo≤lo'→hi'≤hi→zW lo hi a b:=fun h h1 h2=>⟨h.os,h.tape,h.output,h.size,fun k hk ho=>h.block k hk (by omega)⟩
 have hall:zW g (M n) wr w6:=(hw hl (Nat.le_refl _) (by omega)).trans ((hw h5 (by omega) (by omega)).trans (hw h6 (by omega) (by omega)))
 have h56:zW (M j) (M (j+1)) (zOk wr g j (kK R k0 j)) w6:=(hw h5 (Nat.le_refl _) hm.2).trans (hw h6 hm.1 (Nat.le_refl _))
 refine ⟨⟨h56.there (zNo a1) (.inl (by omega)),Nat.le_trans a2 hall.size,fun i hi=>?_,fun i hi hin=>?_,fun i hi=>?_⟩,hall⟩
 ·have h:=a3 i hi
  refine Sl2.mid (w:=zOk wr g j (kK R k0 j)) ⟨?_,?_⟩ h56 (.inl (by omega))
  ·rw [vI (by simp;omega)];exact h.1
  ·rw [vI (by simp;omega)];exact h.2
 ·have:=hu (j+1) i hi (by omega)
  exact ((a4 i (by omega) hin).mid hl (.inl (by have:=hu 0 i (Nat.zero_le _) (by omega);omega))).mid h56 (.inl (by omega))
 ·by_cases e:i=j
  ·subst e
   refine ⟨(lay3_at a1 (by omega)).mid h56 (.inl (by omega)),md,hm.1,hm.2,?_,hR.mid h6 (.inr (Nat.le_refl _)),hI⟩
   exact Nat.le_trans u1 (Nat.le_trans a2 hall.size)
  ·have hij:i<j:=by omega
   have:=hu (i+1) j (by omega) (by omega)
   have u2:=hu 0 i (Nat.zero_le _) (by omega)
   refine ⟨?_,((a5 i hij).2.mid hl (.inl (by omega))).mid h56 (.inr (by omega))⟩
   have h:=(a5 i hij).1
   refine Rf3.mid (w:=zOk wr g j (kK R k0 j)) ⟨?_,?_,?_⟩ h56 (.inl (by omega))
   ·rw [vI (by simp;omega)];exact h.1
   ·rw [vI (by simp;omega)];exact h.2.1
   ·rw [vI (by simp;omega)];exact h.2.2
theorem zG6 (g n cap k0:Nat)(R:Nat→Kp)(M:Nat→Nat)(w:World)(hW:KsW w g n R M)(hs:zL n R)(h0:0<k0)(hk0:k0≤1000000000) :
  Calls Tryz.prog 101 #[.slice (some ⟨g,0,none⟩) n cap,.int .i64 (k0:Int)] w fun e w'=>e=.returned (.int .i64 ((kK R k0 n:Nat):Int))∧KsM w' g n R M k0∧zW g (M n) w w':=by
 obtain ⟨hT,hg,hall,hMn⟩:=hW
 have HS:Hid (zL n R):=hs
 have hn:n≤1048576:=hs.1
 have HMl:Hid (∀ j,j<n→M j≤M (j+1)):=fun j hj=>(hall j hj).1
 have HA0:Hid (MkAt w g n 0 R M k0):=⟨hT,hMn,fun i hi=>(hall i hi).2.1,fun i _ hi=>(hall i hi).2.2,fun i hi=>by omega⟩
 have hgl:g<w.heap.size:=by have:=upM HMl.out (Nat.zero_le n) (Nat.le_refl _);omega
 clear hT hall hs hMn
 go_enter Tryz.func101,Tryz.ntmps101
 go_wp2_with fail
 go_loopw [1,5] (fun kk i wr=>∃ j K:Nat,j≤n∧Hid (K=kK R k0 j)∧kk=.int .i64 (K:Int)∧i=.int .i64 (j:Int)∧MkAt wr g n j R M k0∧zW g (M n) w wr) (fun _ i _=>n - (intOf i).toNat)
 case atStart=>exact ⟨0,k0,by omega,rfl,rfl,rfl,HA0.out,zW.refl _ _ _⟩
 case round =>
  obtain ⟨j,K,hj,HK,rfl,rfl,hA,hMd⟩:=hrel
  have HA:Hid (MkAt wr g n j R M k0):=hA
  have HMd:Hid (zW g (M n) w wr):=hMd
  by_cases hlt:j<n
  ·have hKb:K≤2400000000000000000:=by have:=HK.out;have:=(zHg HS.out hk0 (j:=j) (by omega)).2;omega
   have hK0:0<K:=by have:=HK.out;have:=(zHg HS.out hk0 (j:=j) (by omega)).1;omega
   have hsm:=HS.out.2 j hlt
   obtain ⟨md,m1,m2,m3,m4,m5⟩:=hA.2.2.2.1 j (Nat.le_refl _) hlt
   have hT:=hA.1
   have t0:=hT.cell (j * 5) (by omega)
   have t1:=hT.cell (j * 5+1) (by omega)
   have t2:=hT.cell (j * 5+2) (by omega)
   have f0:=(hT (j * 5) (by omega)).2
   have f1:=(hT (j * 5+1) (by omega)).2
   have f2:=(hT (j * 5+2) (by omega)).2
   have hS2:=hA.2.2.1 j hlt
   have HLT:Hid (j<n):=hlt
   have hi:(j:Int)<(n:Int):=by omega
   have hi0:(0:Int)≤(j:Int):=by omega
   have hgr:g<wr.heap.size:=Nat.lt_of_lt_of_le hgl hMd.size
   have e3:(K:Int)+1+1+1=((K+3:Nat):Int):=by omega
   have e2:(K:Int)+1+1=((K+2:Nat):Int):=by omega
   have e1:(K:Int)+1=((K+1:Nat):Int):=by omega
   have E:=(show Hid _ from (⟨e3,e2,e1⟩:_∧_∧_))
   have hu0:=upM HMl.out (Nat.zero_le j) (by omega)
   have HF:Hid (∀ W,zW g (g+1) wr W→Calls Tryz.prog 150 #[.slice (R j).fa (R j).fn (R j).fc,.int .i64 ((K+3:Nat):Int)] W fun e w'=>e=.returned (.int .i64 ((kS (ptN (R j)) (K+3) (R j).fn:Nat):Int))∧zW (M j) md W w'∧MkR w' (M j) md (R j).fa (R j).fn (ptN (R j)) (ptC (R j)) (K+3)):=fun W h =>
    zKz (M j) md _ _ _ (K+3) _ _ W (m4.away h (.inl (by omega))) hsm.1.1 (fun i hi=>(hsm.1.2 i hi).1) (by omega) (by omega)
   have HI:Hid (∀ (W:World) (k:Nat),k≤6000000000000000000→zW g md wr W→Calls Tryz.prog 54 #[.slice (R j).ia (R j).m (R j).ic,.int .i64 (k:Int)] W fun e w'=>e=.returned (.int .i64 ((k+(R j).m:Nat):Int))∧zW md (M (j+1)) W w'∧((R j).m=0∨∃ ib,(R j).ia=some ⟨ib,0,none⟩∧md≤ib∧ib<M (j+1)∧zGm w' ib 0 (R j).m (mkN k))):=fun W k hk h =>
    zKx md (M (j+1)) _ _ _ k W (m5.imp id (fun ⟨ib,e,a,b,c⟩=>⟨ib,e,a,b,h.there c (.inr a)⟩)) (Nat.le_trans m3 h.size) hsm.2 hk
   have HSS:Hid (kS (ptN (R j)) (K+3) (R j).fn≤6000000000000000000):=by show _≤_;have:=(zL9 (k:=K+3) hsm).2;omega
   have HNx:Hid (kS (ptN (R j)) (K+3) (R j).fn+(R j).m=kK R k0 (j+1)):=by show _=_;rw [kK,← HK.out];rfl
   have Hm:Hid (M j≤md∧md≤M (j+1)):=⟨m1,m2⟩
   have HS2:Hid (Sl2 wr g j (R j)):=hS2
   have HT:Hid (zD wr g (n * 5)):=hT
   have c3:=hS2.1
   have hgj:g<M j:=by omega
   clear hA hMd hT e3 e2 e1 m3 m4 m5 m1 m2 hS2 hsm hu0 hj
   go_wp2_with fail
   rw [E.out.1,E.out.2.1,E.out.2.2]
   have hL:((wr.setCell ⟨g,j * 5,none⟩ (.int .i64 (K:Nat))).setCell ⟨g,j * 5+1,none⟩ (.int .i64 ((K+1:Nat):Int))).setCell ⟨g,j * 5+2,none⟩ (.int .i64 ((K+2:Nat):Int))=zOk wr g j K:=rfl
   rw [hL]
   have HL:=zL6 wr g j K
   refine (HF.out _ HL).mono ?_
   rintro e w5 ⟨rfl,hM5,hR5⟩
   have hs5:=hM5.size
   have HM5:Hid (zW (M j) md (zOk wr g j K) w5):=hM5
   have HR5:Hid (MkR w5 (M j) md (R j).fa (R j).fn (ptN (R j)) (ptC (R j)) (K+3)):=hR5
   have HgM:Hid (g<M j):=hgj
   have d4:w5.cell? ⟨g,j * 5+4,none⟩=some (.slice (R j).ia (R j).m (R j).ic):=hM5.cell (by rw [vI (by simp)];exact HS2.out.2) (.inl hgj)
   have hS6:=HSS.out
   have HI5:=(show Hid _ from HI.out w5 _ hS6 ((zW.wide HL (Nat.le_refl _) (by have:=Hm.out;omega)).trans (hM5.wide (by omega) (Nat.le_refl _))))
   clear hM5 hR5 HF HI t0 t1 t2 f0 f1 f2 c3 hL HL
   generalize hQ:kS (ptN (R j)) (K+3) (R j).fn=Q at *
   go_wp2_with fail
   refine Calls.mono HI5.out ?_
   rintro e w6 ⟨rfl,hM6,hI6⟩
   have HM6:Hid (zW md (M (j+1)) w5 w6):=hM6
   have HI6:=(show Hid _ from hI6)
   have hm3:=HS.out.2 j HLT.out
   clear hM6 hI6 HI5 d4
   generalize hmm:(R j).m=mm at *
   go_wp2_with fail
   go_roundw
   case rel =>
    have hst:=zNh (k0:=k0) HA.out HLT.out hg HMl.out Hm.out (by rw [← HK.out];exact HM5.out) (by rw [← HK.out];exact HR5.out) HM6.out (by rw [← HK.out,hmm,hQ];exact HI6.out)
    exact ⟨j+1,Q+mm,by omega,by show _=_;exact HNx.out,rfl,by go_num,hst.1,HMd.out.trans hst.2⟩
   case measure=>have:=HLT.out;simp [intOf];omega
  ·go_wp2
   go_ret
   have hjn:j=n:=by omega
   subst hjn
   refine ⟨zE (by have:=HK.out;omega),⟨hg,hA.2.1,fun i hi=>⟨HMl.out i hi,hA.2.2.1 i hi,(hA.2.2.2.2 i hi).1,(hA.2.2.2.2 i hi).2⟩⟩,hMd⟩
end Go.Proofs.YtpaiholildedcaaGreat
