/- Texts. -/
import Derived.Test.YtkjbafcalamgnaaGreatVZoomViewer24
import Derived.Test.YtkjbafcalamgnaaGreatVZoomViewer25
set_option linter.unusedSimpArgs false
set_option linter.unusedVariables false
set_option maxRecDepth 100000
set_option maxHeartbeats 32000000
namespace Go.Proofs.YtkjbafcalamgnaaGreat
open Go.RowKit
def zT7 (z : Int) (s : Shp) : List Value := [.int .i64 s.id, .func (.func (byF s.ki)) #[] #[], .slice (some ⟨s.g, 0, none⟩) s.n s.cg, .int .i64 (yZ s.wi z)]
def zAe (z : Int) (S : Nat → Shp) : Nat → List Value
 | 0 => []
 | k + 1 => zAe z S k ++ zT7 z (S k)
theorem zCm (z : Int) (S : Nat → Shp) : ∀ k, (zAe z S k).length = k * 4
 | 0 => rfl
 | k + 1 => by rw [zAe, List.length_append, zCm z S k]; simp [zT7]; omega
theorem zH2 (z : Int) (S : Nat → Shp) : ∀ (k i j : Nat), i < k → j < 4 → (zAe z S k)[i * 4 + j]? = (zT7 z (S i))[j]?
 | k + 1, i, j, hi, hj => by
  rw [zAe]
  by_cases e : i = k
  ·subst e
   rw [List.getElem?_append_right (by rw [zCm]; omega), zCm]
   congr 1
   omega
  ·rw [List.getElem?_append_left (by rw [zCm]; omega)]
   exact zH2 z S k i j (by omega) hj
theorem zFs {z : Int} {S S' : Nat → Shp} : ∀ {k : Nat}, (∀ i, i < k → S i = S' i) → zAe z S k = zAe z S' k
 | 0, _ => rfl
 | k + 1, h => by rw [zAe, zAe, zFs (fun i hi => h i (by omega)), h k (by omega)]
def zVt (base : Nat) (w : World) (v : Value) (k : Nat) (z : Int) (S : Nat → Shp) : Prop := w.ownsRow base 254 4 v k (zAe z S k)
def zMk (s : Shp) (f : yE) : Prop := s.id = f.id ∧ s.ki = f.ki ∧ s.wi = f.wi ∧ s.n = f.n ∧ s.X = f.X ∧ s.Y = f.Y
theorem zVt.src {base k : Nat} {w : World} {v : Value} {z : Int} {S : Nat → Shp} (h : zVt base w v k z S) (hk : k = 0 → v = .slice none 0 0) (hP : ∀ i, i < k → zOh w w.heap.size (S i)) : zX5 w.heap.size w v k z S := by
 by_cases h0 : k = 0
 ·exact .inl ⟨hk h0, h0⟩
 ·obtain ⟨h1, h2 | ⟨g, cp, cur, hv, hg, hh, hkc, hcm, hcs, htk⟩⟩ := id h
  ·exact absurd h2.2 h0
  ·have hgl : g < w.heap.size := yW hh
   subst hv
   have hrow : w.ownsRow base 254 4 (.slice (some ⟨g, 0, none⟩) k cp) k (zAe z S k) := h
   refine .inr ⟨g, cp, rfl, hgl, fun i hi => ⟨?_, hP i hi⟩⟩
   have c : ∀ j, j < 4 → w.cell? ⟨g, i * 4 + j, none⟩ = (zT7 z (S i))[j]? := fun j hj => (hrow.cellAt _ (by omega)).trans (zH2 z S k i j hi hj)
   exact ⟨c 0 (by omega), c 1 (by omega), c 2 (by omega), c 3 (by omega)⟩
theorem zVt.not_pts {base k n g : Nat} {w : World} {v : Value} {z : Int} {S : Nat → Shp} {X Y : Nat → Int} (h : zVt base w v k z S) (hk : k = 0 → v = .slice none 0 0) (hp : zL w g 0 n X Y) (hn : 0 < n) : some g ≠ v.ownBlock := by
 intro e
 by_cases h0 : k = 0
 ·rw [hk h0] at e; cases e
 ·obtain ⟨h1, h2 | ⟨g', cp, cur, hv, hg, hh, hkc, hcm, hcs, htk⟩⟩ := id h
  ·exact absurd h2.2 h0
  ·subst hv
   simp [Value.ownBlock] at e
   subst e
   have hrow : w.ownsRow base 254 4 (.slice (some ⟨g, 0, none⟩) k cp) k (zAe z S k) := h
   have c1 := (hrow.cellAt 1 (by omega)).trans (zH2 z S k 0 1 (by omega) (by omega))
   have c2 := (hp 0 hn).2
   simp only [Nat.zero_mul, Nat.zero_add, Nat.mul_zero] at c2
   rw [c1] at c2
   simp [zT7] at c2
theorem zNw {z cx cy : Int} {S : Nat → Shp} {G : Nat → yE} {n : Nat} (h : ∀ i, i < n → zMk (S i) (G i)) : ∀ {k : Nat}, k ≤ n → vV (zVc z cx cy S) (fun i => (S i).id) k = vV (fun i => zS3 z cx cy (G i)) (fun i => (G i).id) k
 | 0, _ => rfl
 | k + 1, hk => by
  obtain ⟨e1, e2, e3, e4, e5, e6⟩ := h k (by omega)
  have ec : zVc z cx cy S k = zS3 z cx cy (G k) := by unfold zVc zS3; rw [e2, e3, e4, e5, e6]
  rw [vV, vV, ec, e1, zNw h (by omega)]
theorem zO4 (B4 B5 : Nat) (a : Option Addr) (n cap : Nat) (z x y : Int) (S : Nat → Shp) (G : Nat → yE) (w : World) (h4 : w.cell? ⟨B4, 0, none⟩ = some (.int .i64 z)) (h5 : w.cell? ⟨B5, 0, none⟩ = some (.slice a n cap)) (hS : zX5 w.heap.size w (.slice a n cap) n z S) (hP : ∀ i, i < n → zOh w w.heap.size (S i)) (hn : n ≤ 12) (hsh : ∀ i, i < n → zMk (S i) (G i)) (hpx : zBg z x y = true) :
  Calls Tryz.prog 196 #[.int .i64 x, .int .i64 y, .pointer (some ⟨B5, 0, none⟩), .pointer (some ⟨B4, 0, none⟩)] w fun e w' => e = .returned (.int .i64 (xA G n z x y)) ∧ Bw w w' := by
 have hl4 := World.block_lt_of_cell? _ _ h4
 have hl5 := World.block_lt_of_cell? _ _ h5
 have HF : Hid (∀ W, Bw w W → Calls Tryz.prog 197 #[.slice a n cap, .agg #[.int .i64 (yT z x), .int .i64 (yT z y)]] W fun e w' => e = .returned (.int .i64 (xA G n z x y)) ∧ Bw W w') := fun W hW => by
  have hS' : zX5 W.heap.size W (.slice a n cap) n z S := by
   rcases hS.below hW with h | ⟨p, c, e, h1, h2⟩
   ·exact .inl h
   ·exact .inr ⟨p, c, e, Nat.lt_of_lt_of_le h1 hW.size, fun i hi => ⟨(h2 i hi).1, Nat.lt_of_lt_of_le (h2 i hi).2.1 hW.size, (h2 i hi).2.2⟩⟩
  have hP' : ∀ i, i < n → zOh W W.heap.size (S i) := fun i hi => ⟨Nat.lt_of_lt_of_le (hP i hi).1 hW.size, ((hP i hi).below hW).2⟩
  have := zPr a n cap z (yT z x) (yT z y) S W hS' hP' (by omega)
  rw [zNw hsh (Nat.le_refl n)] at this
  exact this
 have sC := fun w => zFd z x y w
 rw [show zS5 z x y = .agg #[.int .i64 0, .int .i64 (yT z x), .int .i64 (yT z y)] by simp [zS5, hpx]] at sC
 have c4 : ∀ W', Bw w W' → W'.cell? ⟨B4, 0, none⟩ = some (.int .i64 z) := fun W' h => (h.cell (p := ⟨B4, 0, none⟩) hl4).trans h4
 have c5 : ∀ W', Bw w W' → W'.cell? ⟨B5, 0, none⟩ = some (.slice a n cap) := fun W' h => (h.cell (p := ⟨B5, 0, none⟩) hl5).trans h5
 clear hS hP hsh hpx h4 h5
 generalize yT z x = cx at *
 generalize yT z y = cy at *
 generalize xA G n z x y = pf at *
 have f1 : ∀ w, (Instr.field 259 (.agg #[.int .i64 0, .int .i64 cx, .int .i64 cy]) 1).run Tryz.prog w = .ok (.agg #[.int .i64 cx, .int .i64 cy]) w := fun _ => by kernel_rfl
 have hr : Bw w w := Below.refl _ _
 go_enter Tryz.func196, Tryz.ntmps196
 go_wp2_with fail
 go_region_held3 (fun W' => Bw w W') ((repeat (first|exact Qr _ _|assumption|refine Qd ?_|refine Qa ?_ _|refine Qt ?_|refine Qs ?_ _|refine Qo ?_ ?_ _ _)))
  (first
   | (go_at_call 198; refine (sC _).mono ?_; rintro e w1 ⟨rfl, hb⟩)
   | (go_at_call 197; refine (HF.out _ (by assumption)).mono ?_; rintro e w1 ⟨rfl, hb⟩)
   | fail)
 go_wp2
 go_ret
 exact ⟨rfl, by assumption⟩
theorem zU9 (args : Array Value) (w : World) : (callFunc 196 args).run Tryz.prog w = .ok (.enter 196 args) w := by
 have h1 : (Tryz.f196).name ≠ "runtime.NumGoroutine" := by
  have : ((Tryz.f196).name == "runtime.NumGoroutine") = false := by kernel_rfl
  simpa using this
 have hb : ∃ c, (Tryz.f196).body = some c := ⟨_, rfl⟩
 obtain ⟨c, hb⟩ := hb
 simp [callFunc, Tryz.func196, h1, hb]
theorem zK.wide {lo hi lo' hi':Nat}{a b:World}(h:zK lo' hi' a b)(h1:lo≤lo')(h2:hi'≤hi):zK lo hi a b:=⟨h.os,h.tape,h.output,h.size,fun k hk ho=>h.block k hk (by omega)⟩
abbrev ptN (r:Kp):Nat→Nat:=fun i=>(r.F i).n
abbrev ptC (r:Kp):Nat→Nat:=fun i=>(r.F i).cap
def kN (r:Kp)(k:Nat):Nat:=kS (ptN r) (k+3) r.fn+r.m
def kK (R:Nat→Kp)(k0:Nat):Nat→Nat
 | 0=>k0
 | j+1=>kN (R j) (kK R k0 j)
theorem kS_ge (N:Nat→Nat)(k0:Nat):∀ i,k0≤kS N k0 i
 | 0=>Nat.le_refl _
 | i+1=>by have:=kS_ge N k0 i;rw [kS];omega
theorem zGo {r:Kp}{k:Nat}(h:uA r):k≤kS (ptN r) k r.fn∧kS (ptN r) k r.fn≤k+2199029547008:=by
 refine ⟨kS_ge _ _ _,?_⟩
 have h1:=zXa (ptN r) k r.fn (fun i hi=>(h.1.2 i hi).1) r.fn (Nat.le_refl _)
 have h2:=h.1.1
 omega
theorem kN_le {r:Kp}{k:Nat}(h:uA r):k≤kN r k∧kN r k≤k+2199030595587:=by
 have h1:=zGo (k:=k+3) h
 have h2:=h.2
 unfold kN
 omega
theorem kK_le {R:Nat→Kp}{k0 n:Nat}(h:zJ n R):∀ j,j≤n→k0≤kK R k0 j∧kK R k0 j≤k0+j * 2199030595587
 | 0,_=>by simp [kK]
 | j+1,hj=>by
  have h1:=kK_le (k0:=k0) h j (by omega)
  have h2:=kN_le (k:=kK R k0 j) (h.2 j (by omega))
  rw [kK];omega
theorem zEj {R:Nat→Kp}{k0 n:Nat}(h:zJ n R)(h0:k0≤1000000000){j:Nat}(hj:j≤n):k0≤kK R k0 j∧kK R k0 j≤2400000000000000000:=by
 have h1:=kK_le (k0:=k0) h j hj
 have h2:=h.1
 omega
theorem zDw.mid {w w':World}{b q i N C k l h:Nat}(hm:zDw w b q i N C k)(hM:zK l h w w')(hb:b<l∨h≤b)(hq:q<l∨h≤q):zDw w' b q i N C k:=by
 obtain ⟨⟨a0,a1,a2,a3,a4,a5,a6⟩,hp⟩:=hm
 exact ⟨⟨hM.cell a0 hb,hM.cell a1 hb,hM.cell a2 hb,hM.cell a3 hb,hM.cell a4 hb,hM.cell a5 hb,hM.cell a6 hb⟩,fun i hi=>⟨hM.cell (hp i hi).1 hq,hM.cell (hp i hi).2 hq⟩⟩
def MkR (w:World)(lo md:Nat)(a:Option Addr)(m:Nat)(N C:Nat→Nat)(k:Nat):Prop:=m=0∨∃ (g:Nat) (q:Nat→Nat),a=some ⟨g,0,none⟩∧(lo≤g∧g<md)∧(∀ i,i<m→lo≤q i∧q i<md)∧∀ i,i<m→zDw w g (q i) i (N i) (C i) (kS N k i)
def TlW (w:World)(lo hi:Nat)(r:Kp):Prop:=∃ md,lo≤md∧md≤hi∧hi≤w.heap.size∧OwnR w lo md r.fa r.fn (ptN r) (ptC r)∧(r.m=0∨∃ ib,r.ia=some ⟨ib,0,none⟩∧md≤ib∧ib<hi∧zC w ib r.m)
def TlM (w:World)(lo hi:Nat)(r:Kp)(k:Nat):Prop:=∃ md,lo≤md∧md≤hi∧hi≤w.heap.size∧MkR w lo md r.fa r.fn (ptN r) (ptC r) (k+3)∧(r.m=0∨∃ ib,r.ia=some ⟨ib,0,none⟩∧md≤ib∧ib<hi∧zA2 w ib 0 r.m (mkN (kS (ptN r) (k+3) r.fn)))
theorem TlW.mid {w w':World}{lo hi l h:Nat}{r:Kp}(hT:TlW w lo hi r)(hM:zK l h w w')(ho:h≤lo∨hi≤l):TlW w' lo hi r:=by
 obtain ⟨md,h1,h2,h3,h4,h5⟩:=hT
 refine ⟨md,h1,h2,Nat.le_trans h3 hM.size,h4.away hM (by omega),h5.imp id (fun ⟨ib,e,a,b,c⟩=>⟨ib,e,a,b,hM.there c (by omega)⟩)⟩
theorem MkR.mid {w w':World}{lo md l h:Nat}{a:Option Addr}{m:Nat}{N C:Nat→Nat}{k:Nat}(hT:MkR w lo md a m N C k)(hM:zK l h w w')(ho:h≤lo∨md≤l):MkR w' lo md a m N C k :=
 hT.imp id (fun ⟨g,q,e,h1,h2,h3⟩=>⟨g,q,e,h1,h2,fun i hi=>(h3 i hi).mid hM (by omega) (by have:=h2 i hi;omega)⟩)
theorem TlM.mid {w w':World}{lo hi l h:Nat}{r:Kp}{k:Nat}(hT:TlM w lo hi r k)(hM:zK l h w w')(ho:h≤lo∨hi≤l):TlM w' lo hi r k:=by
 obtain ⟨md,h1,h2,h3,h4,h5⟩:=hT
 refine ⟨md,h1,h2,Nat.le_trans h3 hM.size,h4.mid hM (by omega),h5.imp id (fun ⟨ib,e,a,b,c⟩=>⟨ib,e,a,b,fun i hi=>hM.cell (c i hi) (by omega)⟩)⟩
def Sl2 (w:World)(g j:Nat)(r:Kp):Prop:=w.cell? ⟨g,j * 5+3,none⟩=some (.slice r.fa r.fn r.fc)∧w.cell? ⟨g,j * 5+4,none⟩=some (.slice r.ia r.m r.ic)
def Rf3 (w:World)(g j k:Nat):Prop:=w.cell? ⟨g,j * 5,none⟩=some (.int .i64 ((k:Nat):Int))∧w.cell? ⟨g,j * 5+1,none⟩=some (.int .i64 ((k+1:Nat):Int))∧w.cell? ⟨g,j * 5+2,none⟩=some (.int .i64 ((k+2:Nat):Int))
theorem Sl2.mid {w w':World}{g j l h:Nat}{r:Kp}(hS:Sl2 w g j r)(hM:zK l h w w')(ho:g<l∨h≤g):Sl2 w' g j r:=⟨hM.cell hS.1 ho,hM.cell hS.2 ho⟩
theorem Rf3.mid {w w':World}{g j l h k:Nat}(hS:Rf3 w g j k)(hM:zK l h w w')(ho:g<l∨h≤g):Rf3 w' g j k:=⟨hM.cell hS.1 ho,hM.cell hS.2.1 ho,hM.cell hS.2.2 ho⟩
def KsW (w:World)(g n:Nat)(R:Nat→Kp)(M:Nat→Nat):Prop:=zC w g (n * 5)∧g<M 0∧(∀ j,j<n→M j≤M (j+1)∧Sl2 w g j (R j)∧TlW w (M j) (M (j+1)) (R j))∧M n≤w.heap.size
def KsM (w:World)(g n:Nat)(R:Nat→Kp)(M:Nat→Nat)(k0:Nat):Prop:=g<M 0∧M n≤w.heap.size∧∀ j,j<n→M j≤M (j+1)∧Sl2 w g j (R j)∧Rf3 w g j (kK R k0 j)∧TlM w (M j) (M (j+1)) (R j) (kK R k0 j)
theorem upM {M:Nat→Nat}{n:Nat}(h:∀ j,j<n→M j≤M (j+1)):∀ {i j},i≤j→j≤n→M i≤M j:=by
 intro i j hij
 induction j with
 | zero=>exact fun _=>by rw [show i=0 by omega];exact Nat.le_refl _
 | succ j ih =>
  intro hj
  by_cases e:i=j+1
  ·subst e;exact Nat.le_refl _
  ·exact Nat.le_trans (ih (by omega) (by omega)) (h j (by omega))
theorem KsM.mid {w w':World}{g n k0 l h:Nat}{R:Nat→Kp}{M:Nat→Nat}(hT:KsM w g n R M k0)(hM:zK l h w w')(ho:h≤g∨M n≤l):KsM w' g n R M k0:=by
 obtain ⟨h1,h2,h3⟩:=hT
 have hu:=fun i j (a:i≤j) (b:j≤n)=>upM (fun j hj=>(h3 j hj).1) a b
 have h0n:=hu 0 n (Nat.zero_le _) (Nat.le_refl _)
 refine ⟨h1,Nat.le_trans h2 hM.size,fun j hj=>⟨(h3 j hj).1,(h3 j hj).2.1.mid hM (by omega),(h3 j hj).2.2.1.mid hM (by omega),(h3 j hj).2.2.2.mid hM ?_⟩⟩
 have:=hu 0 j (Nat.zero_le _) (by omega)
 have:=hu (j+1) n (by omega) (Nat.le_refl _)
 omega
theorem KsM.below {w w':World}{g n k0:Nat}{R:Nat→Kp}{M:Nat→Nat}(hT:KsM w g n R M k0)(hb:Below w.heap.size w w'):KsM w' g n R M k0:=hT.mid (zK.of_below (lo:=M n) (hi:=g) hb) (.inl (Nat.le_refl _))
theorem zPb (lo md:Nat)(a:Option Addr)(m cap k:Nat)(N C:Nat→Nat)(w:World)(h:OwnR w lo md a m N C)(hm:m≤1048576)(hN:∀ i,i<m→N i≤1048576)(h0:0<k)(hk:k≤5000000000000000000) :
  Calls Tryz.prog 138 #[.slice a m cap,.int .i64 (k:Int)] w fun e w'=>e=.returned (.int .i64 ((kS N k m:Nat):Int))∧zK lo md w w'∧MkR w' lo md a m N C k:=by
 rcases h with rfl | ⟨g,q,rfl,hO⟩
 ·refine (zPa a cap _ w).mono ?_
  rintro e w' ⟨rfl,rfl⟩
  exact ⟨rfl,zK.refl _ _ _,.inl rfl⟩
 ·refine (zR9 lo md g m cap k N C q w hO hm hN h0 hk).mono ?_
  rintro e w' ⟨rfl,h1,h2,h3⟩
  exact ⟨rfl,h2,.inr ⟨g,q,rfl,⟨h1.1.1,h1.1.2.1⟩,fun i hi=>⟨(h1.2.2.1 i hi).1.1,(h1.2.2.1 i hi).1.2.1⟩,h3⟩⟩
theorem zPn (lo md:Nat)(a:Option Addr)(m cap k:Nat)(N C:Nat→Nat)(w:World)(h:MkR w lo md a m N C k)(hmd:md≤w.heap.size)(hm:m≤1048576)(hN:∀ i,i<m→N i≤1048576)(h0:0<k)(hk:k≤5000000000000000000) :
  Calls Tryz.prog 180 #[.slice a m cap,.int .i64 (k:Int)] w fun e w'=>e=.returned (.int .i64 ((kS N k m:Nat):Int))∧Bw w w':=by
 rcases h with rfl | ⟨g,q,rfl,h1,h2,h3⟩
 ·refine (zPm a cap _ w).mono ?_
  rintro e w' ⟨rfl,rfl⟩
  exact ⟨rfl,Below.refl _ _⟩
 ·exact zSn g m cap k N C q w h3 (by omega) (fun i hi=>by have:=h2 i hi;omega) hm hN h0 hk
theorem zO9 (md hi:Nat)(a:Option Addr)(m cap k:Nat)(w:World)(h:m=0∨∃ ib,a=some ⟨ib,0,none⟩∧md≤ib∧ib<hi∧zC w ib m)(hh:hi≤w.heap.size)(hm:m≤1048576)(hk:k≤6000000000000000000) :
  Calls Tryz.prog 139 #[.slice a m cap,.int .i64 (k:Int)] w fun e w'=>e=.returned (.int .i64 ((k+m:Nat):Int))∧zK md hi w w'∧(m=0∨∃ ib,a=some ⟨ib,0,none⟩∧md≤ib∧ib<hi∧zA2 w' ib 0 m (mkN k)):=by
 rcases h with rfl | ⟨ib,rfl,h1,h2,h3⟩
 ·refine (zG9 a cap _ w).mono ?_
  rintro e w' ⟨rfl,rfl⟩
  exact ⟨rfl,zK.refl _ _ _,.inl rfl⟩
 ·refine (zIr ib m cap k w h3 (by omega) hm hk).mono ?_
  rintro e w' ⟨rfl,h4,h5,h6⟩
  exact ⟨rfl,zK.of_grown h4 h1 h2,.inr ⟨ib,rfl,h1,h2,h6⟩⟩
def zTf (W:World)(g j k:Nat):World:=((W.setCell ⟨g,j * 5,none⟩ (.int .i64 (k:Nat))).setCell ⟨g,j * 5+1,none⟩ (.int .i64 ((k+1:Nat):Int))).setCell ⟨g,j * 5+2,none⟩ (.int .i64 ((k+2:Nat):Int))
theorem zQp (W:World)(g j k:Nat):zK g (g+1) W (zTf W g j k):=(((zK.refl g (g+1) W).set (Nat.le_refl _) (Nat.lt_succ_self _) _ _).set (Nat.le_refl _) (Nat.lt_succ_self _) _ _).set (Nat.le_refl _) (Nat.lt_succ_self _) _ _
theorem zSe {W:World}{g j k m:Nat}(h:zC W g m):zC (zTf W g j k) g m:=((h.set _ _).set _ _).set _ _
theorem uV {W:World}{g j k:Nat}{p:Addr}(h:p.block≠g∨p.off<j * 5∨j * 5+2<p.off):(zTf W g j k).cell? p=W.cell? p:=by
 have ne:∀ i:Nat,i≤2→(⟨g,j * 5+i,none⟩:Addr)≠p:=fun i hi e=>by subst e;simp at h;omega
 have ne0:(⟨g,j * 5,none⟩:Addr)≠p:=ne 0 (by omega)
 unfold zTf
 rw [zB (ne 2 (by omega)),zB (ne 1 (by omega)),zB ne0]
theorem lay3_at {W:World}{g j k m:Nat}(h:zC W g m)(ho:j * 5+2<m):Rf3 (zTf W g j k) g j k:=by
 have ne:∀ a b:Nat,a≠b→(⟨g,a,none⟩:Addr)≠⟨g,b,none⟩:=fun a b hab e=>hab (by injection e)
 obtain ⟨u0,g0⟩:=(h (j * 5) (by omega)).1
 obtain ⟨u1,g1⟩:=((h.set (j * 5) (.int .i64 (k:Nat))) (j * 5+1) (by omega)).1
 obtain ⟨u2,g2⟩:=(((h.set (j * 5) (.int .i64 (k:Nat))).set (j * 5+1) (.int .i64 ((k+1:Nat):Int))) (j * 5+2) (by omega)).1
 unfold zTf
 refine ⟨?_,?_,?_⟩
 ·rw [zB (ne _ _ (by omega)),zB (ne _ _ (by omega))];exact zE g0
 ·rw [zB (ne _ _ (by omega))];exact zE g1
 ·exact zE g2
def MkAt (w:World)(g n j:Nat)(R:Nat→Kp)(M:Nat→Nat)(k0:Nat):Prop:=zC w g (n * 5)∧M n≤w.heap.size∧(∀ i,i<n→Sl2 w g i (R i))∧(∀ i,j≤i→i<n→TlW w (M i) (M (i+1)) (R i))∧∀ i,i<j→Rf3 w g i (kK R k0 i)∧TlM w (M i) (M (i+1)) (R i) (kK R k0 i)
theorem zR8 {wr w5 w6:World}{g n j k0 md:Nat}{R:Nat→Kp}{M:Nat→Nat}(hA:MkAt wr g n j R M k0)(hj:j<n)(hg:g<M 0)(hM:∀ j,j<n→M j≤M (j+1))(hm:M j≤md∧md≤M (j+1))(h5:zK (M j) md (zTf wr g j (kK R k0 j)) w5)(hR:MkR w5 (M j) md (R j).fa (R j).fn (ptN (R j)) (ptC (R j)) (kK R k0 j+3))(h6:zK md (M (j+1)) w5 w6)(hI:(R j).m=0∨∃ ib,(R j).ia=some ⟨ib,0,none⟩∧md≤ib∧ib<M (j+1)∧zA2 w6 ib 0 (R j).m (mkN (kS (ptN (R j)) (kK R k0 j+3) (R j).fn))) :
  MkAt w6 g n (j+1) R M k0∧zK g (M n) wr w6:=by
 obtain ⟨a1,a2,a3,a4,a5⟩:=hA
 have hu:=fun i j (a:i≤j) (b:j≤n)=>upM hM a b
 have u0:=hu 0 j (Nat.zero_le _) (by omega)
 have u1:=hu (j+1) n (by omega) (Nat.le_refl _)
 have hl:=zQp wr g j (kK R k0 j)
 have hw:∀ {lo hi lo' hi':Nat} {a b:World},zK lo' hi' a b→lo≤lo'→hi'≤hi→zK lo hi a b:=fun h h1 h2=>⟨h.os,h.tape,h.output,h.size,fun k hk ho=>h.block k hk (by omega)⟩
 have hall:zK g (M n) wr w6:=(hw hl (Nat.le_refl _) (by omega)).trans ((hw h5 (by omega) (by omega)).trans (hw h6 (by omega) (by omega)))
 have h56:zK (M j) (M (j+1)) (zTf wr g j (kK R k0 j)) w6:=(hw h5 (Nat.le_refl _) hm.2).trans (hw h6 hm.1 (Nat.le_refl _))
 refine ⟨⟨h56.there (zSe a1) (.inl (by omega)),Nat.le_trans a2 hall.size,fun i hi=>?_,fun i hi hin=>?_,fun i hi=>?_⟩,hall⟩
 ·have h:=a3 i hi
  refine Sl2.mid (w:=zTf wr g j (kK R k0 j)) ⟨?_,?_⟩ h56 (.inl (by omega))
  ·rw [uV (by simp;omega)];exact h.1
  ·rw [uV (by simp;omega)];exact h.2
 ·have:=hu (j+1) i hi (by omega)
  exact ((a4 i (by omega) hin).mid hl (.inl (by have:=hu 0 i (Nat.zero_le _) (by omega);omega))).mid h56 (.inl (by omega))
 ·by_cases e:i=j
  ·subst e
   refine ⟨(lay3_at a1 (by omega)).mid h56 (.inl (by omega)),md,hm.1,hm.2,?_,hR.mid h6 (.inr (Nat.le_refl _)),hI⟩
   exact Nat.le_trans u1 (Nat.le_trans a2 hall.size)
  ·have hij:i<j:=by omega
   have:=hu (i+1) j (by omega) (by omega)
   have u2:=hu 0 i (Nat.zero_le _) (by omega)
   refine ⟨?_,((a5 i hij).2.mid hl (.inl (by omega))).mid h56 (.inr (by omega))⟩
   have h:=(a5 i hij).1
   refine Rf3.mid (w:=zTf wr g j (kK R k0 j)) ⟨?_,?_,?_⟩ h56 (.inl (by omega))
   ·rw [uV (by simp;omega)];exact h.1
   ·rw [uV (by simp;omega)];exact h.2.1
   ·rw [uV (by simp;omega)];exact h.2.2
theorem zEe (g n cap k0:Nat)(R:Nat→Kp)(M:Nat→Nat)(w:World)(hW:KsW w g n R M)(hs:zJ n R)(h0:0<k0)(hk0:k0≤1000000000) :
  Calls Tryz.prog 84 #[.slice (some ⟨g,0,none⟩) n cap,.int .i64 (k0:Int)] w fun e w'=>e=.returned (.int .i64 ((kK R k0 n:Nat):Int))∧KsM w' g n R M k0∧zK g (M n) w w':=by
 obtain ⟨hT,hg,hall,hMn⟩:=hW
 have HS:Hid (zJ n R):=hs
 have hn:n≤1048576:=hs.1
 have HMl:Hid (∀ j,j<n→M j≤M (j+1)):=fun j hj=>(hall j hj).1
 have HA0:Hid (MkAt w g n 0 R M k0):=⟨hT,hMn,fun i hi=>(hall i hi).2.1,fun i _ hi=>(hall i hi).2.2,fun i hi=>by omega⟩
 have hgl:g<w.heap.size:=by have:=upM HMl.out (Nat.zero_le n) (Nat.le_refl _);omega
 clear hT hall hs hMn
 go_enter Tryz.func84,Tryz.ntmps84
 go_wp2_with fail
 go_loopw [1,5] (fun kk i wr=>∃ j K:Nat,j≤n∧Hid (K=kK R k0 j)∧kk=.int .i64 (K:Int)∧i=.int .i64 (j:Int)∧MkAt wr g n j R M k0∧zK g (M n) w wr) (fun _ i _=>n - (intOf i).toNat)
 case atStart=>exact ⟨0,k0,by omega,rfl,rfl,rfl,HA0.out,zK.refl _ _ _⟩
 case round =>
  obtain ⟨j,K,hj,HK,rfl,rfl,hA,hMd⟩:=hrel
  have HA:Hid (MkAt wr g n j R M k0):=hA
  have HMd:Hid (zK g (M n) w wr):=hMd
  by_cases hlt:j<n
  ·have hKb:K≤2400000000000000000:=by have:=HK.out;have:=(zEj HS.out hk0 (j:=j) (by omega)).2;omega
   have hK0:0<K:=by have:=HK.out;have:=(zEj HS.out hk0 (j:=j) (by omega)).1;omega
   have hsm:=HS.out.2 j hlt
   obtain ⟨md,m1,m2,m3,m4,m5⟩:=hA.2.2.2.1 j (Nat.le_refl _) hlt
   have hT:=hA.1
   have t0:=hT.cell (j * 5) (by omega)
   have t1:=hT.cell (j * 5+1) (by omega)
   have t2:=hT.cell (j * 5+2) (by omega)
   have f0:=(hT (j * 5) (by omega)).2
   have f1:=(hT (j * 5+1) (by omega)).2
   have f2:=(hT (j * 5+2) (by omega)).2
   have hS2:=hA.2.2.1 j hlt
   have HLT:Hid (j<n):=hlt
   have hi:(j:Int)<(n:Int):=by omega
   have hi0:(0:Int)≤(j:Int):=by omega
   have hgr:g<wr.heap.size:=Nat.lt_of_lt_of_le hgl hMd.size
   have e3:(K:Int)+1+1+1=((K+3:Nat):Int):=by omega
   have e2:(K:Int)+1+1=((K+2:Nat):Int):=by omega
   have e1:(K:Int)+1=((K+1:Nat):Int):=by omega
   have E:=(show Hid _ from (⟨e3,e2,e1⟩:_∧_∧_))
   have hu0:=upM HMl.out (Nat.zero_le j) (by omega)
   have HF:Hid (∀ W,zK g (g+1) wr W→Calls Tryz.prog 138 #[.slice (R j).fa (R j).fn (R j).fc,.int .i64 ((K+3:Nat):Int)] W fun e w'=>e=.returned (.int .i64 ((kS (ptN (R j)) (K+3) (R j).fn:Nat):Int))∧zK (M j) md W w'∧MkR w' (M j) md (R j).fa (R j).fn (ptN (R j)) (ptC (R j)) (K+3)):=fun W h =>
    zPb (M j) md _ _ _ (K+3) _ _ W (m4.away h (.inl (by omega))) hsm.1.1 (fun i hi=>(hsm.1.2 i hi).1) (by omega) (by omega)
   have HI:Hid (∀ (W:World) (k:Nat),k≤6000000000000000000→zK g md wr W→Calls Tryz.prog 139 #[.slice (R j).ia (R j).m (R j).ic,.int .i64 (k:Int)] W fun e w'=>e=.returned (.int .i64 ((k+(R j).m:Nat):Int))∧zK md (M (j+1)) W w'∧((R j).m=0∨∃ ib,(R j).ia=some ⟨ib,0,none⟩∧md≤ib∧ib<M (j+1)∧zA2 w' ib 0 (R j).m (mkN k))):=fun W k hk h =>
    zO9 md (M (j+1)) _ _ _ k W (m5.imp id (fun ⟨ib,e,a,b,c⟩=>⟨ib,e,a,b,h.there c (.inr a)⟩)) (Nat.le_trans m3 h.size) hsm.2 hk
   have HSS:Hid (kS (ptN (R j)) (K+3) (R j).fn≤6000000000000000000):=by show _≤_;have:=(zGo (k:=K+3) hsm).2;omega
   have HNx:Hid (kS (ptN (R j)) (K+3) (R j).fn+(R j).m=kK R k0 (j+1)):=by show _=_;rw [kK,← HK.out];rfl
   have Hm:Hid (M j≤md∧md≤M (j+1)):=⟨m1,m2⟩
   have HS2:Hid (Sl2 wr g j (R j)):=hS2
   have HT:Hid (zC wr g (n * 5)):=hT
   have c3:=hS2.1
   have hgj:g<M j:=by omega
   clear hA hMd hT e3 e2 e1 m3 m4 m5 m1 m2 hS2 hsm hu0 hj
   go_wp2_with fail
   rw [E.out.1,E.out.2.1,E.out.2.2]
   have hL:((wr.setCell ⟨g,j * 5,none⟩ (.int .i64 (K:Nat))).setCell ⟨g,j * 5+1,none⟩ (.int .i64 ((K+1:Nat):Int))).setCell ⟨g,j * 5+2,none⟩ (.int .i64 ((K+2:Nat):Int))=zTf wr g j K:=rfl
   rw [hL]
   have HL:=zQp wr g j K
   refine (HF.out _ HL).mono ?_
   rintro e w5 ⟨rfl,hM5,hR5⟩
   have hs5:=hM5.size
   have HM5:Hid (zK (M j) md (zTf wr g j K) w5):=hM5
   have HR5:Hid (MkR w5 (M j) md (R j).fa (R j).fn (ptN (R j)) (ptC (R j)) (K+3)):=hR5
   have HgM:Hid (g<M j):=hgj
   have d4:w5.cell? ⟨g,j * 5+4,none⟩=some (.slice (R j).ia (R j).m (R j).ic):=hM5.cell (by rw [uV (by simp)];exact HS2.out.2) (.inl hgj)
   have hS6:=HSS.out
   have HI5:=(show Hid _ from HI.out w5 _ hS6 ((zK.wide HL (Nat.le_refl _) (by have:=Hm.out;omega)).trans (hM5.wide (by omega) (Nat.le_refl _))))
   clear hM5 hR5 HF HI t0 t1 t2 f0 f1 f2 c3 hL HL
   generalize hQ:kS (ptN (R j)) (K+3) (R j).fn=Q at *
   go_wp2_with fail
   refine Calls.mono HI5.out ?_
   rintro e w6 ⟨rfl,hM6,hI6⟩
   have HM6:Hid (zK md (M (j+1)) w5 w6):=hM6
   have HI6:=(show Hid _ from hI6)
   have hm3:=HS.out.2 j HLT.out
   clear hM6 hI6 HI5 d4
   generalize hmm:(R j).m=mm at *
   go_wp2_with fail
   go_roundw
   case rel =>
    have hst:=zR8 (k0:=k0) HA.out HLT.out hg HMl.out Hm.out (by rw [← HK.out];exact HM5.out) (by rw [← HK.out];exact HR5.out) HM6.out (by rw [← HK.out,hmm,hQ];exact HI6.out)
    exact ⟨j+1,Q+mm,by omega,by show _=_;exact HNx.out,rfl,by go_num,hst.1,HMd.out.trans hst.2⟩
   case measure=>have:=HLT.out;simp [intOf];omega
  ·go_wp2
   go_ret
   have hjn:j=n:=by omega
   subst hjn
   refine ⟨zD (by have:=HK.out;omega),⟨hg,hA.2.1,fun i hi=>⟨HMl.out i hi,hA.2.2.1 i hi,(hA.2.2.2.2 i hi).1,(hA.2.2.2.2 i hi).2⟩⟩,hMd⟩

theorem zGc.wide {w:World}{base B:Nat}{v:Value}{n:Nat}{E:Nat→Req}(h:zGc w base v n E)(hB:B≤base):zGc w B v n E:=by
 obtain ⟨a,cap,hv,hc,h0 | ⟨b,ha,hbb,hr⟩⟩:=h
 ·exact ⟨a,cap,hv,hc,.inl h0⟩
 ·exact ⟨a,cap,hv,hc,.inr ⟨b,ha,by omega,hr⟩⟩
theorem zGc.set3 {base B r:Nat}{w:World}{v a b c:Value}{n:Nat}{E:Nat→Req}(h:zGc w B v n E)(hr:r<B)(hB:base≤B):zGc (((w.setCell ⟨r,0,none⟩ a).setCell ⟨r,1,none⟩ b).setCell ⟨r,2,none⟩ c) base v n E :=
 (h.mid ((((zK.refl r (r+1) w).set (Nat.le_refl _) (Nat.lt_succ_self _) 0 a).set (Nat.le_refl _) (Nat.lt_succ_self _) 1 b).set (Nat.le_refl _) (Nat.lt_succ_self _) 2 c) hr).wide hB
theorem vJ.up {w w' : World} {b : Nat} {z x y wd ht : Int} (h : vJ w b z x y wd ht) (hb : Below w.heap.size w w') : vJ w' b z x y wd ht :=
 ⟨zBt hb h.1, zBt hb h.2.1, zBt hb h.2.2.1, zBt hb h.2.2.2.1, zBt hb h.2.2.2.2⟩
def zG7 (n : Nat) (E : Nat → Req) (z x y wd ht : Int) : Int := or2 (zO n E) (uR z x y wd ht)
def zBk (n : Nat) (E : Nat → Req) (z x y wd ht : Int) : List Req := if zG7 n E z x y wd ht = 0 then yA (fun j => yV z x y wd ht (E j).z (E j).x (E j).y) E n else []
theorem zXk (args : Array Value) (w : World) : (callFunc 171 args).run Tryz.prog w = .ok (.enter 171 args) w := by
 have h1 : (Tryz.f171).name ≠ "runtime.NumGoroutine" := by
  have : ((Tryz.f171).name == "runtime.NumGoroutine") = false := by kernel_rfl
  simpa using this
 have hb : ∃ c, (Tryz.f171).body = some c := ⟨_, rfl⟩
 obtain ⟨c, hb⟩ := hb
 simp [callFunc, Tryz.func171, h1, hb]
theorem zUh (e : Req) (r : Nat) (z x y wd ht : Int) (w : World) (h : vJ w r z x y wd ht) :
  Calls Tryz.prog 171 #[zL4 e, .pointer (some ⟨r, 0, none⟩)] w fun q w' => q = .returned (.bool (yV z x y wd ht e.z e.x e.y)) ∧ Bw w w' := by
 obtain ⟨c0, c1, c2, c3, c4⟩ := h.up (w' := w.alloc (.cells #[.int .i64 e.z, .int .i64 e.x, .int .i64 e.y, .int .i64 e.du, .int .i64 e.tr] 106)) (by exact Qb)
 have hl := World.block_lt_of_cell? _ _ h.1
 have sI := fun w => zCb z x y wd ht e.z e.x e.y w
 generalize yV z x y wd ht e.z e.x e.y = B at *
 clear h
 go_enter Tryz.func171, Tryz.ntmps171
 go_wp2_with (go_at_call 127; refine (sI _).mono ?_; rintro e w' ⟨rfl, hb⟩)
 go_ret
 exact ⟨rfl, by (repeat (first|exact Qr _ _|assumption|refine Qd ?_|refine Qa ?_ _|refine Qt ?_|refine Qs ?_ _|refine Qo ?_ ?_ _ _))⟩
theorem zUc {T : Array Value} {Wf : World} {r : Nat} {c : Int} {v1 v2 : Value} (hT : T[4]?.getD undef = .pointer (some ⟨r, 0, none⟩)) (h0 : Wf.cell? ⟨r, 0, none⟩ = some (.int .i64 c)) (h1 : Wf.cell? ⟨r, 1, none⟩ = some v1) (h2 : Wf.cell? ⟨r, 2, none⟩ = some v2) :
  (results Tryz.f130 T).run Tryz.prog Wf = .ok (rqV c v1 v2) Wf := by
 simp [results, Tryz.results130, go_sem, hT, h0, h1, h2]
theorem zE9 (a : Option Addr) (n cap : Nat) (E : Nat → Req) (z x y wd ht : Int) (w : World) (hp : xO w a n E) (hn : n ≤ 1048576) (hcap : n ≤ cap) :
  Calls Tryz.prog 130 #[.slice a n cap, zCo z x y wd ht] w fun e w' => ∃ v2, e = .returned (rqV (zG7 n E z x y wd ht) (.slice none 0 0) v2) ∧ ArmV v2 ∧ zGc w' w.heap.size v2 (zBk n E z x y wd ht).length (nw (zBk n E z x y wd ht)) ∧ Bw w w' := by
 have HP : Hid (xO w a n E) := hp
 have HF0 : Hid (∀ W, Bw w W → Calls Tryz.prog 73 #[.slice a n cap] W fun e w' => e = .returned (.int .i64 (zO n E)) ∧ Bw W w') := fun W h => xN a n cap E W (hp.below h) hn hcap
 have HT : Hid (∀ W, Calls Tryz.prog 69 #[zCo z x y wd ht] W fun e w' => e = .returned (.int .i64 (uR z x y wd ht)) ∧ Bw W w') := fun W => vQ z x y wd ht W
 have HPC : Hid (zG7 n E z x y wd ht = or2 (zO n E) (uR z x y wd ht)) := rfl
 clear hp
 have hmf : ∀ (fn : Fn) (first cap : Array Value) (w : World), (Instr.makeFunc fn first cap).run Tryz.prog w = .ok (.func fn first cap) w := fun _ _ _ _ => rfl
 generalize zO n E = k1 at *
 generalize uR z x y wd ht = k2 at *
 go_enter Tryz.func130, Tryz.ntmps130
 go_wp2_with fail
 generalize hW : ((w.alloc _).alloc _ : World) = W
 have HB0 : Hid (Bw w W) := by show Below _ _ _; subst hW; exact Qb
 have HSZ : Hid (w.heap.size + 1 < W.heap.size) := by show _ < _; subst hW; simp
 have hCA : vJ W w.heap.size z x y wd ht := by subst hW; exact ⟨by simp [go_sem], by simp [go_sem], by simp [go_sem], by simp [go_sem], by simp [go_sem]⟩
 have c0 : ∀ W', Bw W W' → W'.cell? ⟨w.heap.size, 0, none⟩ = some (.int .i64 z) := fun W' h => (hCA.up h).1
 have c1 : ∀ W', Bw W W' → W'.cell? ⟨w.heap.size, 1, none⟩ = some (.int .i64 x) := fun W' h => (hCA.up h).2.1
 have c2 : ∀ W', Bw W W' → W'.cell? ⟨w.heap.size, 2, none⟩ = some (.int .i64 y) := fun W' h => (hCA.up h).2.2.1
 have c3 : ∀ W', Bw W W' → W'.cell? ⟨w.heap.size, 3, none⟩ = some (.int .i64 wd) := fun W' h => (hCA.up h).2.2.2.1
 have c4 : ∀ W', Bw W W' → W'.cell? ⟨w.heap.size, 4, none⟩ = some (.int .i64 ht) := fun W' h => (hCA.up h).2.2.2.2
 have HCA : Hid (vJ W w.heap.size z x y wd ht) := hCA
 have HTH : Hid (zC W (w.heap.size + 1) 3) := by
  show zC _ _ _
  subst hW
  have := zOv (w.alloc (.cells #[.int .i64 z, .int .i64 x, .int .i64 y, .int .i64 wd, .int .i64 ht] 32)) (.int .i64 0) (.slice none 0 0) (.slice none 0 0) 165
  simpa using this
 clear hW hCA
 have HF : Hid (∀ W', Bw W W' → Calls Tryz.prog 73 #[.slice a n cap] W' fun e w' => e = .returned (.int .i64 k1) ∧ Below W'.heap.size W' w') := fun W' h => HF0.out W' (zA HB0.out h)
 refine wp_region_noPanic ?_
 refine wp_region_held_drew (S := fun W' => Bw W W') (by kernel_rfl) (by exact Qb) (fun hHeld => ?_)
 have hX0 : Bw W W.drew := hHeld
 refine zF (i := 0) (d := some 6) rfl rfl ?_
 try simp only [Act.put, Qx, Qy, Qz]
 refine zF (i := 2) (d := some 8) rfl rfl ?_
 try simp only [Act.put, Qx, Qy, Qz]
 refine zN 1 fun K hK => ?_
 go_simp
 refine Calls.mono (HF.out _ hX0) ?_
 rintro e wo1 ⟨rfl, hbo1⟩
 have hX1 : Bw W wo1 := zA hX0 hbo1
 go_wp2_with fail
 refine hK.out _ _ hX1 (fun hHeld => ?_)
 clear hK K
 try simp only [Act.put, Qx, Qy, Qz]
 refine zN 3 fun K hK => ?_
 go_simp
 refine Calls.mono (HT.out _) ?_
 rintro e wo2 ⟨rfl, hbo2⟩
 have hX2 : Bw W wo2 := zA hX1 hbo2
 go_wp2_with fail
 refine hK.out _ _ hX2 (fun hHeld => ?_)
 clear hK K
 try simp only [Act.put, Qx, Qy, Qz]
 refine zN 4 fun K hK => ?_
 go_simp
 generalize hw4 : (World.alloc _ _ : World) = wo3
 have hb4 : Bw wo2 wo3 := by subst hw4; exact Qb
 have g0 : wo3.cell? ⟨wo2.heap.size, 0, none⟩ = some (.int .i64 k1) := by subst hw4; simp [go_sem]
 have g1 : wo3.cell? ⟨wo2.heap.size, 1, none⟩ = some (.int .i64 k2) := by subst hw4; simp [go_sem]
 have hX3 : Bw W wo3 := zA hX2 hb4
 clear hw4
 refine hK.out _ _ hX3 (fun hHeld => ?_)
 clear hK K hb4
 try simp only [Act.put, Qx, Qy, Qz]
 refine zN 5 fun K hK => ?_
 go_simp
 refine (zFe _ _ k1 k2 _ g0 g1).mono ?_
 rintro e w5 ⟨rfl, rfl⟩
 go_wp2_with fail
 refine hK.out _ _ hX3 (fun hHeld => ?_)
 clear hK K g0 g1
 try simp only [Act.put, Qx, Qy, Qz]
 refine zF (i := 6) (d := some 5) rfl rfl ?_
 try simp only [Act.put, Qx, Qy, Qz]
 refine wpAnyH_done (by kernel_rfl) ?_ _
 refine NoPanic.normal ?_
 simp only [Exit.then]
 refine (by assumption : ∀ (a : Act) (w : World), _ → _) _ _ ?_
 have hB5 : Bw W w5 := hX3
 have HBS : Hid (W.heap.size ≤ w5.heap.size) := hB5.size
 rw [← HPC.out]
 clear hX0 hX1 hX2 hX3 hHeld hbo1 hbo2 HF HF0 HT c0 c1 c2 c3 c4
 have hT5 := HTH.out.below hB5
 have HSZ5 : Hid (w.heap.size + 1 < w5.heap.size) := by have := HBS.out; have := HSZ.out; show _ < _; omega
 by_cases hp0 : zG7 n E z x y wd ht = 0
 ·rw [hp0]
  have HC0 : Hid (zG7 n E z x y wd ht = 0) := hp0
  have HL : Hid (zBk n E z x y wd ht = yA (fun j => yV z x y wd ht (E j).z (E j).x (E j).y) E n) := by show _ = _; unfold zBk; rw [if_pos hp0]
  have hOT := zKv a n cap 171 #[.pointer (some ⟨w.heap.size, 0, none⟩)] (fun j => yV z x y wd ht (E j).z (E j).x (E j).y) E w5 (HP.out.below (zA HB0.out hB5)) hn zXk (fun i W' hi hb => zUh (E i) w.heap.size z x y wd ht W' ((HCA.out.up hB5).up hb))
  have HOT : Hid (Calls Tryz.prog 170 #[.slice a n cap, .func (.func 171) #[] #[.pointer (some ⟨w.heap.size, 0, none⟩)]] w5 fun e w' => ∃ va vc, e = .returned (.slice va (yA (fun j => yV z x y wd ht (E j).z (E j).x (E j).y) E n).length vc) ∧ ArmV (.slice va (yA (fun j => yV z x y wd ht (E j).z (E j).x (E j).y) E n).length vc) ∧ zGc w' w5.heap.size (.slice va (yA (fun j => yV z x y wd ht (E j).z (E j).x (E j).y) E n).length vc) (yA (fun j => yV z x y wd ht (E j).z (E j).x (E j).y) E n).length (nw (yA (fun j => yV z x y wd ht (E j).z (E j).x (E j).y) E n)) ∧ Bw w5 w') := hOT
  clear hp0 hOT
  generalize yA (fun j => yV z x y wd ht (E j).z (E j).x (E j).y) E n = KL at *
  go_wp2_with fail
  refine Calls.mono HOT.out ?_
  rintro e w6 ⟨va, vc, rfl, hA6, hO6, hb6⟩
  have HA6 : Hid (ArmV (.slice va KL.length vc)) := hA6
  have HO6 : Hid (zGc w6 w5.heap.size (.slice va KL.length vc) KL.length (nw KL)) := hO6
  have HT6 : Hid (zC w6 (w.heap.size + 1) 3) := hT5.below hb6
  have HB6 : Hid (Bw w w6) := zA HB0.out (zA hB5 hb6)
  have t0 := HT6.out.cell 0 (by omega)
  have t1 := HT6.out.cell 1 (by omega)
  have t2 := HT6.out.cell 2 (by omega)
  have f0 := (HT6.out 0 (by omega)).2
  have f1 := (HT6.out 1 (by omega)).2
  have f2 := (HT6.out 2 (by omega)).2
  clear hA6 hO6 hb6 HOT hT5 hB5
  generalize hLL : KL.length = LL at *
  go_wp2_with fail
  obtain ⟨q0, q1, q2⟩ := zBz (a := .int .i64 0) (b := .slice none 0 0) (c := .slice va LL vc) HT6.out
  refine bodyPost_ret (zUc rfl q0 q1 q2) rfl ⟨_, by rw [HC0.out], HA6.out, by rw [HL.out, hLL]; exact HO6.out.set3 HSZ5.out (by have := HSZ5.out; omega), ?_⟩
  exact ((HB6.out.setCell (Nat.le_succ _) _).setCell (Nat.le_succ _) _).setCell (Nat.le_succ _) _
 ·have hp0' : (zG7 n E z x y wd ht == 0) = false := by simpa using hp0
  have HL : Hid (zBk n E z x y wd ht = []) := by show _ = _; unfold zBk; rw [if_neg hp0]
  obtain ⟨kk, hkk⟩ : ∃ kk, zG7 n E z x y wd ht = kk := ⟨_, rfl⟩
  have HKK : Hid (zG7 n E z x y wd ht = kk) := hkk
  rw [hkk] at hp0' ⊢
  have HT6 : Hid (zC w5 (w.heap.size + 1) 3) := hT5
  have HB6 : Hid (Bw w w5) := zA HB0.out hB5
  have t0 := HT6.out.cell 0 (by omega)
  have t1 := HT6.out.cell 1 (by omega)
  have t2 := HT6.out.cell 2 (by omega)
  have f0 := (HT6.out 0 (by omega)).2
  have f1 := (HT6.out 1 (by omega)).2
  have f2 := (HT6.out 2 (by omega)).2
  clear hp0 hkk hT5 hB5
  go_wp2_with fail
  obtain ⟨q0, q1, q2⟩ := zBz (a := .int .i64 kk) (b := .slice none 0 0) (c := .slice none 0 0) HT6.out
  refine bodyPost_ret (zUc rfl q0 q1 q2) rfl ⟨_, by rw [HKK.out], .inl rfl, by rw [HL.out]; exact (yN.no _ _).own, ?_⟩
  exact ((HB6.out.setCell (Nat.le_succ _) _).setCell (Nat.le_succ _) _).setCell (Nat.le_succ _) _
theorem zPi (a : Option Addr) (n cap r : Nat) (E : Nat → Req) (z x y wd ht : Int) (w : World) (hp : xO w a n E) (hc : vJ w r z x y wd ht) (hr : zAi z x y wd ht = true) (hn : n ≤ 8) :
  Calls Tryz.prog 110 #[.slice a n cap, .pointer (some ⟨r, 0, none⟩)] w fun e w' => ∃ v, e = .returned v ∧ yN w.heap.size w' v (yA (fun j => yV z x y wd ht (E j).z (E j).x (E j).y) E n) ∧ Bw w w' := by
 obtain ⟨i0, hi, hz0, hz1, hz2⟩ := info_parts zBp
 have hm : uT z x y wd ht ≤ 1048576 := by have := zC1 z x y wd ht; omega
 have HSN : Hid (∀ (e : Req) (W : World), vJ W r z x y wd ht → Calls Tryz.prog 62 #[.pointer (some ⟨r, 0, none⟩), vU e.z e.x e.y] W fun q w' => q = .returned (.bool (yV z x y wd ht e.z e.x e.y)) ∧ Bw W w') := fun e W h => zJm r _ _ e.z e.x e.y W hm (fun W' hW => zE6 r W' (h.up hW) hr)
 have HP : Hid (xO w a n E) := hp
 have HC : Hid (vJ w r z x y wd ht) := hc
 clear hp hc hr hm
 go_enter Tryz.func110, Tryz.ntmps110
 go_wp2_with fail
 generalize hW : (w.alloc _ : World) = W
 have HB0 : Hid (Bw w W) := by show Below _ _ _; subst hW; exact Qb
 have HR0 : Hid (yN w.heap.size W (.slice (some ⟨w.heap.size, 0, none⟩) 0 0) []) := by
  show World.ownsRow _ _ _ _ _ _ _
  subst hW
  exact World.ownsRow_lit (base := w.heap.size) (size := 5) w #[] 0 (Nat.le_refl _) (Nat.zero_le _) rfl
 clear hW
 go_loopw [5, 6] (fun v i wr => ∃ (k : Nat) (va : Option Addr) (vc : Nat), k ≤ n ∧ i = .int .i64 (k : Int) ∧ v = .slice va (yA (fun j => yV z x y wd ht (E j).z (E j).x (E j).y) E k).length vc ∧ yN w.heap.size wr v (yA (fun j => yV z x y wd ht (E j).z (E j).x (E j).y) E k) ∧ Bw w wr) (fun _ i _ => n - (intOf i).toNat)
 case atStart => exact ⟨0, _, _, by omega, rfl, rfl, HR0.out, HB0.out⟩
 case round =>
  obtain ⟨k, va, vc, hk, rfl, rfl, hR, hB⟩ := hrel
  have HRr : Hid (yN w.heap.size wr (.slice va (yA (fun j => yV z x y wd ht (E j).z (E j).x (E j).y) E k).length vc) (yA (fun j => yV z x y wd ht (E j).z (E j).x (E j).y) E k)) := hR
  have HBr : Hid (Bw w wr) := hB
  by_cases hlt : k < n
  ·rcases HP.out with h0 | ⟨b, off, rfl, hbl, hpt⟩
   ·omega
   obtain ⟨q0, q1, q2, q3, q4⟩ := (hpt.below hB hbl) k hlt
   have hi' : (k : Int) < (n : Int) := by omega
   have hi0 : (0 : Int) ≤ (k : Int) := by omega
   have HLT : Hid (k < n) := hlt
   have HPT : Hid (zAj w b off n E) := hpt
   have hle := zBo (fun j => yV z x y wd ht (E j).z (E j).x (E j).y) E k
   clear hR hB hpt
   go_wp2_with fail
   refine (HSN.out (E k) _ (HC.out.up HBr.out)).mono ?_
   rintro e w2 ⟨rfl, hb2⟩
   have HB2 : Hid (Bw w w2) := zA HBr.out hb2
   have HR2 : Hid (yN w.heap.size w2 (.slice va (yA (fun j => yV z x y wd ht (E j).z (E j).x (E j).y) E k).length vc) (yA (fun j => yV z x y wd ht (E j).z (E j).x (E j).y) E k)) := HRr.out.below hb2
   obtain ⟨p0, p1, p2, p3, p4⟩ := (HPT.out.below HB2.out hbl) k hlt
   clear hb2 q0 q1 q2 q3 q4 HRr HBr
   cases hS : yV z x y wd ht (E k).z (E k).x (E k).y
   ·have HK : Hid (yA (fun j => yV z x y wd ht (E j).z (E j).x (E j).y) E (k + 1) = yA (fun j => yV z x y wd ht (E j).z (E j).x (E j).y) E k) := zQs hS
    clear hS
    generalize yA (fun j => yV z x y wd ht (E j).z (E j).x (E j).y) E k = KL at *
    go_wp2_with fail
    go_roundw
    case rel => exact ⟨k + 1, va, vc, by have := HLT.out; omega, by go_num, by rw [HK.out], by rw [HK.out]; exact HR2.out, HB2.out⟩
    case measure => have := HLT.out; simp [intOf]; omega
   ·have HK : Hid (yA (fun j => yV z x y wd ht (E j).z (E j).x (E j).y) E (k + 1) = yA (fun j => yV z x y wd ht (E j).z (E j).x (E j).y) E k ++ [E k]) := zNa hS
    clear hS
    generalize yA (fun j => yV z x y wd ht (E j).z (E j).x (E j).y) E k = KL at *
    have HSZ : Hid (w.heap.size ≤ w2.heap.size) := HB2.out.size
    go_wp2_with (first
     | (at_builtin; go_must (refine wpList_append_own _ rfl _ _ 36 rfl w.heap.size 106 i0 (.agg #[.int .i64 0, .int .i64 0, .int .i64 0, .int .i64 0, .int .i64 0]) 5 40 Tryz.underlying36 hi hz0 hz1 hz2 rfl (by decide) (.slice va KL.length vc) KL.length (yI KL) rfl ?r0 ⟨w2.heap.size, 0, none⟩ 1 1 (xG (E k)) rfl rfl ?r1 ?r2 ?r3 ?r4 ?r5 ?_)))
    case r0 => exact World.ownsRow.alloc HR2.out _
    case r1 => exact zHa _ _ _
    case r2 => exact yQ _
    case r3 => unfold maxLen; omega
    case r4 => omega
    case r5 => have := HSZ.out; simp; omega
    intro v6 w6 hown6 hg6 hnil6
    have hR6 : yN w.heap.size w6 v6 (KL ++ [E k]) := by unfold yN; rw [xL, xF, List.length_append]; exact hown6
    have hbA : Bw w2 (w2.alloc (.cells #[.int .i64 (E k).z, .int .i64 (E k).x, .int .i64 (E k).y, .int .i64 (E k).du, .int .i64 (E k).tr] 106)) := by exact Qb
    have hb6 : Below w.heap.size (w2.alloc (.cells #[.int .i64 (E k).z, .int .i64 (E k).x, .int .i64 (E k).y, .int .i64 (E k).du, .int .i64 (E k).tr] 106)) w6 := xM hg6 (fun p hp => HR2.out.block p hp) (by have := HSZ.out; simp; omega)
    obtain ⟨va6, vc6, hv6⟩ := hR6.slice
    subst hv6
    have HR6 : Hid (yN w.heap.size w6 (.slice va6 (KL ++ [E k]).length vc6) (KL ++ [E k])) := hR6
    have HB6 : Hid (Bw w w6) := (zA HB2.out hbA).trans hb6
    clear hown6 hg6 hnil6 hR6 hbA hb6 p0 p1 p2 p3 p4
    obtain ⟨SL, hSL⟩ : ∃ SL, (KL ++ [E k]).length = SL := ⟨_, rfl⟩
    have HSL : Hid ((KL ++ [E k]).length = SL) := hSL
    rw [hSL] at HR6 ⊢
    clear hSL
    go_wp2_with fail
    go_roundw
    case rel => exact ⟨k + 1, va6, vc6, by have := HLT.out; omega, by go_num, by rw [HK.out, HSL.out], by rw [HK.out]; exact HR6.out, HB6.out⟩
    case measure => have := HLT.out; simp [intOf]; omega
  ·obtain rfl : n = k := by omega
   go_wp2_with fail
   go_ret
   exact ⟨_, rfl, HRr.out, HBr.out⟩


theorem zFm {G G':Nat→Bool}:∀ n,(∀ j,j<n→G j=G' j)→uL G n=uL G' n
 | 0,_=>rfl
 | n+1,h=>by rw [uL,uL,zFm n (fun j hj=>h j (by omega)),h n (by omega)]
section
variable {n:Nat} {E:Nat→Req} {z x y now:Int}
end
section
variable {n:Nat} {E:Nat→Req} {z x y now:Int}
end
end Go.Proofs.YtkjbafcalamgnaaGreat
