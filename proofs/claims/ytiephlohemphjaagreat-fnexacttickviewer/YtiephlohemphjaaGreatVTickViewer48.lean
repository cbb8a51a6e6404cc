/- Texts. -/
import Derived.Test.YtiephlohemphjaaGreatVTickViewer46
set_option linter.unusedSimpArgs false
set_option linter.unusedVariables false
set_option maxRecDepth 100000
set_option maxHeartbeats 32000000
namespace Go.Proofs.YtiephlohemphjaaGreat
open Go.RowKit
def CrN (k0 : Nat) (w : World) (B hi : Nat) (a : Option Addr) (n : Nat) (R : Nat → Kp) : Prop := n = 0 ∨ ∃ g M,a = some ⟨g,0,none⟩ ∧ B ≤ g ∧ KsM w g n R M k0 ∧ M n ≤ hi
theorem CrN.mid {k0 : Nat} {w w' : World} {B hi l h : Nat} {a : Option Addr} {n : Nat} {R : Nat → Kp} (hc : CrN k0 w B hi a n R) (hM : MidB l h w w') (ho : h ≤ B ∨ hi ≤ l) : CrN k0 w' B hi a n R :=
 hc.imp id fun ⟨g,M,e,hB,hK,hMn⟩ => ⟨g,M,e,hB,hK.mid hM (by omega),hMn⟩
theorem CrW.midV {w w' : World} {B hi l h : Nat} {a : Option Addr} {n : Nat} {R : Nat → Kp} (hc : CrW w B hi a n R) (hM : MidB l h w w') (ho : h ≤ B ∨ hi ≤ l) : CrW w' B hi a n R :=
 hc.imp id fun ⟨g,M,e,hB,hK,hMn⟩ => ⟨g,M,e,hB,hK.mid hM (by omega),hMn⟩
theorem CrN.below {k0 : Nat} {w w' : World} {B hi : Nat} {a : Option Addr} {n : Nat} {R : Nat → Kp} (hc : CrN k0 w B hi a n R) (hb : Below w.heap.size w w') : CrN k0 w' B hi a n R :=
 hc.imp id fun ⟨g,M,e,hB,hK,hMn⟩ => ⟨g,M,e,hB,hK.below hb,hMn⟩
def qVa (v : Va) (u : Vm) : Nat := kK u.KR (1 + 3 * v.m) v.n + 5 * v.rn
def MkVa (w : World) (v : Va) (u : Vm) : Prop := IsRs w u.a1 v.m (mkR 1) ∧ (∃ l h,CrN (1 + 3 * v.m) w l h u.a2 v.n u.KR) ∧ IsWs w u.a3 v.rn (mkW (kK u.KR (1 + 3 * v.m) v.n)) ∧ SmallKs v.n u.KR
theorem MkVa.below {w w' : World} {v : Va} {u : Vm} (h : MkVa w v u) (hb : Below w.heap.size w w') : MkVa w' v u := by
 obtain ⟨h1,⟨l,q,h2⟩,h3,h4⟩ := h
 exact ⟨h1.below hb,⟨l,q,h2.below hb⟩,h3.below hb,h4⟩
theorem kK_viewer {R : Nat → Kp} {k0 n : Nat} (h : SmallKs n R) (h0 : k0 ≤ 4000000) (hn : n ≤ 100) : k0 ≤ kK R k0 n ∧ kK R k0 n ≤ 300000000000000 := by
 have := kK_le (k0 := k0) h n (Nat.le_refl _)
 omega
theorem markKeptS_at (k0 : Nat) (B hi : Nat) (a : Option Addr) (n cap : Nat) (R : Nat → Kp) (w : World) (h : CrW w B hi a n R) (hs : SmallKs n R) (h0 : 0 < k0) (hk0 : k0 ≤ 1000000000) : Calls Tryz.prog 83 #[.slice a n cap, .int .i64 (k0 : Int)] w fun e w' => e = .returned (.int .i64 ((kK R k0 n : Nat) : Int)) ∧ CrN k0 w' B hi a n R ∧ MidB B hi w w' := by
 rcases h with rfl | ⟨g,M,rfl,hB,hK,hMn⟩
 ·refine (markKeptS_zero a k0 k0 cap w).mono ?_
  rintro e w' ⟨rfl,rfl⟩
  exact ⟨rfl, .inl rfl,MidB.refl _ _ _⟩
 ·refine (markKeptS_any g n cap k0 R M w hK hs h0 hk0).mono ?_
  rintro e w' ⟨rfl,h1,h2⟩
  exact ⟨rfl, .inr ⟨g,M,rfl,hB,h1,hMn⟩,h2.wide hB hMn⟩
theorem markCache_at (k0 : Nat) (s : Int) (B hi : Nat) (a : Option Addr) (n cap : Nat) (R : Nat → Kp) (w : World) (h : CrW w B hi a n R) (hs : SmallKs n R) (h0 : 0 < k0) (hk0 : k0 ≤ 1000000000) : Calls Tryz.prog 44 #[caV s (.slice a n cap), .int .i64 (k0 : Int)] w fun e w' => e = .returned (.int .i64 ((kK R k0 n : Nat) : Int)) ∧ CrN k0 w' B hi a n R ∧ MidB B hi w w' := by
 have HM : Hid (∀ V,Below w.heap.size w V → Calls Tryz.prog 83 #[.slice a n cap, .int .i64 (k0 : Int)] V fun e w' => e = .returned (.int .i64 ((kK R k0 n : Nat) : Int)) ∧ CrN k0 w' B hi a n R ∧ MidB B hi V w') := fun V hb => markKeptS_at k0 B hi a n cap R V (h.below hb) hs h0 hk0
 clear h hs
 generalize hq : kK R k0 n = q at *
 go_enter Tryz.func44,Tryz.ntmps44
 go_wp2_with fail
 generalize hV : (w.alloc _ : World) = V
 have HB : Hid (Below w.heap.size w V) := by show Below _ _ _; subst hV; exact Qb
 clear hV
 refine Calls.mono (HM.out V HB.out) ?_
 rintro e w1 ⟨rfl,h1,h2⟩
 have H1 : Hid (CrN k0 w1 B hi a n R) := h1
 have H2 : Hid (MidB B hi w w1) := (MidB.of_below HB.out).trans h2
 clear h1 h2
 go_wp2
 go_ret
 exact ⟨rfl,H1.out,H2.out⟩
theorem markT_at (lo hi : Nat) (a : Option Addr) (m cap k0 : Nat) (R : Rfs) (w : World) (h : OwT lo hi w a m R) (hh : hi ≤ w.heap.size) (hm : m ≤ 1048576) (hk : k0 ≤ 1125899906842624) :
  Calls Tryz.prog 46 #[.slice a m cap, .int .i64 (k0 : Int)] w fun e w' => e = .returned (.int .i64 ((k0 + 3 * m : Nat) : Int)) ∧ MidB lo hi w w' ∧ OwT lo hi w' a m (mkR k0) := by
 rcases h with rfl | ⟨b,rfl,h1,h2,h3,h4⟩
 ·exact (markRefS_none a cap k0 w).mono fun e w' ⟨he,hb⟩ => by subst hb; exact ⟨he,MidB.refl _ _ _, .inl rfl⟩
 by_cases hm0 : m = 0
 ·subst hm0
  exact (markRefS_none _ cap k0 w).mono fun e w' ⟨he,hb⟩ => by subst hb; exact ⟨he,MidB.refl _ _ _, .inl rfl⟩
 exact (markRefS_any b m cap k0 w h4 (by omega) hm hk).mono fun e w' ⟨he,hg,ht',hp'⟩ => ⟨he,MidB.of_grown hg h1 h2, .inr ⟨b,rfl,h1,h2,hp',ht'⟩⟩
theorem markR_at (lo hi : Nat) (a : Option Addr) (n cap k0 : Nat) (E : Nat → Req) (w : World) (h : OwR lo hi w a n E) (hh : hi ≤ w.heap.size) (hn : n ≤ 1048576) (hk : k0 ≤ 1125899906842624) :
  Calls Tryz.prog 45 #[.slice a n cap, .int .i64 (k0 : Int)] w fun e w' => e = .returned (.int .i64 ((k0 + 5 * n : Nat) : Int)) ∧ MidB lo hi w w' ∧ OwR lo hi w' a n (mkW k0) := by
 rcases h with rfl | ⟨b,rfl,h1,h2,h3,h4⟩
 ·exact (markRequestS_none a cap k0 w).mono fun e w' ⟨he,hb⟩ => by subst hb; exact ⟨he,MidB.refl _ _ _, .inl rfl⟩
 by_cases hm0 : n = 0
 ·subst hm0
  exact (markRequestS_none _ cap k0 w).mono fun e w' ⟨he,hb⟩ => by subst hb; exact ⟨he,MidB.refl _ _ _, .inl rfl⟩
 exact (markRequestS_mk b n cap k0 w h4 hn (by omega)).mono fun e w' ⟨he,hg,ht',hp'⟩ => ⟨he,MidB.of_grown hg h1 h2, .inr ⟨b,rfl,h1,h2,hp',ht'⟩⟩
theorem markViewer_at (k0 l h hi : Nat) (v : Va) (u : Vm) (w : World) (hlh : l ≤ h) (hhi : h ≤ hi) (hw : hi ≤ w.heap.size) (h2 : CrW w l h u.a2 v.n u.KR) (h3 : OwR h hi w u.a3 v.rn v.E) (hs : SmallKs v.n u.KR) (h0 : 0 < k0) (hk0 : k0 ≤ 4000000) (hn : v.n ≤ 100) (hrn : v.rn ≤ 1048576) :
  Calls Tryz.prog 14 #[vwV v.z v.x v.y v.wd v.ht v.now v.s (.slice u.a2 v.n u.c2) (.slice u.a3 v.rn u.c3) v.bad, .int .i64 (k0 : Int)] w fun e w' => e = .returned (.int .i64 ((kK u.KR k0 v.n + 5 * v.rn : Nat) : Int)) ∧ CrN k0 w' l h u.a2 v.n u.KR ∧ OwR h hi w' u.a3 v.rn (mkW (kK u.KR k0 v.n)) ∧ MidB l hi w w' := by
 have hkk := kK_viewer hs hk0 hn
 have HM : Hid (∀ V,Below w.heap.size w V → Calls Tryz.prog 44 #[caV v.s (.slice u.a2 v.n u.c2), .int .i64 (k0 : Int)] V fun e w' => e = .returned (.int .i64 ((kK u.KR k0 v.n : Nat) : Int)) ∧ CrN k0 w' l h u.a2 v.n u.KR ∧ MidB l h V w') := fun V hb => markCache_at k0 v.s l h u.a2 v.n u.c2 u.KR V (h2.below hb) hs h0 (by omega)
 have HR : Hid (OwR h hi w u.a3 v.rn v.E) := h3
 clear h2 h3 hs
 obtain ⟨c,tk,m,R,z,x,y,wd,ht,now,s,n,K,rn,E,bad⟩ := v
 obtain ⟨a1,c1,a2,c2,KR,a3,c3⟩ := u
 dsimp only at *
 generalize kK KR k0 n = Q at *
 obtain ⟨q2,hq2⟩ : ∃ q2,Q + 5 * rn = q2 := ⟨_,rfl⟩
 rw [hq2]
 have HQ2 : Hid (Q + 5 * rn = q2) := hq2
 clear hq2
 go_enter Tryz.func14,Tryz.ntmps14
 go_wp2_with fail
 generalize hV : (w.alloc _ : World) = V
 have HB : Hid (Below w.heap.size w V) := by show Below _ _ _; subst hV; exact Qb
 have HBk : Hid (Blk V w.heap.size [.int .i64 z, .int .i64 x, .int .i64 y, .int .i64 wd, .int .i64 ht, .int .i64 now, .int .i64 s, .slice a2 n c2, .slice a3 rn c3, .int .i64 bad]) := by show Blk _ _ _; subst hV; exact Blk.new _ _ _
 clear hV
 refine Calls.mono (HM.out V HB.out) ?_
 rintro e w1 ⟨rfl,hc1,h7⟩
 have c8 : w1.cell? ⟨w.heap.size,8,none⟩ = some (.slice a3 rn c3) := h7.cell (HBk.out.cell 8 rfl) (.inr (by omega))
 have hR1 : OwR h hi w1 a3 rn E := (HR.out.mid (MidB.of_below (lo := 0) (hi := 0) HB.out) (.inl (Nat.zero_le _))).mid h7 (.inl (Nat.le_refl _))
 have HC1 : Hid (CrN k0 w1 l h a2 n KR) := hc1
 have HM1 : Hid (MidB l hi w w1) := (MidB.of_below HB.out).trans (h7.wide (Nat.le_refl _) hhi)
 have HRq := (show Hid _ from markR_at h hi a3 rn c3 Q E w1 hR1 (Nat.le_trans hw HM1.out.size) hrn (by omega))
 rw [HQ2.out] at HRq
 clear h7 HM HBk hc1 hR1
 go_wp2_with fail
 refine Calls.mono HRq.out ?_
 rintro e w2 ⟨rfl,hM2,hO2⟩
 have HM2 : Hid (MidB l hi w w2) := HM1.out.trans (hM2.wide hlh (Nat.le_refl _))
 have HC2 : Hid (CrN k0 w2 l h a2 n KR) := HC1.out.mid hM2 (.inr (Nat.le_refl _))
 have HO2 : Hid (OwR h hi w2 a3 rn (mkW Q)) := hO2
 clear hM2 hO2 HRq HM1 c8
 go_wp2
 go_ret
 exact ⟨rfl,HC2.out,HO2.out,HM2.out⟩
theorem markVa (lo hi : Nat) (v : Va) (u : Vm) (w : World) (hO : OwVa lo hi w v u) (hs : SmVa v) :
  Calls Tryz.prog 15 #[vaV v u, .int .i64 1] w fun e w' => e = .returned (.int .i64 ((qVa v u : Nat) : Int)) ∧ MkVa w' v u ∧ MidB lo hi w w' := by
 obtain ⟨l,h,h1,h2,h3,h4,o1,o2,o3,o4⟩ := hO
 obtain ⟨s1,s2,s3,s4⟩ := hs
 have sK : SmallKs v.n u.KR := o2.small s3
 have HT : Hid (∀ V,Below w.heap.size w V → Calls Tryz.prog 46 #[.slice u.a1 v.m u.c1, .int .i64 1] V fun e w' => e = .returned (.int .i64 ((1 + 3 * v.m : Nat) : Int)) ∧ MidB lo l V w' ∧ OwT lo l w' u.a1 v.m (mkR 1)) := fun V hb => markT_at lo l u.a1 v.m u.c1 1 v.R V (o1.mid (MidB.of_below (lo := 0) (hi := 0) hb) (.inl (Nat.zero_le _))) (by have := hb.size; omega) s1 (by omega)
 have HMv : Hid (∀ V,CrW V l h u.a2 v.n u.KR → OwR h hi V u.a3 v.rn v.E → hi ≤ V.heap.size → Calls Tryz.prog 14 #[vwV v.z v.x v.y v.wd v.ht v.now v.s (.slice u.a2 v.n u.c2) (.slice u.a3 v.rn u.c3) v.bad, .int .i64 ((1 + 3 * v.m : Nat) : Int)] V fun e w' => e = .returned (.int .i64 ((kK u.KR (1 + 3 * v.m) v.n + 5 * v.rn : Nat) : Int)) ∧ CrN (1 + 3 * v.m) w' l h u.a2 v.n u.KR ∧ OwR h hi w' u.a3 v.rn (mkW (kK u.KR (1 + 3 * v.m) v.n)) ∧ MidB l hi V w') := fun V c1 c2 c3 => markViewer_at (1 + 3 * v.m) l h hi v u V h2 h3 c3 c1 c2 sK (by omega) (by omega) s2 s4
 have HW : Hid (CrW w l h u.a2 v.n u.KR ∧ OwR h hi w u.a3 v.rn v.E) := ⟨o3,o4⟩
 have HSm : Hid (SmallKs v.n u.KR) := sK
 clear o1 o2 o3 o4 s3 sK
 obtain ⟨Q,hQ⟩ : ∃ Q : Nat,qVa v u = Q := ⟨_,rfl⟩
 rw [hQ]
 obtain ⟨c,tk,m,R,z,x,y,wd,ht,now,s,n,K,rn,E,bad⟩ := v
 obtain ⟨a1,c1,a2,c2,KR,a3,c3⟩ := u
 have HMk : Hid (∀ W,MkVa W ⟨c,tk,m,R,z,x,y,wd,ht,now,s,n,K,rn,E,bad⟩ ⟨a1,c1,a2,c2,KR,a3,c3⟩ ↔ IsRs W a1 m (mkR 1) ∧ (∃ l h,CrN (1 + 3 * m) W l h a2 n KR) ∧ IsWs W a3 rn (mkW (kK KR (1 + 3 * m) n)) ∧ SmallKs n KR) := fun W => Iff.rfl
 unfold qVa at hQ
 dsimp only at *
 rw [hQ] at HMv
 clear hQ
 obtain ⟨k1,hk1⟩ : ∃ k1 : Nat,1 + 3 * m = k1 := ⟨_,rfl⟩
 rw [hk1] at HT HMv HMk
 clear hk1
 go_enter Tryz.func15,Tryz.ntmps15
 go_wp2_with fail
 generalize hV : (w.alloc _ : World) = V
 have HB : Hid (Below w.heap.size w V) := by show Below _ _ _; subst hV; exact Qb
 have HBk : Hid (Blk V w.heap.size [.int .i64 c, .bool tk, .slice a1 m c1, .int .i64 z, .int .i64 x, .int .i64 y, .int .i64 wd, .int .i64 ht, .int .i64 now, .int .i64 s, .slice a2 n c2, .slice a3 rn c3, .int .i64 bad]) := by show Blk _ _ _; subst hV; exact Blk.new _ _ _
 clear hV
 refine Calls.mono (HT.out V HB.out) ?_
 rintro e w1 ⟨rfl,hM1,hO1⟩
 have hBk1 : Blk w1 w.heap.size [.int .i64 c, .bool tk, .slice a1 m c1, .int .i64 z, .int .i64 x, .int .i64 y, .int .i64 wd, .int .i64 ht, .int .i64 now, .int .i64 s, .slice a2 n c2, .slice a3 rn c3, .int .i64 bad] := fun i u hi' => ⟨hM1.cell (HBk.out i u hi').1 (.inr (by omega)),(World.frozen?_of_block (a := ⟨w.heap.size,i,none⟩) (hM1.block w.heap.size HBk.out.lt (.inr (by omega)))).trans (HBk.out i u hi').2⟩
 have v0 := hBk1.cell 0 rfl
 have v1 := hBk1.cell 1 rfl
 have v2 := hBk1.cell 2 rfl
 have v3 := hBk1.cell 3 rfl
 have v4 := hBk1.cell 4 rfl
 have v5 := hBk1.cell 5 rfl
 have v6 := hBk1.cell 6 rfl
 have v7 := hBk1.cell 7 rfl
 have v8 := hBk1.cell 8 rfl
 have v9 := hBk1.cell 9 rfl
 have v10 := hBk1.cell 10 rfl
 have v11 := hBk1.cell 11 rfl
 have v12 := hBk1.cell 12 rfl
 have hMw1 : MidB lo l w w1 := (MidB.of_below HB.out).trans hM1
 have HM1 : Hid (MidB lo hi w w1) := hMw1.wide (Nat.le_refl _) (by omega)
 have HO1 : Hid (OwT lo l w1 a1 m (mkR 1)) := hO1
 have HMv1 := (show Hid _ from HMv.out w1 (HW.out.1.midV hMw1 (.inl (Nat.le_refl _))) (HW.out.2.mid hMw1 (.inl h2)) (Nat.le_trans h4 hMw1.size))
 clear hM1 hO1 hBk1 hMw1 HT HMv HBk HB HW
 go_wp2_with fail
 refine Calls.mono HMv1.out ?_
 rintro e w2 ⟨rfl,hC2,hO2,hM2⟩
 have HM2 : Hid (MidB lo hi w w2) := HM1.out.trans (hM2.wide h1 (Nat.le_refl _))
 have HF : Hid (MkVa w2 ⟨c,tk,m,R,z,x,y,wd,ht,now,s,n,K,rn,E,bad⟩ ⟨a1,c1,a2,c2,KR,a3,c3⟩) := by
  refine (HMk.out w2).2 ⟨(HO1.out.mid hM2 (.inr (Nat.le_refl _))).is ?_,⟨l,h,hC2⟩,hO2.is ?_,HSm.out⟩
  ·have := HM2.out.size; omega
  ·have := HM2.out.size; omega
 clear v0
 clear v1
 clear v2
 clear v3
 clear v4
 clear v5
 clear v6
 clear v7
 clear v8
 clear v9
 clear v10
 clear v11
 clear v12
 clear hC2 hO2 hM2 HMv1 HM1 HO1 HMk
 go_wp2
 go_ret
 exact ⟨rfl,HF.out,HM2.out⟩
theorem heldKeptS_at (k0 : Nat) (B hi : Nat) (a : Option Addr) (n cap : Nat) (R : Nat → Kp) (w : World) (h : CrN k0 w B hi a n R) (hs : SmallKs n R) (h0 : 0 < k0) (hk0 : k0 ≤ 1000000000) : Calls Tryz.prog 132 #[.slice a n cap, .int .i64 (k0 : Int)] w fun e w' => e = .returned (.int .i64 ((kK R k0 n : Nat) : Int)) ∧ Below w.heap.size w w' := by
 rcases h with rfl | ⟨g,M,rfl,hB,hK,hMn⟩
 ·refine (heldKeptS_zero a k0 cap w).mono ?_
  rintro e w' ⟨rfl,rfl⟩
  exact ⟨rfl,Below.refl _ _⟩
 ·exact heldKeptS_any g n cap k0 R M w hK hs h0 hk0
theorem heldVa (v : Va) (u : Vm) (w : World) (h : MkVa w v u) (hs : SmVa v) :
  Calls Tryz.prog 16 #[vaV v u, .int .i64 1] w fun e w' => e = .returned (.int .i64 ((qVa v u : Nat) : Int)) ∧ Below w.heap.size w w' := by
 obtain ⟨h1,⟨l,hh,h2⟩,h3,h4⟩ := h
 obtain ⟨s1,s2,s3,s4⟩ := hs
 have hkk := kK_viewer h4 (show 1 + 3 * v.m ≤ 4000000 by omega) s2
 have H1 : Hid (∀ W,Below w.heap.size w W → Calls Tryz.prog 47 #[.slice u.a1 v.m u.c1, .int .i64 1] W fun e w' => e = .returned (.int .i64 ((1 + 3 * v.m : Nat) : Int)) ∧ Below W.heap.size W w') := fun W h => heldRefS_any u.a1 v.m u.c1 1 W (h1.below h) s1 (by omega)
 have H2 : Hid (∀ W,Below w.heap.size w W → Calls Tryz.prog 132 #[.slice u.a2 v.n u.c2, .int .i64 ((1 + 3 * v.m : Nat) : Int)] W fun e w' => e = .returned (.int .i64 ((kK u.KR (1 + 3 * v.m) v.n : Nat) : Int)) ∧ Below W.heap.size W w') := fun W h => heldKeptS_at (1 + 3 * v.m) l hh u.a2 v.n u.c2 u.KR W (h2.below h) h4 (by omega) (by omega)
 have H3 : Hid (∀ W,Below w.heap.size w W → Calls Tryz.prog 85 #[.slice u.a3 v.rn u.c3, .int .i64 ((kK u.KR (1 + 3 * v.m) v.n : Nat) : Int)] W fun e w' => e = .returned (.int .i64 ((qVa v u : Nat) : Int)) ∧ Below W.heap.size W w') := fun W h => heldRequestS_any u.a3 v.rn u.c3 _ W (h3.below h) s4 (by omega)
 clear h1 h2 h3 h4 s3
 obtain ⟨c,tk,m,R,z,x,y,wd,ht,now,s,n,K,rn,E,bad⟩ := v
 obtain ⟨a1,c1,a2,c2,KR,a3,c3⟩ := u
 dsimp only at *
 have hn1 : ¬ ((1 + 3 * m : Nat) : Int) < 0 := by omega
 have hn2 : ¬ ((kK KR (1 + 3 * m) n : Nat) : Int) < 0 := by omega
 have hn3 : ¬ ((qVa ⟨c,tk,m,R,z,x,y,wd,ht,now,s,n,K,rn,E,bad⟩ ⟨a1,c1,a2,c2,KR,a3,c3⟩ : Nat) : Int) < 0 := by omega
 generalize ((qVa ⟨c,tk,m,R,z,x,y,wd,ht,now,s,n,K,rn,E,bad⟩ ⟨a1,c1,a2,c2,KR,a3,c3⟩ : Nat) : Int) = k3 at *
 generalize ((kK KR (1 + 3 * m) n : Nat) : Int) = k2 at *
 generalize ((1 + 3 * m : Nat) : Int) = k1 at *
 clear hkk s1 s2 s4
 have HCa : Hid (∀ W,Below w.heap.size w W → Calls Tryz.prog 84 #[caV s (.slice a2 n c2), .int .i64 k1] W fun e w' => e = .returned (.int .i64 k2) ∧ Below W.heap.size W w') := fun W hW => by
  have H2' := H2.out
  have H2'' : Hid (∀ U,Below W.heap.size W U → Calls Tryz.prog 132 #[.slice a2 n c2, .int .i64 k1] U fun e w' => e = .returned (.int .i64 k2) ∧ Below U.heap.size U w') := fun U hu => H2' U (bl_then hW hu)
  clear H1 H2 H3 H2'
  go_enter Tryz.func84,Tryz.ntmps84
  go_wp2_with fail
  generalize hU : (W.alloc _ : World) = U
  have HB : Hid (Below W.heap.size W U) := by show Below _ _ _; subst hU; exact Qb
  clear hU
  refine Calls.mono (H2''.out U HB.out) ?_
  rintro e w1 ⟨rfl,h2⟩
  have HF : Hid (Below W.heap.size W w1) := bl_then HB.out h2
  clear h2
  go_wp2
  go_ret
  exact ⟨rfl,HF.out⟩
 have HVw : Hid (∀ W,Below w.heap.size w W → Calls Tryz.prog 48 #[vwV z x y wd ht now s (.slice a2 n c2) (.slice a3 rn c3) bad, .int .i64 k1] W fun e w' => e = .returned (.int .i64 k3) ∧ Below W.heap.size W w') := fun W hW => by
  have HWw : Hid (Below w.heap.size w W) := hW
  clear H1 H2 hW
  go_enter Tryz.func48,Tryz.ntmps48
  go_wp2_with fail
  generalize hU : (W.alloc _ : World) = U
  have HB : Hid (Below W.heap.size W U) := by show Below _ _ _; subst hU; exact Qb
  have HBk : Hid (Blk U W.heap.size [.int .i64 z, .int .i64 x, .int .i64 y, .int .i64 wd, .int .i64 ht, .int .i64 now, .int .i64 s, .slice a2 n c2, .slice a3 rn c3, .int .i64 bad]) := by show Blk _ _ _; subst hU; exact Blk.new _ _ _
  clear hU
  refine Calls.mono (HCa.out U (bl_then HWw.out HB.out)) ?_
  rintro e w1 ⟨rfl,hb1⟩
  have HB1 : Hid (Below W.heap.size W w1) := bl_then HB.out hb1
  have c8 := (HBk.out.below HBk.out.lt hb1).cell 8 rfl
  clear hb1 HBk HB
  have HQ := (show Hid _ from H3.out w1 (bl_then HWw.out HB1.out))
  go_wp2_with fail
  refine Calls.mono HQ.out ?_
  rintro e w2 ⟨rfl,hb2⟩
  have HB2 : Hid (Below W.heap.size W w2) := bl_then HB1.out hb2
  clear hb2
  go_wp2
  go_ret
  exact ⟨rfl,HB2.out⟩
 clear H2 H3 HCa
 go_enter Tryz.func16,Tryz.ntmps16
 go_wp2_with fail
 generalize hU : (w.alloc _ : World) = U
 have HB : Hid (Below w.heap.size w U) := by show Below _ _ _; subst hU; exact Qb
 have HBk : Hid (Blk U w.heap.size [.int .i64 c, .bool tk, .slice a1 m c1, .int .i64 z, .int .i64 x, .int .i64 y, .int .i64 wd, .int .i64 ht, .int .i64 now, .int .i64 s, .slice a2 n c2, .slice a3 rn c3, .int .i64 bad]) := by show Blk _ _ _; subst hU; exact Blk.new _ _ _
 clear hU
 refine Calls.mono (H1.out U HB.out) ?_
 rintro e w1 ⟨rfl,hb1⟩
 have HB1 : Hid (Below w.heap.size w w1) := bl_then HB.out hb1
 have hBk1 := HBk.out.below HBk.out.lt hb1
 have v0 := hBk1.cell 0 rfl
 have v1 := hBk1.cell 1 rfl
 have v2 := hBk1.cell 2 rfl
 have v3 := hBk1.cell 3 rfl
 have v4 := hBk1.cell 4 rfl
 have v5 := hBk1.cell 5 rfl
 have v6 := hBk1.cell 6 rfl
 have v7 := hBk1.cell 7 rfl
 have v8 := hBk1.cell 8 rfl
 have v9 := hBk1.cell 9 rfl
 have v10 := hBk1.cell 10 rfl
 have v11 := hBk1.cell 11 rfl
 have v12 := hBk1.cell 12 rfl
 clear hb1 HBk HB hBk1
 have HQ := (show Hid _ from HVw.out w1 HB1.out)
 go_wp2_with fail
 refine Calls.mono HQ.out ?_
 rintro e w2 ⟨rfl,hb2⟩
 have HB2 : Hid (Below w.heap.size w w2) := bl_then HB1.out hb2
 clear v0
 clear v1
 clear v2
 clear v3
 clear v4
 clear v5
 clear v6
 clear v7
 clear v8
 clear v9
 clear v10
 clear v11
 clear v12
 clear hb2
 go_wp2
 go_ret
 exact ⟨rfl,HB2.out⟩
end Go.Proofs.YtiephlohemphjaaGreat
