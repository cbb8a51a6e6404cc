/- Texts. -/
import Derived.Test.YtiephlohemphjaaGreatVTickViewer45
set_option linter.unusedSimpArgs false
set_option linter.unusedVariables false
set_option maxRecDepth 100000
set_option maxHeartbeats 32000000
namespace Go.Proofs.YtiephlohemphjaaGreat
open Go.RowKit
structure Va where
 c : Int
 tk : Bool
 m : Nat
 R : Rfs
 z : Int
 x : Int
 y : Int
 wd : Int
 ht : Int
 now : Int
 s : Int
 n : Nat
 K : Nat → Kp
 rn : Nat
 E : Nat → Req
 bad : Int
structure Vm where
 a1 : Option Addr
 c1 : Nat
 a2 : Option Addr
 c2 : Nat
 KR : Nat → Kp
 a3 : Option Addr
 c3 : Nat
abbrev vaV (v : Va) (u : Vm) : Value := .agg #[.int .i64 v.c, .bool v.tk, .slice u.a1 v.m u.c1, .int .i64 v.z, .int .i64 v.x, .int .i64 v.y, .int .i64 v.wd, .int .i64 v.ht, .int .i64 v.now, .int .i64 v.s, .slice u.a2 v.n u.c2, .slice u.a3 v.rn u.c3, .int .i64 v.bad]
abbrev vaL (v : Va) (u : Vm) : List Value := [.int .i64 v.c, .bool v.tk, .slice u.a1 v.m u.c1, .int .i64 v.z, .int .i64 v.x, .int .i64 v.y, .int .i64 v.wd, .int .i64 v.ht, .int .i64 v.now, .int .i64 v.s, .slice u.a2 v.n u.c2, .slice u.a3 v.rn u.c3, .int .i64 v.bad]
def SmVa (v : Va) : Prop := v.m ≤ 1048576 ∧ v.n ≤ 100 ∧ SmallKs v.n v.K ∧ v.rn ≤ 1048576
def IsVa (w : World) (v : Va) (u : Vm) : Prop := IsRs w u.a1 v.m v.R ∧ KsSm w u.a2 v.n v.K u.KR ∧ IsWs w u.a3 v.rn v.E
theorem IsVa.below {w w' : World} {v : Va} {u : Vm} (h : IsVa w v u) (hb : Below w.heap.size w w') : IsVa w' v u := ⟨h.1.below hb,h.2.1.below hb,h.2.2.below hb⟩
def UnVa (T : Nat) (w : World) (v : Va) (u : Vm) : Prop := ∃ W,T = W.heap.size ∧ IsVa W v u ∧ Below T W w
theorem UnVa.below {T : Nat} {w w' : World} {v : Va} {u : Vm} (h : UnVa T w v u) (hb : Below T w w') : UnVa T w' v u := by
 obtain ⟨W,e,h1,h2⟩ := h
 exact ⟨W,e,h1,h2.trans hb⟩
theorem UnVa.is {T : Nat} {w : World} {v : Va} {u : Vm} (h : UnVa T w v u) : IsVa w v u := by
 obtain ⟨W,e,h1,h2⟩ := h
 subst e
 exact h1.below h2
theorem IsVa.un {w : World} {v : Va} {u : Vm} (h : IsVa w v u) : UnVa w.heap.size w v u := ⟨w,rfl,h,Below.refl _ _⟩
def OwT (lo hi : Nat) (w : World) (a : Option Addr) (m : Nat) (R : Rfs) : Prop := m = 0 ∨ ∃ b,a = some ⟨b,0,none⟩ ∧ lo ≤ b ∧ b < hi ∧ RsAt w b 0 m R ∧ There w b (m * 3)
def OwR (lo hi : Nat) (w : World) (a : Option Addr) (n : Nat) (E : Nat → Req) : Prop := n = 0 ∨ ∃ b,a = some ⟨b,0,none⟩ ∧ lo ≤ b ∧ b < hi ∧ WsAt w b 0 n E ∧ There w b (n * 5)
theorem OwT.mid {lo hi l h : Nat} {w w' : World} {a : Option Addr} {m : Nat} {R : Rfs} (hO : OwT lo hi w a m R) (hM : MidB l h w w') (ho : h ≤ lo ∨ hi ≤ l) : OwT lo hi w' a m R :=
 hO.imp id fun ⟨b,e,h1,h2,h3,h4⟩ => ⟨b,e,h1,h2,h3.mid hM (by omega),hM.there h4 (by omega)⟩
theorem OwR.mid {lo hi l h : Nat} {w w' : World} {a : Option Addr} {n : Nat} {E : Nat → Req} (hO : OwR lo hi w a n E) (hM : MidB l h w w') (ho : h ≤ lo ∨ hi ≤ l) : OwR lo hi w' a n E :=
 hO.imp id fun ⟨b,e,h1,h2,h3,h4⟩ => ⟨b,e,h1,h2,h3.mid hM (by omega),hM.there h4 (by omega)⟩
theorem OwT.wide {lo hi lo' hi' : Nat} {w : World} {a : Option Addr} {m : Nat} {R : Rfs} (h : OwT lo hi w a m R) (h1 : lo' ≤ lo) (h2 : hi ≤ hi') : OwT lo' hi' w a m R :=
 h.imp id fun ⟨b,e,h3,h4,h5⟩ => ⟨b,e,by omega,by omega,h5⟩
theorem OwR.wide {lo hi lo' hi' : Nat} {w : World} {a : Option Addr} {n : Nat} {E : Nat → Req} (h : OwR lo hi w a n E) (h1 : lo' ≤ lo) (h2 : hi ≤ hi') : OwR lo' hi' w a n E :=
 h.imp id fun ⟨b,e,h3,h4,h5⟩ => ⟨b,e,by omega,by omega,h5⟩
theorem OwT.is {lo hi : Nat} {w : World} {a : Option Addr} {m : Nat} {R : Rfs} (h : OwT lo hi w a m R) (hh : hi ≤ w.heap.size) : IsRs w a m R :=
 h.imp id fun ⟨b,e,_,h2,h3,_⟩ => ⟨b,0,e,by omega,h3⟩
theorem OwR.is {lo hi : Nat} {w : World} {a : Option Addr} {n : Nat} {E : Nat → Req} (h : OwR lo hi w a n E) (hh : hi ≤ w.heap.size) : IsWs w a n E :=
 h.imp id fun ⟨b,e,_,h2,h3,_⟩ => ⟨b,0,e,by omega,h3⟩
theorem OwnT.ow {base c : Nat} {w : World} {a : Option Addr} {m : Nat} {R : Rfs} (h : OwnT w base (.slice a m c) m R) : OwT base w.heap.size w a m R := by
 obtain ⟨a',c',hv,_,h0 | ⟨b,e,h1,h2,h3,h4⟩⟩ := h
 ·exact .inl h0
 ·injection hv with hv
  exact .inr ⟨b,hv.trans e,h1,h2,h3,h4⟩
theorem OwnW.ow {base c : Nat} {w : World} {a : Option Addr} {n : Nat} {E : Nat → Req} (h : OwnW w base (.slice a n c) n E) : OwR base w.heap.size w a n E := by
 obtain ⟨a',c',hv,_,h0 | ⟨b,e,h1,h2,h3,h4⟩⟩ := h
 ·exact .inl h0
 ·injection hv with hv
  exact .inr ⟨b,hv.trans e,h1,h2,h3,h4⟩
def OwVa (lo hi : Nat) (w : World) (v : Va) (u : Vm) : Prop :=
 ∃ l h,lo ≤ l ∧ l ≤ h ∧ h ≤ hi ∧ hi ≤ w.heap.size ∧ OwT lo l w u.a1 v.m v.R ∧ CaNew w l u.a2 v.n v.K u.KR ∧ CrW w l h u.a2 v.n u.KR ∧ OwR h hi w u.a3 v.rn v.E
theorem OwVa.is {lo hi : Nat} {w : World} {v : Va} {u : Vm} (h : OwVa lo hi w v u) : IsVa w v u := by
 obtain ⟨l,q,h1,h2,h3,h4,h5,h6,_,h7⟩ := h
 exact ⟨h5.is (by omega),h6.sm,h7.is h4⟩
theorem OwVa.mid {lo hi l' h' : Nat} {w w' : World} {v : Va} {u : Vm} (h : OwVa lo hi w v u) (hM : MidB l' h' w w') (ho : h' ≤ lo) : OwVa lo hi w' v u := by
 obtain ⟨l,q,h1,h2,h3,h4,h5,h6,h8,h7⟩ := h
 exact ⟨l,q,h1,h2,h3,Nat.le_trans h4 hM.size,h5.mid hM (.inl ho),h6.mid hM (by omega),h8.mid hM (by omega),h7.mid hM (.inl (by omega))⟩
theorem OwVa.below {lo hi : Nat} {w w' : World} {v : Va} {u : Vm} (h : OwVa lo hi w v u) (hb : Below w.heap.size w w') : OwVa lo hi w' v u := h.mid (MidB.of_below (lo := 0) (hi := 0) hb) (Nat.zero_le _)
theorem OwVa.lower {lo lo' hi : Nat} {w : World} {v : Va} {u : Vm} (h : OwVa lo hi w v u) (hl : lo' ≤ lo) : OwVa lo' hi w v u := by
 obtain ⟨l,q,h1,h2,h3,h4,h5,h6⟩ := h
 exact ⟨l,q,by omega,h2,h3,h4,h5.wide hl (Nat.le_refl _),h6⟩
theorem eqViewerSm_any (v : Va) (u t : Vm) (w : World) (hu : IsVa w v u) (ht : IsVa w v t) (hs : SmVa v) :
  Calls Tryz.prog 13 #[vwV v.z v.x v.y v.wd v.ht v.now v.s (.slice u.a2 v.n u.c2) (.slice u.a3 v.rn u.c3) v.bad,vwV v.z v.x v.y v.wd v.ht v.now v.s (.slice t.a2 v.n t.c2) (.slice t.a3 v.rn t.c3) v.bad] w fun e w' => e = .returned (.bool true) ∧ Below w.heap.size w w' := by
 obtain ⟨_,hu2,hu3⟩ := hu
 obtain ⟨_,ht2,ht3⟩ := ht
 obtain ⟨_,_,hs2,hs3⟩ := hs
 obtain ⟨c,tk,m,R,z,x,y,wd,ht,now,s,n,K,rn,E,bad⟩ := v
 obtain ⟨a1,c1,a2,c2,KR,a3,c3⟩ := u
 obtain ⟨d1,e1,d2,e2,KT,d3,e3⟩ := t
 dsimp only at *
 have HU2 : Hid (KsSm w a2 n K KR) := hu2
 have HT2 : Hid (KsSm w d2 n K KT) := ht2
 have HU3 : Hid (IsWs w a3 rn E) := hu3
 have HT3 : Hid (IsWs w d3 rn E) := ht3
 have HS : Hid (SmallKs n K) := hs2
 clear hu2 ht2 hu3 ht3 hs2
 go_enter Tryz.func13,Tryz.ntmps13
 go_wp2_with fail
 generalize hW : ((w.alloc _).alloc _ : World) = W
 have HB0 : Hid (Below w.heap.size w W) := by show Below _ _ _; subst hW; exact Qb
 have HV : Hid (Blk W w.heap.size [.int .i64 z, .int .i64 x, .int .i64 y, .int .i64 wd, .int .i64 ht, .int .i64 now, .int .i64 s, .slice a2 n c2, .slice a3 rn c3, .int .i64 bad]) := by show Blk _ _ _; subst hW; exact (Blk.new w _ _).alloc (by simp) _
 have HU : Hid (Blk W (w.heap.size + 1) [.int .i64 z, .int .i64 x, .int .i64 y, .int .i64 wd, .int .i64 ht, .int .i64 now, .int .i64 s, .slice d2 n e2, .slice d3 rn e3, .int .i64 bad]) := by
  show Blk _ _ _; subst hW
  have := Blk.new (w.alloc (.cells #[.int .i64 z, .int .i64 x, .int .i64 y, .int .i64 wd, .int .i64 ht, .int .i64 now, .int .i64 s, .slice a2 n c2, .slice a3 rn c3, .int .i64 bad] 38)) [.int .i64 z, .int .i64 x, .int .i64 y, .int .i64 wd, .int .i64 ht, .int .i64 now, .int .i64 s, .slice d2 n e2, .slice d3 rn e3, .int .i64 bad] 38
  simpa using this
 clear hW
 refine (eqCamera_any z x y wd ht W).mono ?_
 rintro e w1 ⟨rfl,hb1⟩
 have HB1 : Hid (Below w.heap.size w w1) := bl_then HB0.out hb1
 have HV1 : Hid (∀ W',Below w1.heap.size w1 W' → Blk W' w.heap.size [.int .i64 z, .int .i64 x, .int .i64 y, .int .i64 wd, .int .i64 ht, .int .i64 now, .int .i64 s, .slice a2 n c2, .slice a3 rn c3, .int .i64 bad]) := fun W' h => HV.out.below HV.out.lt (bl_then hb1 h)
 have HU1 : Hid (∀ W',Below w1.heap.size w1 W' → Blk W' (w.heap.size + 1) [.int .i64 z, .int .i64 x, .int .i64 y, .int .i64 wd, .int .i64 ht, .int .i64 now, .int .i64 s, .slice d2 n e2, .slice d3 rn e3, .int .i64 bad]) := fun W' h => HU.out.below HU.out.lt (bl_then hb1 h)
 have hv := HV1.out w1 (Below.refl _ _)
 have hu := HU1.out w1 (Below.refl _ _)
 have v0 := hv.cell 0 rfl
 have v1 := hv.cell 1 rfl
 have v2 := hv.cell 2 rfl
 have v3 := hv.cell 3 rfl
 have v4 := hv.cell 4 rfl
 have v5 := hv.cell 5 rfl
 have v6 := hv.cell 6 rfl
 have v7 := hv.cell 7 rfl
 have v8 := hv.cell 8 rfl
 have v9 := hv.cell 9 rfl
 have u0 := hu.cell 0 rfl
 have u1 := hu.cell 1 rfl
 have u2 := hu.cell 2 rfl
 have u3 := hu.cell 3 rfl
 have u4 := hu.cell 4 rfl
 have u5 := hu.cell 5 rfl
 have u6 := hu.cell 6 rfl
 have u7 := hu.cell 7 rfl
 have u8 := hu.cell 8 rfl
 have u9 := hu.cell 9 rfl
 clear hb1 HB0 HV HU hv hu
 have HQ := (show Hid _ from eqCacheSm_any s a2 d2 n c2 e2 K KR KT w1 (HU2.out.below HB1.out) (HT2.out.below HB1.out) HS.out)
 go_wp2_with fail
 refine Calls.mono HQ.out ?_
 rintro e w2 ⟨rfl,hb2⟩
 have HB2 : Hid (Below w.heap.size w w2) := bl_then HB1.out hb2
 clear v0 u0
 clear v1 u1
 clear v2 u2
 clear v3 u3
 clear v4 u4
 clear v5 u5
 clear v6 u6
 clear v7 u7
 clear v8 u8
 clear v9 u9
 have hv := HV1.out w2 hb2
 have hu := HU1.out w2 hb2
 have v0 := hv.cell 0 rfl
 have v1 := hv.cell 1 rfl
 have v2 := hv.cell 2 rfl
 have v3 := hv.cell 3 rfl
 have v4 := hv.cell 4 rfl
 have v5 := hv.cell 5 rfl
 have v6 := hv.cell 6 rfl
 have v7 := hv.cell 7 rfl
 have v8 := hv.cell 8 rfl
 have v9 := hv.cell 9 rfl
 have u0 := hu.cell 0 rfl
 have u1 := hu.cell 1 rfl
 have u2 := hu.cell 2 rfl
 have u3 := hu.cell 3 rfl
 have u4 := hu.cell 4 rfl
 have u5 := hu.cell 5 rfl
 have u6 := hu.cell 6 rfl
 have u7 := hu.cell 7 rfl
 have u8 := hu.cell 8 rfl
 have u9 := hu.cell 9 rfl
 have HV2 : Hid (∀ W',Below w2.heap.size w2 W' → Blk W' w.heap.size [.int .i64 z, .int .i64 x, .int .i64 y, .int .i64 wd, .int .i64 ht, .int .i64 now, .int .i64 s, .slice a2 n c2, .slice a3 rn c3, .int .i64 bad]) := fun W' h => HV1.out W' (bl_then hb2 h)
 have HU2' : Hid (∀ W',Below w2.heap.size w2 W' → Blk W' (w.heap.size + 1) [.int .i64 z, .int .i64 x, .int .i64 y, .int .i64 wd, .int .i64 ht, .int .i64 now, .int .i64 s, .slice d2 n e2, .slice d3 rn e3, .int .i64 bad]) := fun W' h => HU1.out W' (bl_then hb2 h)
 clear hv hu hb2 HQ HB1 HV1 HU1
 have HQ := (show Hid _ from eqRequestS_any a3 d3 rn c3 e3 E w2 (HU3.out.below HB2.out) (HT3.out.below HB2.out) hs3)
 go_wp2_with fail
 refine Calls.mono HQ.out ?_
 rintro e w3 ⟨rfl,hb3⟩
 have HB3 : Hid (Below w.heap.size w w3) := bl_then HB2.out hb3
 clear v0 u0
 clear v1 u1
 clear v2 u2
 clear v3 u3
 clear v4 u4
 clear v5 u5
 clear v6 u6
 clear v7 u7
 clear v8 u8
 clear v9 u9
 have v9 := (HV2.out w3 hb3).cell 9 rfl
 have u9 := (HU2'.out w3 hb3).cell 9 rfl
 clear hb3 HQ HB2 HV2 HU2'
 go_wp2
 go_ret
 exact ⟨rfl,HB3.out⟩
theorem eqVa (v : Va) (u t : Vm) (w : World) (hu : IsVa w v u) (ht : IsVa w v t) (hs : SmVa v) :
  Calls Tryz.prog 12 #[vaV v u,vaV v t] w fun e w' => e = .returned (.bool true) ∧ Below w.heap.size w w' := by
 have HE : Hid (∀ W,Below w.heap.size w W → Calls Tryz.prog 13 #[vwV v.z v.x v.y v.wd v.ht v.now v.s (.slice u.a2 v.n u.c2) (.slice u.a3 v.rn u.c3) v.bad,vwV v.z v.x v.y v.wd v.ht v.now v.s (.slice t.a2 v.n t.c2) (.slice t.a3 v.rn t.c3) v.bad] W fun e w' => e = .returned (.bool true) ∧ Below W.heap.size W w') := fun W h => eqViewerSm_any v u t W (hu.below h) (ht.below h) hs
 have HS : Hid (∀ W,Below w.heap.size w W → Calls Tryz.prog 40 #[.slice u.a1 v.m u.c1, .slice t.a1 v.m t.c1] W fun e w' => e = .returned (.bool true) ∧ Below W.heap.size W w') := fun W h => eqRefS_any _ _ _ _ _ v.R _ (hu.1.below h) (ht.1.below h) hs.1
 clear hu ht hs
 obtain ⟨c,tk,m,R,z,x,y,wd,ht,now,s,n,K,rn,E,bad⟩ := v
 obtain ⟨a1,c1,a2,c2,KR,a3,c3⟩ := u
 obtain ⟨d1,e1,d2,e2,KT,d3,e3⟩ := t
 dsimp only at HE HS
 go_enter Tryz.func12,Tryz.ntmps12
 go_wp2_with fail
 generalize hW : ((w.alloc _).alloc _ : World) = W
 have HB0 : Hid (Below w.heap.size w W) := by show Below _ _ _; subst hW; exact Qb
 have HV : Hid (Blk W w.heap.size (vaL ⟨c,tk,m,R,z,x,y,wd,ht,now,s,n,K,rn,E,bad⟩ ⟨a1,c1,a2,c2,KR,a3,c3⟩)) := by show Blk _ _ _; subst hW; exact (Blk.new w _ _).alloc (by simp) _
 have HU : Hid (Blk W (w.heap.size + 1) (vaL ⟨c,tk,m,R,z,x,y,wd,ht,now,s,n,K,rn,E,bad⟩ ⟨d1,e1,d2,e2,KT,d3,e3⟩)) := by
  show Blk _ _ _; subst hW
  have := Blk.new (w.alloc (.cells #[.int .i64 c, .bool tk, .slice a1 m c1, .int .i64 z, .int .i64 x, .int .i64 y, .int .i64 wd, .int .i64 ht, .int .i64 now, .int .i64 s, .slice a2 n c2, .slice a3 rn c3, .int .i64 bad] 40)) [.int .i64 c, .bool tk, .slice d1 m e1, .int .i64 z, .int .i64 x, .int .i64 y, .int .i64 wd, .int .i64 ht, .int .i64 now, .int .i64 s, .slice d2 n e2, .slice d3 rn e3, .int .i64 bad] 40
  simpa using this
 clear hW
 have htk : (tk != tk) = false := by cases tk <;> rfl
 refine Calls.mono (HS.out W HB0.out) ?_
 rintro e w1 ⟨rfl,hb1⟩
 have HB1 : Hid (Below w.heap.size w w1) := bl_then HB0.out hb1
 have hv := HV.out.below HV.out.lt hb1
 have hu := HU.out.below HU.out.lt hb1
 have v0 := hv.cell 0 rfl
 have v1 := hv.cell 1 rfl
 have v2 := hv.cell 2 rfl
 have v3 := hv.cell 3 rfl
 have v4 := hv.cell 4 rfl
 have v5 := hv.cell 5 rfl
 have v6 := hv.cell 6 rfl
 have v7 := hv.cell 7 rfl
 have v8 := hv.cell 8 rfl
 have v9 := hv.cell 9 rfl
 have v10 := hv.cell 10 rfl
 have v11 := hv.cell 11 rfl
 have v12 := hv.cell 12 rfl
 have u0 := hu.cell 0 rfl
 have u1 := hu.cell 1 rfl
 have u2 := hu.cell 2 rfl
 have u3 := hu.cell 3 rfl
 have u4 := hu.cell 4 rfl
 have u5 := hu.cell 5 rfl
 have u6 := hu.cell 6 rfl
 have u7 := hu.cell 7 rfl
 have u8 := hu.cell 8 rfl
 have u9 := hu.cell 9 rfl
 have u10 := hu.cell 10 rfl
 have u11 := hu.cell 11 rfl
 have u12 := hu.cell 12 rfl
 clear hb1 HB0 HV HU hv hu
 have HQ := (show Hid _ from HE.out w1 HB1.out)
 go_wp2_with fail
 refine Calls.mono HQ.out ?_
 rintro e w2 ⟨rfl,hb2⟩
 have HB2 : Hid (Below w.heap.size w w2) := bl_then HB1.out hb2
 clear v0 u0
 clear v1 u1
 clear v2 u2
 clear v3 u3
 clear v4 u4
 clear v5 u5
 clear v6 u6
 clear v7 u7
 clear v8 u8
 clear v9 u9
 clear v10 u10
 clear v11 u11
 clear v12 u12
 clear hb2
 go_wp2
 go_ret
 exact ⟨rfl,HB2.out⟩
theorem OwnKs.sameK {w : World} {B b n : Nat} {K A : Nat → Kp} (h : OwnKs w B b n K A) {i : Nat} (hi : i < n) : (A i).z = (K i).z ∧ (A i).x = (K i).x ∧ (A i).y = (K i).y ∧ (A i).fn = (K i).fn ∧ (A i).m = (K i).m ∧ (A i).I = (K i).I ∧ ∀ j,j < (A i).fn → ((A i).F j).same ((K i).F j) := by
 obtain ⟨⟨e1,e2,e3⟩,⟨fb,_,e4,_,hF⟩,ib,_,e5,_,e6,_⟩ := (h.2.2 i hi).2
 exact ⟨e1,e2,e3,e4,e5,e6,fun j hj => (hF.2.2.2 j (by omega)).1⟩
theorem CaNew.of_same {w : World} {B : Nat} {a : Option Addr} {n : Nat} {K K' R : Nat → Kp} (h : CaNew w B a n K R) (hs : ∀ i,i < n → (K i).z = (K' i).z ∧ (K i).x = (K' i).x ∧ (K i).y = (K' i).y ∧ (K i).fn = (K' i).fn ∧ (K i).m = (K' i).m ∧ (K i).I = (K' i).I ∧ ∀ j,j < (K i).fn → ((K i).F j).same ((K' i).F j)) : CaNew w B a n K' R := by
 refine h.imp id (fun ⟨g,M,e,hB,hA,hT,hg,hM,hMn⟩ => ⟨g,M,e,hB,fun j hj => ?_,hT,hg,fun j hj => ⟨(hM j hj).1,?_⟩,hMn⟩)
 ·have := hA j hj
  rw [if_pos hj] at this ⊢
  exact this
 ·obtain ⟨_,⟨a1,a2,a3⟩,h2,h3,h4,md,h5,h6,⟨f1,f2,f3⟩,h8⟩ := hM j hj
  obtain ⟨e1,e2,e3,e4,e5,e6,e7⟩ := hs j hj
  refine ⟨⟨a1.trans e1,a2.trans e2,a3.trans e3⟩,h2.trans e4,h3.trans e5,h4.trans e6,md,h5,h6,⟨by rw [← e4]; exact f1,fun i hi => ⟨Feat.same_trans (f2 i (by omega)).1 (e7 i (by omega)),(f2 i (by omega)).2⟩,by rw [← e4]; exact f3⟩,?_⟩
  rw [← e5, ← e6]
  exact h8
end Go.Proofs.YtiephlohemphjaaGreat
