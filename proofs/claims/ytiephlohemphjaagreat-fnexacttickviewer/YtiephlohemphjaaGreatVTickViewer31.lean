/- Texts. -/
import Derived.Test.YtiephlohemphjaaGreatVTickViewer28
set_option linter.unusedSimpArgs false
set_option linter.unusedVariables false
set_option maxRecDepth 100000
set_option maxHeartbeats 32000000
namespace Go.Proofs.YtiephlohemphjaaGreat
open Go.RowKit
def KpSm (w : World) (k r : Kp) : Prop := (r.z = k.z ∧ r.x = k.x ∧ r.y = k.y) ∧ r.fn = k.fn ∧ r.m = k.m ∧ (IsFs w r.fa k.fn r.F ∧ ∀ i,i < k.fn → (r.F i).same (k.F i)) ∧ IsNs w r.ia k.m k.I
theorem KpSm.below {w w' : World} {k r : Kp} (h : KpSm w k r) (hb : Below w.heap.size w w') : KpSm w' k r := by
 obtain ⟨h1,h2,h3,⟨h4,h5⟩,h6⟩ := h
 exact ⟨h1,h2,h3,⟨h4.below hb,h5⟩,h6.below hb⟩
def KsSm (w : World) (a : Option Addr) (n : Nat) (K R : Nat → Kp) : Prop := n = 0 ∨ ∃ g,a = some ⟨g,0,none⟩ ∧ g < w.heap.size ∧ ∀ i,i < n → KpAt w g (i * 5) (R i) ∧ KpSm w (K i) (R i)
theorem KsSm.below {w w' : World} {a : Option Addr} {n : Nat} {K R : Nat → Kp} (h : KsSm w a n K R) (hb : Below w.heap.size w w') : KsSm w' a n K R :=
 h.imp id (fun ⟨g,e,h1,h2⟩ => ⟨g,e,Nat.lt_of_lt_of_le h1 hb.size,fun i hi => ⟨(h2 i hi).1.below hb h1,(h2 i hi).2.below hb⟩⟩)
theorem eqTile_sm (z x y : Int) (a a' : Option Addr) (n cap cap' : Nat) (G H : Nat → Feat) (w : World) (hg : IsFs w a n G) (hh : IsFs w a' n H) (hs : ∀ i,i < n → (G i).same (H i)) (hn : n ≤ 1048576) (hk : ∀ i,i < n → (H i).n ≤ 1048576) :
  Calls Tryz.prog 164 #[.agg #[.int .i64 z, .int .i64 x, .int .i64 y, .slice a n cap], .agg #[.int .i64 z, .int .i64 x, .int .i64 y, .slice a' n cap']] w fun e w' => e = .returned (.bool true) ∧ Below w.heap.size w w' := by
 have HG : Hid (IsFs w a n G) := hg
 have HH : Hid (IsFs w a' n H) := hh
 have HS : Hid (∀ i,i < n → (G i).same (H i)) := hs
 have HK : Hid (∀ i,i < n → (H i).n ≤ 1048576) := hk
 clear hg hh hs hk
 go_enter Tryz.func164,Tryz.ntmps164
 go_wp2_with fail
 generalize hW : ((w.alloc _).alloc _ : World) = W
 have hB : Below w.heap.size w W := by subst hW; exact Qb
 have HB : Hid (Below w.heap.size w W) := hB
 have c0 : W.cell? ⟨w.heap.size,3,none⟩ = some (.slice a n cap) := by subst hW; simp [go_sem]
 have c1 : W.cell? ⟨w.heap.size + 1,3,none⟩ = some (.slice a' n cap') := by subst hW; simp [go_sem]
 clear hW hB
 refine (eqRef_any z x y _).mono ?_
 rintro e w1 ⟨rfl,hb1⟩
 have d0 := bl_cellN hb1 c0
 have d1 := bl_cellN hb1 c1
 have hB1 := bl_then HB.out hb1
 have HB1 : Hid (Below w.heap.size w w1) := hB1
 have HC := eqFs_any a a' n cap cap' G H w1 (HG.out.below hB1) (HH.out.below hB1) HS.out hn HK.out
 clear c0 c1 hb1 hB1
 go_wp2_with fail
 refine Calls.mono HC ?_
 rintro e w2 ⟨rfl,hb2⟩
 go_wp2
 go_ret
 exact ⟨rfl,bl_then HB1.out hb2⟩
theorem eqKeptSm_any (k a c : Kp) (w : World) (ha : KpSm w k a) (hc : KpSm w k c) (hs : SmallK k) :
  Calls Tryz.prog 129 #[kpV a,kpV c] w fun e w' => e = .returned (.bool true) ∧ Below w.heap.size w w' := by
 obtain ⟨⟨e1,e2,e3⟩,e4,e5,⟨hF,hFs⟩,hN⟩ := ha
 obtain ⟨⟨d1,d2,d3⟩,d4,d5,⟨hG,hGs⟩,hM⟩ := hc
 unfold kpV
 rw [e1,e2,e3,e4,e5,d1,d2,d3,d4,d5]
 have HEt : Hid (∀ W,Below w.heap.size w W → Calls Tryz.prog 164 #[.agg #[.int .i64 k.z, .int .i64 k.x, .int .i64 k.y, .slice a.fa k.fn a.fc], .agg #[.int .i64 k.z, .int .i64 k.x, .int .i64 k.y, .slice c.fa k.fn c.fc]] W fun e w' => e = .returned (.bool true) ∧ Below W.heap.size W w') := fun W h =>
  eqTile_sm k.z k.x k.y a.fa c.fa k.fn a.fc c.fc a.F c.F W (hF.below h) (hG.below h) (fun i hi => Feat.same_trans (hFs i hi) (Feat.same_symm (hGs i hi))) hs.1.1 (fun i hi => by rw [(hGs i hi).2.2.2.2.1]; exact (hs.1.2 i hi).1)
 have HN : Hid (IsNs w a.ia k.m k.I) := hN
 have HM : Hid (IsNs w c.ia k.m k.I) := hM
 have hm := hs.2
 clear hF hG hFs hGs hN hM hs e1 e2 e3 e4 e5 d1 d2 d3 d4 d5
 generalize a.fa = afa at *
 generalize c.fa = cfa at *
 generalize a.fc = afc at *
 generalize c.fc = cfc at *
 generalize a.ia = aia at *
 generalize c.ia = cia at *
 generalize a.ic = aic at *
 generalize c.ic = cic at *
 go_enter Tryz.func129,Tryz.ntmps129
 go_wp2_with fail
 generalize hW : ((w.alloc _).alloc _ : World) = W
 have hB0 : Below w.heap.size w W := by subst hW; exact Qb
 have c4 : ∀ W',Below W.heap.size W W' → W'.cell? ⟨w.heap.size,4,none⟩ = some (.slice aia k.m aic) := fun W' h => by rw [h.cell (by subst hW; simp; omega)]; subst hW; simp [go_sem]
 have d4 : ∀ W',Below W.heap.size W W' → W'.cell? ⟨w.heap.size + 1,4,none⟩ = some (.slice cia k.m cic) := fun W' h => by rw [h.cell (by subst hW; simp)]; subst hW; simp [go_sem]
 clear hW
 refine (HEt.out W hB0).mono ?_
 rintro e w1 ⟨rfl,hb1⟩
 have g4 := c4 w1 hb1
 have l4 := d4 w1 hb1
 have hB1 : Below w.heap.size w w1 := bl_then hB0 hb1
 clear c4 d4 hb1 hB0
 go_wp2_with fail
 refine (eqInt64S_any _ _ k.m _ _ k.I _ (HN.out.below hB1) (HM.out.below hB1) hm).mono ?_
 rintro e w2 ⟨rfl,hb2⟩
 have HB2 : Hid (Below w.heap.size w w2) := bl_then hB1 hb2
 clear hb2
 go_wp2
 go_ret
 exact ⟨rfl,HB2.out⟩
theorem eqKeptSSm_any (a' c' : Option Addr) (n ca cc : Nat) (K A H : Nat → Kp) (w : World) (ha : KsSm w a' n K A) (hh : KsSm w c' n K H) (hs : SmallKs n K) :
  Calls Tryz.prog 81 #[.slice a' n ca, .slice c' n cc] w fun e w' => e = .returned (.bool true) ∧ Below w.heap.size w w' := by
 have HA : Hid (KsSm w a' n K A) := ha
 have HH : Hid (KsSm w c' n K H) := hh
 have HS : Hid (SmallKs n K) := hs
 have hn := hs.1
 clear ha hh hs
 go_enter Tryz.func81,Tryz.ntmps81
 go_wp2
 go_loopw [5] (fun i wr => ∃ k : Nat,k ≤ n ∧ i = .int .i64 k ∧ Below w.heap.size w wr) (fun i _ => n - (intOf i).toNat)
 case atStart => exact ⟨0,by omega,rfl,Below.refl _ _⟩
 case round =>
  obtain ⟨k,hk,rfl,hB⟩ := hrel
  by_cases hlt : k < n
  ·rcases HA.out.below hB with h0 | ⟨b,rfl,hbl,hAr⟩
   ·omega
   rcases HH.out.below hB with h0 | ⟨d,rfl,hdl,hHr⟩
   ·omega
   have HAr : Hid (∀ W',Below wr.heap.size wr W' → KpAt W' b (k * 5) (A k) ∧ KpSm W' (K k) (A k)) := fun W' h => ⟨(hAr k hlt).1.below h hbl,(hAr k hlt).2.below h⟩
   have HHr : Hid (∀ W',Below wr.heap.size wr W' → KpAt W' d (k * 5) (H k) ∧ KpSm W' (K k) (H k)) := fun W' h => ⟨(hHr k hlt).1.below h hdl,(hHr k hlt).2.below h⟩
   clear hAr hHr
   have a0 : ∀ W',Below wr.heap.size wr W' → W'.cell? ⟨b,k * 5,none⟩ = some (.int .i64 (A k).z) := fun W' h => (HAr.out W' h).1.1
   have a1 : ∀ W',Below wr.heap.size wr W' → W'.cell? ⟨b,k * 5 + 1,none⟩ = some (.int .i64 (A k).x) := fun W' h => (HAr.out W' h).1.2.1
   have a2 : ∀ W',Below wr.heap.size wr W' → W'.cell? ⟨b,k * 5 + 2,none⟩ = some (.int .i64 (A k).y) := fun W' h => (HAr.out W' h).1.2.2.1
   have a3 : ∀ W',Below wr.heap.size wr W' → W'.cell? ⟨b,k * 5 + 3,none⟩ = some (.slice (A k).fa (A k).fn (A k).fc) := fun W' h => (HAr.out W' h).1.2.2.2.1
   have a4 : ∀ W',Below wr.heap.size wr W' → W'.cell? ⟨b,k * 5 + 4,none⟩ = some (.slice (A k).ia (A k).m (A k).ic) := fun W' h => (HAr.out W' h).1.2.2.2.2
   have h0 : ∀ W',Below wr.heap.size wr W' → W'.cell? ⟨d,k * 5,none⟩ = some (.int .i64 (H k).z) := fun W' h => (HHr.out W' h).1.1
   have h1 : ∀ W',Below wr.heap.size wr W' → W'.cell? ⟨d,k * 5 + 1,none⟩ = some (.int .i64 (H k).x) := fun W' h => (HHr.out W' h).1.2.1
   have h2 : ∀ W',Below wr.heap.size wr W' → W'.cell? ⟨d,k * 5 + 2,none⟩ = some (.int .i64 (H k).y) := fun W' h => (HHr.out W' h).1.2.2.1
   have h3 : ∀ W',Below wr.heap.size wr W' → W'.cell? ⟨d,k * 5 + 3,none⟩ = some (.slice (H k).fa (H k).fn (H k).fc) := fun W' h => (HHr.out W' h).1.2.2.2.1
   have h4 : ∀ W',Below wr.heap.size wr W' → W'.cell? ⟨d,k * 5 + 4,none⟩ = some (.slice (H k).ia (H k).m (H k).ic) := fun W' h => (HHr.out W' h).1.2.2.2.2
   have HEQ : Hid (∀ W',Below wr.heap.size wr W' → Calls Tryz.prog 129 #[kpV (A k),kpV (H k)] W' fun e w' => e = .returned (.bool true) ∧ Below W'.heap.size W' w') := fun W' h => eqKeptSm_any (K k) (A k) (H k) W' (HAr.out W' h).2 (HHr.out W' h).2 (HS.out.2 k hlt)
   have HB : Hid (Below w.heap.size w wr) := hB
   have HLT : Hid (k < n) := hlt
   have hr : Below wr.heap.size wr wr := Below.refl _ _
   clear hB
   have hi : (k : Int) < (n : Int) := by omega
   have hi0 : (0 : Int) ≤ (k : Int) := by omega
   go_wp2
   go_region_held3 (fun W' => Below wr.heap.size wr W') ((repeat (first|exact Qr _ _|assumption|refine Qd ?_|refine Qa ?_ _|refine Qt ?_|refine Qs ?_ _|refine Qo ?_ ?_ _ _)))
    (first
     | (go_at_call 129; refine (HEQ.out _ (by assumption)).mono ?_; rintro e w' ⟨rfl,hb⟩)
     | fail)
   go_wp2
   go_roundw
   case rel => exact ⟨k + 1,by have := HLT.out; omega,by go_num,bl_then HB.out (by assumption)⟩
   case measure => have := HLT.out; simp [intOf]; omega
  ·go_wp2
   go_ret
   exact ⟨rfl,hB⟩
theorem eqCacheSm_any (s : Int) (a c : Option Addr) (n ca cc : Nat) (K A H : Nat → Kp) (w : World) (ha : KsSm w a n K A) (hh : KsSm w c n K H) (hs : SmallKs n K) :
  Calls Tryz.prog 42 #[caV s (.slice a n ca),caV s (.slice c n cc)] w fun e w' => e = .returned (.bool true) ∧ Below w.heap.size w w' := by
 have HA : Hid (KsSm w a n K A) := ha
 have HH : Hid (KsSm w c n K H) := hh
 clear ha hh
 go_enter Tryz.func42,Tryz.ntmps42
 go_wp2_with fail
 generalize hW : ((w.alloc _).alloc _ : World) = W
 have hB0 : Below w.heap.size w W := by subst hW; exact Qb
 clear hW
 refine (eqKeptSSm_any a c n ca cc K A H W (HA.out.below hB0) (HH.out.below hB0) hs).mono ?_
 rintro e w1 ⟨rfl,hb1⟩
 go_wp2
 go_ret
 exact ⟨rfl,bl_then hB0 hb1⟩
theorem le2 (n : Nat) : n ≤ n + 1 + 1 := by omega
abbrev vwV (z x y wd ht now s : Int) (kv rv : Value) (bad : Int) : Value := .agg #[.int .i64 z, .int .i64 x, .int .i64 y, .int .i64 wd, .int .i64 ht, .int .i64 now, .int .i64 s,kv,rv, .int .i64 bad]
def Blk (w : World) (q : Nat) (l : List Value) : Prop := ∀ i v,l[i]? = some v → w.cell? ⟨q,i,none⟩ = some v ∧ w.frozen? ⟨q,i,none⟩ = false
theorem Blk.cell {w : World} {q : Nat} {l : List Value} (h : Blk w q l) (i : Nat) {v : Value} (hi : l[i]? = some v) : w.cell? ⟨q,i,none⟩ = some v := (h i v hi).1
theorem Blk.free {w : World} {q : Nat} {l : List Value} (h : Blk w q l) (i : Nat) {v : Value} (hi : l[i]? = some v) : w.frozen? ⟨q,i,none⟩ = false := (h i v hi).2
theorem Blk.lt {w : World} {q : Nat} {l : List Value} {v : Value} (h : Blk w q (v :: l)) : q < w.heap.size := World.block_lt_of_cell? _ _ (h 0 v rfl).1
theorem Blk.below {w w' : World} {q : Nat} {l : List Value} (h : Blk w q l) (hq : q < w.heap.size) (hb : Below w.heap.size w w') : Blk w' q l := fun i v hi =>
 ⟨(hb.cell (p := ⟨q,i,none⟩) hq).trans (h i v hi).1,(hb.frozen (p := ⟨q,i,none⟩) hq).trans (h i v hi).2⟩
theorem Blk.set {w : World} {q : Nat} {l : List Value} (h : Blk w q l) (j : Nat) (u : Value) : Blk (w.setCell ⟨q,j,none⟩ u) q (l.set j u) := fun i v hi => by
 rw [List.getElem?_set] at hi
 by_cases e : j = i
 ·subst e
  rw [if_pos rfl] at hi
  by_cases hl : j < l.length
  ·rw [if_pos hl] at hi
   injection hi with hi
   subst hi
   have h0 := h j _ (List.getElem?_eq_getElem hl)
   exact ⟨set1_same h0.1,(World.frozen?_setCell _ _ _ _).trans h0.2⟩
  ·rw [if_neg hl] at hi; cases hi
 ·rw [if_neg e] at hi
  have h0 := h i v hi
  exact ⟨by rw [set1_other (fun e' => e (by injection e'))]; exact h0.1,(World.frozen?_setCell _ _ _ _).trans h0.2⟩
theorem Blk.other {w : World} {q r o : Nat} {u : Value} {l : List Value} (h : Blk w q l) (hne : r ≠ q) : Blk (w.setCell ⟨r,o,none⟩ u) q l := fun i v hi =>
 ⟨by rw [set1_other (fun e' => hne (by injection e'))]; exact (h i v hi).1,(World.frozen?_setCell _ _ _ _).trans (h i v hi).2⟩
theorem Blk.new (w : World) (l : List Value) (t : TypeId) : Blk (w.alloc (.cells l.toArray t)) w.heap.size l := fun i v hi =>
 ⟨by rw [World.cell?_alloc_at _ _ _ _ rfl]; simpa using hi,World.frozen?_alloc_at _ _ _ _ rfl⟩
theorem Blk.alloc {w : World} {q : Nat} {l : List Value} (h : Blk w q l) (hq : q < w.heap.size) (o : Obj) : Blk (w.alloc o) q l := h.below hq (bl_alloc (Below.refl _ _) o)
theorem szCache_le (s : Int) (a : Option Addr) (n cap : Nat) (K : Nat → Kp) (w : World) (hk : IsKs w a n K) (hc : CameKs n K) :
  Calls Tryz.prog 26 #[caV s (.slice a n cap), .int .i64 1048576] w fun e w' => (e = .returned (.int .i64 (-1)) ∨ ∃ m : Nat,m ≤ 1048576 ∧ SmallKs n K ∧ e = .returned (.int .i64 m)) ∧ Below w.heap.size w w' := by
 have HK : Hid (IsKs w a n K) := hk
 have HC : Hid (CameKs n K) := hc
 clear hk hc
 go_enter Tryz.func26,Tryz.ntmps26
 go_wp2_with fail
 generalize hW : (w.alloc _ : World) = W
 have hB0 : Below w.heap.size w W := by subst hW; exact Qb
 clear hW
 refine (szKeptS_l a n cap 1048576 K W (by omega) (HK.out.below hB0) HC.out).mono ?_
 rintro e w1 ⟨rfl | ⟨m,hm,hS,rfl⟩,hb1⟩
 ·go_wp2
  go_ret
  exact ⟨.inl rfl,bl_then hB0 hb1⟩
 ·have hneg : ¬ ((m : Nat) : Int) < 0 := by omega
  have HS : Hid (SmallKs n K) := hS
  have HMm : Hid (m ≤ 1048576) := hm
  clear hS
  go_wp2
  go_ret
  exact ⟨.inr ⟨m,HMm.out,HS.out,rfl⟩,bl_then hB0 hb1⟩
theorem szViewer_any (z x y wd ht now s : Int) (a : Option Addr) (n cap : Nat) (K : Nat → Kp) (ra : Option Addr) (rn rc : Nat) (bad : Int) (w : World) (hk : IsKs w a n K) (hc : CameKs n K) (hrm : rn ≤ maxLen) :
  Calls Tryz.prog 8 #[vwV z x y wd ht now s (.slice a n cap) (.slice ra rn rc) bad, .int .i64 1048576] w fun e w' => (e = .returned (.int .i64 (-1)) ∨ ∃ m : Nat,SmallKs n K ∧ rn ≤ 1048576 ∧ e = .returned (.int .i64 m)) ∧ Below w.heap.size w w' := by
 have HK : Hid (IsKs w a n K) := hk
 have HC : Hid (CameKs n K) := hc
 clear hk hc
 go_enter Tryz.func8,Tryz.ntmps8
 go_wp2_with fail
 generalize hW : (w.alloc _ : World) = W
 have HB0 : Hid (Below w.heap.size w W) := by show Below _ _ _; subst hW; exact Qb
 have HV : Hid (Blk W w.heap.size [.int .i64 z, .int .i64 x, .int .i64 y, .int .i64 wd, .int .i64 ht, .int .i64 now, .int .i64 s, .slice a n cap, .slice ra rn rc, .int .i64 bad]) := by show Blk _ _ _; subst hW; exact Blk.new _ _ _
 clear hW
 refine (szCache_le s a n cap K W (HK.out.below HB0.out) HC.out).mono ?_
 rintro e w1 ⟨rfl | ⟨m,hm,hS,rfl⟩,hb1⟩
 ·have HB1 : Hid (Below w.heap.size w w1) := bl_then HB0.out hb1
  clear hb1
  go_wp2
  go_ret
  exact ⟨.inl rfl,HB1.out⟩
 ·have HS : Hid (SmallKs n K) := hS
  have HB1 : Hid (Below w.heap.size w w1) := bl_then HB0.out hb1
  have HV1 : Hid (Blk w1 w.heap.size [.int .i64 z, .int .i64 x, .int .i64 y, .int .i64 wd, .int .i64 ht, .int .i64 now, .int .i64 s, .slice a n cap, .slice ra rn rc, .int .i64 bad]) := HV.out.below HV.out.lt hb1
  have c8 := HV1.out.cell 8 rfl
  have hneg : ¬ ((m : Nat) : Int) < 0 := by omega
  clear hS hb1
  go_wp2_with fail
  by_cases hr : m < rn
  ·refine (szRequestS_no ra rn rc m w1 hm hr hrm).mono ?_
   rintro e w2 ⟨rfl,hb2⟩
   have HB2 : Hid (Below w.heap.size w w2) := bl_then HB1.out hb2
   clear hb2 c8
   go_wp2
   go_ret
   exact ⟨.inl rfl,HB2.out⟩
  ·refine (szRequestS_ok ra rn rc m w1 hm (by omega)).mono ?_
   rintro e w2 ⟨rfl,hb2⟩
   have HB2 : Hid (Below w.heap.size w w2) := bl_then HB1.out hb2
   have hneg2 : ¬ (m : Int) - (rn : Int) < 0 := by omega
   have he : (m : Int) - (rn : Int) = ((m - rn : Nat) : Int) := by omega
   clear hb2 c8
   go_wp2
   go_ret
   exact ⟨.inr ⟨m - rn,HS.out,by omega,rfl⟩,HB2.out⟩
def OwnV (w : World) (b n : Nat) (K A : Nat → Kp) (rb rn : Nat) (E : Nat → Req) : Prop := OwnKs w (b + 1) b n K A ∧ rb < w.heap.size ∧ WsAt w rb 0 rn E
theorem OwnV.below {w w' : World} {b n : Nat} {K A : Nat → Kp} {rb rn : Nat} {E : Nat → Req} (h : OwnV w b n K A rb rn E) (hb : Below w.heap.size w w') : OwnV w' b n K A rb rn E :=
 ⟨h.1.below hb,Nat.lt_of_lt_of_le h.2.1 hb.size,h.2.2.below hb h.2.1⟩
theorem resTV {T : Array Value} {Wf : World} {r : Nat} {z x y wd ht now s : Int} {kv rv : Value} {bad : Int} (hT : T[2]?.getD undef = .pointer (some ⟨r,0,none⟩)) (h : Blk Wf r [.int .i64 z, .int .i64 x, .int .i64 y, .int .i64 wd, .int .i64 ht, .int .i64 now, .int .i64 s,kv,rv, .int .i64 bad]) :
  (results Tryz.f10 T).run Tryz.prog Wf = .ok (vwV z x y wd ht now s kv rv bad) Wf := by
 have h0 := h.cell 0 rfl
 have h1 := h.cell 1 rfl
 have h2 := h.cell 2 rfl
 have h3 := h.cell 3 rfl
 have h4 := h.cell 4 rfl
 have h5 := h.cell 5 rfl
 have h6 := h.cell 6 rfl
 have h7 := h.cell 7 rfl
 have h8 := h.cell 8 rfl
 have h9 := h.cell 9 rfl
 simp [results,Tryz.results10,go_sem,hT,h0,h1,h2,h3,h4,h5,h6,h7,h8,h9]
theorem eqViewer_any (z x y wd ht now s : Int) (n rn : Nat) (b b' rb rb' : Nat) (K A H : Nat → Kp) (E : Nat → Req) (bad : Int) (w : World) (ha : OwnV w b n K A rb rn E) (hh : OwnV w b' n K H rb' rn E) (hs : SmallKs n K) (hrn : rn ≤ 1048576) :
  Calls Tryz.prog 13 #[vwV z x y wd ht now s (.slice (some ⟨b,0,none⟩) n n) (.slice (some ⟨rb,0,none⟩) rn rn) bad,vwV z x y wd ht now s (.slice (some ⟨b',0,none⟩) n n) (.slice (some ⟨rb',0,none⟩) rn rn) bad] w fun e w' => e = .returned (.bool true) ∧ Below w.heap.size w w' := by
 have HA : Hid (OwnV w b n K A rb rn E) := ha
 have HH : Hid (OwnV w b' n K H rb' rn E) := hh
 have HS : Hid (SmallKs n K) := hs
 clear ha hh hs
 go_enter Tryz.func13,Tryz.ntmps13
 go_wp2_with fail
 generalize hW : ((w.alloc _).alloc _ : World) = W
 have HB0 : Hid (Below w.heap.size w W) := by show Below _ _ _; subst hW; exact Qb
 have HV : Hid (Blk W w.heap.size [.int .i64 z, .int .i64 x, .int .i64 y, .int .i64 wd, .int .i64 ht, .int .i64 now, .int .i64 s, .slice (some ⟨b,0,none⟩) n n, .slice (some ⟨rb,0,none⟩) rn rn, .int .i64 bad]) := by
  show Blk _ _ _; subst hW
  exact (Blk.new w _ _).alloc (by simp) _
 have HU : Hid (Blk W (w.heap.size + 1) [.int .i64 z, .int .i64 x, .int .i64 y, .int .i64 wd, .int .i64 ht, .int .i64 now, .int .i64 s, .slice (some ⟨b',0,none⟩) n n, .slice (some ⟨rb',0,none⟩) rn rn, .int .i64 bad]) := by
  show Blk _ _ _; subst hW
  have := Blk.new (w.alloc (.cells #[.int .i64 z, .int .i64 x, .int .i64 y, .int .i64 wd, .int .i64 ht, .int .i64 now, .int .i64 s, .slice (some ⟨b,0,none⟩) n n, .slice (some ⟨rb,0,none⟩) rn rn, .int .i64 bad] 38)) [.int .i64 z, .int .i64 x, .int .i64 y, .int .i64 wd, .int .i64 ht, .int .i64 now, .int .i64 s, .slice (some ⟨b',0,none⟩) n n, .slice (some ⟨rb',0,none⟩) rn rn, .int .i64 bad] 38
  simpa using this
 have hvl : w.heap.size < W.heap.size := HV.out.lt
 have hul : w.heap.size + 1 < W.heap.size := HU.out.lt
 clear hW
 refine (eqCamera_any z x y wd ht W).mono ?_
 rintro e w1 ⟨rfl,hb1⟩
 have HB1 : Hid (Below W.heap.size W w1) := hb1
 have hV1 := HV.out.below hvl hb1
 have hU1 := HU.out.below hul hb1
 have d0 := hV1.cell 0 rfl
 have d1 := hV1.cell 1 rfl
 have d2 := hV1.cell 2 rfl
 have d3 := hV1.cell 3 rfl
 have d4 := hV1.cell 4 rfl
 have d5 := hV1.cell 5 rfl
 have d6 := hV1.cell 6 rfl
 have d7 := hV1.cell 7 rfl
 have d8 := hV1.cell 8 rfl
 have d9 := hV1.cell 9 rfl
 have e0 := hU1.cell 0 rfl
 have e1 := hU1.cell 1 rfl
 have e2 := hU1.cell 2 rfl
 have e3 := hU1.cell 3 rfl
 have e4 := hU1.cell 4 rfl
 have e5 := hU1.cell 5 rfl
 have e6 := hU1.cell 6 rfl
 have e7 := hU1.cell 7 rfl
 have e8 := hU1.cell 8 rfl
 have e9 := hU1.cell 9 rfl
 clear hb1 hV1 hU1
 go_wp2_with fail
 refine (eqCache_any s _ _ _ _ n K _ _ w1 (HA.out.1.below (bl_then HB0.out HB1.out)) (HH.out.1.below (bl_then HB0.out HB1.out)) HS.out).mono ?_
 rintro e w2 ⟨rfl,hb2⟩
 have HB2 : Hid (Below W.heap.size W w2) := bl_then HB1.out hb2
 have hV2 := HV.out.below hvl HB2.out
 have hU2 := HU.out.below hul HB2.out
 clear d0 e0
 clear d1 e1
 clear d2 e2
 clear d3 e3
 clear d4 e4
 clear d5 e5
 clear d6 e6
 clear d7 e7
 clear d8 e8
 clear d9 e9
 have d0 := hV2.cell 0 rfl
 have d1 := hV2.cell 1 rfl
 have d2 := hV2.cell 2 rfl
 have d3 := hV2.cell 3 rfl
 have d4 := hV2.cell 4 rfl
 have d5 := hV2.cell 5 rfl
 have d6 := hV2.cell 6 rfl
 have d7 := hV2.cell 7 rfl
 have d8 := hV2.cell 8 rfl
 have d9 := hV2.cell 9 rfl
 have e0 := hU2.cell 0 rfl
 have e1 := hU2.cell 1 rfl
 have e2 := hU2.cell 2 rfl
 have e3 := hU2.cell 3 rfl
 have e4 := hU2.cell 4 rfl
 have e5 := hU2.cell 5 rfl
 have e6 := hU2.cell 6 rfl
 have e7 := hU2.cell 7 rfl
 have e8 := hU2.cell 8 rfl
 have e9 := hU2.cell 9 rfl
 clear hb2 hV2 hU2 HB1
 have HA2 := HA.out.below (bl_then HB0.out HB2.out)
 have HH2 := HH.out.below (bl_then HB0.out HB2.out)
 have hq1 : IsWs w2 (some ⟨rb,0,none⟩) rn E := .inr ⟨rb,0,rfl,HA2.2.1,HA2.2.2⟩
 have hq2 : IsWs w2 (some ⟨rb',0,none⟩) rn E := .inr ⟨rb',0,rfl,HH2.2.1,HH2.2.2⟩
 have HEq := (show Hid _ from eqRequestS_any (some ⟨rb,0,none⟩) (some ⟨rb',0,none⟩) rn rn rn E w2 hq1 hq2 hrn)
 clear HA2 HH2 hq1 hq2
 go_wp2_with fail
 refine Calls.mono HEq.out ?_
 rintro e w3 ⟨rfl,hb3⟩
 have HB3 : Hid (Below W.heap.size W w3) := bl_then HB2.out hb3
 have hV3 := HV.out.below hvl HB3.out
 have hU3 := HU.out.below hul HB3.out
 clear d0 e0
 clear d1 e1
 clear d2 e2
 clear d3 e3
 clear d4 e4
 clear d5 e5
 clear d6 e6
 clear d7 e7
 clear d8 e8
 clear d9 e9
 have d9 := hV3.cell 9 rfl
 have e9 := hU3.cell 9 rfl
 have HB9 : Hid (Below w.heap.size w w3) := bl_then HB0.out HB3.out
 clear hb3 hV3 hU3
 go_wp2
 go_ret
 exact ⟨rfl,HB9.out⟩
end Go.Proofs.YtiephlohemphjaaGreat
