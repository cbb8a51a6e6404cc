/- Texts. -/
import Derived.Test.YtiephlohemphjaaGreatVTickViewer27
set_option linter.unusedSimpArgs false
set_option linter.unusedVariables false
set_option maxRecDepth 100000
set_option maxHeartbeats 32000000
namespace Go.Proofs.YtiephlohemphjaaGreat
open Go.RowKit
abbrev caV (s : Int) (v : Value) : Value := .agg #[.int .i64 s,v]
theorem eqKeptS_any (B C b d n : Nat) (K A H : Nat → Kp) (w : World) (ha : OwnKs w B b n K A) (hh : OwnKs w C d n K H) (hs : SmallKs n K) :
  Calls Tryz.prog 81 #[.slice (some ⟨b,0,none⟩) n n, .slice (some ⟨d,0,none⟩) n n] w fun e w' => e = .returned (.bool true) ∧ Below w.heap.size w w' := by
 have HA : Hid (OwnKs w B b n K A) := ha
 have HH : Hid (OwnKs w C d n K H) := hh
 have HS : Hid (SmallKs n K) := hs
 have hn := hs.1
 clear ha hh hs
 go_enter Tryz.func81,Tryz.ntmps81
 go_wp2
 go_loopw [5] (fun i wr => ∃ k : Nat,k ≤ n ∧ i = .int .i64 k ∧ Below w.heap.size w wr) (fun i _ => n - (intOf i).toNat)
 case atStart => exact ⟨0,by omega,rfl,Below.refl _ _⟩
 case round =>
  obtain ⟨k,hk,rfl,hB⟩ := hrel
  by_cases hlt : k < n
  ·have HAr : Hid (OwnKs wr B b n K A) := HA.out.below hB
   have HHr : Hid (OwnKs wr C d n K H) := HH.out.below hB
   have a0 : ∀ W',Below wr.heap.size wr W' → W'.cell? ⟨b,k * 5,none⟩ = some (.int .i64 (A k).z) := fun W' h => ((HAr.out.below h).2.2 k hlt).1.1
   have a1 : ∀ W',Below wr.heap.size wr W' → W'.cell? ⟨b,k * 5 + 1,none⟩ = some (.int .i64 (A k).x) := fun W' h => ((HAr.out.below h).2.2 k hlt).1.2.1
   have a2 : ∀ W',Below wr.heap.size wr W' → W'.cell? ⟨b,k * 5 + 2,none⟩ = some (.int .i64 (A k).y) := fun W' h => ((HAr.out.below h).2.2 k hlt).1.2.2.1
   have a3 : ∀ W',Below wr.heap.size wr W' → W'.cell? ⟨b,k * 5 + 3,none⟩ = some (.slice (A k).fa (A k).fn (A k).fc) := fun W' h => ((HAr.out.below h).2.2 k hlt).1.2.2.2.1
   have a4 : ∀ W',Below wr.heap.size wr W' → W'.cell? ⟨b,k * 5 + 4,none⟩ = some (.slice (A k).ia (A k).m (A k).ic) := fun W' h => ((HAr.out.below h).2.2 k hlt).1.2.2.2.2
   have h0 : ∀ W',Below wr.heap.size wr W' → W'.cell? ⟨d,k * 5,none⟩ = some (.int .i64 (H k).z) := fun W' h => ((HHr.out.below h).2.2 k hlt).1.1
   have h1 : ∀ W',Below wr.heap.size wr W' → W'.cell? ⟨d,k * 5 + 1,none⟩ = some (.int .i64 (H k).x) := fun W' h => ((HHr.out.below h).2.2 k hlt).1.2.1
   have h2 : ∀ W',Below wr.heap.size wr W' → W'.cell? ⟨d,k * 5 + 2,none⟩ = some (.int .i64 (H k).y) := fun W' h => ((HHr.out.below h).2.2 k hlt).1.2.2.1
   have h3 : ∀ W',Below wr.heap.size wr W' → W'.cell? ⟨d,k * 5 + 3,none⟩ = some (.slice (H k).fa (H k).fn (H k).fc) := fun W' h => ((HHr.out.below h).2.2 k hlt).1.2.2.2.1
   have h4 : ∀ W',Below wr.heap.size wr W' → W'.cell? ⟨d,k * 5 + 4,none⟩ = some (.slice (H k).ia (H k).m (H k).ic) := fun W' h => ((HHr.out.below h).2.2 k hlt).1.2.2.2.2
   have HEQ : Hid (∀ W',Below wr.heap.size wr W' → Calls Tryz.prog 129 #[kpV (A k),kpV (H k)] W' fun e w' => e = .returned (.bool true) ∧ Below W'.heap.size W' w') := fun W' h => eqKept_any B C (K k) (A k) (H k) W' ((HAr.out.below h).2.2 k hlt).2 ((HHr.out.below h).2.2 k hlt).2 (HS.out.2 k hlt)
   have HB : Hid (Below w.heap.size w wr) := hB
   have HLT : Hid (k < n) := hlt
   have hr : Below wr.heap.size wr wr := Below.refl _ _
   clear hB
   have hi : (k : Int) < (n : Int) := by omega
   have hi0 : (0 : Int) ≤ (k : Int) := by omega
   go_wp2
   go_region_held3 (fun W' => Below wr.heap.size wr W') ((repeat (first|exact Qr _ _|assumption|refine Qd ?_|refine Qa ?_ _|refine Qt ?_|refine Qs ?_ _|refine Qo ?_ ?_ _ _)))
    (first
     | (go_at_call 129; refine (HEQ.out _ (by assumption)).mono ?_; rintro e w' ⟨rfl,hb⟩)
     | fail)
   go_wp2
   go_roundw
   case rel => exact ⟨k + 1,by have := HLT.out; omega,by go_num,bl_then HB.out (by assumption)⟩
   case measure => have := HLT.out; simp [intOf]; omega
  ·go_wp2
   go_ret
   exact ⟨rfl,hB⟩
theorem szTile_l (z x y : Int) (a : Option Addr) (n cap left : Nat) (F : Nat → Feat) (w : World) (hl : left ≤ 1048576) (hf : IsFs w a n F) (hc : CameFs n F) :
  Calls Tryz.prog 145 #[tileV z x y (.slice a n cap), .int .i64 (left : Int)] w fun e w' => (e = .returned (.int .i64 (-1)) ∨ ∃ m : Nat,m ≤ left ∧ SmallFs n F ∧ e = .returned (.int .i64 m)) ∧ Below w.heap.size w w' := by
 have HF : Hid (IsFs w a n F) := hf
 have HC : Hid (CameFs n F) := hc
 clear hf hc
 go_enter Tryz.func145,Tryz.ntmps145
 go_wp2_with fail
 generalize hW : (w.alloc _ : World) = W
 have hB0 : Below w.heap.size w W := by subst hW; exact Qb
 clear hW
 refine (szFeatureS_any a n cap F left _ hl (HF.out.below hB0) HC.out).mono ?_
 rintro e w1 ⟨rfl | ⟨m,hm,hS,rfl⟩,hb1⟩
 ·go_wp2
  go_ret
  exact ⟨.inl rfl,by (repeat (first|exact Qr _ _|assumption|refine Qd ?_|refine Qa ?_ _|refine Qt ?_|refine Qs ?_ _|refine Qo ?_ ?_ _ _))⟩
 ·have hneg : ¬ ((m : Nat) : Int) < 0 := by omega
  have HS : Hid (SmallFs n F) := hS
  clear hS
  go_wp2
  go_ret
  exact ⟨.inr ⟨m,hm,HS.out,rfl⟩,by (repeat (first|exact Qr _ _|assumption|refine Qd ?_|refine Qa ?_ _|refine Qt ?_|refine Qs ?_ _|refine Qo ?_ ?_ _ _))⟩
theorem szInt64S_l (a : Option Addr) (n cap left : Nat) (w : World) (hl : left ≤ 1048576) (hn : n ≤ maxLen) :
  Calls Tryz.prog 146 #[.slice a n cap, .int .i64 (left : Int)] w fun e w' => (e = .returned (.int .i64 (-1)) ∨ ∃ m : Nat,m ≤ left ∧ n ≤ 1048576 ∧ e = .returned (.int .i64 m)) ∧ Below w.heap.size w w' := by
 unfold maxLen at hn
 by_cases h : left < n
 ·have hneg : (left : Int) - (n : Int) < 0 := by omega
  go_enter Tryz.func146,Tryz.ntmps146
  go_wp2
  go_ret
  exact ⟨.inl rfl,by (repeat (first|exact Qr _ _|assumption|refine Qd ?_|refine Qa ?_ _|refine Qt ?_|refine Qs ?_ _|refine Qo ?_ ?_ _ _))⟩
 ·have hneg : ¬ (left : Int) - (n : Int) < 0 := by omega
  go_enter Tryz.func146,Tryz.ntmps146
  go_wp2
  go_ret
  exact ⟨.inr ⟨left - n,by omega,by omega,ret_int (by omega)⟩,by (repeat (first|exact Qr _ _|assumption|refine Qd ?_|refine Qa ?_ _|refine Qt ?_|refine Qs ?_ _|refine Qo ?_ ?_ _ _))⟩
theorem szKept_l (k : Kp) (left : Nat) (w : World) (hl : left ≤ 1048576) (hk : KpIs w k) (hc : CameK k) :
  Calls Tryz.prog 107 #[kpV k, .int .i64 (left : Int)] w fun e w' => (e = .returned (.int .i64 (-1)) ∨ ∃ m : Nat,m ≤ left ∧ SmallK k ∧ e = .returned (.int .i64 m)) ∧ Below w.heap.size w w' := by
 have HK : Hid (KpIs w k) := hk
 have HC : Hid (CameK k) := hc
 clear hk hc
 go_enter Tryz.func107,Tryz.ntmps107
 go_wp2_with fail
 generalize hW : (w.alloc _ : World) = W
 have hB0 : Below w.heap.size w W := by subst hW; exact Qb
 have c4 : ∀ W',Below W.heap.size W W' → W'.cell? ⟨w.heap.size,4,none⟩ = some (.slice k.ia k.m k.ic) := fun W' h => by rw [h.cell (by subst hW; simp)]; subst hW; simp [go_sem]
 clear hW
 refine (szTile_l k.z k.x k.y k.fa k.fn k.fc left k.F W hl (HK.out.below hB0).1 HC.out.1).mono ?_
 rintro e w1 ⟨rfl | ⟨m,hm,hS,rfl⟩,hb1⟩
 ·go_wp2
  go_ret
  exact ⟨.inl rfl,bl_then hB0 hb1⟩
 ·have hneg : ¬ ((m : Nat) : Int) < 0 := by omega
  have g4 := c4 w1 hb1
  have HS : Hid (SmallFs k.fn k.F) := hS
  have hB1 : Below w.heap.size w w1 := bl_then hB0 hb1
  clear hS hb1 hB0 c4
  go_wp2_with fail
  refine (szInt64S_l k.ia k.m k.ic m w1 (by omega) HC.out.2).mono ?_
  rintro e w2 ⟨rfl | ⟨q,hq,hS2,rfl⟩,hb2⟩
  ·go_wp2
   go_ret
   exact ⟨.inl rfl,bl_then hB1 hb2⟩
  ·have hneg2 : ¬ ((q : Nat) : Int) < 0 := by omega
   have HS2 : Hid (k.m ≤ 1048576) := hS2
   clear hS2
   go_wp2
   go_ret
   exact ⟨.inr ⟨q,by omega,⟨HS.out,HS2.out⟩,rfl⟩,bl_then hB1 hb2⟩
theorem szKeptS_l (a : Option Addr) (n cap left : Nat) (K : Nat → Kp) (w : World) (hl : left ≤ 1048576) (hk : IsKs w a n K) (hc : CameKs n K) :
  Calls Tryz.prog 60 #[.slice a n cap, .int .i64 (left : Int)] w fun e w' => (e = .returned (.int .i64 (-1)) ∨ ∃ m : Nat,m ≤ left ∧ SmallKs n K ∧ e = .returned (.int .i64 m)) ∧ Below w.heap.size w w' := by
 have HK : Hid (IsKs w a n K) := hk
 obtain ⟨hc1,hc2⟩ := hc
 have HC : Hid (∀ i,i < n → CameK (K i)) := hc2
 unfold maxLen at hc1
 clear hk hc2
 by_cases h : left < n
 ·have hneg : (left : Int) - (n : Int) < 0 := by omega
  go_enter Tryz.func60,Tryz.ntmps60
  go_wp2
  go_ret
  exact ⟨.inl rfl,by (repeat (first|exact Qr _ _|assumption|refine Qd ?_|refine Qa ?_ _|refine Qt ?_|refine Qs ?_ _|refine Qo ?_ ?_ _ _))⟩
 ·have hneg : ¬ (left : Int) - (n : Int) < 0 := by omega
  go_enter Tryz.func60,Tryz.ntmps60
  go_wp2_with fail
  go_loopw [1,5] (fun v i wr => ∃ k m : Nat,k ≤ n ∧ i = .int .i64 (k : Int) ∧ v = .int .i64 (m : Int) ∧ m ≤ left ∧ (∀ j,j < k → SmallK (K j)) ∧ Below w.heap.size w wr) (fun _ i _ => n - (intOf i).toNat)
  case atStart => exact ⟨0,left - n,by omega,rfl,by congr 1; omega,by omega,fun j hj => absurd hj (Nat.not_lt_zero _),Below.refl _ _⟩
  case round =>
   obtain ⟨k,m,hk,rfl,rfl,hm,hS,hB⟩ := hrel
   have HS : Hid (∀ j,j < k → SmallK (K j)) := hS
   have HB : Hid (Below w.heap.size w wr) := hB
   clear hS
   by_cases hlt : k < n
   ·rcases HK.out with h0 | ⟨b,off,rfl,hbl,hpt⟩
    ·omega
    obtain ⟨⟨f0,f1,f2,f3,f4⟩,hkis⟩ := (hpt.below hB hbl) k hlt
    have HKI : Hid (KpIs wr (K k)) := hkis
    have HLT : Hid (k < n) := hlt
    have hi : (k : Int) < (n : Int) := by omega
    have hi0 : (0 : Int) ≤ (k : Int) := by omega
    clear hB hpt hkis
    go_wp2_with fail
    refine (szKept_l (K k) m _ (by omega) HKI.out (HC.out k hlt)).mono ?_
    rintro e w1 ⟨rfl | ⟨q,hq,hS1,rfl⟩,hb1⟩
    ·go_wp2
     go_ret
     exact ⟨.inl rfl,bl_then HB.out hb1⟩
    ·have hneg2 : ¬ ((q : Nat) : Int) < 0 := by omega
     have HS1 : Hid (SmallK (K k)) := hS1
     have HB1 : Hid (Below w.heap.size w w1) := bl_then HB.out hb1
     clear hS1 hb1 f0 f1 f2 f3 f4
     go_wp2_with fail
     go_roundw
     case rel => exact ⟨k + 1,q,by have := HLT.out; omega,by go_num,rfl,by omega,fun j hj => by
       by_cases e : j = k
       ·rw [e]; exact HS1.out
       ·exact HS.out j (by omega),HB1.out⟩
     case measure => have := HLT.out; simp [intOf]; omega
   ·obtain rfl : n = k := by omega
    go_wp2
    go_ret
    exact ⟨.inr ⟨m,hm,⟨by omega,HS.out⟩,rfl⟩,HB.out⟩
theorem OwnKs.mid {w w' : World} {B C b n lo hi : Nat} {K A : Nat → Kp} (h : OwnKs w B b n K A) (hM : MidB lo hi w w') (hh : hi ≤ b) : OwnKs w' B b n K A :=
 ⟨h.1,Nat.lt_of_lt_of_le h.2.1 hM.size,fun i hi' => by
  obtain ⟨⟨h0,h1,h2,h3,h4⟩,h5⟩ := h.2.2 i hi'
  exact ⟨⟨hM.cell h0 (.inr hh),hM.cell h1 (.inr hh),hM.cell h2 (.inr hh),hM.cell h3 (.inr hh),hM.cell h4 (.inr hh)⟩,h5.mid hM (by have := h.1; omega) (Nat.le_refl _)⟩⟩
theorem there2k (V : World) (a b : Value) (t : TypeId) : There (V.alloc (.cells #[a,b] t)) V.heap.size 2 := fun o ho => by
 have hc : o = 0 ∨ o = 1 := by omega
 rcases hc with rfl | rfl <;> exact ⟨⟨_,by simp [go_sem]; rfl⟩,by simp [go_sem]⟩
theorem resTC {T : Array Value} {Wf : World} {r : Nat} {s : Int} {v : Value} (hT : T[2]?.getD undef = .pointer (some ⟨r,0,none⟩)) (h0 : Wf.cell? ⟨r,0,none⟩ = some (.int .i64 s)) (h1 : Wf.cell? ⟨r,1,none⟩ = some v) :
  (results Tryz.f33 T).run Tryz.prog Wf = .ok (caV s v) Wf := by
 simp [results,Tryz.results33,go_sem,hT,h0,h1]
theorem eqCache_any (s : Int) (B C b d n : Nat) (K A H : Nat → Kp) (w : World) (ha : OwnKs w B b n K A) (hh : OwnKs w C d n K H) (hs : SmallKs n K) :
  Calls Tryz.prog 42 #[caV s (.slice (some ⟨b,0,none⟩) n n),caV s (.slice (some ⟨d,0,none⟩) n n)] w fun e w' => e = .returned (.bool true) ∧ Below w.heap.size w w' := by
 have HA : Hid (OwnKs w B b n K A) := ha
 have HH : Hid (OwnKs w C d n K H) := hh
 clear ha hh
 go_enter Tryz.func42,Tryz.ntmps42
 go_wp2_with fail
 generalize hW : ((w.alloc _).alloc _ : World) = W
 have hB0 : Below w.heap.size w W := by subst hW; exact Qb
 clear hW
 refine (eqKeptS_any B C b d n K A H W (HA.out.below hB0) (HH.out.below hB0) hs).mono ?_
 rintro e w1 ⟨rfl,hb1⟩
 go_wp2
 go_ret
 exact ⟨rfl,bl_then hB0 hb1⟩
theorem MidB.wide {lo hi lo' hi' : Nat} {a b : World} (h : MidB lo' hi' a b) (h1 : lo ≤ lo') (h2 : hi' ≤ hi) : MidB lo hi a b := ⟨h.os,h.tape,h.output,h.size,fun k hk ho => h.block k hk (by omega)⟩
abbrev ptN (r : Kp) : Nat → Nat := fun i => (r.F i).n
abbrev ptC (r : Kp) : Nat → Nat := fun i => (r.F i).cap
def kN (r : Kp) (k : Nat) : Nat := kS (ptN r) (k + 3) r.fn + r.m
def kK (R : Nat → Kp) (k0 : Nat) : Nat → Nat
 | 0 => k0
 | j + 1 => kN (R j) (kK R k0 j)
theorem kS_ge (N : Nat → Nat) (k0 : Nat) : ∀ i,k0 ≤ kS N k0 i
 | 0 => Nat.le_refl _
 | i + 1 => by have := kS_ge N k0 i; rw [kS]; omega
theorem kS_small {r : Kp} {k : Nat} (h : SmallK r) : k ≤ kS (ptN r) k r.fn ∧ kS (ptN r) k r.fn ≤ k + 2199029547008 := by
 refine ⟨kS_ge _ _ _,?_⟩
 have h1 := kS_le (ptN r) k r.fn (fun i hi => (h.1.2 i hi).1) r.fn (Nat.le_refl _)
 have h2 := h.1.1
 omega
theorem kN_le {r : Kp} {k : Nat} (h : SmallK r) : k ≤ kN r k ∧ kN r k ≤ k + 2199030595587 := by
 have h1 := kS_small (k := k + 3) h
 have h2 := h.2
 unfold kN
 omega
theorem kK_le {R : Nat → Kp} {k0 n : Nat} (h : SmallKs n R) : ∀ j,j ≤ n → k0 ≤ kK R k0 j ∧ kK R k0 j ≤ k0 + j * 2199030595587
 | 0,_ => by simp [kK]
 | j + 1,hj => by
  have h1 := kK_le (k0 := k0) h j (by omega)
  have h2 := kN_le (k := kK R k0 j) (h.2 j (by omega))
  rw [kK]; omega
theorem kK_small {R : Nat → Kp} {k0 n : Nat} (h : SmallKs n R) (h0 : k0 ≤ 1000000000) {j : Nat} (hj : j ≤ n) : k0 ≤ kK R k0 j ∧ kK R k0 j ≤ 2400000000000000000 := by
 have h1 := kK_le (k0 := k0) h j hj
 have h2 := h.1
 omega
theorem MarkF.mid {w w' : World} {b q i N C k l h : Nat} (hm : MarkF w b q i N C k) (hM : MidB l h w w') (hb : b < l ∨ h ≤ b) (hq : q < l ∨ h ≤ q) : MarkF w' b q i N C k := by
 obtain ⟨⟨a0,a1,a2,a3,a4,a5,a6⟩,hp⟩ := hm
 exact ⟨⟨hM.cell a0 hb,hM.cell a1 hb,hM.cell a2 hb,hM.cell a3 hb,hM.cell a4 hb,hM.cell a5 hb,hM.cell a6 hb⟩,fun i hi => ⟨hM.cell (hp i hi).1 hq,hM.cell (hp i hi).2 hq⟩⟩
def MkR (w : World) (lo md : Nat) (a : Option Addr) (m : Nat) (N C : Nat → Nat) (k : Nat) : Prop := m = 0 ∨ ∃ (g : Nat) (q : Nat → Nat),a = some ⟨g,0,none⟩ ∧ (lo ≤ g ∧ g < md) ∧ (∀ i,i < m → lo ≤ q i ∧ q i < md) ∧ ∀ i,i < m → MarkF w g (q i) i (N i) (C i) (kS N k i)
def TlW (w : World) (lo hi : Nat) (r : Kp) : Prop := ∃ md,lo ≤ md ∧ md ≤ hi ∧ hi ≤ w.heap.size ∧ OwnR w lo md r.fa r.fn (ptN r) (ptC r) ∧ (r.m = 0 ∨ ∃ ib,r.ia = some ⟨ib,0,none⟩ ∧ md ≤ ib ∧ ib < hi ∧ There w ib r.m)
def TlM (w : World) (lo hi : Nat) (r : Kp) (k : Nat) : Prop := ∃ md,lo ≤ md ∧ md ≤ hi ∧ hi ≤ w.heap.size ∧ MkR w lo md r.fa r.fn (ptN r) (ptC r) (k + 3) ∧ (r.m = 0 ∨ ∃ ib,r.ia = some ⟨ib,0,none⟩ ∧ md ≤ ib ∧ ib < hi ∧ NsAt w ib 0 r.m (mkN (kS (ptN r) (k + 3) r.fn)))
theorem TlW.mid {w w' : World} {lo hi l h : Nat} {r : Kp} (hT : TlW w lo hi r) (hM : MidB l h w w') (ho : h ≤ lo ∨ hi ≤ l) : TlW w' lo hi r := by
 obtain ⟨md,h1,h2,h3,h4,h5⟩ := hT
 refine ⟨md,h1,h2,Nat.le_trans h3 hM.size,h4.away hM (by omega),h5.imp id (fun ⟨ib,e,a,b,c⟩ => ⟨ib,e,a,b,hM.there c (by omega)⟩)⟩
theorem MkR.mid {w w' : World} {lo md l h : Nat} {a : Option Addr} {m : Nat} {N C : Nat → Nat} {k : Nat} (hT : MkR w lo md a m N C k) (hM : MidB l h w w') (ho : h ≤ lo ∨ md ≤ l) : MkR w' lo md a m N C k :=
 hT.imp id (fun ⟨g,q,e,h1,h2,h3⟩ => ⟨g,q,e,h1,h2,fun i hi => (h3 i hi).mid hM (by omega) (by have := h2 i hi; omega)⟩)
theorem TlM.mid {w w' : World} {lo hi l h : Nat} {r : Kp} {k : Nat} (hT : TlM w lo hi r k) (hM : MidB l h w w') (ho : h ≤ lo ∨ hi ≤ l) : TlM w' lo hi r k := by
 obtain ⟨md,h1,h2,h3,h4,h5⟩ := hT
 refine ⟨md,h1,h2,Nat.le_trans h3 hM.size,h4.mid hM (by omega),h5.imp id (fun ⟨ib,e,a,b,c⟩ => ⟨ib,e,a,b,fun i hi => hM.cell (c i hi) (by omega)⟩)⟩
def Sl2 (w : World) (g j : Nat) (r : Kp) : Prop := w.cell? ⟨g,j * 5 + 3,none⟩ = some (.slice r.fa r.fn r.fc) ∧ w.cell? ⟨g,j * 5 + 4,none⟩ = some (.slice r.ia r.m r.ic)
def Rf3 (w : World) (g j k : Nat) : Prop := w.cell? ⟨g,j * 5,none⟩ = some (.int .i64 ((k : Nat) : Int)) ∧ w.cell? ⟨g,j * 5 + 1,none⟩ = some (.int .i64 ((k + 1 : Nat) : Int)) ∧ w.cell? ⟨g,j * 5 + 2,none⟩ = some (.int .i64 ((k + 2 : Nat) : Int))
theorem Sl2.mid {w w' : World} {g j l h : Nat} {r : Kp} (hS : Sl2 w g j r) (hM : MidB l h w w') (ho : g < l ∨ h ≤ g) : Sl2 w' g j r := ⟨hM.cell hS.1 ho,hM.cell hS.2 ho⟩
theorem Rf3.mid {w w' : World} {g j l h k : Nat} (hS : Rf3 w g j k) (hM : MidB l h w w') (ho : g < l ∨ h ≤ g) : Rf3 w' g j k := ⟨hM.cell hS.1 ho,hM.cell hS.2.1 ho,hM.cell hS.2.2 ho⟩
def KsW (w : World) (g n : Nat) (R : Nat → Kp) (M : Nat → Nat) : Prop := There w g (n * 5) ∧ g < M 0 ∧ (∀ j,j < n → M j ≤ M (j + 1) ∧ Sl2 w g j (R j) ∧ TlW w (M j) (M (j + 1)) (R j)) ∧ M n ≤ w.heap.size
def KsM (w : World) (g n : Nat) (R : Nat → Kp) (M : Nat → Nat) (k0 : Nat) : Prop := g < M 0 ∧ M n ≤ w.heap.size ∧ ∀ j,j < n → M j ≤ M (j + 1) ∧ Sl2 w g j (R j) ∧ Rf3 w g j (kK R k0 j) ∧ TlM w (M j) (M (j + 1)) (R j) (kK R k0 j)
theorem upM {M : Nat → Nat} {n : Nat} (h : ∀ j,j < n → M j ≤ M (j + 1)) : ∀ {i j},i ≤ j → j ≤ n → M i ≤ M j := by
 intro i j hij
 induction j with
 | zero => exact fun _ => by rw [show i = 0 by omega]; exact Nat.le_refl _
 | succ j ih =>
  intro hj
  by_cases e : i = j + 1
  ·subst e; exact Nat.le_refl _
  ·exact Nat.le_trans (ih (by omega) (by omega)) (h j (by omega))
theorem KsM.mid {w w' : World} {g n k0 l h : Nat} {R : Nat → Kp} {M : Nat → Nat} (hT : KsM w g n R M k0) (hM : MidB l h w w') (ho : h ≤ g ∨ M n ≤ l) : KsM w' g n R M k0 := by
 obtain ⟨h1,h2,h3⟩ := hT
 have hu := fun i j (a : i ≤ j) (b : j ≤ n) => upM (fun j hj => (h3 j hj).1) a b
 have h0n := hu 0 n (Nat.zero_le _) (Nat.le_refl _)
 refine ⟨h1,Nat.le_trans h2 hM.size,fun j hj => ⟨(h3 j hj).1,(h3 j hj).2.1.mid hM (by omega),(h3 j hj).2.2.1.mid hM (by omega),(h3 j hj).2.2.2.mid hM ?_⟩⟩
 have := hu 0 j (Nat.zero_le _) (by omega)
 have := hu (j + 1) n (by omega) (Nat.le_refl _)
 omega
theorem KsM.below {w w' : World} {g n k0 : Nat} {R : Nat → Kp} {M : Nat → Nat} (hT : KsM w g n R M k0) (hb : Below w.heap.size w w') : KsM w' g n R M k0 := hT.mid (MidB.of_below (lo := M n) (hi := g) hb) (.inl (Nat.le_refl _))
theorem markFsK_any (lo md : Nat) (a : Option Addr) (m cap k : Nat) (N C : Nat → Nat) (w : World) (h : OwnR w lo md a m N C) (hm : m ≤ 1048576) (hN : ∀ i,i < m → N i ≤ 1048576) (h0 : 0 < k) (hk : k ≤ 5000000000000000000) :
  Calls Tryz.prog 130 #[.slice a m cap, .int .i64 (k : Int)] w fun e w' => e = .returned (.int .i64 ((kS N k m : Nat) : Int)) ∧ MidB lo md w w' ∧ MkR w' lo md a m N C k := by
 rcases h with rfl | ⟨g,q,rfl,hO⟩
 ·refine (markFs_none a cap _ w).mono ?_
  rintro e w' ⟨rfl,rfl⟩
  exact ⟨rfl,MidB.refl _ _ _, .inl rfl⟩
 ·refine (markFs_any lo md g m cap k N C q w hO hm hN h0 hk).mono ?_
  rintro e w' ⟨rfl,h1,h2,h3⟩
  exact ⟨rfl,h2, .inr ⟨g,q,rfl,⟨h1.1.1,h1.1.2.1⟩,fun i hi => ⟨(h1.2.2.1 i hi).1.1,(h1.2.2.1 i hi).1.2.1⟩,h3⟩⟩
theorem heldFsK_any (lo md : Nat) (a : Option Addr) (m cap k : Nat) (N C : Nat → Nat) (w : World) (h : MkR w lo md a m N C k) (hmd : md ≤ w.heap.size) (hm : m ≤ 1048576) (hN : ∀ i,i < m → N i ≤ 1048576) (h0 : 0 < k) (hk : k ≤ 5000000000000000000) :
  Calls Tryz.prog 168 #[.slice a m cap, .int .i64 (k : Int)] w fun e w' => e = .returned (.int .i64 ((kS N k m : Nat) : Int)) ∧ Below w.heap.size w w' := by
 rcases h with rfl | ⟨g,q,rfl,h1,h2,h3⟩
 ·refine (heldFs_none a cap _ w).mono ?_
  rintro e w' ⟨rfl,rfl⟩
  exact ⟨rfl,Below.refl _ _⟩
 ·exact heldFs_any g m cap k N C q w h3 (by omega) (fun i hi => by have := h2 i hi; omega) hm hN h0 hk
theorem markNsK_any (md hi : Nat) (a : Option Addr) (m cap k : Nat) (w : World) (h : m = 0 ∨ ∃ ib,a = some ⟨ib,0,none⟩ ∧ md ≤ ib ∧ ib < hi ∧ There w ib m) (hh : hi ≤ w.heap.size) (hm : m ≤ 1048576) (hk : k ≤ 6000000000000000000) :
  Calls Tryz.prog 131 #[.slice a m cap, .int .i64 (k : Int)] w fun e w' => e = .returned (.int .i64 ((k + m : Nat) : Int)) ∧ MidB md hi w w' ∧ (m = 0 ∨ ∃ ib,a = some ⟨ib,0,none⟩ ∧ md ≤ ib ∧ ib < hi ∧ NsAt w' ib 0 m (mkN k)) := by
 rcases h with rfl | ⟨ib,rfl,h1,h2,h3⟩
 ·refine (markInt64S_none a cap _ w).mono ?_
  rintro e w' ⟨rfl,rfl⟩
  exact ⟨rfl,MidB.refl _ _ _, .inl rfl⟩
 ·refine (markInt64S_any ib m cap k w h3 (by omega) hm hk).mono ?_
  rintro e w' ⟨rfl,h4,h5,h6⟩
  exact ⟨rfl,MidB.of_grown h4 h1 h2, .inr ⟨ib,rfl,h1,h2,h6⟩⟩
def lay3 (W : World) (g j k : Nat) : World := ((W.setCell ⟨g,j * 5,none⟩ (.int .i64 (k : Nat))).setCell ⟨g,j * 5 + 1,none⟩ (.int .i64 ((k + 1 : Nat) : Int))).setCell ⟨g,j * 5 + 2,none⟩ (.int .i64 ((k + 2 : Nat) : Int))
theorem lay3_mid (W : World) (g j k : Nat) : MidB g (g + 1) W (lay3 W g j k) := (((MidB.refl g (g + 1) W).set (Nat.le_refl _) (Nat.lt_succ_self _) _ _).set (Nat.le_refl _) (Nat.lt_succ_self _) _ _).set (Nat.le_refl _) (Nat.lt_succ_self _) _ _
theorem lay3_there {W : World} {g j k m : Nat} (h : There W g m) : There (lay3 W g j k) g m := ((h.set _ _).set _ _).set _ _
theorem lay3_other {W : World} {g j k : Nat} {p : Addr} (h : p.block ≠ g ∨ p.off < j * 5 ∨ j * 5 + 2 < p.off) : (lay3 W g j k).cell? p = W.cell? p := by
 have ne : ∀ i : Nat,i ≤ 2 → (⟨g,j * 5 + i,none⟩ : Addr) ≠ p := fun i hi e => by subst e; simp at h; omega
 have ne0 : (⟨g,j * 5,none⟩ : Addr) ≠ p := ne 0 (by omega)
 unfold lay3
 rw [set1_other (ne 2 (by omega)),set1_other (ne 1 (by omega)),set1_other ne0]
theorem lay3_at {W : World} {g j k m : Nat} (h : There W g m) (ho : j * 5 + 2 < m) : Rf3 (lay3 W g j k) g j k := by
 have ne : ∀ a b : Nat,a ≠ b → (⟨g,a,none⟩ : Addr) ≠ ⟨g,b,none⟩ := fun a b hab e => hab (by injection e)
 obtain ⟨u0,g0⟩ := (h (j * 5) (by omega)).1
 obtain ⟨u1,g1⟩ := ((h.set (j * 5) (.int .i64 (k : Nat))) (j * 5 + 1) (by omega)).1
 obtain ⟨u2,g2⟩ := (((h.set (j * 5) (.int .i64 (k : Nat))).set (j * 5 + 1) (.int .i64 ((k + 1 : Nat) : Int))) (j * 5 + 2) (by omega)).1
 unfold lay3
 refine ⟨?_,?_,?_⟩
 ·rw [set1_other (ne _ _ (by omega)),set1_other (ne _ _ (by omega))]; exact set1_same g0
 ·rw [set1_other (ne _ _ (by omega))]; exact set1_same g1
 ·exact set1_same g2
def MkAt (w : World) (g n j : Nat) (R : Nat → Kp) (M : Nat → Nat) (k0 : Nat) : Prop := There w g (n * 5) ∧ M n ≤ w.heap.size ∧ (∀ i,i < n → Sl2 w g i (R i)) ∧ (∀ i,j ≤ i → i < n → TlW w (M i) (M (i + 1)) (R i)) ∧ ∀ i,i < j → Rf3 w g i (kK R k0 i) ∧ TlM w (M i) (M (i + 1)) (R i) (kK R k0 i)
theorem mark_stepK {wr w5 w6 : World} {g n j k0 md : Nat} {R : Nat → Kp} {M : Nat → Nat} (hA : MkAt wr g n j R M k0) (hj : j < n) (hg : g < M 0) (hM : ∀ j,j < n → M j ≤ M (j + 1))
  (hm : M j ≤ md ∧ md ≤ M (j + 1)) (h5 : MidB (M j) md (lay3 wr g j (kK R k0 j)) w5) (hR : MkR w5 (M j) md (R j).fa (R j).fn (ptN (R j)) (ptC (R j)) (kK R k0 j + 3))
  (h6 : MidB md (M (j + 1)) w5 w6) (hI : (R j).m = 0 ∨ ∃ ib,(R j).ia = some ⟨ib,0,none⟩ ∧ md ≤ ib ∧ ib < M (j + 1) ∧ NsAt w6 ib 0 (R j).m (mkN (kS (ptN (R j)) (kK R k0 j + 3) (R j).fn))) :
  MkAt w6 g n (j + 1) R M k0 ∧ MidB g (M n) wr w6 := by
 obtain ⟨a1,a2,a3,a4,a5⟩ := hA
 have hu := fun i j (a : i ≤ j) (b : j ≤ n) => upM hM a b
 have u0 := hu 0 j (Nat.zero_le _) (by omega)
 have u1 := hu (j + 1) n (by omega) (Nat.le_refl _)
 have hl := lay3_mid wr g j (kK R k0 j)
 have hw : ∀ {lo hi lo' hi' : Nat} {a b : World},MidB lo' hi' a b → lo ≤ lo' → hi' ≤ hi → MidB lo hi a b := fun h h1 h2 => ⟨h.os,h.tape,h.output,h.size,fun k hk ho => h.block k hk (by omega)⟩
 have hall : MidB g (M n) wr w6 := (hw hl (Nat.le_refl _) (by omega)).trans ((hw h5 (by omega) (by omega)).trans (hw h6 (by omega) (by omega)))
 have h56 : MidB (M j) (M (j + 1)) (lay3 wr g j (kK R k0 j)) w6 := (hw h5 (Nat.le_refl _) hm.2).trans (hw h6 hm.1 (Nat.le_refl _))
 refine ⟨⟨h56.there (lay3_there a1) (.inl (by omega)),Nat.le_trans a2 hall.size,fun i hi => ?_,fun i hi hin => ?_,fun i hi => ?_⟩,hall⟩
 ·have h := a3 i hi
  refine Sl2.mid (w := lay3 wr g j (kK R k0 j)) ⟨?_,?_⟩ h56 (.inl (by omega))
  ·rw [lay3_other (by simp; omega)]; exact h.1
  ·rw [lay3_other (by simp; omega)]; exact h.2
 ·have := hu (j + 1) i hi (by omega)
  exact ((a4 i (by omega) hin).mid hl (.inl (by have := hu 0 i (Nat.zero_le _) (by omega); omega))).mid h56 (.inl (by omega))
 ·by_cases e : i = j
  ·subst e
   refine ⟨(lay3_at a1 (by omega)).mid h56 (.inl (by omega)),md,hm.1,hm.2,?_,hR.mid h6 (.inr (Nat.le_refl _)),hI⟩
   exact Nat.le_trans u1 (Nat.le_trans a2 hall.size)
  ·have hij : i < j := by omega
   have := hu (i + 1) j (by omega) (by omega)
   have u2 := hu 0 i (Nat.zero_le _) (by omega)
   refine ⟨?_,((a5 i hij).2.mid hl (.inl (by omega))).mid h56 (.inr (by omega))⟩
   have h := (a5 i hij).1
   refine Rf3.mid (w := lay3 wr g j (kK R k0 j)) ⟨?_,?_,?_⟩ h56 (.inl (by omega))
   ·rw [lay3_other (by simp; omega)]; exact h.1
   ·rw [lay3_other (by simp; omega)]; exact h.2.1
   ·rw [lay3_other (by simp; omega)]; exact h.2.2
theorem markKeptS_any (g n cap k0 : Nat) (R : Nat → Kp) (M : Nat → Nat) (w : World) (hW : KsW w g n R M) (hs : SmallKs n R) (h0 : 0 < k0) (hk0 : k0 ≤ 1000000000) :
  Calls Tryz.prog 83 #[.slice (some ⟨g,0,none⟩) n cap, .int .i64 (k0 : Int)] w fun e w' => e = .returned (.int .i64 ((kK R k0 n : Nat) : Int)) ∧ KsM w' g n R M k0 ∧ MidB g (M n) w w' := by
 obtain ⟨hT,hg,hall,hMn⟩ := hW
 have HS : Hid (SmallKs n R) := hs
 have hn : n ≤ 1048576 := hs.1
 have HMl : Hid (∀ j,j < n → M j ≤ M (j + 1)) := fun j hj => (hall j hj).1
 have HA0 : Hid (MkAt w g n 0 R M k0) := ⟨hT,hMn,fun i hi => (hall i hi).2.1,fun i _ hi => (hall i hi).2.2,fun i hi => by omega⟩
 have hgl : g < w.heap.size := by have := upM HMl.out (Nat.zero_le n) (Nat.le_refl _); omega
 clear hT hall hs hMn
 go_enter Tryz.func83,Tryz.ntmps83
 go_wp2_with fail
 go_loopw [1,5] (fun kk i wr => ∃ j K : Nat,j ≤ n ∧ Hid (K = kK R k0 j) ∧ kk = .int .i64 (K : Int) ∧ i = .int .i64 (j : Int) ∧ MkAt wr g n j R M k0 ∧ MidB g (M n) w wr) (fun _ i _ => n - (intOf i).toNat)
 case atStart => exact ⟨0,k0,by omega,rfl,rfl,rfl,HA0.out,MidB.refl _ _ _⟩
 case round =>
  obtain ⟨j,K,hj,HK,rfl,rfl,hA,hMd⟩ := hrel
  have HA : Hid (MkAt wr g n j R M k0) := hA
  have HMd : Hid (MidB g (M n) w wr) := hMd
  by_cases hlt : j < n
  ·have hKb : K ≤ 2400000000000000000 := by have := HK.out; have := (kK_small HS.out hk0 (j := j) (by omega)).2; omega
   have hK0 : 0 < K := by have := HK.out; have := (kK_small HS.out hk0 (j := j) (by omega)).1; omega
   have hsm := HS.out.2 j hlt
   obtain ⟨md,m1,m2,m3,m4,m5⟩ := hA.2.2.2.1 j (Nat.le_refl _) hlt
   have hT := hA.1
   have t0 := hT.cell (j * 5) (by omega)
   have t1 := hT.cell (j * 5 + 1) (by omega)
   have t2 := hT.cell (j * 5 + 2) (by omega)
   have f0 := (hT (j * 5) (by omega)).2
   have f1 := (hT (j * 5 + 1) (by omega)).2
   have f2 := (hT (j * 5 + 2) (by omega)).2
   have hS2 := hA.2.2.1 j hlt
   have HLT : Hid (j < n) := hlt
   have hi : (j : Int) < (n : Int) := by omega
   have hi0 : (0 : Int) ≤ (j : Int) := by omega
   have hgr : g < wr.heap.size := Nat.lt_of_lt_of_le hgl hMd.size
   have e3 : (K : Int) + 1 + 1 + 1 = ((K + 3 : Nat) : Int) := by omega
   have e2 : (K : Int) + 1 + 1 = ((K + 2 : Nat) : Int) := by omega
   have e1 : (K : Int) + 1 = ((K + 1 : Nat) : Int) := by omega
   have E := (show Hid _ from (⟨e3,e2,e1⟩ : _ ∧ _ ∧ _))
   have hu0 := upM HMl.out (Nat.zero_le j) (by omega)
   have HF : Hid (∀ W,MidB g (g + 1) wr W → Calls Tryz.prog 130 #[.slice (R j).fa (R j).fn (R j).fc, .int .i64 ((K + 3 : Nat) : Int)] W fun e w' => e = .returned (.int .i64 ((kS (ptN (R j)) (K + 3) (R j).fn : Nat) : Int)) ∧ MidB (M j) md W w' ∧ MkR w' (M j) md (R j).fa (R j).fn (ptN (R j)) (ptC (R j)) (K + 3)) := fun W h =>
    markFsK_any (M j) md _ _ _ (K + 3) _ _ W (m4.away h (.inl (by omega))) hsm.1.1 (fun i hi => (hsm.1.2 i hi).1) (by omega) (by omega)
   have HI : Hid (∀ (W : World) (k : Nat),k ≤ 6000000000000000000 → MidB g md wr W → Calls Tryz.prog 131 #[.slice (R j).ia (R j).m (R j).ic, .int .i64 (k : Int)] W fun e w' => e = .returned (.int .i64 ((k + (R j).m : Nat) : Int)) ∧ MidB md (M (j + 1)) W w' ∧ ((R j).m = 0 ∨ ∃ ib,(R j).ia = some ⟨ib,0,none⟩ ∧ md ≤ ib ∧ ib < M (j + 1) ∧ NsAt w' ib 0 (R j).m (mkN k))) := fun W k hk h =>
    markNsK_any md (M (j + 1)) _ _ _ k W (m5.imp id (fun ⟨ib,e,a,b,c⟩ => ⟨ib,e,a,b,h.there c (.inr a)⟩)) (Nat.le_trans m3 h.size) hsm.2 hk
   have HSS : Hid (kS (ptN (R j)) (K + 3) (R j).fn ≤ 6000000000000000000) := by show _ ≤ _; have := (kS_small (k := K + 3) hsm).2; omega
   have HNx : Hid (kS (ptN (R j)) (K + 3) (R j).fn + (R j).m = kK R k0 (j + 1)) := by show _ = _; rw [kK, ← HK.out]; rfl
   have Hm : Hid (M j ≤ md ∧ md ≤ M (j + 1)) := ⟨m1,m2⟩
   have HS2 : Hid (Sl2 wr g j (R j)) := hS2
   have HT : Hid (There wr g (n * 5)) := hT
   have c3 := hS2.1
   have hgj : g < M j := by omega
   clear hA hMd hT e3 e2 e1 m3 m4 m5 m1 m2 hS2 hsm hu0 hj
   go_wp2_with fail
   rw [E.out.1,E.out.2.1,E.out.2.2]
   have hL : ((wr.setCell ⟨g,j * 5,none⟩ (.int .i64 (K : Nat))).setCell ⟨g,j * 5 + 1,none⟩ (.int .i64 ((K + 1 : Nat) : Int))).setCell ⟨g,j * 5 + 2,none⟩ (.int .i64 ((K + 2 : Nat) : Int)) = lay3 wr g j K := rfl
   rw [hL]
   have HL := lay3_mid wr g j K
   refine (HF.out _ HL).mono ?_
   rintro e w5 ⟨rfl,hM5,hR5⟩
   have hs5 := hM5.size
   have HM5 : Hid (MidB (M j) md (lay3 wr g j K) w5) := hM5
   have HR5 : Hid (MkR w5 (M j) md (R j).fa (R j).fn (ptN (R j)) (ptC (R j)) (K + 3)) := hR5
   have HgM : Hid (g < M j) := hgj
   have d4 : w5.cell? ⟨g,j * 5 + 4,none⟩ = some (.slice (R j).ia (R j).m (R j).ic) := hM5.cell (by rw [lay3_other (by simp)]; exact HS2.out.2) (.inl hgj)
   have hS6 := HSS.out
   have HI5 := (show Hid _ from HI.out w5 _ hS6 ((MidB.wide HL (Nat.le_refl _) (by have := Hm.out; omega)).trans (hM5.wide (by omega) (Nat.le_refl _))))
   clear hM5 hR5 HF HI t0 t1 t2 f0 f1 f2 c3 hL HL
   generalize hQ : kS (ptN (R j)) (K + 3) (R j).fn = Q at *
   go_wp2_with fail
   refine Calls.mono HI5.out ?_
   rintro e w6 ⟨rfl,hM6,hI6⟩
   have HM6 : Hid (MidB md (M (j + 1)) w5 w6) := hM6
   have HI6 := (show Hid _ from hI6)
   have hm3 := HS.out.2 j HLT.out
   clear hM6 hI6 HI5 d4
   generalize hmm : (R j).m = mm at *
   go_wp2_with fail
   go_roundw
   case rel =>
    have hst := mark_stepK (k0 := k0) HA.out HLT.out hg HMl.out Hm.out (by rw [← HK.out]; exact HM5.out) (by rw [← HK.out]; exact HR5.out) HM6.out (by rw [← HK.out,hmm,hQ]; exact HI6.out)
    exact ⟨j + 1,Q + mm,by omega,by show _ = _; exact HNx.out,rfl,by go_num,hst.1,HMd.out.trans hst.2⟩
   case measure => have := HLT.out; simp [intOf]; omega
  ·go_wp2
   go_ret
   have hjn : j = n := by omega
   subst hjn
   refine ⟨ret_int (by have := HK.out; omega),⟨hg,hA.2.1,fun i hi => ⟨HMl.out i hi,hA.2.2.1 i hi,(hA.2.2.2.2 i hi).1,(hA.2.2.2.2 i hi).2⟩⟩,hMd⟩
end Go.Proofs.YtiephlohemphjaaGreat
