/- Texts. -/
import Derived.Test.YtfkonhagjahgnaaGreatWTiles3
import Derived.Test.YtfkonhagjahgnaaGreatWTiles1
import Derived.Test.YtfkonhagjahgnaaGreatRows
import Derived.WalkKit
import Derived.WalkSpells
import Derived.WalkLawsBesides
import Derived.Outline
import Derived.Deep.RegionHeld3
import Derived.Below
import Derived.ProofKit
import Derived.OpenShut
import Derived.ChangeOld
import Derived.Deep.Slices
set_option linter.unusedSimpArgs false
set_option linter.unusedVariables false
set_option maxRecDepth 100000
set_option maxHeartbeats 32000000
namespace Go.Proofs.YtfkonhagjahgnaaGreat
open Go.RowKit
def sumZ (Z : Nat → Int) : Nat → Int
 | 0 => 1
 | k + 1 => (sumZ Z k * 31 + Z k) % 65521
theorem sumZ_bd (Z : Nat → Int) : ∀ n,0 ≤ sumZ Z n ∧ sumZ Z n < 65521
 | 0 => by simp [sumZ]
 | k + 1 => by unfold sumZ; omega
theorem sumOf_any (a : Option Addr) (n cap : Nat) (Z : Nat → Int) (w : World) (hp : IsBytes w a n Z) (hr : ∀ i,0 ≤ Z i ∧ Z i ≤ 255) (hmax : n ≤ 1048576) :
  Calls Tryz.prog 61 #[.slice a n cap] w fun e w' => e = .returned (.int .u64 (sumZ Z n)) ∧ w = w' := by
 have HP : Hid (IsBytes w a n Z) := hp
 clear hp
 have HR : Hid (∀ i,0 ≤ Z i ∧ Z i ≤ 255) := hr
 clear hr
 go_enter Tryz.func61,Tryz.ntmps61
 go_wp2
 go_loopw [3,8] (fun u i wr => ∃ k : Nat,k ≤ n ∧ i = .int .i64 (k : Int) ∧ u = .int .u64 (sumZ Z k) ∧ w = wr) (fun _ i _ => n - (intOf i).toNat)
 case atStart => exact ⟨0,by omega,rfl,rfl,rfl⟩
 case round =>
  obtain ⟨k,hk,rfl,rfl,rfl⟩ := hrel
  by_cases hlt : k < n
  ·rcases HP.out with h0 | ⟨b,off,rfl,hbl,hpt⟩
   ·omega
   have hx := hpt k hlt
   obtain ⟨z1,z2⟩ := HR.out k
   have hs : Hid (sumZ Z (k + 1) = (sumZ Z k * 31 + Z k) % 65521) := rfl
   obtain ⟨s1,s2⟩ := sumZ_bd Z k
   generalize sumZ Z k = x at *
   generalize Z k = y at *
   clear hpt
   have hi : (k : Int) < (n : Int) := by omega
   have hi0 : (0 : Int) ≤ (k : Int) := by omega
   have e1 : IntKind.u64.wrap (x * 31) = x * 31 := by rw [IntKind.wrap_u64]; omega
   have e2 : IntKind.u64.wrap y = y := by rw [IntKind.wrap_u64]; omega
   have e3 : IntKind.u64.wrap (x * 31 + y) = x * 31 + y := by rw [IntKind.wrap_u64]; omega
   have e4 : (x * 31 + y).tmod 65521 = (x * 31 + y) % 65521 := Int.tmod_eq_emod_of_nonneg (by omega)
   have e5 : IntKind.u64.wrap ((x * 31 + y) % 65521) = (x * 31 + y) % 65521 := by rw [IntKind.wrap_u64]; omega
   go_wp2
   go_roundw
   case rel => exact ⟨k + 1,by omega,by go_num,by rw [hs.out],by first | rfl | trivial⟩
   case measure => simp [intOf]; omega
  ·go_wp2
   go_ret
   have hkn : k = n := by omega
   subst hkn
   exact ⟨rfl,rfl⟩
theorem l6Sum_any (a : Option Addr) (n cap : Nat) (Z : Nat → Int) (w : World) (hp : IsBytes w a n Z) (hr : ∀ i,0 ≤ Z i ∧ Z i ≤ 255) (hmax : n ≤ 1048576) :
  Calls Tryz.prog 82 #[.slice a n cap] w fun e w' => e = .returned (.int .i64 (sumZ Z n)) ∧ w = w' := by
 have HP : Hid (IsBytes w a n Z) := hp
 clear hp
 have HR : Hid (∀ i,0 ≤ Z i ∧ Z i ≤ 255) := hr
 clear hr
 go_enter Tryz.func82,Tryz.ntmps82
 go_wp2
 go_loopw [3,4] (fun u i wr => ∃ k : Nat,k ≤ n ∧ i = .int .i64 (k : Int) ∧ u = .int .i64 (sumZ Z k) ∧ w = wr) (fun _ i _ => n - (intOf i).toNat)
 case atStart => exact ⟨0,by omega,rfl,rfl,rfl⟩
 case round =>
  obtain ⟨k,hk,rfl,rfl,rfl⟩ := hrel
  by_cases hlt : k < n
  ·rcases HP.out with h0 | ⟨b,off,rfl,hbl,hpt⟩
   ·omega
   have hx := hpt k hlt
   obtain ⟨z1,z2⟩ := HR.out k
   have hs : Hid (sumZ Z (k + 1) = (sumZ Z k * 31 + Z k) % 65521) := rfl
   obtain ⟨s1,s2⟩ := sumZ_bd Z k
   generalize sumZ Z k = x at *
   generalize Z k = y at *
   clear hpt
   have hi : (k : Int) < (n : Int) := by omega
   have hi0 : (0 : Int) ≤ (k : Int) := by omega
   have e4 : (x * 31 + y).tmod 65521 = (x * 31 + y) % 65521 := Int.tmod_eq_emod_of_nonneg (by omega)
   go_wp2
   go_roundw
   case rel => exact ⟨k + 1,by omega,by go_num,by rw [hs.out],by first | rfl | trivial⟩
   case measure => simp [intOf]; omega
  ·go_wp2
   go_ret
   have hkn : k = n := by omega
   subst hkn
   exact ⟨rfl,rfl⟩
def sumV (n : Nat) (Z : Nat → Int) : Value := if 900 < n then .agg #[.int .i64 2, .int .i64 0] else .agg #[.int .i64 0, .int .i64 (sumZ Z n)]
theorem impl_SumBytes_any (a : Option Addr) (n cap : Nat) (Z : Nat → Int) (w : World) (hp : IsBytes w a n Z) (hr : ∀ i,0 ≤ Z i ∧ Z i ≤ 255) (hmax : n ≤ 1048576) :
  Calls Tryz.prog 31 #[.slice a n cap] w fun e w' => e = .returned (sumV n Z) ∧ Below w.heap.size w w' := by
 have HH : Hid (∀ W,Below w.heap.size w W → Calls Tryz.prog 61 #[.slice a n cap] W fun e w' => e = .returned (.int .u64 (sumZ Z n)) ∧ W = w') := fun W hb => sumOf_any a n cap Z W (hp.below hb) hr hmax
 obtain ⟨s1,s2⟩ := sumZ_bd Z n
 have e1 : IntKind.i64.wrap (sumZ Z n) = sumZ Z n := IntWalk.i64_in _ (by omega)
 clear hp hr
 by_cases h : 900 < n
 ·have hV : Hid (sumV n Z = .agg #[.int .i64 2, .int .i64 0]) := by show _ = _; simp [sumV,h]
  have h' : (900 : Int) < (n : Int) := by omega
  go_enter Tryz.func31,Tryz.ntmps31
  go_wp2
  exact bodyPost_ret (v := .agg #[.int .i64 2, .int .i64 0]) (by simp [results,Tryz.results31,go_sem]) rfl ⟨by rw [hV.out],by (repeat (first|exact Qr _ _|assumption|refine Qd ?_|refine Qa ?_ _|refine Qt ?_|refine Qs ?_ _|refine Qo ?_ ?_ _ _))⟩
 ·have hV : Hid (sumV n Z = .agg #[.int .i64 0, .int .i64 (sumZ Z n)]) := by show _ = _; simp [sumV,h]
  have h' : ¬ (900 : Int) < (n : Int) := by omega
  generalize sumZ Z n = x at *
  go_enter Tryz.func31,Tryz.ntmps31
  go_wp2_with (go_at_call 61; refine (HH.out _ (by (repeat (first|exact Qr _ _|assumption|refine Qd ?_|refine Qa ?_ _|refine Qt ?_|refine Qs ?_ _|refine Qo ?_ ?_ _ _)))).mono ?_; rintro e w' ⟨rfl,rfl⟩)
  exact bodyPost_ret (v := .agg #[.int .i64 0, .int .i64 x]) (by simp [results,Tryz.results31,go_sem,e1]) rfl ⟨by rw [hV.out],by (repeat (first|exact Qr _ _|assumption|refine Qd ?_|refine Qa ?_ _|refine Qt ?_|refine Qs ?_ _|refine Qo ?_ ?_ _ _))⟩
theorem spec_SumBytes_any (a : Option Addr) (n cap : Nat) (Z : Nat → Int) (w : World) (hp : IsBytes w a n Z) (hr : ∀ i,0 ≤ Z i ∧ Z i ≤ 255) (hmax : n ≤ 1048576) :
  Calls Tryz.prog 35 #[.slice a n cap] w fun e w' => e = .returned (sumV n Z) ∧ Below w.heap.size w w' := by
 have HH : Hid (∀ W,Below w.heap.size w W → Calls Tryz.prog 82 #[.slice a n cap] W fun e w' => e = .returned (.int .i64 (sumZ Z n)) ∧ W = w') := fun W hb => l6Sum_any a n cap Z W (hp.below hb) hr hmax
 clear hp hr
 by_cases h : 900 < n
 ·have hV : Hid (sumV n Z = .agg #[.int .i64 2, .int .i64 0]) := by show _ = _; simp [sumV,h]
  have h' : (900 : Int) < (n : Int) := by omega
  go_enter Tryz.func35,Tryz.ntmps35
  go_wp2
  exact bodyPost_ret (v := .agg #[.int .i64 2, .int .i64 0]) (by simp [results,Tryz.results35,go_sem]) rfl ⟨by rw [hV.out],by (repeat (first|exact Qr _ _|assumption|refine Qd ?_|refine Qa ?_ _|refine Qt ?_|refine Qs ?_ _|refine Qo ?_ ?_ _ _))⟩
 ·have hV : Hid (sumV n Z = .agg #[.int .i64 0, .int .i64 (sumZ Z n)]) := by show _ = _; simp [sumV,h]
  have h' : ¬ (900 : Int) < (n : Int) := by omega
  generalize sumZ Z n = x at *
  go_enter Tryz.func35,Tryz.ntmps35
  go_wp2_with (go_at_call 82; refine (HH.out _ (by (repeat (first|exact Qr _ _|assumption|refine Qd ?_|refine Qa ?_ _|refine Qt ?_|refine Qs ?_ _|refine Qo ?_ ?_ _ _)))).mono ?_; rintro e w' ⟨rfl,rfl⟩)
  exact bodyPost_ret (v := .agg #[.int .i64 0, .int .i64 x]) (by simp [results,Tryz.results35,go_sem]) rfl ⟨by rw [hV.out],by (repeat (first|exact Qr _ _|assumption|refine Qd ?_|refine Qa ?_ _|refine Qt ?_|refine Qs ?_ _|refine Qo ?_ ?_ _ _))⟩
structure Keeps (s : Nat) (w w' : World) : Prop where
 os : w'.os = w.os
 tape : w'.tape = w.tape
 output : w'.output = w.output
 size : w.heap.size ≤ w'.heap.size
 block : ∀ k,k < w.heap.size → k ≠ s → w'.heap[k]? = w.heap[k]?
theorem Keeps.refl (s : Nat) (w : World) : Keeps s w w := ⟨rfl,rfl,rfl,Nat.le_refl _,fun _ _ _ => rfl⟩
theorem Keeps.trans {s : Nat} {a b c : World} (h : Keeps s a b) (k : Keeps s b c) : Keeps s a c :=
 ⟨k.os.trans h.os,k.tape.trans h.tape,k.output.trans h.output,Nat.le_trans h.size k.size,fun j hj hs => (k.block j (Nat.lt_of_lt_of_le hj h.size) hs).trans (h.block j hj hs)⟩
theorem Keeps.of_below {s : Nat} {w w' : World} (h : Below w.heap.size w w') : Keeps s w w' := ⟨h.os,h.tape,h.output,h.size,fun k hk _ => h.block k hk⟩
theorem Keeps.cell {s : Nat} {w w' : World} (h : Keeps s w w') {p : Addr} (hp : p.block < w.heap.size) (hs : p.block ≠ s) : w'.cell? p = w.cell? p := World.cell?_of_block (w := w) (h.block _ hp hs)
theorem Keeps.frozen {s : Nat} {w w' : World} (h : Keeps s w w') {p : Addr} (hp : p.block < w.heap.size) (hs : p.block ≠ s) : w'.frozen? p = w.frozen? p := World.frozen?_of_block (w := w) (h.block _ hp hs)
theorem Keeps.drew {s : Nat} {a w : World} (h : Keeps s a w) : Keeps s a w.drew := ⟨h.os,h.tape,h.output,h.size,h.block⟩
theorem Keeps.set {s : Nat} {a w : World} (h : Keeps s a w) (o : Nat) (v : Value) : Keeps s a (w.setCell ⟨s,o,none⟩ v) := by
 refine h.trans ?_
 have hb : Below s w (w.setCell ⟨s,o,none⟩ v) := (Below.refl s w).setCell (Nat.le_refl _) v
 exact ⟨hb.os,hb.tape,hb.output,hb.size,fun k _ hk => Below.heap_setCell w ⟨s,o,none⟩ v k hk⟩
theorem Keeps.below {s B : Nat} {w w' : World} (h : Keeps s w w') (hB : B ≤ s) (hBw : B ≤ w.heap.size) : Below B w w' := ⟨h.os,h.tape,h.output,h.size,fun k hk => h.block k (by omega) (by omega)⟩
def Bytes (w : World) (a : Option Addr) (n s : Nat) (Z : Nat → Int) : Prop :=
 n = 0 ∨ ∃ b off,a = some ⟨b,off,none⟩ ∧ b < s ∧ ∀ i,i < n → w.cell? ⟨b,off + i,none⟩ = some (.int .u8 (Z i))
structure Src (a : Option Addr) (n cap : Nat) (Z : Nat → Int) (s t : Nat) (w : World) : Prop where
 code : w.cell? ⟨s,0,none⟩ = some (.slice a n cap)
 at' : w.cell? ⟨s,1,none⟩ = some (.int .i64 t)
 wr : w.frozen? ⟨s,1,none⟩ = false
 bytes : Bytes w a n s Z
 rng : ∀ i,0 ≤ Z i ∧ Z i ≤ 255
 max : n ≤ 1048576
theorem Src.below {a : Option Addr} {n cap : Nat} {Z : Nat → Int} {s t : Nat} {w w' : World} (h : Src a n cap Z s t w) (hb : Below w.heap.size w w') : Src a n cap Z s t w' := by
 have hl := World.block_lt_of_cell? _ _ h.code
 refine ⟨(hb.cell (p := ⟨s,0,none⟩) hl).trans h.code,(hb.cell (p := ⟨s,1,none⟩) hl).trans h.at',(hb.frozen (p := ⟨s,1,none⟩) hl).trans h.wr,?_,h.rng,h.max⟩
 rcases h.bytes with h0 | ⟨b,off,e,hs,hz⟩
 ·exact .inl h0
 ·have hl' : s < w.heap.size := hl
  exact .inr ⟨b,off,e,hs,fun i hi => (hb.cell (p := ⟨b,off + i,none⟩) (show b < _ by omega)).trans (hz i hi)⟩
theorem Src.step {a : Option Addr} {n cap : Nat} {Z : Nat → Int} {s t : Nat} {w : World} (h : Src a n cap Z s t w) : Src a n cap Z s (t + 1) (w.setCell ⟨s,1,none⟩ (.int .i64 ((t : Int) + 1))) := by
 refine ⟨?_,?_,?_,?_,h.rng,h.max⟩
 ·rw [World.cell?_setCell_other]
  ·exact h.code
  ·simp
 ·exact World.cell?_setCell_same _ _ _ h.at'
 ·rw [World.frozen?_setCell]; exact h.wr
 ·rcases h.bytes with h0 | ⟨b,off,e,hs,hz⟩
  ·exact .inl h0
  ·refine .inr ⟨b,off,e,hs,fun i hi => ?_⟩
   rw [World.cell?_setCell_other]
   ·exact hz i hi
   ·intro hc; injection hc with hc; omega
theorem Src.drew {a : Option Addr} {n cap : Nat} {Z : Nat → Int} {s t : Nat} {w : World} (h : Src a n cap Z s t w) : Src a n cap Z s t w.drew := ⟨h.code,h.at',h.wr,h.bytes,h.rng,h.max⟩
theorem l1Next_none (a : Option Addr) (cap : Nat) (Z : Nat → Int) (s t m : Nat) (w : World) (h : Src a 0 cap Z s t w) (ht : t ≤ 1000) (hm : 0 < m) (hmx : m ≤ 100000) :
  Calls Tryz.prog 37 #[.pointer (some ⟨s,0,none⟩), .int .i64 m] w fun e w' => ∃ v : Nat,e = .returned (.int .i64 v) ∧ v < m ∧ Src a 0 cap Z s (t + 1) w' ∧ Keeps s w w' := by
 have HS : Hid (Src a 0 cap Z s t w) := h
 have hc := h.code
 have ha := h.at'
 have hf := h.wr
 clear h
 obtain ⟨r,hr⟩ : ∃ r,(t * 7) % m = r := ⟨_,rfl⟩
 have hrl : r < m := by rw [← hr]; exact Nat.mod_lt _ hm
 have hme : ((t : Int) * 7) % (m : Int) = (r : Int) := by rw [← hr]; simp
 have hmt : ((t : Int) * 7).tmod (m : Int) = (r : Int) := by
  rw [Int.tmod_eq_emod_of_nonneg (by omega)]; exact hme
 have hm0 : ¬ m = 0 := by omega
 have hm1 : ¬ (m : Int) < 1 := by omega
 have hsame := World.cell?_setCell_same w ⟨s,1,none⟩ (.int .i64 ((t : Int) + 1)) ha
 go_enter Tryz.func37,Tryz.ntmps37
 go_wp2
 go_ret
 exact ⟨r,rfl,hrl,HS.out.step,(Keeps.refl _ _).set _ _⟩
theorem l1Next_some (b off n cap : Nat) (Z : Nat → Int) (s t m : Nat) (w : World) (h : Src (some ⟨b,off,none⟩) n cap Z s t w) (hbs : b < s) (hz : ∀ i,i < n → w.cell? ⟨b,off + i,none⟩ = some (.int .u8 (Z i))) (hn : 0 < n) (hcap : n ≤ cap) (ht : t ≤ 1000) (hm : 0 < m) (hmx : m ≤ 100000) :
  Calls Tryz.prog 37 #[.pointer (some ⟨s,0,none⟩), .int .i64 m] w fun e w' => ∃ v : Nat,e = .returned (.int .i64 v) ∧ v < m ∧ Src (some ⟨b,off,none⟩) n cap Z s (t + 1) w' ∧ Keeps s w w' := by
 have HS : Hid (Src (some ⟨b,off,none⟩) n cap Z s t w) := h
 have hmax := h.max
 have hc := h.code
 have ha := h.at'
 have hf := h.wr
 obtain ⟨i1,hi1⟩ : ∃ r,t % n = r := ⟨_,rfl⟩
 obtain ⟨i2,hi2⟩ : ∃ r,(t + 1) % n = r := ⟨_,rfl⟩
 obtain ⟨q,hq⟩ : ∃ r,t / n = r := ⟨_,rfl⟩
 have l1 : i1 < n := by rw [← hi1]; exact Nat.mod_lt _ hn
 have l2 : i2 < n := by rw [← hi2]; exact Nat.mod_lt _ hn
 have lq : q ≤ t := by rw [← hq]; exact Nat.div_le_self _ _
 have z1 := hz i1 l1
 have z2 := hz i2 l2
 have r1 := h.rng i1
 have r2 := h.rng i2
 generalize Z i1 = y1 at z1 r1
 generalize Z i2 = y2 at z2 r2
 clear h hz
 have hme : (t : Int) % (n : Int) = (i1 : Int) := by rw [← hi1]; simp
 have hmt : (t : Int).tmod (n : Int) = (i1 : Int) := by rw [Int.tmod_eq_emod_of_nonneg (by omega)]; exact hme
 have hne : ((t : Int) + 1) % (n : Int) = (i2 : Int) := by rw [← hi2]; simp
 have hnt : ((t : Int) + 1).tmod (n : Int) = (i2 : Int) := by rw [Int.tmod_eq_emod_of_nonneg (by omega)]; exact hne
 have hde : (t : Int) / (n : Int) = (q : Int) := by rw [← hq]; simp
 have hdt : (t : Int).tdiv (n : Int) = (q : Int) := by rw [Int.tdiv_eq_ediv_of_nonneg (by omega)]; exact hde
 clear hi1 hi2 hq
 have n0 : ¬ n = 0 := by omega
 have n0b : ((n : Int) == 0) = false := by simp; omega
 have m1 : ¬ (m : Int) < 1 := by omega
 have m0 : ¬ m = 0 := by omega
 have g1 : (i1 : Int) < (n : Int) := by omega
 have g2 : (i2 : Int) < (n : Int) := by omega
 have g3 : (0 : Int) ≤ (i1 : Int) := by omega
 have g4 : (0 : Int) ≤ (i2 : Int) := by omega
 obtain ⟨a1,a2⟩ := r1
 obtain ⟨b1,b2⟩ := r2
 have w0 : IntKind.i64.wrap y1 = y1 := IntWalk.i64_in _ (by omega)
 have w0' : IntKind.i64.wrap y2 = y2 := IntWalk.i64_in _ (by omega)
 have w1 : IntKind.i64.wrap (q : Int) = (q : Int) := IntWalk.i64_in _ (by omega)
 have w2 : IntKind.i64.wrap ((q : Int) * 37) = (q : Int) * 37 := IntWalk.i64_in _ (by omega)
 have w3 : IntKind.i64.wrap (y1 + (q : Int) * 37) = y1 + (q : Int) * 37 := IntWalk.i64_in _ (by omega)
 have w4 : IntKind.i64.wrap ((y1 + (q : Int) * 37) * 251) = (y1 + (q : Int) * 37) * 251 := IntWalk.i64_in _ (by omega)
 have w5 : IntKind.i64.wrap (y2 * 13) = y2 * 13 := IntWalk.i64_in _ (by omega)
 have w6 : IntKind.i64.wrap ((y1 + (q : Int) * 37) * 251 + y2 * 13) = (y1 + (q : Int) * 37) * 251 + y2 * 13 := IntWalk.i64_in _ (by omega)
 have w7 : IntKind.i64.wrap ((y1 + (q : Int) * 37) * 251 + y2 * 13 + (t : Int)) = (y1 + (q : Int) * 37) * 251 + y2 * 13 + (t : Int) := IntWalk.i64_in _ (by omega)
 have w8 : IntKind.i64.wrap ((t : Int) + 1) = (t : Int) + 1 := IntWalk.i64_in _ (by omega)
 have hsame : (w.setCell ⟨s,1,none⟩ (.int .i64 ((t : Int) + 1))).cell? ⟨s,1,none⟩ = some (.int .i64 ((t : Int) + 1)) := World.cell?_setCell_same _ _ _ ha
 have hcode : (w.setCell ⟨s,1,none⟩ (.int .i64 ((t : Int) + 1))).cell? ⟨s,0,none⟩ = some (.slice (some ⟨b,off,none⟩) n cap) := by
  rw [World.cell?_setCell_other]
  ·exact hc
  ·simp
 have hz1 : (w.setCell ⟨s,1,none⟩ (.int .i64 ((t : Int) + 1))).cell? ⟨b,off + i1,none⟩ = some (.int .u8 y1) := by
  rw [World.cell?_setCell_other]
  ·exact z1
  ·intro e; injection e with e; omega
 have hz2 : (w.setCell ⟨s,1,none⟩ (.int .i64 ((t : Int) + 1))).cell? ⟨b,off + i2,none⟩ = some (.int .u8 y2) := by
  rw [World.cell?_setCell_other]
  ·exact z2
  ·intro e; injection e with e; omega
 by_cases hbig : 200 < m
 ·obtain ⟨v,hv⟩ : ∃ v : Nat,((y1 + (q : Int) * 37) * 251 + y2 * 13 + (t : Int)) % (m : Int) = (v : Int) := ⟨(((y1 + (q : Int) * 37) * 251 + y2 * 13 + (t : Int)) % (m : Int)).toNat,by rw [Int.toNat_of_nonneg (Int.emod_nonneg _ (by omega))]⟩
  have hvl : v < m := by have := Int.emod_lt_of_pos ((y1 + (q : Int) * 37) * 251 + y2 * 13 + (t : Int)) (show (0 : Int) < (m : Int) by omega); omega
  have hvt : ((y1 + (q : Int) * 37) * 251 + y2 * 13 + (t : Int)).tmod (m : Int) = (v : Int) := by rw [Int.tmod_eq_emod_of_nonneg (by omega)]; exact hv
  have hbi : (200 : Int) < (m : Int) := by omega
  go_enter Tryz.func37,Tryz.ntmps37
  go_wp2
  generalize hV : (w.setCell ⟨s,1,none⟩ (.int .i64 ((t : Int) + 1))) = V at *
  have HV := (show Hid _ from hV)
  clear hV
  go_region_held3 (fun W' => W' = V.drew) (first | rfl | assumption) (fail)
  go_wp2
  go_region_held3 (fun W' => W' = V.drew.drew) (first | rfl | assumption) (fail)
  go_wp2
  go_ret
  have e1 : Src (some ⟨b,off,none⟩) n cap Z s (t + 1) V := by rw [← HV.out]; exact HS.out.step
  have e2 : Keeps s w V := by rw [← HV.out]; exact (Keeps.refl _ _).set _ _
  exact ⟨v,rfl,hvl,e1.drew.drew,e2.drew.drew⟩
 ·obtain ⟨v,hv⟩ : ∃ v : Nat,(y1 + (q : Int) * 37) % (m : Int) = (v : Int) := ⟨((y1 + (q : Int) * 37) % (m : Int)).toNat,by rw [Int.toNat_of_nonneg (Int.emod_nonneg _ (by omega))]⟩
  have hvl : v < m := by have := Int.emod_lt_of_pos (y1 + (q : Int) * 37) (show (0 : Int) < (m : Int) by omega); omega
  have hvt : (y1 + (q : Int) * 37).tmod (m : Int) = (v : Int) := by rw [Int.tmod_eq_emod_of_nonneg (by omega)]; exact hv
  have hbi : ¬ (200 : Int) < (m : Int) := by omega
  go_enter Tryz.func37,Tryz.ntmps37
  go_wp2
  generalize hV : (w.setCell ⟨s,1,none⟩ (.int .i64 ((t : Int) + 1))) = V at *
  have HV := (show Hid _ from hV)
  clear hV
  go_region_held3 (fun W' => W' = V.drew) (first | rfl | assumption) (fail)
  go_wp2
  go_ret
  have e1 : Src (some ⟨b,off,none⟩) n cap Z s (t + 1) V := by rw [← HV.out]; exact HS.out.step
  have e2 : Keeps s w V := by rw [← HV.out]; exact (Keeps.refl _ _).set _ _
  exact ⟨v,rfl,hvl,e1.drew,e2.drew⟩
theorem l1Next_any (a : Option Addr) (n cap : Nat) (Z : Nat → Int) (s t m : Nat) (w : World) (h : Src a n cap Z s t w) (hcap : n ≤ cap) (ht : t ≤ 1000) (hm : 0 < m) (hmx : m ≤ 100000) :
  Calls Tryz.prog 37 #[.pointer (some ⟨s,0,none⟩), .int .i64 m] w fun e w' => ∃ v : Nat,e = .returned (.int .i64 v) ∧ v < m ∧ Src a n cap Z s (t + 1) w' ∧ Keeps s w w' := by
 by_cases h0 : n = 0
 ·subst h0
  exact l1Next_none a cap Z s t m w h ht hm hmx
 ·rcases h.bytes with e | ⟨b,off,rfl,hs,hz⟩
  ·omega
  ·exact l1Next_some b off n cap Z s t m w h hs hz (by omega) hcap ht hm hmx

end Go.Proofs.YtfkonhagjahgnaaGreat
namespace Go.Proofs.YtfkonhagjahgnaaGreat
open Go.ChangeShapes Go.WideShapes Go.ChangeAt Go.RowKit
theorem own : ownKnob Tryz.prog.godebug = none := by kernel_rfl
theorem laidOut : laidOutB Tryz.prog = true := by kernel_rfl
theorem open_bytes {H : Type} {enc : TypeId × Value → H} {w : World} {base b0 : Nat} {held : Bool} {r : Reach} {v : Value} {d : DataW H} {p : List MemPlace}
  (hv : Value.okWide Tryz.prog w r b0 22 v) (h : DataW.Trod enc Tryz.prog w base (fun _ => true) held 22 v d p) :
  ∃ (a : Option Addr) (n cap : Nat) (Z : Nat → Int),v = .slice a n cap ∧ IsBytes w a n Z ∧ (∀ i,0 ≤ Z i ∧ Z i ≤ 255) ∧ n ≤ cap := by
 obtain ⟨a,len,cap,rfl⟩ := okWide_slice Tryz.underlying22 hv
 obtain ⟨fuel,hf⟩ := h
 rcases open_ints Tryz.underlying22 Tryz.underlying5 (by kernel_rfl) hf with ⟨hcs,_⟩ | ⟨x,l,c,zs,hcs,_,hl,hm,hz,_,hcell,hwz⟩
 ·simp [Value.cells] at hcs
  obtain ⟨rfl,rfl,rfl⟩ := hcs
  exact ⟨none,0,0,fun _ => 0,rfl, .inl rfl,fun _ => ⟨Int.le_refl _,by show (0 : Int) ≤ 255; omega⟩,Nat.le_refl _⟩
 ·simp [Value.cells] at hcs
  obtain ⟨rfl,rfl,rfl⟩ := hcs
  have hz' : zs.length = cap := by simpa using hz
  refine ⟨some x,len,cap,fun i => zs.getD i 0,rfl,?_,fun i => ?_,hl⟩
  ·by_cases h0 : len = 0
   ·exact .inl h0
   ·right
    obtain ⟨b,off,spot⟩ := x
    have e0 := hcell 0 (by omega)
    have hspot : spot = none := by simpa [Addr.add] using World.cell?_spot e0
    subst hspot
    refine ⟨b,off,rfl,?_,fun i hi => ?_⟩
    ·have := World.block_lt_of_cell? _ _ e0
     simpa [Addr.add] using this
    ·have := hcell i (by omega)
     have e : (⟨b,off,none⟩ : Addr).add i = ⟨b,off + i,none⟩ := by
      unfold Addr.add
      by_cases h : i = 0 <;> simp [h]
     rw [e] at this
     exact this
  ·by_cases hi : i < zs.length
   ·have hw := hwz zs[i] (List.getElem_mem hi)
    simp [Lit.wf,IntKind.min,IntKind.max,IntKind.signed,IntKind.bits] at hw
    simp [List.getD,hi]
    omega
   ·simp [List.getD,hi]
end Go.Proofs.YtfkonhagjahgnaaGreat
namespace Go.Proofs.YtfkonhagjahgnaaGreat
open Go.RowKit
end Go.Proofs.YtfkonhagjahgnaaGreat
