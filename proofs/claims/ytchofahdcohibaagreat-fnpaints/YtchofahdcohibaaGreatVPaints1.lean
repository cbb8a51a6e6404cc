/- Several texts in one. -/
import Derived.WalkKit
import Derived.Below
import Derived.Test.YtchofahdcohibaaGreatRows
import Derived.WalkSpells
import Derived.WalkLawsBesides
import Derived.Outline
import Derived.Deep.RegionHeld3

/- Plain definitions and facts about points and numbers: no program in sight. -/

namespace Go.Proofs.YtchofahdcohibaaGreat
open Go.RowKit

/-- v is from lo to hi. -/
def inB (v lo hi : Int) : Bool := decide (lo ≤ v) && decide (v ≤ hi)
/-- A point without a fault. -/
def okP (x y : Int) : Bool := inB x (-1024) 4096 && inB y (-1024) 4096
theorem okP_iff (x y : Int) : okP x y = true ↔ (-1024 ≤ x ∧ x ≤ 4096) ∧ (-1024 ≤ y ∧ y ≤ 4096) := by
  simp [okP, inB]
/-- The fault of a point. -/
def codeP (x y : Int) : Int := if okP x y = true then 0 else 3
theorem codeP_ok {x y : Int} (h : okP x y = true) : codeP x y = 0 := by simp [codeP, h]
theorem codeP_no {x y : Int} (h : okP x y = false) : codeP x y = 3 := by simp [codeP, h]
theorem okP_bd {x y : Int} (h : okP x y = true) : (-1024 ≤ x ∧ x ≤ 4096) ∧ (-1024 ≤ y ∧ y ≤ 4096) := (okP_iff x y).1 h

/-- The product of two numbers within bounds. -/
theorem mul_bd {a b B C : Int} (ha : -B ≤ a) (ha' : a ≤ B) (hb : -C ≤ b) (hb' : b ≤ C) (hB : 0 ≤ B) : -(B * C) ≤ a * b ∧ a * b ≤ B * C := by
  have h1 : a.natAbs ≤ B.natAbs := by omega
  have h2 : b.natAbs ≤ C.natAbs := by omega
  have h3 : (a * b).natAbs ≤ B.natAbs * C.natAbs := by rw [Int.natAbs_mul]; exact Nat.mul_le_mul h1 h2
  have h4 : ((B.natAbs * C.natAbs : Nat) : Int) = B * C := by rw [Int.natCast_mul, Int.natAbs_of_nonneg hB, Int.natAbs_of_nonneg (by omega)]
  omega

/-- What is below stays: all old cells, all old marks read as before. -/
theorem bcell {W w1 : World} (hb : Below W.heap.size W w1) : (∀ b o, b < W.heap.size → w1.cell? ⟨b, o, none⟩ = W.cell? ⟨b, o, none⟩) ∧ (∀ b o, b < W.heap.size → w1.frozen? ⟨b, o, none⟩ = W.frozen? ⟨b, o, none⟩) :=
  ⟨fun b o h => hb.cell (p := ⟨b, o, none⟩) h, fun b o h => hb.frozen (p := ⟨b, o, none⟩) h⟩

theorem bcell3 {W w1 : World} (hb : Below W.heap.size W w1) : (∀ b o, b < W.heap.size → w1.cell? ⟨b, o, none⟩ = W.cell? ⟨b, o, none⟩) ∧ (∀ b o, b < W.heap.size → w1.frozen? ⟨b, o, none⟩ = W.frozen? ⟨b, o, none⟩) ∧ (∀ b, b < W.heap.size → b < w1.heap.size) :=
  ⟨fun b o h => hb.cell (p := ⟨b, o, none⟩) h, fun b o h => hb.frozen (p := ⟨b, o, none⟩) h, fun _ h => Nat.lt_of_lt_of_le h hb.size⟩

/-- Below, one call behind another. -/
theorem bl_then {wr W w' : World} (hS : Below wr.heap.size wr W) (hb : Below W.heap.size W w') : Below wr.heap.size wr w' := hS.trans (hb.mono hS.size)
theorem bl_store {wr W V : World} (hS : Below wr.heap.size wr W) (hV : Below wr.heap.size wr V) (o : Nat) (u : Value) : Below wr.heap.size wr (W.setCell ⟨V.heap.size, o, none⟩ u) := hS.setCell hV.size u
theorem bl_alloc {wr W : World} (hS : Below wr.heap.size wr W) (o : Obj) : Below wr.heap.size wr (W.alloc o) := hS.alloc hS.size o

theorem ret_int {k : IntKind} {a b : Int} (h : a = b) : Ending.returned (.int k a) = .returned (.int k b) := by rw [h]
theorem ret_bool {a b : Bool} (h : a = b) : Ending.returned (.bool a) = .returned (.bool b) := by rw [h]

/-- Twice the area. -/
def crossI (ax ay bx by' cx cy : Int) : Int := (bx - ax) * (cy - ay) - (by' - ay) * (cx - ax)
/-- The square of the distance. -/
def distI (ax ay bx by' : Int) : Int := (bx - ax) * (bx - ax) + (by' - ay) * (by' - ay)
end Go.Proofs.YtchofahdcohibaaGreat
/- A region that stores into one block of its own while it calls: what is kept. -/

namespace Go.Proofs.YtchofahdcohibaaGreat
open Go.RowKit

/-- Block r has n cells that may be written. -/
def There (W : World) (r n : Nat) : Prop := ∀ o, o < n → (∃ v, W.cell? ⟨r, o, none⟩ = some v) ∧ W.frozen? ⟨r, o, none⟩ = false
/-- What a cell holds. -/
def cellOr (W : World) (r o : Nat) : Value := (W.cell? ⟨r, o, none⟩).getD undef
theorem There.cell {W : World} {r n : Nat} (h : There W r n) (o : Nat) (ho : o < n) : W.cell? ⟨r, o, none⟩ = some (cellOr W r o) := by
  obtain ⟨v, hv⟩ := (h o ho).1
  simp [cellOr, hv]
theorem There.below {W W' : World} {r n : Nat} (h : There W r n) (hb : Below W.heap.size W W') : There W' r n := fun o ho => by
  obtain ⟨v, hv⟩ := (h o ho).1
  have hlt : r < W.heap.size := World.block_lt_of_cell? W ⟨r, o, none⟩ hv
  exact ⟨⟨v, (hb.cell (p := ⟨r, o, none⟩) hlt).trans hv⟩, (hb.frozen (p := ⟨r, o, none⟩) hlt).trans (h o ho).2⟩
/-- Below B all is as in W, and block r may be written. -/
structure Reg (B : Nat) (W : World) (r n : Nat) (W' : World) : Prop where
  le : B ≤ W.heap.size
  bel : Below B W W'
  there : There W' r n
theorem Reg.call {B r n : Nat} {W W1 w' : World} (h : Reg B W r n W1) (hb : Below W1.heap.size W1 w') : Reg B W r n w' :=
  ⟨h.le, h.bel.trans (hb.mono (Nat.le_trans h.le h.bel.size)), h.there.below hb⟩
theorem Reg.drew {B r n : Nat} {W W1 : World} (h : Reg B W r n W1) : Reg B W r n W1.drew := ⟨h.le, h.bel.drew, h.there⟩
theorem Reg.alloc {B r n : Nat} {W W1 : World} (h : Reg B W r n W1) (o : Obj) : Reg B W r n (W1.alloc o) :=
  h.call (Below.alloc (Below.refl _ _) (Nat.le_refl _) o)
theorem Reg.start {B r n : Nat} {W : World} (hB : B ≤ W.heap.size) (ht : There W r n) : Reg B W r n W := ⟨hB, Below.refl _ _, ht⟩
theorem Reg.store {B r n : Nat} {W W1 : World} (h : Reg B W r n W1) (hr : B ≤ r) (o : Nat) (v : Value) : Reg B W r n (W1.setCell ⟨r, o, none⟩ v) :=
  ⟨h.le, h.bel.setCell hr v, fun o' ho => by
    obtain ⟨u, hu⟩ := (h.there o' ho).1
    refine ⟨?_, ?_⟩
    · by_cases e : o = o'
      · subst e
        exact ⟨v, World.cell?_setCell_same _ _ _ (by rw [hu])⟩
      · exact ⟨u, by rw [World.cell?_setCell_other]; exact hu; intro hc; exact e (by simpa using hc.symm)⟩
    · rw [World.frozen?_setCell]; exact (h.there o' ho).2⟩
/-- Two stores into one block, read back. -/
theorem set2_0 {W : World} {b : Nat} {v0 v1 : Value} (h0 : (W.cell? ⟨b, 0, none⟩).isSome = true) : ((W.setCell ⟨b, 0, none⟩ v0).setCell ⟨b, 1, none⟩ v1).cell? ⟨b, 0, none⟩ = some v0 := by
  obtain ⟨u, hu⟩ := Option.isSome_iff_exists.1 h0
  rw [World.cell?_setCell_other]
  · exact World.cell?_setCell_same _ _ _ (by rw [hu])
  · simp
theorem set2_1 {W : World} {b : Nat} {v0 v1 : Value} (h1 : (W.cell? ⟨b, 1, none⟩).isSome = true) : ((W.setCell ⟨b, 0, none⟩ v0).setCell ⟨b, 1, none⟩ v1).cell? ⟨b, 1, none⟩ = some v1 := by
  obtain ⟨u, hu⟩ := Option.isSome_iff_exists.1 h1
  refine World.cell?_setCell_same (u := u) _ _ _ ?_
  rw [World.cell?_setCell_other]
  · exact hu
  · simp
end Go.Proofs.YtchofahdcohibaaGreat
/- All but one block is as it was. -/

namespace Go.Proofs.YtchofahdcohibaaGreat
open Go.RowKit
set_option linter.unusedVariables false

/-- All that was there but block s is as it was. -/
structure Keeps (s : Nat) (w w' : World) : Prop where
  os : w'.os = w.os
  tape : w'.tape = w.tape
  output : w'.output = w.output
  size : w.heap.size ≤ w'.heap.size
  block : ∀ k, k < w.heap.size → k ≠ s → w'.heap[k]? = w.heap[k]?
theorem Keeps.refl (s : Nat) (w : World) : Keeps s w w := ⟨rfl, rfl, rfl, Nat.le_refl _, fun _ _ _ => rfl⟩
theorem Keeps.trans {s : Nat} {a b c : World} (h : Keeps s a b) (k : Keeps s b c) : Keeps s a c :=
  ⟨k.os.trans h.os, k.tape.trans h.tape, k.output.trans h.output, Nat.le_trans h.size k.size, fun j hj hs => (k.block j (Nat.lt_of_lt_of_le hj h.size) hs).trans (h.block j hj hs)⟩
theorem Keeps.of_below {s : Nat} {w w' : World} (h : Below w.heap.size w w') : Keeps s w w' := ⟨h.os, h.tape, h.output, h.size, fun k hk _ => h.block k hk⟩
theorem Keeps.cell {s : Nat} {w w' : World} (h : Keeps s w w') {p : Addr} (hp : p.block < w.heap.size) (hs : p.block ≠ s) : w'.cell? p = w.cell? p := World.cell?_of_block (w := w) (h.block _ hp hs)
theorem Keeps.frozen {s : Nat} {w w' : World} (h : Keeps s w w') {p : Addr} (hp : p.block < w.heap.size) (hs : p.block ≠ s) : w'.frozen? p = w.frozen? p := World.frozen?_of_block (w := w) (h.block _ hp hs)
theorem Keeps.drew {s : Nat} {a w : World} (h : Keeps s a w) : Keeps s a w.drew := ⟨h.os, h.tape, h.output, h.size, h.block⟩
theorem Keeps.set {s : Nat} {a w : World} (h : Keeps s a w) (o : Nat) (v : Value) : Keeps s a (w.setCell ⟨s, o, none⟩ v) := by
  refine h.trans ?_
  have hb : Below s w (w.setCell ⟨s, o, none⟩ v) := (Below.refl s w).setCell (Nat.le_refl _) v
  exact ⟨hb.os, hb.tape, hb.output, hb.size, fun k _ hk => Below.heap_setCell w ⟨s, o, none⟩ v k hk⟩
theorem Keeps.below {s B : Nat} {w w' : World} (h : Keeps s w w') (hB : B ≤ s) (hBw : B ≤ w.heap.size) : Below B w w' := ⟨h.os, h.tape, h.output, h.size, fun k hk => h.block k (by omega) (by omega)⟩
end Go.Proofs.YtchofahdcohibaaGreat
/- The source of numbers: what l1Next keeps and how far it goes. -/

namespace Go.Proofs.YtchofahdcohibaaGreat
open Go.RowKit
set_option linter.unusedSimpArgs false
set_option linter.unusedVariables false

/-- The bytes of a code: none, or they lie at an address below block s. -/
def Bytes (w : World) (a : Option Addr) (n s : Nat) (Z : Nat → Int) : Prop :=
  n = 0 ∨ ∃ b off, a = some ⟨b, off, none⟩ ∧ b < s ∧ ∀ i, i < n → w.cell? ⟨b, off + i, none⟩ = some (.int .u8 (Z i))
/-- A source at block s, from number t on. -/
structure Src (a : Option Addr) (n cap : Nat) (Z : Nat → Int) (s t : Nat) (w : World) : Prop where
  code : w.cell? ⟨s, 0, none⟩ = some (.slice a n cap)
  at' : w.cell? ⟨s, 1, none⟩ = some (.int .i64 t)
  wr : w.frozen? ⟨s, 1, none⟩ = false
  bytes : Bytes w a n s Z
  rng : ∀ i, 0 ≤ Z i ∧ Z i ≤ 255
  max : n ≤ 1048576
theorem Src.below {a : Option Addr} {n cap : Nat} {Z : Nat → Int} {s t : Nat} {w w' : World} (h : Src a n cap Z s t w) (hb : Below w.heap.size w w') : Src a n cap Z s t w' := by
  have hl := World.block_lt_of_cell? _ _ h.code
  refine ⟨(hb.cell (p := ⟨s, 0, none⟩) hl).trans h.code, (hb.cell (p := ⟨s, 1, none⟩) hl).trans h.at', (hb.frozen (p := ⟨s, 1, none⟩) hl).trans h.wr, ?_, h.rng, h.max⟩
  rcases h.bytes with h0 | ⟨b, off, e, hs, hz⟩
  · exact .inl h0
  · have hl' : s < w.heap.size := hl
    exact .inr ⟨b, off, e, hs, fun i hi => (hb.cell (p := ⟨b, off + i, none⟩) (show b < _ by omega)).trans (hz i hi)⟩
theorem Src.step {a : Option Addr} {n cap : Nat} {Z : Nat → Int} {s t : Nat} {w : World} (h : Src a n cap Z s t w) : Src a n cap Z s (t + 1) (w.setCell ⟨s, 1, none⟩ (.int .i64 ((t : Int) + 1))) := by
  refine ⟨?_, ?_, ?_, ?_, h.rng, h.max⟩
  · rw [World.cell?_setCell_other]
    · exact h.code
    · simp
  · exact World.cell?_setCell_same _ _ _ h.at'
  · rw [World.frozen?_setCell]; exact h.wr
  · rcases h.bytes with h0 | ⟨b, off, e, hs, hz⟩
    · exact .inl h0
    · refine .inr ⟨b, off, e, hs, fun i hi => ?_⟩
      rw [World.cell?_setCell_other]
      · exact hz i hi
      · intro hc; injection hc with hc; omega
theorem Src.drew {a : Option Addr} {n cap : Nat} {Z : Nat → Int} {s t : Nat} {w : World} (h : Src a n cap Z s t w) : Src a n cap Z s t w.drew := ⟨h.code, h.at', h.wr, h.bytes, h.rng, h.max⟩

set_option maxHeartbeats 2000000 in
theorem l1Next_none (a : Option Addr) (cap : Nat) (Z : Nat → Int) (s t m : Nat) (w : World) (h : Src a 0 cap Z s t w) (ht : t ≤ 1000) (hm : 0 < m) (hmx : m ≤ 100000) :
    Calls Tryz.prog 31 #[.pointer (some ⟨s, 0, none⟩), .int .i64 m] w fun e w' => ∃ v : Nat, e = .returned (.int .i64 v) ∧ v < m ∧ Src a 0 cap Z s (t + 1) w' ∧ Keeps s w w' := by
  have HS : Hid (Src a 0 cap Z s t w) := h
  have hc := h.code
  have ha := h.at'
  have hf := h.wr
  clear h
  obtain ⟨r, hr⟩ : ∃ r, (t * 7) % m = r := ⟨_, rfl⟩
  have hrl : r < m := by rw [← hr]; exact Nat.mod_lt _ hm
  have hme : ((t : Int) * 7) % (m : Int) = (r : Int) := by rw [← hr]; simp
  have hmt : ((t : Int) * 7).tmod (m : Int) = (r : Int) := by
    rw [Int.tmod_eq_emod_of_nonneg (by omega)]; exact hme
  have hm0 : ¬ m = 0 := by omega
  have hm1 : ¬ (m : Int) < 1 := by omega
  have hsame := World.cell?_setCell_same w ⟨s, 1, none⟩ (.int .i64 ((t : Int) + 1)) ha
  go_enter Tryz.func31, Tryz.ntmps31
  go_wp2
  go_ret
  exact ⟨r, rfl, hrl, HS.out.step, (Keeps.refl _ _).set _ _⟩

set_option maxHeartbeats 4000000 in
theorem l1Next_some (b off n cap : Nat) (Z : Nat → Int) (s t m : Nat) (w : World) (h : Src (some ⟨b, off, none⟩) n cap Z s t w) (hbs : b < s) (hz : ∀ i, i < n → w.cell? ⟨b, off + i, none⟩ = some (.int .u8 (Z i))) (hn : 0 < n) (hcap : n ≤ cap) (ht : t ≤ 1000) (hm : 0 < m) (hmx : m ≤ 100000) :
    Calls Tryz.prog 31 #[.pointer (some ⟨s, 0, none⟩), .int .i64 m] w fun e w' => ∃ v : Nat, e = .returned (.int .i64 v) ∧ v < m ∧ Src (some ⟨b, off, none⟩) n cap Z s (t + 1) w' ∧ Keeps s w w' := by
  have HS : Hid (Src (some ⟨b, off, none⟩) n cap Z s t w) := h
  have hmax := h.max
  have hc := h.code
  have ha := h.at'
  have hf := h.wr
  obtain ⟨i1, hi1⟩ : ∃ r, t % n = r := ⟨_, rfl⟩
  obtain ⟨i2, hi2⟩ : ∃ r, (t + 1) % n = r := ⟨_, rfl⟩
  obtain ⟨q, hq⟩ : ∃ r, t / n = r := ⟨_, rfl⟩
  have l1 : i1 < n := by rw [← hi1]; exact Nat.mod_lt _ hn
  have l2 : i2 < n := by rw [← hi2]; exact Nat.mod_lt _ hn
  have lq : q ≤ t := by rw [← hq]; exact Nat.div_le_self _ _
  have z1 := hz i1 l1
  have z2 := hz i2 l2
  have r1 := h.rng i1
  have r2 := h.rng i2
  generalize Z i1 = y1 at z1 r1
  generalize Z i2 = y2 at z2 r2
  clear h hz
  have hme : (t : Int) % (n : Int) = (i1 : Int) := by rw [← hi1]; simp
  have hmt : (t : Int).tmod (n : Int) = (i1 : Int) := by rw [Int.tmod_eq_emod_of_nonneg (by omega)]; exact hme
  have hne : ((t : Int) + 1) % (n : Int) = (i2 : Int) := by rw [← hi2]; simp
  have hnt : ((t : Int) + 1).tmod (n : Int) = (i2 : Int) := by rw [Int.tmod_eq_emod_of_nonneg (by omega)]; exact hne
  have hde : (t : Int) / (n : Int) = (q : Int) := by rw [← hq]; simp
  have hdt : (t : Int).tdiv (n : Int) = (q : Int) := by rw [Int.tdiv_eq_ediv_of_nonneg (by omega)]; exact hde
  clear hi1 hi2 hq
  have n0 : ¬ n = 0 := by omega
  have n0b : ((n : Int) == 0) = false := by simp; omega
  have m1 : ¬ (m : Int) < 1 := by omega
  have m0 : ¬ m = 0 := by omega
  have g1 : (i1 : Int) < (n : Int) := by omega
  have g2 : (i2 : Int) < (n : Int) := by omega
  have g3 : (0 : Int) ≤ (i1 : Int) := by omega
  have g4 : (0 : Int) ≤ (i2 : Int) := by omega
  obtain ⟨a1, a2⟩ := r1
  obtain ⟨b1, b2⟩ := r2
  have w0 : IntKind.i64.wrap y1 = y1 := IntWalk.i64_in _ (by omega)
  have w0' : IntKind.i64.wrap y2 = y2 := IntWalk.i64_in _ (by omega)
  have w1 : IntKind.i64.wrap (q : Int) = (q : Int) := IntWalk.i64_in _ (by omega)
  have w2 : IntKind.i64.wrap ((q : Int) * 37) = (q : Int) * 37 := IntWalk.i64_in _ (by omega)
  have w3 : IntKind.i64.wrap (y1 + (q : Int) * 37) = y1 + (q : Int) * 37 := IntWalk.i64_in _ (by omega)
  have w4 : IntKind.i64.wrap ((y1 + (q : Int) * 37) * 251) = (y1 + (q : Int) * 37) * 251 := IntWalk.i64_in _ (by omega)
  have w5 : IntKind.i64.wrap (y2 * 13) = y2 * 13 := IntWalk.i64_in _ (by omega)
  have w6 : IntKind.i64.wrap ((y1 + (q : Int) * 37) * 251 + y2 * 13) = (y1 + (q : Int) * 37) * 251 + y2 * 13 := IntWalk.i64_in _ (by omega)
  have w7 : IntKind.i64.wrap ((y1 + (q : Int) * 37) * 251 + y2 * 13 + (t : Int)) = (y1 + (q : Int) * 37) * 251 + y2 * 13 + (t : Int) := IntWalk.i64_in _ (by omega)
  have w8 : IntKind.i64.wrap ((t : Int) + 1) = (t : Int) + 1 := IntWalk.i64_in _ (by omega)
  have hsame : (w.setCell ⟨s, 1, none⟩ (.int .i64 ((t : Int) + 1))).cell? ⟨s, 1, none⟩ = some (.int .i64 ((t : Int) + 1)) := World.cell?_setCell_same _ _ _ ha
  have hcode : (w.setCell ⟨s, 1, none⟩ (.int .i64 ((t : Int) + 1))).cell? ⟨s, 0, none⟩ = some (.slice (some ⟨b, off, none⟩) n cap) := by
    rw [World.cell?_setCell_other]
    · exact hc
    · simp
  have hz1 : (w.setCell ⟨s, 1, none⟩ (.int .i64 ((t : Int) + 1))).cell? ⟨b, off + i1, none⟩ = some (.int .u8 y1) := by
    rw [World.cell?_setCell_other]
    · exact z1
    · intro e; injection e with e; omega
  have hz2 : (w.setCell ⟨s, 1, none⟩ (.int .i64 ((t : Int) + 1))).cell? ⟨b, off + i2, none⟩ = some (.int .u8 y2) := by
    rw [World.cell?_setCell_other]
    · exact z2
    · intro e; injection e with e; omega
  by_cases hbig : 200 < m
  · obtain ⟨v, hv⟩ : ∃ v : Nat, ((y1 + (q : Int) * 37) * 251 + y2 * 13 + (t : Int)) % (m : Int) = (v : Int) := ⟨(((y1 + (q : Int) * 37) * 251 + y2 * 13 + (t : Int)) % (m : Int)).toNat, by rw [Int.toNat_of_nonneg (Int.emod_nonneg _ (by omega))]⟩
    have hvl : v < m := by have := Int.emod_lt_of_pos ((y1 + (q : Int) * 37) * 251 + y2 * 13 + (t : Int)) (show (0 : Int) < (m : Int) by omega); omega
    have hvt : ((y1 + (q : Int) * 37) * 251 + y2 * 13 + (t : Int)).tmod (m : Int) = (v : Int) := by rw [Int.tmod_eq_emod_of_nonneg (by omega)]; exact hv
    have hbi : (200 : Int) < (m : Int) := by omega
    go_enter Tryz.func31, Tryz.ntmps31
    go_wp2
    generalize hV : (w.setCell ⟨s, 1, none⟩ (.int .i64 ((t : Int) + 1))) = V at *
    have HV := (show Hid _ from hV)
    clear hV
    go_region_held3 (fun W' => W' = V.drew) (first | rfl | assumption) (fail)
    go_wp2
    go_region_held3 (fun W' => W' = V.drew.drew) (first | rfl | assumption) (fail)
    go_wp2
    go_ret
    have e1 : Src (some ⟨b, off, none⟩) n cap Z s (t + 1) V := by rw [← HV.out]; exact HS.out.step
    have e2 : Keeps s w V := by rw [← HV.out]; exact (Keeps.refl _ _).set _ _
    exact ⟨v, rfl, hvl, e1.drew.drew, e2.drew.drew⟩
  · obtain ⟨v, hv⟩ : ∃ v : Nat, (y1 + (q : Int) * 37) % (m : Int) = (v : Int) := ⟨((y1 + (q : Int) * 37) % (m : Int)).toNat, by rw [Int.toNat_of_nonneg (Int.emod_nonneg _ (by omega))]⟩
    have hvl : v < m := by have := Int.emod_lt_of_pos (y1 + (q : Int) * 37) (show (0 : Int) < (m : Int) by omega); omega
    have hvt : (y1 + (q : Int) * 37).tmod (m : Int) = (v : Int) := by rw [Int.tmod_eq_emod_of_nonneg (by omega)]; exact hv
    have hbi : ¬ (200 : Int) < (m : Int) := by omega
    go_enter Tryz.func31, Tryz.ntmps31
    go_wp2
    generalize hV : (w.setCell ⟨s, 1, none⟩ (.int .i64 ((t : Int) + 1))) = V at *
    have HV := (show Hid _ from hV)
    clear hV
    go_region_held3 (fun W' => W' = V.drew) (first | rfl | assumption) (fail)
    go_wp2
    go_ret
    have e1 : Src (some ⟨b, off, none⟩) n cap Z s (t + 1) V := by rw [← HV.out]; exact HS.out.step
    have e2 : Keeps s w V := by rw [← HV.out]; exact (Keeps.refl _ _).set _ _
    exact ⟨v, rfl, hvl, e1.drew, e2.drew⟩

theorem l1Next_any (a : Option Addr) (n cap : Nat) (Z : Nat → Int) (s t m : Nat) (w : World) (h : Src a n cap Z s t w) (hcap : n ≤ cap) (ht : t ≤ 1000) (hm : 0 < m) (hmx : m ≤ 100000) :
    Calls Tryz.prog 31 #[.pointer (some ⟨s, 0, none⟩), .int .i64 m] w fun e w' => ∃ v : Nat, e = .returned (.int .i64 v) ∧ v < m ∧ Src a n cap Z s (t + 1) w' ∧ Keeps s w w' := by
  by_cases h0 : n = 0
  · subst h0
    exact l1Next_none a cap Z s t m w h ht hm hmx
  · rcases h.bytes with e | ⟨b, off, rfl, hs, hz⟩
    · omega
    · exact l1Next_some b off n cap Z s t m w h hs hz (by omega) hcap ht hm hmx
end Go.Proofs.YtchofahdcohibaaGreat
