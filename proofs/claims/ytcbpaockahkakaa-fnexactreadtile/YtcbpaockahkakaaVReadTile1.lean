/- Several texts in one. -/
import Derived.WalkKit
import Derived.Below
import Derived.Test.YtcbpaockahkakaaRows
import Derived.WalkSpells
import Derived.WalkLawsBesides
import Derived.Outline
import Derived.Deep.RegionHeld3
import Derived.Deep.OwnRows
import Derived.Deep.LoopGhost
import Derived.Laws.OwnMore

/- Plain definitions and facts about points and numbers: no program in sight. -/

namespace Go.Proofs.Ytcbpaockahkakaa
open Go.RowKit

/-- v is from lo to hi. -/
def inB (v lo hi : Int) : Bool := decide (lo ≤ v) && decide (v ≤ hi)
/-- A point without a fault. -/
def okP (x y : Int) : Bool := inB x (-1024) 4096 && inB y (-1024) 4096
theorem okP_iff (x y : Int) : okP x y = true ↔ (-1024 ≤ x ∧ x ≤ 4096) ∧ (-1024 ≤ y ∧ y ≤ 4096) := by
  simp [okP, inB]
/-- The fault of a point. -/
def codeP (x y : Int) : Int := if okP x y = true then 0 else 3
theorem codeP_ok {x y : Int} (h : okP x y = true) : codeP x y = 0 := by simp [codeP, h]
theorem codeP_no {x y : Int} (h : okP x y = false) : codeP x y = 3 := by simp [codeP, h]
theorem okP_bd {x y : Int} (h : okP x y = true) : (-1024 ≤ x ∧ x ≤ 4096) ∧ (-1024 ≤ y ∧ y ≤ 4096) := (okP_iff x y).1 h

/-- The product of two numbers within bounds. -/
theorem mul_bd {a b B C : Int} (ha : -B ≤ a) (ha' : a ≤ B) (hb : -C ≤ b) (hb' : b ≤ C) (hB : 0 ≤ B) : -(B * C) ≤ a * b ∧ a * b ≤ B * C := by
  have h1 : a.natAbs ≤ B.natAbs := by omega
  have h2 : b.natAbs ≤ C.natAbs := by omega
  have h3 : (a * b).natAbs ≤ B.natAbs * C.natAbs := by rw [Int.natAbs_mul]; exact Nat.mul_le_mul h1 h2
  have h4 : ((B.natAbs * C.natAbs : Nat) : Int) = B * C := by rw [Int.natCast_mul, Int.natAbs_of_nonneg hB, Int.natAbs_of_nonneg (by omega)]
  omega

/-- What is below stays: all old cells, all old marks read as before. -/
theorem bcell {W w1 : World} (hb : Below W.heap.size W w1) : (∀ b o, b < W.heap.size → w1.cell? ⟨b, o, none⟩ = W.cell? ⟨b, o, none⟩) ∧ (∀ b o, b < W.heap.size → w1.frozen? ⟨b, o, none⟩ = W.frozen? ⟨b, o, none⟩) :=
  ⟨fun b o h => hb.cell (p := ⟨b, o, none⟩) h, fun b o h => hb.frozen (p := ⟨b, o, none⟩) h⟩

theorem bcell3 {W w1 : World} (hb : Below W.heap.size W w1) : (∀ b o, b < W.heap.size → w1.cell? ⟨b, o, none⟩ = W.cell? ⟨b, o, none⟩) ∧ (∀ b o, b < W.heap.size → w1.frozen? ⟨b, o, none⟩ = W.frozen? ⟨b, o, none⟩) ∧ (∀ b, b < W.heap.size → b < w1.heap.size) :=
  ⟨fun b o h => hb.cell (p := ⟨b, o, none⟩) h, fun b o h => hb.frozen (p := ⟨b, o, none⟩) h, fun _ h => Nat.lt_of_lt_of_le h hb.size⟩

/-- Below, one call behind another. -/
theorem bl_then {wr W w' : World} (hS : Below wr.heap.size wr W) (hb : Below W.heap.size W w') : Below wr.heap.size wr w' := hS.trans (hb.mono hS.size)
theorem bl_store {wr W V : World} (hS : Below wr.heap.size wr W) (hV : Below wr.heap.size wr V) (o : Nat) (u : Value) : Below wr.heap.size wr (W.setCell ⟨V.heap.size, o, none⟩ u) := hS.setCell hV.size u
theorem bl_alloc {wr W : World} (hS : Below wr.heap.size wr W) (o : Obj) : Below wr.heap.size wr (W.alloc o) := hS.alloc hS.size o

theorem ret_int {k : IntKind} {a b : Int} (h : a = b) : Ending.returned (.int k a) = .returned (.int k b) := by rw [h]
theorem ret_bool {a b : Bool} (h : a = b) : Ending.returned (.bool a) = .returned (.bool b) := by rw [h]

/-- Twice the area. -/
def crossI (ax ay bx by' cx cy : Int) : Int := (bx - ax) * (cy - ay) - (by' - ay) * (cx - ax)
/-- The square of the distance. -/
def distI (ax ay bx by' : Int) : Int := (bx - ax) * (bx - ax) + (by' - ay) * (by' - ay)
end Go.Proofs.Ytcbpaockahkakaa
/- Bytes that came in. -/

namespace Go.Proofs.Ytcbpaockahkakaa
open Go.RowKit
set_option linter.unusedVariables false

/-- The bytes of a code that came in. -/
def IsBytes (w : World) (a : Option Addr) (n : Nat) (Z : Nat → Int) : Prop :=
  n = 0 ∨ ∃ b off, a = some ⟨b, off, none⟩ ∧ b < w.heap.size ∧ ∀ i, i < n → w.cell? ⟨b, off + i, none⟩ = some (.int .u8 (Z i))
theorem IsBytes.below {w w' : World} {a : Option Addr} {n : Nat} {Z : Nat → Int} (h : IsBytes w a n Z) (hb : Below w.heap.size w w') : IsBytes w' a n Z := by
  rcases h with h | ⟨b, off, e, hl, hz⟩
  · exact .inl h
  · exact .inr ⟨b, off, e, Nat.lt_of_lt_of_le hl hb.size, fun i hi => (hb.cell (p := ⟨b, off + i, none⟩) hl).trans (hz i hi)⟩
/-- From the address on lie n bytes. -/
def BsAt (w : World) (b off n : Nat) (Z : Nat → Int) : Prop := ∀ i, i < n → w.cell? ⟨b, off + i, none⟩ = some (.int .u8 (Z i))
theorem BsAt.below {w w' : World} {b off n B : Nat} {Z : Nat → Int} (h : BsAt w b off n Z) (hb : Below B w w') (hB : b < B) : BsAt w' b off n Z := fun i hi => (hb.cell (p := ⟨b, off + i, none⟩) hB).trans (h i hi)
theorem BsAt.is {w : World} {b off n : Nat} {Z : Nat → Int} (h : BsAt w b off n Z) (hb : b < w.heap.size) : IsBytes w (some ⟨b, off, none⟩) n Z := .inr ⟨b, off, rfl, hb, h⟩
end Go.Proofs.Ytcbpaockahkakaa
/- A region that stores into one block of its own while it calls: what is kept. -/

namespace Go.Proofs.Ytcbpaockahkakaa
open Go.RowKit

/-- Block r has n cells that may be written. -/
def There (W : World) (r n : Nat) : Prop := ∀ o, o < n → (∃ v, W.cell? ⟨r, o, none⟩ = some v) ∧ W.frozen? ⟨r, o, none⟩ = false
/-- What a cell holds. -/
def cellOr (W : World) (r o : Nat) : Value := (W.cell? ⟨r, o, none⟩).getD undef
theorem There.cell {W : World} {r n : Nat} (h : There W r n) (o : Nat) (ho : o < n) : W.cell? ⟨r, o, none⟩ = some (cellOr W r o) := by
  obtain ⟨v, hv⟩ := (h o ho).1
  simp [cellOr, hv]
theorem There.below {W W' : World} {r n : Nat} (h : There W r n) (hb : Below W.heap.size W W') : There W' r n := fun o ho => by
  obtain ⟨v, hv⟩ := (h o ho).1
  have hlt : r < W.heap.size := World.block_lt_of_cell? W ⟨r, o, none⟩ hv
  exact ⟨⟨v, (hb.cell (p := ⟨r, o, none⟩) hlt).trans hv⟩, (hb.frozen (p := ⟨r, o, none⟩) hlt).trans (h o ho).2⟩
/-- Below B all is as in W, and block r may be written. -/
structure Reg (B : Nat) (W : World) (r n : Nat) (W' : World) : Prop where
  le : B ≤ W.heap.size
  bel : Below B W W'
  there : There W' r n
theorem Reg.call {B r n : Nat} {W W1 w' : World} (h : Reg B W r n W1) (hb : Below W1.heap.size W1 w') : Reg B W r n w' :=
  ⟨h.le, h.bel.trans (hb.mono (Nat.le_trans h.le h.bel.size)), h.there.below hb⟩
theorem Reg.drew {B r n : Nat} {W W1 : World} (h : Reg B W r n W1) : Reg B W r n W1.drew := ⟨h.le, h.bel.drew, h.there⟩
theorem Reg.alloc {B r n : Nat} {W W1 : World} (h : Reg B W r n W1) (o : Obj) : Reg B W r n (W1.alloc o) :=
  h.call (Below.alloc (Below.refl _ _) (Nat.le_refl _) o)
theorem Reg.start {B r n : Nat} {W : World} (hB : B ≤ W.heap.size) (ht : There W r n) : Reg B W r n W := ⟨hB, Below.refl _ _, ht⟩
theorem Reg.store {B r n : Nat} {W W1 : World} (h : Reg B W r n W1) (hr : B ≤ r) (o : Nat) (v : Value) : Reg B W r n (W1.setCell ⟨r, o, none⟩ v) :=
  ⟨h.le, h.bel.setCell hr v, fun o' ho => by
    obtain ⟨u, hu⟩ := (h.there o' ho).1
    refine ⟨?_, ?_⟩
    · by_cases e : o = o'
      · subst e
        exact ⟨v, World.cell?_setCell_same _ _ _ (by rw [hu])⟩
      · exact ⟨u, by rw [World.cell?_setCell_other]; exact hu; intro hc; exact e (by simpa using hc.symm)⟩
    · rw [World.frozen?_setCell]; exact (h.there o' ho).2⟩
/-- Two stores into one block, read back. -/
theorem set2_0 {W : World} {b : Nat} {v0 v1 : Value} (h0 : (W.cell? ⟨b, 0, none⟩).isSome = true) : ((W.setCell ⟨b, 0, none⟩ v0).setCell ⟨b, 1, none⟩ v1).cell? ⟨b, 0, none⟩ = some v0 := by
  obtain ⟨u, hu⟩ := Option.isSome_iff_exists.1 h0
  rw [World.cell?_setCell_other]
  · exact World.cell?_setCell_same _ _ _ (by rw [hu])
  · simp
theorem set2_1 {W : World} {b : Nat} {v0 v1 : Value} (h1 : (W.cell? ⟨b, 1, none⟩).isSome = true) : ((W.setCell ⟨b, 0, none⟩ v0).setCell ⟨b, 1, none⟩ v1).cell? ⟨b, 1, none⟩ = some v1 := by
  obtain ⟨u, hu⟩ := Option.isSome_iff_exists.1 h1
  refine World.cell?_setCell_same (u := u) _ _ _ ?_
  rw [World.cell?_setCell_other]
  · exact hu
  · simp
end Go.Proofs.Ytcbpaockahkakaa
/- Bytes are copied, compared, marked, and the marks are found again. -/

namespace Go.Proofs.Ytcbpaockahkakaa
open Go.RowKit
set_option linter.unusedSimpArgs false
set_option linter.unusedVariables false
set_option maxRecDepth 100000

theorem There.set1 {W : World} {r n : Nat} (h : There W r n) (o : Nat) (v : Value) : There (W.setCell ⟨r, o, none⟩ v) r n := fun o' ho => by
  obtain ⟨u, hu⟩ := (h o' ho).1
  refine ⟨?_, ?_⟩
  · by_cases e : o = o'
    · subst e
      exact ⟨v, World.cell?_setCell_same _ _ _ (by rw [hu])⟩
    · exact ⟨u, by rw [World.cell?_setCell_other]; exact hu; simp [e]⟩
  · rw [World.frozen?_setCell]; exact (h o' ho).2
theorem fillB {W : World} {B n k : Nat} {Z : Nat → Int} (hT : There W B n) (hk : k < n) (hp : BsAt W B 0 k Z) : BsAt (W.setCell ⟨B, k, none⟩ (.int .u8 (Z k))) B 0 (k + 1) Z := fun i hi => by
  by_cases e : i = k
  · subst e
    obtain ⟨u, hu⟩ := (hT i hk).1
    simpa using World.cell?_setCell_same _ _ _ (by rw [hu])
  · rw [World.cell?_setCell_other]
    · exact hp i (by omega)
    · simp <;> omega
theorem grown_set1 {w w' : World} {b : Nat} (h : w.grownBy w' (some b)) (o : Nat) (v : Value) : w.grownBy (w'.setCell ⟨b, o, none⟩ v) (some b) := by
  have hb : Below b w' (w'.setCell ⟨b, o, none⟩ v) := (Below.refl b w').setCell (Nat.le_refl _) v
  exact ⟨hb.os.trans h.os, hb.tape.trans h.tape, hb.output.trans h.output, Nat.le_trans h.size hb.size, fun k hk hne => (Below.heap_setCell w' ⟨b, o, none⟩ v k (fun e => hne (by simp at e; rw [e]))).trans (h.block k hk hne)⟩
theorem grown_refl1 (w : World) (row : Option Nat) : w.grownBy w row := ⟨rfl, rfl, rfl, Nat.le_refl _, fun _ _ _ => rfl⟩
theorem info_u8 : (Try.prog.info? 5).map (fun i => (i.zero, i.size, i.bytes)) = some (some (.int .u8 0), 1, 1) := by kernel_rfl
theorem make_bytes (n : Nat) (h : n ≤ 1048576) (w : World) :
    (Instr.makeSlice 22 (.int .i64 (n : Int)) (.int .i64 (n : Int))).run Try.prog w = .ok (.slice (some ⟨w.heap.size, 0, none⟩) n n) (w.alloc (.cells (madeCells #[.int .u8 0] n) 5)) := by
  obtain ⟨i, hi, hz, hs, hb⟩ := info_parts info_u8
  have hr := run_make (P := Try.prog) w 22 5 i _ Try.underlying22 hi hz .i64 .i64 (n : Int) (n : Int) (by omega) (Int.le_refl _) (by rw [hb]; omega) (by omega)
  simp only [Int.toNat_natCast, hs, Nat.mul_one] at hr
  exact hr
theorem there_madeB (n : Nat) (w : World) (t : TypeId) : There (w.alloc (.cells (madeCells #[.int .u8 0] n) t)) w.heap.size n := fun o ho => by
  have hz := size_madeCells #[.int .u8 0] n
  refine ⟨⟨(madeCells #[.int .u8 0] n)[o]'(by rw [hz]; exact ho), ?_⟩, World.frozen?_alloc_at _ _ _ _ rfl⟩
  rw [World.cell?_alloc_at _ _ _ _ rfl]
  exact Array.getElem?_eq_getElem _

set_option maxHeartbeats 1000000 in
theorem toByteS_own (a : Option Addr) (n cap : Nat) (Z : Nat → Int) (w : World) (hp : IsBytes w a n Z) (hmax : n ≤ 1048576) :
    Calls Try.prog 16 #[.slice a n cap] w fun e w' => ∃ b, e = .returned (.slice (some ⟨b, 0, none⟩) n n) ∧ w.heap.size ≤ b ∧ b < w'.heap.size ∧ BsAt w' b 0 n Z ∧ There w' b n ∧ Below w.heap.size w w' := by
  have hmk := make_bytes n hmax
  have HP : Hid (IsBytes w a n Z) := hp
  clear hp
  go_enter Try.func16, Try.ntmps16
  go_wp2
  generalize hW : (w.alloc _ : World) = W
  have HB0 : Hid (Below w.heap.size w W) := by show Below _ _ _; subst hW; (repeat (first | exact Below.refl _ _ | assumption | refine Below.drew ?_ | refine bl_alloc ?_ _ | refine bl_then ?_ (by assumption) | refine Below.setCell ?_ (by first | omega | (simp; done) | (simp; omega)) _ | refine bl_store ?_ ?_ _ _))
  have HT0 : Hid (There W w.heap.size n) := by show There _ _ _; subst hW; exact there_madeB _ _ _
  have HL0 : Hid (w.heap.size < W.heap.size) := by show _ < _; subst hW; simp
  clear hW hmk
  go_loopw [4] (fun i wr => ∃ k : Nat, k ≤ n ∧ i = .int .i64 k ∧ Below w.heap.size w wr ∧ There wr w.heap.size n ∧ BsAt wr w.heap.size 0 k Z ∧ w.heap.size < wr.heap.size) (fun i _ => n - (intOf i).toNat)
  case atStart => exact ⟨0, by omega, rfl, HB0.out, HT0.out, fun i hi => by omega, HL0.out⟩
  case round =>
    obtain ⟨k, hk, rfl, hB, hT, hPt, hlw⟩ := hrel
    by_cases hlt : k < n
    · rcases HP.out with h0 | ⟨b, off, rfl, hbl, hpt⟩
      · omega
      · have hx : wr.cell? ⟨b, off + k, none⟩ = some (.int .u8 (Z k)) := (hB.cell (p := ⟨b, off + k, none⟩) hbl).trans (hpt k hlt)
        have HB : Hid (Below w.heap.size w wr) := hB
        have HT : Hid (There wr w.heap.size n) := hT
        have HQ : Hid (BsAt wr w.heap.size 0 k Z) := hPt
        have t0 := hT.cell k hlt
        have f0 := (hT k hlt).2
        clear hB hT hPt hpt
        have hi : (k : Int) < (n : Int) := by omega
        have hi0 : (0 : Int) ≤ (k : Int) := by omega
        go_wp2
        go_roundw
        case rel =>
          refine ⟨k + 1, by omega, by go_num, ?_, HT.out.set1 _ _, fillB HT.out hlt HQ.out, ?_⟩
          · have HB' := HB.out
            (repeat (first | exact Below.refl _ _ | assumption | refine Below.drew ?_ | refine bl_alloc ?_ _ | refine bl_then ?_ (by assumption) | refine Below.setCell ?_ (by first | omega | (simp; done) | (simp; omega)) _ | refine bl_store ?_ ?_ _ _))
          · simp; omega
        case measure => simp [intOf]; omega
    · go_wp2
      go_ret
      have hkn : k = n := by omega
      subst hkn
      exact ⟨_, rfl, Nat.le_refl _, hlw, hPt, hT, hB⟩
set_option maxHeartbeats 1000000 in
theorem eqByteS_any (a c : Option Addr) (n capa capc : Nat) (Z : Nat → Int) (w : World) (hp : IsBytes w a n Z) (hq : IsBytes w c n Z) (hmax : n ≤ 1048576) :
    Calls Try.prog 18 #[.slice a n capa, .slice c n capc] w fun e w' => e = .returned (.bool true) ∧ Below w.heap.size w w' := by
  have HP : Hid (IsBytes w a n Z) := hp
  have HQ : Hid (IsBytes w c n Z) := hq
  clear hp hq
  go_enter Try.func18, Try.ntmps18
  go_wp2
  go_loopw [5] (fun i wr => ∃ k : Nat, k ≤ n ∧ i = .int .i64 k ∧ Below w.heap.size w wr) (fun i _ => n - (intOf i).toNat)
  case atStart => exact ⟨0, by omega, rfl, Below.refl _ _⟩
  case round =>
    obtain ⟨k, hk, rfl, hB⟩ := hrel
    by_cases hlt : k < n
    · rcases HP.out with h0 | ⟨b, off, rfl, hbl, hpt⟩
      · omega
      rcases HQ.out with h0 | ⟨d, offd, rfl, hdl, hqt⟩
      · omega
      have c0 : ∀ W', Below wr.heap.size wr W' → W'.cell? ⟨b, off + k, none⟩ = some (.int .u8 (Z k)) := fun W' h => by
        rw [h.cell (Nat.lt_of_lt_of_le hbl hB.size)]; exact (hB.cell (p := ⟨b, off + k, none⟩) hbl).trans (hpt k hlt)
      have e0 : ∀ W', Below wr.heap.size wr W' → W'.cell? ⟨d, offd + k, none⟩ = some (.int .u8 (Z k)) := fun W' h => by
        rw [h.cell (Nat.lt_of_lt_of_le hdl hB.size)]; exact (hB.cell (p := ⟨d, offd + k, none⟩) hdl).trans (hqt k hlt)
      have HB : Hid (Below w.heap.size w wr) := hB
      clear hB hpt hqt
      have hi : (k : Int) < (n : Int) := by omega
      have hi0 : (0 : Int) ≤ (k : Int) := by omega
      go_wp2
      go_region_held3 (fun W' => Below wr.heap.size wr W') ((repeat (first | exact Below.refl _ _ | assumption | refine Below.drew ?_ | refine bl_alloc ?_ _ | refine bl_then ?_ (by assumption) | refine Below.setCell ?_ (by first | omega | (simp; done) | (simp; omega)) _ | refine bl_store ?_ ?_ _ _))) (fail)
      go_wp2
      go_roundw
      case rel => exact ⟨k + 1, by omega, by go_num, bl_then HB.out (by assumption)⟩
      case measure => simp [intOf]; omega
    · go_wp2
      go_ret
      exact ⟨rfl, hB⟩
/-- The marks from k0 on. -/
def mkB (k0 i : Nat) : Int := ((k0 + i) % 256 : Nat)
set_option maxHeartbeats 1000000 in
theorem markByteS_any (b n cap k0 : Nat) (w : World) (hT : There w b n) (hb : b < w.heap.size) (hmax : n ≤ 1048576) (hk0 : k0 ≤ 1125899906842624) :
    Calls Try.prog 19 #[.slice (some ⟨b, 0, none⟩) n cap, .int .i64 (k0 : Int)] w fun e w' => e = .returned (.int .i64 ((k0 + n : Nat) : Int)) ∧ w.grownBy w' (some b) ∧ There w' b n ∧ BsAt w' b 0 n (mkB k0) := by
  have HT0 : Hid (There w b n) := hT
  clear hT
  go_enter Try.func19, Try.ntmps19
  go_wp2_with fail
  go_loopw [1, 5] (fun kk i wr => ∃ j K : Nat, j ≤ n ∧ Hid (K = k0 + j) ∧ kk = .int .i64 (K : Int) ∧ i = .int .i64 (j : Int) ∧ w.grownBy wr (some b) ∧ There wr b n ∧ BsAt wr b 0 j (mkB k0)) (fun _ i _ => n - (intOf i).toNat)
  case atStart => exact ⟨0, k0, by omega, rfl, rfl, rfl, grown_refl1 _ _, HT0.out, fun i hi => by omega⟩
  case round =>
    obtain ⟨j, K, hj, HK, rfl, rfl, hG, hT, hP⟩ := hrel
    by_cases hlt : j < n
    · have hKb : K ≤ 1125899908939776 := by have := HK.out; omega
      have t0 := hT.cell j hlt
      have f0 := (hT j hlt).2
      have HT : Hid (There wr b n) := hT
      have HG : Hid (w.grownBy wr (some b)) := hG
      have HP : Hid (BsAt wr b 0 j (mkB k0)) := hP
      clear hT hG hP
      have hi : (j : Int) < (n : Int) := by omega
      have hi0 : (0 : Int) ≤ (j : Int) := by omega
      have hw : IntKind.u8.wrap (K : Int) = mkB k0 j := by have := HK.out; rw [IntKind.wrap_u8]; simp [mkB]; omega
      go_wp2
      go_roundw
      case rel =>
        exact ⟨j + 1, K + 1, by omega, by have := HK.out; show _ = _; omega, by go_num, by go_num, grown_set1 HG.out _ _, HT.out.set1 _ _, fillB HT.out hlt HP.out⟩
      case measure => simp [intOf]; omega
    · go_wp2
      go_ret
      have hjn : j = n := by omega
      subst hjn
      exact ⟨ret_int (by have := HK.out; omega), hG, hT, hP⟩
theorem markByteS_none (a : Option Addr) (cap : Nat) (k : Int) (w : World) : Calls Try.prog 19 #[.slice a 0 cap, .int .i64 k] w fun e w' => e = .returned (.int .i64 k) ∧ w = w' := by
  go_enter Try.func19, Try.ntmps19
  go_wp2_with fail
  go_loopw [1, 5] (fun kk i wr => kk = .int .i64 k ∧ i = .int .i64 0 ∧ w = wr) (fun _ _ _ => 0)
  case atStart => exact ⟨rfl, rfl, rfl⟩
  case round =>
    obtain ⟨rfl, rfl, rfl⟩ := hrel
    go_wp2
    go_ret
    exact ⟨rfl, rfl⟩
end Go.Proofs.Ytcbpaockahkakaa
