/- Several texts in one. -/
import Derived.Test.YtcbpaockahkakaaVUnpackList1
import Derived.Test.YtcbpaockahkakaaVUnpackList4
import Derived.Laws.CopyOwn
import Derived.MapKept
import Derived.Deep.DeepMust

/- All but one block is as it was. -/

namespace Go.Proofs.Ytcbpaockahkakaa
open Go.RowKit
set_option linter.unusedVariables false

/-- All that was there but block s is as it was. -/
structure Keeps (s : Nat) (w w' : World) : Prop where
  os : w'.os = w.os
  tape : w'.tape = w.tape
  output : w'.output = w.output
  size : w.heap.size ≤ w'.heap.size
  block : ∀ k, k < w.heap.size → k ≠ s → w'.heap[k]? = w.heap[k]?
theorem Keeps.refl (s : Nat) (w : World) : Keeps s w w := ⟨rfl, rfl, rfl, Nat.le_refl _, fun _ _ _ => rfl⟩
theorem Keeps.trans {s : Nat} {a b c : World} (h : Keeps s a b) (k : Keeps s b c) : Keeps s a c :=
  ⟨k.os.trans h.os, k.tape.trans h.tape, k.output.trans h.output, Nat.le_trans h.size k.size, fun j hj hs => (k.block j (Nat.lt_of_lt_of_le hj h.size) hs).trans (h.block j hj hs)⟩
theorem Keeps.of_below {s : Nat} {w w' : World} (h : Below w.heap.size w w') : Keeps s w w' := ⟨h.os, h.tape, h.output, h.size, fun k hk _ => h.block k hk⟩
theorem Keeps.cell {s : Nat} {w w' : World} (h : Keeps s w w') {p : Addr} (hp : p.block < w.heap.size) (hs : p.block ≠ s) : w'.cell? p = w.cell? p := World.cell?_of_block (w := w) (h.block _ hp hs)
theorem Keeps.frozen {s : Nat} {w w' : World} (h : Keeps s w w') {p : Addr} (hp : p.block < w.heap.size) (hs : p.block ≠ s) : w'.frozen? p = w.frozen? p := World.frozen?_of_block (w := w) (h.block _ hp hs)
theorem Keeps.drew {s : Nat} {a w : World} (h : Keeps s a w) : Keeps s a w.drew := ⟨h.os, h.tape, h.output, h.size, h.block⟩
theorem Keeps.set {s : Nat} {a w : World} (h : Keeps s a w) (o : Nat) (v : Value) : Keeps s a (w.setCell ⟨s, o, none⟩ v) := by
  refine h.trans ?_
  have hb : Below s w (w.setCell ⟨s, o, none⟩ v) := (Below.refl s w).setCell (Nat.le_refl _) v
  exact ⟨hb.os, hb.tape, hb.output, hb.size, fun k _ hk => Below.heap_setCell w ⟨s, o, none⟩ v k hk⟩
theorem Keeps.below {s B : Nat} {w w' : World} (h : Keeps s w w') (hB : B ≤ s) (hBw : B ≤ w.heap.size) : Below B w w' := ⟨h.os, h.tape, h.output, h.size, fun k hk => h.block k (by omega) (by omega)⟩
end Go.Proofs.Ytcbpaockahkakaa
/- What is left of bytes that are read: bytes are taken from its beginning. -/

namespace Go.Proofs.Ytcbpaockahkakaa
open Go.RowKit
set_option linter.unusedSimpArgs false
set_option linter.unusedVariables false
set_option maxRecDepth 100000

/-- The slice a, n, cap: its bytes lie below block B. -/
def RestB (w : World) (B : Nat) (a : Option Addr) (n : Nat) (Z : Nat → Int) : Prop := n = 0 ∨ ∃ b off, a = some ⟨b, off, none⟩ ∧ b < B ∧ BsAt w b off n Z
/-- Block p holds what is left: n bytes below block B. -/
def UpAt (w : World) (p B n : Nat) (Z : Nat → Int) : Prop :=
  ∃ a cap, w.cell? ⟨p, 0, none⟩ = some (.slice a n cap) ∧ w.frozen? ⟨p, 0, none⟩ = false ∧ n ≤ cap ∧ RestB w B a n Z
/-- A panic that recover finds. -/
def Pan (e : Ending) : Prop := ∃ (u : TypeId) (pv : Value), e = .panicked [{ v := .iface u pv, recovered := false }]
theorem RestB.keeps {w w' : World} {p B n : Nat} {a : Option Addr} {Z : Nat → Int} (h : RestB w B a n Z) (hk : Keeps p w w') (hB : B ≤ p) (hl : B ≤ w.heap.size) : RestB w' B a n Z := by
  rcases h with h | ⟨b, off, e, hb, hz⟩
  · exact .inl h
  · exact .inr ⟨b, off, e, hb, fun i hi => (hk.cell (p := ⟨b, off + i, none⟩) (show b < _ by omega) (show b ≠ p by omega)).trans (hz i hi)⟩
theorem RestB.cut {w : World} {B n cap : Nat} {b off : Nat} {Z : Nat → Int} (c : Nat) (hc : c ≤ n) (hcap : n ≤ cap) (h : b < B ∧ BsAt w b off n Z) :
    RestB w B (if cap = c then some ⟨b, off, none⟩ else some ⟨b, off + c, none⟩) (n - c) (fun i => Z (i + c)) := by
  by_cases e : cap = c
  · exact .inl (by omega)
  · rw [if_neg e]
    refine .inr ⟨b, off + c, rfl, h.1, fun i hi => ?_⟩
    have := h.2 (i + c) (by omega)
    rwa [show off + c + i = off + (i + c) by omega]

theorem take_none (p B n c : Nat) (Z : Nat → Int) (w : World) (h : UpAt w p B n Z) (hc : n < c) (hmax : n ≤ 1048576) (hcm : c ≤ 1048576) :
    Calls Try.prog 64 #[.pointer (some ⟨p, 0, none⟩), .int .u64 (c : Int)] w fun e w' => Pan e ∧ w = w' := by
  obtain ⟨a, cap, h0, h1, h2, h3⟩ := h
  have e1 : IntKind.u64.wrap (n : Int) = (n : Int) := by rw [IntKind.wrap_u64]; omega
  have hlt : (n : Int) < (c : Int) := by omega
  clear h3
  go_enter Try.func64, Try.ntmps64
  go_wp2
  exact ⟨rfl, ⟨_, _, rfl⟩, rfl⟩
set_option maxHeartbeats 2000000 in
theorem take_some (p B n c : Nat) (Z : Nat → Int) (w : World) (h : UpAt w p B n Z) (hB : B ≤ p) (hp : p < w.heap.size) (hc : c ≤ n) (hc0 : 0 < c) (hmax : n ≤ 1048576) :
    Calls Try.prog 64 #[.pointer (some ⟨p, 0, none⟩), .int .u64 (c : Int)] w fun e w' => ∃ g, e = .returned (.slice (some ⟨g, 0, none⟩) c c) ∧ w.heap.size ≤ g ∧ g < w'.heap.size ∧ BsAt w' g 0 c Z ∧ UpAt w' p B (n - c) (fun i => Z (i + c)) ∧ Keeps p w w' := by
  obtain ⟨a, cap, h0, h1, h2, h3⟩ := h
  rcases h3 with h3 | ⟨b, off, rfl, hb, hz⟩
  · omega
  have e1 : IntKind.u64.wrap (n : Int) = (n : Int) := by rw [IntKind.wrap_u64]; omega
  have hlt : ¬ (n : Int) < (c : Int) := by omega
  have hc' : (c : Int) ≤ (n : Int) := by omega
  have hc0' : (0 : Int) ≤ (c : Int) := by omega
  have hmk : ∀ w : World, (Instr.makeSlice 22 (.int .u64 (c : Int)) (.int .u64 (c : Int))).run Try.prog w = .ok (.slice (some ⟨w.heap.size, 0, none⟩) c c) (w.alloc (.cells (madeCells #[.int .u8 0] c) 5)) := fun w => by
    obtain ⟨i, hi, hz, hs, hb⟩ := info_parts info_u8
    have hr := run_make (P := Try.prog) w 22 5 i _ Try.underlying22 hi hz .u64 .u64 (c : Int) (c : Int) (by omega) (Int.le_refl _) (by rw [hb]; omega) (by omega)
    simp only [Int.toNat_natCast, hs, Nat.mul_one] at hr
    exact hr
  have HZ : Hid (BsAt w b off n Z) := hz
  obtain ⟨X, hX⟩ : ∃ X : List Value, X = (List.range c).map fun i => .int .u8 (Z i) := ⟨_, rfl⟩
  have HX : Hid (X = (List.range c).map fun i => .int .u8 (Z i)) := hX
  have hXl : X.length = c := by rw [hX]; simp
  have hsz : (Try.prog.info? 5).map (·.size) = some 1 := by kernel_rfl
  have HC : Hid (∀ j v, X[j]? = some v → w.cell? ((⟨b, off, none⟩ : Addr).add j) = some v) := fun j v hj => by
    rw [hX] at hj
    simp at hj
    obtain ⟨j', h1, h2⟩ := hj
    obtain ⟨hj1, rfl⟩ : j < c ∧ j = j' := by
      rw [List.getElem?_eq_some_iff] at h1
      obtain ⟨h3, h4⟩ := h1
      simp at h3 h4
      exact ⟨h3, h4⟩
    subst h2
    have e : (⟨b, off, none⟩ : Addr).add j = ⟨b, off + j, none⟩ := by
      unfold Addr.add
      by_cases h : j = 0 <;> simp [h]
    rw [e]
    exact hz j (by omega)
  have HO : Hid (∀ v ∈ X, v.oneCell' = true) := fun v hv => by
    rw [hX] at hv
    simp at hv
    obtain ⟨i, _, rfl⟩ := hv
    rfl
  obtain ⟨M, hM⟩ : ∃ M : List Value, (madeCells #[.int .u8 0] c).toList = M := ⟨_, rfl⟩
  have hMl : M.length = c := by rw [← hM]; simpa using size_madeCells #[.int .u8 0] c
  have hM2 : madeCells #[.int .u8 0] c = M.toArray := by rw [← hM]
  rw [hM2] at hmk
  clear hz hX hM hM2
  obtain ⟨Wc, hcp, HG, hBc⟩ : ∃ Wc, (Builtin.copy_ #[22, 22] 3 #[.slice (some ⟨w.heap.size, 0, none⟩) c c, .slice (some ⟨b, off, none⟩) n cap]).run Try.prog (w.alloc (.cells M.toArray 5)) = .ok (.int .i64 (c : Int)) Wc ∧ Hid (Wc.heap[w.heap.size]? = some (.cells X.toArray 5 (0, 0))) ∧ Below w.heap.size w Wc := by
    have hg : (w.alloc (.cells M.toArray 5)).heap[w.heap.size]? = some (.cells M.toArray 5 (0, 0)) := (MapKept.heap_alloc w (.cells M.toArray 5)).1
    have hba : Below w.heap.size w (w.alloc (.cells M.toArray 5)) := by (repeat (first | exact Below.refl _ _ | assumption | refine Below.drew ?_ | refine bl_alloc ?_ _ | refine bl_then ?_ (by assumption) | refine Below.setCell ?_ (by first | omega | (simp; done) | (simp; omega)) _ | refine bl_store ?_ ?_ _ _))
    have hr := run_copy_row (P := Try.prog) (w.alloc (.cells M.toArray 5)) 22 22 3 5 w.heap.size 0 c c ⟨b, off, none⟩ n cap M.toArray 5 X Try.underlying22 hsz hg (by rw [hXl]; exact (Nat.min_eq_right hc).symm) (fun j v hj => bl_cellB hba (HC.out j v hj)) (by simp [hXl, hMl]) HO.out
    have e : (M.toArray.toList.take 0 ++ X ++ M.toArray.toList.drop (0 + X.length)).toArray = X.toArray := by
      simp only [List.take_zero, List.nil_append, Nat.zero_add]
      rw [List.drop_eq_nil_of_le (by simp [hXl, hMl]), List.append_nil]
    rw [e] at hr
    refine ⟨_, by rw [hr, hXl]; rfl, setRow_heap _ _ _ _ _ _ hg, below_setRow hba (Nat.le_refl _) _⟩
  have hlc : w.heap.size < Wc.heap.size := by
    rcases Nat.lt_or_ge w.heap.size Wc.heap.size with h | h
    · exact h
    · have := HG.out; rw [Array.getElem?_eq_none h] at this; cases this
  have k0 : Wc.cell? ⟨p, 0, none⟩ = some (.slice (some ⟨b, off, none⟩) n cap) := (hBc.cell (p := ⟨p, 0, none⟩) hp).trans h0
  have k1 : Wc.frozen? ⟨p, 0, none⟩ = false := (hBc.frozen (p := ⟨p, 0, none⟩) hp).trans h1
  have HBc : Hid (Below w.heap.size w Wc) := hBc
  clear hBc HC HO
  go_enter Try.func64, Try.ntmps64
  have fin : Hid (∀ a' cap', n - c ≤ cap' → RestB Wc B a' (n - c) (fun i => Z (i + c)) → ∃ g, Ending.returned (.slice (some ⟨w.heap.size, 0, none⟩) c c) = .returned (.slice (some ⟨g, 0, none⟩) c c) ∧ w.heap.size ≤ g ∧ g < (Wc.setCell ⟨p, 0, none⟩ (.slice a' (n - c) cap')).heap.size ∧ BsAt (Wc.setCell ⟨p, 0, none⟩ (.slice a' (n - c) cap')) g 0 c Z ∧ UpAt (Wc.setCell ⟨p, 0, none⟩ (.slice a' (n - c) cap')) p B (n - c) (fun i => Z (i + c)) ∧ Keeps p w (Wc.setCell ⟨p, 0, none⟩ (.slice a' (n - c) cap'))) := fun a' cap' hcap' hR => by
    refine ⟨w.heap.size, rfl, Nat.le_refl _, by simpa using hlc, fun i hi => ?_, ⟨a', cap', World.cell?_setCell_same _ _ _ k0, by rw [World.frozen?_setCell]; exact k1, hcap', hR.keeps ((Keeps.refl p Wc).set 0 _) hB (by omega)⟩, (Keeps.of_below HBc.out).set 0 _⟩
    rw [World.cell?_setCell_other]
    · have := HG.out
      simp only [World.cell?, this, Nat.zero_add]
      rw [HX.out]
      simp [hi]
    · simp <;> omega
  go_wp2
  · go_ret
    exact fin.out _ _ (by omega) (.inl (by omega))
  · go_ret
    refine fin.out _ _ (by omega) ?_
    have h3 := RestB.cut (w := Wc) (B := B) (n := n) (cap := cap) (b := b) (off := off) (Z := Z) c hc h2 ⟨hb, HZ.out.below HBc.out (by omega)⟩
    rwa [if_neg (by assumption)] at h3
end Go.Proofs.Ytcbpaockahkakaa
