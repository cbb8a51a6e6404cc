/- Texts. -/
import Derived.Test.YtfkonhagjahgnaaGreatWTiles13
import Derived.Laws.IdiomCopy
import Derived.Laws.BytesArg
set_option linter.unusedSimpArgs false
set_option linter.unusedVariables false
set_option maxRecDepth 100000
set_option maxHeartbeats 32000000
namespace Go.Proofs.YtfkonhagjahgnaaGreat
open Go.RowKit
def TakenZ (p B n : Nat) (Z : Nat → Int) (w : World) (e : Ending) (w' : World) : Prop := ∃ g,e = .returned (.slice (some ⟨g,0,none⟩) 0 0) ∧ UpAt w' p B n Z ∧ Keeps p w w'
theorem take_zero (p B n : Nat) (Z : Nat → Int) (w : World) (h : UpAt w p B n Z) (hB : B ≤ p) (hp : p < w.heap.size) (hmax : n ≤ 1048576) :
  Calls Tryz.prog 113 #[.pointer (some ⟨p,0,none⟩), .int .u64 0] w fun e w' => TakenZ p B n Z w e w' := by
 obtain ⟨a,cap,h0,h1,h2,h3⟩ := h
 have e1 : IntKind.u64.wrap (n : Int) = (n : Int) := by rw [IntKind.wrap_u64]; omega
 have hlt : ¬ (n : Int) < 0 := by omega
 have hn0 : (0 : Int) ≤ (n : Int) := by omega
 have hmk : ∀ w : World,(Instr.makeSlice 22 (.int .u64 0) (.int .u64 0)).run Tryz.prog w = .ok (.slice (some ⟨w.heap.size,0,none⟩) 0 0) (w.alloc (.cells (madeCells (Value.int .u8 0).cells 0) 5)) := fun w => by
  obtain ⟨i,hi,hz,hs,hb⟩ := info_parts info_u8
  have hr := run_make (P := Tryz.prog) w 22 5 i _ Tryz.underlying22 hi hz .u64 .u64 0 0 (by omega) (Int.le_refl _) (by rw [hb]; omega) (by omega)
  simp only [Int.toNat_zero,hs,Nat.mul_one] at hr
  exact hr
 have hsz : (Tryz.prog.info? 5).map (·.size) = some 1 := by kernel_rfl
 have hcp : ∀ W : World,(Builtin.copy_ #[22,22] 3 #[.slice (some ⟨w.heap.size,0,none⟩) 0 0, .slice a n cap]).run Tryz.prog W = .ok (.int .i64 0) W := fun W => by
  exact run_copy_none W 22 22 3 5 (some ⟨w.heap.size,0,none⟩) a 0 0 n cap Tryz.underlying22 hsz (Nat.min_eq_right (Nat.zero_le _))
 obtain ⟨W,hW⟩ : ∃ W,w.alloc (.cells (madeCells (Value.int .u8 0).cells 0) 5) = W := ⟨_,rfl⟩
 have HBW : Hid (Below w.heap.size w W) := by subst hW; exact bl_alloc (Below.refl _ _) _
 have k0 : W.cell? ⟨p,0,none⟩ = some (.slice a n cap) := (HBW.out.cell (p := ⟨p,0,none⟩) hp).trans h0
 have k1 : W.frozen? ⟨p,0,none⟩ = false := (HBW.out.frozen (p := ⟨p,0,none⟩) hp).trans h1
 have hmk' : (Instr.makeSlice 22 (.int .u64 0) (.int .u64 0)).run Tryz.prog w = .ok (.slice (some ⟨w.heap.size,0,none⟩) 0 0) W := hW ▸ hmk w
 have HR : Hid (RestB W B a n Z) := h3.keeps (Keeps.of_below (s := p) HBW.out) hB (by omega)
 clear hmk hW h3
 have fin : Hid (∀ a' cap',n ≤ cap' → RestB W B a' n Z → TakenZ p B n Z w (Ending.returned (.slice (some ⟨w.heap.size,0,none⟩) 0 0)) (W.setCell ⟨p,0,none⟩ (.slice a' n cap'))) := fun a' cap' hcap' hR => by
  have hl := HBW.out.size
  exact ⟨w.heap.size,rfl,⟨a',cap',World.cell?_setCell_same _ _ _ k0,by rw [World.frozen?_setCell]; exact k1,hcap',hR.keeps ((Keeps.refl p W).set 0 _) hB (by omega)⟩,(Keeps.of_below HBW.out).set 0 _⟩
 go_enter Tryz.func113,Tryz.ntmps113
 cases a with
 | none =>
  go_wp2
  all_goals go_ret
  all_goals exact fin.out _ _ (by omega) HR.out
 | some a =>
  go_wp2
  all_goals go_ret
  all_goals first | exact fin.out _ _ (by omega) HR.out | trace_state
def rdNs (Z : Nat → Int) : Nat → Nat → Nat → Option (List Nat × Nat)
 | 0,_,o => some ([],o)
 | c + 1,n,o => (rd (fun i => Z (i + o)) (n - o)).bind fun d => (rdNs Z c n (o + d.2)).map fun r => (d.1 :: r.1,r.2)
def rdLab (Z : Nat → Int) (n o : Nat) : Option (List Int × Nat) := (rdUp 6 (fun i => Z (i + o)) (n - o)).bind fun c => if n - (o + c.2) < c.1 then none else some ((List.range c.1).map fun i => Z (i + (o + c.2)),o + c.2 + c.1)
structure Fx where
 ns : List Nat
 lab : ByteArray
 pts : List (Int × Int)
def rdFeat (Z : Nat → Int) (n : Nat) : Option (Fx × Nat) :=
 (rdNs Z 5 n 0).bind fun a => (rdLab Z n a.2).bind fun b => (rdAll (fun i => Z (i + b.2)) (n - b.2)).map fun c => (⟨a.1,strOfNums b.1,c.1⟩,b.2 + c.2)
def FeatV (f : Fx) (v : Value) : Value := .agg #[.int .i64 (f.ns.getD 0 0 : Nat), .int .i64 (f.ns.getD 1 0 : Nat), .int .i64 (f.ns.getD 2 0 : Nat), .int .i64 (f.ns.getD 3 0 : Nat),v, .string f.lab, .int .i64 (f.ns.getD 4 0 : Nat)]
def FeatP (r : Option (Fx × Nat)) (p B n : Nat) (Z : Nat → Int) (w : World) (e : Ending) (w' : World) : Prop :=
 match r with
 | none => Pan e ∧ Keeps p w w'
 | some x => ∃ v,e = .returned (FeatV x.1 v) ∧ Row w.heap.size w' v x.1.pts ∧ UpAt w' p B (n - x.2) (fun i => Z (i + x.2)) ∧ Keeps p w w'
theorem FeatP.none {r : Option (Fx × Nat)} {p B n : Nat} {Z : Nat → Int} {w w' : World} {e : Ending} (h : r = none) (he : Pan e) (hk : Keeps p w w') : FeatP r p B n Z w e w' := by
 subst h; exact ⟨he,hk⟩
theorem FeatP.some {r : Option (Fx × Nat)} {p B n : Nat} {Z : Nat → Int} {w w' : World} {e : Ending} {x : Fx × Nat} {v : Value} (h : r = some x) (he : e = .returned (FeatV x.1 v)) (hR : Row w.heap.size w' v x.1.pts) (hu : UpAt w' p B (n - x.2) (fun i => Z (i + x.2))) (hk : Keeps p w w') : FeatP r p B n Z w e w' := by
 subst h; exact ⟨v,he,hR,hu,hk⟩
theorem rdNs_none {Z : Nat → Int} {c n o : Nat} (h : rd (fun i => Z (i + o)) (n - o) = none) : rdNs Z (c + 1) n o = none := by simp [rdNs,h]
theorem rdNs_some {Z : Nat → Int} {c n o : Nat} {d : Nat × Nat} (h : rd (fun i => Z (i + o)) (n - o) = some d) : rdNs Z (c + 1) n o = (rdNs Z c n (o + d.2)).map fun r => (d.1 :: r.1,r.2) := by simp [rdNs,h]
structure FSt (w : World) (p B n : Nat) (Z : Nat → Int) (o : Nat) (l : List Nat) (wr : World) : Prop where
 T : There wr w.heap.size 7
 O : OutAt wr (w.heap.size + 1) (l.getD 0 0 : Nat) (l.getD 1 0 : Nat) (l.getD 2 0 : Nat) (l.getD 3 0 : Nat) (.slice none 0 0) ByteArray.empty (l.getD 4 0 : Nat)
 U : UpAt wr p B (n - o) (fun i => Z (i + o))
 K : Keeps p w wr
 sz : w.heap.size + 2 ≤ wr.heap.size
theorem keepsNew {w wr w2 : World} {p K : Nat} (h : Keeps p w wr) (hb : Below K wr w2) (hK : w.heap.size ≤ K) : Keeps p w w2 :=
 ⟨hb.os.trans h.os,hb.tape.trans h.tape,hb.output.trans h.output,Nat.le_trans h.size hb.size,fun j hj hs => (hb.block j (by omega)).trans (h.block j hj hs)⟩
theorem There.keepsU {s r n : Nat} {w w' : World} (h : There w r n) (k : Keeps s w w') (hs : r ≠ s) (hr : r < w.heap.size) : There w' r n := fun o ho => by
 obtain ⟨v,hv⟩ := (h o ho).1
 exact ⟨⟨v,(k.cell (p := ⟨r,o,Option.none⟩) hr hs).trans hv⟩,(k.frozen (p := ⟨r,o,Option.none⟩) hr hs).trans (h o ho).2⟩
theorem There.offU {w : World} {O r n o : Nat} {x : Value} (h : There w r n) (hne : O ≠ r) : There (w.setCell ⟨O,o,Option.none⟩ x) r n := fun i hi => by
 obtain ⟨u,hu⟩ := (h i hi).1
 exact ⟨⟨u,by rw [set1_other (fun e => hne (by injection e))]; exact hu⟩,by rw [World.frozen?_setCell]; exact (h i hi).2⟩
theorem FSt.read {w : World} {p B n : Nat} {Z : Nat → Int} {o o' : Nat} {l : List Nat} {wr w2 : World} (h : FSt w p B n Z o l wr) (hp : p < w.heap.size) (hk : Keeps p wr w2) (hu : UpAt w2 p B (n - o') (fun i => Z (i + o'))) : FSt w p B n Z o' l w2 := by
 have hs := h.sz
 exact ⟨h.T.keepsU hk (by omega) (by omega),(hk.block _ (by omega) (by omega)).trans h.O,hu,h.K.trans hk,Nat.le_trans hs hk.size⟩
theorem FSt.set {w : World} {p B n : Nat} {Z : Nat → Int} {o : Nat} {l l' : List Nat} {wr : World} (h : FSt w p B n Z o l wr) (hp : p < w.heap.size) (hB : B ≤ p) (j : Nat) (u : Value)
  (hO : OutAt (wr.setCell ⟨w.heap.size + 1,j,Option.none⟩ u) (w.heap.size + 1) (l'.getD 0 0 : Nat) (l'.getD 1 0 : Nat) (l'.getD 2 0 : Nat) (l'.getD 3 0 : Nat) (.slice Option.none 0 0) ByteArray.empty (l'.getD 4 0 : Nat)) : FSt w p B n Z o l' (wr.setCell ⟨w.heap.size + 1,j,Option.none⟩ u) := by
 have hbl : Below w.heap.size wr (wr.setCell ⟨w.heap.size + 1,j,Option.none⟩ u) := (Below.refl w.heap.size wr).setCell (p := ⟨w.heap.size + 1,j,Option.none⟩) (Nat.le_succ _) u
 exact ⟨h.T.offU (by omega),hO,h.U.belowB hbl hp hB,keepsNew h.K hbl (Nat.le_refl _),Nat.le_trans h.sz hbl.size⟩
theorem getD_app {l : List Nat} {k : Nat} (h : l.length = k) (x i : Nat) : (l ++ [x]).getD i 0 = if i = k then x else l.getD i 0 := by
 subst h
 rcases Nat.lt_trichotomy i l.length with hi | hi | hi
 ·simp [List.getD,List.getElem?_append_left hi,Nat.ne_of_lt hi]
 ·subst hi; simp [List.getD]
 ·rw [if_neg (by omega)]
  simp [List.getD,List.getElem?_eq_none (show (l ++ [x]).length ≤ i by simp; omega),List.getElem?_eq_none (show l.length ≤ i by omega)]
end Go.Proofs.YtfkonhagjahgnaaGreat
