/- Several texts in one. -/
import Derived.Test.YtciidkmonfmipaaGreatVPutTile31
import Derived.RangeFuncNested
import Derived.RangeFuncBound
import Derived.RangeFuncCalls
import Derived.RangeFuncMany
import Derived.RangeFuncLeaves
import Derived.RangeFuncBox
import Derived.Sort.MapsRangeIn
import Derived.Sort.KeysCollected
import Derived.Shelf.Abstract
import Derived.Shelf.RegionOpen
import Derived.OwnWalkIn
import Derived.TacticsInMore
import Derived.RegionIn
import Derived.LoopNIn
import Derived.LoopIn
import Derived.Shelf.SlSortCmp.NoneTotal
import Derived.Shelf.SlGeneric
import Derived.Ground.SlsfProg
import Derived.Test.YtciidkmonfmipaaGreatRows
import Derived.Test.YtciidkmonfmipaaGreatVPutTile25
import Derived.Test.YtciidkmonfmipaaGreatVPutTile16

/- The tiles of a shelf, told one by one in some order. -/

namespace Go.Proofs.YtciidkmonfmipaaGreat
open Go.RowKit Go.Shelf Go.Maps Go.Sort
attribute [local go_sem] Oper.semAt_some
set_option linter.unusedSimpArgs false
set_option linter.unusedVariables false
set_option maxRecDepth 100000

/-- A tile that is kept, with its turn. -/
structure Ag where
  z : Int
  x : Int
  y : Int
  fa : Option Addr
  fn : Nat
  fc : Nat
  ia : Option Addr
  m : Nat
  ic : Nat
  t : Int
abbrev agW (a : Ag) : Value := agV a.z a.x a.y a.fa a.fn a.fc a.ia a.m a.ic a.t
theorem agW_inj {a b : Ag} (h : agW a = agW b) : a = b := by
  cases a; cases b
  simp at h
  simp [h]
theorem RV_ag {v : Value} {y : DataW Value × List MemPlace} (h : RV v = some y) : ∃ c : Ag, v = agW c := by
  obtain ⟨_, z, x, y, fa, fn, fc, ia, m, ic, t, rfl⟩ := RV_inv (d := y.1) (ps := y.2) h
  exact ⟨⟨z, x, y, fa, fn, fc, ia, m, ic, t⟩, rfl⟩
/-- What a key is. -/
theorem key_str {P : Program} {k : TypeId} {fs : Array Field} {key : Value} {kl : Lit} (hu : P.underlying k = some (.struct fs)) (h : keyOf P k key = some kl) : ∃ x : List UInt8, kl = .string x := by
  unfold keyOf at h
  rw [hu] at h
  simp at h
  obtain ⟨_, a, _, e⟩ := h
  exact ⟨_, e.symm⟩
/-- All have come: the keys, each once; each with its element. -/
def AllV (D0 : DataW Value) (ps : List (List UInt8 × Ag)) : Prop := (ps.map (·.1)).Nodup ∧ (∀ x, x ∈ ps.map (·.1) ↔ has D0 (.string x) = true) ∧ ∀ p ∈ ps, ∀ zd, D0.atKey (.string p.1) zd = .held (agW p.2)
set_option maxHeartbeats 2000000 in
theorem values1_in (l Bm b nn : Nat) (D0 : DataW Value) (J Jx : List Ag → World → Prop)
    (hY : ∀ pre x W, J pre W → pre.length < Maps.size D0 → YieldAt Fence.wide 2 Tryz.prog l #[agW x] W fun e W' =>
      (e = .returned (.bool true) ∧ J (pre ++ [x]) W' ∧ KeepsWalks W W') ∨ (e = .returned (.bool false) ∧ Jx (pre ++ [x]) W'))
    (W : World) (hJ : AbidesFrom W.heap.size J) (hm : W.cell? ⟨Bm, 0, none⟩ = some (.map (some b))) (hown : W.ownsMap Tryz.prog 39 RV b nn D0) (h0 : J [] W) :
    CallsIn Fence.wide 3 Tryz.prog 130 #[.func (.yield l) #[] #[], .pointer (some ⟨Bm, 0, none⟩)] W fun e W' => (∃ v, e = .returned v) ∧
      ((∃ xs, (∃ ps, AllV D0 ps ∧ xs = ps.map (·.2)) ∧ J xs W') ∨ (∃ pre, True ∧ Jx pre W')) := by
  refine callsIn_of_wp Tryz.func130 rfl trivial ?_ rfl
  simp only [Tryz.ntmps130, List.size_toArray, List.length_cons, List.length_nil, Nat.reduceAdd, Nat.reduceSub, Array.replicate_succ, Array.replicate_zero, List.push_toArray, List.append_toArray, List.nil_append, List.cons_append]
  gi_wp2_with (first
    | (gi_at_range; refine wpListIn_range_own _ rfl _ 103 rfl 39 125 keyed_ref Tryz.underlying103 _ b nn _ rfl hown ?_; intro w0 hrg0 hg0 hs0)
    | gi_in)
  go_frame
  gi_loopw [] (fun wr => ∃ (left : Lit → Bool) (cnt : Nat) (ps : List (List UInt8 × Ag)), wr.ranges Tryz.prog 39 RV b W.heap.size nn D0 left cnt ∧ ps.length + cnt ≤ Maps.size D0 ∧ Collected D0 left (ps.map (·.1)) ∧ (∀ p ∈ ps, ∀ zd, D0.atKey (.string p.1) zd = .held (agW p.2)) ∧ J (ps.map (·.2)) wr)
    (fun wr => wr.rangeLeft b W.heap.size)
  case atStart =>
    exact ⟨_, _, [], hrg0, by simp, Collected.start D0, by simp, hJ [] W w0 none h0 hg0 (fun r e => by cases e)⟩
  case round =>
    obtain ⟨left, cnt, ps, hrg, hcs, hC, hV, hJs⟩ := hrel
    gi_wp2_with (first
      | (gi_at_next; refine wpListIn_next_ranges _ rfl _ rfl 39 keyed_ref RV id agW (fun key kl hk => ⟨key, rfl⟩) (fun v y hv => RV_ag hv) b W.heap.size nn _ _ _ rfl hrg ?_ ?_)
      | gi_in)
    · intro hc0 hl0
      gi_wp2
      go_end0
      exact ⟨⟨_, rfl⟩, .inl ⟨_, ⟨ps, ⟨hC.1, fun x => by rw [hC.2 x, hl0]; simp, hV⟩, rfl⟩, hJs⟩⟩
    · intro x c kl yd yp w2 cnt2 hkey hlk hv hat hrg2 hlt hg2 hs2 hen
      obtain ⟨xb, rfl⟩ := key_str Tryz.underlying39 hkey
      have hy1 : yd = .held (agW c) := (RV_inv hv).1
      have hJ2 : J (ps.map (·.2)) w2 := hJ _ wr w2 (some W.heap.size) hJs hg2 (fun r e => by cases e; exact ⟨Nat.le_refl _, hrg.iter_walk⟩)
      have hJa : J (ps.map (·.2)) (w2.alloc (.cells #[.int .i64 c.z, .int .i64 c.x, .int .i64 c.y, .slice c.fa c.fn c.fc, .slice c.ia c.m c.ic, .int .i64 c.t] 125)) := hJ _ _ _ none hJ2 (World.grownBy_alloc _ _ _) (fun r e => by cases e)
      obtain ⟨fn, tmps, assign, body, hy, hR⟩ := hY (ps.map (·.2)) c _ hJa (by simp; omega)
      clear hs2
      gi_wp2
      refine hR.mono ?_
      have hC2 : Collected D0 (fun z => left z && !z.sameKey (.string xb)) ((ps ++ [(xb, c)]).map (·.1)) := by simpa using hC.step hlk hat
      have hV2 : ∀ p ∈ ps ++ [(xb, c)], ∀ zd, D0.atKey (.string p.1) zd = .held (agW p.2) := fun p hp => (List.mem_append.1 hp).elim (hV p) (fun e => by simp at e; subst e; intro zd; rw [hat zd, hy1])
      rintro e W3 (⟨rfl, hJ3, hk3⟩ | ⟨rfl, hJx3⟩)
      · gi_wp2
        have hrg3 := (hrg2.alloc _).of_walks hk3
        go_roundw
        case rel => exact ⟨_, cnt2, ps ++ [(xb, c)], hrg3, by simp; omega, hC2, hV2, by simpa using hJ3⟩
        case measure => rw [hrg3.left_eq, hrg.left_eq]; exact hlt
      · gi_wp2
        refine bodyPost_ret (results_none rfl _ _ _) rfl ?_
        exact ⟨⟨_, rfl⟩, .inr ⟨_, trivial, hJx3⟩⟩
end Go.Proofs.YtciidkmonfmipaaGreat
/- The tiles of a shelf as a list, in some order. -/

namespace Go.Proofs.YtciidkmonfmipaaGreat
open Go.RowKit Go.Shelf Go.Maps Go.Sort
attribute [local go_sem] Oper.semAt_some
set_option linter.unusedSimpArgs false
set_option linter.unusedVariables false
set_option maxRecDepth 100000

def agCs (a : Ag) : List Value := [.int .i64 a.z, .int .i64 a.x, .int .i64 a.y, .slice a.fa a.fn a.fc, .slice a.ia a.m a.ic, .int .i64 a.t]
def agsCs (l : List Ag) : List Value := l.flatMap agCs
/-- The block holds one. -/
def ABox (W : World) (B : Nat) (a : Ag) : Prop := W.heap[B]? = some (.cells #[.int .i64 a.z, .int .i64 a.x, .int .i64 a.y, .slice a.fa a.fn a.fc, .slice a.ia a.m a.ic, .int .i64 a.t] 125 (0, 0))
theorem ABox.at {W : World} {B : Nat} {a : Ag} (h : ABox W B a) : W.cell? ⟨B, 0, none⟩ = some (.int .i64 a.z) ∧ W.cell? ⟨B, 1, none⟩ = some (.int .i64 a.x) ∧ W.cell? ⟨B, 2, none⟩ = some (.int .i64 a.y) ∧ W.cell? ⟨B, 3, none⟩ = some (.slice a.fa a.fn a.fc) ∧ W.cell? ⟨B, 4, none⟩ = some (.slice a.ia a.m a.ic) ∧ W.cell? ⟨B, 5, none⟩ = some (.int .i64 a.t) := by
  have h' : W.heap[B]? = _ := h
  exact ⟨by simp [World.cell?, h'], by simp [World.cell?, h'], by simp [World.cell?, h'], by simp [World.cell?, h'], by simp [World.cell?, h'], by simp [World.cell?, h']⟩
abbrev zeroAg : Array Value := #[.int .i64 0, .int .i64 0, .int .i64 0, .slice none 0 0, .slice none 0 0, .int .i64 0]
theorem info_ag : (Tryz.prog.info? 125).map (fun i => (i.zero, i.size, i.bytes)) = some (some (.agg zeroAg), 6, 80) := by kernel_rfl
/-- All tiles of the map, in some order. -/
def AllA (D0 : DataW Value) (xs : List Ag) : Prop := ∃ ps, AllV D0 ps ∧ xs = ps.map (·.2)
theorem values_stops (Bm b nn : Nat) (D0 : DataW Value) (w : World) (hBm : Bm < w.heap.size) (hm : w.cell? ⟨Bm, 0, none⟩ = some (.map (some b))) (hown : w.ownsMap Tryz.prog 39 RV b nn D0) :
    SeqStopsK Fence.wide 3 Tryz.prog 130 #[.pointer (some ⟨Bm, 0, none⟩)] (fun x : Ag => #[agW x]) KeepsWalks (AllA D0) (fun _ => True) (Maps.size D0) w := fun l J Jx W hW hJ hJx hY h0 =>
  values1_in l Bm b nn D0 J Jx hY W hJ ((hW.cell (p := ⟨Bm, 0, none⟩) hBm).trans hm) (ownsMap_below hown hW) h0
theorem mapsValues_any (mb : Nat) (w : World) : Calls Tryz.prog 104 #[.map (some mb)] w fun e w' => e = .returned (.func (.func 130) #[] #[.pointer (some ⟨w.heap.size, 0, none⟩)]) ∧ w' = w.alloc (.cells #[.map (some mb)] 103) := by
  have hmf : ∀ (fn : Fn) (first cap : Array Value) (w : World), (Instr.makeFunc fn first cap).run Tryz.prog w = .ok (.func fn first cap) w := fun _ _ _ _ => rfl
  go_enter Tryz.func104, Tryz.ntmps104
  go_wp2
  go_ret
  exact ⟨rfl, rfl⟩
set_option maxHeartbeats 4000000 in
theorem appendSeqA_any (Bm b nn : Nat) (D0 : DataW Value) (w : World) (hBm : Bm < w.heap.size) (hm : w.cell? ⟨Bm, 0, none⟩ = some (.map (some b))) (hown : w.ownsMap Tryz.prog 39 RV b nn D0) (hall : Maps.size D0 ≤ 1048576) :
    Calls Tryz.prog 144 #[.slice none 0 0, .func (.func 130) #[] #[.pointer (some ⟨Bm, 0, none⟩)]] w fun e w' => ∃ v xs, e = .returned v ∧ AllA D0 xs ∧ w'.ownsRow w.heap.size 125 6 v xs.length (agsCs xs) ∧ Below w.heap.size w w' := by
  obtain ⟨i0, hi, hz0, hz1, hz2⟩ := info_parts info_ag
  refine (callsIn_wide (n := 4)).1 ?_
  refine callsIn_of_wp_marks Tryz.func144 rfl trivial ?_ rfl
  simp only [Tryz.ntmps144, List.size_toArray, List.length_cons, List.length_nil, Nat.reduceAdd, Nat.reduceSub, Array.replicate_succ, Array.replicate_zero, List.push_toArray, List.append_toArray, List.nil_append, List.cons_append]
  gi_wp2
  obtain ⟨W0, hW0⟩ : ∃ W0, (w.alloc (.cells #[.slice none 0 0] 159) : World) = W0 := ⟨_, rfl⟩
  have b0 : Boxed W0 w.heap.size 159 (.slice none 0 0) := by rw [← hW0]; exact Boxed.new w 159 (.slice none 0 0)
  have hB0 : Below w.heap.size w W0 := by rw [← hW0]; (repeat (first | exact Below.refl _ _ | assumption | refine Below.drew ?_ | refine bl_alloc ?_ _ | refine bl_then ?_ (by assumption) | refine Below.setCell ?_ (by first | omega | (simp; done) | (simp; omega)) _ | refine bl_store ?_ ?_ _ _))
  have hsz : W0.heap.size = w.heap.size + 1 := by rw [← hW0]; simp
  rw [hW0]
  clear hW0
  refine wpIn_rangeFunc_ownH rfl (by omega) (gf := 130) (lb := #[.pointer (some ⟨Bm, 0, none⟩)]) rfl trivial (enters_of Tryz.func130 (by kernel_rfl) rfl)
    (values_stops Bm b nn D0 W0 (by omega) ((hB0.cell (p := ⟨Bm, 0, none⟩) hBm).trans hm) (ownsMap_below hown hB0)) (fun h k => KeepsWalks.trans h k) (fun W l o o' _ h1 _ h3 => KeepsWalks.putObj o' h1 h3) (Below.refl _ _) (fun _ => rfl)
    (fun pre W => ((∃ v, Boxed W w.heap.size 159 v ∧ W.ownsRow w.heap.size 125 6 v pre.length (agsCs pre) ∧ True)) ∧ Below w.heap.size w W)
    (fun _ _ _ => False)
    (OwnFrom.and (Own.from (holdsRow_own w.heap.size w.heap.size 159 125 6 (fun (pre : List Ag) => pre.length) (fun pre => agsCs pre) (fun _ _ => True)) _) (ownFrom_below (Nat.le_refl _) (by omega)))
    (fun _ _ _ _ _ hs _ _ => hs)
    ⟨⟨_, b0, World.ownsRow_nil _ _ _ _, trivial⟩, hB0⟩
    (fun x a' W => ∃ Bx, ABox W Bx x ∧ a' = { tmps := #[.slice none 0 0, .func (.func 130) #[] #[.pointer (some ⟨Bm, 0, none⟩)], .pointer (some ⟨w.heap.size, 0, none⟩), undef, .slice none 0 0, .pointer (some ⟨Bx, 0, none⟩), .func (.func 130) #[] #[.pointer (some ⟨Bm, 0, none⟩)], agW x, undef, undef, undef, undef, undef], defers := [] })
    ?hAx ?assign ?body ?done ?stop
  case hAx =>
    rintro x a' _ X Y row ⟨Bx, e1, e2⟩ hg hr
    exact ⟨Bx, (hg.block Bx (Array.getElem?_eq_some_iff.1 e1).1 (fun e' => by obtain ⟨_, o, ho, hc⟩ := hr Bx e'.symm; rw [show X.heap[Bx]? = _ from e1] at ho; cases ho; cases hc)).trans e1, e2⟩
  case assign =>
    rintro l pre x W K ⟨⟨v, hv, hrow, _⟩, hB⟩ hK
    have hK2 := hK { tmps := #[.slice none 0 0, .func (.func 130) #[] #[.pointer (some ⟨Bm, 0, none⟩)], .pointer (some ⟨w.heap.size, 0, none⟩), undef, .slice none 0 0, .pointer (some ⟨W.heap.size, 0, none⟩), .func (.func 130) #[] #[.pointer (some ⟨Bm, 0, none⟩)], agW x, undef, undef, undef, undef, undef], defers := [] } (W.alloc (.cells #[.int .i64 x.z, .int .i64 x.x, .int .i64 x.y, .slice x.fa x.fn x.fc, .slice x.ia x.m x.ic, .int .i64 x.t] 125))
      ((KeepsOthers.alloc _ _).from _) (KeepsWalks.alloc _ _) ⟨⟨v, hv.alloc _, hrow.alloc _, trivial⟩, hB.alloc hB.size _⟩ ⟨_, World.alloc_heap_new W _, rfl⟩
    gi_wp2
    exact hK2
  case body =>
    rintro l pre x a' W hl hlr ⟨⟨v, hv, hrow, _⟩, hB⟩ ⟨Bx, hE, rfl⟩ hlt
    obtain ⟨e0, e1, e2, e3, e4, e5⟩ := hE.at
    have hc := hv.cell
    have hmx : 1048577 ≤ maxLen := by decide
    have hce : ∀ j u, (agCs x)[j]? = some u → (W.alloc (.cells #[.int .i64 x.z, .int .i64 x.x, .int .i64 x.y, .slice x.fa x.fn x.fc, .slice x.ia x.m x.ic, .int .i64 x.t] 125)).cell? ((⟨W.heap.size, 0, none⟩ : Addr).add j) = some u := by
      have hN : ABox (W.alloc (.cells #[.int .i64 x.z, .int .i64 x.x, .int .i64 x.y, .slice x.fa x.fn x.fc, .slice x.ia x.m x.ic, .int .i64 x.t] 125)) W.heap.size x := World.alloc_heap_new W _
      obtain ⟨n0, n1, n2, n3, n4, n5⟩ := hN.at
      intro j u hj
      match j, hj with
      | 0, hj => exact (Option.some.inj hj) ▸ n0
      | 1, hj => exact (Option.some.inj hj) ▸ n1
      | 2, hj => exact (Option.some.inj hj) ▸ n2
      | 3, hj => exact (Option.some.inj hj) ▸ n3
      | 4, hj => exact (Option.some.inj hj) ▸ n4
      | 5, hj => exact (Option.some.inj hj) ▸ n5
      | j + 6, hj => cases (show (none : Option Value) = some u from hj)
    gi_wp2_with (gi_at_builtin; refine wpListIn_append_own _ rfl _ _ 159 rfl w.heap.size 125 i0 (.agg zeroAg) 6 80 Tryz.underlying159 hi hz0 hz1 hz2 rfl (by decide) _ _ _ rfl (hrow.alloc _) ⟨W.heap.size, 0, none⟩ 1 1 (agCs x) rfl rfl hce (by simp [agCs, Value.oneCell']) (by omega) (by omega) (by have := hB.size; simp; omega) ?_; intro v' w1 hown' hgrow _; obtain ⟨g', cap', rfl⟩ := ownsRow_succ hown'; obtain ⟨hv1, hv2, hr2, hk2, hb2⟩ := hv.appended (by decide) hrow hB.size (Nat.le_refl _) hown' hgrow; have hc1 := hv1.cell; have hf1 := hv1.frozen)
    have hkw : KeepsWalks W w1 := (KeepsWalks.alloc W (.cells #[.int .i64 x.z, .int .i64 x.x, .int .i64 x.y, .slice x.fa x.fn x.fc, .slice x.ia x.m x.ic, .int .i64 x.t] 125)).trans (KeepsWalks.of_grownBy hgrow (fun j o e h => by
      have e' : v.ownBlock = some j := e
      rcases (hrow.alloc (.cells #[.int .i64 x.z, .int .i64 x.x, .int .i64 x.y, .slice x.fa x.fn x.fc, .slice x.ia x.m x.ic, .int .i64 x.t] 125)).2 with ⟨rfl, _⟩ | ⟨g, cap, cur, rfl, _, hgb, _⟩
      · cases e'
      · have : g = j := by simpa [Value.ownBlock] using e'
        subst this
        rw [hgb] at h
        cases h
        rfl))
    refine ⟨hk2.from _, hkw.trans (KeepsWalks.setCell _ _ _), ⟨_, hv2, ?_, trivial⟩, hB.trans hb2⟩
    simpa [agsCs] using hr2
  case done =>
    rintro D ys W hD hys ⟨⟨v, hv, hrow, _⟩, hB⟩ hK
    have hc := hv.cell
    gi_wp2
    refine ⟨by simp, .inl ⟨_, _, rfl, run_takeDeferred hK, ?_⟩⟩
    exact ⟨_, results_tmp rfl _ _ _, v, ys, rfl, hys, ownsRow_putObj hrow _ hK rfl, hB.trans (belowK_b (w := w) (Nat.le_refl _) W D _ _ (by omega) hK rfl rfl)⟩
  case stop =>
    rintro D c pre W _ _ h _
    exact h.elim
end Go.Proofs.YtciidkmonfmipaaGreat
/- Where the sort of the library lies in this program: numbers alone. -/

namespace Go.Proofs
open Go.Shelf
def Tryz.sortA_ren : Go.Shelf.Ren := ⟨fun | 6 => 129 | 15 => 146 | 14 => 145 | 28 => 166 | 29 => 167 | 20 => 158 | 21 => 159 | 22 => 160 | 23 => 161 | 24 => 162 | 25 => 163 | 26 => 164 | 27 => 165 | 46 => 173 | 47 => 174 | 48 => 175 | 49 => 176 | 50 => 177 | 57 => 178 | n => n, fun | 22 => 159 | 24 => 125 | 25 => 164 | 3 => 3 | 39 => 136 | 0 => 0 | 53 => 224 | 55 => 226 | 4 => 4 | 46 => 217 | 45 => 216 | 50 => 221 | 5 => 5 | 9 => 9 | 66 => 231 | 70 => 235 | 76 => 238 | 77 => 239 | n => n, fun | n => n⟩
theorem Tryz.sortA : Go.Proofs.SlLaysF0.n6 Tryz.prog Tryz.sortA_ren := {
  mixed := by kernel_rfl
  f6 := ⟨Tryz.f129.name, by decide, Tryz.func129.trans (congrArg some (by kernel_rfl))⟩
  f14 := ⟨Tryz.f145.name, by decide, Tryz.func145.trans (congrArg some (by kernel_rfl))⟩
  f15 := Tryz.func146.trans (congrArg some (by kernel_rfl))
  f20 := ⟨Tryz.f158.name, by decide, Tryz.func158.trans (congrArg some (by kernel_rfl))⟩
  f21 := ⟨Tryz.f159.name, by decide, Tryz.func159.trans (congrArg some (by kernel_rfl))⟩
  f22 := ⟨Tryz.f160.name, by decide, Tryz.func160.trans (congrArg some (by kernel_rfl))⟩
  f23 := ⟨Tryz.f161.name, by decide, Tryz.func161.trans (congrArg some (by kernel_rfl))⟩
  f24 := ⟨Tryz.f162.name, by decide, Tryz.func162.trans (congrArg some (by kernel_rfl))⟩
  f25 := ⟨Tryz.f163.name, by decide, Tryz.func163.trans (congrArg some (by kernel_rfl))⟩
  f26 := ⟨Tryz.f164.name, by decide, Tryz.func164.trans (congrArg some (by kernel_rfl))⟩
  f27 := ⟨Tryz.f165.name, by decide, Tryz.func165.trans (congrArg some (by kernel_rfl))⟩
  f28 := Tryz.func166.trans (congrArg some (by kernel_rfl))
  f29 := Tryz.func167.trans (congrArg some (by kernel_rfl))
  f46 := ⟨Tryz.f173.name, by decide, Tryz.func173.trans (congrArg some (by kernel_rfl))⟩
  f47 := Tryz.func174.trans (congrArg some (by kernel_rfl))
  f48 := Tryz.func175.trans (congrArg some (by kernel_rfl))
  f49 := ⟨Tryz.f176.name, by decide, Tryz.func176.trans (congrArg some (by kernel_rfl))⟩
  f50 := ⟨Tryz.f177.name, by decide, Tryz.func177.trans (congrArg some (by kernel_rfl))⟩
  f57 := ⟨Tryz.f178.name, by decide, Tryz.func178.trans (congrArg some (by kernel_rfl))⟩
  t0 := Tryz.underlying0
  a0 := Tryz.isAgg0
  z0 := Tryz.sizeOf0
  v0 := Tryz.zeroValue0
  t3 := Tryz.underlying3
  a3 := Tryz.isAgg3
  z3 := Tryz.sizeOf3
  v3 := Tryz.zeroValue3
  t4 := Tryz.underlying4
  a4 := Tryz.isAgg4
  z4 := Tryz.sizeOf4
  v4 := Tryz.zeroValue4
  t5 := Tryz.underlying5
  a5 := Tryz.isAgg5
  z5 := Tryz.sizeOf5
  v5 := Tryz.zeroValue5
  t9 := Tryz.underlying9
  a9 := Tryz.isAgg9
  z9 := Tryz.sizeOf9
  v9 := Tryz.zeroValue9
  t22 := Tryz.underlying159
  a22 := Tryz.isAgg159
  z22 := Tryz.sizeOf159
  v22 := Tryz.zeroValue159
  t25 := Tryz.underlying164
  a25 := Tryz.isAgg164
  z25 := Tryz.sizeOf164
  v25 := Tryz.zeroValue164
  t39 := Tryz.underlying136
  a39 := Tryz.isAgg136
  z39 := Tryz.sizeOf136
  v39 := Tryz.zeroValue136
  t45 := Tryz.underlying216
  a45 := Tryz.isAgg216
  z45 := Tryz.sizeOf216
  v45 := Tryz.zeroValue216
  t46 := Tryz.underlying217
  a46 := Tryz.isAgg217
  z46 := Tryz.sizeOf217
  v46 := Tryz.zeroValue217
  t50 := Tryz.underlying221
  a50 := Tryz.isAgg221
  z50 := Tryz.sizeOf221
  v50 := Tryz.zeroValue221
  t53 := Tryz.underlying224
  a53 := Tryz.isAgg224
  z53 := Tryz.sizeOf224
  v53 := Tryz.zeroValue224
  t55 := Tryz.underlying226
  a55 := Tryz.isAgg226
  z55 := Tryz.sizeOf226
  v55 := Tryz.zeroValue226
  t66 := Tryz.underlying231
  a66 := Tryz.isAgg231
  z66 := Tryz.sizeOf231
  v66 := Tryz.zeroValue231
  t70 := Tryz.underlying235
  a70 := Tryz.isAgg235
  z70 := Tryz.sizeOf235
  v70 := Tryz.zeroValue235
  t76 := Tryz.underlying238
  a76 := Tryz.isAgg238
  z76 := Tryz.sizeOf238
  v76 := Tryz.zeroValue238
  t77 := Tryz.underlying239
  a77 := Tryz.isAgg239
  z77 := Tryz.sizeOf239
  v77 := Tryz.zeroValue239 }
end Go.Proofs
/- The tiles of a shelf, sorted by their turns. -/

namespace Go.Proofs.YtciidkmonfmipaaGreat
open Go.RowKit Go.Sort Go.Shelf
set_option linter.unusedSimpArgs false
set_option linter.unusedVariables false
set_option maxRecDepth 100000

def cmpA (f g : Ag) : Int := cmpI f.t g.t
theorem agCs_len (e : Ag) : (agCs e).length = 6 := rfl
theorem agCs_one (e : Ag) : ∀ v ∈ agCs e, v.oneCell' = true := by simp [agCs, Value.oneCell']
/-- Six cells: one of them. -/
def AgAt (w : World) (p o : Nat) (a : Ag) : Prop := w.cell? ⟨p, o, none⟩ = some (.int .i64 a.z) ∧ w.cell? ⟨p, o + 1, none⟩ = some (.int .i64 a.x) ∧ w.cell? ⟨p, o + 2, none⟩ = some (.int .i64 a.y) ∧ w.cell? ⟨p, o + 3, none⟩ = some (.slice a.fa a.fn a.fc) ∧ w.cell? ⟨p, o + 4, none⟩ = some (.slice a.ia a.m a.ic) ∧ w.cell? ⟨p, o + 5, none⟩ = some (.int .i64 a.t)
set_option maxHeartbeats 2000000 in
theorem compareTurns_gro (f g : Ag) (w : World) : Calls Tryz.prog 105 #[.agg (agCs f).toArray, .agg (agCs g).toArray] w fun e w' => e = .returned (.int .i64 (cmpA f g)) ∧ Gro w w' := by
  have H1 : Hid (∀ W, Calls Tryz.prog 123 #[.int .i64 f.t, .int .i64 g.t] W fun e w' => e = .returned (.int .i64 (cmpA f g)) ∧ w' = W) := fun W => cmpCompare_any _ _ _
  generalize cmpA f g = A at *
  unfold agCs
  go_enter Tryz.func105, Tryz.ntmps105
  go_wp2_with fail
  generalize hV : ((w.alloc _).alloc _ : World) = V
  have hB0 : Gro w V := by subst hV; exact ((Gro.refl _).alloc _).alloc _
  clear hV
  refine (H1.out _).mono ?_
  rintro e w1 ⟨rfl, rfl⟩
  go_wp2
  go_ret
  exact ⟨rfl, hB0⟩
theorem compareTurns_any (f g : Ag) (w : World) : Calls Tryz.prog 105 #[.agg (agCs f).toArray, .agg (agCs g).toArray] w fun e w' => e = .returned (.int .i64 (cmpA f g)) ∧ ∃ q os', w' = grow (w.drewN q) os' :=
  (compareTurns_gro f g w).mono fun e w' ⟨he, hg⟩ => ⟨he, hg.grow⟩
/-- v is a row of its own with n of them. -/
def ARow (base : Nat) (w : World) (v : Value) (E : Nat → Ag) (n : Nat) : Prop := w.ownsRow base 125 6 v n (agsCs ((List.range n).map E))
theorem agsCs_cons (e : Ag) (l : List Ag) : agsCs (e :: l) = agCs e ++ agsCs l := rfl
theorem agsCs_get : ∀ (l : List Ag) (i k : Nat) (e : Ag), l[i]? = some e → k < 6 → (agsCs l)[i * 6 + k]? = (agCs e)[k]?
  | [], i, k, e, h, _ => by simp at h
  | a :: l, 0, k, e, h, hk => by
    simp at h
    subst h
    rw [agsCs_cons, Nat.zero_mul, Nat.zero_add, List.getElem?_append_left (by rw [agCs_len]; exact hk)]
  | a :: l, i + 1, k, e, h, hk => by
    have h' : l[i]? = some e := by simpa using h
    rw [agsCs_cons, List.getElem?_append_right (by rw [agCs_len]; omega), agCs_len, ← agsCs_get l i k e h' hk]
    congr 1
    omega
theorem agsCs_cell (E : Nat → Ag) (n i k : Nat) (hi : i < n) (hk : k < 6) : (agsCs ((List.range n).map E))[i * 6 + k]? = (agCs (E i))[k]? :=
  agsCs_get _ i k _ (by simp [hi]) hk
theorem lt_cmpA (H : Nat → Ag) (i j : Nat) : ltOf (fun i j => cmpA (H i) (H j)) i j = ltK (fun _ => 0) (fun i => (H i).t) i j := by
  show decide (cmpI (H i).t (H j).t < 0) = (decide ((0 : Int) < 0) || (decide ((0 : Int) = 0) && decide ((H i).t < (H j).t)))
  simp [cmpI_lt]
theorem swo_cmpA (H : Nat → Ag) : SWO (ltOf (fun i j => cmpA (H i) (H j))) where
  irrefl x := by rw [lt_cmpA, ltK_no]; omega
  trans x y z h1 h2 := by rw [lt_cmpA, ltK_iff] at *; omega
  ntrans x y z h1 h2 := by rw [lt_cmpA, ltK_no] at *; omega
theorem cmpLays_A (H : Nat → Ag) (blk off size : Nat) (w : World) : CmpLays Tryz.prog 105 #[] (fun i => agCs (H i)) 6 (fun i j => cmpA (H i) (H j)) blk off size w :=
  fun _ _ _ _ x y => compareTurns_any (H x) (H y) _
theorem holds_A {base : Nat} {w : World} {v : Value} {H : Nat → Ag} {n g c : Nat} (h : ARow base w v H n) (hv : v = .slice (some ⟨g, 0, none⟩) n c) : HoldsK (fun i => agCs (H i)) 6 w g 0 (Array.range n) := by
  subst hv
  have hrow : w.ownsRow base 125 6 (.slice (some ⟨g, 0, none⟩) n c) n (agsCs ((List.range n).map H)) := h
  intro t ht
  rw [size_flatK, Array.size_range] at ht
  rw [get_flatK _ _ _ _ (by rw [Array.size_range]; exact ht), Nat.zero_add]
  refine ⟨?_, hrow.frozenAt t⟩
  have hi : t / 6 < n := by omega
  have hk : t % 6 < 6 := by omega
  have e := agsCs_cell H n (t / 6) (t % 6) hi hk
  have et : t / 6 * 6 + t % 6 = t := by omega
  rw [et] at e
  rw [hrow.cellAt t ht, e]
  have ea : (Array.range n)[t / 6]! = t / 6 := by simp [hi]
  rw [ea]
  show (agCs (H (t / 6)))[t % 6]? = some (agCs (H (t / 6)))[t % 6]!
  have hl : t % 6 < (agCs (H (t / 6))).length := by rw [agCs_len]; exact hk
  rw [List.getElem?_eq_getElem hl, getElem!_pos (agCs (H (t / 6))) (t % 6) hl]
theorem at_A {w : World} {H : Nat → Ag} {g : Nat} {d : Array Nat} (h : HoldsK (fun i => agCs (H i)) 6 w g 0 d) {i : Nat} (hi : i < d.size) : AgAt w g (i * 6) (H d[i]!) := by
  have c := fun k (hk : k < 6) => (h.cell hi hk).1
  simp only [Nat.zero_add] at c
  exact ⟨c 0 (by omega), c 1 (by omega), c 2 (by omega), c 3 (by omega), c 4 (by omega), c 5 (by omega)⟩
theorem there_A {w : World} {H : Nat → Ag} {g : Nat} {d : Array Nat} (h : HoldsK (fun i => agCs (H i)) 6 w g 0 d) : There w g (d.size * 6) := fun o ho => by
  have := h.cell (i := o / 6) (c := o % 6) (by omega) (by omega)
  have e : 0 + o / 6 * 6 + o % 6 = o := by omega
  rw [e] at this
  exact ⟨⟨_, this.1⟩, this.2⟩
set_option maxHeartbeats 1000000 in
theorem sortA_any (n base : Nat) (v : Value) (H : Nat → Ag) (w : World) (hR : ARow base w v H n) (hn : n ≤ 1048576) :
    Calls Tryz.prog 129 #[v, .func (.func 105) #[] #[]] w fun e w' => e = .returned (.tuple #[]) ∧
      ((n = 0 ∧ w' = w) ∨ ∃ (g c : Nat) (l : List Nat), v = .slice (some ⟨g, 0, none⟩) n c ∧ base ≤ g ∧ g < w.heap.size ∧ l.Perm (List.range n) ∧ l.Pairwise (fun a b => ltK (fun _ => 0) (fun i => (H i).t) b a = false) ∧ w.grownBy w' (some g) ∧ There w' g (n * 6) ∧ n ≤ c ∧
        ∀ i, i < n → AgAt w' g (i * 6) (H (l.getD i 0))) := by
  obtain ⟨h1, h2 | ⟨g, c, cur, hv, hg, hh, hkc, hcm, hcs, htk⟩⟩ := id hR
  · obtain ⟨hv, hn0⟩ := h2
    subst hv
    have hcon := AnyF.slices_SortFunc_none Tryz.sortA none 0 (.func (.func 105) #[] #[]) w
    exact hcon.mono fun e w' ⟨he, hw⟩ => ⟨he, .inl ⟨hn0, hw⟩⟩
  · have hgl : g < w.heap.size := by
      rcases Nat.lt_or_ge g w.heap.size with h' | h'
      · exact h'
      · rw [Array.getElem?_eq_none h'] at hh; cases hh
    have eg : ∀ args w, (callFunc 105 args).run Tryz.prog w = .ok (.enter 105 args) w := enters_of Tryz.func105 (by kernel_rfl) rfl
    have hH := holds_A hR hv
    have hcon := AnyQ.slices_SortFunc Tryz.sortA 6 Tryz.isAgg125 Tryz.sizeOf125 (fun i => agCs (H i)) (fun _ => rfl) (fun i => agCs_one (H i)) (fun i j => cmpA (H i) (H j)) (swo_cmpA H) 105 #[] g 0 c (Array.range n) w eg (cmpLays_A H g 0 _ w) hH hgl (by rw [Array.size_range]; omega)
    rw [Array.size_range] at hcon
    subst hv
    refine Calls.mono (show Calls Tryz.prog 129 _ _ _ from hcon) ?_
    rintro e w' ⟨he, d', m, os, hp, hs, rfl⟩
    obtain ⟨hp1, hp2, hp3⟩ := hp
    rw [Array.size_range] at hp1
    have hH' := holdsK_sortWorldK_c (fun i => agCs (H i)) 6 w g 0 (Array.range n) d' m os hH hgl (by rw [hp1, Array.size_range])
    have hget : ∀ i, i < n → d'[i]! = d'.toList.getD i 0 := fun i hi => by
      rw [List.getD_eq_getElem?_getD, Array.getElem?_toList, getElem!_pos d' i (by omega), Array.getElem?_eq_getElem (by omega)]
      rfl
    refine ⟨he, .inr ⟨g, c, d'.toList, rfl, hg, hgl, ?_, ?_, grown_sortF _ _ _ _ _ _ _ _, ?_, hkc, fun i hi => ?_⟩⟩
    · have h3 : d'.extract 0 n = d' := by rw [← hp1]; exact Array.extract_size
      have h4 : (Array.range n).extract 0 n = Array.range n := by
        have := Array.extract_size (xs := Array.range n)
        rw [Array.size_range] at this
        exact this
      rw [h3, h4] at hp3
      simpa using hp3
    · rw [List.pairwise_iff_getElem]
      intro i j hi hj hij
      have hi' : i < d'.size := by simpa using hi
      have hj' : j < d'.size := by simpa using hj
      have := hs i j (Nat.zero_le _) hij (by omega)
      rw [lt_cmpA, getElem!_pos d' i hi', getElem!_pos d' j hj'] at this
      simpa using this
    · have := there_A hH'
      rw [hp1] at this
      exact this
    · have := at_A hH' (i := i) (by omega)
      rw [hget i hi] at this
      exact this
end Go.Proofs.YtciidkmonfmipaaGreat
