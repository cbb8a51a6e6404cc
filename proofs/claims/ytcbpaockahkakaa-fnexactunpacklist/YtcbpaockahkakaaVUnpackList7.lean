/- Several texts in one. -/
import Derived.Test.YtcbpaockahkakaaVUnpackList6
import Derived.Test.YtcbpaockahkakaaVUnpackList1
import Derived.Deep.RegionHeld3
import Derived.Test.YtcbpaockahkakaaVUnpackList3
import Derived.Deep.LoopGhost
import Derived.Deep.OwnRows

/- Numbers with a bound, and steps, are read from what is left of bytes: the program's way. -/

namespace Go.Proofs.Ytcbpaockahkakaa
open Go.RowKit
set_option linter.unusedSimpArgs false
set_option linter.unusedVariables false
set_option maxRecDepth 100000

/-- What a reading tells: a panic, or a value and what is left. -/
def OutP {α : Type} (r : Option (α × Nat)) (val : α → Value) (p B n : Nat) (Z : Nat → Int) (w : World) (e : Ending) (w' : World) : Prop :=
  match r with
  | none => Pan e ∧ Keeps p w w'
  | some x => e = .returned (val x.1) ∧ UpAt w' p B (n - x.2) (fun i => Z (i + x.2)) ∧ Keeps p w w'
theorem OutP.none {α : Type} {r : Option (α × Nat)} {val : α → Value} {p B n : Nat} {Z : Nat → Int} {w w' : World} {e : Ending} (h : r = none) (he : Pan e) (hk : Keeps p w w') : OutP r val p B n Z w e w' := by
  subst h; exact ⟨he, hk⟩
theorem OutP.some {α : Type} {r : Option (α × Nat)} {val : α → Value} {p B n : Nat} {Z : Nat → Int} {w w' : World} {e : Ending} {x : α} {y : Nat} (h : r = some (x, y)) (he : e = .returned (val x)) (hu : UpAt w' p B (n - y) (fun i => Z (i + y))) (hk : Keeps p w w') : OutP r val p B n Z w e w' := by
  subst h; exact ⟨he, hu, hk⟩
/-- A number of at most so much; a step. -/
def rdUp (most : Nat) (Z : Nat → Int) (n : Nat) : Option (Nat × Nat) := (rd Z n).bind fun x => if most < x.1 then none else some x
def rdStep (Z : Nat → Int) (n : Nat) : Option (Int × Nat) := (rdUp 2147483648 Z n).map fun x => (unfoldI (x.1 : Int), x.2)
theorem rdUp_bd {most : Nat} {Z : Nat → Int} {n : Nat} {x : Nat × Nat} (h : rdUp most Z n = some x) : x.1 ≤ most ∧ 0 < x.2 ∧ x.2 ≤ n ∧ x.2 ≤ 6 := by
  unfold rdUp at h
  cases hr : rd Z n with
  | none => simp [hr] at h
  | some y =>
    have hb := rd_bd hr
    rw [hr, Option.bind_some] at h
    split at h
    · cases h
    · injection h with h
      subst h
      exact ⟨by omega, hb.2⟩

set_option maxHeartbeats 2000000 in
theorem numberUpTo_any (most p B n : Nat) (Z : Nat → Int) (w : World) (h : UpAt w p B n Z) (hB : B ≤ p) (hp : p < w.heap.size) (hr : ∀ i, 0 ≤ Z i ∧ Z i ≤ 255) (hmax : n ≤ 1048576) :
    Calls Try.prog 65 #[.pointer (some ⟨p, 0, none⟩), .int .u64 (most : Int)] w fun e w' => OutP (rdUp most Z n) (fun x => .int .u64 (x : Int)) p B n Z w e w' := by
  have HN : Hid (Calls Try.prog 88 #[.pointer (some ⟨p, 0, none⟩)] w fun e w' => NumP p B n Z w e w') := number_any p B n Z w h hB hp hr hmax
  clear h hr
  cases hd : rd Z n with
  | none =>
    have HD : Hid (rdUp most Z n = none) := by show _ = _; simp [rdUp, hd]
    have HD0 : Hid (rd Z n = none) := hd
    clear hd
    go_enter Try.func65, Try.ntmps65
    go_wp2_with fail
    refine Calls.mono HN.out ?_
    intro e w1 hq
    unfold NumP at hq
    rw [HD0.out] at hq
    obtain ⟨⟨u, pv, rfl⟩, hk⟩ := hq
    exact ⟨rfl, OutP.none HD.out ⟨_, _, rfl⟩ hk⟩
  | some x =>
    obtain ⟨x, y⟩ := x
    have HD0 : Hid (rd Z n = some (x, y)) := hd
    by_cases hm : most < x
    · have HD : Hid (rdUp most Z n = none) := by show _ = _; simp [rdUp, hd, hm]
      have hm' : (most : Int) < (x : Int) := by omega
      clear hd
      go_enter Try.func65, Try.ntmps65
      go_wp2_with fail
      refine Calls.mono HN.out ?_
      intro e w1 hq
      unfold NumP at hq
      rw [HD0.out] at hq
      obtain ⟨rfl, hu, hk⟩ := hq
      have HK : Hid (Keeps p w w1) := hk
      clear hu hk
      go_wp2
      exact ⟨rfl, OutP.none HD.out ⟨_, _, rfl⟩ HK.out⟩
    · have HD : Hid (rdUp most Z n = some (x, y)) := by show _ = _; simp [rdUp, hd, hm]
      have hm' : ¬ (most : Int) < (x : Int) := by omega
      clear hd
      go_enter Try.func65, Try.ntmps65
      go_wp2_with fail
      refine Calls.mono HN.out ?_
      intro e w1 hq
      unfold NumP at hq
      rw [HD0.out] at hq
      obtain ⟨rfl, hu, hk⟩ := hq
      have HK : Hid (Keeps p w w1) := hk
      have HU : Hid (UpAt w1 p B (n - y) (fun i => Z (i + y))) := hu
      clear hu hk
      go_wp2
      go_ret
      exact OutP.some HD.out rfl HU.out HK.out
set_option maxHeartbeats 2000000 in
theorem step_any (p B n : Nat) (Z : Nat → Int) (w : World) (h : UpAt w p B n Z) (hB : B ≤ p) (hp : p < w.heap.size) (hr : ∀ i, 0 ≤ Z i ∧ Z i ≤ 255) (hmax : n ≤ 1048576) :
    Calls Try.prog 104 #[.pointer (some ⟨p, 0, none⟩)] w fun e w' => OutP (rdStep Z n) (fun x => .int .i64 x) p B n Z w e w' := by
  have HN : Hid (Calls Try.prog 65 #[.pointer (some ⟨p, 0, none⟩), .int .u64 2147483648] w fun e w' => OutP (rdUp 2147483648 Z n) (fun x => .int .u64 (x : Int)) p B n Z w e w') := numberUpTo_any 2147483648 p B n Z w h hB hp hr hmax
  clear h hr
  cases hd : rdUp 2147483648 Z n with
  | none =>
    have HD : Hid (rdStep Z n = none) := by show _ = _; simp [rdStep, hd]
    have HD0 : Hid (rdUp 2147483648 Z n = none) := hd
    clear hd
    go_enter Try.func104, Try.ntmps104
    go_wp2_with fail
    refine Calls.mono HN.out ?_
    intro e w1 hq
    rw [HD0.out] at hq
    obtain ⟨⟨u, pv, rfl⟩, hk⟩ := hq
    exact ⟨rfl, OutP.none HD.out ⟨_, _, rfl⟩ hk⟩
  | some x =>
    have hbd := rdUp_bd hd
    obtain ⟨x, y⟩ := x
    have HD : Hid (rdStep Z n = some (unfoldI (x : Int), y)) := by show _ = _; simp [rdStep, hd]
    have HD0 : Hid (rdUp 2147483648 Z n = some (x, y)) := hd
    have hx : x ≤ 2147483648 := hbd.1
    clear hd hbd
    go_enter Try.func104, Try.ntmps104
    go_wp2_with fail
    refine Calls.mono HN.out ?_
    intro e w1 hq
    rw [HD0.out] at hq
    obtain ⟨rfl, hu, hk⟩ := hq
    have HK : Hid (Keeps p w w1) := hk
    have HU : Hid (UpAt w1 p B (n - y) (fun i => Z (i + y))) := hu
    clear hu hk
    go_wp2_with fail
    refine (impl_unfold_any (x : Int) _ (by omega) (by omega)).mono ?_
    rintro e w2 ⟨rfl, rfl⟩
    obtain ⟨v, hv⟩ : ∃ v, unfoldI (x : Int) = v := ⟨_, rfl⟩
    rw [hv] at HD ⊢
    clear hv
    go_wp2
    go_ret
    exact OutP.some HD.out rfl HU.out HK.out
end Go.Proofs.Ytcbpaockahkakaa
/- One operation of a region that draws its order, taken first, its slot told: what is wanted yields, what is not wanted is passed by. -/

namespace Go.Proofs.Ytcbpaockahkakaa
open Go.RowKit
section
variable {P : Program} {ops : Array Oper} {Q : Exit → Act → World → Prop} {md : Region.Mode} {S : World → Prop}
theorem takeD {i : Nat} {d : Option Nat} {oi : Oper} {v : Value} {fuel : Nat} {listed : Array Bool} {a : Act} {w : World} (hi : ops[i]? = some oi) (hd : oi.dst = d)
    (hs : Region.noSelect ops = true) (hf : Region.free md ops listed i = true) (hr : (Region.ready md ops listed).contains i = true)
    (hQ : ∀ c a w, Q (.panic c) (a.put oi.dst v) w → Q (.panic c) a w) (hy : YieldsIf P ops S oi v a) (hS : S w)
    (h : wpAnyH P md ops Q S fuel (listed.setIfInBounds i true) (a.put d v) w) : wpAnyH P md ops Q S (fuel + 1) listed a w :=
  wpAnyH_take hi hs hf hr hQ hy hS (hd ▸ h)
theorem passD {i : Nat} {d : Option Nat} {oi : Oper} {fuel : Nat} {listed : Array Bool} {a : Act} {w : World} (hi : ops[i]? = some oi) (hd : oi.dst = d)
    (hs : Region.noSelect ops = true) (hf : Region.free md ops listed i = true) (hr : (Region.ready md ops listed).contains i = true)
    (hQ : ∀ c a w, Q (.panic c) (a.put oi.dst undef) w → Q (.panic c) a w) (hy : Region.wanted oi (yielded ops a.tmps) = false) (hS : S w)
    (h : wpAnyH P md ops Q S fuel (listed.setIfInBounds i true) (a.put d undef) w) : wpAnyH P md ops Q S (fuel + 1) listed a w :=
  wpAnyH_take hi hs hf hr hQ (.inr ⟨hy, rfl⟩) hS (hd ▸ h)
end
end Go.Proofs.Ytcbpaockahkakaa
/- PointFault answers the fault of a point. -/

namespace Go.Proofs.Ytcbpaockahkakaa
open Go.RowKit
set_option linter.unusedSimpArgs false
set_option linter.unusedVariables false

end Go.Proofs.Ytcbpaockahkakaa
/- faultIn answers the fault of the first point of a list that has one. -/

namespace Go.Proofs.Ytcbpaockahkakaa
open Go.RowKit
set_option linter.unusedSimpArgs false
set_option linter.unusedVariables false

/-- From the address on lie n points. -/
def PtsAt (w : World) (b off n : Nat) (X Y : Nat → Int) : Prop :=
  ∀ i, i < n → w.cell? ⟨b, off + i * 2, none⟩ = some (.int .i64 (X i)) ∧ w.cell? ⟨b, off + i * 2 + 1, none⟩ = some (.int .i64 (Y i))
theorem PtsAt.lt {w : World} {b off n : Nat} {X Y : Nat → Int} (h : PtsAt w b off n X Y) (hn : 0 < n) : b < w.heap.size :=
  World.block_lt_of_cell? w ⟨b, off + 0 * 2, none⟩ (h 0 hn).1
theorem PtsAt.below {w w' : World} {b off n B : Nat} {X Y : Nat → Int} (h : PtsAt w b off n X Y) (hb : Below B w w') (hB : b < B) : PtsAt w' b off n X Y := fun i hi =>
  ⟨(hb.cell (p := ⟨b, off + i * 2, none⟩) hB).trans (h i hi).1, (hb.cell (p := ⟨b, off + i * 2 + 1, none⟩) hB).trans (h i hi).2⟩
/-- No point has a fault. -/
def allOk (n : Nat) (X Y : Nat → Int) : Bool := decide (∀ i, i < n → okP (X i) (Y i) = true)
def codeN (n : Nat) (X Y : Nat → Int) : Int := if allOk n X Y = true then 0 else 3
theorem codeN_no {n : Nat} {X Y : Nat → Int} (k : Nat) (hk : k < n) (h : okP (X k) (Y k) = false) : codeN n X Y = 3 := by
  unfold codeN allOk
  rw [if_neg]
  intro hc
  have := of_decide_eq_true hc k hk
  rw [h] at this
  cases this
theorem codeN_ok {n : Nat} {X Y : Nat → Int} (h : ∀ i, i < n → okP (X i) (Y i) = true) : codeN n X Y = 0 := by
  unfold codeN allOk
  rw [if_pos (decide_eq_true h)]

end Go.Proofs.Ytcbpaockahkakaa
/- toPointS hands back the same points in new memory; eqPointS tells that two lists are the same. -/

namespace Go.Proofs.Ytcbpaockahkakaa
open Go.RowKit
set_option linter.unusedSimpArgs false
set_option linter.unusedVariables false

/-- A list of n points that came in: there is none, or they lie at an address. -/
def IsPts (w : World) (a : Option Addr) (n : Nat) (X Y : Nat → Int) : Prop :=
  n = 0 ∨ ∃ b off, a = some ⟨b, off, none⟩ ∧ b < w.heap.size ∧ PtsAt w b off n X Y
theorem IsPts.below {w w' : World} {a : Option Addr} {n : Nat} {X Y : Nat → Int} (h : IsPts w a n X Y) (hb : Below w.heap.size w w') : IsPts w' a n X Y := by
  rcases h with h | ⟨b, off, e, hl, hp⟩
  · exact .inl h
  · exact .inr ⟨b, off, e, Nat.lt_of_lt_of_le hl hb.size, hp.below hb hl⟩

theorem There.set {W : World} {r n : Nat} (h : There W r n) (o : Nat) (v : Value) : There (W.setCell ⟨r, o, none⟩ v) r n := fun o' ho => by
  obtain ⟨u, hu⟩ := (h o' ho).1
  refine ⟨?_, ?_⟩
  · by_cases e : o = o'
    · subst e
      exact ⟨v, World.cell?_setCell_same _ _ _ (by rw [hu])⟩
    · exact ⟨u, by rw [World.cell?_setCell_other]; exact hu; simp [e]⟩
  · rw [World.frozen?_setCell]; exact (h o' ho).2

theorem fill_step {W : World} {B n k : Nat} {X Y : Nat → Int} (hT : There W B (n * 2)) (hk : k < n) (hp : PtsAt W B 0 k X Y) :
    PtsAt ((W.setCell ⟨B, k * 2, none⟩ (.int .i64 (X k))).setCell ⟨B, k * 2 + 1, none⟩ (.int .i64 (Y k))) B 0 (k + 1) X Y := fun i hi => by
  by_cases e : i = k
  · subst e
    obtain ⟨u, hu⟩ := (hT (i * 2) (by omega)).1
    obtain ⟨v, hv⟩ := ((hT.set (i * 2) (.int .i64 (X i))) (i * 2 + 1) (by omega)).1
    refine ⟨?_, ?_⟩
    · rw [World.cell?_setCell_other]
      · simpa using World.cell?_setCell_same _ _ _ (by rw [hu])
      · simp
    · simpa using World.cell?_setCell_same _ _ _ (by rw [hv])
  · obtain ⟨h1, h2⟩ := hp i (by omega)
    refine ⟨?_, ?_⟩
    · rw [World.cell?_setCell_other, World.cell?_setCell_other]
      · exact h1
      · simp <;> omega
      · simp <;> omega
    · rw [World.cell?_setCell_other, World.cell?_setCell_other]
      · exact h2
      · simp <;> omega
      · simp <;> omega

theorem info_ip : (Try.prog.info? 114).map (fun i => (i.zero, i.size, i.bytes)) = some (some (.agg #[.int .i64 0, .int .i64 0]), 2, 16) := by kernel_rfl
theorem make_pts (n : Nat) (h : n ≤ 1048576) (w : World) :
    (Instr.makeSlice 69 (.int .i64 (n : Int)) (.int .i64 (n : Int))).run Try.prog w = .ok (.slice (some ⟨w.heap.size, 0, none⟩) n n) (w.alloc (.cells (madeCells #[.int .i64 0, .int .i64 0] (n * 2)) 114)) := by
  obtain ⟨i, hi, hz, hs, hb⟩ := info_parts info_ip
  have hr := run_make (P := Try.prog) w 69 114 i _ Try.underlying69 hi hz .i64 .i64 (n : Int) (n : Int) (by omega) (Int.le_refl _) (by rw [hb]; omega) (by omega)
  simp only [Int.toNat_natCast, hs] at hr
  exact hr
theorem there_made (n : Nat) (w : World) (t : TypeId) : There (w.alloc (.cells (madeCells #[.int .i64 0, .int .i64 0] n) t)) w.heap.size n := fun o ho => by
  have hz := size_madeCells #[.int .i64 0, .int .i64 0] n
  refine ⟨⟨(madeCells #[.int .i64 0, .int .i64 0] n)[o]'(by rw [hz]; exact ho), ?_⟩, World.frozen?_alloc_at _ _ _ _ rfl⟩
  rw [World.cell?_alloc_at _ _ _ _ rfl]
  exact Array.getElem?_eq_getElem _

set_option maxHeartbeats 1000000 in
theorem eqPointS_any (b d n : Nat) (X Y : Nat → Int) (w : World) (hp : PtsAt w b 0 n X Y) (hq : PtsAt w d 0 n X Y) (hb : b < w.heap.size) (hd : d < w.heap.size) (hmax : n ≤ 1048576) :
    Calls Try.prog 103 #[.slice (some ⟨b, 0, none⟩) n n, .slice (some ⟨d, 0, none⟩) n n] w fun e w' => e = .returned (.bool true) ∧ Below w.heap.size w w' := by
  have HP : Hid (PtsAt w b 0 n X Y) := hp
  have HQ : Hid (PtsAt w d 0 n X Y) := hq
  clear hp hq
  go_enter Try.func103, Try.ntmps103
  go_wp2
  go_loopw [5] (fun i wr => ∃ k : Nat, k ≤ n ∧ i = .int .i64 k ∧ Below w.heap.size w wr) (fun i _ => n - (intOf i).toNat)
  case atStart => exact ⟨0, by omega, rfl, Below.refl _ _⟩
  case round =>
    obtain ⟨k, hk, rfl, hB⟩ := hrel
    by_cases hlt : k < n
    · have c0 : ∀ W', Below wr.heap.size wr W' → W'.cell? ⟨b, k * 2, none⟩ = some (.int .i64 (X k)) := fun W' h => by
        simpa using ((HP.out.below hB hb).below h (Nat.lt_of_lt_of_le hb hB.size) k hlt).1
      have c1 : ∀ W', Below wr.heap.size wr W' → W'.cell? ⟨b, k * 2 + 1, none⟩ = some (.int .i64 (Y k)) := fun W' h => by
        simpa using ((HP.out.below hB hb).below h (Nat.lt_of_lt_of_le hb hB.size) k hlt).2
      have e0 : ∀ W', Below wr.heap.size wr W' → W'.cell? ⟨d, k * 2, none⟩ = some (.int .i64 (X k)) := fun W' h => by
        simpa using ((HQ.out.below hB hd).below h (Nat.lt_of_lt_of_le hd hB.size) k hlt).1
      have e1 : ∀ W', Below wr.heap.size wr W' → W'.cell? ⟨d, k * 2 + 1, none⟩ = some (.int .i64 (Y k)) := fun W' h => by
        simpa using ((HQ.out.below hB hd).below h (Nat.lt_of_lt_of_le hd hB.size) k hlt).2
      have HB : Hid (Below w.heap.size w wr) := hB
      clear hB
      have hi : (k : Int) < (n : Int) := by omega
      have hi0 : (0 : Int) ≤ (k : Int) := by omega
      go_wp2
      go_region_held3 (fun W' => Below wr.heap.size wr W') ((repeat (first | exact Below.refl _ _ | assumption | refine Below.drew ?_ | refine bl_alloc ?_ _ | refine bl_then ?_ (by assumption) | refine Below.setCell ?_ (by first | omega | (simp; done) | (simp; omega)) _ | refine bl_store ?_ ?_ _ _)))
        (first
          | (go_at_call 109; refine (eqPoint_any _ _ _).mono ?_; rintro e w' ⟨rfl, hb⟩))
      go_wp2
      go_roundw
      case rel => exact ⟨k + 1, by omega, by go_num, bl_then HB.out (by assumption)⟩
      case measure => simp [intOf]; omega
    · go_wp2
      go_ret
      exact ⟨rfl, hB⟩
end Go.Proofs.Ytcbpaockahkakaa
