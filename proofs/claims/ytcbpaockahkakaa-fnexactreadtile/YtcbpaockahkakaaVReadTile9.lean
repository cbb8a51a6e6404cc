/- Points are read from what is left of bytes: the program's way. -/
import Derived.Test.YtcbpaockahkakaaVReadTile7
import Derived.Test.YtcbpaockahkakaaVReadTile6
import Derived.Test.YtcbpaockahkakaaVReadTile8
namespace Go.Proofs.Ytcbpaockahkakaa
open Go.RowKit
set_option linter.unusedSimpArgs false
set_option linter.unusedVariables false
set_option maxRecDepth 100000

/-- All points, with their number ahead of them. -/
def rdAll (Z : Nat → Int) (n : Nat) : Option (List (Int × Int) × Nat) := (rdUp 12 Z n).bind fun c => rdPts Z c.1 n c.2 0 0
def PtsP (r : Option (List (Int × Int) × Nat)) (p B n : Nat) (Z : Nat → Int) (w : World) (e : Ending) (w' : World) : Prop :=
  match r with
  | none => Pan e ∧ Keeps p w w'
  | some x => ∃ v, e = .returned v ∧ Row w.heap.size w' v x.1 ∧ UpAt w' p B (n - x.2) (fun i => Z (i + x.2)) ∧ Keeps p w w'
theorem PtsP.none {r : Option (List (Int × Int) × Nat)} {p B n : Nat} {Z : Nat → Int} {w w' : World} {e : Ending} (h : r = none) (he : Pan e) (hk : Keeps p w w') : PtsP r p B n Z w e w' := by
  subst h; exact ⟨he, hk⟩
theorem PtsP.some {r : Option (List (Int × Int) × Nat)} {p B n : Nat} {Z : Nat → Int} {w w' : World} {e : Ending} {l : List (Int × Int)} {y : Nat} {v : Value} (h : r = some (l, y)) (he : e = .returned v) (hR : Row w.heap.size w' v l) (hu : UpAt w' p B (n - y) (fun i => Z (i + y))) (hk : Keeps p w w') : PtsP r p B n Z w e w' := by
  subst h; exact ⟨v, he, hR, hu, hk⟩
theorem Row.keeps {base s : Nat} {w w' : World} {v : Value} {l : List (Int × Int)} (h : Row base w v l) (hk : Keeps s w w') (hs : s < base) : Row base w' v l :=
  ownsRow_of h fun g hg => by
    have := h.lt g hg
    exact hk.block g this.2 (by have := this.1; omega)
theorem UpAt.belowB {w w' : World} {p B n K : Nat} {Z : Nat → Int} (h : UpAt w p B n Z) (hb : Below K w w') (hp : p < K) (hB : B ≤ p) : UpAt w' p B n Z := by
  obtain ⟨a, cap, h0, h1, h2, h3⟩ := h
  refine ⟨a, cap, (hb.cell (p := ⟨p, 0, Option.none⟩) hp).trans h0, (hb.frozen (p := ⟨p, 0, Option.none⟩) hp).trans h1, h2, ?_⟩
  rcases h3 with h3 | ⟨b, off, e, hb', hz⟩
  · exact .inl h3
  · exact .inr ⟨b, off, e, hb', fun i hi => (hb.cell (p := ⟨b, off + i, Option.none⟩) (show b < _ by omega)).trans (hz i hi)⟩
theorem UpAt.to {w : World} {p B n n' : Nat} {Z Z' : Nat → Int} (h : UpAt w p B n Z) (hn : n = n') (hZ : ∀ i, Z i = Z' i) : UpAt w p B n' Z' := by
  obtain rfl : Z = Z' := funext hZ
  exact hn ▸ h
theorem rdPts_none1 {Z : Nat → Int} {c n o : Nat} {x y : Int} (h : rdStep (fun i => Z (i + o)) (n - o) = none) : rdPts Z (c + 1) n o x y = none := by simp [rdPts, h]
theorem rdPts_none2 {Z : Nat → Int} {c n o : Nat} {x y : Int} {d : Int × Nat} (h : rdStep (fun i => Z (i + o)) (n - o) = some d) (h2 : rdStep (fun i => Z (i + (o + d.2))) (n - (o + d.2)) = none) : rdPts Z (c + 1) n o x y = none := by simp [rdPts, h, h2]
theorem rdPts_some {Z : Nat → Int} {c n o : Nat} {x y : Int} {d e : Int × Nat} (h : rdStep (fun i => Z (i + o)) (n - o) = some d) (h2 : rdStep (fun i => Z (i + (o + d.2))) (n - (o + d.2)) = some e) : rdPts Z (c + 1) n o x y = (rdPts Z c n (o + d.2 + e.2) (x + d.1) (y + e.1)).map fun r => ((x + d.1, y + e.1) :: r.1, r.2) := by simp [rdPts, h, h2]

/-- What holds between rounds: block q = w.heap.size holds the point, v the points that were read. -/
structure PSt (w : World) (base p B n : Nat) (Z : Nat → Int) (o : Nat) (x y : Int) (v : Value) (l : List (Int × Int)) (wr : World) : Prop where
  c0 : wr.cell? ⟨w.heap.size, 0, none⟩ = some (.int .i64 x)
  c1 : wr.cell? ⟨w.heap.size, 1, none⟩ = some (.int .i64 y)
  f0 : wr.frozen? ⟨w.heap.size, 0, none⟩ = false
  f1 : wr.frozen? ⟨w.heap.size, 1, none⟩ = false
  R : Row base wr v l
  U : UpAt wr p B (n - o) (fun i => Z (i + o))
  K : Keeps p w wr
  sz : base ≤ wr.heap.size
theorem PSt.drew {w : World} {base p B n : Nat} {Z : Nat → Int} {o : Nat} {x y : Int} {v : Value} {l : List (Int × Int)} {wr : World} (h : PSt w base p B n Z o x y v l wr) : PSt w base p B n Z o x y v l wr.drew :=
  ⟨h.c0, h.c1, h.f0, h.f1, h.R, h.U, h.K.drew, h.sz⟩
theorem PSt.read {w : World} {base p B n : Nat} {Z : Nat → Int} {o o' : Nat} {x y : Int} {v : Value} {l : List (Int × Int)} {wr w2 : World} (h : PSt w base p B n Z o x y v l wr) (hp : p < w.heap.size) (hb : base = w.heap.size + 1) (hk : Keeps p wr w2) (hu : UpAt w2 p B (n - o') (fun i => Z (i + o'))) : PSt w base p B n Z o' x y v l w2 := by
  have hs := h.sz
  have hq : w.heap.size < wr.heap.size := by omega
  exact ⟨(hk.cell (p := ⟨w.heap.size, 0, none⟩) hq (show w.heap.size ≠ p by omega)).trans h.c0, (hk.cell (p := ⟨w.heap.size, 1, none⟩) hq (show w.heap.size ≠ p by omega)).trans h.c1, (hk.frozen (p := ⟨w.heap.size, 0, none⟩) hq (show w.heap.size ≠ p by omega)).trans h.f0, (hk.frozen (p := ⟨w.heap.size, 1, none⟩) hq (show w.heap.size ≠ p by omega)).trans h.f1, h.R.keeps hk (by omega), hu, h.K.trans hk, Nat.le_trans hs hk.size⟩
theorem PSt.grow {w : World} {base p B n : Nat} {Z : Nat → Int} {o : Nat} {x y : Int} {v v' : Value} {l l' : List (Int × Int)} {wr w2 : World} (h : PSt w base p B n Z o x y v l wr) (hp : p < w.heap.size) (hB : B ≤ p) (hb : base = w.heap.size + 1) (hk : Below base wr w2) (hR : Row base w2 v' l') : PSt w base p B n Z o x y v' l' w2 := by
  have hq : w.heap.size < base := by omega
  exact ⟨(hk.cell (p := ⟨w.heap.size, 0, none⟩) hq).trans h.c0, (hk.cell (p := ⟨w.heap.size, 1, none⟩) hq).trans h.c1, (hk.frozen (p := ⟨w.heap.size, 0, none⟩) hq).trans h.f0, (hk.frozen (p := ⟨w.heap.size, 1, none⟩) hq).trans h.f1, hR, h.U.belowB hk (by omega) hB,
    ⟨hk.os.trans h.K.os, hk.tape.trans h.K.tape, hk.output.trans h.K.output, Nat.le_trans h.K.size hk.size, fun j hj hs => (hk.block j (by omega)).trans (h.K.block j hj hs)⟩, Nat.le_trans h.sz hk.size⟩
theorem PSt.set {w : World} {base p B n : Nat} {Z : Nat → Int} {o : Nat} {x y x' y' : Int} {v : Value} {l : List (Int × Int)} {wr : World} (h : PSt w base p B n Z o x y v l wr) (hp : p < w.heap.size) (hB : B ≤ p) (hb : base = w.heap.size + 1) (j : Nat) (u : Value)
    (h0 : (wr.setCell ⟨w.heap.size, j, none⟩ u).cell? ⟨w.heap.size, 0, none⟩ = some (.int .i64 x')) (h1 : (wr.setCell ⟨w.heap.size, j, none⟩ u).cell? ⟨w.heap.size, 1, none⟩ = some (.int .i64 y')) : PSt w base p B n Z o x' y' v l (wr.setCell ⟨w.heap.size, j, none⟩ u) := by
  have hbl : Below w.heap.size wr (wr.setCell ⟨w.heap.size, j, none⟩ u) := (Below.refl w.heap.size wr).setCell (p := ⟨w.heap.size, j, none⟩) (Nat.le_refl _) u
  refine ⟨h0, h1, by rw [World.frozen?_setCell]; exact h.f0, by rw [World.frozen?_setCell]; exact h.f1, ownsRow_of h.R fun g hg => Below.heap_setCell _ _ _ _ (by have := (h.R.lt g hg).1; show g ≠ w.heap.size; omega), h.U.belowB hbl hp hB,
    ⟨hbl.os.trans h.K.os, hbl.tape.trans h.K.tape, hbl.output.trans h.K.output, Nat.le_trans h.K.size hbl.size, fun k hk hs => (hbl.block k hk).trans (h.K.block k hk hs)⟩, Nat.le_trans h.sz hbl.size⟩

set_option maxHeartbeats 8000000 in
theorem points_any (p B n : Nat) (Z : Nat → Int) (w : World) (h : UpAt w p B n Z) (hB : B ≤ p) (hp : p < w.heap.size) (hr : ∀ i, 0 ≤ Z i ∧ Z i ≤ 255) (hmax : n ≤ 1048576) :
    Calls Try.prog 89 #[.pointer (some ⟨p, 0, none⟩)] w fun e w' => PtsP (rdAll Z n) p B n Z w e w' := by
  obtain ⟨i0, hi, hz0, hz1, hz2⟩ := info_parts info_pt
  have HUP : Hid (UpAt w p B n Z) := h
  have HRG : Hid (∀ i, 0 ≤ Z i ∧ Z i ≤ 255) := hr
  clear h hr
  go_enter Try.func89, Try.ntmps89
  go_wp2_with fail
  generalize hW : (World.alloc _ _ : World) = W
  have hBW : Below w.heap.size w W := by subst hW; (repeat (first | exact Below.refl _ _ | assumption | refine Below.drew ?_ | refine bl_alloc ?_ _ | refine bl_then ?_ (by assumption) | refine Below.setCell ?_ (by first | omega | (simp; done) | (simp; omega)) _ | refine bl_store ?_ ?_ _ _))
  have hszW : W.heap.size = w.heap.size + 1 := by subst hW; simp
  have HT : Hid (There W w.heap.size 2) := by
    show There _ _ _
    subst hW
    exact there2 w (.int .i64 0) (.int .i64 0) 114
  have q0 : W.cell? ⟨w.heap.size, 0, none⟩ = some (.int .i64 0) := by subst hW; simp [go_sem]
  have q1 : W.cell? ⟨w.heap.size, 1, none⟩ = some (.int .i64 0) := by subst hW; simp [go_sem]
  clear hW
  refine (numberUpTo_any 12 p B n Z W (HUP.out.belowB hBW hp hB) hB (by omega) HRG.out hmax).mono ?_
  intro e w1 hq
  cases hd : rdUp 12 Z n with
  | none =>
    rw [hd] at hq
    obtain ⟨⟨u, pv, rfl⟩, hk⟩ := hq
    exact ⟨rfl, PtsP.none (by simp [rdAll, hd]) ⟨_, _, rfl⟩ ((Keeps.of_below hBW).trans hk)⟩
  | some x0 =>
    have hbd := rdUp_bd hd
    obtain ⟨C, o0⟩ := x0
    rw [hd] at hq
    obtain ⟨rfl, hu, hk⟩ := hq
    have HALL : Hid (rdAll Z n = rdPts Z C n o0 0 0) := by show _ = _; simp [rdAll, hd]
    have hC : C ≤ 12 := hbd.1
    have ho0 : o0 ≤ n := hbd.2.2.1
    have HK1 : Hid (Keeps p W w1) := hk
    have HU1 : Hid (UpAt w1 p B (n - o0) (fun i => Z (i + o0))) := hu
    have HT1 : Hid (There w1 w.heap.size 2) := fun o ho => by
      have := HT.out o ho
      rw [hk.cell (p := ⟨w.heap.size, o, none⟩) (show w.heap.size < _ by omega) (show w.heap.size ≠ p by omega), hk.frozen (p := ⟨w.heap.size, o, none⟩) (show w.heap.size < _ by omega) (show w.heap.size ≠ p by omega)]
      exact this
    have q0' : w1.cell? ⟨w.heap.size, 0, none⟩ = some (.int .i64 0) := (hk.cell (p := ⟨w.heap.size, 0, none⟩) (show w.heap.size < _ by omega) (show w.heap.size ≠ p by omega)).trans q0
    have q1' : w1.cell? ⟨w.heap.size, 1, none⟩ = some (.int .i64 0) := (hk.cell (p := ⟨w.heap.size, 1, none⟩) (show w.heap.size < _ by omega) (show w.heap.size ≠ p by omega)).trans q1
    have HKw : Hid (Keeps p w w1) := (Keeps.of_below hBW).trans hk
    have hsz1 := hk.size
    clear hd hbd hu hk q0 q1 HT hBW
    go_wp2_with fail
    have HS0 : Hid (PSt w W.heap.size p B n Z o0 0 0 (.slice none 0 0) [] w1) := ⟨q0', q1', (HT1.out 0 (by omega)).2, (HT1.out 1 (by omega)).2, Row.no _ _, HU1.out, HKw.out, hsz1⟩
    go_loopw [3, 8] (fun v i wr => ∃ (k o : Nat) (x y : Int) (l : List (Int × Int)), k ≤ C ∧ i = .int .u64 (k : Int) ∧ l.length = k ∧ o ≤ n ∧ (-1073741824 * (k : Int) ≤ x ∧ x ≤ 1073741824 * (k : Int)) ∧ (-1073741824 * (k : Int) ≤ y ∧ y ≤ 1073741824 * (k : Int)) ∧ PSt w W.heap.size p B n Z o x y v l wr ∧ rdAll Z n = (rdPts Z (C - k) n o x y).map fun r => (l ++ r.1, r.2)) (fun _ i _ => C - (intOf i).toNat)
    case atStart => exact ⟨0, o0, 0, 0, [], by omega, rfl, rfl, ho0, ⟨by omega, by omega⟩, ⟨by omega, by omega⟩, HS0.out, by rw [HALL.out]; cases rdPts Z C n o0 0 0 <;> simp⟩
    case round =>
      obtain ⟨k, o, x, y, l, hk, rfl, hl, ho, hx, hy, hS, hall⟩ := hrel
      have HS : Hid (PSt w W.heap.size p B n Z o x y u3 l wr) := hS
      have HA : Hid (rdAll Z n = (rdPts Z (C - k) n o x y).map fun r => (l ++ r.1, r.2)) := hall
      have hsz := hS.sz
      clear hS hall HALL HK1 HU1 HT1 HKw q0' q1' HS0
      by_cases hlt : k < C
      · obtain ⟨D, hD⟩ : ∃ D, C - k = D + 1 := ⟨C - k - 1, by omega⟩
        rw [hD] at HA
        have hi' : (k : Int) < (C : Int) := by omega
        have hpr : p < wr.heap.size := by omega
        go_wp2_with fail
        have c0 := HS.out.c0
        have hpr0 : p < wr.heap.size := by have := HS.out.sz; omega
        refine wp_region_pan (fun e w' => PtsP (rdAll Z n) p B n Z w e w') (fun c a w h1 h2 => ⟨h1, h2⟩) ?_
        refine wp_region_L (S := fun W' => W'.cell? ⟨w.heap.size, 0, none⟩ = some (.int .i64 x)) (z := 6) (by kernel_rfl) ?_
        refine wpAnyL_take (i := 0) (v := ?a00) rfl (by kernel_rfl) (by kernel_rfl) (by kernel_rfl) (by kernel_rfl) (fun _ _ _ h => h) (Or.inl ⟨by rfl, ?ha00⟩) (show wr.drew.cell? ⟨w.heap.size, 0, none⟩ = _ from c0) ?_
        case ha00 => (intro w hSw; (try dsimp only at hSw); go_simp <;> with_reducible rfl)
        try simp only [Act.put, List.setIfInBounds_toArray, List.set_cons_zero, List.set_cons_succ]
        refine wpAnyL_take (i := 1) (v := ?a01) rfl (by kernel_rfl) (by kernel_rfl) (by kernel_rfl) (by kernel_rfl) (fun _ _ _ h => h) (Or.inl ⟨by rfl, ?ha01⟩) (show wr.drew.cell? ⟨w.heap.size, 0, none⟩ = _ from c0) ?_
        case ha01 => (intro w hSw; (try dsimp only at hSw); go_simp <;> with_reducible rfl)
        try simp only [Act.put, List.setIfInBounds_toArray, List.set_cons_zero, List.set_cons_succ]
        refine wpAnyL_take (i := 2) (v := ?a02) rfl (by kernel_rfl) (by kernel_rfl) (by kernel_rfl) (by kernel_rfl) (fun _ _ _ h => h) (Or.inl ⟨by rfl, ?ha02⟩) (show wr.drew.cell? ⟨w.heap.size, 0, none⟩ = _ from c0) ?_
        case ha02 => (intro w hSw; (try dsimp only at hSw); go_simp <;> with_reducible rfl)
        try simp only [Act.put, List.setIfInBounds_toArray, List.set_cons_zero, List.set_cons_succ]
        refine wpAnyL_one (i := 3) (by kernel_rfl) rfl (fun K hK => ?_)
        go_simp
        refine (step_any p B (n - o) (fun i => Z (i + o)) wr.drew HS.out.drew.U hB hpr0 (fun i => HRG.out _) (by omega)).mono ?_
        intro e w2 hq
        cases hd0 : rdStep (fun i => Z (i + o)) (n - o) with
        | none =>
          rw [hd0] at hq
          obtain ⟨⟨u, pv, rfl⟩, hk2⟩ := hq
          exact ⟨rfl, PtsP.none (by rw [HA.out, rdPts_none1 hd0]; rfl) ⟨_, _, rfl⟩ (HS.out.drew.K.trans hk2)⟩
        | some dd =>
          have hbd0 := rdStep_bd hd0
          obtain ⟨dx, dn⟩ := dd
          have HD0 : Hid (rdStep (fun i => Z (i + o)) (n - o) = some (dx, dn)) := hd0
          rw [hd0] at hq
          obtain ⟨rfl, hu2, hk2⟩ := hq
          have HS2 : Hid (PSt w W.heap.size p B n Z (o + dn) x y u3 l w2) := HS.out.drew.read hp hszW hk2 (hu2.to (by omega) (fun i => by show Z _ = Z _; congr 1; omega))
          have hbx0 : (-1073741824 ≤ dx ∧ dx ≤ 1073741824) ∧ dn ≤ n - o := hbd0
          have g0 := HS2.out.c0
          have gf0 := HS2.out.f0
          have hw0 : IntKind.i64.wrap (x + dx) = x + dx := IntWalk.i64_in _ (by omega)
          clear hd0 hbd0 hu2 hk2
          go_wp2_with fail
          refine hK.out _ _ (fun _ => g0) ?_
          clear hK K
          try simp only [Act.put, List.setIfInBounds_toArray, List.set_cons_zero, List.set_cons_succ]
          refine wpAnyL_take (i := 4) (v := ?a04) rfl (by kernel_rfl) (by kernel_rfl) (by kernel_rfl) (by kernel_rfl) (fun _ _ _ h => h) (Or.inl ⟨by rfl, ?ha04⟩) g0 ?_
          case ha04 => (intro w hSw; (try dsimp only at hSw); go_simp <;> with_reducible rfl)
          try simp only [Act.put, List.setIfInBounds_toArray, List.set_cons_zero, List.set_cons_succ]
          refine wpAnyL_take (i := 5) (v := ?a05) rfl (by kernel_rfl) (by kernel_rfl) (by kernel_rfl) (by kernel_rfl) (fun _ _ _ h => h) (Or.inl ⟨by rfl, ?ha05⟩) g0 ?_
          case ha05 => (intro w hSw; (try dsimp only at hSw); go_simp <;> with_reducible rfl)
          try simp only [Act.put, List.setIfInBounds_toArray, List.set_cons_zero, List.set_cons_succ]
          refine wpAnyL_one (i := 6) (by kernel_rfl) rfl (fun K hK => ?_)
          go_simp
          refine hK.out _ _ (fun h => absurd rfl h) ?_
          clear hK K
          try simp only [Act.put, List.setIfInBounds_toArray, List.set_cons_zero, List.set_cons_succ]
          refine wpAnyL_done (by kernel_rfl) ?_ _
          refine PanQ.normal ?_
          have HT0 : Hid (PSt w W.heap.size p B n Z (o + dn) (x + dx) y u3 l (w2.setCell ⟨w.heap.size, 0, none⟩ (.int .i64 (x + dx)))) := HS2.out.set hp hB hszW 0 _ (World.cell?_setCell_same _ _ _ (by rw [g0])) (by rw [set1_other (fun e => by injection e with _ e; omega)]; exact HS2.out.c1)
          generalize hV0 : (w2.setCell ⟨w.heap.size, 0, none⟩ (.int .i64 (x + dx))) = V0 at HT0 ⊢
          clear hV0 g0 gf0 HS2 c0
          go_wp2_with fail
          have c1 := HT0.out.c1
          have hpr1 : p < V0.heap.size := by have := HT0.out.sz; omega
          refine wp_region_pan (fun e w' => PtsP (rdAll Z n) p B n Z w e w') (fun c a w h1 h2 => ⟨h1, h2⟩) ?_
          refine wp_region_L (S := fun W' => W'.cell? ⟨w.heap.size, 1, none⟩ = some (.int .i64 y)) (z := 6) (by kernel_rfl) ?_
          refine wpAnyL_take (i := 0) (v := ?a10) rfl (by kernel_rfl) (by kernel_rfl) (by kernel_rfl) (by kernel_rfl) (fun _ _ _ h => h) (Or.inl ⟨by rfl, ?ha10⟩) (show V0.drew.cell? ⟨w.heap.size, 1, none⟩ = _ from c1) ?_
          case ha10 => (intro w hSw; (try dsimp only at hSw); go_simp <;> with_reducible rfl)
          try simp only [Act.put, List.setIfInBounds_toArray, List.set_cons_zero, List.set_cons_succ]
          refine wpAnyL_take (i := 1) (v := ?a11) rfl (by kernel_rfl) (by kernel_rfl) (by kernel_rfl) (by kernel_rfl) (fun _ _ _ h => h) (Or.inl ⟨by rfl, ?ha11⟩) (show V0.drew.cell? ⟨w.heap.size, 1, none⟩ = _ from c1) ?_
          case ha11 => (intro w hSw; (try dsimp only at hSw); go_simp <;> with_reducible rfl)
          try simp only [Act.put, List.setIfInBounds_toArray, List.set_cons_zero, List.set_cons_succ]
          refine wpAnyL_take (i := 2) (v := ?a12) rfl (by kernel_rfl) (by kernel_rfl) (by kernel_rfl) (by kernel_rfl) (fun _ _ _ h => h) (Or.inl ⟨by rfl, ?ha12⟩) (show V0.drew.cell? ⟨w.heap.size, 1, none⟩ = _ from c1) ?_
          case ha12 => (intro w hSw; (try dsimp only at hSw); go_simp <;> with_reducible rfl)
          try simp only [Act.put, List.setIfInBounds_toArray, List.set_cons_zero, List.set_cons_succ]
          refine wpAnyL_one (i := 3) (by kernel_rfl) rfl (fun K hK => ?_)
          go_simp
          refine (step_any p B (n - (o + dn)) (fun i => Z (i + (o + dn))) V0.drew HT0.out.drew.U hB hpr1 (fun i => HRG.out _) (by omega)).mono ?_
          intro e w3 hq
          cases hd1 : rdStep (fun i => Z (i + (o + dn))) (n - (o + dn)) with
          | none =>
            rw [hd1] at hq
            obtain ⟨⟨u, pv, rfl⟩, hk2⟩ := hq
            exact ⟨rfl, PtsP.none (by rw [HA.out, rdPts_none2 HD0.out hd1]; rfl) ⟨_, _, rfl⟩ (HT0.out.drew.K.trans hk2)⟩
          | some dd =>
            have hbd1 := rdStep_bd hd1
            obtain ⟨ex, en⟩ := dd
            have HD1 : Hid (rdStep (fun i => Z (i + (o + dn))) (n - (o + dn)) = some (ex, en)) := hd1
            rw [hd1] at hq
            obtain ⟨rfl, hu2, hk2⟩ := hq
            have HS3 : Hid (PSt w W.heap.size p B n Z (o + dn + en) (x + dx) y u3 l w3) := HT0.out.drew.read hp hszW hk2 (hu2.to (by omega) (fun i => by show Z _ = Z _; congr 1; omega))
            have hbx1 : (-1073741824 ≤ ex ∧ ex ≤ 1073741824) ∧ en ≤ n - (o + dn) := hbd1
            have g1 := HS3.out.c1
            have gf1 := HS3.out.f1
            have hw1 : IntKind.i64.wrap (y + ex) = y + ex := IntWalk.i64_in _ (by omega)
            clear hd1 hbd1 hu2 hk2
            go_wp2_with fail
            refine hK.out _ _ (fun _ => g1) ?_
            clear hK K
            try simp only [Act.put, List.setIfInBounds_toArray, List.set_cons_zero, List.set_cons_succ]
            refine wpAnyL_take (i := 4) (v := ?a14) rfl (by kernel_rfl) (by kernel_rfl) (by kernel_rfl) (by kernel_rfl) (fun _ _ _ h => h) (Or.inl ⟨by rfl, ?ha14⟩) g1 ?_
            case ha14 => (intro w hSw; (try dsimp only at hSw); go_simp <;> with_reducible rfl)
            try simp only [Act.put, List.setIfInBounds_toArray, List.set_cons_zero, List.set_cons_succ]
            refine wpAnyL_take (i := 5) (v := ?a15) rfl (by kernel_rfl) (by kernel_rfl) (by kernel_rfl) (by kernel_rfl) (fun _ _ _ h => h) (Or.inl ⟨by rfl, ?ha15⟩) g1 ?_
            case ha15 => (intro w hSw; (try dsimp only at hSw); go_simp <;> with_reducible rfl)
            try simp only [Act.put, List.setIfInBounds_toArray, List.set_cons_zero, List.set_cons_succ]
            refine wpAnyL_one (i := 6) (by kernel_rfl) rfl (fun K hK => ?_)
            go_simp
            refine hK.out _ _ (fun h => absurd rfl h) ?_
            clear hK K
            try simp only [Act.put, List.setIfInBounds_toArray, List.set_cons_zero, List.set_cons_succ]
            refine wpAnyL_done (by kernel_rfl) ?_ _
            refine PanQ.normal ?_
            have HT1 : Hid (PSt w W.heap.size p B n Z (o + dn + en) (x + dx) (y + ex) u3 l (w3.setCell ⟨w.heap.size, 1, none⟩ (.int .i64 (y + ex)))) := HS3.out.set hp hB hszW 1 _ (by rw [set1_other (fun e => by injection e with _ e; omega)]; exact HS3.out.c0) (World.cell?_setCell_same _ _ _ (by rw [g1]))
            generalize hV1 : (w3.setCell ⟨w.heap.size, 1, none⟩ (.int .i64 (y + ex))) = V1 at HT1 ⊢
            clear hV1 g1 gf1 HS3 c1
            have HA2 : Hid (rdAll Z n = (rdPts Z D n (o + dn + en) (x + dx) (y + ex)).map fun r => ((l ++ [(x + dx, y + ex)]) ++ r.1, r.2)) := by
              show _ = _
              rw [HA.out, rdPts_some HD0.out HD1.out]
              cases rdPts Z D n (o + dn + en) (x + dx) (y + ex) <;> simp
            have hCD : C - (k + 1) = D := by omega
            have m0 := HT1.out.c0
            have m1 := HT1.out.c1
            have hlV := HT1.out.sz
            obtain ⟨a5, c5, hu5, _, _⟩ := HT1.out.R.own
            rw [hl] at hu5
            subst hu5
            have HL : Hid (l.length = k) := hl
            clear HA HD0 HD1 HS hl
            go_wp2_with (first
              | (at_builtin; go_must (refine wpList_append_own _ rfl _ _ 69 rfl W.heap.size 114 i0 (.agg #[.int .i64 0, .int .i64 0]) 2 16 Try.underlying69 hi hz0 hz1 hz2 rfl (by decide) _ l.length (cellsL l) rfl (World.ownsRow.alloc HT1.out.R _) ⟨V1.heap.size, 0, none⟩ 1 1 [.int .i64 (x + dx), .int .i64 (y + ex)] rfl rfl ?c1 ?c2 ?c3 ?c4 ?c5 ?_)))
            case c1 =>
              intro q u hq
              match q, hq with
              | 0, hq => simp at hq; subst hq; simp [Addr.add, go_sem]
              | 1, hq => simp at hq; subst hq; simp [Addr.add, go_sem]
              | q + 2, hq => simp at hq
            case c2 => first | (intro u hu; simp at hu; rcases hu with rfl | rfl <;> rfl) | exact ⟨rfl, rfl⟩
            case c3 => have := HL.out; unfold maxLen; omega
            case c4 => have := HL.out; omega
            case c5 => first | omega | (simp; omega)
            intro v' w5 hown' hgrow hnil
            clear hnil
            have hBg : Below W.heap.size (V1.alloc (.cells #[.int .i64 (x + dx), .int .i64 (y + ex)] 114)) w5 := (Below.refl _ _).grown hgrow (by simp; omega) (fun k hk => (HT1.out.R.lt k hk).1)
            have hBa : Below W.heap.size V1 (V1.alloc (.cells #[.int .i64 (x + dx), .int .i64 (y + ex)] 114)) := (Below.refl _ _).alloc hlV _
            have hR5 : Row W.heap.size w5 v' (l ++ [(x + dx, y + ex)]) := by
              show World.ownsRow _ _ _ _ _ _ _
              rw [cellsL_add, List.length_append]
              rw [hszW]
              exact hown'
            have HS5 : Hid (PSt w W.heap.size p B n Z (o + dn + en) (x + dx) (y + ex) v' (l ++ [(x + dx, y + ex)]) w5) := HT1.out.grow hp hB hszW (hBa.trans hBg) hR5
            have hwk : IntKind.u64.wrap ((k : Int) + 1) = (k : Int) + 1 := by rw [IntKind.wrap_u64]; omega
            clear hown' hgrow hBg hBa hR5 m0 m1
            go_wp2_with fail
            go_roundw
            case rel => exact ⟨k + 1, o + dn + en, x + dx, y + ex, _, by omega, by first | go_num | rfl | simp, by have := HL.out; simp; omega, by omega, ⟨by omega, by omega⟩, ⟨by omega, by omega⟩, HS5.out, by rw [hCD]; exact HA2.out⟩
            case measure => simp [intOf]; omega
      · have hke : k = C := by omega
        subst hke
        have HA' : Hid (rdAll Z n = some (l, o)) := by
          show _ = _
          rw [HA.out, Nat.sub_self]
          simp [rdPts]
        obtain ⟨a5, c5, hu5, _, _⟩ := HS.out.R.own
        have HRw := HS.out.R.wide (B := w.heap.size) (by omega)
        clear HA
        subst hu5
        go_wp2_with fail
        go_ret
        exact PtsP.some HA'.out rfl HRw HS.out.U HS.out.K
end Go.Proofs.Ytcbpaockahkakaa
