/- Several texts in one. -/
import Derived.Deep.RegionLawGrows
import Derived.OwnWalk
import Derived.Test.YtgpdpodagoligaaGreatVAnchors8
import Derived.Test.YtgpdpodagoligaaGreatVAnchors3
import Derived.Test.YtgpdpodagoligaaGreatRows
import Derived.Test.YtgpdpodagoligaaGreatVAnchors1
import Derived.WalkKit
import Derived.WalkSpells
import Derived.WalkLawsBesides
import Derived.Outline
import Derived.Test.YtgpdpodagoligaaGreatVAnchors6
import Derived.Sort.Grow
import Derived.Shelf.SlSortCmp.NoneTotal
import Derived.Test.YtgpdpodagoligaaGreatVAnchors5

/- An append to a row of the call's own, as one step of a region that draws its order. -/

namespace Go.Proofs.YtgpdpodagoligaaGreat
open Go

theorem step_append_own {P : Program} {ops : Array Oper} {o : Oper} {a : Act} {w : World} {K : Act → World → Prop} {Q : Exit → Act → World → Prop} {E : Prop}
    (hg : o.guard = none) (s x : Operand) (t : TypeId) (hop : o.op = Op.call { callee := Callee.builtin Builtin.append, args := #[s, x], argTypes := #[t, t] })
    (base : Nat) (e : TypeId) (i : TypeInfo) (z : Value) (size bytes : Nat) (h1 : P.underlying t = some (.slice e)) (h2 : P.info? e = some i) (h3 : i.zero = some z) (h4 : i.size = size) (h5 : i.bytes = bytes) (h6 : z.cells.size = size) (h7 : 0 < size)
    (v : Value) (n : Nat) (xs : List Value) (hs : a.eval s = v) (hown : w.ownsRow base e size v n xs)
    (ad : Addr) (m c : Nat) (news : List Value) (hx : a.eval x = .slice (some ad) m c) (hn : news.length = m * size) (hc : ∀ j u, news[j]? = some u → w.cell? (ad.add j) = some u) (h1c : ∀ u ∈ news, u.oneCell' = true)
    (b1 : n + m ≤ maxLen) (b2 : (n + m) * bytes ≤ 140737488355328) (hbase : base ≤ w.heap.size)
    (hK : ∀ v' w', w'.ownsRow base e size v' (n + m) (xs ++ news) → w.grownBy w' v.ownBlock → (v' = .slice none 0 0 ↔ v = .slice none 0 0 ∧ m = 0) → K (a.put o.dst v') w') :
    if Region.wanted o (yielded ops a.tmps) = true then Oper.wp P o a w K Q else E := by
  have hw : Region.wanted o (yielded ops a.tmps) = true := by simp [Region.wanted, hg]
  rw [if_pos hw]
  obtain ⟨v', w', hrun, r1, r2, r3⟩ := run_append_own (P := P) w base t o.type e i z size bytes h1 h2 h3 h4 h5 h6 h7 v n xs hown ad m c news hn hc h1c b1 b2 hbase
  unfold Oper.wp
  simp [execOp, hop, resolve, invoke, builtin, hs, hx, hrun, Result.andThen]
  exact hK v' w' r1 r2 r3
end Go.Proofs.YtgpdpodagoligaaGreat
/- The model's sort of features. -/

namespace Go.Proofs.YtgpdpodagoligaaGreat
open Go.RowKit
set_option linter.unusedSimpArgs false
set_option linter.unusedVariables false
set_option maxRecDepth 100000

end Go.Proofs.YtgpdpodagoligaaGreat
/- Numbers are compared; only new blocks are laid. -/

namespace Go.Proofs.YtgpdpodagoligaaGreat
open Go.RowKit
set_option linter.unusedSimpArgs false
set_option linter.unusedVariables false
set_option maxRecDepth 100000

def cmpI (x y : Int) : Int := if x < y then -1 else if y < x then 1 else 0
theorem cmpCompare_any (x y : Int) (w : World) : Calls Tryz.prog 77 #[.int .i64 x, .int .i64 y] w fun e w' => e = .returned (.int .i64 (cmpI x y)) ∧ w' = w := by
  unfold cmpI
  by_cases h1 : x < y
  · rw [if_pos h1]
    go_enter Tryz.func77, Tryz.ntmps77
    go_wp2
    go_ret
    exact ⟨rfl, rfl⟩
  · rw [if_neg h1]
    by_cases h2 : y < x
    · rw [if_pos h2]
      go_enter Tryz.func77, Tryz.ntmps77
      go_wp2
      go_ret
      exact ⟨rfl, rfl⟩
    · rw [if_neg h2]
      go_enter Tryz.func77, Tryz.ntmps77
      go_wp2
      go_ret
      exact ⟨rfl, rfl⟩
/-- Only new blocks, and draws. -/
def Gro (V W' : World) : Prop := Below V.heap.size V W' ∧ V.drawn ≤ W'.drawn
theorem Gro.refl (V : World) : Gro V V := ⟨Below.refl _ _, Nat.le_refl _⟩
theorem Gro.trans {a b c : World} (h : Gro a b) (k : Gro b c) : Gro a c := ⟨bl_then h.1 k.1, Nat.le_trans h.2 k.2⟩
theorem Gro.alloc {a b : World} (h : Gro a b) (o : Obj) : Gro a (b.alloc o) := ⟨bl_alloc h.1 o, h.2⟩
theorem Gro.drew {a b : World} (h : Gro a b) : Gro a b.drew := ⟨h.1.drew, Nat.le_trans h.2 (Nat.le_succ _)⟩
end Go.Proofs.YtgpdpodagoligaaGreat
/- Features are compared: by layer, of the same by id; only new blocks are laid. -/

namespace Go.Proofs.YtgpdpodagoligaaGreat
open Go.RowKit
set_option linter.unusedSimpArgs false
set_option linter.unusedVariables false
set_option maxRecDepth 100000

def orI (x y : Int) : Int := if x = 0 then y else x
set_option maxHeartbeats 2000000 in
theorem cmpOr_any (b c : Nat) (x y : Int) (w : World) (h0 : w.cell? ⟨b, 0, none⟩ = some (.int .i64 x)) (h1 : w.cell? ⟨b, 1, none⟩ = some (.int .i64 y)) : Calls Tryz.prog 76 #[.slice (some ⟨b, 0, none⟩) 2 c] w fun e w' => e = .returned (.int .i64 (orI x y)) ∧ w' = w := by
  unfold orI
  by_cases hx : x = 0
  · subst hx
    by_cases hy : y = 0
    · subst hy
      go_enter Tryz.func76, Tryz.ntmps76
      go_wp2
      refine wp_loop_rounds 3 ?_
      rw [rounds_succ]
      go_wp2
      rw [rounds_succ]
      go_wp2
      rw [rounds_succ]
      go_wp2
      go_ret
      exact ⟨by simp, rfl⟩
    · have hy' : (y == 0) = false := by simpa using hy
      go_enter Tryz.func76, Tryz.ntmps76
      go_wp2
      refine wp_loop_rounds 2 ?_
      rw [rounds_succ]
      go_wp2
      rw [rounds_succ]
      go_wp2
      go_ret
      exact ⟨by simp, rfl⟩
  · have hx' : (x == 0) = false := by simpa using hx
    rw [if_neg hx]
    go_enter Tryz.func76, Tryz.ntmps76
    go_wp2
    refine wp_loop_rounds 1 ?_
    rw [rounds_succ]
    go_wp2
    go_ret
    exact ⟨rfl, rfl⟩
/-- What comparing two features tells. -/
def cmpF (f g : Feat) : Int := orI (cmpI f.la g.la) (cmpI f.id g.id)
set_option maxHeartbeats 4000000 in
theorem compareFeatures_gro (f g : Feat) (w : World) : Calls Tryz.prog 52 #[.agg (fcell f).toArray, .agg (fcell g).toArray] w fun e w' => e = .returned (.int .i64 (cmpF f g)) ∧ Gro w w' := by
  unfold cmpF
  generalize hA : cmpI f.la g.la = A
  generalize hB : cmpI f.id g.id = B
  have H1 : Hid (∀ W, Calls Tryz.prog 77 #[.int .i64 f.la, .int .i64 g.la] W fun e w' => e = .returned (.int .i64 A) ∧ w' = W) := fun W => by subst hA; exact cmpCompare_any _ _ _
  have H2 : Hid (∀ W, Calls Tryz.prog 77 #[.int .i64 f.id, .int .i64 g.id] W fun e w' => e = .returned (.int .i64 B) ∧ w' = W) := fun W => by subst hB; exact cmpCompare_any _ _ _
  clear hA hB
  unfold fcell
  go_enter Tryz.func52, Tryz.ntmps52
  go_wp2_with fail
  generalize hV : ((w.alloc _).alloc _ : World) = V
  have hB0 : Gro w V := by subst hV; exact ((Gro.refl _).alloc _).alloc _
  have c0 : ∀ W', Gro V W' → W'.cell? ⟨w.heap.size, 0, none⟩ = some (.int .i64 f.id) := fun W' h => by
    rw [h.1.cell (by subst hV; simp <;> omega)]; subst hV; simp [go_sem]
  have c1 : ∀ W', Gro V W' → W'.cell? ⟨w.heap.size, 1, none⟩ = some (.int .i64 f.la) := fun W' h => by
    rw [h.1.cell (by subst hV; simp <;> omega)]; subst hV; simp [go_sem]
  have d0 : ∀ W', Gro V W' → W'.cell? ⟨w.heap.size + 1, 0, none⟩ = some (.int .i64 g.id) := fun W' h => by
    rw [h.1.cell (by subst hV; simp <;> omega)]; subst hV; simp [go_sem]
  have d1 : ∀ W', Gro V W' → W'.cell? ⟨w.heap.size + 1, 1, none⟩ = some (.int .i64 g.la) := fun W' h => by
    rw [h.1.cell (by subst hV; simp <;> omega)]; subst hV; simp [go_sem]
  clear hV
  refine wp_region_noPanic ?_
  refine wp_region_held_drew (S := fun W' => Gro V W') (by kernel_rfl) ((Gro.refl V).drew) (fun hHeld => ?_)
  have hBd : Gro V V.drew := hHeld
  refine takeD (i := 0) (d := some 5) (v := ?vt1) rfl rfl (by kernel_rfl) (by kernel_rfl) (by kernel_rfl) (fun _ _ _ h => h) (Or.inl ⟨by rfl, ?hyt1⟩) (by assumption) ?_
  case hyt1 => (intro w hSw; (try dsimp only at hSw); go_simp <;> with_reducible rfl)
  try simp only [Act.put, List.setIfInBounds_toArray, List.set_cons_zero, List.set_cons_succ]
  refine takeD (i := 1) (d := some 6) (v := ?vt2) rfl rfl (by kernel_rfl) (by kernel_rfl) (by kernel_rfl) (fun _ _ _ h => h) (Or.inl ⟨by rfl, ?hyt2⟩) (by assumption) ?_
  case hyt2 => (intro w hSw; (try dsimp only at hSw); go_simp <;> with_reducible rfl)
  try simp only [Act.put, List.setIfInBounds_toArray, List.set_cons_zero, List.set_cons_succ]
  refine takeD (i := 2) (d := some 7) (v := ?vt3) rfl rfl (by kernel_rfl) (by kernel_rfl) (by kernel_rfl) (fun _ _ _ h => h) (Or.inl ⟨by rfl, ?hyt3⟩) (by assumption) ?_
  case hyt3 => (intro w hSw; (try dsimp only at hSw); go_simp <;> with_reducible rfl)
  try simp only [Act.put, List.setIfInBounds_toArray, List.set_cons_zero, List.set_cons_succ]
  refine takeD (i := 3) (d := some 8) (v := ?vt4) rfl rfl (by kernel_rfl) (by kernel_rfl) (by kernel_rfl) (fun _ _ _ h => h) (Or.inl ⟨by rfl, ?hyt4⟩) (by assumption) ?_
  case hyt4 => (intro w hSw; (try dsimp only at hSw); go_simp <;> with_reducible rfl)
  try simp only [Act.put, List.setIfInBounds_toArray, List.set_cons_zero, List.set_cons_succ]
  refine takeD (i := 5) (d := some 10) (v := ?vt5) rfl rfl (by kernel_rfl) (by kernel_rfl) (by kernel_rfl) (fun _ _ _ h => h) (Or.inl ⟨by rfl, ?hyt5⟩) (by assumption) ?_
  case hyt5 => (intro w hSw; (try dsimp only at hSw); go_simp <;> with_reducible rfl)
  try simp only [Act.put, List.setIfInBounds_toArray, List.set_cons_zero, List.set_cons_succ]
  refine takeD (i := 6) (d := some 11) (v := ?vt6) rfl rfl (by kernel_rfl) (by kernel_rfl) (by kernel_rfl) (fun _ _ _ h => h) (Or.inl ⟨by rfl, ?hyt6⟩) (by assumption) ?_
  case hyt6 => (intro w hSw; (try dsimp only at hSw); go_simp <;> with_reducible rfl)
  try simp only [Act.put, List.setIfInBounds_toArray, List.set_cons_zero, List.set_cons_succ]
  refine takeD (i := 7) (d := some 12) (v := ?vt7) rfl rfl (by kernel_rfl) (by kernel_rfl) (by kernel_rfl) (fun _ _ _ h => h) (Or.inl ⟨by rfl, ?hyt7⟩) (by assumption) ?_
  case hyt7 => (intro w hSw; (try dsimp only at hSw); go_simp <;> with_reducible rfl)
  try simp only [Act.put, List.setIfInBounds_toArray, List.set_cons_zero, List.set_cons_succ]
  refine takeD (i := 8) (d := some 13) (v := ?vt8) rfl rfl (by kernel_rfl) (by kernel_rfl) (by kernel_rfl) (fun _ _ _ h => h) (Or.inl ⟨by rfl, ?hyt8⟩) (by assumption) ?_
  case hyt8 => (intro w hSw; (try dsimp only at hSw); go_simp <;> with_reducible rfl)
  try simp only [Act.put, List.setIfInBounds_toArray, List.set_cons_zero, List.set_cons_succ]
  refine wpAnyH_ready (rs := [4]) (by kernel_rfl) (by simp) ?_
  refine (AllReadyH.cons rfl (fun K hK => ?_) AllReadyH.nil)
  go_simp
  refine (H1.out _).mono ?_
  rintro e w4 ⟨rfl, rfl⟩
  go_wp2_with fail
  refine hK.out _ _ hBd (fun hHeld => ?_)
  clear hK K
  try simp only [Act.put, List.setIfInBounds_toArray, List.set_cons_zero, List.set_cons_succ]
  refine wpAnyH_ready (rs := [9]) (by kernel_rfl) (by simp) ?_
  refine (AllReadyH.cons rfl (fun K hK => ?_) AllReadyH.nil)
  go_simp
  refine (H2.out _).mono ?_
  rintro e w9 ⟨rfl, rfl⟩
  go_wp2_with fail
  refine hK.out _ _ hBd (fun hHeld => ?_)
  clear hK K
  try simp only [Act.put, List.setIfInBounds_toArray, List.set_cons_zero, List.set_cons_succ]
  refine wpAnyH_ready (rs := [10]) (by kernel_rfl) (by simp) ?_
  refine (AllReadyH.cons rfl (fun K hK => ?_) AllReadyH.nil)
  go_simp
  generalize hw9 : (World.alloc _ _ : World) = w9
  have hb9 : Gro V w9 := by subst hw9; exact (Gro.refl _).alloc _
  have g0 : w9.cell? ⟨V.heap.size, 0, none⟩ = some (.int .i64 A) := by subst hw9; simp [go_sem]
  have g1 : w9.cell? ⟨V.heap.size, 1, none⟩ = some (.int .i64 B) := by subst hw9; simp [go_sem]
  have hB9 : Gro V w9.drew := hb9.drew
  replace g0 : w9.drew.cell? ⟨V.heap.size, 0, none⟩ = some (.int .i64 A) := g0
  replace g1 : w9.drew.cell? ⟨V.heap.size, 1, none⟩ = some (.int .i64 B) := g1
  clear hw9
  refine hK.out _ _ hB9 (fun hHeld => ?_)
  clear hK K
  try simp only [Act.put, List.setIfInBounds_toArray, List.set_cons_zero, List.set_cons_succ]
  refine wpAnyH_ready (rs := [11]) (by kernel_rfl) (by simp) ?_
  refine (AllReadyH.cons rfl (fun K hK => ?_) AllReadyH.nil)
  go_simp
  refine (cmpOr_any _ _ A B _ g0 g1).mono ?_
  rintro e w11 ⟨rfl, rfl⟩
  go_wp2_with fail
  refine hK.out _ _ hB9 (fun hHeld => ?_)
  clear hK K
  try simp only [Act.put, List.setIfInBounds_toArray, List.set_cons_zero, List.set_cons_succ]
  refine takeD (i := 12) (d := some 4) (v := ?vt9) rfl rfl (by kernel_rfl) (by kernel_rfl) (by kernel_rfl) (fun _ _ _ h => h) (Or.inl ⟨by rfl, ?hyt9⟩) (by assumption) ?_
  case hyt9 => (intro w hSw; (try dsimp only at hSw); go_simp <;> with_reducible rfl)
  try simp only [Act.put, List.setIfInBounds_toArray, List.set_cons_zero, List.set_cons_succ]
  refine wpAnyH_done (by kernel_rfl) ?_ _
  refine NoPanic.normal ?_
  go_wp2_with fail
  go_ret
  exact ⟨rfl, hB0.trans hB9⟩
end Go.Proofs.YtgpdpodagoligaaGreat
/- What a sort of the library lays; how numbers are compared. -/

namespace Go.Proofs.YtgpdpodagoligaaGreat
open Go.RowKit Go.Sort Go.Shelf
set_option linter.unusedSimpArgs false
set_option linter.unusedVariables false
set_option maxRecDepth 100000

theorem Gro.grow {V W' : World} (h : Gro V W') : ∃ q os', W' = Go.Sort.grow (V.drewN q) os' := by
  obtain ⟨hb, hd⟩ := h
  refine ⟨W'.drawn - V.drawn, W'.heap.extract V.heap.size W'.heap.size, ?_⟩
  obtain ⟨hp, tp, dr, os, ou⟩ := W'
  obtain ⟨h1, h2, h3, h4, h5⟩ := hb
  simp only at h1 h2 h3 h4 h5 hd
  subst h1 h2 h3
  have e1 : V.drawn + (dr - V.drawn) = dr := by omega
  have e2 : V.heap ++ hp.extract V.heap.size hp.size = hp := by
    apply Array.ext
    · simp; omega
    · intro i hi hi'
      by_cases h : i < V.heap.size
      · rw [Array.getElem_append_left h]
        have := h5 i h
        rw [Array.getElem?_eq_getElem hi', Array.getElem?_eq_getElem h] at this
        injection this with this
        exact this.symm
      · rw [Array.getElem_append_right (by omega)]
        simp only [Array.getElem_extract]
        congr 1
        omega
  simp only [Go.Sort.grow, World.drewN, e1, e2]
theorem cmpI_lt (x y : Int) : cmpI x y < 0 ↔ x < y := by
  unfold cmpI
  by_cases h1 : x < y
  · rw [if_pos h1]; simp [h1]
  · rw [if_neg h1]
    by_cases h2 : y < x
    · rw [if_pos h2]; simp [h1]
    · rw [if_neg h2]; simp [h1]
theorem cmpI_zero (x y : Int) : cmpI x y = 0 ↔ x = y := by
  unfold cmpI
  by_cases h1 : x < y
  · rw [if_pos h1]; simp; omega
  · rw [if_neg h1]
    by_cases h2 : y < x
    · rw [if_pos h2]; simp; omega
    · rw [if_neg h2]; simp; omega
theorem grown_sortF (enc : Nat → List Value) (k : Nat) (w : World) (g off m : Nat) (d : Array Nat) (os : Array Obj) : w.grownBy (sortWorldK enc k w g off m d os) (some g) := by
  refine ⟨rfl, rfl, rfl, size_sortWorldK_c _ _ _ _ _ _ _ _, fun j hj hne => ?_⟩
  have hne' : g ≠ j := fun e => hne (by rw [e])
  show ((putRowK enc k (Sort.ahead w m) g off d).heap ++ os)[j]? = _
  have hs : (putRowK enc k (Sort.ahead w m) g off d).heap.size = w.heap.size := by
    show (putRow id (Sort.ahead w m) g off (flatK enc k d)).heap.size = _
    rw [size_putRow]; rfl
  rw [Array.getElem?_append_left (by rw [hs]; exact hj)]
  show (w.heap.modify g _)[j]? = _
  rw [Array.getElem?_modify, if_neg hne']
end Go.Proofs.YtgpdpodagoligaaGreat
/- Features are compared: by layer, of the same by id; only new blocks are laid. -/

namespace Go.Proofs.YtgpdpodagoligaaGreat
open Go.RowKit Go.Sort
set_option linter.unusedSimpArgs false
set_option linter.unusedVariables false
set_option maxRecDepth 100000

theorem compareFeatures_any (f g : Feat) (w : World) : Calls Tryz.prog 52 #[.agg (fcell f).toArray, .agg (fcell g).toArray] w fun e w' => e = .returned (.int .i64 (cmpF f g)) ∧ ∃ q os', w' = grow (w.drewN q) os' :=
  (compareFeatures_gro f g w).mono fun e w' ⟨he, hg⟩ => ⟨he, hg.grow⟩
end Go.Proofs.YtgpdpodagoligaaGreat
/- The fault of a list of features: the program's. -/

namespace Go.Proofs.YtgpdpodagoligaaGreat
open Go.RowKit
set_option linter.unusedSimpArgs false
set_option linter.unusedVariables false
set_option maxRecDepth 100000

set_option maxHeartbeats 4000000 in
theorem FeaturesFault_any (b n cap : Nat) (G : Nat → Feat) (w : World) (hg : FsAt w b 0 n G) (hbl : b < w.heap.size) (hs : SmallFs n G) (hcap : n ≤ cap) :
    Calls Tryz.prog 49 #[.slice (some ⟨b, 0, none⟩) n cap] w fun e w' => e = .returned (.int .i64 (featsC n G)) ∧ Below w.heap.size w w' := by
  have HG : Hid (FsAt w b 0 n G) := hg
  have HS : Hid (SmallFs n G) := hs
  have hn := hs.1
  clear hg hs
  by_cases h12 : (12 : Int) < n
  · have hz : Hid (featsC n G = 2) := by show _ = _; unfold featsC; rw [if_pos (by omega)]
    go_enter Tryz.func49, Tryz.ntmps49
    go_wp2
    go_ret
    exact ⟨ret_int hz.out.symm, by (repeat (first | exact Below.refl _ _ | assumption | refine Below.drew ?_ | refine bl_alloc ?_ _ | refine bl_then ?_ (by assumption) | refine Below.setCell ?_ (by first | omega | (simp; done) | (simp; omega)) _ | refine bl_store ?_ ?_ _ _))⟩
  · have hz : Hid (featsC n G = scanC (codeAt G) 0 n) := by show _ = _; unfold featsC; rw [if_neg (by omega)]
    go_enter Tryz.func49, Tryz.ntmps49
    go_wp2
    go_loopw [11] (fun v wr => ∃ k : Nat, k ≤ n ∧ v = .int .i64 k ∧ (∀ j, j < k → codeAt G j = 0) ∧ Below w.heap.size w wr) (fun v _ => n - (intOf v).toNat)
    case atStart => exact ⟨0, by omega, rfl, by omega, Below.refl _ _⟩
    case round =>
      obtain ⟨k, hk, rfl, hA, hB⟩ := hrel
      have HB : Hid (Below w.heap.size w wr) := hB
      have HA : Hid (∀ j, j < k → codeAt G j = 0) := hA
      by_cases hlt : k < n
      · have HGr : Hid (FsAt wr b 0 n G) := HG.out.below hB hbl
        have hblr : b < wr.heap.size := Nat.lt_of_lt_of_le hbl hB.size
        obtain ⟨⟨f0, f1, f2, f3, f4, f5, f6⟩, hP⟩ := HGr.out k hlt
        simp only [Nat.zero_add] at f0 f1 f2 f3 f4 f5 f6
        have HP : Hid (IsPts wr (G k).a (G k).n (G k).X (G k).Y) := hP
        obtain ⟨z1, z2⟩ := HS.out.2 k hlt
        have HLT : Hid (k < n) := hlt
        clear hB hA hP
        have hi : (k : Int) < (n : Int) := by omega
        have hi0 : (0 : Int) ≤ (k : Int) := by omega
        go_wp2_with fail
        generalize hV : (wr.alloc _ : World) = V
        have hBV : Below wr.heap.size wr V := by subst hV; (repeat (first | exact Below.refl _ _ | assumption | refine Below.drew ?_ | refine bl_alloc ?_ _ | refine bl_then ?_ (by assumption) | refine Below.setCell ?_ (by first | omega | (simp; done) | (simp; omega)) _ | refine bl_store ?_ ?_ _ _))
        have v0 : ∀ W', Below V.heap.size V W' → W'.cell? ⟨wr.heap.size, 0, none⟩ = some (.int .i64 (G k).id) := fun W' h => by
          rw [h.cell (by subst hV; simp)]; subst hV; simp [go_sem]
        clear hV
        have HBV : Hid (Below w.heap.size w V) := bl_then HB.out hBV
        have HGV : Hid (FsAt V b 0 n G) := HGr.out.below hBV hblr
        have hblV : b < V.heap.size := Nat.lt_of_lt_of_le hblr hBV.size
        have HPV : Hid (IsPts V (G k).a (G k).n (G k).X (G k).Y) := HP.out.below hBV
        clear hBV f0 f1 f2 f3 f4 f5 f6 HP HGr
        refine (FeatureFault_any _ _ _ _ _ _ _ (G k).X (G k).Y _ _ _ HPV.out z2 z1).mono ?_
        rintro e w1 ⟨rfl, hb1⟩
        by_cases hc : featC (G k).id (G k).la (G k).ki (G k).wi (G k).n (G k).X (G k).Y (G k).lab (G k).pr = 0
        · rw [hc]
          have HC : Hid (featC (G k).id (G k).la (G k).ki (G k).wi (G k).n (G k).X (G k).Y (G k).lab (G k).pr = 0) := hc
          have HB1 : Hid (Below V.heap.size V w1) := hb1
          have hr1 : Below V.heap.size V w1 := hb1
          clear hc hb1
          have hk0 : (k : Int) ≤ (n : Int) := by omega
          have hkc : (k : Int) ≤ (cap : Int) := by omega
          by_cases hx : ∃ j, j < k ∧ (G j).id = (G k).id
          · have HH : Hid (∀ W', Below V.heap.size V W' → Calls Tryz.prog 73 #[.slice (some ⟨b, 0, none⟩) k cap, .int .i64 (G k).id] W' fun e w' => e = .returned (.bool true) ∧ Below W'.heap.size W' w') := fun W' h => by
              refine (hasId_any b k cap n G (G k).id W' (Nat.le_of_lt HLT.out) (HGV.out.below h hblV) (Nat.lt_of_lt_of_le hblV h.size) (by omega)).mono ?_
              rintro e w' ⟨⟨he, _⟩ | ⟨_, hno⟩, hb⟩
              · exact ⟨he, hb⟩
              · obtain ⟨j, hj, hje⟩ := hx
                exact absurd hje (hno j hj)
            have htk : Hid (codeAt G k = 6) := codeAt_taken HC.out hx
            have hsc : Hid (featsC n G = 6) := by
              show _ = _
              rw [hz.out, scan_first (codeAt G) n 0 k (fun j _ hj => HA.out j hj) (by omega) (by have := HLT.out; omega) (by rw [htk.out]; decide), htk.out]
            clear hx
            go_wp2_with fail
            go_region_held3 (fun W' => Below V.heap.size V W') ((repeat (first | exact Below.refl _ _ | assumption | refine Below.drew ?_ | refine bl_alloc ?_ _ | refine bl_then ?_ (by assumption) | refine Below.setCell ?_ (by first | omega | (simp; done) | (simp; omega)) _ | refine bl_store ?_ ?_ _ _)))
              (first | (go_at_call 73; refine (HH.out _ (by assumption)).mono ?_; rintro e w' ⟨rfl, hb⟩))
            go_wp2
            go_ret
            exact ⟨ret_int hsc.out.symm, bl_then HBV.out (by assumption)⟩
          · have HH : Hid (∀ W', Below V.heap.size V W' → Calls Tryz.prog 73 #[.slice (some ⟨b, 0, none⟩) k cap, .int .i64 (G k).id] W' fun e w' => e = .returned (.bool false) ∧ Below W'.heap.size W' w') := fun W' h => by
              refine (hasId_any b k cap n G (G k).id W' (Nat.le_of_lt HLT.out) (HGV.out.below h hblV) (Nat.lt_of_lt_of_le hblV h.size) (by omega)).mono ?_
              rintro e w' ⟨⟨_, hyes⟩ | ⟨he, _⟩, hb⟩
              · exact absurd hyes hx
              · exact ⟨he, hb⟩
            have HOK : Hid (codeAt G k = 0) := codeAt_ok HC.out hx
            clear hx
            go_wp2_with fail
            go_region_held3 (fun W' => Below V.heap.size V W') ((repeat (first | exact Below.refl _ _ | assumption | refine Below.drew ?_ | refine bl_alloc ?_ _ | refine bl_then ?_ (by assumption) | refine Below.setCell ?_ (by first | omega | (simp; done) | (simp; omega)) _ | refine bl_store ?_ ?_ _ _)))
              (first | (go_at_call 73; refine (HH.out _ (by assumption)).mono ?_; rintro e w' ⟨rfl, hb⟩))
            go_wp2
            go_roundw
            case rel => exact ⟨k + 1, by have := HLT.out; omega, by go_num, fun j hj => by
                by_cases e : j = k
                · rw [e]; exact HOK.out
                · exact HA.out j (by omega), bl_then HBV.out (by assumption)⟩
            case measure => have := HLT.out; simp [intOf]; omega
        · have hsc : Hid (featsC n G = featC (G k).id (G k).la (G k).ki (G k).wi (G k).n (G k).X (G k).Y (G k).lab (G k).pr) := by
            show _ = _
            have h6 := codeAt_fault hc
            rw [hz.out, scan_first (codeAt G) n 0 k (fun j _ hj => HA.out j hj) (by omega) (by have := HLT.out; omega) (by rw [h6]; exact hc), h6]
          have hcb : (featC (G k).id (G k).la (G k).ki (G k).wi (G k).n (G k).X (G k).Y (G k).lab (G k).pr == 0) = false := by simpa using hc
          have HB1 : Hid (Below w.heap.size w w1) := bl_then HBV.out hb1
          clear hc hb1
          go_wp2
          go_ret
          exact ⟨ret_int hsc.out.symm, HB1.out⟩
      · have hsc : Hid (featsC n G = 0) := by
          show _ = _
          rw [hz.out]
          exact scan_none _ _ _ (fun j _ hj => HA.out j (by omega))
        go_wp2
        go_ret
        exact ⟨ret_int hsc.out.symm, HB.out⟩
theorem OwnFs.small {w : World} {B b n : Nat} {F G : Nat → Feat} (h : OwnFs w B b n F G) (hs : SmallFs n F) : SmallFs n G := by
  refine ⟨hs.1, fun i hi => ?_⟩
  obtain ⟨⟨_, _, _, _, s5, _, _, s8, _⟩, _⟩ := h.2.2.2 i hi
  rw [s5, s8]
  exact hs.2 i hi
theorem OwnFs.code {w : World} {B b n : Nat} {F G : Nat → Feat} (h : OwnFs w B b n F G) : featsC n G = featsC n F := featsC_same (fun j hj => (h.2.2.2 j hj).1)

end Go.Proofs.YtgpdpodagoligaaGreat
