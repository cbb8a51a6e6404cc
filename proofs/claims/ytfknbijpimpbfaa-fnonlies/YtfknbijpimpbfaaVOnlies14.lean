/- Rows of requests and of their refs, in memory of their own; they are copied. -/
import Derived.Test.YtfknbijpimpbfaaVOnlies12
import Derived.Test.YtfknbijpimpbfaaVOnlies13
namespace Go.Proofs.Ytfknbijpimpbfaa
open Go.RowKit
set_option linter.unusedSimpArgs false
set_option linter.unusedVariables false
set_option maxRecDepth 100000

abbrev reqCells (e : Req) : List Value := [.int .i64 e.z, .int .i64 e.x, .int .i64 e.y, .int .i64 e.du, .int .i64 e.tr]
def cellsW (l : List Req) : List Value := l.flatMap reqCells
theorem cellsW_len : ∀ l : List Req, (cellsW l).length = l.length * 5
  | [] => rfl
  | e :: l => by
    have h := cellsW_len l
    unfold cellsW at h ⊢
    rw [List.flatMap_cons, List.length_append, h]
    simp
    omega
theorem cellsW_app (l m : List Req) : cellsW (l ++ m) = cellsW l ++ cellsW m := by simp [cellsW]
theorem cellsW_one (e : Req) : cellsW [e] = reqCells e := by simp [cellsW]
theorem cellsW_cell (l : List Req) : ∀ u ∈ cellsW l, u.oneCell' = true := fun u hu => by
  unfold cellsW at hu
  rw [List.mem_flatMap] at hu
  obtain ⟨e, _, h⟩ := hu
  simp at h
  rcases h with rfl | rfl | rfl | rfl | rfl <;> rfl
/-- The i-th of a list. -/
def nw (l : List Req) (i : Nat) : Req := l.getD i ⟨0, 0, 0, 0, 0⟩
theorem nw_cons (e : Req) (l : List Req) (i : Nat) : nw (e :: l) (i + 1) = nw l i := by simp [nw]
theorem nw_zero (e : Req) (l : List Req) : nw (e :: l) 0 = e := by simp [nw]
theorem cellsW_at : ∀ (l : List Req) (i : Nat), i < l.length → ∀ k, k < 5 → (cellsW l)[i * 5 + k]? = (reqCells (nw l i))[k]?
  | [], i, h, _, _ => absurd h (by simp)
  | e :: l, 0, _, k, hk => by
    rw [nw_zero]
    unfold cellsW
    rw [List.flatMap_cons, List.getElem?_append_left (by simp; omega)]
    simp
  | e :: l, i + 1, h, k, hk => by
    rw [nw_cons]
    have := cellsW_at l i (by simp at h; omega) k hk
    rw [← this]
    unfold cellsW
    rw [List.flatMap_cons, List.getElem?_append_right (by simp; omega)]
    congr 1
    simp
    omega
/-- The first n of them as a list. -/
def listW (n : Nat) (E : Nat → Req) : List Req := (List.range n).map E
theorem listW_len (n : Nat) (E : Nat → Req) : (listW n E).length = n := by simp [listW]
theorem listW_nw (n : Nat) (E : Nat → Req) (i : Nat) (h : i < n) : nw (listW n E) i = E i := by simp [nw, listW, h]
theorem listW_of (l : List Req) : listW l.length (nw l) = l := by
  refine List.ext_getElem (by simp [listW]) fun i h1 h2 => ?_
  have h2' := h2
  simp [listW, nw, h2']
theorem listW_succ (n : Nat) (E : Nat → Req) : listW (n + 1) E = listW n E ++ [E n] := by simp [listW, List.range_succ]
theorem ws_cells {w : World} {b off n : Nat} {E : Nat → Req} (h : WsAt w b off n E) : ∀ q u, (cellsW (listW n E))[q]? = some u → w.cell? ⟨b, off + q, none⟩ = some u := fun q u hq => by
  have hl : q < n * 5 := by
    have h1 := cellsW_len (listW n E)
    rw [listW_len] at h1
    rcases Nat.lt_or_ge q (n * 5) with h' | h'
    · exact h'
    · rw [List.getElem?_eq_none (by omega)] at hq
      cases hq
  have e1 : q = q / 5 * 5 + q % 5 := by omega
  have hi : q / 5 < n := by omega
  have hat := cellsW_at (listW n E) (q / 5) (by rw [listW_len]; exact hi) (q % 5) (by omega)
  rw [← e1, listW_nw _ _ _ hi, hq] at hat
  obtain ⟨h0, h1, h2, h3, h4⟩ := h (q / 5) hi
  have e2 : off + q = off + q / 5 * 5 + q % 5 := by omega
  rw [e2]
  have hr : q % 5 = 0 ∨ q % 5 = 1 ∨ q % 5 = 2 ∨ q % 5 = 3 ∨ q % 5 = 4 := by omega
  rcases hr with hr | hr | hr | hr | hr <;> rw [hr] at hat ⊢ <;> simp at hat <;> subst hat <;> assumption
/-- v is a row of its own with these requests. -/
def RowW (base : Nat) (w : World) (v : Value) (l : List Req) : Prop := w.ownsRow base 37 5 v l.length (cellsW l)
theorem RowW.no (base : Nat) (w : World) : RowW base w (.slice none 0 0) [] := World.ownsRow_nil _ _ _ _
theorem RowW.own {base : Nat} {w : World} {v : Value} {l : List Req} (h : RowW base w v l) : OwnW w base v l.length (nw l) := by
  obtain ⟨h1, h2 | ⟨g, cp, cur, hv, hg, hh, hkc, hcm, hcs, htk⟩⟩ := h
  · obtain ⟨rfl, h0⟩ := h2
    rw [h0]
    exact ⟨none, 0, rfl, Nat.le_refl _, .inl rfl⟩
  · have hgl : g < w.heap.size := by
      rcases Nat.lt_or_ge g w.heap.size with h' | h'
      · exact h'
      · rw [Array.getElem?_eq_none h'] at hh; cases hh
    have hrow : w.ownsRow base 37 5 (.slice (some ⟨g, 0, none⟩) l.length cp) l.length (cellsW l) := ⟨h1, .inr ⟨g, cp, cur, rfl, hg, hh, hkc, hcm, hcs, htk⟩⟩
    refine ⟨some ⟨g, 0, none⟩, cp, hv, hkc, .inr ⟨g, rfl, hg, hgl, fun i hi => ?_, fun o ho => ⟨?_, hrow.frozenAt o⟩⟩⟩
    · have ha := cellsW_at l i hi
      simp only [Nat.zero_add]
      exact ⟨(hrow.cellAt _ (by omega)).trans (ha 0 (by omega)), (hrow.cellAt _ (by omega)).trans (ha 1 (by omega)), (hrow.cellAt _ (by omega)).trans (ha 2 (by omega)), (hrow.cellAt _ (by omega)).trans (ha 3 (by omega)), (hrow.cellAt _ (by omega)).trans (ha 4 (by omega))⟩
    · rw [hrow.cellAt o ho]
      have hlt : o < (cellsW l).length := by rw [cellsW_len]; exact ho
      exact ⟨(cellsW l)[o], List.getElem?_eq_getElem hlt⟩
theorem ownsRow_belowW {base s n : Nat} {t : TypeId} {w w' : World} {v : Value} {xs : List Value} (h : w.ownsRow base t s v n xs) (hb : Below w.heap.size w w') : w'.ownsRow base t s v n xs := by
  obtain ⟨h1, h2 | ⟨g, cp, cur, hv, hg, hh, hr⟩⟩ := h
  · exact ⟨h1, .inl h2⟩
  · refine ⟨h1, .inr ⟨g, cp, cur, hv, hg, ?_, hr⟩⟩
    have hgl : g < w.heap.size := by
      rcases Nat.lt_or_ge g w.heap.size with h' | h'
      · exact h'
      · rw [Array.getElem?_eq_none h'] at hh; cases hh
    rw [hb.block g hgl]
    exact hh
theorem RowW.below {base : Nat} {w w' : World} {v : Value} {l : List Req} (h : RowW base w v l) (hb : Below w.heap.size w w') : RowW base w' v l := ownsRow_belowW h hb
/-- A row stays where another block is written. -/
theorem ownsRow_setW {base s n r o : Nat} {t : TypeId} {w : World} {v u : Value} {xs : List Value} (h : w.ownsRow base t s v n xs) (hr : r < base) : (w.setCell ⟨r, o, none⟩ u).ownsRow base t s v n xs := by
  obtain ⟨h1, h2 | ⟨g, cp, cur, hv, hg, hh, hk⟩⟩ := h
  · exact ⟨h1, .inl h2⟩
  · refine ⟨h1, .inr ⟨g, cp, cur, hv, hg, ?_, hk⟩⟩
    rw [Below.heap_setCell w ⟨r, o, none⟩ u g (fun e => by simp at e; omega)]
    exact hh
theorem ownsRow_wideW {base B s n : Nat} {t : TypeId} {w : World} {v : Value} {xs : List Value} (h : w.ownsRow base t s v n xs) (hB : B ≤ base) : w.ownsRow B t s v n xs := by
  obtain ⟨h1, h2 | ⟨g, cp, cur, hv, hg, hk⟩⟩ := h
  · exact ⟨h1, .inl h2⟩
  · exact ⟨h1, .inr ⟨g, cp, cur, hv, by omega, hk⟩⟩
/-- Rows of two types are apart. -/
theorem rows_apart {w : World} {base base' s s' n n' : Nat} {t t' : TypeId} {v v' : Value} {xs xs' : List Value} (h : w.ownsRow base t s v n xs) (h' : w.ownsRow base' t' s' v' n' xs') (ht : t ≠ t') :
    ∀ p l c p' l' c', v = .slice (some p) l c → v' = .slice (some p') l' c' → p.block ≠ p'.block := fun p l c p' l' c' e e' hp => by
  obtain ⟨_, h2 | ⟨g, cp, cur, hv, hg, hh, _⟩⟩ := h
  · rw [h2.1] at e; cases e
  obtain ⟨_, h3 | ⟨g', cp', cur', hv', hg', hh', _⟩⟩ := h'
  · rw [h3.1] at e'; cases e'
  rw [hv] at e
  rw [hv'] at e'
  injection e with e _ _
  injection e with e
  injection e' with e' _ _
  injection e' with e'
  subst e e'
  simp at hp
  subst hp
  rw [hh] at hh'
  injection hh' with hh'
  injection hh' with _ h4 _
  exact ht h4
/-- The refs of requests. -/
def rfsOf (l : List Req) : Rfs := ⟨fun i => (nw l i).z, fun i => (nw l i).x, fun i => (nw l i).y⟩
theorem nw_app (l m : List Req) (i : Nat) (h : i < l.length) : nw (l ++ m) i = nw l i := by simp [nw, List.getElem?_append_left h]
theorem nw_last (l : List Req) (e : Req) : nw (l ++ [e]) l.length = e := by simp [nw]
theorem cellsR_congr {R R' : Rfs} : ∀ (n : Nat), (∀ i, i < n → R.z i = R'.z i ∧ R.x i = R'.x i ∧ R.y i = R'.y i) → cellsR R n = cellsR R' n
  | 0, _ => rfl
  | n + 1, h => by
    rw [cellsR_add, cellsR_add, cellsR_congr n (fun i hi => h i (by omega)), (h n (by omega)).1, (h n (by omega)).2.1, (h n (by omega)).2.2]
theorem cellsR_app (l : List Req) (e : Req) : cellsR (rfsOf (l ++ [e])) (l.length + 1) = cellsR (rfsOf l) l.length ++ [.int .i64 e.z, .int .i64 e.x, .int .i64 e.y] := by
  rw [cellsR_add, cellsR_congr (R := rfsOf (l ++ [e])) (R' := rfsOf l) l.length (fun i hi => by simp [rfsOf, nw_app l [e] i hi])]
  simp [rfsOf, nw_last]
/-- v is a row of its own with the refs of these. -/
def RowS (base : Nat) (w : World) (v : Value) (l : List Req) : Prop := w.ownsRow base 35 3 v l.length (cellsR (rfsOf l) l.length)
theorem RowS.no (base : Nat) (w : World) : RowS base w (.slice none 0 0) [] := World.ownsRow_nil _ _ _ _
theorem RowS.own {base : Nat} {w : World} {v : Value} {l : List Req} (h : RowS base w v l) : OwnT w base v l.length (rfsOf l) := RowT.own h
theorem RowS.below {base : Nat} {w w' : World} {v : Value} {l : List Req} (h : RowS base w v l) (hb : Below w.heap.size w w') : RowS base w' v l := ownsRow_belowW h hb
theorem info_req : (Try.prog.info? 37).map (fun i => (i.zero, i.size, i.bytes)) = some (some (.agg #[.int .i64 0, .int .i64 0, .int .i64 0, .int .i64 0, .int .i64 0]), 5, 40) := by kernel_rfl
set_option maxHeartbeats 1000000 in
theorem cloneW_any (a : Option Addr) (n cap : Nat) (E : Nat → Req) (w : World) (hp : IsWs w a n E) (hn : n ≤ 1048576) :
    Calls Try.prog 52 #[.slice a n cap] w fun e w' => ∃ v, e = .returned v ∧ RowW w.heap.size w' v (listW n E) ∧ Below w.heap.size w w' := by
  obtain ⟨i0, hi, hz0, hz1, hz2⟩ := info_parts info_req
  have HLEN : Hid ((listW n E).length = n) := listW_len n E
  cases a with
  | none =>
    rcases hp with h0 | ⟨b, off, h, _⟩
    · subst h0
      have hnl : ∀ w, Sem.run Try.prog (binOp BinOp.eql 24 (.slice none 0 cap) (.slice none 0 0)) w = .ok (.bool true) w := fun _ => by kernel_rfl
      go_enter Try.func52, Try.ntmps52
      go_wp2
      go_ret
      exact ⟨_, rfl, RowW.no _ _, by (repeat (first | exact Below.refl _ _ | assumption | refine Below.drew ?_ | refine bl_alloc ?_ _ | refine bl_then ?_ (by assumption) | refine Below.setCell ?_ (by first | omega | (simp; done) | (simp; omega)) _ | refine bl_store ?_ ?_ _ _))⟩
    · cases h
  | some ad =>
    have HC : Hid (∀ q u, (cellsW (listW n E))[q]? = some u → (w.alloc (.cells #[] 37)).cell? (ad.add q) = some u) := fun q u hq => by
      rcases hp with h0 | ⟨b, off, h, hbl, hpt⟩
      · subst h0
        simp [listW, cellsW] at hq
      · injection h with h
        subst h
        have h1 := ws_cells (hpt.below (by (repeat (first | exact Below.refl _ _ | assumption | refine Below.drew ?_ | refine bl_alloc ?_ _ | refine bl_then ?_ (by assumption) | refine Below.setCell ?_ (by first | omega | (simp; done) | (simp; omega)) _ | refine bl_store ?_ ?_ _ _)) : Below w.heap.size w (w.alloc (.cells #[] 37))) hbl) q u hq
        by_cases hq0 : q = 0
        · subst hq0; simpa [Addr.add] using h1
        · simpa [Addr.add, hq0] using h1
    have hnl : ∀ w, Sem.run Try.prog (binOp BinOp.eql 24 (.slice (some ad) n cap) (.slice none 0 0)) w = .ok (.bool false) w := fun _ => by kernel_rfl
    clear hp
    go_enter Try.func52, Try.ntmps52
    go_wp2_with (first
      | (at_builtin; go_must (refine wpList_append_own _ rfl _ _ 24 rfl w.heap.size 37 i0 (.agg #[.int .i64 0, .int .i64 0, .int .i64 0, .int .i64 0, .int .i64 0]) 5 40 Try.underlying24 hi hz0 hz1 hz2 rfl (by decide) (.slice (some ⟨w.heap.size, 0, none⟩) 0 0) 0 [] rfl (World.ownsRow_lit (base := w.heap.size) w #[] 0 (Nat.le_refl _) (Nat.zero_le _) rfl) ad n cap (cellsW (listW n E)) rfl ?c0 ?c1 ?c2 ?c3 ?c4 ?c5 ?_)))
    case c0 => rw [cellsW_len, HLEN.out]
    case c1 => exact HC.out
    case c2 => exact cellsW_cell _
    case c3 => unfold maxLen; omega
    case c4 => omega
    case c5 => first | omega | (simp; done) | (simp; omega)
    intro v' w2 hown' hgrow hnil
    have HR : Hid (RowW w.heap.size w2 v' (listW n E)) := by
      show World.ownsRow _ _ _ _ _ _ _
      rw [HLEN.out]
      simpa using hown'
    have HB : Hid (Below w.heap.size w w2) := by
      have h1 : Below w.heap.size w (w.alloc (.cells #[] 37)) := by (repeat (first | exact Below.refl _ _ | assumption | refine Below.drew ?_ | refine bl_alloc ?_ _ | refine bl_then ?_ (by assumption) | refine Below.setCell ?_ (by first | omega | (simp; done) | (simp; omega)) _ | refine bl_store ?_ ?_ _ _))
      exact h1.trans ⟨hgrow.os, hgrow.tape, hgrow.output, hgrow.size, fun k hk => hgrow.block k (by simp; omega) (by simp [Value.ownBlock]; omega)⟩
    clear hown' hgrow hnil
    go_wp2
    go_ret
    exact ⟨_, rfl, HR.out, HB.out⟩
end Go.Proofs.Ytfknbijpimpbfaa
