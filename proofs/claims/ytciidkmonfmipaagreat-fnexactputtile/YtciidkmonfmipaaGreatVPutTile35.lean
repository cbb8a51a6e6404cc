/- A kept tile in memory of its own. -/
import Derived.Test.YtciidkmonfmipaaGreatVPutTile34
import Derived.Test.YtciidkmonfmipaaGreatVPutTile25
import Derived.Test.YtciidkmonfmipaaGreatVPutTile18
import Derived.Test.YtciidkmonfmipaaGreatVPutTile15
namespace Go.Proofs.YtciidkmonfmipaaGreat
open Go.RowKit
set_option linter.unusedSimpArgs false
set_option linter.unusedVariables false
set_option maxRecDepth 100000

/-- Features of its own, as others are, in blocks from lo on and below hi. -/
def FOwn (w : World) (lo hi : Nat) (a : Option Addr) (n : Nat) (G T : Nat → Feat) : Prop :=
  IsFs w a n T ∧ (∀ i, i < n → (T i).same (G i) ∧ (T i).n ≤ (T i).cap) ∧ (n = 0 ∨ ∃ g q, a = some ⟨g, 0, none⟩ ∧ OwnQ w lo hi g n (fun i => (T i).n) (fun i => (T i).cap) q)
theorem row_neM {base base' : Nat} {w : World} {q g n m c d : Nat} {l : List (Int × Int)} {H : Nat → Feat} {k : List Nat} (h : Row base w (.slice (some ⟨q, 0, none⟩) n c) l) (h' : FRow base' w (.slice (some ⟨g, 0, none⟩) m d) H k) : q ≠ g := fun e => by
  subst e
  obtain ⟨c1, h1⟩ := heap_of_row h q rfl
  obtain ⟨c2, h2⟩ := heap_of_row h' q rfl
  rw [h1] at h2
  injection h2 with h2
  injection h2 with _ h2
  exact absurd h2 (by decide)
theorem fown_of {base n : Nat} {w : World} {v : Value} {G H : Nat → Feat} (hR : FRow base w v H (List.range n)) (hC : Copies base w n G H) (hpos : ∀ i, i < n → 0 < (G i).n) : ∃ a c, v = .slice a n c ∧ n ≤ c ∧ FOwn w base w.heap.size a n G H := by
  rcases hR.at with ⟨hv, hl⟩ | ⟨g, c, hv, hg, hgl, hc, hT, hF⟩
  · have hn0 : n = 0 := by simpa using congrArg List.length hl
    subst hn0
    exact ⟨none, 0, hv, Nat.le_refl _, .inl rfl, fun i hi => by omega, .inl rfl⟩
  · rw [List.length_range] at hv hc hT hF
    subst hv
    have hq : ∀ j, ∃ q, j < n → (H j).a = some ⟨q, 0, none⟩ ∧ base ≤ q ∧ q < w.heap.size ∧ q ≠ g ∧ PtsAt w q 0 (G j).n (G j).X (G j).Y ∧ There w q ((G j).n * 2) := fun j => by
      by_cases hj : j < n
      · obtain ⟨s1, r1⟩ := hC.1 j hj
        have hnn : (H j).n = (G j).n := s1.2.2.2.2.1
        rw [hnn] at r1
        obtain ⟨q, q1, q2, q3, q4, q5⟩ := r1.atP (hpos j hj)
        rw [q1] at r1
        exact ⟨q, fun _ => ⟨q1, q2, q3, row_neM r1 hR, q4, q5⟩⟩
      · exact ⟨0, fun h => absurd h hj⟩
    obtain ⟨q, hq⟩ := Classical.skolem.1 hq
    have hgd : ∀ i, i < n → (List.range n).getD i 0 = i := fun i hi => by simp [List.getD_eq_getElem?_getD, hi]
    have hFA : ∀ i, i < n → FeatAt w g (i * 7) (H i).id (H i).la (H i).ki (H i).wi (.slice (H i).a (H i).n (H i).cap) (H i).lab (H i).pr := fun i hi => by
      have := hF i hi
      rw [hgd i hi] at this
      exact this
    refine ⟨_, c, rfl, hc, .inr ⟨g, 0, rfl, hgl, fun i hi => ⟨?_, ?_⟩⟩, fun i hi => ⟨(hC.1 i hi).1, ?_⟩, .inr ⟨g, q, rfl, ⟨hg, hgl, Nat.le_refl _⟩, hT, fun i hi => ⟨⟨?_, ?_, ?_⟩, ?_, ?_⟩, fun i j hi hj e => ?_⟩⟩
    · rw [Nat.zero_add]; exact hFA i hi
    · obtain ⟨q1, q2, q3, q4, q5, q6⟩ := hq i hi
      obtain ⟨_, _, _, _, s5, s6, s7, _, _⟩ := (hC.1 i hi).1
      rw [q1, s5, s6, s7]
      exact .inr ⟨_, 0, rfl, q3, q5⟩
    · obtain ⟨a', c', hv', hc', _⟩ := (hC.1 i hi).2.own
      have hl' : (ptsOf (G i).X (G i).Y (List.range (G i).n)).length = (G i).n := by simp [ptsOf]
      injection hv' with _ _ e3
      rw [hl'] at hc'
      rw [e3, (hC.1 i hi).1.2.2.2.2.1]
      exact hc'
    · exact (hq i hi).2.1
    · exact (hq i hi).2.2.1
    · exact (hq i hi).2.2.2.1
    · obtain ⟨_, _, _, _, s5, _⟩ := (hC.1 i hi).1
      show There w (q i) ((H i).n * 2)
      rw [s5]; exact (hq i hi).2.2.2.2.2
    · rw [(hFA i hi).2.2.2.2.1, (hq i hi).1]
    · exact hC.2 i j hi hj (by rw [(hq i hi).1, (hq j hj).1, e])
theorem FOwn.below {w w' : World} {lo hi : Nat} {a : Option Addr} {n : Nat} {G T : Nat → Feat} (h : FOwn w lo hi a n G T) (hb : Below w.heap.size w w') : FOwn w' lo w'.heap.size a n G T := by
  obtain ⟨h1, h2, h3⟩ := h
  refine ⟨h1.below hb, h2, h3.imp id (fun ⟨g, q, e, ho⟩ => ⟨g, q, e, ?_⟩)⟩
  obtain ⟨⟨o1, o2, o3⟩, o4, o5, o6⟩ := ho.below hb
  exact ⟨⟨o1, Nat.lt_of_lt_of_le o2 o3, Nat.le_refl _⟩, o4, fun i hi => ⟨⟨(o5 i hi).1.1, Nat.lt_of_lt_of_le (o5 i hi).1.2.1 o3, (o5 i hi).1.2.2⟩, (o5 i hi).2⟩, o6⟩
theorem FOwn.mid {w w' : World} {lo lo' l h' : Nat} {a : Option Addr} {n : Nat} {G T : Nat → Feat} (h : FOwn w lo w.heap.size a n G T) (hM : MidB l h' w w') (hh : h' ≤ lo) (hl : lo' ≤ lo) : FOwn w' lo' w'.heap.size a n G T := by
  obtain ⟨h1, h2, h3⟩ := h
  rcases h3 with h0 | ⟨g, q, e, ho⟩
  · exact ⟨.inl h0, h2, .inl h0⟩
  · obtain ⟨⟨o1, o2, o3⟩, o4, o5, o6⟩ := ho
    have hsz := hM.size
    refine ⟨?_, h2, .inr ⟨g, q, e, ⟨by omega, by omega, Nat.le_refl _⟩, hM.there o4 (.inr (by omega)), fun i hi => ?_, o6⟩⟩
    · rcases h1 with h0 | ⟨b, off, e', hb, hf⟩
      · exact .inl h0
      · rw [e] at e'
        injection e' with e'
        injection e' with e1 e2
        subst e1 e2
        refine .inr ⟨g, 0, e, by omega, fun i hi => ?_⟩
        obtain ⟨⟨f0, f1, f2, f3, f4, f5, f6⟩, hp⟩ := hf i hi
        obtain ⟨⟨q1, q2, _⟩, q4, q5⟩ := o5 i hi
        refine ⟨⟨hM.cell f0 (.inr (by omega)), hM.cell f1 (.inr (by omega)), hM.cell f2 (.inr (by omega)), hM.cell f3 (.inr (by omega)), hM.cell f4 (.inr (by omega)), hM.cell f5 (.inr (by omega)), hM.cell f6 (.inr (by omega))⟩, ?_⟩
        have e4 : (T i).a = some ⟨q i, 0, none⟩ := by
          simp only [Nat.zero_add] at f4
          rw [q5] at f4
          injection f4 with f4
          injection f4 with f4
          exact f4.symm
        rcases hp with h0 | ⟨pb, po, ep, hpl, hpt⟩
        · exact .inl h0
        · rw [e4] at ep
          injection ep with ep
          injection ep with p1 p2
          subst p1 p2
          exact .inr ⟨q i, 0, e4, by omega, fun j hj => ⟨hM.cell (hpt j hj).1 (.inr (by omega)), hM.cell (hpt j hj).2 (.inr (by omega))⟩⟩
    · obtain ⟨⟨q1, q2, q3⟩, q4, q5⟩ := o5 i hi
      exact ⟨⟨by omega, by omega, q3⟩, hM.there q4 (.inr (by omega)), hM.cell q5 (.inr (by omega))⟩
theorem _root_.Go.World.ownsRow.midK {w w' : World} {base l h' s n : Nat} {t : TypeId} {v : Value} {xs : List Value} (h : w.ownsRow base t s v n xs) (hM : MidB l h' w w') (hh : h' ≤ base) : w'.ownsRow base t s v n xs := by
  obtain ⟨h1, h2 | ⟨g, cp, cur, hv, hg, hb, h3⟩⟩ := h
  · exact ⟨h1, .inl h2⟩
  · refine ⟨h1, .inr ⟨g, cp, cur, hv, hg, ?_, h3⟩⟩
    exact (hM.block g (Array.getElem?_eq_some_iff.1 hb).1 (.inr (by omega))).trans hb
set_option maxHeartbeats 1000000 in
theorem cloneI_any (b off n cap : Nat) (Z : Nat → Int) (w : World) (hp : NsAt w b off n Z) (hbl : b < w.heap.size) (hn : n ≤ 1048576) :
    Calls Tryz.prog 107 #[.slice (some ⟨b, off, none⟩) n cap] w fun e w' => ∃ a c, e = .returned (.slice a n c) ∧ w'.ownsRow w.heap.size 2 1 (.slice a n c) n ((List.range n).map (fun i => .int .i64 (Z i))) ∧ Below w.heap.size w w' := by
  obtain ⟨i0, hi, hz0, hz1, hz2⟩ := info_parts info_n64
  have HP : Hid (NsAt w b off n Z) := hp
  clear hp
  have hnl : ∀ w, Sem.run Tryz.prog (binOp BinOp.eql 66 (.slice (some ⟨b, off, none⟩) n cap) (.slice none 0 0)) w = .ok (.bool false) w := fun _ => by kernel_rfl
  go_enter Tryz.func107, Tryz.ntmps107
  go_wp2_with (first
    | (at_builtin; go_must (refine wpList_append_own _ rfl _ _ 66 rfl w.heap.size 2 i0 (.int .i64 0) 1 8 Tryz.underlying66 hi hz0 hz1 hz2 rfl (by decide) (.slice (some ⟨w.heap.size, 0, none⟩) 0 0) 0 [] rfl (World.ownsRow_lit (base := w.heap.size) w #[] 0 (Nat.le_refl _) (Nat.zero_le _) rfl) ⟨b, off, none⟩ n cap ((List.range n).map (fun i => .int .i64 (Z i))) rfl ?c0 ?c1 ?c2 ?c3 ?c4 ?c5 ?_)))
  case c0 => simp
  case c1 =>
    intro q u hq
    rw [List.getElem?_map] at hq
    have hqn : q < n := by
      rcases Nat.lt_or_ge q n with h | h
      · exact h
      · rw [List.getElem?_eq_none (by simpa using h)] at hq; cases hq
    have h1 := (HP.out.below (by (repeat (first | exact Below.refl _ _ | assumption | refine Below.drew ?_ | refine bl_alloc ?_ _ | refine bl_then ?_ (by assumption) | refine Below.setCell ?_ (by first | omega | (simp; done) | (simp; omega)) _ | refine bl_store ?_ ?_ _ _)) : Below w.heap.size w (w.alloc (.cells #[] 2))) hbl) q hqn
    simp [hqn] at hq
    subst hq
    by_cases hq0 : q = 0
    · subst hq0; simpa [Addr.add] using h1
    · simpa [Addr.add, hq0] using h1
  case c2 => intro u hu; simp at hu; obtain ⟨i, _, rfl⟩ := hu; rfl
  case c3 => unfold maxLen; omega
  case c4 => omega
  case c5 => first | omega | (simp; done) | (simp; omega)
  intro v' w2 hown' hgrow hnil
  clear hnil
  obtain ⟨a, c, hv⟩ : ∃ a c, v' = .slice a n c := by
    obtain ⟨_, h2 | ⟨g, cp, cur, hv, _⟩⟩ := hown'
    · exact ⟨none, 0, by have e := h2.2; have e2 : n = 0 := by omega
                         subst e2; exact h2.1⟩
    · exact ⟨_, cp, by rw [hv]⟩
  have HB2 : Hid (Below w.heap.size w w2) := ((Below.refl _ _).alloc (Nat.le_refl _) _).trans ((Below.refl _ _).grown hgrow (by simp) (fun k hk => by simp [Value.ownBlock] at hk; omega))
  subst hv
  have HOWN : Hid (w2.ownsRow w.heap.size 2 1 (.slice a n c) n ((List.range n).map (fun i => .int .i64 (Z i)))) := by
    show World.ownsRow _ _ _ _ _ _ _
    simpa using hown'
  clear hown' hgrow
  go_wp2
  go_ret
  exact ⟨a, c, rfl, HOWN.out, HB2.out⟩
theorem FOwn.keep {w w' : World} {lo hi : Nat} {a : Option Addr} {n : Nat} {G T : Nat → Feat} (h : FOwn w lo hi a n G T) (hb : Below w.heap.size w w') : FOwn w' lo hi a n G T := by
  obtain ⟨h1, h2, h3⟩ := h
  exact ⟨h1.below hb, h2, h3.imp id (fun ⟨g, q, e, ho⟩ => ⟨g, q, e, ho.below hb⟩)⟩
theorem FOwn.mid' {w w' : World} {lo hi l h' : Nat} {a : Option Addr} {n : Nat} {G T : Nat → Feat} (h : FOwn w lo hi a n G T) (hM : MidB l h' w w') (hh : h' ≤ lo) : FOwn w' lo hi a n G T := by
  obtain ⟨h1, h2, h3⟩ := h
  rcases h3 with h0 | ⟨g, q, e, ho⟩
  · exact ⟨.inl h0, h2, .inl h0⟩
  · obtain ⟨⟨o1, o2, o3⟩, o4, o5, o6⟩ := ho
    have hsz := hM.size
    refine ⟨?_, h2, .inr ⟨g, q, e, ⟨o1, o2, by omega⟩, hM.there o4 (.inr (by omega)), fun i hi => ?_, o6⟩⟩
    · rcases h1 with h0 | ⟨b, off, e', hb, hf⟩
      · exact .inl h0
      · rw [e] at e'
        injection e' with e'
        injection e' with e1 e2
        subst e1 e2
        refine .inr ⟨g, 0, e, by omega, fun i hi => ?_⟩
        obtain ⟨⟨f0, f1, f2, f3, f4, f5, f6⟩, hp⟩ := hf i hi
        obtain ⟨⟨q1, q2, _⟩, q4, q5⟩ := o5 i hi
        refine ⟨⟨hM.cell f0 (.inr (by omega)), hM.cell f1 (.inr (by omega)), hM.cell f2 (.inr (by omega)), hM.cell f3 (.inr (by omega)), hM.cell f4 (.inr (by omega)), hM.cell f5 (.inr (by omega)), hM.cell f6 (.inr (by omega))⟩, ?_⟩
        have e4 : (T i).a = some ⟨q i, 0, none⟩ := by
          simp only [Nat.zero_add] at f4
          rw [q5] at f4
          injection f4 with f4
          injection f4 with f4
          exact f4.symm
        rcases hp with h0 | ⟨pb, po, ep, hpl, hpt⟩
        · exact .inl h0
        · rw [e4] at ep
          injection ep with ep
          injection ep with p1 p2
          subst p1 p2
          exact .inr ⟨q i, 0, e4, by omega, fun j hj => ⟨hM.cell (hpt j hj).1 (.inr (by omega)), hM.cell (hpt j hj).2 (.inr (by omega))⟩⟩
    · obtain ⟨⟨q1, q2, q3⟩, q4, q5⟩ := o5 i hi
      exact ⟨⟨q1, q2, q3⟩, hM.there q4 (.inr (by omega)), hM.cell q5 (.inr (by omega))⟩
theorem FOwn.wide {w : World} {lo lo' hi : Nat} {a : Option Addr} {n : Nat} {G T : Nat → Feat} (h : FOwn w lo hi a n G T) (hl : lo' ≤ lo) : FOwn w lo' hi a n G T := by
  obtain ⟨h1, h2, h3⟩ := h
  refine ⟨h1, h2, h3.imp id (fun ⟨g, q, e, ⟨o1, o2, o3⟩, o4, o5, o6⟩ => ⟨g, q, e, ⟨Nat.le_trans hl o1, o2, o3⟩, o4, fun i hi => ⟨⟨Nat.le_trans hl (o5 i hi).1.1, (o5 i hi).1.2⟩, (o5 i hi).2⟩, o6⟩)⟩
/-- A kept tile of its own: the same as another, in blocks from lo on. -/
def KpNew (w : World) (lo : Nat) (k r : Kp) : Prop :=
  (r.z = k.z ∧ r.x = k.x ∧ r.y = k.y) ∧ r.fn = k.fn ∧ r.m = k.m ∧ r.I = k.I ∧ ∃ md, lo ≤ md ∧ md ≤ w.heap.size ∧ FOwn w lo md r.fa k.fn k.F r.F ∧ w.ownsRow md 2 1 (.slice r.ia k.m r.ic) k.m ((List.range k.m).map (fun i => .int .i64 (k.I i)))
/-- The five cells that a copy reads. -/
def CkS (W : World) (q : Nat) (k : Kp) : Prop := W.cell? ⟨q, 0, none⟩ = some (.int .i64 k.z) ∧ W.cell? ⟨q, 1, none⟩ = some (.int .i64 k.x) ∧ W.cell? ⟨q, 2, none⟩ = some (.int .i64 k.y) ∧ W.cell? ⟨q, 3, none⟩ = some (.slice k.fa k.fn k.fc) ∧ W.cell? ⟨q, 4, none⟩ = some (.slice k.ia k.m k.ic)
theorem CkS.below {w w' : World} {q : Nat} {k : Kp} (h : CkS w q k) (hb : Below w.heap.size w w') : CkS w' q k :=
  have hl := World.block_lt_of_cell? _ _ h.1
  ⟨(hb.cell (p := ⟨q, 0, none⟩) hl).trans h.1, (hb.cell (p := ⟨q, 1, none⟩) hl).trans h.2.1, (hb.cell (p := ⟨q, 2, none⟩) hl).trans h.2.2.1, (hb.cell (p := ⟨q, 3, none⟩) hl).trans h.2.2.2.1, (hb.cell (p := ⟨q, 4, none⟩) hl).trans h.2.2.2.2⟩
theorem resCK {T : Array Value} {Wf : World} {r : Nat} {z x y : Int} {u v : Value} (hT : T[2]?.getD undef = .pointer (some ⟨r, 0, none⟩)) (h0 : Wf.cell? ⟨r, 0, none⟩ = some (.int .i64 z)) (h1 : Wf.cell? ⟨r, 1, none⟩ = some (.int .i64 x)) (h2 : Wf.cell? ⟨r, 2, none⟩ = some (.int .i64 y)) (h3 : Wf.cell? ⟨r, 3, none⟩ = some u) (h4 : Wf.cell? ⟨r, 4, none⟩ = some v) :
    (results Tryz.f70 T).run Tryz.prog Wf = .ok (.agg #[.int .i64 z, .int .i64 x, .int .i64 y, u, v]) Wf := by
  simp [results, Tryz.results70, go_sem, hT, h0, h1, h2, h3, h4]
set_option maxHeartbeats 4000000 in
theorem copyKept_any (k : Kp) (fb ib io : Nat) (w : World) (hf : k.fa = some ⟨fb, 0, none⟩) (hft : FsAt w fb 0 k.fn k.F) (hfl : fb < w.heap.size) (hn : k.fn ≤ 12) (hpos : ∀ i, i < k.fn → 0 < (k.F i).n) (hs : SmallK k) (hi : k.ia = some ⟨ib, io, none⟩) (hin : NsAt w ib io k.m k.I) (hil : ib < w.heap.size) :
    Calls Tryz.prog 70 #[kpV k] w fun e w' => ∃ r, e = .returned (kpV r) ∧ KpNew w' w.heap.size k r ∧ Below w.heap.size w w' := by
  have HCf : Hid (∀ W, Below w.heap.size w W → Calls Tryz.prog 106 #[.slice k.fa k.fn k.fc] W fun e w' => ∃ a c H, e = .returned (.slice a k.fn c) ∧ FOwn w' W.heap.size w'.heap.size a k.fn k.F H ∧ Below W.heap.size W w') := fun W h => by
    rw [hf]
    refine (copyFeatures_any fb k.fn k.fc k.F W (hft.below h hfl) (Nat.lt_of_lt_of_le hfl h.size) hn hpos hs.1).mono ?_
    rintro e w' ⟨v, H, rfl, h1, h2, h3⟩
    obtain ⟨a, c, rfl, _, h4⟩ := fown_of h1 h2 hpos
    exact ⟨a, c, H, rfl, h4, h3⟩
  have HCl : Hid (∀ W, Below w.heap.size w W → Calls Tryz.prog 107 #[.slice k.ia k.m k.ic] W fun e w' => ∃ a c, e = .returned (.slice a k.m c) ∧ w'.ownsRow W.heap.size 2 1 (.slice a k.m c) k.m ((List.range k.m).map (fun i => .int .i64 (k.I i))) ∧ Below W.heap.size W w') := fun W h => by
    rw [hi]
    exact cloneI_any ib io k.m k.ic k.I W (hin.below h hil) (Nat.lt_of_lt_of_le hil h.size) hs.2
  clear hf hft hfl hn hpos hs hi hin hil
  go_enter Tryz.func70, Tryz.ntmps70
  go_wp2_with fail
  generalize hW : ((w.alloc _).alloc _ : World) = W
  have HB0 : Hid (Below w.heap.size w W) := by show Below _ _ _; subst hW; (repeat (first | exact Below.refl _ _ | assumption | refine Below.drew ?_ | refine bl_alloc ?_ _ | refine bl_then ?_ (by assumption) | refine Below.setCell ?_ (by first | omega | (simp; done) | (simp; omega)) _ | refine bl_store ?_ ?_ _ _))
  have HS : Hid (CkS W w.heap.size k) := by show CkS _ _ _; subst hW; refine ⟨?_, ?_, ?_, ?_, ?_⟩ <;> simp [go_sem]
  have HT : Hid (There W (w.heap.size + 1) 5) := by
    show There _ _ _
    subst hW
    have := there5k (w.alloc (.cells #[.int .i64 k.z, .int .i64 k.x, .int .i64 k.y, .slice k.fa k.fn k.fc, .slice k.ia k.m k.ic] 72)) (.int .i64 0) (.int .i64 0) (.int .i64 0) (.slice none 0 0) (.slice none 0 0) 72
    simpa using this
  have hsz : w.heap.size + 1 < W.heap.size := by subst hW; simp
  clear hW
  refine wp_region_noPanic ?_
  refine wp_region_held_drew (S := fun W' => CkS W' w.heap.size k) (by kernel_rfl) HS.out (fun hHeld => ?_)
  have hSd : CkS W.drew w.heap.size k := HS.out
  refine takeD (i := 0) (d := some 3) (v := ?va0) rfl rfl (by kernel_rfl) (by kernel_rfl) (by kernel_rfl) (fun _ _ _ h => h) (Or.inl ⟨by rfl, ?hya0⟩) (by assumption) ?_
  case hya0 => (intro w hSw; obtain ⟨k0, k1, k2, k3, k4⟩ := (show CkS w _ k from hSw); go_simp <;> with_reducible rfl)
  try simp only [Act.put, List.setIfInBounds_toArray, List.set_cons_zero, List.set_cons_succ]
  refine takeD (i := 1) (d := some 4) (v := ?va1) rfl rfl (by kernel_rfl) (by kernel_rfl) (by kernel_rfl) (fun _ _ _ h => h) (Or.inl ⟨by rfl, ?hya1⟩) (by assumption) ?_
  case hya1 => (intro w hSw; obtain ⟨k0, k1, k2, k3, k4⟩ := (show CkS w _ k from hSw); go_simp <;> with_reducible rfl)
  try simp only [Act.put, List.setIfInBounds_toArray, List.set_cons_zero, List.set_cons_succ]
  refine takeD (i := 2) (d := some 5) (v := ?va2) rfl rfl (by kernel_rfl) (by kernel_rfl) (by kernel_rfl) (fun _ _ _ h => h) (Or.inl ⟨by rfl, ?hya2⟩) (by assumption) ?_
  case hya2 => (intro w hSw; obtain ⟨k0, k1, k2, k3, k4⟩ := (show CkS w _ k from hSw); go_simp <;> with_reducible rfl)
  try simp only [Act.put, List.setIfInBounds_toArray, List.set_cons_zero, List.set_cons_succ]
  refine takeD (i := 3) (d := some 6) (v := ?va3) rfl rfl (by kernel_rfl) (by kernel_rfl) (by kernel_rfl) (fun _ _ _ h => h) (Or.inl ⟨by rfl, ?hya3⟩) (by assumption) ?_
  case hya3 => (intro w hSw; obtain ⟨k0, k1, k2, k3, k4⟩ := (show CkS w _ k from hSw); go_simp <;> with_reducible rfl)
  try simp only [Act.put, List.setIfInBounds_toArray, List.set_cons_zero, List.set_cons_succ]
  refine takeD (i := 4) (d := some 7) (v := ?va4) rfl rfl (by kernel_rfl) (by kernel_rfl) (by kernel_rfl) (fun _ _ _ h => h) (Or.inl ⟨by rfl, ?hya4⟩) (by assumption) ?_
  case hya4 => (intro w hSw; obtain ⟨k0, k1, k2, k3, k4⟩ := (show CkS w _ k from hSw); go_simp <;> with_reducible rfl)
  try simp only [Act.put, List.setIfInBounds_toArray, List.set_cons_zero, List.set_cons_succ]
  refine takeD (i := 5) (d := some 8) (v := ?va5) rfl rfl (by kernel_rfl) (by kernel_rfl) (by kernel_rfl) (fun _ _ _ h => h) (Or.inl ⟨by rfl, ?hya5⟩) (by assumption) ?_
  case hya5 => (intro w hSw; obtain ⟨k0, k1, k2, k3, k4⟩ := (show CkS w _ k from hSw); go_simp <;> with_reducible rfl)
  try simp only [Act.put, List.setIfInBounds_toArray, List.set_cons_zero, List.set_cons_succ]
  refine takeD (i := 8) (d := some 11) (v := ?va8) rfl rfl (by kernel_rfl) (by kernel_rfl) (by kernel_rfl) (fun _ _ _ h => h) (Or.inl ⟨by rfl, ?hya8⟩) (by assumption) ?_
  case hya8 => (intro w hSw; obtain ⟨k0, k1, k2, k3, k4⟩ := (show CkS w _ k from hSw); go_simp <;> with_reducible rfl)
  try simp only [Act.put, List.setIfInBounds_toArray, List.set_cons_zero, List.set_cons_succ]
  refine takeD (i := 9) (d := some 12) (v := ?va9) rfl rfl (by kernel_rfl) (by kernel_rfl) (by kernel_rfl) (fun _ _ _ h => h) (Or.inl ⟨by rfl, ?hya9⟩) (by assumption) ?_
  case hya9 => (intro w hSw; obtain ⟨k0, k1, k2, k3, k4⟩ := (show CkS w _ k from hSw); go_simp <;> with_reducible rfl)
  try simp only [Act.put, List.setIfInBounds_toArray, List.set_cons_zero, List.set_cons_succ]
  have hD0 : Below W.heap.size W W.drew := by have := Below.refl W.heap.size W; (repeat (first | exact Below.refl _ _ | assumption | refine Below.drew ?_ | refine bl_alloc ?_ _ | refine bl_then ?_ (by assumption) | refine Below.setCell ?_ (by first | omega | (simp; done) | (simp; omega)) _ | refine bl_store ?_ ?_ _ _))
  generalize W.drew = wk0 at *
  refine wpAnyH_ready (rs := [6]) (by kernel_rfl) (by simp) ?_
  refine (AllReadyH.cons rfl (fun K hK => ?_) AllReadyH.nil)
  rw [if_pos (by rfl)]
  go_simp
  refine Calls.mono (HCf.out _ (bl_then HB0.out hD0)) ?_
  rintro e wk1 ⟨ra, rc, RF, rfl, hF1, hb1⟩
  have hS1 : CkS wk1 w.heap.size k := hSd.below hb1
  have HD1 : Hid (Below W.heap.size W wk1) := bl_then hD0 hb1
  have HF1 : Hid (FOwn wk1 wk0.heap.size wk1.heap.size ra k.fn k.F RF) := hF1
  have hz0 := hD0.size
  clear hF1 hSd
  go_wp2_with fail
  refine hK.out _ _ (by assumption) (fun hHeld => ?_)
  clear hK K
  try simp only [Act.put, List.setIfInBounds_toArray, List.set_cons_zero, List.set_cons_succ]
  refine takeD (i := 7) (d := some 10) (v := ?vb7) rfl rfl (by kernel_rfl) (by kernel_rfl) (by kernel_rfl) (fun _ _ _ h => h) (Or.inl ⟨by rfl, ?hyb7⟩) (by assumption) ?_
  case hyb7 => (intro w hSw; skip; go_simp <;> with_reducible rfl)
  try simp only [Act.put, List.setIfInBounds_toArray, List.set_cons_zero, List.set_cons_succ]
  refine wpAnyH_ready (rs := [10]) (by kernel_rfl) (by simp) ?_
  refine (AllReadyH.cons rfl (fun K hK => ?_) AllReadyH.nil)
  rw [if_pos (by rfl)]
  go_simp
  refine Calls.mono (HCl.out _ (bl_then HB0.out HD1.out)) ?_
  rintro e wk2 ⟨na, nc, rfl, hN2, hb2⟩
  have hS2 : CkS wk2 w.heap.size k := hS1.below hb2
  have HD2 : Hid (Below W.heap.size W wk2) := bl_then HD1.out hb2
  have HF2 : Hid (FOwn wk2 wk0.heap.size wk1.heap.size ra k.fn k.F RF) := HF1.out.keep hb2
  have hz2 := hb2.size
  have HN2 : Hid (wk2.ownsRow wk1.heap.size 2 1 (.slice na k.m nc) k.m ((List.range k.m).map (fun i => .int .i64 (k.I i)))) := hN2
  have hz1 := hb1.size
  clear hN2 hS1 HF1
  go_wp2_with fail
  refine hK.out _ _ (by assumption) (fun hHeld => ?_)
  clear hK K
  try simp only [Act.put, List.setIfInBounds_toArray, List.set_cons_zero, List.set_cons_succ]
  refine takeD (i := 11) (d := some 14) (v := ?vc11) rfl rfl (by kernel_rfl) (by kernel_rfl) (by kernel_rfl) (fun _ _ _ h => h) (Or.inl ⟨by rfl, ?hyc11⟩) (by assumption) ?_
  case hyc11 => (intro w hSw; skip; go_simp <;> with_reducible rfl)
  try simp only [Act.put, List.setIfInBounds_toArray, List.set_cons_zero, List.set_cons_succ]
  have hT2 := HT.out.below HD2.out
  have HT2 : Hid (There wk2 (w.heap.size + 1) 5) := hT2
  have t0 := hT2.cell 0 (by omega)
  have t1 := hT2.cell 1 (by omega)
  have t2 := hT2.cell 2 (by omega)
  have t3 := hT2.cell 3 (by omega)
  have t4 := hT2.cell 4 (by omega)
  have f0 := (hT2 0 (by omega)).2
  have f1 := (hT2 1 (by omega)).2
  have f2 := (hT2 2 (by omega)).2
  have f3 := (hT2 3 (by omega)).2
  have f4 := (hT2 4 (by omega)).2
  refine wpAnyH_ready (rs := [12]) (by kernel_rfl) (by simp) ?_
  refine (AllReadyH.cons rfl (fun K hK => ?_) AllReadyH.nil)
  rw [if_pos (by rfl)]
  go_simp
  generalize hwF : (World.setCell _ _ _ : World) = wF
  have HL : Hid (wF = layK wk2 (w.heap.size + 1) 0 ⟨k.z, k.x, k.y, ra, k.fn, rc, RF, na, k.m, nc, k.I⟩) := by show _ = _; subst hwF; rfl
  have hM : MidB (w.heap.size + 1) (w.heap.size + 1 + 1) wk2 wF := by rw [HL.out]; exact layK_mid _ _ _ _
  have hSF : CkS wF w.heap.size k := by
    obtain ⟨a0, a1, a2, a3, a4⟩ := hS2
    exact ⟨hM.cell a0 (.inl (by omega)), hM.cell a1 (.inl (by omega)), hM.cell a2 (.inl (by omega)), hM.cell a3 (.inl (by omega)), hM.cell a4 (.inl (by omega))⟩
  refine hK.out _ _ hSF (fun hHeld => ?_)
  clear hK K
  try simp only [Act.put, List.setIfInBounds_toArray, List.set_cons_zero, List.set_cons_succ]
  refine wpAnyH_done (by kernel_rfl) ?_ _
  refine NoPanic.normal ?_
  have hAt : KpAt wF (w.heap.size + 1) 0 ⟨k.z, k.x, k.y, ra, k.fn, rc, RF, na, k.m, nc, k.I⟩ := by rw [HL.out]; exact layK_at HT2.out (by omega)
  obtain ⟨q0, q1, q2, q3, q4⟩ := hAt
  simp only [Nat.zero_add] at q0 q1 q2 q3 q4
  have HQ : Hid (wF.cell? ⟨w.heap.size + 1, 0, none⟩ = some (.int .i64 k.z) ∧ wF.cell? ⟨w.heap.size + 1, 1, none⟩ = some (.int .i64 k.x) ∧ wF.cell? ⟨w.heap.size + 1, 2, none⟩ = some (.int .i64 k.y) ∧ wF.cell? ⟨w.heap.size + 1, 3, none⟩ = some (.slice ra k.fn rc) ∧ wF.cell? ⟨w.heap.size + 1, 4, none⟩ = some (.slice na k.m nc)) := ⟨q0, q1, q2, q3, q4⟩
  have hs2 := HD2.out.size
  have HFin : Hid (KpNew wF w.heap.size k ⟨k.z, k.x, k.y, ra, k.fn, rc, RF, na, k.m, nc, k.I⟩ ∧ Below w.heap.size w wF) := by
    have hszF := hM.size
    refine ⟨⟨⟨rfl, rfl, rfl⟩, rfl, rfl, rfl, wk1.heap.size, by omega, by omega, (HF2.out.mid' hM (by omega)).wide (by omega), ?_⟩, (bl_then HB0.out HD2.out).trans (hM.below (by omega) |>.mono (by omega))⟩
    exact HN2.out.midK hM (by omega)
  clear hwF HL hM hSF q0 q1 q2 q3 q4 hS2 hT2 HT2
  clear t0 f0
  clear t1 f1
  clear t2 f2
  clear t3 f3
  clear t4 f4
  go_wp2_with fail
  refine bodyPost_ret (resCK rfl HQ.out.1 HQ.out.2.1 HQ.out.2.2.1 HQ.out.2.2.2.1 HQ.out.2.2.2.2) rfl ⟨_, rfl, HFin.out⟩
end Go.Proofs.YtciidkmonfmipaaGreat
