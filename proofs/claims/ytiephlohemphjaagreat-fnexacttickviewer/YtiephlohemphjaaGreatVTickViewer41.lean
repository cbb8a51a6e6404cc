/- Texts. -/
import Derived.Test.YtiephlohemphjaaGreatVTickViewer40
import Derived.Laws.AppendOwnNone
import Derived.Test.YtiephlohemphjaaGreatVTickViewer2
set_option linter.unusedSimpArgs false
set_option linter.unusedVariables false
set_option maxRecDepth 100000
set_option maxHeartbeats 32000000
namespace Go.Proofs.YtiephlohemphjaaGreat
open Go.RowKit

def Shf (w : World) (B p : Nat) (s t : Int) (L : List Ag) : Prop := ∃ mb D,B ≤ p ∧ B ≤ mb ∧ ShA w p s t mb ∧ There w p 3 ∧ w.ownsMap Tryz.prog 97 RV mb L.length D ∧ Rep D L
theorem Shf.below {w w' : World} {B p : Nat} {s t : Int} {L : List Ag} (h : Shf w B p s t L) (hb : Below w.heap.size w w') : Shf w' B p s t L := by
 obtain ⟨mb,D,h1,h2,h3,h4,h5,h6⟩ := h
 exact ⟨mb,D,h1,h2,h3.below hb,h4.below hb,ownsMap_below h5 hb,h6⟩
theorem ShK.shf {w : World} {B p : Nat} {s : Int} {n : Nat} {A : Nat → Kp} (h : ShK w B p s n A) (h0 : ∀ j,j < n → kC A j = 0) : Shf w B p s (n : Int) (agL A n) := by
 obtain ⟨mb,h1,h2,h3,h4,h5⟩ := h
 exact ⟨mb,shD A n,h1,h2,h3,h4,by rw [agL_len]; exact h5,shD_rep n h0⟩
def ShM (w : World) (p : Nat) (s t : Int) (mb : Nat) (L : List Ag) : Prop := ShA w p s t mb ∧ There w p 3 ∧ ∃ D,w.ownsMap Tryz.prog 97 RV mb L.length D ∧ Rep D L
theorem ShM.f {w : World} {B p mb : Nat} {s t : Int} {L : List Ag} (h : ShM w p s t mb L) (h1 : B ≤ p) (h2 : B ≤ mb) : Shf w B p s t L := by
 obtain ⟨h3,h4,D,h5,h6⟩ := h
 exact ⟨mb,D,h1,h2,h3,h4,h5,h6⟩
theorem Shf_order (B p : Nat) (s t : Int) (L : List Ag) (w : World) (h : Shf w B p s t L) (hL : L.length ≤ 100) :
  Calls Tryz.prog 127 #[.pointer (some ⟨p,0,none⟩)] w fun e w' => ∃ v,e = .returned v ∧ KRow w.heap.size w' v L ∧ Below w.heap.size w w' := by
 obtain ⟨mb,D,h1,h2,h3,h4,h5,h6⟩ := h
 exact inOrder_any p mb L.length s t D L w h3 h5 h6 (by omega) (by rw [h6.size]; omega)
def FOwn (w : World) (lo hi : Nat) (a : Option Addr) (n : Nat) (G T : Nat → Feat) : Prop :=
  IsFs w a n T ∧ (∀ i, i < n → (T i).same (G i) ∧ (T i).n ≤ (T i).cap) ∧ (n = 0 ∨ ∃ g q, a = some ⟨g, 0, none⟩ ∧ OwnQ w lo hi g n (fun i => (T i).n) (fun i => (T i).cap) q)
theorem row_neM {base base' : Nat} {w : World} {q g n m c d : Nat} {l : List (Int × Int)} {H : Nat → Feat} {k : List Nat} (h : Row base w (.slice (some ⟨q, 0, none⟩) n c) l) (h' : FRow base' w (.slice (some ⟨g, 0, none⟩) m d) H k) : q ≠ g := fun e => by
  subst e
  obtain ⟨c1, h1⟩ := heap_of_row h q rfl
  obtain ⟨c2, h2⟩ := heap_of_row h' q rfl
  rw [h1] at h2
  injection h2 with h2
  injection h2 with _ h2
  exact absurd h2 (by decide)
theorem fown_of {base n : Nat} {w : World} {v : Value} {G H : Nat → Feat} (hR : FRow base w v H (List.range n)) (hC : Copies base w n G H) (hpos : ∀ i, i < n → 0 < (G i).n) : ∃ a c, v = .slice a n c ∧ n ≤ c ∧ FOwn w base w.heap.size a n G H := by
  rcases hR.at with ⟨hv, hl⟩ | ⟨g, c, hv, hg, hgl, hc, hT, hF⟩
  · have hn0 : n = 0 := by simpa using congrArg List.length hl
    subst hn0
    exact ⟨none, 0, hv, Nat.le_refl _, .inl rfl, fun i hi => by omega, .inl rfl⟩
  · rw [List.length_range] at hv hc hT hF
    subst hv
    have hq : ∀ j, ∃ q, j < n → (H j).a = some ⟨q, 0, none⟩ ∧ base ≤ q ∧ q < w.heap.size ∧ q ≠ g ∧ PtsAt w q 0 (G j).n (G j).X (G j).Y ∧ There w q ((G j).n * 2) := fun j => by
      by_cases hj : j < n
      · obtain ⟨s1, r1⟩ := hC.1 j hj
        have hnn : (H j).n = (G j).n := s1.2.2.2.2.1
        rw [hnn] at r1
        obtain ⟨q, q1, q2, q3, q4, q5⟩ := r1.atP (hpos j hj)
        rw [q1] at r1
        exact ⟨q, fun _ => ⟨q1, q2, q3, row_neM r1 hR, q4, q5⟩⟩
      · exact ⟨0, fun h => absurd h hj⟩
    obtain ⟨q, hq⟩ := Classical.skolem.1 hq
    have hgd : ∀ i, i < n → (List.range n).getD i 0 = i := fun i hi => by simp [List.getD_eq_getElem?_getD, hi]
    have hFA : ∀ i, i < n → FeatAt w g (i * 7) (H i).id (H i).la (H i).ki (H i).wi (.slice (H i).a (H i).n (H i).cap) (H i).lab (H i).pr := fun i hi => by
      have := hF i hi
      rw [hgd i hi] at this
      exact this
    refine ⟨_, c, rfl, hc, .inr ⟨g, 0, rfl, hgl, fun i hi => ⟨?_, ?_⟩⟩, fun i hi => ⟨(hC.1 i hi).1, ?_⟩, .inr ⟨g, q, rfl, ⟨hg, hgl, Nat.le_refl _⟩, hT, fun i hi => ⟨⟨?_, ?_, ?_⟩, ?_, ?_⟩, fun i j hi hj e => ?_⟩⟩
    · rw [Nat.zero_add]; exact hFA i hi
    · obtain ⟨q1, q2, q3, q4, q5, q6⟩ := hq i hi
      obtain ⟨_, _, _, _, s5, s6, s7, _, _⟩ := (hC.1 i hi).1
      rw [q1, s5, s6, s7]
      exact .inr ⟨_, 0, rfl, q3, q5⟩
    · obtain ⟨a', c', hv', hc', _⟩ := (hC.1 i hi).2.own
      have hl' : (ptsOf (G i).X (G i).Y (List.range (G i).n)).length = (G i).n := by simp [ptsOf]
      injection hv' with _ _ e3
      rw [hl'] at hc'
      rw [e3, (hC.1 i hi).1.2.2.2.2.1]
      exact hc'
    · exact (hq i hi).2.1
    · exact (hq i hi).2.2.1
    · exact (hq i hi).2.2.2.1
    · obtain ⟨_, _, _, _, s5, _⟩ := (hC.1 i hi).1
      show There w (q i) ((H i).n * 2)
      rw [s5]; exact (hq i hi).2.2.2.2.2
    · rw [(hFA i hi).2.2.2.2.1, (hq i hi).1]
    · exact hC.2 i j hi hj (by rw [(hq i hi).1, (hq j hj).1, e])
theorem FOwn.below {w w' : World} {lo hi : Nat} {a : Option Addr} {n : Nat} {G T : Nat → Feat} (h : FOwn w lo hi a n G T) (hb : Below w.heap.size w w') : FOwn w' lo w'.heap.size a n G T := by
  obtain ⟨h1, h2, h3⟩ := h
  refine ⟨h1.below hb, h2, h3.imp id (fun ⟨g, q, e, ho⟩ => ⟨g, q, e, ?_⟩)⟩
  obtain ⟨⟨o1, o2, o3⟩, o4, o5, o6⟩ := ho.below hb
  exact ⟨⟨o1, Nat.lt_of_lt_of_le o2 o3, Nat.le_refl _⟩, o4, fun i hi => ⟨⟨(o5 i hi).1.1, Nat.lt_of_lt_of_le (o5 i hi).1.2.1 o3, (o5 i hi).1.2.2⟩, (o5 i hi).2⟩, o6⟩
theorem FOwn.mid {w w' : World} {lo lo' l h' : Nat} {a : Option Addr} {n : Nat} {G T : Nat → Feat} (h : FOwn w lo w.heap.size a n G T) (hM : MidB l h' w w') (hh : h' ≤ lo) (hl : lo' ≤ lo) : FOwn w' lo' w'.heap.size a n G T := by
  obtain ⟨h1, h2, h3⟩ := h
  rcases h3 with h0 | ⟨g, q, e, ho⟩
  · exact ⟨.inl h0, h2, .inl h0⟩
  · obtain ⟨⟨o1, o2, o3⟩, o4, o5, o6⟩ := ho
    have hsz := hM.size
    refine ⟨?_, h2, .inr ⟨g, q, e, ⟨by omega, by omega, Nat.le_refl _⟩, hM.there o4 (.inr (by omega)), fun i hi => ?_, o6⟩⟩
    · rcases h1 with h0 | ⟨b, off, e', hb, hf⟩
      · exact .inl h0
      · rw [e] at e'
        injection e' with e'
        injection e' with e1 e2
        subst e1 e2
        refine .inr ⟨g, 0, e, by omega, fun i hi => ?_⟩
        obtain ⟨⟨f0, f1, f2, f3, f4, f5, f6⟩, hp⟩ := hf i hi
        obtain ⟨⟨q1, q2, _⟩, q4, q5⟩ := o5 i hi
        refine ⟨⟨hM.cell f0 (.inr (by omega)), hM.cell f1 (.inr (by omega)), hM.cell f2 (.inr (by omega)), hM.cell f3 (.inr (by omega)), hM.cell f4 (.inr (by omega)), hM.cell f5 (.inr (by omega)), hM.cell f6 (.inr (by omega))⟩, ?_⟩
        have e4 : (T i).a = some ⟨q i, 0, none⟩ := by
          simp only [Nat.zero_add] at f4
          rw [q5] at f4
          injection f4 with f4
          injection f4 with f4
          exact f4.symm
        rcases hp with h0 | ⟨pb, po, ep, hpl, hpt⟩
        · exact .inl h0
        · rw [e4] at ep
          injection ep with ep
          injection ep with p1 p2
          subst p1 p2
          exact .inr ⟨q i, 0, e4, by omega, fun j hj => ⟨hM.cell (hpt j hj).1 (.inr (by omega)), hM.cell (hpt j hj).2 (.inr (by omega))⟩⟩
    · obtain ⟨⟨q1, q2, q3⟩, q4, q5⟩ := o5 i hi
      exact ⟨⟨by omega, by omega, q3⟩, hM.there q4 (.inr (by omega)), hM.cell q5 (.inr (by omega))⟩
theorem _root_.Go.World.ownsRow.midK {w w' : World} {base l h' s n : Nat} {t : TypeId} {v : Value} {xs : List Value} (h : w.ownsRow base t s v n xs) (hM : MidB l h' w w') (hh : h' ≤ base) : w'.ownsRow base t s v n xs := by
  obtain ⟨h1, h2 | ⟨g, cp, cur, hv, hg, hb, h3⟩⟩ := h
  · exact ⟨h1, .inl h2⟩
  · refine ⟨h1, .inr ⟨g, cp, cur, hv, hg, ?_, h3⟩⟩
    exact (hM.block g (Array.getElem?_eq_some_iff.1 hb).1 (.inr (by omega))).trans hb
theorem cloneI_any (b off n cap : Nat) (Z : Nat → Int) (w : World) (hp : NsAt w b off n Z) (hbl : b < w.heap.size) (hn : n ≤ 1048576) :
    Calls Tryz.prog 163 #[.slice (some ⟨b, off, none⟩) n cap] w fun e w' => ∃ a c, e = .returned (.slice a n c) ∧ w'.ownsRow w.heap.size 2 1 (.slice a n c) n ((List.range n).map (fun i => .int .i64 (Z i))) ∧ Below w.heap.size w w' := by
  obtain ⟨i0, hi, hz0, hz1, hz2⟩ := info_parts info_n64
  have HP : Hid (NsAt w b off n Z) := hp
  clear hp
  have hnl : ∀ w, Sem.run Tryz.prog (binOp BinOp.eql 141 (.slice (some ⟨b, off, none⟩) n cap) (.slice none 0 0)) w = .ok (.bool false) w := fun _ => by kernel_rfl
  go_enter Tryz.func163, Tryz.ntmps163
  go_wp2_with (first
    | (at_builtin; go_must (refine wpList_append_own _ rfl _ _ 141 rfl w.heap.size 2 i0 (.int .i64 0) 1 8 Tryz.underlying141 hi hz0 hz1 hz2 rfl (by decide) (.slice (some ⟨w.heap.size, 0, none⟩) 0 0) 0 [] rfl (World.ownsRow_lit (base := w.heap.size) w #[] 0 (Nat.le_refl _) (Nat.zero_le _) rfl) ⟨b, off, none⟩ n cap ((List.range n).map (fun i => .int .i64 (Z i))) rfl ?c0 ?c1 ?c2 ?c3 ?c4 ?c5 ?_)))
  case c0 => simp
  case c1 =>
    intro q u hq
    rw [List.getElem?_map] at hq
    have hqn : q < n := by
      rcases Nat.lt_or_ge q n with h | h
      · exact h
      · rw [List.getElem?_eq_none (by simpa using h)] at hq; cases hq
    have h1 := (HP.out.below (by exact Qb : Below w.heap.size w (w.alloc (.cells #[] 2))) hbl) q hqn
    simp [hqn] at hq
    subst hq
    by_cases hq0 : q = 0
    · subst hq0; simpa [Addr.add] using h1
    · simpa [Addr.add, hq0] using h1
  case c2 => intro u hu; simp at hu; obtain ⟨i, _, rfl⟩ := hu; rfl
  case c3 => unfold maxLen; omega
  case c4 => omega
  case c5 => first | omega | (simp; done) | (simp; omega)
  intro v' w2 hown' hgrow hnil
  clear hnil
  obtain ⟨a, c, hv⟩ : ∃ a c, v' = .slice a n c := by
    obtain ⟨_, h2 | ⟨g, cp, cur, hv, _⟩⟩ := hown'
    · exact ⟨none, 0, by have e := h2.2; have e2 : n = 0 := by omega
                         subst e2; exact h2.1⟩
    · exact ⟨_, cp, by rw [hv]⟩
  have HB2 : Hid (Below w.heap.size w w2) := ((Below.refl _ _).alloc (Nat.le_refl _) _).trans ((Below.refl _ _).grown hgrow (by simp) (fun k hk => by simp [Value.ownBlock] at hk; omega))
  subst hv
  have HOWN : Hid (w2.ownsRow w.heap.size 2 1 (.slice a n c) n ((List.range n).map (fun i => .int .i64 (Z i)))) := by
    show World.ownsRow _ _ _ _ _ _ _
    simpa using hown'
  clear hown' hgrow
  go_wp2
  go_ret
  exact ⟨a, c, rfl, HOWN.out, HB2.out⟩
theorem FOwn.keep {w w' : World} {lo hi : Nat} {a : Option Addr} {n : Nat} {G T : Nat → Feat} (h : FOwn w lo hi a n G T) (hb : Below w.heap.size w w') : FOwn w' lo hi a n G T := by
  obtain ⟨h1, h2, h3⟩ := h
  exact ⟨h1.below hb, h2, h3.imp id (fun ⟨g, q, e, ho⟩ => ⟨g, q, e, ho.below hb⟩)⟩
theorem FOwn.mid' {w w' : World} {lo hi l h' : Nat} {a : Option Addr} {n : Nat} {G T : Nat → Feat} (h : FOwn w lo hi a n G T) (hM : MidB l h' w w') (hh : h' ≤ lo) : FOwn w' lo hi a n G T := by
  obtain ⟨h1, h2, h3⟩ := h
  rcases h3 with h0 | ⟨g, q, e, ho⟩
  · exact ⟨.inl h0, h2, .inl h0⟩
  · obtain ⟨⟨o1, o2, o3⟩, o4, o5, o6⟩ := ho
    have hsz := hM.size
    refine ⟨?_, h2, .inr ⟨g, q, e, ⟨o1, o2, by omega⟩, hM.there o4 (.inr (by omega)), fun i hi => ?_, o6⟩⟩
    · rcases h1 with h0 | ⟨b, off, e', hb, hf⟩
      · exact .inl h0
      · rw [e] at e'
        injection e' with e'
        injection e' with e1 e2
        subst e1 e2
        refine .inr ⟨g, 0, e, by omega, fun i hi => ?_⟩
        obtain ⟨⟨f0, f1, f2, f3, f4, f5, f6⟩, hp⟩ := hf i hi
        obtain ⟨⟨q1, q2, _⟩, q4, q5⟩ := o5 i hi
        refine ⟨⟨hM.cell f0 (.inr (by omega)), hM.cell f1 (.inr (by omega)), hM.cell f2 (.inr (by omega)), hM.cell f3 (.inr (by omega)), hM.cell f4 (.inr (by omega)), hM.cell f5 (.inr (by omega)), hM.cell f6 (.inr (by omega))⟩, ?_⟩
        have e4 : (T i).a = some ⟨q i, 0, none⟩ := by
          simp only [Nat.zero_add] at f4
          rw [q5] at f4
          injection f4 with f4
          injection f4 with f4
          exact f4.symm
        rcases hp with h0 | ⟨pb, po, ep, hpl, hpt⟩
        · exact .inl h0
        · rw [e4] at ep
          injection ep with ep
          injection ep with p1 p2
          subst p1 p2
          exact .inr ⟨q i, 0, e4, by omega, fun j hj => ⟨hM.cell (hpt j hj).1 (.inr (by omega)), hM.cell (hpt j hj).2 (.inr (by omega))⟩⟩
    · obtain ⟨⟨q1, q2, q3⟩, q4, q5⟩ := o5 i hi
      exact ⟨⟨q1, q2, q3⟩, hM.there q4 (.inr (by omega)), hM.cell q5 (.inr (by omega))⟩
theorem FOwn.wide {w : World} {lo lo' hi : Nat} {a : Option Addr} {n : Nat} {G T : Nat → Feat} (h : FOwn w lo hi a n G T) (hl : lo' ≤ lo) : FOwn w lo' hi a n G T := by
  obtain ⟨h1, h2, h3⟩ := h
  refine ⟨h1, h2, h3.imp id (fun ⟨g, q, e, ⟨o1, o2, o3⟩, o4, o5, o6⟩ => ⟨g, q, e, ⟨Nat.le_trans hl o1, o2, o3⟩, o4, fun i hi => ⟨⟨Nat.le_trans hl (o5 i hi).1.1, (o5 i hi).1.2⟩, (o5 i hi).2⟩, o6⟩)⟩
def KpNew (w : World) (lo : Nat) (k r : Kp) : Prop :=
  (r.z = k.z ∧ r.x = k.x ∧ r.y = k.y) ∧ r.fn = k.fn ∧ r.m = k.m ∧ r.I = k.I ∧ ∃ md, lo ≤ md ∧ md ≤ w.heap.size ∧ FOwn w lo md r.fa k.fn k.F r.F ∧ w.ownsRow md 2 1 (.slice r.ia k.m r.ic) k.m ((List.range k.m).map (fun i => .int .i64 (k.I i)))
def CkS (W : World) (q : Nat) (k : Kp) : Prop := W.cell? ⟨q, 0, none⟩ = some (.int .i64 k.z) ∧ W.cell? ⟨q, 1, none⟩ = some (.int .i64 k.x) ∧ W.cell? ⟨q, 2, none⟩ = some (.int .i64 k.y) ∧ W.cell? ⟨q, 3, none⟩ = some (.slice k.fa k.fn k.fc) ∧ W.cell? ⟨q, 4, none⟩ = some (.slice k.ia k.m k.ic)
theorem CkS.below {w w' : World} {q : Nat} {k : Kp} (h : CkS w q k) (hb : Below w.heap.size w w') : CkS w' q k :=
  have hl := World.block_lt_of_cell? _ _ h.1
  ⟨(hb.cell (p := ⟨q, 0, none⟩) hl).trans h.1, (hb.cell (p := ⟨q, 1, none⟩) hl).trans h.2.1, (hb.cell (p := ⟨q, 2, none⟩) hl).trans h.2.2.1, (hb.cell (p := ⟨q, 3, none⟩) hl).trans h.2.2.2.1, (hb.cell (p := ⟨q, 4, none⟩) hl).trans h.2.2.2.2⟩
theorem resCK {T : Array Value} {Wf : World} {r : Nat} {z x y : Int} {u v : Value} (hT : T[2]?.getD undef = .pointer (some ⟨r, 0, none⟩)) (h0 : Wf.cell? ⟨r, 0, none⟩ = some (.int .i64 z)) (h1 : Wf.cell? ⟨r, 1, none⟩ = some (.int .i64 x)) (h2 : Wf.cell? ⟨r, 2, none⟩ = some (.int .i64 y)) (h3 : Wf.cell? ⟨r, 3, none⟩ = some u) (h4 : Wf.cell? ⟨r, 4, none⟩ = some v) :
    (results Tryz.f128 T).run Tryz.prog Wf = .ok (.agg #[.int .i64 z, .int .i64 x, .int .i64 y, u, v]) Wf := by
  simp [results, Tryz.results128, go_sem, hT, h0, h1, h2, h3, h4]
theorem copyKept_any (k : Kp) (fb ib io : Nat) (w : World) (hf : k.fa = some ⟨fb, 0, none⟩) (hft : FsAt w fb 0 k.fn k.F) (hfl : fb < w.heap.size) (hn : k.fn ≤ 12) (hpos : ∀ i, i < k.fn → 0 < (k.F i).n) (hs : SmallK k) (hi : k.ia = some ⟨ib, io, none⟩) (hin : NsAt w ib io k.m k.I) (hil : ib < w.heap.size) :
    Calls Tryz.prog 128 #[kpV k] w fun e w' => ∃ r, e = .returned (kpV r) ∧ KpNew w' w.heap.size k r ∧ Below w.heap.size w w' := by
  have HCf : Hid (∀ W, Below w.heap.size w W → Calls Tryz.prog 162 #[.slice k.fa k.fn k.fc] W fun e w' => ∃ a c H, e = .returned (.slice a k.fn c) ∧ FOwn w' W.heap.size w'.heap.size a k.fn k.F H ∧ Below W.heap.size W w') := fun W h => by
    rw [hf]
    refine (copyFeatures_any fb k.fn k.fc k.F W (hft.below h hfl) (Nat.lt_of_lt_of_le hfl h.size) hn hpos hs.1).mono ?_
    rintro e w' ⟨v, H, rfl, h1, h2, h3⟩
    obtain ⟨a, c, rfl, _, h4⟩ := fown_of h1 h2 hpos
    exact ⟨a, c, H, rfl, h4, h3⟩
  have HCl : Hid (∀ W, Below w.heap.size w W → Calls Tryz.prog 163 #[.slice k.ia k.m k.ic] W fun e w' => ∃ a c, e = .returned (.slice a k.m c) ∧ w'.ownsRow W.heap.size 2 1 (.slice a k.m c) k.m ((List.range k.m).map (fun i => .int .i64 (k.I i))) ∧ Below W.heap.size W w') := fun W h => by
    rw [hi]
    exact cloneI_any ib io k.m k.ic k.I W (hin.below h hil) (Nat.lt_of_lt_of_le hil h.size) hs.2
  clear hf hft hfl hn hpos hs hi hin hil
  go_enter Tryz.func128, Tryz.ntmps128
  go_wp2_with fail
  generalize hW : ((w.alloc _).alloc _ : World) = W
  have HB0 : Hid (Below w.heap.size w W) := by show Below _ _ _; subst hW; exact Qb
  have HS : Hid (CkS W w.heap.size k) := by show CkS _ _ _; subst hW; refine ⟨?_, ?_, ?_, ?_, ?_⟩ <;> simp [go_sem]
  have HT : Hid (There W (w.heap.size + 1) 5) := by
    show There _ _ _
    subst hW
    have := there5k (w.alloc (.cells #[.int .i64 k.z, .int .i64 k.x, .int .i64 k.y, .slice k.fa k.fn k.fc, .slice k.ia k.m k.ic] 149)) (.int .i64 0) (.int .i64 0) (.int .i64 0) (.slice none 0 0) (.slice none 0 0) 149
    simpa using this
  have hsz : w.heap.size + 1 < W.heap.size := by subst hW; simp
  clear hW
  refine wp_region_noPanic ?_
  refine wp_region_held_drew (S := fun W' => CkS W' w.heap.size k) (by kernel_rfl) HS.out (fun hHeld => ?_)
  have hSd : CkS W.drew w.heap.size k := HS.out
  refine takeK (i := 0) (d := some 3) (v := ?va0) rfl rfl (Or.inl ⟨by rfl, ?hya0⟩) (by assumption) ?_
  case hya0 => (intro w hSw; obtain ⟨k0, k1, k2, k3, k4⟩ := (show CkS w _ k from hSw); go_simp <;> with_reducible rfl)
  try simp only [Act.put, Qx, Qy, Qz]
  refine takeK (i := 1) (d := some 4) (v := ?va1) rfl rfl (Or.inl ⟨by rfl, ?hya1⟩) (by assumption) ?_
  case hya1 => (intro w hSw; obtain ⟨k0, k1, k2, k3, k4⟩ := (show CkS w _ k from hSw); go_simp <;> with_reducible rfl)
  try simp only [Act.put, Qx, Qy, Qz]
  refine takeK (i := 2) (d := some 5) (v := ?va2) rfl rfl (Or.inl ⟨by rfl, ?hya2⟩) (by assumption) ?_
  case hya2 => (intro w hSw; obtain ⟨k0, k1, k2, k3, k4⟩ := (show CkS w _ k from hSw); go_simp <;> with_reducible rfl)
  try simp only [Act.put, Qx, Qy, Qz]
  refine takeK (i := 3) (d := some 6) (v := ?va3) rfl rfl (Or.inl ⟨by rfl, ?hya3⟩) (by assumption) ?_
  case hya3 => (intro w hSw; obtain ⟨k0, k1, k2, k3, k4⟩ := (show CkS w _ k from hSw); go_simp <;> with_reducible rfl)
  try simp only [Act.put, Qx, Qy, Qz]
  refine takeK (i := 4) (d := some 7) (v := ?va4) rfl rfl (Or.inl ⟨by rfl, ?hya4⟩) (by assumption) ?_
  case hya4 => (intro w hSw; obtain ⟨k0, k1, k2, k3, k4⟩ := (show CkS w _ k from hSw); go_simp <;> with_reducible rfl)
  try simp only [Act.put, Qx, Qy, Qz]
  refine takeK (i := 5) (d := some 8) (v := ?va5) rfl rfl (Or.inl ⟨by rfl, ?hya5⟩) (by assumption) ?_
  case hya5 => (intro w hSw; obtain ⟨k0, k1, k2, k3, k4⟩ := (show CkS w _ k from hSw); go_simp <;> with_reducible rfl)
  try simp only [Act.put, Qx, Qy, Qz]
  refine takeK (i := 8) (d := some 11) (v := ?va8) rfl rfl (Or.inl ⟨by rfl, ?hya8⟩) (by assumption) ?_
  case hya8 => (intro w hSw; obtain ⟨k0, k1, k2, k3, k4⟩ := (show CkS w _ k from hSw); go_simp <;> with_reducible rfl)
  try simp only [Act.put, Qx, Qy, Qz]
  refine takeK (i := 9) (d := some 12) (v := ?va9) rfl rfl (Or.inl ⟨by rfl, ?hya9⟩) (by assumption) ?_
  case hya9 => (intro w hSw; obtain ⟨k0, k1, k2, k3, k4⟩ := (show CkS w _ k from hSw); go_simp <;> with_reducible rfl)
  try simp only [Act.put, Qx, Qy, Qz]
  have hD0 : Below W.heap.size W W.drew := by have := Below.refl W.heap.size W; exact Qb
  generalize W.drew = wk0 at *
  refine wpAnyH_ready (rs := [6]) (by kernel_rfl) (by simp) ?_
  refine (AllReadyH.cons rfl (fun K hK => ?_) AllReadyH.nil)
  rw [if_pos (by rfl)]
  go_simp
  refine Calls.mono (HCf.out _ (bl_then HB0.out hD0)) ?_
  rintro e wk1 ⟨ra, rc, RF, rfl, hF1, hb1⟩
  have hS1 : CkS wk1 w.heap.size k := hSd.below hb1
  have HD1 : Hid (Below W.heap.size W wk1) := bl_then hD0 hb1
  have HF1 : Hid (FOwn wk1 wk0.heap.size wk1.heap.size ra k.fn k.F RF) := hF1
  have hz0 := hD0.size
  clear hF1 hSd
  go_wp2_with fail
  refine hK.out _ _ (by assumption) (fun hHeld => ?_)
  clear hK K
  try simp only [Act.put, Qx, Qy, Qz]
  refine takeK (i := 7) (d := some 10) (v := ?vb7) rfl rfl (Or.inl ⟨by rfl, ?hyb7⟩) (by assumption) ?_
  case hyb7 => (intro w hSw; skip; go_simp <;> with_reducible rfl)
  try simp only [Act.put, Qx, Qy, Qz]
  refine wpAnyH_ready (rs := [10]) (by kernel_rfl) (by simp) ?_
  refine (AllReadyH.cons rfl (fun K hK => ?_) AllReadyH.nil)
  rw [if_pos (by rfl)]
  go_simp
  refine Calls.mono (HCl.out _ (bl_then HB0.out HD1.out)) ?_
  rintro e wk2 ⟨na, nc, rfl, hN2, hb2⟩
  have hS2 : CkS wk2 w.heap.size k := hS1.below hb2
  have HD2 : Hid (Below W.heap.size W wk2) := bl_then HD1.out hb2
  have HF2 : Hid (FOwn wk2 wk0.heap.size wk1.heap.size ra k.fn k.F RF) := HF1.out.keep hb2
  have hz2 := hb2.size
  have HN2 : Hid (wk2.ownsRow wk1.heap.size 2 1 (.slice na k.m nc) k.m ((List.range k.m).map (fun i => .int .i64 (k.I i)))) := hN2
  have hz1 := hb1.size
  clear hN2 hS1 HF1
  go_wp2_with fail
  refine hK.out _ _ (by assumption) (fun hHeld => ?_)
  clear hK K
  try simp only [Act.put, Qx, Qy, Qz]
  refine takeK (i := 11) (d := some 14) (v := ?vc11) rfl rfl (Or.inl ⟨by rfl, ?hyc11⟩) (by assumption) ?_
  case hyc11 => (intro w hSw; skip; go_simp <;> with_reducible rfl)
  try simp only [Act.put, Qx, Qy, Qz]
  have hT2 := HT.out.below HD2.out
  have HT2 : Hid (There wk2 (w.heap.size + 1) 5) := hT2
  have t0 := hT2.cell 0 (by omega)
  have t1 := hT2.cell 1 (by omega)
  have t2 := hT2.cell 2 (by omega)
  have t3 := hT2.cell 3 (by omega)
  have t4 := hT2.cell 4 (by omega)
  have f0 := (hT2 0 (by omega)).2
  have f1 := (hT2 1 (by omega)).2
  have f2 := (hT2 2 (by omega)).2
  have f3 := (hT2 3 (by omega)).2
  have f4 := (hT2 4 (by omega)).2
  refine wpAnyH_ready (rs := [12]) (by kernel_rfl) (by simp) ?_
  refine (AllReadyH.cons rfl (fun K hK => ?_) AllReadyH.nil)
  rw [if_pos (by rfl)]
  go_simp
  generalize hwF : (World.setCell _ _ _ : World) = wF
  have HL : Hid (wF = layK wk2 (w.heap.size + 1) 0 ⟨k.z, k.x, k.y, ra, k.fn, rc, RF, na, k.m, nc, k.I⟩) := by show _ = _; subst hwF; rfl
  have hM : MidB (w.heap.size + 1) (w.heap.size + 1 + 1) wk2 wF := by rw [HL.out]; exact layK_mid _ _ _ _
  have hSF : CkS wF w.heap.size k := by
    obtain ⟨a0, a1, a2, a3, a4⟩ := hS2
    exact ⟨hM.cell a0 (.inl (by omega)), hM.cell a1 (.inl (by omega)), hM.cell a2 (.inl (by omega)), hM.cell a3 (.inl (by omega)), hM.cell a4 (.inl (by omega))⟩
  refine hK.out _ _ hSF (fun hHeld => ?_)
  clear hK K
  try simp only [Act.put, Qx, Qy, Qz]
  refine wpAnyH_done (by kernel_rfl) ?_ _
  refine NoPanic.normal ?_
  have hAt : KpAt wF (w.heap.size + 1) 0 ⟨k.z, k.x, k.y, ra, k.fn, rc, RF, na, k.m, nc, k.I⟩ := by rw [HL.out]; exact layK_at HT2.out (by omega)
  obtain ⟨q0, q1, q2, q3, q4⟩ := hAt
  simp only [Nat.zero_add] at q0 q1 q2 q3 q4
  have HQ : Hid (wF.cell? ⟨w.heap.size + 1, 0, none⟩ = some (.int .i64 k.z) ∧ wF.cell? ⟨w.heap.size + 1, 1, none⟩ = some (.int .i64 k.x) ∧ wF.cell? ⟨w.heap.size + 1, 2, none⟩ = some (.int .i64 k.y) ∧ wF.cell? ⟨w.heap.size + 1, 3, none⟩ = some (.slice ra k.fn rc) ∧ wF.cell? ⟨w.heap.size + 1, 4, none⟩ = some (.slice na k.m nc)) := ⟨q0, q1, q2, q3, q4⟩
  have hs2 := HD2.out.size
  have HFin : Hid (KpNew wF w.heap.size k ⟨k.z, k.x, k.y, ra, k.fn, rc, RF, na, k.m, nc, k.I⟩ ∧ Below w.heap.size w wF) := by
    have hszF := hM.size
    refine ⟨⟨⟨rfl, rfl, rfl⟩, rfl, rfl, rfl, wk1.heap.size, by omega, by omega, (HF2.out.mid' hM (by omega)).wide (by omega), ?_⟩, (bl_then HB0.out HD2.out).trans (hM.below (by omega) |>.mono (by omega))⟩
    exact HN2.out.midK hM (by omega)
  clear hwF HL hM hSF q0 q1 q2 q3 q4 hS2 hT2 HT2
  clear t0 f0
  clear t1 f1
  clear t2 f2
  clear t3 f3
  clear t4 f4
  go_wp2_with fail
  refine bodyPost_ret (resCK rfl HQ.out.1 HQ.out.2.1 HQ.out.2.2.1 HQ.out.2.2.2.1 HQ.out.2.2.2.2) rfl ⟨_, rfl, HFin.out⟩
theorem step_append_none {P : Program} {ops : Array Oper} {o : Oper} {a : Act} {w : World} {K : Act → World → Prop} {Q : Exit → Act → World → Prop} {E : Prop}
  (hg : o.guard = none) (s x : Operand) (t : TypeId) (hop : o.op = Op.call { callee := Callee.builtin Builtin.append,args := #[s,x],argTypes := #[t,t] })
  (base : Nat) (e : TypeId) (i : TypeInfo) (size : Nat) (h1 : P.underlying t = some (.slice e)) (h2 : P.info? e = some i)
  (v : Value) (n : Nat) (xs : List Value) (hs : a.eval s = v) (hown : w.ownsRow base e size v n xs) (hx : a.eval x = .slice none 0 0)
  (hK : K (a.put o.dst v) w) :
  if Region.wanted o (yielded ops a.tmps) = true then Oper.wp P o a w K Q else E := by
 have hw : Region.wanted o (yielded ops a.tmps) = true := by simp [Region.wanted,hg]
 rw [if_pos hw]
 have hrun := run_append_owned_none (P := P) (w := w) base t o.type e i size h1 h2 v n xs hown
 unfold Oper.wp
 simp [execOp,hop,resolve,invoke,builtin,hs,hx,hrun,Result.andThen]
 exact hK
def refCs (e : Req) : List Value := [.int .i64 e.z, .int .i64 e.x, .int .i64 e.y]
theorem cellsR_flat (l : List Req) : cellsR (rfsOf l) l.length = l.flatMap refCs := by
 have h : l.flatMap refCs = (listW l.length (nw l)).flatMap refCs := by rw [listW_of]
 rw [h]
 unfold cellsR listW
 rw [List.flatMap_map]
 rfl
theorem cellsR_apps (l m : List Req) : cellsR (rfsOf (l ++ m)) (l ++ m).length = cellsR (rfsOf l) l.length ++ cellsR (rfsOf m) m.length := by
 rw [cellsR_flat,cellsR_flat,cellsR_flat,List.flatMap_append]
theorem cellsR_one (l : List Req) : ∀ u ∈ cellsR (rfsOf l) l.length,u.oneCell' = true := fun u hu => by
 rw [cellsR_flat,List.mem_flatMap] at hu
 obtain ⟨e,_,h⟩ := hu
 simp [refCs] at h
 rcases h with rfl | rfl | rfl <;> rfl
theorem RowS.slice' {base : Nat} {w : World} {v : Value} {l : List Req} (h : RowS base w v l) : v = .slice none 0 0 ∧ l = [] ∨ ∃ g c,v = .slice (some ⟨g,0,none⟩) l.length c ∧ base ≤ g ∧ g < w.heap.size := by
 obtain ⟨h1,h2 | ⟨g,cp,cur,hv,hg,hh,_⟩⟩ := h
 ·refine .inl ⟨h2.1,?_⟩
  exact List.eq_nil_of_length_eq_zero h2.2
 ·exact .inr ⟨g,cp,hv,hg,(Array.getElem?_eq_some_iff.1 hh).1⟩
abbrev lkL (z x y wd ht now : Int) (pv rv : Value) (bad : Int) (sv : Value) : List Value := [.int .i64 z, .int .i64 x, .int .i64 y, .int .i64 wd, .int .i64 ht, .int .i64 now,pv,rv, .int .i64 bad,sv]
def But (p : Nat) (ob : Option Nat) (w w' : World) : Prop := ∀ q,q < w.heap.size → q ≠ p → some q ≠ ob → w'.heap[q]? = w.heap[q]?
theorem send_any (Bs B1 p : Nat) (z x y wd ht now : Int) (pv rv : Value) (bad : Int) (sv : Value) (sl l1 : List Req) (c : Int) (v1 : Value) (ra : Option Addr) (rn rc : Nat) (w : World) (hV : Blk w p (lkL z x y wd ht now pv rv bad sv)) (hs : RowS Bs w sv sl) (h1 : RowS B1 w v1 l1) (hp : p < Bs) (hp1 : p < B1) (hbs : Bs ≤ w.heap.size) (hl : sl.length ≤ 1000 ∧ l1.length ≤ 1000) :
  Calls Tryz.prog 37 #[.pointer (some ⟨p,0,none⟩),rqV c v1 (.slice ra rn rc)] w fun e w' => e = .returned (.tuple #[]) ∧ ∃ sv',Blk w' p (lkL z x y wd ht now pv (.slice ra rn rc) bad sv') ∧ RowS Bs w' sv' (sl ++ l1) ∧ Below p w w' ∧ But p sv.ownBlock w w' := by
 obtain ⟨i1,ri,rz0,rz1,rz2⟩ := info_parts info_rf
 have HV : Hid (Blk w p (lkL z x y wd ht now pv rv bad sv)) := hV
 have HS0 : Hid (RowS Bs w sv sl) := hs
 have HS1 : Hid (RowS B1 w v1 l1) := h1
 have hpl : p < w.heap.size := hV.lt
 have HAP : Hid (cellsR (rfsOf (sl ++ l1)) (sl ++ l1).length = cellsR (rfsOf sl) sl.length ++ cellsR (rfsOf l1) l1.length) := cellsR_apps sl l1
 have HSv := (show Hid _ from hs.slice')
 have HV1 := (show Hid _ from h1.slice')
 clear hV hs h1
 go_enter Tryz.func37,Tryz.ntmps37
 obtain ⟨sa,sc,hsv⟩ : ∃ a c,sv = .slice a sl.length c := by
  rcases HSv.out with ⟨e1,e2⟩ | ⟨g,c,e,_⟩
  ·exact ⟨none,0,by rw [e1,e2]; rfl⟩
  ·exact ⟨_,_,e⟩
 obtain ⟨va,vc,hv1⟩ : ∃ a c,v1 = .slice a l1.length c := by
  rcases HV1.out with ⟨e1,e2⟩ | ⟨g,c,e,_⟩
  ·exact ⟨none,0,by rw [e1,e2]; rfl⟩
  ·exact ⟨_,_,e⟩
 have c7 := HV.out.cell 7 rfl
 have f7 := HV.out.free 7 rfl
 subst hsv hv1
 go_wp2_with fail
 generalize hwB : (World.alloc _ _ : World) = wB
 have hB0 : Below p w (w.setCell ⟨p,7,none⟩ (.slice ra rn rc)) := by have h := Below.refl p w; exact h.setCell (Nat.le_refl p) _
 have hsz0 : (w.setCell ⟨p,7,none⟩ (.slice ra rn rc)).heap.size = w.heap.size := by simp
 have hbA : Below w.heap.size (w.setCell ⟨p,7,none⟩ (.slice ra rn rc)) wB := by rw [← hsz0]; subst hwB; exact bl_alloc (Below.refl _ _) _
 have HVB : Hid (Blk wB p (lkL z x y wd ht now pv (.slice ra rn rc) bad (.slice sa sl.length sc))) := (HV.out.set 7 _).below (by omega) (by rw [hsz0]; exact hbA)
 have HSB : Hid (RowS Bs wB (.slice sa sl.length sc) sl) := RowS.below (w := w.setCell ⟨p,7,none⟩ (.slice ra rn rc)) (ownsRow_setW HS0.out hp) (by rw [hsz0]; exact hbA)
 have H1B : Hid (RowS B1 wB (.slice va l1.length vc) l1) := RowS.below (w := w.setCell ⟨p,7,none⟩ (.slice ra rn rc)) (ownsRow_setW HS1.out hp1) (by rw [hsz0]; exact hbA)
 have b1 : wB.cell? ⟨w.heap.size,1,none⟩ = some (.slice va l1.length vc) := by subst hwB; rw [← hsz0]; simp [go_sem]
 have HBB : Hid (Below p w wB) := hB0.trans (hbA.mono (by omega))
 have HBu : Hid (∀ q,q < w.heap.size → q ≠ p → wB.heap[q]? = w.heap[q]?) := fun q h1 h2 => by
  rw [hbA.block q h1]
  exact Below.heap_setCell w ⟨p,7,none⟩ (.slice ra rn rc) q (fun e => h2 (by simpa using e))
 have hsB : w.heap.size < wB.heap.size := World.block_lt_of_cell? _ _ b1
 have hplB : p < wB.heap.size := by omega
 clear hwB c7 f7 HV HS0 HS1 hB0 hsz0 hbA
 refine wp_region_noPanic ?_
 refine wp_region_L (S := fun W' => W'.cell? ⟨p,9,none⟩ = some (.slice sa sl.length sc) ∧ W'.cell? ⟨w.heap.size,1,none⟩ = some (.slice va l1.length vc)) (z := 10) (by kernel_rfl) ?_
 have hSd : wB.drew.cell? ⟨p,9,none⟩ = some (.slice sa sl.length sc) ∧ wB.drew.cell? ⟨w.heap.size,1,none⟩ = some (.slice va l1.length vc) := ⟨HVB.out.cell 9 rfl,b1⟩
 have hBd : Below wB.heap.size wB wB.drew := Below.drew (Below.refl _ _)
 have HVd : Hid (Blk wB.drew p (lkL z x y wd ht now pv (.slice ra rn rc) bad (.slice sa sl.length sc))) := HVB.out.below hplB hBd
 have HSd : Hid (RowS Bs wB.drew (.slice sa sl.length sc) sl) := HSB.out.below hBd
 have H1d : Hid (RowS B1 wB.drew (.slice va l1.length vc) l1) := H1B.out.below hBd
 have HBB2 : Hid (Below p w wB.drew) := HBB.out.trans (hBd.mono (by omega))
 have HBu2 : Hid (∀ q,q < w.heap.size → q ≠ p → wB.drew.heap[q]? = w.heap[q]?) := HBu.out
 have hsB2 : w.heap.size < wB.drew.heap.size := hsB
 have hplB2 : p < wB.drew.heap.size := hplB
 generalize wB.drew = wd0 at *
 clear hBd HVB HSB H1B HBB HBu b1 hsB hplB
 refine wpAnyL_takeU (i := 0) (v := ?vs0) [10] rfl (by kernel_rfl) (by kernel_rfl) (by kernel_rfl) (by kernel_rfl) (fun _ _ _ h => h) (Or.inl ⟨by rfl,?hys0⟩) hSd ?_
 case hys0 => (intro w hSw; obtain ⟨kS0,kS1⟩ := hSw; go_simp <;> with_reducible rfl)
 try simp only [Act.put,Qx,Qy,Qz]
 refine wpAnyL_takeU (i := 1) (v := ?vs1) [10] rfl (by kernel_rfl) (by kernel_rfl) (by kernel_rfl) (by kernel_rfl) (fun _ _ _ h => h) (Or.inl ⟨by rfl,?hys1⟩) hSd ?_
 case hys1 => (intro w hSw; obtain ⟨kS0,kS1⟩ := hSw; go_simp <;> with_reducible rfl)
 try simp only [Act.put,Qx,Qy,Qz]
 refine wpAnyL_takeU (i := 2) (v := ?vs2) [10] rfl (by kernel_rfl) (by kernel_rfl) (by kernel_rfl) (by kernel_rfl) (fun _ _ _ h => h) (Or.inl ⟨by rfl,?hys2⟩) hSd ?_
 case hys2 => (intro w hSw; obtain ⟨kS0,kS1⟩ := hSw; go_simp <;> with_reducible rfl)
 try simp only [Act.put,Qx,Qy,Qz]
 refine wpAnyL_takeU (i := 3) (v := ?vs3) [10] rfl (by kernel_rfl) (by kernel_rfl) (by kernel_rfl) (by kernel_rfl) (fun _ _ _ h => h) (Or.inl ⟨by rfl,?hys3⟩) hSd ?_
 case hys3 => (intro w hSw; obtain ⟨kS0,kS1⟩ := hSw; go_simp <;> with_reducible rfl)
 try simp only [Act.put,Qx,Qy,Qz]
 refine wpAnyL_takeU (i := 4) (v := ?vs4) [10] rfl (by kernel_rfl) (by kernel_rfl) (by kernel_rfl) (by kernel_rfl) (fun _ _ _ h => h) (Or.inl ⟨by rfl,?hys4⟩) hSd ?_
 case hys4 => (intro w hSw; obtain ⟨kS0,kS1⟩ := hSw; go_simp <;> with_reducible rfl)
 try simp only [Act.put,Qx,Qy,Qz]
 refine wpAnyL_takeU (i := 5) (v := ?vs5) [10] rfl (by kernel_rfl) (by kernel_rfl) (by kernel_rfl) (by kernel_rfl) (fun _ _ _ h => h) (Or.inl ⟨by rfl,?hys5⟩) hSd ?_
 case hys5 => (intro w hSw; obtain ⟨kS0,kS1⟩ := hSw; go_simp <;> with_reducible rfl)
 try simp only [Act.put,Qx,Qy,Qz]
 refine wpAnyL_takeU (i := 6) (v := ?vs6) [10] rfl (by kernel_rfl) (by kernel_rfl) (by kernel_rfl) (by kernel_rfl) (fun _ _ _ h => h) (Or.inl ⟨by rfl,?hys6⟩) hSd ?_
 case hys6 => (intro w hSw; obtain ⟨kS0,kS1⟩ := hSw; go_simp <;> with_reducible rfl)
 try simp only [Act.put,Qx,Qy,Qz]
 rcases HV1.out with ⟨e1,e2⟩ | ⟨g1,cc1,e1,hg1,hgl1⟩
 ·injection e1 with e1 e3 e4
  subst e1 e2
  have e4' : vc = 0 := e4
  subst e4'
  refine wpAnyL_one (i := 7) (by kernel_rfl) rfl (fun K hK => ?_)
  refine step_append_none rfl (.tmp 13) (.tmp 15) 31 rfl Bs 97 i1 3 Tryz.underlying31 ri (.slice sa sl.length sc) sl.length _ rfl HSd.out rfl ?_
  show K (Act.put _ (some 16) _) _
  refine hK.out _ _ (fun _ => hSd) ?_
  clear hK K
  try simp only [Act.put,Qx,Qy,Qz]
  refine wpAnyL_takeU (i := 8) (v := ?vn8) [9,10] rfl (by kernel_rfl) (by kernel_rfl) (by kernel_rfl) (by kernel_rfl) (fun _ _ _ h => h) (Or.inl ⟨by rfl,?hyn8⟩) hSd ?_
  case hyn8 => (intro w hSw; obtain ⟨kS0,kS1⟩ := hSw; go_simp <;> with_reducible rfl)
  try simp only [Act.put,Qx,Qy,Qz]
  refine wpAnyL_takeU (i := 9) (v := ?vn9) [10] rfl (by kernel_rfl) (by kernel_rfl) (by kernel_rfl) (by kernel_rfl) (fun _ _ _ h => h) (Or.inl ⟨by rfl,?hyn9⟩) hSd ?_
  case hyn9 => (intro w hSw; obtain ⟨kS0,kS1⟩ := hSw; go_simp <;> with_reducible rfl)
  try simp only [Act.put,Qx,Qy,Qz]
  have c9 := HVd.out.cell 9 rfl
  have f9 := HVd.out.free 9 rfl
  refine wpAnyL_one (i := 10) (by kernel_rfl) rfl (fun K hK => ?_)
  go_simp
  refine hK.out _ _ (fun h => absurd rfl h) ?_
  clear hK K
  try simp only [Act.put,Qx,Qy,Qz]
  refine wpAnyL_done (by kernel_rfl) ?_ _
  refine NoPanic.normal ?_
  clear c9 f9 hSd
  go_wp2_with fail
  refine bodyPost_end (v := .tuple #[]) (by simp [results,Tryz.results37,go_sem]) rfl ?_
  refine ⟨rfl,_,HVd.out.set 9 _,?_,HBB2.out.setCell (Nat.le_refl _) _,fun q h1 h2 _ => ?_⟩
  ·exact ownsRow_setW HSd.out hp
  ·rw [Below.heap_setCell wd0 ⟨p,9,none⟩ _ q (fun e => h2 (by simpa using e))]; exact HBu2.out q h1 h2
 ·injection e1 with e1 e3 e4
  subst e1 e4
  have HC1 : Hid (∀ j u,(cellsR (rfsOf l1) l1.length)[j]? = some u → wd0.cell? ((⟨g1,0,none⟩ : Addr).add j) = some u) := H1d.out.cells (g := g1) rfl
  refine wpAnyL_one (i := 7) (by kernel_rfl) rfl (fun K hK => ?_)
  refine step_append_own rfl (.tmp 13) (.tmp 15) 31 rfl Bs 97 i1 (.agg #[.int .i64 0, .int .i64 0, .int .i64 0]) 3 24 Tryz.underlying31 ri rz0 rz1 rz2 rfl (by decide) (.slice sa sl.length sc) sl.length (cellsR (rfsOf sl) sl.length) rfl HSd.out ⟨g1,0,none⟩ l1.length vc (cellsR (rfsOf l1) l1.length) rfl (cellsR_len _ _) HC1.out (cellsR_one l1) ?c3 ?c4 ?c5 ?_
  case c3 => have := hl.1; have := hl.2; unfold maxLen; omega
  case c4 => have := hl.1; have := hl.2; omega
  case c5 => omega
  intro v' w3 hown' hgrow hnil
  clear hnil
  have hrow3 : RowS Bs w3 v' (sl ++ l1) := by
   show World.ownsRow _ _ _ _ _ _ _
   rw [HAP.out,List.length_append]
   exact hown'
  have hob : ∀ q,(Value.slice sa sl.length sc).ownBlock = some q → Bs ≤ q ∧ q < wd0.heap.size := fun q hq => World.ownsRow.lt HSd.out q hq
  have hpo : some p ≠ (Value.slice sa sl.length sc).ownBlock := fun e => by have := hob p e.symm; omega
  have hbp := hgrow.block p hplB2 hpo
  have HV3 : Hid (Blk w3 p (lkL z x y wd ht now pv (.slice ra rn rc) bad (.slice sa sl.length sc))) := fun i u hi => ⟨(World.cell?_of_block (a := ⟨p,i,none⟩) hbp).trans (HVd.out i u hi).1,(World.frozen?_of_block (a := ⟨p,i,none⟩) hbp).trans (HVd.out i u hi).2⟩
  have HB3 : Hid (Below p w w3) := HBB2.out.trans ((Below.refl _ _).grown hgrow (by omega) (fun k hk => by have := hob k hk; omega))
  have HBu3 : Hid (But p (Value.slice sa sl.length sc).ownBlock w w3) := fun q h1 h2 h3 => (hgrow.block q (by omega) h3).trans (HBu2.out q h1 h2)
  have hS3 : w3.cell? ⟨p,9,none⟩ = some (.slice sa sl.length sc) ∧ w3.cell? ⟨w.heap.size,1,none⟩ = some (.slice (some ⟨g1,0,none⟩) l1.length vc) := by
   refine ⟨HV3.out.cell 9 rfl,?_⟩
   by_cases hq : some w.heap.size = (Value.slice sa sl.length sc).ownBlock
   ·exfalso
    rcases HSv.out with ⟨e5,_⟩ | ⟨g,cg,e5,_,hgl⟩
    ·rw [e5] at hq; cases hq
    ·rw [e5] at hq
     simp [Value.ownBlock] at hq
     omega
   ·exact (World.cell?_of_block (a := ⟨w.heap.size,1,none⟩) (hgrow.block w.heap.size hsB2 hq)).trans hSd.2
  have HR3 : Hid (RowS Bs w3 v' (sl ++ l1)) := hrow3
  obtain ⟨sa',sc',hv'⟩ : ∃ a c,v' = .slice a (sl ++ l1).length c := by
   rcases hrow3.slice' with ⟨e5,e6⟩ | ⟨g,cg,e5,_⟩
   ·exact ⟨none,0,by rw [e5,e6]; rfl⟩
   ·exact ⟨_,_,e5⟩
  clear hown' hgrow hrow3 hob hpo hbp hSd
  have hSd := hS3
  subst hv'
  show K (Act.put _ (some 16) _) _
  refine hK.out _ _ (fun _ => hSd) ?_
  clear hK K hS3
  generalize hN : (sl ++ l1).length = N6 at *
  try simp only [Act.put,Qx,Qy,Qz]
  refine wpAnyL_takeU (i := 8) (v := ?vm8) [9,10] rfl (by kernel_rfl) (by kernel_rfl) (by kernel_rfl) (by kernel_rfl) (fun _ _ _ h => h) (Or.inl ⟨by rfl,?hym8⟩) hSd ?_
  case hym8 => (intro w hSw; obtain ⟨kS0,kS1⟩ := hSw; go_simp <;> with_reducible rfl)
  try simp only [Act.put,Qx,Qy,Qz]
  refine wpAnyL_takeU (i := 9) (v := ?vm9) [10] rfl (by kernel_rfl) (by kernel_rfl) (by kernel_rfl) (by kernel_rfl) (fun _ _ _ h => h) (Or.inl ⟨by rfl,?hym9⟩) hSd ?_
  case hym9 => (intro w hSw; obtain ⟨kS0,kS1⟩ := hSw; go_simp <;> with_reducible rfl)
  try simp only [Act.put,Qx,Qy,Qz]
  have c9 := HV3.out.cell 9 rfl
  have f9 := HV3.out.free 9 rfl
  refine wpAnyL_one (i := 10) (by kernel_rfl) rfl (fun K hK => ?_)
  go_simp
  refine hK.out _ _ (fun h => absurd rfl h) ?_
  clear hK K
  try simp only [Act.put,Qx,Qy,Qz]
  refine wpAnyL_done (by kernel_rfl) ?_ _
  refine NoPanic.normal ?_
  clear c9 f9 hSd
  go_wp2_with fail
  refine bodyPost_end (v := .tuple #[]) (by simp [results,Tryz.results37,go_sem]) rfl ?_
  refine ⟨rfl,_,HV3.out.set 9 _,ownsRow_setW HR3.out hp,HB3.out.setCell (Nat.le_refl _) _,fun q h1 h2 h3 => ?_⟩
  rw [Below.heap_setCell w3 ⟨p,9,none⟩ _ q (fun e => h2 (by simpa using e))]; exact HBu3.out q h1 h2 h3

end Go.Proofs.YtiephlohemphjaaGreat
