/- Several texts in one. -/
import Derived.Test.YtciidkmonfmipaaGreatVPutTile32

/- The tiles of a shelf in the order of their turns. -/

namespace Go.Proofs.YtciidkmonfmipaaGreat
open Go.RowKit Go.Sort Go.Shelf Go.Maps
set_option linter.unusedSimpArgs false
set_option linter.unusedVariables false
set_option maxRecDepth 100000

/-- What a tile's key is. -/
abbrev keyA (a : Ag) : Lit := keyL a.z a.x a.y
/-- The shelf's map has just these tiles, in the order of their turns. -/
structure Rep (D : DataW Value) (L : List Ag) : Prop where
  tidy : Maps.Tidy D
  size : Maps.size D = L.length
  ints : ∀ a ∈ L, I64 a.z ∧ I64 a.x ∧ I64 a.y
  has : ∀ x, Maps.has D (.string x) = true ↔ ∃ a ∈ L, keyA a = .string x
  at_ : ∀ a ∈ L, ∀ zd, D.atKey (keyA a) zd = .held (agW a)
  keys : L.Pairwise (fun a b => keyA a ≠ keyA b)
  turns : L.Pairwise (fun a b => a.t < b.t)
theorem keyA_str (a : Ag) : ∃ x, keyA a = .string x := ⟨_, rfl⟩
theorem Rep.nodup {D : DataW Value} {L : List Ag} (h : Rep D L) : L.Nodup := h.turns.imp (fun hlt e => by subst e; exact absurd hlt (Int.lt_irrefl _))
theorem Rep.perm {D : DataW Value} {L xs : List Ag} (h : Rep D L) (hx : AllA D xs) : xs.Perm L := by
  obtain ⟨ps, ⟨hn, hm, ha⟩, rfl⟩ := hx
  have hkey : ∀ p ∈ ps, ∃ a ∈ L, keyA a = .string p.1 ∧ p.2 = a := fun p hp => by
    obtain ⟨a, haL, hk⟩ := (h.has p.1).1 ((hm p.1).1 (List.mem_map_of_mem hp))
    refine ⟨a, haL, hk, ?_⟩
    have e1 := ha p hp (.held (agW a))
    have e2 := h.at_ a haL (.held (agW a))
    rw [hk] at e2
    rw [e1] at e2
    injection e2 with e2
    exact agW_inj e2
  have hnx : (ps.map (·.2)).Nodup := by
    rw [List.Nodup, List.pairwise_map]
    have hn' : ps.Pairwise (fun p q => p.1 ≠ q.1) := by
      have := hn
      rw [List.Nodup, List.pairwise_map] at this
      exact this
    refine List.Pairwise.imp_of_mem ?_ hn'
    intro p q hp hq hne e
    obtain ⟨a, _, hk, e1⟩ := hkey p hp
    obtain ⟨b, _, hk', e2⟩ := hkey q hq
    rw [e1, e2] at e
    subst e
    rw [hk] at hk'
    injection hk' with hk'
    exact hne hk'
  refine (List.perm_ext_iff_of_nodup hnx h.nodup).2 (fun a => ⟨fun hm' => ?_, fun hL => ?_⟩)
  · obtain ⟨p, hp, rfl⟩ := List.mem_map.1 hm'
    obtain ⟨b, hb, _, e⟩ := hkey p hp
    rw [e]; exact hb
  · obtain ⟨x, hx⟩ := keyA_str a
    have h1 := (hm x).2 ((h.has x).2 ⟨a, hL, hx⟩)
    obtain ⟨p, hp, e⟩ := List.mem_map.1 h1
    obtain ⟨b, hb, hk, e2⟩ := hkey p hp
    have hab : a = b := by
      by_cases hab : a = b
      · exact hab
      · exfalso
        have : ∀ (l : List Ag), l.Pairwise (fun a b => keyA a ≠ keyA b) → ∀ a ∈ l, ∀ b ∈ l, a ≠ b → keyA a ≠ keyA b := by
          intro l hl
          induction hl with
          | nil => intro a ha; simp at ha
          | cons hh _ ih =>
            intro a ha b hb hne
            rcases List.mem_cons.1 ha with ha1 | ha1
            · rcases List.mem_cons.1 hb with hb1 | hb1
              · exact absurd (ha1.trans hb1.symm) hne
              · rw [ha1]; exact hh b hb1
            · rcases List.mem_cons.1 hb with hb1 | hb1
              · rw [hb1]; exact fun e => hh a ha1 e.symm
              · exact ih a ha1 b hb1 hne
        exact this L h.keys a hL b hb hab (by rw [hx, hk, e])
    exact List.mem_map.2 ⟨p, hp, by rw [e2, hab]⟩
/-- A sorted list is told by what it has. -/
theorem sorted_eq : ∀ {L ys : List Ag}, ys.Perm L → ys.Pairwise (fun a b => a.t ≤ b.t) → L.Pairwise (fun a b => a.t < b.t) → ys = L
  | [], ys, hp, _, _ => List.perm_nil.1 hp
  | a :: L, [], hp, _, _ => absurd hp.length_eq (by simp)
  | a :: L, y :: ys, hp, hy, hL => by
    obtain ⟨h1, h2⟩ := List.pairwise_cons.1 hL
    obtain ⟨h3, h4⟩ := List.pairwise_cons.1 hy
    have e : y = a := by
      have hy' : y ∈ a :: L := hp.subset (List.mem_cons_self)
      have ha' : a ∈ y :: ys := hp.symm.subset (List.mem_cons_self)
      rcases List.mem_cons.1 hy' with e | hyL
      · exact e
      · rcases List.mem_cons.1 ha' with e | hay
        · exact e.symm
        · have := h1 y hyL
          have := h3 a hay
          omega
    subst e
    rw [sorted_eq (List.Perm.cons_inv hp) h4 h2]
/-- n of them from the start of a block. -/
def AgsAt (w : World) (g : Nat) (L : List Ag) : Prop := ∀ i a, L[i]? = some a → AgAt w g (i * 6) a
theorem AgsAt.below {w w' : World} {g : Nat} {L : List Ag} (h : AgsAt w g L) (hg : g < w.heap.size) (hb : Below w.heap.size w w') : AgsAt w' g L := fun i a hi => by
  obtain ⟨h0, h1, h2, h3, h4, h5⟩ := h i a hi
  exact ⟨(hb.cell (p := ⟨g, i * 6, none⟩) hg).trans h0, (hb.cell (p := ⟨g, i * 6 + 1, none⟩) hg).trans h1, (hb.cell (p := ⟨g, i * 6 + 2, none⟩) hg).trans h2, (hb.cell (p := ⟨g, i * 6 + 3, none⟩) hg).trans h3, (hb.cell (p := ⟨g, i * 6 + 4, none⟩) hg).trans h4, (hb.cell (p := ⟨g, i * 6 + 5, none⟩) hg).trans h5⟩
/-- A slice that holds these, below which nothing has turned. -/
def IsAgs (w : World) (v : Value) (L : List Ag) : Prop := (L = [] ∧ ∃ a c, v = .slice a 0 c) ∨ ∃ g c, v = .slice (some ⟨g, 0, none⟩) L.length c ∧ g < w.heap.size ∧ AgsAt w g L
theorem collectA_any (Bm b nn : Nat) (D0 : DataW Value) (w : World) (hBm : Bm < w.heap.size) (hm : w.cell? ⟨Bm, 0, none⟩ = some (.map (some b))) (hown : w.ownsMap Tryz.prog 39 RV b nn D0) (hall : Maps.size D0 ≤ 1048576) :
    Calls Tryz.prog 128 #[.func (.func 130) #[] #[.pointer (some ⟨Bm, 0, none⟩)]] w fun e w' => ∃ v xs, e = .returned v ∧ AllA D0 xs ∧ w'.ownsRow w.heap.size 125 6 v xs.length (agsCs xs) ∧ Below w.heap.size w w' := by
  have HA := (show Hid _ from appendSeqA_any Bm b nn D0 w hBm hm hown hall)
  clear hBm hm hown
  go_enter Tryz.func128, Tryz.ntmps128
  go_wp2_with fail
  refine Calls.mono HA.out ?_
  rintro e w1 ⟨v, xs, rfl, h1, h2, h3⟩
  have H3 : Hid (AllA D0 xs ∧ w1.ownsRow w.heap.size 125 6 v xs.length (agsCs xs) ∧ Below w.heap.size w w1) := ⟨h1, h2, h3⟩
  clear h1 h2 h3
  go_wp2
  go_ret
  exact ⟨v, xs, rfl, H3.out⟩
set_option maxHeartbeats 2000000 in
theorem sortedA_any (Bm b nn : Nat) (D0 : DataW Value) (L : List Ag) (w : World) (hBm : Bm < w.heap.size) (hm : w.cell? ⟨Bm, 0, none⟩ = some (.map (some b))) (hown : w.ownsMap Tryz.prog 39 RV b nn D0) (hR : Rep D0 L) (hall : Maps.size D0 ≤ 1048576) (hL : L.length ≤ 1048576) :
    Calls Tryz.prog 103 #[.func (.func 130) #[] #[.pointer (some ⟨Bm, 0, none⟩)], .func (.func 105) #[] #[]] w fun e w' => ∃ v, e = .returned v ∧ IsAgs w' v L ∧ Below w.heap.size w w' := by
  have HC := (show Hid _ from collectA_any Bm b nn D0 w hBm hm hown hall)
  have HR : Hid (Rep D0 L) := hR
  clear hBm hm hown hR
  go_enter Tryz.func103, Tryz.ntmps103
  go_wp2_with fail
  refine Calls.mono HC.out ?_
  rintro e w1 ⟨v, xs, rfl, h1, h2, h3⟩
  have hp : xs.Perm L := HR.out.perm h1
  have HP : Hid (xs.Perm L) := hp
  have HB1 : Hid (Below w.heap.size w w1) := h3
  have hxl : xs.length = L.length := hp.length_eq
  have hE : (List.range xs.length).map (fun i => xs.getD i ⟨0, 0, 0, none, 0, 0, none, 0, 0, 0⟩) = xs := by
    apply List.ext_getElem
    · simp
    · intro i h1 h2
      simp at h1
      simp [List.getD_eq_getElem?_getD, h1]
  have HRow : Hid (ARow w.heap.size w1 v (fun i => xs.getD i ⟨0, 0, 0, none, 0, 0, none, 0, 0, 0⟩) xs.length) := by
    show ARow _ _ _ _ _
    unfold ARow
    rw [hE]
    exact h2
  clear h1 h2 h3 hp hE
  have HS := (show Hid _ from sortA_any xs.length w.heap.size v (fun i => xs.getD i ⟨0, 0, 0, none, 0, 0, none, 0, 0, 0⟩) w1 HRow.out (by omega))
  go_wp2_with fail
  refine Calls.mono HS.out ?_
  rintro e w2 ⟨rfl, hres⟩
  have HF : Hid (IsAgs w2 v L ∧ Below w.heap.size w w2) := by
    show _ ∧ _
    rcases hres with ⟨h0, rfl⟩ | ⟨g, c, l, hv, hg, hgl, hp, hs, hgr, hT, hc, hF⟩
    · have hL0 : L = [] := List.length_eq_zero_iff.1 (by omega)
      refine ⟨.inl ⟨hL0, ?_⟩, HB1.out⟩
      rcases HRow.out.2 with ⟨e, _⟩ | ⟨g, c, cur, e, hg, hh, h5, h6, h7, h8⟩
      · exact ⟨_, _, e⟩
      · exact ⟨_, _, by rw [e, h0]⟩
    · have hys : (l.map (fun i => xs.getD i ⟨0, 0, 0, none, 0, 0, none, 0, 0, 0⟩)).Perm L := by
        refine List.Perm.trans (hp.map _) ?_
        have hE : (List.range xs.length).map (fun i => xs.getD i ⟨0, 0, 0, none, 0, 0, none, 0, 0, 0⟩) = xs := by
          apply List.ext_getElem
          · simp
          · intro i h1 h2
            simp at h1
            simp [List.getD_eq_getElem?_getD, h1]
        rw [hE]
        exact HP.out
      have hsrt : (l.map (fun i => xs.getD i ⟨0, 0, 0, none, 0, 0, none, 0, 0, 0⟩)).Pairwise (fun a b => a.t ≤ b.t) := by
        rw [List.pairwise_map]
        refine hs.imp ?_
        intro i j hij
        rw [ltK_no] at hij
        omega
      have hyL := sorted_eq hys hsrt HR.out.turns
      have hll : l.length = L.length := by rw [← hyL]; simp
      refine ⟨.inr ⟨g, c, by rw [hv, hxl], Nat.lt_of_lt_of_le hgl hgr.size, fun i a hi => ?_⟩, HB1.out.trans (below_grown hgr hg HB1.out.size)⟩
      have hiL : i < L.length := (List.getElem?_eq_some_iff.1 hi).1
      have := hF i (by omega)
      rw [← hyL] at hi
      rw [List.getElem?_map, List.getElem?_eq_getElem (by omega)] at hi
      have e2 : l.getD i 0 = l[i]'(by omega) := by simp [List.getD_eq_getElem?_getD, show i < l.length by omega]
      rw [e2] at this
      simp only [Option.map_some, Option.some.injEq] at hi
      rw [← hi]
      exact this
  clear hres
  go_wp2
  go_ret
  exact ⟨v, rfl, HF.out⟩
end Go.Proofs.YtciidkmonfmipaaGreat
/- The tiles of a shelf as they are told: in the order of their turns. -/

namespace Go.Proofs.YtciidkmonfmipaaGreat
open Go.RowKit Go.Sort Go.Shelf Go.Maps
set_option linter.unusedSimpArgs false
set_option linter.unusedVariables false
set_option maxRecDepth 100000

/-- The cells of a tile without its turn. -/
def kpCs (a : Ag) : List Value := [.int .i64 a.z, .int .i64 a.x, .int .i64 a.y, .slice a.fa a.fn a.fc, .slice a.ia a.m a.ic]
def kpsCs (l : List Ag) : List Value := l.flatMap kpCs
theorem kpCs_len (e : Ag) : (kpCs e).length = 5 := rfl
theorem kpCs_one (e : Ag) : ∀ v ∈ kpCs e, v.oneCell' = true := by simp [kpCs, Value.oneCell']
theorem kpsCs_cons (e : Ag) (l : List Ag) : kpsCs (e :: l) = kpCs e ++ kpsCs l := rfl
theorem kpsCs_app (l k : List Ag) : kpsCs (l ++ k) = kpsCs l ++ kpsCs k := by simp [kpsCs]
theorem kpsCs_get : ∀ (l : List Ag) (i k : Nat) (e : Ag), l[i]? = some e → k < 5 → (kpsCs l)[i * 5 + k]? = (kpCs e)[k]?
  | [], i, k, e, h, _ => by simp at h
  | a :: l, 0, k, e, h, hk => by
    simp at h
    subst h
    rw [kpsCs_cons, Nat.zero_mul, Nat.zero_add, List.getElem?_append_left (by rw [kpCs_len]; exact hk)]
  | a :: l, i + 1, k, e, h, hk => by
    have h' : l[i]? = some e := by simpa using h
    rw [kpsCs_cons, List.getElem?_append_right (by rw [kpCs_len]; omega), kpCs_len, ← kpsCs_get l i k e h' hk]
    congr 1
    omega
/-- A row of its own with these tiles. -/
def KRow (base : Nat) (w : World) (v : Value) (L : List Ag) : Prop := w.ownsRow base 72 5 v L.length (kpsCs L)
theorem ownsRow_wideK {base B s n : Nat} {t : TypeId} {w : World} {v : Value} {xs : List Value} (h : w.ownsRow base t s v n xs) (hB : B ≤ base) : w.ownsRow B t s v n xs := by
  obtain ⟨h1, h2 | ⟨g, cp, cur, hv, hg, h3⟩⟩ := h
  · exact ⟨h1, .inl h2⟩
  · exact ⟨h1, .inr ⟨g, cp, cur, hv, Nat.le_trans hB hg, h3⟩⟩
set_option maxHeartbeats 4000000 in
theorem inOrder_any (p mb nn : Nat) (s t : Int) (D : DataW Value) (L : List Ag) (w : World) (hp : ShA w p s t mb) (hm : w.ownsMap Tryz.prog 39 RV mb nn D) (hR : Rep D L) (hL : L.length ≤ 1000) (hD : Maps.size D ≤ 1000) :
    Calls Tryz.prog 69 #[.pointer (some ⟨p, 0, none⟩)] w fun e w' => ∃ v, e = .returned v ∧ KRow w.heap.size w' v L ∧ Below w.heap.size w w' := by
  obtain ⟨i0, hi, hz0, hz1, hz2⟩ := info_parts info_kp
  have HM : Hid (w.ownsMap Tryz.prog 39 RV mb nn D) := hm
  have HR : Hid (Rep D L) := hR
  have c2 := hp.2.2
  clear hp hm hR
  go_enter Tryz.func69, Tryz.ntmps69
  go_wp2_with fail
  refine (mapsValues_any mb w).mono ?_
  rintro e w1 ⟨rfl, hw1⟩
  have HB1 : Hid (Below w.heap.size w w1) := by show Below _ _ _; subst hw1; exact bl_alloc (Below.refl _ _) _
  have h1 : w1.cell? ⟨w.heap.size, 0, none⟩ = some (.map (some mb)) := by subst hw1; simp [go_sem]
  clear hw1 c2
  have HS := (show Hid _ from sortedA_any w.heap.size mb nn D L w1 (World.block_lt_of_cell? _ _ h1) h1 (ownsMap_below HM.out HB1.out) HR.out (by omega) (by omega))
  clear h1
  go_wp2_with fail
  refine Calls.mono HS.out ?_
  rintro e W ⟨v, rfl, hA, hb2⟩
  have HA : Hid (IsAgs W v L) := hA
  have HBW : Hid (Below w.heap.size w W) := bl_then HB1.out hb2
  obtain ⟨va, vc, hv⟩ : ∃ a c, v = .slice a L.length c := by
    rcases hA with ⟨h0, a, c, hv⟩ | ⟨g, c, hv, _⟩
    · exact ⟨a, c, by rw [hv, h0]; rfl⟩
    · exact ⟨_, c, hv⟩
  subst hv
  clear hA hb2 HS HB1 HM HR
  go_wp2_with fail
  go_loopw [3, 13] (fun u i wr => ∃ k : Nat, k ≤ L.length ∧ i = .int .i64 (k : Int) ∧ KRow W.heap.size wr u (L.take k) ∧ Below W.heap.size W wr) (fun _ i _ => L.length - (intOf i).toNat)
  case atStart => exact ⟨0, by omega, rfl, by rw [List.take_zero]; exact World.ownsRow_nil _ _ _ _, Below.refl _ _⟩
  case round =>
    obtain ⟨k, hk, rfl, hO, hB⟩ := hrel
    have HO : Hid (KRow W.heap.size wr u3 (L.take k)) := hO
    have HB : Hid (Below W.heap.size W wr) := hB
    by_cases hlt : k < L.length
    · obtain ⟨ag, hag⟩ : ∃ ag, L[k]? = some ag := ⟨_, List.getElem?_eq_getElem hlt⟩
      rcases HA.out with ⟨h0, _⟩ | ⟨g, c, hv, hgl, hcs⟩
      · rw [h0] at hlt; simp at hlt
      injection hv with e1 _ e3
      subst e1 e3
      obtain ⟨f0, f1, f2, f3, f4, f5⟩ := (hcs.below hgl hB) k ag hag
      have HLT : Hid (k < L.length) := hlt
      have hi' : (k : Int) < (L.length : Int) := by omega
      have hi0 : (0 : Int) ≤ (k : Int) := by omega
      have hlen : (L.take k).length = k := by rw [List.length_take]; omega
      have hszr := hB.size
      clear hO hB hcs
      go_wp2_with (first
        | (at_builtin; go_must (refine wpList_append_own _ rfl _ _ 32 rfl W.heap.size 72 i0 (.agg zeroKp) 5 72 Tryz.underlying32 hi hz0 hz1 hz2 rfl (by decide) u3 k (kpsCs (L.take k)) rfl ?c6 ⟨wr.heap.size + 1, 0, none⟩ 1 1 (kpCs ag) rfl ?c0 ?c1 ?c2 ?c3 ?c4 ?c5 ?_)))
      case c6 =>
        have := (HO.out.alloc (.cells #[.int .i64 ag.z, .int .i64 ag.x, .int .i64 ag.y, .slice ag.fa ag.fn ag.fc, .slice ag.ia ag.m ag.ic, .int .i64 ag.t] 125)).alloc (.cells #[.int .i64 ag.z, .int .i64 ag.x, .int .i64 ag.y, .slice ag.fa ag.fn ag.fc, .slice ag.ia ag.m ag.ic] 72)
        rw [hlen] at this
        exact this
      case c0 => rfl
      case c1 =>
        intro q u hq
        have hq5 : q < 5 := (List.getElem?_eq_some_iff.1 hq).1
        have hc : q = 0 ∨ q = 1 ∨ q = 2 ∨ q = 3 ∨ q = 4 := by omega
        rcases hc with rfl | rfl | rfl | rfl | rfl <;> (simp [kpCs] at hq; subst hq; simp [Addr.add, go_sem])
      case c2 => exact kpCs_one _
      case c3 => unfold maxLen; omega
      case c4 => omega
      case c5 => first | omega | (show _ ≤ wr.heap.size + 1; omega) | (simp; omega)
      intro v' w3 hown' hgrow hnil
      have HF : Hid (KRow W.heap.size w3 v' (L.take (k + 1))) := by
        show KRow _ _ _ _
        unfold KRow
        have e1 : L.take (k + 1) = L.take k ++ [ag] := by rw [List.take_add_one, hag]; rfl
        rw [e1, kpsCs_app, List.length_append, hlen]
        exact hown'
      have HB3 : Hid (Below W.heap.size W w3) := by
        show Below _ _ _
        have hb2 : Below W.heap.size W ((wr.alloc (.cells #[.int .i64 ag.z, .int .i64 ag.x, .int .i64 ag.y, .slice ag.fa ag.fn ag.fc, .slice ag.ia ag.m ag.ic, .int .i64 ag.t] 125)).alloc (.cells #[.int .i64 ag.z, .int .i64 ag.x, .int .i64 ag.y, .slice ag.fa ag.fn ag.fc, .slice ag.ia ag.m ag.ic] 72)) := (HB.out.alloc hszr _).alloc (by simp; omega) _
        refine hb2.grown hgrow hb2.size (fun j e => ?_)
        have e' : u3.ownBlock = some j := e
        rcases HO.out.2 with ⟨e2, _⟩ | ⟨g', c', cur, e2, hg', _⟩
        · rw [e2] at e'; cases e'
        · rw [e2] at e'
          have : g' = j := by simpa [Value.ownBlock] using e'
          omega
      clear hnil hown' hgrow f0 f1 f2 f3 f4 f5 HO HB
      go_wp2_with fail
      go_roundw
      case rel => exact ⟨k + 1, by have := HLT.out; omega, by go_num, HF.out, HB3.out⟩
      case measure => have := HLT.out; simp [intOf]; omega
    · obtain rfl : k = L.length := by omega
      rw [List.take_length] at HO
      have HBe : Hid (Below w.heap.size w wr) := bl_then HBW.out HB.out
      have hWs := HBW.out.size
      have HOw : Hid (KRow w.heap.size wr u3 L) := by
        show KRow _ _ _ _
        exact ownsRow_wideK HO.out hWs
      clear hO hB
      go_wp2
      go_ret
      exact ⟨u3, rfl, HOw.out, HBe.out⟩
end Go.Proofs.YtciidkmonfmipaaGreat
/- What a shelf's map has behind a tile that is put or taken. -/

namespace Go.Proofs.YtciidkmonfmipaaGreat
open Go.RowKit Go.Sort Go.Shelf Go.Maps
set_option linter.unusedSimpArgs false
set_option linter.unusedVariables false
set_option maxRecDepth 100000

/-- A tile is of a ref. -/
def isA (a : Ag) (z x y : Int) : Bool := (a.z == z) && ((a.x == x) && (a.y == y))
theorem isA_iff {a : Ag} {z x y : Int} : isA a z x y = true ↔ a.z = z ∧ a.x = x ∧ a.y = y := by simp [isA]
theorem isA_key {a : Ag} {z x y : Int} (ha : I64 a.z ∧ I64 a.x ∧ I64 a.y) (hr : I64 z ∧ I64 x ∧ I64 y) : keyA a = keyL z x y ↔ isA a z x y = true := by
  rw [isA_iff]
  exact ⟨fun e => key_inj ha.1 ha.2.1 ha.2.2 hr.1 hr.2.1 hr.2.2 e, fun ⟨h1, h2, h3⟩ => by unfold keyA; rw [h1, h2, h3]⟩
/-- All but the tile of a ref. -/
def lessL (L : List Ag) (z x y : Int) : List Ag := L.filter (fun b => !isA b z x y)
theorem mem_lessL {L : List Ag} {z x y : Int} {a : Ag} : a ∈ lessL L z x y ↔ a ∈ L ∧ isA a z x y = false := by simp [lessL]
theorem lessL_none {L : List Ag} {z x y : Int} (h : ∀ a ∈ L, isA a z x y = false) : lessL L z x y = L := by
  unfold lessL
  exact List.filter_eq_self.2 (fun a ha => by rw [h a ha]; rfl)
theorem lessL_len : ∀ {L : List Ag} {z x y : Int}, L.Pairwise (fun a b => keyA a ≠ keyA b) → (∃ a ∈ L, isA a z x y = true) → (lessL L z x y).length + 1 = L.length
  | [], _, _, _, _, ⟨a, ha, _⟩ => by simp at ha
  | b :: L, z, x, y, hk, ⟨a, ha, hA⟩ => by
    obtain ⟨h1, h2⟩ := List.pairwise_cons.1 hk
    cases hb : isA b z x y
    · have ha' : a ∈ L := (List.mem_cons.1 ha).resolve_left (fun e => by rw [e, hb] at hA; cases hA)
      have ih := lessL_len h2 ⟨a, ha', hA⟩
      unfold lessL at *
      rw [List.filter_cons_of_pos (by rw [hb]; rfl)]
      simp only [List.length_cons]
      omega
    · have hno : ∀ c ∈ L, isA c z x y = false := fun c hc => by
        cases hcA : isA c z x y
        · rfl
        · exfalso
          obtain ⟨e1, e2, e3⟩ := isA_iff.1 hb
          obtain ⟨d1, d2, d3⟩ := isA_iff.1 hcA
          exact h1 c hc (by unfold keyA; rw [e1, e2, e3, d1, d2, d3])
      have := lessL_none hno
      unfold lessL at *
      rw [List.filter_cons_of_neg (by rw [hb]; decide), this]
      rfl
theorem Rep.hasR {D : DataW Value} {L : List Ag} (h : Rep D L) {z x y : Int} (hr : I64 z ∧ I64 x ∧ I64 y) : Maps.has D (keyL z x y) = true ↔ ∃ a ∈ L, isA a z x y = true := by
  obtain ⟨k, hk⟩ : ∃ k, keyL z x y = .string k := ⟨_, rfl⟩
  rw [hk, h.has k]
  exact ⟨fun ⟨a, ha, e⟩ => ⟨a, ha, (isA_key (h.ints a ha) hr).1 (e.trans hk.symm)⟩, fun ⟨a, ha, e⟩ => ⟨a, ha, ((isA_key (h.ints a ha) hr).2 e).trans hk⟩⟩
theorem Rep.nil : Rep (.map []) [] := ⟨Maps.tidy_empty, rfl, by simp, fun x => by simp [Maps.has], by simp, List.Pairwise.nil, List.Pairwise.nil⟩
theorem Rep.less {D : DataW Value} {L : List Ag} (h : Rep D L) {z x y : Int} (hr : I64 z ∧ I64 x ∧ I64 y) : Rep (D.del (keyL z x y)) (lessL L z x y) := by
  obtain ⟨k, hk⟩ : ∃ k, keyL z x y = .string k := ⟨_, rfl⟩
  refine ⟨h.tidy.del _, ?_, fun a ha => h.ints a (mem_lessL.1 ha).1, fun q => ?_, fun a ha zd => ?_, h.keys.filter _, h.turns.filter _⟩
  · have hs := Maps.size_del h.tidy (k := keyL z x y)
    by_cases hh : ∃ a ∈ L, isA a z x y = true
    · rw [if_pos ((h.hasR hr).2 hh)] at hs
      have := lessL_len h.keys hh
      have := h.size
      omega
    · rw [if_neg (fun e => hh ((h.hasR hr).1 e))] at hs
      have hno : ∀ a ∈ L, isA a z x y = false := fun a ha => by
        cases e : isA a z x y
        · rfl
        · exact absurd ⟨a, ha, e⟩ hh
      rw [lessL_none hno]
      have := h.size
      omega
  · by_cases e : (.string q : Lit) = keyL z x y
    · rw [e, Maps.has_del_same]
      constructor
      · intro h'; cases h'
      · rintro ⟨a, ha, hka⟩
        obtain ⟨ha1, ha2⟩ := mem_lessL.1 ha
        have := (isA_key (h.ints a ha1) hr).1 hka
        rw [ha2] at this; cases this
    · rw [Maps.has_del_other e, h.has q]
      constructor
      · rintro ⟨a, ha, hka⟩
        refine ⟨a, mem_lessL.2 ⟨ha, ?_⟩, hka⟩
        cases hA : isA a z x y
        · rfl
        · exact absurd (hka.symm.trans ((isA_key (h.ints a ha) hr).2 hA)) e
      · rintro ⟨a, ha, hka⟩
        exact ⟨a, (mem_lessL.1 ha).1, hka⟩
  · obtain ⟨ha1, ha2⟩ := mem_lessL.1 ha
    have hne : keyA a ≠ keyL z x y := fun e => by
      have := (isA_key (h.ints a ha1) hr).1 e
      rw [ha2] at this; cases this
    rw [Maps.atKey_del_other hne]
    exact h.at_ a ha1 zd
theorem Rep.put {D : DataW Value} {L : List Ag} (h : Rep D L) (a : Ag) (hr : I64 a.z ∧ I64 a.x ∧ I64 a.y) (ht : ∀ b ∈ L, b.t < a.t) : Rep (D.put (keyA a) (.held (agW a))) (lessL L a.z a.x a.y ++ [a]) := by
  have hne : ∀ b ∈ lessL L a.z a.x a.y, keyA b ≠ keyA a := fun b hb e => by
    obtain ⟨hb1, hb2⟩ := mem_lessL.1 hb
    have := (isA_key (h.ints b hb1) hr).1 e
    rw [hb2] at this; cases this
  refine ⟨h.tidy.put (keyL_is _ _ _) _, ?_, fun b hb => ?_, fun q => ?_, fun b hb zd => ?_, ?_, ?_⟩
  · rw [Maps.size_put h.tidy, List.length_append]
    by_cases hh : ∃ b ∈ L, isA b a.z a.x a.y = true
    · rw [if_pos ((h.hasR hr).2 hh), h.size, ← lessL_len h.keys hh]; rfl
    · rw [if_neg (fun e => hh ((h.hasR hr).1 e)), h.size]
      have hno : ∀ b ∈ L, isA b a.z a.x a.y = false := fun b hb => by
        cases e : isA b a.z a.x a.y
        · rfl
        · exact absurd ⟨b, hb, e⟩ hh
      rw [lessL_none hno]; rfl
  · rcases List.mem_append.1 hb with hb | hb
    · exact h.ints b (mem_lessL.1 hb).1
    · simp at hb; rw [hb]; exact hr
  · by_cases e : (.string q : Lit) = keyA a
    · rw [e, Maps.has_put_same h.tidy.isMap (keyL_is _ _ _)]
      exact ⟨fun _ => ⟨a, List.mem_append_right _ (by simp), rfl⟩, fun _ => rfl⟩
    · rw [Maps.has_put_other e, h.has q]
      constructor
      · rintro ⟨b, hb, hkb⟩
        refine ⟨b, List.mem_append_left _ (mem_lessL.2 ⟨hb, ?_⟩), hkb⟩
        cases hA : isA b a.z a.x a.y
        · rfl
        · exact absurd (hkb.symm.trans ((isA_key (h.ints b hb) hr).2 hA)) e
      · rintro ⟨b, hb, hkb⟩
        rcases List.mem_append.1 hb with hb | hb
        · exact ⟨b, (mem_lessL.1 hb).1, hkb⟩
        · simp at hb; subst hb; exact absurd hkb.symm e
  · rcases List.mem_append.1 hb with hb | hb
    · rw [Maps.atKey_put_other (hne b hb)]
      exact h.at_ b (mem_lessL.1 hb).1 zd
    · simp at hb; subst hb
      exact Maps.atKey_put_same h.tidy.isMap (keyL_is _ _ _) _ _
  · refine List.pairwise_append.2 ⟨h.keys.filter _, by simp, fun b hb c hc => ?_⟩
    simp at hc; subst hc
    exact hne b hb
  · refine List.pairwise_append.2 ⟨h.turns.filter _, by simp, fun b hb c hc => ?_⟩
    simp at hc; subst hc
    exact ht b (mem_lessL.1 hb).1
/-- A kept tile with a turn. -/
def agK (k : Kp) (t : Int) : Ag := ⟨k.z, k.x, k.y, k.fa, k.fn, k.fc, k.ia, k.m, k.ic, t⟩
/-- The tiles of a cache, with their turns. -/
def agL (A : Nat → Kp) : Nat → List Ag
  | 0 => []
  | k + 1 => agL A k ++ [agK (A k) ((k : Int) + 1)]
theorem agL_len (A : Nat → Kp) : ∀ k, (agL A k).length = k
  | 0 => rfl
  | k + 1 => by simp [agL, agL_len A k]
theorem agL_mem {A : Nat → Kp} {a : Ag} : ∀ {k : Nat}, a ∈ agL A k ↔ ∃ i, i < k ∧ a = agK (A i) ((i : Int) + 1)
  | 0 => by simp [agL]
  | k + 1 => by
    rw [agL, List.mem_append, agL_mem]
    constructor
    · rintro (⟨i, hi, e⟩ | h)
      · exact ⟨i, by omega, e⟩
      · simp at h; exact ⟨k, by omega, h⟩
    · rintro ⟨i, hi, e⟩
      by_cases hk : i = k
      · subst hk; exact .inr (by simp [e])
      · exact .inl ⟨i, by omega, e⟩
theorem shD_rep {A : Nat → Kp} : ∀ k, (∀ j, j < k → kC A j = 0) → Rep (shD A k) (agL A k)
  | 0, _ => Rep.nil
  | k + 1, h => by
    have ih := shD_rep k (fun j hj => h j (by omega))
    obtain ⟨h0, h1⟩ := kC_zero (h k (by omega))
    have hI := tC_I64 h0
    have hp := ih.put (agK (A k) ((k : Int) + 1)) hI (fun b hb => by
      obtain ⟨i, hi, rfl⟩ := agL_mem.1 hb
      show (i : Int) + 1 < (k : Int) + 1
      omega)
    rw [lessL_none (fun b hb => ?_)] at hp
    · exact hp
    · obtain ⟨i, hi, rfl⟩ := agL_mem.1 hb
      cases e : isA (agK (A i) ((i : Int) + 1)) (agK (A k) ((k : Int) + 1)).z (agK (A k) ((k : Int) + 1)).x (agK (A k) ((k : Int) + 1)).y
      · rfl
      · exfalso
        obtain ⟨e1, e2, e3⟩ := isA_iff.1 e
        exact h1 (atK_pos.2 ⟨i, hi, isK_iff.2 ⟨e1, e2, e3⟩⟩)
end Go.Proofs.YtciidkmonfmipaaGreat
