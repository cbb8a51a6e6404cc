/- Several texts in one. -/
import Derived.Test.YtciidkmonfmipaaGreatVPutTile35
import Derived.Test.YtciidkmonfmipaaGreatVPutTile25
import Derived.Test.YtciidkmonfmipaaGreatVPutTile15

/- The shelf told as a cache in memory of its own. -/

namespace Go.Proofs.YtciidkmonfmipaaGreat
open Go.RowKit
set_option linter.unusedSimpArgs false
set_option linter.unusedVariables false
set_option maxRecDepth 100000

/-- A kept tile whose features and Ids may be copied. -/
def SrcK (w : World) (k : Kp) : Prop := (∃ fb, k.fa = some ⟨fb, 0, none⟩ ∧ FsAt w fb 0 k.fn k.F ∧ fb < w.heap.size) ∧ k.fn ≤ 12 ∧ (∀ i, i < k.fn → 0 < (k.F i).n) ∧ SmallK k ∧ ∃ ib io, k.ia = some ⟨ib, io, none⟩ ∧ NsAt w ib io k.m k.I ∧ ib < w.heap.size
theorem SrcK.below {w w' : World} {k : Kp} (h : SrcK w k) (hb : Below w.heap.size w w') : SrcK w' k := by
  obtain ⟨⟨fb, h1, h2, h3⟩, h4, h5, h6, ib, io, h7, h8, h9⟩ := h
  exact ⟨⟨fb, h1, h2.below hb h3, Nat.lt_of_lt_of_le h3 hb.size⟩, h4, h5, h6, ib, io, h7, h8.below hb h9, Nat.lt_of_lt_of_le h9 hb.size⟩
/-- A kept tile of its own, the same as another, in blocks from lo on and below hi. -/
def KpIn (w : World) (lo hi : Nat) (k r : Kp) : Prop :=
  (r.z = k.z ∧ r.x = k.x ∧ r.y = k.y) ∧ r.fn = k.fn ∧ r.m = k.m ∧ r.I = k.I ∧ ∃ md, lo ≤ md ∧ md ≤ hi ∧ FOwn w lo md r.fa k.fn k.F r.F ∧ (k.m = 0 ∨ ∃ ib, r.ia = some ⟨ib, 0, none⟩ ∧ md ≤ ib ∧ ib < hi ∧ NsAt w ib 0 k.m k.I ∧ There w ib k.m)
theorem KpNew.in {w : World} {lo : Nat} {k r : Kp} (h : KpNew w lo k r) : KpIn w lo w.heap.size k r := by
  obtain ⟨h1, h2, h4, h5, md, hlo, hhi, h3, h6⟩ := h
  refine ⟨h1, h2, h4, h5, md, hlo, hhi, h3, ?_⟩
  by_cases h0 : k.m = 0
  · exact .inl h0
  · right
    obtain ⟨e1, ⟨_, e2⟩ | ⟨g, cp, cur, hv, hg, hb, h7⟩⟩ := id h6
    · exact absurd e2 h0
    · injection hv with hv _ _
      have hl : g < w.heap.size := (Array.getElem?_eq_some_iff.1 hb).1
      rw [hv] at h6
      have hc : ∀ i, i < k.m → w.cell? ⟨g, i, none⟩ = some (.int .i64 (k.I i)) := fun i hi => by
        rw [h6.cellAt i (by simpa using hi)]
        simp [hi]
      exact ⟨g, hv, hg, hl, fun i hi => by rw [Nat.zero_add]; exact hc i hi, fun i hi => ⟨⟨_, hc i hi⟩, h6.frozenAt i⟩⟩
theorem KpIn.below {w w' : World} {lo hi : Nat} {k r : Kp} (h : KpIn w lo hi k r) (hb : Below w.heap.size w w') : KpIn w' lo hi k r := by
  obtain ⟨h1, h2, h4, h5, md, hlo, hhi, h3, h6⟩ := h
  refine ⟨h1, h2, h4, h5, md, hlo, hhi, h3.keep hb, h6.imp id (fun ⟨ib, e, a1, a2, a3, a4⟩ => ?_)⟩
  have hl : k.m = 0 ∨ ib < w.heap.size := by
    by_cases h0 : k.m = 0
    · exact .inl h0
    · exact .inr (World.block_lt_of_cell? _ _ (a3 0 (by omega)))
  rcases hl with h0 | hl
  · exact ⟨ib, e, a1, a2, fun i hi => by omega, fun i hi => by omega⟩
  · exact ⟨ib, e, a1, a2, a3.below hb hl, a4.below hb⟩
theorem KpIn.mid {w w' : World} {lo hi l h' : Nat} {k r : Kp} (h : KpIn w lo hi k r) (hM : MidB l h' w w') (hh : h' ≤ lo) : KpIn w' lo hi k r := by
  obtain ⟨h1, h2, h4, h5, md, hlo, hhi, h3, h6⟩ := h
  exact ⟨h1, h2, h4, h5, md, hlo, hhi, h3.mid' hM hh, h6.imp id (fun ⟨ib, e, a1, a2, a3, a4⟩ => ⟨ib, e, a1, a2, fun i hi => hM.cell (a3 i hi) (.inr (by omega)), hM.there a4 (.inr (by omega))⟩)⟩
/-- Kept tiles of its own: block g, each in blocks between two marks. -/
def KsIn (w : World) (g k n : Nat) (KL R : Nat → Kp) (M : Nat → Nat) : Prop :=
  (∀ j, j < n → KpAt w g (j * 5) (if j < k then R j else KL j)) ∧ There w g (n * 5) ∧ g < M 0 ∧ (∀ j, j < k → M j ≤ M (j + 1) ∧ KpIn w (M j) (M (j + 1)) (KL j) (R j)) ∧ M k ≤ w.heap.size
/-- The answer: a cache of its own with n tiles. -/
def CaNew (w : World) (B : Nat) (a : Option Addr) (n : Nat) (KL R : Nat → Kp) : Prop := n = 0 ∨ ∃ g M, a = some ⟨g, 0, none⟩ ∧ B ≤ g ∧ KsIn w g n n KL R M
theorem marks_le {w : World} {M : Nat → Nat} {k : Nat} {KL R : Nat → Kp} (h : ∀ j, j < k → M j ≤ M (j + 1) ∧ KpIn w (M j) (M (j + 1)) (KL j) (R j)) : ∀ j, j ≤ k → M 0 ≤ M j := by
  intro j
  induction j with
  | zero => intro _; exact Nat.le_refl _
  | succ j ih => intro hj; exact Nat.le_trans (ih (by omega)) (h j (by omega)).1
theorem kpsCs_row {base : Nat} {w : World} {L : List Ag} {g c : Nat} (h : KRow base w (.slice (some ⟨g, 0, none⟩) L.length c) L) {KL : Nat → Kp} (hK : ∀ i a, L[i]? = some a → ∃ t, a = agK (KL i) t) : (∀ j, j < L.length → KpAt w g (j * 5) (KL j)) ∧ There w g (L.length * 5) := by
  have h' : w.ownsRow base 72 5 (.slice (some ⟨g, 0, none⟩) L.length c) L.length (kpsCs L) := h
  have hl : (kpsCs L).length = L.length * 5 := h'.1
  refine ⟨fun j hj => ?_, fun o ho => ?_⟩
  · obtain ⟨a, ha⟩ : ∃ a, L[j]? = some a := ⟨_, List.getElem?_eq_getElem hj⟩
    obtain ⟨t, rfl⟩ := hK j a ha
    have hc : ∀ q, q < 5 → w.cell? ⟨g, j * 5 + q, none⟩ = (kpCs (agK (KL j) t))[q]? := fun q hq => by
      rw [h'.cellAt (j * 5 + q) (by omega), kpsCs_get L j q _ ha hq]
    exact ⟨hc 0 (by omega), hc 1 (by omega), hc 2 (by omega), hc 3 (by omega), hc 4 (by omega)⟩
  · refine ⟨?_, h'.frozenAt o⟩
    rw [h'.cellAt o (by omega)]
    exact ⟨_, List.getElem?_eq_getElem (by omega)⟩
theorem resCa {T : Array Value} {Wf : World} {r : Nat} {s : Int} {v : Value} (hT : T[2]?.getD undef = .pointer (some ⟨r, 0, none⟩)) (h0 : Wf.cell? ⟨r, 0, none⟩ = some (.int .i64 s)) (h1 : Wf.cell? ⟨r, 1, none⟩ = some v) :
    (results Tryz.f34 T).run Tryz.prog Wf = .ok (caV s v) Wf := by
  simp [results, Tryz.results34, go_sem, hT, h0, h1]
set_option maxHeartbeats 8000000 in
theorem shelfCache_any (B p : Nat) (s t : Int) (L : List Ag) (KL : Nat → Kp) (w : World) (h : Shf w B p s t L) (hL : L.length ≤ 100) (hK : ∀ i a, L[i]? = some a → ∃ t, a = agK (KL i) t) (hsrc : ∀ i, i < L.length → SrcK w (KL i)) :
    Calls Tryz.prog 34 #[.pointer (some ⟨p, 0, none⟩)] w fun e w' => ∃ a c R, e = .returned (caV s (.slice a L.length c)) ∧ CaNew w' w.heap.size a L.length KL R ∧ Below w.heap.size w w' := by
  have HSh : Hid (Shf w B p s t L) := h
  have HK : Hid (∀ i a, L[i]? = some a → ∃ t, a = agK (KL i) t) := hK
  have HSr : Hid (∀ i, i < L.length → SrcK w (KL i)) := hsrc
  have HP : Hid (ShA w p s t h.choose) := h.choose_spec.choose_spec.2.2.1
  have hpl : p < w.heap.size := World.block_lt_of_cell? _ _ HP.out.1
  have HC0 : Hid (w.cell? ⟨p, 0, none⟩ = some (.int .i64 s)) := HP.out.1
  clear h hK hsrc HP
  go_enter Tryz.func34, Tryz.ntmps34
  go_wp2_with fail
  generalize hU : (w.alloc _ : World) = U
  have HBU : Hid (Below w.heap.size w U) := by show Below _ _ _; subst hU; (repeat (first | exact Below.refl _ _ | assumption | refine Below.drew ?_ | refine bl_alloc ?_ _ | refine bl_then ?_ (by assumption) | refine Below.setCell ?_ (by first | omega | (simp; done) | (simp; omega)) _ | refine bl_store ?_ ?_ _ _))
  have HTU : Hid (There U w.heap.size 2) := by show There _ _ _; subst hU; exact there2k _ _ _ _
  have hUl : w.heap.size < U.heap.size := by subst hU; simp
  clear hU
  refine (Shf_order B p s t L U (HSh.out.below HBU.out) hL).mono ?_
  rintro e W ⟨v, rfl, hR, hbW⟩
  have HR : Hid (KRow U.heap.size W v L) := hR
  have HBW : Hid (Below U.heap.size U W) := hbW
  have HWw : Hid (Below w.heap.size w W) := bl_then HBU.out hbW
  have HTW : Hid (There W w.heap.size 2) := HTU.out.below hbW
  obtain ⟨va, vc, hv⟩ : ∃ a c, v = .slice a L.length c := by
    obtain ⟨_, ⟨h1, h2⟩ | ⟨g, c, cur, hv, _⟩⟩ := id hR
    · exact ⟨none, 0, by rw [h1, h2]⟩
    · exact ⟨_, c, hv⟩
  subst hv
  have hWl := hbW.size
  clear hR hbW HTU HBU
  go_wp2_with fail
  go_loopw [10] (fun i wr => ∃ k : Nat, k ≤ L.length ∧ i = .int .i64 (k : Int) ∧ Below w.heap.size w wr ∧ There wr w.heap.size 2 ∧ (L.length = 0 ∨ ∃ g R M, va = some ⟨g, 0, none⟩ ∧ U.heap.size ≤ g ∧ KsIn wr g k L.length KL R M)) (fun i _ => L.length - (intOf i).toNat)
  case atStart =>
    refine ⟨0, by omega, rfl, HWw.out, HTW.out, ?_⟩
    by_cases h0 : L.length = 0
    · exact .inl h0
    · right
      obtain ⟨_, ⟨_, h2⟩ | ⟨g, c, cur, hv, hg, hb, _⟩⟩ := id HR.out
      · exact absurd h2 h0
      · have hgl : g < W.heap.size := (Array.getElem?_eq_some_iff.1 hb).1
        injection hv with e1 _ e3
        subst e1 e3
        obtain ⟨h1, h2⟩ := kpsCs_row HR.out HK.out
        exact ⟨g, KL, fun _ => W.heap.size, rfl, hg, fun j hj => by simpa using h1 j hj, h2, hgl, fun j hj => by omega, Nat.le_refl _⟩
  case round =>
    obtain ⟨k, hk, rfl, hB, hT, hKs⟩ := hrel
    have HB : Hid (Below w.heap.size w wr) := hB
    have HT : Hid (There wr w.heap.size 2) := hT
    by_cases hlt : k < L.length
    · obtain ⟨g, R, M, rfl, hgU, hKs⟩ := hKs.resolve_left (by omega)
      have HKs : Hid (KsIn wr g k L.length KL R M) := hKs
      obtain ⟨q0, q1, q2, q3, q4⟩ := hKs.1 k hlt
      simp only [Nat.lt_irrefl, if_false] at q0 q1 q2 q3 q4
      have HLT : Hid (k < L.length) := hlt
      have hi : (k : Int) < (L.length : Int) := by omega
      have hi0 : (0 : Int) ≤ (k : Int) := by omega
      clear hB hT hKs
      go_wp2_with fail
      generalize hV : (wr.alloc _ : World) = V
      have HBV : Hid (Below wr.heap.size wr V) := by show Below _ _ _; subst hV; (repeat (first | exact Below.refl _ _ | assumption | refine Below.drew ?_ | refine bl_alloc ?_ _ | refine bl_then ?_ (by assumption) | refine Below.setCell ?_ (by first | omega | (simp; done) | (simp; omega)) _ | refine bl_store ?_ ?_ _ _))
      clear hV q0 q1 q2 q3 q4
      obtain ⟨⟨fb, s1, s2, s3⟩, s4, s5, s6, ib, io, s7, s8, s9⟩ := (HSr.out k hlt).below (bl_then HB.out HBV.out)
      have HCk := (show Hid _ from copyKept_any (KL k) fb ib io V s1 s2 s3 s4 s5 s6 s7 s8 s9)
      clear s1 s2 s3 s4 s5 s6 s7 s8 s9
      refine Calls.mono HCk.out ?_
      rintro e w1 ⟨r, rfl, hN, hb1⟩
      have HN : Hid (KpIn w1 V.heap.size w1.heap.size (KL k) r) := hN.in
      have HB1 : Hid (Below wr.heap.size wr w1) := bl_then HBV.out hb1
      have hVs := HBV.out.size
      have h1s := hb1.size
      obtain ⟨c1, c2, c3, c4, c5⟩ := HKs.out
      have hgl : g < wr.heap.size := by have := marks_le c4 k (Nat.le_refl _); omega
      have hTg := c2.below HB1.out
      have t0 := hTg.cell (k * 5) (by omega)
      have t1 := hTg.cell (k * 5 + 1) (by omega)
      have t2 := hTg.cell (k * 5 + 2) (by omega)
      have t3 := hTg.cell (k * 5 + 3) (by omega)
      have t4 := hTg.cell (k * 5 + 4) (by omega)
      have f0 := (hTg (k * 5) (by omega)).2
      have f1 := (hTg (k * 5 + 1) (by omega)).2
      have f2 := (hTg (k * 5 + 2) (by omega)).2
      have f3 := (hTg (k * 5 + 3) (by omega)).2
      have f4 := (hTg (k * 5 + 4) (by omega)).2
      have HTg : Hid (There w1 g (L.length * 5)) := hTg
      clear hN hb1 hTg c1 c2 c3 c4 c5 HCk HBV
      go_wp2_with fail
      generalize hwF : (World.setCell _ _ _ : World) = wF
      have HL : Hid (wF = layK w1 g (k * 5) r) := by show _ = _; subst hwF; rfl
      clear hwF t0 t1 t2 t3 t4 f0 f1 f2 f3 f4
      have HM : Hid (MidB g (g + 1) w1 wF) := by show MidB _ _ _ _; rw [HL.out]; exact layK_mid _ _ _ _
      have HBF : Hid (Below w.heap.size w wF) := (bl_then HB.out HB1.out).trans ((HM.out.below (by omega)).mono (by omega))
      have HTF : Hid (There wF w.heap.size 2) := HM.out.there (HT.out.below HB1.out) (.inl (by omega))
      have HKF : Hid (KsIn wF g (k + 1) L.length KL (fun j => if j = k then r else R j) (fun j => if j ≤ k then M j else w1.heap.size)) := by
        obtain ⟨c1, c2, c3, c4, c5⟩ := HKs.out
        have hm0 := marks_le c4
        have hsF : wF.heap.size = w1.heap.size := by rw [HL.out]; exact layK_size _ _ _ _
        refine ⟨fun j hj => ?_, by rw [HL.out]; exact layK_there HTg.out, by simpa using c3, fun j hj => ?_, ?_⟩
        · by_cases e : j = k
          · subst e
            rw [if_pos (Nat.lt_succ_self _)]
            dsimp only
            rw [if_pos rfl, HL.out]
            exact layK_at HTg.out (by omega)
          · have hA := (c1 j hj).below HB1.out hgl
            have hA2 : KpAt wF g (j * 5) (if j < k then R j else KL j) := by
              obtain ⟨a0, a1, a2, a3, a4⟩ := hA
              rw [HL.out]
              refine ⟨?_, ?_, ?_, ?_, ?_⟩
              · rw [layK_other (.inr (by show j * 5 < k * 5 ∨ k * 5 + 4 < j * 5; omega))]; exact a0
              · rw [layK_other (.inr (by show j * 5 + 1 < k * 5 ∨ k * 5 + 4 < j * 5 + 1; omega))]; exact a1
              · rw [layK_other (.inr (by show j * 5 + 2 < k * 5 ∨ k * 5 + 4 < j * 5 + 2; omega))]; exact a2
              · rw [layK_other (.inr (by show j * 5 + 3 < k * 5 ∨ k * 5 + 4 < j * 5 + 3; omega))]; exact a3
              · rw [layK_other (.inr (by show j * 5 + 4 < k * 5 ∨ k * 5 + 4 < j * 5 + 4; omega))]; exact a4
            by_cases hjk : j < k
            · rw [if_pos (by omega)]
              dsimp only
              rw [if_neg e]
              rw [if_pos hjk] at hA2
              exact hA2
            · rw [if_neg (by omega)]
              rw [if_neg hjk] at hA2
              exact hA2
        · by_cases e : j = k
          · subst e
            dsimp only
            rw [if_pos (Nat.le_refl _), if_neg (by omega), if_pos rfl]
            refine ⟨by omega, ?_⟩
            have := HN.out.mid HM.out (by have := hm0 0 (by omega); omega)
            obtain ⟨n1, n2, n4, n5, md, m1, m2, n3, n6⟩ := this
            exact ⟨n1, n2, n4, n5, md, by omega, m2, n3.wide (by omega), n6⟩
          · have hjk : j < k := by omega
            dsimp only
            rw [if_pos (by omega), if_pos (by omega), if_neg e]
            have hj := c4 j hjk
            refine ⟨hj.1, (hj.2.below HB1.out).mid HM.out (by have := hm0 j (by omega); omega)⟩
        · dsimp only
          rw [if_neg (by omega)]; omega
      clear HL HM HN HTg HKs
      go_wp2_with fail
      go_roundw
      case rel => exact ⟨k + 1, by have := HLT.out; omega, by go_num, HBF.out, HTF.out, .inr ⟨g, _, _, rfl, hgU, HKF.out⟩⟩
      case measure => have := HLT.out; simp [intOf]; omega
    · obtain rfl : k = L.length := by omega
      have c0 : wr.cell? ⟨p, 0, none⟩ = some (.int .i64 s) := (hB.cell (p := ⟨p, 0, none⟩) hpl).trans HC0.out
      have t0 := hT.cell 0 (by omega)
      have t1 := hT.cell 1 (by omega)
      have f0 := (hT 0 (by omega)).2
      have f1 := (hT 1 (by omega)).2
      have HKs : Hid (L.length = 0 ∨ ∃ g R M, va = some ⟨g, 0, none⟩ ∧ U.heap.size ≤ g ∧ KsIn wr g L.length L.length KL R M) := hKs
      clear hB hT hKs
      go_wp2_with fail
      obtain ⟨q0, q1⟩ := set2_at (W := wr) (r := w.heap.size) (i := 0) (j := 1) (u := .int .i64 s) (v := .slice va L.length vc) (by omega) (by rw [t0]; rfl) (by rw [t1]; rfl)
      have hMM : MidB w.heap.size (w.heap.size + 1) wr ((wr.setCell ⟨w.heap.size, 0, none⟩ (.int .i64 s)).setCell ⟨w.heap.size, 1, none⟩ (.slice va L.length vc)) := ((MidB.refl _ _ _).set (Nat.le_refl _) (Nat.lt_succ_self _) _ _).set (Nat.le_refl _) (Nat.lt_succ_self _) _ _
      have hfin : ∃ R, CaNew ((wr.setCell ⟨w.heap.size, 0, none⟩ (.int .i64 s)).setCell ⟨w.heap.size, 1, none⟩ (.slice va L.length vc)) w.heap.size va L.length KL R := by
        rcases HKs.out with h0 | ⟨g, R, M, e, hgU, c1, c2, c3, c4, c5⟩
        · exact ⟨KL, .inl h0⟩
        · refine ⟨R, .inr ⟨g, M, e, by omega, fun j hj => ?_, hMM.there c2 (.inr (by omega)), c3, fun j hj => ⟨(c4 j hj).1, (c4 j hj).2.mid hMM (by have := marks_le c4 j (by omega); omega)⟩, Nat.le_trans c5 hMM.size⟩⟩
          obtain ⟨a0, a1, a2, a3, a4⟩ := c1 j hj
          exact ⟨hMM.cell a0 (.inr (by omega)), hMM.cell a1 (.inr (by omega)), hMM.cell a2 (.inr (by omega)), hMM.cell a3 (.inr (by omega)), hMM.cell a4 (.inr (by omega))⟩
      obtain ⟨R, hR⟩ := hfin
      exact bodyPost_ret (resCa rfl q0 q1) rfl ⟨va, vc, R, rfl, hR, HB.out.trans (hMM.below HB.out.size)⟩
end Go.Proofs.YtciidkmonfmipaaGreat
/- The model's copy of a tile. -/

namespace Go.Proofs.YtciidkmonfmipaaGreat
open Go.RowKit
set_option linter.unusedSimpArgs false
set_option linter.unusedVariables false
set_option maxRecDepth 100000

/-- The four cells that a copy reads. -/
def CtS (W : World) (q : Nat) (z x y : Int) (v : Value) : Prop := W.cell? ⟨q, 0, none⟩ = some (.int .i64 z) ∧ W.cell? ⟨q, 1, none⟩ = some (.int .i64 x) ∧ W.cell? ⟨q, 2, none⟩ = some (.int .i64 y) ∧ W.cell? ⟨q, 3, none⟩ = some v
theorem CtS.below {w w' : World} {q : Nat} {z x y : Int} {v : Value} (h : CtS w q z x y v) (hb : Below w.heap.size w w') : CtS w' q z x y v :=
  have hl := World.block_lt_of_cell? _ _ h.1
  ⟨(hb.cell (p := ⟨q, 0, none⟩) hl).trans h.1, (hb.cell (p := ⟨q, 1, none⟩) hl).trans h.2.1, (hb.cell (p := ⟨q, 2, none⟩) hl).trans h.2.2.1, (hb.cell (p := ⟨q, 3, none⟩) hl).trans h.2.2.2⟩
theorem there4c (V : World) (a b c d : Value) (t : TypeId) : There (V.alloc (.cells #[a, b, c, d] t)) V.heap.size 4 := fun o ho => by
  have hc : o = 0 ∨ o = 1 ∨ o = 2 ∨ o = 3 := by omega
  rcases hc with rfl | rfl | rfl | rfl <;> exact ⟨⟨_, by simp [go_sem]; rfl⟩, by simp [go_sem]⟩
theorem resCT {T : Array Value} {Wf : World} {r : Nat} {z x y : Int} {u : Value} (hT : T[2]?.getD undef = .pointer (some ⟨r, 0, none⟩)) (h0 : Wf.cell? ⟨r, 0, none⟩ = some (.int .i64 z)) (h1 : Wf.cell? ⟨r, 1, none⟩ = some (.int .i64 x)) (h2 : Wf.cell? ⟨r, 2, none⟩ = some (.int .i64 y)) (h3 : Wf.cell? ⟨r, 3, none⟩ = some u) :
    (results Tryz.f55 T).run Tryz.prog Wf = .ok (.agg #[.int .i64 z, .int .i64 x, .int .i64 y, u]) Wf := by
  simp [results, Tryz.results55, go_sem, hT, h0, h1, h2, h3]
set_option maxHeartbeats 4000000 in
theorem l11CopyTile_any (z x y : Int) (fb n fc : Nat) (F : Nat → Feat) (w : World) (hft : FsAt w fb 0 n F) (hfl : fb < w.heap.size) (hn : n ≤ 12) (hpos : ∀ i, i < n → 0 < (F i).n) (hs : SmallFs n F) :
    Calls Tryz.prog 55 #[.agg #[.int .i64 z, .int .i64 x, .int .i64 y, .slice (some ⟨fb, 0, none⟩) n fc]] w fun e w' => ∃ g c H, e = .returned (.agg #[.int .i64 z, .int .i64 x, .int .i64 y, .slice (some ⟨g, 0, none⟩) n c]) ∧ g < w'.heap.size ∧ FOwn w' w.heap.size w'.heap.size (some ⟨g, 0, none⟩) n F H ∧ Below w.heap.size w w' := by
  have HCf : Hid (∀ W, Below w.heap.size w W → Calls Tryz.prog 85 #[.slice (some ⟨fb, 0, none⟩) n fc] W fun e w' => ∃ g c H, e = .returned (.slice (some ⟨g, 0, none⟩) n c) ∧ g < w'.heap.size ∧ FOwn w' W.heap.size w'.heap.size (some ⟨g, 0, none⟩) n F H ∧ Below W.heap.size W w') := fun W h => by
    refine (l2Copy_any fb n fc F W (hft.below h hfl) (Nat.lt_of_lt_of_le hfl h.size) hn hpos hs).mono ?_
    rintro e w' ⟨v, H, rfl, hnn, h1, h2, h3⟩
    obtain ⟨a, c, rfl, _, h4⟩ := fown_of h1 h2 hpos
    rcases h1.at with ⟨hv, _⟩ | ⟨g, c', hv, _, hgl, _⟩
    · exact absurd hv hnn
    · injection hv with e1 _ _
      subst e1
      exact ⟨g, c, H, rfl, hgl, h4, h3⟩
  clear hft hfl hn hpos hs
  go_enter Tryz.func55, Tryz.ntmps55
  go_wp2_with fail
  generalize hW : ((w.alloc _).alloc _ : World) = W
  have HB0 : Hid (Below w.heap.size w W) := by show Below _ _ _; subst hW; (repeat (first | exact Below.refl _ _ | assumption | refine Below.drew ?_ | refine bl_alloc ?_ _ | refine bl_then ?_ (by assumption) | refine Below.setCell ?_ (by first | omega | (simp; done) | (simp; omega)) _ | refine bl_store ?_ ?_ _ _))
  have HS : Hid (CtS W w.heap.size z x y (.slice (some ⟨fb, 0, none⟩) n fc)) := by show CtS _ _ _ _ _ _; subst hW; refine ⟨?_, ?_, ?_, ?_⟩ <;> simp [go_sem]
  have HT : Hid (There W (w.heap.size + 1) 4) := by
    show There _ _ _
    subst hW
    have := there4c (w.alloc (.cells #[.int .i64 z, .int .i64 x, .int .i64 y, .slice (some ⟨fb, 0, none⟩) n fc] 42)) (.int .i64 0) (.int .i64 0) (.int .i64 0) (.slice none 0 0) 42
    simpa using this
  have hsz : w.heap.size + 1 < W.heap.size := by subst hW; simp
  clear hW
  refine wp_region_noPanic ?_
  refine wp_region_held_drew (S := fun W' => CtS W' w.heap.size z x y (.slice (some ⟨fb, 0, none⟩) n fc)) (by kernel_rfl) HS.out (fun hHeld => ?_)
  have hSd : CtS W.drew w.heap.size z x y (.slice (some ⟨fb, 0, none⟩) n fc) := HS.out
  refine takeD (i := 0) (d := some 3) (v := ?va0) rfl rfl (by kernel_rfl) (by kernel_rfl) (by kernel_rfl) (fun _ _ _ h => h) (Or.inl ⟨by rfl, ?hya0⟩) (by assumption) ?_
  case hya0 => (intro w hSw; obtain ⟨k0, k1, k2, k3⟩ := (show CtS w _ z x y _ from hSw); go_simp <;> with_reducible rfl)
  try simp only [Act.put, List.setIfInBounds_toArray, List.set_cons_zero, List.set_cons_succ]
  refine takeD (i := 1) (d := some 4) (v := ?va1) rfl rfl (by kernel_rfl) (by kernel_rfl) (by kernel_rfl) (fun _ _ _ h => h) (Or.inl ⟨by rfl, ?hya1⟩) (by assumption) ?_
  case hya1 => (intro w hSw; obtain ⟨k0, k1, k2, k3⟩ := (show CtS w _ z x y _ from hSw); go_simp <;> with_reducible rfl)
  try simp only [Act.put, List.setIfInBounds_toArray, List.set_cons_zero, List.set_cons_succ]
  refine takeD (i := 2) (d := some 5) (v := ?va2) rfl rfl (by kernel_rfl) (by kernel_rfl) (by kernel_rfl) (fun _ _ _ h => h) (Or.inl ⟨by rfl, ?hya2⟩) (by assumption) ?_
  case hya2 => (intro w hSw; obtain ⟨k0, k1, k2, k3⟩ := (show CtS w _ z x y _ from hSw); go_simp <;> with_reducible rfl)
  try simp only [Act.put, List.setIfInBounds_toArray, List.set_cons_zero, List.set_cons_succ]
  refine takeD (i := 3) (d := some 6) (v := ?va3) rfl rfl (by kernel_rfl) (by kernel_rfl) (by kernel_rfl) (fun _ _ _ h => h) (Or.inl ⟨by rfl, ?hya3⟩) (by assumption) ?_
  case hya3 => (intro w hSw; obtain ⟨k0, k1, k2, k3⟩ := (show CtS w _ z x y _ from hSw); go_simp <;> with_reducible rfl)
  try simp only [Act.put, List.setIfInBounds_toArray, List.set_cons_zero, List.set_cons_succ]
  have hD0 : Below W.heap.size W W.drew := by have := Below.refl W.heap.size W; (repeat (first | exact Below.refl _ _ | assumption | refine Below.drew ?_ | refine bl_alloc ?_ _ | refine bl_then ?_ (by assumption) | refine Below.setCell ?_ (by first | omega | (simp; done) | (simp; omega)) _ | refine bl_store ?_ ?_ _ _))
  generalize W.drew = wk0 at *
  refine wpAnyH_ready (rs := [4]) (by kernel_rfl) (by simp) ?_
  refine (AllReadyH.cons rfl (fun K hK => ?_) AllReadyH.nil)
  rw [if_pos (by rfl)]
  go_simp
  refine Calls.mono (HCf.out _ (bl_then HB0.out hD0)) ?_
  rintro e wk1 ⟨rg, rc, RF, rfl, hg1, hF1, hb1⟩
  have hS1 : CtS wk1 w.heap.size z x y (.slice (some ⟨fb, 0, none⟩) n fc) := hSd.below hb1
  have HD1 : Hid (Below W.heap.size W wk1) := bl_then hD0 hb1
  have HF1 : Hid (FOwn wk1 wk0.heap.size wk1.heap.size (some ⟨rg, 0, none⟩) n F RF) := hF1
  have HG1 : Hid (rg < wk1.heap.size) := hg1
  have hz0 := hD0.size
  clear hF1 hg1 hSd
  go_wp2_with fail
  refine hK.out _ _ (by assumption) (fun hHeld => ?_)
  clear hK K
  try simp only [Act.put, List.setIfInBounds_toArray, List.set_cons_zero, List.set_cons_succ]
  refine takeD (i := 5) (d := some 8) (v := ?vb5) rfl rfl (by kernel_rfl) (by kernel_rfl) (by kernel_rfl) (fun _ _ _ h => h) (Or.inl ⟨by rfl, ?hyb5⟩) (by assumption) ?_
  case hyb5 => (intro w hSw; skip; go_simp <;> with_reducible rfl)
  try simp only [Act.put, List.setIfInBounds_toArray, List.set_cons_zero, List.set_cons_succ]
  have hT2 := HT.out.below HD1.out
  have HT2 : Hid (There wk1 (w.heap.size + 1) 4) := hT2
  have t0 := hT2.cell 0 (by omega)
  have t1 := hT2.cell 1 (by omega)
  have t2 := hT2.cell 2 (by omega)
  have t3 := hT2.cell 3 (by omega)
  have f0 := (hT2 0 (by omega)).2
  have f1 := (hT2 1 (by omega)).2
  have f2 := (hT2 2 (by omega)).2
  have f3 := (hT2 3 (by omega)).2
  refine wpAnyH_ready (rs := [6]) (by kernel_rfl) (by simp) ?_
  refine (AllReadyH.cons rfl (fun K hK => ?_) AllReadyH.nil)
  rw [if_pos (by rfl)]
  go_simp
  obtain ⟨q0, q1, q2, q3⟩ := set4_at (a := .int .i64 z) (b := .int .i64 x) (c := .int .i64 y) (d := .slice (some ⟨rg, 0, none⟩) n rc) HT2.out
  generalize hwF : (World.setCell _ _ _ : World) = wF at *
  have hM : MidB (w.heap.size + 1) (w.heap.size + 1 + 1) wk1 wF := by subst hwF; exact ((((MidB.refl _ _ _).set (Nat.le_refl _) (Nat.lt_succ_self _) _ _).set (Nat.le_refl _) (Nat.lt_succ_self _) _ _).set (Nat.le_refl _) (Nat.lt_succ_self _) _ _).set (Nat.le_refl _) (Nat.lt_succ_self _) _ _
  have hSF : CtS wF w.heap.size z x y (.slice (some ⟨fb, 0, none⟩) n fc) := by
    obtain ⟨a0, a1, a2, a3⟩ := hS1
    exact ⟨hM.cell a0 (.inl (by omega)), hM.cell a1 (.inl (by omega)), hM.cell a2 (.inl (by omega)), hM.cell a3 (.inl (by omega))⟩
  refine hK.out _ _ hSF (fun hHeld => ?_)
  clear hK K
  try simp only [Act.put, List.setIfInBounds_toArray, List.set_cons_zero, List.set_cons_succ]
  refine wpAnyH_done (by kernel_rfl) ?_ _
  refine NoPanic.normal ?_
  have hs2 := HD1.out.size
  have HQ : Hid (wF.cell? ⟨w.heap.size + 1, 0, none⟩ = some (.int .i64 z) ∧ wF.cell? ⟨w.heap.size + 1, 1, none⟩ = some (.int .i64 x) ∧ wF.cell? ⟨w.heap.size + 1, 2, none⟩ = some (.int .i64 y) ∧ wF.cell? ⟨w.heap.size + 1, 3, none⟩ = some (.slice (some ⟨rg, 0, none⟩) n rc)) := ⟨q0, q1, q2, q3⟩
  have HFin : Hid (rg < wF.heap.size ∧ FOwn wF w.heap.size wF.heap.size (some ⟨rg, 0, none⟩) n F RF ∧ Below w.heap.size w wF) := ⟨Nat.lt_of_lt_of_le HG1.out hM.size, HF1.out.mid hM (by omega) (by omega), (bl_then HB0.out HD1.out).trans (hM.below (by omega) |>.mono (by omega))⟩
  clear hwF hM hSF q0 q1 q2 q3 hS1 hT2 HT2
  clear t0 f0
  clear t1 f1
  clear t2 f2
  clear t3 f3
  go_wp2_with fail
  exact bodyPost_ret (resCT rfl HQ.out.1 HQ.out.2.1 HQ.out.2.2.1 HQ.out.2.2.2) rfl ⟨rg, rc, RF, rfl, HFin.out⟩
end Go.Proofs.YtciidkmonfmipaaGreat
/- A tile is taken out of a cache: the program. -/

namespace Go.Proofs.YtciidkmonfmipaaGreat
open Go.RowKit
set_option linter.unusedSimpArgs false
set_option linter.unusedVariables false
set_option maxRecDepth 100000

theorem leM (n : Nat) : n ≤ n + 1 + 1 := by omega
theorem agL_map (A : Nat → Kp) : ∀ n, agL A n = (List.range n).map (fun i => agK (A i) ((i : Int) + 1))
  | 0 => rfl
  | n + 1 => by rw [agL, agL_map A n, List.range_succ, List.map_append]; rfl
/-- The places of all tiles but that of a ref. -/
def lessI (n : Nat) (A : Nat → Kp) (z x y : Int) : List Nat := (List.range n).filter (fun i => !isK (A i) z x y)
theorem lessL_agL (A : Nat → Kp) (n : Nat) (z x y : Int) : lessL (agL A n) z x y = (lessI n A z x y).map (fun i => agK (A i) ((i : Int) + 1)) := by
  rw [agL_map]
  unfold lessL lessI
  rw [List.filter_map]
  rfl
theorem lessI_mem {n : Nat} {A : Nat → Kp} {z x y : Int} {i : Nat} (h : i ∈ lessI n A z x y) : i < n := by
  unfold lessI at h
  exact List.mem_range.1 (List.mem_filter.1 h).1
theorem lessI_len (n : Nat) (A : Nat → Kp) (z x y : Int) : (lessI n A z x y).length ≤ n := by
  have := List.length_filter_le (fun i => !isK (A i) z x y) (List.range n)
  simpa [lessI] using this
theorem featC_posM {id la ki wi : Int} {n : Nat} {X Y : Nat → Int} {lab : ByteArray} {pr : Int} (h : featC id la ki wi n X Y lab pr = 0) : 0 < n ∧ n ≤ 12 := by
  unfold featC at h
  by_cases h1 : rngB id la ki wi pr = true
  · by_cases h2 : sizeB ki n = true
    · unfold sizeB at h2
      by_cases k1 : ki = 1
      · rw [if_pos k1] at h2; simp at h2; omega
      · rw [if_neg k1] at h2
        by_cases k2 : ki = 2
        · rw [if_pos k2] at h2; simp [inB] at h2; omega
        · rw [if_neg k2] at h2; simp [inB] at h2; omega
    · simp [h1, h2] at h
  · simp [h1] at h
theorem SrcK_of {w : World} {b n : Nat} {A : Nat → Kp} (ha : KoAt w b n A) (hs : SmallKs n A) {i : Nat} (hi : i < n) (h0 : tC (A i) = 0) : SrcK w (A i) := by
  obtain ⟨_, ⟨fb, e1, e2, e3⟩, hids⟩ := ha.2 i hi
  have hr := tC_zero h0
  obtain ⟨_, hf, _⟩ := rtC_zero hr
  obtain ⟨h12, _, hfc⟩ := featsC_ok hf
  refine ⟨⟨fb, e1, e3, e2⟩, h12, fun j hj => (featC_posM (hfc j hj)).1, hs.2 i hi, ?_⟩
  have hm : (A i).m = 64 := by
    unfold tC at h0
    rw [if_pos hr] at h0
    by_cases hsame : sameI (A i).m (rtL (A i).z (A i).x (A i).y (A i).fn (A i).F).length (A i).I (nz (rtL (A i).z (A i).x (A i).y (A i).fn (A i).F)) = true
    · unfold sameI at hsame
      simp at hsame
      have hl : (rtL (A i).z (A i).x (A i).y (A i).fn (A i).F).length = 64 := by unfold rtL; rw [if_pos hr, rasK_len]
      omega
    · rw [if_neg hsame] at h0; cases h0
  rcases hids with h | ⟨ib, io, e, hl, hn⟩
  · omega
  · exact ⟨ib, io, e, hn, hl⟩
/-- An answer with a cache. -/
abbrev crcV (c s : Int) (v : Value) : Value := .agg #[.int .i64 c, .int .i64 s, v]
theorem There.belowK {W W' : World} {r n B : Nat} (h : There W r n) (hb : Below B W W') (hr : r < B) : There W' r n := fun o ho => by
  obtain ⟨⟨v, h1⟩, h2⟩ := h o ho
  exact ⟨⟨v, (hb.cell (p := ⟨r, o, none⟩) hr).trans h1⟩, (hb.frozen (p := ⟨r, o, none⟩) hr).trans h2⟩
end Go.Proofs.YtciidkmonfmipaaGreat
