/- The law of CountIds returns true at every list of numbers. -/
import Derived.Test.YtabjjmfjbhnkdaaCn3
import Derived.Test.YtabjjmfjbhnkdaaUpWalk
namespace Go.Proofs.Ytabjjmfjbhnkdaa
open Go.RowKit
set_option linter.unusedSimpArgs false
set_option linter.unusedVariables false
set_option maxRecDepth 100000

theorem FnExactCountIds_big (a : Option Addr) (n cap : Nat) (w : World) (h : 1048576 < n) :
    Calls Try.prog 5 #[.slice a n cap] w fun e w' => e = .returned (.bool true) ∧ Below w.heap.size w w' := by
  have hbi : (1048576 : Int) < (n : Int) := by omega
  go_enter Try.func5, Try.ntmps5
  go_wp2
  go_ret
  exact ⟨rfl, by (repeat (first | exact Below.refl _ _ | assumption | refine Below.drew ?_ | refine bl_alloc ?_ _ | refine bl_then ?_ (by assumption) | refine Below.setCell ?_ (by first | omega | (simp; done) | (simp; omega)) _ | refine bl_store ?_ ?_ _ _))⟩
set_option maxHeartbeats 16000000 in
theorem FnExactCountIds_law (c : Int) (a : Option Addr) (n cap m : Nat) (Zs Z : Nat → Int) (w1 : World) (hI : IsNs w1 a n Zs) (hn : n ≤ 1048576) (hm : m ≤ 1048576)
    (hsp : ∀ b W, NsAt W b 0 n Zs → b < W.heap.size → Calls Try.prog 20 #[.slice (some ⟨b, 0, none⟩) n n] W fun e w' => ∃ v, e = .returned (.agg #[.int .i64 c, v]) ∧ OwnN w' W.heap.size v m Z ∧ Below W.heap.size W w')
    (him : ∀ b W, NsAt W b 0 n Zs → b < W.heap.size → Calls Try.prog 21 #[.slice (some ⟨b, 0, none⟩) n n] W fun e w' => ∃ v, e = .returned (.agg #[.int .i64 c, v]) ∧ OwnN w' W.heap.size v m Z ∧ Below W.heap.size W w') :
    Calls Try.prog 5 #[.slice a n cap] w1 fun e w' => e = .returned (.bool true) ∧ Below w1.heap.size w1 w' := by
  have hbi : ¬ (1048576 : Int) < (n : Int) := by omega
  have HI : Hid (IsNs w1 a n Zs) := hI
  have Hsp := (show Hid _ from hsp)
  have Him := (show Hid _ from him)
  have hB1 : Below w1.heap.size w1 w1 := Below.refl _ _
  clear hI hsp him
  go_enter Try.func5, Try.ntmps5
  go_wp2_with fail
  refine (toInt64S_own a n cap Zs _ HI.out hn).mono ?_
  rintro e wp ⟨bp, rfl, hlep, hltp, hpp, htp, hbp⟩
  have HPp : Hid (NsAt wp bp 0 n Zs) := hpp
  have HBp : Hid (Below w1.heap.size w1 wp) := hbp
  clear hpp htp hbp
  go_wp2_with fail
  refine (Hsp.out _ _ HPp.out hltp).mono ?_
  rintro e wq ⟨vq, rfl, hOq, hbq⟩
  obtain ⟨a0, cap0, rfl, hc0, hI0⟩ := hOq.pts
  have HIq : Hid (IsNs wq a0 m Z) := hI0
  have HBq : Hid (Below w1.heap.size w1 wq) := bl_then HBp.out hbq
  clear hOq hI0 hbq HPp HBp
  go_wp2_with fail
  generalize hW3 : (wq.alloc _ : World) = w3
  have hb3 : Below wq.heap.size wq w3 := by subst hW3; (repeat (first | exact Below.refl _ _ | assumption | refine Below.drew ?_ | refine bl_alloc ?_ _ | refine bl_then ?_ (by assumption) | refine Below.setCell ?_ (by first | omega | (simp; done) | (simp; omega)) _ | refine bl_store ?_ ?_ _ _))
  have p0 : w3.cell? ⟨wq.heap.size, 0, none⟩ = some (.int .i64 c) := by subst hW3; simp [go_sem]
  have p1 : w3.cell? ⟨wq.heap.size, 1, none⟩ = some (.slice a0 m cap0) := by subst hW3; simp [go_sem]
  clear hW3
  obtain ⟨b7, hb7e⟩ : ∃ b, wq.heap.size = b := ⟨_, rfl⟩
  have hb7q : b7 < w3.heap.size := by rw [← hb7e]; exact World.block_lt_of_cell? _ _ p0
  have hl7 := hb7q
  have HI3 : Hid (UnderN w3.heap.size w3 a0 m Z) := HIq.out.below hb3
  have hB3 : Below w1.heap.size w1 w3 := bl_then HBq.out hb3
  rw [hb7e] at p0 p1
  simp only [hb7e]
  clear hb3 HIq HBq hb7e
  have d0 : ∀ W', Below w3.heap.size w3 W' → W'.cell? ⟨b7, 0, none⟩ = some (.int .i64 c) := fun W' h => bl_cellN h p0
  have d1 : ∀ W', Below w3.heap.size w3 W' → W'.cell? ⟨b7, 1, none⟩ = some (.slice a0 m cap0) := fun W' h => bl_cellN h p1
  clear p0 p1
  have hw3 := hB3.size
  refine (toInt64S_own a n cap Zs _ (HI.out.below hB3) hn).mono ?_
  rintro e w4 ⟨b4, rfl, hle4, hlt4, hp4, ht4, hb4⟩
  have HP4 : Hid (NsAt w4 b4 0 n Zs) := hp4
  have HT4 : Hid (There w4 b4 n) := ht4
  have hB4 : Below w1.heap.size w1 w4 := bl_then hB3 hb4
  have HI4 : Hid (UnderN w3.heap.size w4 a0 m Z) := HI3.out.below hb4 (Nat.le_refl _)
  have d0' : ∀ W', Below w4.heap.size w4 W' → W'.cell? ⟨b7, 0, none⟩ = some (.int .i64 c) := fun W' h => d0 W' (bl_then hb4 h)
  have d1' : ∀ W', Below w4.heap.size w4 W' → W'.cell? ⟨b7, 1, none⟩ = some (.slice a0 m cap0) := fun W' h => d1 W' (bl_then hb4 h)
  have hle34 := hb4.size
  clear hp4 ht4 d0 d1 HI3
  go_wp2_with fail
  refine (Him.out _ _ HP4.out hlt4).mono ?_
  rintro e wr ⟨vr, rfl, hOr, hbr⟩
  obtain ⟨a1, cap1, rfl, hc1, _⟩ := hOr.pts
  have hkr := hOr.blk
  have HOr : Hid (OwnN wr w4.heap.size (.slice a1 m cap1) m Z) := hOr
  clear hOr
  have z0 := d0' _ hbr
  have z1 := d1' _ hbr
  have lz : b7 < wr.heap.size := World.block_lt_of_cell? _ _ z0
  go_wp2_with fail
  generalize hW5 : (wr.alloc _ : World) = w5
  have hb5 : Below wr.heap.size wr w5 := by subst hW5; (repeat (first | exact Below.refl _ _ | assumption | refine Below.drew ?_ | refine bl_alloc ?_ _ | refine bl_then ?_ (by assumption) | refine Below.setCell ?_ (by first | omega | (simp; done) | (simp; omega)) _ | refine bl_store ?_ ?_ _ _))
  have r0 : w5.cell? ⟨wr.heap.size, 0, none⟩ = some (.int .i64 c) := by subst hW5; simp [go_sem]
  have r1 : w5.cell? ⟨wr.heap.size, 1, none⟩ = some (.slice a1 m cap1) := by subst hW5; simp [go_sem]
  clear hW5
  have hB5 : Below w4.heap.size w4 w5 := bl_then hbr hb5
  obtain ⟨b9, hb9e⟩ : ∃ b, wr.heap.size = b := ⟨_, rfl⟩
  have hb9 : w4.heap.size ≤ b9 := by rw [← hb9e]; exact hbr.size
  have hl9 : b9 < w5.heap.size := by rw [← hb9e]; exact World.block_lt_of_cell? _ _ r0
  have hO5 : OwnN w5 w4.heap.size (.slice a1 m cap1) m Z := HOr.out.below hb5
  have hne5 : ∀ s, m ≠ 0 → a1 = some ⟨s, 0, none⟩ → s ≠ b9 := fun s h1 h2 => by have := hkr s h1 h2; omega
  rw [hb9e] at r0 r1
  simp only [hb9e]
  clear hb5 hbr HOr z0 z1 lz hb9e hkr
  have HO5 : Hid (OwnN w5 w4.heap.size (.slice a1 m cap1) m Z) := hO5
  have HNE : Hid (∀ s, m ≠ 0 → a1 = some ⟨s, 0, none⟩ → s ≠ b9) := hne5
  have HI5 : Hid (UnderN w3.heap.size w5 a0 m Z) := HI4.out.below hB5 hle34
  have p0 := d0' _ hB5
  have p1 := d1' _ hB5
  have HP5 : Hid (NsAt w5 b4 0 n Zs) := HP4.out.below hB5 hlt4
  have HT5 : Hid (There w5 b4 n) := HT4.out.below hB5
  have hw5 := hB5.size
  have HB5 : Hid (Below w1.heap.size w1 w5) := bl_then hB4 hB5
  clear hO5 hne5 d0' d1' HI4 HP4 HT4 hB4 hB5
  refine (eqIntsResult_any c _ _ _ _ _ Z _ HO5.out.is (HI5.out.is (by omega)) hm).mono ?_
  rintro e w6 ⟨rfl, hb6⟩
  have hw6 := hb6.size
  have HO6 : Hid (OwnN w6 w4.heap.size (.slice a1 m cap1) m Z) := HO5.out.below hb6
  have HI6 : Hid (UnderN w3.heap.size w6 a0 m Z) := HI5.out.below hb6 (by omega)
  have HP6 : Hid (NsAt w6 b4 0 n Zs) := HP5.out.below hb6 (by omega)
  have HT6 : Hid (There w6 b4 n) := HT5.out.below hb6
  have HB6 : Hid (Below w1.heap.size w1 w6) := bl_then HB5.out hb6
  have g0 := bl_cellN hb6 r0
  have g1 := bl_cellN hb6 r1
  have h0 := bl_cellN hb6 p0
  have h1 := bl_cellN hb6 p1
  clear r0 r1 p0 p1 hb6 HO5 HI5 HP5 HT5 HB5
  go_wp2_with fail
  refine (toInt64S_own a n cap Zs _ (HI.out.below HB6.out) hn).mono ?_
  rintro e w7 ⟨b7', rfl, hle7, hlt7, hp7, ht7, hb7'⟩
  have HQ7 : Hid (NsAt w7 b7' 0 n Zs) := hp7
  have hw7 := hb7'.size
  have HO7 : Hid (OwnN w7 w4.heap.size (.slice a1 m cap1) m Z) := HO6.out.below hb7'
  have HI7 : Hid (UnderN w3.heap.size w7 a0 m Z) := HI6.out.below hb7' (by omega)
  have HP7 : Hid (NsAt w7 b4 0 n Zs) := HP6.out.below hb7' (by omega)
  have HT7 : Hid (There w7 b4 n) := HT6.out.below hb7'
  have HB7 : Hid (Below w1.heap.size w1 w7) := bl_then HB6.out hb7'
  have r0 := bl_cellN hb7' g0
  have r1 := bl_cellN hb7' g1
  have p0 := bl_cellN hb7' h0
  have p1 := bl_cellN hb7' h1
  clear g0 g1 h0 h1 hb7' HO6 HI6 HP6 HT6 HB6 hp7 ht7
  go_wp2_with fail
  refine (eqInt64S_any _ _ _ _ _ Zs _ (HP7.out.is (by omega)) (HQ7.out.is hlt7) hn).mono ?_
  rintro e w8 ⟨rfl, hb8⟩
  have hw8 := hb8.size
  have HO8 : Hid (OwnN w8 w4.heap.size (.slice a1 m cap1) m Z) := HO7.out.below hb8
  have HI8 : Hid (UnderN w3.heap.size w8 a0 m Z) := HI7.out.below hb8 (by omega)
  have HT8 : Hid (There w8 b4 n) := HT7.out.below hb8
  have HB8 : Hid (Below w1.heap.size w1 w8) := bl_then HB7.out hb8
  have g0 := bl_cellN hb8 r0
  have g1 := bl_cellN hb8 r1
  have h0 := bl_cellN hb8 p0
  have h1 := bl_cellN hb8 p1
  clear r0 r1 p0 p1 hb8 HO7 HI7 HP7 HQ7 HT7 HB7
  have HK : Hid (∀ W, There W b4 n → b4 < W.heap.size → Calls Try.prog 17 #[.slice (some ⟨b4, 0, none⟩) n n, .int .i64 1] W fun e w' => e = .returned (.int .i64 ((1 + n : Nat) : Int)) ∧ W.grownBy w' (some b4)) := fun W hT hl => (markInt64S_any b4 n n 1 W hT hl hn (by omega)).mono fun e w' ⟨he, hg, _, _⟩ => ⟨he, hg⟩
  have hqn : ¬ ((1 + n : Nat) : Int) < 0 := by omega
  generalize ((1 + n : Nat) : Int) = qn at *
  go_wp2_with fail
  -- the argument is marked
  refine Calls.mono (HK.out _ HT8.out (by omega)) ?_
  rintro e wa ⟨rfl, hGa⟩
  have hwa := hGa.size
  have l0 : wa.cell? ⟨b9, 0, none⟩ = some (.int .i64 c) := ro_cellN hGa g0 (fun s hs => by injection hs with hs; omega)
  have l1 : wa.cell? ⟨b9, 1, none⟩ = some (.slice a1 m cap1) := ro_cellN hGa g1 (fun s hs => by injection hs with hs; omega)
  have m0 : wa.cell? ⟨b7, 0, none⟩ = some (.int .i64 c) := ro_cellN hGa h0 (fun s hs => by injection hs with hs; omega)
  have m1 : wa.cell? ⟨b7, 1, none⟩ = some (.slice a0 m cap0) := ro_cellN hGa h1 (fun s hs => by injection hs with hs; omega)
  have HOa : Hid (OwnN wa w4.heap.size (.slice a1 m cap1) m Z) := HO8.out.row hGa (by omega)
  have HIa : Hid (UnderN w3.heap.size wa a0 m Z) := HI8.out.row hGa (fun s hs => by injection hs with hs; omega)
  have HBa : Hid (Below w1.heap.size w1 wa) := HB8.out.trans (below_rowN hGa (fun s hs => by injection hs with hs; omega) (by omega))
  clear g0 g1 h0 h1 hGa HO8 HI8 HT8 HB8 HK
  go_wp2_with fail
  refine (eqIntsResult_any c _ _ _ _ _ Z _ HOa.out.is (HIa.out.is (by omega)) hm).mono ?_
  rintro e wb ⟨rfl, hbb⟩
  have g0 := bl_cellN hbb l0
  have g1 := bl_cellN hbb l1
  have h0 := bl_cellN hbb m0
  have h1 := bl_cellN hbb m1
  have hwb := hbb.size
  have HOb : Hid (OwnN wb w4.heap.size (.slice a1 m cap1) m Z) := HOa.out.below hbb
  have HIb : Hid (UnderN w3.heap.size wb a0 m Z) := HIa.out.below hbb (by omega)
  have HBb : Hid (Below w1.heap.size w1 wb) := bl_then HBa.out hbb
  clear l0 l1 m0 m1 HOa HIa HBa hbb
  -- the answer is marked
  obtain ⟨row, hrow, Hmark⟩ := mark_ownU c w4.heap.size m cap1 a1 Z wb HOb.out hm
  have Hmark' := (show Hid _ from Hmark)
  have Hrow : Hid (∀ s, row = some s → w4.heap.size ≤ s ∧ s ≠ b9) := fun s hs => ⟨(hrow s hs).1, HNE.out s (hrow s hs).2.1 (hrow s hs).2.2⟩
  clear Hmark hrow
  have hqm : ¬ ((1 + m : Nat) : Int) < 0 := by omega
  have Hheld : Hid (∀ w, OwnN w w4.heap.size (.slice a1 m cap1) m (mkN 1) → Calls Try.prog 19 #[.agg #[.int .i64 c, .slice a1 m cap1], .int .i64 1] w fun e w' => e = .returned (.int .i64 ((1 + m : Nat) : Int)) ∧ Below w.heap.size w w') := fun w h => heldIntsResult_any c a1 m cap1 w h.is hm
  generalize ((1 + m : Nat) : Int) = qm at *
  go_wp2_with fail
  refine Calls.mono Hmark'.out ?_
  rintro e wc ⟨rfl, hGc, hOc⟩
  have hwc := hGc.size
  have l0 : wc.cell? ⟨b9, 0, none⟩ = some (.int .i64 c) := ro_cellN hGc g0 (fun s hs => by have := Hrow.out s hs; omega)
  have l1 : wc.cell? ⟨b9, 1, none⟩ = some (.slice a1 m cap1) := ro_cellN hGc g1 (fun s hs => by have := Hrow.out s hs; omega)
  have m0 : wc.cell? ⟨b7, 0, none⟩ = some (.int .i64 c) := ro_cellN hGc h0 (fun s hs => by have := Hrow.out s hs; omega)
  have m1 : wc.cell? ⟨b7, 1, none⟩ = some (.slice a0 m cap0) := ro_cellN hGc h1 (fun s hs => by have := Hrow.out s hs; omega)
  have HOc : Hid (OwnN wc w4.heap.size (.slice a1 m cap1) m (mkN 1)) := hOc
  have HIc : Hid (UnderN w3.heap.size wc a0 m Z) := HIb.out.row hGc (fun s hs => by have := Hrow.out s hs; omega)
  have HBc : Hid (Below w1.heap.size w1 wc) := HBb.out.trans (below_rowN hGc (fun s hs => by have := Hrow.out s hs; omega) (by omega))
  clear g0 g1 h0 h1 hOc hGc HBb HIb HOb Hmark'
  go_wp2_with fail
  refine (Hheld.out _ HOc.out).mono ?_
  rintro e wd ⟨rfl, hbd⟩
  have hwd := hbd.size
  have g0 := bl_cellN hbd l0
  have g1 := bl_cellN hbd l1
  have h0 := bl_cellN hbd m0
  have h1 := bl_cellN hbd m1
  have HOd : Hid (OwnN wd w4.heap.size (.slice a1 m cap1) m (mkN 1)) := HOc.out.below hbd
  have HId : Hid (UnderN w3.heap.size wd a0 m Z) := HIc.out.below hbd (by omega)
  have HBd : Hid (Below w1.heap.size w1 wd) := bl_then HBc.out hbd
  clear l0 l1 m0 m1 HOc HIc HBc hbd
  go_wp2_with fail
  refine (toInt64S_own a n cap Zs _ (HI.out.below HBd.out) hn).mono ?_
  rintro e we ⟨be, rfl, hlee, hlte, hpe, hte, hbe⟩
  have HPe : Hid (NsAt we be 0 n Zs) := hpe
  clear hpe hte
  go_wp2_with fail
  refine (Him.out _ _ HPe.out hlte).mono ?_
  rintro e wf ⟨vf, rfl, hOf, hbf⟩
  obtain ⟨af, capf, rfl, hcf, hIf⟩ := hOf.pts
  have hbdf := bl_then hbe hbf
  have l0 := bl_cellN hbdf g0
  have l1 := bl_cellN hbdf g1
  have m0 := bl_cellN hbdf h0
  have m1 := bl_cellN hbdf h1
  have hwf := hbdf.size
  have HOf : Hid (OwnN wf w4.heap.size (.slice a1 m cap1) m (mkN 1)) := HOd.out.below hbdf
  have HIf : Hid (UnderN w3.heap.size wf a0 m Z) := HId.out.below hbdf (by omega)
  have HBf : Hid (Below w1.heap.size w1 wf) := bl_then HBd.out hbdf
  have HJf : Hid (IsNs wf af m Z) := hIf
  have lm : b7 < wf.heap.size := World.block_lt_of_cell? _ _ m0
  have ll : b9 < wf.heap.size := World.block_lt_of_cell? _ _ l0
  clear g0 g1 h0 h1 HOd HId HBd hbdf hIf hOf hbe hbf HPe
  go_wp2_with fail
  generalize hWx : (wf.alloc _ : World) = wx
  have hbx : Below wf.heap.size wf wx := by subst hWx; (repeat (first | exact Below.refl _ _ | assumption | refine Below.drew ?_ | refine bl_alloc ?_ _ | refine bl_then ?_ (by assumption) | refine Below.setCell ?_ (by first | omega | (simp; done) | (simp; omega)) _ | refine bl_store ?_ ?_ _ _))
  clear hWx
  have k0 := bl_cellN hbx l0
  have k1 := bl_cellN hbx l1
  have hwx := hbx.size
  refine (eqIntsResult_any c _ _ _ _ _ Z _ (HJf.out.below hbx) ((HIf.out.below hbx (by omega)).is (by omega)) hm).mono ?_
  rintro e wh ⟨rfl, hbh⟩
  have hbfh := bl_then hbx hbh
  have HOh : Hid (OwnN wh w4.heap.size (.slice a1 m cap1) m (mkN 1)) := HOf.out.below hbfh
  have HBh : Hid (Below w1.heap.size w1 wh) := bl_then HBf.out hbfh
  have s0 := bl_cellN hbh k0
  have s1 := bl_cellN hbh k1
  clear l0 l1 m0 m1 k0 k1 HOf HIf HBf HJf hbfh hbx hbh
  go_wp2_with fail
  refine (Hheld.out _ HOh.out).mono ?_
  rintro e wi ⟨rfl, hbi'⟩
  have HBi : Hid (Below w1.heap.size w1 wi) := bl_then HBh.out hbi'
  clear hbi'
  go_wp2
  go_ret
  exact ⟨rfl, HBi.out⟩
theorem cntR_len (n : Nat) (Z : Nat → Int) : (cntR n Z).length ≤ 999 := by
  unfold cntR
  split
  · exact cntL_len Z 999
  · simp
theorem FnExactCountIds_walk (a : Option Addr) (n cap : Nat) (Zs : Nat → Int) (w : World) (h : IsNs w a n Zs ∧ n ≤ cap) :
    Calls Try.prog 5 #[.slice a n cap] w fun e w' => e = .returned (.bool true) ∧ Below w.heap.size w w' := by
  by_cases hb : 1048576 < n
  · exact FnExactCountIds_big a n cap w hb
  · exact FnExactCountIds_law (rasC n Zs) a n cap _ Zs _ w h.1 (by omega) (Nat.le_trans (cntR_len n Zs) (by omega))
      (fun b W hp hl => spec_CountIds_any _ n n Zs W (hp.is hl) (by omega)) (fun b W hp hl => impl_CountIds_any _ n n Zs W (hp.is hl) (by omega))
end Go.Proofs.Ytabjjmfjbhnkdaa
