/- The nearest tile on the shelf: the program. -/
import Derived.Test.YthidgolnajggpaaGreatVNearestIn45
namespace Go.Proofs.YthidgolnajggpaaGreat
open Go.RowKit
set_option linter.unusedSimpArgs false
set_option linter.unusedVariables false
set_option maxRecDepth 100000

/-- What the shelf's map has for a ref that is there. -/
theorem shD_get {A : Nat → Kp} {z x y : Int} (hz : I64 z) (hx : I64 x) (hy : I64 y) : ∀ k, (∀ j, j < k → kC A j = 0) → ∀ i, i < k → isK (A i) z x y = true → ∀ zd, (shD A k).atKey (keyL z x y) zd = .held (agV (A i).z (A i).x (A i).y (A i).fa (A i).fn (A i).fc (A i).ia (A i).m (A i).ic ((i : Int) + 1))
  | 0, _, i, hi, _, _ => by omega
  | k + 1, h, i, hi, hE, zd => by
    by_cases e : i = k
    · subst e
      obtain ⟨rfl, rfl, rfl⟩ := isK_iff.1 hE
      exact Maps.atKey_put_same (shD_tidy A i).isMap (keyL_is _ _ _) _ _
    · have hk := kC_zero (h k (by omega))
      obtain ⟨az, ax, ay⟩ := tC_I64 hk.1
      have hne : keyL z x y ≠ keyL (A k).z (A k).x (A k).y := fun e' => by
        obtain ⟨h1, h2, h3⟩ := key_inj hz hx hy az ax ay e'
        refine hk.2 (atK_pos.2 ⟨i, by omega, ?_⟩)
        rw [← h1, ← h2, ← h3]; exact hE
      have e1 : (shD A (k + 1)).atKey (keyL z x y) zd = (shD A k).atKey (keyL z x y) zd := Maps.atKey_put_other hne _ _
      rw [e1]
      exact shD_get hz hx hy k (fun j hj => h j (by omega)) i (by omega) hE zd
/-- The shelf of n tiles, where it lies. -/
def ShN (W : World) (p mb : Nat) (s : Int) (n : Nat) (A : Nat → Kp) : Prop := ShA W p s (n : Int) mb ∧ W.ownsMap Tryz.prog 28 RV mb n (shD A n)
theorem ShN.below {w w' : World} {p mb n : Nat} {s : Int} {A : Nat → Kp} (h : ShN w p mb s n A) (hb : Below w.heap.size w w') : ShN w' p mb s n A := ⟨h.1.below hb, ownsMap_below h.2 hb⟩
theorem ShN.lt {w : World} {p mb n : Nat} {s : Int} {A : Nat → Kp} (h : ShN w p mb s n A) : p < w.heap.size ∧ mb < w.heap.size := ⟨World.block_lt_of_cell? _ _ h.1.1, h.2.lt⟩
theorem ShN.grown {w w' : World} {p mb n q : Nat} {s : Int} {A : Nat → Kp} (h : ShN w p mb s n A) (hg : w.grownBy w' (some q)) (hp : p ≠ q) (hm : mb ≠ q) : ShN w' p mb s n A :=
  ⟨⟨gr_cell hg h.1.1 hp, gr_cell hg h.1.2.1 hp, gr_cell hg h.1.2.2 hp⟩, h.2.kept hg (by simp; exact hm)⟩
theorem ShN.mid {w w' : World} {p mb n lo hi : Nat} {s : Int} {A : Nat → Kp} (h : ShN w p mb s n A) (hM : MidB lo hi w w') (hp : p < lo ∨ hi ≤ p) (hm : mb < lo ∨ hi ≤ mb) : ShN w' p mb s n A := by
  refine ⟨⟨hM.cell h.1.1 hp, hM.cell h.1.2.1 hp, hM.cell h.1.2.2 hp⟩, ?_⟩
  have hl := h.2.lt
  obtain ⟨es, c, h1, h2⟩ := h.2
  exact ⟨es, c, (hM.block mb hl hm).trans h1, h2⟩
theorem ShN.look {w : World} {p mb n : Nat} {s : Int} {A : Nat → Kp} (h : ShN w p mb s n A) (h0 : ∀ j, j < n → kC A j = 0) {z x y : Int} (hr : refB z x y = true) {i : Nat} (hi : i < n) (hE : isK (A i) z x y = true) :
    (Instr.lookup 103 (.map (some mb)) (refV z x y) false).run Tryz.prog w = .ok (agV (A i).z (A i).x (A i).y (A i).fa (A i).fn (A i).fc (A i).ia (A i).m (A i).ic ((i : Int) + 1)) w := by
  obtain ⟨hz, hx, hy⟩ := ref_I64 hr
  obtain ⟨v, ps, hrun, hv⟩ := h.2.lookup keyed_ref Tryz.underlying103 (zero_aged _) (RV_mk 0 0 0 none 0 0 none 0 0 0) (key_ref hz hx hy)
  obtain ⟨e, _⟩ := RV_inv hv
  rw [shD_get hz hx hy n h0 i hi hE] at e
  injection e with e
  rw [e]; exact hrun
/-- The tile that is nearest, or none. -/
noncomputable def nrV (n : Nat) (A : Nat → Kp) (N : Int) : Value := if 0 ≤ N then kpV (A N.toNat) else .agg zeroKp
theorem resNr {T : Array Value} {Wf : World} {r : Nat} {b : Bool} {k : Kp} (hT : T[4]?.getD undef = .pointer (some ⟨r, 0, none⟩)) (hb : T[5]?.getD undef = .bool b) (h : KpAt Wf r 0 k) :
    (results Tryz.f36 T).run Tryz.prog Wf = .ok (.tuple #[kpV k, .bool b]) Wf := by
  obtain ⟨h0, h1, h2, h3, h4⟩ := h
  simp only [Nat.zero_add] at h1 h2 h3 h4
  simp [results, Tryz.results36, go_sem, hT, hb, h0, h1, h2, h3, h4]
set_option maxHeartbeats 8000000 in
theorem shelfNearest_any (p mb n : Nat) (s : Int) (A : Nat → Kp) (z x y : Int) (w : World) (hp : ShN w p mb s n A) (h0 : ∀ j, j < n → kC A j = 0) (hr : refB z x y = true) :
    Calls Tryz.prog 36 #[.pointer (some ⟨p, 0, none⟩), refV z x y] w fun e w' => e = .returned (.tuple #[nrV n A (nearK n A z.toNat x y), .bool (decide (0 ≤ nearK n A z.toNat x y))]) ∧ Below w.heap.size w w' := by
  obtain ⟨hpl, hml⟩ := hp.lt
  have HH : Hid (∀ W z x y, ShN W p mb s n A → refB z x y = true → Calls Tryz.prog 67 #[.pointer (some ⟨p, 0, none⟩), refV z x y] W fun e w' => e = .returned (.bool (decide (0 ≤ atK n A z x y))) ∧ Below W.heap.size W w') := fun W z x y hK hr => by
    obtain ⟨hz, hx, hy⟩ := ref_I64 hr
    have := shelfHas_any p mb n s (n : Int) (shD A n) z x y W hK.1 hK.2 hz hx hy
    rw [shD_has hz hx hy n (Rgt_of h0)] at this
    exact this
  have H0 : Hid (∀ j, j < n → kC A j = 0) := h0
  obtain ⟨N, hN⟩ : ∃ N, nearK n A z.toNat x y = N := ⟨_, rfl⟩
  rw [hN]
  obtain ⟨NV, hNV⟩ : ∃ NV, nrV n A N = NV := ⟨_, rfl⟩
  rw [hNV]
  obtain ⟨NB, hNB⟩ : ∃ NB, decide (0 ≤ N) = NB := ⟨_, rfl⟩
  rw [hNB]
  have HNV : Hid (nrV n A N = NV) := hNV
  have HNB : Hid (decide (0 ≤ N) = NB) := hNB
  have HRb : Hid (refB z x y = true) := hr
  have HP : Hid (ShN w p mb s n A) := hp
  clear hNV hNB hr hp h0
  go_enter Tryz.func36, Tryz.ntmps36
  go_wp2_with fail
  generalize hW : ((w.alloc _).alloc _ : World) = W
  have HB0 : Hid (Below w.heap.size w W) := by show Below _ _ _; subst hW; (repeat (first | exact Below.refl _ _ | assumption | refine Below.drew ?_ | refine bl_alloc ?_ _ | refine bl_then ?_ (by assumption) | refine Below.setCell ?_ (by first | omega | (simp; done) | (simp; omega)) _ | refine bl_store ?_ ?_ _ _))
  have HR : Hid (RK W w.heap.size z x y) := by show RK _ _ _ _ _; subst hW; refine ⟨?_, ?_, ?_⟩ <;> simp [go_sem]
  have HT : Hid (There W (w.heap.size + 1) 5) := by
    show There _ _ _
    subst hW
    have := there5k (w.alloc (.cells #[.int .i64 z, .int .i64 x, .int .i64 y] 28)) (.int .i64 0) (.int .i64 0) (.int .i64 0) (.slice none 0 0) (.slice none 0 0) 65
    simpa using this
  have HTr : Hid (There W w.heap.size 3) := by
    show There _ _ _
    subst hW
    exact there_alloc (there3r w (.int .i64 z) (.int .i64 x) (.int .i64 y) 28) (by simp)
  have hsz : w.heap.size + 1 < W.heap.size := by subst hW; simp
  have HPW : Hid (ShN W p mb s n A) := HP.out.below HB0.out
  clear hW HP
  go_loopw [] (fun wr => ∃ z x y : Int, refB z x y = true ∧ nearK n A z.toNat x y = N ∧ RK wr w.heap.size z x y ∧ There wr w.heap.size 3 ∧ There wr (w.heap.size + 1) 5 ∧ Below w.heap.size w wr ∧ w.heap.size + 1 < wr.heap.size ∧ ShN wr p mb s n A) (fun wr => match wr.cell? ⟨w.heap.size, 0, none⟩ with | some v => (intOf v).toNat | none => 0)
  case atStart => exact ⟨z, x, y, HRb.out, hN, HR.out, HTr.out, HT.out, HB0.out, hsz, HPW.out⟩
  case round =>
    clear hN HRb HR HTr HT HPW HB0 hsz W
    obtain ⟨z, x, y, hr, hN, hrk, hTr, hT, hB, hlw, hS⟩ := hrel
    have HRr : Hid (refB z x y = true) := hr
    have HTr : Hid (There wr w.heap.size 3) := hTr
    have HT : Hid (There wr (w.heap.size + 1) 5) := hT
    have HB : Hid (Below w.heap.size w wr) := hB
    have HRk : Hid (RK wr w.heap.size z x y) := hrk
    have HS : Hid (ShN wr p mb s n A) := hS
    have hzb : 0 ≤ z ∧ z ≤ 3 := (ref_bd hr).1
    have HA := (show Hid _ from HH.out wr z x y hS hr)
    obtain ⟨p0, p1, p2⟩ := hrk
    have HNH : Hid (0 ≤ atK n A z x y → nearK n A z.toNat x y = atK n A z x y) := fun h => nearK_hit hzb.1 h
    have HNU : Hid (¬ 0 ≤ atK n A z x y → 0 < z → nearK n A z.toNat x y = nearK n A (z - 1).toNat (x / 2) (y / 2)) := fun h h' => nearK_up h' h
    have HNo : Hid (¬ 0 ≤ atK n A z x y → z = 0 → nearK n A z.toNat x y = -1) := fun h e => by subst e; exact nearK_no h
    have HN : Hid (nearK n A z.toNat x y = N) := hN
    clear hr hTr hT hB hN hS
    go_wp2_with fail
    refine Calls.mono HA.out ?_
    rintro e w4 ⟨rfl, hb4⟩
    have HB4 : Hid (Below w.heap.size w w4) := bl_then HB.out hb4
    have HT4 : Hid (There w4 (w.heap.size + 1) 5) := HT.out.below hb4
    have HTr4 : Hid (There w4 w.heap.size 3) := HTr.out.below hb4
    have HS4 : Hid (ShN w4 p mb s n A) := HS.out.below hb4
    have HR4 : Hid (RK w4 w.heap.size z x y) := HRk.out.below hb4
    obtain ⟨r0, r1, r2⟩ := HRk.out.below hb4
    have hlw4 : w.heap.size + 1 < w4.heap.size := Nat.lt_of_lt_of_le hlw hb4.size
    clear HA hb4 HS
    by_cases h0 : 0 ≤ atK n A z x y
    · rw [decide_eq_true h0]
      rcases atK_or n A z x y with h | ⟨i, hi, h, a1, a2, a3⟩
      · rw [h] at h0; omega
      have hNi : N = (i : Int) := HN.out.symm.trans ((HNH.out h0).trans h)
      have HE : Hid (NV = kpV (A i)) := by
        show _ = _
        rw [← HNV.out, hNi]; unfold nrV; rw [if_pos (by omega), Int.toNat_natCast]
      have HE2 : Hid (NB = true) := by show _ = _; rw [← HNB.out, hNi]; simp
      have HL : Hid (∀ W, ShN W p mb s n A → (Instr.lookup 103 (.map (some mb)) (refV z x y) false).run Tryz.prog W = .ok (agV (A i).z (A i).x (A i).y (A i).fa (A i).fn (A i).fc (A i).ia (A i).m (A i).ic ((i : Int) + 1)) W) := fun W hW => hW.look H0.out HRr.out hi (isK_iff.2 ⟨a1, a2, a3⟩)
      have hT' := HT4.out
      have t0 := hT'.cell 0 (by omega)
      have t1 := hT'.cell 1 (by omega)
      have t2 := hT'.cell 2 (by omega)
      have t3 := hT'.cell 3 (by omega)
      have t4 := hT'.cell 4 (by omega)
      have f0 := (hT' 0 (by omega)).2
      have f1 := (hT' 1 (by omega)).2
      have f2 := (hT' 2 (by omega)).2
      have f3 := (hT' 3 (by omega)).2
      have f4 := (hT' 4 (by omega)).2
      clear hT' HNH HNU HNo HN h0 h r0 r1 r2 p0 p1 p2 a1 a2 a3 hNi HNV HNB
      generalize hk : A i = k at *
      clear hk
      have hfld : ∀ W, (Instr.field 110 (agV k.z k.x k.y k.fa k.fn k.fc k.ia k.m k.ic ((i : Int) + 1)) 0).run Tryz.prog W = .ok (kpV k) W := fun W => by kernel_rfl
      go_wp2_with fail
      refine wp_region_noPanic ?_
      refine wp_region_held_drew (S := fun W' => ShN W' p mb s n A ∧ RK W' w.heap.size z x y) (by kernel_rfl) ⟨HS4.out, HR4.out⟩ (fun hHeld => ?_)
      have hSd : ShN w4.drew p mb s n A ∧ RK w4.drew w.heap.size z x y := ⟨HS4.out, HR4.out⟩
      refine takeD (i := 0) (d := some 16) (v := ?vr0) rfl rfl (by kernel_rfl) (by kernel_rfl) (by kernel_rfl) (fun _ _ _ h => h) (Or.inl ⟨by rfl, ?hyr0⟩) hSd ?_
      case hyr0 => (intro wz hSw; have hLk := HL.out wz hSw.1; obtain ⟨⟨⟨s0, s1, s2⟩, _⟩, k0, k1, k2⟩ := (show ShN wz p mb s n A ∧ RK wz w.heap.size z x y from hSw); go_simp <;> with_reducible rfl)
      try simp only [Act.put, List.setIfInBounds_toArray, List.set_cons_zero, List.set_cons_succ]
      refine takeD (i := 1) (d := some 17) (v := ?vr1) rfl rfl (by kernel_rfl) (by kernel_rfl) (by kernel_rfl) (fun _ _ _ h => h) (Or.inl ⟨by rfl, ?hyr1⟩) hSd ?_
      case hyr1 => (intro wz hSw; have hLk := HL.out wz hSw.1; obtain ⟨⟨⟨s0, s1, s2⟩, _⟩, k0, k1, k2⟩ := (show ShN wz p mb s n A ∧ RK wz w.heap.size z x y from hSw); go_simp <;> with_reducible rfl)
      try simp only [Act.put, List.setIfInBounds_toArray, List.set_cons_zero, List.set_cons_succ]
      refine takeD (i := 2) (d := some 18) (v := ?vr2) rfl rfl (by kernel_rfl) (by kernel_rfl) (by kernel_rfl) (fun _ _ _ h => h) (Or.inl ⟨by rfl, ?hyr2⟩) hSd ?_
      case hyr2 => (intro wz hSw; have hLk := HL.out wz hSw.1; obtain ⟨⟨⟨s0, s1, s2⟩, _⟩, k0, k1, k2⟩ := (show ShN wz p mb s n A ∧ RK wz w.heap.size z x y from hSw); go_simp <;> with_reducible rfl)
      try simp only [Act.put, List.setIfInBounds_toArray, List.set_cons_zero, List.set_cons_succ]
      refine takeD (i := 3) (d := some 19) (v := ?vr3) rfl rfl (by kernel_rfl) (by kernel_rfl) (by kernel_rfl) (fun _ _ _ h => h) (Or.inl ⟨by rfl, ?hyr3⟩) hSd ?_
      case hyr3 => (intro wz hSw; have hLk := HL.out wz hSw.1; obtain ⟨⟨⟨s0, s1, s2⟩, _⟩, k0, k1, k2⟩ := (show ShN wz p mb s n A ∧ RK wz w.heap.size z x y from hSw); go_simp <;> with_reducible rfl)
      try simp only [Act.put, List.setIfInBounds_toArray, List.set_cons_zero, List.set_cons_succ]
      refine takeD (i := 4) (d := some 20) (v := ?vr4) rfl rfl (by kernel_rfl) (by kernel_rfl) (by kernel_rfl) (fun _ _ _ h => h) (Or.inl ⟨by rfl, ?hyr4⟩) hSd ?_
      case hyr4 => (intro wz hSw; have hLk := HL.out wz hSw.1; obtain ⟨⟨⟨s0, s1, s2⟩, _⟩, k0, k1, k2⟩ := (show ShN wz p mb s n A ∧ RK wz w.heap.size z x y from hSw); go_simp <;> with_reducible rfl)
      try simp only [Act.put, List.setIfInBounds_toArray, List.set_cons_zero, List.set_cons_succ]
      refine takeD (i := 5) (d := some 21) (v := ?vr5) rfl rfl (by kernel_rfl) (by kernel_rfl) (by kernel_rfl) (fun _ _ _ h => h) (Or.inl ⟨by rfl, ?hyr5⟩) hSd ?_
      case hyr5 => (intro wz hSw; have hLk := HL.out wz hSw.1; obtain ⟨⟨⟨s0, s1, s2⟩, _⟩, k0, k1, k2⟩ := (show ShN wz p mb s n A ∧ RK wz w.heap.size z x y from hSw); go_simp <;> with_reducible rfl)
      try simp only [Act.put, List.setIfInBounds_toArray, List.set_cons_zero, List.set_cons_succ]
      refine takeD (i := 6) (d := some 22) (v := ?vr6) rfl rfl (by kernel_rfl) (by kernel_rfl) (by kernel_rfl) (fun _ _ _ h => h) (Or.inl ⟨by rfl, ?hyr6⟩) hSd ?_
      case hyr6 => (intro wz hSw; have hLk := HL.out wz hSw.1; obtain ⟨⟨⟨s0, s1, s2⟩, _⟩, k0, k1, k2⟩ := (show ShN wz p mb s n A ∧ RK wz w.heap.size z x y from hSw); go_simp <;> with_reducible rfl)
      try simp only [Act.put, List.setIfInBounds_toArray, List.set_cons_zero, List.set_cons_succ]
      refine wpAnyH_ready (rs := [7]) (by kernel_rfl) (by simp) ?_
      refine (AllReadyH.cons rfl (fun K hK => ?_) AllReadyH.nil)
      rw [if_pos (by rfl)]
      go_simp
      generalize hwF : (World.setCell _ _ _ : World) = wF
      have HLk : Hid (wF = layK w4 (w.heap.size + 1) 0 k) := by show _ = _; subst hwF; rfl
      have hM : MidB (w.heap.size + 1) (w.heap.size + 1 + 1) w4 wF := by rw [HLk.out]; exact layK_mid _ _ _ _
      have hSF0 : ShN wF p mb s n A ∧ RK wF w.heap.size z x y := ⟨HS4.out.mid hM (by omega) (by omega), ⟨hM.cell HR4.out.1 (.inl (by omega)), hM.cell HR4.out.2.1 (.inl (by omega)), hM.cell HR4.out.2.2 (.inl (by omega))⟩⟩
      have hSF : ShN wF.drew p mb s n A ∧ RK wF.drew w.heap.size z x y := hSF0
      refine hK.out _ _ hSF (fun hHeld => ?_)
      clear hK K
      try simp only [Act.put, List.setIfInBounds_toArray, List.set_cons_zero, List.set_cons_succ]
      refine takeD (i := 8) (d := some 5) (v := ?vr8) rfl rfl (by kernel_rfl) (by kernel_rfl) (by kernel_rfl) (fun _ _ _ h => h) (Or.inl ⟨by rfl, ?hyr8⟩) hSF ?_
      case hyr8 => (intro wz hSw; go_simp <;> with_reducible rfl)
      try simp only [Act.put, List.setIfInBounds_toArray, List.set_cons_zero, List.set_cons_succ]
      refine wpAnyH_done (by kernel_rfl) ?_ _
      refine NoPanic.normal ?_
      have hAt : KpAt wF (w.heap.size + 1) 0 k := by rw [HLk.out]; exact layK_at HT4.out (by omega)
      have HAt : Hid (KpAt wF.drew (w.heap.size + 1) 0 k) := hAt
      have hBF0 : Below w.heap.size w wF := HB4.out.trans ((hM.below (by omega)).mono (by omega))
      have HBF : Hid (Below w.heap.size w wF.drew) := by show Below _ _ _; (repeat (first | exact Below.refl _ _ | assumption | refine Below.drew ?_ | refine bl_alloc ?_ _ | refine bl_then ?_ (by assumption) | refine Below.setCell ?_ (by first | omega | (simp; done) | (simp; omega)) _ | refine bl_store ?_ ?_ _ _))
      clear hAt hBF0 hSF0
      clear hwF HLk hM hSF hHeld hSd
      clear t0 f0
      clear t1 f1
      clear t2 f2
      clear t3 f3
      clear t4 f4
      go_wp2_with fail
      refine bodyPost_ret (resNr rfl rfl HAt.out) rfl ⟨by rw [HE.out, HE2.out], HBF.out⟩
    · rw [decide_eq_false h0]
      by_cases hz : z = 0
      · have hNi : N = -1 := HN.out.symm.trans (HNo.out (by omega) hz)
        have HE : Hid (NV = kpV ⟨0, 0, 0, none, 0, 0, fun _ => ⟨0, 0, 0, 0, none, 0, 0, fun _ => 0, fun _ => 0, ⟨#[]⟩, 0⟩, none, 0, 0, fun _ => 0⟩) := by show _ = _; rw [← HNV.out, hNi]; unfold nrV; rw [if_neg (by omega)]
        have HE2 : Hid (NB = false) := by show _ = _; rw [← HNB.out, hNi]; simp
        have hT' := HT4.out
        have t0 := hT'.cell 0 (by omega)
        have t1 := hT'.cell 1 (by omega)
        have t2 := hT'.cell 2 (by omega)
        have t3 := hT'.cell 3 (by omega)
        have t4 := hT'.cell 4 (by omega)
        have f0 := (hT' 0 (by omega)).2
        have f1 := (hT' 1 (by omega)).2
        have f2 := (hT' 2 (by omega)).2
        have f3 := (hT' 3 (by omega)).2
        have f4 := (hT' 4 (by omega)).2
        clear hT' HNH HNU HNo HN HRr HRk h0 HNV HNB hNi
        subst hz
        go_wp2_with fail
        generalize hwF : (World.setCell _ _ _ : World) = wF
        have HLk : Hid (wF = layK w4 (w.heap.size + 1) 0 ⟨0, 0, 0, none, 0, 0, fun _ => ⟨0, 0, 0, 0, none, 0, 0, fun _ => 0, fun _ => 0, ⟨#[]⟩, 0⟩, none, 0, 0, fun _ => 0⟩) := by show _ = _; subst hwF; rfl
        have hM : MidB (w.heap.size + 1) (w.heap.size + 1 + 1) w4 wF := by rw [HLk.out]; exact layK_mid _ _ _ _
        have hAt : KpAt wF (w.heap.size + 1) 0 ⟨0, 0, 0, none, 0, 0, fun _ => ⟨0, 0, 0, 0, none, 0, 0, fun _ => 0, fun _ => 0, ⟨#[]⟩, 0⟩, none, 0, 0, fun _ => 0⟩ := by rw [HLk.out]; exact layK_at HT4.out (by omega)
        refine bodyPost_ret (resNr rfl rfl hAt) rfl ⟨by rw [HE.out, HE2.out], HB4.out.trans ((hM.below (by omega)).mono (by omega))⟩
      · have hz' : 0 < z := by omega
        have HE : Hid (nearK n A (z - 1).toNat (x / 2) (y / 2) = N) := (HNU.out (by omega) hz').symm.trans HN.out
        clear HNH HNU HNo HN h0
        go_wp2_with fail
        refine (parent_any z x y _ HRr.out).mono ?_
        rintro e w5 ⟨rfl, hb5⟩
        have hT5 := HTr4.out.below hb5
        have HTr5 : Hid (There w5 w.heap.size 3) := hT5
        have HT5 : Hid (There w5 (w.heap.size + 1) 5) := HT4.out.below hb5
        have HS5 : Hid (ShN w5 p mb s n A) := HS4.out.below hb5
        have t0 := hT5.cell 0 (by omega)
        have t1 := hT5.cell 1 (by omega)
        have t2 := hT5.cell 2 (by omega)
        have u0 := (hT5 0 (by omega)).2
        have u1 := (hT5 1 (by omega)).2
        have u2 := (hT5 2 (by omega)).2
        have HB5 : Hid (Below w.heap.size w w5) := bl_then HB4.out hb5
        have hlw5 : w.heap.size + 1 < w5.heap.size := Nat.lt_of_lt_of_le hlw4 hb5.size
        clear hT5 hb5 r0 r1 r2
        go_wp2_with fail
        obtain ⟨q0, q1, q2⟩ := set3_atq (a := .int .i64 (z - 1)) (b := .int .i64 (x / 2)) (c := .int .i64 (y / 2)) HTr5.out
        have hg : w5.grownBy (((w5.setCell ⟨w.heap.size, 0, none⟩ (.int .i64 (z - 1))).setCell ⟨w.heap.size, 1, none⟩ (.int .i64 (x / 2))).setCell ⟨w.heap.size, 2, none⟩ (.int .i64 (y / 2))) (some w.heap.size) := grown_set (grown_set (grown_set (grown_refl _ _) 0 _) 1 _) 2 _
        go_roundw
        case rel =>
          exact ⟨z - 1, x / 2, y / 2, refB_par HRr.out hz', HE.out, ⟨q0, q1, q2⟩, ((HTr5.out.setN _ _).setN _ _).setN _ _, HT5.out.grown hg (by omega), ((HB5.out.setCell (Nat.le_refl _) _).setCell (Nat.le_refl _) _).setCell (Nat.le_refl _) _, by simp; exact hlw5, HS5.out.grown hg (by omega) (by omega)⟩
        case measure =>
          rw [q0, p0]
          simp [intOf]
          omega
end Go.Proofs.YthidgolnajggpaaGreat
