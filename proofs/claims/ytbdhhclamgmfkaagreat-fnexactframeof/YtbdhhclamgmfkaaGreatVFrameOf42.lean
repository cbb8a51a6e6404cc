/- The frame: the program. -/
import Derived.Test.YtbdhhclamgmfkaaGreatVFrameOf31
import Derived.Test.YtbdhhclamgmfkaaGreatVFrameOf41
namespace Go.Proofs.YtbdhhclamgmfkaaGreat
open Go.RowKit
set_option linter.unusedSimpArgs false
set_option linter.unusedVariables false
set_option maxRecDepth 100000

theorem enter_pa1 (args : Array Value) (w : World) : (callFunc 100 args).run Tryz.prog w = .ok (.enter 100 args) w := by
  have h1 : (Tryz.f100).name ≠ "runtime.NumGoroutine" := by
    have : ((Tryz.f100).name == "runtime.NumGoroutine") = false := by kernel_rfl
    simpa using this
  have hb : ∃ c, (Tryz.f100).body = some c := ⟨_, rfl⟩
  obtain ⟨c, hb⟩ := hb
  simp [callFunc, Tryz.func100, h1, hb]
set_option maxHeartbeats 8000000 in
theorem painted1_any (bl bz p sp mb b : Nat) (z x y : Int) (s : Int) (n : Nat) (A : Nat → Kp) (w : World) (hbl : w.cell? ⟨bl, 0, none⟩ = some (.pointer (some ⟨p, 0, none⟩))) (hbz : w.cell? ⟨bz, 0, none⟩ = some (.int .i64 z)) (h6 : w.cell? ⟨p, 6, none⟩ = some (.pointer (some ⟨sp, 0, none⟩))) (hsh : ShN w sp mb s n A) (h0 : ∀ j, j < n → kC A j = 0) (ha : KoAt w b n A) (hp : pixB z x y = true) :
    Calls Tryz.prog 100 #[.int .i64 x, .int .i64 y, .pointer (some ⟨bl, 0, none⟩), .pointer (some ⟨bz, 0, none⟩)] w fun e w' => e = .returned (.int .i64 (frI n A z x y)) ∧ Below w.heap.size w w' := by
  have hzz := zoomB_cases (pixB_zoom hp)
  have hpi := pixB_in hp
  have hpb := pixI_bd (pixB_zoom hp)
  have HRA : Hid (∀ W, Calls Tryz.prog 102 #[.int .i64 z, .int .i64 x, .int .i64 y] W fun e w' => e = .returned (rrV 0 z (x / 8) (y / 8)) ∧ Below W.heap.size W w') := fun W => by
    have := impl_RefAt_any z x y W
    rw [show atV z x y = rrV 0 z (x / 8) (y / 8) by simp [atV, hp]] at this
    exact this
  have HNr : Hid (∀ W, Below w.heap.size w W → Calls Tryz.prog 101 #[.pointer (some ⟨sp, 0, none⟩), refV z (x / 8) (y / 8)] W fun e w' => e = .returned (.tuple #[nrV n A (nearK n A z.toNat (x / 8) (y / 8)), .bool (decide (0 ≤ nearK n A z.toNat (x / 8) (y / 8)))]) ∧ Below W.heap.size W w') := fun W h => shelfNearest_any sp mb n s A z (x / 8) (y / 8) W (hsh.below h) h0 (pix_ref hp)
  have hbll : bl < w.heap.size := World.block_lt_of_cell? _ _ hbl
  have hbzl : bz < w.heap.size := World.block_lt_of_cell? _ _ hbz
  have c6 : ∀ W', Below w.heap.size w W' → W'.cell? ⟨p, 6, none⟩ = some (.pointer (some ⟨sp, 0, none⟩)) := fun W' h => (h.cell (World.block_lt_of_cell? _ _ h6)).trans h6
  have cl : ∀ W', Below w.heap.size w W' → W'.cell? ⟨bl, 0, none⟩ = some (.pointer (some ⟨p, 0, none⟩)) := fun W' h => (h.cell (p := ⟨bl, 0, none⟩) hbll).trans hbl
  have cz : ∀ W', Below w.heap.size w W' → W'.cell? ⟨bz, 0, none⟩ = some (.int .i64 z) := fun W' h => (h.cell (p := ⟨bz, 0, none⟩) hbzl).trans hbz
  have i1 : ∀ w, (Instr.field 157 (.agg #[.int .i64 0, .int .i64 z, .int .i64 (x / 8), .int .i64 (y / 8)]) 1).run Tryz.prog w = .ok (.agg #[.int .i64 z, .int .i64 (x / 8), .int .i64 (y / 8)]) w := fun _ => by kernel_rfl
  obtain ⟨FV, hFV⟩ : ∃ FV, frI n A z x y = FV := ⟨_, rfl⟩
  rw [hFV]
  obtain ⟨k, ok, HN2, HF0, HI⟩ : ∃ (k : Kp) (ok : Bool), Hid (∀ W, Below w.heap.size w W → Calls Tryz.prog 101 #[.pointer (some ⟨sp, 0, none⟩), refV z (x / 8) (y / 8)] W fun e w' => e = .returned (.tuple #[kpV k, .bool ok]) ∧ Below W.heap.size W w') ∧ Hid (ok = false → FV = 0) ∧ Hid (ok = true → ∀ W, Below w.heap.size w W → Calls Tryz.prog 103 #[refV k.z k.x k.y, .slice k.ia k.m k.ic, .int .i64 z, .int .i64 x, .int .i64 y] W fun e w' => e = .returned (.int .i64 FV) ∧ Below W.heap.size W w') := by
    rcases nearK_holds n A z.toNat (x / 8) (y / 8) with hn | ⟨i, j, hi, hn, hj, h1, h2, h3⟩
    · refine ⟨⟨0, 0, 0, none, 0, 0, fun _ => ⟨0, 0, 0, 0, none, 0, 0, fun _ => 0, fun _ => 0, ⟨#[]⟩, 0⟩, none, 0, 0, fun _ => 0⟩, false, (show Hid (∀ W, Below w.heap.size w W → _) from fun W h => ?_), (show Hid (false = false → _) from fun _ => hFV.symm.trans (frI_no hn)), (show Hid (false = true → _) from fun h => by cases h)⟩
      have := HNr.out W h
      rw [hn] at this
      unfold nrV at this
      rw [if_neg (by omega), decide_eq_false (by omega)] at this
      exact this
    · have hz3 : z ≤ 3 ∧ 0 ≤ z := by omega
      have hkz : z - (A i).z = (j : Int) := by rw [h1]; omega
      obtain ⟨hm, hrf⟩ := kC_len (h0 i hi)
      have hrb := ref_bd hrf
      refine ⟨A i, true, (show Hid (∀ W, Below w.heap.size w W → _) from fun W h => ?_), (show Hid (true = false → _) from fun h => by cases h), (show Hid (true = true → ∀ W, Below w.heap.size w W → _) from fun _ W h => ?_)⟩
      · have := HNr.out W h
        rw [hn] at this
        unfold nrV at this
        rw [if_pos (by omega), decide_eq_true (by omega), Int.toNat_natCast] at this
        exact this
      · rcases (ha.2 i hi).2.2 with h' | ⟨ib, io, e, hil, hns⟩
        · omega
        · rw [e, hm, ← hFV, frI_at hn hkz]
          rw [hm] at hns
          have b1 := near_in (x := x) (j := j) (by omega) (by omega)
          have b2 := near_in (x := y) (j := j) (by omega) (by omega)
          rw [← h2] at b1
          rw [← h3] at b2
          exact idIn_any ib io (A i).ic j (A i).z (A i).x (A i).y z x y (A i).I W (by omega) hkz ⟨hrb.1.1, hrb.1.2⟩ (NsAt.below (show NsAt w ib io 64 (A i).I from hns) h hil) (Nat.lt_of_lt_of_le hil h.size) hrb.2.1 hrb.2.2 (by omega) (by omega) b1 b2
  clear HNr hFV hsh h0 ha hp hzz hpi hpb h6 hbl hbz
  generalize x / 8 = X at *
  generalize y / 8 = Y at *
  go_enter Tryz.func100, Tryz.ntmps100
  go_wp2_with fail
  refine wp_region_noPanic ?_
  refine wp_region_held_drew (S := fun W' => Below w.heap.size w W') (by kernel_rfl) (by have := Below.refl w.heap.size w; (repeat (first | exact Below.refl _ _ | assumption | refine Below.drew ?_ | refine bl_alloc ?_ _ | refine bl_then ?_ (by assumption) | refine Below.setCell ?_ (by first | omega | (simp; done) | (simp; omega)) _ | refine bl_store ?_ ?_ _ _))) (fun hHeld => ?_)
  have hX0a : Below w.heap.size w w.drew := hHeld
  refine takeD (i := 0) (d := some 10) (v := ?va0) rfl rfl (by kernel_rfl) (by kernel_rfl) (by kernel_rfl) (fun _ _ _ h => h) (Or.inl ⟨by rfl, ?hya0⟩) (by assumption) ?_
  case hya0 => (intro w hSw; (try dsimp only at hSw); go_simp <;> with_reducible rfl)
  try simp only [Act.put, List.setIfInBounds_toArray, List.set_cons_zero, List.set_cons_succ]
  refine takeD (i := 1) (d := some 11) (v := ?va1) rfl rfl (by kernel_rfl) (by kernel_rfl) (by kernel_rfl) (fun _ _ _ h => h) (Or.inl ⟨by rfl, ?hya1⟩) (by assumption) ?_
  case hya1 => (intro w hSw; (try dsimp only at hSw); go_simp <;> with_reducible rfl)
  try simp only [Act.put, List.setIfInBounds_toArray, List.set_cons_zero, List.set_cons_succ]
  refine takeD (i := 2) (d := some 12) (v := ?va2) rfl rfl (by kernel_rfl) (by kernel_rfl) (by kernel_rfl) (fun _ _ _ h => h) (Or.inl ⟨by rfl, ?hya2⟩) (by assumption) ?_
  case hya2 => (intro w hSw; (try dsimp only at hSw); go_simp <;> with_reducible rfl)
  try simp only [Act.put, List.setIfInBounds_toArray, List.set_cons_zero, List.set_cons_succ]
  refine takeD (i := 3) (d := some 13) (v := ?va3) rfl rfl (by kernel_rfl) (by kernel_rfl) (by kernel_rfl) (fun _ _ _ h => h) (Or.inl ⟨by rfl, ?hya3⟩) (by assumption) ?_
  case hya3 => (intro w hSw; (try dsimp only at hSw); go_simp <;> with_reducible rfl)
  try simp only [Act.put, List.setIfInBounds_toArray, List.set_cons_zero, List.set_cons_succ]
  refine takeD (i := 4) (d := some 14) (v := ?va4) rfl rfl (by kernel_rfl) (by kernel_rfl) (by kernel_rfl) (fun _ _ _ h => h) (Or.inl ⟨by rfl, ?hya4⟩) (by assumption) ?_
  case hya4 => (intro w hSw; (try dsimp only at hSw); go_simp <;> with_reducible rfl)
  try simp only [Act.put, List.setIfInBounds_toArray, List.set_cons_zero, List.set_cons_succ]
  refine takeD (i := 5) (d := some 15) (v := ?va5) rfl rfl (by kernel_rfl) (by kernel_rfl) (by kernel_rfl) (fun _ _ _ h => h) (Or.inl ⟨by rfl, ?hya5⟩) (by assumption) ?_
  case hya5 => (intro w hSw; (try dsimp only at hSw); go_simp <;> with_reducible rfl)
  try simp only [Act.put, List.setIfInBounds_toArray, List.set_cons_zero, List.set_cons_succ]
  refine takeD (i := 6) (d := some 16) (v := ?va6) rfl rfl (by kernel_rfl) (by kernel_rfl) (by kernel_rfl) (fun _ _ _ h => h) (Or.inl ⟨by rfl, ?hya6⟩) (by assumption) ?_
  case hya6 => (intro w hSw; (try dsimp only at hSw); go_simp <;> with_reducible rfl)
  try simp only [Act.put, List.setIfInBounds_toArray, List.set_cons_zero, List.set_cons_succ]
  generalize w.drew = wk0a at *
  refine wpAnyH_ready (rs := [7, 13]) (by kernel_rfl) (by simp) ?_
  refine (AllReadyH.cons rfl (fun K hK => ?_) (AllReadyH.cons rfl (fun K hK => ?_) AllReadyH.nil))
  · rw [if_pos (by rfl)]
    go_simp
    refine Calls.mono (HRA.out _) ?_
    rintro e wy1 ⟨rfl, hb1⟩
    have hY1 : Below w.heap.size w wy1 := bl_then hX0a hb1
    go_wp2_with fail
    refine hK.out _ _ hY1 (fun hHeld => ?_)
    clear hK K
    try simp only [Act.put, List.setIfInBounds_toArray, List.set_cons_zero, List.set_cons_succ]
    refine takeD (i := 8) (d := some 18) (v := ?vz2) rfl rfl (by kernel_rfl) (by kernel_rfl) (by kernel_rfl) (fun _ _ _ h => h) (Or.inl ⟨by rfl, ?hyz2⟩) (by assumption) ?_
    case hyz2 => (intro w hSw; (try dsimp only at hSw); go_simp <;> with_reducible rfl)
    try simp only [Act.put, List.setIfInBounds_toArray, List.set_cons_zero, List.set_cons_succ]
    refine wpAnyH_ready (rs := [9, 13]) (by kernel_rfl) (by simp) ?_
    refine (AllReadyH.cons rfl (fun K hK => ?_) (AllReadyH.cons rfl (fun K hK => ?_) AllReadyH.nil))
    · rw [if_pos (by rfl)]
      go_simp
      refine Calls.mono (HN2.out _ hY1) ?_
      rintro e wy3 ⟨rfl, hb3⟩
      have hY3 : Below w.heap.size w wy3 := bl_then hY1 hb3
      go_wp2_with fail
      refine hK.out _ _ hY3 (fun hHeld => ?_)
      clear hK K
      try simp only [Act.put, List.setIfInBounds_toArray, List.set_cons_zero, List.set_cons_succ]
      refine takeD (i := 10) (d := some 9) (v := ?vz4) rfl rfl (by kernel_rfl) (by kernel_rfl) (by kernel_rfl) (fun _ _ _ h => h) (Or.inl ⟨by rfl, ?hyz4⟩) (by assumption) ?_
      case hyz4 => (intro w hSw; (try dsimp only at hSw); go_simp <;> with_reducible rfl)
      try simp only [Act.put, List.setIfInBounds_toArray, List.set_cons_zero, List.set_cons_succ]
      refine takeD (i := 11) (d := some 20) (v := ?vz5) rfl rfl (by kernel_rfl) (by kernel_rfl) (by kernel_rfl) (fun _ _ _ h => h) (Or.inl ⟨by rfl, ?hyz5⟩) (by assumption) ?_
      case hyz5 => (intro w hSw; (try dsimp only at hSw); go_simp <;> with_reducible rfl)
      try simp only [Act.put, List.setIfInBounds_toArray, List.set_cons_zero, List.set_cons_succ]
      refine takeD (i := 12) (d := some 21) (v := ?vz6) rfl rfl (by kernel_rfl) (by kernel_rfl) (by kernel_rfl) (fun _ _ _ h => h) (Or.inl ⟨by rfl, ?hyz6⟩) (by assumption) ?_
      case hyz6 => (intro w hSw; (try dsimp only at hSw); go_simp <;> with_reducible rfl)
      try simp only [Act.put, List.setIfInBounds_toArray, List.set_cons_zero, List.set_cons_succ]
      refine wpAnyH_ready (rs := [13]) (by kernel_rfl) (by simp) ?_
      refine (AllReadyH.cons rfl (fun K hK => ?_) AllReadyH.nil)
      rw [if_pos (by rfl)]
      go_simp
      generalize hwA : (World.alloc _ _ : World) = wy7
      have hb7 : Below wy3.heap.size wy3 wy7 := by subst hwA; (repeat (first | exact Below.refl _ _ | assumption | refine Below.drew ?_ | refine bl_alloc ?_ _ | refine bl_then ?_ (by assumption) | refine Below.setCell ?_ (by first | omega | (simp; done) | (simp; omega)) _ | refine bl_store ?_ ?_ _ _))
      have hT7 : There wy7 wy3.heap.size 5 := by subst hwA; exact there5k wy3 _ _ _ _ _ _
      have hl7 : w.heap.size ≤ wy3.heap.size := hY3.size
      have hm7 : wy3.heap.size < wy7.heap.size := by subst hwA; simp
      clear hwA
      have hY7 : Below w.heap.size w wy7 := bl_then hY3 hb7
      refine hK.out _ _ hY7 (fun hHeld => ?_)
      clear hK K
      try simp only [Act.put, List.setIfInBounds_toArray, List.set_cons_zero, List.set_cons_succ]
      have hT' := hT7
      have t0 := hT'.cell 0 (by omega)
      have t1 := hT'.cell 1 (by omega)
      have t2 := hT'.cell 2 (by omega)
      have t3 := hT'.cell 3 (by omega)
      have t4 := hT'.cell 4 (by omega)
      have f0 := (hT' 0 (by omega)).2
      have f1 := (hT' 1 (by omega)).2
      have f2 := (hT' 2 (by omega)).2
      have f3 := (hT' 3 (by omega)).2
      have f4 := (hT' 4 (by omega)).2
      refine wpAnyH_ready (rs := [14]) (by kernel_rfl) (by simp) ?_
      refine (AllReadyH.cons rfl (fun K hK => ?_) AllReadyH.nil)
      rw [if_pos (by rfl)]
      go_simp
      generalize hwF : (World.setCell _ _ _ : World) = wF
      have HLk : Hid (wF = layK wy7 wy3.heap.size 0 k) := by show _ = _; subst hwF; rfl
      have hM : MidB wy3.heap.size (wy3.heap.size + 1) wy7 wF := by rw [HLk.out]; exact layK_mid _ _ _ _
      have hAt : KpAt wF wy3.heap.size 0 k := by rw [HLk.out]; exact layK_at hT7 (by omega)
      have hBF : Below w.heap.size w wF := hY7.trans ((hM.below (by have := hm7; omega)).mono hl7)
      refine hK.out _ _ hBF (fun hHeld => ?_)
      clear hK K
      try simp only [Act.put, List.setIfInBounds_toArray, List.set_cons_zero, List.set_cons_succ]
      refine takeD (i := 15) (d := some 8) (v := ?vz8) rfl rfl (by kernel_rfl) (by kernel_rfl) (by kernel_rfl) (fun _ _ _ h => h) (Or.inl ⟨by rfl, ?hyz8⟩) (by assumption) ?_
      case hyz8 => (intro w hSw; (try dsimp only at hSw); go_simp <;> with_reducible rfl)
      try simp only [Act.put, List.setIfInBounds_toArray, List.set_cons_zero, List.set_cons_succ]
      refine wpAnyH_done (by kernel_rfl) ?_ _
      refine NoPanic.normal ?_
      have HBF : Hid (Below w.heap.size w wF) := hBF
      obtain ⟨d0, d1, d2, d3, d4⟩ := hAt
      simp only [Nat.zero_add] at d1 d2 d3 d4
      have e3 := cz wF hBF
      clear hT' hwF HLk hM hBF hHeld c6 cl cz HRA HN2
      clear t0 f0
      clear t1 f1
      clear t2 f2
      clear t3 f3
      clear t4 f4
      cases ok
      · have HE := (show Hid _ from HF0.out rfl)
        clear HI HF0
        go_wp2_with fail
        go_ret
        exact ⟨ret_int HE.out.symm, HBF.out⟩
      · have HI2 := (show Hid _ from HI.out rfl wF HBF.out)
        clear HI HF0
        go_wp2_with fail
        refine Calls.mono HI2.out ?_
        rintro e wG ⟨rfl, hbG⟩
        have HBG : Hid (Below w.heap.size w wG) := bl_then HBF.out hbG
        clear hbG HI2 d0 d1 d2 d3 d4 e3
        go_wp2_with fail
        go_ret
        exact ⟨rfl, HBG.out⟩
    · rw [if_pos (by rfl)]
      go_simp
      generalize hwA : (World.alloc _ _ : World) = wy9
      have hb9 : Below wy1.heap.size wy1 wy9 := by subst hwA; (repeat (first | exact Below.refl _ _ | assumption | refine Below.drew ?_ | refine bl_alloc ?_ _ | refine bl_then ?_ (by assumption) | refine Below.setCell ?_ (by first | omega | (simp; done) | (simp; omega)) _ | refine bl_store ?_ ?_ _ _))
      have hT9 : There wy9 wy1.heap.size 5 := by subst hwA; exact there5k wy1 _ _ _ _ _ _
      have hl9 : w.heap.size ≤ wy1.heap.size := hY1.size
      have hm9 : wy1.heap.size < wy9.heap.size := by subst hwA; simp
      clear hwA
      have hY9 : Below w.heap.size w wy9 := bl_then hY1 hb9
      refine hK.out _ _ hY9 (fun hHeld => ?_)
      clear hK K
      try simp only [Act.put, List.setIfInBounds_toArray, List.set_cons_zero, List.set_cons_succ]
      refine wpAnyH_ready (rs := [9]) (by kernel_rfl) (by simp) ?_
      refine (AllReadyH.cons rfl (fun K hK => ?_) AllReadyH.nil)
      rw [if_pos (by rfl)]
      go_simp
      refine Calls.mono (HN2.out _ hY9) ?_
      rintro e wy10 ⟨rfl, hb10⟩
      have hY10 : Below w.heap.size w wy10 := bl_then hY9 hb10
      have hT10 := hT9.below hb10
      have hm10 := Nat.lt_of_lt_of_le hm9 hb10.size
      go_wp2_with fail
      refine hK.out _ _ hY10 (fun hHeld => ?_)
      clear hK K
      try simp only [Act.put, List.setIfInBounds_toArray, List.set_cons_zero, List.set_cons_succ]
      refine takeD (i := 10) (d := some 9) (v := ?vz11) rfl rfl (by kernel_rfl) (by kernel_rfl) (by kernel_rfl) (fun _ _ _ h => h) (Or.inl ⟨by rfl, ?hyz11⟩) (by assumption) ?_
      case hyz11 => (intro w hSw; (try dsimp only at hSw); go_simp <;> with_reducible rfl)
      try simp only [Act.put, List.setIfInBounds_toArray, List.set_cons_zero, List.set_cons_succ]
      refine takeD (i := 11) (d := some 20) (v := ?vz12) rfl rfl (by kernel_rfl) (by kernel_rfl) (by kernel_rfl) (fun _ _ _ h => h) (Or.inl ⟨by rfl, ?hyz12⟩) (by assumption) ?_
      case hyz12 => (intro w hSw; (try dsimp only at hSw); go_simp <;> with_reducible rfl)
      try simp only [Act.put, List.setIfInBounds_toArray, List.set_cons_zero, List.set_cons_succ]
      refine takeD (i := 12) (d := some 21) (v := ?vz13) rfl rfl (by kernel_rfl) (by kernel_rfl) (by kernel_rfl) (fun _ _ _ h => h) (Or.inl ⟨by rfl, ?hyz13⟩) (by assumption) ?_
      case hyz13 => (intro w hSw; (try dsimp only at hSw); go_simp <;> with_reducible rfl)
      try simp only [Act.put, List.setIfInBounds_toArray, List.set_cons_zero, List.set_cons_succ]
      have hT' := hT10
      have t0 := hT'.cell 0 (by omega)
      have t1 := hT'.cell 1 (by omega)
      have t2 := hT'.cell 2 (by omega)
      have t3 := hT'.cell 3 (by omega)
      have t4 := hT'.cell 4 (by omega)
      have f0 := (hT' 0 (by omega)).2
      have f1 := (hT' 1 (by omega)).2
      have f2 := (hT' 2 (by omega)).2
      have f3 := (hT' 3 (by omega)).2
      have f4 := (hT' 4 (by omega)).2
      refine wpAnyH_ready (rs := [14]) (by kernel_rfl) (by simp) ?_
      refine (AllReadyH.cons rfl (fun K hK => ?_) AllReadyH.nil)
      rw [if_pos (by rfl)]
      go_simp
      generalize hwF : (World.setCell _ _ _ : World) = wF
      have HLk : Hid (wF = layK wy10 wy1.heap.size 0 k) := by show _ = _; subst hwF; rfl
      have hM : MidB wy1.heap.size (wy1.heap.size + 1) wy10 wF := by rw [HLk.out]; exact layK_mid _ _ _ _
      have hAt : KpAt wF wy1.heap.size 0 k := by rw [HLk.out]; exact layK_at hT10 (by omega)
      have hBF : Below w.heap.size w wF := hY10.trans ((hM.below (by have := hm10; omega)).mono hl9)
      refine hK.out _ _ hBF (fun hHeld => ?_)
      clear hK K
      try simp only [Act.put, List.setIfInBounds_toArray, List.set_cons_zero, List.set_cons_succ]
      refine takeD (i := 15) (d := some 8) (v := ?vz14) rfl rfl (by kernel_rfl) (by kernel_rfl) (by kernel_rfl) (fun _ _ _ h => h) (Or.inl ⟨by rfl, ?hyz14⟩) (by assumption) ?_
      case hyz14 => (intro w hSw; (try dsimp only at hSw); go_simp <;> with_reducible rfl)
      try simp only [Act.put, List.setIfInBounds_toArray, List.set_cons_zero, List.set_cons_succ]
      refine wpAnyH_done (by kernel_rfl) ?_ _
      refine NoPanic.normal ?_
      have HBF : Hid (Below w.heap.size w wF) := hBF
      obtain ⟨d0, d1, d2, d3, d4⟩ := hAt
      simp only [Nat.zero_add] at d1 d2 d3 d4
      have e3 := cz wF hBF
      clear hT' hwF HLk hM hBF hHeld c6 cl cz HRA HN2
      clear t0 f0
      clear t1 f1
      clear t2 f2
      clear t3 f3
      clear t4 f4
      cases ok
      · have HE := (show Hid _ from HF0.out rfl)
        clear HI HF0
        go_wp2_with fail
        go_ret
        exact ⟨ret_int HE.out.symm, HBF.out⟩
      · have HI2 := (show Hid _ from HI.out rfl wF HBF.out)
        clear HI HF0
        go_wp2_with fail
        refine Calls.mono HI2.out ?_
        rintro e wG ⟨rfl, hbG⟩
        have HBG : Hid (Below w.heap.size w wG) := bl_then HBF.out hbG
        clear hbG HI2 d0 d1 d2 d3 d4 e3
        go_wp2_with fail
        go_ret
        exact ⟨rfl, HBG.out⟩
  · rw [if_pos (by rfl)]
    go_simp
    generalize hwA : (World.alloc _ _ : World) = wy15
    have hb15 : Below wk0a.heap.size wk0a wy15 := by subst hwA; (repeat (first | exact Below.refl _ _ | assumption | refine Below.drew ?_ | refine bl_alloc ?_ _ | refine bl_then ?_ (by assumption) | refine Below.setCell ?_ (by first | omega | (simp; done) | (simp; omega)) _ | refine bl_store ?_ ?_ _ _))
    have hT15 : There wy15 wk0a.heap.size 5 := by subst hwA; exact there5k wk0a _ _ _ _ _ _
    have hl15 : w.heap.size ≤ wk0a.heap.size := hX0a.size
    have hm15 : wk0a.heap.size < wy15.heap.size := by subst hwA; simp
    clear hwA
    have hY15 : Below w.heap.size w wy15 := bl_then hX0a hb15
    refine hK.out _ _ hY15 (fun hHeld => ?_)
    clear hK K
    try simp only [Act.put, List.setIfInBounds_toArray, List.set_cons_zero, List.set_cons_succ]
    refine wpAnyH_ready (rs := [7]) (by kernel_rfl) (by simp) ?_
    refine (AllReadyH.cons rfl (fun K hK => ?_) AllReadyH.nil)
    rw [if_pos (by rfl)]
    go_simp
    refine Calls.mono (HRA.out _) ?_
    rintro e wy16 ⟨rfl, hb16⟩
    have hY16 : Below w.heap.size w wy16 := bl_then hY15 hb16
    have hT16 := hT15.below hb16
    have hm16 := Nat.lt_of_lt_of_le hm15 hb16.size
    go_wp2_with fail
    refine hK.out _ _ hY16 (fun hHeld => ?_)
    clear hK K
    try simp only [Act.put, List.setIfInBounds_toArray, List.set_cons_zero, List.set_cons_succ]
    refine takeD (i := 8) (d := some 18) (v := ?vz17) rfl rfl (by kernel_rfl) (by kernel_rfl) (by kernel_rfl) (fun _ _ _ h => h) (Or.inl ⟨by rfl, ?hyz17⟩) (by assumption) ?_
    case hyz17 => (intro w hSw; (try dsimp only at hSw); go_simp <;> with_reducible rfl)
    try simp only [Act.put, List.setIfInBounds_toArray, List.set_cons_zero, List.set_cons_succ]
    refine wpAnyH_ready (rs := [9]) (by kernel_rfl) (by simp) ?_
    refine (AllReadyH.cons rfl (fun K hK => ?_) AllReadyH.nil)
    rw [if_pos (by rfl)]
    go_simp
    refine Calls.mono (HN2.out _ hY16) ?_
    rintro e wy18 ⟨rfl, hb18⟩
    have hY18 : Below w.heap.size w wy18 := bl_then hY16 hb18
    have hT18 := hT16.below hb18
    have hm18 := Nat.lt_of_lt_of_le hm16 hb18.size
    go_wp2_with fail
    refine hK.out _ _ hY18 (fun hHeld => ?_)
    clear hK K
    try simp only [Act.put, List.setIfInBounds_toArray, List.set_cons_zero, List.set_cons_succ]
    refine takeD (i := 10) (d := some 9) (v := ?vz19) rfl rfl (by kernel_rfl) (by kernel_rfl) (by kernel_rfl) (fun _ _ _ h => h) (Or.inl ⟨by rfl, ?hyz19⟩) (by assumption) ?_
    case hyz19 => (intro w hSw; (try dsimp only at hSw); go_simp <;> with_reducible rfl)
    try simp only [Act.put, List.setIfInBounds_toArray, List.set_cons_zero, List.set_cons_succ]
    refine takeD (i := 11) (d := some 20) (v := ?vz20) rfl rfl (by kernel_rfl) (by kernel_rfl) (by kernel_rfl) (fun _ _ _ h => h) (Or.inl ⟨by rfl, ?hyz20⟩) (by assumption) ?_
    case hyz20 => (intro w hSw; (try dsimp only at hSw); go_simp <;> with_reducible rfl)
    try simp only [Act.put, List.setIfInBounds_toArray, List.set_cons_zero, List.set_cons_succ]
    refine takeD (i := 12) (d := some 21) (v := ?vz21) rfl rfl (by kernel_rfl) (by kernel_rfl) (by kernel_rfl) (fun _ _ _ h => h) (Or.inl ⟨by rfl, ?hyz21⟩) (by assumption) ?_
    case hyz21 => (intro w hSw; (try dsimp only at hSw); go_simp <;> with_reducible rfl)
    try simp only [Act.put, List.setIfInBounds_toArray, List.set_cons_zero, List.set_cons_succ]
    have hT' := hT18
    have t0 := hT'.cell 0 (by omega)
    have t1 := hT'.cell 1 (by omega)
    have t2 := hT'.cell 2 (by omega)
    have t3 := hT'.cell 3 (by omega)
    have t4 := hT'.cell 4 (by omega)
    have f0 := (hT' 0 (by omega)).2
    have f1 := (hT' 1 (by omega)).2
    have f2 := (hT' 2 (by omega)).2
    have f3 := (hT' 3 (by omega)).2
    have f4 := (hT' 4 (by omega)).2
    refine wpAnyH_ready (rs := [14]) (by kernel_rfl) (by simp) ?_
    refine (AllReadyH.cons rfl (fun K hK => ?_) AllReadyH.nil)
    rw [if_pos (by rfl)]
    go_simp
    generalize hwF : (World.setCell _ _ _ : World) = wF
    have HLk : Hid (wF = layK wy18 wk0a.heap.size 0 k) := by show _ = _; subst hwF; rfl
    have hM : MidB wk0a.heap.size (wk0a.heap.size + 1) wy18 wF := by rw [HLk.out]; exact layK_mid _ _ _ _
    have hAt : KpAt wF wk0a.heap.size 0 k := by rw [HLk.out]; exact layK_at hT18 (by omega)
    have hBF : Below w.heap.size w wF := hY18.trans ((hM.below (by have := hm18; omega)).mono hl15)
    refine hK.out _ _ hBF (fun hHeld => ?_)
    clear hK K
    try simp only [Act.put, List.setIfInBounds_toArray, List.set_cons_zero, List.set_cons_succ]
    refine takeD (i := 15) (d := some 8) (v := ?vz22) rfl rfl (by kernel_rfl) (by kernel_rfl) (by kernel_rfl) (fun _ _ _ h => h) (Or.inl ⟨by rfl, ?hyz22⟩) (by assumption) ?_
    case hyz22 => (intro w hSw; (try dsimp only at hSw); go_simp <;> with_reducible rfl)
    try simp only [Act.put, List.setIfInBounds_toArray, List.set_cons_zero, List.set_cons_succ]
    refine wpAnyH_done (by kernel_rfl) ?_ _
    refine NoPanic.normal ?_
    have HBF : Hid (Below w.heap.size w wF) := hBF
    obtain ⟨d0, d1, d2, d3, d4⟩ := hAt
    simp only [Nat.zero_add] at d1 d2 d3 d4
    have e3 := cz wF hBF
    clear hT' hwF HLk hM hBF hHeld c6 cl cz HRA HN2
    clear t0 f0
    clear t1 f1
    clear t2 f2
    clear t3 f3
    clear t4 f4
    cases ok
    · have HE := (show Hid _ from HF0.out rfl)
      clear HI HF0
      go_wp2_with fail
      go_ret
      exact ⟨ret_int HE.out.symm, HBF.out⟩
    · have HI2 := (show Hid _ from HI.out rfl wF HBF.out)
      clear HI HF0
      go_wp2_with fail
      refine Calls.mono HI2.out ?_
      rintro e wG ⟨rfl, hbG⟩
      have HBG : Hid (Below w.heap.size w wG) := bl_then HBF.out hbG
      clear hbG HI2 d0 d1 d2 d3 d4 e3
      go_wp2_with fail
      go_ret
      exact ⟨rfl, HBG.out⟩
set_option maxHeartbeats 4000000 in
theorem painted_any (p : Nat) (z : Int) (w : World) (h0 : w.cell? ⟨p, 0, none⟩ = some (.int .i64 z)) :
    Calls Tryz.prog 71 #[.pointer (some ⟨p, 0, none⟩)] w fun e w' => ∃ bl bz, e = .returned (.func (.func 100) #[] #[.pointer (some ⟨bl, 0, none⟩), .pointer (some ⟨bz, 0, none⟩)]) ∧ w'.cell? ⟨bl, 0, none⟩ = some (.pointer (some ⟨p, 0, none⟩)) ∧ w'.cell? ⟨bz, 0, none⟩ = some (.int .i64 z) ∧ Below w.heap.size w w' := by
  have hmf : ∀ (fn : Fn) (first cap : Array Value) (w : World), (Instr.makeFunc fn first cap).run Tryz.prog w = .ok (.func fn first cap) w := fun _ _ _ _ => rfl
  have hpl := World.block_lt_of_cell? _ _ h0
  go_enter Tryz.func71, Tryz.ntmps71
  go_wp2_with fail
  go_ret
  exact ⟨_, _, rfl, by simp [go_sem], by simp [go_sem], by (repeat (first | exact Below.refl _ _ | assumption | refine Below.drew ?_ | refine bl_alloc ?_ _ | refine bl_then ?_ (by assumption) | refine Below.setCell ?_ (by first | omega | (simp; done) | (simp; omega)) _ | refine bl_store ?_ ?_ _ _))⟩
set_option maxHeartbeats 8000000 in
theorem frame_any (B p b : Nat) (z x y wd ht now s : Int) (n : Nat) (A : Nat → Kp) (ra : Option Addr) (rn rc : Nat) (bad : Int) (w : World) (hL : LkA w B p z x y wd ht now s n A ra rn rc bad) (hc : camB z x y wd ht = true) (h0 : ∀ j, j < n → kC A j = 0) (ha : KoAt w b n A) :
    Calls Tryz.prog 40 #[.pointer (some ⟨p, 0, none⟩)] w fun e w' => ∃ v, e = .returned v ∧ RowN w.heap.size w' v (rowsL (frI n A z) x y wd.toNat ht.toNat) ∧ Below w.heap.size w w' := by
  obtain ⟨hB, sp, hV, hK, hne⟩ := hL
  have HV : Hid (Blk w p [.int .i64 z, .int .i64 x, .int .i64 y, .int .i64 wd, .int .i64 ht, .int .i64 now, .pointer (some ⟨sp, 0, none⟩), .slice ra rn rc, .int .i64 bad, .slice none 0 0]) := hV
  have HK : Hid (ShK w B sp s n A) := hK
  have HA : Hid (KoAt w b n A) := ha
  have hpl : p < w.heap.size := hV.lt
  have HZ0 : Hid (∀ j, j < n → kC A j = 0) := h0
  have HC : Hid (camB z x y wd ht = true) := hc
  have hin := camB_in hc
  have hpb := pixI_bd (camB_zoom hc)
  obtain ⟨ew, eh⟩ : ((wd.toNat : Nat) : Int) = wd ∧ ((ht.toNat : Nat) : Int) = ht := by omega
  have HR : Hid (∀ W bl bz, Below w.heap.size w W → W.cell? ⟨bl, 0, none⟩ = some (.pointer (some ⟨p, 0, none⟩)) → W.cell? ⟨bz, 0, none⟩ = some (.int .i64 z) → Calls Tryz.prog 70 #[.int .i64 x, .int .i64 y, .int .i64 wd, .int .i64 ht, .func (.func 100) #[] #[.pointer (some ⟨bl, 0, none⟩), .pointer (some ⟨bz, 0, none⟩)]] W fun e w' => ∃ v, e = .returned v ∧ RowN W.heap.size w' v (rowsL (frI n A z) x y wd.toNat ht.toNat) ∧ Below W.heap.size W w') := fun W bl bz hW hbl hbz => by
    have h := rowByRow_any 100 #[.pointer (some ⟨bl, 0, none⟩), .pointer (some ⟨bz, 0, none⟩)] x y wd.toNat ht.toNat (frI n A z) W (by omega) (by omega) (by omega) (by omega) enter_pa1 (fun W' c r hW' hc' hr' => by
      have hWw := bl_then hW hW'
      obtain ⟨mb, _, _, h3, _, h5⟩ := HK.out.below hWw
      exact painted1_any bl bz p sp mb b z _ _ s n A W' (bl_cellN hW' hbl) (bl_cellN hW' hbz) ((HV.out.below hpl hWw).cell 6 rfl) ⟨h3, h5⟩ HZ0.out (HA.out.below hWw) (pix_of_cam (by rw [ew, eh]; exact HC.out) c r hc' hr'))
    rw [ew, eh] at h
    exact h
  have HP : Hid (∀ W, Below w.heap.size w W → Calls Tryz.prog 71 #[.pointer (some ⟨p, 0, none⟩)] W fun e w' => ∃ bl bz, e = .returned (.func (.func 100) #[] #[.pointer (some ⟨bl, 0, none⟩), .pointer (some ⟨bz, 0, none⟩)]) ∧ w'.cell? ⟨bl, 0, none⟩ = some (.pointer (some ⟨p, 0, none⟩)) ∧ w'.cell? ⟨bz, 0, none⟩ = some (.int .i64 z) ∧ Below W.heap.size W w') := fun W h => painted_any p z W ((HV.out.below hpl h).cell 0 rfl)
  have c0 := hV.cell 0 rfl
  have c1 := hV.cell 1 rfl
  have c2 := hV.cell 2 rfl
  have c3 := hV.cell 3 rfl
  have c4 := hV.cell 4 rfl
  clear hV hK h0 hc hB hne ha hin hpb ew eh
  go_enter Tryz.func40, Tryz.ntmps40
  go_wp2_with fail
  generalize hU : (w.alloc _ : World) = U
  have HBU : Hid (Below w.heap.size w U) := by show Below _ _ _; subst hU; (repeat (first | exact Below.refl _ _ | assumption | refine Below.drew ?_ | refine bl_alloc ?_ _ | refine bl_then ?_ (by assumption) | refine Below.setCell ?_ (by first | omega | (simp; done) | (simp; omega)) _ | refine bl_store ?_ ?_ _ _))
  have HCU : Hid (Blk U w.heap.size [.int .i64 z, .int .i64 x, .int .i64 y, .int .i64 wd, .int .i64 ht]) := by show Blk _ _ _; subst hU; exact Blk.new w _ _
  have hul : w.heap.size < U.heap.size := HCU.out.lt
  clear hU c0 c1 c2 c3 c4
  have d0 : ∀ W', Below U.heap.size U W' → W'.cell? ⟨w.heap.size, 0, none⟩ = _ := fun W' h => (HCU.out.below hul h).cell 0 rfl
  have d1 : ∀ W', Below U.heap.size U W' → W'.cell? ⟨w.heap.size, 1, none⟩ = _ := fun W' h => (HCU.out.below hul h).cell 1 rfl
  have d2 : ∀ W', Below U.heap.size U W' → W'.cell? ⟨w.heap.size, 2, none⟩ = _ := fun W' h => (HCU.out.below hul h).cell 2 rfl
  have d3 : ∀ W', Below U.heap.size U W' → W'.cell? ⟨w.heap.size, 3, none⟩ = _ := fun W' h => (HCU.out.below hul h).cell 3 rfl
  have d4 : ∀ W', Below U.heap.size U W' → W'.cell? ⟨w.heap.size, 4, none⟩ = _ := fun W' h => (HCU.out.below hul h).cell 4 rfl
  refine wp_region_noPanic ?_
  refine wp_region_held_drew (S := fun W' => Below U.heap.size U W') (by kernel_rfl) (by have := Below.refl U.heap.size U; (repeat (first | exact Below.refl _ _ | assumption | refine Below.drew ?_ | refine bl_alloc ?_ _ | refine bl_then ?_ (by assumption) | refine Below.setCell ?_ (by first | omega | (simp; done) | (simp; omega)) _ | refine bl_store ?_ ?_ _ _))) (fun hHeld => ?_)
  have hX0a : Below U.heap.size U U.drew := hHeld
  refine takeD (i := 0) (d := some 8) (v := ?va0) rfl rfl (by kernel_rfl) (by kernel_rfl) (by kernel_rfl) (fun _ _ _ h => h) (Or.inl ⟨by rfl, ?hya0⟩) (by assumption) ?_
  case hya0 => (intro w hSw; (try dsimp only at hSw); go_simp <;> with_reducible rfl)
  try simp only [Act.put, List.setIfInBounds_toArray, List.set_cons_zero, List.set_cons_succ]
  refine takeD (i := 1) (d := some 9) (v := ?va1) rfl rfl (by kernel_rfl) (by kernel_rfl) (by kernel_rfl) (fun _ _ _ h => h) (Or.inl ⟨by rfl, ?hya1⟩) (by assumption) ?_
  case hya1 => (intro w hSw; (try dsimp only at hSw); go_simp <;> with_reducible rfl)
  try simp only [Act.put, List.setIfInBounds_toArray, List.set_cons_zero, List.set_cons_succ]
  refine takeD (i := 2) (d := some 10) (v := ?va2) rfl rfl (by kernel_rfl) (by kernel_rfl) (by kernel_rfl) (fun _ _ _ h => h) (Or.inl ⟨by rfl, ?hya2⟩) (by assumption) ?_
  case hya2 => (intro w hSw; (try dsimp only at hSw); go_simp <;> with_reducible rfl)
  try simp only [Act.put, List.setIfInBounds_toArray, List.set_cons_zero, List.set_cons_succ]
  refine takeD (i := 3) (d := some 11) (v := ?va3) rfl rfl (by kernel_rfl) (by kernel_rfl) (by kernel_rfl) (fun _ _ _ h => h) (Or.inl ⟨by rfl, ?hya3⟩) (by assumption) ?_
  case hya3 => (intro w hSw; (try dsimp only at hSw); go_simp <;> with_reducible rfl)
  try simp only [Act.put, List.setIfInBounds_toArray, List.set_cons_zero, List.set_cons_succ]
  refine takeD (i := 4) (d := some 12) (v := ?va4) rfl rfl (by kernel_rfl) (by kernel_rfl) (by kernel_rfl) (fun _ _ _ h => h) (Or.inl ⟨by rfl, ?hya4⟩) (by assumption) ?_
  case hya4 => (intro w hSw; (try dsimp only at hSw); go_simp <;> with_reducible rfl)
  try simp only [Act.put, List.setIfInBounds_toArray, List.set_cons_zero, List.set_cons_succ]
  refine takeD (i := 5) (d := some 13) (v := ?va5) rfl rfl (by kernel_rfl) (by kernel_rfl) (by kernel_rfl) (fun _ _ _ h => h) (Or.inl ⟨by rfl, ?hya5⟩) (by assumption) ?_
  case hya5 => (intro w hSw; (try dsimp only at hSw); go_simp <;> with_reducible rfl)
  try simp only [Act.put, List.setIfInBounds_toArray, List.set_cons_zero, List.set_cons_succ]
  refine takeD (i := 6) (d := some 14) (v := ?va6) rfl rfl (by kernel_rfl) (by kernel_rfl) (by kernel_rfl) (fun _ _ _ h => h) (Or.inl ⟨by rfl, ?hya6⟩) (by assumption) ?_
  case hya6 => (intro w hSw; (try dsimp only at hSw); go_simp <;> with_reducible rfl)
  try simp only [Act.put, List.setIfInBounds_toArray, List.set_cons_zero, List.set_cons_succ]
  refine takeD (i := 7) (d := some 15) (v := ?va7) rfl rfl (by kernel_rfl) (by kernel_rfl) (by kernel_rfl) (fun _ _ _ h => h) (Or.inl ⟨by rfl, ?hya7⟩) (by assumption) ?_
  case hya7 => (intro w hSw; (try dsimp only at hSw); go_simp <;> with_reducible rfl)
  try simp only [Act.put, List.setIfInBounds_toArray, List.set_cons_zero, List.set_cons_succ]
  refine takeD (i := 8) (d := some 16) (v := ?va8) rfl rfl (by kernel_rfl) (by kernel_rfl) (by kernel_rfl) (fun _ _ _ h => h) (Or.inl ⟨by rfl, ?hya8⟩) (by assumption) ?_
  case hya8 => (intro w hSw; (try dsimp only at hSw); go_simp <;> with_reducible rfl)
  try simp only [Act.put, List.setIfInBounds_toArray, List.set_cons_zero, List.set_cons_succ]
  generalize U.drew = wk0a at *
  refine wpAnyH_ready (rs := [9]) (by kernel_rfl) (by simp) ?_
  refine (AllReadyH.cons rfl (fun K hK => ?_) AllReadyH.nil)
  rw [if_pos (by rfl)]
  go_simp
  refine Calls.mono (HP.out _ (bl_then HBU.out hX0a)) ?_
  rintro e wk1a ⟨bl, bz, rfl, hcl, hcz, hb1a⟩
  have hX1a : Below U.heap.size U wk1a := bl_then hX0a hb1a
  have HRR := (show Hid _ from HR.out wk1a bl bz (bl_then HBU.out hX1a) hcl hcz)
  go_wp2_with fail
  refine hK.out _ _ (by assumption) (fun hHeld => ?_)
  clear hK K
  try simp only [Act.put, List.setIfInBounds_toArray, List.set_cons_zero, List.set_cons_succ]
  refine wpAnyH_ready (rs := [10]) (by kernel_rfl) (by simp) ?_
  refine (AllReadyH.cons rfl (fun K hK => ?_) AllReadyH.nil)
  rw [if_pos (by rfl)]
  go_simp
  refine Calls.mono HRR.out ?_
  rintro e wk2a ⟨v, rfl, hO, hb2a⟩
  have hX2a : Below U.heap.size U wk2a := bl_then hX1a hb2a
  obtain ⟨va, vc, hv, _, _⟩ := hO.own
  subst hv
  have HO : Hid (RowN w.heap.size wk2a (.slice va _ vc) _) := hO.wide (Nat.le_trans HBU.out.size hX1a.size)
  go_wp2_with fail
  refine hK.out _ _ (by assumption) (fun hHeld => ?_)
  clear hK K
  try simp only [Act.put, List.setIfInBounds_toArray, List.set_cons_zero, List.set_cons_succ]
  refine takeD (i := 11) (d := some 2) (v := ?va11) rfl rfl (by kernel_rfl) (by kernel_rfl) (by kernel_rfl) (fun _ _ _ h => h) (Or.inl ⟨by rfl, ?hya11⟩) (by assumption) ?_
  case hya11 => (intro w hSw; (try dsimp only at hSw); go_simp <;> with_reducible rfl)
  try simp only [Act.put, List.setIfInBounds_toArray, List.set_cons_zero, List.set_cons_succ]
  refine wpAnyH_done (by kernel_rfl) ?_ _
  refine NoPanic.normal ?_
  have HBF : Hid (Below w.heap.size w wk2a) := bl_then HBU.out hX2a
  clear hX0a hb1a hX1a hb2a hX2a hO HRR d0 d1 d2 d3 d4
  go_wp2
  go_ret
  exact ⟨_, rfl, HO.out, HBF.out⟩
end Go.Proofs.YtbdhhclamgmfkaaGreat
