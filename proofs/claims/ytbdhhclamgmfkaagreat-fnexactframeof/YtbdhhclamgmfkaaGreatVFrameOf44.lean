/- The frame: the model. -/
import Derived.Test.YtbdhhclamgmfkaaGreatVFrameOf31
import Derived.Test.YtbdhhclamgmfkaaGreatVFrameOf33
import Derived.Test.YtbdhhclamgmfkaaGreatVFrameOf32
import Derived.Test.YtbdhhclamgmfkaaGreatVFrameOf3
import Derived.Test.YtbdhhclamgmfkaaGreatVFrameOf43
import Derived.Test.YtbdhhclamgmfkaaGreatVFrameOf41
namespace Go.Proofs.YtbdhhclamgmfkaaGreat
open Go.RowKit
set_option linter.unusedSimpArgs false
set_option linter.unusedVariables false
set_option maxRecDepth 100000

set_option maxHeartbeats 4000000 in
theorem l11Nearest_off (q o : Nat) (s : Int) (a : Option Addr) (n cap : Nat) (K : Nat → Kp) (z x y : Int) (w : World) (hc : CaO w q o s (.slice a n cap)) (hp : IsKs w a n K) (hn : n ≤ 1048576) (hr : refB z x y = true) :
    Calls Tryz.prog 67 #[.pointer (some ⟨q, o, none⟩), refV z x y] w fun e w' => e = .returned (.int .i64 (nearK n K z.toNat x y)) ∧ Below w.heap.size w w' := by
  have HAt : Hid (∀ W, Below w.heap.size w W → ∀ z x y, Calls Tryz.prog 50 #[.pointer (some ⟨q, o, none⟩), refV z x y] W fun e w' => e = .returned (.int .i64 (atK n K z x y)) ∧ Below W.heap.size W w') := fun W h z x y => l11At_off q o s a n cap K z x y W (hc.below h) (hp.below h) hn
  have HR0 : Hid (refB z x y = true) := hr
  clear hc hp hr
  obtain ⟨N, hN⟩ : ∃ N, nearK n K z.toNat x y = N := ⟨_, rfl⟩
  rw [hN]
  go_enter Tryz.func67, Tryz.ntmps67
  go_wp2_with fail
  generalize hW : (w.alloc _ : World) = W
  have HB0 : Hid (Below w.heap.size w W) := by show Below _ _ _; subst hW; (repeat (first | exact Below.refl _ _ | assumption | refine Below.drew ?_ | refine bl_alloc ?_ _ | refine bl_then ?_ (by assumption) | refine Below.setCell ?_ (by first | omega | (simp; done) | (simp; omega)) _ | refine bl_store ?_ ?_ _ _))
  have HRK : Hid (RK W w.heap.size z x y) := by show RK _ _ _ _ _; subst hW; refine ⟨?_, ?_, ?_⟩ <;> simp [go_sem]
  have HT0 : Hid (There W w.heap.size 3) := by show There _ _ _; subst hW; exact there3r _ _ _ _ _
  clear hW
  go_loopw [] (fun wr => ∃ z x y : Int, refB z x y = true ∧ nearK n K z.toNat x y = N ∧ RK wr w.heap.size z x y ∧ There wr w.heap.size 3 ∧ Below w.heap.size w wr) (fun wr => match wr.cell? ⟨w.heap.size, 0, none⟩ with | some v => (intOf v).toNat | none => 0)
  case atStart => exact ⟨z, x, y, HR0.out, hN, HRK.out, HT0.out, HB0.out⟩
  case round =>
    clear hN HR0 HRK HT0 HB0
    obtain ⟨z, x, y, hr, hN, hrk, hT, hB⟩ := hrel
    have HR : Hid (refB z x y = true) := hr
    have HTr : Hid (There wr w.heap.size 3) := hT
    have HB : Hid (Below w.heap.size w wr) := hB
    have HRk : Hid (RK wr w.heap.size z x y) := hrk
    have hzb : 0 ≤ z ∧ z ≤ 3 := (ref_bd hr).1
    have hlw : w.heap.size < wr.heap.size := World.block_lt_of_cell? _ _ hrk.1
    have HA := (show Hid _ from HAt.out wr hB z x y)
    obtain ⟨p0, p1, p2⟩ := hrk
    have HH : Hid (0 ≤ atK n K z x y → nearK n K z.toNat x y = atK n K z x y) := fun h => nearK_hit hzb.1 h
    have HU : Hid (¬ 0 ≤ atK n K z x y → 0 < z → nearK n K z.toNat x y = nearK n K (z - 1).toNat (x / 2) (y / 2)) := fun h h' => nearK_up h' h
    have HNo : Hid (¬ 0 ≤ atK n K z x y → z = 0 → nearK n K z.toNat x y = -1) := fun h e => by subst e; exact nearK_no h
    have HN : Hid (nearK n K z.toNat x y = N) := hN
    clear hr hT hB hN
    go_wp2_with fail
    refine Calls.mono HA.out ?_
    rintro e w1 ⟨rfl, hb1⟩
    have HB1 : Hid (Below w.heap.size w w1) := bl_then HB.out hb1
    have HT1 : Hid (There w1 w.heap.size 3) := HTr.out.below hb1
    obtain ⟨r0, r1, r2⟩ := HRk.out.below hb1
    have hlw1 : w.heap.size < w1.heap.size := Nat.lt_of_lt_of_le hlw hb1.size
    clear HA hb1
    by_cases h0 : 0 ≤ atK n K z x y
    · have HE : Hid (N = atK n K z x y) := HN.out.symm.trans (HH.out h0)
      clear HH HU HNo HN
      generalize atK n K z x y = i at *
      go_wp2
      go_ret
      exact ⟨ret_int HE.out.symm, HB1.out⟩
    · by_cases hz : z = 0
      · have HE : Hid (N = -1) := HN.out.symm.trans (HNo.out (by omega) hz)
        clear HH HU HNo HN HR HRk
        subst hz
        generalize atK n K 0 x y = i at *
        go_wp2
        go_ret
        exact ⟨ret_int HE.out.symm, HB1.out⟩
      · have hz' : 0 < z := by omega
        have HE : Hid (nearK n K (z - 1).toNat (x / 2) (y / 2) = N) := (HU.out (by omega) hz').symm.trans HN.out
        clear HH HU HNo HN
        generalize atK n K z x y = i at *
        go_wp2_with fail
        refine (l7Parent_any z x y _ HR.out).mono ?_
        rintro e w2 ⟨rfl, hb2⟩
        have hT2 := HT1.out.below hb2
        have HT2 : Hid (There w2 w.heap.size 3) := hT2
        have t0 := hT2.cell 0 (by omega)
        have t1 := hT2.cell 1 (by omega)
        have t2 := hT2.cell 2 (by omega)
        have u0 := (hT2 0 (by omega)).2
        have u1 := (hT2 1 (by omega)).2
        have u2 := (hT2 2 (by omega)).2
        have HB2 : Hid (Below w.heap.size w w2) := bl_then HB1.out hb2
        clear hT2 hb2 r0 r1 r2
        go_wp2_with fail
        obtain ⟨q0, q1, q2⟩ := set3_atq (a := .int .i64 (z - 1)) (b := .int .i64 (x / 2)) (c := .int .i64 (y / 2)) HT2.out
        go_roundw
        case rel => exact ⟨z - 1, x / 2, y / 2, refB_par HR.out hz', HE.out, ⟨q0, q1, q2⟩, ((HT2.out.setN _ _).setN _ _).setN _ _, ((HB2.out.setCell (Nat.le_refl _) _).setCell (Nat.le_refl _) _).setCell (Nat.le_refl _) _⟩
        case measure =>
          rw [q0, p0]
          simp [intOf]
          omega
set_option maxHeartbeats 16000000 in
theorem l14Frame_any (q : Nat) (z X Y : Int) (wd ht : Nat) (now s : Int) (b n cap : Nat) (A : Nat → Kp) (ra : Option Addr) (rn rc : Nat) (bad : Int) (w : World) (hV : Blk w q [.int .i64 z, .int .i64 X, .int .i64 Y, .int .i64 (wd : Int), .int .i64 (ht : Int), .int .i64 now, .int .i64 s, .slice (some ⟨b, 0, none⟩) n cap, .slice ra rn rc, .int .i64 bad]) (hb : camB z X Y wd ht = true) (ha : KoAt w b n A) (hn : n ≤ 1048576) (h0 : ∀ j, j < n → kC A j = 0) :
    Calls Tryz.prog 39 #[.pointer (some ⟨q, 0, none⟩)] w fun e w' => ∃ v, e = .returned v ∧ RowN w.heap.size w' v (rowsL (frI n A z) X Y wd ht) ∧ Below w.heap.size w w' := by
  obtain ⟨ii, hi, hz0, hz1, hz2⟩ := info_parts info_n64
  have hql : q < w.heap.size := hV.lt
  have HV : Hid (Blk w q [.int .i64 z, .int .i64 X, .int .i64 Y, .int .i64 (wd : Int), .int .i64 (ht : Int), .int .i64 now, .int .i64 s, .slice (some ⟨b, 0, none⟩) n cap, .slice ra rn rc, .int .i64 bad]) := hV
  have hz : zoomB z = true := camB_zoom hb
  have hzz := zoomB_cases hz
  have hin := camB_in hb
  have hpb := pixI_bd hz
  have x0 : 0 ≤ X ∧ X ≤ 64 := by omega
  have y0 : 0 ≤ Y ∧ Y ≤ 64 := by omega
  have hwd : 1 ≤ wd ∧ wd ≤ 8 := by omega
  have hht : 1 ≤ ht ∧ ht ≤ 8 := by omega
  have HRW : Hid (∀ F : Int → Int → Int, rowsL F X Y wd ht = frK F X Y wd (ht * wd)) := fun F => frK_rows F X Y wd (by omega) ht
  have HPX : Hid (∀ i, i < ht * wd → pixB z (X + ((i % wd : Nat) : Int)) (Y + ((i / wd : Nat) : Int)) = true) := fun i hi => pix_of_cam hb _ _ (Nat.mod_lt _ (by omega)) (Nat.div_lt_of_lt_mul (by rw [Nat.mul_comm]; exact hi))
  have HDV : Hid (∀ i, i < ht * wd → i % wd < wd ∧ i / wd < ht) := fun i hi => ⟨Nat.mod_lt _ (by omega), Nat.div_lt_of_lt_mul (by rw [Nat.mul_comm]; exact hi)⟩
  obtain ⟨N, hN⟩ : ∃ N, N = ht * wd := ⟨_, rfl⟩
  have hN64 : N ≤ 64 := by rw [hN]; exact Nat.mul_le_mul hht.2 hwd.2
  have hmul : IntKind.i64.wrap ((wd : Int) * (ht : Int)) = (N : Int) := by
    have e : ((wd : Int) * (ht : Int)) = (N : Int) := by rw [hN, Int.natCast_mul, Int.mul_comm]
    rw [e]
    exact IntWalk.i64_in _ (by omega)
  rw [← hN] at HPX HDV HRW
  have hz3 : 0 ≤ z ∧ z ≤ 3 := by omega
  have HNe : Hid (∀ W' u v, Below w.heap.size w W' → refB z u v = true → Calls Tryz.prog 67 #[.pointer (some ⟨q, 6, none⟩), refV z u v] W' fun e w' => e = .returned (.int .i64 (nearK n A z.toNat u v)) ∧ Below W'.heap.size W' w') := fun W' u v h hr => by
    have hb := HV.out.below hql h
    exact l11Nearest_off q 6 s _ n cap A z u v W' ⟨hb.cell 6 rfl, hb.cell 7 rfl⟩ (ha.is.below h) hn hr
  have HAt : Hid (∀ W' u v, pixB z u v = true → Calls Tryz.prog 68 #[.int .i64 z, .int .i64 u, .int .i64 v] W' fun e w' => e = .returned (refV z (u / 8) (v / 8)) ∧ Below W'.heap.size W' w') := fun W' u v hp => l7At_any z u v W' hp
  have HA : Hid (KoAt w b n A) := ha
  have HZ0 : Hid (∀ j, j < n → kC A j = 0) := h0
  clear hV ha h0 hb hin hN hpb hz
  obtain ⟨F, hF⟩ : ∃ F, frI n A z = F := ⟨_, rfl⟩
  rw [hF]
  have HFE : Hid (∀ u v, F u v = frI n A z u v) := fun u v => by rw [← hF]
  clear hF
  go_enter Tryz.func39, Tryz.ntmps39
  go_wp2_with fail
  generalize hW : (w.alloc _ : World) = w1'
  have HB0 : Hid (Below w.heap.size w w1') := by show Below _ _ _; subst hW; (repeat (first | exact Below.refl _ _ | assumption | refine Below.drew ?_ | refine bl_alloc ?_ _ | refine bl_then ?_ (by assumption) | refine Below.setCell ?_ (by first | omega | (simp; done) | (simp; omega)) _ | refine bl_store ?_ ?_ _ _))
  have HO0 : Hid (RowN w.heap.size w1' (.slice (some ⟨w.heap.size, 0, none⟩) 0 0) (frK F X Y wd 0)) := by
    show RowN _ _ _ _
    subst hW
    exact World.ownsRow_lit (base := w.heap.size) w #[] 0 (Nat.le_refl _) (Nat.zero_le _) rfl
  clear hW
  go_loopw [4, 5] (fun v j wr => ∃ i : Nat, i ≤ N ∧ j = .int .i64 (i : Int) ∧ RowN w.heap.size wr v (frK F X Y wd i) ∧ Below w.heap.size w wr) (fun _ j _ => N - (intOf j).toNat)
  case atStart => exact ⟨0, by omega, rfl, HO0.out, HB0.out⟩
  case round =>
    obtain ⟨i, hiN, rfl, hO, hB⟩ := hrel
    have HO0' : Hid (RowN w.heap.size wr u4 (frK F X Y wd i)) := hO
    have HB : Hid (Below w.heap.size w wr) := hB
    clear hO hB HO0 HB0
    have hbr := HV.out.below hql HB.out
    have g3 := hbr.cell 3 rfl
    have g4 := hbr.cell 4 rfl
    clear hbr
    by_cases hlt : i < N
    · have hi' : (i : Int) < (N : Int) := by omega
      obtain ⟨m, hm⟩ : ∃ m : Nat, m = i % wd := ⟨_, rfl⟩
      obtain ⟨p, hp⟩ : ∃ p : Nat, p = i / wd := ⟨_, rfl⟩
      have hmq := HDV.out i hlt
      rw [← hm, ← hp] at hmq
      have hmb : m < 8 := by omega
      have hqb : p < 8 := by omega
      have em : (i : Int).tmod (wd : Int) = (m : Int) := by rw [Int.tmod_eq_emod_of_nonneg (by omega), hm]; rfl
      have eq' : (i : Int).tdiv (wd : Int) = (p : Int) := by rw [Int.tdiv_eq_ediv_of_nonneg (by omega), hp]; rfl
      have HSK : Hid (frK F X Y wd (i + 1) = frK F X Y wd i ++ [F (X + (m : Int)) (Y + (p : Int))]) := by show _ = _; rw [frK_add, hm, hp]
      have HLn : Hid ((frK F X Y wd i).length = i) := frK_len _ _ _ _ _
      have hpx := HPX.out i hlt
      rw [← hm, ← hp] at hpx
      clear hm hp hmq
      obtain ⟨va, vn, vc, hvs⟩ : ∃ va vn vc, u4 = .slice va vn vc := by
        obtain ⟨a', c', e', _, _⟩ := HO0'.out.own
        exact ⟨_, _, _, e'⟩
      subst hvs
      have HBS : Hid (∀ b, (Value.slice va vn vc).ownBlock = some b → w.heap.size ≤ b) := fun b hb => (World.ownsRow.lt HO0'.out b hb).1
      have ss0 : IntKind.i64.wrap (X + (m : Int)) = X + (m : Int) := IntWalk.i64_in _ (by omega)
      have ss1 : IntKind.i64.wrap (Y + (p : Int)) = Y + (p : Int) := IntWalk.i64_in _ (by omega)
      have qq1 : IntKind.i64.wrap (p : Int) = (p : Int) := IntWalk.i64_in _ (by omega)
      have qq0 : IntKind.i64.wrap (m : Int) = (m : Int) := IntWalk.i64_in _ (by omega)
      have wz : ¬ (wd : Int) = 0 := by omega
      have wn : ¬ wd = 0 := by omega
      clear wz
      have bX : 0 ≤ X + (m : Int) ∧ X + (m : Int) ≤ 1000 := by omega
      have bY : 0 ≤ Y + (p : Int) ∧ Y + (p : Int) ≤ 1000 := by omega
      obtain ⟨PX, hPX⟩ : ∃ PX, X + (m : Int) = PX := ⟨_, rfl⟩
      obtain ⟨PY, hPY⟩ : ∃ PY, Y + (p : Int) = PY := ⟨_, rfl⟩
      rw [hPX] at HSK hpx ss0 bX
      rw [hPY] at HSK hpx ss1 bY
      have hbr := HV.out.below hql HB.out
      have g0 := hbr.cell 0 rfl
      have g1 := hbr.cell 1 rfl
      have g2 := hbr.cell 2 rfl
      clear hbr
      go_wp2_with fail
      go_region
      go_wp2_with fail
      go_region
      go_wp2_with fail
      go_region
      go_wp2_with fail
      have hBd : Below w.heap.size w wr.drew.drew.drew := by have := HB.out; (repeat (first | exact Below.refl _ _ | assumption | refine Below.drew ?_ | refine bl_alloc ?_ _ | refine bl_then ?_ (by assumption) | refine Below.setCell ?_ (by first | omega | (simp; done) | (simp; omega)) _ | refine bl_store ?_ ?_ _ _))
      have HOd : Hid (RowN w.heap.size wr.drew.drew.drew (.slice va vn vc) (frK F X Y wd i)) := HO0'.out.below (by (repeat (first | exact Below.refl _ _ | assumption | refine Below.drew ?_ | refine bl_alloc ?_ _ | refine bl_then ?_ (by assumption) | refine Below.setCell ?_ (by first | omega | (simp; done) | (simp; omega)) _ | refine bl_store ?_ ?_ _ _)))
      clear HO0' g0 g1 g2 g3 g4 em eq' qq0 qq1 hPX hPY
      generalize wr.drew.drew.drew = V at *
      have HBd : Hid (Below w.heap.size w V) := hBd
      have hbv : ∀ W', Below V.heap.size V W' → Blk W' q [.int .i64 z, .int .i64 X, .int .i64 Y, .int .i64 (wd : Int), .int .i64 (ht : Int), .int .i64 now, .int .i64 s, .slice (some ⟨b, 0, none⟩) n cap, .slice ra rn rc, .int .i64 bad] := fun W' h => HV.out.below hql (bl_then HBd.out h)
      have c0 : ∀ W', Below V.heap.size V W' → W'.cell? ⟨q, 0, none⟩ = some (.int .i64 z) := fun W' h => (hbv W' h).cell 0 rfl
      clear hBd hbv
      have HAp := (show Hid _ from fun W' => HAt.out W' PX PY hpx)
      have HNp := (show Hid _ from fun W' h => HNe.out W' (PX / 8) (PY / 8) h (pix_ref hpx))
      have HFv := (show Hid _ from HFE.out PX PY)
      clear HB
      refine wp_region_noPanic ?_
      refine wp_region_held_drew (S := fun W' => Below V.heap.size V W') (by kernel_rfl) (by have := Below.refl V.heap.size V; (repeat (first | exact Below.refl _ _ | assumption | refine Below.drew ?_ | refine bl_alloc ?_ _ | refine bl_then ?_ (by assumption) | refine Below.setCell ?_ (by first | omega | (simp; done) | (simp; omega)) _ | refine bl_store ?_ ?_ _ _))) (fun hHeld => ?_)
      have hX0a : Below V.heap.size V V.drew := hHeld
      refine takeD (i := 0) (d := some 49) (v := ?va0) rfl rfl (by kernel_rfl) (by kernel_rfl) (by kernel_rfl) (fun _ _ _ h => h) (Or.inl ⟨by rfl, ?hya0⟩) (by assumption) ?_
      case hya0 => (intro w hSw; (try dsimp only at hSw); go_simp <;> with_reducible rfl)
      try simp only [Act.put, List.setIfInBounds_toArray, List.set_cons_zero, List.set_cons_succ]
      refine takeD (i := 1) (d := some 50) (v := ?va1) rfl rfl (by kernel_rfl) (by kernel_rfl) (by kernel_rfl) (fun _ _ _ h => h) (Or.inl ⟨by rfl, ?hya1⟩) (by assumption) ?_
      case hya1 => (intro w hSw; (try dsimp only at hSw); go_simp <;> with_reducible rfl)
      try simp only [Act.put, List.setIfInBounds_toArray, List.set_cons_zero, List.set_cons_succ]
      refine takeD (i := 2) (d := some 51) (v := ?va2) rfl rfl (by kernel_rfl) (by kernel_rfl) (by kernel_rfl) (fun _ _ _ h => h) (Or.inl ⟨by rfl, ?hya2⟩) (by assumption) ?_
      case hya2 => (intro w hSw; (try dsimp only at hSw); go_simp <;> with_reducible rfl)
      try simp only [Act.put, List.setIfInBounds_toArray, List.set_cons_zero, List.set_cons_succ]
      refine takeD (i := 3) (d := some 52) (v := ?va3) rfl rfl (by kernel_rfl) (by kernel_rfl) (by kernel_rfl) (fun _ _ _ h => h) (Or.inl ⟨by rfl, ?hya3⟩) (by assumption) ?_
      case hya3 => (intro w hSw; (try dsimp only at hSw); go_simp <;> with_reducible rfl)
      try simp only [Act.put, List.setIfInBounds_toArray, List.set_cons_zero, List.set_cons_succ]
      refine takeD (i := 4) (d := some 53) (v := ?va4) rfl rfl (by kernel_rfl) (by kernel_rfl) (by kernel_rfl) (fun _ _ _ h => h) (Or.inl ⟨by rfl, ?hya4⟩) (by assumption) ?_
      case hya4 => (intro w hSw; (try dsimp only at hSw); go_simp <;> with_reducible rfl)
      try simp only [Act.put, List.setIfInBounds_toArray, List.set_cons_zero, List.set_cons_succ]
      refine takeD (i := 5) (d := some 54) (v := ?va5) rfl rfl (by kernel_rfl) (by kernel_rfl) (by kernel_rfl) (fun _ _ _ h => h) (Or.inl ⟨by rfl, ?hya5⟩) (by assumption) ?_
      case hya5 => (intro w hSw; (try dsimp only at hSw); go_simp <;> with_reducible rfl)
      try simp only [Act.put, List.setIfInBounds_toArray, List.set_cons_zero, List.set_cons_succ]
      refine takeD (i := 6) (d := some 55) (v := ?va6) rfl rfl (by kernel_rfl) (by kernel_rfl) (by kernel_rfl) (fun _ _ _ h => h) (Or.inl ⟨by rfl, ?hya6⟩) (by assumption) ?_
      case hya6 => (intro w hSw; (try dsimp only at hSw); go_simp <;> with_reducible rfl)
      try simp only [Act.put, List.setIfInBounds_toArray, List.set_cons_zero, List.set_cons_succ]
      refine takeD (i := 7) (d := some 56) (v := ?va7) rfl rfl (by kernel_rfl) (by kernel_rfl) (by kernel_rfl) (fun _ _ _ h => h) (Or.inl ⟨by rfl, ?hya7⟩) (by assumption) ?_
      case hya7 => (intro w hSw; (try dsimp only at hSw); go_simp <;> with_reducible rfl)
      try simp only [Act.put, List.setIfInBounds_toArray, List.set_cons_zero, List.set_cons_succ]
      refine takeD (i := 8) (d := some 57) (v := ?va8) rfl rfl (by kernel_rfl) (by kernel_rfl) (by kernel_rfl) (fun _ _ _ h => h) (Or.inl ⟨by rfl, ?hya8⟩) (by assumption) ?_
      case hya8 => (intro w hSw; (try dsimp only at hSw); go_simp <;> with_reducible rfl)
      try simp only [Act.put, List.setIfInBounds_toArray, List.set_cons_zero, List.set_cons_succ]
      generalize V.drew = wk0a at *
      refine wpAnyH_ready (rs := [9]) (by kernel_rfl) (by simp) ?_
      refine (AllReadyH.cons rfl (fun K hK => ?_) AllReadyH.nil)
      rw [if_pos (by rfl)]
      go_simp
      refine Calls.mono (HAp.out _) ?_
      rintro e wk1a ⟨rfl, hb1a⟩
      have hX1a : Below V.heap.size V wk1a := bl_then hX0a hb1a
      go_wp2_with fail
      refine hK.out _ _ (by assumption) (fun hHeld => ?_)
      clear hK K
      try simp only [Act.put, List.setIfInBounds_toArray, List.set_cons_zero, List.set_cons_succ]
      refine wpAnyH_ready (rs := [10]) (by kernel_rfl) (by simp) ?_
      refine (AllReadyH.cons rfl (fun K hK => ?_) AllReadyH.nil)
      rw [if_pos (by rfl)]
      go_simp
      refine Calls.mono (HNp.out _ (bl_then HBd.out hX1a)) ?_
      rintro e wk2a ⟨rfl, hb2a⟩
      have hX2a : Below V.heap.size V wk2a := bl_then hX1a hb2a
      go_wp2_with fail
      refine hK.out _ _ (by assumption) (fun hHeld => ?_)
      clear hK K
      try simp only [Act.put, List.setIfInBounds_toArray, List.set_cons_zero, List.set_cons_succ]
      refine takeD (i := 11) (d := some 8) (v := ?va11) rfl rfl (by kernel_rfl) (by kernel_rfl) (by kernel_rfl) (fun _ _ _ h => h) (Or.inl ⟨by rfl, ?hya11⟩) (by assumption) ?_
      case hya11 => (intro w hSw; (try dsimp only at hSw); go_simp <;> with_reducible rfl)
      try simp only [Act.put, List.setIfInBounds_toArray, List.set_cons_zero, List.set_cons_succ]
      refine wpAnyH_done (by kernel_rfl) ?_ _
      refine NoPanic.normal ?_
      have HB9 : Hid (Below V.heap.size V wk2a) := hX2a
      have HBw : Hid (Below w.heap.size w wk2a) := bl_then HBd.out HB9.out
      have HO9 : Hid (RowN w.heap.size wk2a (.slice va vn vc) (frK F X Y wd i)) := HOd.out.below HB9.out
      have hs9 : w.heap.size ≤ wk2a.heap.size := HBw.out.size
      clear hX0a hb1a hX1a hb2a hX2a HOd c0
      rcases nearK_holds n A z.toNat (PX / 8) (PY / 8) with hnn | ⟨k, j, hk, hnn, hj, h1, h2, h3⟩
      · have HG : Hid (F PX PY = 0) := HFv.out.trans (frI_no hnn)
        rw [hnn]
        clear HFv hnn HAp HNp
        have hlen := HLn.out
        go_wp2_with (first
          | (at_builtin; go_must (refine wpList_append_own _ rfl _ _ 49 rfl w.heap.size 2 ii (.int .i64 0) 1 8 Tryz.underlying49 hi hz0 hz1 hz2 rfl (by decide) _ (frK F X Y wd i).length ((frK F X Y wd i).map (.int .i64 ·)) rfl (World.ownsRow.alloc HO9.out _) ⟨wk2a.heap.size, 0, none⟩ 1 1 [.int .i64 0] rfl rfl ?c1 ?c2 ?c3 ?c4 ?c5 ?_)))
        case c1 =>
          intro q u hq
          match q, hq with
          | 0, hq => simp at hq; subst hq; simp [Addr.add, go_sem]
          | q + 1, hq => simp at hq
        case c2 => intro u hu; simp at hu; subst hu; rfl
        case c3 => unfold maxLen; omega
        case c4 => omega
        case c5 => simp; omega
        intro v' w3 hown' hgrow hnil
        clear hnil
        generalize hU : (wk2a.alloc _ : World) = U at hgrow
        have hBV : Below wk2a.heap.size wk2a U := by subst hU; (repeat (first | exact Below.refl _ _ | assumption | refine Below.drew ?_ | refine bl_alloc ?_ _ | refine bl_then ?_ (by assumption) | refine Below.setCell ?_ (by first | omega | (simp; done) | (simp; omega)) _ | refine bl_store ?_ ?_ _ _))
        have hBg : Below w.heap.size U w3 := (Below.refl _ _).grown hgrow (by have := hBV.size; omega) (fun k hk => HBS.out k hk)
        have HB3 : Hid (Below w.heap.size w w3) := (HBw.out.trans (hBV.mono hs9)).trans hBg
        have HO3 : Hid (RowN w.heap.size w3 v' (frK F X Y wd (i + 1))) := by
          show RowN _ _ _ _
          rw [HSK.out, HG.out]
          show World.ownsRow _ _ _ _ _ _ _
          rw [List.length_append, List.map_append, HLn.out]
          exact hown'
        clear hown' hgrow hBg hBV hU
        go_wp2
        go_roundw
        case rel => exact ⟨i + 1, by omega, by go_num, HO3.out, HB3.out⟩
        case measure => simp [intOf]; omega
      · have hkz : z - (A k).z = (j : Int) := by rw [h1]; omega
        have HG : Hid (F PX PY = upI j (A k).x (A k).y (A k).I PX PY) := HFv.out.trans (frI_at hnn hkz)
        obtain ⟨hmk, hrf⟩ := kC_len (HZ0.out k hk)
        have hrb := ref_bd hrf
        have HUp : Hid (∀ W, Below w.heap.size w W → Calls Tryz.prog 69 #[.slice (A k).ia (A k).m (A k).ic, refV (A k).z (A k).x (A k).y, .int .i64 z, .int .i64 PX, .int .i64 PY] W fun e w' => e = .returned (.int .i64 (F PX PY)) ∧ Below W.heap.size W w') := fun W h => by
          rcases (HA.out.2 k hk).2.2 with h' | ⟨ib, io, e, hil, hns⟩
          · omega
          · rw [e, hmk, HG.out]
            rw [hmk] at hns
            have b1 := near_in (x := PX) (j := j) (by omega) (by omega)
            have b2 := near_in (x := PY) (j := j) (by omega) (by omega)
            rw [← h2] at b1
            rw [← h3] at b2
            exact l8Up_any ib io (A k).ic j (A k).z (A k).x (A k).y z PX PY (A k).I W (by omega) hkz ⟨hrb.1.1, hrb.1.2⟩ (NsAt.below (show NsAt w ib io 64 (A k).I from hns) h hil) (Nat.lt_of_lt_of_le hil h.size) hrb.2.1 hrb.2.2 bX bY b1 b2
        rw [hnn]
        have hik : (k : Int) < (n : Int) := by omega
        have hi0 : (0 : Int) ≤ (k : Int) := by omega
        have hkn : ¬ (k : Int) < 0 := by omega
        have hat := HA.out.2 k hk |>.1
        have hbl : b < w.heap.size := HA.out.1
        have HKp : Hid (KpAt w b (k * 5) (A k)) := hat
        have hbv := HV.out.below hql HBw.out
        have v7 := hbv.cell 7 rfl
        clear HFv hnn HAp HNp h1 h2 h3 hkz hrf hrb hmk hat hbv HG
        generalize A k = kp at *
        generalize F PX PY = G0 at *
        go_wp2_with fail
        have HBk : Hid (Below w.heap.size w wk2a) := HBw.out
        have c0 : ∀ W', Below w.heap.size w W' → W'.cell? ⟨q, 0, none⟩ = some (.int .i64 z) := fun W' h => (HV.out.below hql h).cell 0 rfl
        obtain ⟨e0, e1, e2, e3, e4⟩ := HKp.out
        have d0 : ∀ W', Below w.heap.size w W' → W'.cell? ⟨b, k * 5, none⟩ = some (.int .i64 kp.z) := fun W' h => (h.cell (p := ⟨b, _, none⟩) hbl).trans e0
        have d1 : ∀ W', Below w.heap.size w W' → W'.cell? ⟨b, k * 5 + 1, none⟩ = some (.int .i64 kp.x) := fun W' h => (h.cell (p := ⟨b, _, none⟩) hbl).trans e1
        have d2 : ∀ W', Below w.heap.size w W' → W'.cell? ⟨b, k * 5 + 2, none⟩ = some (.int .i64 kp.y) := fun W' h => (h.cell (p := ⟨b, _, none⟩) hbl).trans e2
        have d4 : ∀ W', Below w.heap.size w W' → W'.cell? ⟨b, k * 5 + 4, none⟩ = some (.slice kp.ia kp.m kp.ic) := fun W' h => (h.cell (p := ⟨b, _, none⟩) hbl).trans e4
        clear e0 e1 e2 e3 e4 v7 HKp
        refine wp_region_noPanic ?_
        refine wp_region_held_drew (S := fun W' => Below w.heap.size w W') (by kernel_rfl) (by have := HBk.out; (repeat (first | exact Below.refl _ _ | assumption | refine Below.drew ?_ | refine bl_alloc ?_ _ | refine bl_then ?_ (by assumption) | refine Below.setCell ?_ (by first | omega | (simp; done) | (simp; omega)) _ | refine bl_store ?_ ?_ _ _))) (fun hHeld => ?_)
        have hX0b : Below w.heap.size w wk2a.drew := hHeld
        have HO0b : Hid (RowN w.heap.size wk2a.drew (.slice va vn vc) (frK F X Y wd i)) := HO9.out.below (by (repeat (first | exact Below.refl _ _ | assumption | refine Below.drew ?_ | refine bl_alloc ?_ _ | refine bl_then ?_ (by assumption) | refine Below.setCell ?_ (by first | omega | (simp; done) | (simp; omega)) _ | refine bl_store ?_ ?_ _ _)))
        refine takeD (i := 0) (d := some 72) (v := ?vb0) rfl rfl (by kernel_rfl) (by kernel_rfl) (by kernel_rfl) (fun _ _ _ h => h) (Or.inl ⟨by rfl, ?hyb0⟩) (by assumption) ?_
        case hyb0 => (intro w hSw; (try dsimp only at hSw); go_simp <;> with_reducible rfl)
        try simp only [Act.put, List.setIfInBounds_toArray, List.set_cons_zero, List.set_cons_succ]
        refine takeD (i := 1) (d := some 73) (v := ?vb1) rfl rfl (by kernel_rfl) (by kernel_rfl) (by kernel_rfl) (fun _ _ _ h => h) (Or.inl ⟨by rfl, ?hyb1⟩) (by assumption) ?_
        case hyb1 => (intro w hSw; (try dsimp only at hSw); go_simp <;> with_reducible rfl)
        try simp only [Act.put, List.setIfInBounds_toArray, List.set_cons_zero, List.set_cons_succ]
        refine takeD (i := 2) (d := some 74) (v := ?vb2) rfl rfl (by kernel_rfl) (by kernel_rfl) (by kernel_rfl) (fun _ _ _ h => h) (Or.inl ⟨by rfl, ?hyb2⟩) (by assumption) ?_
        case hyb2 => (intro w hSw; (try dsimp only at hSw); go_simp <;> with_reducible rfl)
        try simp only [Act.put, List.setIfInBounds_toArray, List.set_cons_zero, List.set_cons_succ]
        refine takeD (i := 3) (d := some 75) (v := ?vb3) rfl rfl (by kernel_rfl) (by kernel_rfl) (by kernel_rfl) (fun _ _ _ h => h) (Or.inl ⟨by rfl, ?hyb3⟩) (by assumption) ?_
        case hyb3 => (intro w hSw; (try dsimp only at hSw); go_simp <;> with_reducible rfl)
        try simp only [Act.put, List.setIfInBounds_toArray, List.set_cons_zero, List.set_cons_succ]
        refine takeD (i := 4) (d := some 76) (v := ?vb4) rfl rfl (by kernel_rfl) (by kernel_rfl) (by kernel_rfl) (fun _ _ _ h => h) (Or.inl ⟨by rfl, ?hyb4⟩) (by assumption) ?_
        case hyb4 => (intro w hSw; (try dsimp only at hSw); go_simp <;> with_reducible rfl)
        try simp only [Act.put, List.setIfInBounds_toArray, List.set_cons_zero, List.set_cons_succ]
        refine takeD (i := 5) (d := some 77) (v := ?vb5) rfl rfl (by kernel_rfl) (by kernel_rfl) (by kernel_rfl) (fun _ _ _ h => h) (Or.inl ⟨by rfl, ?hyb5⟩) (by assumption) ?_
        case hyb5 => (intro w hSw; (try dsimp only at hSw); go_simp <;> with_reducible rfl)
        try simp only [Act.put, List.setIfInBounds_toArray, List.set_cons_zero, List.set_cons_succ]
        refine takeD (i := 6) (d := some 78) (v := ?vb6) rfl rfl (by kernel_rfl) (by kernel_rfl) (by kernel_rfl) (fun _ _ _ h => h) (Or.inl ⟨by rfl, ?hyb6⟩) (by assumption) ?_
        case hyb6 => (intro w hSw; (try dsimp only at hSw); go_simp <;> with_reducible rfl)
        try simp only [Act.put, List.setIfInBounds_toArray, List.set_cons_zero, List.set_cons_succ]
        refine takeD (i := 7) (d := some 79) (v := ?vb7) rfl rfl (by kernel_rfl) (by kernel_rfl) (by kernel_rfl) (fun _ _ _ h => h) (Or.inl ⟨by rfl, ?hyb7⟩) (by assumption) ?_
        case hyb7 => (intro w hSw; (try dsimp only at hSw); go_simp <;> with_reducible rfl)
        try simp only [Act.put, List.setIfInBounds_toArray, List.set_cons_zero, List.set_cons_succ]
        refine takeD (i := 8) (d := some 80) (v := ?vb8) rfl rfl (by kernel_rfl) (by kernel_rfl) (by kernel_rfl) (fun _ _ _ h => h) (Or.inl ⟨by rfl, ?hyb8⟩) (by assumption) ?_
        case hyb8 => (intro w hSw; (try dsimp only at hSw); go_simp <;> with_reducible rfl)
        try simp only [Act.put, List.setIfInBounds_toArray, List.set_cons_zero, List.set_cons_succ]
        refine takeD (i := 9) (d := some 81) (v := ?vb9) rfl rfl (by kernel_rfl) (by kernel_rfl) (by kernel_rfl) (fun _ _ _ h => h) (Or.inl ⟨by rfl, ?hyb9⟩) (by assumption) ?_
        case hyb9 => (intro w hSw; (try dsimp only at hSw); go_simp <;> with_reducible rfl)
        try simp only [Act.put, List.setIfInBounds_toArray, List.set_cons_zero, List.set_cons_succ]
        refine takeD (i := 10) (d := some 82) (v := ?vb10) rfl rfl (by kernel_rfl) (by kernel_rfl) (by kernel_rfl) (fun _ _ _ h => h) (Or.inl ⟨by rfl, ?hyb10⟩) (by assumption) ?_
        case hyb10 => (intro w hSw; (try dsimp only at hSw); go_simp <;> with_reducible rfl)
        try simp only [Act.put, List.setIfInBounds_toArray, List.set_cons_zero, List.set_cons_succ]
        refine takeD (i := 11) (d := some 83) (v := ?vb11) rfl rfl (by kernel_rfl) (by kernel_rfl) (by kernel_rfl) (fun _ _ _ h => h) (Or.inl ⟨by rfl, ?hyb11⟩) (by assumption) ?_
        case hyb11 => (intro w hSw; (try dsimp only at hSw); go_simp <;> with_reducible rfl)
        try simp only [Act.put, List.setIfInBounds_toArray, List.set_cons_zero, List.set_cons_succ]
        refine takeD (i := 12) (d := some 84) (v := ?vb12) rfl rfl (by kernel_rfl) (by kernel_rfl) (by kernel_rfl) (fun _ _ _ h => h) (Or.inl ⟨by rfl, ?hyb12⟩) (by assumption) ?_
        case hyb12 => (intro w hSw; (try dsimp only at hSw); go_simp <;> with_reducible rfl)
        try simp only [Act.put, List.setIfInBounds_toArray, List.set_cons_zero, List.set_cons_succ]
        refine takeD (i := 13) (d := some 85) (v := ?vb13) rfl rfl (by kernel_rfl) (by kernel_rfl) (by kernel_rfl) (fun _ _ _ h => h) (Or.inl ⟨by rfl, ?hyb13⟩) (by assumption) ?_
        case hyb13 => (intro w hSw; (try dsimp only at hSw); go_simp <;> with_reducible rfl)
        try simp only [Act.put, List.setIfInBounds_toArray, List.set_cons_zero, List.set_cons_succ]
        refine takeD (i := 14) (d := some 86) (v := ?vb14) rfl rfl (by kernel_rfl) (by kernel_rfl) (by kernel_rfl) (fun _ _ _ h => h) (Or.inl ⟨by rfl, ?hyb14⟩) (by assumption) ?_
        case hyb14 => (intro w hSw; (try dsimp only at hSw); go_simp <;> with_reducible rfl)
        try simp only [Act.put, List.setIfInBounds_toArray, List.set_cons_zero, List.set_cons_succ]
        refine takeD (i := 15) (d := some 87) (v := ?vb15) rfl rfl (by kernel_rfl) (by kernel_rfl) (by kernel_rfl) (fun _ _ _ h => h) (Or.inl ⟨by rfl, ?hyb15⟩) (by assumption) ?_
        case hyb15 => (intro w hSw; (try dsimp only at hSw); go_simp <;> with_reducible rfl)
        try simp only [Act.put, List.setIfInBounds_toArray, List.set_cons_zero, List.set_cons_succ]
        generalize wk2a.drew = wk0b at *
        refine wpAnyH_ready (rs := [16]) (by kernel_rfl) (by simp) ?_
        refine (AllReadyH.cons rfl (fun K hK => ?_) AllReadyH.nil)
        rw [if_pos (by rfl)]
        go_simp
        refine Calls.mono (HUp.out _ hX0b) ?_
        rintro e wk1b ⟨rfl, hb1b⟩
        have hX1b : Below w.heap.size w wk1b := bl_then hX0b hb1b
        have HO1b : Hid (RowN w.heap.size wk1b (.slice va vn vc) (frK F X Y wd i)) := HO0b.out.below hb1b
        go_wp2_with fail
        refine hK.out _ _ hX1b (fun hHeld => ?_)
        clear hK K
        try simp only [Act.put, List.setIfInBounds_toArray, List.set_cons_zero, List.set_cons_succ]
        refine wpAnyH_ready (rs := [17]) (by kernel_rfl) (by simp) ?_
        refine (AllReadyH.cons rfl (fun K hK => ?_) AllReadyH.nil)
        rw [if_pos (by rfl)]
        go_simp
        generalize hwA : (World.alloc _ _ : World) = wk3b
        have hbA : Below wk1b.heap.size wk1b wk3b := by subst hwA; (repeat (first | exact Below.refl _ _ | assumption | refine Below.drew ?_ | refine bl_alloc ?_ _ | refine bl_then ?_ (by assumption) | refine Below.setCell ?_ (by first | omega | (simp; done) | (simp; omega)) _ | refine bl_store ?_ ?_ _ _))
        have a0 : wk3b.cell? ⟨wk1b.heap.size, 0, none⟩ = some (.int .i64 G0) := by subst hwA; simp [go_sem]
        have hszA : wk3b.heap.size = wk1b.heap.size + 1 := by subst hwA; simp
        have HOA : Hid (wk3b.ownsRow w.heap.size 2 1 (.slice va vn vc) (frK F X Y wd i).length ((frK F X Y wd i).map (.int .i64 ·))) := by subst hwA; exact World.ownsRow.alloc HO1b.out _
        have hXAb : Below w.heap.size w wk3b := bl_then hX1b hbA
        have hsA := hXAb.size
        clear hwA
        refine hK.out _ _ hXAb (fun hHeld => ?_)
        clear hK K
        try simp only [Act.put, List.setIfInBounds_toArray, List.set_cons_zero, List.set_cons_succ]
        have hlen := HLn.out
        refine wpAnyH_ready (rs := [18]) (by kernel_rfl) (by simp) ?_
        refine (AllReadyH.cons rfl (fun K hK => ?_) AllReadyH.nil)
        refine step_append_own rfl (.tmp 72) (.tmp 89) 49 rfl w.heap.size 2 ii (.int .i64 0) 1 8 Tryz.underlying49 hi hz0 hz1 hz2 rfl (by decide) (.slice va vn vc) (frK F X Y wd i).length ((frK F X Y wd i).map (.int .i64 ·)) rfl HOA.out ⟨wk1b.heap.size, 0, none⟩ 1 1 [.int .i64 G0] rfl rfl ?c1 ?c2 ?c3 ?c4 ?c5 ?_
        case c1 =>
          intro q u hq
          match q, hq with
          | 0, hq => exact (Option.some.inj hq) ▸ a0
          | q + 1, hq => cases hq
        case c2 => intro u hu; simp at hu; subst hu; rfl
        case c3 => unfold maxLen; omega
        case c4 => omega
        case c5 => first | omega | (simp; omega)
        intro v' w3' hown' hgrow hnil
        clear hnil
        have hBg : Below w.heap.size wk3b w3' := (Below.refl _ _).grown hgrow (by omega) (fun b hb => HBS.out b hb)
        have hB3 : Below w.heap.size w w3' := hXAb.trans hBg
        have HO4 : Hid (RowN w.heap.size w3' v' (frK F X Y wd (i + 1))) := by
          show RowN _ _ _ _
          rw [HSK.out]
          show World.ownsRow _ _ _ _ _ _ _
          rw [List.length_append, List.map_append]
          exact hown'
        rw [hlen] at hown'
        obtain ⟨ga, gc, rfl⟩ := ownsRow_succR hown'
        show K (Act.put _ (some 90) _) w3'
        refine hK.out _ _ hB3 (fun hHeld => ?_)
        clear hK K hown' hgrow hBg
        try simp only [Act.put, List.setIfInBounds_toArray, List.set_cons_zero, List.set_cons_succ]
        refine takeD (i := 19) (d := some 4) (v := ?vs19) rfl rfl (by kernel_rfl) (by kernel_rfl) (by kernel_rfl) (fun _ _ _ h => h) (Or.inl ⟨by rfl, ?hys19⟩) hB3 ?_
        case hys19 => (intro w hSw; (try dsimp only at hSw); go_simp <;> with_reducible rfl)
        try simp only [Act.put, List.setIfInBounds_toArray, List.set_cons_zero, List.set_cons_succ]
        refine wpAnyH_done (by kernel_rfl) ?_ _
        refine NoPanic.normal ?_
        have HB3 : Hid (Below w.heap.size w w3') := hB3
        go_wp2_with fail
        go_roundw
        case rel => exact ⟨i + 1, by omega, by go_num, HO4.out, HB3.out⟩
        case measure => simp [intOf]; omega
    · obtain rfl : i = N := by omega
      have hnn : ¬ (i : Int) < (i : Int) := by omega
      go_wp2_with fail
      go_region
      go_wp2
      go_ret
      refine ⟨_, rfl, ?_, ?_⟩
      · rw [HRW.out]
        exact HO0'.out.below (by (repeat (first | exact Below.refl _ _ | assumption | refine Below.drew ?_ | refine bl_alloc ?_ _ | refine bl_then ?_ (by assumption) | refine Below.setCell ?_ (by first | omega | (simp; done) | (simp; omega)) _ | refine bl_store ?_ ?_ _ _)))
      · have h1 := HB.out
        (repeat (first | exact Below.refl _ _ | assumption | refine Below.drew ?_ | refine bl_alloc ?_ _ | refine bl_then ?_ (by assumption) | refine Below.setCell ?_ (by first | omega | (simp; done) | (simp; omega)) _ | refine bl_store ?_ ?_ _ _))
end Go.Proofs.YtbdhhclamgmfkaaGreat
