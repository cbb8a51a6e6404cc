/- l9Frame: what a camera sees of the map, pixel by pixel. -/
import Derived.Test.YtaodbplepegapaaGreatVRefFrame42
import Derived.Test.YtaodbplepegapaaGreatVRefFrame44
import Derived.BigQuiet
namespace Go.Proofs.YtaodbplepegapaaGreat
open Go.RowKit
set_option linter.unusedSimpArgs false
set_option linter.unusedVariables false
set_option maxRecDepth 100000

/-- The first k pixels of rows that are so wide. -/
def frK (G : Int → Int → Int) (x y : Int) (wd k : Nat) : List Int := (List.range k).map fun (k : Nat) => G (x + ((k % wd : Nat) : Int)) (y + ((k / wd : Nat) : Int))
theorem frK_add (G : Int → Int → Int) (x y : Int) (wd k : Nat) : frK G x y wd (k + 1) = frK G x y wd k ++ [G (x + ((k % wd : Nat) : Int)) (y + ((k / wd : Nat) : Int))] := by simp [frK, List.range_succ]
theorem frK_len (G : Int → Int → Int) (x y : Int) (wd k : Nat) : (frK G x y wd k).length = k := by simp [frK]
theorem frK_part (G : Int → Int → Int) (x y : Int) (wd r : Nat) (hw : 0 < wd) : ∀ c, c ≤ wd → frK G x y wd (r * wd + c) = frK G x y wd (r * wd) ++ (List.range c).map fun (c : Nat) => G (x + (c : Int)) (y + (r : Int))
  | 0, _ => by simp
  | c + 1, h => by
    have e1 : (r * wd + c) % wd = c := by rw [Nat.add_comm, Nat.add_mul_mod_self_right]; exact Nat.mod_eq_of_lt (by omega)
    have e2 : (r * wd + c) / wd = r := by rw [Nat.add_comm, Nat.add_mul_div_right _ _ hw, Nat.div_eq_of_lt (by omega)]; omega
    rw [← Nat.add_assoc, frK_add, frK_part G x y wd r hw c (by omega), e1, e2, List.range_succ, List.map_append, ← List.append_assoc]
    rfl
theorem frK_rows (G : Int → Int → Int) (x y : Int) (wd : Nat) (hw : 0 < wd) : ∀ ht, rowsL G x y wd ht = frK G x y wd (ht * wd)
  | 0 => by simp [rowsL, frK]
  | ht + 1 => by
    rw [Nat.succ_mul, frK_part G x y wd ht hw wd (Nat.le_refl _), ← frK_rows G x y wd hw ht, ← rowsP_full]
    rfl
theorem CamAt.below {w w' : World} {q B : Nat} {z x y wd ht : Int} (h : CamAt w q z x y wd ht) (hb : Below B w w') (hq : q < B) : CamAt w' q z x y wd ht :=
  ⟨(hb.cell (p := ⟨q, 0, none⟩) hq).trans h.1, (hb.cell (p := ⟨q, 1, none⟩) hq).trans h.2.1, (hb.cell (p := ⟨q, 2, none⟩) hq).trans h.2.2.1, (hb.cell (p := ⟨q, 3, none⟩) hq).trans h.2.2.2.1, (hb.cell (p := ⟨q, 4, none⟩) hq).trans h.2.2.2.2⟩
theorem pix_of_cam {z x y : Int} {wd ht : Nat} (h : camB z x y wd ht = true) (m q : Nat) (hm : m < wd) (hq : q < ht) : pixB z (x + (m : Int)) (y + (q : Int)) = true := by
  have hz := camB_zoom h
  have hi := camB_in h
  generalize hp : pixI z = pz at hi
  simp [pixB, inB, hz, hp]
  omega
set_option maxHeartbeats 16000000 in
theorem l9Frame_any (q : Nat) (z X Y : Int) (wd ht : Nat) (b n cap : Nat) (G : Nat → Feat) (w : World) (hc : CamAt w q z X Y wd ht) (hb : camB z X Y wd ht = true) (hg : FsAt w b 0 n G) (hbl : b < w.heap.size) (hs : SmallFs n G) (hf : featsC n G = 0) :
    Calls Tryz.prog 62 #[.slice (some ⟨b, 0, none⟩) n cap, .pointer (some ⟨q, 0, none⟩)] w fun e w' => ∃ v, e = .returned v ∧ RowN w.heap.size w' v (rowsL (paintS G n z) X Y wd ht) ∧ Below w.heap.size w w' := by
  obtain ⟨ii, hi, hz0, hz1, hz2⟩ := info_parts info_n64
  have hql : q < w.heap.size := World.block_lt_of_cell? _ _ hc.1
  have hz : zoomB z = true := camB_zoom hb
  have HT : Hid (CamAt w q z X Y wd ht) := hc
  have hin := camB_in hb
  have hpb := pixI_bd hz
  have x0 : 0 ≤ X ∧ X ≤ 64 := by omega
  have y0 : 0 ≤ Y ∧ Y ≤ 64 := by omega
  have hwd : 1 ≤ wd ∧ wd ≤ 8 := by omega
  have hht : 1 ≤ ht ∧ ht ≤ 8 := by omega
  have HRW : Hid (∀ F : Int → Int → Int, rowsL F X Y wd ht = frK F X Y wd (ht * wd)) := fun F => frK_rows F X Y wd (by omega) ht
  have HPX : Hid (∀ i, i < ht * wd → pixB z (X + ((i % wd : Nat) : Int)) (Y + ((i / wd : Nat) : Int)) = true) := fun i hi => pix_of_cam hb _ _ (Nat.mod_lt _ (by omega)) (Nat.div_lt_of_lt_mul (by rw [Nat.mul_comm]; exact hi))
  have HDV : Hid (∀ i, i < ht * wd → i % wd < wd ∧ i / wd < ht) := fun i hi => ⟨Nat.mod_lt _ (by omega), Nat.div_lt_of_lt_mul (by rw [Nat.mul_comm]; exact hi)⟩
  obtain ⟨N, hN⟩ : ∃ N, N = ht * wd := ⟨_, rfl⟩
  have hN64 : N ≤ 64 := by rw [hN]; exact Nat.mul_le_mul hht.2 hwd.2
  have hmul : IntKind.i64.wrap ((wd : Int) * (ht : Int)) = (N : Int) := by
    have e : ((wd : Int) * (ht : Int)) = (N : Int) := by rw [hN, Int.natCast_mul, Int.mul_comm]
    rw [e]
    exact IntWalk.i64_in _ (by omega)
  rw [← hN] at HPX HDV HRW
  have HLA : Hid (∀ W', Below w.heap.size w W' → Calls Tryz.prog 34 #[.slice (some ⟨b, 0, none⟩) n cap, .int .i64 z] W' fun e w' => ∃ g c T, e = .returned (.slice (some ⟨g, 0, none⟩) n c) ∧ g < w'.heap.size ∧ FsAt w' g 0 n T ∧ (∀ i, i < n → simOf z (G ((srtF n G).getD i 0)) (T i)) ∧ Below W'.heap.size W' w') := fun W' hW' => (l4All_any b n cap G z W' (hg.below hW' hbl) (Nat.lt_of_lt_of_le hbl hW'.size) hs hf hz).mono fun e w' ⟨g, c, T, h1, h2, h3, h4, h5, h6, h7⟩ => ⟨g, c, T, h1, h3, h4, h5, h7⟩
  have h12 := (featsC_ok hf).1
  have HOK : Hid (∀ i, i < n → okC (G ((srtF n G).getD i 0))) := fun i hi => (featsC_ok hf).2.2 _ (srtF_lt n G i hi)
  have e0 := hc.1
  clear hg hs hf hb hc hin hN
  go_enter Tryz.func62, Tryz.ntmps62
  go_wp2_with fail
  refine Calls.mono (HLA.out _ (by (repeat (first | exact Below.refl _ _ | assumption | refine Below.drew ?_ | refine bl_alloc ?_ _ | refine bl_then ?_ (by assumption) | refine Below.setCell ?_ (by first | omega | (simp; done) | (simp; omega)) _ | refine bl_store ?_ ?_ _ _)))) ?_
  rintro e w0 ⟨g, cg, T, rfl, hgl, hFT, hsim, hb0⟩
  have HB00 : Hid (Below w.heap.size w w0) := hb0
  have eP : paintF T n z = paintS G n z := by funext x y; exact paint_sim hsim
  have HP : Hid (∀ (W : World) (i : Nat), Below w0.heap.size w0 W → i < N → Calls Tryz.prog 33 #[.slice (some ⟨g, 0, none⟩) n cg, .int .i64 z, .int .i64 (X + ((i % wd : Nat) : Int)), .int .i64 (Y + ((i / wd : Nat) : Int))] W fun e w' => e = .returned (.int .i64 (paintS G n z (X + ((i % wd : Nat) : Int)) (Y + ((i / wd : Nat) : Int)))) ∧ Below W.heap.size W w') := fun W i hW hi => by
    rw [← eP]
    exact l4Painted_any g n cg T z _ _ W (hFT.below hW hgl) (Nat.lt_of_lt_of_le hgl hW.size) h12 (fun i hi => okF_sim (hsim i hi) (HOK.out i hi) hz) (HPX.out i hi)
  have HT0 : Hid (CamAt w0 q z X Y wd ht) := HT.out.below hb0 hql
  have hql0 : q < w0.heap.size := Nat.lt_of_lt_of_le hql hb0.size
  clear hb0 eP hFT hsim HPX HLA HT e0
  obtain ⟨F, hF⟩ : ∃ F, paintS G n z = F := ⟨_, rfl⟩
  rw [hF] at HP
  have HFE : Hid (paintS G n z = F) := hF
  clear hF
  go_wp2_with fail
  generalize hW : (w0.alloc _ : World) = w1'
  have HB0 : Hid (Below w0.heap.size w0 w1') := by show Below _ _ _; subst hW; (repeat (first | exact Below.refl _ _ | assumption | refine Below.drew ?_ | refine bl_alloc ?_ _ | refine bl_then ?_ (by assumption) | refine Below.setCell ?_ (by first | omega | (simp; done) | (simp; omega)) _ | refine bl_store ?_ ?_ _ _))
  have HO0 : Hid (RowN w0.heap.size w1' (.slice (some ⟨w0.heap.size, 0, none⟩) 0 0) (frK F X Y wd 0)) := by
    show RowN _ _ _ _
    subst hW
    exact World.ownsRow_lit (base := w0.heap.size) w0 #[] 0 (Nat.le_refl _) (Nat.zero_le _) rfl
  clear hW
  generalize w0 = w1 at *
  go_loopw [6, 7] (fun v j wr => ∃ i : Nat, i ≤ N ∧ j = .int .i64 (i : Int) ∧ RowN w1.heap.size wr v (frK F X Y wd i) ∧ Below w1.heap.size w1 wr) (fun _ j _ => N - (intOf j).toNat)
  case atStart => exact ⟨0, by omega, rfl, HO0.out, HB0.out⟩
  case round =>
    obtain ⟨i, hiN, rfl, hO, hB⟩ := hrel
    have HO0' : Hid (RowN w1.heap.size wr u6 (frK F X Y wd i)) := hO
    have HB : Hid (Below w1.heap.size w1 wr) := hB
    clear hO hB HO0 HB0
    have c0 : ∀ W', Below w1.heap.size w1 W' → W'.cell? ⟨q, 0, none⟩ = some (.int .i64 z) := fun W' h => (HT0.out.below h hql0).1
    have c1 : ∀ W', Below w1.heap.size w1 W' → W'.cell? ⟨q, 1, none⟩ = some (.int .i64 X) := fun W' h => (HT0.out.below h hql0).2.1
    have c2 : ∀ W', Below w1.heap.size w1 W' → W'.cell? ⟨q, 2, none⟩ = some (.int .i64 Y) := fun W' h => (HT0.out.below h hql0).2.2.1
    have c3 : ∀ W', Below w1.heap.size w1 W' → W'.cell? ⟨q, 3, none⟩ = some (.int .i64 (wd : Int)) := fun W' h => (HT0.out.below h hql0).2.2.2.1
    have c4 : ∀ W', Below w1.heap.size w1 W' → W'.cell? ⟨q, 4, none⟩ = some (.int .i64 (ht : Int)) := fun W' h => (HT0.out.below h hql0).2.2.2.2
    have g3 := c3 wr HB.out
    have g4 := c4 wr HB.out
    by_cases hlt : i < N
    · have hi' : (i : Int) < (N : Int) := by omega
      obtain ⟨m, hm⟩ : ∃ m : Nat, m = i % wd := ⟨_, rfl⟩
      obtain ⟨p, hp⟩ : ∃ p : Nat, p = i / wd := ⟨_, rfl⟩
      have hmq := HDV.out i hlt
      rw [← hm, ← hp] at hmq
      have hmb : m < 8 := by omega
      have hqb : p < 8 := by omega
      have em : (i : Int).tmod (wd : Int) = (m : Int) := by rw [Int.tmod_eq_emod_of_nonneg (by omega), hm]; rfl
      have eq' : (i : Int).tdiv (wd : Int) = (p : Int) := by rw [Int.tdiv_eq_ediv_of_nonneg (by omega), hp]; rfl
      have HSK : Hid (frK F X Y wd (i + 1) = frK F X Y wd i ++ [F (X + (m : Int)) (Y + (p : Int))]) := by show _ = _; rw [frK_add, hm, hp]
      have HLn : Hid ((frK F X Y wd i).length = i) := frK_len _ _ _ _ _
      have HCU : Hid (∀ W', Below w1.heap.size w1 W' → Calls Tryz.prog 33 #[.slice (some ⟨g, 0, none⟩) n cg, .int .i64 z, .int .i64 (X + (m : Int)), .int .i64 (Y + (p : Int))] W' fun e w' => e = .returned (.int .i64 (F (X + (m : Int)) (Y + (p : Int)))) ∧ Below W'.heap.size W' w') := fun W' hW => by rw [hm, hp]; exact HP.out W' i hW hlt
      clear hm hp hmq
      obtain ⟨va, vn, vc, hvs⟩ : ∃ va vn vc, u6 = .slice va vn vc := by
        obtain ⟨a', c', e', _, _⟩ := HO0'.out.own
        exact ⟨_, _, _, e'⟩
      subst hvs
      have HO := HO0'
      have HBS : Hid (∀ b, (Value.slice va vn vc).ownBlock = some b → w1.heap.size ≤ b) := fun b hb => (World.ownsRow.lt HO.out b hb).1
      clear HO0'
      have ss0 : IntKind.i64.wrap (X + (m : Int)) = X + (m : Int) := IntWalk.i64_in _ (by omega)
      have ss1 : IntKind.i64.wrap (Y + (p : Int)) = Y + (p : Int) := IntWalk.i64_in _ (by omega)
      have qq1 : IntKind.i64.wrap (p : Int) = (p : Int) := IntWalk.i64_in _ (by omega)
      have qq0 : IntKind.i64.wrap (m : Int) = (m : Int) := IntWalk.i64_in _ (by omega)
      have wz : ¬ (wd : Int) = 0 := by omega
      have wn : ¬ wd = 0 := by omega
      clear wz
      generalize F (X + (m : Int)) (Y + (p : Int)) = G0 at *
      have g0 := c0 wr HB.out
      have g1 := c1 wr HB.out
      have g2 := c2 wr HB.out
      go_wp2_with fail
      go_region
      go_wp2_with fail
      refine wp_region_noPanic ?_
      refine wp_region_held_drew (S := fun W' => Below w1.heap.size w1 W') (by kernel_rfl) (by have := HB.out; (repeat (first | exact Below.refl _ _ | assumption | refine Below.drew ?_ | refine bl_alloc ?_ _ | refine bl_then ?_ (by assumption) | refine Below.setCell ?_ (by first | omega | (simp; done) | (simp; omega)) _ | refine bl_store ?_ ?_ _ _))) (fun hHeld => ?_)
      have hSd : Below w1.heap.size w1 wr.drew.drew := hHeld
      refine takeD (i := 0) (d := some 28) (v := ?vr0) rfl rfl (by kernel_rfl) (by kernel_rfl) (by kernel_rfl) (fun _ _ _ h => h) (Or.inl ⟨by rfl, ?hyr0⟩) hSd ?_
      case hyr0 => (intro w hSw; (try dsimp only at hSw); go_simp <;> with_reducible rfl)
      try simp only [Act.put, List.setIfInBounds_toArray, List.set_cons_zero, List.set_cons_succ]
      refine takeD (i := 1) (d := some 29) (v := ?vr1) rfl rfl (by kernel_rfl) (by kernel_rfl) (by kernel_rfl) (fun _ _ _ h => h) (Or.inl ⟨by rfl, ?hyr1⟩) hSd ?_
      case hyr1 => (intro w hSw; (try dsimp only at hSw); go_simp <;> with_reducible rfl)
      try simp only [Act.put, List.setIfInBounds_toArray, List.set_cons_zero, List.set_cons_succ]
      refine takeD (i := 2) (d := some 30) (v := ?vr2) rfl rfl (by kernel_rfl) (by kernel_rfl) (by kernel_rfl) (fun _ _ _ h => h) (Or.inl ⟨by rfl, ?hyr2⟩) hSd ?_
      case hyr2 => (intro w hSw; (try dsimp only at hSw); go_simp <;> with_reducible rfl)
      try simp only [Act.put, List.setIfInBounds_toArray, List.set_cons_zero, List.set_cons_succ]
      refine takeD (i := 3) (d := some 31) (v := ?vr3) rfl rfl (by kernel_rfl) (by kernel_rfl) (by kernel_rfl) (fun _ _ _ h => h) (Or.inl ⟨by rfl, ?hyr3⟩) hSd ?_
      case hyr3 => (intro w hSw; (try dsimp only at hSw); go_simp <;> with_reducible rfl)
      try simp only [Act.put, List.setIfInBounds_toArray, List.set_cons_zero, List.set_cons_succ]
      refine takeD (i := 4) (d := some 32) (v := ?vr4) rfl rfl (by kernel_rfl) (by kernel_rfl) (by kernel_rfl) (fun _ _ _ h => h) (Or.inl ⟨by rfl, ?hyr4⟩) hSd ?_
      case hyr4 => (intro w hSw; (try dsimp only at hSw); go_simp <;> with_reducible rfl)
      try simp only [Act.put, List.setIfInBounds_toArray, List.set_cons_zero, List.set_cons_succ]
      refine takeD (i := 5) (d := some 33) (v := ?vr5) rfl rfl (by kernel_rfl) (by kernel_rfl) (by kernel_rfl) (fun _ _ _ h => h) (Or.inl ⟨by rfl, ?hyr5⟩) hSd ?_
      case hyr5 => (intro w hSw; (try dsimp only at hSw); go_simp <;> with_reducible rfl)
      try simp only [Act.put, List.setIfInBounds_toArray, List.set_cons_zero, List.set_cons_succ]
      refine takeD (i := 6) (d := some 34) (v := ?vr6) rfl rfl (by kernel_rfl) (by kernel_rfl) (by kernel_rfl) (fun _ _ _ h => h) (Or.inl ⟨by rfl, ?hyr6⟩) hSd ?_
      case hyr6 => (intro w hSw; (try dsimp only at hSw); go_simp <;> with_reducible rfl)
      try simp only [Act.put, List.setIfInBounds_toArray, List.set_cons_zero, List.set_cons_succ]
      refine takeD (i := 7) (d := some 35) (v := ?vr7) rfl rfl (by kernel_rfl) (by kernel_rfl) (by kernel_rfl) (fun _ _ _ h => h) (Or.inl ⟨by rfl, ?hyr7⟩) hSd ?_
      case hyr7 => (intro w hSw; (try dsimp only at hSw); go_simp <;> with_reducible rfl)
      try simp only [Act.put, List.setIfInBounds_toArray, List.set_cons_zero, List.set_cons_succ]
      refine takeD (i := 8) (d := some 36) (v := ?vr8) rfl rfl (by kernel_rfl) (by kernel_rfl) (by kernel_rfl) (fun _ _ _ h => h) (Or.inl ⟨by rfl, ?hyr8⟩) hSd ?_
      case hyr8 => (intro w hSw; (try dsimp only at hSw); go_simp <;> with_reducible rfl)
      try simp only [Act.put, List.setIfInBounds_toArray, List.set_cons_zero, List.set_cons_succ]
      refine takeD (i := 9) (d := some 37) (v := ?vr9) rfl rfl (by kernel_rfl) (by kernel_rfl) (by kernel_rfl) (fun _ _ _ h => h) (Or.inl ⟨by rfl, ?hyr9⟩) hSd ?_
      case hyr9 => (intro w hSw; (try dsimp only at hSw); go_simp <;> with_reducible rfl)
      try simp only [Act.put, List.setIfInBounds_toArray, List.set_cons_zero, List.set_cons_succ]
      refine takeD (i := 10) (d := some 38) (v := ?vr10) rfl rfl (by kernel_rfl) (by kernel_rfl) (by kernel_rfl) (fun _ _ _ h => h) (Or.inl ⟨by rfl, ?hyr10⟩) hSd ?_
      case hyr10 => (intro w hSw; (try dsimp only at hSw); go_simp <;> with_reducible rfl)
      try simp only [Act.put, List.setIfInBounds_toArray, List.set_cons_zero, List.set_cons_succ]
      refine takeD (i := 11) (d := some 39) (v := ?vr11) rfl rfl (by kernel_rfl) (by kernel_rfl) (by kernel_rfl) (fun _ _ _ h => h) (Or.inl ⟨by rfl, ?hyr11⟩) hSd ?_
      case hyr11 => (intro w hSw; (try dsimp only at hSw); go_simp <;> with_reducible rfl)
      try simp only [Act.put, List.setIfInBounds_toArray, List.set_cons_zero, List.set_cons_succ]
      refine takeD (i := 12) (d := some 40) (v := ?vr12) rfl rfl (by kernel_rfl) (by kernel_rfl) (by kernel_rfl) (fun _ _ _ h => h) (Or.inl ⟨by rfl, ?hyr12⟩) hSd ?_
      case hyr12 => (intro w hSw; (try dsimp only at hSw); go_simp <;> with_reducible rfl)
      try simp only [Act.put, List.setIfInBounds_toArray, List.set_cons_zero, List.set_cons_succ]
      refine takeD (i := 13) (d := some 41) (v := ?vr13) rfl rfl (by kernel_rfl) (by kernel_rfl) (by kernel_rfl) (fun _ _ _ h => h) (Or.inl ⟨by rfl, ?hyr13⟩) hSd ?_
      case hyr13 => (intro w hSw; (try dsimp only at hSw); go_simp <;> with_reducible rfl)
      try simp only [Act.put, List.setIfInBounds_toArray, List.set_cons_zero, List.set_cons_succ]
      refine takeD (i := 14) (d := some 42) (v := ?vr14) rfl rfl (by kernel_rfl) (by kernel_rfl) (by kernel_rfl) (fun _ _ _ h => h) (Or.inl ⟨by rfl, ?hyr14⟩) hSd ?_
      case hyr14 => (intro w hSw; (try dsimp only at hSw); go_simp <;> with_reducible rfl)
      try simp only [Act.put, List.setIfInBounds_toArray, List.set_cons_zero, List.set_cons_succ]
      refine takeD (i := 15) (d := some 43) (v := ?vr15) rfl rfl (by kernel_rfl) (by kernel_rfl) (by kernel_rfl) (fun _ _ _ h => h) (Or.inl ⟨by rfl, ?hyr15⟩) hSd ?_
      case hyr15 => (intro w hSw; (try dsimp only at hSw); go_simp <;> with_reducible rfl)
      try simp only [Act.put, List.setIfInBounds_toArray, List.set_cons_zero, List.set_cons_succ]
      refine takeD (i := 16) (d := some 44) (v := ?vr16) rfl rfl (by kernel_rfl) (by kernel_rfl) (by kernel_rfl) (fun _ _ _ h => h) (Or.inl ⟨by rfl, ?hyr16⟩) hSd ?_
      case hyr16 => (intro w hSw; (try dsimp only at hSw); go_simp <;> with_reducible rfl)
      try simp only [Act.put, List.setIfInBounds_toArray, List.set_cons_zero, List.set_cons_succ]
      refine takeD (i := 17) (d := some 45) (v := ?vr17) rfl rfl (by kernel_rfl) (by kernel_rfl) (by kernel_rfl) (fun _ _ _ h => h) (Or.inl ⟨by rfl, ?hyr17⟩) hSd ?_
      case hyr17 => (intro w hSw; (try dsimp only at hSw); go_simp <;> with_reducible rfl)
      try simp only [Act.put, List.setIfInBounds_toArray, List.set_cons_zero, List.set_cons_succ]
      refine takeD (i := 18) (d := some 46) (v := ?vr18) rfl rfl (by kernel_rfl) (by kernel_rfl) (by kernel_rfl) (fun _ _ _ h => h) (Or.inl ⟨by rfl, ?hyr18⟩) hSd ?_
      case hyr18 => (intro w hSw; (try dsimp only at hSw); go_simp <;> with_reducible rfl)
      try simp only [Act.put, List.setIfInBounds_toArray, List.set_cons_zero, List.set_cons_succ]
      refine takeD (i := 19) (d := some 47) (v := ?vr19) rfl rfl (by kernel_rfl) (by kernel_rfl) (by kernel_rfl) (fun _ _ _ h => h) (Or.inl ⟨by rfl, ?hyr19⟩) hSd ?_
      case hyr19 => (intro w hSw; (try dsimp only at hSw); go_simp <;> with_reducible rfl)
      try simp only [Act.put, List.setIfInBounds_toArray, List.set_cons_zero, List.set_cons_succ]
      refine takeD (i := 20) (d := some 48) (v := ?vr20) rfl rfl (by kernel_rfl) (by kernel_rfl) (by kernel_rfl) (fun _ _ _ h => h) (Or.inl ⟨by rfl, ?hyr20⟩) hSd ?_
      case hyr20 => (intro w hSw; (try dsimp only at hSw); go_simp <;> with_reducible rfl)
      try simp only [Act.put, List.setIfInBounds_toArray, List.set_cons_zero, List.set_cons_succ]
      refine takeD (i := 21) (d := some 49) (v := ?vr21) rfl rfl (by kernel_rfl) (by kernel_rfl) (by kernel_rfl) (fun _ _ _ h => h) (Or.inl ⟨by rfl, ?hyr21⟩) hSd ?_
      case hyr21 => (intro w hSw; (try dsimp only at hSw); go_simp <;> with_reducible rfl)
      try simp only [Act.put, List.setIfInBounds_toArray, List.set_cons_zero, List.set_cons_succ]
      refine takeD (i := 22) (d := some 50) (v := ?vr22) rfl rfl (by kernel_rfl) (by kernel_rfl) (by kernel_rfl) (fun _ _ _ h => h) (Or.inl ⟨by rfl, ?hyr22⟩) hSd ?_
      case hyr22 => (intro w hSw; (try dsimp only at hSw); go_simp <;> with_reducible rfl)
      try simp only [Act.put, List.setIfInBounds_toArray, List.set_cons_zero, List.set_cons_succ]
      refine takeD (i := 23) (d := some 51) (v := ?vr23) rfl rfl (by kernel_rfl) (by kernel_rfl) (by kernel_rfl) (fun _ _ _ h => h) (Or.inl ⟨by rfl, ?hyr23⟩) hSd ?_
      case hyr23 => (intro w hSw; (try dsimp only at hSw); go_simp <;> with_reducible rfl)
      try simp only [Act.put, List.setIfInBounds_toArray, List.set_cons_zero, List.set_cons_succ]
      refine takeD (i := 24) (d := some 52) (v := ?vr24) rfl rfl (by kernel_rfl) (by kernel_rfl) (by kernel_rfl) (fun _ _ _ h => h) (Or.inl ⟨by rfl, ?hyr24⟩) hSd ?_
      case hyr24 => (intro w hSw; (try dsimp only at hSw); go_simp <;> with_reducible rfl)
      try simp only [Act.put, List.setIfInBounds_toArray, List.set_cons_zero, List.set_cons_succ]
      refine takeD (i := 25) (d := some 53) (v := ?vr25) rfl rfl (by kernel_rfl) (by kernel_rfl) (by kernel_rfl) (fun _ _ _ h => h) (Or.inl ⟨by rfl, ?hyr25⟩) hSd ?_
      case hyr25 => (intro w hSw; (try dsimp only at hSw); go_simp <;> with_reducible rfl)
      try simp only [Act.put, List.setIfInBounds_toArray, List.set_cons_zero, List.set_cons_succ]
      refine takeD (i := 26) (d := some 54) (v := ?vr26) rfl rfl (by kernel_rfl) (by kernel_rfl) (by kernel_rfl) (fun _ _ _ h => h) (Or.inl ⟨by rfl, ?hyr26⟩) hSd ?_
      case hyr26 => (intro w hSw; (try dsimp only at hSw); go_simp <;> with_reducible rfl)
      try simp only [Act.put, List.setIfInBounds_toArray, List.set_cons_zero, List.set_cons_succ]
      refine takeD (i := 27) (d := some 55) (v := ?vr27) rfl rfl (by kernel_rfl) (by kernel_rfl) (by kernel_rfl) (fun _ _ _ h => h) (Or.inl ⟨by rfl, ?hyr27⟩) hSd ?_
      case hyr27 => (intro w hSw; (try dsimp only at hSw); go_simp <;> with_reducible rfl)
      try simp only [Act.put, List.setIfInBounds_toArray, List.set_cons_zero, List.set_cons_succ]
      refine wpAnyH_ready (rs := [28]) (by kernel_rfl) (by simp) ?_
      refine (AllReadyH.cons rfl (fun K hK => ?_) AllReadyH.nil)
      rw [if_pos (by rfl)]
      go_simp
      refine Calls.mono (HCU.out _ hSd) ?_
      rintro e wB ⟨rfl, hbB⟩
      have hSB : Below w1.heap.size w1 wB := bl_then hSd hbB
      have HOB : Hid (RowN w1.heap.size wB (.slice va vn vc) (frK F X Y wd i)) := by
        have h1 : RowN w1.heap.size wr.drew.drew (.slice va vn vc) (frK F X Y wd i) := HO.out.below (by (repeat (first | exact Below.refl _ _ | assumption | refine Below.drew ?_ | refine bl_alloc ?_ _ | refine bl_then ?_ (by assumption) | refine Below.setCell ?_ (by first | omega | (simp; done) | (simp; omega)) _ | refine bl_store ?_ ?_ _ _)))
        exact h1.below hbB
      go_wp2_with fail
      refine hK.out _ _ hSB (fun hHeld => ?_)
      clear hK K hbB
      try simp only [Act.put, List.setIfInBounds_toArray, List.set_cons_zero, List.set_cons_succ]
      refine wpAnyH_ready (rs := [29]) (by kernel_rfl) (by simp) ?_
      refine (AllReadyH.cons rfl (fun K hK => ?_) AllReadyH.nil)
      rw [if_pos (by rfl)]
      go_simp
      generalize hwA : (World.alloc _ _ : World) = wA
      have hbA : Below wB.heap.size wB wA := by subst hwA; (repeat (first | exact Below.refl _ _ | assumption | refine Below.drew ?_ | refine bl_alloc ?_ _ | refine bl_then ?_ (by assumption) | refine Below.setCell ?_ (by first | omega | (simp; done) | (simp; omega)) _ | refine bl_store ?_ ?_ _ _))
      have a0 : wA.cell? ⟨wB.heap.size, 0, none⟩ = some (.int .i64 G0) := by subst hwA; simp [go_sem]
      have hszA : wA.heap.size = wB.heap.size + 1 := by subst hwA; simp
      have HOA : Hid (wA.ownsRow w1.heap.size 2 1 (.slice va vn vc) (frK F X Y wd i).length ((frK F X Y wd i).map (.int .i64 ·))) := by subst hwA; exact World.ownsRow.alloc HOB.out _
      have hSA : Below w1.heap.size w1 wA := bl_then hSB hbA
      have hsA := hSA.size
      clear hwA
      refine hK.out _ _ hSA (fun hHeld => ?_)
      clear hK K
      try simp only [Act.put, List.setIfInBounds_toArray, List.set_cons_zero, List.set_cons_succ]
      have hlen := HLn.out
      refine wpAnyH_ready (rs := [30]) (by kernel_rfl) (by simp) ?_
      refine (AllReadyH.cons rfl (fun K hK => ?_) AllReadyH.nil)
      refine step_append_own rfl (.tmp 28) (.tmp 57) 37 rfl w1.heap.size 2 ii (.int .i64 0) 1 8 Tryz.underlying37 hi hz0 hz1 hz2 rfl (by decide) (.slice va vn vc) (frK F X Y wd i).length ((frK F X Y wd i).map (.int .i64 ·)) rfl HOA.out ⟨wB.heap.size, 0, none⟩ 1 1 [.int .i64 G0] rfl rfl ?c1 ?c2 ?c3 ?c4 ?c5 ?_
      case c1 =>
        intro q u hq
        match q, hq with
        | 0, hq => exact (Option.some.inj hq) ▸ a0
        | q + 1, hq => cases hq
      case c2 => intro u hu; simp at hu; subst hu; rfl
      case c3 => unfold maxLen; omega
      case c4 => omega
      case c5 => first | omega | (simp; omega)
      intro v' w3' hown' hgrow hnil
      clear hnil
      have hBg : Below w1.heap.size wA w3' := (Below.refl _ _).grown hgrow (by omega) (fun b hb => HBS.out b hb)
      have hB3 : Below w1.heap.size w1 w3' := hSA.trans hBg
      have HO4 : Hid (RowN w1.heap.size w3' v' (frK F X Y wd (i + 1))) := by
        show RowN _ _ _ _
        rw [HSK.out]
        show World.ownsRow _ _ _ _ _ _ _
        rw [List.length_append, List.map_append]
        exact hown'
      rw [hlen] at hown'
      obtain ⟨ga, gc, rfl⟩ := ownsRow_succR hown'
      show K (Act.put _ (some 58) _) w3'
      refine hK.out _ _ hB3 (fun hHeld => ?_)
      clear hK K hown' hgrow hBg
      try simp only [Act.put, List.setIfInBounds_toArray, List.set_cons_zero, List.set_cons_succ]
      refine takeD (i := 31) (d := some 6) (v := ?vs31) rfl rfl (by kernel_rfl) (by kernel_rfl) (by kernel_rfl) (fun _ _ _ h => h) (Or.inl ⟨by rfl, ?hys31⟩) hB3 ?_
      case hys31 => (intro w hSw; (try dsimp only at hSw); go_simp <;> with_reducible rfl)
      try simp only [Act.put, List.setIfInBounds_toArray, List.set_cons_zero, List.set_cons_succ]
      refine wpAnyH_done (by kernel_rfl) ?_ _
      refine NoPanic.normal ?_
      clear hSA hSB hSd hbA a0 hszA HOA
      go_wp2_with fail
      go_roundw
      case rel => exact ⟨i + 1, by omega, by go_num, HO4.out, hB3⟩
      case measure => simp [intOf]; omega
    · obtain rfl : i = N := by omega
      have hnn : ¬ (i : Int) < (i : Int) := by omega
      go_wp2_with fail
      go_region
      go_wp2
      go_ret
      refine ⟨_, rfl, ?_, ?_⟩
      · rw [HRW.out, HFE.out]
        have h2 : RowN w1.heap.size wr.drew u6 (frK F X Y wd i) := HO0'.out.below (by (repeat (first | exact Below.refl _ _ | assumption | refine Below.drew ?_ | refine bl_alloc ?_ _ | refine bl_then ?_ (by assumption) | refine Below.setCell ?_ (by first | omega | (simp; done) | (simp; omega)) _ | refine bl_store ?_ ?_ _ _)))
        exact h2.wide HB00.out.size
      · have h1 := bl_then HB00.out HB.out
        (repeat (first | exact Below.refl _ _ | assumption | refine Below.drew ?_ | refine bl_alloc ?_ _ | refine bl_then ?_ (by assumption) | refine Below.setCell ?_ (by first | omega | (simp; done) | (simp; omega)) _ | refine bl_store ?_ ?_ _ _))
end Go.Proofs.YtaodbplepegapaaGreat
