/- Several texts in one. -/
import Derived.Test.YtciidkmonfmipaaGreatVPutTile18
import Derived.Test.YtciidkmonfmipaaGreatVPutTile21
import Derived.Test.YtciidkmonfmipaaGreatRows
import Derived.WalkKit
import Derived.Below
import Derived.Test.YtciidkmonfmipaaGreatVPutTile15
import Derived.BigQuiet

/- The tile inside of a cache: its code and its raster, behind a pointer into a row. -/

namespace Go.Proofs.YtciidkmonfmipaaGreat
open Go.RowKit
set_option linter.unusedSimpArgs false
set_option linter.unusedVariables false
set_option maxRecDepth 100000

/-- Four cells behind others: a tile. -/
def TileO (w : World) (q o : Nat) (z x y : Int) (v : Value) : Prop := w.cell? ⟨q, o, none⟩ = some (.int .i64 z) ∧ w.cell? ⟨q, o + 1, none⟩ = some (.int .i64 x) ∧ w.cell? ⟨q, o + 2, none⟩ = some (.int .i64 y) ∧ w.cell? ⟨q, o + 3, none⟩ = some v
theorem TileO.below {w w' : World} {q o B : Nat} {z x y : Int} {v : Value} (h : TileO w q o z x y v) (hb : Below B w w') (hq : q < B) : TileO w' q o z x y v :=
  ⟨(hb.cell (p := ⟨q, o, none⟩) hq).trans h.1, (hb.cell (p := ⟨q, o + 1, none⟩) hq).trans h.2.1, (hb.cell (p := ⟨q, o + 2, none⟩) hq).trans h.2.2.1, (hb.cell (p := ⟨q, o + 3, none⟩) hq).trans h.2.2.2⟩
set_option maxHeartbeats 8000000 in
theorem l8Raster_off (q o : Nat) (z X Y : Int) (b n cap : Nat) (G : Nat → Feat) (w : World) (ht : TileO w q o z X Y (.slice (some ⟨b, 0, none⟩) n cap)) (hg : FsAt w b 0 n G) (hbl : b < w.heap.size) (hn : n ≤ 12) (hok : ∀ i, i < n → OkF (G i)) (hr : refB z X Y = true) :
    Calls Tryz.prog 51 #[.pointer (some ⟨q, o, none⟩)] w fun e w' => ∃ v, e = .returned v ∧ RowN w.heap.size w' v (rasK (paintF G n z) (X * 8) (Y * 8) 64) ∧ Below w.heap.size w w' := by
  obtain ⟨ii, hi, hz0, hz1, hz2⟩ := info_parts info_n64
  have hql : q < w.heap.size := World.block_lt_of_cell? _ _ ht.1
  have HP : Hid (∀ (W : World) (i : Nat), Below w.heap.size w W → i < 64 → Calls Tryz.prog 80 #[.slice (some ⟨b, 0, none⟩) n cap, .int .i64 z, .int .i64 (X * 8 + ((i % 8 : Nat) : Int)), .int .i64 (Y * 8 + ((i / 8 : Nat) : Int))] W fun e w' => e = .returned (.int .i64 (paintF G n z (X * 8 + ((i % 8 : Nat) : Int)) (Y * 8 + ((i / 8 : Nat) : Int)))) ∧ Below W.heap.size W w') := fun W i hW hi =>
    l4Painted_any b n cap G z _ _ W (hg.below hW hbl) (Nat.lt_of_lt_of_le hbl hW.size) hn hok (pix_of_ref hr _ _ (by omega) (by omega))
  have HT : Hid (TileO w q o z X Y (.slice (some ⟨b, 0, none⟩) n cap)) := ht
  obtain ⟨⟨z0, z1⟩, ⟨x0, x1⟩, y0, y1⟩ := ref_bd hr
  clear hg hok hr ht
  generalize paintF G n z = F at *
  go_enter Tryz.func51, Tryz.ntmps51
  go_wp2_with fail
  generalize hW : (w.alloc _ : World) = W
  have HB0 : Hid (Below w.heap.size w W) := by show Below _ _ _; subst hW; (repeat (first | exact Below.refl _ _ | assumption | refine Below.drew ?_ | refine bl_alloc ?_ _ | refine bl_then ?_ (by assumption) | refine Below.setCell ?_ (by first | omega | (simp; done) | (simp; omega)) _ | refine bl_store ?_ ?_ _ _))
  have HO0 : Hid (RowN w.heap.size W (.slice (some ⟨w.heap.size, 0, none⟩) 0 0) (rasK F (X * 8) (Y * 8) 0)) := by
    show RowN _ _ _ _
    subst hW
    exact World.ownsRow_lit (base := w.heap.size) w #[] 0 (Nat.le_refl _) (Nat.zero_le _) rfl
  clear hW
  go_loopw [3, 4] (fun v j wr => ∃ i : Nat, i ≤ 64 ∧ j = .int .i64 (i : Int) ∧ RowN w.heap.size wr v (rasK F (X * 8) (Y * 8) i) ∧ Below w.heap.size w wr) (fun _ j _ => 64 - (intOf j).toNat)
  case atStart => exact ⟨0, by omega, rfl, HO0.out, HB0.out⟩
  case round =>
    obtain ⟨i, hi64, rfl, hO, hB⟩ := hrel
    have HO0' : Hid (RowN w.heap.size wr u3 (rasK F (X * 8) (Y * 8) i)) := hO
    have HB : Hid (Below w.heap.size w wr) := hB
    clear hO hB
    by_cases hlt : i < 64
    · have hi' : (i : Int) < 64 := by omega
      obtain ⟨m, hm⟩ : ∃ m : Nat, m = i % 8 := ⟨_, rfl⟩
      obtain ⟨p, hp⟩ : ∃ p : Nat, p = i / 8 := ⟨_, rfl⟩
      have hmb : m < 8 := by omega
      have hqb : p < 8 := by omega
      have em : (i : Int).tmod 8 = (m : Int) := by rw [Int.tmod_eq_emod_of_nonneg (by omega)]; omega
      have eq' : (i : Int).tdiv 8 = (p : Int) := by rw [Int.tdiv_eq_ediv_of_nonneg (by omega)]; omega
      have HSK : Hid (rasK F (X * 8) (Y * 8) (i + 1) = rasK F (X * 8) (Y * 8) i ++ [F (X * 8 + (m : Int)) (Y * 8 + (p : Int))]) := by show _ = _; rw [rasK_add, hm, hp]
      have HLn : Hid ((rasK F (X * 8) (Y * 8) i).length = i) := rasK_len _ _ _ _
      have HCU : Hid (∀ W', Below w.heap.size w W' → Calls Tryz.prog 80 #[.slice (some ⟨b, 0, none⟩) n cap, .int .i64 z, .int .i64 (X * 8 + (m : Int)), .int .i64 (Y * 8 + (p : Int))] W' fun e w' => e = .returned (.int .i64 (F (X * 8 + (m : Int)) (Y * 8 + (p : Int)))) ∧ Below W'.heap.size W' w') := fun W' hb => by have := HP.out W' i hb hlt; rw [hm, hp]; exact this
      clear hm hp
      have c0 : ∀ W', Below w.heap.size w W' → W'.cell? ⟨q, o, none⟩ = some (.int .i64 z) := fun W' h => (HT.out.below h hql).1
      have c1 : ∀ W', Below w.heap.size w W' → W'.cell? ⟨q, o + 1, none⟩ = some (.int .i64 X) := fun W' h => (HT.out.below h hql).2.1
      have c2 : ∀ W', Below w.heap.size w W' → W'.cell? ⟨q, o + 2, none⟩ = some (.int .i64 Y) := fun W' h => (HT.out.below h hql).2.2.1
      have c3 : ∀ W', Below w.heap.size w W' → W'.cell? ⟨q, o + 3, none⟩ = some (.slice (some ⟨b, 0, none⟩) n cap) := fun W' h => (HT.out.below h hql).2.2.2
      obtain ⟨va, vn, vc, hvs⟩ : ∃ va vn vc, u3 = .slice va vn vc := by
        obtain ⟨a', c', e', _, _⟩ := HO0'.out.own
        exact ⟨_, _, _, e'⟩
      subst hvs
      have HO := HO0'
      have HBS : Hid (∀ b, (Value.slice va vn vc).ownBlock = some b → w.heap.size ≤ b) := fun b hb => (World.ownsRow.lt HO.out b hb).1
      clear HO0'
      have mm0 : IntKind.i64.wrap (X * 8) = X * 8 := IntWalk.i64_in _ (by omega)
      have mm1 : IntKind.i64.wrap (Y * 8) = Y * 8 := IntWalk.i64_in _ (by omega)
      have ss0 : IntKind.i64.wrap (X * 8 + (m : Int)) = X * 8 + (m : Int) := IntWalk.i64_in _ (by omega)
      have ss1 : IntKind.i64.wrap (Y * 8 + (p : Int)) = Y * 8 + (p : Int) := IntWalk.i64_in _ (by omega)
      have qq1 : IntKind.i64.wrap (p : Int) = (p : Int) := IntWalk.i64_in _ (by omega)
      have qq0 : IntKind.i64.wrap (m : Int) = (m : Int) := IntWalk.i64_in _ (by omega)
      generalize F (X * 8 + (m : Int)) (Y * 8 + (p : Int)) = G0 at *
      have g0 := c0 wr HB.out
      have g1 := c1 wr HB.out
      have g2 := c2 wr HB.out
      have g3 := c3 wr HB.out
      go_wp2_with fail
      refine wp_region_noPanic ?_
      refine wp_region_held_drew (S := fun W' => Below w.heap.size w W') (by kernel_rfl) (by have := HB.out; (repeat (first | exact Below.refl _ _ | assumption | refine Below.drew ?_ | refine bl_alloc ?_ _ | refine bl_then ?_ (by assumption) | refine Below.setCell ?_ (by first | omega | (simp; done) | (simp; omega)) _ | refine bl_store ?_ ?_ _ _))) (fun hHeld => ?_)
      have hSd : Below w.heap.size w wr.drew := hHeld
      refine takeD (i := 0) (d := some 30) (v := ?vr0) rfl rfl (by kernel_rfl) (by kernel_rfl) (by kernel_rfl) (fun _ _ _ h => h) (Or.inl ⟨by rfl, ?hyr0⟩) hSd ?_
      case hyr0 => (intro w hSw; (try dsimp only at hSw); go_simp <;> with_reducible rfl)
      try simp only [Act.put, List.setIfInBounds_toArray, List.set_cons_zero, List.set_cons_succ]
      refine takeD (i := 1) (d := some 31) (v := ?vr1) rfl rfl (by kernel_rfl) (by kernel_rfl) (by kernel_rfl) (fun _ _ _ h => h) (Or.inl ⟨by rfl, ?hyr1⟩) hSd ?_
      case hyr1 => (intro w hSw; (try dsimp only at hSw); go_simp <;> with_reducible rfl)
      try simp only [Act.put, List.setIfInBounds_toArray, List.set_cons_zero, List.set_cons_succ]
      refine takeD (i := 2) (d := some 32) (v := ?vr2) rfl rfl (by kernel_rfl) (by kernel_rfl) (by kernel_rfl) (fun _ _ _ h => h) (Or.inl ⟨by rfl, ?hyr2⟩) hSd ?_
      case hyr2 => (intro w hSw; (try dsimp only at hSw); go_simp <;> with_reducible rfl)
      try simp only [Act.put, List.setIfInBounds_toArray, List.set_cons_zero, List.set_cons_succ]
      refine takeD (i := 3) (d := some 33) (v := ?vr3) rfl rfl (by kernel_rfl) (by kernel_rfl) (by kernel_rfl) (fun _ _ _ h => h) (Or.inl ⟨by rfl, ?hyr3⟩) hSd ?_
      case hyr3 => (intro w hSw; (try dsimp only at hSw); go_simp <;> with_reducible rfl)
      try simp only [Act.put, List.setIfInBounds_toArray, List.set_cons_zero, List.set_cons_succ]
      refine takeD (i := 4) (d := some 34) (v := ?vr4) rfl rfl (by kernel_rfl) (by kernel_rfl) (by kernel_rfl) (fun _ _ _ h => h) (Or.inl ⟨by rfl, ?hyr4⟩) hSd ?_
      case hyr4 => (intro w hSw; (try dsimp only at hSw); go_simp <;> with_reducible rfl)
      try simp only [Act.put, List.setIfInBounds_toArray, List.set_cons_zero, List.set_cons_succ]
      refine takeD (i := 5) (d := some 35) (v := ?vr5) rfl rfl (by kernel_rfl) (by kernel_rfl) (by kernel_rfl) (fun _ _ _ h => h) (Or.inl ⟨by rfl, ?hyr5⟩) hSd ?_
      case hyr5 => (intro w hSw; (try dsimp only at hSw); go_simp <;> with_reducible rfl)
      try simp only [Act.put, List.setIfInBounds_toArray, List.set_cons_zero, List.set_cons_succ]
      refine takeD (i := 6) (d := some 36) (v := ?vr6) rfl rfl (by kernel_rfl) (by kernel_rfl) (by kernel_rfl) (fun _ _ _ h => h) (Or.inl ⟨by rfl, ?hyr6⟩) hSd ?_
      case hyr6 => (intro w hSw; (try dsimp only at hSw); go_simp <;> with_reducible rfl)
      try simp only [Act.put, List.setIfInBounds_toArray, List.set_cons_zero, List.set_cons_succ]
      refine takeD (i := 7) (d := some 37) (v := ?vr7) rfl rfl (by kernel_rfl) (by kernel_rfl) (by kernel_rfl) (fun _ _ _ h => h) (Or.inl ⟨by rfl, ?hyr7⟩) hSd ?_
      case hyr7 => (intro w hSw; (try dsimp only at hSw); go_simp <;> with_reducible rfl)
      try simp only [Act.put, List.setIfInBounds_toArray, List.set_cons_zero, List.set_cons_succ]
      refine takeD (i := 8) (d := some 38) (v := ?vr8) rfl rfl (by kernel_rfl) (by kernel_rfl) (by kernel_rfl) (fun _ _ _ h => h) (Or.inl ⟨by rfl, ?hyr8⟩) hSd ?_
      case hyr8 => (intro w hSw; (try dsimp only at hSw); go_simp <;> with_reducible rfl)
      try simp only [Act.put, List.setIfInBounds_toArray, List.set_cons_zero, List.set_cons_succ]
      refine takeD (i := 9) (d := some 39) (v := ?vr9) rfl rfl (by kernel_rfl) (by kernel_rfl) (by kernel_rfl) (fun _ _ _ h => h) (Or.inl ⟨by rfl, ?hyr9⟩) hSd ?_
      case hyr9 => (intro w hSw; (try dsimp only at hSw); go_simp <;> with_reducible rfl)
      try simp only [Act.put, List.setIfInBounds_toArray, List.set_cons_zero, List.set_cons_succ]
      refine takeD (i := 10) (d := some 40) (v := ?vr10) rfl rfl (by kernel_rfl) (by kernel_rfl) (by kernel_rfl) (fun _ _ _ h => h) (Or.inl ⟨by rfl, ?hyr10⟩) hSd ?_
      case hyr10 => (intro w hSw; (try dsimp only at hSw); go_simp <;> with_reducible rfl)
      try simp only [Act.put, List.setIfInBounds_toArray, List.set_cons_zero, List.set_cons_succ]
      refine takeD (i := 11) (d := some 41) (v := ?vr11) rfl rfl (by kernel_rfl) (by kernel_rfl) (by kernel_rfl) (fun _ _ _ h => h) (Or.inl ⟨by rfl, ?hyr11⟩) hSd ?_
      case hyr11 => (intro w hSw; (try dsimp only at hSw); go_simp <;> with_reducible rfl)
      try simp only [Act.put, List.setIfInBounds_toArray, List.set_cons_zero, List.set_cons_succ]
      refine wpAnyH_ready (rs := [12]) (by kernel_rfl) (by simp) ?_
      refine (AllReadyH.cons rfl (fun K hK => ?_) AllReadyH.nil)
      rw [if_pos (by rfl)]
      go_simp
      refine Calls.mono (HCU.out _ hSd) ?_
      rintro e wB ⟨rfl, hbB⟩
      have hSB : Below w.heap.size w wB := bl_then hSd hbB
      have HOB : Hid (RowN w.heap.size wB (.slice va vn vc) (rasK F (X * 8) (Y * 8) i)) := by
        have h1 : RowN w.heap.size wr.drew (.slice va vn vc) (rasK F (X * 8) (Y * 8) i) := HO.out.below (by (repeat (first | exact Below.refl _ _ | assumption | refine Below.drew ?_ | refine bl_alloc ?_ _ | refine bl_then ?_ (by assumption) | refine Below.setCell ?_ (by first | omega | (simp; done) | (simp; omega)) _ | refine bl_store ?_ ?_ _ _)))
        exact h1.below hbB
      go_wp2_with fail
      refine hK.out _ _ hSB (fun hHeld => ?_)
      clear hK K hbB
      try simp only [Act.put, List.setIfInBounds_toArray, List.set_cons_zero, List.set_cons_succ]
      refine wpAnyH_ready (rs := [13]) (by kernel_rfl) (by simp) ?_
      refine (AllReadyH.cons rfl (fun K hK => ?_) AllReadyH.nil)
      rw [if_pos (by rfl)]
      go_simp
      generalize hwA : (World.alloc _ _ : World) = wA
      have hbA : Below wB.heap.size wB wA := by subst hwA; (repeat (first | exact Below.refl _ _ | assumption | refine Below.drew ?_ | refine bl_alloc ?_ _ | refine bl_then ?_ (by assumption) | refine Below.setCell ?_ (by first | omega | (simp; done) | (simp; omega)) _ | refine bl_store ?_ ?_ _ _))
      have a0 : wA.cell? ⟨wB.heap.size, 0, none⟩ = some (.int .i64 G0) := by subst hwA; simp [go_sem]
      have hszA : wA.heap.size = wB.heap.size + 1 := by subst hwA; simp
      have HOA : Hid (wA.ownsRow w.heap.size 2 1 (.slice va vn vc) (rasK F (X * 8) (Y * 8) i).length ((rasK F (X * 8) (Y * 8) i).map (.int .i64 ·))) := by subst hwA; exact World.ownsRow.alloc HOB.out _
      have hSA : Below w.heap.size w wA := bl_then hSB hbA
      have hsA := hSA.size
      clear hwA
      refine hK.out _ _ hSA (fun hHeld => ?_)
      clear hK K
      try simp only [Act.put, List.setIfInBounds_toArray, List.set_cons_zero, List.set_cons_succ]
      have hlen := HLn.out
      refine wpAnyH_ready (rs := [14]) (by kernel_rfl) (by simp) ?_
      refine (AllReadyH.cons rfl (fun K hK => ?_) AllReadyH.nil)
      refine step_append_own rfl (.tmp 30) (.tmp 43) 66 rfl w.heap.size 2 ii (.int .i64 0) 1 8 Tryz.underlying66 hi hz0 hz1 hz2 rfl (by decide) (.slice va vn vc) (rasK F (X * 8) (Y * 8) i).length ((rasK F (X * 8) (Y * 8) i).map (.int .i64 ·)) rfl HOA.out ⟨wB.heap.size, 0, none⟩ 1 1 [.int .i64 G0] rfl rfl ?c1 ?c2 ?c3 ?c4 ?c5 ?_
      case c1 =>
        intro q u hq
        match q, hq with
        | 0, hq => exact (Option.some.inj hq) ▸ a0
        | q + 1, hq => cases hq
      case c2 => intro u hu; simp at hu; subst hu; rfl
      case c3 => unfold maxLen; omega
      case c4 => omega
      case c5 => first | omega | (simp; omega)
      intro v' w3' hown' hgrow hnil
      clear hnil
      have hBg : Below w.heap.size wA w3' := (Below.refl _ _).grown hgrow (by omega) (fun b hb => HBS.out b hb)
      have hB3 : Below w.heap.size w w3' := hSA.trans hBg
      have HO4 : Hid (RowN w.heap.size w3' v' (rasK F (X * 8) (Y * 8) (i + 1))) := by
        show RowN _ _ _ _
        rw [HSK.out]
        show World.ownsRow _ _ _ _ _ _ _
        rw [List.length_append, List.map_append]
        exact hown'
      rw [hlen] at hown'
      obtain ⟨ga, gc, rfl⟩ := ownsRow_succR hown'
      show K (Act.put _ (some 44) _) w3'
      refine hK.out _ _ hB3 (fun hHeld => ?_)
      clear hK K hown' hgrow hBg
      try simp only [Act.put, List.setIfInBounds_toArray, List.set_cons_zero, List.set_cons_succ]
      refine takeD (i := 15) (d := some 3) (v := ?vs15) rfl rfl (by kernel_rfl) (by kernel_rfl) (by kernel_rfl) (fun _ _ _ h => h) (Or.inl ⟨by rfl, ?hys15⟩) hB3 ?_
      case hys15 => (intro w hSw; (try dsimp only at hSw); go_simp <;> with_reducible rfl)
      try simp only [Act.put, List.setIfInBounds_toArray, List.set_cons_zero, List.set_cons_succ]
      refine wpAnyH_done (by kernel_rfl) ?_ _
      refine NoPanic.normal ?_
      clear hSA hSB hSd hbA a0 hszA HOA
      go_wp2_with fail
      go_roundw
      case rel => exact ⟨i + 1, by omega, by go_num, HO4.out, hB3⟩
      case measure => simp [intOf]; omega
    · obtain rfl : i = 64 := by omega
      go_wp2
      go_ret
      exact ⟨_, rfl, HO0'.out, HB.out⟩
set_option maxHeartbeats 4000000 in
theorem l8Tile_off (q o : Nat) (z x y : Int) (b n cap : Nat) (G : Nat → Feat) (w : World) (ht : TileO w q o z x y (.slice (some ⟨b, 0, none⟩) n cap)) (hg : FsAt w b 0 n G) (hbl : b < w.heap.size) (hs : SmallFs n G) :
    Calls Tryz.prog 27 #[.pointer (some ⟨q, o, none⟩)] w fun e w' => e = .returned (.int .i64 (rtC z x y n G)) ∧ Below w.heap.size w w' := by
  have hql : q < w.heap.size := World.block_lt_of_cell? _ _ ht.1
  have HT : Hid (TileO w q o z x y (.slice (some ⟨b, 0, none⟩) n cap)) := ht
  have HG : Hid (FsAt w b 0 n G) := hg
  have HS : Hid (SmallFs n G) := hs
  have HK : Hid (rtC z x y n G = if refC z x y = 0 then (if featsC n G = 0 then (if ordS n G = true then 0 else 1) else featsC n G) else refC z x y) := rfl
  obtain ⟨p0, p1, p2, p3⟩ := ht
  clear hg hs
  go_enter Tryz.func27, Tryz.ntmps27
  go_wp2_with fail
  refine (l7Fault_any z x y _).mono ?_
  rintro e w1 ⟨rfl, hb1⟩
  obtain ⟨q0, q1, q2, q3⟩ := HT.out.below hb1 hql
  have HB1 : Hid (Below w.heap.size w w1) := hb1
  have hql1 : q < w1.heap.size := Nat.lt_of_lt_of_le hql hb1.size
  clear p0 p1 p2 p3 hb1
  by_cases hr : refC z x y = 0
  · rw [hr]
    rw [if_pos hr] at HK
    go_wp2_with fail
    refine (l2Many_any b n cap G _ (HG.out.below HB1.out hbl) (Nat.lt_of_lt_of_le hbl HB1.out.size) HS.out).mono ?_
    rintro e w2 ⟨rfl, hb2⟩
    have HB2 : Hid (Below w.heap.size w w2) := bl_then HB1.out hb2
    obtain ⟨t0, t1, t2, t3⟩ := HT.out.below HB2.out hql
    clear q0 q1 q2 q3 hb2
    by_cases hf : featsC n G = 0
    · rw [hf]
      rw [if_pos hf] at HK
      go_wp2_with fail
      refine (l6Ordered_any b n cap G _ (HG.out.below HB2.out hbl) (Nat.lt_of_lt_of_le hbl HB2.out.size) HS.out.1).mono ?_
      rintro e w3 ⟨rfl, hb3⟩
      have HB3 : Hid (Below w.heap.size w w3) := bl_then HB2.out hb3
      clear hb3 t0 t1 t2 t3
      cases ho : ordS n G
      · rw [ho] at HK
        go_wp2
        go_ret
        exact ⟨ret_int (by rw [HK.out]; rfl), HB3.out⟩
      · rw [ho] at HK
        go_wp2
        go_ret
        exact ⟨ret_int (by rw [HK.out]; rfl), HB3.out⟩
    · rw [if_neg hf] at HK
      have hcb : (featsC n G == 0) = false := by simpa using hf
      generalize featsC n G = fc at *
      clear hf
      go_wp2
      go_ret
      exact ⟨ret_int HK.out.symm, HB2.out⟩
  · rw [if_neg hr] at HK
    have hcb : (refC z x y == 0) = false := by simpa using hr
    generalize refC z x y = rc at *
    clear hr
    go_wp2
    go_ret
    exact ⟨ret_int HK.out.symm, HB1.out⟩
end Go.Proofs.YtciidkmonfmipaaGreat
/- Two refs compared as structs. -/

namespace Go.Proofs.YtciidkmonfmipaaGreat
open Go.RowKit
set_option linter.unusedSimpArgs false
set_option linter.unusedVariables false
set_option maxRecDepth 100000

theorem equalIn_ref (n : Nat) (a b c a' b' c' : Int) (w : World) : (Op.equalIn (n + 2) 39 (.agg #[.int .i64 a, .int .i64 b, .int .i64 c]) (.agg #[.int .i64 a', .int .i64 b', .int .i64 c'])).run Tryz.prog w = .ok ((a == a') && ((b == b') && (c == c'))) w := by
  have hp0 : ∀ (x y z : Int) (w : World), (part 2 #[.int .i64 x, .int .i64 y, .int .i64 z] 0).run Tryz.prog w = .ok (.int .i64 x) w := fun _ _ _ _ => by kernel_rfl
  have hp1 : ∀ (x y z : Int) (w : World), (part 2 #[.int .i64 x, .int .i64 y, .int .i64 z] 1).run Tryz.prog w = .ok (.int .i64 y) w := fun _ _ _ _ => by kernel_rfl
  have hp2 : ∀ (x y z : Int) (w : World), (part 2 #[.int .i64 x, .int .i64 y, .int .i64 z] 2).run Tryz.prog w = .ok (.int .i64 z) w := fun _ _ _ _ => by kernel_rfl
  have hi := fun (a b : Int) (w : World) => run_equalIn_int (P := Tryz.prog) w n 2 .i64 .i64 a b Tryz.underlying2
  rw [run_equalIn_struct w (n + 1) 39 _ _ (by kernel_rfl) (by kernel_rfl)]
  simp [Op.eqFields, Program.fieldsOf, Tryz.underlying39, hp0, hp1, hp2, hi]
  by_cases h1 : a = a' <;> by_cases h2 : b = b' <;> by_cases h3 : c = c' <;> simp [h1, h2, h3]
theorem eql_ref (a b c a' b' c' : Int) (w : World) : (binOp .eql 39 (.agg #[.int .i64 a, .int .i64 b, .int .i64 c]) (.agg #[.int .i64 a', .int .i64 b', .int .i64 c'])).run Tryz.prog w = .ok (.bool ((a == a') && ((b == b') && (c == c')))) w := by
  rw [run_eql_struct, equalIn_ref 9998]
  rfl
end Go.Proofs.YtciidkmonfmipaaGreat
/- The first place where something is so. -/

namespace Go.Proofs.YtciidkmonfmipaaGreat
/-- The first place below n where it is so; -1 where it is nowhere. -/
def firstI (G : Nat → Bool) : Nat → Int
  | 0 => -1
  | n + 1 => if 0 ≤ firstI G n then firstI G n else if G n = true then (n : Int) else -1
theorem firstI_no {G : Nat → Bool} : ∀ {n : Nat}, (∀ i, i < n → G i = false) → firstI G n = -1
  | 0, _ => rfl
  | n + 1, h => by rw [firstI, firstI_no (fun i hi => h i (by omega)), h n (by omega)]; rfl
theorem firstI_yes {G : Nat → Bool} : ∀ {n i : Nat}, i < n → G i = true → (∀ j, j < i → G j = false) → firstI G n = (i : Int)
  | n + 1, i, hi, h, hn => by
    rw [firstI]
    by_cases e : i = n
    · subst e; rw [firstI_no hn, h]; rfl
    · rw [firstI_yes (n := n) (by omega) h hn, if_pos (by omega)]
theorem firstI_or (G : Nat → Bool) (n : Nat) : (firstI G n = -1 ∧ ∀ i, i < n → G i = false) ∨ ∃ i, i < n ∧ G i = true ∧ firstI G n = (i : Int) ∧ ∀ j, j < i → G j = false := by
  induction n with
  | zero => exact .inl ⟨rfl, fun i hi => absurd hi (Nat.not_lt_zero _)⟩
  | succ n ih =>
    rcases ih with ⟨h1, h2⟩ | ⟨i, hi, hg, hf, hn⟩
    · cases hG : G n
      · refine .inl ⟨by rw [firstI, h1, hG]; rfl, fun i hi => ?_⟩
        by_cases e : i = n
        · rw [e]; exact hG
        · exact h2 i (by omega)
      · exact .inr ⟨n, by omega, hG, by rw [firstI, h1, hG]; rfl, h2⟩
    · exact .inr ⟨i, by omega, hg, by rw [firstI, hf, if_pos (by omega)], hn⟩
end Go.Proofs.YtciidkmonfmipaaGreat
/- Two lists of numbers compared by the model; where in a cache a ref is. -/

namespace Go.Proofs.YtciidkmonfmipaaGreat
open Go.RowKit
set_option linter.unusedSimpArgs false
set_option linter.unusedVariables false
set_option maxRecDepth 100000

/-- Two lists of numbers are the same. -/
def sameI (n m : Nat) (I J : Nat → Int) : Bool := decide (n = m) && decide (∀ i, i < n → I i = J i)
theorem sameI_len {n m : Nat} {I J : Nat → Int} (h : n ≠ m) : sameI n m I J = false := by simp [sameI, h]
theorem sameI_yes {n : Nat} {I J : Nat → Int} (h : ∀ i, i < n → I i = J i) : sameI n n I J = true := by simp [sameI]; exact h
theorem sameI_no {n m k : Nat} {I J : Nat → Int} (hk : k < n) (h : I k ≠ J k) : sameI n m I J = false := by
  unfold sameI
  rw [decide_eq_false (p := ∀ i, i < n → I i = J i) (fun h' => h (h' k hk))]; simp
set_option maxHeartbeats 4000000 in
theorem l11Same_any (a a' : Option Addr) (n m cap cap' : Nat) (I J : Nat → Int) (w : World) (hp : IsNs w a n I) (hq : IsNs w a' m J) (hn : n ≤ 1048576) :
    Calls Tryz.prog 50 #[.slice a n cap, .slice a' m cap'] w fun e w' => e = .returned (.bool (sameI n m I J)) ∧ Below w.heap.size w w' := by
  have HP : Hid (IsNs w a n I) := hp
  have HQ : Hid (IsNs w a' m J) := hq
  clear hp hq
  by_cases hnm : n = m
  · subst hnm
    go_enter Tryz.func50, Tryz.ntmps50
    go_wp2_with fail
    go_loopw [5] (fun i wr => ∃ k : Nat, k ≤ n ∧ i = .int .i64 (k : Int) ∧ (∀ j, j < k → I j = J j) ∧ Below w.heap.size w wr) (fun i _ => n - (intOf i).toNat)
    case atStart => exact ⟨0, by omega, rfl, fun j hj => absurd hj (Nat.not_lt_zero _), Below.refl _ _⟩
    case round =>
      obtain ⟨k, hk, rfl, hno, hB⟩ := hrel
      have HN : Hid (∀ j, j < k → I j = J j) := hno
      have HB : Hid (Below w.heap.size w wr) := hB
      by_cases hlt : k < n
      · rcases HP.out with h0 | ⟨b, off, rfl, hb, hpt⟩
        · omega
        rcases HQ.out with h0 | ⟨b', off', rfl, hb', hpt'⟩
        · omega
        have q0 : wr.cell? ⟨b, off + k, none⟩ = some (.int .i64 (I k)) := (hB.cell (p := ⟨b, off + k, none⟩) hb).trans (hpt k hlt)
        have q1 : wr.cell? ⟨b', off' + k, none⟩ = some (.int .i64 (J k)) := (hB.cell (p := ⟨b', off' + k, none⟩) hb').trans (hpt' k hlt)
        have hi : (k : Int) < (n : Int) := by omega
        have hi0 : (0 : Int) ≤ (k : Int) := by omega
        clear hno hB hpt hpt'
        by_cases hE : I k = J k
        · have HN2 : Hid (∀ j, j < k + 1 → I j = J j) := fun j hj => by
            by_cases e : j = k
            · rw [e]; exact hE
            · exact HN.out j (by omega)
          rw [hE] at q0
          clear hE
          generalize J k = v at *
          go_wp2_with fail
          go_quiet (fail)
          go_wp2_with fail
          exact ⟨⟨k + 1, by omega, by simp, HN2.out, below_drewN HB.out _⟩, by simp [intOf]; omega⟩
        · have HY : Hid (sameI n n I J = false) := sameI_no hlt hE
          generalize I k = u at *
          generalize J k = v at *
          have hcb : (u == v) = false := by simpa using hE
          go_wp2_with fail
          go_quiet (fail)
          go_wp2
          go_ret
          exact ⟨ret_bool HY.out.symm, below_drewN HB.out _⟩
      · obtain rfl : n = k := by omega
        have HY : Hid (sameI n n I J = true) := sameI_yes HN.out
        go_wp2
        go_ret
        exact ⟨ret_bool HY.out.symm, HB.out⟩
  · have HY : Hid (sameI n m I J = false) := sameI_len hnm
    have hne : ((n : Int) == (m : Int)) = false := by simp; omega
    have hne2 : ¬ ((n : Int) = (m : Int)) := by omega
    go_enter Tryz.func50, Tryz.ntmps50
    go_wp2
    go_ret
    exact ⟨ret_bool HY.out.symm, Below.refl _ _⟩
/-- A kept tile is of a ref. -/
def isK (e : Kp) (z x y : Int) : Bool := (e.z == z) && ((e.x == x) && (e.y == y))
/-- Where in a cache a ref is. -/
def atK (n : Nat) (K : Nat → Kp) (z x y : Int) : Int := firstI (fun i => isK (K i) z x y) n
/-- Three cells: a ref. -/
def RK (w : World) (p : Nat) (z x y : Int) : Prop := w.cell? ⟨p, 0, none⟩ = some (.int .i64 z) ∧ w.cell? ⟨p, 1, none⟩ = some (.int .i64 x) ∧ w.cell? ⟨p, 2, none⟩ = some (.int .i64 y)
theorem RK.below {w w' : World} {p : Nat} {z x y : Int} (h : RK w p z x y) (hb : Below w.heap.size w w') : RK w' p z x y :=
  have hl := World.block_lt_of_cell? _ _ h.1
  ⟨(hb.cell (p := ⟨p, 0, none⟩) hl).trans h.1, (hb.cell (p := ⟨p, 1, none⟩) hl).trans h.2.1, (hb.cell (p := ⟨p, 2, none⟩) hl).trans h.2.2⟩
/-- Two cells: a cache. -/
def CaA (w : World) (q : Nat) (s : Int) (v : Value) : Prop := w.cell? ⟨q, 0, none⟩ = some (.int .i64 s) ∧ w.cell? ⟨q, 1, none⟩ = some v
theorem CaA.below {w w' : World} {q : Nat} {s : Int} {v : Value} (h : CaA w q s v) (hb : Below w.heap.size w w') : CaA w' q s v :=
  have hl := World.block_lt_of_cell? _ _ h.1
  ⟨(hb.cell (p := ⟨q, 0, none⟩) hl).trans h.1, (hb.cell (p := ⟨q, 1, none⟩) hl).trans h.2⟩
set_option maxHeartbeats 4000000 in
theorem l11At_any (q : Nat) (s : Int) (a : Option Addr) (n cap : Nat) (K : Nat → Kp) (z x y : Int) (w : World) (hc : CaA w q s (.slice a n cap)) (hp : IsKs w a n K) (hn : n ≤ 1048576) :
    Calls Tryz.prog 41 #[.pointer (some ⟨q, 0, none⟩), refV z x y] w fun e w' => e = .returned (.int .i64 (atK n K z x y)) ∧ Below w.heap.size w w' := by
  have HP : Hid (IsKs w a n K) := hp
  have HC : Hid (CaA w q s (.slice a n cap)) := hc
  clear hp hc
  go_enter Tryz.func41, Tryz.ntmps41
  go_wp2_with fail
  generalize hW : (w.alloc _ : World) = W
  have HB0 : Hid (Below w.heap.size w W) := by show Below _ _ _; subst hW; (repeat (first | exact Below.refl _ _ | assumption | refine Below.drew ?_ | refine bl_alloc ?_ _ | refine bl_then ?_ (by assumption) | refine Below.setCell ?_ (by first | omega | (simp; done) | (simp; omega)) _ | refine bl_store ?_ ?_ _ _))
  have HR : Hid (RK W w.heap.size z x y) := by show RK _ _ _ _ _; subst hW; exact ⟨by simp [go_sem], by simp [go_sem], by simp [go_sem]⟩
  clear hW
  go_loopw [5] (fun i wr => ∃ k : Nat, k ≤ n ∧ i = .int .i64 (k : Int) ∧ (∀ j, j < k → isK (K j) z x y = false) ∧ Below W.heap.size W wr) (fun i _ => n - (intOf i).toNat)
  case atStart => exact ⟨0, by omega, rfl, fun j hj => absurd hj (Nat.not_lt_zero _), Below.refl _ _⟩
  case round =>
    obtain ⟨k, hk, rfl, hno, hB⟩ := hrel
    have HN : Hid (∀ j, j < k → isK (K j) z x y = false) := hno
    have HB : Hid (Below W.heap.size W wr) := hB
    obtain ⟨m0, m1⟩ := HC.out.below (bl_then HB0.out hB)
    by_cases hlt : k < n
    · rcases HP.out with h0 | ⟨b, off, rfl, hb, hpt⟩
      · omega
      obtain ⟨q0, q1, q2, q3, q4⟩ := ((hpt.below (bl_then HB0.out hB) hb) k hlt).1
      obtain ⟨p0, p1, p2⟩ := HR.out.below hB
      have hi : (k : Int) < (n : Int) := by omega
      have hi0 : (0 : Int) ≤ (k : Int) := by omega
      have heq := fun w => eql_ref (K k).z (K k).x (K k).y z x y w
      clear hno hB hpt
      have hE0 : ((K k).z == z && ((K k).x == x && (K k).y == y)) = isK (K k) z x y := rfl
      simp only [hE0] at heq
      clear hE0
      cases hE : isK (K k) z x y
      · simp only [hE] at heq
        have HN2 : Hid (∀ j, j < k + 1 → isK (K j) z x y = false) := fun j hj => by
          by_cases e : j = k
          · rw [e]; exact hE
          · exact HN.out j (by omega)
        clear hE
        generalize (K k).z = rz at *
        generalize (K k).x = rx at *
        generalize (K k).y = ry at *
        go_wp2_with fail
        go_quiet (fail)
        go_wp2_with fail
        exact ⟨⟨k + 1, by omega, by simp, HN2.out, below_drewN HB.out _⟩, by simp [intOf]; omega⟩
      · simp only [hE] at heq
        have HY : Hid (atK n K z x y = (k : Int)) := firstI_yes (G := fun i => isK (K i) z x y) hlt hE HN.out
        clear hE
        generalize (K k).z = rz at *
        generalize (K k).x = rx at *
        generalize (K k).y = ry at *
        go_wp2_with fail
        go_quiet (fail)
        go_wp2
        go_ret
        exact ⟨ret_int HY.out.symm, below_drewN (bl_then HB0.out HB.out) _⟩
    · obtain rfl : n = k := by omega
      have HY : Hid (atK n K z x y = -1) := firstI_no (G := fun i => isK (K i) z x y) HN.out
      go_wp2
      go_ret
      exact ⟨ret_int HY.out.symm, bl_then HB0.out HB.out⟩
end Go.Proofs.YtciidkmonfmipaaGreat
