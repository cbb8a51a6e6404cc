/- Texts. -/
import Derived.Test.YtiephlohemphjaaGreatVTickViewer23
import Derived.Test.YtiephlohemphjaaGreatVTickViewer20
set_option linter.unusedSimpArgs false
set_option linter.unusedVariables false
set_option maxRecDepth 100000
set_option maxHeartbeats 32000000
namespace Go.Proofs.YtiephlohemphjaaGreat
open Go.RowKit
def orI (x y : Int) : Int := if x = 0 then y else x
theorem cmpOr_any (b c : Nat) (x y : Int) (w : World) (h0 : w.cell? ⟨b,0,none⟩ = some (.int .i64 x)) (h1 : w.cell? ⟨b,1,none⟩ = some (.int .i64 y)) : Calls Tryz.prog 239 #[.slice (some ⟨b,0,none⟩) 2 c] w fun e w' => e = .returned (.int .i64 (orI x y)) ∧ w' = w := by
 unfold orI
 by_cases hx : x = 0
 ·subst hx
  by_cases hy : y = 0
  ·subst hy
   go_enter Tryz.func239,Tryz.ntmps239
   go_wp2
   refine wp_loop_rounds 3 ?_
   rw [rounds_succ]
   go_wp2
   rw [rounds_succ]
   go_wp2
   rw [rounds_succ]
   go_wp2
   go_ret
   exact ⟨by simp,rfl⟩
  ·have hy' : (y == 0) = false := by simpa using hy
   go_enter Tryz.func239,Tryz.ntmps239
   go_wp2
   refine wp_loop_rounds 2 ?_
   rw [rounds_succ]
   go_wp2
   rw [rounds_succ]
   go_wp2
   go_ret
   exact ⟨by simp,rfl⟩
 ·have hx' : (x == 0) = false := by simpa using hx
  rw [if_neg hx]
  go_enter Tryz.func239,Tryz.ntmps239
  go_wp2
  refine wp_loop_rounds 1 ?_
  rw [rounds_succ]
  go_wp2
  go_ret
  exact ⟨rfl,rfl⟩
def cmpF (f g : Feat) : Int := orI (cmpI f.la g.la) (cmpI f.id g.id)
theorem compareFeatures_gro (f g : Feat) (w : World) : Calls Tryz.prog 210 #[.agg (fcell f).toArray, .agg (fcell g).toArray] w fun e w' => e = .returned (.int .i64 (cmpF f g)) ∧ Gro w w' := by
 unfold cmpF
 generalize hA : cmpI f.la g.la = A
 generalize hB : cmpI f.id g.id = B
 have H1 : Hid (∀ W,Calls Tryz.prog 191 #[.int .i64 f.la, .int .i64 g.la] W fun e w' => e = .returned (.int .i64 A) ∧ w' = W) := fun W => by subst hA; exact cmpCompare_any _ _ _
 have H2 : Hid (∀ W,Calls Tryz.prog 191 #[.int .i64 f.id, .int .i64 g.id] W fun e w' => e = .returned (.int .i64 B) ∧ w' = W) := fun W => by subst hB; exact cmpCompare_any _ _ _
 clear hA hB
 unfold fcell
 go_enter Tryz.func210,Tryz.ntmps210
 go_wp2_with fail
 generalize hV : ((w.alloc _).alloc _ : World) = V
 have hB0 : Gro w V := by subst hV; exact ((Gro.refl _).alloc _).alloc _
 have c0 : ∀ W',Gro V W' → W'.cell? ⟨w.heap.size,0,none⟩ = some (.int .i64 f.id) := fun W' h => by
  rw [h.1.cell (by subst hV; simp <;> omega)]; subst hV; simp [go_sem]
 have c1 : ∀ W',Gro V W' → W'.cell? ⟨w.heap.size,1,none⟩ = some (.int .i64 f.la) := fun W' h => by
  rw [h.1.cell (by subst hV; simp <;> omega)]; subst hV; simp [go_sem]
 have d0 : ∀ W',Gro V W' → W'.cell? ⟨w.heap.size + 1,0,none⟩ = some (.int .i64 g.id) := fun W' h => by
  rw [h.1.cell (by subst hV; simp <;> omega)]; subst hV; simp [go_sem]
 have d1 : ∀ W',Gro V W' → W'.cell? ⟨w.heap.size + 1,1,none⟩ = some (.int .i64 g.la) := fun W' h => by
  rw [h.1.cell (by subst hV; simp <;> omega)]; subst hV; simp [go_sem]
 clear hV
 refine wp_region_noPanic ?_
 refine wp_region_held_drew (S := fun W' => Gro V W') (by kernel_rfl) ((Gro.refl V).drew) (fun hHeld => ?_)
 have hBd : Gro V V.drew := hHeld
 refine takeK (i := 0) (d := some 5) (v := ?vt1) rfl rfl (Or.inl ⟨by rfl,?hyt1⟩) (by assumption) ?_
 case hyt1 => (intro w hSw; (try dsimp only at hSw); go_simp <;> with_reducible rfl)
 try simp only [Act.put,Qx,Qy,Qz]
 refine takeK (i := 1) (d := some 6) (v := ?vt2) rfl rfl (Or.inl ⟨by rfl,?hyt2⟩) (by assumption) ?_
 case hyt2 => (intro w hSw; (try dsimp only at hSw); go_simp <;> with_reducible rfl)
 try simp only [Act.put,Qx,Qy,Qz]
 refine takeK (i := 2) (d := some 7) (v := ?vt3) rfl rfl (Or.inl ⟨by rfl,?hyt3⟩) (by assumption) ?_
 case hyt3 => (intro w hSw; (try dsimp only at hSw); go_simp <;> with_reducible rfl)
 try simp only [Act.put,Qx,Qy,Qz]
 refine takeK (i := 3) (d := some 8) (v := ?vt4) rfl rfl (Or.inl ⟨by rfl,?hyt4⟩) (by assumption) ?_
 case hyt4 => (intro w hSw; (try dsimp only at hSw); go_simp <;> with_reducible rfl)
 try simp only [Act.put,Qx,Qy,Qz]
 refine takeK (i := 5) (d := some 10) (v := ?vt5) rfl rfl (Or.inl ⟨by rfl,?hyt5⟩) (by assumption) ?_
 case hyt5 => (intro w hSw; (try dsimp only at hSw); go_simp <;> with_reducible rfl)
 try simp only [Act.put,Qx,Qy,Qz]
 refine takeK (i := 6) (d := some 11) (v := ?vt6) rfl rfl (Or.inl ⟨by rfl,?hyt6⟩) (by assumption) ?_
 case hyt6 => (intro w hSw; (try dsimp only at hSw); go_simp <;> with_reducible rfl)
 try simp only [Act.put,Qx,Qy,Qz]
 refine takeK (i := 7) (d := some 12) (v := ?vt7) rfl rfl (Or.inl ⟨by rfl,?hyt7⟩) (by assumption) ?_
 case hyt7 => (intro w hSw; (try dsimp only at hSw); go_simp <;> with_reducible rfl)
 try simp only [Act.put,Qx,Qy,Qz]
 refine takeK (i := 8) (d := some 13) (v := ?vt8) rfl rfl (Or.inl ⟨by rfl,?hyt8⟩) (by assumption) ?_
 case hyt8 => (intro w hSw; (try dsimp only at hSw); go_simp <;> with_reducible rfl)
 try simp only [Act.put,Qx,Qy,Qz]
 refine wpAnyH_ready (rs := [4]) (by kernel_rfl) (by simp) ?_
 refine (AllReadyH.cons rfl (fun K hK => ?_) AllReadyH.nil)
 go_simp
 refine (H1.out _).mono ?_
 rintro e w4 ⟨rfl,rfl⟩
 go_wp2_with fail
 refine hK.out _ _ hBd (fun hHeld => ?_)
 clear hK K
 try simp only [Act.put,Qx,Qy,Qz]
 refine wpAnyH_ready (rs := [9]) (by kernel_rfl) (by simp) ?_
 refine (AllReadyH.cons rfl (fun K hK => ?_) AllReadyH.nil)
 go_simp
 refine (H2.out _).mono ?_
 rintro e w9 ⟨rfl,rfl⟩
 go_wp2_with fail
 refine hK.out _ _ hBd (fun hHeld => ?_)
 clear hK K
 try simp only [Act.put,Qx,Qy,Qz]
 refine wpAnyH_ready (rs := [10]) (by kernel_rfl) (by simp) ?_
 refine (AllReadyH.cons rfl (fun K hK => ?_) AllReadyH.nil)
 go_simp
 generalize hw9 : (World.alloc _ _ : World) = w9
 have hb9 : Gro V w9 := by subst hw9; exact (Gro.refl _).alloc _
 have g0 : w9.cell? ⟨V.heap.size,0,none⟩ = some (.int .i64 A) := by subst hw9; simp [go_sem]
 have g1 : w9.cell? ⟨V.heap.size,1,none⟩ = some (.int .i64 B) := by subst hw9; simp [go_sem]
 have hB9 : Gro V w9.drew := hb9.drew
 replace g0 : w9.drew.cell? ⟨V.heap.size,0,none⟩ = some (.int .i64 A) := g0
 replace g1 : w9.drew.cell? ⟨V.heap.size,1,none⟩ = some (.int .i64 B) := g1
 clear hw9
 refine hK.out _ _ hB9 (fun hHeld => ?_)
 clear hK K
 try simp only [Act.put,Qx,Qy,Qz]
 refine wpAnyH_ready (rs := [11]) (by kernel_rfl) (by simp) ?_
 refine (AllReadyH.cons rfl (fun K hK => ?_) AllReadyH.nil)
 go_simp
 refine (cmpOr_any _ _ A B _ g0 g1).mono ?_
 rintro e w11 ⟨rfl,rfl⟩
 go_wp2_with fail
 refine hK.out _ _ hB9 (fun hHeld => ?_)
 clear hK K
 try simp only [Act.put,Qx,Qy,Qz]
 refine takeK (i := 12) (d := some 4) (v := ?vt9) rfl rfl (Or.inl ⟨by rfl,?hyt9⟩) (by assumption) ?_
 case hyt9 => (intro w hSw; (try dsimp only at hSw); go_simp <;> with_reducible rfl)
 try simp only [Act.put,Qx,Qy,Qz]
 refine wpAnyH_done (by kernel_rfl) ?_ _
 refine NoPanic.normal ?_
 go_wp2_with fail
 go_ret
 exact ⟨rfl,hB0.trans hB9⟩
def ltF (f g : Feat) : Bool := decide (f.la < g.la) || (decide (f.la = g.la) && decide (f.id < g.id))
theorem l2Ahead_any (p o p' o' : Nat) (f g : Feat) (w : World) (h0 : w.cell? ⟨p,o,none⟩ = some (.int .i64 f.id)) (h1 : w.cell? ⟨p,o + 1,none⟩ = some (.int .i64 f.la)) (k0 : w.cell? ⟨p',o',none⟩ = some (.int .i64 g.id)) (k1 : w.cell? ⟨p',o' + 1,none⟩ = some (.int .i64 g.la)) :
  Calls Tryz.prog 176 #[.pointer (some ⟨p,o,none⟩), .pointer (some ⟨p',o',none⟩)] w fun e w' => e = .returned (.bool (ltF f g)) ∧ Below w.heap.size w w' := by
 by_cases hx : f.la < g.la
 ·have HU : Hid (ltF f g = true) := by show _ = _; simp [ltF,hx]
  go_enter Tryz.func176,Tryz.ntmps176
  go_wp2_with fail
  go_region
  go_wp2
  go_ret
  exact ⟨ret_bool HU.out.symm,by (repeat (first|exact Qr _ _|assumption|refine Qd ?_|refine Qa ?_ _|refine Qt ?_|refine Qs ?_ _|refine Qo ?_ ?_ _ _))⟩
 ·have hx' : decide (f.la < g.la) = false := by simpa using hx
  by_cases hy : f.la = g.la
  ·have hy' : (f.la == g.la) = true := by simpa using hy
   by_cases hz : f.id < g.id
   ·have HU : Hid (ltF f g = true) := by show _ = _; simp [ltF,hy,hz]
    clear hy hx
    go_enter Tryz.func176,Tryz.ntmps176
    go_wp2_with fail
    go_region
    go_wp2
    go_ret
    exact ⟨ret_bool HU.out.symm,by (repeat (first|exact Qr _ _|assumption|refine Qd ?_|refine Qa ?_ _|refine Qt ?_|refine Qs ?_ _|refine Qo ?_ ?_ _ _))⟩
   ·have hz' : decide (f.id < g.id) = false := by simpa using hz
    have HU : Hid (ltF f g = false) := by show _ = _; simp [ltF,hx]; omega
    clear hy hx hz
    go_enter Tryz.func176,Tryz.ntmps176
    go_wp2_with fail
    go_region
    go_wp2
    go_ret
    exact ⟨ret_bool HU.out.symm,by (repeat (first|exact Qr _ _|assumption|refine Qd ?_|refine Qa ?_ _|refine Qt ?_|refine Qs ?_ _|refine Qo ?_ ?_ _ _))⟩
  ·have hy' : (f.la == g.la) = false := by simpa using hy
   have HU : Hid (ltF f g = false) := by show _ = _; simp [ltF,hx,hy]
   clear hy hx
   go_enter Tryz.func176,Tryz.ntmps176
   go_wp2_with fail
   go_region
   go_wp2
   go_ret
   exact ⟨ret_bool HU.out.symm,by (repeat (first|exact Qr _ _|assumption|refine Qd ?_|refine Qa ?_ _|refine Qt ?_|refine Qs ?_ _|refine Qo ?_ ?_ _ _))⟩
def OwnQ (w : World) (lo hi b n : Nat) (N C q : Nat → Nat) : Prop :=
 (lo ≤ b ∧ b < hi ∧ hi ≤ w.heap.size) ∧ There w b (n * 7) ∧
 (∀ i,i < n → (lo ≤ q i ∧ q i < hi ∧ q i ≠ b) ∧ There w (q i) (N i * 2) ∧ w.cell? ⟨b,i * 7 + 4,none⟩ = some (.slice (some ⟨q i,0,none⟩) (N i) (C i))) ∧
 (∀ i j,i < n → j < n → q i = q j → i = j)
theorem OwnQ.below {w w' : World} {lo hi b n : Nat} {N C q : Nat → Nat} (h : OwnQ w lo hi b n N C q) (hb : Below w.heap.size w w') : OwnQ w' lo hi b n N C q := by
 obtain ⟨⟨h1,h2,h3⟩,h4,h5,h6⟩ := h
 exact ⟨⟨h1,h2,Nat.le_trans h3 hb.size⟩,h4.below hb,fun i hi => ⟨(h5 i hi).1,(h5 i hi).2.1.below hb,bl_cell hb (h5 i hi).2.2⟩,h6⟩
theorem OwnQ.away {w w' : World} {lo hi lo' hi' b n : Nat} {N C q : Nat → Nat} (h : OwnQ w lo hi b n N C q) (hm : MidB lo' hi' w w') (ho : hi' ≤ lo ∨ hi ≤ lo') : OwnQ w' lo hi b n N C q := by
 obtain ⟨⟨h1,h2,h3⟩,h4,h5,h6⟩ := h
 exact ⟨⟨h1,h2,Nat.le_trans h3 hm.size⟩,hm.there h4 (by omega),fun i hi => ⟨(h5 i hi).1,hm.there (h5 i hi).2.1 (by have := (h5 i hi).1; omega),hm.cell (h5 i hi).2.2 (by omega)⟩,h6⟩
def kS (N : Nat → Nat) (k0 : Nat) : Nat → Nat
 | 0 => k0
 | j + 1 => kS N k0 j + 6 + 2 * N j
theorem kS_le (N : Nat → Nat) (k0 n : Nat) (h : ∀ i,i < n → N i ≤ 1048576) : ∀ j,j ≤ n → kS N k0 j ≤ k0 + j * 2097158
 | 0,_ => by simp [kS]
 | j + 1,hj => by
  have := kS_le N k0 n h j (by omega)
  have := h j (by omega)
  rw [kS]; omega
def MarkF (w : World) (b q i N C k : Nat) : Prop :=
 FeatAt w b (i * 7) ((k : Nat) : Int) ((k + 1 : Nat) : Int) ((k + 2 : Nat) : Int) ((k + 3 : Nat) : Int) (.slice (some ⟨q,0,none⟩) N C) (mTx (k + 4 + 2 * N)) ((k + 5 + 2 * N : Nat) : Int) ∧ PtsAt w q 0 N (mkX (k + 4)) (mkY (k + 4))
theorem MarkF.below {w w' : World} {b q i N C k : Nat} (h : MarkF w b q i N C k) (hb : Below w.heap.size w w') (h1 : b < w.heap.size) (h2 : q < w.heap.size) : MarkF w' b q i N C k := ⟨h.1.below hb h1,h.2.below hb h2⟩
theorem mark_step {wr w5 w6 : World} {lo hi b n j k : Nat} {N C q : Nat → Nat} (hO : OwnQ wr lo hi b n N C q) (hj : j < n)
  (hg : World.grownBy ((((wr.setCell ⟨b,j * 7,none⟩ (.int .i64 (k : Nat))).setCell ⟨b,j * 7 + 1,none⟩ (.int .i64 ((k + 1 : Nat) : Int))).setCell ⟨b,j * 7 + 2,none⟩ (.int .i64 ((k + 2 : Nat) : Int))).setCell ⟨b,j * 7 + 3,none⟩ (.int .i64 ((k + 3 : Nat) : Int))) w5 (some (q j)))
  (hT5 : There w5 (q j) (N j * 2)) (hP5 : PtsAt w5 (q j) 0 (N j) (mkX (k + 4)) (mkY (k + 4))) (h56 : Below w5.heap.size w5 w6)
  {N0 : Nat → Nat} {k0 : Nat} (hM : ∀ i,i < j → MarkF wr b (q i) i (N i) (C i) (kS N0 k0 i)) (hk : kS N0 k0 j = k) :
  OwnQ ((w6.setCell ⟨b,j * 7 + 5,none⟩ (.string (mTx (k + 4 + 2 * N j)))).setCell ⟨b,j * 7 + 6,none⟩ (.int .i64 ((k + 5 + 2 * N j : Nat) : Int))) lo hi b n N C q ∧
  MidB lo hi wr ((w6.setCell ⟨b,j * 7 + 5,none⟩ (.string (mTx (k + 4 + 2 * N j)))).setCell ⟨b,j * 7 + 6,none⟩ (.int .i64 ((k + 5 + 2 * N j : Nat) : Int))) ∧
  ∀ i,i < j + 1 → MarkF ((w6.setCell ⟨b,j * 7 + 5,none⟩ (.string (mTx (k + 4 + 2 * N j)))).setCell ⟨b,j * 7 + 6,none⟩ (.int .i64 ((k + 5 + 2 * N j : Nat) : Int))) b (q i) i (N i) (C i) (kS N0 k0 i) := by
 obtain ⟨⟨h1,h2,h3⟩,hTb,hq,hinj⟩ := hO
 have ne : ∀ i j : Nat,i ≠ j → (⟨b,i,none⟩ : Addr) ≠ ⟨b,j,none⟩ := fun i j hij h => hij (by injection h)
 have nb : ∀ (p o o' : Nat),p ≠ b → (⟨b,o,none⟩ : Addr) ≠ ⟨p,o',none⟩ := fun p o o' hp h => hp (by injection h with h; exact h.symm)
 obtain ⟨⟨hqj1,hqj2,hqj3⟩,hTj,hcj⟩ := hq j hj
 generalize hW4 : ((((wr.setCell ⟨b,j * 7,none⟩ (.int .i64 (k : Nat))).setCell ⟨b,j * 7 + 1,none⟩ (.int .i64 ((k + 1 : Nat) : Int))).setCell ⟨b,j * 7 + 2,none⟩ (.int .i64 ((k + 2 : Nat) : Int))).setCell ⟨b,j * 7 + 3,none⟩ (.int .i64 ((k + 3 : Nat) : Int))) = W4 at hg
 have hT4 : There W4 b (n * 7) := by subst hW4; exact ((((hTb.set _ _).set _ _).set _ _).set _ _)
 have hM4 : MidB lo hi wr W4 := by subst hW4; exact ((((MidB.refl lo hi wr).set h1 h2 _ _).set h1 h2 _ _).set h1 h2 _ _).set h1 h2 _ _
 have hT5b : There w5 b (n * 7) := hT4.grown hg (Ne.symm hqj3)
 have hT6 : There w6 b (n * 7) := hT5b.below h56
 generalize hV : ((w6.setCell ⟨b,j * 7 + 5,none⟩ (.string (mTx (k + 4 + 2 * N j)))).setCell ⟨b,j * 7 + 6,none⟩ (.int .i64 ((k + 5 + 2 * N j : Nat) : Int))) = V
 have hTV : There V b (n * 7) := by subst hV; exact (hT6.set _ _).set _ _
 have hMV : MidB lo hi wr V := by
  subst hV
  exact ((hM4.trans ((MidB.of_grown hg hqj1 hqj2).trans (MidB.of_below h56))).set h1 h2 _ _).set h1 h2 _ _
 have hkeep : ∀ o v,wr.cell? ⟨b,o,none⟩ = some v → (o < j * 7 ∨ o = j * 7 + 4 ∨ j * 7 + 6 < o) → V.cell? ⟨b,o,none⟩ = some v := fun o v hv ho => by
  have hv4 : W4.cell? ⟨b,o,none⟩ = some v := by
   subst hW4
   rw [set1_other (ne _ _ (by omega)),set1_other (ne _ _ (by omega)),set1_other (ne _ _ (by omega)),set1_other (ne _ _ (by omega))]
   exact hv
  have hv6 := bl_cell h56 (gr_cell hg hv4 (Ne.symm hqj3))
  subst hV
  rw [set1_other (ne _ _ (by omega)),set1_other (ne _ _ (by omega))]
  exact hv6
 have hoth : ∀ p,p ≠ b → p ≠ q j → ∀ o v,wr.cell? ⟨p,o,none⟩ = some v → V.cell? ⟨p,o,none⟩ = some v := fun p hp hpq o v hv => by
  have hv4 : W4.cell? ⟨p,o,none⟩ = some v := by
   subst hW4
   rw [set1_other (nb _ _ _ hp),set1_other (nb _ _ _ hp),set1_other (nb _ _ _ hp),set1_other (nb _ _ _ hp)]
   exact hv
  have hv6 := bl_cell h56 (gr_cell hg hv4 hpq)
  subst hV
  rw [set1_other (nb _ _ _ hp),set1_other (nb _ _ _ hp)]
  exact hv6
 have hpt : ∀ p m X Y,p ≠ b → PtsAt w6 p 0 m X Y → PtsAt V p 0 m X Y := fun p m X Y hp h => by
  subst hV
  exact (h.store (Ne.symm hp)).store (Ne.symm hp)
 have hth : ∀ p m,p ≠ b → There w6 p m → There V p m := fun p m hp h => by
  subst hV
  exact (h.store (Ne.symm hp)).store (Ne.symm hp)
 have hql : q j < w5.heap.size := by have := hg.size; have := hM4.size; omega
 refine ⟨⟨⟨h1,h2,Nat.le_trans h3 hMV.size⟩,hTV,fun i hi => ⟨(hq i hi).1,?_,hkeep _ _ (hq i hi).2.2 (by omega)⟩,hinj⟩,hMV,fun i hi => ?_⟩
 ·by_cases e : i = j
  ·subst e
   exact hth _ _ hqj3 (hT5.below h56)
  ·have hne : q i ≠ q j := fun h => e (hinj i j hi hj h)
   have hne' := (hq i hi).1.2.2
   refine hth _ _ hne' ?_
   have h4 : There W4 (q i) (N i * 2) := by
    subst hW4
    exact ((((hq i hi).2.1.store (Ne.symm hne')).store (Ne.symm hne')).store (Ne.symm hne')).store (Ne.symm hne')
   exact (h4.grown hg hne).below h56
 ·by_cases e : i = j
  ·subst e
   rw [hk]
   have c4 : ∀ o v,W4.cell? ⟨b,o,none⟩ = some v → o ≠ i * 7 + 5 → o ≠ i * 7 + 6 → V.cell? ⟨b,o,none⟩ = some v := fun o v hv ho ho' => by
    have hv6 := bl_cell h56 (gr_cell hg hv (Ne.symm hqj3))
    subst hV
    rw [set1_other (ne _ _ (Ne.symm ho')),set1_other (ne _ _ (Ne.symm ho))]
    exact hv6
   obtain ⟨u0,g0⟩ := (hTb (i * 7) (by omega)).1
   obtain ⟨u1,g1⟩ := ((hTb.set (i * 7) (.int .i64 (k : Nat))) (i * 7 + 1) (by omega)).1
   obtain ⟨u2,g2⟩ := (((hTb.set (i * 7) (.int .i64 (k : Nat))).set (i * 7 + 1) (.int .i64 ((k + 1 : Nat) : Int))) (i * 7 + 2) (by omega)).1
   obtain ⟨u3,g3⟩ := ((((hTb.set (i * 7) (.int .i64 (k : Nat))).set (i * 7 + 1) (.int .i64 ((k + 1 : Nat) : Int))).set (i * 7 + 2) (.int .i64 ((k + 2 : Nat) : Int))) (i * 7 + 3) (by omega)).1
   obtain ⟨u5,g5⟩ := (hT6 (i * 7 + 5) (by omega)).1
   obtain ⟨u6,g6⟩ := ((hT6.set (i * 7 + 5) (.string (mTx (k + 4 + 2 * N i)))) (i * 7 + 6) (by omega)).1
   refine ⟨⟨c4 _ _ ?_ (by omega) (by omega),c4 _ _ ?_ (by omega) (by omega),c4 _ _ ?_ (by omega) (by omega),c4 _ _ ?_ (by omega) (by omega),hkeep _ _ hcj (by omega),?_,?_⟩,hpt _ _ _ _ hqj3 (hP5.below h56 hql)⟩
   ·subst hW4; rw [set1_other (ne _ _ (by omega)),set1_other (ne _ _ (by omega)),set1_other (ne _ _ (by omega))]; exact set1_same g0
   ·subst hW4; rw [set1_other (ne _ _ (by omega)),set1_other (ne _ _ (by omega))]; exact set1_same g1
   ·subst hW4; rw [set1_other (ne _ _ (by omega))]; exact set1_same g2
   ·subst hW4; exact set1_same g3
   ·subst hV; rw [set1_other (ne _ _ (by omega))]; exact set1_same g5
   ·subst hV; exact set1_same g6
  ·have hi' : i < j := by omega
   obtain ⟨⟨m0,m1,m2,m3,m4,m5,m6⟩,mp⟩ := hM i hi'
   have hne : q i ≠ q j := fun h => e (hinj i j (by omega) hj h)
   have hne' := (hq i (by omega)).1.2.2
   refine ⟨⟨hkeep _ _ m0 (by omega),hkeep _ _ m1 (by omega),hkeep _ _ m2 (by omega),hkeep _ _ m3 (by omega),hkeep _ _ m4 (by omega),hkeep _ _ m5 (by omega),hkeep _ _ m6 (by omega)⟩,fun x hx => ?_⟩
   exact ⟨hoth _ hne' hne _ _ (mp x hx).1,hoth _ hne' hne _ _ (mp x hx).2⟩
def Copies (base : Nat) (w : World) (n : Nat) (G H : Nat → Feat) : Prop :=
 (∀ i,i < n → (H i).same (G i) ∧ Row base w (.slice (H i).a (H i).n (H i).cap) (ptsOf (G i).X (G i).Y (List.range (G i).n))) ∧
 ∀ i j,i < n → j < n → (H i).a = (H j).a → i = j
theorem ptsOf_len (X Y : Nat → Int) (n : Nat) : (ptsOf X Y (List.range n)).length = n := by simp [ptsOf]
theorem ptsOf_px (X Y : Nat → Int) (n i : Nat) (hi : i < n) : px (ptsOf X Y (List.range n)) i = X i ∧ py (ptsOf X Y (List.range n)) i = Y i := by
 simp [px,py,ptsOf,List.getD_eq_getElem?_getD,hi]
theorem Row.atP {base : Nat} {w : World} {a : Option Addr} {n c : Nat} {X Y : Nat → Int} (h : Row base w (.slice a n c) (ptsOf X Y (List.range n))) (hn : 0 < n) :
  ∃ g,a = some ⟨g,0,none⟩ ∧ base ≤ g ∧ g < w.heap.size ∧ PtsAt w g 0 n X Y ∧ There w g (n * 2) := by
 obtain ⟨a',cap',hv,hc,h0 | ⟨b,ha,hb,hl,hp,ht⟩⟩ := h.own
 ·rw [ptsOf_len] at h0; omega
 ·rw [ptsOf_len] at hp ht
  injection hv with e1 e2 e3
  refine ⟨b,e1.trans ha,hb,hl,fun i hi => ?_,ht⟩
  obtain ⟨x1,x2⟩ := ptsOf_px X Y n i hi
  have := hp i hi
  rw [x1,x2] at this
  exact this
theorem Row.keptF {base base' : Nat} {w w' : World} {u v : Value} {l : List (Int × Int)} {H : Nat → Feat} {m : List Nat} (h : Row base w u l) (h' : FRow base' w v H m) (hg : w.grownBy w' v.ownBlock) : Row base w' u l := by
 refine World.ownsRow.kept h hg ?_
 cases hu : u.ownBlock with
 | none => exact .inl rfl
 | some g =>
  right
  intro e
  obtain ⟨c1,h1⟩ := heap_of_row h g hu
  obtain ⟨c2,h2⟩ := heap_of_row h' g e.symm
  rw [h1] at h2
  injection h2 with h2
  injection h2 with _ h2
  exact absurd h2 (by decide)
theorem copyFeatures_any (b n cap : Nat) (G : Nat → Feat) (w : World) (hg : FsAt w b 0 n G) (hbl : b < w.heap.size) (hn : n ≤ 12) (hpos : ∀ i,i < n → 0 < (G i).n) (hs : SmallFs n G) :
  Calls Tryz.prog 162 #[.slice (some ⟨b,0,none⟩) n cap] w fun e w' => ∃ v H,e = .returned v ∧ FRow w.heap.size w' v H (List.range n) ∧ Copies w.heap.size w' n G H ∧ Below w.heap.size w w' := by
 obtain ⟨i0,hi,hz0,hz1,hz2⟩ := info_parts info_if
 have HG : Hid (FsAt w b 0 n G) := hg
 have HPOS : Hid (∀ i,i < n → 0 < (G i).n) := hpos
 have HS : Hid (SmallFs n G) := hs
 clear hg hpos hs
 go_enter Tryz.func162,Tryz.ntmps162
 go_wp2_with fail
 go_loopw [3,8] (fun v i wr => ∃ (k : Nat) (H : Nat → Feat),k ≤ n ∧ i = .int .i64 (k : Int) ∧ FRow w.heap.size wr v H (List.range k) ∧ Copies w.heap.size wr k G H ∧ Below w.heap.size w wr) (fun _ i _ => n - (intOf i).toNat)
 case atStart => exact ⟨0,G,by omega,rfl,World.ownsRow_nil _ _ _ _,⟨fun i hi => by omega,fun i j hi => by omega⟩,Below.refl _ _⟩
 case round =>
  obtain ⟨k,H,hk,rfl,hO,hC,hB⟩ := hrel
  by_cases hlt : k < n
  ·have hblr : b < wr.heap.size := Nat.lt_of_lt_of_le hbl hB.size
   obtain ⟨⟨f0,f1,f2,f3,f4,f5,f6⟩,hP⟩ := (HG.out.below hB hbl) k hlt
   simp only [Nat.zero_add] at f0 f1 f2 f3 f4 f5 f6
   have hp0 := HPOS.out k hlt
   obtain ⟨z1,z2⟩ := HS.out.2 k hlt
   obtain ⟨b',off',ha',hbl',hpt⟩ := hP.resolve_left (by omega)
   rw [ha'] at f4
   have HP : Hid (PtsAt wr b' off' (G k).n (G k).X (G k).Y) := hpt
   have HO : Hid (FRow w.heap.size wr u3 H (List.range k)) := hO
   have HC : Hid (Copies w.heap.size wr k G H) := hC
   have HB : Hid (Below w.heap.size w wr) := hB
   have HLT : Hid (k < n) := hlt
   clear hO hC hB hP hpt
   have hi' : (k : Int) < (n : Int) := by omega
   go_wp2_with fail
   generalize hV : (wr.alloc _ : World) = V
   have hBV : Below wr.heap.size wr V := by subst hV; exact Qb
   clear hV f0 f1 f2 f3 f4 f5 f6
   have hOV : FRow w.heap.size V u3 H (List.range k) := HO.out.below hBV
   refine (copyFeature_row _ _ _ _ b' _ _ (G k).X (G k).Y _ _ V (HP.out.below hBV hbl') (Nat.lt_of_lt_of_le hbl' hBV.size) z1 z2).mono ?_
   rintro e w1 ⟨a1,c1,rfl,hR1,hb1⟩
   have hrV : Below wr.heap.size wr w1 := bl_then hBV hb1
   have HR1 : Hid (Row V.heap.size w1 (.slice a1 (G k).n c1) (ptsOf (G k).X (G k).Y (List.range (G k).n))) := hR1
   have HO1 : Hid (FRow w.heap.size w1 u3 H (List.range k)) := hOV.below hb1
   have HB1 : Hid (Below w.heap.size w w1) := bl_then HB.out hrV
   have HrV : Hid (Below wr.heap.size wr w1) := hrV
   have hszV := hBV.size
   have hszw := HB.out.size
   have hsz1 := hb1.size
   clear hR1 hrV hOV hBV hb1 HO HB
   have hlenr : (List.range k).length = k := by simp
   go_wp2_with (first
    | (at_builtin; go_must (refine wpList_append_own _ rfl _ _ 145 rfl w.heap.size 207 i0 (.agg #[.int .i64 0, .int .i64 0, .int .i64 0, .int .i64 0, .slice none 0 0, .string ⟨#[]⟩, .int .i64 0]) 7 80 Tryz.underlying145 hi hz0 hz1 hz2 rfl (by decide) u3 k (cellsF H (List.range k)) rfl ?c6 ⟨w1.heap.size,0,none⟩ 1 1 (fcell { G k with a := a1,cap := c1 }) rfl ?c0 ?c1 ?c2 ?c3 ?c4 ?c5 ?_)))
   case c6 =>
    have := HO1.out.below (by exact Qb : Below w1.heap.size w1 (w1.alloc (.cells #[.int .i64 (G k).id, .int .i64 (G k).la, .int .i64 (G k).ki, .int .i64 (G k).wi, .slice a1 (G k).n c1, .string (G k).lab, .int .i64 (G k).pr] 207)))
    unfold FRow at this
    rw [hlenr] at this
    exact this
   case c0 => rfl
   case c1 =>
    intro q u hq
    have hq7 : q < 7 := (List.getElem?_eq_some_iff.1 hq).1
    have hc : q = 0 ∨ q = 1 ∨ q = 2 ∨ q = 3 ∨ q = 4 ∨ q = 5 ∨ q = 6 := by omega
    rcases hc with rfl | rfl | rfl | rfl | rfl | rfl | rfl <;> (simp [fcell] at hq; subst hq; simp [Addr.add,go_sem])
   case c2 => exact fcell_one _
   case c3 => unfold maxLen; omega
   case c4 => omega
   case c5 => simp; omega
   intro v' w3 hown' hgrow hnil
   clear hnil
   have hO2 : FRow w.heap.size (w1.alloc (.cells #[.int .i64 (G k).id, .int .i64 (G k).la, .int .i64 (G k).ki, .int .i64 (G k).wi, .slice a1 (G k).n c1, .string (G k).lab, .int .i64 (G k).pr] 207)) u3 H (List.range k) := HO1.out.below (by exact Qb)
   have hR2 := HR1.out.below (by exact Qb : Below w1.heap.size w1 (w1.alloc (.cells #[.int .i64 (G k).id, .int .i64 (G k).la, .int .i64 (G k).ki, .int .i64 (G k).wi, .slice a1 (G k).n c1, .string (G k).lab, .int .i64 (G k).pr] 207)))
   have hb2 : Below wr.heap.size wr (w1.alloc (.cells #[.int .i64 (G k).id, .int .i64 (G k).la, .int .i64 (G k).ki, .int .i64 (G k).wi, .slice a1 (G k).n c1, .string (G k).lab, .int .i64 (G k).pr] 207)) := HrV.out.alloc (by omega) _
   obtain ⟨hC1,hC2⟩ := HC.out
   have HF : Hid (FRow w.heap.size w3 v' (fun i => if i = k then { G k with a := a1,cap := c1 } else H i) (List.range (k + 1))) := by
    show FRow _ _ _ _ _
    unfold FRow
    have e1 : cellsF (fun i => if i = k then { G k with a := a1,cap := c1 } else H i) (List.range (k + 1)) = cellsF H (List.range k) ++ fcell { G k with a := a1,cap := c1 } := by
     rw [List.range_succ,cellsF_app,cellsF_one,if_pos rfl]
     rw [cellsF_congr (H' := H) (List.range k) (fun j hj => by rw [if_neg]; have := List.mem_range.1 hj; omega)]
    rw [e1,List.length_range]
    exact hown'
   have HCn : Hid (Copies w.heap.size w3 (k + 1) G (fun i => if i = k then { G k with a := a1,cap := c1 } else H i)) := by
    show Copies _ _ _ _ _
    obtain ⟨g1,hg1,hg1',_⟩ := HR1.out.atP hp0
    refine ⟨fun i hi => ?_,fun i j hi hj e => ?_⟩
    ·by_cases e : i = k
     ·subst e
      simp only [if_pos]
      exact ⟨⟨rfl,rfl,rfl,rfl,rfl,rfl,rfl,rfl,rfl⟩,(hR2.keptF hO2 hgrow).wideB (by omega)⟩
     ·simp only [if_neg e]
      obtain ⟨s1,r1⟩ := hC1 i (by omega)
      exact ⟨s1,(r1.below hb2).keptF hO2 hgrow⟩
    ·have old : ∀ i,i < k → (H i).a ≠ a1 := fun i hi e => by
      obtain ⟨s1,r1⟩ := hC1 i hi
      have hnn : (H i).n = (G i).n := s1.2.2.2.2.1
      rw [hnn] at r1
      obtain ⟨g,hg,_,hgl,_⟩ := r1.atP (HPOS.out i (by omega))
      rw [hg,hg1] at e
      injection e with e
      injection e with e
      omega
     by_cases ei : i = k <;> by_cases ej : j = k
     ·omega
     ·simp only [if_pos ei,if_neg ej] at e
      exact absurd e.symm (old j (by omega))
     ·simp only [if_neg ei,if_pos ej] at e
      exact absurd e (old i (by omega))
     ·simp only [if_neg ei,if_neg ej] at e
      exact hC2 i j (by omega) (by omega) e
   have HB3 : Hid (Below w.heap.size w w3) := (HB1.out.alloc (by omega) _).grown hgrow (by simp; omega) (fun g hg => ((World.ownsRow.lt (show World.ownsRow _ _ _ _ _ _ _ from hO2)) g hg).1)
   clear hown' hgrow hO2 hR2 hb2 hC1 hC2
   go_wp2
   go_roundw
   case rel => exact ⟨k + 1,_,by have := HLT.out; omega,by go_num,HF.out,HCn.out,HB3.out⟩
   case measure => have := HLT.out; simp [intOf]; omega
  ·go_wp2
   go_ret
   have hkn : k = n := by omega
   subst hkn
   exact ⟨_,H,rfl,hO,hC,hB⟩
theorem RowW.lt {base : Nat} {w : World} {v : Value} {l : List Req} (h : RowW base w v l) : ∀ s,v.ownBlock = some s → s < w.heap.size := fun s hs => by
 obtain ⟨_,h2 | ⟨g,cp,cur,hv,_,hh,_⟩⟩ := h
 ·rw [h2.1] at hs; cases hs
 ·rw [hv] at hs
  simp [Value.ownBlock] at hs
  subst hs
  rcases Nat.lt_or_ge g w.heap.size with h' | h'
  ·exact h'
  ·rw [Array.getElem?_eq_none h'] at hh; cases hh
theorem OwnW.same {w : World} {base : Nat} {v : Value} {n : Nat} {E E' : Nat → Req} (h : OwnW w base v n E) (he : ∀ i,i < n → E i = E' i) : OwnW w base v n E' := by
 obtain ⟨a,cap,hv,hc,h0 | ⟨b,ha,hbb,hl,hp,ht⟩⟩ := h
 ·exact ⟨a,cap,hv,hc, .inl h0⟩
 ·exact ⟨a,cap,hv,hc, .inr ⟨b,ha,hbb,hl,hp.same he,ht⟩⟩
theorem WsAt.put {w : World} {g n k : Nat} {F : Nat → Req} {d t : Int} (h : WsAt w g 0 n F) (hT : There w g (n * 5)) (hk : k < n) :
  WsAt ((w.setCell ⟨g,k * 5 + 3,none⟩ (.int .i64 d)).setCell ⟨g,k * 5 + 4,none⟩ (.int .i64 t)) g 0 n (fun i => if i = k then ⟨(F k).z,(F k).x,(F k).y,d,t⟩ else F i) := fun i hi => by
 have ne : ∀ i j : Nat,i ≠ j → (⟨g,i,none⟩ : Addr) ≠ ⟨g,j,none⟩ := fun i j hij h => hij (by injection h)
 obtain ⟨h0,h1,h2,h3,h4⟩ := h i hi
 simp only [Nat.zero_add] at h0 h1 h2 h3 h4 ⊢
 by_cases e : i = k
 ·subst e
  rw [if_pos rfl]
  refine ⟨?_,?_,?_,?_,?_⟩
  ·rw [set1_other (ne _ _ (by omega)),set1_other (ne _ _ (by omega))]; exact h0
  ·rw [set1_other (ne _ _ (by omega)),set1_other (ne _ _ (by omega))]; exact h1
  ·rw [set1_other (ne _ _ (by omega)),set1_other (ne _ _ (by omega))]; exact h2
  ·rw [set1_other (ne _ _ (by omega))]; exact set1_same h3
  ·exact set1_same (by rw [set1_other (ne _ _ (by omega))]; exact h4)
 ·rw [if_neg e]
  refine ⟨?_,?_,?_,?_,?_⟩ <;> (rw [set1_other (ne _ _ (by omega)),set1_other (ne _ _ (by omega))]; assumption)
def mixE (now : Int) (E : Nat → Req) (k i : Nat) : Req := if i < k then retE now (E i) else E i
theorem mixE_at (now : Int) (E : Nat → Req) (k : Nat) : mixE now E k k = E k := by simp [mixE]
theorem mixE_due {now : Int} {E : Nat → Req} {k : Nat} (h : (E k).du ≤ now) (i : Nat) : (if i = k then (⟨(mixE now E k k).z,(mixE now E k k).x,(mixE now E k k).y,now + 3,min ((E k).tr + 1) 99⟩ : Req) else mixE now E k i) = mixE now E (k + 1) i := by
 by_cases e : i = k
 ·subst e
  simp [mixE,retE,h]
 ·rw [if_neg e]
  unfold mixE
  by_cases h1 : i < k
  ·rw [if_pos h1,if_pos (by omega)]
  ·rw [if_neg h1,if_neg (by omega)]
theorem mixE_not {now : Int} {E : Nat → Req} {k : Nat} (h : ¬ (E k).du ≤ now) (i : Nat) : mixE now E k i = mixE now E (k + 1) i := by
 unfold mixE
 by_cases e : i = k
 ·subst e
  rw [if_neg (by omega),if_pos (by omega)]
  unfold retE
  rw [if_neg h]
 ·by_cases h1 : i < k
  ·rw [if_pos h1,if_pos (by omega)]
  ·rw [if_neg h1,if_neg (by omega)]
theorem l1Min_q (a b : Int) (w : World) : Calls Tryz.prog 67 #[.int .i64 a, .int .i64 b] w fun e w' => e = .returned (.int .i64 (min a b)) ∧ w = w' := by
 by_cases h : a < b
 ·have e : min a b = a := by omega
  rw [e]
  go_enter Tryz.func67,Tryz.ntmps67
  go_wp2
  go_ret
  exact ⟨rfl,rfl⟩
 ·have e : min a b = b := by omega
  rw [e]
  go_enter Tryz.func67,Tryz.ntmps67
  go_wp2
  go_ret
  exact ⟨rfl,rfl⟩
theorem l12Retry_any (ad : Addr) (n cap : Nat) (E : Nat → Req) (now : Int) (w : World) (hp : IsWs w (some ad) n E) (hn : n ≤ 8) (hnow : 0 ≤ now ∧ now ≤ 9000) (hT : ∀ j,j < n → 0 ≤ (E j).tr ∧ (E j).tr ≤ 99) :
  Calls Tryz.prog 32 #[.slice (some ad) n cap, .int .i64 now] w fun e w' => ∃ va vc v1,e = .returned (.tuple #[.slice va n vc,v1]) ∧ RowS w.heap.size w' v1 (sentL now E n) ∧ OwnW w' w.heap.size (.slice va n vc) n (fun j => retE now (E j)) ∧ Apart2 (sentL now E n).length n v1 (.slice va n vc) ∧ Below w.heap.size w w' := by
 obtain ⟨i1,ri,rz0,rz1,rz2⟩ := info_parts info_rf
 obtain ⟨n0,n1⟩ := hnow
 have HTR : Hid (∀ j,j < n → 0 ≤ (E j).tr ∧ (E j).tr ≤ 99) := hT
 have HC : Hid (Calls Tryz.prog 66 #[.slice (some ad) n cap] w fun e w' => ∃ v,e = .returned v ∧ RowW w.heap.size w' v (listW n E) ∧ Below w.heap.size w w') := l12Copy_any _ n cap E w hp (by omega) ⟨ad,rfl⟩
 clear hp hT
 go_enter Tryz.func32,Tryz.ntmps32
 go_wp2_with fail
 refine HC.out.mono ?_
 rintro e w1 ⟨v,rfl,hrow,hb1⟩
 obtain ⟨va,vc,hv⟩ := hrow.slice
 have hown := hrow.own
 rw [listW_len] at hv hown
 subst hv
 have HO1 : Hid (OwnW w1 w.heap.size (.slice va n vc) n (mixE now E 0)) := hown.same (fun i hi => by rw [listW_nw _ _ _ hi]; simp [mixE])
 have HGL : Hid (∀ p,va = some p → p.block < w1.heap.size) := fun p hp => hrow.lt p.block (by rw [hp]; rfl)
 have HB1 : Hid (Below w.heap.size w w1) := hb1
 have hs1 := hb1.size
 clear hrow hown hb1 HC
 go_wp2_with fail
 generalize hw2 : (w1.alloc _ : World) = w2
 have hb2 : Below w1.heap.size w1 w2 := by subst hw2; exact Qb
 have HR2 : Hid (RowS w1.heap.size w2 (.slice (some ⟨w1.heap.size,0,none⟩) 0 0) []) := by
  show World.ownsRow _ _ _ _ _ _ _
  subst hw2
  exact World.ownsRow_lit (base := w1.heap.size) (size := 3) w1 #[] 0 (Nat.le_refl _) (Nat.zero_le _) rfl
 have HO2 : Hid (OwnW w2 w.heap.size (.slice va n vc) n (mixE now E 0)) := HO1.out.below hb2
 have HB2 : Hid (Below w.heap.size w w2) := bl_then HB1.out hb2
 have HS2 : Hid (w1.heap.size ≤ w2.heap.size) := hb2.size
 clear hw2 hb2 HO1 HB1
 go_loopw [7,8] (fun v1 i wr => ∃ (k : Nat) (a1 : Option Addr) (c1 : Nat),k ≤ n ∧ i = .int .i64 (k : Int) ∧ v1 = .slice a1 (sentL now E k).length c1 ∧ RowS w1.heap.size wr v1 (sentL now E k) ∧ OwnW wr w.heap.size (.slice va n vc) n (mixE now E k) ∧ Below w.heap.size w wr ∧ w1.heap.size ≤ wr.heap.size) (fun _ i _ => n - (intOf i).toNat)
 case atStart => exact ⟨0,_,_,by omega,rfl,rfl,HR2.out,HO2.out,HB2.out,HS2.out⟩
 case round =>
  obtain ⟨k,a1,c1,hk,rfl,rfl,hR,hO,hB,hsr⟩ := hrel
  by_cases hlt : k < n
  ·obtain ⟨a',cap',hv,hcp,h0 | ⟨g,ha,hgb,hgl,hpt,hth⟩⟩ := hO
   ·omega
   injection hv with hv1 hv2 hv3
   subst hv1 hv3 ha
   have hg1 : g < w1.heap.size := HGL.out _ rfl
   obtain ⟨q0,q1,q2,q3,q4⟩ := hpt k hlt
   rw [mixE_at] at q0 q1 q2 q3 q4
   simp only [Nat.zero_add] at q0 q1 q2 q3 q4
   have HLT : Hid (k < n) := hlt
   have htr := HTR.out k hlt
   have HPT : Hid (WsAt wr g 0 n (mixE now E k)) := hpt
   have HTH : Hid (There wr g (n * 5)) := hth
   have HR : Hid (RowS w1.heap.size wr (.slice a1 (sentL now E k).length c1) (sentL now E k)) := hR
   have HB : Hid (Below w.heap.size w wr) := hB
   have HCP : Hid (n ≤ vc) := hcp
   have HLS : Hid ((sentL now E k).length ≤ k) := keptL_le _ _ _
   have hi' : (k : Int) < (n : Int) := by omega
   have hi0 : (0 : Int) ≤ (k : Int) := by omega
   clear hpt hth hR hB hcp
   by_cases hd : (E k).du ≤ now
   ·have HD : Hid ((E k).du ≤ now) := hd
    have HSL : Hid (sentL now E (k + 1) = sentL now E k ++ [E k]) := sentL_yes hd
    have HMX : Hid (∀ i,(if i = k then (⟨(mixE now E k k).z,(mixE now E k k).x,(mixE now E k k).y,now + 3,min ((E k).tr + 1) 99⟩ : Req) else mixE now E k i) = mixE now E (k + 1) i) := mixE_due hd
    have HMK : Hid (mixE now E k k = E k) := mixE_at now E k
    generalize sentL now E k = s at *
    generalize hF : mixE now E k = F at *
    obtain ⟨t0,t1⟩ := htr
    go_wp2_with (first
     | (at_builtin; go_must (refine wpList_append_own _ rfl _ _ 31 rfl w1.heap.size 97 i1 (.agg #[.int .i64 0, .int .i64 0, .int .i64 0]) 3 24 Tryz.underlying31 ri rz0 rz1 rz2 rfl (by decide) (.slice a1 s.length c1) s.length (cellsR (rfsOf s) s.length) rfl ?c0 ⟨wr.heap.size,0,none⟩ 1 1 [.int .i64 (E k).z, .int .i64 (E k).x, .int .i64 (E k).y] rfl rfl ?c1 ?c2 ?c3 ?c4 ?c5 ?_)))
    case c0 => exact World.ownsRow.alloc HR.out _
    case c2 => exact ⟨rfl,rfl,rfl⟩
    case c3 => unfold maxLen; have := HLS.out; omega
    case c4 => have := HLS.out; omega
    case c5 => first | omega | (simp; omega)
    intro v3 w9 hown3 hgrow3 hnil3
    have hrow3 : RowS w1.heap.size w9 v3 (s ++ [E k]) := by
     unfold RowS
     rw [List.length_append]
     show World.ownsRow _ _ _ _ _ (s.length + 1) (cellsR (rfsOf (s ++ [E k])) (s.length + 1))
     rw [cellsR_app]
     exact hown3
    obtain ⟨va3,vc3,hv3⟩ := hrow3.slice
    subst hv3
    have HR3 : Hid (RowS w1.heap.size w9 (.slice va3 (s ++ [E k]).length vc3) (s ++ [E k])) := hrow3
    have hgg : ∀ q,(Value.slice a1 s.length c1).ownBlock = some q → w1.heap.size ≤ q := fun q hq => HR.out.block q hq
    have hbg : w9.heap[g]? = (wr.alloc (.cells #[.int .i64 (E k).z, .int .i64 (E k).x, .int .i64 (E k).y] 97)).heap[g]? := hgrow3.block g (by simp; omega) (fun e => by have := hgg g e.symm; omega)
    have hbA : Below wr.heap.size wr (wr.alloc (.cells #[.int .i64 (E k).z, .int .i64 (E k).x, .int .i64 (E k).y] 97)) := by exact Qb
    have HT9 : Hid (There w9 g (n * 5)) := there_heap (HTH.out.below hbA) hbg
    have HP9 : Hid (WsAt w9 g 0 n F) := fun i hi => by
     obtain ⟨h0,h1,h2,h3,h4⟩ := (HPT.out.below hbA hgl) i hi
     exact ⟨(World.cell?_of_block (a := ⟨g,_,none⟩) hbg).trans h0,(World.cell?_of_block (a := ⟨g,_,none⟩) hbg).trans h1,(World.cell?_of_block (a := ⟨g,_,none⟩) hbg).trans h2,(World.cell?_of_block (a := ⟨g,_,none⟩) hbg).trans h3,(World.cell?_of_block (a := ⟨g,_,none⟩) hbg).trans h4⟩
    have HB9 : Hid (Below w.heap.size w w9) := (bl_then HB.out hbA).trans (below_rowR hgrow3 (fun q hq => by have := hgg q hq; omega) (by have := HB.out.size; simp; omega))
    have hs9 : w1.heap.size ≤ w9.heap.size := by have := hgrow3.size; simp at this; omega
    have hg9 : g < w9.heap.size := by omega
    obtain ⟨_,_,_,m3,m4⟩ := HP9.out k hlt
    rw [HMK.out] at m3 m4
    simp only [Nat.zero_add] at m3 m4
    have f3 := (HT9.out (k * 5 + 3) (by omega)).2
    have f4 := (HT9.out (k * 5 + 4) (by omega)).2
    have hm99 : min (99 : Int) ((E k).tr + 1) = min ((E k).tr + 1) 99 := by omega
    clear hown3 hgrow3 hnil3 hrow3 hgg hbg hbA q0 q1 q2 q3 q4
    go_wp2_with (go_at_call 67; refine (l1Min_q _ _ _).mono ?_; rintro e w' ⟨rfl,rfl⟩)
    refine ⟨⟨k + 1,va3,vc3,by have := HLT.out; omega,by go_num,by rw [HSL.out,List.length_append]; rfl,?_,⟨_,_,rfl,HCP.out, .inr ⟨g,rfl,hgb,by simp; exact hg9,?_,?_⟩⟩,?_,by simp; exact hs9⟩,by have := HLT.out; simp [intOf]; omega⟩
    ·rw [HSL.out]
     have h := HR3.out
     rw [List.length_append] at h
     exact ownsRow_setW (ownsRow_setW h hg1) hg1
    ·have h := HP9.out.put (d := now + 3) (t := min ((E k).tr + 1) 99) HT9.out hlt
     exact h.same (fun i _ => HMX.out i)
    ·exact set1_there (set1_there HT9.out)
    ·exact (HB9.out.setCell hgb _).setCell hgb _
   ·have HD : Hid (¬ (E k).du ≤ now) := hd
    have HSL : Hid (sentL now E (k + 1) = sentL now E k) := sentL_no hd
    go_wp2_with fail
    go_roundw
    case rel => exact ⟨k + 1,a1,c1,by have := HLT.out; omega,by go_num,by rw [HSL.out],by rw [HSL.out]; exact HR.out,⟨_,_,rfl,HCP.out, .inr ⟨g,rfl,hgb,hgl,HPT.out.same (fun i _ => mixE_not (by have := HD.out; omega) i),HTH.out⟩⟩,HB.out,hsr⟩
    case measure => have := HLT.out; simp [intOf]; omega
  ·obtain rfl : n = k := by omega
   have HR : Hid (RowS w1.heap.size wr (.slice a1 (sentL now E n).length c1) (sentL now E n)) := hR
   have HO : Hid (OwnW wr w.heap.size (.slice va n vc) n (mixE now E n)) := hO
   have HB : Hid (Below w.heap.size w wr) := hB
   clear hR hO hB
   go_wp2_with fail
   refine bodyPost_ret (v := .tuple #[.slice va n vc, .slice a1 (sentL now E n).length c1]) (by simp [results,Tryz.results32,go_sem]) rfl ⟨va,vc,_,rfl,ownsRow_wideW HR.out hs1,HO.out.same (fun i hi => by simp [mixE,hi]),?_,HB.out⟩
   intro p c p' c' e1 e2 he
   injection e1 with e1 _ _
   injection e2 with e2 _ _
   have h1 := HR.out.block p.block (by rw [e1]; rfl)
   have h2 := HGL.out p' e2
   omega
end Go.Proofs.YtiephlohemphjaaGreat
