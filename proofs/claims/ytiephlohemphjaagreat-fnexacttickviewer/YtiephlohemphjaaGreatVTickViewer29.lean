/- Texts. -/
import Derived.Test.YtiephlohemphjaaGreatVTickViewer28
set_option linter.unusedSimpArgs false
set_option linter.unusedVariables false
set_option maxRecDepth 100000
set_option maxHeartbeats 32000000
namespace Go.Proofs.YtiephlohemphjaaGreat
open Go.RowKit
def scell (z : Int) (s : Shp) : List Value := [.int .i64 s.id, .func (.func (byF s.ki)) #[] #[], .slice (some ⟨s.g, 0, none⟩) s.n s.cg, .int .i64 (reachI s.wi z)]
def cellsS (z : Int) (S : Nat → Shp) : Nat → List Value
 | 0 => []
 | k + 1 => cellsS z S k ++ scell z (S k)
theorem cellsS_len (z : Int) (S : Nat → Shp) : ∀ k, (cellsS z S k).length = k * 4
 | 0 => rfl
 | k + 1 => by rw [cellsS, List.length_append, cellsS_len z S k]; simp [scell]; omega
theorem cellsS_at (z : Int) (S : Nat → Shp) : ∀ (k i j : Nat), i < k → j < 4 → (cellsS z S k)[i * 4 + j]? = (scell z (S i))[j]?
 | k + 1, i, j, hi, hj => by
  rw [cellsS]
  by_cases e : i = k
  ·subst e
   rw [List.getElem?_append_right (by rw [cellsS_len]; omega), cellsS_len]
   congr 1
   omega
  ·rw [List.getElem?_append_left (by rw [cellsS_len]; omega)]
   exact cellsS_at z S k i j (by omega) hj
theorem cellsS_congr {z : Int} {S S' : Nat → Shp} : ∀ {k : Nat}, (∀ i, i < k → S i = S' i) → cellsS z S k = cellsS z S' k
 | 0, _ => rfl
 | k + 1, h => by rw [cellsS, cellsS, cellsS_congr (fun i hi => h i (by omega)), h k (by omega)]
def SRow (base : Nat) (w : World) (v : Value) (k : Nat) (z : Int) (S : Nat → Shp) : Prop := w.ownsRow base 225 4 v k (cellsS z S k)
def shpOf (s : Shp) (f : Feat) : Prop := s.id = f.id ∧ s.ki = f.ki ∧ s.wi = f.wi ∧ s.n = f.n ∧ s.X = f.X ∧ s.Y = f.Y
theorem SRow.src {base k : Nat} {w : World} {v : Value} {z : Int} {S : Nat → Shp} (h : SRow base w v k z S) (hk : k = 0 → v = .slice none 0 0) (hP : ∀ i, i < k → ShpP w w.heap.size (S i)) : SrcS w.heap.size w v k z S := by
 by_cases h0 : k = 0
 ·exact .inl ⟨hk h0, h0⟩
 ·obtain ⟨h1, h2 | ⟨g, cp, cur, hv, hg, hh, hkc, hcm, hcs, htk⟩⟩ := id h
  ·exact absurd h2.2 h0
  ·have hgl : g < w.heap.size := lt_of_heap hh
   subst hv
   have hrow : w.ownsRow base 225 4 (.slice (some ⟨g, 0, none⟩) k cp) k (cellsS z S k) := h
   refine .inr ⟨g, cp, rfl, hgl, fun i hi => ⟨?_, hP i hi⟩⟩
   have c : ∀ j, j < 4 → w.cell? ⟨g, i * 4 + j, none⟩ = (scell z (S i))[j]? := fun j hj => (hrow.cellAt _ (by omega)).trans (cellsS_at z S k i j hi hj)
   exact ⟨c 0 (by omega), c 1 (by omega), c 2 (by omega), c 3 (by omega)⟩
theorem SRow.not_pts {base k n g : Nat} {w : World} {v : Value} {z : Int} {S : Nat → Shp} {X Y : Nat → Int} (h : SRow base w v k z S) (hk : k = 0 → v = .slice none 0 0) (hp : PtsAt w g 0 n X Y) (hn : 0 < n) : some g ≠ v.ownBlock := by
 intro e
 by_cases h0 : k = 0
 ·rw [hk h0] at e; cases e
 ·obtain ⟨h1, h2 | ⟨g', cp, cur, hv, hg, hh, hkc, hcm, hcs, htk⟩⟩ := id h
  ·exact absurd h2.2 h0
  ·subst hv
   simp [Value.ownBlock] at e
   subst e
   have hrow : w.ownsRow base 225 4 (.slice (some ⟨g, 0, none⟩) k cp) k (cellsS z S k) := h
   have c1 := (hrow.cellAt 1 (by omega)).trans (cellsS_at z S k 0 1 (by omega) (by omega))
   have c2 := (hp 0 hn).2
   simp only [Nat.zero_mul, Nat.zero_add, Nat.mul_zero] at c2
   rw [c1] at c2
   simp [scell] at c2
theorem covS_same {z cx cy : Int} {S : Nat → Shp} {G : Nat → Feat} {n : Nat} (h : ∀ i, i < n → shpOf (S i) (G i)) : ∀ {k : Nat}, k ≤ n → paintI (covS z cx cy S) (fun i => (S i).id) k = paintI (fun i => covF z cx cy (G i)) (fun i => (G i).id) k
 | 0, _ => rfl
 | k + 1, hk => by
  obtain ⟨e1, e2, e3, e4, e5, e6⟩ := h k (by omega)
  have ec : covS z cx cy S k = covF z cx cy (G k) := by unfold covS covF; rw [e2, e3, e4, e5, e6]
  rw [paintI, paintI, ec, e1, covS_same h (by omega)]
theorem raster1_any (B4 B5 : Nat) (a : Option Addr) (n cap : Nat) (z x y : Int) (S : Nat → Shp) (G : Nat → Feat) (w : World) (h4 : w.cell? ⟨B4, 0, none⟩ = some (.int .i64 z)) (h5 : w.cell? ⟨B5, 0, none⟩ = some (.slice a n cap)) (hS : SrcS w.heap.size w (.slice a n cap) n z S) (hP : ∀ i, i < n → ShpP w w.heap.size (S i)) (hn : n ≤ 12) (hsh : ∀ i, i < n → shpOf (S i) (G i)) (hpx : pixB z x y = true) :
  Calls Tryz.prog 184 #[.int .i64 x, .int .i64 y, .pointer (some ⟨B5, 0, none⟩), .pointer (some ⟨B4, 0, none⟩)] w fun e w' => e = .returned (.int .i64 (paintF G n z x y)) ∧ Below w.heap.size w w' := by
 have hl4 := World.block_lt_of_cell? _ _ h4
 have hl5 := World.block_lt_of_cell? _ _ h5
 have HF : Hid (∀ W, Below w.heap.size w W → Calls Tryz.prog 185 #[.slice a n cap, .agg #[.int .i64 (centI z x), .int .i64 (centI z y)]] W fun e w' => e = .returned (.int .i64 (paintF G n z x y)) ∧ Below W.heap.size W w') := fun W hW => by
  have hS' : SrcS W.heap.size W (.slice a n cap) n z S := by
   rcases hS.below hW with h | ⟨p, c, e, h1, h2⟩
   ·exact .inl h
   ·exact .inr ⟨p, c, e, Nat.lt_of_lt_of_le h1 hW.size, fun i hi => ⟨(h2 i hi).1, Nat.lt_of_lt_of_le (h2 i hi).2.1 hW.size, (h2 i hi).2.2⟩⟩
  have hP' : ∀ i, i < n → ShpP W W.heap.size (S i) := fun i hi => ⟨Nat.lt_of_lt_of_le (hP i hi).1 hW.size, ((hP i hi).below hW).2⟩
  have := frontOf_any a n cap z (centI z x) (centI z y) S W hS' hP' (by omega)
  rw [covS_same hsh (Nat.le_refl n)] at this
  exact this
 have sC := fun w => impl_CentreOf_any z x y w
 rw [show centV z x y = .agg #[.int .i64 0, .int .i64 (centI z x), .int .i64 (centI z y)] by simp [centV, hpx]] at sC
 have c4 : ∀ W', Below w.heap.size w W' → W'.cell? ⟨B4, 0, none⟩ = some (.int .i64 z) := fun W' h => (h.cell (p := ⟨B4, 0, none⟩) hl4).trans h4
 have c5 : ∀ W', Below w.heap.size w W' → W'.cell? ⟨B5, 0, none⟩ = some (.slice a n cap) := fun W' h => (h.cell (p := ⟨B5, 0, none⟩) hl5).trans h5
 clear hS hP hsh hpx h4 h5
 generalize centI z x = cx at *
 generalize centI z y = cy at *
 generalize paintF G n z x y = pf at *
 have f1 : ∀ w, (Instr.field 232 (.agg #[.int .i64 0, .int .i64 cx, .int .i64 cy]) 1).run Tryz.prog w = .ok (.agg #[.int .i64 cx, .int .i64 cy]) w := fun _ => by kernel_rfl
 have hr : Below w.heap.size w w := Below.refl _ _
 go_enter Tryz.func184, Tryz.ntmps184
 go_wp2_with fail
 go_region_held3 (fun W' => Below w.heap.size w W') ((repeat (first|exact Qr _ _|assumption|refine Qd ?_|refine Qa ?_ _|refine Qt ?_|refine Qs ?_ _|refine Qo ?_ ?_ _ _)))
  (first
   | (go_at_call 186; refine (sC _).mono ?_; rintro e w1 ⟨rfl, hb⟩)
   | (go_at_call 185; refine (HF.out _ (by assumption)).mono ?_; rintro e w1 ⟨rfl, hb⟩)
   | fail)
 go_wp2
 go_ret
 exact ⟨rfl, by assumption⟩
theorem enter_rt1 (args : Array Value) (w : World) : (callFunc 184 args).run Tryz.prog w = .ok (.enter 184 args) w := by
 have h1 : (Tryz.f184).name ≠ "runtime.NumGoroutine" := by
  have : ((Tryz.f184).name == "runtime.NumGoroutine") = false := by kernel_rfl
  simpa using this
 have hb : ∃ c, (Tryz.f184).body = some c := ⟨_, rfl⟩
 obtain ⟨c, hb⟩ := hb
 simp [callFunc, Tryz.func184, h1, hb]
abbrev zeroSh : Array Value := #[.int .i64 0, .nilFunc, .slice none 0 0, .int .i64 0]
theorem info_sh : (Tryz.prog.info? 225).map (fun i => (i.zero,i.size,i.bytes)) = some (some (.agg zeroSh),4,48) := by kernel_rfl
def RtSt (V : World) (B5 : Nat) (z : Int) (G : Nat → Feat) (k : Nat) (S : Nat → Shp) (v : Value) (wr : World) : Prop :=
 SRow V.heap.size wr v k z S ∧ (k = 0 → v = .slice none 0 0) ∧ (∀ i,i < k → ShpP wr wr.heap.size (S i) ∧ shpOf (S i) (G i)) ∧ wr.cell? ⟨B5,0,none⟩ = some v ∧ There wr B5 1 ∧ Below B5 V wr ∧ V.heap.size ≤ wr.heap.size
theorem RtSt.put {V : World} {B5 : Nat} {z : Int} {G : Nat → Feat} {k : Nat} {S : Nat → Shp} {v : Value} {ua : Option Addr} {un uc : Nat} {w : World} (hO : SRow V.heap.size w v k z S) (hk : k = 0 → v = .slice none 0 0) (hP : ∀ i,i < k → ShpP w w.heap.size (S i) ∧ shpOf (S i) (G i))
  (h5 : w.cell? ⟨B5,0,none⟩ = some (.slice ua un uc)) (hT : There w B5 1) (hB : Below B5 V w) (hl : B5 < V.heap.size) (hs : V.heap.size ≤ w.heap.size) : RtSt V B5 z G k S v (w.setCell ⟨B5,0,none⟩ v) := by
 have hne : ∀ g : Nat,V.heap.size ≤ g → g ≠ B5 := fun g hg => by omega
 refine ⟨?_,hk,fun i hi => ?_,set1_same h5,?_,hB.setCell (Nat.le_refl _) _,by simpa using hs⟩
 ·exact ownsRow_of hO fun g hg => Below.heap_setCell _ _ _ _ (by have := (World.ownsRow.lt hO g hg).1; simp; omega)
 ·obtain ⟨⟨p1,p2,p3,p4,p5⟩,p6⟩ := hP i hi
  refine ⟨⟨by simpa using p1,p2,p3,p4,?_⟩,p6⟩
  by_cases e : (S i).g = B5
  ·exfalso
   have c0 := (p5 0 p2).1
   simp only [Nat.zero_mul,Nat.zero_add,Nat.mul_zero] at c0
   rw [e,h5] at c0
   cases c0
  ·intro j hj
   exact ⟨(set1_other (fun h => e (by injection h with h; exact h.symm))).trans (p5 j hj).1,(set1_other (fun h => e (by injection h with h; exact h.symm))).trans (p5 j hj).2⟩
 ·intro o ho
  obtain rfl : o = 0 := by omega
  exact ⟨⟨_,set1_same h5⟩,by rw [World.frozen?_setCell]; exact (hT 0 (by omega)).2⟩
theorem impl_RasterTile_any (z x y : Int) (b n cap : Nat) (G : Nat → Feat) (w : World) (hg : FsAt w b 0 n G) (hbl : b < w.heap.size) (hs : SmallFs n G) (hcap : n ≤ cap) :
  Calls Tryz.prog 153 #[.agg #[.int .i64 z, .int .i64 x, .int .i64 y, .slice (some ⟨b,0,none⟩) n cap]] w fun e w' => ∃ v,e = .returned (.agg #[.int .i64 (rtC z x y n G),v]) ∧ OwnN w' w.heap.size v (rtL z x y n G).length (nz (rtL z x y n G)) ∧ Below w.heap.size w w' := by
 have hmf : ∀ (fn : Fn) (first cap : Array Value) (w : World),(Instr.makeFunc fn first cap).run Tryz.prog w = .ok (.func fn first cap) w := fun _ _ _ _ => rfl
 obtain ⟨si,hsi,hs0,hs1,hs2⟩ := info_parts info_sh
 have HG : Hid (FsAt w b 0 n G) := hg
 have HS : Hid (SmallFs n G) := hs
 clear hg hs
 obtain ⟨rc,hrc⟩ : ∃ rc,refC z x y = rc := ⟨_,rfl⟩
 obtain ⟨fc,hfc⟩ : ∃ fc,featsC n G = fc := ⟨_,rfl⟩
 have HFF : Hid (∀ W',Below w.heap.size w W' → Calls Tryz.prog 180 #[.slice (some ⟨b,0,none⟩) n cap] W' fun e w' => e = .returned (.int .i64 fc) ∧ Below W'.heap.size W' w') := fun W' hW => hfc ▸ FeaturesFault_any b n cap G W' (HG.out.below hW hbl) (Nat.lt_of_lt_of_le hbl hW.size) HS.out hcap
 have HRF : Hid (∀ W',Calls Tryz.prog 139 #[.agg #[.int .i64 z, .int .i64 x, .int .i64 y]] W' fun e w' => e = .returned (.int .i64 rc) ∧ Below W'.heap.size W' w') := fun W' => hrc ▸ refFault_any z x y W'
 have HRC : Hid (refC z x y = rc) := hrc
 have HFC : Hid (featsC n G = fc) := hfc
 clear hrc hfc
 go_enter Tryz.func153,Tryz.ntmps153
 go_wp2_with fail
 generalize hW : ((w.alloc _).alloc _ : World) = W
 have HB0 : Hid (Below w.heap.size w W) := by show Below _ _ _; subst hW; exact Qb
 have HT : Hid (There W (w.heap.size + 1) 2) := by
  show There _ _ _
  subst hW
  have := there2t (w.alloc (.cells #[.int .i64 z, .int .i64 x, .int .i64 y, .slice (some ⟨b,0,none⟩) n cap] 147)) (.int .i64 0) (.slice none 0 0) 194
  simpa using this
 have HA : Hid (TileA W w.heap.size z x y (.slice (some ⟨b,0,none⟩) n cap)) := by
  show TileA _ _ _ _ _ _
  subst hW
  refine ⟨?_,?_,?_,?_⟩ <;> simp [go_sem]
 have HSZ : Hid (w.heap.size + 1 < W.heap.size) := by show _ < _; subst hW; simp
 have hlW : w.heap.size < W.heap.size := by subst hW; simp <;> omega
 clear hW
 have c0 : ∀ W',Below W.heap.size W W' → W'.cell? ⟨w.heap.size,0,none⟩ = some (.int .i64 z) := fun W' h => (HA.out.below h hlW).1
 have c1 : ∀ W',Below W.heap.size W W' → W'.cell? ⟨w.heap.size,1,none⟩ = some (.int .i64 x) := fun W' h => (HA.out.below h hlW).2.1
 have c2 : ∀ W',Below W.heap.size W W' → W'.cell? ⟨w.heap.size,2,none⟩ = some (.int .i64 y) := fun W' h => (HA.out.below h hlW).2.2.1
 have c3 : ∀ W',Below W.heap.size W W' → W'.cell? ⟨w.heap.size,3,none⟩ = some (.slice (some ⟨b,0,none⟩) n cap) := fun W' h => (HA.out.below h hlW).2.2.2
 refine wp_region_noPanic ?_
 refine wp_region_held_drew (S := fun W' => Below W.heap.size W W') (by kernel_rfl) (by exact Qb) (fun hHeld => ?_)
 have hX0 : Below W.heap.size W W.drew := hHeld
 refine takeK (i := 0) (d := some 8) (v := ?va0) rfl rfl (Or.inl ⟨by rfl,?hya0⟩) hX0 ?_
 case hya0 => (intro w hSw; (try dsimp only at hSw); go_simp <;> with_reducible rfl)
 try simp only [Act.put,Qx,Qy,Qz]
 refine takeK (i := 1) (d := some 9) (v := ?va1) rfl rfl (Or.inl ⟨by rfl,?hya1⟩) hX0 ?_
 case hya1 => (intro w hSw; (try dsimp only at hSw); go_simp <;> with_reducible rfl)
 try simp only [Act.put,Qx,Qy,Qz]
 refine takeK (i := 3) (d := some 11) (v := ?va3) rfl rfl (Or.inl ⟨by rfl,?hya3⟩) hX0 ?_
 case hya3 => (intro w hSw; (try dsimp only at hSw); go_simp <;> with_reducible rfl)
 try simp only [Act.put,Qx,Qy,Qz]
 refine takeK (i := 4) (d := some 12) (v := ?va4) rfl rfl (Or.inl ⟨by rfl,?hya4⟩) hX0 ?_
 case hya4 => (intro w hSw; (try dsimp only at hSw); go_simp <;> with_reducible rfl)
 try simp only [Act.put,Qx,Qy,Qz]
 refine wpAnyH_ready (rs := [2]) (by kernel_rfl) (by simp) ?_
 refine (AllReadyH.cons rfl (fun K hK => ?_) AllReadyH.nil)
 rw [if_pos (by rfl)]
 go_simp
 refine Calls.mono (HRF.out _) ?_
 rintro e w1 ⟨rfl,hb1⟩
 have hX1 : Below W.heap.size W w1 := bl_then hX0 hb1
 go_wp2_with fail
 refine hK.out _ _ hX1 (fun hHeld => ?_)
 clear hK K hb1
 try simp only [Act.put,Qx,Qy,Qz]
 refine wpAnyH_ready (rs := [5]) (by kernel_rfl) (by simp) ?_
 refine (AllReadyH.cons rfl (fun K hK => ?_) AllReadyH.nil)
 rw [if_pos (by rfl)]
 go_simp
 refine Calls.mono (HFF.out _ (bl_then HB0.out hX1)) ?_
 rintro e w2 ⟨rfl,hb2⟩
 have hX2 : Below W.heap.size W w2 := bl_then hX1 hb2
 go_wp2_with fail
 refine hK.out _ _ hX2 (fun hHeld => ?_)
 clear hK K hb2
 try simp only [Act.put,Qx,Qy,Qz]
 refine wpAnyH_ready (rs := [6]) (by kernel_rfl) (by simp) ?_
 refine (AllReadyH.cons rfl (fun K hK => ?_) AllReadyH.nil)
 rw [if_pos (by rfl)]
 go_simp
 generalize hwA : (World.alloc _ _ : World) = wA
 have hbA : Below w2.heap.size w2 wA := by subst hwA; exact Qb
 have g0 : wA.cell? ⟨w2.heap.size,0,none⟩ = some (.int .i64 rc) := by subst hwA; simp [go_sem]
 have g1 : wA.cell? ⟨w2.heap.size,1,none⟩ = some (.int .i64 fc) := by subst hwA; simp [go_sem]
 have hXA : Below W.heap.size W wA := bl_then hX2 hbA
 clear hwA hbA
 refine hK.out _ _ hXA (fun hHeld => ?_)
 clear hK K
 try simp only [Act.put,Qx,Qy,Qz]
 refine wpAnyH_ready (rs := [7]) (by kernel_rfl) (by simp) ?_
 refine (AllReadyH.cons rfl (fun K hK => ?_) AllReadyH.nil)
 rw [if_pos (by rfl)]
 go_simp
 refine (cmpOr2_any _ _ rc fc _ g0 g1).mono ?_
 rintro e w3 ⟨rfl,rfl⟩
 go_wp2_with fail
 refine hK.out _ _ hXA (fun hHeld => ?_)
 clear hK K g0 g1
 try simp only [Act.put,Qx,Qy,Qz]
 refine takeK (i := 8) (d := some 3) (v := ?vb8) rfl rfl (Or.inl ⟨by rfl,?hyb8⟩) hXA ?_
 case hyb8 => (intro w hSw; (try dsimp only at hSw); go_simp <;> with_reducible rfl)
 try simp only [Act.put,Qx,Qy,Qz]
 refine wpAnyH_done (by kernel_rfl) ?_ _
 refine NoPanic.normal ?_
 have HBA : Hid (Below w.heap.size w w3) := bl_then HB0.out hXA
 have hTA := HT.out.below hXA
 have HTA : Hid (There w3 (w.heap.size + 1) 2) := hTA
 have d0 := c0 w3 hXA
 have d1 := c1 w3 hXA
 have d2 := c2 w3 hXA
 have d3 := c3 w3 hXA
 have hlA : w.heap.size < w3.heap.size := Nat.lt_of_lt_of_le hlW hXA.size
 have hlA1 : w.heap.size + 1 < w3.heap.size := Nat.lt_of_lt_of_le HSZ.out hXA.size
 have HAA : Hid (TileA w3 w.heap.size z x y (.slice (some ⟨b,0,none⟩) n cap)) := HA.out.below hXA hlW
 by_cases hor : or2 rc fc = 0
 ·have hr0 : rc = 0 ∧ fc = 0 := by
   unfold or2 at hor
   by_cases h : rc = 0
   ·rw [if_pos h] at hor; exact ⟨h,hor⟩
   ·rw [if_neg h] at hor; exact absurd hor h
  obtain ⟨hn12,hok⟩ := feats_okF (HFC.out.trans hr0.2)
  have HOK : Hid (∀ i,i < n → OkF (G i)) := hok
  have hrf : refB z x y = true := by
   rcases refC_cases z x y with ⟨_,h⟩ | ⟨h,_⟩
   ·exact h
   ·rw [HRC.out,hr0.1] at h; omega
  have HRB : Hid (refB z x y = true) := hrf
  have hos : ordI n G = ordS n G := ord_same (featsC_ok (HFC.out.trans hr0.2)).2.1
  have HK : Hid (rtC z x y n G = if ordS n G = true then 0 else 1) := by
   show _ = _
   unfold rtC
   rw [if_pos (HRC.out.trans hr0.1),if_pos (HFC.out.trans hr0.2)]
  have HAO : Hid (Calls Tryz.prog 181 #[.slice (some ⟨b,0,none⟩) n cap] w3 fun e w' => e = .returned (.bool (ordS n G)) ∧ Below w3.heap.size w3 w') := hos ▸ areInOrder_any b n cap G w3 (HG.out.below HBA.out hbl) (Nat.lt_of_lt_of_le hbl HBA.out.size) HS.out.1
  rw [hor]
  clear hor hr0 hok hrf hos hTA c0 c1 c2 c3 hX0 hX1 hX2
  go_wp2_with fail
  refine Calls.mono HAO.out ?_
  rintro e wO ⟨rfl,hbO⟩
  have hTO := HTA.out.below hbO
  have HTO : Hid (There wO (w.heap.size + 1) 2) := hTO
  have HBO : Hid (Below w.heap.size w wO) := bl_then HBA.out hbO
  obtain ⟨o0,o1,o2,o3⟩ := HAA.out.below hbO hlA
  have HAO2 : Hid (TileA wO w.heap.size z x y (.slice (some ⟨b,0,none⟩) n cap)) := ⟨o0,o1,o2,o3⟩
  have hlO : w.heap.size < wO.heap.size := Nat.lt_of_lt_of_le hlA hbO.size
  have hlO1 : w.heap.size + 1 < wO.heap.size := Nat.lt_of_lt_of_le hlA1 hbO.size
  clear hbO HAO d0 d1 d2 d3
  cases ho : ordS n G
  ·have HQ : Hid (rtC z x y n G = 1) := by show _ = _; rw [HK.out,ho]; rfl
   have HL : Hid (rtL z x y n G = []) := if_neg (by rw [HQ.out]; omega)
   have t0 := hTO.cell 0 (by omega)
   have t1 := hTO.cell 1 (by omega)
   have f0 := (hTO 0 (by omega)).2
   have f1 := (hTO 1 (by omega)).2
   clear hTO
   go_wp2_with fail
   obtain ⟨q0,q1⟩ := set2t (a := .int .i64 1) (b := .slice none 0 0) HTO.out
   refine bodyPost_ret (v := .agg #[.int .i64 1, .slice none 0 0]) (by simp [results,Tryz.results153,go_sem,q0,q1]) rfl ⟨_,by rw [HQ.out],?_,?_⟩
   ·rw [HL.out]; exact ownN_none _ _
   ·exact (HBO.out.setCell (Nat.le_succ _) _).setCell (Nat.le_succ _) _
  ·have HQ : Hid (rtC z x y n G = 0) := by show _ = _; rw [HK.out,ho]; rfl
   have HL : Hid (rtL z x y n G = rasK (paintF G n z) (x * 8) (y * 8) 64) := if_pos HQ.out
   clear HK ho hTO
   go_wp2_with fail
   generalize hV : ((wO.alloc _).alloc _ : World) = V
   obtain ⟨B4,hB4⟩ : ∃ B4,B4 = wO.heap.size := ⟨_,rfl⟩
   obtain ⟨B5,hB5⟩ : ∃ B5,B5 = wO.heap.size + 1 := ⟨_,rfl⟩
   have hbV : Below wO.heap.size wO V := by subst hV; exact Qb
   have v4 : V.cell? ⟨B4,0,none⟩ = some (.int .i64 z) := by subst hV; rw [hB4]; simp [go_sem]
   have v5 : V.cell? ⟨B5,0,none⟩ = some (.slice none 0 0) := by subst hV; rw [hB5]; simp [go_sem]
   have HT5 : Hid (There V B5 1) := fun o ho => by
    obtain rfl : o = 0 := by omega
    exact ⟨⟨_,v5⟩,by subst hV; rw [hB5]; simp [go_sem]⟩
   have hszV : V.heap.size = wO.heap.size + 2 := by subst hV; simp
   clear hV
   rw [← hB5, ← hB4]
   have hl5 : B5 < V.heap.size := by omega
   have HSV : Hid (V.heap.size = B5 + 1 ∧ B4 < B5 ∧ wO.heap.size = B4) := by show _ ∧ _ ∧ _; omega
   have h45 : B4 < B5 := by omega
   have hO5 : wO.heap.size ≤ B5 := by omega
   have HAV : Hid (TileA V w.heap.size z x y (.slice (some ⟨b,0,none⟩) n cap)) := HAO2.out.below hbV hlO
   have HTV : Hid (There V (w.heap.size + 1) 2) := HTO.out.below hbV
   have HBV : Hid (Below w.heap.size w V) := bl_then HBO.out hbV
   have hb5 : w.heap.size + 1 < B5 := by omega
   obtain ⟨p0,p1,p2,p3⟩ := HAV.out
   clear hB4 hB5 hszV hbV o0 o1 o2 o3
   go_loopw [31] (fun i wr => ∃ (k : Nat) (S : Nat → Shp) (v : Value),k ≤ n ∧ i = .int .i64 (k : Int) ∧ RtSt V B5 z G k S v wr) (fun i _ => n - (intOf i).toNat)
   case atStart => exact ⟨0,fun _ => ⟨0,0,0,0,0,0,fun _ => 0,fun _ => 0⟩, .slice none 0 0,by omega,rfl,World.ownsRow_nil _ _ _ _,fun _ => rfl,fun i hi => absurd hi (Nat.not_lt_zero _),v5,HT5.out,Below.refl _ _,Nat.le_refl _⟩
   case round =>
   obtain ⟨k,S,v,hk,rfl,hO,hK0,hPS,h5,hT5,hB,hVr⟩ := hrel
   by_cases hlt : k < n
   ·have hOKk := HOK.out k hlt
    have hGr := HG.out.below (HBV.out.trans (hB.mono (by omega))) hbl
    obtain ⟨q,o,ea,hql,hpt⟩ := HG.out.pts hlt hOKk.n0
    have hf := (hGr k hlt).1
    rw [ea,Nat.zero_add] at hf
    obtain ⟨f0,f1,f2,f3,f4,f5,f6⟩ := hf
    have r4 := (hB.cell (p := ⟨B4,0,none⟩) h45).trans v4
    have hi1 : (k : Int) < (n : Int) := by omega
    have hi0 : (0 : Int) ≤ (k : Int) := by omega
    obtain ⟨va,vn,vc,hvs⟩ : ∃ va vn vc,v = .slice va vn vc := by
     obtain ⟨_,h2 | ⟨g,cp,cur,hv,_⟩⟩ := id hO
     ·exact ⟨_,_,_,h2.1⟩
     ·exact ⟨_,_,_,hv⟩
    subst hvs
    have HO0 : Hid (SRow V.heap.size wr (.slice va vn vc) k z S) := hO
    have HK0 : Hid (k = 0 → (Value.slice va vn vc) = .slice none 0 0) := hK0
    have HPS0 : Hid (∀ i,i < k → ShpP wr wr.heap.size (S i) ∧ shpOf (S i) (G i)) := hPS
    have HT50 : Hid (There wr B5 1) := hT5
    have HBr : Hid (Below B5 V wr) := hB
    have HPT : Hid (PtsAt w q o (G k).n (G k).X (G k).Y) := hpt
    have hlb := World.block_lt_of_cell? _ _ f0
    clear hO hK0 hPS hT5 hB hpt hGr
    go_wp2_with fail
    generalize hwF : (wr.alloc _ : World) = wF
    have hbF : Below wr.heap.size wr wF := by subst hwF; exact Qb
    have hFo : wF.heap[wr.heap.size]? = some (.cells #[.int .i64 (G k).id, .int .i64 (G k).la, .int .i64 (G k).ki, .int .i64 (G k).wi, .slice (some ⟨q,o,none⟩) (G k).n (G k).cap, .string (G k).lab, .int .i64 (G k).pr] 207 (0,0)) := by subst hwF; exact World.alloc_heap_new wr _
    clear hwF
    have hVF : V.heap.size ≤ wF.heap.size := Nat.le_trans hVr hbF.size
    have HFo := (show Hid (wF.heap[wr.heap.size]? = some (.cells #[.int .i64 (G k).id, .int .i64 (G k).la, .int .i64 (G k).ki, .int .i64 (G k).wi, .slice (some ⟨q,o,none⟩) (G k).n (G k).cap, .string (G k).lab, .int .i64 (G k).pr] 207 (0,0))) from hFo)
    have hlF : wr.heap.size < wF.heap.size := lt_of_heap hFo
    have HOF : Hid (SRow V.heap.size wF (.slice va vn vc) k z S) := ownsRow_of HO0.out fun g hg => hbF.block g (World.ownsRow.lt HO0.out g hg).2
    have HPF : Hid (∀ i,i < k → ShpP wF wF.heap.size (S i) ∧ shpOf (S i) (G i)) := fun i hi => ⟨⟨Nat.lt_of_lt_of_le (HPS0.out i hi).1.1 hbF.size,((HPS0.out i hi).1.below hbF).2⟩,(HPS0.out i hi).2⟩
    have HTF : Hid (There wF B5 1) := HT50.out.below hbF
    have HBF : Hid (Below B5 V wF) := HBr.out.trans (hbF.mono (by omega))
    have c5' : ∀ W',KS V.heap.size wr.heap.size wF W' → W'.cell? ⟨B5,0,none⟩ = some (.slice va vn vc) := fun W' h => (h.1.cell (p := ⟨B5,0,none⟩) hl5).trans ((hbF.cell (p := ⟨B5,0,none⟩) (by simp; omega)).trans h5)
    have q4' : ∀ W',KS V.heap.size wr.heap.size wF W' → W'.cell? ⟨B4,0,none⟩ = some (.int .i64 z) := fun W' h => (h.1.cell (p := ⟨B4,0,none⟩) (by simp; omega)).trans ((hbF.cell (p := ⟨B4,0,none⟩) (by simp; omega)).trans r4)
    have e0 : ∀ W',KS V.heap.size wr.heap.size wF W' → W'.cell? ⟨wr.heap.size,0,none⟩ = some (.int .i64 (G k).id) := fun W' h => by simp [World.cell?,h.2,HFo.out]
    have e1 : ∀ W',KS V.heap.size wr.heap.size wF W' → W'.cell? ⟨wr.heap.size,1,none⟩ = some (.int .i64 (G k).la) := fun W' h => by simp [World.cell?,h.2,HFo.out]
    have e2 : ∀ W',KS V.heap.size wr.heap.size wF W' → W'.cell? ⟨wr.heap.size,2,none⟩ = some (.int .i64 (G k).ki) := fun W' h => by simp [World.cell?,h.2,HFo.out]
    have e3 : ∀ W',KS V.heap.size wr.heap.size wF W' → W'.cell? ⟨wr.heap.size,3,none⟩ = some (.int .i64 (G k).wi) := fun W' h => by simp [World.cell?,h.2,HFo.out]
    have e4 : ∀ W',KS V.heap.size wr.heap.size wF W' → W'.cell? ⟨wr.heap.size,4,none⟩ = some (.slice (some ⟨q,o,none⟩) (G k).n (G k).cap) := fun W' h => by simp [World.cell?,h.2,HFo.out]
    have e5 : ∀ W',KS V.heap.size wr.heap.size wF W' → W'.cell? ⟨wr.heap.size,5,none⟩ = some (.string (G k).lab) := fun W' h => by simp [World.cell?,h.2,HFo.out]
    have e6 : ∀ W',KS V.heap.size wr.heap.size wF W' → W'.cell? ⟨wr.heap.size,6,none⟩ = some (.int .i64 (G k).pr) := fun W' h => by simp [World.cell?,h.2,HFo.out]
    have HBwF : Hid (Below w.heap.size w wF) := HBV.out.trans (HBF.out.mono (by omega))
    have hzz : zoomB z = true := by
     have := HRB.out
     simp [refB] at this
     exact this.1
    have HSh : Hid (∀ W',KS V.heap.size wr.heap.size wF W' → Calls Tryz.prog 182 #[.agg #[.int .i64 (G k).id, .int .i64 (G k).la, .int .i64 (G k).ki, .int .i64 (G k).wi, .slice (some ⟨q,o,none⟩) (G k).n (G k).cap, .string (G k).lab, .int .i64 (G k).pr], .int .i64 z] W' fun e w' => ∃ g cg,e = .returned (shapeV (G k).id (G k).ki (G k).wi z g (G k).n cg) ∧ g < w'.heap.size ∧ (G k).n ≤ cg ∧ PtsAt w' g 0 (G k).n (px (dblL (G k).X (G k).Y (G k).n)) (py (dblL (G k).X (G k).Y (G k).n)) ∧ Below W'.heap.size W' w') := fun W' h => by
     have hBW : Below w.heap.size w W' := HBwF.out.trans (h.1.mono (by have := HBV.out.size; omega))
     exact shapeOf_any (G k).id (G k).la (G k).ki (G k).wi z q (G k).n (G k).cap (G k).X (G k).Y (G k).lab (G k).pr W' (HPT.out.below hBW hql) (Nat.lt_of_lt_of_le hql hBW.size) hOKk.n0 (by have := hOKk.n12; omega) hOKk.inw hOKk.wid hzz
    clear f0 f1 f2 f3 f4 f5 f6 r4 hFo h5
    refine wp_region_noPanic ?_
    refine wp_region_L (S := fun W' => KS V.heap.size wr.heap.size wF W') (z := 6) (by kernel_rfl) ?_
    have hSd : KS V.heap.size wr.heap.size wF wF.drew := ⟨by (repeat (first|exact Qr _ _|assumption|refine Qd ?_|refine Qa ?_ _|refine Qt ?_|refine Qs ?_ _|refine Qo ?_ ?_ _ _)),rfl⟩
    refine wpAnyL_take (i := 0) (v := ?vc0) rfl (by kernel_rfl) (by kernel_rfl) (by kernel_rfl) (by kernel_rfl) (fun _ _ _ h => h) (Or.inl ⟨by rfl,?hyc0⟩) hSd ?_
    case hyc0 => (intro w hSw; (try dsimp only at hSw); go_simp <;> with_reducible rfl)
    try simp only [Act.put,Qx,Qy,Qz]
    refine wpAnyL_take (i := 1) (v := ?vc1) rfl (by kernel_rfl) (by kernel_rfl) (by kernel_rfl) (by kernel_rfl) (fun _ _ _ h => h) (Or.inl ⟨by rfl,?hyc1⟩) hSd ?_
    case hyc1 => (intro w hSw; (try dsimp only at hSw); go_simp <;> with_reducible rfl)
    try simp only [Act.put,Qx,Qy,Qz]
    refine wpAnyL_take (i := 2) (v := ?vc2) rfl (by kernel_rfl) (by kernel_rfl) (by kernel_rfl) (by kernel_rfl) (fun _ _ _ h => h) (Or.inl ⟨by rfl,?hyc2⟩) hSd ?_
    case hyc2 => (intro w hSw; (try dsimp only at hSw); go_simp <;> with_reducible rfl)
    try simp only [Act.put,Qx,Qy,Qz]
    refine wpAnyL_one (i := 3) (by kernel_rfl) rfl (fun K hK => ?_)
    go_simp
    refine Calls.mono (HSh.out _ hSd) ?_
    rintro e wB ⟨g,cg,rfl,hgl,hcg,hPg,hbB⟩
    have hdr : wF.drew.heap.size = wF.heap.size := rfl
    have hSB : KS V.heap.size wr.heap.size wF wB := ⟨hSd.1.trans (hbB.mono (by rw [hdr]; exact hVF)),(hbB.block wr.heap.size (by rw [hdr]; exact hlF)).trans rfl⟩
    have hFB : Below wF.heap.size wF wB := bl_then (show Below wF.heap.size wF wF.drew by (repeat (first|exact Qr _ _|assumption|refine Qd ?_|refine Qa ?_ _|refine Qt ?_|refine Qs ?_ _|refine Qo ?_ ?_ _ _))) hbB
    have HOB : Hid (SRow V.heap.size wB (.slice va vn vc) k z S) := ownsRow_of HOF.out fun g hg => hFB.block g (World.ownsRow.lt HOF.out g hg).2
    have hsB : V.heap.size ≤ wB.heap.size := Nat.le_trans hVF hFB.size
    go_wp2_with fail
    refine hK.out _ _ (fun _ => hSB) ?_
    clear hK K hbB hdr
    try simp only [Act.put,Qx,Qy,Qz]
    refine wpAnyL_one (i := 4) (by kernel_rfl) rfl (fun K hK => ?_)
    go_simp
    generalize hwA : (World.alloc _ _ : World) = wA
    have hbA : Below wB.heap.size wB wA := by subst hwA; exact Qb
    have a0 : wA.cell? ⟨wB.heap.size,0,none⟩ = some (.int .i64 (G k).id) := by subst hwA; simp [go_sem]
    have a1 : wA.cell? ⟨wB.heap.size,1,none⟩ = some (.func (.func (byF (G k).ki)) #[] #[]) := by subst hwA; simp [go_sem]
    have a2 : wA.cell? ⟨wB.heap.size,2,none⟩ = some (.slice (some ⟨g,0,none⟩) (G k).n cg) := by subst hwA; simp [go_sem]
    have a3 : wA.cell? ⟨wB.heap.size,3,none⟩ = some (.int .i64 (reachI (G k).wi z)) := by subst hwA; simp [go_sem]
    have hszA : wA.heap.size = wB.heap.size + 1 := by subst hwA; simp
    have HOA : Hid (wA.ownsRow V.heap.size 225 4 (.slice va vn vc) k (cellsS z S k)) := by subst hwA; exact World.ownsRow.alloc HOB.out _
    have hSA : KS V.heap.size wr.heap.size wF wA := ⟨hSB.1.trans (hbA.mono hsB),(hbA.block wr.heap.size (Nat.lt_of_lt_of_le hlF hFB.size)).trans hSB.2⟩
    have hFA : Below wF.heap.size wF wA := bl_then hFB hbA
    clear hwA
    refine hK.out _ _ (fun _ => hSA) ?_
    clear hK K
    try simp only [Act.put,Qx,Qy,Qz]
    refine wpAnyL_one (i := 5) (by kernel_rfl) rfl (fun K hK => ?_)
    refine step_append_own rfl (.tmp 35) (.tmp 39) 221 rfl V.heap.size 225 si (.agg zeroSh) 4 48 Tryz.underlying221 hsi hs0 hs1 hs2 rfl (by decide) (.slice va vn vc) k (cellsS z S k) rfl HOA.out ⟨wB.heap.size,0,none⟩ 1 1 [.int .i64 (G k).id, .func (.func (byF (G k).ki)) #[] #[], .slice (some ⟨g,0,none⟩) (G k).n cg, .int .i64 (reachI (G k).wi z)] rfl rfl ?c1 ?c2 ?c3 ?c4 ?c5 ?_
    case c1 =>
     intro q u hq
     match q,hq with
     | 0,hq => exact (Option.some.inj hq) ▸ a0
     | 1,hq => exact (Option.some.inj hq) ▸ a1
     | 2,hq => exact (Option.some.inj hq) ▸ a2
     | 3,hq => exact (Option.some.inj hq) ▸ a3
     | q + 4,hq => cases hq
    case c2 => intro u hu; simp at hu; rcases hu with rfl | rfl | rfl | rfl <;> rfl
    case c3 => unfold maxLen; omega
    case c4 => omega
    case c5 => first | omega | (simp; omega)
    intro v' w3' hown' hgrow hnil
    clear hnil
    have hBg : Below V.heap.size wA w3' := (Below.refl _ _).grown hgrow (by omega) (fun b hb => (World.ownsRow.lt HOA.out b hb).1)
    have hAo : wA.heap[wr.heap.size]? = some (.cells #[.int .i64 (G k).id, .int .i64 (G k).la, .int .i64 (G k).ki, .int .i64 (G k).wi, .slice (some ⟨q,o,none⟩) (G k).n (G k).cap, .string (G k).lab, .int .i64 (G k).pr] 207 (0,0)) := hSA.2.trans HFo.out
    have hB3 : KS V.heap.size wr.heap.size wF w3' := ⟨hSA.1.trans hBg,(hgrow.block wr.heap.size (lt_of_heap hAo) (fun e => by obtain ⟨cc,hcc⟩ := heap_of_row HOA.out wr.heap.size e.symm; rw [hAo] at hcc; injection hcc with hcc; injection hcc with _ hcc; exact absurd hcc (by decide))).trans hSA.2⟩
    obtain ⟨S',hS'⟩ : ∃ S' : Nat → Shp,S' = fun i => if i = k then ⟨(G k).id,(G k).ki,(G k).wi,g,(G k).n,cg,(G k).X,(G k).Y⟩ else S i := ⟨_,rfl⟩
    have HO4 : Hid (SRow V.heap.size w3' v' (k + 1) z S') := by
     show World.ownsRow _ _ _ _ _ _ _
     rw [cellsS,cellsS_congr (S' := S) (fun i hi => by rw [hS']; simp only; rw [if_neg (by omega)])]
     have e : S' k = ⟨(G k).id,(G k).ki,(G k).wi,g,(G k).n,cg,(G k).X,(G k).Y⟩ := by rw [hS']; exact if_pos rfl
     rw [e]
     exact hown'
    have HPS : Hid (∀ i,i < k + 1 → ShpP w3' w3'.heap.size (S' i) ∧ shpOf (S' i) (G i)) := fun i hi => by
     have keepP : ∀ s : Shp,ShpP wA wA.heap.size s → ShpP w3' w3'.heap.size s := fun s ⟨p1,p2,p3,p4,p5⟩ => by
      have hne : some s.g ≠ (Value.slice va vn vc).ownBlock := SRow.not_pts HOA.out HK0.out p5 p2
      refine ⟨Nat.lt_of_lt_of_le p1 hgrow.size,p2,p3,p4,fun j hj => ⟨?_,?_⟩⟩
      ·exact hgrow.cell (p5 j hj).1 (fun e => hne e)
      ·exact hgrow.cell (p5 j hj).2 (fun e => hne e)
     rw [hS']
     by_cases e : i = k
     ·subst e
      simp only [↓reduceIte]
      refine ⟨keepP _ ⟨Nat.lt_of_lt_of_le hgl hbA.size,hOKk.n0,Nat.le_trans hOKk.n12 (by decide),hcg,hPg.below hbA hgl⟩,rfl,rfl,rfl,rfl,rfl,rfl⟩
     ·simp only [if_neg e]
      obtain ⟨⟨p1,p2,p3,p4,p5⟩,p6⟩ := HPF.out i (by omega)
      exact ⟨keepP _ ⟨Nat.lt_of_lt_of_le p1 hFA.size,p2,p3,p4,p5.below hFA p1⟩,p6⟩
    have n5 := c5' _ hB3
    have HT5 : Hid (There w3' B5 1) := fun o ho => by
     obtain ⟨⟨x,hx⟩,hf⟩ := HTF.out o ho
     exact ⟨⟨x,(hB3.1.cell (p := ⟨B5,o,none⟩) hl5).trans hx⟩,(hB3.1.frozen (p := ⟨B5,o,none⟩) hl5).trans hf⟩
    have u5' := (HT5.out 0 (by omega)).2
    obtain ⟨ga,gc,rfl⟩ := ownsRow_succR hown'
    have hlo : ∀ b,(Value.slice ga (k + 1) gc).ownBlock = some b → V.heap.size ≤ b := fun b hb => (World.ownsRow.lt HO4.out b hb).1
    show K (Act.put _ (some 40) _) w3'
    refine hK.out _ _ (fun _ => hB3) ?_
    clear hK K hown' hgrow hBg hS'
    try simp only [Act.put,Qx,Qy,Qz]
    refine wpAnyL_one (i := 6) (by kernel_rfl) rfl (fun K hK => ?_)
    go_simp
    refine hK.out _ _ (fun h => absurd rfl h) ?_
    clear hK K
    try simp only [Act.put,Qx,Qy,Qz]
    refine wpAnyL_done (by kernel_rfl) ?_ _
    refine NoPanic.normal ?_
    have HB3 : Hid (Below B5 V w3') := HBF.out.trans (hB3.1.mono (Nat.le_of_lt hl5))
    have hVs : V.heap.size ≤ w3'.heap.size := Nat.le_trans hVF hB3.1.size
    clear hB3 hSA hSB hSd hbA a0 a1 a2 a3 hszA HOA hFA hFB HOB HSh c5' q4' e0 e1 e2 e3 e4 e5 e6 hAo
    go_wp2_with fail
    go_roundw
    case rel =>
     have hne : ∀ j : Nat,V.heap.size ≤ j → j ≠ B5 := fun j hj => by omega
     refine ⟨k + 1,S', .slice ga (k + 1) gc,by omega,by go_num,RtSt.put HO4.out (fun h => by omega) HPS.out n5 HT5.out HB3.out hl5 hVs⟩
    case measure => simp [intOf]; omega
   ·obtain rfl : k = n := by omega
    have HPS : Hid (∀ i,i < k → ShpP wr wr.heap.size (S i) ∧ shpOf (S i) (G i)) := hPS
    have hSrc := hO.src hK0 (fun i hi => (hPS i hi).1)
    obtain ⟨va,vn,vc,hvs⟩ : ∃ va vn vc,v = .slice va vn vc := by
     rcases hSrc with h | ⟨p,c,e,_⟩
     ·exact ⟨_,_,_,h.1⟩
     ·exact ⟨_,_,_,e⟩
    subst hvs
    have hvn : vn = k := by
     rcases hSrc with ⟨h1,h2⟩ | ⟨p,c,e,_⟩
     ·injection h1 with _ h1; omega
     ·injection e with _ e
    subst hvn
    have HSR : Hid (SrcS wr.heap.size wr (.slice va vn vc) vn z S) := hSrc
    have r4 := (hB.cell (p := ⟨B4,0,none⟩) h45).trans v4
    have hBVw := hB.mono (show w.heap.size + 1 + 1 ≤ B5 by omega)
    have HBr : Hid (Below w.heap.size w wr) := HBV.out.trans (hB.mono (by omega))
    obtain ⟨g0,g1,g2,g3⟩ := HAV.out.below hBVw (by omega)
    have HTr : Hid (There wr (w.heap.size + 1) 2) := fun o ho => by
     obtain ⟨⟨x,hx⟩,hf⟩ := HTV.out o ho
     exact ⟨⟨x,(hBVw.cell (p := ⟨w.heap.size + 1,o,none⟩) (by simp)).trans hx⟩,(hBVw.frozen (p := ⟨w.heap.size + 1,o,none⟩) (by simp)).trans hf⟩
    have hsr : w.heap.size + 1 < wr.heap.size := by omega
    have HRS : Hid (Calls Tryz.prog 183 #[refV z x y, .func (.func 184) #[] #[.pointer (some ⟨B5,0,none⟩), .pointer (some ⟨B4,0,none⟩)]] wr fun e w' => ∃ v,e = .returned v ∧ RowN wr.heap.size w' v (rowsL (paintF G vn z) (x * 8) (y * 8) 8 8) ∧ Below wr.heap.size wr w') :=
     raster_any 184 _ z x y (paintF G vn z) wr HRB.out enter_rt1 (fun W' c r hW hc hr => by
      have hl4 : B4 < wr.heap.size := by omega
      have hl5r : B5 < wr.heap.size := by omega
      exact raster1_any B4 B5 va vn vc z _ _ S G W' ((hW.cell (p := ⟨B4,0,none⟩) hl4).trans r4) ((hW.cell (p := ⟨B5,0,none⟩) hl5r).trans h5)
       (by
        rcases HSR.out.below hW with h | ⟨p,c,e,h1,h2⟩
        ·exact .inl h
        ·exact .inr ⟨p,c,e,Nat.lt_of_lt_of_le h1 hW.size,fun i hi => ⟨(h2 i hi).1,Nat.lt_of_lt_of_le (h2 i hi).2.1 hW.size,(h2 i hi).2.2⟩⟩)
       (fun i hi => ⟨Nat.lt_of_lt_of_le (HPS.out i hi).1.1 hW.size,((HPS.out i hi).1.below hW).2⟩) hn12 (fun i hi => (HPS.out i hi).2) (pix_of_ref HRB.out c r hc hr))
    rw [rasK_64] at HRS
    clear hO hK0 hPS hT5 hSrc hBVw hB r4 h5 v4 v5
    go_wp2_with fail
    refine Calls.mono HRS.out ?_
    rintro e w9 ⟨v9,rfl,hR9,hb9⟩
    have HR9 : Hid (RowN wr.heap.size w9 v9 (rasK (paintF G vn z) (x * 8) (y * 8) 64)) := hR9
    have hT9 := HTr.out.below hb9
    have HT9 : Hid (There w9 (w.heap.size + 1) 2) := hT9
    have HB9 : Hid (Below w.heap.size w w9) := bl_then HBr.out hb9
    have t0 := hT9.cell 0 (by omega)
    have t1 := hT9.cell 1 (by omega)
    have f0 := (hT9 0 (by omega)).2
    have f1 := (hT9 1 (by omega)).2
    obtain ⟨xa,xn,xc,hxs⟩ : ∃ xa xn xc,v9 = .slice xa xn xc := by
     obtain ⟨a',c',e',_,_⟩ := hR9.own
     exact ⟨_,_,_,e'⟩
    subst hxs
    clear hR9 hb9 hT9
    go_wp2_with fail
    obtain ⟨q0,q1⟩ := set2t (a := .int .i64 0) (b := .slice xa xn xc) HT9.out
    refine bodyPost_ret (v := .agg #[.int .i64 0, .slice xa xn xc]) (by simp [results,Tryz.results153,go_sem,q0,q1]) rfl ⟨_,by rw [HQ.out],?_,?_⟩
    ·rw [HL.out]
     exact (((HR9.out.other hsr).other hsr).wide (by omega)).own
    ·exact (HB9.out.setCell (Nat.le_succ _) _).setCell (Nat.le_succ _) _
 ·have HQ : Hid (rtC z x y n G = or2 rc fc) := by
   show _ = _
   unfold rtC or2
   rw [HRC.out,HFC.out]
   by_cases h : rc = 0
   ·rw [if_pos h,if_pos h]
    by_cases h2 : fc = 0
    ·exfalso; apply hor; unfold or2; rw [if_pos h]; exact h2
    ·rw [if_neg h2]
   ·rw [if_neg h,if_neg h]
  have HL : Hid (rtL z x y n G = []) := if_neg (by rw [HQ.out]; exact hor)
  have hcb : (or2 rc fc == 0) = false := by simpa using hor
  have t0 := hTA.cell 0 (by omega)
  have t1 := hTA.cell 1 (by omega)
  have f0 := (hTA 0 (by omega)).2
  have f1 := (hTA 1 (by omega)).2
  generalize or2 rc fc = oc at *
  clear hor hTA c0 c1 c2 c3
  go_wp2_with fail
  obtain ⟨q0,q1⟩ := set2t (a := .int .i64 oc) (b := .slice none 0 0) HTA.out
  refine bodyPost_ret (v := .agg #[.int .i64 oc, .slice none 0 0]) (by simp [results,Tryz.results153,go_sem,q0,q1]) rfl ⟨_,by rw [HQ.out],?_,?_⟩
  ·rw [HL.out]; exact ownN_none _ _
  ·exact (HBA.out.setCell (Nat.le_succ _) _).setCell (Nat.le_succ _) _
theorem heldKeptS_any (g n cap k0 : Nat) (R : Nat → Kp) (M : Nat → Nat) (w : World) (hW : KsM w g n R M k0) (hs : SmallKs n R) (h0 : 0 < k0) (hk0 : k0 ≤ 1000000000) :
  Calls Tryz.prog 132 #[.slice (some ⟨g,0,none⟩) n cap, .int .i64 (k0 : Int)] w fun e w' => e = .returned (.int .i64 ((kK R k0 n : Nat) : Int)) ∧ Below w.heap.size w w' := by
 have HS : Hid (SmallKs n R) := hs
 have hn : n ≤ 1048576 := hs.1
 have HW : Hid (KsM w g n R M k0) := hW
 clear hs hW
 go_enter Tryz.func132,Tryz.ntmps132
 go_wp2_with fail
 go_loopw [1,5] (fun kk i wr => ∃ j K : Nat,j ≤ n ∧ Hid (K = kK R k0 j) ∧ kk = .int .i64 (K : Int) ∧ i = .int .i64 (j : Int) ∧ Below w.heap.size w wr) (fun _ i _ => n - (intOf i).toNat)
 case atStart => exact ⟨0,k0,by omega,rfl,rfl,rfl,Below.refl _ _⟩
 case round =>
  obtain ⟨j,K,hj,HK,rfl,rfl,hB⟩ := hrel
  have HB : Hid (Below w.heap.size w wr) := hB
  by_cases hlt : j < n
  ·have hKb : K ≤ 2400000000000000000 := by have := HK.out; have := (kK_small HS.out hk0 (j := j) (by omega)).2; omega
   have hK0 : 0 < K := by have := HK.out; have := (kK_small HS.out hk0 (j := j) (by omega)).1; omega
   have hsm := HS.out.2 j hlt
   have hWr := HW.out.below hB
   obtain ⟨_,hS2,hR3,md,m1,m2,m3,m4,m5⟩ := hWr.2.2 j hlt
   rw [← HK.out] at hR3 m4 m5
   obtain ⟨c0,c1,c2⟩ := hR3
   obtain ⟨c3,c4⟩ := hS2
   have hi : (j : Int) < (n : Int) := by omega
   have hi0 : (0 : Int) ≤ (j : Int) := by omega
   have e3 : (K : Int) + 1 + 1 + 1 = ((K + 3 : Nat) : Int) := by omega
   have e2 : (K : Int) + 1 + 1 = ((K + 2 : Nat) : Int) := by omega
   have e1 : (K : Int) + 1 = ((K + 1 : Nat) : Int) := by omega
   rw [← e1] at c1
   rw [← e2] at c2
   have E := (show Hid _ from e3)
   clear e1 e2 e3
   have HF : Hid (∀ W,Below wr.heap.size wr W → Calls Tryz.prog 168 #[.slice (R j).fa (R j).fn (R j).fc, .int .i64 ((K + 3 : Nat) : Int)] W fun e w' => e = .returned (.int .i64 ((kS (ptN (R j)) (K + 3) (R j).fn : Nat) : Int)) ∧ Below W.heap.size W w') := fun W h =>
    heldFsK_any (M j) md _ _ _ (K + 3) _ _ W (m4.mid (MidB.of_below (lo := md) (hi := md) h) (.inr (Nat.le_refl _))) (by have := h.size; omega) hsm.1.1 (fun i hi => (hsm.1.2 i hi).1) (by omega) (by omega)
   have HI : Hid (∀ W,Below wr.heap.size wr W → Calls Tryz.prog 169 #[.slice (R j).ia (R j).m (R j).ic, .int .i64 ((kS (ptN (R j)) (K + 3) (R j).fn : Nat) : Int)] W fun e w' => e = .returned (.int .i64 ((kS (ptN (R j)) (K + 3) (R j).fn + (R j).m : Nat) : Int)) ∧ Below W.heap.size W w') := fun W h => by
    refine (heldInt64S_any (R j).ia (R j).m (R j).ic (kS (ptN (R j)) (K + 3) (R j).fn) W ?_ hsm.2 (by have := (kS_small (k := K + 3) hsm).2; omega)).mono ?_
    ·rcases m5 with h0 | ⟨ib,e,a,b,c⟩
     ·exact .inl h0
     ·exact .inr ⟨ib,0,e,by have := h.size; omega,c.below h (by omega)⟩
    ·rintro e w' ⟨rfl,hw⟩
     exact ⟨rfl,by first | exact hw | (subst hw; exact Below.refl _ _)⟩
   have HSS : Hid (kS (ptN (R j)) (K + 3) (R j).fn ≤ 6000000000000000000) := by show _ ≤ _; have := (kS_small (k := K + 3) hsm).2; omega
   have HNx : Hid (kS (ptN (R j)) (K + 3) (R j).fn + (R j).m = kK R k0 (j + 1)) := by show _ = _; rw [kK, ← HK.out]; rfl
   have hm2 : (R j).m ≤ 1048576 := hsm.2
   clear hWr m3 m4 m5 m1 m2 hsm hB
   go_wp2_with fail
   rw [E.out]
   refine (HF.out _ (Below.refl _ _)).mono ?_
   rintro e w5 ⟨rfl,hb5⟩
   have HB5 : Hid (Below wr.heap.size wr w5) := hb5
   have d4 := bl_cellN hb5 c4
   have hSS := HSS.out
   have HI5 := (show Hid _ from HI.out w5 hb5)
   clear hb5 c0 c1 c2 c3 c4 HF HI HSS
   generalize kS (ptN (R j)) (K + 3) (R j).fn = Q at *
   go_wp2_with fail
   refine Calls.mono HI5.out ?_
   rintro e w6 ⟨rfl,hb6⟩
   have HB6 : Hid (Below w.heap.size w w6) := bl_then HB.out (bl_then HB5.out hb6)
   clear hb6 HI5 d4 HB5
   generalize hm : (R j).m = mm at *
   have hq0 : ¬ (((Q + mm : Nat) : Int) < 0) := by omega
   go_wp2_with fail
   go_roundw
   case rel => exact ⟨j + 1,Q + mm,by omega,by show _ = _; exact HNx.out,rfl,by go_num,HB6.out⟩
   case measure => simp [intOf]; omega
  ·go_wp2
   go_ret
   have hjn : j = n := by omega
   subst hjn
   exact ⟨ret_int (by have := HK.out; omega),HB.out⟩
end Go.Proofs.YtiephlohemphjaaGreat
