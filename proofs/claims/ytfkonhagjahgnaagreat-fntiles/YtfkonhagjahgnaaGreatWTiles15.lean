/- Texts. -/
import Derived.Test.YtfkonhagjahgnaaGreatWTiles11
import Derived.Test.YtfkonhagjahgnaaGreatWTiles1
import Derived.Test.YtfkonhagjahgnaaGreatWTiles10
import Derived.Deep.RegionHeld3
import Derived.Deep.OwnRows
import Derived.Deep.LoopGhost
import Derived.Laws.OwnMore
import Derived.Test.YtfkonhagjahgnaaGreatWTiles9
import Derived.Deep.DeepMust
import Derived.Deep.DeepCutAuto
set_option linter.unusedSimpArgs false
set_option linter.unusedVariables false
set_option maxRecDepth 100000
set_option maxHeartbeats 32000000
namespace Go.Proofs.YtfkonhagjahgnaaGreat
open Go.RowKit
def lastI (z : Int) : Int := if z = 0 then 0 else if z = 1 then 1 else if z = 2 then 3 else 7
def refB (z x y : Int) : Bool := zoomB z && (inB x 0 (lastI z) && inB y 0 (lastI z))
def refC (z x y : Int) : Int := if refB z x y = true then 0 else 3
theorem refC_cases (z x y : Int) : (refC z x y = 0 ∧ refB z x y = true) ∨ (refC z x y = 3 ∧ refB z x y = false) := by
 unfold refC
 cases h : refB z x y <;> simp
theorem refFault_any (z x y : Int) (w : World) : Calls Tryz.prog 17 #[.agg #[.int .i64 z, .int .i64 x, .int .i64 y]] w fun e w' => e = .returned (.int .i64 (refC z x y)) ∧ Below w.heap.size w w' := by
 cases h : zoomB z
 ·have hk : Hid (refC z x y = 3) := by show _ = _; simp [refC,refB,h]
  go_enter Tryz.func17,Tryz.ntmps17
  go_wp2_with (first | (go_at_call 41; refine (isZoom_any _ _).mono ?_; rintro e w' ⟨rfl,rfl⟩) | (go_at_call 42; refine (isWithin_any _ _ _ _).mono ?_; rintro e w' ⟨rfl,rfl⟩))
  go_ret
  exact ⟨ret_int hk.out.symm,by (repeat (first|exact Qr _ _|assumption|refine Qd ?_|refine Qa ?_ _|refine Qt ?_|refine Qs ?_ _|refine Qo ?_ ?_ _ _))⟩
 ·have hk : Hid (refC z x y = if (inB x 0 (lastI z) && inB y 0 (lastI z)) = true then 0 else 3) := by show _ = _; simp [refC,refB,h]
  rcases zoomB_cases h with rfl | rfl | rfl | rfl
  ·simp only [show lastI 0 = 0 from rfl] at hk
   cases hx : inB x 0 0 <;> cases hy : inB y 0 0
   all_goals
    rw [hx,hy] at hk
    go_enter Tryz.func17,Tryz.ntmps17
    go_wp2_with (first | (go_at_call 41; refine (isZoom_any _ _).mono ?_; rintro e w' ⟨rfl,rfl⟩) | (go_at_call 42; refine (isWithin_any _ _ _ _).mono ?_; rintro e w' ⟨rfl,rfl⟩))
    all_goals (go_ret; exact ⟨ret_int (by rw [hk.out]; rfl),by (repeat (first|exact Qr _ _|assumption|refine Qd ?_|refine Qa ?_ _|refine Qt ?_|refine Qs ?_ _|refine Qo ?_ ?_ _ _))⟩)
  ·simp only [show lastI 1 = 1 from rfl] at hk
   cases hx : inB x 0 1 <;> cases hy : inB y 0 1
   all_goals
    rw [hx,hy] at hk
    go_enter Tryz.func17,Tryz.ntmps17
    go_wp2_with (first | (go_at_call 41; refine (isZoom_any _ _).mono ?_; rintro e w' ⟨rfl,rfl⟩) | (go_at_call 42; refine (isWithin_any _ _ _ _).mono ?_; rintro e w' ⟨rfl,rfl⟩))
    all_goals (go_ret; exact ⟨ret_int (by rw [hk.out]; rfl),by (repeat (first|exact Qr _ _|assumption|refine Qd ?_|refine Qa ?_ _|refine Qt ?_|refine Qs ?_ _|refine Qo ?_ ?_ _ _))⟩)
  ·simp only [show lastI 2 = 3 from rfl] at hk
   cases hx : inB x 0 3 <;> cases hy : inB y 0 3
   all_goals
    rw [hx,hy] at hk
    go_enter Tryz.func17,Tryz.ntmps17
    go_wp2_with (first | (go_at_call 41; refine (isZoom_any _ _).mono ?_; rintro e w' ⟨rfl,rfl⟩) | (go_at_call 42; refine (isWithin_any _ _ _ _).mono ?_; rintro e w' ⟨rfl,rfl⟩))
    all_goals (go_ret; exact ⟨ret_int (by rw [hk.out]; rfl),by (repeat (first|exact Qr _ _|assumption|refine Qd ?_|refine Qa ?_ _|refine Qt ?_|refine Qs ?_ _|refine Qo ?_ ?_ _ _))⟩)
  ·simp only [show lastI 3 = 7 from rfl] at hk
   cases hx : inB x 0 7 <;> cases hy : inB y 0 7
   all_goals
    rw [hx,hy] at hk
    go_enter Tryz.func17,Tryz.ntmps17
    go_wp2_with (first | (go_at_call 41; refine (isZoom_any _ _).mono ?_; rintro e w' ⟨rfl,rfl⟩) | (go_at_call 42; refine (isWithin_any _ _ _ _).mono ?_; rintro e w' ⟨rfl,rfl⟩))
    all_goals (go_ret; exact ⟨ret_int (by rw [hk.out]; rfl),by (repeat (first|exact Qr _ _|assumption|refine Qd ?_|refine Qa ?_ _|refine Qt ?_|refine Qs ?_ _|refine Qo ?_ ?_ _ _))⟩)
theorem l7Fault_any (z x y : Int) (w : World) : Calls Tryz.prog 22 #[.agg #[.int .i64 z, .int .i64 x, .int .i64 y]] w fun e w' => e = .returned (.int .i64 (refC z x y)) ∧ Below w.heap.size w w' := by
 cases h : zoomB z
 ·have hk : Hid (refC z x y = 3) := by show _ = _; simp [refC,refB,h]
  go_enter Tryz.func22,Tryz.ntmps22
  go_wp2_with (first | (go_at_call 50; refine (l3Zoom_any _ _).mono ?_; rintro e w' ⟨rfl,rfl⟩) | (go_at_call 51; refine (l1In_any _ _ _ _).mono ?_; rintro e w' ⟨rfl,rfl⟩))
  go_ret
  exact ⟨ret_int hk.out.symm,by (repeat (first|exact Qr _ _|assumption|refine Qd ?_|refine Qa ?_ _|refine Qt ?_|refine Qs ?_ _|refine Qo ?_ ?_ _ _))⟩
 ·have hk : Hid (refC z x y = if (inB x 0 (lastI z) && inB y 0 (lastI z)) = true then 0 else 3) := by show _ = _; simp [refC,refB,h]
  rcases zoomB_cases h with rfl | rfl | rfl | rfl
  ·simp only [show lastI 0 = 0 from rfl] at hk
   cases hx : inB x 0 0 <;> cases hy : inB y 0 0
   all_goals
    rw [hx,hy] at hk
    go_enter Tryz.func22,Tryz.ntmps22
    go_wp2_with (first | (go_at_call 50; refine (l3Zoom_any _ _).mono ?_; rintro e w' ⟨rfl,rfl⟩) | (go_at_call 51; refine (l1In_any _ _ _ _).mono ?_; rintro e w' ⟨rfl,rfl⟩))
    all_goals (go_ret; exact ⟨ret_int (by rw [hk.out]; rfl),by (repeat (first|exact Qr _ _|assumption|refine Qd ?_|refine Qa ?_ _|refine Qt ?_|refine Qs ?_ _|refine Qo ?_ ?_ _ _))⟩)
  ·simp only [show lastI 1 = 1 from rfl] at hk
   cases hx : inB x 0 1 <;> cases hy : inB y 0 1
   all_goals
    rw [hx,hy] at hk
    go_enter Tryz.func22,Tryz.ntmps22
    go_wp2_with (first | (go_at_call 50; refine (l3Zoom_any _ _).mono ?_; rintro e w' ⟨rfl,rfl⟩) | (go_at_call 51; refine (l1In_any _ _ _ _).mono ?_; rintro e w' ⟨rfl,rfl⟩))
    all_goals (go_ret; exact ⟨ret_int (by rw [hk.out]; rfl),by (repeat (first|exact Qr _ _|assumption|refine Qd ?_|refine Qa ?_ _|refine Qt ?_|refine Qs ?_ _|refine Qo ?_ ?_ _ _))⟩)
  ·simp only [show lastI 2 = 3 from rfl] at hk
   cases hx : inB x 0 3 <;> cases hy : inB y 0 3
   all_goals
    rw [hx,hy] at hk
    go_enter Tryz.func22,Tryz.ntmps22
    go_wp2_with (first | (go_at_call 50; refine (l3Zoom_any _ _).mono ?_; rintro e w' ⟨rfl,rfl⟩) | (go_at_call 51; refine (l1In_any _ _ _ _).mono ?_; rintro e w' ⟨rfl,rfl⟩))
    all_goals (go_ret; exact ⟨ret_int (by rw [hk.out]; rfl),by (repeat (first|exact Qr _ _|assumption|refine Qd ?_|refine Qa ?_ _|refine Qt ?_|refine Qs ?_ _|refine Qo ?_ ?_ _ _))⟩)
  ·simp only [show lastI 3 = 7 from rfl] at hk
   cases hx : inB x 0 7 <;> cases hy : inB y 0 7
   all_goals
    rw [hx,hy] at hk
    go_enter Tryz.func22,Tryz.ntmps22
    go_wp2_with (first | (go_at_call 50; refine (l3Zoom_any _ _).mono ?_; rintro e w' ⟨rfl,rfl⟩) | (go_at_call 51; refine (l1In_any _ _ _ _).mono ?_; rintro e w' ⟨rfl,rfl⟩))
    all_goals (go_ret; exact ⟨ret_int (by rw [hk.out]; rfl),by (repeat (first|exact Qr _ _|assumption|refine Qd ?_|refine Qa ?_ _|refine Qt ?_|refine Qs ?_ _|refine Qo ?_ ?_ _ _))⟩)
abbrev refV (z x y : Int) : Value := .agg #[.int .i64 z, .int .i64 x, .int .i64 y]
theorem there3r (V : World) (a b c : Value) (t : TypeId) : There (V.alloc (.cells #[a,b,c] t)) V.heap.size 3 := fun o ho => by
 have : o = 0 ∨ o = 1 ∨ o = 2 := by omega
 rcases this with rfl | rfl | rfl <;> exact ⟨⟨_,by simp [go_sem]; rfl⟩,by simp [go_sem]⟩
theorem point_any (x y : Int) (w : World) : Calls Tryz.prog 159 #[.agg #[.int .i64 x, .int .i64 y]] w fun e w' => e = .returned (.agg #[.int .i64 x, .int .i64 y]) ∧ Below w.heap.size w w' := by
 go_enter Tryz.func159,Tryz.ntmps159
 go_wp2
 exact bodyPost_ret (v := .agg #[.int .i64 x, .int .i64 y]) (by simp [results,Tryz.results159,go_sem]) rfl ⟨rfl,by (repeat (first|exact Qr _ _|assumption|refine Qd ?_|refine Qa ?_ _|refine Qt ?_|refine Qs ?_ _|refine Qo ?_ ?_ _ _))⟩
theorem min_is (x A : Int) : (if x < A then x else A) = mnI A x := by unfold mnI; split <;> split <;> omega
theorem max_is (x C : Int) : (if C < x then x else C) = mxI C x := by unfold mxI; split <;> split <;> omega
theorem mn_min (A x : Int) : mnI A x = min A x := by unfold mnI; split <;> omega
theorem mx_max (C x : Int) : mxI C x = max C x := by unfold mxI; split <;> omega
theorem two_blocks {W : World} {L i : Nat} {u v x y : Value} (h0 : W.cell? ⟨L,i,none⟩ = some x) (h1 : W.cell? ⟨L + 1,i,none⟩ = some y) :
  ((W.setCell ⟨L,i,none⟩ u).setCell ⟨L + 1,i,none⟩ v).cell? ⟨L,i,none⟩ = some u ∧ ((W.setCell ⟨L,i,none⟩ u).setCell ⟨L + 1,i,none⟩ v).cell? ⟨L + 1,i,none⟩ = some v := by
 have n1 : (⟨L + 1,i,none⟩ : Addr) ≠ ⟨L,i,none⟩ := fun h => by injection h with h; omega
 have n2 : (⟨L,i,none⟩ : Addr) ≠ ⟨L + 1,i,none⟩ := fun h => n1 h.symm
 refine ⟨?_,?_⟩
 ·rw [set1_other n1]; exact set1_same h0
 ·exact set1_same (by rw [set1_other n2]; exact h1)
theorem two_blocks_other {W : World} {L i j : Nat} {u v : Value} (hij : i ≠ j) :
  ((W.setCell ⟨L,i,none⟩ u).setCell ⟨L + 1,i,none⟩ v).cell? ⟨L,j,none⟩ = W.cell? ⟨L,j,none⟩ ∧ ((W.setCell ⟨L,i,none⟩ u).setCell ⟨L + 1,i,none⟩ v).cell? ⟨L + 1,j,none⟩ = W.cell? ⟨L + 1,j,none⟩ := by
 have n1 : ∀ b c : Nat,(⟨b,i,none⟩ : Addr) ≠ ⟨c,j,none⟩ := fun b c h => hij (by injection h)
 exact ⟨set2_other (n1 _ _) (n1 _ _),set2_other (n1 _ _) (n1 _ _)⟩
structure FinS (w : World) (L : Nat) (a b c d : Int) (W' : World) : Prop where
 bel : Below w.heap.size w W'
 there : There W' w.heap.size 5
 lt : w.heap.size < L
 p0 : W'.cell? ⟨L,0,none⟩ = some (.int .i64 a)
 p1 : W'.cell? ⟨L,1,none⟩ = some (.int .i64 b)
 p2 : W'.cell? ⟨L + 1,0,none⟩ = some (.int .i64 c)
 p3 : W'.cell? ⟨L + 1,1,none⟩ = some (.int .i64 d)
theorem FinS.drew {w W' : World} {L : Nat} {a b c d : Int} (h : FinS w L a b c d W') : FinS w L a b c d W'.drew := ⟨h.bel.drew,h.there,h.lt,h.p0,h.p1,h.p2,h.p3⟩
theorem FinS.call {w W' w' : World} {L : Nat} {a b c d : Int} (h : FinS w L a b c d W') (hb : Below W'.heap.size W' w') : FinS w L a b c d w' :=
 ⟨bl_then h.bel hb,h.there.below hb,h.lt,(hb.cell (p := ⟨L,0,none⟩) (World.block_lt_of_cell? _ _ h.p0)).trans h.p0,(hb.cell (p := ⟨L,1,none⟩) (World.block_lt_of_cell? _ _ h.p1)).trans h.p1,
  (hb.cell (p := ⟨L + 1,0,none⟩) (World.block_lt_of_cell? _ _ h.p2)).trans h.p2,(hb.cell (p := ⟨L + 1,1,none⟩) (World.block_lt_of_cell? _ _ h.p3)).trans h.p3⟩
theorem FinS.set {w W' : World} {L : Nat} {a b c d : Int} (h : FinS w L a b c d W') (o : Nat) (v : Value) : FinS w L a b c d (W'.setCell ⟨w.heap.size,o,none⟩ v) := by
 have hlt := h.lt
 have ne : ∀ k o',w.heap.size < k → (⟨w.heap.size,o,none⟩ : Addr) ≠ ⟨k,o',none⟩ := fun k o' hk e => by injection e with e; omega
 refine ⟨h.bel.setCell (Nat.le_refl _) v,fun o' ho => ?_,hlt,?_,?_,?_,?_⟩
 ·obtain ⟨u,hu⟩ := (h.there o' ho).1
  refine ⟨?_,by rw [World.frozen?_setCell]; exact (h.there o' ho).2⟩
  by_cases e : o = o'
  ·subst e; exact ⟨v,set1_same hu⟩
  ·exact ⟨u,by rw [set1_other (fun hc => e (by injection hc))]; exact hu⟩
 ·rw [set1_other (ne _ _ hlt)]; exact h.p0
 ·rw [set1_other (ne _ _ hlt)]; exact h.p1
 ·rw [set1_other (ne _ _ (by omega))]; exact h.p2
 ·rw [set1_other (ne _ _ (by omega))]; exact h.p3
theorem impl_BoxOf_ok (b n cap : Nat) (X Y : Nat → Int) (w : World) (hpt : PtsAt w b 0 n X Y) (hbl : b < w.heap.size) (hcap : n ≤ cap) (hn : 0 < n) (h40 : n ≤ 40) (hall : allOk n X Y = true) :
  Calls Tryz.prog 131 #[.slice (some ⟨b,0,none⟩) n cap] w fun e w' => e = .returned (boxV n X Y) ∧ Below w.heap.size w w' := by
 have HQ : Hid (PtsAt w b 0 n X Y) := hpt
 have HV : Hid (boxV n X Y = .agg #[.int .i64 0, .int .i64 (mnTo X n), .int .i64 (mnTo Y n), .int .i64 (mxTo X n), .int .i64 (mxTo Y n)]) := by show _ = _; simp [boxV,hall]
 have hN : codeN n X Y = 0 := by simp [codeN,hall]
 clear hpt hall
 have h0 : ((n : Int) == 0) = false := by simp; omega
 have hn40 : ¬ (40 : Int) < (n : Int) := by omega
 have hnp : (0 : Int) < (n : Int) := by omega
 go_enter Tryz.func131,Tryz.ntmps131
 go_wp2_with fail
 generalize hW : (w.alloc _ : World) = W
 have hB0 : Below w.heap.size w W := by subst hW; (repeat (first|exact Qr _ _|assumption|refine Qd ?_|refine Qa ?_ _|refine Qt ?_|refine Qs ?_ _|refine Qo ?_ ?_ _ _))
 have hT0 : There W w.heap.size 5 := fun o ho => by
  subst hW
  have hc : o = 0 ∨ o = 1 ∨ o = 2 ∨ o = 3 ∨ o = 4 := by omega
  rcases hc with rfl | rfl | rfl | rfl | rfl <;> exact ⟨⟨_,by simp [go_sem]; rfl⟩,by simp [go_sem]⟩
 clear hW
 have HQ1 : Hid (PtsAt W b 0 n X Y) := HQ.out.below hB0 hbl
 have hblW : b < W.heap.size := Nat.lt_of_lt_of_le hbl hB0.size
 have HT0 : Hid (There W w.heap.size 5) := hT0
 have HB0 : Hid (Below w.heap.size w W) := hB0
 clear hT0 hB0
 refine (faultIn_any _ _ _ _ X Y _ HQ1.out hblW hcap (by omega)).mono ?_
 rintro e w1 ⟨rfl,hb1⟩
 obtain ⟨hx,hy⟩ := (HQ1.out.below hb1 hblW) 0 hn
 simp at hx hy
 go_wp2_with fail
 refine (pairOf_any _ _ _).mono ?_
 rintro e w2 ⟨rfl,hb2⟩
 have hB2 := bl_then hb1 hb2
 have HQ2 : Hid (PtsAt w2 b 0 n X Y) := HQ1.out.below hB2 hblW
 have hbl2 : b < w2.heap.size := Nat.lt_of_lt_of_le hblW hB2.size
 have HT2 : Hid (There w2 w.heap.size 5) := HT0.out.below hB2
 have HB2 : Hid (Below w.heap.size w w2) := bl_then HB0.out hB2
 clear hx hy hb1 hb2 hB2 HQ1 HT0 HB0 hN
 go_wp2
 go_loopw [31] (fun i wr => ∃ k : Nat,k ≤ n ∧ i = .int .i64 k ∧ Below w2.heap.size w2 wr ∧ wr.cell? ⟨w2.heap.size,0,none⟩ = some (.int .i64 (mnTo X k)) ∧ wr.cell? ⟨w2.heap.size,1,none⟩ = some (.int .i64 (mnTo Y k)) ∧ wr.cell? ⟨w2.heap.size + 1,0,none⟩ = some (.int .i64 (mxTo X k)) ∧ wr.cell? ⟨w2.heap.size + 1,1,none⟩ = some (.int .i64 (mxTo Y k)) ∧ (∀ o,wr.frozen? ⟨w2.heap.size,o,none⟩ = false) ∧ (∀ o,wr.frozen? ⟨w2.heap.size + 1,o,none⟩ = false)) (fun i _ => n - (intOf i).toNat)
 case atStart => exact ⟨0,by omega,rfl,by (repeat (first|exact Qr _ _|assumption|refine Qd ?_|refine Qa ?_ _|refine Qt ?_|refine Qs ?_ _|refine Qo ?_ ?_ _ _)),by simp [go_sem,mnTo],by simp [go_sem,mnTo],by simp [go_sem,mxTo],by simp [go_sem,mxTo],fun o => by simp [go_sem],fun o => by simp [go_sem]⟩
 case round =>
  obtain ⟨k,hk,rfl,hB,o0,o1,o2,o3,fz,fy⟩ := hrel
  by_cases hlt : k < n
  ·obtain ⟨hx,hy⟩ := (HQ2.out.below hB hbl2) k hlt
   simp only [Nat.zero_add] at hx hy
   have hi : (k : Int) < (n : Int) := by omega
   have KA : Hid (mnTo X (k + 1) = mnI (mnTo X k) (X k)) := rfl
   have KA' : Hid (mnTo Y (k + 1) = mnI (mnTo Y k) (Y k)) := rfl
   have KC : Hid (mxTo X (k + 1) = mxI (mxTo X k) (X k)) := rfl
   have KC' : Hid (mxTo Y (k + 1) = mxI (mxTo Y k) (Y k)) := rfl
   have hl1 : w2.heap.size + 1 < wr.heap.size := World.block_lt_of_cell? _ _ o2
   generalize mnTo X k = A at *
   generalize mnTo Y k = A' at *
   generalize mxTo X k = C at *
   generalize mxTo Y k = C' at *
   generalize X k = x at *
   generalize Y k = y at *
   have HB : Hid (Below w2.heap.size w2 wr) := hB
   have O0 : Hid (wr.cell? ⟨w2.heap.size,0,none⟩ = some (.int .i64 A)) := o0
   have O1 : Hid (wr.cell? ⟨w2.heap.size,1,none⟩ = some (.int .i64 A')) := o1
   have O2 : Hid (wr.cell? ⟨w2.heap.size + 1,0,none⟩ = some (.int .i64 C)) := o2
   have O3 : Hid (wr.cell? ⟨w2.heap.size + 1,1,none⟩ = some (.int .i64 C')) := o3
   have FZ : Hid (∀ o,wr.frozen? ⟨w2.heap.size,o,none⟩ = false) := fz
   have FY : Hid (∀ o,wr.frozen? ⟨w2.heap.size + 1,o,none⟩ = false) := fy
   clear hB o0 o1 o2 o3 fz fy
   go_wp2_with fail
   refine (pairOf_any _ _ _).mono ?_
   rintro e w3 ⟨rfl,hb3⟩
   have hB3 : Below wr.heap.size wr w3 := by (repeat (first|exact Qr _ _|assumption|refine Qd ?_|refine Qa ?_ _|refine Qt ?_|refine Qs ?_ _|refine Qo ?_ ?_ _ _))
   have o0 : w3.cell? ⟨w2.heap.size,0,none⟩ = some (.int .i64 A) := (hB3.cell (p := ⟨w2.heap.size,0,none⟩) (by show w2.heap.size < _; omega)).trans O0.out
   have o1 : w3.cell? ⟨w2.heap.size,1,none⟩ = some (.int .i64 A') := (hB3.cell (p := ⟨w2.heap.size,1,none⟩) (by show w2.heap.size < _; omega)).trans O1.out
   have o2 : w3.cell? ⟨w2.heap.size + 1,0,none⟩ = some (.int .i64 C) := (hB3.cell (p := ⟨w2.heap.size + 1,0,none⟩) hl1).trans O2.out
   have o3 : w3.cell? ⟨w2.heap.size + 1,1,none⟩ = some (.int .i64 C') := (hB3.cell (p := ⟨w2.heap.size + 1,1,none⟩) hl1).trans O3.out
   have fz : ∀ o,w3.frozen? ⟨w2.heap.size,o,none⟩ = false := fun o => (hB3.frozen (p := ⟨w2.heap.size,o,none⟩) (by show w2.heap.size < _; omega)).trans (FZ.out o)
   have fy : ∀ o,w3.frozen? ⟨w2.heap.size + 1,o,none⟩ = false := fun o => (hB3.frozen (p := ⟨w2.heap.size + 1,o,none⟩) hl1).trans (FY.out o)
   have HB3 : Hid (Below w2.heap.size w2 w3) := bl_then HB.out hB3
   clear hb3 hB3 O0 O1 O2 O3 FZ FY HB hx hy
   have i0 : ∀ w,(Instr.index 204 (.agg #[.int .i64 x, .int .i64 y]) (.int .i64 0)).run Tryz.prog w = .ok (.int .i64 x) w := fun _ => by kernel_rfl
   have i1 : ∀ w,(Instr.index 204 (.agg #[.int .i64 x, .int .i64 y]) (.int .i64 1)).run Tryz.prog w = .ok (.int .i64 y) w := fun _ => by kernel_rfl
   go_wp2
   go_loopw [37] (fun i wq => ∃ j : Nat,j ≤ 2 ∧ i = .int .i64 j ∧ Below w2.heap.size w2 wq ∧ wq.cell? ⟨w2.heap.size,0,none⟩ = some (.int .i64 (if 1 ≤ j then mnI A x else A)) ∧ wq.cell? ⟨w2.heap.size,1,none⟩ = some (.int .i64 (if 2 ≤ j then mnI A' y else A')) ∧ wq.cell? ⟨w2.heap.size + 1,0,none⟩ = some (.int .i64 (if 1 ≤ j then mxI C x else C)) ∧ wq.cell? ⟨w2.heap.size + 1,1,none⟩ = some (.int .i64 (if 2 ≤ j then mxI C' y else C')) ∧ (∀ o,wq.frozen? ⟨w2.heap.size,o,none⟩ = false) ∧ (∀ o,wq.frozen? ⟨w2.heap.size + 1,o,none⟩ = false)) (fun i _ => 2 - (intOf i).toNat)
   case atStart => exact ⟨0,by omega,rfl,HB3.out,o0,o1,o2,o3,fz,fy⟩
   case round =>
    obtain ⟨j,hj,rfl,hBq,p0,p1,p2,p3,gz,gy⟩ := hrel
    clear o0 o1 o2 o3 fz fy
    have hc : j = 0 ∨ j = 1 ∨ j = 2 := by omega
    rcases hc with rfl | rfl | rfl
    ·simp at p0 p1 p2 p3
     have HBq : Hid (Below w2.heap.size w2 wr) := hBq
     have z0 := gz 0
     have z1 := gy 0
     have GZ : Hid (∀ o,wr.frozen? ⟨w2.heap.size,o,none⟩ = false) := gz
     have GY : Hid (∀ o,wr.frozen? ⟨w2.heap.size + 1,o,none⟩ = false) := gy
     have TB := two_blocks (L := w2.heap.size) (i := 0) (u := .int .i64 (if x < A then x else A)) (v := .int .i64 (if C < x then x else C)) p0 p2
     have TO := two_blocks_other (W := wr) (L := w2.heap.size) (i := 0) (j := 1) (u := .int .i64 (if x < A then x else A)) (v := .int .i64 (if C < x then x else C)) (by omega)
     rw [p1,p3] at TO
     have HTB := (show Hid _ from TB)
     have HTO := (show Hid _ from TO)
     clear hBq gz gy TB TO
     have hne : ¬ w2.heap.size = w2.heap.size + 1 := by omega
     go_wp2
     go_roundw
     case rel =>
      refine ⟨1,by omega,rfl,(HBq.out.setCell (Nat.le_refl _) _).setCell (Nat.le_succ _) _,?_,?_,?_,?_,fun o => ?_,fun o => ?_⟩
      ·first | simpa [min_is,max_is] using HTB.out.1 | simpa [min_is,max_is,mn_min,mx_max] using HTB.out.1
      ·first | simpa [min_is,max_is] using HTO.out.1 | simpa [min_is,max_is,mn_min,mx_max] using HTO.out.1
      ·first | simpa [min_is,max_is] using HTB.out.2 | simpa [min_is,max_is,mn_min,mx_max] using HTB.out.2
      ·first | simpa [min_is,max_is] using HTO.out.2 | simpa [min_is,max_is,mn_min,mx_max] using HTO.out.2
      ·rw [World.frozen?_setCell,World.frozen?_setCell]; exact GZ.out o
      ·rw [World.frozen?_setCell,World.frozen?_setCell]; exact GY.out o
     case measure => simp [intOf]
    ·simp at p0 p1 p2 p3
     have HBq : Hid (Below w2.heap.size w2 wr) := hBq
     have z0 := gz 1
     have z1 := gy 1
     have GZ : Hid (∀ o,wr.frozen? ⟨w2.heap.size,o,none⟩ = false) := gz
     have GY : Hid (∀ o,wr.frozen? ⟨w2.heap.size + 1,o,none⟩ = false) := gy
     have TB := two_blocks (L := w2.heap.size) (i := 1) (u := .int .i64 (if y < A' then y else A')) (v := .int .i64 (if C' < y then y else C')) p1 p3
     have TO := two_blocks_other (W := wr) (L := w2.heap.size) (i := 1) (j := 0) (u := .int .i64 (if y < A' then y else A')) (v := .int .i64 (if C' < y then y else C')) (by omega)
     rw [p0,p2] at TO
     have HTB := (show Hid _ from TB)
     have HTO := (show Hid _ from TO)
     clear hBq gz gy TB TO
     have hne : ¬ w2.heap.size = w2.heap.size + 1 := by omega
     go_wp2
     go_roundw
     case rel =>
      refine ⟨2,by omega,rfl,(HBq.out.setCell (Nat.le_refl _) _).setCell (Nat.le_succ _) _,?_,?_,?_,?_,fun o => ?_,fun o => ?_⟩
      ·first | simpa [min_is,max_is] using HTO.out.1 | simpa [min_is,max_is,mn_min,mx_max] using HTO.out.1
      ·first | simpa [min_is,max_is] using HTB.out.1 | simpa [min_is,max_is,mn_min,mx_max] using HTB.out.1
      ·first | simpa [min_is,max_is] using HTO.out.2 | simpa [min_is,max_is,mn_min,mx_max] using HTO.out.2
      ·first | simpa [min_is,max_is] using HTB.out.2 | simpa [min_is,max_is,mn_min,mx_max] using HTB.out.2
      ·rw [World.frozen?_setCell,World.frozen?_setCell]; exact GZ.out o
      ·rw [World.frozen?_setCell,World.frozen?_setCell]; exact GY.out o
     case measure => simp [intOf]
    ·simp at p0 p1 p2 p3
     have HBq : Hid (Below w2.heap.size w2 wr) := hBq
     have P0 : Hid (wr.cell? ⟨w2.heap.size,0,none⟩ = some (.int .i64 (mnI A x))) := p0
     have P1 : Hid (wr.cell? ⟨w2.heap.size,1,none⟩ = some (.int .i64 (mnI A' y))) := p1
     have P2 : Hid (wr.cell? ⟨w2.heap.size + 1,0,none⟩ = some (.int .i64 (mxI C x))) := p2
     have P3 : Hid (wr.cell? ⟨w2.heap.size + 1,1,none⟩ = some (.int .i64 (mxI C' y))) := p3
     have GZ : Hid (∀ o,wr.frozen? ⟨w2.heap.size,o,none⟩ = false) := gz
     have GY : Hid (∀ o,wr.frozen? ⟨w2.heap.size + 1,o,none⟩ = false) := gy
     clear hBq p0 p1 p2 p3 gz gy
     go_wp2
     go_roundw
     case rel => exact ⟨k + 1,by omega,by go_num,HBq.out,by rw [KA.out]; exact P0.out,by rw [KA'.out]; exact P1.out,by rw [KC.out]; exact P2.out,by rw [KC'.out]; exact P3.out,GZ.out,GY.out⟩
     case measure => simp [intOf]; omega
  ·have hkn : k = n := by omega
   subst hkn
   have hl1 : w2.heap.size + 1 < wr.heap.size := World.block_lt_of_cell? _ _ o2
   have HT : Hid (There wr w.heap.size 5) := fun o ho => by
    obtain ⟨u,hu⟩ := (HT2.out o ho).1
    have hl := World.block_lt_of_cell? _ _ hu
    exact ⟨⟨u,(hB.cell (p := ⟨w.heap.size,o,none⟩) hl).trans hu⟩,(hB.frozen (p := ⟨w.heap.size,o,none⟩) hl).trans (HT2.out o ho).2⟩
   have hwl : w.heap.size < w2.heap.size := by
    obtain ⟨u,hu⟩ := (HT2.out 0 (by omega)).1
    exact World.block_lt_of_cell? _ _ hu
   have HB : Hid (Below w.heap.size w wr) := bl_then HB2.out hB
   have hF : FinS w w2.heap.size (mnTo X k) (mnTo Y k) (mxTo X k) (mxTo Y k) wr := ⟨HB.out,HT.out,hwl,o0,o1,o2,o3⟩
   have l0 : ∀ W',FinS w w2.heap.size (mnTo X k) (mnTo Y k) (mxTo X k) (mxTo Y k) W' → W'.cell? ⟨w2.heap.size,0,none⟩ = some (.int .i64 (mnTo X k)) := fun W' h => h.p0
   have l1 : ∀ W',FinS w w2.heap.size (mnTo X k) (mnTo Y k) (mxTo X k) (mxTo Y k) W' → W'.cell? ⟨w2.heap.size,1,none⟩ = some (.int .i64 (mnTo Y k)) := fun W' h => h.p1
   have l2 : ∀ W',FinS w w2.heap.size (mnTo X k) (mnTo Y k) (mxTo X k) (mxTo Y k) W' → W'.cell? ⟨w2.heap.size + 1,0,none⟩ = some (.int .i64 (mxTo X k)) := fun W' h => h.p2
   have l3 : ∀ W',FinS w w2.heap.size (mnTo X k) (mnTo Y k) (mxTo X k) (mxTo Y k) W' → W'.cell? ⟨w2.heap.size + 1,1,none⟩ = some (.int .i64 (mxTo Y k)) := fun W' h => h.p3
   have t0 : ∀ W',FinS w w2.heap.size (mnTo X k) (mnTo Y k) (mxTo X k) (mxTo Y k) W' → W'.cell? ⟨w.heap.size,0,none⟩ = some (cellOr W' w.heap.size 0) := fun W' h => h.there.cell 0 (by omega)
   have t1 : ∀ W',FinS w w2.heap.size (mnTo X k) (mnTo Y k) (mxTo X k) (mxTo Y k) W' → W'.cell? ⟨w.heap.size,1,none⟩ = some (cellOr W' w.heap.size 1) := fun W' h => h.there.cell 1 (by omega)
   have t2 : ∀ W',FinS w w2.heap.size (mnTo X k) (mnTo Y k) (mxTo X k) (mxTo Y k) W' → W'.cell? ⟨w.heap.size,2,none⟩ = some (cellOr W' w.heap.size 2) := fun W' h => h.there.cell 2 (by omega)
   have t3 : ∀ W',FinS w w2.heap.size (mnTo X k) (mnTo Y k) (mxTo X k) (mxTo Y k) W' → W'.cell? ⟨w.heap.size,3,none⟩ = some (cellOr W' w.heap.size 3) := fun W' h => h.there.cell 3 (by omega)
   have t4 : ∀ W',FinS w w2.heap.size (mnTo X k) (mnTo Y k) (mxTo X k) (mxTo Y k) W' → W'.cell? ⟨w.heap.size,4,none⟩ = some (cellOr W' w.heap.size 4) := fun W' h => h.there.cell 4 (by omega)
   have y0 : ∀ W',FinS w w2.heap.size (mnTo X k) (mnTo Y k) (mxTo X k) (mxTo Y k) W' → W'.frozen? ⟨w.heap.size,0,none⟩ = false := fun W' h => (h.there 0 (by omega)).2
   have y1 : ∀ W',FinS w w2.heap.size (mnTo X k) (mnTo Y k) (mxTo X k) (mxTo Y k) W' → W'.frozen? ⟨w.heap.size,1,none⟩ = false := fun W' h => (h.there 1 (by omega)).2
   have y2 : ∀ W',FinS w w2.heap.size (mnTo X k) (mnTo Y k) (mxTo X k) (mxTo Y k) W' → W'.frozen? ⟨w.heap.size,2,none⟩ = false := fun W' h => (h.there 2 (by omega)).2
   have y3 : ∀ W',FinS w w2.heap.size (mnTo X k) (mnTo Y k) (mxTo X k) (mxTo Y k) W' → W'.frozen? ⟨w.heap.size,3,none⟩ = false := fun W' h => (h.there 3 (by omega)).2
   have y4 : ∀ W',FinS w w2.heap.size (mnTo X k) (mnTo Y k) (mxTo X k) (mxTo Y k) W' → W'.frozen? ⟨w.heap.size,4,none⟩ = false := fun W' h => (h.there 4 (by omega)).2
   clear hB fz fy o0 o1 o2 o3
   go_wp2
   go_region_held3 (FinS w w2.heap.size (mnTo X k) (mnTo Y k) (mxTo X k) (mxTo Y k)) (first | exact FinS.drew hF | exact FinS.call (by assumption) (by assumption) | exact FinS.set (FinS.set (FinS.set (FinS.set (FinS.set (by assumption) _ _) _ _) _ _) _ _) _ _ | assumption)
    (first
     | (go_at_call 159; refine (point_any _ _ _).mono ?_; rintro e w' ⟨rfl,hb⟩; have hk : FinS w w2.heap.size (mnTo X k) (mnTo Y k) (mxTo X k) (mxTo Y k) w' := FinS.call (by assumption) hb))
   rename_i hfin
   go_wp2
   obtain ⟨q0,q1,q2,q3,q4⟩ := set5_at (a := .int .i64 0) (b := .int .i64 (mnTo X k)) (c := .int .i64 (mnTo Y k)) (d := .int .i64 (mxTo X k)) (e := .int .i64 (mxTo Y k)) hk.there
   refine bodyPost_ret (v := .agg #[.int .i64 0, .int .i64 (mnTo X k), .int .i64 (mnTo Y k), .int .i64 (mxTo X k), .int .i64 (mxTo Y k)]) (by simp [results,Tryz.results131,go_sem,q0,q1,q2,q3,q4]) rfl ⟨by rw [HV.out],hfin.bel⟩

theorem res7D (T : Array Value) (Wf : World) (r : Nat) (v0 v1 v2 : Value) (hT : T[2]?.getD undef = .pointer (some ⟨r,0,none⟩)) (h0 : Wf.cell? ⟨r,0,none⟩ = some v0) (h1 : Wf.cell? ⟨r,1,none⟩ = some v1) (h2 : Wf.cell? ⟨r,2,none⟩ = some v2) :
  (results Tryz.f39 T).run Tryz.prog Wf = .ok (.agg #[v0,v1,v2]) Wf := by
 simp [results,Tryz.results39,go_sem,hT,h0,h1,h2]
theorem l7Draw_any (a : Option Addr) (n cap : Nat) (Z : Nat → Int) (s t : Nat) (w : World) (h : Src a n cap Z s t w) (hcap : n ≤ cap) (ht : t ≤ 800) :
  Calls Tryz.prog 39 #[.pointer (some ⟨s,0,none⟩)] w fun e w' => ∃ z x y : Int,e = .returned (refV z x y) ∧ Src a n cap Z s (t + 3) w' ∧ Keeps s w w' := by
 have hsl : s < w.heap.size := World.block_lt_of_cell? _ _ h.code
 have HS0 : Hid (Src a n cap Z s t w) := h
 clear h
 go_enter Tryz.func39,Tryz.ntmps39
 go_wp2_with fail
 generalize hW : (w.alloc _ : World) = W
 have hB0 : Below w.heap.size w W := by subst hW; (repeat (first|exact Qr _ _|assumption|refine Qd ?_|refine Qa ?_ _|refine Qt ?_|refine Qs ?_ _|refine Qo ?_ ?_ _ _))
 have hlt : w.heap.size < W.heap.size := by subst hW; simp
 have HT : Hid (There W w.heap.size 3) := by
  show There _ _ _
  subst hW
  exact there3r w (.int .i64 0) (.int .i64 0) (.int .i64 0) 26
 clear hW
 have HS : Hid (Src a n cap Z s t W) := HS0.out.below hB0
 have HK : Hid (Keeps s w W) := Keeps.of_below hB0
 clear hB0 HS0
 refine (l1Next_any a n cap Z s t 4 _ HS.out hcap (by omega) (by omega) (by omega)).mono ?_
 rintro e w1 ⟨v1,rfl,hv1,hS1,hK1⟩
 have HS1 : Hid (Src a n cap Z s (t + 1) w1) := hS1
 have HT1 : Hid (There w1 w.heap.size 3) := HT.out.keeps hK1 (by omega)
 have HK1 : Hid (Keeps s w w1) := HK.out.trans hK1
 have hlt1 : w.heap.size < w1.heap.size := Nat.lt_of_lt_of_le hlt hK1.size
 clear hS1 hK1 HS HK HT hlt
 obtain ⟨m,hm,hm1,hm2⟩ : ∃ m : Nat,Hid ((v1 = 0 ∧ m = 1) ∨ (v1 = 1 ∧ m = 2) ∨ (v1 = 2 ∧ m = 4) ∨ (v1 = 3 ∧ m = 8)) ∧ 0 < m ∧ m ≤ 8 := by
  have : v1 = 0 ∨ v1 = 1 ∨ v1 = 2 ∨ v1 = 3 := by omega
  rcases this with rfl | rfl | rfl | rfl
  ·exact ⟨1, .inl ⟨rfl,rfl⟩,by omega,by omega⟩
  ·exact ⟨2, .inr (.inl ⟨rfl,rfl⟩),by omega,by omega⟩
  ·exact ⟨4, .inr (.inr (.inl ⟨rfl,rfl⟩)),by omega,by omega⟩
  ·exact ⟨8, .inr (.inr (.inr ⟨rfl,rfl⟩)),by omega,by omega⟩
 have hN := fun t w h ht => l1Next_any a n cap Z s t m w h hcap ht hm1 (by omega)
 have HN := (show Hid _ from hN)
 clear hN
 rcases hm.out with ⟨rfl,rfl⟩ | ⟨rfl,rfl⟩ | ⟨rfl,rfl⟩ | ⟨rfl,rfl⟩
 all_goals
  clear hm hm1 hm2
  go_wp2_with fail
  refine (HN.out _ _ HS1.out (by omega)).mono ?_
  rintro e w2 ⟨v2,rfl,hv2,hS2,hK2⟩
  have HS2 : Hid (Src a n cap Z s (t + 1 + 1) w2) := hS2
  have HT2 : Hid (There w2 w.heap.size 3) := HT1.out.keeps hK2 (by omega)
  have HK2 : Hid (Keeps s w w2) := HK1.out.trans hK2
  have hlt2 : w.heap.size < w2.heap.size := Nat.lt_of_lt_of_le hlt1 hK2.size
  clear hS2 hK2 HS1 HK1 HT1 hlt1
  go_wp2_with fail
  refine (HN.out _ _ HS2.out (by omega)).mono ?_
  rintro e w3 ⟨v3,rfl,hv3,hS3,hK3⟩
  have HS3 : Hid (Src a n cap Z s (t + 1 + 1 + 1) w3) := hS3
  have HT3 : Hid (There w3 w.heap.size 3) := HT2.out.keeps hK3 (by omega)
  have HK3 : Hid (Keeps s w w3) := HK2.out.trans hK3
  have hlt3 : w.heap.size < w3.heap.size := Nat.lt_of_lt_of_le hlt2 hK3.size
  clear hS3 hK3 HS2 HK2 HT2 hlt2
  have hT' := HT3.out
  have t0 := hT'.cell 0 (by omega)
  have t1 := hT'.cell 1 (by omega)
  have t2 := hT'.cell 2 (by omega)
  have f0 := (hT' 0 (by omega)).2
  have f1 := (hT' 1 (by omega)).2
  have f2 := (hT' 2 (by omega)).2
  clear hT'
  go_wp2_with fail
  refine bodyPost_ret (res7D _ _ _ _ _ _ rfl (set3_atr HT3.out).1 (set3_atr HT3.out).2.1 (set3_atr HT3.out).2.2) rfl ⟨_,_,_,rfl,((HS3.out.other 0 _ hsl).other 1 _ hsl).other 2 _ hsl,((HK3.out.own1 (Nat.le_refl _) 0 _).own1 (Nat.le_refl _) 1 _).own1 (Nat.le_refl _) 2 _⟩
theorem res7B (T : Array Value) (Wf : World) (r : Nat) (v0 v1 v2 : Value) (hT : T[2]?.getD undef = .pointer (some ⟨r,0,none⟩)) (h0 : Wf.cell? ⟨r,0,none⟩ = some v0) (h1 : Wf.cell? ⟨r,1,none⟩ = some v1) (h2 : Wf.cell? ⟨r,2,none⟩ = some v2) :
  (results Tryz.f16 T).run Tryz.prog Wf = .ok (.agg #[v0,v1,v2]) Wf := by
 simp [results,Tryz.results16,go_sem,hT,h0,h1,h2]
theorem There.otherR {W : World} {r r' n o : Nat} {v : Value} (h : There W r n) (hr : r' ≠ r) : There (W.setCell ⟨r',o,none⟩ v) r n := fun o' ho => by
 obtain ⟨⟨u,hu⟩,hf⟩ := h o' ho
 exact ⟨⟨u,by rw [set1_other (fun e => hr (by injection e))]; exact hu⟩,by rw [World.frozen?_setCell]; exact hf⟩
theorem l7Bent_any (a : Option Addr) (n cap : Nat) (Z : Nat → Int) (s t : Nat) (w : World) (h : Src a n cap Z s t w) (hcap : n ≤ cap) (ht : t ≤ 700) :
  Calls Tryz.prog 16 #[.pointer (some ⟨s,0,none⟩)] w fun e w' => ∃ (z x y : Int) (t' : Nat),e = .returned (refV z x y) ∧ t' ≤ t + 5 ∧ Src a n cap Z s t' w' ∧ Keeps s w w' := by
 have hsl : s < w.heap.size := World.block_lt_of_cell? _ _ h.code
 have HS0 : Hid (Src a n cap Z s t w) := h
 clear h
 go_enter Tryz.func16,Tryz.ntmps16
 go_wp2_with fail
 generalize hW : (w.alloc _ : World) = W
 have hB0 : Below w.heap.size w W := by subst hW; (repeat (first|exact Qr _ _|assumption|refine Qd ?_|refine Qa ?_ _|refine Qt ?_|refine Qs ?_ _|refine Qo ?_ ?_ _ _))
 have hlt : w.heap.size < W.heap.size := by subst hW; simp
 have HT : Hid (There W w.heap.size 3) := by
  show There _ _ _
  subst hW
  exact there3r w (.int .i64 0) (.int .i64 0) (.int .i64 0) 26
 clear hW
 have HS : Hid (Src a n cap Z s t W) := HS0.out.below hB0
 have HK : Hid (Keeps s w W) := Keeps.of_below hB0
 clear hB0 HS0
 refine (l7Draw_any a n cap Z s t _ HS.out hcap (by omega)).mono ?_
 rintro e w1 ⟨z,x,y,rfl,hS1,hK1⟩
 have HT1 : Hid (There w1 w.heap.size 3) := HT.out.keeps hK1 (by omega)
 have HS1 : Hid (Src a n cap Z s (t + 3) w1) := hS1
 have HK1 : Hid (Keeps s w w1) := HK.out.trans hK1
 have hlt1 : w.heap.size < w1.heap.size := Nat.lt_of_lt_of_le hlt hK1.size
 clear hS1 hK1 HS HK HT hlt
 go_wp2_with fail
 generalize hW2 : (w1.alloc _ : World) = w2
 have hb2 : Below w1.heap.size w1 w2 := by subst hW2; (repeat (first|exact Qr _ _|assumption|refine Qd ?_|refine Qa ?_ _|refine Qt ?_|refine Qs ?_ _|refine Qo ?_ ?_ _ _))
 have hlt2 : w1.heap.size < w2.heap.size := by subst hW2; simp
 have d0 : w2.cell? ⟨w1.heap.size,0,none⟩ = some (.int .i64 z) := by subst hW2; simp [go_sem]
 have d1 : w2.cell? ⟨w1.heap.size,1,none⟩ = some (.int .i64 x) := by subst hW2; simp [go_sem]
 have d2 : w2.cell? ⟨w1.heap.size,2,none⟩ = some (.int .i64 y) := by subst hW2; simp [go_sem]
 have HU : Hid (There w2 w1.heap.size 3) := by
  show There _ _ _
  subst hW2
  exact there3r w1 (.int .i64 z) (.int .i64 x) (.int .i64 y) 26
 clear hW2
 have HS2 : Hid (Src a n cap Z s (t + 3) w2) := HS1.out.below hb2
 have HT2 : Hid (There w2 w.heap.size 3) := HT1.out.below hb2
 have HK2 : Hid (Keeps s w w2) := HK1.out.trans (Keeps.of_below hb2)
 clear hb2 HS1 HT1 HK1
 refine (l1Next_any a n cap Z s (t + 3) 12 _ HS2.out hcap (by omega) (by omega) (by omega)).mono ?_
 rintro e w3 ⟨k,rfl,hk,hS3,hK3⟩
 have e0 : w3.cell? ⟨w1.heap.size,0,none⟩ = some (.int .i64 z) := (hK3.cell (p := ⟨w1.heap.size,0,none⟩) hlt2 (by show w1.heap.size ≠ s; omega)).trans d0
 have e1 : w3.cell? ⟨w1.heap.size,1,none⟩ = some (.int .i64 x) := (hK3.cell (p := ⟨w1.heap.size,1,none⟩) hlt2 (by show w1.heap.size ≠ s; omega)).trans d1
 have e2 : w3.cell? ⟨w1.heap.size,2,none⟩ = some (.int .i64 y) := (hK3.cell (p := ⟨w1.heap.size,2,none⟩) hlt2 (by show w1.heap.size ≠ s; omega)).trans d2
 have HS3 : Hid (Src a n cap Z s (t + 3 + 1) w3) := hS3
 have HT3 : Hid (There w3 w.heap.size 3) := HT2.out.keeps hK3 (by omega)
 have HU3 : Hid (There w3 w1.heap.size 3) := HU.out.keeps hK3 (by omega)
 have HK3 : Hid (Keeps s w w3) := HK2.out.trans hK3
 have hlt3 : w1.heap.size < w3.heap.size := Nat.lt_of_lt_of_le hlt2 hK3.size
 clear hS3 hK3 HS2 HT2 HU HK2 d0 d1 d2 hlt2
 have hsl1 : s < w1.heap.size := by omega
 by_cases hk0 : k = 0
 ·subst hk0
  go_wp2_with fail
  refine (pick3r a n cap Z s _ _ _ _ _ _ HS3.out hcap (by omega)).mono ?_
  rintro e w4 ⟨u,rfl,hS4,hK4⟩
  have g0 : w4.cell? ⟨w1.heap.size,0,none⟩ = some (.int .i64 z) := (hK4.cell (p := ⟨w1.heap.size,0,none⟩) hlt3 (by show w1.heap.size ≠ s; omega)).trans e0
  have g1 : w4.cell? ⟨w1.heap.size,1,none⟩ = some (.int .i64 x) := (hK4.cell (p := ⟨w1.heap.size,1,none⟩) hlt3 (by show w1.heap.size ≠ s; omega)).trans e1
  have g2 : w4.cell? ⟨w1.heap.size,2,none⟩ = some (.int .i64 y) := (hK4.cell (p := ⟨w1.heap.size,2,none⟩) hlt3 (by show w1.heap.size ≠ s; omega)).trans e2
  have hT4 := HT3.out.keeps hK4 (by omega)
  have hU4 := HU3.out.keeps hK4 (by omega)
  have hz0 := (hU4 0 (by omega)).2
  have HT4 : Hid (There (w4.setCell ⟨w1.heap.size,0,none⟩ (.int .i64 u)) w.heap.size 3) := hT4.otherR (by omega)
  have HS4 : Hid (Src a n cap Z s (t + 3 + 1 + 1) (w4.setCell ⟨w1.heap.size,0,none⟩ (.int .i64 u))) := hS4.other 0 _ hsl1
  have HK4 : Hid (Keeps s w (w4.setCell ⟨w1.heap.size,0,none⟩ (.int .i64 u))) := (HK3.out.trans hK4).own1 (by omega) 0 _
  have hlt4 : w1.heap.size < w4.heap.size := Nat.lt_of_lt_of_le hlt3 hK4.size
  have i0 : (w4.setCell ⟨w1.heap.size,0,none⟩ (.int .i64 u)).cell? ⟨w1.heap.size,0,none⟩ = some (.int .i64 u) := set1_same g0
  have i1 : (w4.setCell ⟨w1.heap.size,0,none⟩ (.int .i64 u)).cell? ⟨w1.heap.size,1,none⟩ = some (.int .i64 x) := by rw [set1_other (fun e => by injection e with _ e; omega)]; exact g1
  have i2 : (w4.setCell ⟨w1.heap.size,0,none⟩ (.int .i64 u)).cell? ⟨w1.heap.size,2,none⟩ = some (.int .i64 y) := by rw [set1_other (fun e => by injection e with _ e; omega)]; exact g2
  clear hS4 hK4 HS3 HT3 HU3 HK3 e0 e1 e2 hlt3 g1 g2 hT4 hU4
  have hT' := HT4.out
  have t0 := hT'.cell 0 (by omega)
  have t1 := hT'.cell 1 (by omega)
  have t2 := hT'.cell 2 (by omega)
  have f0 := (hT' 0 (by omega)).2
  have f1 := (hT' 1 (by omega)).2
  have f2 := (hT' 2 (by omega)).2
  clear hT'
  go_wp2_with fail
  refine bodyPost_ret (res7B _ _ _ _ _ _ rfl (set3_atr HT4.out).1 (set3_atr HT4.out).2.1 (set3_atr HT4.out).2.2) rfl ⟨_,_,_,t + 3 + 1 + 1,rfl,by omega,((HS4.out.other 0 _ hsl).other 1 _ hsl).other 2 _ hsl,((HK4.out.own1 (Nat.le_refl _) 0 _).own1 (Nat.le_refl _) 1 _).own1 (Nat.le_refl _) 2 _⟩
 ·by_cases hk1 : k = 1
  ·subst hk1
   go_wp2_with fail
   refine (pick2r a n cap Z s _ _ _ _ _ HS3.out hcap (by omega)).mono ?_
   rintro e w4 ⟨u,rfl,hS4,hK4⟩
   have g0 : w4.cell? ⟨w1.heap.size,0,none⟩ = some (.int .i64 z) := (hK4.cell (p := ⟨w1.heap.size,0,none⟩) hlt3 (by show w1.heap.size ≠ s; omega)).trans e0
   have g1 : w4.cell? ⟨w1.heap.size,1,none⟩ = some (.int .i64 x) := (hK4.cell (p := ⟨w1.heap.size,1,none⟩) hlt3 (by show w1.heap.size ≠ s; omega)).trans e1
   have g2 : w4.cell? ⟨w1.heap.size,2,none⟩ = some (.int .i64 y) := (hK4.cell (p := ⟨w1.heap.size,2,none⟩) hlt3 (by show w1.heap.size ≠ s; omega)).trans e2
   have hT4 := HT3.out.keeps hK4 (by omega)
   have hU4 := HU3.out.keeps hK4 (by omega)
   have hz0 := (hU4 1 (by omega)).2
   have HT4 : Hid (There (w4.setCell ⟨w1.heap.size,1,none⟩ (.int .i64 u)) w.heap.size 3) := hT4.otherR (by omega)
   have HS4 : Hid (Src a n cap Z s (t + 3 + 1 + 1) (w4.setCell ⟨w1.heap.size,1,none⟩ (.int .i64 u))) := hS4.other 1 _ hsl1
   have HK4 : Hid (Keeps s w (w4.setCell ⟨w1.heap.size,1,none⟩ (.int .i64 u))) := (HK3.out.trans hK4).own1 (by omega) 1 _
   have hlt4 : w1.heap.size < w4.heap.size := Nat.lt_of_lt_of_le hlt3 hK4.size
   have i0 : (w4.setCell ⟨w1.heap.size,1,none⟩ (.int .i64 u)).cell? ⟨w1.heap.size,0,none⟩ = some (.int .i64 z) := by rw [set1_other (fun e => by injection e with _ e; omega)]; exact g0
   have i1 : (w4.setCell ⟨w1.heap.size,1,none⟩ (.int .i64 u)).cell? ⟨w1.heap.size,1,none⟩ = some (.int .i64 u) := set1_same g1
   have i2 : (w4.setCell ⟨w1.heap.size,1,none⟩ (.int .i64 u)).cell? ⟨w1.heap.size,2,none⟩ = some (.int .i64 y) := by rw [set1_other (fun e => by injection e with _ e; omega)]; exact g2
   clear hS4 hK4 HS3 HT3 HU3 HK3 e0 e1 e2 hlt3 g0 g2 hT4 hU4
   have hT' := HT4.out
   have t0 := hT'.cell 0 (by omega)
   have t1 := hT'.cell 1 (by omega)
   have t2 := hT'.cell 2 (by omega)
   have f0 := (hT' 0 (by omega)).2
   have f1 := (hT' 1 (by omega)).2
   have f2 := (hT' 2 (by omega)).2
   clear hT'
   go_wp2_with fail
   refine bodyPost_ret (res7B _ _ _ _ _ _ rfl (set3_atr HT4.out).1 (set3_atr HT4.out).2.1 (set3_atr HT4.out).2.2) rfl ⟨_,_,_,t + 3 + 1 + 1,rfl,by omega,((HS4.out.other 0 _ hsl).other 1 _ hsl).other 2 _ hsl,((HK4.out.own1 (Nat.le_refl _) 0 _).own1 (Nat.le_refl _) 1 _).own1 (Nat.le_refl _) 2 _⟩
  ·have n0 : ((k : Int) == 0) = false := by simp; omega
   have n1 : ((k : Int) == 1) = false := by simp; omega
   have hT' := HT3.out
   have t0 := hT'.cell 0 (by omega)
   have t1 := hT'.cell 1 (by omega)
   have t2 := hT'.cell 2 (by omega)
   have f0 := (hT' 0 (by omega)).2
   have f1 := (hT' 1 (by omega)).2
   have f2 := (hT' 2 (by omega)).2
   clear hT'
   go_wp2_with fail
   refine bodyPost_ret (res7B _ _ _ _ _ _ rfl (set3_atr HT3.out).1 (set3_atr HT3.out).2.1 (set3_atr HT3.out).2.2) rfl ⟨_,_,_,t + 3 + 1,rfl,by omega,((HS3.out.other 0 _ hsl).other 1 _ hsl).other 2 _ hsl,((HK3.out.own1 (Nat.le_refl _) 0 _).own1 (Nat.le_refl _) 1 _).own1 (Nat.le_refl _) 2 _⟩
end Go.Proofs.YtfkonhagjahgnaaGreat
