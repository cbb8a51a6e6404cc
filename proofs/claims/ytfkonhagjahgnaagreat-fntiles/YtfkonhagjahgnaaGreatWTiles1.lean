/- Texts. -/
import Derived.WalkKit
import Derived.Below
import Derived.Test.YtfkonhagjahgnaaGreatRows
import Derived.WalkSpells
import Derived.WalkLawsBesides
import Derived.Outline
import Derived.Deep.LoopGhost
import Derived.Deep.RegionHeld3
import Derived.Deep.OwnRows
import Derived.Sort.Grow
import Derived.Shelf.SlSortCmp.NoneTotal
set_option linter.unusedSimpArgs false
set_option linter.unusedVariables false
set_option maxRecDepth 100000
set_option maxHeartbeats 32000000
namespace Go.Proofs.YtfkonhagjahgnaaGreat
open Go.RowKit
def inB (v lo hi : Int) : Bool := decide (lo ≤ v) && decide (v ≤ hi)
def okP (x y : Int) : Bool := inB x (-1024) 4096 && inB y (-1024) 4096
theorem okP_iff (x y : Int) : okP x y = true ↔ (-1024 ≤ x ∧ x ≤ 4096) ∧ (-1024 ≤ y ∧ y ≤ 4096) := by
 simp [okP,inB]
def codeP (x y : Int) : Int := if okP x y = true then 0 else 3
theorem codeP_ok {x y : Int} (h : okP x y = true) : codeP x y = 0 := by simp [codeP,h]
theorem codeP_no {x y : Int} (h : okP x y = false) : codeP x y = 3 := by simp [codeP,h]
theorem okP_bd {x y : Int} (h : okP x y = true) : (-1024 ≤ x ∧ x ≤ 4096) ∧ (-1024 ≤ y ∧ y ≤ 4096) := (okP_iff x y).1 h
theorem mul_bd {a b B C : Int} (ha : -B ≤ a) (ha' : a ≤ B) (hb : -C ≤ b) (hb' : b ≤ C) (hB : 0 ≤ B) : -(B * C) ≤ a * b ∧ a * b ≤ B * C := by
 have h1 : a.natAbs ≤ B.natAbs := by omega
 have h2 : b.natAbs ≤ C.natAbs := by omega
 have h3 : (a * b).natAbs ≤ B.natAbs * C.natAbs := by rw [Int.natAbs_mul]; exact Nat.mul_le_mul h1 h2
 have h4 : ((B.natAbs * C.natAbs : Nat) : Int) = B * C := by rw [Int.natCast_mul,Int.natAbs_of_nonneg hB,Int.natAbs_of_nonneg (by omega)]
 omega
theorem bcell {W w1 : World} (hb : Below W.heap.size W w1) : (∀ b o,b < W.heap.size → w1.cell? ⟨b,o,none⟩ = W.cell? ⟨b,o,none⟩) ∧ (∀ b o,b < W.heap.size → w1.frozen? ⟨b,o,none⟩ = W.frozen? ⟨b,o,none⟩) :=
 ⟨fun b o h => hb.cell (p := ⟨b,o,none⟩) h,fun b o h => hb.frozen (p := ⟨b,o,none⟩) h⟩
theorem bl_then {wr W w' : World} (hS : Below wr.heap.size wr W) (hb : Below W.heap.size W w') : Below wr.heap.size wr w' := hS.trans (hb.mono hS.size)
theorem bl_store {wr W V : World} (hS : Below wr.heap.size wr W) (hV : Below wr.heap.size wr V) (o : Nat) (u : Value) : Below wr.heap.size wr (W.setCell ⟨V.heap.size,o,none⟩ u) := hS.setCell hV.size u
theorem bl_alloc {wr W : World} (hS : Below wr.heap.size wr W) (o : Obj) : Below wr.heap.size wr (W.alloc o) := hS.alloc hS.size o
theorem Qr (b : Nat) (w : World) : Below b w w := Below.refl b w
theorem Qd {b : Nat} {w v : World} (h : Below b w v) : Below b w v.drew := Below.drew h
theorem Qa {r W : World} (h : Below r.heap.size r W) (o : Obj) : Below r.heap.size r (W.alloc o) := bl_alloc h o
theorem Qt {r W v : World} (h : Below r.heap.size r W) (k : Below W.heap.size W v := by assumption) : Below r.heap.size r v := bl_then h k
theorem Qs {b : Nat} {w v : World} {p : Addr} (h : Below b w v) (u : Value) (k : b ≤ p.block := by first | omega | (simp; done) | (simp; omega)) : Below b w (v.setCell p u) := Below.setCell h k u
theorem Qo {r W V : World} (h : Below r.heap.size r W) (k : Below r.heap.size r V) (o : Nat) (u : Value) : Below r.heap.size r (W.setCell ⟨V.heap.size, o, none⟩ u) := bl_store h k o u
theorem Qx {α : Type} (l : List α) (i : Nat) (a : α) : l.toArray.setIfInBounds i a = (l.set i a).toArray := List.setIfInBounds_toArray l i a
theorem Qy {α : Type} {x : α} {l : List α} {a : α} : (x :: l).set 0 a = a :: l := rfl
theorem Qz {α : Type} {x : α} {l : List α} {i : Nat} {a : α} : (x :: l).set (i + 1) a = x :: l.set i a := rfl
theorem ret_int {k : IntKind} {a b : Int} (h : a = b) : Ending.returned (.int k a) = .returned (.int k b) := by rw [h]
theorem ret_bool {a b : Bool} (h : a = b) : Ending.returned (.bool a) = .returned (.bool b) := by rw [h]
def crossI (ax ay bx by' cx cy : Int) : Int := (bx - ax) * (cy - ay) - (by' - ay) * (cx - ax)
def distI (ax ay bx by' : Int) : Int := (bx - ax) * (bx - ax) + (by' - ay) * (by' - ay)
theorem l1In_any (v lo hi : Int) (w : World) : Calls Tryz.prog 51 #[.int .i64 v, .int .i64 lo, .int .i64 hi] w fun e w' => e = .returned (.bool (inB v lo hi)) ∧ w' = w := by
 unfold inB
 go_enter Tryz.func51,Tryz.ntmps51
 by_cases h1 : lo ≤ v
 ·go_wp2
  all_goals (go_ret; exact ⟨ret_bool (by simp [h1]),rfl⟩)
 ·have h2 : decide (lo ≤ v) = false := by simpa using h1
  go_wp2
  all_goals (go_ret; exact ⟨ret_bool (by simp [h1]),rfl⟩)
abbrev pairOfW (x y : Int) (w : World) : World := (w.alloc (.cells #[.int .i64 x, .int .i64 y] 67)).alloc (.cells #[.int .i64 x, .int .i64 y] 204)
theorem pairOf_ex (x y : Int) (w : World) : Calls Tryz.prog 158 #[.agg #[.int .i64 x, .int .i64 y]] w fun e w' => e = .returned (.agg #[.int .i64 x, .int .i64 y]) ∧ pairOfW x y w = w' := by
 go_enter Tryz.func158,Tryz.ntmps158
 go_wp2
 exact bodyPost_ret (v := .agg #[.int .i64 x, .int .i64 y]) (by simp [results,Tryz.results158,go_sem]) rfl ⟨rfl,rfl⟩
theorem pairOf_any (x y : Int) (w : World) : Calls Tryz.prog 158 #[.agg #[.int .i64 x, .int .i64 y]] w fun e w' => e = .returned (.agg #[.int .i64 x, .int .i64 y]) ∧ Below w.heap.size w w' :=
 (pairOf_ex x y w).mono fun e w' ⟨he,hw⟩ => ⟨he,by subst hw; (repeat (first|exact Qr _ _|assumption|refine Qd ?_|refine Qa ?_ _|refine Qt ?_|refine Qs ?_ _|refine Qo ?_ ?_ _ _))⟩
theorem PointFault_any (x y : Int) (w : World) : Calls Tryz.prog 141 #[.agg #[.int .i64 x, .int .i64 y]] w fun e w' => e = .returned (.int .i64 (codeP x y)) ∧ Below w.heap.size w w' := by
 have i0 : ∀ w,(Instr.index 204 (.agg #[.int .i64 x, .int .i64 y]) (.int .i64 0)).run Tryz.prog w = .ok (.int .i64 x) w := fun _ => by kernel_rfl
 have i1 : ∀ w,(Instr.index 204 (.agg #[.int .i64 x, .int .i64 y]) (.int .i64 1)).run Tryz.prog w = .ok (.int .i64 y) w := fun _ => by kernel_rfl
 have hk : Hid (codeP x y = if (-1024 ≤ x ∧ x ≤ 4096) ∧ (-1024 ≤ y ∧ y ≤ 4096) then 0 else 3) := by
  show _ = _
  unfold codeP
  simp only [okP_iff]
 go_enter Tryz.func141,Tryz.ntmps141
 go_wp2_with (go_at_call 158; refine (pairOf_any _ _ _).mono ?_; rintro e w' ⟨rfl,hb1⟩)
 have hB : Hid (Below w.heap.size w w') := by
  show Below _ _ _
  (repeat (first|exact Qr _ _|assumption|refine Qd ?_|refine Qa ?_ _|refine Qt ?_|refine Qs ?_ _|refine Qo ?_ ?_ _ _))
 clear hb1
 go_loop [7] (fun i => ∃ k : Nat,k ≤ 2 ∧ i = .int .i64 k ∧ (1 ≤ k → -1024 ≤ x ∧ x ≤ 4096) ∧ (2 ≤ k → -1024 ≤ y ∧ y ≤ 4096)) (fun i => 2 - (intOf i).toNat)
 case atStart => exact ⟨0,by omega,rfl,by omega,by omega⟩
 case round =>
  obtain ⟨k,hk2,rfl,hx,hy⟩ := hrel
  have hcase : k = 0 ∨ k = 1 ∨ k = 2 := by omega
  rcases hcase with rfl | rfl | rfl
  ·clear hx hy
   by_cases h1 : x < -1024
   ·go_wp2
    go_ret
    exact ⟨ret_int (by rw [hk.out]; simp; omega),hB.out⟩
   ·have h1' : decide (x < -1024) = false := by simpa using h1
    go_wp2
    ·go_ret
     exact ⟨ret_int (by rw [hk.out]; simp; omega),hB.out⟩
    ·go_round
     case rel => exact ⟨1,by omega,rfl,by omega,by omega⟩
     case measure => simp [intOf]
  ·have hx' := hx (by omega)
   clear hx hy
   by_cases h1 : y < -1024
   ·go_wp2
    go_ret
    exact ⟨ret_int (by rw [hk.out]; simp; omega),hB.out⟩
   ·have h1' : decide (y < -1024) = false := by simpa using h1
    go_wp2
    ·go_ret
     exact ⟨ret_int (by rw [hk.out]; simp; omega),hB.out⟩
    ·go_round
     case rel => exact ⟨2,by omega,rfl,by omega,by omega⟩
     case measure => simp [intOf]
  ·have hx' := hx (by omega)
   have hy' := hy (by omega)
   clear hx hy
   go_wp2
   go_ret
   exact ⟨ret_int (by rw [hk.out,if_pos ⟨hx',hy'⟩]),hB.out⟩
def PtsAt (w : World) (b off n : Nat) (X Y : Nat → Int) : Prop :=
 ∀ i,i < n → w.cell? ⟨b,off + i * 2,none⟩ = some (.int .i64 (X i)) ∧ w.cell? ⟨b,off + i * 2 + 1,none⟩ = some (.int .i64 (Y i))
theorem PtsAt.below {w w' : World} {b off n B : Nat} {X Y : Nat → Int} (h : PtsAt w b off n X Y) (hb : Below B w w') (hB : b < B) : PtsAt w' b off n X Y := fun i hi =>
 ⟨(hb.cell (p := ⟨b,off + i * 2,none⟩) hB).trans (h i hi).1,(hb.cell (p := ⟨b,off + i * 2 + 1,none⟩) hB).trans (h i hi).2⟩
def allOk (n : Nat) (X Y : Nat → Int) : Bool := decide (∀ i,i < n → okP (X i) (Y i) = true)
def codeN (n : Nat) (X Y : Nat → Int) : Int := if allOk n X Y = true then 0 else 3
theorem codeN_no {n : Nat} {X Y : Nat → Int} (k : Nat) (hk : k < n) (h : okP (X k) (Y k) = false) : codeN n X Y = 3 := by
 unfold codeN allOk
 rw [if_neg]
 intro hc
 have := of_decide_eq_true hc k hk
 rw [h] at this
 cases this
theorem codeN_ok {n : Nat} {X Y : Nat → Int} (h : ∀ i,i < n → okP (X i) (Y i) = true) : codeN n X Y = 0 := by
 unfold codeN allOk
 rw [if_pos (decide_eq_true h)]
theorem faultIn_any (b off n cap : Nat) (X Y : Nat → Int) (w : World) (hp : PtsAt w b off n X Y) (hbl : b < w.heap.size) (hcap : n ≤ cap) (hmax : n ≤ 1048576) :
  Calls Tryz.prog 105 #[.slice (some ⟨b,off,none⟩) n cap] w fun e w' => e = .returned (.int .i64 (codeN n X Y)) ∧ Below w.heap.size w w' := by
 have HP : Hid (PtsAt w b off n X Y) := hp
 clear hp
 go_enter Tryz.func105,Tryz.ntmps105
 go_wp2
 go_loopw [8] (fun i wr => ∃ k : Nat,k ≤ n ∧ i = .int .i64 k ∧ (∀ j,j < k → okP (X j) (Y j) = true) ∧ Below w.heap.size w wr) (fun i _ => n - (intOf i).toNat)
 case atStart => exact ⟨0,by omega,rfl,by omega,Below.refl _ _⟩
 case round =>
  obtain ⟨k,hk2,rfl,hok,hB⟩ := hrel
  by_cases hlt : k < n
  ·obtain ⟨hx,hy⟩ := (HP.out.below hB hbl) k hlt
   have HO : Hid (∀ j,j < k → okP (X j) (Y j) = true) := hok
   have HB : Hid (Below w.heap.size w wr) := hB
   have hsz := hB.size
   clear hok hB
   have hi : (k : Int) < (n : Int) := by omega
   cases hq : okP (X k) (Y k)
   ·have hz : codeP (X k) (Y k) = 3 := codeP_no hq
    go_wp2_with (go_at_call 141; refine (PointFault_any _ _ _).mono ?_; rintro e w' ⟨rfl,hb1⟩)
    go_ret
    exact ⟨ret_int (by rw [codeN_no k hlt hq]),by have HB' := HB.out; (repeat (first|exact Qr _ _|assumption|refine Qd ?_|refine Qa ?_ _|refine Qt ?_|refine Qs ?_ _|refine Qo ?_ ?_ _ _))⟩
   ·have hz : codeP (X k) (Y k) = 0 := codeP_ok hq
    go_wp2_with (go_at_call 141; refine (PointFault_any _ _ _).mono ?_; rintro e w' ⟨rfl,hb1⟩)
    go_roundw
    case rel => exact ⟨k + 1,by omega,by go_num,fun j hj => by
      by_cases e : j = k
      ·rw [e]; exact hq
      ·exact HO.out j (by omega),by have HB' := HB.out; (repeat (first|exact Qr _ _|assumption|refine Qd ?_|refine Qa ?_ _|refine Qt ?_|refine Qs ?_ _|refine Qo ?_ ?_ _ _))⟩
    case measure => simp [intOf]; omega
  ·go_wp2
   go_ret
   exact ⟨ret_int (codeN_ok (fun i hi => hok i (by omega))).symm,hB⟩
theorem l1Cross_any (ax ay bx by' cx cy : Int) (w : World) (ha : okP ax ay = true) (hb : okP bx by' = true) (hc : okP cx cy = true) :
  Calls Tryz.prog 177 #[.agg #[.int .i64 ax, .int .i64 ay], .agg #[.int .i64 bx, .int .i64 by'], .agg #[.int .i64 cx, .int .i64 cy]] w fun e w' => e = .returned (.int .i64 (crossI ax ay bx by' cx cy)) ∧ Below w.heap.size w w' := by
 obtain ⟨⟨a1,a2⟩,a3,a4⟩ := okP_bd ha
 obtain ⟨⟨b1,b2⟩,b3,b4⟩ := okP_bd hb
 obtain ⟨⟨c1,c2⟩,c3,c4⟩ := okP_bd hc
 clear ha hb hc
 unfold crossI
 obtain ⟨p1,p2⟩ := mul_bd (a := bx - ax) (b := cy - ay) (B := 5120) (C := 5120) (by omega) (by omega) (by omega) (by omega) (by omega)
 obtain ⟨q1,q2⟩ := mul_bd (a := by' - ay) (b := cx - ax) (B := 5120) (C := 5120) (by omega) (by omega) (by omega) (by omega) (by omega)
 go_enter Tryz.func177,Tryz.ntmps177
 go_wp2
 go_ret
 exact ⟨rfl,by (repeat (first|exact Qr _ _|assumption|refine Qd ?_|refine Qa ?_ _|refine Qt ?_|refine Qs ?_ _|refine Qo ?_ ?_ _ _))⟩
theorem l1Distance_any (ax ay bx by' : Int) (w : World) (ha : okP ax ay = true) (hb : okP bx by' = true) :
  Calls Tryz.prog 176 #[.agg #[.int .i64 ax, .int .i64 ay], .agg #[.int .i64 bx, .int .i64 by']] w fun e w' => e = .returned (.int .i64 (distI ax ay bx by')) ∧ Below w.heap.size w w' := by
 obtain ⟨⟨a1,a2⟩,a3,a4⟩ := okP_bd ha
 obtain ⟨⟨b1,b2⟩,b3,b4⟩ := okP_bd hb
 clear ha hb
 have hd : Hid (distI ax ay bx by' = (ax - bx) * (ax - bx) + (ay - by') * (ay - by')) := by
  show _ = _
  unfold distI
  rw [← Int.neg_sub ax bx, ← Int.neg_sub ay by',Int.neg_mul_neg,Int.neg_mul_neg]
 obtain ⟨p1,p2⟩ := mul_bd (a := ax - bx) (b := ax - bx) (B := 5120) (C := 5120) (by omega) (by omega) (by omega) (by omega) (by omega)
 obtain ⟨q1,q2⟩ := mul_bd (a := ay - by') (b := ay - by') (B := 5120) (C := 5120) (by omega) (by omega) (by omega) (by omega) (by omega)
 go_enter Tryz.func176,Tryz.ntmps176
 go_wp2
 go_ret
 exact ⟨ret_int hd.out.symm,by (repeat (first|exact Qr _ _|assumption|refine Qd ?_|refine Qa ?_ _|refine Qt ?_|refine Qs ?_ _|refine Qo ?_ ?_ _ _))⟩
def Df (x y : Int) : Prop := (-5120 ≤ x ∧ x ≤ 5120) ∧ (-5120 ≤ y ∧ y ≤ 5120)
theorem wayOf_any (ax ay bx by' : Int) (w : World) (ha : okP ax ay = true) (hb : okP bx by' = true) :
  Calls Tryz.prog 171 #[.agg #[.int .i64 ax, .int .i64 ay], .agg #[.int .i64 bx, .int .i64 by']] w fun e w' => e = .returned (.agg #[.int .i64 (bx - ax), .int .i64 (by' - ay)]) ∧ Below w.heap.size w w' := by
 obtain ⟨⟨a1,a2⟩,a3,a4⟩ := okP_bd ha
 obtain ⟨⟨b1,b2⟩,b3,b4⟩ := okP_bd hb
 clear ha hb
 go_enter Tryz.func171,Tryz.ntmps171
 go_wp2
 exact bodyPost_ret (v := .agg #[.int .i64 (bx - ax), .int .i64 (by' - ay)]) (by simp [results,Tryz.results171,go_sem]) rfl ⟨rfl,by (repeat (first|exact Qr _ _|assumption|refine Qd ?_|refine Qa ?_ _|refine Qt ?_|refine Qs ?_ _|refine Qo ?_ ?_ _ _))⟩
theorem dotOf_any (ax ay bx by' : Int) (w : World) (ha : Df ax ay) (hb : Df bx by') :
  Calls Tryz.prog 172 #[.agg #[.int .i64 ax, .int .i64 ay], .agg #[.int .i64 bx, .int .i64 by']] w fun e w' => e = .returned (.int .i64 (ax * bx + ay * by')) ∧ Below w.heap.size w w' := by
 obtain ⟨⟨a1,a2⟩,a3,a4⟩ := ha
 obtain ⟨⟨b1,b2⟩,b3,b4⟩ := hb
 obtain ⟨p1,p2⟩ := mul_bd (a := ax) (b := bx) (B := 5120) (C := 5120) (by omega) (by omega) (by omega) (by omega) (by omega)
 obtain ⟨q1,q2⟩ := mul_bd (a := ay) (b := by') (B := 5120) (C := 5120) (by omega) (by omega) (by omega) (by omega) (by omega)
 go_enter Tryz.func172,Tryz.ntmps172
 go_wp2
 go_ret
 exact ⟨rfl,by (repeat (first|exact Qr _ _|assumption|refine Qd ?_|refine Qa ?_ _|refine Qt ?_|refine Qs ?_ _|refine Qo ?_ ?_ _ _))⟩
theorem squareOf_any (ax ay : Int) (w : World) (ha : Df ax ay) :
  Calls Tryz.prog 170 #[.agg #[.int .i64 ax, .int .i64 ay]] w fun e w' => e = .returned (.int .i64 (ax * ax + ay * ay)) ∧ Below w.heap.size w w' := by
 have HA : Hid (Df ax ay) := ha
 clear ha
 go_enter Tryz.func170,Tryz.ntmps170
 go_wp2_with (go_at_call 172; refine (dotOf_any _ _ _ _ _ HA.out HA.out).mono ?_; rintro e w' ⟨rfl,hb1⟩)
 go_ret
 exact ⟨rfl,by (repeat (first|exact Qr _ _|assumption|refine Qd ?_|refine Qa ?_ _|refine Qt ?_|refine Qs ?_ _|refine Qo ?_ ?_ _ _))⟩
def upB (ax ay bx by' : Int) : Bool := decide (ax ≤ bx) && decide (ay ≤ by')
theorem isUpTo_any (ax ay bx by' : Int) (w : World) :
  Calls Tryz.prog 89 #[.agg #[.int .i64 ax, .int .i64 ay], .agg #[.int .i64 bx, .int .i64 by']] w fun e w' => e = .returned (.bool (upB ax ay bx by')) ∧ Below w.heap.size w w' := by
 unfold upB
 by_cases h1 : ax ≤ bx
 ·go_enter Tryz.func89,Tryz.ntmps89
  go_wp2
  all_goals (go_ret; exact ⟨ret_bool (by simp [h1]),by (repeat (first|exact Qr _ _|assumption|refine Qd ?_|refine Qa ?_ _|refine Qt ?_|refine Qs ?_ _|refine Qo ?_ ?_ _ _))⟩)
 ·have h2 : decide (ax ≤ bx) = false := by simpa using h1
  go_enter Tryz.func89,Tryz.ntmps89
  go_wp2
  all_goals (go_ret; exact ⟨ret_bool (by simp [h1]),by (repeat (first|exact Qr _ _|assumption|refine Qd ?_|refine Qa ?_ _|refine Qt ?_|refine Qs ?_ _|refine Qo ?_ ?_ _ _))⟩)
def There (W : World) (r n : Nat) : Prop := ∀ o,o < n → (∃ v,W.cell? ⟨r,o,none⟩ = some v) ∧ W.frozen? ⟨r,o,none⟩ = false
def cellOr (W : World) (r o : Nat) : Value := (W.cell? ⟨r,o,none⟩).getD undef
theorem There.cell {W : World} {r n : Nat} (h : There W r n) (o : Nat) (ho : o < n) : W.cell? ⟨r,o,none⟩ = some (cellOr W r o) := by
 obtain ⟨v,hv⟩ := (h o ho).1
 simp [cellOr,hv]
theorem There.below {W W' : World} {r n : Nat} (h : There W r n) (hb : Below W.heap.size W W') : There W' r n := fun o ho => by
 obtain ⟨v,hv⟩ := (h o ho).1
 have hlt : r < W.heap.size := World.block_lt_of_cell? W ⟨r,o,none⟩ hv
 exact ⟨⟨v,(hb.cell (p := ⟨r,o,none⟩) hlt).trans hv⟩,(hb.frozen (p := ⟨r,o,none⟩) hlt).trans (h o ho).2⟩
structure Reg (B : Nat) (W : World) (r n : Nat) (W' : World) : Prop where
 le : B ≤ W.heap.size
 bel : Below B W W'
 there : There W' r n
theorem Reg.call {B r n : Nat} {W W1 w' : World} (h : Reg B W r n W1) (hb : Below W1.heap.size W1 w') : Reg B W r n w' :=
 ⟨h.le,h.bel.trans (hb.mono (Nat.le_trans h.le h.bel.size)),h.there.below hb⟩
theorem Reg.drew {B r n : Nat} {W W1 : World} (h : Reg B W r n W1) : Reg B W r n W1.drew := ⟨h.le,h.bel.drew,h.there⟩
theorem Reg.start {B r n : Nat} {W : World} (hB : B ≤ W.heap.size) (ht : There W r n) : Reg B W r n W := ⟨hB,Below.refl _ _,ht⟩
theorem Reg.store {B r n : Nat} {W W1 : World} (h : Reg B W r n W1) (hr : B ≤ r) (o : Nat) (v : Value) : Reg B W r n (W1.setCell ⟨r,o,none⟩ v) :=
 ⟨h.le,h.bel.setCell hr v,fun o' ho => by
  obtain ⟨u,hu⟩ := (h.there o' ho).1
  refine ⟨?_,?_⟩
  ·by_cases e : o = o'
   ·subst e
    exact ⟨v,World.cell?_setCell_same _ _ _ (by rw [hu])⟩
   ·exact ⟨u,by rw [World.cell?_setCell_other]; exact hu; intro hc; exact e (by simpa using hc.symm)⟩
  ·rw [World.frozen?_setCell]; exact (h.there o' ho).2⟩
theorem set2_0 {W : World} {b : Nat} {v0 v1 : Value} (h0 : (W.cell? ⟨b,0,none⟩).isSome = true) : ((W.setCell ⟨b,0,none⟩ v0).setCell ⟨b,1,none⟩ v1).cell? ⟨b,0,none⟩ = some v0 := by
 obtain ⟨u,hu⟩ := Option.isSome_iff_exists.1 h0
 rw [World.cell?_setCell_other]
 ·exact World.cell?_setCell_same _ _ _ (by rw [hu])
 ·simp
theorem set2_1 {W : World} {b : Nat} {v0 v1 : Value} (h1 : (W.cell? ⟨b,1,none⟩).isSome = true) : ((W.setCell ⟨b,0,none⟩ v0).setCell ⟨b,1,none⟩ v1).cell? ⟨b,1,none⟩ = some v1 := by
 obtain ⟨u,hu⟩ := Option.isSome_iff_exists.1 h1
 refine World.cell?_setCell_same (u := u) _ _ _ ?_
 rw [World.cell?_setCell_other]
 ·exact hu
 ·simp
def IsPts (w : World) (a : Option Addr) (n : Nat) (X Y : Nat → Int) : Prop :=
 n = 0 ∨ ∃ b off,a = some ⟨b,off,none⟩ ∧ b < w.heap.size ∧ PtsAt w b off n X Y
theorem IsPts.below {w w' : World} {a : Option Addr} {n : Nat} {X Y : Nat → Int} (h : IsPts w a n X Y) (hb : Below w.heap.size w w') : IsPts w' a n X Y := by
 rcases h with h | ⟨b,off,e,hl,hp⟩
 ·exact .inl h
 ·exact .inr ⟨b,off,e,Nat.lt_of_lt_of_le hl hb.size,hp.below hb hl⟩
theorem There.set {W : World} {r n : Nat} (h : There W r n) (o : Nat) (v : Value) : There (W.setCell ⟨r,o,none⟩ v) r n := fun o' ho => by
 obtain ⟨u,hu⟩ := (h o' ho).1
 refine ⟨?_,?_⟩
 ·by_cases e : o = o'
  ·subst e
   exact ⟨v,World.cell?_setCell_same _ _ _ (by rw [hu])⟩
  ·exact ⟨u,by rw [World.cell?_setCell_other]; exact hu; simp [e]⟩
 ·rw [World.frozen?_setCell]; exact (h o' ho).2
theorem isWithin_any (v lo hi : Int) (w : World) : Calls Tryz.prog 42 #[.int .i64 v, .int .i64 lo, .int .i64 hi] w fun e w' => e = .returned (.bool (inB v lo hi)) ∧ w' = w := by
 unfold inB
 go_enter Tryz.func42,Tryz.ntmps42
 by_cases h1 : lo ≤ v
 ·go_wp2
  all_goals (go_ret; exact ⟨ret_bool (by simp [h1]),rfl⟩)
 ·have h2 : decide (lo ≤ v) = false := by simpa using h1
  go_wp2
  all_goals (go_ret; exact ⟨ret_bool (by simp [h1]),rfl⟩)
def inW (x y : Int) : Bool := inB x 0 1024 && inB y 0 1024
theorem isInWorld_any (x y : Int) (w : World) : Calls Tryz.prog 102 #[.agg #[.int .i64 x, .int .i64 y]] w fun e w' => e = .returned (.bool (inW x y)) ∧ Below w.heap.size w w' := by
 unfold inW
 cases h1 : inB x 0 1024 <;> cases h2 : inB y 0 1024
 all_goals
  go_enter Tryz.func102,Tryz.ntmps102
  go_wp2_with (go_at_call 42; refine (isWithin_any _ _ _ _).mono ?_; rintro e w' ⟨rfl,rfl⟩)
  all_goals (go_ret; exact ⟨ret_bool (by simp [h1,h2]),by (repeat (first|exact Qr _ _|assumption|refine Qd ?_|refine Qa ?_ _|refine Qt ?_|refine Qs ?_ _|refine Qo ?_ ?_ _ _))⟩)
section
variable {P : Program} {ops : Array Oper} {Q : Exit → Act → World → Prop} {md : Region.Mode} {S : World → Prop}
theorem takeD {i : Nat} {d : Option Nat} {oi : Oper} {v : Value} {fuel : Nat} {listed : Array Bool} {a : Act} {w : World} (hi : ops[i]? = some oi) (hd : oi.dst = d)
  (hs : Region.noSelect ops = true) (hf : Region.free md ops listed i = true) (hr : (Region.ready md ops listed).contains i = true)
  (hQ : ∀ c a w,Q (.panic c) (a.put oi.dst v) w → Q (.panic c) a w) (hy : YieldsIf P ops S oi v a) (hS : S w)
  (h : wpAnyH P md ops Q S fuel (listed.setIfInBounds i true) (a.put d v) w) : wpAnyH P md ops Q S (fuel + 1) listed a w :=
 wpAnyH_take hi hs hf hr hQ hy hS (hd ▸ h)
theorem passD {i : Nat} {d : Option Nat} {oi : Oper} {fuel : Nat} {listed : Array Bool} {a : Act} {w : World} (hi : ops[i]? = some oi) (hd : oi.dst = d)
  (hs : Region.noSelect ops = true) (hf : Region.free md ops listed i = true) (hr : (Region.ready md ops listed).contains i = true)
  (hQ : ∀ c a w,Q (.panic c) (a.put oi.dst undef) w → Q (.panic c) a w) (hy : Region.wanted oi (yielded ops a.tmps) = false) (hS : S w)
  (h : wpAnyH P md ops Q S fuel (listed.setIfInBounds i true) (a.put d undef) w) : wpAnyH P md ops Q S (fuel + 1) listed a w :=
 wpAnyH_take hi hs hf hr hQ (.inr ⟨hy,rfl⟩) hS (hd ▸ h)
theorem takeK {i : Nat} {d : Option Nat} {oi : Oper} {v : Value} {fuel : Nat} {listed : Array Bool} {a : Act} {w : World} (hi : ops[i]? = some oi) (hd : oi.dst = d) (hy : YieldsIf P ops S oi v a) (hS : S w)
 (h : wpAnyH P md ops Q S fuel (listed.setIfInBounds i true) (a.put d v) w) (hs : Region.noSelect ops = true := by kernel_rfl) (hf : Region.free md ops listed i = true := by kernel_rfl) (hr : (Region.ready md ops listed).contains i = true := by kernel_rfl) (hQ : ∀ c a w, Q (.panic c) (a.put oi.dst v) w → Q (.panic c) a w := by exact fun _ _ _ h => h) : wpAnyH P md ops Q S (fuel + 1) listed a w := takeD hi hd hs hf hr hQ hy hS h
theorem passK {i : Nat} {d : Option Nat} {oi : Oper} {fuel : Nat} {listed : Array Bool} {a : Act} {w : World} (hi : ops[i]? = some oi) (hd : oi.dst = d) (hy : Region.wanted oi (yielded ops a.tmps) = false) (hS : S w)
 (h : wpAnyH P md ops Q S fuel (listed.setIfInBounds i true) (a.put d undef) w) (hs : Region.noSelect ops = true := by kernel_rfl) (hf : Region.free md ops listed i = true := by kernel_rfl) (hr : (Region.ready md ops listed).contains i = true := by kernel_rfl) (hQ : ∀ c a w, Q (.panic c) (a.put oi.dst undef) w → Q (.panic c) a w := by exact fun _ _ _ h => h) : wpAnyH P md ops Q S (fuel + 1) listed a w := passD hi hd hs hf hr hQ hy hS h
end

theorem set1_other {W : World} {a p : Addr} {u : Value} (h : a ≠ p) : (W.setCell a u).cell? p = W.cell? p := World.cell?_setCell_other _ _ _ _ h
theorem set1_same {W : World} {a : Addr} {u x : Value} (h : W.cell? a = some x) : (W.setCell a u).cell? a = some u := World.cell?_setCell_same _ _ _ h
theorem set2_other {W : World} {a a' p : Addr} {u v : Value} (h : a ≠ p) (h' : a' ≠ p) : ((W.setCell a u).setCell a' v).cell? p = W.cell? p := by
 rw [set1_other h',set1_other h]
theorem set2_at {W : World} {r i j : Nat} {u v : Value} (hij : i ≠ j) (h0 : (W.cell? ⟨r,i,none⟩).isSome = true) (h1 : (W.cell? ⟨r,j,none⟩).isSome = true) :
  ((W.setCell ⟨r,i,none⟩ u).setCell ⟨r,j,none⟩ v).cell? ⟨r,i,none⟩ = some u ∧ ((W.setCell ⟨r,i,none⟩ u).setCell ⟨r,j,none⟩ v).cell? ⟨r,j,none⟩ = some v := by
 obtain ⟨x,hx⟩ := Option.isSome_iff_exists.1 h0
 obtain ⟨y,hy⟩ := Option.isSome_iff_exists.1 h1
 have n1 : (⟨r,i,none⟩ : Addr) ≠ ⟨r,j,none⟩ := fun h => hij (by injection h)
 have n2 : (⟨r,j,none⟩ : Addr) ≠ ⟨r,i,none⟩ := fun h => n1 h.symm
 refine ⟨?_,?_⟩
 ·rw [set1_other n2]; exact set1_same hx
 ·exact set1_same (by rw [set1_other n1]; exact hy)
theorem set4_at {W : World} {r : Nat} {a b c d : Value} (hT : There W r 4) :
  ((((W.setCell ⟨r,0,none⟩ a).setCell ⟨r,1,none⟩ b).setCell ⟨r,2,none⟩ c).setCell ⟨r,3,none⟩ d).cell? ⟨r,0,none⟩ = some a ∧
  ((((W.setCell ⟨r,0,none⟩ a).setCell ⟨r,1,none⟩ b).setCell ⟨r,2,none⟩ c).setCell ⟨r,3,none⟩ d).cell? ⟨r,1,none⟩ = some b ∧
  ((((W.setCell ⟨r,0,none⟩ a).setCell ⟨r,1,none⟩ b).setCell ⟨r,2,none⟩ c).setCell ⟨r,3,none⟩ d).cell? ⟨r,2,none⟩ = some c ∧
  ((((W.setCell ⟨r,0,none⟩ a).setCell ⟨r,1,none⟩ b).setCell ⟨r,2,none⟩ c).setCell ⟨r,3,none⟩ d).cell? ⟨r,3,none⟩ = some d := by
 obtain ⟨x0,h0⟩ := (hT 0 (by omega)).1
 obtain ⟨x1,h1⟩ := (hT 1 (by omega)).1
 obtain ⟨x2,h2⟩ := (hT 2 (by omega)).1
 obtain ⟨x3,h3⟩ := (hT 3 (by omega)).1
 have ne : ∀ i j : Nat,i ≠ j → (⟨r,i,none⟩ : Addr) ≠ ⟨r,j,none⟩ := fun i j hij h => hij (by injection h)
 refine ⟨?_,?_,?_,?_⟩
 ·rw [set1_other (ne 3 0 (by omega)),set1_other (ne 2 0 (by omega)),set1_other (ne 1 0 (by omega))]; exact set1_same h0
 ·rw [set1_other (ne 3 1 (by omega)),set1_other (ne 2 1 (by omega))]; exact set1_same (by rw [set1_other (ne 0 1 (by omega))]; exact h1)
 ·rw [set1_other (ne 3 2 (by omega))]; exact set1_same (by rw [set1_other (ne 1 2 (by omega)),set1_other (ne 0 2 (by omega))]; exact h2)
 ·exact set1_same (by rw [set1_other (ne 2 3 (by omega)),set1_other (ne 1 3 (by omega)),set1_other (ne 0 3 (by omega))]; exact h3)
theorem info_u8 : (Tryz.prog.info? 5).map (fun i => (i.zero,i.size,i.bytes)) = some (some (.int .u8 0),1,1) := by kernel_rfl
theorem set7_at {W : World} {r : Nat} {v0 v1 v2 v3 v4 v5 v6 : Value} (hT : There W r 7) :
  (((((((W.setCell ⟨r,0,none⟩ v0).setCell ⟨r,1,none⟩ v1).setCell ⟨r,2,none⟩ v2).setCell ⟨r,3,none⟩ v3).setCell ⟨r,4,none⟩ v4).setCell ⟨r,5,none⟩ v5).setCell ⟨r,6,none⟩ v6).cell? ⟨r,0,none⟩ = some v0 ∧
  (((((((W.setCell ⟨r,0,none⟩ v0).setCell ⟨r,1,none⟩ v1).setCell ⟨r,2,none⟩ v2).setCell ⟨r,3,none⟩ v3).setCell ⟨r,4,none⟩ v4).setCell ⟨r,5,none⟩ v5).setCell ⟨r,6,none⟩ v6).cell? ⟨r,1,none⟩ = some v1 ∧
  (((((((W.setCell ⟨r,0,none⟩ v0).setCell ⟨r,1,none⟩ v1).setCell ⟨r,2,none⟩ v2).setCell ⟨r,3,none⟩ v3).setCell ⟨r,4,none⟩ v4).setCell ⟨r,5,none⟩ v5).setCell ⟨r,6,none⟩ v6).cell? ⟨r,2,none⟩ = some v2 ∧
  (((((((W.setCell ⟨r,0,none⟩ v0).setCell ⟨r,1,none⟩ v1).setCell ⟨r,2,none⟩ v2).setCell ⟨r,3,none⟩ v3).setCell ⟨r,4,none⟩ v4).setCell ⟨r,5,none⟩ v5).setCell ⟨r,6,none⟩ v6).cell? ⟨r,3,none⟩ = some v3 ∧
  (((((((W.setCell ⟨r,0,none⟩ v0).setCell ⟨r,1,none⟩ v1).setCell ⟨r,2,none⟩ v2).setCell ⟨r,3,none⟩ v3).setCell ⟨r,4,none⟩ v4).setCell ⟨r,5,none⟩ v5).setCell ⟨r,6,none⟩ v6).cell? ⟨r,4,none⟩ = some v4 ∧
  (((((((W.setCell ⟨r,0,none⟩ v0).setCell ⟨r,1,none⟩ v1).setCell ⟨r,2,none⟩ v2).setCell ⟨r,3,none⟩ v3).setCell ⟨r,4,none⟩ v4).setCell ⟨r,5,none⟩ v5).setCell ⟨r,6,none⟩ v6).cell? ⟨r,5,none⟩ = some v5 ∧
  (((((((W.setCell ⟨r,0,none⟩ v0).setCell ⟨r,1,none⟩ v1).setCell ⟨r,2,none⟩ v2).setCell ⟨r,3,none⟩ v3).setCell ⟨r,4,none⟩ v4).setCell ⟨r,5,none⟩ v5).setCell ⟨r,6,none⟩ v6).cell? ⟨r,6,none⟩ = some v6 := by
 have ne : ∀ i j : Nat,i ≠ j → (⟨r,i,none⟩ : Addr) ≠ ⟨r,j,none⟩ := fun i j hij h => hij (by injection h)
 obtain ⟨x0,h0⟩ := (hT 0 (by omega)).1
 obtain ⟨x1,h1⟩ := (hT 1 (by omega)).1
 obtain ⟨x2,h2⟩ := (hT 2 (by omega)).1
 obtain ⟨x3,h3⟩ := (hT 3 (by omega)).1
 obtain ⟨x4,h4⟩ := (hT 4 (by omega)).1
 obtain ⟨x5,h5⟩ := (hT 5 (by omega)).1
 obtain ⟨x6,h6⟩ := (hT 6 (by omega)).1
 refine ⟨?_,?_,?_,?_,?_,?_,?_⟩
 ·rw [set1_other (ne 6 0 (by omega)),set1_other (ne 5 0 (by omega)),set1_other (ne 4 0 (by omega)),set1_other (ne 3 0 (by omega)),set1_other (ne 2 0 (by omega)),set1_other (ne 1 0 (by omega))]; exact set1_same h0
 ·rw [set1_other (ne 6 1 (by omega)),set1_other (ne 5 1 (by omega)),set1_other (ne 4 1 (by omega)),set1_other (ne 3 1 (by omega)),set1_other (ne 2 1 (by omega))]; exact set1_same (by rw [set1_other (ne 0 1 (by omega))]; exact h1)
 ·rw [set1_other (ne 6 2 (by omega)),set1_other (ne 5 2 (by omega)),set1_other (ne 4 2 (by omega)),set1_other (ne 3 2 (by omega))]; exact set1_same (by rw [set1_other (ne 1 2 (by omega)),set1_other (ne 0 2 (by omega))]; exact h2)
 ·rw [set1_other (ne 6 3 (by omega)),set1_other (ne 5 3 (by omega)),set1_other (ne 4 3 (by omega))]; exact set1_same (by rw [set1_other (ne 2 3 (by omega)),set1_other (ne 1 3 (by omega)),set1_other (ne 0 3 (by omega))]; exact h3)
 ·rw [set1_other (ne 6 4 (by omega)),set1_other (ne 5 4 (by omega))]; exact set1_same (by rw [set1_other (ne 3 4 (by omega)),set1_other (ne 2 4 (by omega)),set1_other (ne 1 4 (by omega)),set1_other (ne 0 4 (by omega))]; exact h4)
 ·rw [set1_other (ne 6 5 (by omega))]; exact set1_same (by rw [set1_other (ne 4 5 (by omega)),set1_other (ne 3 5 (by omega)),set1_other (ne 2 5 (by omega)),set1_other (ne 1 5 (by omega)),set1_other (ne 0 5 (by omega))]; exact h5)
 ·exact set1_same (by rw [set1_other (ne 5 6 (by omega)),set1_other (ne 4 6 (by omega)),set1_other (ne 3 6 (by omega)),set1_other (ne 2 6 (by omega)),set1_other (ne 1 6 (by omega)),set1_other (ne 0 6 (by omega))]; exact h6)
def cmpI (x y : Int) : Int := if x < y then -1 else if y < x then 1 else 0
theorem cmpCompare_any (x y : Int) (w : World) : Calls Tryz.prog 88 #[.int .i64 x, .int .i64 y] w fun e w' => e = .returned (.int .i64 (cmpI x y)) ∧ w' = w := by
 unfold cmpI
 by_cases h1 : x < y
 ·rw [if_pos h1]
  go_enter Tryz.func88,Tryz.ntmps88
  go_wp2
  go_ret
  exact ⟨rfl,rfl⟩
 ·rw [if_neg h1]
  by_cases h2 : y < x
  ·rw [if_pos h2]
   go_enter Tryz.func88,Tryz.ntmps88
   go_wp2
   go_ret
   exact ⟨rfl,rfl⟩
  ·rw [if_neg h2]
   go_enter Tryz.func88,Tryz.ntmps88
   go_wp2
   go_ret
   exact ⟨rfl,rfl⟩
def Gro (V W' : World) : Prop := Below V.heap.size V W' ∧ V.drawn ≤ W'.drawn
theorem Gro.refl (V : World) : Gro V V := ⟨Below.refl _ _,Nat.le_refl _⟩
theorem Gro.trans {a b c : World} (h : Gro a b) (k : Gro b c) : Gro a c := ⟨bl_then h.1 k.1,Nat.le_trans h.2 k.2⟩
theorem Gro.alloc {a b : World} (h : Gro a b) (o : Obj) : Gro a (b.alloc o) := ⟨bl_alloc h.1 o,h.2⟩
theorem Gro.drew {a b : World} (h : Gro a b) : Gro a b.drew := ⟨h.1.drew,Nat.le_trans h.2 (Nat.le_succ _)⟩
end Go.Proofs.YtfkonhagjahgnaaGreat
namespace Go.Proofs.YtfkonhagjahgnaaGreat
open Go.RowKit Go.Sort Go.Shelf
theorem Gro.grow {V W' : World} (h : Gro V W') : ∃ q os',W' = Go.Sort.grow (V.drewN q) os' := by
 obtain ⟨hb,hd⟩ := h
 refine ⟨W'.drawn - V.drawn,W'.heap.extract V.heap.size W'.heap.size,?_⟩
 obtain ⟨hp,tp,dr,os,ou⟩ := W'
 obtain ⟨h1,h2,h3,h4,h5⟩ := hb
 simp only at h1 h2 h3 h4 h5 hd
 subst h1 h2 h3
 have e1 : V.drawn + (dr - V.drawn) = dr := by omega
 have e2 : V.heap ++ hp.extract V.heap.size hp.size = hp := by
  apply Array.ext
  ·simp; omega
  ·intro i hi hi'
   by_cases h : i < V.heap.size
   ·rw [Array.getElem_append_left h]
    have := h5 i h
    rw [Array.getElem?_eq_getElem hi',Array.getElem?_eq_getElem h] at this
    injection this with this
    exact this.symm
   ·rw [Array.getElem_append_right (by omega)]
    simp only [Array.getElem_extract]
    congr 1
    omega
 simp only [Go.Sort.grow,World.drewN,e1,e2]
theorem cmpI_lt (x y : Int) : cmpI x y < 0 ↔ x < y := by
 unfold cmpI
 by_cases h1 : x < y
 ·rw [if_pos h1]; simp [h1]
 ·rw [if_neg h1]
  by_cases h2 : y < x
  ·rw [if_pos h2]; simp [h1]
  ·rw [if_neg h2]; simp [h1]
theorem cmpI_zero (x y : Int) : cmpI x y = 0 ↔ x = y := by
 unfold cmpI
 by_cases h1 : x < y
 ·rw [if_pos h1]; simp; omega
 ·rw [if_neg h1]
  by_cases h2 : y < x
  ·rw [if_pos h2]; simp; omega
  ·rw [if_neg h2]; simp; omega
theorem grown_sortF (enc : Nat → List Value) (k : Nat) (w : World) (g off m : Nat) (d : Array Nat) (os : Array Obj) : w.grownBy (sortWorldK enc k w g off m d os) (some g) := by
 refine ⟨rfl,rfl,rfl,size_sortWorldK_c _ _ _ _ _ _ _ _,fun j hj hne => ?_⟩
 have hne' : g ≠ j := fun e => hne (by rw [e])
 show ((putRowK enc k (Sort.ahead w m) g off d).heap ++ os)[j]? = _
 have hs : (putRowK enc k (Sort.ahead w m) g off d).heap.size = w.heap.size := by
  show (putRow id (Sort.ahead w m) g off (flatK enc k d)).heap.size = _
  rw [size_putRow]; rfl
 rw [Array.getElem?_append_left (by rw [hs]; exact hj)]
 show (w.heap.modify g _)[j]? = _
 rw [Array.getElem?_modify,if_neg hne']
end Go.Proofs.YtfkonhagjahgnaaGreat
namespace Go.Proofs.YtfkonhagjahgnaaGreat
open Go.RowKit
end Go.Proofs.YtfkonhagjahgnaaGreat
