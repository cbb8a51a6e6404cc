/- Texts. -/
import Derived.Test.YtiephlohemphjaaGreatVTickViewer1
import Derived.Deep.DeepCutAuto
set_option linter.unusedSimpArgs false
set_option linter.unusedVariables false
set_option maxRecDepth 100000
set_option maxHeartbeats 32000000
namespace Go.Proofs.YtiephlohemphjaaGreat
open Go.RowKit
theorem PointFault_any (x y : Int) (w : World) : Calls Tryz.prog 270 #[.agg #[.int .i64 x, .int .i64 y]] w fun e w' => e = .returned (.int .i64 (codeP x y)) ∧ Below w.heap.size w w' := by
 have i0 : ∀ w,(Instr.index 323 (.agg #[.int .i64 x, .int .i64 y]) (.int .i64 0)).run Tryz.prog w = .ok (.int .i64 x) w := fun _ => by kernel_rfl
 have i1 : ∀ w,(Instr.index 323 (.agg #[.int .i64 x, .int .i64 y]) (.int .i64 1)).run Tryz.prog w = .ok (.int .i64 y) w := fun _ => by kernel_rfl
 have hk : Hid (codeP x y = if (-1024 ≤ x ∧ x ≤ 4096) ∧ (-1024 ≤ y ∧ y ≤ 4096) then 0 else 3) := by
  show _ = _
  unfold codeP
  simp only [okP_iff]
 go_enter Tryz.func270,Tryz.ntmps270
 go_wp2_with (go_at_call 272; refine (pairOf_any _ _ _).mono ?_; rintro e w' ⟨rfl,hb1⟩)
 have hB : Hid (Below w.heap.size w w') := by
  show Below _ _ _
  exact Qb
 clear hb1
 go_loop [7] (fun i => ∃ k : Nat,k ≤ 2 ∧ i = .int .i64 k ∧ (1 ≤ k → -1024 ≤ x ∧ x ≤ 4096) ∧ (2 ≤ k → -1024 ≤ y ∧ y ≤ 4096)) (fun i => 2 - (intOf i).toNat)
 case atStart => exact ⟨0,by omega,rfl,by omega,by omega⟩
 case round =>
  obtain ⟨k,hk2,rfl,hx,hy⟩ := hrel
  have hcase : k = 0 ∨ k = 1 ∨ k = 2 := by omega
  rcases hcase with rfl | rfl | rfl
  ·clear hx hy
   by_cases h1 : x < -1024
   ·go_wp2
    go_ret
    exact ⟨ret_int (by rw [hk.out]; simp; omega),hB.out⟩
   ·have h1' : decide (x < -1024) = false := by simpa using h1
    go_wp2
    ·go_ret
     exact ⟨ret_int (by rw [hk.out]; simp; omega),hB.out⟩
    ·go_round
     case rel => exact ⟨1,by omega,rfl,by omega,by omega⟩
     case measure => simp [intOf]
  ·have hx' := hx (by omega)
   clear hx hy
   by_cases h1 : y < -1024
   ·go_wp2
    go_ret
    exact ⟨ret_int (by rw [hk.out]; simp; omega),hB.out⟩
   ·have h1' : decide (y < -1024) = false := by simpa using h1
    go_wp2
    ·go_ret
     exact ⟨ret_int (by rw [hk.out]; simp; omega),hB.out⟩
    ·go_round
     case rel => exact ⟨2,by omega,rfl,by omega,by omega⟩
     case measure => simp [intOf]
  ·have hx' := hx (by omega)
   have hy' := hy (by omega)
   clear hx hy
   go_wp2
   go_ret
   exact ⟨ret_int (by rw [hk.out,if_pos ⟨hx',hy'⟩]),hB.out⟩
def PtsAt (w : World) (b off n : Nat) (X Y : Nat → Int) : Prop :=
 ∀ i,i < n → w.cell? ⟨b,off + i * 2,none⟩ = some (.int .i64 (X i)) ∧ w.cell? ⟨b,off + i * 2 + 1,none⟩ = some (.int .i64 (Y i))
theorem PtsAt.below {w w' : World} {b off n B : Nat} {X Y : Nat → Int} (h : PtsAt w b off n X Y) (hb : Below B w w') (hB : b < B) : PtsAt w' b off n X Y := fun i hi =>
 ⟨(hb.cell (p := ⟨b,off + i * 2,none⟩) hB).trans (h i hi).1,(hb.cell (p := ⟨b,off + i * 2 + 1,none⟩) hB).trans (h i hi).2⟩
def allOk (n : Nat) (X Y : Nat → Int) : Bool := decide (∀ i,i < n → okP (X i) (Y i) = true)
def codeN (n : Nat) (X Y : Nat → Int) : Int := if allOk n X Y = true then 0 else 3
theorem codeN_no {n : Nat} {X Y : Nat → Int} (k : Nat) (hk : k < n) (h : okP (X k) (Y k) = false) : codeN n X Y = 3 := by
 unfold codeN allOk
 rw [if_neg]
 intro hc
 have := of_decide_eq_true hc k hk
 rw [h] at this
 cases this
theorem codeN_ok {n : Nat} {X Y : Nat → Int} (h : ∀ i,i < n → okP (X i) (Y i) = true) : codeN n X Y = 0 := by
 unfold codeN allOk
 rw [if_pos (decide_eq_true h)]
theorem faultIn_any (b off n cap : Nat) (X Y : Nat → Int) (w : World) (hp : PtsAt w b off n X Y) (hbl : b < w.heap.size) (hcap : n ≤ cap) (hmax : n ≤ 1048576) :
  Calls Tryz.prog 271 #[.slice (some ⟨b,off,none⟩) n cap] w fun e w' => e = .returned (.int .i64 (codeN n X Y)) ∧ Below w.heap.size w w' := by
 have HP : Hid (PtsAt w b off n X Y) := hp
 clear hp
 go_enter Tryz.func271,Tryz.ntmps271
 go_wp2
 go_loopw [8] (fun i wr => ∃ k : Nat,k ≤ n ∧ i = .int .i64 k ∧ (∀ j,j < k → okP (X j) (Y j) = true) ∧ Below w.heap.size w wr) (fun i _ => n - (intOf i).toNat)
 case atStart => exact ⟨0,by omega,rfl,by omega,Below.refl _ _⟩
 case round =>
  obtain ⟨k,hk2,rfl,hok,hB⟩ := hrel
  by_cases hlt : k < n
  ·obtain ⟨hx,hy⟩ := (HP.out.below hB hbl) k hlt
   have HO : Hid (∀ j,j < k → okP (X j) (Y j) = true) := hok
   have HB : Hid (Below w.heap.size w wr) := hB
   have hsz := hB.size
   clear hok hB
   have hi : (k : Int) < (n : Int) := by omega
   cases hq : okP (X k) (Y k)
   ·have hz : codeP (X k) (Y k) = 3 := codeP_no hq
    go_wp2_with (go_at_call 270; refine (PointFault_any _ _ _).mono ?_; rintro e w' ⟨rfl,hb1⟩)
    go_ret
    exact ⟨ret_int (by rw [codeN_no k hlt hq]),by have HB' := HB.out; exact Qb⟩
   ·have hz : codeP (X k) (Y k) = 0 := codeP_ok hq
    go_wp2_with (go_at_call 270; refine (PointFault_any _ _ _).mono ?_; rintro e w' ⟨rfl,hb1⟩)
    go_roundw
    case rel => exact ⟨k + 1,by omega,by go_num,fun j hj => by
      by_cases e : j = k
      ·rw [e]; exact hq
      ·exact HO.out j (by omega),by have HB' := HB.out; exact Qb⟩
    case measure => simp [intOf]; omega
  ·go_wp2
   go_ret
   exact ⟨ret_int (codeN_ok (fun i hi => hok i (by omega))).symm,hB⟩
theorem l1Cross_any (ax ay bx by' cx cy : Int) (w : World) (ha : okP ax ay = true) (hb : okP bx by' = true) (hc : okP cx cy = true) :
  Calls Tryz.prog 232 #[.agg #[.int .i64 ax, .int .i64 ay], .agg #[.int .i64 bx, .int .i64 by'], .agg #[.int .i64 cx, .int .i64 cy]] w fun e w' => e = .returned (.int .i64 (crossI ax ay bx by' cx cy)) ∧ Below w.heap.size w w' := by
 obtain ⟨⟨a1,a2⟩,a3,a4⟩ := okP_bd ha
 obtain ⟨⟨b1,b2⟩,b3,b4⟩ := okP_bd hb
 obtain ⟨⟨c1,c2⟩,c3,c4⟩ := okP_bd hc
 clear ha hb hc
 unfold crossI
 obtain ⟨p1,p2⟩ := mul_bd (a := bx - ax) (b := cy - ay) (B := 5120) (C := 5120) (by omega) (by omega) (by omega) (by omega) (by omega)
 obtain ⟨q1,q2⟩ := mul_bd (a := by' - ay) (b := cx - ax) (B := 5120) (C := 5120) (by omega) (by omega) (by omega) (by omega) (by omega)
 go_enter Tryz.func232,Tryz.ntmps232
 go_wp2
 go_ret
 exact ⟨rfl,by (repeat (first|exact Qr _ _|assumption|refine Qd ?_|refine Qa ?_ _|refine Qt ?_|refine Qs ?_ _|refine Qo ?_ ?_ _ _))⟩
theorem l1Distance_any (ax ay bx by' : Int) (w : World) (ha : okP ax ay = true) (hb : okP bx by' = true) :
  Calls Tryz.prog 231 #[.agg #[.int .i64 ax, .int .i64 ay], .agg #[.int .i64 bx, .int .i64 by']] w fun e w' => e = .returned (.int .i64 (distI ax ay bx by')) ∧ Below w.heap.size w w' := by
 obtain ⟨⟨a1,a2⟩,a3,a4⟩ := okP_bd ha
 obtain ⟨⟨b1,b2⟩,b3,b4⟩ := okP_bd hb
 clear ha hb
 have hd : Hid (distI ax ay bx by' = (ax - bx) * (ax - bx) + (ay - by') * (ay - by')) := by
  show _ = _
  unfold distI
  rw [← Int.neg_sub ax bx, ← Int.neg_sub ay by',Int.neg_mul_neg,Int.neg_mul_neg]
 obtain ⟨p1,p2⟩ := mul_bd (a := ax - bx) (b := ax - bx) (B := 5120) (C := 5120) (by omega) (by omega) (by omega) (by omega) (by omega)
 obtain ⟨q1,q2⟩ := mul_bd (a := ay - by') (b := ay - by') (B := 5120) (C := 5120) (by omega) (by omega) (by omega) (by omega) (by omega)
 go_enter Tryz.func231,Tryz.ntmps231
 go_wp2
 go_ret
 exact ⟨ret_int hd.out.symm,by (repeat (first|exact Qr _ _|assumption|refine Qd ?_|refine Qa ?_ _|refine Qt ?_|refine Qs ?_ _|refine Qo ?_ ?_ _ _))⟩
def Df (x y : Int) : Prop := (-5120 ≤ x ∧ x ≤ 5120) ∧ (-5120 ≤ y ∧ y ≤ 5120)
theorem wayOf_any (ax ay bx by' : Int) (w : World) (ha : okP ax ay = true) (hb : okP bx by' = true) :
  Calls Tryz.prog 278 #[.agg #[.int .i64 ax, .int .i64 ay], .agg #[.int .i64 bx, .int .i64 by']] w fun e w' => e = .returned (.agg #[.int .i64 (bx - ax), .int .i64 (by' - ay)]) ∧ Below w.heap.size w w' := by
 obtain ⟨⟨a1,a2⟩,a3,a4⟩ := okP_bd ha
 obtain ⟨⟨b1,b2⟩,b3,b4⟩ := okP_bd hb
 clear ha hb
 go_enter Tryz.func278,Tryz.ntmps278
 go_wp2
 exact bodyPost_ret (v := .agg #[.int .i64 (bx - ax), .int .i64 (by' - ay)]) (by simp [results,Tryz.results278,go_sem]) rfl ⟨rfl,by (repeat (first|exact Qr _ _|assumption|refine Qd ?_|refine Qa ?_ _|refine Qt ?_|refine Qs ?_ _|refine Qo ?_ ?_ _ _))⟩
theorem dotOf_any (ax ay bx by' : Int) (w : World) (ha : Df ax ay) (hb : Df bx by') :
  Calls Tryz.prog 279 #[.agg #[.int .i64 ax, .int .i64 ay], .agg #[.int .i64 bx, .int .i64 by']] w fun e w' => e = .returned (.int .i64 (ax * bx + ay * by')) ∧ Below w.heap.size w w' := by
 obtain ⟨⟨a1,a2⟩,a3,a4⟩ := ha
 obtain ⟨⟨b1,b2⟩,b3,b4⟩ := hb
 obtain ⟨p1,p2⟩ := mul_bd (a := ax) (b := bx) (B := 5120) (C := 5120) (by omega) (by omega) (by omega) (by omega) (by omega)
 obtain ⟨q1,q2⟩ := mul_bd (a := ay) (b := by') (B := 5120) (C := 5120) (by omega) (by omega) (by omega) (by omega) (by omega)
 go_enter Tryz.func279,Tryz.ntmps279
 go_wp2
 go_ret
 exact ⟨rfl,by (repeat (first|exact Qr _ _|assumption|refine Qd ?_|refine Qa ?_ _|refine Qt ?_|refine Qs ?_ _|refine Qo ?_ ?_ _ _))⟩
theorem squareOf_any (ax ay : Int) (w : World) (ha : Df ax ay) :
  Calls Tryz.prog 277 #[.agg #[.int .i64 ax, .int .i64 ay]] w fun e w' => e = .returned (.int .i64 (ax * ax + ay * ay)) ∧ Below w.heap.size w w' := by
 have HA : Hid (Df ax ay) := ha
 clear ha
 go_enter Tryz.func277,Tryz.ntmps277
 go_wp2_with (go_at_call 279; refine (dotOf_any _ _ _ _ _ HA.out HA.out).mono ?_; rintro e w' ⟨rfl,hb1⟩)
 go_ret
 exact ⟨rfl,by (repeat (first|exact Qr _ _|assumption|refine Qd ?_|refine Qa ?_ _|refine Qt ?_|refine Qs ?_ _|refine Qo ?_ ?_ _ _))⟩
theorem eqPoint_any (ax ay : Int) (w : World) :
  Calls Tryz.prog 269 #[.agg #[.int .i64 ax, .int .i64 ay], .agg #[.int .i64 ax, .int .i64 ay]] w fun e w' => e = .returned (.bool true) ∧ Below w.heap.size w w' := by
 go_enter Tryz.func269,Tryz.ntmps269
 go_wp2
 go_ret
 exact ⟨rfl,by (repeat (first|exact Qr _ _|assumption|refine Qd ?_|refine Qa ?_ _|refine Qt ?_|refine Qs ?_ _|refine Qo ?_ ?_ _ _))⟩
def IsPts (w : World) (a : Option Addr) (n : Nat) (X Y : Nat → Int) : Prop :=
 n = 0 ∨ ∃ b off,a = some ⟨b,off,none⟩ ∧ b < w.heap.size ∧ PtsAt w b off n X Y
theorem IsPts.below {w w' : World} {a : Option Addr} {n : Nat} {X Y : Nat → Int} (h : IsPts w a n X Y) (hb : Below w.heap.size w w') : IsPts w' a n X Y := by
 rcases h with h | ⟨b,off,e,hl,hp⟩
 ·exact .inl h
 ·exact .inr ⟨b,off,e,Nat.lt_of_lt_of_le hl hb.size,hp.below hb hl⟩
theorem There.set {W : World} {r n : Nat} (h : There W r n) (o : Nat) (v : Value) : There (W.setCell ⟨r,o,none⟩ v) r n := fun o' ho => by
 obtain ⟨u,hu⟩ := (h o' ho).1
 refine ⟨?_,?_⟩
 ·by_cases e : o = o'
  ·subst e
   exact ⟨v,World.cell?_setCell_same _ _ _ (by rw [hu])⟩
  ·exact ⟨u,by rw [World.cell?_setCell_other]; exact hu; simp [e]⟩
 ·rw [World.frozen?_setCell]; exact (h o' ho).2
theorem fill_step {W : World} {B n k : Nat} {X Y : Nat → Int} (hT : There W B (n * 2)) (hk : k < n) (hp : PtsAt W B 0 k X Y) :
  PtsAt ((W.setCell ⟨B,k * 2,none⟩ (.int .i64 (X k))).setCell ⟨B,k * 2 + 1,none⟩ (.int .i64 (Y k))) B 0 (k + 1) X Y := fun i hi => by
 by_cases e : i = k
 ·subst e
  obtain ⟨u,hu⟩ := (hT (i * 2) (by omega)).1
  obtain ⟨v,hv⟩ := ((hT.set (i * 2) (.int .i64 (X i))) (i * 2 + 1) (by omega)).1
  refine ⟨?_,?_⟩
  ·rw [World.cell?_setCell_other]
   ·simpa using World.cell?_setCell_same _ _ _ (by rw [hu])
   ·simp
  ·simpa using World.cell?_setCell_same _ _ _ (by rw [hv])
 ·obtain ⟨h1,h2⟩ := hp i (by omega)
  refine ⟨?_,?_⟩
  ·rw [World.cell?_setCell_other,World.cell?_setCell_other]
   ·exact h1
   ·simp <;> omega
   ·simp <;> omega
  ·rw [World.cell?_setCell_other,World.cell?_setCell_other]
   ·exact h2
   ·simp <;> omega
   ·simp <;> omega
theorem info_ip : (Tryz.prog.info? 230).map (fun i => (i.zero,i.size,i.bytes)) = some (some (.agg #[.int .i64 0, .int .i64 0]),2,16) := by kernel_rfl
theorem make_pts (n : Nat) (h : n ≤ 1048576) (w : World) :
  (Instr.makeSlice 205 (.int .i64 (n : Int)) (.int .i64 (n : Int))).run Tryz.prog w = .ok (.slice (some ⟨w.heap.size,0,none⟩) n n) (w.alloc (.cells (madeCells #[.int .i64 0, .int .i64 0] (n * 2)) 230)) := by
 obtain ⟨i,hi,hz,hs,hb⟩ := info_parts info_ip
 have hr := run_make (P := Tryz.prog) w 205 230 i _ Tryz.underlying205 hi hz .i64 .i64 (n : Int) (n : Int) (by omega) (Int.le_refl _) (by rw [hb]; omega) (by omega)
 simp only [Int.toNat_natCast,hs] at hr
 exact hr
theorem there_made (n : Nat) (w : World) (t : TypeId) : There (w.alloc (.cells (madeCells #[.int .i64 0, .int .i64 0] n) t)) w.heap.size n := fun o ho => by
 have hz := size_madeCells #[.int .i64 0, .int .i64 0] n
 refine ⟨⟨(madeCells #[.int .i64 0, .int .i64 0] n)[o]'(by rw [hz]; exact ho),?_⟩,World.frozen?_alloc_at _ _ _ _ rfl⟩
 rw [World.cell?_alloc_at _ _ _ _ rfl]
 exact Array.getElem?_eq_getElem _
theorem toPointS_own (a : Option Addr) (n cap : Nat) (X Y : Nat → Int) (w : World) (hp : IsPts w a n X Y) (hmax : n ≤ 1048576) :
  Calls Tryz.prog 233 #[.slice a n cap] w fun e w' => ∃ b,e = .returned (.slice (some ⟨b,0,none⟩) n n) ∧ w.heap.size ≤ b ∧ b < w'.heap.size ∧ PtsAt w' b 0 n X Y ∧ There w' b (n * 2) ∧ Below w.heap.size w w' := by
 have hmk := make_pts n hmax
 have HP : Hid (IsPts w a n X Y) := hp
 clear hp
 go_enter Tryz.func233,Tryz.ntmps233
 go_wp2
 generalize hW : (w.alloc _ : World) = W
 have HB0 : Hid (Below w.heap.size w W) := by show Below _ _ _; subst hW; exact Qb
 have HT0 : Hid (There W w.heap.size (n * 2)) := by show There _ _ _; subst hW; exact there_made _ _ _
 have HL0 : Hid (w.heap.size < W.heap.size) := by show _ < _; subst hW; simp
 clear hW hmk
 go_loopw [4] (fun i wr => ∃ k : Nat,k ≤ n ∧ i = .int .i64 k ∧ Below w.heap.size w wr ∧ There wr w.heap.size (n * 2) ∧ PtsAt wr w.heap.size 0 k X Y ∧ w.heap.size < wr.heap.size) (fun i _ => n - (intOf i).toNat)
 case atStart => exact ⟨0,by omega,rfl,HB0.out,HT0.out,fun i hi => by omega,HL0.out⟩
 case round =>
  obtain ⟨k,hk,rfl,hB,hT,hPt,hlw⟩ := hrel
  by_cases hlt : k < n
  ·rcases HP.out with h0 | ⟨b,off,rfl,hbl,hpt⟩
   ·omega
   ·obtain ⟨hx,hy⟩ := (hpt.below hB hbl) k hlt
    have HB : Hid (Below w.heap.size w wr) := hB
    have HT : Hid (There wr w.heap.size (n * 2)) := hT
    have HQ : Hid (PtsAt wr w.heap.size 0 k X Y) := hPt
    clear hB hT hPt hpt
    have hi : (k : Int) < (n : Int) := by omega
    go_wp2_with fail
    refine (toPoint_any _ _ _).mono ?_
    rintro e w' ⟨rfl,hb⟩
    have hT' := HT.out.below hb
    have t0 := hT'.cell (k * 2) (by omega)
    have t1 := hT'.cell (k * 2 + 1) (by omega)
    have f0 := (hT' (k * 2) (by omega)).2
    have f1 := (hT' (k * 2 + 1) (by omega)).2
    have HT' : Hid (There w' w.heap.size (n * 2)) := hT'
    clear hT'
    go_wp2
    go_roundw
    case rel =>
     have hsz := hb.size
     refine ⟨k + 1,by omega,by go_num,?_,(HT'.out.set _ _).set _ _,fill_step HT'.out hlt (HQ.out.below hb hlw),?_⟩
     ·have HB' := HB.out
      exact Qb
     ·simp; omega
    case measure => simp [intOf]; omega
  ·go_wp2
   go_ret
   have hkn : k = n := by omega
   subst hkn
   exact ⟨_,rfl,Nat.le_refl _,hlw,hPt,hT,hB⟩
theorem eqPointS_any (b d n : Nat) (X Y : Nat → Int) (w : World) (hp : PtsAt w b 0 n X Y) (hq : PtsAt w d 0 n X Y) (hb : b < w.heap.size) (hd : d < w.heap.size) (hmax : n ≤ 1048576) :
  Calls Tryz.prog 254 #[.slice (some ⟨b,0,none⟩) n n, .slice (some ⟨d,0,none⟩) n n] w fun e w' => e = .returned (.bool true) ∧ Below w.heap.size w w' := by
 have HP : Hid (PtsAt w b 0 n X Y) := hp
 have HQ : Hid (PtsAt w d 0 n X Y) := hq
 clear hp hq
 go_enter Tryz.func254,Tryz.ntmps254
 go_wp2
 go_loopw [5] (fun i wr => ∃ k : Nat,k ≤ n ∧ i = .int .i64 k ∧ Below w.heap.size w wr) (fun i _ => n - (intOf i).toNat)
 case atStart => exact ⟨0,by omega,rfl,Below.refl _ _⟩
 case round =>
  obtain ⟨k,hk,rfl,hB⟩ := hrel
  by_cases hlt : k < n
  ·have c0 : ∀ W',Below wr.heap.size wr W' → W'.cell? ⟨b,k * 2,none⟩ = some (.int .i64 (X k)) := fun W' h => by
    simpa using ((HP.out.below hB hb).below h (Nat.lt_of_lt_of_le hb hB.size) k hlt).1
   have c1 : ∀ W',Below wr.heap.size wr W' → W'.cell? ⟨b,k * 2 + 1,none⟩ = some (.int .i64 (Y k)) := fun W' h => by
    simpa using ((HP.out.below hB hb).below h (Nat.lt_of_lt_of_le hb hB.size) k hlt).2
   have e0 : ∀ W',Below wr.heap.size wr W' → W'.cell? ⟨d,k * 2,none⟩ = some (.int .i64 (X k)) := fun W' h => by
    simpa using ((HQ.out.below hB hd).below h (Nat.lt_of_lt_of_le hd hB.size) k hlt).1
   have e1 : ∀ W',Below wr.heap.size wr W' → W'.cell? ⟨d,k * 2 + 1,none⟩ = some (.int .i64 (Y k)) := fun W' h => by
    simpa using ((HQ.out.below hB hd).below h (Nat.lt_of_lt_of_le hd hB.size) k hlt).2
   have HB : Hid (Below w.heap.size w wr) := hB
   clear hB
   have hi : (k : Int) < (n : Int) := by omega
   have hi0 : (0 : Int) ≤ (k : Int) := by omega
   go_wp2
   go_region_held3 (fun W' => Below wr.heap.size wr W') ((repeat (first|exact Qr _ _|assumption|refine Qd ?_|refine Qa ?_ _|refine Qt ?_|refine Qs ?_ _|refine Qo ?_ ?_ _ _)))
    (first
     | (go_at_call 269; refine (eqPoint_any _ _ _).mono ?_; rintro e w' ⟨rfl,hb⟩))
   go_wp2
   go_roundw
   case rel => exact ⟨k + 1,by omega,by go_num,bl_then HB.out (by assumption)⟩
   case measure => simp [intOf]; omega
  ·go_wp2
   go_ret
   exact ⟨rfl,hB⟩
theorem isWithin_any (v lo hi : Int) (w : World) : Calls Tryz.prog 36 #[.int .i64 v, .int .i64 lo, .int .i64 hi] w fun e w' => e = .returned (.bool (inB v lo hi)) ∧ w' = w := by
 unfold inB
 go_enter Tryz.func36,Tryz.ntmps36
 by_cases h1 : lo ≤ v
 ·go_wp2
  all_goals (go_ret; exact ⟨ret_bool (by simp [h1]),rfl⟩)
 ·have h2 : decide (lo ≤ v) = false := by simpa using h1
  go_wp2
  all_goals (go_ret; exact ⟨ret_bool (by simp [h1]),rfl⟩)
def inW (x y : Int) : Bool := inB x 0 1024 && inB y 0 1024
theorem isInWorld_any (x y : Int) (w : World) : Calls Tryz.prog 237 #[.agg #[.int .i64 x, .int .i64 y]] w fun e w' => e = .returned (.bool (inW x y)) ∧ Below w.heap.size w w' := by
 unfold inW
 cases h1 : inB x 0 1024 <;> cases h2 : inB y 0 1024
 all_goals
  go_enter Tryz.func237,Tryz.ntmps237
  go_wp2_with (go_at_call 36; refine (isWithin_any _ _ _ _).mono ?_; rintro e w' ⟨rfl,rfl⟩)
  all_goals (go_ret; exact ⟨ret_bool (by simp [h1,h2]),by (repeat (first|exact Qr _ _|assumption|refine Qd ?_|refine Qa ?_ _|refine Qt ?_|refine Qs ?_ _|refine Qo ?_ ?_ _ _))⟩)
def zoomB (z : Int) : Bool := inB z 0 3
theorem zoomB_cases {z : Int} (h : zoomB z = true) : z = 0 ∨ z = 1 ∨ z = 2 ∨ z = 3 := by
 simp [zoomB,inB] at h
 omega
def unitI (z : Int) : Int := if z = 0 then 128 else if z = 1 then 64 else if z = 2 then 32 else 16
def unitV (z : Int) : Value := if zoomB z = true then .agg #[.int .i64 0, .int .i64 (unitI z)] else .agg #[.int .i64 3, .int .i64 0]
theorem isZoom_any (z : Int) (w : World) : Calls Tryz.prog 102 #[.int .i64 z] w fun e w' => e = .returned (.bool (zoomB z)) ∧ w = w' := by
 unfold zoomB
 go_enter Tryz.func102,Tryz.ntmps102
 go_wp2_with (go_at_call 36; refine (isWithin_any _ _ _ _).mono ?_; rintro e w' ⟨rfl,rfl⟩)
 go_ret
 exact ⟨rfl,rfl⟩
theorem impl_UnitAt_any (z : Int) (w : World) : Calls Tryz.prog 217 #[.int .i64 z] w fun e w' => e = .returned (unitV z) ∧ Below w.heap.size w w' := by
 cases h : zoomB z
 ·go_enter Tryz.func217,Tryz.ntmps217
  go_wp2_with (go_at_call 102; refine (isZoom_any _ _).mono ?_; rintro e w' ⟨rfl,rfl⟩)
  exact bodyPost_ret (v := .agg #[.int .i64 3, .int .i64 0]) (by simp [results,Tryz.results217,go_sem]) rfl ⟨by simp [unitV,h],by (repeat (first|exact Qr _ _|assumption|refine Qd ?_|refine Qa ?_ _|refine Qt ?_|refine Qs ?_ _|refine Qo ?_ ?_ _ _))⟩
 ·rcases zoomB_cases h with rfl | rfl | rfl | rfl
  all_goals
   go_enter Tryz.func217,Tryz.ntmps217
   go_wp2_with (go_at_call 102; refine (isZoom_any _ _).mono ?_; rintro e w' ⟨rfl,rfl⟩)
   first
    | exact bodyPost_ret (v := .agg #[.int .i64 0, .int .i64 128]) (by simp [results,Tryz.results217,go_sem]; done) rfl ⟨rfl,by (repeat (first|exact Qr _ _|assumption|refine Qd ?_|refine Qa ?_ _|refine Qt ?_|refine Qs ?_ _|refine Qo ?_ ?_ _ _))⟩
    | exact bodyPost_ret (v := .agg #[.int .i64 0, .int .i64 64]) (by simp [results,Tryz.results217,go_sem]; done) rfl ⟨rfl,by (repeat (first|exact Qr _ _|assumption|refine Qd ?_|refine Qa ?_ _|refine Qt ?_|refine Qs ?_ _|refine Qo ?_ ?_ _ _))⟩
    | exact bodyPost_ret (v := .agg #[.int .i64 0, .int .i64 32]) (by simp [results,Tryz.results217,go_sem]; done) rfl ⟨rfl,by (repeat (first|exact Qr _ _|assumption|refine Qd ?_|refine Qa ?_ _|refine Qt ?_|refine Qs ?_ _|refine Qo ?_ ?_ _ _))⟩
    | exact bodyPost_ret (v := .agg #[.int .i64 0, .int .i64 16]) (by simp [results,Tryz.results217,go_sem]; done) rfl ⟨rfl,by (repeat (first|exact Qr _ _|assumption|refine Qd ?_|refine Qa ?_ _|refine Qt ?_|refine Qs ?_ _|refine Qo ?_ ?_ _ _))⟩
theorem l3Zoom_any (z : Int) (w : World) : Calls Tryz.prog 86 #[.int .i64 z] w fun e w' => e = .returned (.bool (zoomB z)) ∧ w = w' := by
 unfold zoomB
 go_enter Tryz.func86,Tryz.ntmps86
 go_wp2_with (go_at_call 30; refine (l1In_any _ _ _ _).mono ?_; rintro e w' ⟨rfl,rfl⟩)
 go_ret
 exact ⟨rfl,rfl⟩
theorem l3Unit_any (z : Int) (w : World) (h : zoomB z = true) : Calls Tryz.prog 229 #[.int .i64 z] w fun e w' => e = .returned (.int .i64 (unitI z)) ∧ w = w' := by
 rcases zoomB_cases h with rfl | rfl | rfl | rfl
 all_goals
  go_enter Tryz.func229,Tryz.ntmps229
  go_wp2
  go_ret
  exact ⟨rfl,rfl⟩
theorem inW_bd {x y : Int} (h : inW x y = true) : (0 ≤ x ∧ x ≤ 1024) ∧ (0 ≤ y ∧ y ≤ 1024) := by
 simp [inW,inB] at h
 omega
theorem set3_at {W : World} {r : Nat} {a b c : Value} (hT : There W r 3) :
  (((W.setCell ⟨r,0,none⟩ a).setCell ⟨r,1,none⟩ b).setCell ⟨r,2,none⟩ c).cell? ⟨r,0,none⟩ = some a ∧
  (((W.setCell ⟨r,0,none⟩ a).setCell ⟨r,1,none⟩ b).setCell ⟨r,2,none⟩ c).cell? ⟨r,1,none⟩ = some b ∧
  (((W.setCell ⟨r,0,none⟩ a).setCell ⟨r,1,none⟩ b).setCell ⟨r,2,none⟩ c).cell? ⟨r,2,none⟩ = some c := by
 obtain ⟨x0,h0⟩ := (hT 0 (by omega)).1
 obtain ⟨x1,h1⟩ := (hT 1 (by omega)).1
 obtain ⟨x2,h2⟩ := (hT 2 (by omega)).1
 have ne : ∀ i j : Nat,i ≠ j → (⟨r,i,none⟩ : Addr) ≠ ⟨r,j,none⟩ := fun i j hij h => hij (by injection h)
 refine ⟨?_,?_,?_⟩
 ·rw [set1_other (ne 2 0 (by omega)),set1_other (ne 1 0 (by omega))]; exact set1_same h0
 ·rw [set1_other (ne 2 1 (by omega))]; exact set1_same (by rw [set1_other (ne 0 1 (by omega))]; exact h1)
 ·exact set1_same (by rw [set1_other (ne 1 2 (by omega)),set1_other (ne 0 2 (by omega))]; exact h2)
theorem there3 (V : World) (a b c : Value) (t : TypeId) : There (V.alloc (.cells #[a,b,c] t)) V.heap.size 3 := fun o ho => by
 refine ⟨⟨#[a,b,c][o]'(by simpa using ho),?_⟩,World.frozen?_alloc_at _ _ _ _ rfl⟩
 rw [World.cell?_alloc_at _ _ _ _ rfl]
 exact Array.getElem?_eq_getElem _
theorem there2 (V : World) (a b : Value) (t : TypeId) : There (V.alloc (.cells #[a,b] t)) V.heap.size 2 := fun o ho => by
 refine ⟨⟨#[a,b][o]'(by simpa using ho),?_⟩,World.frozen?_alloc_at _ _ _ _ rfl⟩
 rw [World.cell?_alloc_at _ _ _ _ rfl]
 exact Array.getElem?_eq_getElem _
def alongI (px py ax ay bx by' : Int) : Int := (px - ax) * (bx - ax) + (py - ay) * (by' - ay)
def overI (px py ax ay bx by' : Int) : Int :=
 if alongI px py ax ay bx by' ≤ 0 then distI px py ax ay
 else if distI ax ay bx by' ≤ alongI px py ax ay bx by' then distI px py bx by'
 else crossI ax ay bx by' px py * crossI ax ay bx by' px py
def underI (px py ax ay bx by' : Int) : Int :=
 if alongI px py ax ay bx by' ≤ 0 then 1
 else if distI ax ay bx by' ≤ alongI px py ax ay bx by' then 1
 else distI ax ay bx by'
def nearB (px py ax ay bx by' r : Int) : Bool := decide (overI px py ax ay bx by' ≤ r * r * underI px py ax ay bx by')
theorem sq_nonneg (a : Int) : 0 ≤ a * a := by
 rw [← Int.natAbs_mul_self]
 exact Int.natCast_nonneg _
theorem dist_bd {ax ay bx by' : Int} (ha : okP ax ay = true) (hb : okP bx by' = true) : 0 ≤ distI ax ay bx by' ∧ distI ax ay bx by' ≤ 52428800 := by
 obtain ⟨⟨a1,a2⟩,a3,a4⟩ := okP_bd ha
 obtain ⟨⟨b1,b2⟩,b3,b4⟩ := okP_bd hb
 obtain ⟨p1,p2⟩ := mul_bd (a := bx - ax) (b := bx - ax) (B := 5120) (C := 5120) (by omega) (by omega) (by omega) (by omega) (by omega)
 obtain ⟨q1,q2⟩ := mul_bd (a := by' - ay) (b := by' - ay) (B := 5120) (C := 5120) (by omega) (by omega) (by omega) (by omega) (by omega)
 have s1 : 0 ≤ (bx - ax) * (bx - ax) := sq_nonneg _
 have s2 : 0 ≤ (by' - ay) * (by' - ay) := sq_nonneg _
 unfold distI
 omega
theorem cross_bd {ax ay bx by' cx cy : Int} (ha : okP ax ay = true) (hb : okP bx by' = true) (hc : okP cx cy = true) : -52428800 ≤ crossI ax ay bx by' cx cy ∧ crossI ax ay bx by' cx cy ≤ 52428800 := by
 obtain ⟨⟨a1,a2⟩,a3,a4⟩ := okP_bd ha
 obtain ⟨⟨b1,b2⟩,b3,b4⟩ := okP_bd hb
 obtain ⟨⟨c1,c2⟩,c3,c4⟩ := okP_bd hc
 obtain ⟨p1,p2⟩ := mul_bd (a := bx - ax) (b := cy - ay) (B := 5120) (C := 5120) (by omega) (by omega) (by omega) (by omega) (by omega)
 obtain ⟨q1,q2⟩ := mul_bd (a := by' - ay) (b := cx - ax) (B := 5120) (C := 5120) (by omega) (by omega) (by omega) (by omega) (by omega)
 unfold crossI
 omega
theorem sq_bd {r : Int} (h0 : 0 ≤ r) (h1 : r ≤ 4096) : 0 ≤ r * r ∧ r * r ≤ 16777216 := by
 obtain ⟨p1,p2⟩ := mul_bd (a := r) (b := r) (B := 4096) (C := 4096) (by omega) (by omega) (by omega) (by omega) (by omega)
 exact ⟨sq_nonneg _,by omega⟩
theorem l1Near_any (px py ax ay bx by' r : Int) (w : World) (hp : okP px py = true) (ha : okP ax ay = true) (hb : okP bx by' = true) (h0 : 0 ≤ r) (h1 : r ≤ 4096) :
  Calls Tryz.prog 205 #[.agg #[.int .i64 px, .int .i64 py], .agg #[.int .i64 ax, .int .i64 ay], .agg #[.int .i64 bx, .int .i64 by'], .int .i64 r] w fun e w' => e = .returned (.bool (nearB px py ax ay bx by' r)) ∧ Below w.heap.size w w' := by
 obtain ⟨⟨p1,p2⟩,p3,p4⟩ := okP_bd hp
 obtain ⟨⟨a1,a2⟩,a3,a4⟩ := okP_bd ha
 obtain ⟨⟨b1,b2⟩,b3,b4⟩ := okP_bd hb
 obtain ⟨m1,m2⟩ := mul_bd (a := px - ax) (b := bx - ax) (B := 5120) (C := 5120) (by omega) (by omega) (by omega) (by omega) (by omega)
 obtain ⟨m3,m4⟩ := mul_bd (a := py - ay) (b := by' - ay) (B := 5120) (C := 5120) (by omega) (by omega) (by omega) (by omega) (by omega)
 obtain ⟨s1,s2⟩ := sq_bd h0 h1
 obtain ⟨d1,d2⟩ := dist_bd ha hb
 obtain ⟨x1,x2⟩ := cross_bd ha hb hp
 obtain ⟨x3,x4⟩ := mul_bd (a := crossI ax ay bx by' px py) (b := crossI ax ay bx by' px py) (B := 52428800) (C := 52428800) (by omega) (by omega) (by omega) (by omega) (by omega)
 obtain ⟨x5,x6⟩ := mul_bd (a := r * r) (b := distI ax ay bx by') (B := 16777216) (C := 52428800) (by omega) (by omega) (by omega) (by omega) (by omega)
 have HP : Hid _ := hp
 have HA : Hid _ := ha
 have HB : Hid _ := hb
 clear hp ha hb
 have HO : Hid (nearB px py ax ay bx by' r = decide (overI px py ax ay bx by' ≤ r * r * underI px py ax ay bx by')) := rfl
 by_cases c1 : (px - ax) * (bx - ax) + (py - ay) * (by' - ay) ≤ 0
 ·have HE : Hid (nearB px py ax ay bx by' r = decide (distI px py ax ay ≤ r * r)) := by
   show _ = _
   simp [nearB,overI,underI,alongI,c1]
  go_enter Tryz.func205,Tryz.ntmps205
  go_wp2_with fail
  generalize hW : (((w.alloc _).alloc _).alloc _ : World) = W
  have hB0 : Below w.heap.size w W := by subst hW; exact Qb
  have c00 : ∀ W',Below W.heap.size W W' → W'.cell? ⟨w.heap.size,0,none⟩ = some (.int .i64 px) := fun W' h => by
   rw [h.cell (by subst hW; simp <;> omega)]; subst hW; simp [go_sem]
  have c01 : ∀ W',Below W.heap.size W W' → W'.cell? ⟨w.heap.size,1,none⟩ = some (.int .i64 py) := fun W' h => by
   rw [h.cell (by subst hW; simp <;> omega)]; subst hW; simp [go_sem]
  have c10 : ∀ W',Below W.heap.size W W' → W'.cell? ⟨w.heap.size + 1,0,none⟩ = some (.int .i64 ax) := fun W' h => by
   rw [h.cell (by subst hW; simp <;> omega)]; subst hW; simp [go_sem]
  have c11 : ∀ W',Below W.heap.size W W' → W'.cell? ⟨w.heap.size + 1,1,none⟩ = some (.int .i64 ay) := fun W' h => by
   rw [h.cell (by subst hW; simp <;> omega)]; subst hW; simp [go_sem]
  have c20 : ∀ W',Below W.heap.size W W' → W'.cell? ⟨w.heap.size + 1 + 1,0,none⟩ = some (.int .i64 bx) := fun W' h => by
   rw [h.cell (by subst hW; simp <;> omega)]; subst hW; simp [go_sem]
  have c21 : ∀ W',Below W.heap.size W W' → W'.cell? ⟨w.heap.size + 1 + 1,1,none⟩ = some (.int .i64 by') := fun W' h => by
   rw [h.cell (by subst hW; simp <;> omega)]; subst hW; simp [go_sem]
  clear hW
  have HB0 : Hid (Below w.heap.size w W) := hB0
  clear hB0
  have hr : Below W.heap.size W W := Below.refl _ _
  go_wp2_with (first
   | (go_at_call 231; refine (l1Distance_any _ _ _ _ _ (by first | exact HP.out | exact HA.out) (by first | exact HA.out | exact HB.out)).mono ?_; rintro e w' ⟨rfl,hb⟩; have hbn : Below W.heap.size W w' := (by exact Qb)))
  go_ret
  exact ⟨ret_bool HE.out.symm,by have HB1 := HB0.out; exact Qb⟩
 ·by_cases c2 : distI ax ay bx by' ≤ (px - ax) * (bx - ax) + (py - ay) * (by' - ay)
  ·have HE : Hid (nearB px py ax ay bx by' r = decide (distI px py bx by' ≤ r * r)) := by
    show _ = _
    simp [nearB,overI,underI,alongI,c1,c2]
   go_enter Tryz.func205,Tryz.ntmps205
   go_wp2_with fail
   generalize hW : (((w.alloc _).alloc _).alloc _ : World) = W
   have hB0 : Below w.heap.size w W := by subst hW; exact Qb
   have c00 : ∀ W',Below W.heap.size W W' → W'.cell? ⟨w.heap.size,0,none⟩ = some (.int .i64 px) := fun W' h => by
    rw [h.cell (by subst hW; simp <;> omega)]; subst hW; simp [go_sem]
   have c01 : ∀ W',Below W.heap.size W W' → W'.cell? ⟨w.heap.size,1,none⟩ = some (.int .i64 py) := fun W' h => by
    rw [h.cell (by subst hW; simp <;> omega)]; subst hW; simp [go_sem]
   have c10 : ∀ W',Below W.heap.size W W' → W'.cell? ⟨w.heap.size + 1,0,none⟩ = some (.int .i64 ax) := fun W' h => by
    rw [h.cell (by subst hW; simp <;> omega)]; subst hW; simp [go_sem]
   have c11 : ∀ W',Below W.heap.size W W' → W'.cell? ⟨w.heap.size + 1,1,none⟩ = some (.int .i64 ay) := fun W' h => by
    rw [h.cell (by subst hW; simp <;> omega)]; subst hW; simp [go_sem]
   have c20 : ∀ W',Below W.heap.size W W' → W'.cell? ⟨w.heap.size + 1 + 1,0,none⟩ = some (.int .i64 bx) := fun W' h => by
    rw [h.cell (by subst hW; simp <;> omega)]; subst hW; simp [go_sem]
   have c21 : ∀ W',Below W.heap.size W W' → W'.cell? ⟨w.heap.size + 1 + 1,1,none⟩ = some (.int .i64 by') := fun W' h => by
    rw [h.cell (by subst hW; simp <;> omega)]; subst hW; simp [go_sem]
   clear hW
   have HB0 : Hid (Below w.heap.size w W) := hB0
   clear hB0
   have hr : Below W.heap.size W W := Below.refl _ _
   go_wp2_with (first
    | (go_at_call 231; refine (l1Distance_any _ _ _ _ _ (by first | exact HP.out | exact HA.out) (by first | exact HA.out | exact HB.out)).mono ?_; rintro e w' ⟨rfl,hb⟩; have hbn : Below W.heap.size W w' := (by exact Qb)))
   go_ret
   exact ⟨ret_bool HE.out.symm,by have HB1 := HB0.out; exact Qb⟩
  ·have HE : Hid (nearB px py ax ay bx by' r = decide (crossI ax ay bx by' px py * crossI ax ay bx by' px py ≤ r * r * distI ax ay bx by')) := by
    show _ = _
    simp [nearB,overI,underI,alongI,c1,c2]
   go_enter Tryz.func205,Tryz.ntmps205
   go_wp2_with fail
   generalize hW : (((w.alloc _).alloc _).alloc _ : World) = W
   have hB0 : Below w.heap.size w W := by subst hW; exact Qb
   have c00 : ∀ W',Below W.heap.size W W' → W'.cell? ⟨w.heap.size,0,none⟩ = some (.int .i64 px) := fun W' h => by
    rw [h.cell (by subst hW; simp <;> omega)]; subst hW; simp [go_sem]
   have c01 : ∀ W',Below W.heap.size W W' → W'.cell? ⟨w.heap.size,1,none⟩ = some (.int .i64 py) := fun W' h => by
    rw [h.cell (by subst hW; simp <;> omega)]; subst hW; simp [go_sem]
   have c10 : ∀ W',Below W.heap.size W W' → W'.cell? ⟨w.heap.size + 1,0,none⟩ = some (.int .i64 ax) := fun W' h => by
    rw [h.cell (by subst hW; simp <;> omega)]; subst hW; simp [go_sem]
   have c11 : ∀ W',Below W.heap.size W W' → W'.cell? ⟨w.heap.size + 1,1,none⟩ = some (.int .i64 ay) := fun W' h => by
    rw [h.cell (by subst hW; simp <;> omega)]; subst hW; simp [go_sem]
   have c20 : ∀ W',Below W.heap.size W W' → W'.cell? ⟨w.heap.size + 1 + 1,0,none⟩ = some (.int .i64 bx) := fun W' h => by
    rw [h.cell (by subst hW; simp <;> omega)]; subst hW; simp [go_sem]
   have c21 : ∀ W',Below W.heap.size W W' → W'.cell? ⟨w.heap.size + 1 + 1,1,none⟩ = some (.int .i64 by') := fun W' h => by
    rw [h.cell (by subst hW; simp <;> omega)]; subst hW; simp [go_sem]
   clear hW
   have HB0 : Hid (Below w.heap.size w W) := hB0
   clear hB0
   have hr : Below W.heap.size W W := Below.refl _ _
   go_wp2_with (first
    | (go_at_call 231; refine (l1Distance_any _ _ _ _ _ (by first | exact HP.out | exact HA.out) (by first | exact HA.out | exact HB.out)).mono ?_; rintro e w' ⟨rfl,hb⟩; have hbn : Below W.heap.size W w' := (by exact Qb))
    | (go_at_call 232; refine (l1Cross_any _ _ _ _ _ _ _ (by exact HA.out) (by exact HB.out) (by exact HP.out)).mono ?_; rintro e w' ⟨rfl,hb⟩; have hbn : Below W.heap.size W w' := (by exact Qb)))
   go_ret
   exact ⟨ret_bool HE.out.symm,by have HB1 := HB0.out; exact Qb⟩
abbrev wayOfW (ax ay bx by' : Int) (w : World) : World := ((w.alloc (.cells #[.int .i64 ax, .int .i64 ay] 323)).alloc (.cells #[.int .i64 bx, .int .i64 by'] 323)).alloc (.cells #[.int .i64 (bx - ax), .int .i64 (by' - ay)] 323)
theorem wayOf_ex (ax ay bx by' : Int) (w : World) (ha : okP ax ay = true) (hb : okP bx by' = true) :
  Calls Tryz.prog 278 #[.agg #[.int .i64 ax, .int .i64 ay], .agg #[.int .i64 bx, .int .i64 by']] w fun e w' => e = .returned (.agg #[.int .i64 (bx - ax), .int .i64 (by' - ay)]) ∧ wayOfW ax ay bx by' w = w' := by
 obtain ⟨⟨a1,a2⟩,a3,a4⟩ := okP_bd ha
 obtain ⟨⟨b1,b2⟩,b3,b4⟩ := okP_bd hb
 clear ha hb
 go_enter Tryz.func278,Tryz.ntmps278
 go_wp2
 exact bodyPost_ret (v := .agg #[.int .i64 (bx - ax), .int .i64 (by' - ay)]) (by simp [results,Tryz.results278,go_sem]) rfl ⟨rfl,rfl⟩
theorem turnOf_any (ax ay bx by' cx cy : Int) (w : World) (ha : okP ax ay = true) (hb : okP bx by' = true) (hc : okP cx cy = true) :
  Calls Tryz.prog 276 #[.agg #[.int .i64 ax, .int .i64 ay], .agg #[.int .i64 bx, .int .i64 by'], .agg #[.int .i64 cx, .int .i64 cy]] w fun e w' => e = .returned (.int .i64 (crossI ax ay bx by' cx cy)) ∧ Below w.heap.size w w' := by
 obtain ⟨⟨a1,a2⟩,a3,a4⟩ := okP_bd ha
 obtain ⟨⟨b1,b2⟩,b3,b4⟩ := okP_bd hb
 obtain ⟨⟨c1,c2⟩,c3,c4⟩ := okP_bd hc
 have HA : Hid _ := ha
 have HB : Hid _ := hb
 have HC : Hid _ := hc
 clear ha hb hc
 unfold crossI
 obtain ⟨p1,p2⟩ := mul_bd (a := bx - ax) (b := cy - ay) (B := 5120) (C := 5120) (by omega) (by omega) (by omega) (by omega) (by omega)
 obtain ⟨q1,q2⟩ := mul_bd (a := by' - ay) (b := cx - ax) (B := 5120) (C := 5120) (by omega) (by omega) (by omega) (by omega) (by omega)
 go_enter Tryz.func276,Tryz.ntmps276
 go_wp2
 generalize hW : (((w.alloc _).alloc _).alloc _ : World) = W
 have hB0 : Below w.heap.size w W := by subst hW; exact Qb
 have c00 : ∀ W',Below W.heap.size W W' → W'.cell? ⟨w.heap.size,0,none⟩ = some (.int .i64 ax) := fun W' h => by
  rw [h.cell (by subst hW; simp <;> omega)]; subst hW; simp [go_sem]
 have c01 : ∀ W',Below W.heap.size W W' → W'.cell? ⟨w.heap.size,1,none⟩ = some (.int .i64 ay) := fun W' h => by
  rw [h.cell (by subst hW; simp <;> omega)]; subst hW; simp [go_sem]
 have c10 : ∀ W',Below W.heap.size W W' → W'.cell? ⟨w.heap.size + 1,0,none⟩ = some (.int .i64 bx) := fun W' h => by
  rw [h.cell (by subst hW; simp <;> omega)]; subst hW; simp [go_sem]
 have c11 : ∀ W',Below W.heap.size W W' → W'.cell? ⟨w.heap.size + 1,1,none⟩ = some (.int .i64 by') := fun W' h => by
  rw [h.cell (by subst hW; simp <;> omega)]; subst hW; simp [go_sem]
 have c20 : ∀ W',Below W.heap.size W W' → W'.cell? ⟨w.heap.size + 1 + 1,0,none⟩ = some (.int .i64 cx) := fun W' h => by
  rw [h.cell (by subst hW; simp <;> omega)]; subst hW; simp [go_sem]
 have c21 : ∀ W',Below W.heap.size W W' → W'.cell? ⟨w.heap.size + 1 + 1,1,none⟩ = some (.int .i64 cy) := fun W' h => by
  rw [h.cell (by subst hW; simp <;> omega)]; subst hW; simp [go_sem]
 clear hW
 have HB0 : Hid (Below w.heap.size w W) := hB0
 clear hB0
 go_cut [7,8] (fun t s wc => ∃ b d : Nat,t = .pointer (some ⟨b,0,none⟩) ∧ s = .pointer (some ⟨d,0,none⟩) ∧ Below W.heap.size W wc ∧ wc.cell? ⟨b,0,none⟩ = some (.int .i64 (bx - ax)) ∧ wc.cell? ⟨b,1,none⟩ = some (.int .i64 (by' - ay)) ∧ wc.cell? ⟨d,0,none⟩ = some (.int .i64 (cx - ax)) ∧ wc.cell? ⟨d,1,none⟩ = some (.int .i64 (cy - ay)))
 case first =>
  go_region_held3 (fun W' => Below W.heap.size W W') ((repeat (first|exact Qr _ _|assumption|refine Qd ?_|refine Qa ?_ _|refine Qt ?_|refine Qs ?_ _|refine Qo ?_ ?_ _ _)))
   (first | (go_at_call 278; refine (wayOf_ex _ _ _ _ _ (by exact HA.out) (by first | exact HB.out | exact HC.out)).mono ?_; rintro e w' ⟨rfl,rfl⟩))
  all_goals
   go_wp2_with fail
   go_meet
   case rel =>
    refine ⟨_,_,rfl,rfl,by assumption,?_,?_,?_,?_⟩ <;> (go_simp; done)
 case rest =>
  obtain ⟨b1,d1,rfl,rfl,hB1,x1,x2,x3,x4⟩ := hcut
  clear c00 c01 c10 c11 c20 c21
  go_wp2
  go_ret
  exact ⟨rfl,bl_then HB0.out hB1⟩
theorem faultIn3 (b cap : Nat) (mx my nx ny ox oy c : Int) (w : World) (g0 : w.cell? ⟨b,0,none⟩ = some (.int .i64 mx)) (g1 : w.cell? ⟨b,1,none⟩ = some (.int .i64 my)) (g2 : w.cell? ⟨b,2,none⟩ = some (.int .i64 nx)) (g3 : w.cell? ⟨b,3,none⟩ = some (.int .i64 ny)) (g4 : w.cell? ⟨b,4,none⟩ = some (.int .i64 ox)) (g5 : w.cell? ⟨b,5,none⟩ = some (.int .i64 oy)) (hcap : 3 ≤ cap) (hc : codeN 3 (fun i => if i = 0 then mx else if i = 1 then nx else ox) (fun i => if i = 0 then my else if i = 1 then ny else oy) = c) :
  Calls Tryz.prog 271 #[.slice (some ⟨b,0,none⟩) 3 cap] w fun e w' => e = .returned (.int .i64 c) ∧ Below w.heap.size w w' := by
 rw [← hc]
 refine faultIn_any b 0 3 cap (fun i => if i = 0 then mx else if i = 1 then nx else ox) (fun i => if i = 0 then my else if i = 1 then ny else oy) w (fun i hi => ?_) (World.block_lt_of_cell? w ⟨b,0,none⟩ g0) hcap (by omega)
 have hcase : i = 0 ∨ i = 1 ∨ i = 2 := by omega
 rcases hcase with rfl | rfl | rfl <;> simp [*]
theorem codeN3_ok (mx my nx ny ox oy : Int) (h0 : okP mx my = true) (h1 : okP nx ny = true) (h2 : okP ox oy = true) : codeN 3 (fun i => if i = 0 then mx else if i = 1 then nx else ox) (fun i => if i = 0 then my else if i = 1 then ny else oy) = 0 := codeN_ok fun i hi => by
 have hcase : i = 0 ∨ i = 1 ∨ i = 2 := by omega
 rcases hcase with rfl | rfl | rfl <;> simp [*]
theorem codeN3_0 (mx my nx ny ox oy : Int) (h : okP mx my = false) : codeN 3 (fun i => if i = 0 then mx else if i = 1 then nx else ox) (fun i => if i = 0 then my else if i = 1 then ny else oy) = 3 := codeN_no 0 (by omega) (by simp [h])
theorem codeN3_1 (mx my nx ny ox oy : Int) (h : okP nx ny = false) : codeN 3 (fun i => if i = 0 then mx else if i = 1 then nx else ox) (fun i => if i = 0 then my else if i = 1 then ny else oy) = 3 := codeN_no 1 (by omega) (by simp [h])
theorem codeN3_2 (mx my nx ny ox oy : Int) (h : okP ox oy = false) : codeN 3 (fun i => if i = 0 then mx else if i = 1 then nx else ox) (fun i => if i = 0 then my else if i = 1 then ny else oy) = 3 := codeN_no 2 (by omega) (by simp [h])
theorem way_df {ax ay bx by' : Int} (ha : okP ax ay = true) (hb : okP bx by' = true) : Df (bx - ax) (by' - ay) := by
 obtain ⟨⟨a1,a2⟩,a3,a4⟩ := okP_bd ha
 obtain ⟨⟨b1,b2⟩,b3,b4⟩ := okP_bd hb
 exact ⟨⟨by omega,by omega⟩,by omega,by omega⟩
theorem equalIn_pair (n : Nat) (a b c d : Int) (w : World) : (Op.equalIn (n + 2) 323 (.agg #[.int .i64 a, .int .i64 b]) (.agg #[.int .i64 c, .int .i64 d])).run Tryz.prog w = .ok ((a == c) && (b == d)) w := by
 have hp0 : ∀ (x y : Int) (w : World),(part 2 #[.int .i64 x, .int .i64 y] 0).run Tryz.prog w = .ok (.int .i64 x) w := fun _ _ _ => by kernel_rfl
 have hp1 : ∀ (x y : Int) (w : World),(part 2 #[.int .i64 x, .int .i64 y] 1).run Tryz.prog w = .ok (.int .i64 y) w := fun _ _ _ => by kernel_rfl
 have hs : ∀ (w : World),(sizeOf 2).run Tryz.prog w = .ok 1 w := fun _ => by kernel_rfl
 have hi := fun (a b : Int) (w : World) => run_equalIn_int (P := Tryz.prog) w n 2 .i64 .i64 a b Tryz.underlying2
 rw [Op.equalIn]
 simp only [Sem.run_bind,run_underlying Tryz.underlying323,Result.andThen_ok,hs]
 simp [List.range',hp0,hp1,hi]
 by_cases h1 : a = c <;> by_cases h2 : b = d <;> simp [h1,h2]
end Go.Proofs.YtiephlohemphjaaGreat
