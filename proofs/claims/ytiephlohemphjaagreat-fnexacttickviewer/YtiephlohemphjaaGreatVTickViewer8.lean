/- Texts. -/
import Derived.Test.YtiephlohemphjaaGreatVTickViewer5
import Derived.Test.YtiephlohemphjaaGreatVTickViewer3
set_option linter.unusedSimpArgs false
set_option linter.unusedVariables false
set_option maxRecDepth 100000
set_option maxHeartbeats 32000000
namespace Go.Proofs.YtiephlohemphjaaGreat
open Go.RowKit
def cellsL (l : List (Int × Int)) : List Value := l.flatMap fun p => [.int .i64 p.1, .int .i64 p.2]
def px (l : List (Int × Int)) (i : Nat) : Int := (l.getD i (0,0)).1
def py (l : List (Int × Int)) (i : Nat) : Int := (l.getD i (0,0)).2
theorem cellsL_cons (p : Int × Int) (l : List (Int × Int)) : cellsL (p :: l) = .int .i64 p.1 :: .int .i64 p.2 :: cellsL l := by simp [cellsL]
theorem cellsL_add (l : List (Int × Int)) (x y : Int) : cellsL (l ++ [(x,y)]) = cellsL l ++ [.int .i64 x, .int .i64 y] := by simp [cellsL]
theorem cellsL_len : ∀ l : List (Int × Int),(cellsL l).length = l.length * 2
 | [] => rfl
 | p :: l => by rw [cellsL_cons]; simp [cellsL_len l]; omega
theorem cellsL_at : ∀ (l : List (Int × Int)) (i : Nat),i < l.length → (cellsL l)[i * 2]? = some (.int .i64 (px l i)) ∧ (cellsL l)[i * 2 + 1]? = some (.int .i64 (py l i))
 | [],i,h => absurd h (by simp)
 | p :: l,0,h => by rw [cellsL_cons]; simp [px,py]
 | p :: l,i + 1,h => by
  obtain ⟨h1,h2⟩ := cellsL_at l i (by simpa using h)
  rw [cellsL_cons]
  have e1 : (i + 1) * 2 = i * 2 + 1 + 1 := by omega
  rw [e1]
  simp only [List.getElem?_cons_succ]
  exact ⟨h1,h2⟩
def Own (w : World) (base : Nat) (v : Value) (n : Nat) (X Y : Nat → Int) : Prop :=
 ∃ a cap,v = .slice a n cap ∧ n ≤ cap ∧ (n = 0 ∨ ∃ b,a = some ⟨b,0,none⟩ ∧ base ≤ b ∧ b < w.heap.size ∧ PtsAt w b 0 n X Y ∧ There w b (n * 2))
def Row (base : Nat) (w : World) (v : Value) (l : List (Int × Int)) : Prop := w.ownsRow base 230 2 v l.length (cellsL l)
theorem Row.own {base : Nat} {w : World} {v : Value} {l : List (Int × Int)} (h : Row base w v l) : Own w base v l.length (px l) (py l) := by
 obtain ⟨h1,h2 | ⟨g,cp,cur,hv,hg,hh,hkc,hcm,hcs,htk⟩⟩ := h
 ·obtain ⟨rfl,h0⟩ := h2
  rw [h0]
  exact ⟨none,0,rfl,Nat.le_refl _, .inl rfl⟩
 ·have hgl : g < w.heap.size := by
   rcases Nat.lt_or_ge g w.heap.size with h' | h'
   ·exact h'
   ·rw [Array.getElem?_eq_none h'] at hh; cases hh
  have hrow : w.ownsRow base 230 2 (.slice (some ⟨g,0,none⟩) l.length cp) l.length (cellsL l) := ⟨h1, .inr ⟨g,cp,cur,rfl,hg,hh,hkc,hcm,hcs,htk⟩⟩
  refine ⟨some ⟨g,0,none⟩,cp,hv,hkc, .inr ⟨g,rfl,hg,hgl,fun i hi => ?_,fun o ho => ⟨?_,hrow.frozenAt o⟩⟩⟩
  ·obtain ⟨e1,e2⟩ := cellsL_at l i hi
   simp only [Nat.zero_add]
   exact ⟨(hrow.cellAt _ (by omega)).trans e1,(hrow.cellAt _ (by omega)).trans e2⟩
  ·rw [hrow.cellAt o ho]
   have hlt : o < (cellsL l).length := by rw [cellsL_len]; exact ho
   exact ⟨(cellsL l)[o],List.getElem?_eq_getElem hlt⟩
theorem Row.below {base : Nat} {w w' : World} {v : Value} {l : List (Int × Int)} (h : Row base w v l) (hb : Below w.heap.size w w') : Row base w' v l := by
 obtain ⟨h1,h2 | ⟨g,cp,cur,hv,hg,hh,hr⟩⟩ := h
 ·exact ⟨h1, .inl h2⟩
 ·refine ⟨h1, .inr ⟨g,cp,cur,hv,hg,?_,hr⟩⟩
  have hgl : g < w.heap.size := by
   rcases Nat.lt_or_ge g w.heap.size with h' | h'
   ·exact h'
   ·rw [Array.getElem?_eq_none h'] at hh; cases hh
  rw [hb.block g hgl]
  exact hh
theorem grown_refl (w : World) (r : Option Nat) : w.grownBy w r := ⟨rfl,rfl,rfl,Nat.le_refl _,fun _ _ _ => rfl⟩
theorem grown_trans {a b c : World} {r : Option Nat} (h : a.grownBy b r) (k : b.grownBy c r) : a.grownBy c r :=
 ⟨k.os.trans h.os,k.tape.trans h.tape,k.output.trans h.output,Nat.le_trans h.size k.size,fun j hj hs => (k.block j (Nat.lt_of_lt_of_le hj h.size) hs).trans (h.block j hj hs)⟩
theorem grown_set {a b : World} {s : Nat} (h : a.grownBy b (some s)) (o : Nat) (v : Value) : a.grownBy (b.setCell ⟨s,o,none⟩ v) (some s) :=
 grown_trans h ⟨rfl,rfl,rfl,by simp [World.setCell],fun j _ hs => Below.heap_setCell _ _ _ _ (fun e => hs (by simp [e]))⟩
theorem below_grown {B s : Nat} {a b : World} (h : a.grownBy b (some s)) (hB : B ≤ s) (hl : B ≤ a.heap.size) : Below B a b :=
 ⟨h.os,h.tape,h.output,h.size,fun k hk => h.block k (by omega) (fun e => by injection e with e; omega)⟩
theorem eqPts_any (a a' : Option Addr) (n cap cap' : Nat) (X Y : Nat → Int) (w : World) (hp : IsPts w a n X Y) (hq : IsPts w a' n X Y) (hmax : n ≤ 1048576) :
  Calls Tryz.prog 254 #[.slice a n cap, .slice a' n cap'] w fun e w' => e = .returned (.bool true) ∧ Below w.heap.size w w' := by
 have HP : Hid (IsPts w a n X Y) := hp
 have HQ : Hid (IsPts w a' n X Y) := hq
 clear hp hq
 go_enter Tryz.func254,Tryz.ntmps254
 go_wp2
 go_loopw [5] (fun i wr => ∃ k : Nat,k ≤ n ∧ i = .int .i64 k ∧ Below w.heap.size w wr) (fun i _ => n - (intOf i).toNat)
 case atStart => exact ⟨0,by omega,rfl,Below.refl _ _⟩
 case round =>
  obtain ⟨k,hk,rfl,hB⟩ := hrel
  by_cases hlt : k < n
  ·rcases HP.out with h0 | ⟨b,off,rfl,hb,hpt⟩
   ·omega
   rcases HQ.out with h0 | ⟨d,off',rfl,hd,hqt⟩
   ·omega
   have c0 : ∀ W',Below wr.heap.size wr W' → W'.cell? ⟨b,off + k * 2,none⟩ = some (.int .i64 (X k)) := fun W' h =>
    ((hpt.below hB hb).below h (Nat.lt_of_lt_of_le hb hB.size) k hlt).1
   have c1 : ∀ W',Below wr.heap.size wr W' → W'.cell? ⟨b,off + k * 2 + 1,none⟩ = some (.int .i64 (Y k)) := fun W' h =>
    ((hpt.below hB hb).below h (Nat.lt_of_lt_of_le hb hB.size) k hlt).2
   have e0 : ∀ W',Below wr.heap.size wr W' → W'.cell? ⟨d,off' + k * 2,none⟩ = some (.int .i64 (X k)) := fun W' h =>
    ((hqt.below hB hd).below h (Nat.lt_of_lt_of_le hd hB.size) k hlt).1
   have e1 : ∀ W',Below wr.heap.size wr W' → W'.cell? ⟨d,off' + k * 2 + 1,none⟩ = some (.int .i64 (Y k)) := fun W' h =>
    ((hqt.below hB hd).below h (Nat.lt_of_lt_of_le hd hB.size) k hlt).2
   have HB : Hid (Below w.heap.size w wr) := hB
   clear hB hpt hqt
   have hi : (k : Int) < (n : Int) := by omega
   have hi0 : (0 : Int) ≤ (k : Int) := by omega
   go_wp2
   go_region_held3 (fun W' => Below wr.heap.size wr W') ((repeat (first|exact Qr _ _|assumption|refine Qd ?_|refine Qa ?_ _|refine Qt ?_|refine Qs ?_ _|refine Qo ?_ ?_ _ _)))
    (first
     | (go_at_call 269; refine (eqPoint_any _ _ _).mono ?_; rintro e w' ⟨rfl,hb⟩))
   go_wp2
   go_roundw
   case rel => exact ⟨k + 1,by omega,by go_num,bl_then HB.out (by assumption)⟩
   case measure => simp [intOf]; omega
  ·go_wp2
   go_ret
   exact ⟨rfl,hB⟩
def mkX (k i : Nat) : Int := ((k + 2 * i : Nat) : Int)
def mkY (k i : Nat) : Int := ((k + 2 * i + 1 : Nat) : Int)
theorem markPointS_any (b n cap k0 : Nat) (w : World) (hT : There w b (n * 2)) (hb : b < w.heap.size) (hmax : n ≤ 1048576) (hk0 : k0 ≤ 6000000000000000000) :
  Calls Tryz.prog 166 #[.slice (some ⟨b,0,none⟩) n cap, .int .i64 (k0 : Int)] w fun e w' => e = .returned (.int .i64 ((k0 + 2 * n : Nat) : Int)) ∧ w.grownBy w' (some b) ∧ There w' b (n * 2) ∧ PtsAt w' b 0 n (mkX k0) (mkY k0) := by
 have HT0 : Hid (There w b (n * 2)) := hT
 clear hT
 go_enter Tryz.func166,Tryz.ntmps166
 go_wp2_with fail
 go_loopw [1,5] (fun kk i wr => ∃ j K : Nat,j ≤ n ∧ Hid (K = k0 + 2 * j) ∧ kk = .int .i64 (K : Int) ∧ i = .int .i64 (j : Int) ∧ w.grownBy wr (some b) ∧ There wr b (n * 2) ∧ PtsAt wr b 0 j (mkX k0) (mkY k0)) (fun _ i _ => n - (intOf i).toNat)
 case atStart => exact ⟨0,k0,by omega,rfl,rfl,rfl,grown_refl _ _,HT0.out,fun i hi => by omega⟩
 case round =>
  obtain ⟨j,K,hj,HK,rfl,rfl,hG,hT,hP⟩ := hrel
  by_cases hlt : j < n
  ·have hKb : K ≤ 6000000000002097152 := by have := HK.out; omega
   have t0 := hT.cell (j * 2) (by omega)
   have t1 := hT.cell (j * 2 + 1) (by omega)
   have f0 := (hT (j * 2) (by omega)).2
   have f1 := (hT (j * 2 + 1) (by omega)).2
   have HT : Hid (There wr b (n * 2)) := hT
   have HG : Hid (w.grownBy wr (some b)) := hG
   have HP : Hid (PtsAt wr b 0 j (mkX k0) (mkY k0)) := hP
   clear hT hG hP
   have hi : (j : Int) < (n : Int) := by omega
   go_wp2
   go_roundw
   case rel =>
    have hx : mkX k0 j = (K : Int) := by have := HK.out; simp [mkX]; omega
    have hy : mkY k0 j = (K : Int) + 1 := by have := HK.out; simp [mkY]; omega
    have hfs := fill_step (X := mkX k0) (Y := mkY k0) HT.out hlt HP.out
    rw [hx,hy] at hfs
    exact ⟨j + 1,K + 2,by omega,by have := HK.out; show _ = _; omega,by go_num,by go_num,grown_set (grown_set HG.out _ _) _ _,(HT.out.set _ _).set _ _,hfs⟩
   case measure => simp [intOf]; omega
  ·go_wp2
   go_ret
   have hjn : j = n := by omega
   subst hjn
   exact ⟨ret_int (by have := HK.out; omega),hG,hT,hP⟩
theorem heldPointS_any (b n cap k0 : Nat) (w : World) (hp : PtsAt w b 0 n (mkX k0) (mkY k0)) (hb : b < w.heap.size) (hmax : n ≤ 1048576) (hk0 : k0 ≤ 6000000000000000000) :
  Calls Tryz.prog 194 #[.slice (some ⟨b,0,none⟩) n cap, .int .i64 (k0 : Int)] w fun e w' => e = .returned (.int .i64 ((k0 + 2 * n : Nat) : Int)) ∧ Below w.heap.size w w' := by
 have HP : Hid (PtsAt w b 0 n (mkX k0) (mkY k0)) := hp
 clear hp
 go_enter Tryz.func194,Tryz.ntmps194
 go_wp2_with fail
 go_loopw [1,5] (fun kk i wr => ∃ j K : Nat,j ≤ n ∧ Hid (K = k0 + 2 * j) ∧ kk = .int .i64 (K : Int) ∧ i = .int .i64 (j : Int) ∧ Below w.heap.size w wr) (fun _ i _ => n - (intOf i).toNat)
 case atStart => exact ⟨0,k0,by omega,rfl,rfl,rfl,Below.refl _ _⟩
 case round =>
  obtain ⟨j,K,hj,HK,rfl,rfl,hB⟩ := hrel
  by_cases hlt : j < n
  ·have hKb : K ≤ 6000000000002097152 := by have := HK.out; omega
   have hx : mkX k0 j = (K : Int) := by have := HK.out; simp [mkX]; omega
   have hy : mkY k0 j = (K : Int) + 1 := by have := HK.out; simp [mkY]; omega
   obtain ⟨t0,t1⟩ := (HP.out.below hB hb) j hlt
   rw [hx] at t0
   rw [hy] at t1
   simp only [Nat.zero_add] at t0 t1
   have HB : Hid (Below w.heap.size w wr) := hB
   clear hB hx hy
   have hi : (j : Int) < (n : Int) := by omega
   go_wp2
   go_roundw
   case rel => exact ⟨j + 1,K + 2,by omega,by have := HK.out; show _ = _; omega,by go_num,by go_num,HB.out⟩
   case measure => simp [intOf]; omega
  ·go_wp2
   go_ret
   have hjn : j = n := by omega
   subst hjn
   exact ⟨ret_int (by have := HK.out; omega),hB⟩
def ptsOf (X Y : Nat → Int) (l : List Nat) : List (Int × Int) := l.map fun i => (X i,Y i)
theorem heap_of_row {w : World} {base size n : Nat} {e : TypeId} {v : Value} {xs : List Value} (h : w.ownsRow base e size v n xs) : ∀ g,v.ownBlock = some g → ∃ cur,w.heap[g]? = some (.cells cur e (0,0)) := fun g hg => by
 obtain ⟨_,h2 | ⟨g',cp,cur,rfl,_,hh,_⟩⟩ := h
 ·rw [h2.1] at hg; cases hg
 ·simp [Value.ownBlock] at hg
  subst hg
  exact ⟨cur,hh⟩
theorem There.belowB' {W W' : World} {r n B : Nat} (h : There W r n) (hb : Below B W W') (hr : r < B) : There W' r n := fun o ho => by
 obtain ⟨u,hu⟩ := (h o ho).1
 exact ⟨⟨u,(hb.cell (p := ⟨r,o,none⟩) hr).trans hu⟩,(hb.frozen (p := ⟨r,o,none⟩) hr).trans (h o ho).2⟩
theorem lt_of_heap {w : World} {k : Nat} {o : Obj} (h : w.heap[k]? = some o) : k < w.heap.size := by
 rcases Nat.lt_or_ge k w.heap.size with h' | h'
 ·exact h'
 ·rw [Array.getElem?_eq_none h'] at h; cases h
def sideAt (px py : Int) (n : Nat) (X Y : Nat → Int) (i : Nat) : Bool := sideB px py (X i) (Y i) (X ((i + 1) % n)) (Y ((i + 1) % n))
theorem l1Inside_any (px py : Int) (b n cap : Nat) (X Y : Nat → Int) (w : World) (hp : okP px py = true) (hpt : PtsAt w b 0 n X Y) (hbl : b < w.heap.size) (hok : ∀ i,i < n → okP (X i) (Y i) = true) (hcap : n ≤ cap) (hmax : n ≤ 1048576) :
  Calls Tryz.prog 203 #[.agg #[.int .i64 px, .int .i64 py], .slice (some ⟨b,0,none⟩) n cap] w fun e w' => e = .returned (.bool (oddTo (sideAt px py n X Y) n)) ∧ Below w.heap.size w w' := by
 have HP : Hid (okP px py = true) := hp
 have HQ : Hid (PtsAt w b 0 n X Y) := hpt
 have HO : Hid (∀ i,i < n → okP (X i) (Y i) = true) := hok
 clear hp hpt hok
 go_enter Tryz.func203,Tryz.ntmps203
 go_wp2
 generalize hW : (w.alloc _ : World) = W
 have hB0 : Below w.heap.size w W := by subst hW; exact Qb
 have c00 : ∀ W',Below W.heap.size W W' → W'.cell? ⟨w.heap.size,0,none⟩ = some (.int .i64 px) := fun W' h => by
  rw [h.cell (by subst hW; simp <;> omega)]; subst hW; simp [go_sem]
 have c01 : ∀ W',Below W.heap.size W W' → W'.cell? ⟨w.heap.size,1,none⟩ = some (.int .i64 py) := fun W' h => by
  rw [h.cell (by subst hW; simp <;> omega)]; subst hW; simp [go_sem]
 clear hW
 have HB0 : Hid (Below w.heap.size w W) := hB0
 have HQ1 : Hid (PtsAt W b 0 n X Y) := HQ.out.below hB0 hbl
 have hblW : b < W.heap.size := Nat.lt_of_lt_of_le hbl hB0.size
 clear hB0 HQ hbl
 go_loopw [5,6] (fun q i wr => ∃ k : Nat,k ≤ n ∧ i = .int .i64 k ∧ q = .bool (oddTo (sideAt px py n X Y) k) ∧ Below W.heap.size W wr) (fun _ i _ => n - (intOf i).toNat)
 case atStart => exact ⟨0,by omega,rfl,rfl,Below.refl _ _⟩
 case round =>
  obtain ⟨k,hk,rfl,rfl,hB⟩ := hrel
  by_cases hlt : k < n
  ·have hP1 := HQ1.out.below hB hblW
   have hbr : b < wr.heap.size := Nat.lt_of_lt_of_le hblW hB.size
   have d0 : ∀ W',Below wr.heap.size wr W' → W'.cell? ⟨b,k * 2,none⟩ = some (.int .i64 (X k)) := fun W' h => by
    simpa using (hP1.below h hbr k hlt).1
   have d1 : ∀ W',Below wr.heap.size wr W' → W'.cell? ⟨b,k * 2 + 1,none⟩ = some (.int .i64 (Y k)) := fun W' h => by
    simpa using (hP1.below h hbr k hlt).2
   replace c00 := fun W' (h : Below wr.heap.size wr W') => c00 W' (bl_then hB h)
   replace c01 := fun W' (h : Below wr.heap.size wr W') => c01 W' (bl_then hB h)
   have HB : Hid (Below W.heap.size W wr) := hB
   have hi : (k : Int) < (n : Int) := by omega
   have hi0 : (0 : Int) ≤ (k : Int) := by omega
   have hwr : IntKind.i64.wrap ((k : Int) + 1) = (k : Int) + 1 := IntWalk.i64_in _ (by omega)
   have hodd : Hid (oddTo (sideAt px py n X Y) (k + 1) = if sideAt px py n X Y k = true then !(oddTo (sideAt px py n X Y) k) else oddTo (sideAt px py n X Y) k) := rfl
   by_cases hnx : k + 1 < n
   ·have hm : (k + 1) % n = k + 1 := Nat.mod_eq_of_lt hnx
    have HS : Hid (sideAt px py n X Y k = sideB px py (X k) (Y k) (X (k + 1)) (Y (k + 1))) := by show _ = _; unfold sideAt; rw [hm]
    have hmi : ((k : Int) + 1) % (n : Int) = (k : Int) + 1 := Int.emod_eq_of_lt (by omega) (by omega)
    have hmt : ((k : Int) + 1).tmod (n : Int) = (k : Int) + 1 := by rw [Int.tmod_eq_emod_of_nonneg (by omega)]; exact hmi
    have hn0 : ¬ n = 0 := by omega
    have e0 : ∀ W',Below wr.heap.size wr W' → W'.cell? ⟨b,(k + 1) * 2,none⟩ = some (.int .i64 (X (k + 1))) := fun W' h => by
     simpa using (hP1.below h hbr (k + 1) hnx).1
    have e1 : ∀ W',Below wr.heap.size wr W' → W'.cell? ⟨b,(k + 1) * 2 + 1,none⟩ = some (.int .i64 (Y (k + 1))) := fun W' h => by
     simpa using (hP1.below h hbr (k + 1) hnx).2
    have HK1 : Hid (okP (X k) (Y k) = true) := HO.out k hlt
    have HK2 : Hid (okP (X (k + 1)) (Y (k + 1)) = true) := HO.out (k + 1) hnx
    have hi2 : ((k : Int) + 1) < (n : Int) := by omega
    have hi3 : (0 : Int) ≤ (k : Int) + 1 := by omega
    clear hP1 hB
    cases hsv : sideB px py (X k) (Y k) (X (k + 1)) (Y (k + 1))
    all_goals
     go_wp2
     go_region_held3 (fun W' => Below wr.heap.size wr W') ((repeat (first|exact Qr _ _|assumption|refine Qd ?_|refine Qa ?_ _|refine Qt ?_|refine Qs ?_ _|refine Qo ?_ ?_ _ _)))
      (first
       | (go_at_call 230; refine (l1Side_any _ _ _ _ _ _ _ HP.out HK1.out HK2.out).mono ?_; rintro e w' ⟨rfl,hb⟩))
     go_wp2
     go_roundw
     case rel => exact ⟨k + 1,by omega,by go_num,congrArg Value.bool (by rw [hodd.out,HS.out,hsv]; rfl),bl_then HB.out (by assumption)⟩
     case measure => simp [intOf]; omega
   ·have hkn : k + 1 = n := by omega
    have hm : (k + 1) % n = 0 := by rw [hkn]; exact Nat.mod_self n
    have HS : Hid (sideAt px py n X Y k = sideB px py (X k) (Y k) (X 0) (Y 0)) := by show _ = _; unfold sideAt; rw [hm]
    have hmi : ((k : Int) + 1) % (n : Int) = 0 := by
     have : ((k : Int) + 1) = (n : Int) := by omega
     rw [this]; exact Int.emod_self
    have hmt : ((k : Int) + 1).tmod (n : Int) = 0 := by rw [Int.tmod_eq_emod_of_nonneg (by omega)]; exact hmi
    have hn0 : ¬ n = 0 := by omega
    have hnp : (0 : Int) < (n : Int) := by omega
    have hnp' : 0 < n := by omega
    have e0 : ∀ W',Below wr.heap.size wr W' → W'.cell? ⟨b,0,none⟩ = some (.int .i64 (X 0)) := fun W' h => by
     simpa using (hP1.below h hbr 0 (by omega)).1
    have e1 : ∀ W',Below wr.heap.size wr W' → W'.cell? ⟨b,1,none⟩ = some (.int .i64 (Y 0)) := fun W' h => by
     simpa using (hP1.below h hbr 0 (by omega)).2
    have HK1 : Hid (okP (X k) (Y k) = true) := HO.out k hlt
    have HK2 : Hid (okP (X 0) (Y 0) = true) := HO.out 0 (by omega)
    clear hkn hnx
    clear hP1 hB
    cases hsv : sideB px py (X k) (Y k) (X 0) (Y 0)
    all_goals
     go_wp2
     go_region_held3 (fun W' => Below wr.heap.size wr W') ((repeat (first|exact Qr _ _|assumption|refine Qd ?_|refine Qa ?_ _|refine Qt ?_|refine Qs ?_ _|refine Qo ?_ ?_ _ _)))
      (first
       | (go_at_call 230; refine (l1Side_any _ _ _ _ _ _ _ HP.out HK1.out HK2.out).mono ?_; rintro e w' ⟨rfl,hb⟩))
     go_wp2
     go_roundw
     case rel => exact ⟨k + 1,by omega,by go_num,congrArg Value.bool (by rw [hodd.out,HS.out,hsv]; rfl),bl_then HB.out (by assumption)⟩
     case measure => simp [intOf]; omega
  ·go_wp2
   go_ret
   have hkn : k = n := by omega
   subst hkn
   exact ⟨rfl,bl_then HB0.out hB⟩
theorem isCrossed_dn (px py ax ay bx by' : Int) (w : World) (hp : okP px py = true) (ha : okP ax ay = true) (hb : okP bx by' = true) (h : by' < ay) (h1 : by' ≤ py) (h2 : py < ay) :
  Calls Tryz.prog 273 #[.agg #[.int .i64 px, .int .i64 py], .agg #[.int .i64 ax, .int .i64 ay], .agg #[.int .i64 bx, .int .i64 by']] w fun e w' => e = .returned (.bool (sideB px py ax ay bx by')) ∧ Below w.heap.size w w' := by
 have HP : Hid (okP px py = true) := hp
 have HA : Hid (okP ax ay = true) := ha
 have HB : Hid (okP bx by' = true) := hb
 clear hp ha hb
 have HE : Hid (sideB px py ax ay bx by' = decide (0 < crossI bx by' ax ay px py)) := by
  show _ = _
  rw [side_down h]
  simp [h1,h2]
 go_enter Tryz.func273,Tryz.ntmps273
 go_wp2
 generalize hW : (((w.alloc _).alloc _).alloc _ : World) = W
 have hB0 : Below w.heap.size w W := by subst hW; exact Qb
 have c00 : ∀ W',Below W.heap.size W W' → W'.cell? ⟨w.heap.size,0,none⟩ = some (.int .i64 px) := fun W' h => by
  rw [h.cell (by subst hW; simp <;> omega)]; subst hW; simp [go_sem]
 have c01 : ∀ W',Below W.heap.size W W' → W'.cell? ⟨w.heap.size,1,none⟩ = some (.int .i64 py) := fun W' h => by
  rw [h.cell (by subst hW; simp <;> omega)]; subst hW; simp [go_sem]
 have c10 : ∀ W',Below W.heap.size W W' → W'.cell? ⟨w.heap.size + 1,0,none⟩ = some (.int .i64 ax) := fun W' h => by
  rw [h.cell (by subst hW; simp <;> omega)]; subst hW; simp [go_sem]
 have c11 : ∀ W',Below W.heap.size W W' → W'.cell? ⟨w.heap.size + 1,1,none⟩ = some (.int .i64 ay) := fun W' h => by
  rw [h.cell (by subst hW; simp <;> omega)]; subst hW; simp [go_sem]
 have c20 : ∀ W',Below W.heap.size W W' → W'.cell? ⟨w.heap.size + 1 + 1,0,none⟩ = some (.int .i64 bx) := fun W' h => by
  rw [h.cell (by subst hW; simp <;> omega)]; subst hW; simp [go_sem]
 have c21 : ∀ W',Below W.heap.size W W' → W'.cell? ⟨w.heap.size + 1 + 1,1,none⟩ = some (.int .i64 by') := fun W' h => by
  rw [h.cell (by subst hW; simp <;> omega)]; subst hW; simp [go_sem]
 have q0 := c00
 clear hW
 have HB0 : Hid (Below w.heap.size w W) := hB0
 clear hB0
 go_cut [7,8] (fun t s wc => ∃ b d : Nat,t = .pointer (some ⟨b,0,none⟩) ∧ s = .pointer (some ⟨d,0,none⟩) ∧ b ≠ d ∧ Below W.heap.size W wc ∧ W.heap.size ≤ b ∧ W.heap.size ≤ d ∧ wc.cell? ⟨b,0,none⟩ = some (.int .i64 ax) ∧ wc.cell? ⟨b,1,none⟩ = some (.int .i64 ay) ∧ wc.cell? ⟨d,0,none⟩ = some (.int .i64 bx) ∧ wc.cell? ⟨d,1,none⟩ = some (.int .i64 by') ∧ wc.frozen? ⟨b,0,none⟩ = false ∧ wc.frozen? ⟨b,1,none⟩ = false ∧ wc.frozen? ⟨d,0,none⟩ = false ∧ wc.frozen? ⟨d,1,none⟩ = false)
 case first =>
  go_region_held3 (fun W' => Below W.heap.size W W') ((repeat (first|exact Qr _ _|assumption|refine Qd ?_|refine Qa ?_ _|refine Qt ?_|refine Qs ?_ _|refine Qo ?_ ?_ _ _))) (fail)
  all_goals
   go_wp2_with fail
   go_meet
   case rel =>
    refine ⟨_,_,rfl,rfl,by first | omega | (simp; done) | (simp; omega),by assumption,by first | omega | (simp; done) | (simp; omega),by first | omega | (simp; done) | (simp; omega),?_,?_,?_,?_,?_,?_,?_,?_⟩ <;> (go_simp; done)
 case rest =>
  obtain ⟨b1,d1,rfl,rfl,hne,hB1,hb1,hd1,x1,x2,x3,x4,f1,f2,f3,f4⟩ := hcut
  have hne' : d1 ≠ b1 := fun h => hne h.symm
  have hw0 := World.block_lt_of_cell? _ _ (c00 W (Below.refl _ _))
  have n1 : b1 ≠ w.heap.size := by have : w.heap.size < W.heap.size := hw0; omega
  have n2 : d1 ≠ w.heap.size := by have : w.heap.size < W.heap.size := hw0; omega
  have p1 := c01 wc hB1
  clear hw0 c00 c01 c10 c11 c20 c21
  have p0 := q0 wc hB1
  clear q0
  go_wp2_with (go_at_call 276; refine (turnOf_any _ _ _ _ _ _ _ HB.out HA.out HP.out).mono ?_; rintro e w' ⟨rfl,hbz⟩)
  go_ret
  exact ⟨ret_bool HE.out.symm,bl_then HB0.out (by exact Qb)⟩
theorem isCrossed_dn1 (px py ax ay bx by' : Int) (w : World) (hp : okP px py = true) (ha : okP ax ay = true) (hb : okP bx by' = true) (h : by' < ay) (h1 : ¬ by' ≤ py) :
  Calls Tryz.prog 273 #[.agg #[.int .i64 px, .int .i64 py], .agg #[.int .i64 ax, .int .i64 ay], .agg #[.int .i64 bx, .int .i64 by']] w fun e w' => e = .returned (.bool (sideB px py ax ay bx by')) ∧ Below w.heap.size w w' := by
 have HP : Hid (okP px py = true) := hp
 have HA : Hid (okP ax ay = true) := ha
 have HB : Hid (okP bx by' = true) := hb
 clear hp ha hb
 have HE : Hid (sideB px py ax ay bx by' = false) := by
  show _ = _
  rw [side_down h]
  simp [h1]
 have h1' : decide (by' ≤ py) = false := by simpa using h1
 go_enter Tryz.func273,Tryz.ntmps273
 go_wp2
 generalize hW : (((w.alloc _).alloc _).alloc _ : World) = W
 have hB0 : Below w.heap.size w W := by subst hW; exact Qb
 have c00 : ∀ W',Below W.heap.size W W' → W'.cell? ⟨w.heap.size,0,none⟩ = some (.int .i64 px) := fun W' h => by
  rw [h.cell (by subst hW; simp <;> omega)]; subst hW; simp [go_sem]
 have c01 : ∀ W',Below W.heap.size W W' → W'.cell? ⟨w.heap.size,1,none⟩ = some (.int .i64 py) := fun W' h => by
  rw [h.cell (by subst hW; simp <;> omega)]; subst hW; simp [go_sem]
 have c10 : ∀ W',Below W.heap.size W W' → W'.cell? ⟨w.heap.size + 1,0,none⟩ = some (.int .i64 ax) := fun W' h => by
  rw [h.cell (by subst hW; simp <;> omega)]; subst hW; simp [go_sem]
 have c11 : ∀ W',Below W.heap.size W W' → W'.cell? ⟨w.heap.size + 1,1,none⟩ = some (.int .i64 ay) := fun W' h => by
  rw [h.cell (by subst hW; simp <;> omega)]; subst hW; simp [go_sem]
 have c20 : ∀ W',Below W.heap.size W W' → W'.cell? ⟨w.heap.size + 1 + 1,0,none⟩ = some (.int .i64 bx) := fun W' h => by
  rw [h.cell (by subst hW; simp <;> omega)]; subst hW; simp [go_sem]
 have c21 : ∀ W',Below W.heap.size W W' → W'.cell? ⟨w.heap.size + 1 + 1,1,none⟩ = some (.int .i64 by') := fun W' h => by
  rw [h.cell (by subst hW; simp <;> omega)]; subst hW; simp [go_sem]
 have q0 := c00
 clear hW
 have HB0 : Hid (Below w.heap.size w W) := hB0
 clear hB0
 go_cut [7,8] (fun t s wc => ∃ b d : Nat,t = .pointer (some ⟨b,0,none⟩) ∧ s = .pointer (some ⟨d,0,none⟩) ∧ b ≠ d ∧ Below W.heap.size W wc ∧ W.heap.size ≤ b ∧ W.heap.size ≤ d ∧ wc.cell? ⟨b,0,none⟩ = some (.int .i64 ax) ∧ wc.cell? ⟨b,1,none⟩ = some (.int .i64 ay) ∧ wc.cell? ⟨d,0,none⟩ = some (.int .i64 bx) ∧ wc.cell? ⟨d,1,none⟩ = some (.int .i64 by') ∧ wc.frozen? ⟨b,0,none⟩ = false ∧ wc.frozen? ⟨b,1,none⟩ = false ∧ wc.frozen? ⟨d,0,none⟩ = false ∧ wc.frozen? ⟨d,1,none⟩ = false)
 case first =>
  go_region_held3 (fun W' => Below W.heap.size W W') ((repeat (first|exact Qr _ _|assumption|refine Qd ?_|refine Qa ?_ _|refine Qt ?_|refine Qs ?_ _|refine Qo ?_ ?_ _ _))) (fail)
  all_goals
   go_wp2_with fail
   go_meet
   case rel =>
    refine ⟨_,_,rfl,rfl,by first | omega | (simp; done) | (simp; omega),by assumption,by first | omega | (simp; done) | (simp; omega),by first | omega | (simp; done) | (simp; omega),?_,?_,?_,?_,?_,?_,?_,?_⟩ <;> (go_simp; done)
 case rest =>
  obtain ⟨b1,d1,rfl,rfl,hne,hB1,hb1,hd1,x1,x2,x3,x4,f1,f2,f3,f4⟩ := hcut
  have hne' : d1 ≠ b1 := fun h => hne h.symm
  have hw0 := World.block_lt_of_cell? _ _ (c00 W (Below.refl _ _))
  have n1 : b1 ≠ w.heap.size := by have : w.heap.size < W.heap.size := hw0; omega
  have n2 : d1 ≠ w.heap.size := by have : w.heap.size < W.heap.size := hw0; omega
  have p1 := c01 wc hB1
  clear hw0 c00 c01 c10 c11 c20 c21
  have p0 := q0 wc hB1
  clear q0
  go_wp2
  go_ret
  exact ⟨ret_bool HE.out.symm,bl_then HB0.out (by exact Qb)⟩
theorem isCrossed_dn2 (px py ax ay bx by' : Int) (w : World) (hp : okP px py = true) (ha : okP ax ay = true) (hb : okP bx by' = true) (h : by' < ay) (h1 : by' ≤ py) (h2 : ¬ py < ay) :
  Calls Tryz.prog 273 #[.agg #[.int .i64 px, .int .i64 py], .agg #[.int .i64 ax, .int .i64 ay], .agg #[.int .i64 bx, .int .i64 by']] w fun e w' => e = .returned (.bool (sideB px py ax ay bx by')) ∧ Below w.heap.size w w' := by
 have HP : Hid (okP px py = true) := hp
 have HA : Hid (okP ax ay = true) := ha
 have HB : Hid (okP bx by' = true) := hb
 clear hp ha hb
 have HE : Hid (sideB px py ax ay bx by' = false) := by
  show _ = _
  rw [side_down h]
  simp [h1,h2]
 have h2' : decide (py < ay) = false := by simpa using h2
 go_enter Tryz.func273,Tryz.ntmps273
 go_wp2
 generalize hW : (((w.alloc _).alloc _).alloc _ : World) = W
 have hB0 : Below w.heap.size w W := by subst hW; exact Qb
 have c00 : ∀ W',Below W.heap.size W W' → W'.cell? ⟨w.heap.size,0,none⟩ = some (.int .i64 px) := fun W' h => by
  rw [h.cell (by subst hW; simp <;> omega)]; subst hW; simp [go_sem]
 have c01 : ∀ W',Below W.heap.size W W' → W'.cell? ⟨w.heap.size,1,none⟩ = some (.int .i64 py) := fun W' h => by
  rw [h.cell (by subst hW; simp <;> omega)]; subst hW; simp [go_sem]
 have c10 : ∀ W',Below W.heap.size W W' → W'.cell? ⟨w.heap.size + 1,0,none⟩ = some (.int .i64 ax) := fun W' h => by
  rw [h.cell (by subst hW; simp <;> omega)]; subst hW; simp [go_sem]
 have c11 : ∀ W',Below W.heap.size W W' → W'.cell? ⟨w.heap.size + 1,1,none⟩ = some (.int .i64 ay) := fun W' h => by
  rw [h.cell (by subst hW; simp <;> omega)]; subst hW; simp [go_sem]
 have c20 : ∀ W',Below W.heap.size W W' → W'.cell? ⟨w.heap.size + 1 + 1,0,none⟩ = some (.int .i64 bx) := fun W' h => by
  rw [h.cell (by subst hW; simp <;> omega)]; subst hW; simp [go_sem]
 have c21 : ∀ W',Below W.heap.size W W' → W'.cell? ⟨w.heap.size + 1 + 1,1,none⟩ = some (.int .i64 by') := fun W' h => by
  rw [h.cell (by subst hW; simp <;> omega)]; subst hW; simp [go_sem]
 have q0 := c00
 clear hW
 have HB0 : Hid (Below w.heap.size w W) := hB0
 clear hB0
 go_cut [7,8] (fun t s wc => ∃ b d : Nat,t = .pointer (some ⟨b,0,none⟩) ∧ s = .pointer (some ⟨d,0,none⟩) ∧ b ≠ d ∧ Below W.heap.size W wc ∧ W.heap.size ≤ b ∧ W.heap.size ≤ d ∧ wc.cell? ⟨b,0,none⟩ = some (.int .i64 ax) ∧ wc.cell? ⟨b,1,none⟩ = some (.int .i64 ay) ∧ wc.cell? ⟨d,0,none⟩ = some (.int .i64 bx) ∧ wc.cell? ⟨d,1,none⟩ = some (.int .i64 by') ∧ wc.frozen? ⟨b,0,none⟩ = false ∧ wc.frozen? ⟨b,1,none⟩ = false ∧ wc.frozen? ⟨d,0,none⟩ = false ∧ wc.frozen? ⟨d,1,none⟩ = false)
 case first =>
  go_region_held3 (fun W' => Below W.heap.size W W') ((repeat (first|exact Qr _ _|assumption|refine Qd ?_|refine Qa ?_ _|refine Qt ?_|refine Qs ?_ _|refine Qo ?_ ?_ _ _))) (fail)
  all_goals
   go_wp2_with fail
   go_meet
   case rel =>
    refine ⟨_,_,rfl,rfl,by first | omega | (simp; done) | (simp; omega),by assumption,by first | omega | (simp; done) | (simp; omega),by first | omega | (simp; done) | (simp; omega),?_,?_,?_,?_,?_,?_,?_,?_⟩ <;> (go_simp; done)
 case rest =>
  obtain ⟨b1,d1,rfl,rfl,hne,hB1,hb1,hd1,x1,x2,x3,x4,f1,f2,f3,f4⟩ := hcut
  have hne' : d1 ≠ b1 := fun h => hne h.symm
  have hw0 := World.block_lt_of_cell? _ _ (c00 W (Below.refl _ _))
  have n1 : b1 ≠ w.heap.size := by have : w.heap.size < W.heap.size := hw0; omega
  have n2 : d1 ≠ w.heap.size := by have : w.heap.size < W.heap.size := hw0; omega
  have p1 := c01 wc hB1
  clear hw0 c00 c01 c10 c11 c20 c21
  have p0 := q0 wc hB1
  clear q0
  go_wp2
  go_ret
  exact ⟨ret_bool HE.out.symm,bl_then HB0.out (by exact Qb)⟩
theorem isCrossed_any (px py ax ay bx by' : Int) (w : World) (hp : okP px py = true) (ha : okP ax ay = true) (hb : okP bx by' = true) :
  Calls Tryz.prog 273 #[.agg #[.int .i64 px, .int .i64 py], .agg #[.int .i64 ax, .int .i64 ay], .agg #[.int .i64 bx, .int .i64 by']] w fun e w' => e = .returned (.bool (sideB px py ax ay bx by')) ∧ Below w.heap.size w w' := by
 by_cases h : by' < ay
 ·by_cases h1 : by' ≤ py
  ·by_cases h2 : py < ay
   ·exact isCrossed_dn _ _ _ _ _ _ _ hp ha hb h h1 h2
   ·exact isCrossed_dn2 _ _ _ _ _ _ _ hp ha hb h h1 h2
  ·exact isCrossed_dn1 _ _ _ _ _ _ _ hp ha hb h h1
 ·by_cases h1 : ay ≤ py
  ·by_cases h2 : py < by'
   ·exact isCrossed_up _ _ _ _ _ _ _ hp ha hb (by omega) h1 h2
   ·exact isCrossed_up2 _ _ _ _ _ _ _ hp ha hb (by omega) h1 h2
  ·exact isCrossed_up1 _ _ _ _ _ _ _ hp ha hb (by omega) h1
abbrev pxV (a b : Int) : Value := .complex .f64 (flo a) (flo b)
theorem flo_1 : flo 1 = 4607182418800017408 := by decide +kernel
theorem c_add {a b c d : Int} (h : (-(2 ^ 52) < a ∧ a < 2 ^ 52) ∧ (-(2 ^ 52) < b ∧ b < 2 ^ 52)) (g : (-(2 ^ 52) < c ∧ c < 2 ^ 52) ∧ (-(2 ^ 52) < d ∧ d < 2 ^ 52)) : cSumBits .add .f64 (flo a) (flo b) (flo c) (flo d) = some (flo (a + c),flo (b + d)) := by
 simp [cSumBits,flo_add h.1.1 h.1.2 g.1.1 g.1.2,flo_add h.2.1 h.2.2 g.2.1 g.2.2]
theorem c_sub {a b c d : Int} (h : (-(2 ^ 52) < a ∧ a < 2 ^ 52) ∧ (-(2 ^ 52) < b ∧ b < 2 ^ 52)) (g : (-(2 ^ 52) < c ∧ c < 2 ^ 52) ∧ (-(2 ^ 52) < d ∧ d < 2 ^ 52)) : cSumBits .sub .f64 (flo a) (flo b) (flo c) (flo d) = some (flo (a - c),flo (b - d)) := by
 simp [cSumBits,flo_sub h.1.1 h.1.2 g.1.1 g.1.2,flo_sub h.2.1 h.2.2 g.2.1 g.2.2]
theorem run_px_add (t : TypeId) {a b c d : Int} (w : World) (h : (-(2 ^ 52) < a ∧ a < 2 ^ 52) ∧ (-(2 ^ 52) < b ∧ b < 2 ^ 52)) (g : (-(2 ^ 52) < c ∧ c < 2 ^ 52) ∧ (-(2 ^ 52) < d ∧ d < 2 ^ 52)) : (binOp .add t (pxV a b) (pxV c d)).run Tryz.prog w = .ok (pxV (a + c) (b + d)) w :=
 run_complex_sum w .add (.inl rfl) t .f64 _ _ _ _ _ _ (c_add h g)
theorem run_px_sub (t : TypeId) {a b c d : Int} (w : World) (h : (-(2 ^ 52) < a ∧ a < 2 ^ 52) ∧ (-(2 ^ 52) < b ∧ b < 2 ^ 52)) (g : (-(2 ^ 52) < c ∧ c < 2 ^ 52) ∧ (-(2 ^ 52) < d ∧ d < 2 ^ 52)) : (binOp .sub t (pxV a b) (pxV c d)).run Tryz.prog w = .ok (pxV (a - c) (b - d)) w :=
 run_complex_sum w .sub (.inr rfl) t .f64 _ _ _ _ _ _ (c_sub h g)
theorem pixelAt_any (x y : Int) (w : World) : Calls Tryz.prog 100 #[.int .i64 x, .int .i64 y] w fun e w' => e = .returned (pxV x y) ∧ w = w' := by
 go_enter Tryz.func100,Tryz.ntmps100
 go_wp2
 go_ret
 exact ⟨rfl,rfl⟩
theorem pxX_any (a b : Int) (w : World) (h0 : -200 ≤ a) (h1 : a < 800) : Calls Tryz.prog 118 #[pxV a b] w fun e w' => e = .returned (.int .i64 a) ∧ w = w' := by
 have hc : ∀ w,(convert 184 2 (.float .f64 (flo a))).run Tryz.prog w = .ok (.int .i64 a) w := fun w => run_convert_float_int w 184 2 .f64 .i64 _ a (by kernel_rfl) (by kernel_rfl) (flo_int h0 h1)
 go_enter Tryz.func118,Tryz.ntmps118
 go_wp2
 go_ret
 exact ⟨rfl,rfl⟩
theorem pxY_any (a b : Int) (w : World) (h0 : -200 ≤ b) (h1 : b < 800) : Calls Tryz.prog 119 #[pxV a b] w fun e w' => e = .returned (.int .i64 b) ∧ w = w' := by
 have hc : ∀ w,(convert 184 2 (.float .f64 (flo b))).run Tryz.prog w = .ok (.int .i64 b) w := fun w => run_convert_float_int w 184 2 .f64 .i64 _ b (by kernel_rfl) (by kernel_rfl) (flo_int h0 h1)
 go_enter Tryz.func119,Tryz.ntmps119
 go_wp2
 go_ret
 exact ⟨rfl,rfl⟩
abbrev camV (z x y wd ht : Int) : Value := .agg #[.int .i64 z, .int .i64 x, .int .i64 y, .int .i64 wd, .int .i64 ht]
def camB (z x y wd ht : Int) : Bool := (zoomB z && (inB wd 1 8 && inB ht 1 8)) && (inB x 0 (pixI z - wd) && inB y 0 (pixI z - ht))
def camC (z x y wd ht : Int) : Int := if camB z x y wd ht = true then 0 else 3
theorem camB_zoom {z x y wd ht : Int} (h : camB z x y wd ht = true) : zoomB z = true := by simp [camB] at h; exact h.1.1
theorem camB_in {z x y wd ht : Int} (h : camB z x y wd ht = true) : ((1 ≤ wd ∧ wd ≤ 8) ∧ (1 ≤ ht ∧ ht ≤ 8)) ∧ ((0 ≤ x ∧ x ≤ pixI z - wd) ∧ (0 ≤ y ∧ y ≤ pixI z - ht)) := by
 simp [camB,inB] at h
 omega
theorem camC_cases (z x y wd ht : Int) : (camC z x y wd ht = 0 ∧ camB z x y wd ht = true) ∨ (camC z x y wd ht = 3 ∧ camB z x y wd ht = false) := by
 unfold camC
 cases h : camB z x y wd ht <;> simp
theorem isView_any (n : Int) (w : World) : Calls Tryz.prog 106 #[.int .i64 n] w fun e w' => e = .returned (.bool (inB n 1 8)) ∧ w = w' := by
 go_enter Tryz.func106,Tryz.ntmps106
 go_wp2_with (go_at_call 36; refine (isWithin_any _ _ _ _).mono ?_; rintro e w' ⟨rfl,rfl⟩)
 go_ret
 exact ⟨rfl,rfl⟩
theorem camFirst_any (z x y wd ht : Int) (w : World) : Calls Tryz.prog 99 #[camV z x y wd ht] w fun e w' => e = .returned (pxV x y) ∧ Below w.heap.size w w' := by
 go_enter Tryz.func99,Tryz.ntmps99
 go_wp2_with (go_at_call 100; refine (pixelAt_any _ _ _).mono ?_; rintro e w' ⟨rfl,rfl⟩)
 go_ret
 exact ⟨rfl,by (repeat (first|exact Qr _ _|assumption|refine Qd ?_|refine Qa ?_ _|refine Qt ?_|refine Qs ?_ _|refine Qo ?_ ?_ _ _))⟩
theorem camSize_any (z x y wd ht : Int) (w : World) : Calls Tryz.prog 103 #[camV z x y wd ht] w fun e w' => e = .returned (pxV wd ht) ∧ Below w.heap.size w w' := by
 go_enter Tryz.func103,Tryz.ntmps103
 go_wp2_with (go_at_call 100; refine (pixelAt_any _ _ _).mono ?_; rintro e w' ⟨rfl,rfl⟩)
 go_ret
 exact ⟨rfl,by (repeat (first|exact Qr _ _|assumption|refine Qd ?_|refine Qa ?_ _|refine Qt ?_|refine Qs ?_ _|refine Qo ?_ ?_ _ _))⟩
theorem camLast_any (z x y wd ht : Int) (w : World) (hx : 0 ≤ x ∧ x ≤ 64) (hy : 0 ≤ y ∧ y ≤ 64) (hw : 1 ≤ wd ∧ wd ≤ 8) (hh : 1 ≤ ht ∧ ht ≤ 8) : Calls Tryz.prog 117 #[camV z x y wd ht] w fun e w' => e = .returned (pxV (x + wd - 1) (y + ht - 1)) ∧ Below w.heap.size w w' := by
 have s1 := fun t w => run_px_add t (a := x) (b := y) (c := wd) (d := ht) w (by omega) (by omega)
 have s2 : ∀ t w,(binOp .sub t (pxV (x + wd) (y + ht)) (.complex .f64 4607182418800017408 4607182418800017408)).run Tryz.prog w = .ok (pxV (x + wd - 1) (y + ht - 1)) w := fun t w => by
  rw [← flo_1]
  exact run_px_sub t (a := x + wd) (b := y + ht) (c := 1) (d := 1) w (by omega) (by omega)
 clear hx hy hw hh
 go_enter Tryz.func117,Tryz.ntmps117
 go_wp2_with fail
 generalize hW : (w.alloc _ : World) = W
 have HB0 : Hid (Below w.heap.size w W) := by show Below _ _ _; subst hW; exact Qb
 have c00 : ∀ W',Below W.heap.size W W' → W'.cell? ⟨w.heap.size,0,none⟩ = some (.int .i64 z) := fun W' h => by
  rw [h.cell (by subst hW; simp <;> omega)]; subst hW; simp [go_sem]
 have c01 : ∀ W',Below W.heap.size W W' → W'.cell? ⟨w.heap.size,1,none⟩ = some (.int .i64 x) := fun W' h => by
  rw [h.cell (by subst hW; simp <;> omega)]; subst hW; simp [go_sem]
 have c02 : ∀ W',Below W.heap.size W W' → W'.cell? ⟨w.heap.size,2,none⟩ = some (.int .i64 y) := fun W' h => by
  rw [h.cell (by subst hW; simp <;> omega)]; subst hW; simp [go_sem]
 have c03 : ∀ W',Below W.heap.size W W' → W'.cell? ⟨w.heap.size,3,none⟩ = some (.int .i64 wd) := fun W' h => by
  rw [h.cell (by subst hW; simp <;> omega)]; subst hW; simp [go_sem]
 have c04 : ∀ W',Below W.heap.size W W' → W'.cell? ⟨w.heap.size,4,none⟩ = some (.int .i64 ht) := fun W' h => by
  rw [h.cell (by subst hW; simp <;> omega)]; subst hW; simp [go_sem]
 clear hW
 have hr : Below W.heap.size W W := Below.refl _ _
 go_region_held3 (fun W' => Below W.heap.size W W') ((repeat (first|exact Qr _ _|assumption|refine Qd ?_|refine Qa ?_ _|refine Qt ?_|refine Qs ?_ _|refine Qo ?_ ?_ _ _)))
  (first
   | (go_at_call 99; refine (camFirst_any _ _ _ _ _ _).mono ?_; rintro e w1 ⟨rfl,hb⟩)
   | (go_at_call 103; refine (camSize_any _ _ _ _ _ _).mono ?_; rintro e w1 ⟨rfl,hb⟩)
   | fail)
 go_wp2
 go_ret
 exact ⟨rfl,bl_then HB0.out (by assumption)⟩
theorem camFault_any (z x y wd ht : Int) (w : World) : Calls Tryz.prog 71 #[camV z x y wd ht] w fun e w' => e = .returned (.int .i64 (camC z x y wd ht)) ∧ Below w.heap.size w w' := by
 cases hv : (inB wd 1 8 && inB ht 1 8 && pixB z x y)
 ·have hk : Hid (camC z x y wd ht = 3) := by
   show _ = _
   unfold camC
   rw [if_neg]
   intro hc
   have h1 := camB_zoom hc
   have h2 := camB_in hc
   have h3 := pixI_bd h1
   have : (inB wd 1 8 && inB ht 1 8 && pixB z x y) = true := by
    simp [pixB,inB,h1]
    omega
   rw [this] at hv
   cases hv
  cases h1 : inB wd 1 8 <;> cases h2 : inB ht 1 8 <;> cases h3 : pixB z x y
  all_goals first | (rw [h1,h2,h3] at hv; cases hv; done) | skip
  all_goals
   clear hv
   go_enter Tryz.func71,Tryz.ntmps71
   go_wp2_with (first
    | (go_at_call 106; refine (isView_any _ _).mono ?_; rintro e w' ⟨rfl,rfl⟩)
    | (go_at_call 116; refine (isPixel_any _ _ _ _).mono ?_; rintro e w' ⟨rfl,hb⟩))
   all_goals (go_ret; exact ⟨ret_int hk.out.symm,by (repeat (first|exact Qr _ _|assumption|refine Qd ?_|refine Qa ?_ _|refine Qt ?_|refine Qs ?_ _|refine Qo ?_ ?_ _ _))⟩)
 ·simp only [Bool.and_eq_true] at hv
  obtain ⟨⟨h1,h2⟩,h3⟩ := hv
  have hz := pixB_zoom h3
  have hp := pixB_in h3
  have hn := pixI_bd hz
  have hw : 1 ≤ wd ∧ wd ≤ 8 := by simpa [inB] using h1
  have hh : 1 ≤ ht ∧ ht ≤ 8 := by simpa [inB] using h2
  have hk : Hid (camC z x y wd ht = if pixB z (x + wd - 1) (y + ht - 1) = true then 0 else 3) := by
   show _ = _
   unfold camC
   have : camB z x y wd ht = pixB z (x + wd - 1) (y + ht - 1) := by
    rw [Bool.eq_iff_iff]
    simp [camB,pixB,inB,hz]
    omega
   rw [this]
  have sL := fun w => camLast_any z x y wd ht w (by omega) (by omega) hw hh
  have sX := fun w => pxX_any (x + wd - 1) (y + ht - 1) w (by omega) (by omega)
  have sY := fun w => pxY_any (x + wd - 1) (y + ht - 1) w (by omega) (by omega)
  have sP := fun w => isPixel_any z (x + wd - 1) (y + ht - 1) w
  clear hp hn hw hh hz
  generalize x + wd - 1 = lx at *
  generalize y + ht - 1 = ly at *
  go_enter Tryz.func71,Tryz.ntmps71
  go_wp2_with fail
  generalize hW : (w.alloc _ : World) = W
  have HB0 : Hid (Below w.heap.size w W) := by show Below _ _ _; subst hW; exact Qb
  have c00 : ∀ W',Below W.heap.size W W' → W'.cell? ⟨w.heap.size,0,none⟩ = some (.int .i64 z) := fun W' h => by
   rw [h.cell (by subst hW; simp <;> omega)]; subst hW; simp [go_sem]
  have c01 : ∀ W',Below W.heap.size W W' → W'.cell? ⟨w.heap.size,1,none⟩ = some (.int .i64 x) := fun W' h => by
   rw [h.cell (by subst hW; simp <;> omega)]; subst hW; simp [go_sem]
  have c02 : ∀ W',Below W.heap.size W W' → W'.cell? ⟨w.heap.size,2,none⟩ = some (.int .i64 y) := fun W' h => by
   rw [h.cell (by subst hW; simp <;> omega)]; subst hW; simp [go_sem]
  have c03 : ∀ W',Below W.heap.size W W' → W'.cell? ⟨w.heap.size,3,none⟩ = some (.int .i64 wd) := fun W' h => by
   rw [h.cell (by subst hW; simp <;> omega)]; subst hW; simp [go_sem]
  have c04 : ∀ W',Below W.heap.size W W' → W'.cell? ⟨w.heap.size,4,none⟩ = some (.int .i64 ht) := fun W' h => by
   rw [h.cell (by subst hW; simp <;> omega)]; subst hW; simp [go_sem]
  clear hW
  have hr : Below W.heap.size W W := Below.refl _ _
  go_wp2_with (first
   | (go_at_call 106; refine (isView_any _ _).mono ?_; rintro e w' ⟨rfl,rfl⟩)
   | fail)
  refine (isPixel_any z x y _).mono ?_
  rintro e w1 ⟨rfl,hb1⟩
  go_wp2_with fail
  refine (sL _).mono ?_
  rintro e w2 ⟨rfl,hb2⟩
  have hB2 : Below W.heap.size W w2 := bl_then hb1 hb2
  clear hb1 hb2
  go_wp2_with fail
  cases hq : pixB z lx ly
  all_goals
   rw [hq] at sP hk
   go_region_held3 (fun W' => Below W.heap.size W W') ((repeat (first|exact Qr _ _|assumption|refine Qd ?_|refine Qa ?_ _|refine Qt ?_|refine Qs ?_ _|refine Qo ?_ ?_ _ _)))
    (first
     | (go_at_call 118; refine (sX _).mono ?_; rintro e w3 ⟨rfl,rfl⟩)
     | (go_at_call 119; refine (sY _).mono ?_; rintro e w3 ⟨rfl,rfl⟩)
     | (go_at_call 116; refine (sP _).mono ?_; rintro e w3 ⟨rfl,hb⟩)
     | fail)
   go_wp2
   go_ret
   exact ⟨ret_int (by rw [hk.out]; rfl),bl_then HB0.out (by assumption)⟩
end Go.Proofs.YtiephlohemphjaaGreat
