/- Texts. -/
import Derived.Test.YtkjbafcalamgnaaGreatVSizeViewer12
import Derived.Test.YtkjbafcalamgnaaGreatVSizeViewer11
set_option linter.unusedSimpArgs false
set_option linter.unusedVariables false
set_option maxRecDepth 100000
set_option maxHeartbeats 32000000
namespace Go.Proofs.YtkjbafcalamgnaaGreat
open Go.RowKit
def isR (e : Req) (z x y : Int) : Bool := (e.z == z) && ((e.x == x) && (e.y == y))
def zN7 (e : Req) : Bool := zCt e.z e.x e.y && (inB e.du 0 9999 && inB e.tr 1 99)
def zX1 (e : Req) : Int := if zN7 e = true then 0 else 3
def atW (n : Nat) (E : Nat → Req) (z x y : Int) : Int := uJ (fun i => isR (E i) z x y) n
def vK (E : Nat → Req) (i : Nat) : Int := if zN7 (E i) = true then (if 0 ≤ atW i E (E i).z (E i).x (E i).y then 6 else 0) else 3
def zO (n : Nat) (E : Nat → Req) : Int := if 8 < n then 2 else xN (vK E) 0 n
theorem zD6 {E : Nat → Req} {i : Nat} (h : zN7 (E i) = false) : vK E i = 3 := by simp [vK, h]
theorem zQa {E : Nat → Req} {i : Nat} (h : zN7 (E i) = true) (h2 : atW i E (E i).z (E i).x (E i).y = -1) : vK E i = 0 := by simp [vK, h, h2]
theorem zG0 {E : Nat → Req} {i : Nat} (h : zN7 (E i) = true) (h2 : 0 ≤ atW i E (E i).z (E i).x (E i).y) : vK E i = 6 := by simp [vK, h, h2]
theorem zWy (e : Req) : isR e e.z e.x e.y = true := by simp [isR]
def zS1 (w : World) (p : Nat) (z x y : Int) : Prop := w.cell? ⟨p, 0, none⟩ = some (.int .i64 z) ∧ w.cell? ⟨p, 1, none⟩ = some (.int .i64 x) ∧ w.cell? ⟨p, 2, none⟩ = some (.int .i64 y)
theorem zS1.lt {w : World} {p : Nat} {z x y : Int} (h : zS1 w p z x y) : p < w.heap.size := World.block_lt_of_cell? _ _ h.1
theorem zS1.below {w w' : World} {p : Nat} {z x y : Int} (h : zS1 w p z x y) (hb : Below w.heap.size w w') : zS1 w' p z x y :=
 ⟨(hb.cell (p := ⟨p, 0, none⟩) h.lt).trans h.1, (hb.cell (p := ⟨p, 1, none⟩) h.lt).trans h.2.1, (hb.cell (p := ⟨p, 2, none⟩) h.lt).trans h.2.2⟩
theorem zW3 (args : Array Value) (w : World) : (callFunc 168 args).run Tryz.prog w = .ok (.enter 168 args) w := by
 have h1 : (Tryz.f168).name ≠ "runtime.NumGoroutine" := by
  have : ((Tryz.f168).name == "runtime.NumGoroutine") = false := by kernel_rfl
  simpa using this
 have hb : ∃ c, (Tryz.f168).body = some c := ⟨_, rfl⟩
 obtain ⟨c, hb⟩ := hb
 simp [callFunc, Tryz.func168, h1, hb]
theorem zIg (e : Req) (r : Nat) (z x y : Int) (w : World) (h : zS1 w r z x y) :
  Calls Tryz.prog 168 #[zLx e, .pointer (some ⟨r, 0, none⟩)] w fun q w' => q = .returned (.bool (isR e z x y)) ∧ Bw w w' := by
 have hl := h.lt
 have c0 : (w.alloc (.cells #[.int .i64 e.z, .int .i64 e.x, .int .i64 e.y, .int .i64 e.du, .int .i64 e.tr] 106)).cell? ⟨r, 0, none⟩ = some (.int .i64 z) := by rw [World.cell?_alloc_lt _ _ _ hl]; exact h.1
 have c1 : (w.alloc (.cells #[.int .i64 e.z, .int .i64 e.x, .int .i64 e.y, .int .i64 e.du, .int .i64 e.tr] 106)).cell? ⟨r, 1, none⟩ = some (.int .i64 x) := by rw [World.cell?_alloc_lt _ _ _ hl]; exact h.2.1
 have c2 : (w.alloc (.cells #[.int .i64 e.z, .int .i64 e.x, .int .i64 e.y, .int .i64 e.du, .int .i64 e.tr] 106)).cell? ⟨r, 2, none⟩ = some (.int .i64 y) := by rw [World.cell?_alloc_lt _ _ _ hl]; exact h.2.2
 have heq := fun w => zHo e.z e.x e.y z x y w
 clear h hl
 go_enter Tryz.func168, Tryz.ntmps168
 go_wp2
 go_ret
 exact ⟨rfl, by (repeat (first|exact Qr _ _|assumption|refine Qd ?_|refine Qa ?_ _|refine Qt ?_|refine Qs ?_ _|refine Qo ?_ ?_ _ _))⟩
theorem zR7 (a : Option Addr) (n cap : Nat) (E : Nat → Req) (r : Nat) (z x y : Int) (w : World) (hp : xL w a n E) (hr : zS1 w r z x y) (hn : n ≤ 1048576) :
  Calls Tryz.prog 167 #[.slice a n cap, .func (.func 168) #[] #[.pointer (some ⟨r, 0, none⟩)]] w fun e w' => e = .returned (.int .i64 (atW n E z x y)) ∧ Bw w w' := by
 have HP : Hid (xL w a n E) := hp
 have HR : Hid (zS1 w r z x y) := hr
 have hce := zW3
 clear hp hr
 go_enter Tryz.func167, Tryz.ntmps167
 go_wp2_with fail
 go_loopw [8] (fun i wr => ∃ k : Nat, k ≤ n ∧ i = .int .i64 (k : Int) ∧ (∀ j, j < k → isR (E j) z x y = false) ∧ Bw w wr) (fun i _ => n - (intOf i).toNat)
 case atStart => exact ⟨0, by omega, rfl, fun j hj => absurd hj (Nat.not_lt_zero _), Below.refl _ _⟩
 case round =>
  obtain ⟨k, hk, rfl, hno, hB⟩ := hrel
  have HN : Hid (∀ j, j < k → isR (E j) z x y = false) := hno
  have HB : Hid (Bw w wr) := hB
  by_cases hlt : k < n
  ·rcases HP.out with h0 | ⟨b, off, rfl, hb, hpt⟩
   ·omega
   obtain ⟨q0, q1, q2, q3, q4⟩ := (hpt.below hB hb) k hlt
   have hi : (k : Int) < (n : Int) := by omega
   have hi0 : (0 : Int) ≤ (k : Int) := by omega
   have sO : Calls Tryz.prog 168 #[zLx (E k), .pointer (some ⟨r, 0, none⟩)] wr fun q w' => q = .returned (.bool (isR (E k) z x y)) ∧ Bw wr w' := zIg (E k) r z x y wr (HR.out.below hB)
   clear hno hB hpt
   cases hE : isR (E k) z x y
   ·rw [hE] at sO
    have HN2 : Hid (∀ j, j < k + 1 → isR (E j) z x y = false) := fun j hj => by
     by_cases e : j = k
     ·rw [e]; exact hE
     ·exact HN.out j (by omega)
    clear hE
    go_wp2_with fail
    refine sO.mono ?_
    rintro e w1 ⟨rfl, hb1⟩
    go_wp2_with fail
    exact ⟨⟨k + 1, by omega, by simp, HN2.out, zA HB.out hb1⟩, by simp [intOf]; omega⟩
   ·rw [hE] at sO
    have HY : Hid (atW n E z x y = (k : Int)) := xY (G := fun i => isR (E i) z x y) hlt hE HN.out
    clear hE
    go_wp2_with fail
    refine sO.mono ?_
    rintro e w1 ⟨rfl, hb1⟩
    go_wp2
    go_ret
    exact ⟨zD HY.out.symm, zA HB.out hb1⟩
  ·obtain rfl : n = k := by omega
   have HY : Hid (atW n E z x y = -1) := zBb (G := fun i => isR (E i) z x y) HN.out
   go_wp2
   go_ret
   exact ⟨zD HY.out.symm, HB.out⟩
theorem zD5 (a : Option Addr) (n cap : Nat) (E : Nat → Req) (z x y : Int) (w : World) (hp : xL w a n E) (hn : n ≤ 1048576) :
  Calls Tryz.prog 126 #[.slice a n cap, vT z x y] w fun e w' => e = .returned (.int .i64 (atW n E z x y)) ∧ Bw w w' := by
 have HI : Hid (∀ W, Bw w W → zS1 W w.heap.size z x y → Calls Tryz.prog 167 #[.slice a n cap, .func (.func 168) #[] #[.pointer (some ⟨w.heap.size, 0, none⟩)]] W fun e w' => e = .returned (.int .i64 (atW n E z x y)) ∧ Bw W w') := fun W h h2 => zR7 a n cap E w.heap.size z x y W (hp.below h) h2 hn
 clear hp
 have hmf : ∀ (fn : Fn) (first cap : Array Value) (w : World), (Instr.makeFunc fn first cap).run Tryz.prog w = .ok (.func fn first cap) w := fun _ _ _ _ => rfl
 generalize atW n E z x y = r at *
 go_enter Tryz.func126, Tryz.ntmps126
 go_wp2_with fail
 generalize hW : (w.alloc _ : World) = W
 have HB0 : Bw w W := by subst hW; exact Qb
 have HR : zS1 W w.heap.size z x y := by subst hW; exact ⟨by simp [go_sem], by simp [go_sem], by simp [go_sem]⟩
 clear hW
 refine (HI.out _ HB0 HR).mono ?_
 rintro e w1 ⟨rfl, hb1⟩
 go_wp2
 go_ret
 exact ⟨rfl, zA HB0 hb1⟩
theorem zFw (e : Req) (w : World) : Calls Tryz.prog 125 #[zLx e] w fun r w' => r = .returned (.int .i64 (zX1 e)) ∧ Bw w w' := by
 rcases zA6 e.z e.x e.y with ⟨h1, h2⟩ | ⟨h1, h2⟩
 ·cases h3 : inB e.du 0 9999 <;> cases h4 : inB e.tr 1 99
  all_goals
   have hk : Hid (zX1 e = if (inB e.du 0 9999 && inB e.tr 1 99) = true then 0 else 3) := by show _ = _; simp [zX1, zN7, h2]
   rw [h3, h4] at hk
   have HF : Hid (∀ w, Calls Tryz.prog 166 #[vT e.z e.x e.y] w fun r w' => r = .returned (.int .i64 0) ∧ Bw w w') := fun w => by have h := zAn e.z e.x e.y w; rw [h1] at h; exact h
   clear h1 h2
   go_enter Tryz.func125, Tryz.ntmps125
   go_wp2_with fail
   generalize hW : (w.alloc _ : World) = W
   have HB0 : Bw w W := by subst hW; exact Qb
   have c3 : ∀ W', Bw W W' → W'.cell? ⟨w.heap.size, 3, none⟩ = some (.int .i64 e.du) := fun W' h => by rw [h.cell (by subst hW; simp)]; subst hW; simp [go_sem]
   have c4 : ∀ W', Bw W W' → W'.cell? ⟨w.heap.size, 4, none⟩ = some (.int .i64 e.tr) := fun W' h => by rw [h.cell (by subst hW; simp)]; subst hW; simp [go_sem]
   clear hW
   refine (HF.out _).mono ?_
   rintro r w1 ⟨rfl, hb1⟩
   have k3 := c3 w1 hb1
   have k4 := c4 w1 hb1
   have HB1 : Hid (Bw w w1) := zA HB0 hb1
   clear c3 c4 hb1 HB0
   go_wp2_with (go_at_call 77; refine (zR _ _ _ _).mono ?_; rintro e w' ⟨rfl, rfl⟩)
   all_goals (go_ret; exact ⟨zD (by rw [hk.out]; rfl), HB1.out⟩)
 ·have hk : Hid (zX1 e = 3) := by show _ = _; simp [zX1, zN7, h2]
  have HF : Hid (∀ w, Calls Tryz.prog 166 #[vT e.z e.x e.y] w fun r w' => r = .returned (.int .i64 3) ∧ Bw w w') := fun w => by have h := zAn e.z e.x e.y w; rw [h1] at h; exact h
  clear h1 h2
  go_enter Tryz.func125, Tryz.ntmps125
  go_wp2_with (go_at_call 166; refine (HF.out _).mono ?_; rintro e w' ⟨rfl, hb⟩)
  go_ret
  exact ⟨zD hk.out.symm, by (repeat (first|exact Qr _ _|assumption|refine Qd ?_|refine Qa ?_ _|refine Qt ?_|refine Qs ?_ _|refine Qo ?_ ?_ _ _))⟩
theorem zMx (a : Option Addr) (n cap : Nat) (E : Nat → Req) (z x y : Int) (w : World) (hp : xL w a n E) (hn : n ≤ 1048576) :
  Calls Tryz.prog 106 #[.slice a n cap, vT z x y] w fun e w' => e = .returned (.int .i64 (atW n E z x y)) ∧ Bw w w' := by
 have HP : Hid (xL w a n E) := hp
 clear hp
 go_enter Tryz.func106, Tryz.ntmps106
 go_wp2_with fail
 generalize hW : (w.alloc _ : World) = W
 have HB0 : Hid (Bw w W) := by show Below _ _ _; subst hW; exact Qb
 have HR : Hid (zS1 W w.heap.size z x y) := by show zS1 _ _ _ _ _; subst hW; exact ⟨by simp [go_sem], by simp [go_sem], by simp [go_sem]⟩
 clear hW
 go_loopw [5] (fun i wr => ∃ k : Nat, k ≤ n ∧ i = .int .i64 (k : Int) ∧ (∀ j, j < k → isR (E j) z x y = false) ∧ Bw W wr) (fun i _ => n - (intOf i).toNat)
 case atStart => exact ⟨0, by omega, rfl, fun j hj => absurd hj (Nat.not_lt_zero _), Below.refl _ _⟩
 case round =>
  obtain ⟨k, hk, rfl, hno, hB⟩ := hrel
  have HN : Hid (∀ j, j < k → isR (E j) z x y = false) := hno
  have HB : Hid (Bw W wr) := hB
  by_cases hlt : k < n
  ·rcases HP.out with h0 | ⟨b, off, rfl, hb, hpt⟩
   ·omega
   obtain ⟨q0, q1, q2, q3, q4⟩ := (hpt.below (zA HB0.out hB) hb) k hlt
   obtain ⟨p0, p1, p2⟩ := HR.out.below hB
   have hi : (k : Int) < (n : Int) := by omega
   have hi0 : (0 : Int) ≤ (k : Int) := by omega
   have heq := fun w => zHo (E k).z (E k).x (E k).y z x y w
   clear hno hB hpt
   have hE0 : ((E k).z == z && ((E k).x == x && (E k).y == y)) = isR (E k) z x y := rfl
   simp only [hE0] at heq
   clear hE0
   cases hE : isR (E k) z x y
   ·simp only [hE] at heq
    have HN2 : Hid (∀ j, j < k + 1 → isR (E j) z x y = false) := fun j hj => by
     by_cases e : j = k
     ·rw [e]; exact hE
     ·exact HN.out j (by omega)
    clear hE
    generalize (E k).z = rz at *
    generalize (E k).x = rx at *
    generalize (E k).y = ry at *
    go_wp2_with fail
    go_quiet (fail)
    go_wp2_with fail
    exact ⟨⟨k + 1, by omega, by simp, HN2.out, below_drewN HB.out _⟩, by simp [intOf]; omega⟩
   ·simp only [hE] at heq
    have HY : Hid (atW n E z x y = (k : Int)) := xY (G := fun i => isR (E i) z x y) hlt hE HN.out
    clear hE
    generalize (E k).z = rz at *
    generalize (E k).x = rx at *
    generalize (E k).y = ry at *
    go_wp2_with fail
    go_quiet (fail)
    go_wp2
    go_ret
    exact ⟨zD HY.out.symm, below_drewN (zA HB0.out HB.out) _⟩
  ·obtain rfl : n = k := by omega
   have HY : Hid (atW n E z x y = -1) := zBb (G := fun i => isR (E i) z x y) HN.out
   go_wp2
   go_ret
   exact ⟨zD HY.out.symm, zA HB0.out HB.out⟩
theorem zUd (a b:Int)(w:World):Calls Tryz.prog 113 #[.int .i64 a,.int .i64 b] w fun e w'=>e=.returned (.int .i64 (min a b))∧w'=w:=by
 by_cases h:a<b
 ·have e:min a b=a:=by omega
  rw [e]
  go_enter Tryz.func113,Tryz.ntmps113
  go_wp2
  go_ret
  exact ⟨rfl,rfl⟩
 ·have e:min a b=b:=by omega
  rw [e]
  go_enter Tryz.func113,Tryz.ntmps113
  go_wp2
  go_ret
  exact ⟨rfl,rfl⟩
theorem zUe (a b:Int)(w:World):Calls Tryz.prog 114 #[.int .i64 a,.int .i64 b] w fun e w'=>e=.returned (.int .i64 (max a b))∧w'=w:=by
 by_cases h:b<a
 ·have e:max a b=a:=by omega
  rw [e]
  go_enter Tryz.func114,Tryz.ntmps114
  go_wp2
  go_ret
  exact ⟨rfl,rfl⟩
 ·have e:max a b=b:=by omega
  rw [e]
  go_enter Tryz.func114,Tryz.ntmps114
  go_wp2
  go_ret
  exact ⟨rfl,rfl⟩
theorem zJl (z x y wd ht:Int)(w:World)(hz:xM z=true)(hw:1≤wd∧wd≤8)(hh:1≤ht∧ht≤8) :
  Calls Tryz.prog 66 #[zCn z x y wd ht] w fun e w'=>e=.returned (zCn z (yQ x (xO z - wd)) (yQ y (xO z - ht)) wd ht)∧Bw w w':=by
 have sN:=fun w=>zHb z w hz
 have hn:=vD hz
 generalize xO z=u at *
 clear hz
 have sA:=fun w=>zUe x 0 w
 have sB:=fun w=>zUd (max x 0) (u - wd) w
 have sC:=fun w=>zUe y 0 w
 have sD:=fun w=>zUd (max y 0) (u - ht) w
 unfold yQ
 generalize max x 0=mx at *
 generalize max y 0=my at *
 generalize hhx:min mx (u - wd)=hx at *
 generalize hhy:min my (u - ht)=hy at *
 clear hhx hhy
 go_enter Tryz.func66,Tryz.ntmps66
 go_wp2_with fail
 generalize hW:((w.alloc _).alloc _:World)=W
 have HB0:Hid (Bw w W):=by show Below _ _ _;subst hW;exact Qb
 have hT:zC W (w.heap.size+1) 5:=by
  subst hW
  have:=zEx (w.alloc (.cells #[.int .i64 z,.int .i64 x,.int .i64 y,.int .i64 wd,.int .i64 ht] 32)) (.int .i64 0) (.int .i64 0) (.int .i64 0) (.int .i64 0) (.int .i64 0) 32
  simpa using this
 have HT:Hid (zC W (w.heap.size+1) 5):=hT
 have hC:zC W w.heap.size 5:=by
  subst hW
  exact (zEx w (.int .i64 z) (.int .i64 x) (.int .i64 y) (.int .i64 wd) (.int .i64 ht) 32).below (by exact Qb)
 have e0:W.cell? ⟨w.heap.size,0,none⟩=some (.int .i64 z):=by subst hW;simp [go_sem]
 have e1:W.cell? ⟨w.heap.size,1,none⟩=some (.int .i64 x):=by subst hW;simp [go_sem]
 have e2:W.cell? ⟨w.heap.size,2,none⟩=some (.int .i64 y):=by subst hW;simp [go_sem]
 have e3:W.cell? ⟨w.heap.size,3,none⟩=some (.int .i64 wd):=by subst hW;simp [go_sem]
 have e4:W.cell? ⟨w.heap.size,4,none⟩=some (.int .i64 ht):=by subst hW;simp [go_sem]
 have g1:=(hC 1 (by omega)).2
 have g2:=(hC 2 (by omega)).2
 have t0:=hT.cell 0 (by omega)
 have t1:=hT.cell 1 (by omega)
 have t2:=hT.cell 2 (by omega)
 have t3:=hT.cell 3 (by omega)
 have t4:=hT.cell 4 (by omega)
 have f0:=(hT 0 (by omega)).2
 have f1:=(hT 1 (by omega)).2
 have f2:=(hT 2 (by omega)).2
 have f3:=(hT 3 (by omega)).2
 have f4:=(hT 4 (by omega)).2
 have r1:IntKind.i64.wrap (u - wd)=u - wd:=IntWalk.i64_in _ (by omega)
 have r2:IntKind.i64.wrap (u - ht)=u - ht:=IntWalk.i64_in _ (by omega)
 clear hW hT hC hn hw hh
 refine (sN _).mono ?_
 rintro e w1 ⟨rfl,rfl⟩
 go_wp2_with fail
 go_cut [] (fun wc=>wc=(W.setCell ⟨w.heap.size,1,none⟩ (.int .i64 hx)).drew)
 case first =>
  go_region_with (first
   | (go_at_call 114;refine (sA _).mono ?_;rintro e w1 ⟨rfl,rfl⟩)
   | (go_at_call 113;refine (sB _).mono ?_;rintro e w1 ⟨rfl,rfl⟩))
  all_goals (go_wp2_with fail;go_meet;exact rfl)
 case rest =>
  generalize wc=wA at *
  have a0:wA.cell? ⟨w.heap.size,0,none⟩=some (.int .i64 z):=by rw [hcut];simpa [go_sem] using e0
  have a1:wA.cell? ⟨w.heap.size,1,none⟩=some (.int .i64 hx):=by rw [hcut];simpa [go_sem] using zE e1
  have a2:wA.cell? ⟨w.heap.size,2,none⟩=some (.int .i64 y):=by rw [hcut];simpa [go_sem] using e2
  have a3:wA.cell? ⟨w.heap.size,3,none⟩=some (.int .i64 wd):=by rw [hcut];simpa [go_sem] using e3
  have a4:wA.cell? ⟨w.heap.size,4,none⟩=some (.int .i64 ht):=by rw [hcut];simpa [go_sem] using e4
  have b2:wA.frozen? ⟨w.heap.size,2,none⟩=false:=by rw [hcut];simpa [go_sem] using g2
  have HTA:Hid (zC wA (w.heap.size+1) 5):=by rw [hcut];exact HT.out.putC
  have HBA:Hid (Bw w wA):=by rw [hcut];exact (HB0.out.setCell (Nat.le_refl _) _).drew
  clear hcut e0 e1 e2 e3 e4 g1 g2 HT HB0 t0 t1 t2 t3 t4 f0 f1 f2 f3 f4
  go_wp2_with fail
  go_cut [] (fun wx=>wx=(wA.setCell ⟨w.heap.size,2,none⟩ (.int .i64 hy)).drew)
  case first =>
   go_region_with (first
    | (go_at_call 114;refine (sC _).mono ?_;rintro e w1 ⟨rfl,rfl⟩)
    | (go_at_call 113;refine (sD _).mono ?_;rintro e w1 ⟨rfl,rfl⟩))
   all_goals (go_wp2_with fail;go_meet;exact rfl)
  case rest =>
   generalize wc=wB at *
   have d0:wB.cell? ⟨w.heap.size,0,none⟩=some (.int .i64 z):=by rw [hcut];simpa [go_sem] using a0
   have d1:wB.cell? ⟨w.heap.size,1,none⟩=some (.int .i64 hx):=by rw [hcut];simpa [go_sem] using a1
   have d2:wB.cell? ⟨w.heap.size,2,none⟩=some (.int .i64 hy):=by rw [hcut];simpa [go_sem] using zE a2
   have d3:wB.cell? ⟨w.heap.size,3,none⟩=some (.int .i64 wd):=by rw [hcut];simpa [go_sem] using a3
   have d4:wB.cell? ⟨w.heap.size,4,none⟩=some (.int .i64 ht):=by rw [hcut];simpa [go_sem] using a4
   have hTB:zC wB (w.heap.size+1) 5:=by rw [hcut];exact HTA.out.putC
   have HTB:Hid (zC wB (w.heap.size+1) 5):=hTB
   have HBB:Hid (Bw w wB):=by rw [hcut];exact (HBA.out.setCell (Nat.le_refl _) _).drew
   have t0:=hTB.cell 0 (by omega)
   have t1:=hTB.cell 1 (by omega)
   have t2:=hTB.cell 2 (by omega)
   have t3:=hTB.cell 3 (by omega)
   have t4:=hTB.cell 4 (by omega)
   have f0:=(hTB 0 (by omega)).2
   have f1:=(hTB 1 (by omega)).2
   have f2:=(hTB 2 (by omega)).2
   have f3:=(hTB 3 (by omega)).2
   have f4:=(hTB 4 (by omega)).2
   clear hcut a0 a1 a2 a3 a4 b2 HTA HBA hTB
   go_wp2_with fail
   obtain ⟨q0,q1,q2,q3,q4⟩:=zP2 (a:=.int .i64 z) (b:=.int .i64 hx) (c:=.int .i64 hy) (d:=.int .i64 wd) (e:=.int .i64 ht) HTB.out
   refine bodyPost_ret (v:=zCn z hx hy wd ht) (by simp [results,Tryz.results66,go_sem,q0,q1,q2,q3,q4]) rfl ⟨rfl,?_⟩
   exact ((((HBB.out.setCell (Nat.le_succ _) _).setCell (Nat.le_succ _) _).setCell (Nat.le_succ _) _).setCell (Nat.le_succ _) _).setCell (Nat.le_succ _) _
theorem uN.belowA {w w':World}{b:Nat}{z x y wd ht:Int}(h:uN w b z x y wd ht)(hb:Below w.heap.size w w'):uN w' b z x y wd ht:=by
 have hB:=World.block_lt_of_cell? _ _ h.1
 exact ⟨(hb.cell (p:=⟨b,0,none⟩) hB).trans h.1,(hb.cell (p:=⟨b,1,none⟩) hB).trans h.2.1,(hb.cell (p:=⟨b,2,none⟩) hB).trans h.2.2.1,(hb.cell (p:=⟨b,3,none⟩) hB).trans h.2.2.2.1,(hb.cell (p:=⟨b,4,none⟩) hB).trans h.2.2.2.2⟩
theorem zDy (z x y wd ht a b:Int)(w:World):Calls Tryz.prog 30 #[zCn z x y wd ht,.int .i64 a,.int .i64 b] w fun e w'=>e=.returned (zGe z x y wd ht a b)∧Bw w w':=by
 have hp:Hid (zGe z x y wd ht a b=if zAi z x y wd ht=true then (if (inB a (-100) 100 && inB b (-100) 100)=true then crV 0 z (yQ (x+a) (xO z - wd)) (yQ (y+b) (xO z - ht)) wd ht else crV 3 0 0 0 0 0) else crV 3 0 0 0 0 0):=rfl
 go_enter Tryz.func30,Tryz.ntmps30
 go_wp2_with fail
 generalize hW:((w.alloc _).alloc _:World)=W
 have HB0:Hid (Bw w W):=by show Below _ _ _;subst hW;exact Qb
 have HT:Hid (zC W (w.heap.size+1) 6):=by
  show zC _ _ _
  subst hW
  have:=zKa (w.alloc (.cells #[.int .i64 z,.int .i64 x,.int .i64 y,.int .i64 wd,.int .i64 ht] 32)) (.int .i64 0) (.int .i64 0) (.int .i64 0) (.int .i64 0) (.int .i64 0) (.int .i64 0) 68
  simpa using this
 have hC:zC W w.heap.size 5:=by
  subst hW
  exact (zEx w (.int .i64 z) (.int .i64 x) (.int .i64 y) (.int .i64 wd) (.int .i64 ht) 32).below (by exact Qb)
 have HC:Hid (zC W w.heap.size 5):=hC
 have hc:uN W w.heap.size z x y wd ht:=by subst hW;exact ⟨by simp [go_sem],by simp [go_sem],by simp [go_sem],by simp [go_sem],by simp [go_sem]⟩
 have HA:Hid (uN W w.heap.size z x y wd ht):=hc
 clear hW hC hc
 refine (zDd w.heap.size z x y wd ht _ HA.out).mono ?_
 rintro e w1 ⟨rfl,hb1⟩
 have HT1:Hid (zC w1 (w.heap.size+1) 6):=HT.out.below hb1
 have HC1:Hid (zC w1 w.heap.size 5):=HC.out.below hb1
 have HB1:Hid (Bw w w1):=zA HB0.out hb1
 have hA1:uN w1 w.heap.size z x y wd ht:=HA.out.belowA hb1
 clear hb1 HT HB0 HC HA
 have hC1:=HC1.out
 have hT1:=HT1.out
 obtain ⟨e0,e1,e2,e3,e4⟩:=hA1
 have g0:=(hC1 0 (by omega)).2
 have g1:=(hC1 1 (by omega)).2
 have g2:=(hC1 2 (by omega)).2
 have g3:=(hC1 3 (by omega)).2
 have g4:=(hC1 4 (by omega)).2
 have t0:=hT1.cell 0 (by omega)
 have t1:=hT1.cell 1 (by omega)
 have t2:=hT1.cell 2 (by omega)
 have t3:=hT1.cell 3 (by omega)
 have t4:=hT1.cell 4 (by omega)
 have t5:=hT1.cell 5 (by omega)
 have f0:=(hT1 0 (by omega)).2
 have f1:=(hT1 1 (by omega)).2
 have f2:=(hT1 2 (by omega)).2
 have f3:=(hT1 3 (by omega)).2
 have f4:=(hT1 4 (by omega)).2
 have f5:=(hT1 5 (by omega)).2
 clear hC1 hT1
 rcases zBe z x y wd ht with ⟨hc,hr⟩ | ⟨hc,hr⟩
 ·simp only [hc]
  cases hd:(inB a (-100) 100 && inB b (-100) 100)
  ·have hq:Hid (zGe z x y wd ht a b=crV 3 0 0 0 0 0):=by show _=_;rw [hp.out,hd];simp [hr]
   clear hr hc hp
   cases h1:inB a (-100) 100 <;> cases h2:inB b (-100) 100
   all_goals first | (rw [h1,h2] at hd;cases hd;done) | skip
   all_goals
    clear hd
    go_wp2_with (go_at_call 59;refine (zY _ _ _ _).mono ?_;rintro e w1 ⟨rfl,rfl⟩)
    obtain ⟨q0,q1,q2,q3,q4,q5⟩:=vJ (a:=.int .i64 3) (b:=.int .i64 0) (c:=.int .i64 0) (d:=.int .i64 0) (e:=.int .i64 0) (f:=.int .i64 0) HT1.out
    exact bodyPost_ret (v:=crV 3 0 0 0 0 0) (by simp [results,Tryz.results30,go_sem,q0,q1,q2,q3,q4,q5]) rfl ⟨by rw [hq.out],zBw HB1.out (Nat.le_succ _)⟩
  ·have hq:Hid (zGe z x y wd ht a b=crV 0 z (yQ (x+a) (xO z - wd)) (yQ (y+b) (xO z - ht)) wd ht):=by show _=_;rw [hp.out,hd];simp [hr]
   have hz:=vG hr
   have hi:=zAf hr
   have hn:=vD hz
   simp only [Bool.and_eq_true] at hd
   obtain ⟨h1,h2⟩:=hd
   have g1':-100≤a∧a≤100:=by simpa [inB] using h1
   have g2':-100≤b∧b≤100:=by simpa [inB] using h2
   have sA:=fun w=>zJl z (x+a) (y+b) wd ht w hz hi.1.1 hi.1.2
   generalize yQ (x+a) (xO z - wd)=hx at *
   generalize yQ (y+b) (xO z - ht)=hy at *
   clear hr hc hp hz
   go_wp2_with (go_at_call 59;refine (zY _ _ _ _).mono ?_;rintro e w1 ⟨rfl,rfl⟩)
   have HB2:Hid (Bw w ((w1.setCell ⟨w.heap.size,1,none⟩ (.int .i64 (x+a))).setCell ⟨w.heap.size,2,none⟩ (.int .i64 (y+b)))):=(HB1.out.setCell (Nat.le_refl _) _).setCell (Nat.le_refl _) _
   have HT2:Hid (zC ((w1.setCell ⟨w.heap.size,1,none⟩ (.int .i64 (x+a))).setCell ⟨w.heap.size,2,none⟩ (.int .i64 (y+b))) (w.heap.size+1) 6):=HT1.out.putC.putC
   refine (sA _).mono ?_
   rintro e w2 ⟨rfl,hb2⟩
   have hT2:=HT2.out.below hb2
   have HT3:Hid (zC w2 (w.heap.size+1) 6):=hT2
   have HB3:Hid (Bw w w2):=zA HB2.out hb2
   clear hb2 HT2 HB2 t0 t1 t2 t3 t4 t5 f0 f1 f2 f3 f4 f5
   have t0:=hT2.cell 0 (by omega)
   have t1:=hT2.cell 1 (by omega)
   have t2:=hT2.cell 2 (by omega)
   have t3:=hT2.cell 3 (by omega)
   have t4:=hT2.cell 4 (by omega)
   have t5:=hT2.cell 5 (by omega)
   have f0:=(hT2 0 (by omega)).2
   have f1:=(hT2 1 (by omega)).2
   have f2:=(hT2 2 (by omega)).2
   have f3:=(hT2 3 (by omega)).2
   have f4:=(hT2 4 (by omega)).2
   have f5:=(hT2 5 (by omega)).2
   clear hT2
   go_wp2_with fail
   obtain ⟨q0,q1,q2,q3,q4,q5⟩:=vJ (a:=.int .i64 0) (b:=.int .i64 z) (c:=.int .i64 hx) (d:=.int .i64 hy) (e:=.int .i64 wd) (f:=.int .i64 ht) HT3.out
   exact bodyPost_ret (v:=crV 0 z hx hy wd ht) (by simp [results,Tryz.results30,go_sem,q0,q1,q2,q3,q4,q5]) rfl ⟨by rw [hq.out],zBw HB3.out (Nat.le_succ _)⟩
 ·simp only [hc]
  have hq:Hid (zGe z x y wd ht a b=crV 3 0 0 0 0 0):=by show _=_;rw [hp.out];simp [hr]
  clear hr hc hp
  go_wp2_with fail
  obtain ⟨q0,q1,q2,q3,q4,q5⟩:=vJ (a:=.int .i64 3) (b:=.int .i64 0) (c:=.int .i64 0) (d:=.int .i64 0) (e:=.int .i64 0) (f:=.int .i64 0) HT1.out
  exact bodyPost_ret (v:=crV 3 0 0 0 0 0) (by simp [results,Tryz.results30,go_sem,q0,q1,q2,q3,q4,q5]) rfl ⟨by rw [hq.out],zBw HB1.out (Nat.le_succ _)⟩
theorem zC7 (z x y wd ht a b:Int)(w:World):Calls Tryz.prog 48 #[zCn z x y wd ht,.int .i64 a,.int .i64 b] w fun e w'=>e=.returned (zFv z x y wd ht a b)∧Bw w w':=by
 have hp:Hid (zFv z x y wd ht a b=if zAi z x y wd ht=true then (if (inB a 1 8 && inB b 1 8)=true then crV 0 z (yQ x (xO z - a)) (yQ y (xO z - b)) a b else crV 3 0 0 0 0 0) else crV 3 0 0 0 0 0):=rfl
 go_enter Tryz.func48,Tryz.ntmps48
 go_wp2_with fail
 generalize hW:((w.alloc _).alloc _:World)=W
 have HB0:Hid (Bw w W):=by show Below _ _ _;subst hW;exact Qb
 have HT:Hid (zC W (w.heap.size+1) 6):=by
  show zC _ _ _
  subst hW
  have:=zKa (w.alloc (.cells #[.int .i64 z,.int .i64 x,.int .i64 y,.int .i64 wd,.int .i64 ht] 32)) (.int .i64 0) (.int .i64 0) (.int .i64 0) (.int .i64 0) (.int .i64 0) (.int .i64 0) 68
  simpa using this
 have hC:zC W w.heap.size 5:=by
  subst hW
  exact (zEx w (.int .i64 z) (.int .i64 x) (.int .i64 y) (.int .i64 wd) (.int .i64 ht) 32).below (by exact Qb)
 have HC:Hid (zC W w.heap.size 5):=hC
 have hc:uN W w.heap.size z x y wd ht:=by subst hW;exact ⟨by simp [go_sem],by simp [go_sem],by simp [go_sem],by simp [go_sem],by simp [go_sem]⟩
 have HA:Hid (uN W w.heap.size z x y wd ht):=hc
 clear hW hC hc
 refine (zDd w.heap.size z x y wd ht _ HA.out).mono ?_
 rintro e w1 ⟨rfl,hb1⟩
 have HT1:Hid (zC w1 (w.heap.size+1) 6):=HT.out.below hb1
 have HC1:Hid (zC w1 w.heap.size 5):=HC.out.below hb1
 have HB1:Hid (Bw w w1):=zA HB0.out hb1
 have hA1:uN w1 w.heap.size z x y wd ht:=HA.out.belowA hb1
 clear hb1 HT HB0 HC HA
 have hC1:=HC1.out
 have hT1:=HT1.out
 obtain ⟨e0,e1,e2,e3,e4⟩:=hA1
 have g0:=(hC1 0 (by omega)).2
 have g1:=(hC1 1 (by omega)).2
 have g2:=(hC1 2 (by omega)).2
 have g3:=(hC1 3 (by omega)).2
 have g4:=(hC1 4 (by omega)).2
 have t0:=hT1.cell 0 (by omega)
 have t1:=hT1.cell 1 (by omega)
 have t2:=hT1.cell 2 (by omega)
 have t3:=hT1.cell 3 (by omega)
 have t4:=hT1.cell 4 (by omega)
 have t5:=hT1.cell 5 (by omega)
 have f0:=(hT1 0 (by omega)).2
 have f1:=(hT1 1 (by omega)).2
 have f2:=(hT1 2 (by omega)).2
 have f3:=(hT1 3 (by omega)).2
 have f4:=(hT1 4 (by omega)).2
 have f5:=(hT1 5 (by omega)).2
 clear hC1 hT1
 rcases zBe z x y wd ht with ⟨hc,hr⟩ | ⟨hc,hr⟩
 ·simp only [hc]
  cases hd:(inB a 1 8 && inB b 1 8)
  ·have hq:Hid (zFv z x y wd ht a b=crV 3 0 0 0 0 0):=by show _=_;rw [hp.out,hd];simp [hr]
   clear hr hc hp
   cases h1:inB a 1 8 <;> cases h2:inB b 1 8
   all_goals first | (rw [h1,h2] at hd;cases hd;done) | skip
   all_goals
    clear hd
    go_wp2_with (go_at_call 59;refine (zY _ _ _ _).mono ?_;rintro e w1 ⟨rfl,rfl⟩)
    obtain ⟨q0,q1,q2,q3,q4,q5⟩:=vJ (a:=.int .i64 3) (b:=.int .i64 0) (c:=.int .i64 0) (d:=.int .i64 0) (e:=.int .i64 0) (f:=.int .i64 0) HT1.out
    exact bodyPost_ret (v:=crV 3 0 0 0 0 0) (by simp [results,Tryz.results48,go_sem,q0,q1,q2,q3,q4,q5]) rfl ⟨by rw [hq.out],zBw HB1.out (Nat.le_succ _)⟩
  ·have hq:Hid (zFv z x y wd ht a b=crV 0 z (yQ x (xO z - a)) (yQ y (xO z - b)) a b):=by show _=_;rw [hp.out,hd];simp [hr]
   have hz:=vG hr
   simp only [Bool.and_eq_true] at hd
   obtain ⟨h1,h2⟩:=hd
   have g1':1≤a∧a≤8:=by simpa [inB] using h1
   have g2':1≤b∧b≤8:=by simpa [inB] using h2
   have sA:=fun w=>zJl z x y a b w hz g1' g2'
   generalize yQ x (xO z - a)=hx at *
   generalize yQ y (xO z - b)=hy at *
   clear hr hc hp hz
   go_wp2_with (go_at_call 59;refine (zY _ _ _ _).mono ?_;rintro e w1 ⟨rfl,rfl⟩)
   have HB2:Hid (Bw w ((w1.setCell ⟨w.heap.size,3,none⟩ (.int .i64 a)).setCell ⟨w.heap.size,4,none⟩ (.int .i64 b))):=(HB1.out.setCell (Nat.le_refl _) _).setCell (Nat.le_refl _) _
   have HT2:Hid (zC ((w1.setCell ⟨w.heap.size,3,none⟩ (.int .i64 a)).setCell ⟨w.heap.size,4,none⟩ (.int .i64 b)) (w.heap.size+1) 6):=HT1.out.putC.putC
   refine (sA _).mono ?_
   rintro e w2 ⟨rfl,hb2⟩
   have hT2:=HT2.out.below hb2
   have HT3:Hid (zC w2 (w.heap.size+1) 6):=hT2
   have HB3:Hid (Bw w w2):=zA HB2.out hb2
   clear hb2 HT2 HB2 t0 t1 t2 t3 t4 t5 f0 f1 f2 f3 f4 f5
   have t0:=hT2.cell 0 (by omega)
   have t1:=hT2.cell 1 (by omega)
   have t2:=hT2.cell 2 (by omega)
   have t3:=hT2.cell 3 (by omega)
   have t4:=hT2.cell 4 (by omega)
   have t5:=hT2.cell 5 (by omega)
   have f0:=(hT2 0 (by omega)).2
   have f1:=(hT2 1 (by omega)).2
   have f2:=(hT2 2 (by omega)).2
   have f3:=(hT2 3 (by omega)).2
   have f4:=(hT2 4 (by omega)).2
   have f5:=(hT2 5 (by omega)).2
   clear hT2
   go_wp2_with fail
   obtain ⟨q0,q1,q2,q3,q4,q5⟩:=vJ (a:=.int .i64 0) (b:=.int .i64 z) (c:=.int .i64 hx) (d:=.int .i64 hy) (e:=.int .i64 a) (f:=.int .i64 b) HT3.out
   exact bodyPost_ret (v:=crV 0 z hx hy a b) (by simp [results,Tryz.results48,go_sem,q0,q1,q2,q3,q4,q5]) rfl ⟨by rw [hq.out],zBw HB3.out (Nat.le_succ _)⟩
 ·simp only [hc]
  have hq:Hid (zFv z x y wd ht a b=crV 3 0 0 0 0 0):=by show _=_;rw [hp.out];simp [hr]
  clear hr hc hp
  go_wp2_with fail
  obtain ⟨q0,q1,q2,q3,q4,q5⟩:=vJ (a:=.int .i64 3) (b:=.int .i64 0) (c:=.int .i64 0) (d:=.int .i64 0) (e:=.int .i64 0) (f:=.int .i64 0) HT1.out
  exact bodyPost_ret (v:=crV 3 0 0 0 0 0) (by simp [results,Tryz.results48,go_sem,q0,q1,q2,q3,q4,q5]) rfl ⟨by rw [hq.out],zBw HB1.out (Nat.le_succ _)⟩
end Go.Proofs.YtkjbafcalamgnaaGreat
