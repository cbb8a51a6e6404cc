/- Texts. -/
import Derived.Test.YtkjbafcalamgnaaGreatVPanViewer11
set_option linter.unusedSimpArgs false
set_option linter.unusedVariables false
set_option maxRecDepth 100000
set_option maxHeartbeats 32000000
namespace Go.Proofs.YtkjbafcalamgnaaGreat
open Go.RowKit
def isR (e : Req) (z x y : Int) : Bool := (e.z == z) && ((e.x == x) && (e.y == y))
def zNv (e : Req) : Bool := zCm e.z e.x e.y && (inB e.du 0 9999 && inB e.tr 1 99)
def zXt (e : Req) : Int := if zNv e = true then 0 else 3
def atW (n : Nat) (E : Nat → Req) (z x y : Int) : Int := uC (fun i => isR (E i) z x y) n
def vF (E : Nat → Req) (i : Nat) : Int := if zNv (E i) = true then (if 0 ≤ atW i E (E i).z (E i).x (E i).y then 6 else 0) else 3
def zO (n : Nat) (E : Nat → Req) : Int := if 8 < n then 2 else xL (vF E) 0 n
theorem zDv {E : Nat → Req} {i : Nat} (h : zNv (E i) = false) : vF E i = 3 := by simp [vF, h]
theorem zPy {E : Nat → Req} {i : Nat} (h : zNv (E i) = true) (h2 : atW i E (E i).z (E i).x (E i).y = -1) : vF E i = 0 := by simp [vF, h, h2]
theorem zGm {E : Nat → Req} {i : Nat} (h : zNv (E i) = true) (h2 : 0 ≤ atW i E (E i).z (E i).x (E i).y) : vF E i = 6 := by simp [vF, h, h2]
theorem zWq (e : Req) : isR e e.z e.x e.y = true := by simp [isR]
def zSr (w : World) (p : Nat) (z x y : Int) : Prop := w.cell? ⟨p, 0, none⟩ = some (.int .i64 z) ∧ w.cell? ⟨p, 1, none⟩ = some (.int .i64 x) ∧ w.cell? ⟨p, 2, none⟩ = some (.int .i64 y)
theorem zSr.lt {w : World} {p : Nat} {z x y : Int} (h : zSr w p z x y) : p < w.heap.size := World.block_lt_of_cell? _ _ h.1
theorem zSr.below {w w' : World} {p : Nat} {z x y : Int} (h : zSr w p z x y) (hb : Below w.heap.size w w') : zSr w' p z x y :=
 ⟨(hb.cell (p := ⟨p, 0, none⟩) h.lt).trans h.1, (hb.cell (p := ⟨p, 1, none⟩) h.lt).trans h.2.1, (hb.cell (p := ⟨p, 2, none⟩) h.lt).trans h.2.2⟩
theorem zWv (args : Array Value) (w : World) : (callFunc 168 args).run Tryz.prog w = .ok (.enter 168 args) w := by
 have h1 : (Tryz.f168).name ≠ "runtime.NumGoroutine" := by
  have : ((Tryz.f168).name == "runtime.NumGoroutine") = false := by kernel_rfl
  simpa using this
 have hb : ∃ c, (Tryz.f168).body = some c := ⟨_, rfl⟩
 obtain ⟨c, hb⟩ := hb
 simp [callFunc, Tryz.func168, h1, hb]
theorem zH4 (e : Req) (r : Nat) (z x y : Int) (w : World) (h : zSr w r z x y) :
  Calls Tryz.prog 168 #[zLj e, .pointer (some ⟨r, 0, none⟩)] w fun q w' => q = .returned (.bool (isR e z x y)) ∧ Bw w w' := by
 have hl := h.lt
 have c0 : (w.alloc (.cells #[.int .i64 e.z, .int .i64 e.x, .int .i64 e.y, .int .i64 e.du, .int .i64 e.tr] 106)).cell? ⟨r, 0, none⟩ = some (.int .i64 z) := by rw [World.cell?_alloc_lt _ _ _ hl]; exact h.1
 have c1 : (w.alloc (.cells #[.int .i64 e.z, .int .i64 e.x, .int .i64 e.y, .int .i64 e.du, .int .i64 e.tr] 106)).cell? ⟨r, 1, none⟩ = some (.int .i64 x) := by rw [World.cell?_alloc_lt _ _ _ hl]; exact h.2.1
 have c2 : (w.alloc (.cells #[.int .i64 e.z, .int .i64 e.x, .int .i64 e.y, .int .i64 e.du, .int .i64 e.tr] 106)).cell? ⟨r, 2, none⟩ = some (.int .i64 y) := by rw [World.cell?_alloc_lt _ _ _ hl]; exact h.2.2
 have heq := fun w => zHa e.z e.x e.y z x y w
 clear h hl
 go_enter Tryz.func168, Tryz.ntmps168
 go_wp2
 go_ret
 exact ⟨rfl, by (repeat (first|exact Qr _ _|assumption|refine Qd ?_|refine Qa ?_ _|refine Qt ?_|refine Qs ?_ _|refine Qo ?_ ?_ _ _))⟩
theorem zRv (a : Option Addr) (n cap : Nat) (E : Nat → Req) (r : Nat) (z x y : Int) (w : World) (hp : xS w a n E) (hr : zSr w r z x y) (hn : n ≤ 1048576) :
  Calls Tryz.prog 167 #[.slice a n cap, .func (.func 168) #[] #[.pointer (some ⟨r, 0, none⟩)]] w fun e w' => e = .returned (.int .i64 (atW n E z x y)) ∧ Bw w w' := by
 have HP : Hid (xS w a n E) := hp
 have HR : Hid (zSr w r z x y) := hr
 have hce := zWv
 clear hp hr
 go_enter Tryz.func167, Tryz.ntmps167
 go_wp2_with fail
 go_loopw [8] (fun i wr => ∃ k : Nat, k ≤ n ∧ i = .int .i64 (k : Int) ∧ (∀ j, j < k → isR (E j) z x y = false) ∧ Bw w wr) (fun i _ => n - (intOf i).toNat)
 case atStart => exact ⟨0, by omega, rfl, fun j hj => absurd hj (Nat.not_lt_zero _), Below.refl _ _⟩
 case round =>
  obtain ⟨k, hk, rfl, hno, hB⟩ := hrel
  have HN : Hid (∀ j, j < k → isR (E j) z x y = false) := hno
  have HB : Hid (Bw w wr) := hB
  by_cases hlt : k < n
  ·rcases HP.out with h0 | ⟨b, off, rfl, hb, hpt⟩
   ·omega
   obtain ⟨q0, q1, q2, q3, q4⟩ := (hpt.below hB hb) k hlt
   have hi : (k : Int) < (n : Int) := by omega
   have hi0 : (0 : Int) ≤ (k : Int) := by omega
   have sO : Calls Tryz.prog 168 #[zLj (E k), .pointer (some ⟨r, 0, none⟩)] wr fun q w' => q = .returned (.bool (isR (E k) z x y)) ∧ Bw wr w' := zH4 (E k) r z x y wr (HR.out.below hB)
   clear hno hB hpt
   cases hE : isR (E k) z x y
   ·rw [hE] at sO
    have HN2 : Hid (∀ j, j < k + 1 → isR (E j) z x y = false) := fun j hj => by
     by_cases e : j = k
     ·rw [e]; exact hE
     ·exact HN.out j (by omega)
    clear hE
    go_wp2_with fail
    refine sO.mono ?_
    rintro e w1 ⟨rfl, hb1⟩
    go_wp2_with fail
    exact ⟨⟨k + 1, by omega, by simp, HN2.out, zA HB.out hb1⟩, by simp [intOf]; omega⟩
   ·rw [hE] at sO
    have HY : Hid (atW n E z x y = (k : Int)) := xW (G := fun i => isR (E i) z x y) hlt hE HN.out
    clear hE
    go_wp2_with fail
    refine sO.mono ?_
    rintro e w1 ⟨rfl, hb1⟩
    go_wp2
    go_ret
    exact ⟨zD HY.out.symm, zA HB.out hb1⟩
  ·obtain rfl : n = k := by omega
   have HY : Hid (atW n E z x y = -1) := zA3 (G := fun i => isR (E i) z x y) HN.out
   go_wp2
   go_ret
   exact ⟨zD HY.out.symm, HB.out⟩
theorem zDt (a : Option Addr) (n cap : Nat) (E : Nat → Req) (z x y : Int) (w : World) (hp : xS w a n E) (hn : n ≤ 1048576) :
  Calls Tryz.prog 126 #[.slice a n cap, vN z x y] w fun e w' => e = .returned (.int .i64 (atW n E z x y)) ∧ Bw w w' := by
 have HI : Hid (∀ W, Bw w W → zSr W w.heap.size z x y → Calls Tryz.prog 167 #[.slice a n cap, .func (.func 168) #[] #[.pointer (some ⟨w.heap.size, 0, none⟩)]] W fun e w' => e = .returned (.int .i64 (atW n E z x y)) ∧ Bw W w') := fun W h h2 => zRv a n cap E w.heap.size z x y W (hp.below h) h2 hn
 clear hp
 have hmf : ∀ (fn : Fn) (first cap : Array Value) (w : World), (Instr.makeFunc fn first cap).run Tryz.prog w = .ok (.func fn first cap) w := fun _ _ _ _ => rfl
 generalize atW n E z x y = r at *
 go_enter Tryz.func126, Tryz.ntmps126
 go_wp2_with fail
 generalize hW : (w.alloc _ : World) = W
 have HB0 : Bw w W := by subst hW; exact Qb
 have HR : zSr W w.heap.size z x y := by subst hW; exact ⟨by simp [go_sem], by simp [go_sem], by simp [go_sem]⟩
 clear hW
 refine (HI.out _ HB0 HR).mono ?_
 rintro e w1 ⟨rfl, hb1⟩
 go_wp2
 go_ret
 exact ⟨rfl, zA HB0 hb1⟩
theorem zFj (e : Req) (w : World) : Calls Tryz.prog 125 #[zLj e] w fun r w' => r = .returned (.int .i64 (zXt e)) ∧ Bw w w' := by
 rcases zAy e.z e.x e.y with ⟨h1, h2⟩ | ⟨h1, h2⟩
 ·cases h3 : inB e.du 0 9999 <;> cases h4 : inB e.tr 1 99
  all_goals
   have hk : Hid (zXt e = if (inB e.du 0 9999 && inB e.tr 1 99) = true then 0 else 3) := by show _ = _; simp [zXt, zNv, h2]
   rw [h3, h4] at hk
   have HF : Hid (∀ w, Calls Tryz.prog 166 #[vN e.z e.x e.y] w fun r w' => r = .returned (.int .i64 0) ∧ Bw w w') := fun w => by have h := zAf e.z e.x e.y w; rw [h1] at h; exact h
   clear h1 h2
   go_enter Tryz.func125, Tryz.ntmps125
   go_wp2_with fail
   generalize hW : (w.alloc _ : World) = W
   have HB0 : Bw w W := by subst hW; exact Qb
   have c3 : ∀ W', Bw W W' → W'.cell? ⟨w.heap.size, 3, none⟩ = some (.int .i64 e.du) := fun W' h => by rw [h.cell (by subst hW; simp)]; subst hW; simp [go_sem]
   have c4 : ∀ W', Bw W W' → W'.cell? ⟨w.heap.size, 4, none⟩ = some (.int .i64 e.tr) := fun W' h => by rw [h.cell (by subst hW; simp)]; subst hW; simp [go_sem]
   clear hW
   refine (HF.out _).mono ?_
   rintro r w1 ⟨rfl, hb1⟩
   have k3 := c3 w1 hb1
   have k4 := c4 w1 hb1
   have HB1 : Hid (Bw w w1) := zA HB0 hb1
   clear c3 c4 hb1 HB0
   go_wp2_with (go_at_call 77; refine (zR _ _ _ _).mono ?_; rintro e w' ⟨rfl, rfl⟩)
   all_goals (go_ret; exact ⟨zD (by rw [hk.out]; rfl), HB1.out⟩)
 ·have hk : Hid (zXt e = 3) := by show _ = _; simp [zXt, zNv, h2]
  have HF : Hid (∀ w, Calls Tryz.prog 166 #[vN e.z e.x e.y] w fun r w' => r = .returned (.int .i64 3) ∧ Bw w w') := fun w => by have h := zAf e.z e.x e.y w; rw [h1] at h; exact h
  clear h1 h2
  go_enter Tryz.func125, Tryz.ntmps125
  go_wp2_with (go_at_call 166; refine (HF.out _).mono ?_; rintro e w' ⟨rfl, hb⟩)
  go_ret
  exact ⟨zD hk.out.symm, by (repeat (first|exact Qr _ _|assumption|refine Qd ?_|refine Qa ?_ _|refine Qt ?_|refine Qs ?_ _|refine Qo ?_ ?_ _ _))⟩
theorem zMl (a : Option Addr) (n cap : Nat) (E : Nat → Req) (z x y : Int) (w : World) (hp : xS w a n E) (hn : n ≤ 1048576) :
  Calls Tryz.prog 106 #[.slice a n cap, vN z x y] w fun e w' => e = .returned (.int .i64 (atW n E z x y)) ∧ Bw w w' := by
 have HP : Hid (xS w a n E) := hp
 clear hp
 go_enter Tryz.func106, Tryz.ntmps106
 go_wp2_with fail
 generalize hW : (w.alloc _ : World) = W
 have HB0 : Hid (Bw w W) := by show Below _ _ _; subst hW; exact Qb
 have HR : Hid (zSr W w.heap.size z x y) := by show zSr _ _ _ _ _; subst hW; exact ⟨by simp [go_sem], by simp [go_sem], by simp [go_sem]⟩
 clear hW
 go_loopw [5] (fun i wr => ∃ k : Nat, k ≤ n ∧ i = .int .i64 (k : Int) ∧ (∀ j, j < k → isR (E j) z x y = false) ∧ Bw W wr) (fun i _ => n - (intOf i).toNat)
 case atStart => exact ⟨0, by omega, rfl, fun j hj => absurd hj (Nat.not_lt_zero _), Below.refl _ _⟩
 case round =>
  obtain ⟨k, hk, rfl, hno, hB⟩ := hrel
  have HN : Hid (∀ j, j < k → isR (E j) z x y = false) := hno
  have HB : Hid (Bw W wr) := hB
  by_cases hlt : k < n
  ·rcases HP.out with h0 | ⟨b, off, rfl, hb, hpt⟩
   ·omega
   obtain ⟨q0, q1, q2, q3, q4⟩ := (hpt.below (zA HB0.out hB) hb) k hlt
   obtain ⟨p0, p1, p2⟩ := HR.out.below hB
   have hi : (k : Int) < (n : Int) := by omega
   have hi0 : (0 : Int) ≤ (k : Int) := by omega
   have heq := fun w => zHa (E k).z (E k).x (E k).y z x y w
   clear hno hB hpt
   have hE0 : ((E k).z == z && ((E k).x == x && (E k).y == y)) = isR (E k) z x y := rfl
   simp only [hE0] at heq
   clear hE0
   cases hE : isR (E k) z x y
   ·simp only [hE] at heq
    have HN2 : Hid (∀ j, j < k + 1 → isR (E j) z x y = false) := fun j hj => by
     by_cases e : j = k
     ·rw [e]; exact hE
     ·exact HN.out j (by omega)
    clear hE
    generalize (E k).z = rz at *
    generalize (E k).x = rx at *
    generalize (E k).y = ry at *
    go_wp2_with fail
    go_quiet (fail)
    go_wp2_with fail
    exact ⟨⟨k + 1, by omega, by simp, HN2.out, below_drewN HB.out _⟩, by simp [intOf]; omega⟩
   ·simp only [hE] at heq
    have HY : Hid (atW n E z x y = (k : Int)) := xW (G := fun i => isR (E i) z x y) hlt hE HN.out
    clear hE
    generalize (E k).z = rz at *
    generalize (E k).x = rx at *
    generalize (E k).y = ry at *
    go_wp2_with fail
    go_quiet (fail)
    go_wp2
    go_ret
    exact ⟨zD HY.out.symm, below_drewN (zA HB0.out HB.out) _⟩
  ·obtain rfl : n = k := by omega
   have HY : Hid (atW n E z x y = -1) := zA3 (G := fun i => isR (E i) z x y) HN.out
   go_wp2
   go_ret
   exact ⟨zD HY.out.symm, zA HB0.out HB.out⟩
def V0 (B X:World):Prop:=Bw B X
def V1 (B X:World)(r:Nat):Prop:=Bw B X∧zC X r 3∧B.heap.size≤r
def V2 (B X:World)(r q:Nat):Prop:=V1 B X r∧V1 B X q∧r≠q
theorem V0.b {B X:World}(h:V0 B X):Bw B X:=h
theorem V1.b {B X:World}{r:Nat}(h:V1 B X r):Bw B X:=h.1
theorem V2.b {B X:World}{r q:Nat}(h:V2 B X r q):Bw B X:=h.1.1
theorem V0.call {B X Y:World}(h:V0 B X)(hb:Below X.heap.size X Y):V0 B Y:=zA h hb
theorem V1.call {B X Y:World}{r:Nat}(h:V1 B X r)(hb:Below X.heap.size X Y):V1 B Y r:=⟨zA h.1 hb,h.2.1.below hb,h.2.2⟩
theorem V2.call {B X Y:World}{r q:Nat}(h:V2 B X r q)(hb:Below X.heap.size X Y):V2 B Y r q:=⟨h.1.call hb,h.2.1.call hb,h.2.2⟩
theorem V2.swap {B X:World}{r q:Nat}(h:V2 B X r q):V2 B X q r:=⟨h.2.1,h.1,h.2.2.symm⟩
theorem V0.new {B X:World}(h:V0 B X)(a b c:Value)(t:TypeId):V1 B (X.alloc (.cells #[a,b,c] t)) X.heap.size:=⟨zA h (xA (Below.refl _ _) _),zCt X a b c t,Below.size h⟩
theorem V1.new2 {B X:World}{r:Nat}(h:V1 B X r)(a b c:Value)(t:TypeId):V2 B (X.alloc (.cells #[a,b,c] t)) r X.heap.size:=⟨h.call (xA (Below.refl _ _) _),V0.new h.1 a b c t,by have:=h.2.1.lt3;omega⟩
theorem zC8 {z x y wd ht lx ly hx hy ex ey:Int}{NX NY:Nat}{R:Rfs}(w:World)(hr:zA6 z x y wd ht=true)(hex:x+wd - 1=ex)(hey:y+ht - 1=ey)(e1:x / 8=lx)(e2:y / 8=ly)(e3:ex / 8=hx)(e4:ey / 8=hy)(hNX:(1≤NX∧NX≤2)∧hx=lx+(NX:Int) - 1)(hNY:(1≤NY∧NY≤2)∧hy=ly+(NY:Int) - 1)(hR:R=⟨fun _=>z,fun i=>lx+(i % NX:Nat),fun i=>ly+(i / NX:Nat)⟩) :
  Calls Tryz.prog 131 #[zDi z x y wd ht] w fun e w'=>∃ v,e=.returned (.agg #[.int .i64 0,v])∧zNs w' w.heap.size v (NY * NX) R∧Bw w w':=by
 have HR:Hid (R=⟨fun _=>z,fun i=>lx+(i % NX:Nat),fun i=>ly+(i / NX:Nat)⟩):=hR
 have HX:Hid (hx=lx+(NX:Int) - 1):=hNX.2
 have HY:Hid (hy=ly+(NY:Int) - 1):=hNY.2
 have nX:=hNX.1
 have nY:=hNY.1
 clear hR hNX hNY
 have hc:uK z x y wd ht=0:=by unfold uK;rw [if_pos hr]
 have hz:=uZ hr
 have hin:=zAs hr
 have hn:=vG hz
 have hp1:zA8 z x y=true:=by simp [zA8,inB,hz];omega
 have hp2:zA8 z ex ey=true:=by simp [zA8,inB,hz];omega
 have sC:=fun w=>uE z x y wd ht w
 have sF:=fun w=>zB7 z x y wd ht w
 have sL:=fun w=>zHn z x y wd ht w (by omega) (by omega) hin.1.1 hin.1.2
 have sT1:=fun w=>zIt z x y wd ht x y w hp1
 have sT2:=fun w=>zIt z x y wd ht ex ey w hp2
 have bl:0≤lx∧lx≤8∧0≤ly∧ly≤8:=by omega
 rw [hex,hey] at sL
 rw [e1,e2] at sT1
 rw [e3,e4] at sT2
 rw [hc] at sC
 clear hc hr hz hin hn hp1 hp2 hex hey e1 e2 e3 e4
 obtain ⟨i0,hi,hz0,hz1,hz2⟩:=info_parts zKy
 go_enter Tryz.func131,Tryz.ntmps131
 go_wp2_with fail
 generalize hW:((w.alloc _).alloc _:World)=W
 have HB0:Hid (Bw w W):=by show Below _ _ _;subst hW;exact Qb
 have HT:Hid (zC W (w.heap.size+1) 2):=by
  show zC _ _ _
  subst hW
  have:=zS5 (w.alloc (.cells #[.int .i64 z,.int .i64 x,.int .i64 y,.int .i64 wd,.int .i64 ht] 32)) (.int .i64 0) (.slice none 0 0) 180
  simpa using this
 have c00:∀ W',Bw W W'→W'.cell? ⟨w.heap.size,0,none⟩=some (.int .i64 z):=Qc hW
 have c01:∀ W',Bw W W'→W'.cell? ⟨w.heap.size,1,none⟩=some (.int .i64 x):=Qc hW
 have c02:∀ W',Bw W W'→W'.cell? ⟨w.heap.size,2,none⟩=some (.int .i64 y):=Qc hW
 have c03:∀ W',Bw W W'→W'.cell? ⟨w.heap.size,3,none⟩=some (.int .i64 wd):=Qc hW
 have c04:∀ W',Bw W W'→W'.cell? ⟨w.heap.size,4,none⟩=some (.int .i64 ht):=Qc hW
 clear hW
 refine (sC _).mono ?_
 rintro e w1 ⟨rfl,hb1⟩
 have HB1:Hid (Bw w w1):=zA HB0.out hb1
 have HT1:Hid (zC w1 (w.heap.size+1) 2):=HT.out.below hb1
 have c0:∀ W',Bw w1 W'→W'.cell? ⟨w.heap.size,0,none⟩=some (.int .i64 z):=fun W' h=>c00 W' (zA hb1 h)
 have c1:∀ W',Bw w1 W'→W'.cell? ⟨w.heap.size,1,none⟩=some (.int .i64 x):=fun W' h=>c01 W' (zA hb1 h)
 have c2:∀ W',Bw w1 W'→W'.cell? ⟨w.heap.size,2,none⟩=some (.int .i64 y):=fun W' h=>c02 W' (zA hb1 h)
 have c3:∀ W',Bw w1 W'→W'.cell? ⟨w.heap.size,3,none⟩=some (.int .i64 wd):=fun W' h=>c03 W' (zA hb1 h)
 have c4:∀ W',Bw w1 W'→W'.cell? ⟨w.heap.size,4,none⟩=some (.int .i64 ht):=fun W' h=>c04 W' (zA hb1 h)
 clear hb1 HB0 HT c00 c01 c02 c03 c04
 go_wp2_with fail
 go_cut [4,5] (fun p q wc=>∃ b4 b5:Nat,p=.pointer (some ⟨b4,0,none⟩)∧q=.pointer (some ⟨b5,0,none⟩)∧zAl wc b4 z lx ly∧zAl wc b5 z hx hy∧Bw w1 wc)
 case first =>
  refine wp_region_noPanic ?_
  refine wp_region_held_drew (S:=fun W'=>Bw w1 W') (by kernel_rfl) (by exact Qb) (fun hHeld=>?_)
  have hV:V0 w1 w1.drew:=hHeld
  refine zF (i:=0) (d:=some 15) rfl rfl (hS:=hHeld) ?_
  try simp only [Act.put,Qx,Qy,Qz]
  refine zF (i:=1) (d:=some 16) rfl rfl (hS:=hHeld) ?_
  try simp only [Act.put,Qx,Qy,Qz]
  refine zF (i:=4) (d:=some 19) rfl rfl (hS:=hHeld) ?_
  try simp only [Act.put,Qx,Qy,Qz]
  refine zF (i:=5) (d:=some 20) rfl rfl (hS:=hHeld) ?_
  try simp only [Act.put,Qx,Qy,Qz]
  clear hHeld
  generalize w1.drew=X at *
  refine' (fun (g4t:∀ (X:World) (r q:Nat),V2 w1 X r q→(_:World→Nat→Nat→Prop) X r q)=>?_) ?_
  rotate_left
  refine' (fun (g3t:∀ (X:World) (r q:Nat),V2 w1 X r q→(_:World→Nat→Nat→Prop) X r q)=>?_) ?_
  rotate_left
  refine' (fun (g2t:∀ (X:World) (r q:Nat),V2 w1 X r q→(_:World→Nat→Nat→Prop) X r q)=>?_) ?_
  rotate_left
  refine' (fun (g1t:∀ (X:World) (r q:Nat),V2 w1 X r q→(_:World→Nat→Nat→Prop) X r q)=>?_) ?_
  rotate_left
  refine' (fun (g0t:∀ (X:World) (r q:Nat),V2 w1 X r q→(_:World→Nat→Nat→Prop) X r q)=>?_) ?_
  rotate_left
  refine' (fun (g4a:∀ (X:World) (r:Nat),V1 w1 X r→(_:World→Nat→Prop) X r)=>?_) ?_
  rotate_left
  refine' (fun (g4b:∀ (X:World) (q:Nat),V1 w1 X q→(_:World→Nat→Prop) X q)=>?_) ?_
  rotate_left
  refine' (fun (g3a:∀ (X:World) (r:Nat),V1 w1 X r→(_:World→Nat→Prop) X r)=>?_) ?_
  rotate_left
  refine' (fun (g3b:∀ (X:World) (q:Nat),V1 w1 X q→(_:World→Nat→Prop) X q)=>?_) ?_
  rotate_left
  refine' (fun (g2a:∀ (X:World) (r:Nat),V1 w1 X r→(_:World→Nat→Prop) X r)=>?_) ?_
  rotate_left
  refine' (fun (g2b:∀ (X:World) (q:Nat),V1 w1 X q→(_:World→Nat→Prop) X q)=>?_) ?_
  rotate_left
  refine' (fun (g1a:∀ (X:World) (r:Nat),V1 w1 X r→(_:World→Nat→Prop) X r)=>?_) ?_
  rotate_left
  refine' (fun (g1b:∀ (X:World) (q:Nat),V1 w1 X q→(_:World→Nat→Prop) X q)=>?_) ?_
  rotate_left
  refine' (fun (g0a:∀ (X:World) (r:Nat),V1 w1 X r→(_:World→Nat→Prop) X r)=>?_) ?_
  rotate_left
  refine' (fun (g0b:∀ (X:World) (q:Nat),V1 w1 X q→(_:World→Nat→Prop) X q)=>?_) ?_
  rotate_left
  refine' (fun (g4n:∀ (X:World),V0 w1 X→(_:World→Prop) X)=>?_) ?_
  rotate_left
  refine' (fun (g3n:∀ (X:World),V0 w1 X→(_:World→Prop) X)=>?_) ?_
  rotate_left
  refine' (fun (g2n:∀ (X:World),V0 w1 X→(_:World→Prop) X)=>?_) ?_
  rotate_left
  refine' (fun (g1n:∀ (X:World),V0 w1 X→(_:World→Prop) X)=>?_) ?_
  rotate_left
  refine wpAnyH_ready (rs:=[2,8,9]) (by kernel_rfl) (by simp) ?_
  refine (AllReadyH.cons rfl (fun K hK=>?_) (AllReadyH.cons rfl (fun K hK=>?_) (AllReadyH.cons rfl (fun K hK=>?_) AllReadyH.nil)))
  ·rw [if_pos (by rfl)]
   go_simp
   refine Calls.mono (sF _) ?_
   rintro e Y ⟨rfl,hb⟩
   have hU:=hV.call hb
   go_wp2_with fail
   refine hK.out _ _ hU.b (fun hHeld=>?_)
   clear hK K
   try simp only [Act.put,Qx,Qy,Qz]
   exact g1n Y hU
  ·rw [if_pos (by rfl)]
   go_simp
   generalize hwA:(World.alloc _ _:World)=Y
   have hU:V1 w1 Y X.heap.size:=by subst hwA;exact hV.new _ _ _ _
   refine hK.out _ _ hU.b (fun hHeld=>?_)
   clear hK K hwA
   try simp only [Act.put,Qx,Qy,Qz]
   generalize X.heap.size=m at hU ⊢
   exact g0a Y m hU
  ·rw [if_pos (by rfl)]
   go_simp
   generalize hwA:(World.alloc _ _:World)=Y
   have hU:V1 w1 Y X.heap.size:=by subst hwA;exact hV.new _ _ _ _
   refine hK.out _ _ hU.b (fun hHeld=>?_)
   clear hK K hwA
   try simp only [Act.put,Qx,Qy,Qz]
   generalize X.heap.size=m at hU ⊢
   exact g0b Y m hU
  intro X hV
  try dsimp only
  refine wpAnyH_ready (rs:=[3,8,9]) (by kernel_rfl) (by simp) ?_
  refine (AllReadyH.cons rfl (fun K hK=>?_) (AllReadyH.cons rfl (fun K hK=>?_) (AllReadyH.cons rfl (fun K hK=>?_) AllReadyH.nil)))
  ·rw [if_pos (by rfl)]
   go_simp
   refine Calls.mono (sT1 _) ?_
   rintro e Y ⟨rfl,hb⟩
   have hU:=hV.call hb
   go_wp2_with fail
   refine hK.out _ _ hU.b (fun hHeld=>?_)
   clear hK K
   try simp only [Act.put,Qx,Qy,Qz]
   exact g2n Y hU
  ·rw [if_pos (by rfl)]
   go_simp
   generalize hwA:(World.alloc _ _:World)=Y
   have hU:V1 w1 Y X.heap.size:=by subst hwA;exact hV.new _ _ _ _
   refine hK.out _ _ hU.b (fun hHeld=>?_)
   clear hK K hwA
   try simp only [Act.put,Qx,Qy,Qz]
   generalize X.heap.size=m at hU ⊢
   exact g1a Y m hU
  ·rw [if_pos (by rfl)]
   go_simp
   generalize hwA:(World.alloc _ _:World)=Y
   have hU:V1 w1 Y X.heap.size:=by subst hwA;exact hV.new _ _ _ _
   refine hK.out _ _ hU.b (fun hHeld=>?_)
   clear hK K hwA
   try simp only [Act.put,Qx,Qy,Qz]
   generalize X.heap.size=m at hU ⊢
   exact g1b Y m hU
  intro X hV
  try dsimp only
  refine wpAnyH_ready (rs:=[6,8,9]) (by kernel_rfl) (by simp) ?_
  refine (AllReadyH.cons rfl (fun K hK=>?_) (AllReadyH.cons rfl (fun K hK=>?_) (AllReadyH.cons rfl (fun K hK=>?_) AllReadyH.nil)))
  ·rw [if_pos (by rfl)]
   go_simp
   refine Calls.mono (sL _) ?_
   rintro e Y ⟨rfl,hb⟩
   have hU:=hV.call hb
   go_wp2_with fail
   refine hK.out _ _ hU.b (fun hHeld=>?_)
   clear hK K
   try simp only [Act.put,Qx,Qy,Qz]
   exact g3n Y hU
  ·rw [if_pos (by rfl)]
   go_simp
   generalize hwA:(World.alloc _ _:World)=Y
   have hU:V1 w1 Y X.heap.size:=by subst hwA;exact hV.new _ _ _ _
   refine hK.out _ _ hU.b (fun hHeld=>?_)
   clear hK K hwA
   try simp only [Act.put,Qx,Qy,Qz]
   generalize X.heap.size=m at hU ⊢
   exact g2a Y m hU
  ·rw [if_pos (by rfl)]
   go_simp
   generalize hwA:(World.alloc _ _:World)=Y
   have hU:V1 w1 Y X.heap.size:=by subst hwA;exact hV.new _ _ _ _
   refine hK.out _ _ hU.b (fun hHeld=>?_)
   clear hK K hwA
   try simp only [Act.put,Qx,Qy,Qz]
   generalize X.heap.size=m at hU ⊢
   exact g2b Y m hU
  intro X hV
  try dsimp only
  refine wpAnyH_ready (rs:=[7,8,9]) (by kernel_rfl) (by simp) ?_
  refine (AllReadyH.cons rfl (fun K hK=>?_) (AllReadyH.cons rfl (fun K hK=>?_) (AllReadyH.cons rfl (fun K hK=>?_) AllReadyH.nil)))
  ·rw [if_pos (by rfl)]
   go_simp
   refine Calls.mono (sT2 _) ?_
   rintro e Y ⟨rfl,hb⟩
   have hU:=hV.call hb
   go_wp2_with fail
   refine hK.out _ _ hU.b (fun hHeld=>?_)
   clear hK K
   try simp only [Act.put,Qx,Qy,Qz]
   exact g4n Y hU
  ·rw [if_pos (by rfl)]
   go_simp
   generalize hwA:(World.alloc _ _:World)=Y
   have hU:V1 w1 Y X.heap.size:=by subst hwA;exact hV.new _ _ _ _
   refine hK.out _ _ hU.b (fun hHeld=>?_)
   clear hK K hwA
   try simp only [Act.put,Qx,Qy,Qz]
   generalize X.heap.size=m at hU ⊢
   exact g3a Y m hU
  ·rw [if_pos (by rfl)]
   go_simp
   generalize hwA:(World.alloc _ _:World)=Y
   have hU:V1 w1 Y X.heap.size:=by subst hwA;exact hV.new _ _ _ _
   refine hK.out _ _ hU.b (fun hHeld=>?_)
   clear hK K hwA
   try simp only [Act.put,Qx,Qy,Qz]
   generalize X.heap.size=m at hU ⊢
   exact g3b Y m hU
  intro X hV
  try dsimp only
  refine wpAnyH_ready (rs:=[8,9]) (by kernel_rfl) (by simp) ?_
  refine (AllReadyH.cons rfl (fun K hK=>?_) (AllReadyH.cons rfl (fun K hK=>?_) AllReadyH.nil))
  ·rw [if_pos (by rfl)]
   go_simp
   generalize hwA:(World.alloc _ _:World)=Y
   have hU:V1 w1 Y X.heap.size:=by subst hwA;exact hV.new _ _ _ _
   refine hK.out _ _ hU.b (fun hHeld=>?_)
   clear hK K hwA
   try simp only [Act.put,Qx,Qy,Qz]
   generalize X.heap.size=m at hU ⊢
   exact g4a Y m hU
  ·rw [if_pos (by rfl)]
   go_simp
   generalize hwA:(World.alloc _ _:World)=Y
   have hU:V1 w1 Y X.heap.size:=by subst hwA;exact hV.new _ _ _ _
   refine hK.out _ _ hU.b (fun hHeld=>?_)
   clear hK K hwA
   try simp only [Act.put,Qx,Qy,Qz]
   generalize X.heap.size=m at hU ⊢
   exact g4b Y m hU
  intro X q hV
  try dsimp only
  refine wpAnyH_ready (rs:=[2,8]) (by kernel_rfl) (by simp) ?_
  refine (AllReadyH.cons rfl (fun K hK=>?_) (AllReadyH.cons rfl (fun K hK=>?_) AllReadyH.nil))
  ·rw [if_pos (by rfl)]
   go_simp
   refine Calls.mono (sF _) ?_
   rintro e Y ⟨rfl,hb⟩
   have hU:=hV.call hb
   go_wp2_with fail
   refine hK.out _ _ hU.b (fun hHeld=>?_)
   clear hK K
   try simp only [Act.put,Qx,Qy,Qz]
   exact g1b Y q hU
  ·rw [if_pos (by rfl)]
   go_simp
   generalize hwA:(World.alloc _ _:World)=Y
   have hU:V2 w1 Y X.heap.size q:=by subst hwA;exact (hV.new2 _ _ _ _).swap
   refine hK.out _ _ hU.b (fun hHeld=>?_)
   clear hK K hwA
   try simp only [Act.put,Qx,Qy,Qz]
   generalize X.heap.size=m at hU ⊢
   exact g0t Y m q hU
  intro X r hV
  try dsimp only
  refine wpAnyH_ready (rs:=[2,9]) (by kernel_rfl) (by simp) ?_
  refine (AllReadyH.cons rfl (fun K hK=>?_) (AllReadyH.cons rfl (fun K hK=>?_) AllReadyH.nil))
  ·rw [if_pos (by rfl)]
   go_simp
   refine Calls.mono (sF _) ?_
   rintro e Y ⟨rfl,hb⟩
   have hU:=hV.call hb
   go_wp2_with fail
   refine hK.out _ _ hU.b (fun hHeld=>?_)
   clear hK K
   try simp only [Act.put,Qx,Qy,Qz]
   exact g1a Y r hU
  ·rw [if_pos (by rfl)]
   go_simp
   generalize hwA:(World.alloc _ _:World)=Y
   have hU:V2 w1 Y r X.heap.size:=by subst hwA;exact hV.new2 _ _ _ _
   refine hK.out _ _ hU.b (fun hHeld=>?_)
   clear hK K hwA
   try simp only [Act.put,Qx,Qy,Qz]
   generalize X.heap.size=m at hU ⊢
   exact g0t Y r m hU
  intro X q hV
  try dsimp only
  refine wpAnyH_ready (rs:=[3,8]) (by kernel_rfl) (by simp) ?_
  refine (AllReadyH.cons rfl (fun K hK=>?_) (AllReadyH.cons rfl (fun K hK=>?_) AllReadyH.nil))
  ·rw [if_pos (by rfl)]
   go_simp
   refine Calls.mono (sT1 _) ?_
   rintro e Y ⟨rfl,hb⟩
   have hU:=hV.call hb
   go_wp2_with fail
   refine hK.out _ _ hU.b (fun hHeld=>?_)
   clear hK K
   try simp only [Act.put,Qx,Qy,Qz]
   exact g2b Y q hU
  ·rw [if_pos (by rfl)]
   go_simp
   generalize hwA:(World.alloc _ _:World)=Y
   have hU:V2 w1 Y X.heap.size q:=by subst hwA;exact (hV.new2 _ _ _ _).swap
   refine hK.out _ _ hU.b (fun hHeld=>?_)
   clear hK K hwA
   try simp only [Act.put,Qx,Qy,Qz]
   generalize X.heap.size=m at hU ⊢
   exact g1t Y m q hU
  intro X r hV
  try dsimp only
  refine wpAnyH_ready (rs:=[3,9]) (by kernel_rfl) (by simp) ?_
  refine (AllReadyH.cons rfl (fun K hK=>?_) (AllReadyH.cons rfl (fun K hK=>?_) AllReadyH.nil))
  ·rw [if_pos (by rfl)]
   go_simp
   refine Calls.mono (sT1 _) ?_
   rintro e Y ⟨rfl,hb⟩
   have hU:=hV.call hb
   go_wp2_with fail
   refine hK.out _ _ hU.b (fun hHeld=>?_)
   clear hK K
   try simp only [Act.put,Qx,Qy,Qz]
   exact g2a Y r hU
  ·rw [if_pos (by rfl)]
   go_simp
   generalize hwA:(World.alloc _ _:World)=Y
   have hU:V2 w1 Y r X.heap.size:=by subst hwA;exact hV.new2 _ _ _ _
   refine hK.out _ _ hU.b (fun hHeld=>?_)
   clear hK K hwA
   try simp only [Act.put,Qx,Qy,Qz]
   generalize X.heap.size=m at hU ⊢
   exact g1t Y r m hU
  intro X q hV
  try dsimp only
  refine wpAnyH_ready (rs:=[6,8]) (by kernel_rfl) (by simp) ?_
  refine (AllReadyH.cons rfl (fun K hK=>?_) (AllReadyH.cons rfl (fun K hK=>?_) AllReadyH.nil))
  ·rw [if_pos (by rfl)]
   go_simp
   refine Calls.mono (sL _) ?_
   rintro e Y ⟨rfl,hb⟩
   have hU:=hV.call hb
   go_wp2_with fail
   refine hK.out _ _ hU.b (fun hHeld=>?_)
   clear hK K
   try simp only [Act.put,Qx,Qy,Qz]
   exact g3b Y q hU
  ·rw [if_pos (by rfl)]
   go_simp
   generalize hwA:(World.alloc _ _:World)=Y
   have hU:V2 w1 Y X.heap.size q:=by subst hwA;exact (hV.new2 _ _ _ _).swap
   refine hK.out _ _ hU.b (fun hHeld=>?_)
   clear hK K hwA
   try simp only [Act.put,Qx,Qy,Qz]
   generalize X.heap.size=m at hU ⊢
   exact g2t Y m q hU
  intro X r hV
  try dsimp only
  refine wpAnyH_ready (rs:=[6,9]) (by kernel_rfl) (by simp) ?_
  refine (AllReadyH.cons rfl (fun K hK=>?_) (AllReadyH.cons rfl (fun K hK=>?_) AllReadyH.nil))
  ·rw [if_pos (by rfl)]
   go_simp
   refine Calls.mono (sL _) ?_
   rintro e Y ⟨rfl,hb⟩
   have hU:=hV.call hb
   go_wp2_with fail
   refine hK.out _ _ hU.b (fun hHeld=>?_)
   clear hK K
   try simp only [Act.put,Qx,Qy,Qz]
   exact g3a Y r hU
  ·rw [if_pos (by rfl)]
   go_simp
   generalize hwA:(World.alloc _ _:World)=Y
   have hU:V2 w1 Y r X.heap.size:=by subst hwA;exact hV.new2 _ _ _ _
   refine hK.out _ _ hU.b (fun hHeld=>?_)
   clear hK K hwA
   try simp only [Act.put,Qx,Qy,Qz]
   generalize X.heap.size=m at hU ⊢
   exact g2t Y r m hU
  intro X q hV
  try dsimp only
  refine wpAnyH_ready (rs:=[7,8]) (by kernel_rfl) (by simp) ?_
  refine (AllReadyH.cons rfl (fun K hK=>?_) (AllReadyH.cons rfl (fun K hK=>?_) AllReadyH.nil))
  ·rw [if_pos (by rfl)]
   go_simp
   refine Calls.mono (sT2 _) ?_
   rintro e Y ⟨rfl,hb⟩
   have hU:=hV.call hb
   go_wp2_with fail
   refine hK.out _ _ hU.b (fun hHeld=>?_)
   clear hK K
   try simp only [Act.put,Qx,Qy,Qz]
   exact g4b Y q hU
  ·rw [if_pos (by rfl)]
   go_simp
   generalize hwA:(World.alloc _ _:World)=Y
   have hU:V2 w1 Y X.heap.size q:=by subst hwA;exact (hV.new2 _ _ _ _).swap
   refine hK.out _ _ hU.b (fun hHeld=>?_)
   clear hK K hwA
   try simp only [Act.put,Qx,Qy,Qz]
   generalize X.heap.size=m at hU ⊢
   exact g3t Y m q hU
  intro X r hV
  try dsimp only
  refine wpAnyH_ready (rs:=[7,9]) (by kernel_rfl) (by simp) ?_
  refine (AllReadyH.cons rfl (fun K hK=>?_) (AllReadyH.cons rfl (fun K hK=>?_) AllReadyH.nil))
  ·rw [if_pos (by rfl)]
   go_simp
   refine Calls.mono (sT2 _) ?_
   rintro e Y ⟨rfl,hb⟩
   have hU:=hV.call hb
   go_wp2_with fail
   refine hK.out _ _ hU.b (fun hHeld=>?_)
   clear hK K
   try simp only [Act.put,Qx,Qy,Qz]
   exact g4a Y r hU
  ·rw [if_pos (by rfl)]
   go_simp
   generalize hwA:(World.alloc _ _:World)=Y
   have hU:V2 w1 Y r X.heap.size:=by subst hwA;exact hV.new2 _ _ _ _
   refine hK.out _ _ hU.b (fun hHeld=>?_)
   clear hK K hwA
   try simp only [Act.put,Qx,Qy,Qz]
   generalize X.heap.size=m at hU ⊢
   exact g3t Y r m hU
  intro X q hV
  try dsimp only
  refine zN 8 fun K hK=>?_
  ·rw [if_pos (by rfl)]
   go_simp
   generalize hwA:(World.alloc _ _:World)=Y
   have hU:V2 w1 Y X.heap.size q:=by subst hwA;exact (hV.new2 _ _ _ _).swap
   refine hK.out _ _ hU.b (fun hHeld=>?_)
   clear hK K hwA
   try simp only [Act.put,Qx,Qy,Qz]
   generalize X.heap.size=m at hU ⊢
   exact g4t Y m q hU
  intro X r hV
  try dsimp only
  refine zN 9 fun K hK=>?_
  ·rw [if_pos (by rfl)]
   go_simp
   generalize hwA:(World.alloc _ _:World)=Y
   have hU:V2 w1 Y r X.heap.size:=by subst hwA;exact hV.new2 _ _ _ _
   refine hK.out _ _ hU.b (fun hHeld=>?_)
   clear hK K hwA
   try simp only [Act.put,Qx,Qy,Qz]
   generalize X.heap.size=m at hU ⊢
   exact g4t Y r m hU
  intro X r q hV
  try dsimp only
  refine zN 2 fun K hK=>?_
  ·rw [if_pos (by rfl)]
   go_simp
   refine Calls.mono (sF _) ?_
   rintro e Y ⟨rfl,hb⟩
   have hU:=hV.call hb
   go_wp2_with fail
   refine hK.out _ _ hU.b (fun hHeld=>?_)
   clear hK K
   try simp only [Act.put,Qx,Qy,Qz]
   exact g1t Y r q hU
  intro X r q hV
  try dsimp only
  refine zN 3 fun K hK=>?_
  ·rw [if_pos (by rfl)]
   go_simp
   refine Calls.mono (sT1 _) ?_
   rintro e Y ⟨rfl,hb⟩
   have hU:=hV.call hb
   go_wp2_with fail
   refine hK.out _ _ hU.b (fun hHeld=>?_)
   clear hK K
   try simp only [Act.put,Qx,Qy,Qz]
   exact g2t Y r q hU
  intro X r q hV
  try dsimp only
  refine zN 6 fun K hK=>?_
  ·rw [if_pos (by rfl)]
   go_simp
   refine Calls.mono (sL _) ?_
   rintro e Y ⟨rfl,hb⟩
   have hU:=hV.call hb
   go_wp2_with fail
   refine hK.out _ _ hU.b (fun hHeld=>?_)
   clear hK K
   try simp only [Act.put,Qx,Qy,Qz]
   exact g3t Y r q hU
  intro X r q hV
  try dsimp only
  refine zN 7 fun K hK=>?_
  ·rw [if_pos (by rfl)]
   go_simp
   refine Calls.mono (sT2 _) ?_
   rintro e Y ⟨rfl,hb⟩
   have hU:=hV.call hb
   go_wp2_with fail
   refine hK.out _ _ hU.b (fun hHeld=>?_)
   clear hK K
   try simp only [Act.put,Qx,Qy,Qz]
   exact g4t Y r q hU
  intro X r q hV
  try dsimp only
  refine zN 10 fun K hK=>?_
  rw [if_pos (by rfl)]
  obtain ⟨⟨hX,hTr,hr⟩,⟨_,hTq,hq⟩,hne⟩:=hV
  have t0:=hTr.cell 0 (by omega)
  have f0:=(hTr 0 (by omega)).2
  have t1:=hTr.cell 1 (by omega)
  have f1:=(hTr 1 (by omega)).2
  have t2:=hTr.cell 2 (by omega)
  have f2:=(hTr 2 (by omega)).2
  go_simp
  have hXs:Bw w1 (((X.setCell ⟨r,0,none⟩ (.int .i64 z)).setCell ⟨r,1,none⟩ (.int .i64 lx)).setCell ⟨r,2,none⟩ (.int .i64 ly)):=((hX.setCell hr _).setCell hr _).setCell hr _
  have hRs:=zAl.put (z:=z) (x:=lx) (y:=ly) hTr
  have hTs:=((hTq.putV (r':=r) (o:=0) (v:=.int .i64 z)).putV (r':=r) (o:=1) (v:=.int .i64 lx)).putV (r':=r) (o:=2) (v:=.int .i64 ly)
  generalize hwS:(((X.setCell _ _).setCell _ _).setCell _ _:World)=wS at *
  refine hK.out _ _ hXs (fun hHeld=>?_)
  clear hK K hwS t0 t1 t2 f0 f1 f2
  try simp only [Act.put,Qx,Qy,Qz]
  refine zN 11 fun K hK=>?_
  rw [if_pos (by rfl)]
  have t0:=hTs.cell 0 (by omega)
  have f0:=(hTs 0 (by omega)).2
  have t1:=hTs.cell 1 (by omega)
  have f1:=(hTs 1 (by omega)).2
  have t2:=hTs.cell 2 (by omega)
  have f2:=(hTs 2 (by omega)).2
  go_simp
  have hXu:Bw w1 (((wS.setCell ⟨q,0,none⟩ (.int .i64 z)).setCell ⟨q,1,none⟩ (.int .i64 hx)).setCell ⟨q,2,none⟩ (.int .i64 hy)):=((hXs.setCell hq _).setCell hq _).setCell hq _
  have hRu:=zAl.put (z:=z) (x:=hx) (y:=hy) hTs
  have hRv:=((hRs.apart (r:=q) (o:=0) (v:=.int .i64 z) (by omega)).apart (r:=q) (o:=1) (v:=.int .i64 hx) (by omega)).apart (r:=q) (o:=2) (v:=.int .i64 hy) (by omega)
  generalize hwU:(((wS.setCell _ _).setCell _ _).setCell _ _:World)=wU at *
  refine hK.out _ _ hXu (fun hHeld=>?_)
  clear hK K hwU t0 t1 t2 f0 f1 f2
  try simp only [Act.put,Qx,Qy,Qz]
  refine wpAnyH_done (by kernel_rfl) ?_ _
  refine NoPanic.normal ?_
  go_wp2_with fail
  go_meet
  case rel=>exact ⟨_,_,rfl,rfl,hRv,hRu,hXu⟩
 case rest =>
  obtain ⟨b4,b5,rfl,rfl,hR4,hR5,hBc⟩:=hcut
  generalize wc=wA at *
  have hz:=c0 wA hBc
  have HBA:Hid (Bw w wA):=zA HB1.out hBc
  have HTA:Hid (zC wA (w.heap.size+1) 2):=HT1.out.below hBc
  have HR4:Hid (zAl wA b4 z lx ly):=hR4
  have HR5:Hid (zAl wA b5 z hx hy):=hR5
  have Hz:Hid (wA.cell? ⟨w.heap.size,0,none⟩=some (.int .i64 z)):=hz
  obtain ⟨p0,p1,p2⟩:=hR4
  obtain ⟨q0,q1,q2⟩:=hR5
  clear hBc c0 c1 c2 c3 c4 HB1 HT1 sF sL sT1 sT2
  have bx:0≤lx∧lx≤8:=⟨bl.1,bl.2.1⟩
  have by':0≤ly∧ly≤8:=bl.2.2
  clear bl
  go_wp2_with fail
  go_loopw [6,7] (fun v j wr=>∃ r:Nat,r≤NY∧j=.int .i64 (ly+(r:Int))∧zFd wA.heap.size wr v (r * NX) R∧Bw wA wr) (fun _ j _=>(ly+(NY:Int) - intOf j).toNat)
  case atStart=>exact ⟨0,by omega,by simp,by rw [Nat.zero_mul];exact zFd.no _ _ _,Below.refl _ _⟩
  case round =>
   obtain ⟨r,hr,rfl,hO,hB⟩:=hrel
   have HO0:Hid (zFd wA.heap.size wr u6 (r * NX) R):=hO
   have HB0:Hid (Bw wA wr):=hB
   obtain ⟨p0,p1,p2⟩:=HR4.out.below hB
   obtain ⟨q0,q1,q2⟩:=HR5.out.below hB
   clear hO hB
   by_cases hlt:r<NY
   ·have hle:ly+(r:Int)≤hy:=by have:=HY.out;omega
    go_wp2_with fail
    go_loopw [6,8] (fun v j wr=>∃ m:Nat,m≤NX∧j=.int .i64 (lx+(m:Int))∧zFd wA.heap.size wr v (r * NX+m) R∧Bw wA wr) (fun _ j _=>(lx+(NX:Int) - intOf j).toNat)
    case atStart=>exact ⟨0,by omega,by simp,HO0.out,HB0.out⟩
    case round =>
     obtain ⟨m,hm,rfl,hO,hB⟩:=hrel
     have HO:Hid (zFd wA.heap.size wr u6 (r * NX+m) R):=hO
     have HB:Hid (Bw wA wr):=hB
     obtain ⟨p0,p1,p2⟩:=HR4.out.below hB
     obtain ⟨q0,q1,q2⟩:=HR5.out.below hB
     have hzr:wr.cell? ⟨w.heap.size,0,none⟩=some (.int .i64 z):=zBl hB Hz.out
     have hszr:wA.heap.size≤wr.heap.size:=hB.size
     have hlz:=World.block_lt_of_cell? _ _ hzr
     clear hO hB HO0 HB0
     by_cases hlm:m<NX
     ·have hlx:lx+(m:Int)≤hx:=by have:=HX.out;omega
      have hK:r * NX+m<10:=by
       have:r * NX≤1 * 2:=Nat.mul_le_mul (by omega) nX.2
       omega
      have HS:Hid (yE R (r * NX+m+1)=yE R (r * NX+m) ++ [.int .i64 z,.int .i64 (lx+(m:Int)),.int .i64 (ly+(r:Int))]):=by
       show _=_
       rw [zCf,HR.out]
       have e1:(r * NX+m) % NX=m:=by rw [Nat.mul_comm,Nat.mul_add_mod];exact Nat.mod_eq_of_lt hlm
       have e2:(r * NX+m) / NX=r:=by rw [Nat.mul_comm,Nat.mul_add_div (by omega),Nat.div_eq_of_lt hlm];rfl
       simp only [e1,e2]
      have HKK:Hid (r * NX+m+1=r * NX+(m+1)):=rfl
      generalize hKd:r * NX+m=KK at *
      clear hKd
      go_wp2_with (first
       | (at_builtin;go_must (refine wpList_append_own _ rfl _ _ 31 rfl wA.heap.size 104 i0 (.agg #[.int .i64 0,.int .i64 0,.int .i64 0]) 3 24 Tryz.underlying31 hi hz0 hz1 hz2 rfl (by decide) _ KK (yE R KK) rfl (World.ownsRow.alloc HO.out _) ⟨wr.heap.size,0,none⟩ 1 1 [.int .i64 z,.int .i64 (lx+(m:Int)),.int .i64 (ly+(r:Int))] rfl rfl ?c1 ?c2 ?c3 ?c4 ?c5 ?_)))
      try
       case c1 =>
        intro q u hq
        match q,hq with
        | 0,hq=>simp at hq;subst hq;simp [Addr.add,go_sem]
        | 1,hq=>simp at hq;subst hq;simp [Addr.add,go_sem]
        | 2,hq=>simp at hq;subst hq;simp [Addr.add,go_sem]
        | q+3,hq=>simp at hq
      case c2=>first | exact ⟨rfl,rfl,rfl⟩ | (intro u hu;simp at hu;rcases hu with rfl | rfl | rfl <;> rfl)
      case c3=>unfold maxLen;omega
      case c4=>omega
      case c5=>first | omega | (simp;omega)
      intro v' w3 hown' hgrow hnil
      clear hnil
      generalize hV:(wr.alloc _:World)=V at hgrow
      have hBV:Bw wr V:=by subst hV;exact Qb
      have hBg:Below wA.heap.size V w3:=(Below.refl _ _).grown hgrow (by have:=hBV.size;omega) (fun k hk=>(HO.out.lt k hk).1)
      have HB3:Hid (Bw wA w3):=(HB.out.trans (hBV.mono hszr)).trans hBg
      have HO3:Hid (zFd wA.heap.size w3 v' (KK+1) R):=by
       show World.ownsRow _ _ _ _ _ _ _
       rw [HS.out]
       exact hown'
      clear hown' hgrow hBg hBV hV
      go_wp2
      go_roundw
      case rel=>exact ⟨m+1,by omega,by go_num,by rw [← HKK.out];exact HO3.out,HB3.out⟩
      case measure=>simp [intOf];omega
     ·have hme:m=NX:=by omega
      have hgt:¬ lx+(m:Int)≤hx:=by have:=HX.out;omega
      have HO':Hid (zFd wA.heap.size wr u6 ((r+1) * NX) R):=by
       show zFd _ _ _ _ _
       rw [Nat.succ_mul,← hme]
       have:=HO.out
       rw [← hme] at this
       exact this
      clear HO
      go_wp2
      go_roundw
      case rel=>exact ⟨r+1,by omega,by go_num,HO'.out,HB.out⟩
      case measure=>simp [intOf];omega
   ·obtain rfl:NY=r:=by omega
    have hgt:¬ ly+(NY:Int)≤hy:=by have:=HY.out;omega
    have hT:=HTA.out.below HB0.out
    have HTr:Hid (zC wr (w.heap.size+1) 2):=hT
    have hlT:=World.block_lt_of_cell? _ _ (HTA.out.cell 0 (by omega))
    have t0:=hT.cell 0 (by omega)
    have t1:=hT.cell 1 (by omega)
    have f0:=(hT 0 (by omega)).2
    have f1:=(hT 1 (by omega)).2
    clear hT
    obtain ⟨a0,cap0,hv,hc0,hcase⟩:=HO0.out.own
    subst hv
    have HOw:Hid (zNs wr wA.heap.size (.slice a0 (NY * NX) cap0) (NY * NX) R):=HO0.out.own
    clear hcase HO0
    go_wp2_with fail
    obtain ⟨q0,q1⟩:=zCx (W:=wr) (r:=w.heap.size+1) (i:=0) (j:=1) (u:=.int .i64 0) (v:=.slice a0 (NY * NX) cap0) (by omega) (by rw [t0];rfl) (by rw [t1];rfl)
    refine bodyPost_ret (v:=.agg #[.int .i64 0,.slice a0 (NY * NX) cap0]) (by simp [results,Tryz.results131,go_sem,q0,q1]) rfl ⟨_,rfl,?_,?_⟩
    ·exact (HOw.out.set (B:=wA.heap.size) hlT (Nat.le_refl _)).set (B:=w.heap.size) hlT HBA.out.size
    ·exact ((zA HBA.out HB0.out).setCell (Nat.le_succ _) _).setCell (Nat.le_succ _) _
theorem zC9 {z x y wd ht:Int}(w:World)(hr:zA6 z x y wd ht=false) :
  Calls Tryz.prog 131 #[zDi z x y wd ht] w fun e w'=>e=.returned (.agg #[.int .i64 3,.slice none 0 0])∧Bw w w':=by
 have sC:=fun w=>uE z x y wd ht w
 have hc:uK z x y wd ht=3:=by unfold uK;rw [hr];rfl
 rw [hc] at sC
 clear hc hr
 go_enter Tryz.func131,Tryz.ntmps131
 go_wp2_with fail
 generalize hW:((w.alloc _).alloc _:World)=W
 have HB0:Hid (Bw w W):=by show Below _ _ _;subst hW;exact Qb
 have HT:Hid (zC W (w.heap.size+1) 2):=by
  show zC _ _ _
  subst hW
  have:=zS5 (w.alloc (.cells #[.int .i64 z,.int .i64 x,.int .i64 y,.int .i64 wd,.int .i64 ht] 32)) (.int .i64 0) (.slice none 0 0) 180
  simpa using this
 clear hW
 refine (sC _).mono ?_
 rintro e w1 ⟨rfl,hb1⟩
 have HB1:Hid (Bw w w1):=zA HB0.out hb1
 have hT1:=HT.out.below hb1
 have t0:=hT1.cell 0 (by omega)
 have t1:=hT1.cell 1 (by omega)
 have f0:=(hT1 0 (by omega)).2
 have f1:=(hT1 1 (by omega)).2
 clear hb1 HB0 HT hT1
 go_wp2_with fail
 obtain ⟨q0,q1⟩:=zCx (W:=w1) (r:=w.heap.size+1) (i:=0) (j:=1) (u:=.int .i64 3) (v:=.slice none 0 0) (by omega) (by rw [t0];rfl) (by rw [t1];rfl)
 refine bodyPost_ret (v:=.agg #[.int .i64 3,.slice none 0 0]) (by simp [results,Tryz.results131,go_sem,q0,q1]) rfl ⟨rfl,?_⟩
 exact (HB1.out.setCell (Nat.le_succ _) _).setCell (Nat.le_succ _) _
theorem uJ (z x y wd ht:Int)(w:World):Calls Tryz.prog 131 #[zDi z x y wd ht] w fun e w'=>∃ v,e=.returned (.agg #[.int .i64 (uK z x y wd ht),v])∧zNs w' w.heap.size v (uM z x y wd ht) (zBs z x y wd)∧Bw w w':=by
 cases hr:zA6 z x y wd ht
 ·have e1:uK z x y wd ht=3:=by unfold uK;rw [hr];rfl
  have e2:uM z x y wd ht=0:=by unfold uM;rw [hr];rfl
  rw [e1,e2]
  exact (zC9 w hr).mono fun e w' ⟨h1,h2⟩=>⟨_,h1,⟨none,0,rfl,Nat.le_refl _,.inl rfl⟩,h2⟩
 ·have e1:uK z x y wd ht=0:=by unfold uK;rw [if_pos hr]
  have e2:uM z x y wd ht=zFz y ht * zFz x wd:=by unfold uM;rw [if_pos hr]
  have hin:=zAs hr
  have nx:=zBu (x:=x) hin.1.1
  have ny:=zBu (x:=y) hin.1.2
  rw [e1,e2]
  exact zC8 w hr rfl rfl rfl rfl rfl rfl ⟨⟨nx.1,nx.2.1⟩,by omega⟩ ⟨⟨ny.1,ny.2.1⟩,by omega⟩ rfl
end Go.Proofs.YtkjbafcalamgnaaGreat
