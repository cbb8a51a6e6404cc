/- Texts. -/
import Derived.Test.YtpaiholildedcaaGreatVNewViewer5
set_option linter.unusedSimpArgs false
set_option linter.unusedVariables false
set_option maxRecDepth 100000
set_option maxHeartbeats 32000000
namespace Go.Proofs.YtpaiholildedcaaGreat
open Go.RowKit
def isR (e : Req) (z x y : Int) : Bool := (e.z == z) && ((e.x == x) && (e.y == y))
def zGn (e : Req) : Bool := zFo e.z e.x e.y && (inB e.du 0 9999 && inB e.tr 1 99)
def zMb (e : Req) : Int := if zGn e = true then 0 else 3
def atW (n : Nat) (E : Nat → Req) (z x y : Int) : Int := xI (fun i => isR (E i) z x y) n
def yY (E : Nat → Req) (i : Nat) : Int := if zGn (E i) = true then (if 0 ≤ atW i E (E i).z (E i).x (E i).y then 6 else 0) else 3
def zQ (n : Nat) (E : Nat → Req) : Int := if 8 < n then 2 else uB (yY E) 0 n
theorem zAq {E : Nat → Req} {i : Nat} (h : zGn (E i) = false) : yY E i = 3 := by simp [yY, h]
theorem zHu {E : Nat → Req} {i : Nat} (h : zGn (E i) = true) (h2 : atW i E (E i).z (E i).x (E i).y = -1) : yY E i = 0 := by simp [yY, h, h2]
theorem zCi {E : Nat → Req} {i : Nat} (h : zGn (E i) = true) (h2 : 0 ≤ atW i E (E i).z (E i).x (E i).y) : yY E i = 6 := by simp [yY, h, h2]
theorem zLr (e : Req) : isR e e.z e.x e.y = true := by simp [isR]
def zJf (w : World) (p : Nat) (z x y : Int) : Prop := w.cell? ⟨p, 0, none⟩ = some (.int .i64 z) ∧ w.cell? ⟨p, 1, none⟩ = some (.int .i64 x) ∧ w.cell? ⟨p, 2, none⟩ = some (.int .i64 y)
theorem zJf.lt {w : World} {p : Nat} {z x y : Int} (h : zJf w p z x y) : p < w.heap.size := World.block_lt_of_cell? _ _ h.1
theorem zJf.below {w w' : World} {p : Nat} {z x y : Int} (h : zJf w p z x y) (hb : Below w.heap.size w w') : zJf w' p z x y :=
 ⟨(hb.cell (p := ⟨p, 0, none⟩) h.lt).trans h.1, (hb.cell (p := ⟨p, 1, none⟩) h.lt).trans h.2.1, (hb.cell (p := ⟨p, 2, none⟩) h.lt).trans h.2.2⟩
theorem zLv (args : Array Value) (w : World) : (callFunc 172 args).run Tryz.prog w = .ok (.enter 172 args) w := by
 have h1 : (Tryz.f172).name ≠ "runtime.NumGoroutine" := by
  have : ((Tryz.f172).name == "runtime.NumGoroutine") = false := by kernel_rfl
  simpa using this
 have hb : ∃ c, (Tryz.f172).body = some c := ⟨_, rfl⟩
 obtain ⟨c, hb⟩ := hb
 simp [callFunc, Tryz.func172, h1, hb]
theorem zDd (e : Req) (r : Nat) (z x y : Int) (w : World) (h : zJf w r z x y) :
  Calls Tryz.prog 172 #[zFe e, .pointer (some ⟨r, 0, none⟩)] w fun q w' => q = .returned (.bool (isR e z x y)) ∧ Bw w w' := by
 have hl := h.lt
 have c0 : (w.alloc (.cells #[.int .i64 e.z, .int .i64 e.x, .int .i64 e.y, .int .i64 e.du, .int .i64 e.tr] 134)).cell? ⟨r, 0, none⟩ = some (.int .i64 z) := by rw [World.cell?_alloc_lt _ _ _ hl]; exact h.1
 have c1 : (w.alloc (.cells #[.int .i64 e.z, .int .i64 e.x, .int .i64 e.y, .int .i64 e.du, .int .i64 e.tr] 134)).cell? ⟨r, 1, none⟩ = some (.int .i64 x) := by rw [World.cell?_alloc_lt _ _ _ hl]; exact h.2.1
 have c2 : (w.alloc (.cells #[.int .i64 e.z, .int .i64 e.x, .int .i64 e.y, .int .i64 e.du, .int .i64 e.tr] 134)).cell? ⟨r, 2, none⟩ = some (.int .i64 y) := by rw [World.cell?_alloc_lt _ _ _ hl]; exact h.2.2
 have heq := fun w => zCv e.z e.x e.y z x y w
 clear h hl
 go_enter Tryz.func172, Tryz.ntmps172
 go_wp2
 go_ret
 exact ⟨rfl, by (repeat (first|exact Qr _ _|assumption|refine Qd ?_|refine Qa ?_ _|refine Qt ?_|refine Qs ?_ _|refine Qo ?_ ?_ _ _))⟩
theorem zIz (a : Option Addr) (n cap : Nat) (E : Nat → Req) (r : Nat) (z x y : Int) (w : World) (hp : xV w a n E) (hr : zJf w r z x y) (hn : n ≤ 1048576) :
  Calls Tryz.prog 171 #[.slice a n cap, .func (.func 172) #[] #[.pointer (some ⟨r, 0, none⟩)]] w fun e w' => e = .returned (.int .i64 (atW n E z x y)) ∧ Bw w w' := by
 have HP : Hid (xV w a n E) := hp
 have HR : Hid (zJf w r z x y) := hr
 have hce := zLv
 clear hp hr
 go_enter Tryz.func171, Tryz.ntmps171
 go_wp2_with fail
 go_loopw [8] (fun i wr => ∃ k : Nat, k ≤ n ∧ i = .int .i64 (k : Int) ∧ (∀ j, j < k → isR (E j) z x y = false) ∧ Bw w wr) (fun i _ => n - (intOf i).toNat)
 case atStart => exact ⟨0, by omega, rfl, fun j hj => absurd hj (Nat.not_lt_zero _), Below.refl _ _⟩
 case round =>
  obtain ⟨k, hk, rfl, hno, hB⟩ := hrel
  have HN : Hid (∀ j, j < k → isR (E j) z x y = false) := hno
  have HB : Hid (Bw w wr) := hB
  by_cases hlt : k < n
  ·rcases HP.out with h0 | ⟨b, off, rfl, hb, hpt⟩
   ·omega
   obtain ⟨q0, q1, q2, q3, q4⟩ := (hpt.below hB hb) k hlt
   have hi : (k : Int) < (n : Int) := by omega
   have hi0 : (0 : Int) ≤ (k : Int) := by omega
   have sO : Calls Tryz.prog 172 #[zFe (E k), .pointer (some ⟨r, 0, none⟩)] wr fun q w' => q = .returned (.bool (isR (E k) z x y)) ∧ Bw wr w' := zDd (E k) r z x y wr (HR.out.below hB)
   clear hno hB hpt
   cases hE : isR (E k) z x y
   ·rw [hE] at sO
    have HN2 : Hid (∀ j, j < k + 1 → isR (E j) z x y = false) := fun j hj => by
     by_cases e : j = k
     ·rw [e]; exact hE
     ·exact HN.out j (by omega)
    clear hE
    go_wp2_with fail
    refine sO.mono ?_
    rintro e w1 ⟨rfl, hb1⟩
    go_wp2_with fail
    exact ⟨⟨k + 1, by omega, by simp, HN2.out, zB HB.out hb1⟩, by simp [intOf]; omega⟩
   ·rw [hE] at sO
    have HY : Hid (atW n E z x y = (k : Int)) := xS (G := fun i => isR (E i) z x y) hlt hE HN.out
    clear hE
    go_wp2_with fail
    refine sO.mono ?_
    rintro e w1 ⟨rfl, hb1⟩
    go_wp2
    go_ret
    exact ⟨zH HY.out.symm, zB HB.out hb1⟩
  ·obtain rfl : n = k := by omega
   have HY : Hid (atW n E z x y = -1) := uK (G := fun i => isR (E i) z x y) HN.out
   go_wp2
   go_ret
   exact ⟨zH HY.out.symm, HB.out⟩
theorem zAp (a : Option Addr) (n cap : Nat) (E : Nat → Req) (z x y : Int) (w : World) (hp : xV w a n E) (hn : n ≤ 1048576) :
  Calls Tryz.prog 126 #[.slice a n cap, xK z x y] w fun e w' => e = .returned (.int .i64 (atW n E z x y)) ∧ Bw w w' := by
 have HI : Hid (∀ W, Bw w W → zJf W w.heap.size z x y → Calls Tryz.prog 171 #[.slice a n cap, .func (.func 172) #[] #[.pointer (some ⟨w.heap.size, 0, none⟩)]] W fun e w' => e = .returned (.int .i64 (atW n E z x y)) ∧ Bw W w') := fun W h h2 => zIz a n cap E w.heap.size z x y W (hp.below h) h2 hn
 clear hp
 have hmf : ∀ (fn : Fn) (first cap : Array Value) (w : World), (Instr.makeFunc fn first cap).run Tryz.prog w = .ok (.func fn first cap) w := fun _ _ _ _ => rfl
 generalize atW n E z x y = r at *
 go_enter Tryz.func126, Tryz.ntmps126
 go_wp2_with fail
 generalize hW : (w.alloc _ : World) = W
 have HB0 : Bw w W := by subst hW; exact Qb
 have HR : zJf W w.heap.size z x y := by subst hW; exact ⟨by simp [go_sem], by simp [go_sem], by simp [go_sem]⟩
 clear hW
 refine (HI.out _ HB0 HR).mono ?_
 rintro e w1 ⟨rfl, hb1⟩
 go_wp2
 go_ret
 exact ⟨rfl, zB HB0 hb1⟩
theorem zBs (e : Req) (w : World) : Calls Tryz.prog 125 #[zFe e] w fun r w' => r = .returned (.int .i64 (zMb e)) ∧ Bw w w' := by
 rcases zA9 e.z e.x e.y with ⟨h1, h2⟩ | ⟨h1, h2⟩
 ·cases h3 : inB e.du 0 9999 <;> cases h4 : inB e.tr 1 99
  all_goals
   have hk : Hid (zMb e = if (inB e.du 0 9999 && inB e.tr 1 99) = true then 0 else 3) := by show _ = _; simp [zMb, zGn, h2]
   rw [h3, h4] at hk
   have HF : Hid (∀ w, Calls Tryz.prog 132 #[xK e.z e.x e.y] w fun r w' => r = .returned (.int .i64 0) ∧ Bw w w') := fun w => by have h := uF e.z e.x e.y w; rw [h1] at h; exact h
   clear h1 h2
   go_enter Tryz.func125, Tryz.ntmps125
   go_wp2_with fail
   generalize hW : (w.alloc _ : World) = W
   have HB0 : Bw w W := by subst hW; exact Qb
   have c3 : ∀ W', Bw W W' → W'.cell? ⟨w.heap.size, 3, none⟩ = some (.int .i64 e.du) := fun W' h => by rw [h.cell (by subst hW; simp)]; subst hW; simp [go_sem]
   have c4 : ∀ W', Bw W W' → W'.cell? ⟨w.heap.size, 4, none⟩ = some (.int .i64 e.tr) := fun W' h => by rw [h.cell (by subst hW; simp)]; subst hW; simp [go_sem]
   clear hW
   refine (HF.out _).mono ?_
   rintro r w1 ⟨rfl, hb1⟩
   have k3 := c3 w1 hb1
   have k4 := c4 w1 hb1
   have HB1 : Hid (Bw w w1) := zB HB0 hb1
   clear c3 c4 hb1 HB0
   go_wp2_with (go_at_call 62; refine (zR _ _ _ _).mono ?_; rintro e w' ⟨rfl, rfl⟩)
   all_goals (go_ret; exact ⟨zH (by rw [hk.out]; rfl), HB1.out⟩)
 ·have hk : Hid (zMb e = 3) := by show _ = _; simp [zMb, zGn, h2]
  have HF : Hid (∀ w, Calls Tryz.prog 132 #[xK e.z e.x e.y] w fun r w' => r = .returned (.int .i64 3) ∧ Bw w w') := fun w => by have h := uF e.z e.x e.y w; rw [h1] at h; exact h
  clear h1 h2
  go_enter Tryz.func125, Tryz.ntmps125
  go_wp2_with (go_at_call 132; refine (HF.out _).mono ?_; rintro e w' ⟨rfl, hb⟩)
  go_ret
  exact ⟨zH hk.out.symm, by (repeat (first|exact Qr _ _|assumption|refine Qd ?_|refine Qa ?_ _|refine Qt ?_|refine Qs ?_ _|refine Qo ?_ ?_ _ _))⟩
theorem zFx (a : Option Addr) (n cap : Nat) (E : Nat → Req) (z x y : Int) (w : World) (hp : xV w a n E) (hn : n ≤ 1048576) :
  Calls Tryz.prog 114 #[.slice a n cap, xK z x y] w fun e w' => e = .returned (.int .i64 (atW n E z x y)) ∧ Bw w w' := by
 have HP : Hid (xV w a n E) := hp
 clear hp
 go_enter Tryz.func114, Tryz.ntmps114
 go_wp2_with fail
 generalize hW : (w.alloc _ : World) = W
 have HB0 : Hid (Bw w W) := by show Below _ _ _; subst hW; exact Qb
 have HR : Hid (zJf W w.heap.size z x y) := by show zJf _ _ _ _ _; subst hW; exact ⟨by simp [go_sem], by simp [go_sem], by simp [go_sem]⟩
 clear hW
 go_loopw [5] (fun i wr => ∃ k : Nat, k ≤ n ∧ i = .int .i64 (k : Int) ∧ (∀ j, j < k → isR (E j) z x y = false) ∧ Bw W wr) (fun i _ => n - (intOf i).toNat)
 case atStart => exact ⟨0, by omega, rfl, fun j hj => absurd hj (Nat.not_lt_zero _), Below.refl _ _⟩
 case round =>
  obtain ⟨k, hk, rfl, hno, hB⟩ := hrel
  have HN : Hid (∀ j, j < k → isR (E j) z x y = false) := hno
  have HB : Hid (Bw W wr) := hB
  by_cases hlt : k < n
  ·rcases HP.out with h0 | ⟨b, off, rfl, hb, hpt⟩
   ·omega
   obtain ⟨q0, q1, q2, q3, q4⟩ := (hpt.below (zB HB0.out hB) hb) k hlt
   obtain ⟨p0, p1, p2⟩ := HR.out.below hB
   have hi : (k : Int) < (n : Int) := by omega
   have hi0 : (0 : Int) ≤ (k : Int) := by omega
   have heq := fun w => zCv (E k).z (E k).x (E k).y z x y w
   clear hno hB hpt
   have hE0 : ((E k).z == z && ((E k).x == x && (E k).y == y)) = isR (E k) z x y := rfl
   simp only [hE0] at heq
   clear hE0
   cases hE : isR (E k) z x y
   ·simp only [hE] at heq
    have HN2 : Hid (∀ j, j < k + 1 → isR (E j) z x y = false) := fun j hj => by
     by_cases e : j = k
     ·rw [e]; exact hE
     ·exact HN.out j (by omega)
    clear hE
    generalize (E k).z = rz at *
    generalize (E k).x = rx at *
    generalize (E k).y = ry at *
    go_wp2_with fail
    go_quiet (fail)
    go_wp2_with fail
    exact ⟨⟨k + 1, by omega, by simp, HN2.out, below_drewN HB.out _⟩, by simp [intOf]; omega⟩
   ·simp only [hE] at heq
    have HY : Hid (atW n E z x y = (k : Int)) := xS (G := fun i => isR (E i) z x y) hlt hE HN.out
    clear hE
    generalize (E k).z = rz at *
    generalize (E k).x = rx at *
    generalize (E k).y = ry at *
    go_wp2_with fail
    go_quiet (fail)
    go_wp2
    go_ret
    exact ⟨zH HY.out.symm, below_drewN (zB HB0.out HB.out) _⟩
  ·obtain rfl : n = k := by omega
   have HY : Hid (atW n E z x y = -1) := uK (G := fun i => isR (E i) z x y) HN.out
   go_wp2
   go_ret
   exact ⟨zH HY.out.symm, zB HB0.out HB.out⟩
def mkW (k0:Nat)(i:Nat):Req:=⟨((k0+5 * i:Nat):Int),((k0+5 * i+1:Nat):Int),((k0+5 * i+2:Nat):Int),((k0+5 * i+3:Nat):Int),((k0+5 * i+4:Nat):Int)⟩
theorem zCl (g n cap k0:Nat)(w:World)(hT:zC w g (n * 5))(hn:n≤1048576)(hk0:k0≤6000000000000000000) :
  Calls Tryz.prog 53 #[.slice (some ⟨g,0,none⟩) n cap,.int .i64 (k0:Int)] w fun e w'=>e=.returned (.int .i64 ((k0+5 * n:Nat):Int))∧w.grownBy w' (some g)∧zC w' g (n * 5)∧vG w' g 0 n (mkW k0):=by
 have HT0:Hid (zC w g (n * 5)):=hT
 clear hT
 go_enter Tryz.func53,Tryz.ntmps53
 go_wp2_with fail
 go_loopw [1,5] (fun kk i wr=>∃ j K:Nat,j≤n∧Hid (K=k0+5 * j)∧kk=.int .i64 (K:Int)∧i=.int .i64 (j:Int)∧w.grownBy wr (some g)∧zC wr g (n * 5)∧vG wr g 0 j (mkW k0)) (fun _ i _=>n - (intOf i).toNat)
 case atStart=>exact ⟨0,k0,by omega,rfl,rfl,rfl,zCt _ _,HT0.out,fun i hi=>by omega⟩
 case round =>
  obtain ⟨j,K,hj,HK,rfl,rfl,hG,hT',hP⟩:=hrel
  by_cases hlt:j<n
  ·have hKb:K≤6000000000005242880:=by have:=HK.out;omega
   have t0:=hT'.cell (j * 5+0) (by omega)
   have t1:=hT'.cell (j * 5+1) (by omega)
   have t2:=hT'.cell (j * 5+2) (by omega)
   have t3:=hT'.cell (j * 5+3) (by omega)
   have t4:=hT'.cell (j * 5+4) (by omega)
   have y0:=(hT' (j * 5+0) (by omega)).2
   have y1:=(hT' (j * 5+1) (by omega)).2
   have y2:=(hT' (j * 5+2) (by omega)).2
   have y3:=(hT' (j * 5+3) (by omega)).2
   have y4:=(hT' (j * 5+4) (by omega)).2
   simp only [Nat.add_zero] at t0 y0
   have HG:Hid (w.grownBy wr (some g)):=hG
   have HT:Hid (zC wr g (n * 5)):=hT'
   have HP:Hid (vG wr g 0 j (mkW k0)):=hP
   clear hT' hG hP
   have hi:(j:Int)<(n:Int):=by omega
   have hi0:(0:Int)≤(j:Int):=by omega
   go_wp2
   go_roundw
   case rel =>
    have hfs:=HP.out.lay HT.out hlt
    have he:mkW k0 j=⟨(K:Int),(K:Int)+1,(K:Int)+1+1,(K:Int)+1+1+1,(K:Int)+1+1+1+1⟩:=by
     have:=HK.out
     unfold mkW
     congr 1 <;> omega
    rw [he] at hfs
    exact ⟨j+1,K+5,by omega,by have:=HK.out;show _=_;omega,by go_num,by go_num,yZ (yZ (yZ (yZ (yZ HG.out _ _) _ _) _ _) _ _) _ _,((((HT.out.set _ _).set _ _).set _ _).set _ _).set _ _,hfs⟩
   case measure=>simp [intOf];omega
  ·go_wp2
   go_ret
   have hjn:j=n:=by omega
   subst hjn
   exact ⟨zH (by have:=HK.out;omega),hG,hT',hP⟩
theorem vK (a:Option Addr)(cap:Nat)(k:Int)(w:World):Calls Tryz.prog 53 #[.slice a 0 cap,.int .i64 k] w fun e w'=>e=.returned (.int .i64 k)∧w=w':=by
 go_enter Tryz.func53,Tryz.ntmps53
 go_wp2_with fail
 go_loopw [1,5] (fun kk i wr=>kk=.int .i64 k∧i=.int .i64 0∧w=wr) (fun _ _ _=>0)
 case atStart=>exact ⟨rfl,rfl,rfl⟩
 case round =>
  obtain ⟨rfl,rfl,rfl⟩:=hrel
  go_wp2
  go_ret
  exact ⟨rfl,rfl⟩
theorem zBw (a:Option Addr)(n cap k0:Nat)(w:World)(hp:xV w a n (mkW k0))(hmax:n≤1048576)(hk0:k0≤1125899906842624) :
  Calls Tryz.prog 87 #[.slice a n cap,.int .i64 (k0:Int)] w fun e w'=>e=.returned (.int .i64 ((k0+5 * n:Nat):Int))∧Bw w w':=by
 have HP:Hid (xV w a n (mkW k0)):=hp
 clear hp
 go_enter Tryz.func87,Tryz.ntmps87
 go_wp2_with fail
 go_loopw [1,5] (fun kk i wr=>∃ j K:Nat,j≤n∧Hid (K=k0+5 * j)∧kk=.int .i64 (K:Int)∧i=.int .i64 (j:Int)∧Bw w wr) (fun _ i _=>n - (intOf i).toNat)
 case atStart=>exact ⟨0,k0,by omega,rfl,rfl,rfl,Below.refl _ _⟩
 case round =>
  obtain ⟨j,K,hj,HK,rfl,rfl,hB⟩:=hrel
  by_cases hlt:j<n
  ·rcases HP.out with h0 | ⟨b,off,rfl,hbl,hpt⟩
   ·omega
   have hKb:K≤1125899913134080:=by have:=HK.out;omega
   have he:mkW k0 j=⟨(K:Int),(K:Int)+1,(K:Int)+1+1,(K:Int)+1+1+1,(K:Int)+1+1+1+1⟩:=by
    have:=HK.out
    unfold mkW
    congr 1 <;> omega
   have hat:=(hpt.below hB hbl) j hlt
   rw [he] at hat
   obtain ⟨t0,t1,t2,t3,t4⟩:=hat
   dsimp only at t0 t1 t2 t3 t4
   have HB:Hid (Bw w wr):=hB
   clear hB hpt he
   have hi:(j:Int)<(n:Int):=by omega
   have hi0:(0:Int)≤(j:Int):=by omega
   go_wp2
   go_roundw
   case rel=>exact ⟨j+1,K+5,by omega,by have:=HK.out;show _=_;omega,by go_num,by go_num,HB.out⟩
   case measure=>simp [intOf];omega
  ·go_wp2
   go_ret
   have hjn:j=n:=by omega
   subst hjn
   exact ⟨zH (by have:=HK.out;omega),hB⟩
def zCb (w:World)(base:Nat)(v:Value)(n:Nat)(E:Nat→Req):Prop :=
 ∃ a cap,v=.slice a n cap∧n≤cap∧(n=0∨∃ b,a=some ⟨b,0,none⟩∧base≤b∧b<w.heap.size∧vG w b 0 n E∧zC w b (n * 5))
theorem zCb.pts {w:World}{base:Nat}{v:Value}{n:Nat}{E:Nat→Req}(h:zCb w base v n E):∃ a cap,v=.slice a n cap∧n≤cap∧xV w a n E:=by
 obtain ⟨a,cap,hv,hc,h0 | ⟨b,ha,hb,hl,hp,ht⟩⟩:=h
 ·exact ⟨a,cap,hv,hc,.inl h0⟩
 ·exact ⟨a,cap,hv,hc,.inr ⟨b,0,ha,hl,hp⟩⟩
theorem zCb.is {w:World}{base:Nat}{a:Option Addr}{n cap:Nat}{E:Nat→Req}(h:zCb w base (.slice a n cap) n E):xV w a n E:=by
 obtain ⟨a',cap',hv,hc,hi⟩:=h.pts
 injection hv with h1 h2 h3
 subst h1
 exact hi
abbrev yJ (e:Req):List Value:=[.int .i64 e.z,.int .i64 e.x,.int .i64 e.y,.int .i64 e.du,.int .i64 e.tr]
def zV (l:List Req):List Value:=l.flatMap yJ
theorem xT:∀ l:List Req,(zV l).length=l.length * 5
 | []=>rfl
 | e :: l=>by
  have h:=xT l
  unfold zV at h ⊢
  rw [List.flatMap_cons,List.length_append,h]
  simp
  omega
theorem yM (l m:List Req):zV (l ++ m)=zV l ++ zV m:=by simp [zV]
theorem yG (e:Req):zV [e]=yJ e:=by simp [zV]
theorem vU (l:List Req):∀ u ∈ zV l,u.oneCell'=true:=fun u hu=>by
 unfold zV at hu
 rw [List.mem_flatMap] at hu
 obtain ⟨e,_,h⟩:=hu
 simp at h
 rcases h with rfl | rfl | rfl | rfl | rfl <;> rfl
def nw (l:List Req)(i:Nat):Req:=l.getD i ⟨0,0,0,0,0⟩
theorem nw_cons (e:Req)(l:List Req)(i:Nat):nw (e :: l) (i+1)=nw l i:=by simp [nw]
theorem nw_zero (e:Req)(l:List Req):nw (e :: l) 0=e:=by simp [nw]
theorem zCz:∀ (l:List Req) (i:Nat),i<l.length→∀ k,k<5→(zV l)[i * 5+k]?=(yJ (nw l i))[k]?
 | [],i,h,_,_=>absurd h (by simp)
 | e :: l,0,_,k,hk=>by
  rw [nw_zero]
  unfold zV
  rw [List.flatMap_cons,List.getElem?_append_left (by simp;omega)]
  simp
 | e :: l,i+1,h,k,hk=>by
  rw [nw_cons]
  have:=zCz l i (by simp at h;omega) k hk
  rw [← this]
  unfold zV
  rw [List.flatMap_cons,List.getElem?_append_right (by simp;omega)]
  congr 1
  simp
  omega
def zM (n:Nat)(E:Nat→Req):List Req:=(List.range n).map E
theorem yB (n:Nat)(E:Nat→Req):(zM n E).length=n:=by simp [zM]
theorem zHx (n:Nat)(E:Nat→Req)(i:Nat)(h:i<n):nw (zM n E) i=E i:=by simp [nw,zM,h]
theorem zLn (l:List Req):zM l.length (nw l)=l:=by
 refine List.ext_getElem (by simp [zM]) fun i h1 h2=>?_
 have h2':=h2
 simp [zM,nw,h2']
theorem zEg {w:World}{b off n:Nat}{E:Nat→Req}(h:vG w b off n E):∀ q u,(zV (zM n E))[q]?=some u→w.cell? ⟨b,off+q,none⟩=some u:=fun q u hq=>by
 have hl:q<n * 5:=by
  have h1:=xT (zM n E)
  rw [yB] at h1
  rcases Nat.lt_or_ge q (n * 5) with h' | h'
  ·exact h'
  ·rw [List.getElem?_eq_none (by omega)] at hq
   cases hq
 have e1:q=q / 5 * 5+q % 5:=by omega
 have hi:q / 5<n:=by omega
 have hat:=zCz (zM n E) (q / 5) (by rw [yB];exact hi) (q % 5) (by omega)
 rw [← e1,zHx _ _ _ hi,hq] at hat
 obtain ⟨h0,h1,h2,h3,h4⟩:=h (q / 5) hi
 have e2:off+q=off+q / 5 * 5+q % 5:=by omega
 rw [e2]
 have hr:q % 5=0∨q % 5=1∨q % 5=2∨q % 5=3∨q % 5=4:=by omega
 rcases hr with hr | hr | hr | hr | hr <;> rw [hr] at hat ⊢ <;> simp at hat <;> subst hat <;> assumption
def zX (base:Nat)(w:World)(v:Value)(l:List Req):Prop:=w.ownsRow base 134 5 v l.length (zV l)
theorem zX.no (base:Nat)(w:World):zX base w (.slice none 0 0) []:=World.ownsRow_nil _ _ _ _
theorem zX.own {base:Nat}{w:World}{v:Value}{l:List Req}(h:zX base w v l):zCb w base v l.length (nw l):=by
 obtain ⟨h1,h2 | ⟨g,cp,cur,hv,hg,hh,hkc,hcm,hcs,htk⟩⟩:=h
 ·obtain ⟨rfl,h0⟩:=h2
  rw [h0]
  exact ⟨none,0,rfl,Nat.le_refl _,.inl rfl⟩
 ·have hgl:g<w.heap.size:=by
   rcases Nat.lt_or_ge g w.heap.size with h' | h'
   ·exact h'
   ·rw [Array.getElem?_eq_none h'] at hh;cases hh
  have hrow:w.ownsRow base 134 5 (.slice (some ⟨g,0,none⟩) l.length cp) l.length (zV l):=⟨h1,.inr ⟨g,cp,cur,rfl,hg,hh,hkc,hcm,hcs,htk⟩⟩
  refine ⟨some ⟨g,0,none⟩,cp,hv,hkc,.inr ⟨g,rfl,hg,hgl,fun i hi=>?_,fun o ho=>⟨?_,hrow.frozenAt o⟩⟩⟩
  ·have ha:=zCz l i hi
   simp only [Nat.zero_add]
   exact ⟨(hrow.cellAt _ (by omega)).trans (ha 0 (by omega)),(hrow.cellAt _ (by omega)).trans (ha 1 (by omega)),(hrow.cellAt _ (by omega)).trans (ha 2 (by omega)),(hrow.cellAt _ (by omega)).trans (ha 3 (by omega)),(hrow.cellAt _ (by omega)).trans (ha 4 (by omega))⟩
  ·rw [hrow.cellAt o ho]
   have hlt:o<(zV l).length:=by rw [xT];exact ho
   exact ⟨(zV l)[o],List.getElem?_eq_getElem hlt⟩
theorem uR {base s n:Nat}{t:TypeId}{w w':World}{v:Value}{xs:List Value}(h:w.ownsRow base t s v n xs)(hb:Below w.heap.size w w'):w'.ownsRow base t s v n xs:=by
 obtain ⟨h1,h2 | ⟨g,cp,cur,hv,hg,hh,hr⟩⟩:=h
 ·exact ⟨h1,.inl h2⟩
 ·refine ⟨h1,.inr ⟨g,cp,cur,hv,hg,?_,hr⟩⟩
  have hgl:g<w.heap.size:=by
   rcases Nat.lt_or_ge g w.heap.size with h' | h'
   ·exact h'
   ·rw [Array.getElem?_eq_none h'] at hh;cases hh
  rw [hb.block g hgl]
  exact hh
theorem zX.below {base:Nat}{w w':World}{v:Value}{l:List Req}(h:zX base w v l)(hb:Below w.heap.size w w'):zX base w' v l:=uR h hb
theorem zJ {base s n r o:Nat}{t:TypeId}{w:World}{v u:Value}{xs:List Value}(h:w.ownsRow base t s v n xs)(hr:r<base):(w.setCell ⟨r,o,none⟩ u).ownsRow base t s v n xs:=by
 obtain ⟨h1,h2 | ⟨g,cp,cur,hv,hg,hh,hk⟩⟩:=h
 ·exact ⟨h1,.inl h2⟩
 ·refine ⟨h1,.inr ⟨g,cp,cur,hv,hg,?_,hk⟩⟩
  rw [Below.heap_setCell w ⟨r,o,none⟩ u g (fun e=>by simp at e;omega)]
  exact hh
theorem zK {base B s n:Nat}{t:TypeId}{w:World}{v:Value}{xs:List Value}(h:w.ownsRow base t s v n xs)(hB:B≤base):w.ownsRow B t s v n xs:=by
 obtain ⟨h1,h2 | ⟨g,cp,cur,hv,hg,hk⟩⟩:=h
 ·exact ⟨h1,.inl h2⟩
 ·exact ⟨h1,.inr ⟨g,cp,cur,hv,by omega,hk⟩⟩
theorem zDy {w:World}{base base' s s' n n':Nat}{t t':TypeId}{v v':Value}{xs xs':List Value}(h:w.ownsRow base t s v n xs)(h':w.ownsRow base' t' s' v' n' xs')(ht:t≠t') :
  ∀ p l c p' l' c',v=.slice (some p) l c→v'=.slice (some p') l' c'→p.block≠p'.block:=fun p l c p' l' c' e e' hp=>by
 obtain ⟨_,h2 | ⟨g,cp,cur,hv,hg,hh,_⟩⟩:=h
 ·rw [h2.1] at e;cases e
 obtain ⟨_,h3 | ⟨g',cp',cur',hv',hg',hh',_⟩⟩:=h'
 ·rw [h3.1] at e';cases e'
 rw [hv] at e
 rw [hv'] at e'
 injection e with e _ _
 injection e with e
 injection e' with e' _ _
 injection e' with e'
 subst e e'
 simp at hp
 subst hp
 rw [hh] at hh'
 injection hh' with hh'
 injection hh' with _ h4 _
 exact ht h4
def yS (l:List Req):Rfs:=⟨fun i=>(nw l i).z,fun i=>(nw l i).x,fun i=>(nw l i).y⟩
theorem nw_app (l m:List Req)(i:Nat)(h:i<l.length):nw (l ++ m) i=nw l i:=by simp [nw,List.getElem?_append_left h]
theorem nw_last (l:List Req)(e:Req):nw (l ++ [e]) l.length=e:=by simp [nw]
def yA (base:Nat)(w:World)(v:Value)(l:List Req):Prop:=w.ownsRow base 111 3 v l.length (zT (yS l) l.length)
theorem yA.no (base:Nat)(w:World):yA base w (.slice none 0 0) []:=World.ownsRow_nil _ _ _ _
theorem yA.own {base:Nat}{w:World}{v:Value}{l:List Req}(h:yA base w v l):zGk w base v l.length (yS l):=zBn.own h
theorem yA.below {base:Nat}{w w':World}{v:Value}{l:List Req}(h:yA base w v l)(hb:Below w.heap.size w w'):yA base w' v l:=uR h hb
theorem vS:(Tryz.prog.info? 134).map (fun i=>(i.zero,i.size,i.bytes))=some (some (.agg #[.int .i64 0,.int .i64 0,.int .i64 0,.int .i64 0,.int .i64 0]),5,40):=by kernel_rfl
theorem zBf (a:Option Addr)(n cap:Nat)(E:Nat→Req)(w:World)(hp:xV w a n E)(hn:n≤1048576) :
  Calls Tryz.prog 133 #[.slice a n cap] w fun e w'=>∃ v,e=.returned v∧zX w.heap.size w' v (zM n E)∧Bw w w':=by
 obtain ⟨i0,hi,hz0,hz1,hz2⟩:=info_parts vS
 have HLEN:Hid ((zM n E).length=n):=yB n E
 cases a with
 | none =>
  rcases hp with h0 | ⟨b,off,h,_⟩
  ·subst h0
   have hnl:∀ w,Sem.run Tryz.prog (binOp BinOp.eql 29 (.slice none 0 cap) (.slice none 0 0)) w=.ok (.bool true) w:=fun _=>by kernel_rfl
   go_enter Tryz.func133,Tryz.ntmps133
   go_wp2
   go_ret
   exact ⟨_,rfl,zX.no _ _,Qb⟩
  ·cases h
 | some ad =>
  have HC:Hid (∀ q u,(zV (zM n E))[q]?=some u→(w.alloc (.cells #[] 134)).cell? (ad.add q)=some u):=fun q u hq=>by
   rcases hp with h0 | ⟨b,off,h,hbl,hpt⟩
   ·subst h0
    simp [zM,zV] at hq
   ·injection h with h
    subst h
    have h1:=zEg (hpt.below (by exact Qb:Below w.heap.size w (w.alloc (.cells #[] 134))) hbl) q u hq
    by_cases hq0:q=0
    ·subst hq0;simpa [Addr.add] using h1
    ·simpa [Addr.add,hq0] using h1
  have hnl:∀ w,Sem.run Tryz.prog (binOp BinOp.eql 29 (.slice (some ad) n cap) (.slice none 0 0)) w=.ok (.bool false) w:=fun _=>by kernel_rfl
  clear hp
  go_enter Tryz.func133,Tryz.ntmps133
  go_wp2_with (first
   | (at_builtin;go_must (refine wpList_append_own _ rfl _ _ 29 rfl w.heap.size 134 i0 (.agg #[.int .i64 0,.int .i64 0,.int .i64 0,.int .i64 0,.int .i64 0]) 5 40 Tryz.underlying29 hi hz0 hz1 hz2 rfl (by decide) (.slice (some ⟨w.heap.size,0,none⟩) 0 0) 0 [] rfl (World.ownsRow_lit (base:=w.heap.size) w #[] 0 (Nat.le_refl _) (Nat.zero_le _) rfl) ad n cap (zV (zM n E)) rfl ?c0 ?c1 ?c2 ?c3 ?c4 ?c5 ?_)))
  case c0=>rw [xT,HLEN.out]
  case c1=>exact HC.out
  case c2=>exact vU _
  case c3=>unfold maxLen;omega
  case c4=>omega
  case c5=>first | omega | (simp;done) | (simp;omega)
  intro v' w2 hown' hgrow hnil
  have HR:Hid (zX w.heap.size w2 v' (zM n E)):=by
   show World.ownsRow _ _ _ _ _ _ _
   rw [HLEN.out]
   simpa using hown'
  have HB:Hid (Bw w w2):=by
   have h1:Bw w (w.alloc (.cells #[] 134)):=by exact Qb
   exact h1.trans ⟨hgrow.os,hgrow.tape,hgrow.output,hgrow.size,fun k hk=>hgrow.block k (by simp;omega) (by simp [Value.ownBlock];omega)⟩
  clear hown' hgrow hnil
  go_wp2
  go_ret
  exact ⟨_,rfl,HR.out,HB.out⟩
theorem zG7 (a:Option Addr)(n cap:Nat)(E:Nat→Req)(w:World)(hp:xV w a n E)(hn:n≤1048576)(ha:∃ ad,a=some ad) :
  Calls Tryz.prog 115 #[.slice a n cap] w fun e w'=>∃ v,e=.returned v∧zX w.heap.size w' v (zM n E)∧Bw w w':=by
 obtain ⟨i0,hi,hz0,hz1,hz2⟩:=info_parts vS
 have HLEN:Hid ((zM n E).length=n):=yB n E
 obtain ⟨ad,rfl⟩:=ha
 have HC:Hid (∀ q u,(zV (zM n E))[q]?=some u→(w.alloc (.cells #[] 134)).cell? (ad.add q)=some u):=fun q u hq=>by
  rcases hp with h0 | ⟨b,off,h,hbl,hpt⟩
  ·subst h0
   simp [zM,zV] at hq
  ·injection h with h
   subst h
   have h1:=zEg (hpt.below (by exact Qb:Below w.heap.size w (w.alloc (.cells #[] 134))) hbl) q u hq
   by_cases hq0:q=0
   ·subst hq0;simpa [Addr.add] using h1
   ·simpa [Addr.add,hq0] using h1
 clear hp
 go_enter Tryz.func115,Tryz.ntmps115
 go_wp2_with (first
  | (at_builtin;go_must (refine wpList_append_own _ rfl _ _ 29 rfl w.heap.size 134 i0 (.agg #[.int .i64 0,.int .i64 0,.int .i64 0,.int .i64 0,.int .i64 0]) 5 40 Tryz.underlying29 hi hz0 hz1 hz2 rfl (by decide) (.slice (some ⟨w.heap.size,0,none⟩) 0 0) 0 [] rfl (World.ownsRow_lit (base:=w.heap.size) w #[] 0 (Nat.le_refl _) (Nat.zero_le _) rfl) ad n cap (zV (zM n E)) rfl ?c0 ?c1 ?c2 ?c3 ?c4 ?c5 ?_)))
 case c0=>rw [xT,HLEN.out]
 case c1=>exact HC.out
 case c2=>exact vU _
 case c3=>unfold maxLen;omega
 case c4=>omega
 case c5=>first | omega | (simp;done) | (simp;omega)
 intro v' w2 hown' hgrow hnil
 have HR:Hid (zX w.heap.size w2 v' (zM n E)):=by
  show World.ownsRow _ _ _ _ _ _ _
  rw [HLEN.out]
  simpa using hown'
 have HB:Hid (Bw w w2):=by
  have h1:Bw w (w.alloc (.cells #[] 134)):=by exact Qb
  exact h1.trans ⟨hgrow.os,hgrow.tape,hgrow.output,hgrow.size,fun k hk=>hgrow.block k (by simp;omega) (by simp [Value.ownBlock];omega)⟩
 clear hown' hgrow hnil
 go_wp2
 go_ret
 exact ⟨_,rfl,HR.out,HB.out⟩
abbrev rqV (c:Int)(v1 v2:Value):Value:=.agg #[.int .i64 c,v1,v2]
section
variable {m n T B base lo hi:Nat} {R:Rfs} {E:Nat→Req} {w w':World} {v1 v2:Value}
theorem zFf.mid {b off:Nat}(h:zFf w b off m R)(hM:zI lo hi w w')(ho:b<lo∨hi≤b):zFf w' b off m R:=fun i hi=>by
 obtain ⟨h0,h1,h2⟩:=h i hi
 exact ⟨hM.cell h0 ho,hM.cell h1 ho,hM.cell h2 ho⟩
theorem vG.mid {b off:Nat}(h:vG w b off n E)(hM:zI lo hi w w')(ho:b<lo∨hi≤b):vG w' b off n E:=fun i hi=>by
 obtain ⟨h0,h1,h2,h3,h4⟩:=h i hi
 exact ⟨hM.cell h0 ho,hM.cell h1 ho,hM.cell h2 ho,hM.cell h3 ho,hM.cell h4 ho⟩
theorem zGk.mid {v:Value}(h:zGk w base v m R)(hM:zI lo hi w w')(hh:hi≤base):zGk w' base v m R:=by
 obtain ⟨a,cap,hv,hc,h0 | ⟨b,ha,hbb,hl,hp,ht⟩⟩:=h
 ·exact ⟨a,cap,hv,hc,.inl h0⟩
 ·exact ⟨a,cap,hv,hc,.inr ⟨b,ha,hbb,Nat.lt_of_lt_of_le hl hM.size,hp.mid hM (.inr (by omega)),hM.there ht (.inr (by omega))⟩⟩
theorem zCb.mid {v:Value}(h:zCb w base v n E)(hM:zI lo hi w w')(hh:hi≤base):zCb w' base v n E:=by
 obtain ⟨a,cap,hv,hc,h0 | ⟨b,ha,hbb,hl,hp,ht⟩⟩:=h
 ·exact ⟨a,cap,hv,hc,.inl h0⟩
 ·exact ⟨a,cap,hv,hc,.inr ⟨b,ha,hbb,Nat.lt_of_lt_of_le hl hM.size,hp.mid hM (.inr (by omega)),hM.there ht (.inr (by omega))⟩⟩
theorem zIf {p k:Nat}(h:zC w p k)(he:w'.heap[p]?=w.heap[p]?):zC w' p k:=fun o ho=>by
 obtain ⟨v,hv⟩:=(h o ho).1
 exact ⟨⟨v,(World.cell?_of_block (a:=⟨p,o,none⟩) he).trans hv⟩,(World.frozen?_of_block (a:=⟨p,o,none⟩) he).trans (h o ho).2⟩
end
end Go.Proofs.YtpaiholildedcaaGreat
