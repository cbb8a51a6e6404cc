/- Texts. -/
import Derived.Test.YtpaiholildedcaaGreatVNewViewer21
import Derived.Test.YtpaiholildedcaaGreatVNewViewer15
set_option linter.unusedSimpArgs false
set_option linter.unusedVariables false
set_option maxRecDepth 100000
set_option maxHeartbeats 32000000
namespace Go.Proofs.YtpaiholildedcaaGreat
open Go.RowKit

theorem zCb.wide {w:World}{base B:Nat}{v:Value}{n:Nat}{E:Nat→Req}(h:zCb w base v n E)(hB:B≤base):zCb w B v n E:=by
 obtain ⟨a,cap,hv,hc,h0 | ⟨b,ha,hbb,hr⟩⟩:=h
 ·exact ⟨a,cap,hv,hc,.inl h0⟩
 ·exact ⟨a,cap,hv,hc,.inr ⟨b,ha,by omega,hr⟩⟩
theorem zCb.set3 {base B r:Nat}{w:World}{v a b c:Value}{n:Nat}{E:Nat→Req}(h:zCb w B v n E)(hr:r<B)(hB:base≤B):zCb (((w.setCell ⟨r,0,none⟩ a).setCell ⟨r,1,none⟩ b).setCell ⟨r,2,none⟩ c) base v n E :=
 (h.mid ((((zI.refl r (r+1) w).set (Nat.le_refl _) (Nat.lt_succ_self _) 0 a).set (Nat.le_refl _) (Nat.lt_succ_self _) 1 b).set (Nat.le_refl _) (Nat.lt_succ_self _) 2 c) hr).wide hB
theorem zAj.up {w w' : World} {b : Nat} {z x y wd ht : Int} (h : zAj w b z x y wd ht) (hb : Below w.heap.size w w') : zAj w' b z x y wd ht :=
 ⟨vW hb h.1, vW hb h.2.1, vW hb h.2.2.1, vW hb h.2.2.2.1, vW hb h.2.2.2.2⟩
def zDg (n : Nat) (E : Nat → Req) (z x y wd ht : Int) : Int := or2 (zQ n E) (xN z x y wd ht)
def zCk (n : Nat) (E : Nat → Req) (z x y wd ht : Int) : List Req := if zDg n E z x y wd ht = 0 then zS (fun j => yI z x y wd ht (E j).z (E j).x (E j).y) E n else []
theorem zLw (args : Array Value) (w : World) : (callFunc 129 args).run Tryz.prog w = .ok (.enter 129 args) w := by
 have h1 : (Tryz.f129).name ≠ "runtime.NumGoroutine" := by
  have : ((Tryz.f129).name == "runtime.NumGoroutine") = false := by kernel_rfl
  simpa using this
 have hb : ∃ c, (Tryz.f129).body = some c := ⟨_, rfl⟩
 obtain ⟨c, hb⟩ := hb
 simp [callFunc, Tryz.func129, h1, hb]
theorem zJ2 (e : Req) (r : Nat) (z x y wd ht : Int) (w : World) (h : zAj w r z x y wd ht) :
  Calls Tryz.prog 129 #[zFe e, .pointer (some ⟨r, 0, none⟩)] w fun q w' => q = .returned (.bool (yI z x y wd ht e.z e.x e.y)) ∧ Bw w w' := by
 obtain ⟨c0, c1, c2, c3, c4⟩ := h.up (w' := w.alloc (.cells #[.int .i64 e.z, .int .i64 e.x, .int .i64 e.y, .int .i64 e.du, .int .i64 e.tr] 134)) (by exact Qb)
 have hl := World.block_lt_of_cell? _ _ h.1
 have sI := fun w => uI z x y wd ht e.z e.x e.y w
 generalize yI z x y wd ht e.z e.x e.y = B at *
 clear h
 go_enter Tryz.func129, Tryz.ntmps129
 go_wp2_with (go_at_call 127; refine (sI _).mono ?_; rintro e w' ⟨rfl, hb⟩)
 go_ret
 exact ⟨rfl, by (repeat (first|exact Qr _ _|assumption|refine Qd ?_|refine Qa ?_ _|refine Qt ?_|refine Qs ?_ _|refine Qo ?_ ?_ _ _))⟩
theorem zJy {T : Array Value} {Wf : World} {r : Nat} {c : Int} {v1 v2 : Value} (hT : T[4]?.getD undef = .pointer (some ⟨r, 0, none⟩)) (h0 : Wf.cell? ⟨r, 0, none⟩ = some (.int .i64 c)) (h1 : Wf.cell? ⟨r, 1, none⟩ = some v1) (h2 : Wf.cell? ⟨r, 2, none⟩ = some v2) :
  (results Tryz.f79 T).run Tryz.prog Wf = .ok (rqV c v1 v2) Wf := by
 simp [results, Tryz.results79, go_sem, hT, h0, h1, h2]
theorem zBd (a : Option Addr) (n cap : Nat) (E : Nat → Req) (z x y wd ht : Int) (w : World) (hp : xV w a n E) (hn : n ≤ 1048576) (hcap : n ≤ cap) :
  Calls Tryz.prog 79 #[.slice a n cap, zBg z x y wd ht] w fun e w' => ∃ v2, e = .returned (rqV (zDg n E z x y wd ht) (.slice none 0 0) v2) ∧ ArmV v2 ∧ zCb w' w.heap.size v2 (zCk n E z x y wd ht).length (nw (zCk n E z x y wd ht)) ∧ Bw w w' := by
 have HP : Hid (xV w a n E) := hp
 have HF0 : Hid (∀ W, Bw w W → Calls Tryz.prog 76 #[.slice a n cap] W fun e w' => e = .returned (.int .i64 (zQ n E)) ∧ Bw W w') := fun W h => yO a n cap E W (hp.below h) hn hcap
 have HT : Hid (∀ W, Calls Tryz.prog 72 #[zBg z x y wd ht] W fun e w' => e = .returned (.int .i64 (xN z x y wd ht)) ∧ Bw W w') := fun W => vF z x y wd ht W
 have HPC : Hid (zDg n E z x y wd ht = or2 (zQ n E) (xN z x y wd ht)) := rfl
 clear hp
 have hmf : ∀ (fn : Fn) (first cap : Array Value) (w : World), (Instr.makeFunc fn first cap).run Tryz.prog w = .ok (.func fn first cap) w := fun _ _ _ _ => rfl
 generalize zQ n E = k1 at *
 generalize xN z x y wd ht = k2 at *
 go_enter Tryz.func79, Tryz.ntmps79
 go_wp2_with fail
 generalize hW : ((w.alloc _).alloc _ : World) = W
 have HB0 : Hid (Bw w W) := by show Below _ _ _; subst hW; exact Qb
 have HSZ : Hid (w.heap.size + 1 < W.heap.size) := by show _ < _; subst hW; simp
 have hCA : zAj W w.heap.size z x y wd ht := by subst hW; exact ⟨by simp [go_sem], by simp [go_sem], by simp [go_sem], by simp [go_sem], by simp [go_sem]⟩
 have c0 : ∀ W', Bw W W' → W'.cell? ⟨w.heap.size, 0, none⟩ = some (.int .i64 z) := fun W' h => (hCA.up h).1
 have c1 : ∀ W', Bw W W' → W'.cell? ⟨w.heap.size, 1, none⟩ = some (.int .i64 x) := fun W' h => (hCA.up h).2.1
 have c2 : ∀ W', Bw W W' → W'.cell? ⟨w.heap.size, 2, none⟩ = some (.int .i64 y) := fun W' h => (hCA.up h).2.2.1
 have c3 : ∀ W', Bw W W' → W'.cell? ⟨w.heap.size, 3, none⟩ = some (.int .i64 wd) := fun W' h => (hCA.up h).2.2.2.1
 have c4 : ∀ W', Bw W W' → W'.cell? ⟨w.heap.size, 4, none⟩ = some (.int .i64 ht) := fun W' h => (hCA.up h).2.2.2.2
 have HCA : Hid (zAj W w.heap.size z x y wd ht) := hCA
 have HTH : Hid (zC W (w.heap.size + 1) 3) := by
  show zC _ _ _
  subst hW
  have := zGu (w.alloc (.cells #[.int .i64 z, .int .i64 x, .int .i64 y, .int .i64 wd, .int .i64 ht] 25)) (.int .i64 0) (.slice none 0 0) (.slice none 0 0) 114
  simpa using this
 clear hW hCA
 have HF : Hid (∀ W', Bw W W' → Calls Tryz.prog 76 #[.slice a n cap] W' fun e w' => e = .returned (.int .i64 k1) ∧ Below W'.heap.size W' w') := fun W' h => HF0.out W' (zB HB0.out h)
 refine wp_region_noPanic ?_
 refine wp_region_held_drew (S := fun W' => Bw W W') (by kernel_rfl) (by exact Qb) (fun hHeld => ?_)
 have hX0 : Bw W W.drew := hHeld
 refine zE (i := 0) (d := some 6) rfl rfl ?_
 try simp only [Act.put, Qx, Qy, Qz]
 refine zE (i := 2) (d := some 8) rfl rfl ?_
 try simp only [Act.put, Qx, Qy, Qz]
 refine zN 1 fun K hK => ?_
 go_simp
 refine Calls.mono (HF.out _ hX0) ?_
 rintro e wo1 ⟨rfl, hbo1⟩
 have hX1 : Bw W wo1 := zB hX0 hbo1
 go_wp2_with fail
 refine hK.out _ _ hX1 (fun hHeld => ?_)
 clear hK K
 try simp only [Act.put, Qx, Qy, Qz]
 refine zN 3 fun K hK => ?_
 go_simp
 refine Calls.mono (HT.out _) ?_
 rintro e wo2 ⟨rfl, hbo2⟩
 have hX2 : Bw W wo2 := zB hX1 hbo2
 go_wp2_with fail
 refine hK.out _ _ hX2 (fun hHeld => ?_)
 clear hK K
 try simp only [Act.put, Qx, Qy, Qz]
 refine zN 4 fun K hK => ?_
 go_simp
 generalize hw4 : (World.alloc _ _ : World) = wo3
 have hb4 : Bw wo2 wo3 := by subst hw4; exact Qb
 have g0 : wo3.cell? ⟨wo2.heap.size, 0, none⟩ = some (.int .i64 k1) := by subst hw4; simp [go_sem]
 have g1 : wo3.cell? ⟨wo2.heap.size, 1, none⟩ = some (.int .i64 k2) := by subst hw4; simp [go_sem]
 have hX3 : Bw W wo3 := zB hX2 hb4
 clear hw4
 refine hK.out _ _ hX3 (fun hHeld => ?_)
 clear hK K hb4
 try simp only [Act.put, Qx, Qy, Qz]
 refine zN 5 fun K hK => ?_
 go_simp
 refine (zD7 _ _ k1 k2 _ g0 g1).mono ?_
 rintro e w5 ⟨rfl, rfl⟩
 go_wp2_with fail
 refine hK.out _ _ hX3 (fun hHeld => ?_)
 clear hK K g0 g1
 try simp only [Act.put, Qx, Qy, Qz]
 refine zE (i := 6) (d := some 5) rfl rfl ?_
 try simp only [Act.put, Qx, Qy, Qz]
 refine wpAnyH_done (by kernel_rfl) ?_ _
 refine NoPanic.normal ?_
 simp only [Exit.then]
 refine (by assumption : ∀ (a : Act) (w : World), _ → _) _ _ ?_
 have hB5 : Bw W w5 := hX3
 have HBS : Hid (W.heap.size ≤ w5.heap.size) := hB5.size
 rw [← HPC.out]
 clear hX0 hX1 hX2 hX3 hHeld hbo1 hbo2 HF HF0 HT c0 c1 c2 c3 c4
 have hT5 := HTH.out.below hB5
 have HSZ5 : Hid (w.heap.size + 1 < w5.heap.size) := by have := HBS.out; have := HSZ.out; show _ < _; omega
 by_cases hp0 : zDg n E z x y wd ht = 0
 ·rw [hp0]
  have HC0 : Hid (zDg n E z x y wd ht = 0) := hp0
  have HL : Hid (zCk n E z x y wd ht = zS (fun j => yI z x y wd ht (E j).z (E j).x (E j).y) E n) := by show _ = _; unfold zCk; rw [if_pos hp0]
  have hOT := zEs a n cap 129 #[.pointer (some ⟨w.heap.size, 0, none⟩)] (fun j => yI z x y wd ht (E j).z (E j).x (E j).y) E w5 (HP.out.below (zB HB0.out hB5)) hn zLw (fun i W' hi hb => zJ2 (E i) w.heap.size z x y wd ht W' ((HCA.out.up hB5).up hb))
  have HOT : Hid (Calls Tryz.prog 128 #[.slice a n cap, .func (.func 129) #[] #[.pointer (some ⟨w.heap.size, 0, none⟩)]] w5 fun e w' => ∃ va vc, e = .returned (.slice va (zS (fun j => yI z x y wd ht (E j).z (E j).x (E j).y) E n).length vc) ∧ ArmV (.slice va (zS (fun j => yI z x y wd ht (E j).z (E j).x (E j).y) E n).length vc) ∧ zCb w' w5.heap.size (.slice va (zS (fun j => yI z x y wd ht (E j).z (E j).x (E j).y) E n).length vc) (zS (fun j => yI z x y wd ht (E j).z (E j).x (E j).y) E n).length (nw (zS (fun j => yI z x y wd ht (E j).z (E j).x (E j).y) E n)) ∧ Bw w5 w') := hOT
  clear hp0 hOT
  generalize zS (fun j => yI z x y wd ht (E j).z (E j).x (E j).y) E n = KL at *
  go_wp2_with fail
  refine Calls.mono HOT.out ?_
  rintro e w6 ⟨va, vc, rfl, hA6, hO6, hb6⟩
  have HA6 : Hid (ArmV (.slice va KL.length vc)) := hA6
  have HO6 : Hid (zCb w6 w5.heap.size (.slice va KL.length vc) KL.length (nw KL)) := hO6
  have HT6 : Hid (zC w6 (w.heap.size + 1) 3) := hT5.below hb6
  have HB6 : Hid (Bw w w6) := zB HB0.out (zB hB5 hb6)
  have t0 := HT6.out.cell 0 (by omega)
  have t1 := HT6.out.cell 1 (by omega)
  have t2 := HT6.out.cell 2 (by omega)
  have f0 := (HT6.out 0 (by omega)).2
  have f1 := (HT6.out 1 (by omega)).2
  have f2 := (HT6.out 2 (by omega)).2
  clear hA6 hO6 hb6 HOT hT5 hB5
  generalize hLL : KL.length = LL at *
  go_wp2_with fail
  obtain ⟨q0, q1, q2⟩ := uA (a := .int .i64 0) (b := .slice none 0 0) (c := .slice va LL vc) HT6.out
  refine bodyPost_ret (zJy rfl q0 q1 q2) rfl ⟨_, by rw [HC0.out], HA6.out, by rw [HL.out, hLL]; exact HO6.out.set3 HSZ5.out (by have := HSZ5.out; omega), ?_⟩
  exact ((HB6.out.setCell (Nat.le_succ _) _).setCell (Nat.le_succ _) _).setCell (Nat.le_succ _) _
 ·have hp0' : (zDg n E z x y wd ht == 0) = false := by simpa using hp0
  have HL : Hid (zCk n E z x y wd ht = []) := by show _ = _; unfold zCk; rw [if_neg hp0]
  obtain ⟨kk, hkk⟩ : ∃ kk, zDg n E z x y wd ht = kk := ⟨_, rfl⟩
  have HKK : Hid (zDg n E z x y wd ht = kk) := hkk
  rw [hkk] at hp0' ⊢
  have HT6 : Hid (zC w5 (w.heap.size + 1) 3) := hT5
  have HB6 : Hid (Bw w w5) := zB HB0.out hB5
  have t0 := HT6.out.cell 0 (by omega)
  have t1 := HT6.out.cell 1 (by omega)
  have t2 := HT6.out.cell 2 (by omega)
  have f0 := (HT6.out 0 (by omega)).2
  have f1 := (HT6.out 1 (by omega)).2
  have f2 := (HT6.out 2 (by omega)).2
  clear hp0 hkk hT5 hB5
  go_wp2_with fail
  obtain ⟨q0, q1, q2⟩ := uA (a := .int .i64 kk) (b := .slice none 0 0) (c := .slice none 0 0) HT6.out
  refine bodyPost_ret (zJy rfl q0 q1 q2) rfl ⟨_, by rw [HKK.out], .inl rfl, by rw [HL.out]; exact (zX.no _ _).own, ?_⟩
  exact ((HB6.out.setCell (Nat.le_succ _) _).setCell (Nat.le_succ _) _).setCell (Nat.le_succ _) _
theorem zG5 (a : Option Addr) (n cap r : Nat) (E : Nat → Req) (z x y wd ht : Int) (w : World) (hp : xV w a n E) (hc : zAj w r z x y wd ht) (hr : zB0 z x y wd ht = true) (hn : n ≤ 8) :
  Calls Tryz.prog 66 #[.slice a n cap, .pointer (some ⟨r, 0, none⟩)] w fun e w' => ∃ v, e = .returned v ∧ zX w.heap.size w' v (zS (fun j => yI z x y wd ht (E j).z (E j).x (E j).y) E n) ∧ Bw w w' := by
 obtain ⟨i0, hi, hz0, hz1, hz2⟩ := info_parts vS
 have hm : xJ z x y wd ht ≤ 1048576 := by have := zA7 z x y wd ht; omega
 have HSN : Hid (∀ (e : Req) (W : World), zAj W r z x y wd ht → Calls Tryz.prog 91 #[.pointer (some ⟨r, 0, none⟩), xK e.z e.x e.y] W fun q w' => q = .returned (.bool (yI z x y wd ht e.z e.x e.y)) ∧ Bw W w') := fun e W h => zIu r _ _ e.z e.x e.y W hm (fun W' hW => zD2 r W' (h.up hW) hr)
 have HP : Hid (xV w a n E) := hp
 have HC : Hid (zAj w r z x y wd ht) := hc
 clear hp hc hr hm
 go_enter Tryz.func66, Tryz.ntmps66
 go_wp2_with fail
 generalize hW : (w.alloc _ : World) = W
 have HB0 : Hid (Bw w W) := by show Below _ _ _; subst hW; exact Qb
 have HR0 : Hid (zX w.heap.size W (.slice (some ⟨w.heap.size, 0, none⟩) 0 0) []) := by
  show World.ownsRow _ _ _ _ _ _ _
  subst hW
  exact World.ownsRow_lit (base := w.heap.size) (size := 5) w #[] 0 (Nat.le_refl _) (Nat.zero_le _) rfl
 clear hW
 go_loopw [5, 6] (fun v i wr => ∃ (k : Nat) (va : Option Addr) (vc : Nat), k ≤ n ∧ i = .int .i64 (k : Int) ∧ v = .slice va (zS (fun j => yI z x y wd ht (E j).z (E j).x (E j).y) E k).length vc ∧ zX w.heap.size wr v (zS (fun j => yI z x y wd ht (E j).z (E j).x (E j).y) E k) ∧ Bw w wr) (fun _ i _ => n - (intOf i).toNat)
 case atStart => exact ⟨0, _, _, by omega, rfl, rfl, HR0.out, HB0.out⟩
 case round =>
  obtain ⟨k, va, vc, hk, rfl, rfl, hR, hB⟩ := hrel
  have HRr : Hid (zX w.heap.size wr (.slice va (zS (fun j => yI z x y wd ht (E j).z (E j).x (E j).y) E k).length vc) (zS (fun j => yI z x y wd ht (E j).z (E j).x (E j).y) E k)) := hR
  have HBr : Hid (Bw w wr) := hB
  by_cases hlt : k < n
  ·rcases HP.out with h0 | ⟨b, off, rfl, hbl, hpt⟩
   ·omega
   obtain ⟨q0, q1, q2, q3, q4⟩ := (hpt.below hB hbl) k hlt
   have hi' : (k : Int) < (n : Int) := by omega
   have hi0 : (0 : Int) ≤ (k : Int) := by omega
   have HLT : Hid (k < n) := hlt
   have HPT : Hid (vG w b off n E) := hpt
   have hle := zAz (fun j => yI z x y wd ht (E j).z (E j).x (E j).y) E k
   clear hR hB hpt
   go_wp2_with fail
   refine (HSN.out (E k) _ (HC.out.up HBr.out)).mono ?_
   rintro e w2 ⟨rfl, hb2⟩
   have HB2 : Hid (Bw w w2) := zB HBr.out hb2
   have HR2 : Hid (zX w.heap.size w2 (.slice va (zS (fun j => yI z x y wd ht (E j).z (E j).x (E j).y) E k).length vc) (zS (fun j => yI z x y wd ht (E j).z (E j).x (E j).y) E k)) := HRr.out.below hb2
   obtain ⟨p0, p1, p2, p3, p4⟩ := (HPT.out.below HB2.out hbl) k hlt
   clear hb2 q0 q1 q2 q3 q4 HRr HBr
   cases hS : yI z x y wd ht (E k).z (E k).x (E k).y
   ·have HK : Hid (zS (fun j => yI z x y wd ht (E j).z (E j).x (E j).y) E (k + 1) = zS (fun j => yI z x y wd ht (E j).z (E j).x (E j).y) E k) := zH3 hS
    clear hS
    generalize zS (fun j => yI z x y wd ht (E j).z (E j).x (E j).y) E k = KL at *
    go_wp2_with fail
    go_roundw
    case rel => exact ⟨k + 1, va, vc, by have := HLT.out; omega, by go_num, by rw [HK.out], by rw [HK.out]; exact HR2.out, HB2.out⟩
    case measure => have := HLT.out; simp [intOf]; omega
   ·have HK : Hid (zS (fun j => yI z x y wd ht (E j).z (E j).x (E j).y) E (k + 1) = zS (fun j => yI z x y wd ht (E j).z (E j).x (E j).y) E k ++ [E k]) := zF2 hS
    clear hS
    generalize zS (fun j => yI z x y wd ht (E j).z (E j).x (E j).y) E k = KL at *
    have HSZ : Hid (w.heap.size ≤ w2.heap.size) := HB2.out.size
    go_wp2_with (first
     | (at_builtin; go_must (refine wpList_append_own _ rfl _ _ 29 rfl w.heap.size 134 i0 (.agg #[.int .i64 0, .int .i64 0, .int .i64 0, .int .i64 0, .int .i64 0]) 5 40 Tryz.underlying29 hi hz0 hz1 hz2 rfl (by decide) (.slice va KL.length vc) KL.length (zV KL) rfl ?r0 ⟨w2.heap.size, 0, none⟩ 1 1 (yJ (E k)) rfl rfl ?r1 ?r2 ?r3 ?r4 ?r5 ?_)))
    case r0 => exact World.ownsRow.alloc HR2.out _
    case r1 => exact zCn _ _ _
    case r2 => exact zZ _
    case r3 => unfold maxLen; omega
    case r4 => omega
    case r5 => have := HSZ.out; simp; omega
    intro v6 w6 hown6 hg6 hnil6
    have hR6 : zX w.heap.size w6 v6 (KL ++ [E k]) := by unfold zX; rw [yM, yG, List.length_append]; exact hown6
    have hbA : Bw w2 (w2.alloc (.cells #[.int .i64 (E k).z, .int .i64 (E k).x, .int .i64 (E k).y, .int .i64 (E k).du, .int .i64 (E k).tr] 134)) := by exact Qb
    have hb6 : Below w.heap.size (w2.alloc (.cells #[.int .i64 (E k).z, .int .i64 (E k).x, .int .i64 (E k).y, .int .i64 (E k).du, .int .i64 (E k).tr] 134)) w6 := yN hg6 (fun p hp => HR2.out.block p hp) (by have := HSZ.out; simp; omega)
    obtain ⟨va6, vc6, hv6⟩ := hR6.slice
    subst hv6
    have HR6 : Hid (zX w.heap.size w6 (.slice va6 (KL ++ [E k]).length vc6) (KL ++ [E k])) := hR6
    have HB6 : Hid (Bw w w6) := (zB HB2.out hbA).trans hb6
    clear hown6 hg6 hnil6 hR6 hbA hb6 p0 p1 p2 p3 p4
    obtain ⟨SL, hSL⟩ : ∃ SL, (KL ++ [E k]).length = SL := ⟨_, rfl⟩
    have HSL : Hid ((KL ++ [E k]).length = SL) := hSL
    rw [hSL] at HR6 ⊢
    clear hSL
    go_wp2_with fail
    go_roundw
    case rel => exact ⟨k + 1, va6, vc6, by have := HLT.out; omega, by go_num, by rw [HK.out, HSL.out], by rw [HK.out]; exact HR6.out, HB6.out⟩
    case measure => have := HLT.out; simp [intOf]; omega
  ·obtain rfl : n = k := by omega
   go_wp2_with fail
   go_ret
   exact ⟨_, rfl, HRr.out, HBr.out⟩


theorem zBk {G G':Nat→Bool}:∀ n,(∀ j,j<n→G j=G' j)→xI G n=xI G' n
 | 0,_=>rfl
 | n+1,h=>by rw [xI,xI,zBk n (fun j hj=>h j (by omega)),h n (by omega)]
section
variable {n:Nat} {E:Nat→Req} {z x y now:Int}
end
section
variable {n:Nat} {E:Nat→Req} {z x y now:Int}
end
end Go.Proofs.YtpaiholildedcaaGreat
