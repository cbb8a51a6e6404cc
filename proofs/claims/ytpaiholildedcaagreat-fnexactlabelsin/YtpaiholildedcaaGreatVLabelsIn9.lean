/- Texts. -/
import Derived.Test.YtpaiholildedcaaGreatVLabelsIn4
import Derived.Test.YtpaiholildedcaaGreatVLabelsIn6
set_option linter.unusedSimpArgs false
set_option linter.unusedVariables false
set_option maxRecDepth 100000
set_option maxHeartbeats 32000000
namespace Go.Proofs.YtpaiholildedcaaGreat
open Go.RowKit
abbrev kP : Value := .iface 348 (.agg #[])
abbrev kL : Value := .iface 349 (.agg #[])
abbrev kA : Value := .iface 350 (.agg #[])
theorem zDg (w : World) : Calls Tryz.prog 291 #[] w fun e w' => e = .returned (.slice (some ⟨w.heap.size, 0, none⟩) 3 3) ∧ w' = w.alloc (.cells #[kP, kL, kA] 325) := by
 go_enter Tryz.func291, Tryz.ntmps291
 go_wp2
 go_ret
 exact ⟨rfl, rfl⟩
theorem numP (w : World) : (method 487 348 (.agg #[]) "loop.example/g00403/impl.number").run Tryz.prog w = .ok (327, .agg #[]) w := by kernel_rfl
theorem zBk (w : World) : Calls Tryz.prog 327 #[.agg #[]] w fun e w' => e = .returned (.int .i64 1) ∧ Bw w w' := by
 go_enter Tryz.func327, Tryz.ntmps327
 go_wp2
 go_ret
 exact ⟨rfl, by (repeat (first|exact Qr _ _|assumption|refine Qd ?_|refine Qa ?_ _|refine Qt ?_|refine Qs ?_ _|refine Qo ?_ ?_ _ _))⟩
theorem numL (w : World) : (method 487 349 (.agg #[]) "loop.example/g00403/impl.number").run Tryz.prog w = .ok (328, .agg #[]) w := by kernel_rfl
theorem zCo (w : World) : Calls Tryz.prog 328 #[.agg #[]] w fun e w' => e = .returned (.int .i64 2) ∧ Bw w w' := by
 go_enter Tryz.func328, Tryz.ntmps328
 go_wp2
 go_ret
 exact ⟨rfl, by (repeat (first|exact Qr _ _|assumption|refine Qd ?_|refine Qa ?_ _|refine Qt ?_|refine Qs ?_ _|refine Qo ?_ ?_ _ _))⟩
theorem numA (w : World) : (method 487 350 (.agg #[]) "loop.example/g00403/impl.number").run Tryz.prog w = .ok (329, .agg #[]) w := by kernel_rfl
theorem zD2 (w : World) : Calls Tryz.prog 329 #[.agg #[]] w fun e w' => e = .returned (.int .i64 3) ∧ Bw w w' := by
 go_enter Tryz.func329, Tryz.ntmps329
 go_wp2
 go_ret
 exact ⟨rfl, by (repeat (first|exact Qr _ _|assumption|refine Qd ?_|refine Qa ?_ _|refine Qt ?_|refine Qs ?_ _|refine Qo ?_ ?_ _ _))⟩
theorem zSd (w : World) : Calls Tryz.prog 267 #[.int .i64 1] w fun e w' => e = .returned kP ∧ Bw w w' := by
 have h1 := numP
 have h2 := numL
 have h3 := numA
 go_enter Tryz.func267, Tryz.ntmps267
 go_wp2_with fail
 refine (zDg _).mono ?_
 rintro e W ⟨rfl, hW⟩
 have hB : Bw w W := by subst hW; exact Qb
 have c0 : ∀ W', Bw W W' → W'.cell? ⟨w.heap.size, 0, none⟩ = some kP := fun W' h => by
  rw [h.cell (by subst hW; simp)]; subst hW; simp [go_sem]
 have c1 : ∀ W', Bw W W' → W'.cell? ⟨w.heap.size, 1, none⟩ = some kL := fun W' h => by
  rw [h.cell (by subst hW; simp)]; subst hW; simp [go_sem]
 have c2 : ∀ W', Bw W W' → W'.cell? ⟨w.heap.size, 2, none⟩ = some kA := fun W' h => by
  rw [h.cell (by subst hW; simp)]; subst hW; simp [go_sem]
 clear hW
 have HB : Hid (Bw w W) := hB
 clear hB
 have hr : Bw W W := Below.refl _ _
 go_wp2
 refine wp_loop_rounds 4 ?_
 rw [rounds_succ]
 go_wp2_with fail
 refine (zBk _).mono ?_
 rintro e w0 ⟨rfl, hb0⟩
 have hB0 : Bw W w0 := by exact Qb
 go_wp2_with fail
 go_ret
 exact ⟨rfl, zA HB.out (by assumption)⟩
theorem zSc (w : World) : Calls Tryz.prog 267 #[.int .i64 2] w fun e w' => e = .returned kL ∧ Bw w w' := by
 have h1 := numP
 have h2 := numL
 have h3 := numA
 go_enter Tryz.func267, Tryz.ntmps267
 go_wp2_with fail
 refine (zDg _).mono ?_
 rintro e W ⟨rfl, hW⟩
 have hB : Bw w W := by subst hW; exact Qb
 have c0 : ∀ W', Bw W W' → W'.cell? ⟨w.heap.size, 0, none⟩ = some kP := fun W' h => by
  rw [h.cell (by subst hW; simp)]; subst hW; simp [go_sem]
 have c1 : ∀ W', Bw W W' → W'.cell? ⟨w.heap.size, 1, none⟩ = some kL := fun W' h => by
  rw [h.cell (by subst hW; simp)]; subst hW; simp [go_sem]
 have c2 : ∀ W', Bw W W' → W'.cell? ⟨w.heap.size, 2, none⟩ = some kA := fun W' h => by
  rw [h.cell (by subst hW; simp)]; subst hW; simp [go_sem]
 clear hW
 have HB : Hid (Bw w W) := hB
 clear hB
 have hr : Bw W W := Below.refl _ _
 go_wp2
 refine wp_loop_rounds 4 ?_
 rw [rounds_succ]
 go_wp2_with fail
 refine (zBk _).mono ?_
 rintro e w0 ⟨rfl, hb0⟩
 have hB0 : Bw W w0 := by exact Qb
 go_wp2_with fail
 rw [rounds_succ]
 go_wp2_with fail
 refine (zCo _).mono ?_
 rintro e w1 ⟨rfl, hb1⟩
 have hB1 : Bw W w1 := by exact Qb
 go_wp2_with fail
 go_ret
 exact ⟨rfl, zA HB.out (by assumption)⟩
theorem zSb (w : World) : Calls Tryz.prog 267 #[.int .i64 3] w fun e w' => e = .returned kA ∧ Bw w w' := by
 have h1 := numP
 have h2 := numL
 have h3 := numA
 go_enter Tryz.func267, Tryz.ntmps267
 go_wp2_with fail
 refine (zDg _).mono ?_
 rintro e W ⟨rfl, hW⟩
 have hB : Bw w W := by subst hW; exact Qb
 have c0 : ∀ W', Bw W W' → W'.cell? ⟨w.heap.size, 0, none⟩ = some kP := fun W' h => by
  rw [h.cell (by subst hW; simp)]; subst hW; simp [go_sem]
 have c1 : ∀ W', Bw W W' → W'.cell? ⟨w.heap.size, 1, none⟩ = some kL := fun W' h => by
  rw [h.cell (by subst hW; simp)]; subst hW; simp [go_sem]
 have c2 : ∀ W', Bw W W' → W'.cell? ⟨w.heap.size, 2, none⟩ = some kA := fun W' h => by
  rw [h.cell (by subst hW; simp)]; subst hW; simp [go_sem]
 clear hW
 have HB : Hid (Bw w W) := hB
 clear hB
 have hr : Bw W W := Below.refl _ _
 go_wp2
 refine wp_loop_rounds 4 ?_
 rw [rounds_succ]
 go_wp2_with fail
 refine (zBk _).mono ?_
 rintro e w0 ⟨rfl, hb0⟩
 have hB0 : Bw W w0 := by exact Qb
 go_wp2_with fail
 rw [rounds_succ]
 go_wp2_with fail
 refine (zCo _).mono ?_
 rintro e w1 ⟨rfl, hb1⟩
 have hB1 : Bw W w1 := by exact Qb
 go_wp2_with fail
 rw [rounds_succ]
 go_wp2_with fail
 refine (zD2 _).mono ?_
 rintro e w2 ⟨rfl, hb2⟩
 have hB2 : Bw W w2 := by exact Qb
 go_wp2_with fail
 go_ret
 exact ⟨rfl, zA HB.out (by assumption)⟩
theorem zP4 (ki : Int) (w : World) (k1 : ki ≠ 1) (k2 : ki ≠ 2) (k3 : ki ≠ 3) : Calls Tryz.prog 267 #[.int .i64 ki] w fun e w' => e = .returned .nilIface ∧ Bw w w' := by
 have h1 := numP
 have h2 := numL
 have h3 := numA
 have e1 : ((1 : Int) == ki) = false := by simp; omega
 have e2 : ((2 : Int) == ki) = false := by simp; omega
 have e3 : ((3 : Int) == ki) = false := by simp; omega
 go_enter Tryz.func267, Tryz.ntmps267
 go_wp2_with fail
 refine (zDg _).mono ?_
 rintro e W ⟨rfl, hW⟩
 have hB : Bw w W := by subst hW; exact Qb
 have c0 : ∀ W', Bw W W' → W'.cell? ⟨w.heap.size, 0, none⟩ = some kP := fun W' h => by
  rw [h.cell (by subst hW; simp)]; subst hW; simp [go_sem]
 have c1 : ∀ W', Bw W W' → W'.cell? ⟨w.heap.size, 1, none⟩ = some kL := fun W' h => by
  rw [h.cell (by subst hW; simp)]; subst hW; simp [go_sem]
 have c2 : ∀ W', Bw W W' → W'.cell? ⟨w.heap.size, 2, none⟩ = some kA := fun W' h => by
  rw [h.cell (by subst hW; simp)]; subst hW; simp [go_sem]
 clear hW
 have HB : Hid (Bw w W) := hB
 clear hB
 have hr : Bw W W := Below.refl _ _
 go_wp2
 refine wp_loop_rounds 4 ?_
 rw [rounds_succ]
 go_wp2_with fail
 refine (zBk _).mono ?_
 rintro e w0 ⟨rfl, hb0⟩
 have hB0 : Bw W w0 := by exact Qb
 go_wp2_with fail
 rw [rounds_succ]
 go_wp2_with fail
 refine (zCo _).mono ?_
 rintro e w1 ⟨rfl, hb1⟩
 have hB1 : Bw W w1 := by exact Qb
 go_wp2_with fail
 rw [rounds_succ]
 go_wp2_with fail
 refine (zD2 _).mono ?_
 rintro e w2 ⟨rfl, hb2⟩
 have hB2 : Bw W w2 := by exact Qb
 go_wp2_with fail
 rw [rounds_succ]
 go_wp2_with fail
 go_ret
 exact ⟨rfl, zA HB.out (by assumption)⟩
theorem asPP (w : World) : (Instr.typeAssert kP 325 348 true).run Tryz.prog w = .ok (.tuple #[.agg #[], .bool true]) w := by kernel_rfl
theorem asPL (w : World) : (Instr.typeAssert kP 325 349 true).run Tryz.prog w = .ok (.tuple #[.agg #[], .bool false]) w := by kernel_rfl
theorem asPA (w : World) : (Instr.typeAssert kP 325 350 true).run Tryz.prog w = .ok (.tuple #[.agg #[], .bool false]) w := by kernel_rfl
abbrev wordP : ByteArray := ⟨#[112, 111, 105, 110, 116]⟩
theorem zM3 (w : World) : Calls Tryz.prog 268 #[kP] w fun e w' => e = .returned (.tuple #[.string wordP, .int .i64 1]) ∧ Bw w w' := by
 have h1 := asPP
 have h2 := asPL
 have h3 := asPA
 go_enter Tryz.func268, Tryz.ntmps268
 go_wp2
 go_ret2
 exact ⟨rfl, by (repeat (first|exact Qr _ _|assumption|refine Qd ?_|refine Qa ?_ _|refine Qt ?_|refine Qs ?_ _|refine Qo ?_ ?_ _ _))⟩
theorem zAc (w : World) : Calls Tryz.prog 269 #[kP] w fun e w' => e = .returned (.int .i64 1) ∧ Bw w w' := by
 have h1 := numP
 have h2 := numL
 have h3 := numA
 go_enter Tryz.func269, Tryz.ntmps269
 go_wp2_with (first | (go_at_call 327; refine (zBk _).mono ?_; rintro e w' ⟨rfl, hb⟩) | (go_at_call 328; refine (zCo _).mono ?_; rintro e w' ⟨rfl, hb⟩) | (go_at_call 329; refine (zD2 _).mono ?_; rintro e w' ⟨rfl, hb⟩))
 go_ret
 exact ⟨rfl, by (repeat (first|exact Qr _ _|assumption|refine Qd ?_|refine Qa ?_ _|refine Qt ?_|refine Qs ?_ _|refine Qo ?_ ?_ _ _))⟩
theorem asLP (w : World) : (Instr.typeAssert kL 325 348 true).run Tryz.prog w = .ok (.tuple #[.agg #[], .bool false]) w := by kernel_rfl
theorem asLL (w : World) : (Instr.typeAssert kL 325 349 true).run Tryz.prog w = .ok (.tuple #[.agg #[], .bool true]) w := by kernel_rfl
theorem asLA (w : World) : (Instr.typeAssert kL 325 350 true).run Tryz.prog w = .ok (.tuple #[.agg #[], .bool false]) w := by kernel_rfl
abbrev wordL : ByteArray := ⟨#[108, 105, 110, 101]⟩
theorem zM2 (w : World) : Calls Tryz.prog 268 #[kL] w fun e w' => e = .returned (.tuple #[.string wordL, .int .i64 12]) ∧ Bw w w' := by
 have h1 := asLP
 have h2 := asLL
 have h3 := asLA
 go_enter Tryz.func268, Tryz.ntmps268
 go_wp2
 go_ret2
 exact ⟨rfl, by (repeat (first|exact Qr _ _|assumption|refine Qd ?_|refine Qa ?_ _|refine Qt ?_|refine Qs ?_ _|refine Qo ?_ ?_ _ _))⟩
theorem zAb (w : World) : Calls Tryz.prog 269 #[kL] w fun e w' => e = .returned (.int .i64 2) ∧ Bw w w' := by
 have h1 := numP
 have h2 := numL
 have h3 := numA
 go_enter Tryz.func269, Tryz.ntmps269
 go_wp2_with (first | (go_at_call 327; refine (zBk _).mono ?_; rintro e w' ⟨rfl, hb⟩) | (go_at_call 328; refine (zCo _).mono ?_; rintro e w' ⟨rfl, hb⟩) | (go_at_call 329; refine (zD2 _).mono ?_; rintro e w' ⟨rfl, hb⟩))
 go_ret
 exact ⟨rfl, by (repeat (first|exact Qr _ _|assumption|refine Qd ?_|refine Qa ?_ _|refine Qt ?_|refine Qs ?_ _|refine Qo ?_ ?_ _ _))⟩
theorem asAP (w : World) : (Instr.typeAssert kA 325 348 true).run Tryz.prog w = .ok (.tuple #[.agg #[], .bool false]) w := by kernel_rfl
theorem asAL (w : World) : (Instr.typeAssert kA 325 349 true).run Tryz.prog w = .ok (.tuple #[.agg #[], .bool false]) w := by kernel_rfl
theorem asAA (w : World) : (Instr.typeAssert kA 325 350 true).run Tryz.prog w = .ok (.tuple #[.agg #[], .bool true]) w := by kernel_rfl
abbrev wordA : ByteArray := ⟨#[97, 114, 101, 97]⟩
theorem zM1 (w : World) : Calls Tryz.prog 268 #[kA] w fun e w' => e = .returned (.tuple #[.string wordA, .int .i64 12]) ∧ Bw w w' := by
 have h1 := asAP
 have h2 := asAL
 have h3 := asAA
 go_enter Tryz.func268, Tryz.ntmps268
 go_wp2
 go_ret2
 exact ⟨rfl, by (repeat (first|exact Qr _ _|assumption|refine Qd ?_|refine Qa ?_ _|refine Qt ?_|refine Qs ?_ _|refine Qo ?_ ?_ _ _))⟩
theorem zAa (w : World) : Calls Tryz.prog 269 #[kA] w fun e w' => e = .returned (.int .i64 3) ∧ Bw w w' := by
 have h1 := numP
 have h2 := numL
 have h3 := numA
 go_enter Tryz.func269, Tryz.ntmps269
 go_wp2_with (first | (go_at_call 327; refine (zBk _).mono ?_; rintro e w' ⟨rfl, hb⟩) | (go_at_call 328; refine (zCo _).mono ?_; rintro e w' ⟨rfl, hb⟩) | (go_at_call 329; refine (zD2 _).mono ?_; rintro e w' ⟨rfl, hb⟩))
 go_ret
 exact ⟨rfl, by (repeat (first|exact Qr _ _|assumption|refine Qd ?_|refine Qa ?_ _|refine Qt ?_|refine Qs ?_ _|refine Qo ?_ ?_ _ _))⟩
def zDb (s:ByteArray)(i:Nat):Int:=if h:i<s.size then ((s[i]'h).toNat:Int) else 0
theorem zMm (s:ByteArray)(i:Nat)(h:i<s.size):zDb s i=((s[i]'h).toNat:Int):=by simp [zDb,h]
def zMo (s:ByteArray):Bool:=decide (∀ i,i<s.size→zK0 (zDb s i)=true)
def zH2 (s:ByteArray):Bool:=decide (s.size≤6) && zMo s
theorem zPz {s:ByteArray}(h:6<s.size):zH2 s=false:=by simp [zH2];omega
theorem zG8 {s:ByteArray}(k:Nat)(hk:k<s.size)(h:zK0 (zDb s k)=false):zH2 s=false:=by
 have:zMo s=false:=by
  unfold zMo
  rw [decide_eq_false]
  intro hc
  have:=hc k hk
  rw [h] at this;cases this
 simp [zH2,this]
theorem zL7 {s:ByteArray}(h:∀ i,i<s.size→zK0 (zDb s i)=true):zH2 s=decide (s.size≤6):=by
 have:zMo s=true:=decide_eq_true h
 simp [zH2,this]
theorem zBn (s:ByteArray)(w:World)(hs:s.size≤1048576):Calls Tryz.prog 271 #[.string s] w fun e w'=>e=.returned (.bool (zH2 s))∧Bw w w':=by
 by_cases h6:(6:Int)<s.size
 ·go_enter Tryz.func271,Tryz.ntmps271
  go_wp2
  go_ret
  exact ⟨zF (zPz (by omega)).symm,Qb⟩
 ·go_enter Tryz.func271,Tryz.ntmps271
  go_wp2
  go_loopw [9] (fun i wr=>∃ k:Nat,k≤s.size∧i=.int .i64 k∧(∀ j,j<k→zK0 (zDb s j)=true)∧Bw w wr) (fun i _=>s.size - (intOf i).toNat)
  case atStart=>exact ⟨0,by omega,rfl,by omega,Below.refl _ _⟩
  case round =>
   obtain ⟨k,hk,rfl,hA,hB⟩:=hrel
   by_cases hlt:k<s.size
   ·have hi:(k:Int)<(s.size:Int):=by omega
    have HA:Hid (∀ j,j<k→zK0 (zDb s j)=true):=hA
    have HB:Hid (Bw w wr):=hB
    have hbk:=(zMm s k hlt).symm
    clear hA hB
    go_wp2_with fail
    refine (zI8 _ _).mono ?_
    rintro e w' ⟨rfl,rfl⟩
    cases hl:zK0 (zDb s k)
    ·go_wp2
     go_ret
     exact ⟨zF (zG8 k hlt hl).symm,HB.out⟩
    ·have HL:Hid (zK0 (zDb s k)=true):=hl
     clear hl
     go_wp2
     go_roundw
     case rel=>exact ⟨k+1,by omega,by go_num,fun j hj=>by
       by_cases e:j=k
       ·rw [e];exact HL.out
       ·exact HA.out j (by omega),HB.out⟩
     case measure=>simp [intOf];omega
   ·go_wp2
    go_ret
    exact ⟨zF (by rw [zL7 (fun i hi=>hA i (by omega))];simp;omega),hB⟩
theorem zK5 (s:ByteArray)(w:World)(hs:s.size≤1048576):Calls Tryz.prog 254 #[.string s] w fun e w'=>e=.returned (.bool (zH2 s))∧Bw w w':=by
  go_enter Tryz.func254,Tryz.ntmps254
  go_wp2
  go_loopw [3] (fun i wr=>∃ k:Nat,k≤s.size∧i=.int .i64 k∧(∀ j,j<k→zK0 (zDb s j)=true)∧Bw w wr) (fun i _=>s.size - (intOf i).toNat)
  case atStart=>exact ⟨0,by omega,rfl,by omega,Below.refl _ _⟩
  case round =>
   obtain ⟨k,hk,rfl,hA,hB⟩:=hrel
   by_cases hlt:k<s.size
   ·have hi:(k:Int)<(s.size:Int):=by omega
    have HA:Hid (∀ j,j<k→zK0 (zDb s j)=true):=hA
    have HB:Hid (Bw w wr):=hB
    have hbk:=zMm s k hlt
    have HK:=(show Hid _ from hbk)
    clear hA hB hbk
    by_cases l1:((s[k]'hlt).toNat:Int)<97
    ·go_wp2
     go_ret
     exact ⟨zF (zG8 k hlt (by rw [HK.out];simp [zK0];omega)).symm,HB.out⟩
    ·have l1':decide (((s[k]'hlt).toNat:Int)<97)=false:=by simpa using l1
     by_cases l2:(122:Int)<((s[k]'hlt).toNat:Int)
     ·go_wp2
      go_ret
      exact ⟨zF (zG8 k hlt (by rw [HK.out];simp [zK0];omega)).symm,HB.out⟩
     ·have l2':decide ((122:Int)<((s[k]'hlt).toNat:Int))=false:=by simpa using l2
      have HL:Hid (zK0 (zDb s k)=true):=by show _=_;rw [HK.out];simp [zK0];omega
      go_wp2
      go_roundw
      case rel=>exact ⟨k+1,by omega,by go_num,fun j hj=>by
        by_cases e:j=k
        ·rw [e];exact HL.out
        ·exact HA.out j (by omega),HB.out⟩
      case measure=>simp [intOf];omega
   ·go_wp2
    go_ret
    exact ⟨zF (by rw [zL7 (fun i hi=>hA i (by omega))];simp <;> omega),hB⟩
theorem zCw (z x y:Int)(w:World):Calls Tryz.prog 212 #[.int .i64 z,.int .i64 x,.int .i64 y] w fun e w'=>e=.returned (zOc z x y)∧Bw w w':=by
 go_enter Tryz.func212,Tryz.ntmps212
 go_wp2_with fail
 generalize hW:(w.alloc _:World)=W
 have HB0:Hid (Bw w W):=by show Below _ _ _;subst hW;exact Qb
 have HT:Hid (zD W w.heap.size 3):=by
  show zD _ _ _
  subst hW
  exact there3 w (.int .i64 0) (.int .i64 0) (.int .i64 0) 268
 have hsz:w.heap.size<W.heap.size:=by subst hW;simp
 clear hW
 refine (vN _ _ _ _).mono ?_
 rintro e w1 ⟨rfl,hb1⟩
 have HT1:Hid (zD w1 w.heap.size 3):=HT.out.below hb1
 have HB1:Hid (Bw w w1):=zA HB0.out hb1
 have hsz1:w.heap.size<w1.heap.size:=Nat.lt_of_lt_of_le hsz hb1.size
 clear hb1 HT HB0
 cases h:uW z x y
 ·have hT':=HT1.out
  have t0:=hT'.cell 0 (by omega)
  have t1:=hT'.cell 1 (by omega)
  have t2:=hT'.cell 2 (by omega)
  have f0:=(hT' 0 (by omega)).2
  have f1:=(hT' 1 (by omega)).2
  have f2:=(hT' 2 (by omega)).2
  clear hT'
  go_wp2_with fail
  obtain ⟨q0,q1,q2⟩:=zO8 (a:=.int .i64 3) (b:=.int .i64 0) (c:=.int .i64 0) HT1.out
  refine bodyPost_ret (v:=.agg #[.int .i64 3,.int .i64 0,.int .i64 0]) (by simp [results,Tryz.results212,go_sem,q0,q1,q2]) rfl ⟨by simp [zOc,h],?_⟩
  have HB:=HB1.out
  exact Qb
 ·have hz:=vC h
  have hb:=zBj h
  have s1:=fun w=>vO z w
  have hv:zH6 z=.agg #[.int .i64 0,.int .i64 (yI z)]:=by simp [zH6,hz]
  simp only [hv] at s1
  have i1:∀ u w,(Instr.field 63 (.agg #[.int .i64 0,.int .i64 u]) 1).run Tryz.prog w=.ok (.int .i64 u) w:=fun _ _=>by kernel_rfl
  have hc:Hid (zOc z x y=.agg #[.int .i64 0,.int .i64 (zZ z x),.int .i64 (zZ z y)]):=by show _=_;simp [zOc,h]
  have hcx:zZ z x=(2 * x+1) * yI z:=rfl
  have hcy:zZ z y=(2 * y+1) * yI z:=rfl
  have hbd:yI z=128∨yI z=64∨yI z=32∨yI z=16:=by rcases zP hz with rfl | rfl | rfl | rfl <;> simp [yI]
  have hpb:=(xJ hz).2
  go_wp2_with fail
  refine (s1 _).mono ?_
  rintro e w2 ⟨rfl,hb2⟩
  generalize yI z=u at *
  generalize zAp z=m at *
  have hT':=HT1.out.below hb2
  have HT2:Hid (zD w2 w.heap.size 3):=hT'
  have t0:=hT'.cell 0 (by omega)
  have t1:=hT'.cell 1 (by omega)
  have t2:=hT'.cell 2 (by omega)
  have f0:=(hT' 0 (by omega)).2
  have f1:=(hT' 1 (by omega)).2
  have f2:=(hT' 2 (by omega)).2
  have HB2:Hid (Bw w w2):=zA HB1.out hb2
  have hsz2:w.heap.size<w2.heap.size:=Nat.lt_of_lt_of_le hsz1 hb2.size
  clear hT' hb2
  rcases hbd with rfl | rfl | rfl | rfl
  all_goals
   go_wp2_with fail
   obtain ⟨q0,q1,q2⟩:=zO8 (a:=.int .i64 0) (b:=.int .i64 (zZ z x)) (c:=.int .i64 (zZ z y)) HT2.out
   rw [hcx,hcy] at q0 q1 q2
   refine bodyPost_ret (v:=.agg #[.int .i64 0,.int .i64 (zZ z x),.int .i64 (zZ z y)]) (by simp [results,Tryz.results212,go_sem,q0,q1,q2,hcx,hcy]) rfl ⟨by rw [hc.out],?_⟩
   have HB:=HB2.out
   exact Qb
abbrev pxV (a b:Int):Value:=.complex .f64 (flo a) (flo b)
theorem flo_1:flo 1=4607182418800017408:=by decide +kernel
theorem c_add {a b c d:Int}(h:(-(2 ^ 52)<a∧a<2 ^ 52)∧(-(2 ^ 52)<b∧b<2 ^ 52))(g:(-(2 ^ 52)<c∧c<2 ^ 52)∧(-(2 ^ 52)<d∧d<2 ^ 52)):cSumBits .add .f64 (flo a) (flo b) (flo c) (flo d)=some (flo (a+c),flo (b+d)):=by
 simp [cSumBits,zQh h.1.1 h.1.2 g.1.1 g.1.2,zQh h.2.1 h.2.2 g.2.1 g.2.2]
theorem c_sub {a b c d:Int}(h:(-(2 ^ 52)<a∧a<2 ^ 52)∧(-(2 ^ 52)<b∧b<2 ^ 52))(g:(-(2 ^ 52)<c∧c<2 ^ 52)∧(-(2 ^ 52)<d∧d<2 ^ 52)):cSumBits .sub .f64 (flo a) (flo b) (flo c) (flo d)=some (flo (a - c),flo (b - d)):=by
 simp [cSumBits,zQf h.1.1 h.1.2 g.1.1 g.1.2,zQf h.2.1 h.2.2 g.2.1 g.2.2]
theorem zM7 (t:TypeId){a b c d:Int}(w:World)(h:(-(2 ^ 52)<a∧a<2 ^ 52)∧(-(2 ^ 52)<b∧b<2 ^ 52))(g:(-(2 ^ 52)<c∧c<2 ^ 52)∧(-(2 ^ 52)<d∧d<2 ^ 52)):(binOp .add t (pxV a b) (pxV c d)).run Tryz.prog w=.ok (pxV (a+c) (b+d)) w :=
 run_complex_sum w .add (.inl rfl) t .f64 _ _ _ _ _ _ (c_add h g)
theorem zM6 (t:TypeId){a b c d:Int}(w:World)(h:(-(2 ^ 52)<a∧a<2 ^ 52)∧(-(2 ^ 52)<b∧b<2 ^ 52))(g:(-(2 ^ 52)<c∧c<2 ^ 52)∧(-(2 ^ 52)<d∧d<2 ^ 52)):(binOp .sub t (pxV a b) (pxV c d)).run Tryz.prog w=.ok (pxV (a - c) (b - d)) w :=
 run_complex_sum w .sub (.inr rfl) t .f64 _ _ _ _ _ _ (c_sub h g)
theorem zDz (x y:Int)(w:World):Calls Tryz.prog 175 #[.int .i64 x,.int .i64 y] w fun e w'=>e=.returned (pxV x y)∧w=w':=by
 go_enter Tryz.func175,Tryz.ntmps175
 go_wp2
 go_ret
 exact ⟨rfl,rfl⟩
theorem zPg (a b:Int)(w:World)(h0:-200≤a)(h1:a<800):Calls Tryz.prog 119 #[pxV a b] w fun e w'=>e=.returned (.int .i64 a)∧w=w':=by
 have hc:∀ w,(convert 225 2 (.float .f64 (flo a))).run Tryz.prog w=.ok (.int .i64 a) w:=fun w=>run_convert_float_int w 225 2 .f64 .i64 _ a (by kernel_rfl) (by kernel_rfl) (zQg h0 h1)
 go_enter Tryz.func119,Tryz.ntmps119
 go_wp2
 go_ret
 exact ⟨rfl,rfl⟩
theorem zPf (a b:Int)(w:World)(h0:-200≤b)(h1:b<800):Calls Tryz.prog 120 #[pxV a b] w fun e w'=>e=.returned (.int .i64 b)∧w=w':=by
 have hc:∀ w,(convert 225 2 (.float .f64 (flo b))).run Tryz.prog w=.ok (.int .i64 b) w:=fun w=>run_convert_float_int w 225 2 .f64 .i64 _ b (by kernel_rfl) (by kernel_rfl) (zQg h0 h1)
 go_enter Tryz.func120,Tryz.ntmps120
 go_wp2
 go_ret
 exact ⟨rfl,rfl⟩
abbrev zFq (z x y wd ht:Int):Value:=.agg #[.int .i64 z,.int .i64 x,.int .i64 y,.int .i64 wd,.int .i64 ht]
def zBy (z x y wd ht:Int):Bool:=(yH z && (inB wd 1 8 && inB ht 1 8)) && (inB x 0 (zAp z - wd) && inB y 0 (zAp z - ht))
def uJ (z x y wd ht:Int):Int:=if zBy z x y wd ht=true then 0 else 3
theorem vT {z x y wd ht:Int}(h:zBy z x y wd ht=true):yH z=true:=by simp [zBy] at h;exact h.1.1
theorem zAd {z x y wd ht:Int}(h:zBy z x y wd ht=true):((1≤wd∧wd≤8)∧(1≤ht∧ht≤8))∧((0≤x∧x≤zAp z - wd)∧(0≤y∧y≤zAp z - ht)):=by
 simp [zBy,inB] at h
 omega
theorem zOf (z x y wd ht:Int):(uJ z x y wd ht=0∧zBy z x y wd ht=true)∨(uJ z x y wd ht=3∧zBy z x y wd ht=false):=by
 unfold uJ
 cases h:zBy z x y wd ht <;> simp
theorem zGd (n:Int)(w:World):Calls Tryz.prog 116 #[.int .i64 n] w fun e w'=>e=.returned (.bool (inB n 1 8))∧w=w':=by
 go_enter Tryz.func116,Tryz.ntmps116
 go_wp2_with (go_at_call 62;refine (zM _ _ _ _).mono ?_;rintro e w' ⟨rfl,rfl⟩)
 go_ret
 exact ⟨rfl,rfl⟩
theorem zC7 (z x y wd ht:Int)(w:World):Calls Tryz.prog 131 #[zFq z x y wd ht] w fun e w'=>e=.returned (pxV x y)∧Bw w w':=by
 go_enter Tryz.func131,Tryz.ntmps131
 go_wp2_with (go_at_call 175;refine (zDz _ _ _).mono ?_;rintro e w' ⟨rfl,rfl⟩)
 go_ret
 exact ⟨rfl,Qb⟩
theorem zLu (z x y wd ht:Int)(w:World):Calls Tryz.prog 167 #[zFq z x y wd ht] w fun e w'=>e=.returned (pxV wd ht)∧Bw w w':=by
 go_enter Tryz.func167,Tryz.ntmps167
 go_wp2_with (go_at_call 175;refine (zDz _ _ _).mono ?_;rintro e w' ⟨rfl,rfl⟩)
 go_ret
 exact ⟨rfl,Qb⟩
theorem zE0 (z x y wd ht:Int)(w:World)(hx:0≤x∧x≤64)(hy:0≤y∧y≤64)(hw:1≤wd∧wd≤8)(hh:1≤ht∧ht≤8):Calls Tryz.prog 118 #[zFq z x y wd ht] w fun e w'=>e=.returned (pxV (x+wd - 1) (y+ht - 1))∧Bw w w':=by
 have s1:=fun t w=>zM7 t (a:=x) (b:=y) (c:=wd) (d:=ht) w (by omega) (by omega)
 have s2:∀ t w,(binOp .sub t (pxV (x+wd) (y+ht)) (.complex .f64 4607182418800017408 4607182418800017408)).run Tryz.prog w=.ok (pxV (x+wd - 1) (y+ht - 1)) w:=fun t w=>by
  rw [← flo_1]
  exact zM6 t (a:=x+wd) (b:=y+ht) (c:=1) (d:=1) w (by omega) (by omega)
 clear hx hy hw hh
 go_enter Tryz.func118,Tryz.ntmps118
 go_wp2_with fail
 generalize hW:(w.alloc _:World)=W
 have HB0:Hid (Bw w W):=by show Below _ _ _;subst hW;exact Qb
 have c00:∀ W',Bw W W'→W'.cell? ⟨w.heap.size,0,none⟩=some (.int .i64 z):=Qc hW
 have c01:∀ W',Bw W W'→W'.cell? ⟨w.heap.size,1,none⟩=some (.int .i64 x):=Qc hW
 have c02:∀ W',Bw W W'→W'.cell? ⟨w.heap.size,2,none⟩=some (.int .i64 y):=Qc hW
 have c03:∀ W',Bw W W'→W'.cell? ⟨w.heap.size,3,none⟩=some (.int .i64 wd):=Qc hW
 have c04:∀ W',Bw W W'→W'.cell? ⟨w.heap.size,4,none⟩=some (.int .i64 ht):=Qc hW
 clear hW
 have hr:Bw W W:=Below.refl _ _
 go_region_held3 (fun W'=>Bw W W') ((repeat (first|exact Qr _ _|assumption|refine Qd ?_|refine Qa ?_ _|refine Qt ?_|refine Qs ?_ _|refine Qo ?_ ?_ _ _)))
  (first
   | (go_at_call 131;refine (zC7 _ _ _ _ _ _).mono ?_;rintro e w1 ⟨rfl,hb⟩)
   | (go_at_call 167;refine (zLu _ _ _ _ _ _).mono ?_;rintro e w1 ⟨rfl,hb⟩)
   | fail)
 go_wp2
 go_ret
 exact ⟨rfl,zA HB0.out (by assumption)⟩
theorem zA4 (z x y wd ht:Int)(w:World):Calls Tryz.prog 72 #[zFq z x y wd ht] w fun e w'=>e=.returned (.int .i64 (uJ z x y wd ht))∧Bw w w':=by
 cases hv:(inB wd 1 8 && inB ht 1 8 && uW z x y)
 ·have hk:Hid (uJ z x y wd ht=3):=by
   show _=_
   unfold uJ
   rw [if_neg]
   intro hc
   have h1:=vT hc
   have h2:=zAd hc
   have h3:=xJ h1
   have:(inB wd 1 8 && inB ht 1 8 && uW z x y)=true:=by
    simp [uW,inB,h1]
    omega
   rw [this] at hv
   cases hv
  cases h1:inB wd 1 8 <;> cases h2:inB ht 1 8 <;> cases h3:uW z x y
  all_goals first | (rw [h1,h2,h3] at hv;cases hv;done) | skip
  all_goals
   clear hv
   go_enter Tryz.func72,Tryz.ntmps72
   go_wp2_with (first
    | (go_at_call 116;refine (zGd _ _).mono ?_;rintro e w' ⟨rfl,rfl⟩)
    | (go_at_call 117;refine (vN _ _ _ _).mono ?_;rintro e w' ⟨rfl,hb⟩))
   all_goals (go_ret;exact ⟨zE hk.out.symm,Qb⟩)
 ·simp only [Bool.and_eq_true] at hv
  obtain ⟨⟨h1,h2⟩,h3⟩:=hv
  have hz:=vC h3
  have hp:=zBj h3
  have hn:=xJ hz
  have hw:1≤wd∧wd≤8:=by simpa [inB] using h1
  have hh:1≤ht∧ht≤8:=by simpa [inB] using h2
  have hk:Hid (uJ z x y wd ht=if uW z (x+wd - 1) (y+ht - 1)=true then 0 else 3):=by
   show _=_
   unfold uJ
   have:zBy z x y wd ht=uW z (x+wd - 1) (y+ht - 1):=by
    rw [Bool.eq_iff_iff]
    simp [zBy,uW,inB,hz]
    omega
   rw [this]
  have sL:=fun w=>zE0 z x y wd ht w (by omega) (by omega) hw hh
  have sX:=fun w=>zPg (x+wd - 1) (y+ht - 1) w (by omega) (by omega)
  have sY:=fun w=>zPf (x+wd - 1) (y+ht - 1) w (by omega) (by omega)
  have sP:=fun w=>vN z (x+wd - 1) (y+ht - 1) w
  clear hp hn hw hh hz
  generalize x+wd - 1=lx at *
  generalize y+ht - 1=ly at *
  go_enter Tryz.func72,Tryz.ntmps72
  go_wp2_with fail
  generalize hW:(w.alloc _:World)=W
  have HB0:Hid (Bw w W):=by show Below _ _ _;subst hW;exact Qb
  have c00:∀ W',Bw W W'→W'.cell? ⟨w.heap.size,0,none⟩=some (.int .i64 z):=Qc hW
  have c01:∀ W',Bw W W'→W'.cell? ⟨w.heap.size,1,none⟩=some (.int .i64 x):=Qc hW
  have c02:∀ W',Bw W W'→W'.cell? ⟨w.heap.size,2,none⟩=some (.int .i64 y):=Qc hW
  have c03:∀ W',Bw W W'→W'.cell? ⟨w.heap.size,3,none⟩=some (.int .i64 wd):=Qc hW
  have c04:∀ W',Bw W W'→W'.cell? ⟨w.heap.size,4,none⟩=some (.int .i64 ht):=Qc hW
  clear hW
  have hr:Bw W W:=Below.refl _ _
  go_wp2_with (first
   | (go_at_call 116;refine (zGd _ _).mono ?_;rintro e w' ⟨rfl,rfl⟩)
   | fail)
  refine (vN z x y _).mono ?_
  rintro e w1 ⟨rfl,hb1⟩
  go_wp2_with fail
  refine (sL _).mono ?_
  rintro e w2 ⟨rfl,hb2⟩
  have hB2:Bw W w2:=zA hb1 hb2
  clear hb1 hb2
  go_wp2_with fail
  cases hq:uW z lx ly
  all_goals
   rw [hq] at sP hk
   go_region_held3 (fun W'=>Bw W W') ((repeat (first|exact Qr _ _|assumption|refine Qd ?_|refine Qa ?_ _|refine Qt ?_|refine Qs ?_ _|refine Qo ?_ ?_ _ _)))
    (first
     | (go_at_call 119;refine (sX _).mono ?_;rintro e w3 ⟨rfl,rfl⟩)
     | (go_at_call 120;refine (sY _).mono ?_;rintro e w3 ⟨rfl,rfl⟩)
     | (go_at_call 117;refine (sP _).mono ?_;rintro e w3 ⟨rfl,hb⟩)
     | fail)
   go_wp2
   go_ret
   exact ⟨zE (by rw [hk.out];rfl),zA HB0.out (by assumption)⟩
theorem zIc (z x y wd ht:Int)(w:World):Calls Tryz.prog 8 #[zFq z x y wd ht] w fun e w'=>e=.returned (zFq z x y wd ht)∧Bw w w':=by
 go_enter Tryz.func8,Tryz.ntmps8
 go_wp2
 exact bodyPost_ret (v:=zFq z x y wd ht) (by simp [results,Tryz.results8,go_sem]) rfl ⟨rfl,Qb⟩
theorem zJo (z x y wd ht:Int)(w:World):Calls Tryz.prog 49 #[zFq z x y wd ht,zFq z x y wd ht] w fun e w'=>e=.returned (.bool true)∧Bw w w':=by
 go_enter Tryz.func49,Tryz.ntmps49
 go_wp2
 go_ret
 exact ⟨rfl,Qb⟩

def zAo (w:World)(b:Nat)(z x y wd ht:Int):Prop:=w.cell? ⟨b,0,none⟩=some (.int .i64 z)∧w.cell? ⟨b,1,none⟩=some (.int .i64 x)∧w.cell? ⟨b,2,none⟩=some (.int .i64 y)∧w.cell? ⟨b,3,none⟩=some (.int .i64 wd)∧w.cell? ⟨b,4,none⟩=some (.int .i64 ht)
theorem l1In_q (v lo hi:Int)(w:World):Calls Tryz.prog 32 #[.int .i64 v,.int .i64 lo,.int .i64 hi] w fun e w'=>e=.returned (.bool (inB v lo hi))∧∃ n,w'=w.drewN n :=
 (zO v lo hi w).mono fun e w' ⟨h1,h2⟩=>⟨h1,0,h2⟩
theorem zK4 (b:Nat)(z x y wd ht:Int)(w:World)(h:zAo w b z x y wd ht):Calls Tryz.prog 30 #[.pointer (some ⟨b,0,none⟩)] w fun e w'=>e=.returned (.int .i64 (uJ z x y wd ht))∧Bw w w':=by
 obtain ⟨e0,e1,e2,e3,e4⟩:=h
 have hk:Hid (uJ z x y wd ht=if zBy z x y wd ht=true then 0 else 3):=rfl
 have hb:Hid (zBy z x y wd ht=((yH z && (inB wd 1 8 && inB ht 1 8)) && (inB x 0 (zAp z - wd) && inB y 0 (zAp z - ht)))):=rfl
 cases h1:yH z <;> cases h2:inB wd 1 8 <;> cases h3:inB ht 1 8
 case true.true.true =>
  rw [h1,h2,h3] at hb
  have sN:=fun w=>zD9 z w h1
  have hn:=xJ h1
  have hw:1≤wd∧wd≤8:=by simpa [inB] using h2
  have hh:1≤ht∧ht≤8:=by simpa [inB] using h3
  generalize zAp z=u at *
  cases h4:inB x 0 (u - wd) <;> cases h5:inB y 0 (u - ht)
  all_goals
   rw [h4,h5] at hb
   rw [hb.out] at hk
   go_enter Tryz.func30,Tryz.ntmps30
   go_wp2_with (first
    | (go_at_call 64;refine (xT _ _).mono ?_;rintro e w1 ⟨rfl,rfl⟩)
    | (go_at_call 65;refine (sN _).mono ?_;rintro e w1 ⟨rfl,rfl⟩)
    | (go_at_call 32;refine (zO _ _ _ _).mono ?_;rintro e w1 ⟨rfl,rfl⟩))
   go_quiet (first | (go_at_call 32;exact Calls.quiet_of (l1In_q _ _ _ _)))
   go_wp2
   go_ret
   exact ⟨zE (by rw [hk.out];rfl),below_drewN (Below.refl _ _) _⟩
 all_goals
  rw [h1,h2,h3] at hb
  rw [hb.out] at hk
  go_enter Tryz.func30,Tryz.ntmps30
  go_wp2_with (first
   | (go_at_call 64;refine (xT _ _).mono ?_;rintro e w1 ⟨rfl,rfl⟩)
   | (go_at_call 32;refine (zO _ _ _ _).mono ?_;rintro e w1 ⟨rfl,rfl⟩))
  go_ret
  exact ⟨zE (by rw [hk.out];rfl),Qb⟩
end Go.Proofs.YtpaiholildedcaaGreat
