/- Texts. -/
import Derived.Test.YtpaiholildedcaaGreatVFrameOf4
import Derived.Test.YtpaiholildedcaaGreatVFrameOf6
import Derived.Test.YtpaiholildedcaaGreatVFrameOf2
import Derived.BigQuiet
set_option linter.unusedSimpArgs false
set_option linter.unusedVariables false
set_option maxRecDepth 100000
set_option maxHeartbeats 32000000
namespace Go.Proofs.YtpaiholildedcaaGreat
open Go.RowKit
abbrev kP : Value := .iface 348 (.agg #[])
abbrev kL : Value := .iface 349 (.agg #[])
abbrev kA : Value := .iface 350 (.agg #[])
theorem zCk (w : World) : Calls Tryz.prog 291 #[] w fun e w' => e = .returned (.slice (some ⟨w.heap.size, 0, none⟩) 3 3) ∧ w' = w.alloc (.cells #[kP, kL, kA] 325) := by
 go_enter Tryz.func291, Tryz.ntmps291
 go_wp2
 go_ret
 exact ⟨rfl, rfl⟩
theorem numP (w : World) : (method 487 348 (.agg #[]) "loop.example/g00403/impl.number").run Tryz.prog w = .ok (327, .agg #[]) w := by kernel_rfl
theorem zAr (w : World) : Calls Tryz.prog 327 #[.agg #[]] w fun e w' => e = .returned (.int .i64 1) ∧ Bw w w' := by
 go_enter Tryz.func327, Tryz.ntmps327
 go_wp2
 go_ret
 exact ⟨rfl, by (repeat (first|exact Qr _ _|assumption|refine Qd ?_|refine Qa ?_ _|refine Qt ?_|refine Qs ?_ _|refine Qo ?_ ?_ _ _))⟩
theorem numL (w : World) : (method 487 349 (.agg #[]) "loop.example/g00403/impl.number").run Tryz.prog w = .ok (328, .agg #[]) w := by kernel_rfl
theorem zBq (w : World) : Calls Tryz.prog 328 #[.agg #[]] w fun e w' => e = .returned (.int .i64 2) ∧ Bw w w' := by
 go_enter Tryz.func328, Tryz.ntmps328
 go_wp2
 go_ret
 exact ⟨rfl, by (repeat (first|exact Qr _ _|assumption|refine Qd ?_|refine Qa ?_ _|refine Qt ?_|refine Qs ?_ _|refine Qo ?_ ?_ _ _))⟩
theorem numA (w : World) : (method 487 350 (.agg #[]) "loop.example/g00403/impl.number").run Tryz.prog w = .ok (329, .agg #[]) w := by kernel_rfl
theorem zC5 (w : World) : Calls Tryz.prog 329 #[.agg #[]] w fun e w' => e = .returned (.int .i64 3) ∧ Bw w w' := by
 go_enter Tryz.func329, Tryz.ntmps329
 go_wp2
 go_ret
 exact ⟨rfl, by (repeat (first|exact Qr _ _|assumption|refine Qd ?_|refine Qa ?_ _|refine Qt ?_|refine Qs ?_ _|refine Qo ?_ ?_ _ _))⟩
theorem zPj (w : World) : Calls Tryz.prog 267 #[.int .i64 1] w fun e w' => e = .returned kP ∧ Bw w w' := by
 have h1 := numP
 have h2 := numL
 have h3 := numA
 go_enter Tryz.func267, Tryz.ntmps267
 go_wp2_with fail
 refine (zCk _).mono ?_
 rintro e W ⟨rfl, hW⟩
 have hB : Bw w W := by subst hW; exact Qb
 have c0 : ∀ W', Bw W W' → W'.cell? ⟨w.heap.size, 0, none⟩ = some kP := fun W' h => by
  rw [h.cell (by subst hW; simp)]; subst hW; simp [go_sem]
 have c1 : ∀ W', Bw W W' → W'.cell? ⟨w.heap.size, 1, none⟩ = some kL := fun W' h => by
  rw [h.cell (by subst hW; simp)]; subst hW; simp [go_sem]
 have c2 : ∀ W', Bw W W' → W'.cell? ⟨w.heap.size, 2, none⟩ = some kA := fun W' h => by
  rw [h.cell (by subst hW; simp)]; subst hW; simp [go_sem]
 clear hW
 have HB : Hid (Bw w W) := hB
 clear hB
 have hr : Bw W W := Below.refl _ _
 go_wp2
 refine wp_loop_rounds 4 ?_
 rw [rounds_succ]
 go_wp2_with fail
 refine (zAr _).mono ?_
 rintro e w0 ⟨rfl, hb0⟩
 have hB0 : Bw W w0 := by exact Qb
 go_wp2_with fail
 go_ret
 exact ⟨rfl, zA HB.out (by assumption)⟩
theorem zPi (w : World) : Calls Tryz.prog 267 #[.int .i64 2] w fun e w' => e = .returned kL ∧ Bw w w' := by
 have h1 := numP
 have h2 := numL
 have h3 := numA
 go_enter Tryz.func267, Tryz.ntmps267
 go_wp2_with fail
 refine (zCk _).mono ?_
 rintro e W ⟨rfl, hW⟩
 have hB : Bw w W := by subst hW; exact Qb
 have c0 : ∀ W', Bw W W' → W'.cell? ⟨w.heap.size, 0, none⟩ = some kP := fun W' h => by
  rw [h.cell (by subst hW; simp)]; subst hW; simp [go_sem]
 have c1 : ∀ W', Bw W W' → W'.cell? ⟨w.heap.size, 1, none⟩ = some kL := fun W' h => by
  rw [h.cell (by subst hW; simp)]; subst hW; simp [go_sem]
 have c2 : ∀ W', Bw W W' → W'.cell? ⟨w.heap.size, 2, none⟩ = some kA := fun W' h => by
  rw [h.cell (by subst hW; simp)]; subst hW; simp [go_sem]
 clear hW
 have HB : Hid (Bw w W) := hB
 clear hB
 have hr : Bw W W := Below.refl _ _
 go_wp2
 refine wp_loop_rounds 4 ?_
 rw [rounds_succ]
 go_wp2_with fail
 refine (zAr _).mono ?_
 rintro e w0 ⟨rfl, hb0⟩
 have hB0 : Bw W w0 := by exact Qb
 go_wp2_with fail
 rw [rounds_succ]
 go_wp2_with fail
 refine (zBq _).mono ?_
 rintro e w1 ⟨rfl, hb1⟩
 have hB1 : Bw W w1 := by exact Qb
 go_wp2_with fail
 go_ret
 exact ⟨rfl, zA HB.out (by assumption)⟩
theorem zPh (w : World) : Calls Tryz.prog 267 #[.int .i64 3] w fun e w' => e = .returned kA ∧ Bw w w' := by
 have h1 := numP
 have h2 := numL
 have h3 := numA
 go_enter Tryz.func267, Tryz.ntmps267
 go_wp2_with fail
 refine (zCk _).mono ?_
 rintro e W ⟨rfl, hW⟩
 have hB : Bw w W := by subst hW; exact Qb
 have c0 : ∀ W', Bw W W' → W'.cell? ⟨w.heap.size, 0, none⟩ = some kP := fun W' h => by
  rw [h.cell (by subst hW; simp)]; subst hW; simp [go_sem]
 have c1 : ∀ W', Bw W W' → W'.cell? ⟨w.heap.size, 1, none⟩ = some kL := fun W' h => by
  rw [h.cell (by subst hW; simp)]; subst hW; simp [go_sem]
 have c2 : ∀ W', Bw W W' → W'.cell? ⟨w.heap.size, 2, none⟩ = some kA := fun W' h => by
  rw [h.cell (by subst hW; simp)]; subst hW; simp [go_sem]
 clear hW
 have HB : Hid (Bw w W) := hB
 clear hB
 have hr : Bw W W := Below.refl _ _
 go_wp2
 refine wp_loop_rounds 4 ?_
 rw [rounds_succ]
 go_wp2_with fail
 refine (zAr _).mono ?_
 rintro e w0 ⟨rfl, hb0⟩
 have hB0 : Bw W w0 := by exact Qb
 go_wp2_with fail
 rw [rounds_succ]
 go_wp2_with fail
 refine (zBq _).mono ?_
 rintro e w1 ⟨rfl, hb1⟩
 have hB1 : Bw W w1 := by exact Qb
 go_wp2_with fail
 rw [rounds_succ]
 go_wp2_with fail
 refine (zC5 _).mono ?_
 rintro e w2 ⟨rfl, hb2⟩
 have hB2 : Bw W w2 := by exact Qb
 go_wp2_with fail
 go_ret
 exact ⟨rfl, zA HB.out (by assumption)⟩
theorem zNp (ki : Int) (w : World) (k1 : ki ≠ 1) (k2 : ki ≠ 2) (k3 : ki ≠ 3) : Calls Tryz.prog 267 #[.int .i64 ki] w fun e w' => e = .returned .nilIface ∧ Bw w w' := by
 have h1 := numP
 have h2 := numL
 have h3 := numA
 have e1 : ((1 : Int) == ki) = false := by simp; omega
 have e2 : ((2 : Int) == ki) = false := by simp; omega
 have e3 : ((3 : Int) == ki) = false := by simp; omega
 go_enter Tryz.func267, Tryz.ntmps267
 go_wp2_with fail
 refine (zCk _).mono ?_
 rintro e W ⟨rfl, hW⟩
 have hB : Bw w W := by subst hW; exact Qb
 have c0 : ∀ W', Bw W W' → W'.cell? ⟨w.heap.size, 0, none⟩ = some kP := fun W' h => by
  rw [h.cell (by subst hW; simp)]; subst hW; simp [go_sem]
 have c1 : ∀ W', Bw W W' → W'.cell? ⟨w.heap.size, 1, none⟩ = some kL := fun W' h => by
  rw [h.cell (by subst hW; simp)]; subst hW; simp [go_sem]
 have c2 : ∀ W', Bw W W' → W'.cell? ⟨w.heap.size, 2, none⟩ = some kA := fun W' h => by
  rw [h.cell (by subst hW; simp)]; subst hW; simp [go_sem]
 clear hW
 have HB : Hid (Bw w W) := hB
 clear hB
 have hr : Bw W W := Below.refl _ _
 go_wp2
 refine wp_loop_rounds 4 ?_
 rw [rounds_succ]
 go_wp2_with fail
 refine (zAr _).mono ?_
 rintro e w0 ⟨rfl, hb0⟩
 have hB0 : Bw W w0 := by exact Qb
 go_wp2_with fail
 rw [rounds_succ]
 go_wp2_with fail
 refine (zBq _).mono ?_
 rintro e w1 ⟨rfl, hb1⟩
 have hB1 : Bw W w1 := by exact Qb
 go_wp2_with fail
 rw [rounds_succ]
 go_wp2_with fail
 refine (zC5 _).mono ?_
 rintro e w2 ⟨rfl, hb2⟩
 have hB2 : Bw W w2 := by exact Qb
 go_wp2_with fail
 rw [rounds_succ]
 go_wp2_with fail
 go_ret
 exact ⟨rfl, zA HB.out (by assumption)⟩
theorem asPP (w : World) : (Instr.typeAssert kP 325 348 true).run Tryz.prog w = .ok (.tuple #[.agg #[], .bool true]) w := by kernel_rfl
theorem asPL (w : World) : (Instr.typeAssert kP 325 349 true).run Tryz.prog w = .ok (.tuple #[.agg #[], .bool false]) w := by kernel_rfl
theorem asPA (w : World) : (Instr.typeAssert kP 325 350 true).run Tryz.prog w = .ok (.tuple #[.agg #[], .bool false]) w := by kernel_rfl
abbrev wordP : ByteArray := ⟨#[112, 111, 105, 110, 116]⟩
theorem zKz (w : World) : Calls Tryz.prog 268 #[kP] w fun e w' => e = .returned (.tuple #[.string wordP, .int .i64 1]) ∧ Bw w w' := by
 have h1 := asPP
 have h2 := asPL
 have h3 := asPA
 go_enter Tryz.func268, Tryz.ntmps268
 go_wp2
 go_ret2
 exact ⟨rfl, by (repeat (first|exact Qr _ _|assumption|refine Qd ?_|refine Qa ?_ _|refine Qt ?_|refine Qs ?_ _|refine Qo ?_ ?_ _ _))⟩
theorem uJ (w : World) : Calls Tryz.prog 269 #[kP] w fun e w' => e = .returned (.int .i64 1) ∧ Bw w w' := by
 have h1 := numP
 have h2 := numL
 have h3 := numA
 go_enter Tryz.func269, Tryz.ntmps269
 go_wp2_with (first | (go_at_call 327; refine (zAr _).mono ?_; rintro e w' ⟨rfl, hb⟩) | (go_at_call 328; refine (zBq _).mono ?_; rintro e w' ⟨rfl, hb⟩) | (go_at_call 329; refine (zC5 _).mono ?_; rintro e w' ⟨rfl, hb⟩))
 go_ret
 exact ⟨rfl, by (repeat (first|exact Qr _ _|assumption|refine Qd ?_|refine Qa ?_ _|refine Qt ?_|refine Qs ?_ _|refine Qo ?_ ?_ _ _))⟩
theorem asLP (w : World) : (Instr.typeAssert kL 325 348 true).run Tryz.prog w = .ok (.tuple #[.agg #[], .bool false]) w := by kernel_rfl
theorem asLL (w : World) : (Instr.typeAssert kL 325 349 true).run Tryz.prog w = .ok (.tuple #[.agg #[], .bool true]) w := by kernel_rfl
theorem asLA (w : World) : (Instr.typeAssert kL 325 350 true).run Tryz.prog w = .ok (.tuple #[.agg #[], .bool false]) w := by kernel_rfl
abbrev wordL : ByteArray := ⟨#[108, 105, 110, 101]⟩
theorem zKy (w : World) : Calls Tryz.prog 268 #[kL] w fun e w' => e = .returned (.tuple #[.string wordL, .int .i64 12]) ∧ Bw w w' := by
 have h1 := asLP
 have h2 := asLL
 have h3 := asLA
 go_enter Tryz.func268, Tryz.ntmps268
 go_wp2
 go_ret2
 exact ⟨rfl, by (repeat (first|exact Qr _ _|assumption|refine Qd ?_|refine Qa ?_ _|refine Qt ?_|refine Qs ?_ _|refine Qo ?_ ?_ _ _))⟩
theorem uI (w : World) : Calls Tryz.prog 269 #[kL] w fun e w' => e = .returned (.int .i64 2) ∧ Bw w w' := by
 have h1 := numP
 have h2 := numL
 have h3 := numA
 go_enter Tryz.func269, Tryz.ntmps269
 go_wp2_with (first | (go_at_call 327; refine (zAr _).mono ?_; rintro e w' ⟨rfl, hb⟩) | (go_at_call 328; refine (zBq _).mono ?_; rintro e w' ⟨rfl, hb⟩) | (go_at_call 329; refine (zC5 _).mono ?_; rintro e w' ⟨rfl, hb⟩))
 go_ret
 exact ⟨rfl, by (repeat (first|exact Qr _ _|assumption|refine Qd ?_|refine Qa ?_ _|refine Qt ?_|refine Qs ?_ _|refine Qo ?_ ?_ _ _))⟩
theorem asAP (w : World) : (Instr.typeAssert kA 325 348 true).run Tryz.prog w = .ok (.tuple #[.agg #[], .bool false]) w := by kernel_rfl
theorem asAL (w : World) : (Instr.typeAssert kA 325 349 true).run Tryz.prog w = .ok (.tuple #[.agg #[], .bool false]) w := by kernel_rfl
theorem asAA (w : World) : (Instr.typeAssert kA 325 350 true).run Tryz.prog w = .ok (.tuple #[.agg #[], .bool true]) w := by kernel_rfl
abbrev wordA : ByteArray := ⟨#[97, 114, 101, 97]⟩
theorem zKx (w : World) : Calls Tryz.prog 268 #[kA] w fun e w' => e = .returned (.tuple #[.string wordA, .int .i64 12]) ∧ Bw w w' := by
 have h1 := asAP
 have h2 := asAL
 have h3 := asAA
 go_enter Tryz.func268, Tryz.ntmps268
 go_wp2
 go_ret2
 exact ⟨rfl, by (repeat (first|exact Qr _ _|assumption|refine Qd ?_|refine Qa ?_ _|refine Qt ?_|refine Qs ?_ _|refine Qo ?_ ?_ _ _))⟩
theorem uH (w : World) : Calls Tryz.prog 269 #[kA] w fun e w' => e = .returned (.int .i64 3) ∧ Bw w w' := by
 have h1 := numP
 have h2 := numL
 have h3 := numA
 go_enter Tryz.func269, Tryz.ntmps269
 go_wp2_with (first | (go_at_call 327; refine (zAr _).mono ?_; rintro e w' ⟨rfl, hb⟩) | (go_at_call 328; refine (zBq _).mono ?_; rintro e w' ⟨rfl, hb⟩) | (go_at_call 329; refine (zC5 _).mono ?_; rintro e w' ⟨rfl, hb⟩))
 go_ret
 exact ⟨rfl, by (repeat (first|exact Qr _ _|assumption|refine Qd ?_|refine Qa ?_ _|refine Qt ?_|refine Qs ?_ _|refine Qo ?_ ?_ _ _))⟩
def zCe (s:ByteArray)(i:Nat):Int:=if h:i<s.size then ((s[i]'h).toNat:Int) else 0
theorem zKj (s:ByteArray)(i:Nat)(h:i<s.size):zCe s i=((s[i]'h).toNat:Int):=by simp [zCe,h]
def zKl (s:ByteArray):Bool:=decide (∀ i,i<s.size→zIy (zCe s i)=true)
def zGd (s:ByteArray):Bool:=decide (s.size≤6) && zKl s
theorem zNl {s:ByteArray}(h:6<s.size):zGd s=false:=by simp [zGd];omega
theorem zFo {s:ByteArray}(k:Nat)(hk:k<s.size)(h:zIy (zCe s k)=false):zGd s=false:=by
 have:zKl s=false:=by
  unfold zKl
  rw [decide_eq_false]
  intro hc
  have:=hc k hk
  rw [h] at this;cases this
 simp [zGd,this]
theorem zJ6 {s:ByteArray}(h:∀ i,i<s.size→zIy (zCe s i)=true):zGd s=decide (s.size≤6):=by
 have:zKl s=true:=decide_eq_true h
 simp [zGd,this]
theorem zAv (s:ByteArray)(w:World)(hs:s.size≤1048576):Calls Tryz.prog 271 #[.string s] w fun e w'=>e=.returned (.bool (zGd s))∧Bw w w':=by
 by_cases h6:(6:Int)<s.size
 ·go_enter Tryz.func271,Tryz.ntmps271
  go_wp2
  go_ret
  exact ⟨zF (zNl (by omega)).symm,Qb⟩
 ·go_enter Tryz.func271,Tryz.ntmps271
  go_wp2
  go_loopw [9] (fun i wr=>∃ k:Nat,k≤s.size∧i=.int .i64 k∧(∀ j,j<k→zIy (zCe s j)=true)∧Bw w wr) (fun i _=>s.size - (intOf i).toNat)
  case atStart=>exact ⟨0,by omega,rfl,by omega,Below.refl _ _⟩
  case round =>
   obtain ⟨k,hk,rfl,hA,hB⟩:=hrel
   by_cases hlt:k<s.size
   ·have hi:(k:Int)<(s.size:Int):=by omega
    have HA:Hid (∀ j,j<k→zIy (zCe s j)=true):=hA
    have HB:Hid (Bw w wr):=hB
    have hbk:=(zKj s k hlt).symm
    clear hA hB
    go_wp2_with fail
    refine (zHd _ _).mono ?_
    rintro e w' ⟨rfl,rfl⟩
    cases hl:zIy (zCe s k)
    ·go_wp2
     go_ret
     exact ⟨zF (zFo k hlt hl).symm,HB.out⟩
    ·have HL:Hid (zIy (zCe s k)=true):=hl
     clear hl
     go_wp2
     go_roundw
     case rel=>exact ⟨k+1,by omega,by go_num,fun j hj=>by
       by_cases e:j=k
       ·rw [e];exact HL.out
       ·exact HA.out j (by omega),HB.out⟩
     case measure=>simp [intOf];omega
   ·go_wp2
    go_ret
    exact ⟨zF (by rw [zJ6 (fun i hi=>hA i (by omega))];simp;omega),hB⟩
theorem zI3 (s:ByteArray)(w:World)(hs:s.size≤1048576):Calls Tryz.prog 254 #[.string s] w fun e w'=>e=.returned (.bool (zGd s))∧Bw w w':=by
  go_enter Tryz.func254,Tryz.ntmps254
  go_wp2
  go_loopw [3] (fun i wr=>∃ k:Nat,k≤s.size∧i=.int .i64 k∧(∀ j,j<k→zIy (zCe s j)=true)∧Bw w wr) (fun i _=>s.size - (intOf i).toNat)
  case atStart=>exact ⟨0,by omega,rfl,by omega,Below.refl _ _⟩
  case round =>
   obtain ⟨k,hk,rfl,hA,hB⟩:=hrel
   by_cases hlt:k<s.size
   ·have hi:(k:Int)<(s.size:Int):=by omega
    have HA:Hid (∀ j,j<k→zIy (zCe s j)=true):=hA
    have HB:Hid (Bw w wr):=hB
    have hbk:=zKj s k hlt
    have HK:=(show Hid _ from hbk)
    clear hA hB hbk
    by_cases l1:((s[k]'hlt).toNat:Int)<97
    ·go_wp2
     go_ret
     exact ⟨zF (zFo k hlt (by rw [HK.out];simp [zIy];omega)).symm,HB.out⟩
    ·have l1':decide (((s[k]'hlt).toNat:Int)<97)=false:=by simpa using l1
     by_cases l2:(122:Int)<((s[k]'hlt).toNat:Int)
     ·go_wp2
      go_ret
      exact ⟨zF (zFo k hlt (by rw [HK.out];simp [zIy];omega)).symm,HB.out⟩
     ·have l2':decide ((122:Int)<((s[k]'hlt).toNat:Int))=false:=by simpa using l2
      have HL:Hid (zIy (zCe s k)=true):=by show _=_;rw [HK.out];simp [zIy];omega
      go_wp2
      go_roundw
      case rel=>exact ⟨k+1,by omega,by go_num,fun j hj=>by
        by_cases e:j=k
        ·rw [e];exact HL.out
        ·exact HA.out j (by omega),HB.out⟩
      case measure=>simp [intOf];omega
   ·go_wp2
    go_ret
    exact ⟨zF (by rw [zJ6 (fun i hi=>hA i (by omega))];simp <;> omega),hB⟩
theorem zY {w w':World}{p:Addr}{v:Value}(hb:Below w.heap.size w w')(h:w.cell? p=some v):w'.cell? p=some v:=(hb.cell (World.block_lt_of_cell? _ _ h)).trans h
theorem yG {w w':World}{b o s:Nat}{v:Value}(hg:w.grownBy w' (some s))(h:w.cell? ⟨b,o,none⟩=some v)(hs:b≠s):w'.cell? ⟨b,o,none⟩=some v:=hg.cell h (fun e=>hs (by injection e))
theorem zBo {w w':World}{base size n:Nat}{e:TypeId}{v:Value}{xs:List Value}(h:w.ownsRow base e size v n xs)(hk:∀ g,v.ownBlock=some g→w'.heap[g]?=w.heap[g]?):w'.ownsRow base e size v n xs:=by
 obtain ⟨h1,h2 | ⟨g,cp,cur,hv,hg,hh,hr⟩⟩:=h
 ·exact ⟨h1,.inl h2⟩
 ·refine ⟨h1,.inr ⟨g,cp,cur,hv,hg,?_,hr⟩⟩
  rw [hk g (by rw [hv];rfl)]
  exact hh
theorem Row.no (base:Nat)(w:World):Row base w (.slice none 0 0) []:=World.ownsRow_nil _ _ _ _
theorem Row.at {base:Nat}{w:World}{v:Value}{l:List (Int × Int)}(h:Row base w v l)(hne:0<l.length) :
  ∃ g cap,v=.slice (some ⟨g,0,none⟩) l.length cap∧base≤g∧g<w.heap.size∧l.length≤cap∧zI w g 0 l.length (px l) (py l):=by
 obtain ⟨a,cap,hv,hc,h0 | ⟨b,rfl,hb,hl,hp,ht⟩⟩:=h.own
 ·omega
 ·exact ⟨b,cap,hv,hb,hl,hc,hp⟩
theorem zNs:(Tryz.prog.info? 215).map (fun i=>(i.zero,i.size,i.bytes))=some (some (.agg #[.int .i64 0,.int .i64 0]),2,16):=by kernel_rfl

def xA (X Y:Nat→Int)(n:Nat):List (Int × Int):=(List.range n).map fun i=>(2 * X i,2 * Y i)
theorem vK (X Y:Nat→Int)(n:Nat):(xA X Y n).length=n:=by simp [xA]
theorem zKb (X Y:Nat→Int)(k:Nat):xA X Y (k+1)=xA X Y k ++ [(2 * X k,2 * Y k)]:=by simp [xA,List.range_succ]
theorem dblL_px (X Y:Nat→Int)(n i:Nat)(h:i<n):px (xA X Y n) i=2 * X i∧py (xA X Y n) i=2 * Y i:=by
  simp [px,py,xA,List.getD_eq_getElem?_getD,h]
theorem zFs (b off n cap:Nat)(X Y:Nat→Int)(w:World)(hp:zI w b off n X Y)(hbl:b<w.heap.size)(hn:n≤40)(hin:∀ i,i<n→inW (X i) (Y i)=true) :
    Calls Tryz.prog 256 #[.slice (some ⟨b,off,none⟩) n cap] w fun e w'=>∃ v,e=.returned v∧Row w.heap.size w' v (xA X Y n)∧Bw w w':=by
  obtain ⟨i0,hi,hz0,hz1,hz2⟩:=info_parts zNs
  have HP:Hid (zI w b off n X Y):=hp
  have HIN:Hid (∀ i,i<n→inW (X i) (Y i)=true):=hin
  clear hp hin
  go_enter Tryz.func256,Tryz.ntmps256
  go_wp2_with fail
  generalize hW:(w.alloc _:World)=W
  have hB0:Bw w W:=by subst hW;exact Qb
  have hO0:W.ownsRow w.heap.size 215 2 (.slice (some ⟨w.heap.size,0,none⟩) 0 0) 0 []:=by
    subst hW
    exact World.ownsRow_lit (base:=w.heap.size) w #[] 0 (Nat.le_refl _) (Nat.zero_le _) rfl
  clear hW
  have HB0:Hid (Bw w W):=hB0
  have HO0:Hid (Row w.heap.size W (.slice (some ⟨w.heap.size,0,none⟩) 0 0) []):=hO0
  clear hB0 hO0
  go_loopw [3,4] (fun v i wr=>∃ k:Nat,k≤n∧i=.int .i64 (k:Int)∧Row w.heap.size wr v (xA X Y k)∧Bw w wr) (fun _ i _=>n - (intOf i).toNat)
  case atStart=>exact ⟨0,by omega,rfl,HO0.out,HB0.out⟩
  case round =>
    obtain ⟨k,hk,rfl,hO,hB⟩:=hrel
    by_cases hlt:k<n
    · obtain ⟨hx,hy⟩:=(HP.out.below hB hbl) k hlt
      obtain ⟨⟨x0,x1⟩,y0,y1⟩:=zNt (HIN.out k hlt)
      have HB:Hid (Bw w wr):=hB
      have HO:Hid (Row w.heap.size wr u3 (xA X Y k)):=hO
      have hbw:b<wr.heap.size:=Nat.lt_of_lt_of_le hbl hB.size
      have hszc:w.heap.size≤wr.heap.size:=hB.size
      have HLEN:Hid ((xA X Y k).length=k):=vK X Y k
      have HS:Hid (xA X Y (k+1)=xA X Y k ++ [(2 * X k,2 * Y k)]):=zKb X Y k
      clear hO hB
      have hi':(k:Int)<(n:Int):=by omega
      have wx:IntKind.i64.wrap (2 * X k)=2 * X k:=IntWalk.i64_in _ (by omega)
      have wy:IntKind.i64.wrap (2 * Y k)=2 * Y k:=IntWalk.i64_in _ (by omega)
      go_wp2_with fail
      go_region_law (refine xC rfl (.tmp 12) (.tmp 26) 207 rfl w.heap.size 215 i0 (.agg #[.int .i64 0,.int .i64 0]) 2 16 Tryz.underlying207 hi hz0 hz1 hz2 rfl (by decide) u3 (xA X Y k).length (vG (xA X Y k)) rfl ?own ⟨wr.heap.size,0,none⟩ 1 1 [.int .i64 (2 * X k),.int .i64 (2 * Y k)] rfl rfl ?c1 ?c2 ?c3 ?c4 ?c5 ?_
                     case own=>exact World.ownsRow.alloc HO.out _
                     case c1 =>
                       intro q u hq
                       match q,hq with
                       | 0,hq=>simp at hq;subst hq;simp [Addr.add,go_sem]
                       | 1,hq=>simp at hq;subst hq;simp [Addr.add,go_sem]
                       | q+2,hq=>simp at hq
                     case c2=>intro u hu;simp at hu;rcases hu with rfl | rfl <;> rfl
                     case c3=>have:=HLEN.out;unfold maxLen;omega
                     case c4=>have:=HLEN.out;omega
                     case c5=>first | omega | (simp;omega)
                     intro v' w3 hown' hgrow hnil
                     clear hnil
                     have hBV:Bw wr (World.alloc (World.drew wr) (.cells #[.int .i64 (2 * X k),.int .i64 (2 * Y k)] 215)):=by exact Qb
                     have hBg:Below w.heap.size (World.alloc (World.drew wr) (.cells #[.int .i64 (2 * X k),.int .i64 (2 * Y k)] 215)) w3:=(Below.refl _ _).grown hgrow (by have:=hBV.size;omega) (fun k hk=>(HO.out.lt k hk).1)
                     have HB3:Hid (Bw w w3):=(HB.out.trans (hBV.mono hszc)).trans hBg
                     have HO3:Hid (Row w.heap.size w3 v' (xA X Y (k+1))):=(by
                       show Row _ _ _ _
                       rw [HS.out]
                       show World.ownsRow _ _ _ _ _ _ _
                       rw [zE3,List.length_append]
                       exact hown')
                     clear hown' hgrow hBg hBV)
      all_goals
        go_wp2_with fail
        go_roundw
        case rel=>exact ⟨k+1,by omega,by go_num,HO3.out,HB3.out⟩
        case measure=>simp [intOf];omega
    · go_wp2
      go_ret
      have hkn:k=n:=by omega
      subst hkn
      exact ⟨_,rfl,hO,hB⟩
theorem zJn (b off n cap:Nat)(X Y:Nat→Int)(w:World)(hp:zI w b off n X Y)(hbl:b<w.heap.size)(hn:n≤40)(hin:∀ i,i<n→inW (X i) (Y i)=true) :
    Calls Tryz.prog 244 #[.slice (some ⟨b,off,none⟩) n cap] w fun e w'=>∃ v,e=.returned v∧Row w.heap.size w' v (xA X Y n)∧Bw w w':=by
  obtain ⟨i0,hi,hz0,hz1,hz2⟩:=info_parts zNs
  have HP:Hid (zI w b off n X Y):=hp
  have HIN:Hid (∀ i,i<n→inW (X i) (Y i)=true):=hin
  clear hp hin
  go_enter Tryz.func244,Tryz.ntmps244
  go_wp2_with fail
  go_loopw [3,8] (fun v i wr=>∃ k:Nat,k≤n∧i=.int .i64 (k:Int)∧Row w.heap.size wr v (xA X Y k)∧Bw w wr) (fun _ i _=>n - (intOf i).toNat)
  case atStart=>exact ⟨0,by omega,rfl,Row.no _ _,Below.refl _ _⟩
  case round =>
    obtain ⟨k,hk,rfl,hO,hB⟩:=hrel
    by_cases hlt:k<n
    · obtain ⟨hx,hy⟩:=(HP.out.below hB hbl) k hlt
      obtain ⟨⟨x0,x1⟩,y0,y1⟩:=zNt (HIN.out k hlt)
      have HB:Hid (Bw w wr):=hB
      have HO:Hid (Row w.heap.size wr u3 (xA X Y k)):=hO
      have hbw:b<wr.heap.size:=Nat.lt_of_lt_of_le hbl hB.size
      have hszc:w.heap.size≤wr.heap.size:=hB.size
      have HLEN:Hid ((xA X Y k).length=k):=vK X Y k
      have HS:Hid (xA X Y (k+1)=xA X Y k ++ [(2 * X k,2 * Y k)]):=zKb X Y k
      clear hO hB
      have hi':(k:Int)<(n:Int):=by omega
      go_wp2_with (first
        | (at_builtin;go_must (refine wpList_append_own _ rfl _ _ 207 rfl w.heap.size 215 i0 (.agg #[.int .i64 0,.int .i64 0]) 2 16 Tryz.underlying207 hi hz0 hz1 hz2 rfl (by decide) _ (xA X Y k).length (vG (xA X Y k)) rfl (World.ownsRow.alloc (World.ownsRow.alloc HO.out _) _) ⟨wr.heap.size+1,0,none⟩ 1 1 [.int .i64 (2 * X k),.int .i64 (2 * Y k)] rfl rfl ?c1 ?c2 ?c3 ?c4 ?c5 ?_)))
      try (case c1 =>
        intro q u hq
        match q,hq with
        | 0,hq=>simp at hq;subst hq;simp [Addr.add,go_sem]
        | 1,hq=>simp at hq;subst hq;simp [Addr.add,go_sem]
        | q+2,hq=>simp at hq)
      case c2=>first | (intro u hu;simp at hu;rcases hu with rfl | rfl <;> rfl) | exact ⟨rfl,rfl⟩
      case c3=>have:=HLEN.out;unfold maxLen;omega
      case c4=>have:=HLEN.out;omega
      case c5=>first | omega | (simp;omega)
      intro v' w3 hown' hgrow hnil
      clear hnil
      generalize hV:((wr.alloc _).alloc _:World)=V at hgrow
      have hBV:Bw wr V:=by subst hV;exact Qb
      have hBg:Below w.heap.size V w3:=(Below.refl _ _).grown hgrow (by have:=hBV.size;omega) (fun k hk=>(HO.out.lt k hk).1)
      have HB3:Hid (Bw w w3):=(HB.out.trans (hBV.mono hszc)).trans hBg
      have HO3:Hid (Row w.heap.size w3 v' (xA X Y (k+1))):=by
        show Row _ _ _ _
        rw [HS.out]
        show World.ownsRow _ _ _ _ _ _ _
        rw [zE3,List.length_append]
        exact hown'
      clear hown' hgrow hBg hBV hV
      go_wp2
      go_roundw
      case rel=>exact ⟨k+1,by omega,by go_num,HO3.out,HB3.out⟩
      case measure=>simp [intOf];omega
    · go_wp2
      go_ret
      have hkn:k=n:=by omega
      subst hkn
      exact ⟨_,rfl,hO,hB⟩

theorem zC.grown {w w':World}{p n s:Nat}(h:zC w p n)(hg:w.grownBy w' (some s))(hs:p≠s):zC w' p n:=fun o hn=>by
 obtain ⟨v,hv⟩:=(h o hn).1
 refine ⟨⟨v,yG hg hv hs⟩,?_⟩
 have he:=hg.block p (World.block_lt_of_cell? _ _ hv) (fun e=>hs (by injection e))
 have hz:=(h o hn).2
 unfold World.frozen? at hz ⊢
 simp only [he]
 exact hz
theorem zO7 (n:Nat)(h:n≤1048576)(w:World) :
  (Instr.makeSlice 46 (.int .i64 (n:Int)) (.int .i64 (n:Int))).run Tryz.prog w=.ok (.slice (some ⟨w.heap.size,0,none⟩) n n) (w.alloc (.cells (madeCells #[.int .i64 0] n) 2)):=by
 obtain ⟨i,hi,hz,hs,hb⟩:=info_parts zCl
 have hr:=run_make (P:=Tryz.prog) w 46 2 i _ Tryz.underlying46 hi hz .i64 .i64 (n:Int) (n:Int) (by omega) (Int.le_refl _) (by rw [hb];omega) (by omega)
 simp only [Int.toNat_natCast,hs,Nat.mul_one] at hr
 exact hr
theorem zIh (n:Nat)(w:World)(t:TypeId):zC (w.alloc (.cells (madeCells #[.int .i64 0] n) t)) w.heap.size n:=fun o ho=>by
 have hz:=size_madeCells #[.int .i64 0] n
 refine ⟨⟨(madeCells #[.int .i64 0] n)[o]'(by rw [hz];exact ho),?_⟩,World.frozen?_alloc_at _ _ _ _ rfl⟩
 rw [World.cell?_alloc_at _ _ _ _ rfl]
 exact Array.getElem?_eq_getElem _
theorem zGl (a:Option Addr)(n cap:Nat)(Z:Nat→Int)(w:World)(hp:uE w a n Z)(hmax:n≤1048576) :
  Calls Tryz.prog 189 #[.slice a n cap] w fun e w'=>∃ b,e=.returned (.slice (some ⟨b,0,none⟩) n n)∧w.heap.size≤b∧b<w'.heap.size∧zBx w' b 0 n Z∧zC w' b n∧Bw w w':=by
 have hmk:=zO7 n hmax
 have HP:Hid (uE w a n Z):=hp
 clear hp
 go_enter Tryz.func189,Tryz.ntmps189
 go_wp2
 generalize hW:(w.alloc _:World)=W
 have HB0:Hid (Bw w W):=by show Below _ _ _;subst hW;exact Qb
 have HT0:Hid (zC W w.heap.size n):=by show zC _ _ _;subst hW;exact zIh _ _ _
 have HL0:Hid (w.heap.size<W.heap.size):=by show _<_;subst hW;simp
 clear hW hmk
 go_loopw [4] (fun i wr=>∃ k:Nat,k≤n∧i=.int .i64 k∧Bw w wr∧zC wr w.heap.size n∧zBx wr w.heap.size 0 k Z∧w.heap.size<wr.heap.size) (fun i _=>n - (intOf i).toNat)
 case atStart=>exact ⟨0,by omega,rfl,HB0.out,HT0.out,fun i hi=>by omega,HL0.out⟩
 case round =>
  obtain ⟨k,hk,rfl,hB,hT,hPt,hlw⟩:=hrel
  by_cases hlt:k<n
  ·rcases HP.out with h0 | ⟨b,off,rfl,hbl,hpt⟩
   ·omega
   ·have hx:wr.cell? ⟨b,off+k,none⟩=some (.int .i64 (Z k)):=(hB.cell (p:=⟨b,off+k,none⟩) hbl).trans (hpt k hlt)
    have HB:Hid (Bw w wr):=hB
    have HT:Hid (zC wr w.heap.size n):=hT
    have HQ:Hid (zBx wr w.heap.size 0 k Z):=hPt
    have t0:=hT.cell k hlt
    have f0:=(hT k hlt).2
    clear hB hT hPt hpt
    have hi:(k:Int)<(n:Int):=by omega
    have hi0:(0:Int)≤(k:Int):=by omega
    go_wp2
    go_roundw
    case rel =>
     refine ⟨k+1,by omega,by go_num,?_,HT.out.setN _ _,fillN HT.out hlt HQ.out,?_⟩
     ·have HB':=HB.out
      exact Qb
     ·simp;omega
    case measure=>simp [intOf];omega
  ·go_wp2
   go_ret
   have hkn:k=n:=by omega
   subst hkn
   exact ⟨_,rfl,Nat.le_refl _,hlw,hPt,hT,hB⟩
abbrev pxV (a b:Int):Value:=.complex .f64 (flo a) (flo b)
theorem flo_1:flo 1=4607182418800017408:=by decide +kernel
theorem c_add {a b c d:Int}(h:(-(2 ^ 52)<a∧a<2 ^ 52)∧(-(2 ^ 52)<b∧b<2 ^ 52))(g:(-(2 ^ 52)<c∧c<2 ^ 52)∧(-(2 ^ 52)<d∧d<2 ^ 52)):cSumBits .add .f64 (flo a) (flo b) (flo c) (flo d)=some (flo (a+c),flo (b+d)):=by
 simp [cSumBits,zN2 h.1.1 h.1.2 g.1.1 g.1.2,zN2 h.2.1 h.2.2 g.2.1 g.2.2]
theorem c_sub {a b c d:Int}(h:(-(2 ^ 52)<a∧a<2 ^ 52)∧(-(2 ^ 52)<b∧b<2 ^ 52))(g:(-(2 ^ 52)<c∧c<2 ^ 52)∧(-(2 ^ 52)<d∧d<2 ^ 52)):cSumBits .sub .f64 (flo a) (flo b) (flo c) (flo d)=some (flo (a - c),flo (b - d)):=by
 simp [cSumBits,zN0 h.1.1 h.1.2 g.1.1 g.1.2,zN0 h.2.1 h.2.2 g.2.1 g.2.2]
theorem zK3 (t:TypeId){a b c d:Int}(w:World)(h:(-(2 ^ 52)<a∧a<2 ^ 52)∧(-(2 ^ 52)<b∧b<2 ^ 52))(g:(-(2 ^ 52)<c∧c<2 ^ 52)∧(-(2 ^ 52)<d∧d<2 ^ 52)):(binOp .add t (pxV a b) (pxV c d)).run Tryz.prog w=.ok (pxV (a+c) (b+d)) w :=
 run_complex_sum w .add (.inl rfl) t .f64 _ _ _ _ _ _ (c_add h g)
theorem zK2 (t:TypeId){a b c d:Int}(w:World)(h:(-(2 ^ 52)<a∧a<2 ^ 52)∧(-(2 ^ 52)<b∧b<2 ^ 52))(g:(-(2 ^ 52)<c∧c<2 ^ 52)∧(-(2 ^ 52)<d∧d<2 ^ 52)):(binOp .sub t (pxV a b) (pxV c d)).run Tryz.prog w=.ok (pxV (a - c) (b - d)) w :=
 run_complex_sum w .sub (.inr rfl) t .f64 _ _ _ _ _ _ (c_sub h g)
theorem zC2 (x y:Int)(w:World):Calls Tryz.prog 175 #[.int .i64 x,.int .i64 y] w fun e w'=>e=.returned (pxV x y)∧w=w':=by
 go_enter Tryz.func175,Tryz.ntmps175
 go_wp2
 go_ret
 exact ⟨rfl,rfl⟩
theorem zNa (a b:Int)(w:World)(h0:-200≤a)(h1:a<800):Calls Tryz.prog 119 #[pxV a b] w fun e w'=>e=.returned (.int .i64 a)∧w=w':=by
 have hc:∀ w,(convert 225 2 (.float .f64 (flo a))).run Tryz.prog w=.ok (.int .i64 a) w:=fun w=>run_convert_float_int w 225 2 .f64 .i64 _ a (by kernel_rfl) (by kernel_rfl) (zN1 h0 h1)
 go_enter Tryz.func119,Tryz.ntmps119
 go_wp2
 go_ret
 exact ⟨rfl,rfl⟩
theorem zM9 (a b:Int)(w:World)(h0:-200≤b)(h1:b<800):Calls Tryz.prog 120 #[pxV a b] w fun e w'=>e=.returned (.int .i64 b)∧w=w':=by
 have hc:∀ w,(convert 225 2 (.float .f64 (flo b))).run Tryz.prog w=.ok (.int .i64 b) w:=fun w=>run_convert_float_int w 225 2 .f64 .i64 _ b (by kernel_rfl) (by kernel_rfl) (zN1 h0 h1)
 go_enter Tryz.func120,Tryz.ntmps120
 go_wp2
 go_ret
 exact ⟨rfl,rfl⟩
abbrev zH7 (z x y wd ht:Int):Value:=.agg #[.int .i64 z,.int .i64 x,.int .i64 y,.int .i64 wd,.int .i64 ht]
def zBh (z x y wd ht:Int):Bool:=(yM z && (inB wd 1 8 && inB ht 1 8)) && (inB x 0 (zAj z - wd) && inB y 0 (zAj z - ht))
def uD (z x y wd ht:Int):Int:=if zBh z x y wd ht=true then 0 else 3
theorem uB {z x y wd ht:Int}(h:zBh z x y wd ht=true):yM z=true:=by simp [zBh] at h;exact h.1.1
theorem xT {z x y wd ht:Int}(h:zBh z x y wd ht=true):((1≤wd∧wd≤8)∧(1≤ht∧ht≤8))∧((0≤x∧x≤zAj z - wd)∧(0≤y∧y≤zAj z - ht)):=by
 simp [zBh,inB] at h
 omega
theorem zL8 (z x y wd ht:Int):(uD z x y wd ht=0∧zBh z x y wd ht=true)∨(uD z x y wd ht=3∧zBh z x y wd ht=false):=by
 unfold uD
 cases h:zBh z x y wd ht <;> simp
theorem zEy (n:Int)(w:World):Calls Tryz.prog 116 #[.int .i64 n] w fun e w'=>e=.returned (.bool (inB n 1 8))∧w=w':=by
 go_enter Tryz.func116,Tryz.ntmps116
 go_wp2_with (go_at_call 62;refine (zM _ _ _ _).mono ?_;rintro e w' ⟨rfl,rfl⟩)
 go_ret
 exact ⟨rfl,rfl⟩
theorem zB6 (z x y wd ht:Int)(w:World):Calls Tryz.prog 131 #[zH7 z x y wd ht] w fun e w'=>e=.returned (pxV x y)∧Bw w w':=by
 go_enter Tryz.func131,Tryz.ntmps131
 go_wp2_with (go_at_call 175;refine (zC2 _ _ _).mono ?_;rintro e w' ⟨rfl,rfl⟩)
 go_ret
 exact ⟨rfl,Qb⟩
theorem zJr (z x y wd ht:Int)(w:World):Calls Tryz.prog 167 #[zH7 z x y wd ht] w fun e w'=>e=.returned (pxV wd ht)∧Bw w w':=by
 go_enter Tryz.func167,Tryz.ntmps167
 go_wp2_with (go_at_call 175;refine (zC2 _ _ _).mono ?_;rintro e w' ⟨rfl,rfl⟩)
 go_ret
 exact ⟨rfl,Qb⟩
theorem zDt (z x y wd ht:Int)(w:World)(hx:0≤x∧x≤64)(hy:0≤y∧y≤64)(hw:1≤wd∧wd≤8)(hh:1≤ht∧ht≤8):Calls Tryz.prog 118 #[zH7 z x y wd ht] w fun e w'=>e=.returned (pxV (x+wd - 1) (y+ht - 1))∧Bw w w':=by
 have s1:=fun t w=>zK3 t (a:=x) (b:=y) (c:=wd) (d:=ht) w (by omega) (by omega)
 have s2:∀ t w,(binOp .sub t (pxV (x+wd) (y+ht)) (.complex .f64 4607182418800017408 4607182418800017408)).run Tryz.prog w=.ok (pxV (x+wd - 1) (y+ht - 1)) w:=fun t w=>by
  rw [← flo_1]
  exact zK2 t (a:=x+wd) (b:=y+ht) (c:=1) (d:=1) w (by omega) (by omega)
 clear hx hy hw hh
 go_enter Tryz.func118,Tryz.ntmps118
 go_wp2_with fail
 generalize hW:(w.alloc _:World)=W
 have HB0:Hid (Bw w W):=by show Below _ _ _;subst hW;exact Qb
 have c00:∀ W',Bw W W'→W'.cell? ⟨w.heap.size,0,none⟩=some (.int .i64 z):=Qc hW
 have c01:∀ W',Bw W W'→W'.cell? ⟨w.heap.size,1,none⟩=some (.int .i64 x):=Qc hW
 have c02:∀ W',Bw W W'→W'.cell? ⟨w.heap.size,2,none⟩=some (.int .i64 y):=Qc hW
 have c03:∀ W',Bw W W'→W'.cell? ⟨w.heap.size,3,none⟩=some (.int .i64 wd):=Qc hW
 have c04:∀ W',Bw W W'→W'.cell? ⟨w.heap.size,4,none⟩=some (.int .i64 ht):=Qc hW
 clear hW
 have hr:Bw W W:=Below.refl _ _
 go_region_held3 (fun W'=>Bw W W') ((repeat (first|exact Qr _ _|assumption|refine Qd ?_|refine Qa ?_ _|refine Qt ?_|refine Qs ?_ _|refine Qo ?_ ?_ _ _)))
  (first
   | (go_at_call 131;refine (zB6 _ _ _ _ _ _).mono ?_;rintro e w1 ⟨rfl,hb⟩)
   | (go_at_call 167;refine (zJr _ _ _ _ _ _).mono ?_;rintro e w1 ⟨rfl,hb⟩)
   | fail)
 go_wp2
 go_ret
 exact ⟨rfl,zA HB0.out (by assumption)⟩
theorem zAb (z x y wd ht:Int)(w:World):Calls Tryz.prog 72 #[zH7 z x y wd ht] w fun e w'=>e=.returned (.int .i64 (uD z x y wd ht))∧Bw w w':=by
 cases hv:(inB wd 1 8 && inB ht 1 8 && xZ z x y)
 ·have hk:Hid (uD z x y wd ht=3):=by
   show _=_
   unfold uD
   rw [if_neg]
   intro hc
   have h1:=uB hc
   have h2:=xT hc
   have h3:=xE h1
   have:(inB wd 1 8 && inB ht 1 8 && xZ z x y)=true:=by
    simp [xZ,inB,h1]
    omega
   rw [this] at hv
   cases hv
  cases h1:inB wd 1 8 <;> cases h2:inB ht 1 8 <;> cases h3:xZ z x y
  all_goals first | (rw [h1,h2,h3] at hv;cases hv;done) | skip
  all_goals
   clear hv
   go_enter Tryz.func72,Tryz.ntmps72
   go_wp2_with (first
    | (go_at_call 116;refine (zEy _ _).mono ?_;rintro e w' ⟨rfl,rfl⟩)
    | (go_at_call 117;refine (vD _ _ _ _).mono ?_;rintro e w' ⟨rfl,hb⟩))
   all_goals (go_ret;exact ⟨zD hk.out.symm,Qb⟩)
 ·simp only [Bool.and_eq_true] at hv
  obtain ⟨⟨h1,h2⟩,h3⟩:=hv
  have hz:=yC h3
  have hp:=vO h3
  have hn:=xE hz
  have hw:1≤wd∧wd≤8:=by simpa [inB] using h1
  have hh:1≤ht∧ht≤8:=by simpa [inB] using h2
  have hk:Hid (uD z x y wd ht=if xZ z (x+wd - 1) (y+ht - 1)=true then 0 else 3):=by
   show _=_
   unfold uD
   have:zBh z x y wd ht=xZ z (x+wd - 1) (y+ht - 1):=by
    rw [Bool.eq_iff_iff]
    simp [zBh,xZ,inB,hz]
    omega
   rw [this]
  have sL:=fun w=>zDt z x y wd ht w (by omega) (by omega) hw hh
  have sX:=fun w=>zNa (x+wd - 1) (y+ht - 1) w (by omega) (by omega)
  have sY:=fun w=>zM9 (x+wd - 1) (y+ht - 1) w (by omega) (by omega)
  have sP:=fun w=>vD z (x+wd - 1) (y+ht - 1) w
  clear hp hn hw hh hz
  generalize x+wd - 1=lx at *
  generalize y+ht - 1=ly at *
  go_enter Tryz.func72,Tryz.ntmps72
  go_wp2_with fail
  generalize hW:(w.alloc _:World)=W
  have HB0:Hid (Bw w W):=by show Below _ _ _;subst hW;exact Qb
  have c00:∀ W',Bw W W'→W'.cell? ⟨w.heap.size,0,none⟩=some (.int .i64 z):=Qc hW
  have c01:∀ W',Bw W W'→W'.cell? ⟨w.heap.size,1,none⟩=some (.int .i64 x):=Qc hW
  have c02:∀ W',Bw W W'→W'.cell? ⟨w.heap.size,2,none⟩=some (.int .i64 y):=Qc hW
  have c03:∀ W',Bw W W'→W'.cell? ⟨w.heap.size,3,none⟩=some (.int .i64 wd):=Qc hW
  have c04:∀ W',Bw W W'→W'.cell? ⟨w.heap.size,4,none⟩=some (.int .i64 ht):=Qc hW
  clear hW
  have hr:Bw W W:=Below.refl _ _
  go_wp2_with (first
   | (go_at_call 116;refine (zEy _ _).mono ?_;rintro e w' ⟨rfl,rfl⟩)
   | fail)
  refine (vD z x y _).mono ?_
  rintro e w1 ⟨rfl,hb1⟩
  go_wp2_with fail
  refine (sL _).mono ?_
  rintro e w2 ⟨rfl,hb2⟩
  have hB2:Bw W w2:=zA hb1 hb2
  clear hb1 hb2
  go_wp2_with fail
  cases hq:xZ z lx ly
  all_goals
   rw [hq] at sP hk
   go_region_held3 (fun W'=>Bw W W') ((repeat (first|exact Qr _ _|assumption|refine Qd ?_|refine Qa ?_ _|refine Qt ?_|refine Qs ?_ _|refine Qo ?_ ?_ _ _)))
    (first
     | (go_at_call 119;refine (sX _).mono ?_;rintro e w3 ⟨rfl,rfl⟩)
     | (go_at_call 120;refine (sY _).mono ?_;rintro e w3 ⟨rfl,rfl⟩)
     | (go_at_call 117;refine (sP _).mono ?_;rintro e w3 ⟨rfl,hb⟩)
     | fail)
   go_wp2
   go_ret
   exact ⟨zD (by rw [hk.out];rfl),zA HB0.out (by assumption)⟩
theorem zGm (z x y wd ht:Int)(w:World):Calls Tryz.prog 8 #[zH7 z x y wd ht] w fun e w'=>e=.returned (zH7 z x y wd ht)∧Bw w w':=by
 go_enter Tryz.func8,Tryz.ntmps8
 go_wp2
 exact bodyPost_ret (v:=zH7 z x y wd ht) (by simp [results,Tryz.results8,go_sem]) rfl ⟨rfl,Qb⟩
theorem zHr (z x y wd ht:Int)(w:World):Calls Tryz.prog 49 #[zH7 z x y wd ht,zH7 z x y wd ht] w fun e w'=>e=.returned (.bool true)∧Bw w w':=by
 go_enter Tryz.func49,Tryz.ntmps49
 go_wp2
 go_ret
 exact ⟨rfl,Qb⟩

def zMd (w:World)(b:Nat)(z x y wd ht:Int):Prop:=w.cell? ⟨b,0,none⟩=some (.int .i64 z)∧w.cell? ⟨b,1,none⟩=some (.int .i64 x)∧w.cell? ⟨b,2,none⟩=some (.int .i64 y)∧w.cell? ⟨b,3,none⟩=some (.int .i64 wd)∧w.cell? ⟨b,4,none⟩=some (.int .i64 ht)
theorem l1In_q (v lo hi:Int)(w:World):Calls Tryz.prog 32 #[.int .i64 v,.int .i64 lo,.int .i64 hi] w fun e w'=>e=.returned (.bool (inB v lo hi))∧∃ n,w'=w.drewN n :=
 (zS v lo hi w).mono fun e w' ⟨h1,h2⟩=>⟨h1,0,h2⟩
theorem zI1 (b:Nat)(z x y wd ht:Int)(w:World)(h:zMd w b z x y wd ht):Calls Tryz.prog 30 #[.pointer (some ⟨b,0,none⟩)] w fun e w'=>e=.returned (.int .i64 (uD z x y wd ht))∧Bw w w':=by
 obtain ⟨e0,e1,e2,e3,e4⟩:=h
 have hk:Hid (uD z x y wd ht=if zBh z x y wd ht=true then 0 else 3):=rfl
 have hb:Hid (zBh z x y wd ht=((yM z && (inB wd 1 8 && inB ht 1 8)) && (inB x 0 (zAj z - wd) && inB y 0 (zAj z - ht)))):=rfl
 cases h1:yM z <;> cases h2:inB wd 1 8 <;> cases h3:inB ht 1 8
 case true.true.true =>
  rw [h1,h2,h3] at hb
  have sN:=fun w=>zI2 z w h1
  have hn:=xE h1
  have hw:1≤wd∧wd≤8:=by simpa [inB] using h2
  have hh:1≤ht∧ht≤8:=by simpa [inB] using h3
  generalize zAj z=u at *
  cases h4:inB x 0 (u - wd) <;> cases h5:inB y 0 (u - ht)
  all_goals
   rw [h4,h5] at hb
   rw [hb.out] at hk
   go_enter Tryz.func30,Tryz.ntmps30
   go_wp2_with (first
    | (go_at_call 64;refine (xM _ _).mono ?_;rintro e w1 ⟨rfl,rfl⟩)
    | (go_at_call 65;refine (sN _).mono ?_;rintro e w1 ⟨rfl,rfl⟩)
    | (go_at_call 32;refine (zS _ _ _ _).mono ?_;rintro e w1 ⟨rfl,rfl⟩))
   go_quiet (first | (go_at_call 32;exact Calls.quiet_of (l1In_q _ _ _ _)))
   go_wp2
   go_ret
   exact ⟨zD (by rw [hk.out];rfl),below_drewN (Below.refl _ _) _⟩
 all_goals
  rw [h1,h2,h3] at hb
  rw [hb.out] at hk
  go_enter Tryz.func30,Tryz.ntmps30
  go_wp2_with (first
   | (go_at_call 64;refine (xM _ _).mono ?_;rintro e w1 ⟨rfl,rfl⟩)
   | (go_at_call 32;refine (zS _ _ _ _).mono ?_;rintro e w1 ⟨rfl,rfl⟩))
  go_ret
  exact ⟨zD (by rw [hk.out];rfl),Qb⟩

end Go.Proofs.YtpaiholildedcaaGreat
