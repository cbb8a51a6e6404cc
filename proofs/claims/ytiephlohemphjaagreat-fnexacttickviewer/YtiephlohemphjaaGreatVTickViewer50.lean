/- Texts. -/
import Derived.Test.YtiephlohemphjaaGreatVTickViewer48
import Derived.Test.YtiephlohemphjaaGreatVTickViewer47
set_option linter.unusedSimpArgs false
set_option linter.unusedVariables false
set_option maxRecDepth 100000
set_option maxHeartbeats 32000000
namespace Go.Proofs.YtiephlohemphjaaGreat
open Go.RowKit
theorem FnExactTickViewer_law (v : Va) (z x y wd ht now s : Int) (a : Option Addr) (n cap : Nat) (K : Nat → Kp) (ra : Option Addr) (rn rc : Nat) (E : Nat → Req) (bad : Int) (k : Int) (w : World) (h : (IsKs w a n K ∧ CameKs n K) ∧ IsWs w ra rn E ∧ rn ≤ rc ∧ rc ≤ maxLen)
  (hsp : SmallKs n K → rn ≤ 1048576 → SmVa v ∧ ∀ (W : World) (b rb : Nat) (A : Nat → Kp),OwnV W b n K A rb rn E → Calls Tryz.prog 9 #[vwV z x y wd ht now s (.slice (some ⟨b,0,none⟩) n n) (.slice (some ⟨rb,0,none⟩) rn rn) bad, .int .i64 k] W fun e w' => ∃ u,e = .returned (vaV v u) ∧ IsVa w' v u ∧ Below W.heap.size W w')
  (him : SmallKs n K → rn ≤ 1048576 → ∀ (W : World) (b rb : Nat) (A : Nat → Kp),OwnV W b n K A rb rn E → Calls Tryz.prog 11 #[vwV z x y wd ht now s (.slice (some ⟨b,0,none⟩) n n) (.slice (some ⟨rb,0,none⟩) rn rn) bad, .int .i64 k] W fun e w' => ∃ u,e = .returned (vaV v u) ∧ OwVa W.heap.size w'.heap.size w' v u ∧ Below W.heap.size W w') :
  Calls Tryz.prog 3 #[vwV z x y wd ht now s (.slice a n cap) (.slice ra rn rc) bad, .int .i64 k] w fun e w' => e = .returned (.bool true) ∧ Below w.heap.size w w' := by
 obtain ⟨⟨hf,hc⟩,hr,hrc,hrm⟩ := h
 have HI : Hid (IsKs w a n K) := hf
 have HC : Hid (CameKs n K) := hc
 have HRq : Hid (IsWs w ra rn E) := hr
 have hrl : rn ≤ maxLen := Nat.le_trans hrc hrm
 have Hspec := (show Hid _ from hsp)
 have Himpl := (show Hid _ from him)
 clear hf hc hr hrc hrm hsp him
 go_enter Tryz.func3,Tryz.ntmps3
 go_wp2_with fail
 generalize hW : (w.alloc _ : World) = W
 have HB0 : Hid (Below w.heap.size w W) := by show Below _ _ _; subst hW; exact Qb
 have HV : Hid (Blk W w.heap.size [.int .i64 z, .int .i64 x, .int .i64 y, .int .i64 wd, .int .i64 ht, .int .i64 now, .int .i64 s, .slice a n cap, .slice ra rn rc, .int .i64 bad]) := by show Blk _ _ _; subst hW; exact Blk.new _ _ _
 have hvl : w.heap.size < W.heap.size := HV.out.lt
 clear hW
 refine (szViewer_any z x y wd ht now s a n cap K ra rn rc bad W (HI.out.below HB0.out) HC.out hrl).mono ?_
 rintro e w1 ⟨rfl | ⟨m0,hS,hrn,rfl⟩,hb1⟩
 ·have HB1 : Hid (Below w.heap.size w w1) := bl_then HB0.out hb1
  clear hb1 Hspec Himpl
  go_wp2
  go_ret
  exact ⟨rfl,HB1.out⟩
 have HS : Hid (SmallKs n K) := hS
 have hneg : ¬ ((m0 : Nat) : Int) < 0 := by omega
 have Hsm : Hid (SmVa v) := (Hspec.out hS hrn).1
 have Hsp := (show Hid _ from (Hspec.out hS hrn).2)
 have Him := (show Hid _ from Himpl.out hS hrn)
 have HBw : Hid (Below w.heap.size w w1) := bl_then HB0.out hb1
 have HTo : Hid (∀ W',Below w1.heap.size w1 W' → Calls Tryz.prog 10 #[vwV z x y wd ht now s (.slice a n cap) (.slice ra rn rc) bad] W' fun e w' => ∃ b A rb,e = .returned (vwV z x y wd ht now s (.slice (some ⟨b,0,none⟩) n n) (.slice (some ⟨rb,0,none⟩) rn rn) bad) ∧ W'.heap.size ≤ b ∧ W'.heap.size ≤ rb ∧ OwnV w' b n K A rb rn E ∧ VkW w' W'.heap.size w'.heap.size b n A rb rn ∧ Below W'.heap.size W' w') := fun W' h => toViewer_own z x y wd ht now s a n cap K ra rn rc E bad W' (HI.out.below (bl_then HBw.out h)) HS.out (HRq.out.below (bl_then HBw.out h)) hrn
 have HEq : Hid (∀ (W : World) (b b' rb rb' : Nat) (A H : Nat → Kp),OwnV W b n K A rb rn E → OwnV W b' n K H rb' rn E → Calls Tryz.prog 13 #[vwV z x y wd ht now s (.slice (some ⟨b,0,none⟩) n n) (.slice (some ⟨rb,0,none⟩) rn rn) bad,vwV z x y wd ht now s (.slice (some ⟨b',0,none⟩) n n) (.slice (some ⟨rb',0,none⟩) rn rn) bad] W fun e w' => e = .returned (.bool true) ∧ Below W.heap.size W w') := fun W b b' rb rb' A H h1 h2 => eqViewer_any z x y wd ht now s n rn b b' rb rb' K A H E bad W h1 h2 HS.out hrn
 have HEqR : Hid (∀ (W : World) (u t : Vm),IsVa W v u → IsVa W v t → Calls Tryz.prog 12 #[vaV v u,vaV v t] W fun e w' => e = .returned (.bool true) ∧ Below W.heap.size W w') := fun W u t h1 h2 => eqVa v u t W h1 h2 Hsm.out
 have HV1 : Hid (∀ W',Below w1.heap.size w1 W' → Blk W' w.heap.size [.int .i64 z, .int .i64 x, .int .i64 y, .int .i64 wd, .int .i64 ht, .int .i64 now, .int .i64 s, .slice a n cap, .slice ra rn rc, .int .i64 bad]) := fun W' h => HV.out.below hvl (bl_then hb1 h)
 have hB1 : Below w1.heap.size w1 w1 := Below.refl _ _
 have hv1 := HV1.out w1 hB1
 have hwl : w.heap.size < w1.heap.size := Nat.lt_of_lt_of_le hvl hb1.size
 have d0 := hv1.cell 0 rfl
 have d1 := hv1.cell 1 rfl
 have d2 := hv1.cell 2 rfl
 have d3 := hv1.cell 3 rfl
 have d4 := hv1.cell 4 rfl
 have d5 := hv1.cell 5 rfl
 have d6 := hv1.cell 6 rfl
 have d7 := hv1.cell 7 rfl
 have d8 := hv1.cell 8 rfl
 have d9 := hv1.cell 9 rfl
 clear hS hb1 Hspec Himpl HI HC HRq HB0 HV hv1
 go_wp2_with fail
 refine Calls.mono (HTo.out _ hB1) ?_
 rintro e wp ⟨bp,Ap,rbp,rfl,hle2,hlr2,hO2,_,hb2⟩
 have HBp : Hid (Below w1.heap.size w1 wp) := hb2
 have HOp : Hid (OwnV wp bp n K Ap rbp rn E) := hO2
 clear hO2 hb2
 go_wp2_with fail
 refine (Hsp.out _ _ _ _ HOp.out).mono ?_
 rintro e wq ⟨uq,rfl,hIq,hbq⟩
 have HIq : Hid (IsVa wq v uq) := hIq
 have HBq : Hid (Below w1.heap.size w1 wq) := bl_then HBp.out hbq
 clear hIq hbq HOp HBp Hsp
 clear d0
 clear d1
 clear d2
 clear d3
 clear d4
 clear d5
 clear d6
 clear d7
 clear d8
 clear d9
 have hlq : w.heap.size < wq.heap.size := Nat.lt_of_lt_of_le hwl HBq.out.size
 have hvq := HV1.out wq HBq.out
 have v0 : ∀ o,(wq.alloc o).cell? ⟨w.heap.size,0,none⟩ = _ := fun o => (hvq.alloc hlq o).cell 0 rfl
 have v1 : ∀ o,(wq.alloc o).cell? ⟨w.heap.size,1,none⟩ = _ := fun o => (hvq.alloc hlq o).cell 1 rfl
 have v2 : ∀ o,(wq.alloc o).cell? ⟨w.heap.size,2,none⟩ = _ := fun o => (hvq.alloc hlq o).cell 2 rfl
 have v3 : ∀ o,(wq.alloc o).cell? ⟨w.heap.size,3,none⟩ = _ := fun o => (hvq.alloc hlq o).cell 3 rfl
 have v4 : ∀ o,(wq.alloc o).cell? ⟨w.heap.size,4,none⟩ = _ := fun o => (hvq.alloc hlq o).cell 4 rfl
 have v5 : ∀ o,(wq.alloc o).cell? ⟨w.heap.size,5,none⟩ = _ := fun o => (hvq.alloc hlq o).cell 5 rfl
 have v6 : ∀ o,(wq.alloc o).cell? ⟨w.heap.size,6,none⟩ = _ := fun o => (hvq.alloc hlq o).cell 6 rfl
 have v7 : ∀ o,(wq.alloc o).cell? ⟨w.heap.size,7,none⟩ = _ := fun o => (hvq.alloc hlq o).cell 7 rfl
 have v8 : ∀ o,(wq.alloc o).cell? ⟨w.heap.size,8,none⟩ = _ := fun o => (hvq.alloc hlq o).cell 8 rfl
 have v9 : ∀ o,(wq.alloc o).cell? ⟨w.heap.size,9,none⟩ = _ := fun o => (hvq.alloc hlq o).cell 9 rfl
 clear hvq
 go_wp2_with fail
 generalize hW3 : (wq.alloc _ : World) = w3
 have hb3 : Below wq.heap.size wq w3 := by subst hW3; exact Qb
 have HQ3 : Hid (Blk w3 wq.heap.size (vaL v uq)) := by show Blk _ _ _; subst hW3; exact Blk.new _ _ _
 clear hW3
 obtain ⟨b7,hb7e⟩ : ∃ b,wq.heap.size = b := ⟨_,rfl⟩
 have hb7q : b7 < w3.heap.size := by rw [← hb7e]; exact HQ3.out.lt
 have HI3 : Hid (UnVa w3.heap.size w3 v uq) := (HIq.out.below hb3).un
 have hB3 : Below w1.heap.size w1 w3 := bl_then HBq.out hb3
 rw [hb7e] at HQ3
 simp only [hb7e]
 clear hb3 HIq HBq hb7e
 have hw3 := hB3.size
 have HB3 : Hid (Below w1.heap.size w1 w3) := hB3
 clear hB3
 clear v0
 clear v1
 clear v2
 clear v3
 clear v4
 clear v5
 clear v6
 clear v7
 clear v8
 clear v9
 refine Calls.mono (HTo.out _ HB3.out) ?_
 rintro e w4a ⟨b4,A4,rb4,rfl,hle4,hlr4,hO4,hK4,hb4⟩
 have HO4a : Hid (OwnV w4a b4 n K A4 rb4 rn E) := hO4
 have HK4a : Hid (VkW w4a w3.heap.size w4a.heap.size b4 n A4 rb4 rn) := hK4
 have HB4a : Hid (Below w3.heap.size w3 w4a) := hb4
 clear hO4 hK4 hb4
 go_wp2_with fail
 generalize hwA : (w4a.alloc _ : World) = w4
 have HB4b : Hid (Below w4a.heap.size w4a w4) := by show Below _ _ _; subst hwA; exact Qb
 have HX4 : Hid (Blk w4 w4a.heap.size [.int .i64 z, .int .i64 x, .int .i64 y, .int .i64 wd, .int .i64 ht, .int .i64 now, .int .i64 s, .slice (some ⟨b4,0,none⟩) n n, .slice (some ⟨rb4,0,none⟩) rn rn, .int .i64 bad]) := by show Blk _ _ _; subst hwA; exact Blk.new _ _ _
 clear hwA
 have HO4 : Hid (OwnV w4 b4 n K A4 rb4 rn E) := HO4a.out.below HB4b.out
 have HK4 : Hid (VkW w4 w3.heap.size w4a.heap.size b4 n A4 rb4 rn) := HK4a.out.below HB4b.out
 have hs4a := HB4a.out.size
 have hbx : w3.heap.size ≤ w4a.heap.size := hs4a
 have hxl : w4a.heap.size < w4.heap.size := HX4.out.lt
 have hb4 : Below w3.heap.size w3 w4 := bl_then HB4a.out HB4b.out
 obtain ⟨bx,hbxe⟩ : ∃ b,w4a.heap.size = b := ⟨_,rfl⟩
 rw [hbxe] at hbx hxl
 simp only [hbxe] at HX4 HK4 ⊢
 clear HO4a HK4a HB4a HB4b hs4a hbxe
 have HB4 : Hid (Below w1.heap.size w1 w4) := bl_then HB3.out hb4
 have HI4 : Hid (UnVa w3.heap.size w4 v uq) := HI3.out.below hb4
 have HQ4 : Hid (Blk w4 b7 (vaL v uq)) := HQ3.out.below hb7q hb4
 have hle34 := hb4.size
 have hb7r : b7 < w4.heap.size := by omega
 have HX4' : Hid (∀ W',Below w4.heap.size w4 W' → Blk W' bx [.int .i64 z, .int .i64 x, .int .i64 y, .int .i64 wd, .int .i64 ht, .int .i64 now, .int .i64 s, .slice (some ⟨b4,0,none⟩) n n, .slice (some ⟨rb4,0,none⟩) rn rn, .int .i64 bad]) := fun W' h => HX4.out.below hxl h
 clear HI3 hb4 HX4 HQ3
 refine (Him.out _ _ _ _ HO4.out).mono ?_
 rintro e wr ⟨ur,rfl,hOr,hbr⟩
 have HOr : Hid (OwVa w4.heap.size wr.heap.size wr v ur) := hOr
 have HQr : Hid (Blk wr b7 (vaL v uq)) := HQ4.out.below hb7r hbr
 have lz : b7 < wr.heap.size := HQr.out.lt
 have hbr4 := hbr.size
 clear hOr
 have hqr := HQr.out
 have z0 : ∀ o,(wr.alloc o).cell? ⟨b7,0,none⟩ = _ := fun o => (hqr.alloc lz o).cell 0 rfl
 have z1 : ∀ o,(wr.alloc o).cell? ⟨b7,1,none⟩ = _ := fun o => (hqr.alloc lz o).cell 1 rfl
 have z2 : ∀ o,(wr.alloc o).cell? ⟨b7,2,none⟩ = _ := fun o => (hqr.alloc lz o).cell 2 rfl
 have z3 : ∀ o,(wr.alloc o).cell? ⟨b7,3,none⟩ = _ := fun o => (hqr.alloc lz o).cell 3 rfl
 have z4 : ∀ o,(wr.alloc o).cell? ⟨b7,4,none⟩ = _ := fun o => (hqr.alloc lz o).cell 4 rfl
 have z5 : ∀ o,(wr.alloc o).cell? ⟨b7,5,none⟩ = _ := fun o => (hqr.alloc lz o).cell 5 rfl
 have z6 : ∀ o,(wr.alloc o).cell? ⟨b7,6,none⟩ = _ := fun o => (hqr.alloc lz o).cell 6 rfl
 have z7 : ∀ o,(wr.alloc o).cell? ⟨b7,7,none⟩ = _ := fun o => (hqr.alloc lz o).cell 7 rfl
 have z8 : ∀ o,(wr.alloc o).cell? ⟨b7,8,none⟩ = _ := fun o => (hqr.alloc lz o).cell 8 rfl
 have z9 : ∀ o,(wr.alloc o).cell? ⟨b7,9,none⟩ = _ := fun o => (hqr.alloc lz o).cell 9 rfl
 have z10 : ∀ o,(wr.alloc o).cell? ⟨b7,10,none⟩ = _ := fun o => (hqr.alloc lz o).cell 10 rfl
 have z11 : ∀ o,(wr.alloc o).cell? ⟨b7,11,none⟩ = _ := fun o => (hqr.alloc lz o).cell 11 rfl
 have z12 : ∀ o,(wr.alloc o).cell? ⟨b7,12,none⟩ = _ := fun o => (hqr.alloc lz o).cell 12 rfl
 clear hqr
 go_wp2_with fail
 generalize hW5 : (wr.alloc _ : World) = w5
 have hb5 : Below wr.heap.size wr w5 := by subst hW5; exact Qb
 have HG5 : Hid (Blk w5 wr.heap.size (vaL v ur)) := by show Blk _ _ _; subst hW5; exact Blk.new _ _ _
 clear hW5
 clear z0
 clear z1
 clear z2
 clear z3
 clear z4
 clear z5
 clear z6
 clear z7
 clear z8
 clear z9
 clear z10
 clear z11
 clear z12
 have hB5 : Below w4.heap.size w4 w5 := bl_then hbr hb5
 obtain ⟨b9,hb9e⟩ : ∃ b,wr.heap.size = b := ⟨_,rfl⟩
 have hb9 : w4.heap.size ≤ b9 := by rw [← hb9e]; exact hbr4
 have hl9 : b9 < w5.heap.size := by rw [← hb9e]; exact HG5.out.lt
 have HO5 : Hid (OwVa w4.heap.size b9 w5 v ur) := by have h := HOr.out.below hb5; rw [hb9e] at h; exact h
 rw [hb9e] at HG5
 simp only [hb9e]
 have HQ5 : Hid (Blk w5 b7 (vaL v uq)) := HQr.out.below lz hb5
 have hl7 : b7 < w5.heap.size := HQ5.out.lt
 clear hb5 hbr HOr HQr lz hb9e hbr4
 have HI5 : Hid (UnVa w3.heap.size w5 v uq) := HI4.out.below (hB5.mono hle34)
 have HP5 : Hid (OwnV w5 b4 n K A4 rb4 rn E) := HO4.out.below hB5
 have HK5 : Hid (VkW w5 w3.heap.size bx b4 n A4 rb4 rn) := HK4.out.below hB5
 have HX5 : Hid (∀ W',Below w5.heap.size w5 W' → Blk W' bx [.int .i64 z, .int .i64 x, .int .i64 y, .int .i64 wd, .int .i64 ht, .int .i64 now, .int .i64 s, .slice (some ⟨b4,0,none⟩) n n, .slice (some ⟨rb4,0,none⟩) rn rn, .int .i64 bad]) := fun W' h => HX4'.out W' (bl_then hB5 h)
 have hw5 := hB5.size
 have HB5 : Hid (Below w1.heap.size w1 w5) := bl_then HB4.out hB5
 clear HI4 HO4 HK4 HB4 hB5 HX4' HQ4
 refine (HEqR.out _ _ _ HO5.out.is HI5.out.is).mono ?_
 rintro e w6 ⟨rfl,hb6⟩
 have hw6 := hb6.size
 have HO6 : Hid (OwVa w4.heap.size b9 w6 v ur) := HO5.out.below hb6
 have HI6 : Hid (UnVa w3.heap.size w6 v uq) := HI5.out.below (hb6.mono (by omega))
 have HP6 : Hid (OwnV w6 b4 n K A4 rb4 rn E) := HP5.out.below hb6
 have HK6 : Hid (VkW w6 w3.heap.size bx b4 n A4 rb4 rn) := HK5.out.below hb6
 have HB6 : Hid (Below w1.heap.size w1 w6) := bl_then HB5.out hb6
 have HG6 : Hid (Blk w6 b9 (vaL v ur)) := HG5.out.below hl9 hb6
 have HQ6 : Hid (Blk w6 b7 (vaL v uq)) := HQ5.out.below hl7 hb6
 have hx : ∀ W',Below w6.heap.size w6 W' → Blk W' bx [.int .i64 z, .int .i64 x, .int .i64 y, .int .i64 wd, .int .i64 ht, .int .i64 now, .int .i64 s, .slice (some ⟨b4,0,none⟩) n n, .slice (some ⟨rb4,0,none⟩) rn rn, .int .i64 bad] := fun W' h => HX5.out W' (bl_then hb6 h)
 have hv : ∀ W',Below w6.heap.size w6 W' → Blk W' w.heap.size [.int .i64 z, .int .i64 x, .int .i64 y, .int .i64 wd, .int .i64 ht, .int .i64 now, .int .i64 s, .slice a n cap, .slice ra rn rc, .int .i64 bad] := fun W' h => HV1.out W' (bl_then HB6.out h)
 have HX6 : Hid (∀ W',Below w6.heap.size w6 W' → Blk W' bx [.int .i64 z, .int .i64 x, .int .i64 y, .int .i64 wd, .int .i64 ht, .int .i64 now, .int .i64 s, .slice (some ⟨b4,0,none⟩) n n, .slice (some ⟨rb4,0,none⟩) rn rn, .int .i64 bad]) := hx
 have x0 : ∀ W',Below w6.heap.size w6 W' → W'.cell? ⟨bx,0,none⟩ = _ := fun W' h => (hx W' h).cell 0 rfl
 have x1 : ∀ W',Below w6.heap.size w6 W' → W'.cell? ⟨bx,1,none⟩ = _ := fun W' h => (hx W' h).cell 1 rfl
 have x2 : ∀ W',Below w6.heap.size w6 W' → W'.cell? ⟨bx,2,none⟩ = _ := fun W' h => (hx W' h).cell 2 rfl
 have x3 : ∀ W',Below w6.heap.size w6 W' → W'.cell? ⟨bx,3,none⟩ = _ := fun W' h => (hx W' h).cell 3 rfl
 have x4 : ∀ W',Below w6.heap.size w6 W' → W'.cell? ⟨bx,4,none⟩ = _ := fun W' h => (hx W' h).cell 4 rfl
 have x5 : ∀ W',Below w6.heap.size w6 W' → W'.cell? ⟨bx,5,none⟩ = _ := fun W' h => (hx W' h).cell 5 rfl
 have x6 : ∀ W',Below w6.heap.size w6 W' → W'.cell? ⟨bx,6,none⟩ = _ := fun W' h => (hx W' h).cell 6 rfl
 have x7 : ∀ W',Below w6.heap.size w6 W' → W'.cell? ⟨bx,7,none⟩ = _ := fun W' h => (hx W' h).cell 7 rfl
 have x8 : ∀ W',Below w6.heap.size w6 W' → W'.cell? ⟨bx,8,none⟩ = _ := fun W' h => (hx W' h).cell 8 rfl
 have x9 : ∀ W',Below w6.heap.size w6 W' → W'.cell? ⟨bx,9,none⟩ = _ := fun W' h => (hx W' h).cell 9 rfl
 have v0 : ∀ W',Below w6.heap.size w6 W' → W'.cell? ⟨w.heap.size,0,none⟩ = _ := fun W' h => (hv W' h).cell 0 rfl
 have v1 : ∀ W',Below w6.heap.size w6 W' → W'.cell? ⟨w.heap.size,1,none⟩ = _ := fun W' h => (hv W' h).cell 1 rfl
 have v2 : ∀ W',Below w6.heap.size w6 W' → W'.cell? ⟨w.heap.size,2,none⟩ = _ := fun W' h => (hv W' h).cell 2 rfl
 have v3 : ∀ W',Below w6.heap.size w6 W' → W'.cell? ⟨w.heap.size,3,none⟩ = _ := fun W' h => (hv W' h).cell 3 rfl
 have v4 : ∀ W',Below w6.heap.size w6 W' → W'.cell? ⟨w.heap.size,4,none⟩ = _ := fun W' h => (hv W' h).cell 4 rfl
 have v5 : ∀ W',Below w6.heap.size w6 W' → W'.cell? ⟨w.heap.size,5,none⟩ = _ := fun W' h => (hv W' h).cell 5 rfl
 have v6 : ∀ W',Below w6.heap.size w6 W' → W'.cell? ⟨w.heap.size,6,none⟩ = _ := fun W' h => (hv W' h).cell 6 rfl
 have v7 : ∀ W',Below w6.heap.size w6 W' → W'.cell? ⟨w.heap.size,7,none⟩ = _ := fun W' h => (hv W' h).cell 7 rfl
 have v8 : ∀ W',Below w6.heap.size w6 W' → W'.cell? ⟨w.heap.size,8,none⟩ = _ := fun W' h => (hv W' h).cell 8 rfl
 have v9 : ∀ W',Below w6.heap.size w6 W' → W'.cell? ⟨w.heap.size,9,none⟩ = _ := fun W' h => (hv W' h).cell 9 rfl
 clear hb6 HO5 HI5 HP5 HK5 HB5 HX5 HG5 HQ5 hx hv
 go_wp2_with fail
 refine wp_region_noPanic ?_
 refine wp_region_held_drew (S := fun W' => Below w6.heap.size w6 W') (by kernel_rfl) (by have := Below.refl w6.heap.size w6; exact Qb) (fun hHeld => ?_)
 have hX0 : Below w6.heap.size w6 w6.drew := hHeld
 refine takeK (i := 0) (d := some 31) (v := ?va0) rfl rfl (Or.inl ⟨by rfl,?hya0⟩) (by assumption) ?_
 case hya0 => (intro w hSw; (try dsimp only at hSw); go_simp <;> with_reducible rfl)
 try simp only [Act.put,Qx,Qy,Qz]
 refine takeK (i := 1) (d := some 32) (v := ?va1) rfl rfl (Or.inl ⟨by rfl,?hya1⟩) (by assumption) ?_
 case hya1 => (intro w hSw; (try dsimp only at hSw); go_simp <;> with_reducible rfl)
 try simp only [Act.put,Qx,Qy,Qz]
 generalize w6.drew = wk0 at *
 refine wpAnyH_ready (rs := [2]) (by kernel_rfl) (by simp) ?_
 refine (AllReadyH.cons rfl (fun K hK => ?_) AllReadyH.nil)
 rw [if_pos (by rfl)]
 go_simp
 refine Calls.mono (HTo.out _ (bl_then HB6.out hX0)) ?_
 rintro e wk1 ⟨bq,Aq,rq,rfl,hge,hgr,hOq,_,hb1⟩
 have hX1 : Below w6.heap.size w6 wk1 := bl_then hX0 hb1
 go_wp2_with fail
 refine hK.out _ _ (by assumption) (fun hHeld => ?_)
 clear hK K
 try simp only [Act.put,Qx,Qy,Qz]
 refine wpAnyH_ready (rs := [3]) (by kernel_rfl) (by simp) ?_
 refine (AllReadyH.cons rfl (fun K hK => ?_) AllReadyH.nil)
 rw [if_pos (by rfl)]
 go_simp
 refine Calls.mono (HEq.out _ _ _ _ _ _ _ (HP6.out.below hX1) hOq) ?_
 rintro e wk2 ⟨rfl,hb2⟩
 have hX2 : Below w6.heap.size w6 wk2 := bl_then hX1 hb2
 go_wp2_with fail
 refine hK.out _ _ (by assumption) (fun hHeld => ?_)
 clear hK K
 try simp only [Act.put,Qx,Qy,Qz]
 refine takeK (i := 4) (d := some 35) (v := ?vb4) rfl rfl (Or.inl ⟨by rfl,?hyb4⟩) (by assumption) ?_
 case hyb4 => (intro w hSw; (try dsimp only at hSw); go_simp <;> with_reducible rfl)
 try simp only [Act.put,Qx,Qy,Qz]
 refine wpAnyH_done (by kernel_rfl) ?_ _
 refine NoPanic.normal ?_
 have HB8 : Hid (Below w6.heap.size w6 wk2) := hX2
 have hsk2 := HB8.out.size
 have HO8 : Hid (OwVa w4.heap.size b9 wk2 v ur) := HO6.out.below HB8.out
 have HI8 : Hid (UnVa w3.heap.size wk2 v uq) := HI6.out.below (HB8.out.mono (by omega))
 have HK8 : Hid (VkW wk2 w3.heap.size bx b4 n A4 rb4 rn) := HK6.out.below HB8.out
 have HB8w : Hid (Below w1.heap.size w1 wk2) := bl_then HB6.out HB8.out
 have HG8 : Hid (Blk wk2 b9 (vaL v ur)) := HG6.out.below HG6.out.lt HB8.out
 have HQ8 : Hid (Blk wk2 b7 (vaL v uq)) := HQ6.out.below HQ6.out.lt HB8.out
 have hx8 := HX6.out wk2 HB8.out
 have HMk : Hid (Calls Tryz.prog 14 #[vwV z x y wd ht now s (.slice (some ⟨b4,0,none⟩) n n) (.slice (some ⟨rb4,0,none⟩) rn rn) bad, .int .i64 1] wk2 fun e w' => (∃ q : Nat,e = .returned (.int .i64 (q : Int))) ∧ MidB w3.heap.size bx wk2 w') := markViewer_any z x y wd ht now s _ _ b4 n A4 rb4 rn bad wk2 HK8.out (HP6.out.1.small HS.out) hrn
 clear x0 v0
 clear x1 v1
 clear x2 v2
 clear x3 v3
 clear x4 v4
 clear x5 v5
 clear x6 v6
 clear x7 v7
 clear x8 v8
 clear x9 v9
 clear hX0 hb1 hX1 hb2 hX2 hOq hge hgr HO6 HI6 HK6 HP6 HB6 HX6 HEq HK8 HB8 HG6 HQ6
 have x0 := hx8.cell 0 rfl
 have x1 := hx8.cell 1 rfl
 have x2 := hx8.cell 2 rfl
 have x3 := hx8.cell 3 rfl
 have x4 := hx8.cell 4 rfl
 have x5 := hx8.cell 5 rfl
 have x6 := hx8.cell 6 rfl
 have x7 := hx8.cell 7 rfl
 have x8 := hx8.cell 8 rfl
 have x9 := hx8.cell 9 rfl
 clear hx8
 go_wp2_with fail
 refine Calls.mono HMk.out ?_
 rintro e wa ⟨⟨qn,rfl⟩,hGa⟩
 have hqn : ¬ ((qn : Nat) : Int) < 0 := by omega
 have hwa := hGa.size
 have hga : Blk wa b9 (vaL v ur) := fun i u hi => ⟨hGa.cell (HG8.out i u hi).1 (.inr (by omega)),(World.frozen?_of_block (a := ⟨b9,i,none⟩) (hGa.block b9 HG8.out.lt (.inr (by omega)))).trans (HG8.out i u hi).2⟩
 have hqa : Blk wa b7 (vaL v uq) := fun i u hi => ⟨hGa.cell (HQ8.out i u hi).1 (.inl (by omega)),(World.frozen?_of_block (a := ⟨b7,i,none⟩) (hGa.block b7 HQ8.out.lt (.inl (by omega)))).trans (HQ8.out i u hi).2⟩
 have HGa : Hid (Blk wa b9 (vaL v ur)) := hga
 have HQa : Hid (Blk wa b7 (vaL v uq)) := hqa
 have HOa : Hid (OwVa w4.heap.size b9 wa v ur) := HO8.out.mid hGa (by omega)
 have HIa : Hid (UnVa w3.heap.size wa v uq) := HI8.out.below (hGa.below (by omega))
 have HBa : Hid (Below w1.heap.size w1 wa) := HB8w.out.trans ((hGa.below (by omega)).mono (by omega))
 clear x0
 clear x1
 clear x2
 clear x3
 clear x4
 clear x5
 clear x6
 clear x7
 clear x8
 clear x9
 have g0 := hga.cell 0 rfl
 have g1 := hga.cell 1 rfl
 have g2 := hga.cell 2 rfl
 have g3 := hga.cell 3 rfl
 have g4 := hga.cell 4 rfl
 have g5 := hga.cell 5 rfl
 have g6 := hga.cell 6 rfl
 have g7 := hga.cell 7 rfl
 have g8 := hga.cell 8 rfl
 have g9 := hga.cell 9 rfl
 have g10 := hga.cell 10 rfl
 have g11 := hga.cell 11 rfl
 have g12 := hga.cell 12 rfl
 have q0 := hqa.cell 0 rfl
 have q1 := hqa.cell 1 rfl
 have q2 := hqa.cell 2 rfl
 have q3 := hqa.cell 3 rfl
 have q4 := hqa.cell 4 rfl
 have q5 := hqa.cell 5 rfl
 have q6 := hqa.cell 6 rfl
 have q7 := hqa.cell 7 rfl
 have q8 := hqa.cell 8 rfl
 have q9 := hqa.cell 9 rfl
 have q10 := hqa.cell 10 rfl
 have q11 := hqa.cell 11 rfl
 have q12 := hqa.cell 12 rfl
 clear hga hqa hGa HO8 HI8 HMk HB8w HG8 HQ8
 go_wp2_with fail
 refine (HEqR.out _ _ _ HOa.out.is HIa.out.is).mono ?_
 rintro e wb ⟨rfl,hbb⟩
 have hwb := hbb.size
 have HOb : Hid (OwVa w4.heap.size b9 wb v ur) := HOa.out.below hbb
 have HIb : Hid (UnVa w3.heap.size wb v uq) := HIa.out.below (hbb.mono (by omega))
 have HBb : Hid (Below w1.heap.size w1 wb) := bl_then HBa.out hbb
 have HGb : Hid (Blk wb b9 (vaL v ur)) := HGa.out.below HGa.out.lt hbb
 have HQb : Hid (Blk wb b7 (vaL v uq)) := HQa.out.below HQa.out.lt hbb
 clear g0 q0
 clear g1 q1
 clear g2 q2
 clear g3 q3
 clear g4 q4
 clear g5 q5
 clear g6 q6
 clear g7 q7
 clear g8 q8
 clear g9 q9
 clear g10 q10
 clear g11 q11
 clear g12 q12
 clear HOa HIa HBa hbb HGa HQa
 have hgb := HGb.out
 have g0 := hgb.cell 0 rfl
 have g1 := hgb.cell 1 rfl
 have g2 := hgb.cell 2 rfl
 have g3 := hgb.cell 3 rfl
 have g4 := hgb.cell 4 rfl
 have g5 := hgb.cell 5 rfl
 have g6 := hgb.cell 6 rfl
 have g7 := hgb.cell 7 rfl
 have g8 := hgb.cell 8 rfl
 have g9 := hgb.cell 9 rfl
 have g10 := hgb.cell 10 rfl
 have g11 := hgb.cell 11 rfl
 have g12 := hgb.cell 12 rfl
 have Hmark := (show Hid _ from markVa w4.heap.size b9 v ur wb HOb.out Hsm.out)
 have Hheld : Hid (∀ w,MkVa w v ur → Calls Tryz.prog 16 #[vaV v ur, .int .i64 1] w fun e w' => e = .returned (.int .i64 ((qVa v ur : Nat) : Int)) ∧ Below w.heap.size w w') := fun w h => heldVa v ur w h Hsm.out
 have hqm : ¬ ((qVa v ur : Nat) : Int) < 0 := by omega
 generalize ((qVa v ur : Nat) : Int) = qm at *
 clear hgb
 go_wp2_with fail
 refine Calls.mono Hmark.out ?_
 rintro e wc ⟨rfl,hMc,hGc⟩
 have hwc := hGc.size
 have hgc : Blk wc b9 (vaL v ur) := fun i u hi => ⟨hGc.cell (HGb.out i u hi).1 (.inr (Nat.le_refl _)),(World.frozen?_of_block (a := ⟨b9,i,none⟩) (hGc.block b9 HGb.out.lt (.inr (Nat.le_refl _)))).trans (HGb.out i u hi).2⟩
 have hqc : Blk wc b7 (vaL v uq) := fun i u hi => ⟨hGc.cell (HQb.out i u hi).1 (.inl (by omega)),(World.frozen?_of_block (a := ⟨b7,i,none⟩) (hGc.block b7 HQb.out.lt (.inl (by omega)))).trans (HQb.out i u hi).2⟩
 have HGc : Hid (Blk wc b9 (vaL v ur)) := hgc
 have HQc : Hid (Blk wc b7 (vaL v uq)) := hqc
 have HOc : Hid (MkVa wc v ur) := hMc
 have hs4b : w4.heap.size ≤ wb.heap.size := by omega
 have HIc : Hid (UnVa w3.heap.size wc v uq) := HIb.out.below ((hGc.below hs4b).mono hle34)
 have HBc : Hid (Below w1.heap.size w1 wc) := HBb.out.trans ((hGc.below hs4b).mono (by omega))
 clear g0
 clear g1
 clear g2
 clear g3
 clear g4
 clear g5
 clear g6
 clear g7
 clear g8
 clear g9
 clear g10
 clear g11
 clear g12
 have g0 := hgc.cell 0 rfl
 have g1 := hgc.cell 1 rfl
 have g2 := hgc.cell 2 rfl
 have g3 := hgc.cell 3 rfl
 have g4 := hgc.cell 4 rfl
 have g5 := hgc.cell 5 rfl
 have g6 := hgc.cell 6 rfl
 have g7 := hgc.cell 7 rfl
 have g8 := hgc.cell 8 rfl
 have g9 := hgc.cell 9 rfl
 have g10 := hgc.cell 10 rfl
 have g11 := hgc.cell 11 rfl
 have g12 := hgc.cell 12 rfl
 clear hgc hqc hMc hGc HBb HIb HOb Hmark HGb HQb
 go_wp2_with fail
 refine (Hheld.out _ HOc.out).mono ?_
 rintro e wd' ⟨rfl,hbd⟩
 have hwd := hbd.size
 have HOd : Hid (MkVa wd' v ur) := HOc.out.below hbd
 have HId : Hid (UnVa w3.heap.size wd' v uq) := HIc.out.below (hbd.mono (by omega))
 have HBd : Hid (Below w1.heap.size w1 wd') := bl_then HBc.out hbd
 have HGd : Hid (Blk wd' b9 (vaL v ur)) := HGc.out.below HGc.out.lt hbd
 have HQd : Hid (Blk wd' b7 (vaL v uq)) := HQc.out.below HQc.out.lt hbd
 clear g0
 clear g1
 clear g2
 clear g3
 clear g4
 clear g5
 clear g6
 clear g7
 clear g8
 clear g9
 clear g10
 clear g11
 clear g12
 have hvd := HV1.out wd' HBd.out
 have v0 := hvd.cell 0 rfl
 have v1 := hvd.cell 1 rfl
 have v2 := hvd.cell 2 rfl
 have v3 := hvd.cell 3 rfl
 have v4 := hvd.cell 4 rfl
 have v5 := hvd.cell 5 rfl
 have v6 := hvd.cell 6 rfl
 have v7 := hvd.cell 7 rfl
 have v8 := hvd.cell 8 rfl
 have v9 := hvd.cell 9 rfl
 clear HOc HIc HBc hbd hvd HGc HQc
 go_wp2_with fail
 refine Calls.mono (HTo.out _ HBd.out) ?_
 rintro e we ⟨be,Ae,re,rfl,_,_,hpe,_,hbe⟩
 have HPe : Hid (OwnV we be n K Ae re rn E) := hpe
 clear v0
 clear v1
 clear v2
 clear v3
 clear v4
 clear v5
 clear v6
 clear v7
 clear v8
 clear v9
 clear hpe
 go_wp2_with fail
 refine (Him.out _ _ _ _ HPe.out).mono ?_
 rintro e wf ⟨uf,rfl,hOf,hbf⟩
 have hbdf := bl_then hbe hbf
 have hwf := hbdf.size
 have HOf : Hid (MkVa wf v ur) := HOd.out.below hbdf
 have HIf : Hid (UnVa w3.heap.size wf v uq) := HId.out.below (hbdf.mono (by omega))
 have HBf : Hid (Below w1.heap.size w1 wf) := bl_then HBd.out hbdf
 have HJf : Hid (IsVa wf v uf) := hOf.is
 have HGf : Hid (Blk wf b9 (vaL v ur)) := HGd.out.below HGd.out.lt hbdf
 have HQf : Hid (Blk wf b7 (vaL v uq)) := HQd.out.below HQd.out.lt hbdf
 have lm : b7 < wf.heap.size := HQf.out.lt
 have ll : b9 < wf.heap.size := HGf.out.lt
 clear HOd HId HBd hbdf hOf hbe hbf HPe Him HTo HGd HQd
 have hqf := HQf.out
 have q0 : ∀ o,(wf.alloc o).cell? ⟨b7,0,none⟩ = _ := fun o => (hqf.alloc lm o).cell 0 rfl
 have q1 : ∀ o,(wf.alloc o).cell? ⟨b7,1,none⟩ = _ := fun o => (hqf.alloc lm o).cell 1 rfl
 have q2 : ∀ o,(wf.alloc o).cell? ⟨b7,2,none⟩ = _ := fun o => (hqf.alloc lm o).cell 2 rfl
 have q3 : ∀ o,(wf.alloc o).cell? ⟨b7,3,none⟩ = _ := fun o => (hqf.alloc lm o).cell 3 rfl
 have q4 : ∀ o,(wf.alloc o).cell? ⟨b7,4,none⟩ = _ := fun o => (hqf.alloc lm o).cell 4 rfl
 have q5 : ∀ o,(wf.alloc o).cell? ⟨b7,5,none⟩ = _ := fun o => (hqf.alloc lm o).cell 5 rfl
 have q6 : ∀ o,(wf.alloc o).cell? ⟨b7,6,none⟩ = _ := fun o => (hqf.alloc lm o).cell 6 rfl
 have q7 : ∀ o,(wf.alloc o).cell? ⟨b7,7,none⟩ = _ := fun o => (hqf.alloc lm o).cell 7 rfl
 have q8 : ∀ o,(wf.alloc o).cell? ⟨b7,8,none⟩ = _ := fun o => (hqf.alloc lm o).cell 8 rfl
 have q9 : ∀ o,(wf.alloc o).cell? ⟨b7,9,none⟩ = _ := fun o => (hqf.alloc lm o).cell 9 rfl
 have q10 : ∀ o,(wf.alloc o).cell? ⟨b7,10,none⟩ = _ := fun o => (hqf.alloc lm o).cell 10 rfl
 have q11 : ∀ o,(wf.alloc o).cell? ⟨b7,11,none⟩ = _ := fun o => (hqf.alloc lm o).cell 11 rfl
 have q12 : ∀ o,(wf.alloc o).cell? ⟨b7,12,none⟩ = _ := fun o => (hqf.alloc lm o).cell 12 rfl
 clear hqf
 go_wp2_with fail
 generalize hWx : (wf.alloc _ : World) = wx
 have hbx' : Below wf.heap.size wf wx := by subst hWx; exact Qb
 clear hWx
 clear q0
 clear q1
 clear q2
 clear q3
 clear q4
 clear q5
 clear q6
 clear q7
 clear q8
 clear q9
 clear q10
 clear q11
 clear q12
 have hwx := hbx'.size
 refine (HEqR.out _ _ _ (HJf.out.below hbx') ((HIf.out.below (hbx'.mono (by omega))).is)).mono ?_
 rintro e wh ⟨rfl,hbh⟩
 have hbfh := bl_then hbx' hbh
 have HOh : Hid (MkVa wh v ur) := HOf.out.below hbfh
 have HBh : Hid (Below w1.heap.size w1 wh) := bl_then HBf.out hbfh
 have hgh := HGf.out.below ll hbfh
 have g0 := hgh.cell 0 rfl
 have g1 := hgh.cell 1 rfl
 have g2 := hgh.cell 2 rfl
 have g3 := hgh.cell 3 rfl
 have g4 := hgh.cell 4 rfl
 have g5 := hgh.cell 5 rfl
 have g6 := hgh.cell 6 rfl
 have g7 := hgh.cell 7 rfl
 have g8 := hgh.cell 8 rfl
 have g9 := hgh.cell 9 rfl
 have g10 := hgh.cell 10 rfl
 have g11 := hgh.cell 11 rfl
 have g12 := hgh.cell 12 rfl
 clear HOf HIf HBf HJf hbfh hbx' hbh HGf HQf hgh
 go_wp2_with fail
 refine (Hheld.out _ HOh.out).mono ?_
 rintro e wi ⟨rfl,hbi'⟩
 have HBi : Hid (Below w.heap.size w wi) := bl_then HBw.out (bl_then HBh.out hbi')
 clear hbi'
 go_wp2
 go_ret
 exact ⟨rfl,HBi.out⟩
def CaF (W : World) (a : Option Addr) (n : Nat) (K R : Nat → Kp) : Prop := n = 0 ∨ ∃ g,a = some ⟨g,0,none⟩ ∧ g < W.heap.size ∧ ∀ i,i < n → KpAt W g (i * 5) (R i) ∧ KpSm W (K i) (R i) ∧ SrcK W (R i) ∧ (R i).I = (K i).I
theorem CaF.ks {W : World} {a : Option Addr} {n : Nat} {K R : Nat → Kp} (h : CaF W a n K R) : KsSm W a n K R := h.imp id fun ⟨g,e,h1,h2⟩ => ⟨g,e,h1,fun i hi => ⟨(h2 i hi).1,(h2 i hi).2.1⟩⟩
theorem CaF.congr {W : World} {a : Option Addr} {n : Nat} {K K' R : Nat → Kp} (h : CaF W a n K R) (hs : ∀ i,i < n → K i = K' i) : CaF W a n K' R := h.imp id fun ⟨g,e,h1,h2⟩ => ⟨g,e,h1,fun i hi => by rw [← hs i hi]; exact h2 i hi⟩
theorem lesJ_neg : ∀ n,lesJ (-1) n = List.range n
 | 0 => rfl
 | k + 1 => by
  rw [lesJ,if_neg (by omega),lesJ_neg k,List.range_succ]
theorem lesJ_neg_get (n : Nat) : ∀ i,i < n → (lesJ (-1) n).getD i 0 = i := fun i hi => by
 rw [lesJ_neg]
 simp [List.getD_eq_getElem?_getD,hi]
theorem resBad {T : Array Value} {Wf : World} {r : Nat} {v : Va} {u : Vm} (hT : T[2]?.getD undef = .pointer (some ⟨r,0,none⟩)) (h : Blk Wf r (vaL v u)) :
  (results Tryz.f29 T).run Tryz.prog Wf = .ok (vaV v u) Wf := by
 have h0 := h.cell 0 rfl
 have h1 := h.cell 1 rfl
 have h2 := h.cell 2 rfl
 have h3 := h.cell 3 rfl
 have h4 := h.cell 4 rfl
 have h5 := h.cell 5 rfl
 have h6 := h.cell 6 rfl
 have h7 := h.cell 7 rfl
 have h8 := h.cell 8 rfl
 have h9 := h.cell 9 rfl
 have h10 := h.cell 10 rfl
 have h11 := h.cell 11 rfl
 have h12 := h.cell 12 rfl
 simp [results,Tryz.results29,go_sem,hT,h0,h1,h2,h3,h4,h5,h6,h7,h8,h9,h10,h11,h12]
theorem l13Bad_any (c : Int) (w : World) : Calls Tryz.prog 29 #[.int .i64 c] w fun e w' => e = .returned (vaV (vaZ c) vmZ) ∧ Below w.heap.size w w' := by
 go_enter Tryz.func29,Tryz.ntmps29
 go_wp2_with fail
 generalize hwF : (World.alloc _ _ : World) = wF
 have HBk : Hid (Blk wF w.heap.size (vaL (vaZ c) vmZ)) := by show Blk _ _ _; subst hwF; exact Blk.new _ _ _
 have HB : Hid (Below w.heap.size w wF) := by show Below _ _ _; subst hwF; exact Qb
 clear hwF
 exact bodyPost_ret (resBad (v := vaZ c) (u := vmZ) rfl HBk.out) rfl ⟨rfl,HB.out⟩
theorem resCopy {T : Array Value} {Wf : World} {r : Nat} {z x y wd ht now s : Int} {kv rv : Value} {bad : Int} (hT : T[2]?.getD undef = .pointer (some ⟨r,0,none⟩)) (h : Blk Wf r [.int .i64 z, .int .i64 x, .int .i64 y, .int .i64 wd, .int .i64 ht, .int .i64 now, .int .i64 s,kv,rv, .int .i64 bad]) :
  (results Tryz.f31 T).run Tryz.prog Wf = .ok (vwV z x y wd ht now s kv rv bad) Wf := by
 have h0 := h.cell 0 rfl
 have h1 := h.cell 1 rfl
 have h2 := h.cell 2 rfl
 have h3 := h.cell 3 rfl
 have h4 := h.cell 4 rfl
 have h5 := h.cell 5 rfl
 have h6 := h.cell 6 rfl
 have h7 := h.cell 7 rfl
 have h8 := h.cell 8 rfl
 have h9 := h.cell 9 rfl
 simp [results,Tryz.results31,go_sem,hT,h0,h1,h2,h3,h4,h5,h6,h7,h8,h9]
theorem l13Copy_any (z x y wd ht now s : Int) (b n cap : Nat) (A : Nat → Kp) (ad : Addr) (rn rc : Nat) (E : Nat → Req) (bad : Int) (w : World) (ha : KoAt w b n A) (hsrc : ∀ i,i < n → SrcK w (A i)) (him0 : ∀ i,i < n → 0 < (A i).m) (hn : n ≤ 100) (hr : IsWs w (some ad) rn E) (hrn : rn ≤ 1048576) :
  Calls Tryz.prog 31 #[vwV z x y wd ht now s (.slice (some ⟨b,0,none⟩) n cap) (.slice (some ad) rn rc) bad] w fun e w' => ∃ a c R a3 c3,e = .returned (vwV z x y wd ht now s (.slice a n c) (.slice a3 rn c3) bad) ∧ (∀ W,GrF (w.heap.size + 2) none w' W → CaF W a n A R) ∧ OwR (w.heap.size + 2) w'.heap.size w' a3 rn E ∧ Below w.heap.size w w' := by
 have HA : Hid (KoAt w b n A) := ha
 have HS : Hid (∀ i,i < n → SrcK w (A i)) := hsrc
 have HR : Hid (IsWs w (some ad) rn E) := hr
 have HM : Hid (∀ i,i < n → 0 < (A i).m) := him0
 clear ha hsrc hr him0
 go_enter Tryz.func31,Tryz.ntmps31
 go_wp2_with fail
 generalize hW : ((w.alloc _).alloc _ : World) = W
 have HB0 : Hid (Below w.heap.size w W) := by show Below _ _ _; subst hW; exact Qb
 have HV : Hid (Blk W w.heap.size [.int .i64 z, .int .i64 x, .int .i64 y, .int .i64 wd, .int .i64 ht, .int .i64 now, .int .i64 s, .slice (some ⟨b,0,none⟩) n cap, .slice (some ad) rn rc, .int .i64 bad]) := by show Blk _ _ _; subst hW; exact (Blk.new w _ _).alloc (by simp) _
 have HO : Hid (Blk W (w.heap.size + 1) [.int .i64 0, .int .i64 0, .int .i64 0, .int .i64 0, .int .i64 0, .int .i64 0, .int .i64 0, .slice none 0 0, .slice none 0 0, .int .i64 0]) := by
  show Blk _ _ _; subst hW
  have := Blk.new (w.alloc (.cells #[.int .i64 z, .int .i64 x, .int .i64 y, .int .i64 wd, .int .i64 ht, .int .i64 now, .int .i64 s, .slice (some ⟨b,0,none⟩) n cap, .slice (some ad) rn rc, .int .i64 bad] 38)) [.int .i64 0, .int .i64 0, .int .i64 0, .int .i64 0, .int .i64 0, .int .i64 0, .int .i64 0, .slice none 0 0, .slice none 0 0, .int .i64 0] 38
  simpa using this
 have hsz : W.heap.size = w.heap.size + 2 := by subst hW; simp
 have HSZ : Hid (W.heap.size = w.heap.size + 2) := hsz
 have hszl : w.heap.size + 1 < W.heap.size := by omega
 clear hW hsz
 refine (l11Less_own s b n cap A (-1) W (HA.out.below HB0.out) (fun i hi => (HS.out i hi).below HB0.out) HM.out hn).mono ?_
 rintro e w1 ⟨a,c,R,rfl,hL,hb1,hs1⟩
 have hlen : (lesJ (-1) n).length = n := by rw [lesJ_neg]; simp
 rw [hlen] at hL
 rw [hlen]
 have HL : Hid (∀ V,GrF (w.heap.size + 2) none w1 V → CaF V a n A R) := fun V hV => by
  have h := hL.sm (hV.wide (by rw [HSZ.out]; omega))
  exact CaF.congr (K := fun j => A ((lesJ (-1) n).getD j 0)) h (fun i hi => by rw [lesJ_neg_get n i hi])
 have HV1 : Hid (Blk w1 w.heap.size [.int .i64 z, .int .i64 x, .int .i64 y, .int .i64 wd, .int .i64 ht, .int .i64 now, .int .i64 s, .slice (some ⟨b,0,none⟩) n cap, .slice (some ad) rn rc, .int .i64 bad]) := HV.out.below HV.out.lt hb1
 have HO1 : Hid (Blk w1 (w.heap.size + 1) [.int .i64 0, .int .i64 0, .int .i64 0, .int .i64 0, .int .i64 0, .int .i64 0, .int .i64 0, .slice none 0 0, .slice none 0 0, .int .i64 0]) := HO.out.below HO.out.lt hb1
 have HB1 : Hid (Below w.heap.size w w1) := bl_then HB0.out hb1
 have hv1 := HV1.out
 have hs1' : w.heap.size + 2 ≤ w1.heap.size := by have := HSZ.out; omega
 have v0 := hv1.cell 0 rfl
 have v1 := hv1.cell 1 rfl
 have v2 := hv1.cell 2 rfl
 have v3 := hv1.cell 3 rfl
 have v4 := hv1.cell 4 rfl
 have v5 := hv1.cell 5 rfl
 have v6 := hv1.cell 6 rfl
 have v7 := hv1.cell 7 rfl
 have v8 := hv1.cell 8 rfl
 have v9 := hv1.cell 9 rfl
 have f0 := hv1.free 0 rfl
 have f1 := hv1.free 1 rfl
 have f2 := hv1.free 2 rfl
 have f3 := hv1.free 3 rfl
 have f4 := hv1.free 4 rfl
 have f5 := hv1.free 5 rfl
 have f6 := hv1.free 6 rfl
 have f7 := hv1.free 7 rfl
 have f8 := hv1.free 8 rfl
 have f9 := hv1.free 9 rfl
 clear hL hb1 hs1 hlen hv1 HV HO HB0
 go_wp2_with fail
 generalize hw2 : (World.setCell _ _ _ : World) = w2
 have HV2 : Hid (Blk w2 w.heap.size [.int .i64 z, .int .i64 x, .int .i64 y, .int .i64 wd, .int .i64 ht, .int .i64 now, .int .i64 s, .slice a n c, .slice (some ad) rn rc, .int .i64 bad]) := by show Blk _ _ _; subst hw2; exact (HV1.out.set 6 _).set 7 _
 have HO2 : Hid (Blk w2 (w.heap.size + 1) [.int .i64 0, .int .i64 0, .int .i64 0, .int .i64 0, .int .i64 0, .int .i64 0, .int .i64 0, .slice none 0 0, .slice none 0 0, .int .i64 0]) := by show Blk _ _ _; subst hw2; exact (HO1.out.other (by omega)).other (by omega)
 have HM2 : Hid (MidB w.heap.size (w.heap.size + 1) w1 w2) := by show MidB _ _ _ _; subst hw2; exact ((MidB.refl _ _ _).set (Nat.le_refl _) (Nat.lt_succ_self _) _ _).set (Nat.le_refl _) (Nat.lt_succ_self _) _ _
 clear hw2
 have HB2 : Hid (Below w.heap.size w w2) := HB1.out.trans (HM2.out.below (by omega))
 have HL2 : Hid (∀ V,GrF (w.heap.size + 2) none w2 V → CaF V a n A R) := fun V hV => HL.out V (hV.of_mid HM2.out (by omega))
 have hs2 : w.heap.size + 2 ≤ w2.heap.size := by have := HM2.out.size; omega
 have hv2 := HV2.out
 clear v0 f0
 clear v1 f1
 clear v2 f2
 clear v3 f3
 clear v4 f4
 clear v5 f5
 clear v6 f6
 clear v7 f7
 clear v8 f8
 clear v9 f9
 have v0 := hv2.cell 0 rfl
 have v1 := hv2.cell 1 rfl
 have v2 := hv2.cell 2 rfl
 have v3 := hv2.cell 3 rfl
 have v4 := hv2.cell 4 rfl
 have v5 := hv2.cell 5 rfl
 have v6 := hv2.cell 6 rfl
 have v7 := hv2.cell 7 rfl
 have v8 := hv2.cell 8 rfl
 have v9 := hv2.cell 9 rfl
 have f0 := hv2.free 0 rfl
 have f1 := hv2.free 1 rfl
 have f2 := hv2.free 2 rfl
 have f3 := hv2.free 3 rfl
 have f4 := hv2.free 4 rfl
 have f5 := hv2.free 5 rfl
 have f6 := hv2.free 6 rfl
 have f7 := hv2.free 7 rfl
 have f8 := hv2.free 8 rfl
 have f9 := hv2.free 9 rfl
 have HC := (show Hid _ from l12Copy_any (some ad) rn rc E w2 (HR.out.below HB2.out) hrn ⟨ad,rfl⟩)
 clear hv2 HV1 HO1 HM2 HL HB1
 go_wp2_with fail
 refine Calls.mono HC.out ?_
 rintro e w3 ⟨v,rfl,hrow,hb3⟩
 have hown := hrow.own
 rw [listW_len] at hown
 obtain ⟨a3,c3,hv3,_⟩ := id hown
 subst hv3
 have HO3r : Hid (OwR (w.heap.size + 2) w3.heap.size w3 a3 rn E) := (OwR.wide (OwnW.ow hown) hs2 (Nat.le_refl _)).imp id fun ⟨b,e,h1,h2,h3,h4⟩ => ⟨b,e,h1,h2,fun i hi => by have := h3 i hi; rw [listW_nw _ _ _ hi] at this; exact this,h4⟩
 have HV3 : Hid (Blk w3 w.heap.size [.int .i64 z, .int .i64 x, .int .i64 y, .int .i64 wd, .int .i64 ht, .int .i64 now, .int .i64 s, .slice a n c, .slice (some ad) rn rc, .int .i64 bad]) := HV2.out.below HV2.out.lt hb3
 have HO3 : Hid (Blk w3 (w.heap.size + 1) [.int .i64 0, .int .i64 0, .int .i64 0, .int .i64 0, .int .i64 0, .int .i64 0, .int .i64 0, .slice none 0 0, .slice none 0 0, .int .i64 0]) := HO2.out.below HO2.out.lt hb3
 have HB3 : Hid (Below w.heap.size w w3) := bl_then HB2.out hb3
 have HL3 : Hid (∀ V,GrF (w.heap.size + 2) none w3 V → CaF V a n A R) := fun V hV => HL2.out V (hV.of_below hb3)
 have hs3 : w.heap.size + 2 ≤ w3.heap.size := by have := hb3.size; omega
 have hv3 := HV3.out
 have ho3 := HO3.out
 clear v0 f0
 clear v1 f1
 clear v2 f2
 clear v3 f3
 clear v4 f4
 clear v5 f5
 clear v6 f6
 clear v7 f7
 clear v8 f8
 clear v9 f9
 have v0 := hv3.cell 0 rfl
 have v1 := hv3.cell 1 rfl
 have v2 := hv3.cell 2 rfl
 have v3 := hv3.cell 3 rfl
 have v4 := hv3.cell 4 rfl
 have v5 := hv3.cell 5 rfl
 have v6 := hv3.cell 6 rfl
 have v7 := hv3.cell 7 rfl
 have v8 := hv3.cell 8 rfl
 have v9 := hv3.cell 9 rfl
 have f0 := hv3.free 0 rfl
 have f1 := hv3.free 1 rfl
 have f2 := hv3.free 2 rfl
 have f3 := hv3.free 3 rfl
 have f4 := hv3.free 4 rfl
 have f5 := hv3.free 5 rfl
 have f6 := hv3.free 6 rfl
 have f7 := hv3.free 7 rfl
 have f8 := hv3.free 8 rfl
 have f9 := hv3.free 9 rfl
 have o0 := ho3.cell 0 rfl
 have o1 := ho3.cell 1 rfl
 have o2 := ho3.cell 2 rfl
 have o3 := ho3.cell 3 rfl
 have o4 := ho3.cell 4 rfl
 have o5 := ho3.cell 5 rfl
 have o6 := ho3.cell 6 rfl
 have o7 := ho3.cell 7 rfl
 have o8 := ho3.cell 8 rfl
 have o9 := ho3.cell 9 rfl
 have g0 := ho3.free 0 rfl
 have g1 := ho3.free 1 rfl
 have g2 := ho3.free 2 rfl
 have g3 := ho3.free 3 rfl
 have g4 := ho3.free 4 rfl
 have g5 := ho3.free 5 rfl
 have g6 := ho3.free 6 rfl
 have g7 := ho3.free 7 rfl
 have g8 := ho3.free 8 rfl
 have g9 := ho3.free 9 rfl
 clear hrow hb3 hown HC HV2 HO2 HL2 HB2 hv3 ho3
 go_wp2_with fail
 generalize hwF : (World.setCell _ _ _ : World) = wF
 have HBk : Hid (Blk wF (w.heap.size + 1) [.int .i64 z, .int .i64 x, .int .i64 y, .int .i64 wd, .int .i64 ht, .int .i64 now, .int .i64 s, .slice a n c, .slice a3 rn c3, .int .i64 bad]) := by show Blk _ _ _; subst hwF; exact ((((((((((((HO3.out.other (by omega)).set 0 _).set 1 _).set 2 _).set 3 _).set 4 _).set 5 _).set 6 _).set 7 _).set 8 _).set 9 _))
 have HM : Hid (MidB w.heap.size (w.heap.size + 2) w3 wF) := by show MidB _ _ _ _; subst hwF; exact ((((((((((((MidB.refl _ _ _).set (Nat.le_refl _) (by omega) _ _).set (by omega) (by omega) _ _).set (by omega) (by omega) _ _).set (by omega) (by omega) _ _).set (by omega) (by omega) _ _).set (by omega) (by omega) _ _).set (by omega) (by omega) _ _).set (by omega) (by omega) _ _).set (by omega) (by omega) _ _).set (by omega) (by omega) _ _).set (by omega) (by omega) _ _)
 clear hwF
 refine bodyPost_ret (resCopy rfl HBk.out) rfl ⟨a,c,R,a3,c3,rfl,fun V hV => HL3.out V ⟨hV.os.trans HM.out.os,hV.tape.trans HM.out.tape,hV.output.trans HM.out.output,Nat.le_trans HM.out.size hV.size,fun j h1 h2 h3 => (hV.block j h1 (Nat.lt_of_lt_of_le h2 HM.out.size) h3).trans (HM.out.block j h2 (.inr h1))⟩,(HO3r.out.mid HM.out (.inl (Nat.le_refl _))).wide (Nat.le_refl _) HM.out.size,HB3.out.trans (HM.out.below (by omega))⟩
end Go.Proofs.YtiephlohemphjaaGreat
