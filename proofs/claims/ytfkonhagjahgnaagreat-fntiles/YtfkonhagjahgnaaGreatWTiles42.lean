/- Texts. -/
import Derived.Test.YtfkonhagjahgnaaGreatWTiles41
set_option linter.unusedSimpArgs false
set_option linter.unusedVariables false
set_option maxRecDepth 100000
set_option maxHeartbeats 32000000
namespace Go.Proofs.YtfkonhagjahgnaaGreat
open Go.RowKit
theorem l4Box_any {o : Nat} (q : Nat) (id la ki wi z : Int) (b off n cap : Nat) (X Y : Nat → Int) (lab : ByteArray) (pr : Int) (w : World) (hf : FeatAt w q o id la ki wi (.slice (some ⟨b,off,none⟩) n cap) lab pr) (hp : PtsAt w b off n X Y) (hbl : b < w.heap.size) (hn0 : 0 < n) (hn : n ≤ 40) (hin : ∀ i,i < n → inW (X i) (Y i) = true) (hw : 0 ≤ wi ∧ wi ≤ 3) (hz : zoomB z = true) :
  Calls Tryz.prog 56 #[.pointer (some ⟨q,o,none⟩), .int .i64 z] w fun e w' => e = .returned (wideV (dblL X Y n) (reachI wi z)) ∧ Below w.heap.size w w' := by
 have HF : Hid (FeatAt w q o id la ki wi (.slice (some ⟨b,off,none⟩) n cap) lab pr) := hf
 have hql : q < w.heap.size := World.block_lt_of_cell? _ _ hf.1
 have HP : Hid (PtsAt w b off n X Y) := hp
 have HW : Hid (0 ≤ wi ∧ wi ≤ 3) := hw
 have hrb := reach_bd hw hz
 obtain ⟨hbx,hby⟩ := dbl_bd X Y n hin
 obtain ⟨m1,m2⟩ := mnTo_bd _ 0 2048 n hn0 hbx
 obtain ⟨m3,m4⟩ := mnTo_bd _ 0 2048 n hn0 hby
 obtain ⟨m5,m6⟩ := mxTo_bd _ 0 2048 n hn0 hbx
 obtain ⟨m7,m8⟩ := mxTo_bd _ 0 2048 n hn0 hby
 have HV : Hid (wideV (dblL X Y n) (reachI wi z) = .agg #[.int .i64 (mnTo (px (dblL X Y n)) n - reachI wi z), .int .i64 (mnTo (py (dblL X Y n)) n - reachI wi z), .int .i64 (mxTo (px (dblL X Y n)) n + reachI wi z), .int .i64 (mxTo (py (dblL X Y n)) n + reachI wi z)]) := by
  show wideV _ _ = _
  unfold wideV
  rw [dblL_len]
 rw [HV.out]
 have Hdb : Hid (∀ w,PtsAt w b off n X Y → b < w.heap.size → Calls Tryz.prog 96 #[.slice (some ⟨b,off,none⟩) n cap] w fun e w' => ∃ g cg,e = .returned (.slice (some ⟨g,0,none⟩) n cg) ∧ g < w'.heap.size ∧ n ≤ cg ∧ PtsAt w' g 0 n (px (dblL X Y n)) (py (dblL X Y n)) ∧ Below w.heap.size w w') := fun w h1 h2 => l4Doubled_at b off n cap X Y w h1 h2 hn0 hn hin
 have Hbox : Hid (∀ g cg w,PtsAt w g 0 n (px (dblL X Y n)) (py (dblL X Y n)) → g < w.heap.size → n ≤ cg → Calls Tryz.prog 95 #[.slice (some ⟨g,0,none⟩) n cg] w fun e w' => e = .returned (.agg #[.int .i64 (mnTo (px (dblL X Y n)) n), .int .i64 (mnTo (py (dblL X Y n)) n), .int .i64 (mxTo (px (dblL X Y n)) n), .int .i64 (mxTo (py (dblL X Y n)) n)]) ∧ Below w.heap.size w w') := fun g cg w h1 h2 h3 => l1Box_any g n cg _ _ w h1 h2 hn0 h3 (by omega)
 have Hre : Hid (∀ w,w.cell? ⟨q,o + 3,none⟩ = some (.int .i64 wi) → Calls Tryz.prog 97 #[.pointer (some ⟨q,o,none⟩), .int .i64 z] w fun e w' => e = .returned (.int .i64 (reachI wi z)) ∧ Below w.heap.size w w') := fun w h => l4Reach_any q o wi z w h hw hz
 generalize mnTo (px (dblL X Y n)) n = a1 at *
 generalize mnTo (py (dblL X Y n)) n = a2 at *
 generalize mxTo (px (dblL X Y n)) n = a3 at *
 generalize mxTo (py (dblL X Y n)) n = a4 at *
 generalize reachI wi z = r at *
 generalize dblL X Y n = D at *
 obtain ⟨q0,q1,q2,q3,q4,q5,q6⟩ := hf
 clear hp hin hbx hby hw HV
 go_enter Tryz.func56,Tryz.ntmps56
 go_wp2_with fail
 generalize hW : (w.alloc _ : World) = W
 have hB0 : Below w.heap.size w W := by subst hW; (repeat (first|exact Qr _ _|assumption|refine Qd ?_|refine Qa ?_ _|refine Qt ?_|refine Qs ?_ _|refine Qo ?_ ?_ _ _))
 have HT : Hid (There W w.heap.size 4) := by
  show There _ _ _
  subst hW
  exact there4 w (.int .i64 0) (.int .i64 0) (.int .i64 0) (.int .i64 0) 93
 have hsW : w.heap.size < W.heap.size := by subst hW; simp
 clear hW
 clear q0 q1 q2 q3 q4 q5 q6
 refine (Hdb.out W (HP.out.below hB0 hbl) (Nat.lt_of_lt_of_le hbl hB0.size)).mono ?_
 rintro e w1 ⟨g,cg,rfl,hgl,hcg,hPg,hb1⟩
 have HB1 : Hid (Below w.heap.size w w1) := bl_then hB0 hb1
 have HT1 : Hid (There w1 w.heap.size 4) := HT.out.below hb1
 have hs1 : w.heap.size < w1.heap.size := Nat.lt_of_lt_of_le hsW hb1.size
 have HPg : Hid (PtsAt w1 g 0 n (px D) (py D)) := hPg
 clear hb1 hB0 hPg HT
 go_wp2_with fail
 refine (Hbox.out g cg w1 HPg.out hgl hcg).mono ?_
 rintro e w2 ⟨rfl,hb2⟩
 have HB2 : Hid (Below w.heap.size w w2) := bl_then HB1.out hb2
 have HT2 : Hid (There w2 w.heap.size 4) := HT1.out.below hb2
 have hs2 : w.heap.size < w2.heap.size := Nat.lt_of_lt_of_le hs1 hb2.size
 clear hb2
 go_wp2_with fail
 generalize hV : (w2.alloc _ : World) = V
 have hbV : Below w2.heap.size w2 V := by subst hV; (repeat (first|exact Qr _ _|assumption|refine Qd ?_|refine Qa ?_ _|refine Qt ?_|refine Qs ?_ _|refine Qo ?_ ?_ _ _))
 have d0 : ∀ W',Below V.heap.size V W' → W'.cell? ⟨w2.heap.size,0,none⟩ = some (.int .i64 a1) := fun W' h => by
  rw [h.cell (by subst hV; simp)]; subst hV; simp [go_sem]
 have d1 : ∀ W',Below V.heap.size V W' → W'.cell? ⟨w2.heap.size,1,none⟩ = some (.int .i64 a2) := fun W' h => by
  rw [h.cell (by subst hV; simp)]; subst hV; simp [go_sem]
 have d2 : ∀ W',Below V.heap.size V W' → W'.cell? ⟨w2.heap.size,2,none⟩ = some (.int .i64 a3) := fun W' h => by
  rw [h.cell (by subst hV; simp)]; subst hV; simp [go_sem]
 have d3 : ∀ W',Below V.heap.size V W' → W'.cell? ⟨w2.heap.size,3,none⟩ = some (.int .i64 a4) := fun W' h => by
  rw [h.cell (by subst hV; simp)]; subst hV; simp [go_sem]
 clear hV
 have HBV : Hid (Below w.heap.size w V) := bl_then HB2.out hbV
 refine (Hre.out V (HF.out.below HBV.out hql).2.2.2.1).mono ?_
 rintro e w3 ⟨rfl,hb3⟩
 have hT' := (HT2.out.below hbV).below hb3
 have HT3 : Hid (There w3 w.heap.size 4) := hT'
 have t0 := hT'.cell 0 (by omega)
 have t1 := hT'.cell 1 (by omega)
 have t2 := hT'.cell 2 (by omega)
 have t3 := hT'.cell 3 (by omega)
 have z0 := (hT' 0 (by omega)).2
 have z1 := (hT' 1 (by omega)).2
 have z2 := (hT' 2 (by omega)).2
 have z3 := (hT' 3 (by omega)).2
 have e0 := d0 w3 hb3
 have e1 := d1 w3 hb3
 have e2 := d2 w3 hb3
 have e3 := d3 w3 hb3
 have HB3 : Hid (Below w.heap.size w w3) := bl_then HBV.out hb3
 have hs3 : w.heap.size < w3.heap.size := Nat.lt_of_lt_of_le hs2 (Nat.le_trans hbV.size hb3.size)
 clear hT' d0 d1 d2 d3 hb3 hbV
 go_wp2_with fail
 obtain ⟨s0,s1,s2,s3⟩ := set4_at (a := .int .i64 (a1 - r)) (b := .int .i64 (a2 - r)) (c := .int .i64 (a3 + r)) (d := .int .i64 (a4 + r)) HT3.out
 refine bodyPost_ret (v := .agg #[.int .i64 (a1 - r), .int .i64 (a2 - r), .int .i64 (a3 + r), .int .i64 (a4 + r)]) (by simp [results,Tryz.results56,go_sem,s0,s1,s2,s3]) rfl ⟨rfl,?_⟩
 have HB := HB3.out
 (repeat (first|exact Qr _ _|assumption|refine Qd ?_|refine Qa ?_ _|refine Qt ?_|refine Qs ?_ _|refine Qo ?_ ?_ _ _))
end Go.Proofs.YtfkonhagjahgnaaGreat
