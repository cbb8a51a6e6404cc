/- Texts. -/
import Derived.Test.YtpaiholildedcaaGreatVFrameOf31
set_option linter.unusedSimpArgs false
set_option linter.unusedVariables false
set_option maxRecDepth 100000
set_option maxHeartbeats 32000000
namespace Go.Proofs.YtpaiholildedcaaGreat
open Go.RowKit

theorem zBl {z x y wd ht now s:Int}{n:Nat}{K:Nat→Kp}{rn:Nat}{E:Nat→Req}{bad:Int}(h:viewC z x y wd ht now s n K rn E bad=0):zBh z x y wd ht=true∧cacheC s n K=0:=by
 have h1:or2 (uD z x y wd ht) (zDy now bad)=0:=by
  by_cases e:or2 (uD z x y wd ht) (zDy now bad)=0
  ·exact e
  ·rw [zCr e] at h;exact h
 have h2:or3 (cacheC s n K) (if s<4 then 3 else 0) (zU rn E)=0:=by
  by_cases e:or3 (cacheC s n K) (if s<4 then 3 else 0) (zU rn E)=0
  ·exact e
  ·rw [zBz h1 e] at h;exact h
 refine ⟨?_,(zFj h2).1⟩
 have h3:=(zFk h1).1
 unfold uD at h3
 by_cases e:zBh z x y wd ht=true
 ·exact e
 ·rw [if_neg e] at h3;cases h3
theorem zNu {b n i : Nat} {A : Nat → Kp} {z x y : Int} {W : World} (hi : i < n) (hn : nearK n A z.toNat (x / 8) (y / 8) = (i : Int)) (hp : xZ z x y = true) (h0 : ∀ j, j < n → kC A j = 0) (ha : zB7 W b n A) :
  Calls Tryz.prog 148 #[xD (A i).z (A i).x (A i).y, .slice (A i).ia (A i).m (A i).ic, .int .i64 z, .int .i64 x, .int .i64 y] W fun e w' => e = .returned (.int .i64 (frI n A z x y)) ∧ Bw W w' := by
 have hzz := zK (yC hp)
 have hpi := vO hp
 have hpb := xE (yC hp)
 rcases uG n A z.toNat (x / 8) (y / 8) with hn' | ⟨i', j, _, hn', hj, h1, h2, h3⟩
 ·omega
 ·obtain rfl : i' = i := by omega
  have hz3 : z ≤ 3 ∧ 0 ≤ z := by omega
  have hkz : z - (A i').z = (j : Int) := by rw [h1]; omega
  obtain ⟨hm, hrf⟩ := zQg (h0 i' hi)
  have hrb := zB1 hrf
  rcases (ha.2 i' hi).2.2 with h' | ⟨ib, io, e, hil, hns⟩
  ·omega
  ·rw [e, hm, zQj hn hkz]
   rw [hm] at hns
   have b1 := zFm (x := x) (j := j) (by omega) (by omega)
   have b2 := zFm (x := y) (j := j) (by omega) (by omega)
   rw [← h2] at b1
   rw [← h3] at b2
   exact zPo ib io (A i').ic j (A i').z (A i').x (A i').y z x y (A i').I W (by omega) hkz ⟨hrb.1.1, hrb.1.2⟩ hns hil hrb.2.1 hrb.2.2 (by omega) (by omega) b1 b2
theorem zN5 (args : Array Value) (w : World) : (callFunc 147 args).run Tryz.prog w = .ok (.enter 147 args) w := by
 have h1 : (Tryz.f147).name ≠ "runtime.NumGoroutine" := by
  have : ((Tryz.f147).name == "runtime.NumGoroutine") = false := by kernel_rfl
  simpa using this
 have hb : ∃ c, (Tryz.f147).body = some c := ⟨_, rfl⟩
 obtain ⟨c, hb⟩ := hb
 simp [callFunc, Tryz.func147, h1, hb]
theorem zGv (bl p : Nat) (k : Kp) (z x y FV : Int) (w : World) (hbl : w.cell? ⟨bl, 0, none⟩ = some (.pointer (some ⟨p, 0, none⟩))) (h0 : w.cell? ⟨p, 0, none⟩ = some (.int .i64 z))
  (hI : ∀ W, Bw w W → Calls Tryz.prog 148 #[xD k.z k.x k.y, .slice k.ia k.m k.ic, .int .i64 z, .int .i64 x, .int .i64 y] W fun e w' => e = .returned (.int .i64 FV) ∧ Bw W w') :
  Calls Tryz.prog 147 #[kpV k, .int .i64 x, .int .i64 y, .pointer (some ⟨bl, 0, none⟩)] w fun e w' => e = .returned (.int .i64 FV) ∧ Bw w w' := by
 have hbll : bl < w.heap.size := World.block_lt_of_cell? _ _ hbl
 have hpl : p < w.heap.size := World.block_lt_of_cell? _ _ h0
 have HI : Hid (∀ W, Bw w W → Calls Tryz.prog 148 #[xD k.z k.x k.y, .slice k.ia k.m k.ic, .int .i64 z, .int .i64 x, .int .i64 y] W fun e w' => e = .returned (.int .i64 FV) ∧ Bw W w') := hI
 have cl : ∀ W', Bw w W' → W'.cell? ⟨bl, 0, none⟩ = some (.pointer (some ⟨p, 0, none⟩)) := fun W' h => (h.cell (p := ⟨bl, 0, none⟩) hbll).trans hbl
 have cz : ∀ W', Bw w W' → W'.cell? ⟨p, 0, none⟩ = some (.int .i64 z) := fun W' h => (h.cell (p := ⟨p, 0, none⟩) hpl).trans h0
 clear hI hbl h0
 go_enter Tryz.func147, Tryz.ntmps147
 go_wp2_with fail
 generalize hU : (w.alloc _ : World) = U
 have HBU : Hid (Bw w U) := by show Below _ _ _; subst hU; exact Qb
 have HCU : Hid (Blk U w.heap.size [.int .i64 k.z, .int .i64 k.x, .int .i64 k.y, .slice k.fa k.fn k.fc, .slice k.ia k.m k.ic]) := by show Blk _ _ _; subst hU; exact Blk.new w _ _
 have hul : w.heap.size < U.heap.size := HCU.out.lt
 clear hU
 have dl : ∀ W', Bw U W' → W'.cell? ⟨bl, 0, none⟩ = some (.pointer (some ⟨p, 0, none⟩)) := fun W' h => cl W' (zA HBU.out h)
 have dz : ∀ W', Bw U W' → W'.cell? ⟨p, 0, none⟩ = some (.int .i64 z) := fun W' h => cz W' (zA HBU.out h)
 obtain ⟨d0,d1,d2,d3,d4⟩ := Blk.g5 (b := U.heap.size) (v := U) fun W' h => (HCU.out.below hul h)
 clear cl cz hbll hpl
 refine wp_region_noPanic ?_
 refine wp_region_held_drew (S := fun W' => Bw U W') (by kernel_rfl) (by have := Below.refl U.heap.size U; exact Qb) (fun hHeld => ?_)
 have hX0a : Bw U U.drew := hHeld
 refine zE (i := 0) (d := some 8) rfl rfl ?_
 try simp only [Act.put, Qx, Qy, Qz]
 refine zE (i := 1) (d := some 9) rfl rfl ?_
 try simp only [Act.put, Qx, Qy, Qz]
 refine zE (i := 2) (d := some 10) rfl rfl ?_
 try simp only [Act.put, Qx, Qy, Qz]
 refine zE (i := 3) (d := some 11) rfl rfl ?_
 try simp only [Act.put, Qx, Qy, Qz]
 refine zE (i := 4) (d := some 12) rfl rfl ?_
 try simp only [Act.put, Qx, Qy, Qz]
 refine zE (i := 5) (d := some 13) rfl rfl ?_
 try simp only [Act.put, Qx, Qy, Qz]
 refine zE (i := 6) (d := some 14) rfl rfl ?_
 try simp only [Act.put, Qx, Qy, Qz]
 refine zE (i := 7) (d := some 15) rfl rfl ?_
 try simp only [Act.put, Qx, Qy, Qz]
 refine zE (i := 8) (d := some 16) rfl rfl ?_
 try simp only [Act.put, Qx, Qy, Qz]
 refine zE (i := 9) (d := some 17) rfl rfl ?_
 try simp only [Act.put, Qx, Qy, Qz]
 refine zE (i := 10) (d := some 18) rfl rfl ?_
 try simp only [Act.put, Qx, Qy, Qz]
 refine zE (i := 11) (d := some 19) rfl rfl ?_
 try simp only [Act.put, Qx, Qy, Qz]
 generalize U.drew = wk0a at *
 refine zO 12 fun K hK => ?_
 rw [if_pos (by rfl)]
 go_simp
 refine Calls.mono (HI.out _ (zA HBU.out hX0a)) ?_
 rintro e wk1a ⟨rfl, hb1a⟩
 have hX1a : Bw U wk1a := zA hX0a hb1a
 go_wp2_with fail
 refine hK.out _ _ (by assumption) (fun hHeld => ?_)
 clear hK K
 try simp only [Act.put, Qx, Qy, Qz]
 refine zE (i := 13) (d := some 7) rfl rfl ?_
 try simp only [Act.put, Qx, Qy, Qz]
 refine wpAnyH_done (by kernel_rfl) ?_ _
 refine NoPanic.normal ?_
 have HBF : Hid (Bw w wk1a) := zA HBU.out hX1a
 clear hX0a hb1a hX1a d0 d1 d2 d3 d4 dl dz
 go_wp2_with fail
 go_ret
 exact ⟨rfl, HBF.out⟩
theorem zN6 (args : Array Value) (w : World) : (callFunc 190 args).run Tryz.prog w = .ok (.enter 190 args) w := by
 have h1 : (Tryz.f190).name ≠ "runtime.NumGoroutine" := by
  have : ((Tryz.f190).name == "runtime.NumGoroutine") = false := by kernel_rfl
  simpa using this
 have hb : ∃ c, (Tryz.f190).body = some c := ⟨_, rfl⟩
 obtain ⟨c, hb⟩ := hb
 simp [callFunc, Tryz.func190, h1, hb]
theorem zJd (bl bi p sp mb f : Nat) (caps : Array Value) (z x y FV : Int) (s : Int) (n : Nat) (A : Nat → Kp) (w : World) (hbl : w.cell? ⟨bl, 0, none⟩ = some (.pointer (some ⟨p, 0, none⟩))) (hbi : w.cell? ⟨bi, 0, none⟩ = some (.func (.func f) #[] caps)) (h0z : w.cell? ⟨p, 0, none⟩ = some (.int .i64 z)) (h6 : w.cell? ⟨p, 6, none⟩ = some (.pointer (some ⟨sp, 0, none⟩))) (hsh : ShN w sp mb s n A) (h0 : ∀ j, j < n → kC A j = 0) (hp : xZ z x y = true)
  (hce : ∀ args w, (callFunc f args).run Tryz.prog w = .ok (.enter f args) w) (hno : nearK n A z.toNat (x / 8) (y / 8) = -1 → FV = 0)
  (hF : ∀ i : Nat, i < n → nearK n A z.toNat (x / 8) (y / 8) = (i : Int) → ∀ W, Bw w W → Calls Tryz.prog f (#[kpV (A i), .int .i64 x, .int .i64 y] ++ caps) W fun e w' => e = .returned (.int .i64 FV) ∧ Bw W w') :
  Calls Tryz.prog 190 #[.int .i64 x, .int .i64 y, .pointer (some ⟨bl, 0, none⟩), .pointer (some ⟨bi, 0, none⟩)] w fun e w' => e = .returned (.int .i64 FV) ∧ Bw w w' := by
 have hzz := zK (yC hp)
 have hpi := vO hp
 have hpb := xE (yC hp)
 have HRA : Hid (∀ W, Calls Tryz.prog 174 #[.int .i64 z, .int .i64 x, .int .i64 y] W fun e w' => e = .returned (rrV 0 z (x / 8) (y / 8)) ∧ Bw W w') := fun W => by
  have := zAn z x y W
  rw [show atV z x y = rrV 0 z (x / 8) (y / 8) by simp [atV, hp]] at this
  exact this
 have HNr : Hid (∀ W, Bw w W → Calls Tryz.prog 191 #[.pointer (some ⟨sp, 0, none⟩), xD z (x / 8) (y / 8)] W fun e w' => e = .returned (.tuple #[nrV n A (nearK n A z.toNat (x / 8) (y / 8)), .bool (decide (0 ≤ nearK n A z.toNat (x / 8) (y / 8)))]) ∧ Bw W w') := fun W h => zB9 sp mb n s A z (x / 8) (y / 8) W (hsh.below h) h0 (zNb hp)
 have hbll : bl < w.heap.size := World.block_lt_of_cell? _ _ hbl
 have hbzl : bi < w.heap.size := World.block_lt_of_cell? _ _ hbi
 have c6 : ∀ W', Bw w W' → W'.cell? ⟨p, 6, none⟩ = some (.pointer (some ⟨sp, 0, none⟩)) := fun W' h => (h.cell (World.block_lt_of_cell? _ _ h6)).trans h6
 have c0 : ∀ W', Bw w W' → W'.cell? ⟨p, 0, none⟩ = some (.int .i64 z) := fun W' h => (h.cell (World.block_lt_of_cell? _ _ h0z)).trans h0z
 have cl : ∀ W', Bw w W' → W'.cell? ⟨bl, 0, none⟩ = some (.pointer (some ⟨p, 0, none⟩)) := fun W' h => (h.cell (p := ⟨bl, 0, none⟩) hbll).trans hbl
 have cz : ∀ W', Bw w W' → W'.cell? ⟨bi, 0, none⟩ = some (.func (.func f) #[] caps) := fun W' h => (h.cell (p := ⟨bi, 0, none⟩) hbzl).trans hbi
 have i1 : ∀ w, (Instr.field 230 (.agg #[.int .i64 0, .int .i64 z, .int .i64 (x / 8), .int .i64 (y / 8)]) 1).run Tryz.prog w = .ok (.agg #[.int .i64 z, .int .i64 (x / 8), .int .i64 (y / 8)]) w := fun _ => by kernel_rfl
 obtain ⟨k, ok, HN2, HF0, HI⟩ : ∃ (k : Kp) (ok : Bool), Hid (∀ W, Bw w W → Calls Tryz.prog 191 #[.pointer (some ⟨sp, 0, none⟩), xD z (x / 8) (y / 8)] W fun e w' => e = .returned (.tuple #[kpV k, .bool ok]) ∧ Bw W w') ∧ Hid (ok = false → FV = 0) ∧ Hid (ok = true → ∀ W, Bw w W → Calls Tryz.prog f (#[kpV k, .int .i64 x, .int .i64 y] ++ caps) W fun e w' => e = .returned (.int .i64 FV) ∧ Bw W w') := by
  rcases uG n A z.toNat (x / 8) (y / 8) with hn | ⟨i, j, hi, hn, hj, h1, h2, h3⟩
  ·refine ⟨⟨0, 0, 0, none, 0, 0, fun _ => ⟨0, 0, 0, 0, none, 0, 0, fun _ => 0, fun _ => 0, ⟨#[]⟩, 0⟩, none, 0, 0, fun _ => 0⟩, false, (show Hid (∀ W, Bw w W → _) from fun W h => ?_), (show Hid (false = false → _) from fun _ => hno hn), (show Hid (false = true → _) from fun h => by cases h)⟩
   have := HNr.out W h
   rw [hn] at this
   unfold nrV at this
   rw [if_neg (by omega), decide_eq_false (by omega)] at this
   exact this
  ·refine ⟨A i, true, (show Hid (∀ W, Bw w W → _) from fun W h => ?_), (show Hid (true = false → _) from fun h => by cases h), (show Hid (true = true → ∀ W, Bw w W → _) from fun _ W h => hF i hi hn W h)⟩
   have := HNr.out W h
   rw [hn] at this
   unfold nrV at this
   rw [if_pos (by omega), decide_eq_true (by omega), Int.toNat_natCast] at this
   exact this
 clear HNr hsh h0 hp hzz hpi hpb h6 hbl hbi h0z hno hF
 generalize x / 8 = X at *
 generalize y / 8 = Y at *
 go_enter Tryz.func190, Tryz.ntmps190
 go_wp2_with fail
 refine wp_region_noPanic ?_
 refine wp_region_held_drew (S := fun W' => Bw w W') (by kernel_rfl) (by have := Below.refl w.heap.size w; exact Qb) (fun hHeld => ?_)
 have hX0a : Bw w w.drew := hHeld
 refine zE (i := 0) (d := some 10) rfl rfl ?_
 try simp only [Act.put, Qx, Qy, Qz]
 refine zE (i := 1) (d := some 11) rfl rfl ?_
 try simp only [Act.put, Qx, Qy, Qz]
 refine zE (i := 2) (d := some 12) rfl rfl ?_
 try simp only [Act.put, Qx, Qy, Qz]
 refine zE (i := 3) (d := some 13) rfl rfl ?_
 try simp only [Act.put, Qx, Qy, Qz]
 refine zE (i := 4) (d := some 14) rfl rfl ?_
 try simp only [Act.put, Qx, Qy, Qz]
 refine zE (i := 5) (d := some 15) rfl rfl ?_
 try simp only [Act.put, Qx, Qy, Qz]
 refine zE (i := 6) (d := some 16) rfl rfl ?_
 try simp only [Act.put, Qx, Qy, Qz]
 refine zE (i := 7) (d := some 17) rfl rfl ?_
 try simp only [Act.put, Qx, Qy, Qz]
 refine zE (i := 8) (d := some 18) rfl rfl ?_
 try simp only [Act.put, Qx, Qy, Qz]
 refine zE (i := 9) (d := some 19) rfl rfl ?_
 try simp only [Act.put, Qx, Qy, Qz]
 refine zE (i := 10) (d := some 20) rfl rfl ?_
 try simp only [Act.put, Qx, Qy, Qz]
 generalize w.drew = wk0a at *
 refine wpAnyH_ready (rs := [11, 17]) (by kernel_rfl) (by simp) ?_
 refine (AllReadyH.cons rfl (fun K hK => ?_) (AllReadyH.cons rfl (fun K hK => ?_) AllReadyH.nil))
 ·rw [if_pos (by rfl)]
  go_simp
  refine Calls.mono (HRA.out _) ?_
  rintro e wy1 ⟨rfl, hb1⟩
  have hY1 : Bw w wy1 := zA hX0a hb1
  go_wp2_with fail
  refine hK.out _ _ hY1 (fun hHeld => ?_)
  clear hK K
  try simp only [Act.put, Qx, Qy, Qz]
  refine zE (i := 12) (d := some 22) rfl rfl ?_
  try simp only [Act.put, Qx, Qy, Qz]
  refine wpAnyH_ready (rs := [13, 17]) (by kernel_rfl) (by simp) ?_
  refine (AllReadyH.cons rfl (fun K hK => ?_) (AllReadyH.cons rfl (fun K hK => ?_) AllReadyH.nil))
  ·rw [if_pos (by rfl)]
   go_simp
   refine Calls.mono (HN2.out _ hY1) ?_
   rintro e wy3 ⟨rfl, hb3⟩
   have hY3 : Bw w wy3 := zA hY1 hb3
   go_wp2_with fail
   refine hK.out _ _ hY3 (fun hHeld => ?_)
   clear hK K
   try simp only [Act.put, Qx, Qy, Qz]
   refine zE (i := 14) (d := some 9) rfl rfl ?_
   try simp only [Act.put, Qx, Qy, Qz]
   refine zE (i := 15) (d := some 24) rfl rfl ?_
   try simp only [Act.put, Qx, Qy, Qz]
   refine zE (i := 16) (d := some 25) rfl rfl ?_
   try simp only [Act.put, Qx, Qy, Qz]
   refine zO 17 fun K hK => ?_
   rw [if_pos (by rfl)]
   go_simp
   generalize hwA : (World.alloc _ _ : World) = wy7
   have hb7 : Bw wy3 wy7 := by subst hwA; exact Qb
   have hT7 : zC wy7 wy3.heap.size 5 := by subst hwA; exact zBn wy3 _ _ _ _ _ _
   have hl7 : w.heap.size ≤ wy3.heap.size := hY3.size
   have hm7 : wy3.heap.size < wy7.heap.size := by subst hwA; simp
   clear hwA
   have hY7 : Bw w wy7 := zA hY3 hb7
   refine hK.out _ _ hY7 (fun hHeld => ?_)
   clear hK K
   try simp only [Act.put, Qx, Qy, Qz]
   have hT' := hT7
   have t0 := hT'.cell 0 (by omega)
   have t1 := hT'.cell 1 (by omega)
   have t2 := hT'.cell 2 (by omega)
   have t3 := hT'.cell 3 (by omega)
   have t4 := hT'.cell 4 (by omega)
   have f0 := (hT' 0 (by omega)).2
   have f1 := (hT' 1 (by omega)).2
   have f2 := (hT' 2 (by omega)).2
   have f3 := (hT' 3 (by omega)).2
   have f4 := (hT' 4 (by omega)).2
   refine zO 18 fun K hK => ?_
   rw [if_pos (by rfl)]
   go_simp
   generalize hwF : (World.setCell _ _ _ : World) = wF
   have HLk : Hid (wF = zCb wy7 wy3.heap.size 0 k) := by show _ = _; subst hwF; rfl
   have hM : zR wy3.heap.size (wy3.heap.size + 1) wy7 wF := by rw [HLk.out]; exact uK _ _ _ _
   have hAt : zGc wF wy3.heap.size 0 k := by rw [HLk.out]; exact zAt hT7 (by omega)
   have hBF : Bw w wF := hY7.trans ((hM.below (by have := hm7; omega)).mono hl7)
   refine hK.out _ _ hBF (fun hHeld => ?_)
   clear hK K
   try simp only [Act.put, Qx, Qy, Qz]
   refine zE (i := 19) (d := some 8) rfl rfl ?_
   try simp only [Act.put, Qx, Qy, Qz]
   refine wpAnyH_done (by kernel_rfl) ?_ _
   refine NoPanic.normal ?_
   have HBF : Hid (Bw w wF) := hBF
   obtain ⟨d0, d1, d2, d3, d4⟩ := hAt
   simp only [Nat.zero_add] at d1 d2 d3 d4
   have e3 := cz wF hBF
   clear hT' hwF HLk hM hBF hHeld c0 c6 cl cz HRA HN2 t0 f0 t1 f1 t2 f2 t3 f3 t4 f4
   cases ok
   ·have HE := (show Hid _ from HF0.out rfl)
    clear HI HF0
    go_wp2_with fail
    go_ret
    exact ⟨zD HE.out.symm, HBF.out⟩
   ·have HI2 := (show Hid _ from HI.out rfl wF HBF.out)
    clear HI HF0
    go_wp2_with fail
    refine Calls.mono HI2.out ?_
    rintro e wG ⟨rfl, hbG⟩
    have HBG : Hid (Bw w wG) := zA HBF.out hbG
    clear hbG HI2 d0 d1 d2 d3 d4 e3
    go_wp2_with fail
    go_ret
    exact ⟨rfl, HBG.out⟩
  ·rw [if_pos (by rfl)]
   go_simp
   generalize hwA : (World.alloc _ _ : World) = wy9
   have hb9 : Bw wy1 wy9 := by subst hwA; exact Qb
   have hT9 : zC wy9 wy1.heap.size 5 := by subst hwA; exact zBn wy1 _ _ _ _ _ _
   have hl9 : w.heap.size ≤ wy1.heap.size := hY1.size
   have hm9 : wy1.heap.size < wy9.heap.size := by subst hwA; simp
   clear hwA
   have hY9 : Bw w wy9 := zA hY1 hb9
   refine hK.out _ _ hY9 (fun hHeld => ?_)
   clear hK K
   try simp only [Act.put, Qx, Qy, Qz]
   refine zO 13 fun K hK => ?_
   rw [if_pos (by rfl)]
   go_simp
   refine Calls.mono (HN2.out _ hY9) ?_
   rintro e wy10 ⟨rfl, hb10⟩
   have hY10 : Bw w wy10 := zA hY9 hb10
   have hT10 := hT9.below hb10
   have hm10 := Nat.lt_of_lt_of_le hm9 hb10.size
   go_wp2_with fail
   refine hK.out _ _ hY10 (fun hHeld => ?_)
   clear hK K
   try simp only [Act.put, Qx, Qy, Qz]
   refine zE (i := 14) (d := some 9) rfl rfl ?_
   try simp only [Act.put, Qx, Qy, Qz]
   refine zE (i := 15) (d := some 24) rfl rfl ?_
   try simp only [Act.put, Qx, Qy, Qz]
   refine zE (i := 16) (d := some 25) rfl rfl ?_
   try simp only [Act.put, Qx, Qy, Qz]
   have hT' := hT10
   have t0 := hT'.cell 0 (by omega)
   have t1 := hT'.cell 1 (by omega)
   have t2 := hT'.cell 2 (by omega)
   have t3 := hT'.cell 3 (by omega)
   have t4 := hT'.cell 4 (by omega)
   have f0 := (hT' 0 (by omega)).2
   have f1 := (hT' 1 (by omega)).2
   have f2 := (hT' 2 (by omega)).2
   have f3 := (hT' 3 (by omega)).2
   have f4 := (hT' 4 (by omega)).2
   refine zO 18 fun K hK => ?_
   rw [if_pos (by rfl)]
   go_simp
   generalize hwF : (World.setCell _ _ _ : World) = wF
   have HLk : Hid (wF = zCb wy10 wy1.heap.size 0 k) := by show _ = _; subst hwF; rfl
   have hM : zR wy1.heap.size (wy1.heap.size + 1) wy10 wF := by rw [HLk.out]; exact uK _ _ _ _
   have hAt : zGc wF wy1.heap.size 0 k := by rw [HLk.out]; exact zAt hT10 (by omega)
   have hBF : Bw w wF := hY10.trans ((hM.below (by have := hm10; omega)).mono hl9)
   refine hK.out _ _ hBF (fun hHeld => ?_)
   clear hK K
   try simp only [Act.put, Qx, Qy, Qz]
   refine zE (i := 19) (d := some 8) rfl rfl ?_
   try simp only [Act.put, Qx, Qy, Qz]
   refine wpAnyH_done (by kernel_rfl) ?_ _
   refine NoPanic.normal ?_
   have HBF : Hid (Bw w wF) := hBF
   obtain ⟨d0, d1, d2, d3, d4⟩ := hAt
   simp only [Nat.zero_add] at d1 d2 d3 d4
   have e3 := cz wF hBF
   clear hT' hwF HLk hM hBF hHeld c0 c6 cl cz HRA HN2 t0 f0 t1 f1 t2 f2 t3 f3 t4 f4
   cases ok
   ·have HE := (show Hid _ from HF0.out rfl)
    clear HI HF0
    go_wp2_with fail
    go_ret
    exact ⟨zD HE.out.symm, HBF.out⟩
   ·have HI2 := (show Hid _ from HI.out rfl wF HBF.out)
    clear HI HF0
    go_wp2_with fail
    refine Calls.mono HI2.out ?_
    rintro e wG ⟨rfl, hbG⟩
    have HBG : Hid (Bw w wG) := zA HBF.out hbG
    clear hbG HI2 d0 d1 d2 d3 d4 e3
    go_wp2_with fail
    go_ret
    exact ⟨rfl, HBG.out⟩
 ·rw [if_pos (by rfl)]
  go_simp
  generalize hwA : (World.alloc _ _ : World) = wy15
  have hb15 : Bw wk0a wy15 := by subst hwA; exact Qb
  have hT15 : zC wy15 wk0a.heap.size 5 := by subst hwA; exact zBn wk0a _ _ _ _ _ _
  have hl15 : w.heap.size ≤ wk0a.heap.size := hX0a.size
  have hm15 : wk0a.heap.size < wy15.heap.size := by subst hwA; simp
  clear hwA
  have hY15 : Bw w wy15 := zA hX0a hb15
  refine hK.out _ _ hY15 (fun hHeld => ?_)
  clear hK K
  try simp only [Act.put, Qx, Qy, Qz]
  refine zO 11 fun K hK => ?_
  rw [if_pos (by rfl)]
  go_simp
  refine Calls.mono (HRA.out _) ?_
  rintro e wy16 ⟨rfl, hb16⟩
  have hY16 : Bw w wy16 := zA hY15 hb16
  have hT16 := hT15.below hb16
  have hm16 := Nat.lt_of_lt_of_le hm15 hb16.size
  go_wp2_with fail
  refine hK.out _ _ hY16 (fun hHeld => ?_)
  clear hK K
  try simp only [Act.put, Qx, Qy, Qz]
  refine zE (i := 12) (d := some 22) rfl rfl ?_
  try simp only [Act.put, Qx, Qy, Qz]
  refine zO 13 fun K hK => ?_
  rw [if_pos (by rfl)]
  go_simp
  refine Calls.mono (HN2.out _ hY16) ?_
  rintro e wy18 ⟨rfl, hb18⟩
  have hY18 : Bw w wy18 := zA hY16 hb18
  have hT18 := hT16.below hb18
  have hm18 := Nat.lt_of_lt_of_le hm16 hb18.size
  go_wp2_with fail
  refine hK.out _ _ hY18 (fun hHeld => ?_)
  clear hK K
  try simp only [Act.put, Qx, Qy, Qz]
  refine zE (i := 14) (d := some 9) rfl rfl ?_
  try simp only [Act.put, Qx, Qy, Qz]
  refine zE (i := 15) (d := some 24) rfl rfl ?_
  try simp only [Act.put, Qx, Qy, Qz]
  refine zE (i := 16) (d := some 25) rfl rfl ?_
  try simp only [Act.put, Qx, Qy, Qz]
  have hT' := hT18
  have t0 := hT'.cell 0 (by omega)
  have t1 := hT'.cell 1 (by omega)
  have t2 := hT'.cell 2 (by omega)
  have t3 := hT'.cell 3 (by omega)
  have t4 := hT'.cell 4 (by omega)
  have f0 := (hT' 0 (by omega)).2
  have f1 := (hT' 1 (by omega)).2
  have f2 := (hT' 2 (by omega)).2
  have f3 := (hT' 3 (by omega)).2
  have f4 := (hT' 4 (by omega)).2
  refine zO 18 fun K hK => ?_
  rw [if_pos (by rfl)]
  go_simp
  generalize hwF : (World.setCell _ _ _ : World) = wF
  have HLk : Hid (wF = zCb wy18 wk0a.heap.size 0 k) := by show _ = _; subst hwF; rfl
  have hM : zR wk0a.heap.size (wk0a.heap.size + 1) wy18 wF := by rw [HLk.out]; exact uK _ _ _ _
  have hAt : zGc wF wk0a.heap.size 0 k := by rw [HLk.out]; exact zAt hT18 (by omega)
  have hBF : Bw w wF := hY18.trans ((hM.below (by have := hm18; omega)).mono hl15)
  refine hK.out _ _ hBF (fun hHeld => ?_)
  clear hK K
  try simp only [Act.put, Qx, Qy, Qz]
  refine zE (i := 19) (d := some 8) rfl rfl ?_
  try simp only [Act.put, Qx, Qy, Qz]
  refine wpAnyH_done (by kernel_rfl) ?_ _
  refine NoPanic.normal ?_
  have HBF : Hid (Bw w wF) := hBF
  obtain ⟨d0, d1, d2, d3, d4⟩ := hAt
  simp only [Nat.zero_add] at d1 d2 d3 d4
  have e3 := cz wF hBF
  clear hT' hwF HLk hM hBF hHeld c0 c6 cl cz HRA HN2 t0 f0 t1 f1 t2 f2 t3 f3 t4 f4
  cases ok
  ·have HE := (show Hid _ from HF0.out rfl)
   clear HI HF0
   go_wp2_with fail
   go_ret
   exact ⟨zD HE.out.symm, HBF.out⟩
  ·have HI2 := (show Hid _ from HI.out rfl wF HBF.out)
   clear HI HF0
   go_wp2_with fail
   refine Calls.mono HI2.out ?_
   rintro e wG ⟨rfl, hbG⟩
   have HBG : Hid (Bw w wG) := zA HBF.out hbG
   clear hbG HI2 d0 d1 d2 d3 d4 e3
   go_wp2_with fail
   go_ret
   exact ⟨rfl, HBG.out⟩
theorem zHk (p : Nat) (fn : Fn) (caps : Array Value) (w : World) :
  Calls Tryz.prog 146 #[.pointer (some ⟨p, 0, none⟩), .func fn #[] caps] w fun e w' => ∃ bl bi, e = .returned (.func (.func 190) #[] #[.pointer (some ⟨bl, 0, none⟩), .pointer (some ⟨bi, 0, none⟩)]) ∧ w'.cell? ⟨bl, 0, none⟩ = some (.pointer (some ⟨p, 0, none⟩)) ∧ w'.cell? ⟨bi, 0, none⟩ = some (.func fn #[] caps) ∧ Bw w w' := by
 have hmf : ∀ (fn : Fn) (first cap : Array Value) (w : World), (Instr.makeFunc fn first cap).run Tryz.prog w = .ok (.func fn first cap) w := fun _ _ _ _ => rfl
 go_enter Tryz.func146, Tryz.ntmps146
 go_wp2_with fail
 go_ret
 exact ⟨_, _, rfl, by simp [go_sem], by simp [go_sem], by (repeat (first|exact Qr _ _|assumption|refine Qd ?_|refine Qa ?_ _|refine Qt ?_|refine Qs ?_ _|refine Qo ?_ ?_ _ _))⟩
theorem zIt (p : Nat) (w : World) :
  Calls Tryz.prog 98 #[.pointer (some ⟨p, 0, none⟩)] w fun e w' => ∃ bl bi bq, e = .returned (.func (.func 190) #[] #[.pointer (some ⟨bl, 0, none⟩), .pointer (some ⟨bi, 0, none⟩)]) ∧ w'.cell? ⟨bl, 0, none⟩ = some (.pointer (some ⟨p, 0, none⟩)) ∧ w'.cell? ⟨bi, 0, none⟩ = some (.func (.func 147) #[] #[.pointer (some ⟨bq, 0, none⟩)]) ∧ w'.cell? ⟨bq, 0, none⟩ = some (.pointer (some ⟨p, 0, none⟩)) ∧ Bw w w' := by
 have hmf : ∀ (fn : Fn) (first cap : Array Value) (w : World), (Instr.makeFunc fn first cap).run Tryz.prog w = .ok (.func fn first cap) w := fun _ _ _ _ => rfl
 have HG : Hid (∀ fn caps W, Calls Tryz.prog 146 #[.pointer (some ⟨p, 0, none⟩), .func fn #[] caps] W fun e w' => ∃ bl bi, e = .returned (.func (.func 190) #[] #[.pointer (some ⟨bl, 0, none⟩), .pointer (some ⟨bi, 0, none⟩)]) ∧ w'.cell? ⟨bl, 0, none⟩ = some (.pointer (some ⟨p, 0, none⟩)) ∧ w'.cell? ⟨bi, 0, none⟩ = some (.func fn #[] caps) ∧ Bw W w') := fun fn caps W => zHk p fn caps W
 go_enter Tryz.func98, Tryz.ntmps98
 go_wp2_with fail
 generalize hU : (w.alloc _ : World) = U
 have HBU : Hid (Bw w U) := by show Below _ _ _; subst hU; exact Qb
 have HCU : Hid (Blk U w.heap.size [.pointer (some ⟨p, 0, none⟩)]) := by show Blk _ _ _; subst hU; exact Blk.new w _ _
 have hul : w.heap.size < U.heap.size := HCU.out.lt
 clear hU
 refine Calls.mono (HG.out _ _ _) ?_
 rintro e w1 ⟨bl, bi, rfl, h1, h2, hb⟩
 have HQ : Hid (w1.cell? ⟨w.heap.size, 0, none⟩ = some (.pointer (some ⟨p, 0, none⟩))) := (HCU.out.below hul hb).cell 0 rfl
 have HR : Hid (w1.cell? ⟨bl, 0, none⟩ = some (.pointer (some ⟨p, 0, none⟩)) ∧ w1.cell? ⟨bi, 0, none⟩ = some (.func (.func 147) #[] #[.pointer (some ⟨w.heap.size, 0, none⟩)])) := ⟨h1, h2⟩
 have HB : Hid (Bw w w1) := zA HBU.out hb
 clear h1 h2 hb HG
 go_wp2_with fail
 go_ret
 exact ⟨_, _, _, rfl, HR.out.1, HR.out.2, HQ.out, HB.out⟩
theorem zJf (p f : Nat) (caps : Array Value) (z x y wd ht : Int) (G : Int → Int → Int) (w : World) (hV : ∃ l, Blk w p (.int .i64 z :: .int .i64 x :: .int .i64 y :: .int .i64 wd :: .int .i64 ht :: l)) (hc : zBh z x y wd ht = true)
  (hce : ∀ args w, (callFunc f args).run Tryz.prog w = .ok (.enter f args) w)
  (hF : ∀ W c r, Bw w W → c < wd.toNat → r < ht.toNat → Calls Tryz.prog f (#[.int .i64 (x + (c : Nat)), .int .i64 (y + (r : Nat))] ++ caps) W fun e W' => e = .returned (.int .i64 (G (x + (c : Nat)) (y + (r : Nat)))) ∧ Bw W W') :
  Calls Tryz.prog 97 #[.pointer (some ⟨p, 0, none⟩), .func (.func f) #[] caps] w fun e w' => ∃ v, e = .returned v ∧ xJ w.heap.size w' v (xL G x y wd.toNat ht.toNat) ∧ Bw w w' := by
 obtain ⟨l, hV⟩ := hV
 have hpl : p < w.heap.size := hV.lt
 have hin := xT hc
 have hpb := xE (uB hc)
 obtain ⟨ew, eh⟩ : ((wd.toNat : Nat) : Int) = wd ∧ ((ht.toNat : Nat) : Int) = ht := by omega
 have HR : Hid (∀ W, Bw w W → Calls Tryz.prog 145 #[.int .i64 x, .int .i64 y, .int .i64 wd, .int .i64 ht, .func (.func f) #[] caps] W fun e w' => ∃ v, e = .returned v ∧ xJ W.heap.size w' v (xL G x y wd.toNat ht.toNat) ∧ Bw W w') := fun W hW => by
  have h := zB0 f caps x y wd.toNat ht.toNat G W (by omega) (by omega) (by omega) (by omega) hce (fun W' c r hW' hc' hr' => hF W' c r (zA hW hW') hc' hr')
  rw [ew, eh] at h
  exact h
 obtain ⟨c0,c1,c2,c3,c4⟩ := Blk.c5 hV
 clear hV hc hF hin hpb ew eh hce
 go_enter Tryz.func97, Tryz.ntmps97
 go_wp2_with fail
 generalize hU : (w.alloc _ : World) = U
 have HBU : Hid (Bw w U) := by show Below _ _ _; subst hU; exact Qb
 have HCU : Hid (Blk U w.heap.size [.int .i64 z, .int .i64 x, .int .i64 y, .int .i64 wd, .int .i64 ht]) := by show Blk _ _ _; subst hU; exact Blk.new w _ _
 have hul : w.heap.size < U.heap.size := HCU.out.lt
 clear hU c0 c1 c2 c3 c4
 obtain ⟨d0,d1,d2,d3,d4⟩ := Blk.c5 HCU.out
 go_wp2_with fail
 refine Calls.mono (HR.out _ HBU.out) ?_
 rintro e w1 ⟨v, rfl, hO, hb⟩
 obtain ⟨va, vc, hv, _, _⟩ := hO.own
 subst hv
 have HO : Hid (xJ w.heap.size w1 (.slice va _ vc) (xL G x y wd.toNat ht.toNat)) := hO.wide HBU.out.size
 have HB : Hid (Bw w w1) := zA HBU.out hb
 clear hO hb HR d0 d1 d2 d3 d4
 go_wp2_with fail
 go_ret
 exact ⟨_, rfl, HO.out, HB.out⟩
theorem zNy (B p b : Nat) (z x y wd ht now s : Int) (n : Nat) (A : Nat → Kp) (ra : Option Addr) (rn rc : Nat) (bad : Int) (w : World) (hL : LkA w B p z x y wd ht now s n A ra rn rc bad) (hc : zBh z x y wd ht = true) (h0 : ∀ j, j < n → kC A j = 0) (ha : zB7 w b n A) :
  Calls Tryz.prog 47 #[.pointer (some ⟨p, 0, none⟩)] w fun e w' => ∃ v, e = .returned v ∧ xJ w.heap.size w' v (xL (frI n A z) x y wd.toNat ht.toNat) ∧ Bw w w' := by
 obtain ⟨hB, sp, hV, hK, hne⟩ := hL
 have HV : Hid (Blk w p [.int .i64 z, .int .i64 x, .int .i64 y, .int .i64 wd, .int .i64 ht, .int .i64 now, .pointer (some ⟨sp, 0, none⟩), .slice ra rn rc, .int .i64 bad, .slice none 0 0]) := hV
 have HK : Hid (ShK w B sp s n A) := hK
 have HA : Hid (zB7 w b n A) := ha
 have hpl : p < w.heap.size := hV.lt
 have HP : Hid (∀ W, Bw w W → Calls Tryz.prog 98 #[.pointer (some ⟨p, 0, none⟩)] W fun e w' => ∃ bl bi bq, e = .returned (.func (.func 190) #[] #[.pointer (some ⟨bl, 0, none⟩), .pointer (some ⟨bi, 0, none⟩)]) ∧ w'.cell? ⟨bl, 0, none⟩ = some (.pointer (some ⟨p, 0, none⟩)) ∧ w'.cell? ⟨bi, 0, none⟩ = some (.func (.func 147) #[] #[.pointer (some ⟨bq, 0, none⟩)]) ∧ w'.cell? ⟨bq, 0, none⟩ = some (.pointer (some ⟨p, 0, none⟩)) ∧ Bw W w') := fun W _ => zIt p W
 have HR : Hid (∀ W bl bi bq, Bw w W → W.cell? ⟨bl, 0, none⟩ = some (.pointer (some ⟨p, 0, none⟩)) → W.cell? ⟨bi, 0, none⟩ = some (.func (.func 147) #[] #[.pointer (some ⟨bq, 0, none⟩)]) → W.cell? ⟨bq, 0, none⟩ = some (.pointer (some ⟨p, 0, none⟩)) → Calls Tryz.prog 97 #[.pointer (some ⟨p, 0, none⟩), .func (.func 190) #[] #[.pointer (some ⟨bl, 0, none⟩), .pointer (some ⟨bi, 0, none⟩)]] W fun e w' => ∃ v, e = .returned v ∧ xJ W.heap.size w' v (xL (frI n A z) x y wd.toNat ht.toNat) ∧ Bw W w') := fun W bl bi bq hW hbl hbi hbq => by
  have hin := xT hc
  obtain ⟨ew, eh⟩ : ((wd.toNat : Nat) : Int) = wd ∧ ((ht.toNat : Nat) : Int) = ht := by omega
  refine zJf p 190 #[.pointer (some ⟨bl, 0, none⟩), .pointer (some ⟨bi, 0, none⟩)] z x y wd ht (frI n A z) W ⟨_, HV.out.below hpl hW⟩ hc zN6 (fun W' c r hW' hc' hr' => ?_)
  have hWw := zA hW hW'
  obtain ⟨mb, _, _, h3, _, h5⟩ := HK.out.below hWw
  have hpx := zEr (by rw [ew, eh]; exact hc) c r hc' hr'
  exact zJd bl bi p sp mb 147 #[.pointer (some ⟨bq, 0, none⟩)] z _ _ (frI n A z _ _) s n A W' (zJ hW' hbl) (zJ hW' hbi) ((HV.out.below hpl hWw).cell 0 rfl) ((HV.out.below hpl hWw).cell 6 rfl) ⟨h3, h5⟩ h0 hpx zN5 (fun hn => zQi hn) (fun i hi hn W2 hW2 => zGv bq p (A i) z _ _ _ W2 (zJ hW2 (zJ hW' hbq)) ((HV.out.below hpl (zA hWw hW2)).cell 0 rfl) (fun W3 hW3 => zNu hi hn hpx h0 (HA.out.below (zA (zA hWw hW2) hW3))))
 clear hV hK h0 hc hB hne ha HV HK HA
 go_enter Tryz.func47, Tryz.ntmps47
 go_wp2_with fail
 refine Calls.mono (HP.out _ (Below.refl _ _)) ?_
 rintro e w1 ⟨bl, bi, bq, rfl, h1, h2, h3, hb1⟩
 have HRR := (show Hid _ from HR.out w1 bl bi bq hb1 h1 h2 h3)
 have HB1 : Hid (Bw w w1) := hb1
 clear h1 h2 h3 hb1 HR HP
 go_wp2_with fail
 refine Calls.mono HRR.out ?_
 rintro e w2 ⟨v, rfl, hO, hb2⟩
 obtain ⟨va, vc, hv, _, _⟩ := hO.own
 subst hv
 have HO : Hid (xJ w.heap.size w2 (.slice va _ vc) (xL (frI n A z) x y wd.toNat ht.toNat)) := hO.wide HB1.out.size
 have HB : Hid (Bw w w2) := zA HB1.out hb2
 clear hO hb2 HRR
 go_wp2_with fail
 go_ret
 exact ⟨_, rfl, HO.out, HB.out⟩
theorem zX.viewC {w:World}{B b n:Nat}{K A:Nat→Kp}(h:zX w B b n K A)(z x y wd ht now s:Int)(rn:Nat)(E:Nat→Req)(bad:Int):Go.Proofs.YtpaiholildedcaaGreat.viewC z x y wd ht now s n A rn E bad=Go.Proofs.YtpaiholildedcaaGreat.viewC z x y wd ht now s n K rn E bad:=by
 have e:zAp z x y wd ht n A E=zAp z x y wd ht n K E:=by
  funext i
  unfold zAp
  rw [h.atK _ _ _ n (Nat.le_refl _)]
 unfold Go.Proofs.YtpaiholildedcaaGreat.viewC
 rw [h.cacheC,e]

end Go.Proofs.YtpaiholildedcaaGreat
