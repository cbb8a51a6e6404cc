/- Texts. -/
import Derived.Test.YtiephlohemphjaaGreatVTickViewer28
set_option linter.unusedSimpArgs false
set_option linter.unusedVariables false
set_option maxRecDepth 100000
set_option maxHeartbeats 32000000
namespace Go.Proofs.YtiephlohemphjaaGreat
open Go.RowKit
def TileO (w : World) (q o : Nat) (z x y : Int) (v : Value) : Prop := w.cell? ⟨q,o,none⟩ = some (.int .i64 z) ∧ w.cell? ⟨q,o + 1,none⟩ = some (.int .i64 x) ∧ w.cell? ⟨q,o + 2,none⟩ = some (.int .i64 y) ∧ w.cell? ⟨q,o + 3,none⟩ = some v
theorem TileO.below {w w' : World} {q o B : Nat} {z x y : Int} {v : Value} (h : TileO w q o z x y v) (hb : Below B w w') (hq : q < B) : TileO w' q o z x y v :=
 ⟨(hb.cell (p := ⟨q,o,none⟩) hq).trans h.1,(hb.cell (p := ⟨q,o + 1,none⟩) hq).trans h.2.1,(hb.cell (p := ⟨q,o + 2,none⟩) hq).trans h.2.2.1,(hb.cell (p := ⟨q,o + 3,none⟩) hq).trans h.2.2.2⟩
theorem l8Raster_off (q o : Nat) (z X Y : Int) (b n cap : Nat) (G : Nat → Feat) (w : World) (ht : TileO w q o z X Y (.slice (some ⟨b,0,none⟩) n cap)) (hg : FsAt w b 0 n G) (hbl : b < w.heap.size) (hn : n ≤ 12) (hok : ∀ i,i < n → OkF (G i)) (hr : refB z X Y = true) :
  Calls Tryz.prog 110 #[.pointer (some ⟨q,o,none⟩)] w fun e w' => ∃ v,e = .returned v ∧ RowN w.heap.size w' v (rasK (paintF G n z) (X * 8) (Y * 8) 64) ∧ Below w.heap.size w w' := by
 obtain ⟨ii,hi,hz0,hz1,hz2⟩ := info_parts info_n64
 have hql : q < w.heap.size := World.block_lt_of_cell? _ _ ht.1
 have HP : Hid (∀ (W : World) (i : Nat),Below w.heap.size w W → i < 64 → Calls Tryz.prog 149 #[.slice (some ⟨b,0,none⟩) n cap, .int .i64 z, .int .i64 (X * 8 + ((i % 8 : Nat) : Int)), .int .i64 (Y * 8 + ((i / 8 : Nat) : Int))] W fun e w' => e = .returned (.int .i64 (paintF G n z (X * 8 + ((i % 8 : Nat) : Int)) (Y * 8 + ((i / 8 : Nat) : Int)))) ∧ Below W.heap.size W w') := fun W i hW hi =>
  l4Painted_any b n cap G z _ _ W (hg.below hW hbl) (Nat.lt_of_lt_of_le hbl hW.size) hn hok (pix_of_ref hr _ _ (by omega) (by omega))
 have HT : Hid (TileO w q o z X Y (.slice (some ⟨b,0,none⟩) n cap)) := ht
 obtain ⟨⟨z0,z1⟩,⟨x0,x1⟩,y0,y1⟩ := ref_bd hr
 clear hg hok hr ht
 generalize paintF G n z = F at *
 go_enter Tryz.func110,Tryz.ntmps110
 go_wp2_with fail
 generalize hW : (w.alloc _ : World) = W
 have HB0 : Hid (Below w.heap.size w W) := by show Below _ _ _; subst hW; exact Qb
 have HO0 : Hid (RowN w.heap.size W (.slice (some ⟨w.heap.size,0,none⟩) 0 0) (rasK F (X * 8) (Y * 8) 0)) := by
  show RowN _ _ _ _
  subst hW
  exact World.ownsRow_lit (base := w.heap.size) w #[] 0 (Nat.le_refl _) (Nat.zero_le _) rfl
 clear hW
 go_loopw [3,4] (fun v j wr => ∃ i : Nat,i ≤ 64 ∧ j = .int .i64 (i : Int) ∧ RowN w.heap.size wr v (rasK F (X * 8) (Y * 8) i) ∧ Below w.heap.size w wr) (fun _ j _ => 64 - (intOf j).toNat)
 case atStart => exact ⟨0,by omega,rfl,HO0.out,HB0.out⟩
 case round =>
  obtain ⟨i,hi64,rfl,hO,hB⟩ := hrel
  have HO0' : Hid (RowN w.heap.size wr u3 (rasK F (X * 8) (Y * 8) i)) := hO
  have HB : Hid (Below w.heap.size w wr) := hB
  clear hO hB
  by_cases hlt : i < 64
  ·have hi' : (i : Int) < 64 := by omega
   obtain ⟨m,hm⟩ : ∃ m : Nat,m = i % 8 := ⟨_,rfl⟩
   obtain ⟨p,hp⟩ : ∃ p : Nat,p = i / 8 := ⟨_,rfl⟩
   have hmb : m < 8 := by omega
   have hqb : p < 8 := by omega
   have em : (i : Int).tmod 8 = (m : Int) := by rw [Int.tmod_eq_emod_of_nonneg (by omega)]; omega
   have eq' : (i : Int).tdiv 8 = (p : Int) := by rw [Int.tdiv_eq_ediv_of_nonneg (by omega)]; omega
   have HSK : Hid (rasK F (X * 8) (Y * 8) (i + 1) = rasK F (X * 8) (Y * 8) i ++ [F (X * 8 + (m : Int)) (Y * 8 + (p : Int))]) := by show _ = _; rw [rasK_add,hm,hp]
   have HLn : Hid ((rasK F (X * 8) (Y * 8) i).length = i) := rasK_len _ _ _ _
   have HCU : Hid (∀ W',Below w.heap.size w W' → Calls Tryz.prog 149 #[.slice (some ⟨b,0,none⟩) n cap, .int .i64 z, .int .i64 (X * 8 + (m : Int)), .int .i64 (Y * 8 + (p : Int))] W' fun e w' => e = .returned (.int .i64 (F (X * 8 + (m : Int)) (Y * 8 + (p : Int)))) ∧ Below W'.heap.size W' w') := fun W' hb => by have := HP.out W' i hb hlt; rw [hm,hp]; exact this
   clear hm hp
   have c0 : ∀ W',Below w.heap.size w W' → W'.cell? ⟨q,o,none⟩ = some (.int .i64 z) := fun W' h => (HT.out.below h hql).1
   have c1 : ∀ W',Below w.heap.size w W' → W'.cell? ⟨q,o + 1,none⟩ = some (.int .i64 X) := fun W' h => (HT.out.below h hql).2.1
   have c2 : ∀ W',Below w.heap.size w W' → W'.cell? ⟨q,o + 2,none⟩ = some (.int .i64 Y) := fun W' h => (HT.out.below h hql).2.2.1
   have c3 : ∀ W',Below w.heap.size w W' → W'.cell? ⟨q,o + 3,none⟩ = some (.slice (some ⟨b,0,none⟩) n cap) := fun W' h => (HT.out.below h hql).2.2.2
   obtain ⟨va,vn,vc,hvs⟩ : ∃ va vn vc,u3 = .slice va vn vc := by
    obtain ⟨a',c',e',_,_⟩ := HO0'.out.own
    exact ⟨_,_,_,e'⟩
   subst hvs
   have HO := HO0'
   have HBS : Hid (∀ b,(Value.slice va vn vc).ownBlock = some b → w.heap.size ≤ b) := fun b hb => (World.ownsRow.lt HO.out b hb).1
   clear HO0'
   have mm0 : IntKind.i64.wrap (X * 8) = X * 8 := IntWalk.i64_in _ (by omega)
   have mm1 : IntKind.i64.wrap (Y * 8) = Y * 8 := IntWalk.i64_in _ (by omega)
   have ss0 : IntKind.i64.wrap (X * 8 + (m : Int)) = X * 8 + (m : Int) := IntWalk.i64_in _ (by omega)
   have ss1 : IntKind.i64.wrap (Y * 8 + (p : Int)) = Y * 8 + (p : Int) := IntWalk.i64_in _ (by omega)
   have qq1 : IntKind.i64.wrap (p : Int) = (p : Int) := IntWalk.i64_in _ (by omega)
   have qq0 : IntKind.i64.wrap (m : Int) = (m : Int) := IntWalk.i64_in _ (by omega)
   generalize F (X * 8 + (m : Int)) (Y * 8 + (p : Int)) = G0 at *
   have g0 := c0 wr HB.out
   have g1 := c1 wr HB.out
   have g2 := c2 wr HB.out
   have g3 := c3 wr HB.out
   go_wp2_with fail
   refine wp_region_noPanic ?_
   refine wp_region_held_drew (S := fun W' => Below w.heap.size w W') (by kernel_rfl) (by have := HB.out; exact Qb) (fun hHeld => ?_)
   have hSd : Below w.heap.size w wr.drew := hHeld
   refine takeK (i := 0) (d := some 30) (v := ?vr0) rfl rfl (Or.inl ⟨by rfl,?hyr0⟩) hSd ?_
   case hyr0 => (intro w hSw; (try dsimp only at hSw); go_simp <;> with_reducible rfl)
   try simp only [Act.put,Qx,Qy,Qz]
   refine takeK (i := 1) (d := some 31) (v := ?vr1) rfl rfl (Or.inl ⟨by rfl,?hyr1⟩) hSd ?_
   case hyr1 => (intro w hSw; (try dsimp only at hSw); go_simp <;> with_reducible rfl)
   try simp only [Act.put,Qx,Qy,Qz]
   refine takeK (i := 2) (d := some 32) (v := ?vr2) rfl rfl (Or.inl ⟨by rfl,?hyr2⟩) hSd ?_
   case hyr2 => (intro w hSw; (try dsimp only at hSw); go_simp <;> with_reducible rfl)
   try simp only [Act.put,Qx,Qy,Qz]
   refine takeK (i := 3) (d := some 33) (v := ?vr3) rfl rfl (Or.inl ⟨by rfl,?hyr3⟩) hSd ?_
   case hyr3 => (intro w hSw; (try dsimp only at hSw); go_simp <;> with_reducible rfl)
   try simp only [Act.put,Qx,Qy,Qz]
   refine takeK (i := 4) (d := some 34) (v := ?vr4) rfl rfl (Or.inl ⟨by rfl,?hyr4⟩) hSd ?_
   case hyr4 => (intro w hSw; (try dsimp only at hSw); go_simp <;> with_reducible rfl)
   try simp only [Act.put,Qx,Qy,Qz]
   refine takeK (i := 5) (d := some 35) (v := ?vr5) rfl rfl (Or.inl ⟨by rfl,?hyr5⟩) hSd ?_
   case hyr5 => (intro w hSw; (try dsimp only at hSw); go_simp <;> with_reducible rfl)
   try simp only [Act.put,Qx,Qy,Qz]
   refine takeK (i := 6) (d := some 36) (v := ?vr6) rfl rfl (Or.inl ⟨by rfl,?hyr6⟩) hSd ?_
   case hyr6 => (intro w hSw; (try dsimp only at hSw); go_simp <;> with_reducible rfl)
   try simp only [Act.put,Qx,Qy,Qz]
   refine takeK (i := 7) (d := some 37) (v := ?vr7) rfl rfl (Or.inl ⟨by rfl,?hyr7⟩) hSd ?_
   case hyr7 => (intro w hSw; (try dsimp only at hSw); go_simp <;> with_reducible rfl)
   try simp only [Act.put,Qx,Qy,Qz]
   refine takeK (i := 8) (d := some 38) (v := ?vr8) rfl rfl (Or.inl ⟨by rfl,?hyr8⟩) hSd ?_
   case hyr8 => (intro w hSw; (try dsimp only at hSw); go_simp <;> with_reducible rfl)
   try simp only [Act.put,Qx,Qy,Qz]
   refine takeK (i := 9) (d := some 39) (v := ?vr9) rfl rfl (Or.inl ⟨by rfl,?hyr9⟩) hSd ?_
   case hyr9 => (intro w hSw; (try dsimp only at hSw); go_simp <;> with_reducible rfl)
   try simp only [Act.put,Qx,Qy,Qz]
   refine takeK (i := 10) (d := some 40) (v := ?vr10) rfl rfl (Or.inl ⟨by rfl,?hyr10⟩) hSd ?_
   case hyr10 => (intro w hSw; (try dsimp only at hSw); go_simp <;> with_reducible rfl)
   try simp only [Act.put,Qx,Qy,Qz]
   refine takeK (i := 11) (d := some 41) (v := ?vr11) rfl rfl (Or.inl ⟨by rfl,?hyr11⟩) hSd ?_
   case hyr11 => (intro w hSw; (try dsimp only at hSw); go_simp <;> with_reducible rfl)
   try simp only [Act.put,Qx,Qy,Qz]
   refine wpAnyH_ready (rs := [12]) (by kernel_rfl) (by simp) ?_
   refine (AllReadyH.cons rfl (fun K hK => ?_) AllReadyH.nil)
   rw [if_pos (by rfl)]
   go_simp
   refine Calls.mono (HCU.out _ hSd) ?_
   rintro e wB ⟨rfl,hbB⟩
   have hSB : Below w.heap.size w wB := bl_then hSd hbB
   have HOB : Hid (RowN w.heap.size wB (.slice va vn vc) (rasK F (X * 8) (Y * 8) i)) := by
    have h1 : RowN w.heap.size wr.drew (.slice va vn vc) (rasK F (X * 8) (Y * 8) i) := HO.out.below (by exact Qb)
    exact h1.below hbB
   go_wp2_with fail
   refine hK.out _ _ hSB (fun hHeld => ?_)
   clear hK K hbB
   try simp only [Act.put,Qx,Qy,Qz]
   refine wpAnyH_ready (rs := [13]) (by kernel_rfl) (by simp) ?_
   refine (AllReadyH.cons rfl (fun K hK => ?_) AllReadyH.nil)
   rw [if_pos (by rfl)]
   go_simp
   generalize hwA : (World.alloc _ _ : World) = wA
   have hbA : Below wB.heap.size wB wA := by subst hwA; exact Qb
   have a0 : wA.cell? ⟨wB.heap.size,0,none⟩ = some (.int .i64 G0) := by subst hwA; simp [go_sem]
   have hszA : wA.heap.size = wB.heap.size + 1 := by subst hwA; simp
   have HOA : Hid (wA.ownsRow w.heap.size 2 1 (.slice va vn vc) (rasK F (X * 8) (Y * 8) i).length ((rasK F (X * 8) (Y * 8) i).map (.int .i64 ·))) := by subst hwA; exact World.ownsRow.alloc HOB.out _
   have hSA : Below w.heap.size w wA := bl_then hSB hbA
   have hsA := hSA.size
   clear hwA
   refine hK.out _ _ hSA (fun hHeld => ?_)
   clear hK K
   try simp only [Act.put,Qx,Qy,Qz]
   have hlen := HLn.out
   refine wpAnyH_ready (rs := [14]) (by kernel_rfl) (by simp) ?_
   refine (AllReadyH.cons rfl (fun K hK => ?_) AllReadyH.nil)
   refine step_append_own rfl (.tmp 30) (.tmp 43) 141 rfl w.heap.size 2 ii (.int .i64 0) 1 8 Tryz.underlying141 hi hz0 hz1 hz2 rfl (by decide) (.slice va vn vc) (rasK F (X * 8) (Y * 8) i).length ((rasK F (X * 8) (Y * 8) i).map (.int .i64 ·)) rfl HOA.out ⟨wB.heap.size,0,none⟩ 1 1 [.int .i64 G0] rfl rfl ?c1 ?c2 ?c3 ?c4 ?c5 ?_
   case c1 =>
    intro q u hq
    match q,hq with
    | 0,hq => exact (Option.some.inj hq) ▸ a0
    | q + 1,hq => cases hq
   case c2 => intro u hu; simp at hu; subst hu; rfl
   case c3 => unfold maxLen; omega
   case c4 => omega
   case c5 => first | omega | (simp; omega)
   intro v' w3' hown' hgrow hnil
   clear hnil
   have hBg : Below w.heap.size wA w3' := (Below.refl _ _).grown hgrow (by omega) (fun b hb => HBS.out b hb)
   have hB3 : Below w.heap.size w w3' := hSA.trans hBg
   have HO4 : Hid (RowN w.heap.size w3' v' (rasK F (X * 8) (Y * 8) (i + 1))) := by
    show RowN _ _ _ _
    rw [HSK.out]
    show World.ownsRow _ _ _ _ _ _ _
    rw [List.length_append,List.map_append]
    exact hown'
   rw [hlen] at hown'
   obtain ⟨ga,gc,rfl⟩ := ownsRow_succR hown'
   show K (Act.put _ (some 44) _) w3'
   refine hK.out _ _ hB3 (fun hHeld => ?_)
   clear hK K hown' hgrow hBg
   try simp only [Act.put,Qx,Qy,Qz]
   refine takeK (i := 15) (d := some 3) (v := ?vs15) rfl rfl (Or.inl ⟨by rfl,?hys15⟩) hB3 ?_
   case hys15 => (intro w hSw; (try dsimp only at hSw); go_simp <;> with_reducible rfl)
   try simp only [Act.put,Qx,Qy,Qz]
   refine wpAnyH_done (by kernel_rfl) ?_ _
   refine NoPanic.normal ?_
   clear hSA hSB hSd hbA a0 hszA HOA
   go_wp2_with fail
   go_roundw
   case rel => exact ⟨i + 1,by omega,by go_num,HO4.out,hB3⟩
   case measure => simp [intOf]; omega
  ·obtain rfl : i = 64 := by omega
   go_wp2
   go_ret
   exact ⟨_,rfl,HO0'.out,HB.out⟩
theorem l8Tile_off (q o : Nat) (z x y : Int) (b n cap : Nat) (G : Nat → Feat) (w : World) (ht : TileO w q o z x y (.slice (some ⟨b,0,none⟩) n cap)) (hg : FsAt w b 0 n G) (hbl : b < w.heap.size) (hs : SmallFs n G) :
  Calls Tryz.prog 108 #[.pointer (some ⟨q,o,none⟩)] w fun e w' => e = .returned (.int .i64 (rtC z x y n G)) ∧ Below w.heap.size w w' := by
 have hql : q < w.heap.size := World.block_lt_of_cell? _ _ ht.1
 have HT : Hid (TileO w q o z x y (.slice (some ⟨b,0,none⟩) n cap)) := ht
 have HG : Hid (FsAt w b 0 n G) := hg
 have HS : Hid (SmallFs n G) := hs
 have HK : Hid (rtC z x y n G = if refC z x y = 0 then (if featsC n G = 0 then (if ordS n G = true then 0 else 1) else featsC n G) else refC z x y) := rfl
 obtain ⟨p0,p1,p2,p3⟩ := ht
 clear hg hs
 go_enter Tryz.func108,Tryz.ntmps108
 go_wp2_with fail
 refine (l7Fault_any z x y _).mono ?_
 rintro e w1 ⟨rfl,hb1⟩
 obtain ⟨q0,q1,q2,q3⟩ := HT.out.below hb1 hql
 have HB1 : Hid (Below w.heap.size w w1) := hb1
 have hql1 : q < w1.heap.size := Nat.lt_of_lt_of_le hql hb1.size
 clear p0 p1 p2 p3 hb1
 by_cases hr : refC z x y = 0
 ·rw [hr]
  rw [if_pos hr] at HK
  go_wp2_with fail
  refine (l2Many_any b n cap G _ (HG.out.below HB1.out hbl) (Nat.lt_of_lt_of_le hbl HB1.out.size) HS.out).mono ?_
  rintro e w2 ⟨rfl,hb2⟩
  have HB2 : Hid (Below w.heap.size w w2) := bl_then HB1.out hb2
  obtain ⟨t0,t1,t2,t3⟩ := HT.out.below HB2.out hql
  clear q0 q1 q2 q3 hb2
  by_cases hf : featsC n G = 0
  ·rw [hf]
   rw [if_pos hf] at HK
   go_wp2_with fail
   refine (l6Ordered_any b n cap G _ (HG.out.below HB2.out hbl) (Nat.lt_of_lt_of_le hbl HB2.out.size) HS.out.1).mono ?_
   rintro e w3 ⟨rfl,hb3⟩
   have HB3 : Hid (Below w.heap.size w w3) := bl_then HB2.out hb3
   clear hb3 t0 t1 t2 t3
   cases ho : ordS n G
   ·rw [ho] at HK
    go_wp2
    go_ret
    exact ⟨ret_int (by rw [HK.out]; rfl),HB3.out⟩
   ·rw [ho] at HK
    go_wp2
    go_ret
    exact ⟨ret_int (by rw [HK.out]; rfl),HB3.out⟩
  ·rw [if_neg hf] at HK
   have hcb : (featsC n G == 0) = false := by simpa using hf
   generalize featsC n G = fc at *
   clear hf
   go_wp2
   go_ret
   exact ⟨ret_int HK.out.symm,HB2.out⟩
 ·rw [if_neg hr] at HK
  have hcb : (refC z x y == 0) = false := by simpa using hr
  generalize refC z x y = rc at *
  clear hr
  go_wp2
  go_ret
  exact ⟨ret_int HK.out.symm,HB1.out⟩
def sameI (n m : Nat) (I J : Nat → Int) : Bool := decide (n = m) && decide (∀ i,i < n → I i = J i)
theorem sameI_len {n m : Nat} {I J : Nat → Int} (h : n ≠ m) : sameI n m I J = false := by simp [sameI,h]
theorem sameI_yes {n : Nat} {I J : Nat → Int} (h : ∀ i,i < n → I i = J i) : sameI n n I J = true := by simp [sameI]; exact h
theorem sameI_no {n m k : Nat} {I J : Nat → Int} (hk : k < n) (h : I k ≠ J k) : sameI n m I J = false := by
 unfold sameI
 rw [decide_eq_false (p := ∀ i,i < n → I i = J i) (fun h' => h (h' k hk))]; simp
theorem l11Same_any (a a' : Option Addr) (n m cap cap' : Nat) (I J : Nat → Int) (w : World) (hp : IsNs w a n I) (hq : IsNs w a' m J) (hn : n ≤ 1048576) :
  Calls Tryz.prog 109 #[.slice a n cap, .slice a' m cap'] w fun e w' => e = .returned (.bool (sameI n m I J)) ∧ Below w.heap.size w w' := by
 have HP : Hid (IsNs w a n I) := hp
 have HQ : Hid (IsNs w a' m J) := hq
 clear hp hq
 by_cases hnm : n = m
 ·subst hnm
  go_enter Tryz.func109,Tryz.ntmps109
  go_wp2_with fail
  go_loopw [5] (fun i wr => ∃ k : Nat,k ≤ n ∧ i = .int .i64 (k : Int) ∧ (∀ j,j < k → I j = J j) ∧ Below w.heap.size w wr) (fun i _ => n - (intOf i).toNat)
  case atStart => exact ⟨0,by omega,rfl,fun j hj => absurd hj (Nat.not_lt_zero _),Below.refl _ _⟩
  case round =>
   obtain ⟨k,hk,rfl,hno,hB⟩ := hrel
   have HN : Hid (∀ j,j < k → I j = J j) := hno
   have HB : Hid (Below w.heap.size w wr) := hB
   by_cases hlt : k < n
   ·rcases HP.out with h0 | ⟨b,off,rfl,hb,hpt⟩
    ·omega
    rcases HQ.out with h0 | ⟨b',off',rfl,hb',hpt'⟩
    ·omega
    have q0 : wr.cell? ⟨b,off + k,none⟩ = some (.int .i64 (I k)) := (hB.cell (p := ⟨b,off + k,none⟩) hb).trans (hpt k hlt)
    have q1 : wr.cell? ⟨b',off' + k,none⟩ = some (.int .i64 (J k)) := (hB.cell (p := ⟨b',off' + k,none⟩) hb').trans (hpt' k hlt)
    have hi : (k : Int) < (n : Int) := by omega
    have hi0 : (0 : Int) ≤ (k : Int) := by omega
    clear hno hB hpt hpt'
    by_cases hE : I k = J k
    ·have HN2 : Hid (∀ j,j < k + 1 → I j = J j) := fun j hj => by
      by_cases e : j = k
      ·rw [e]; exact hE
      ·exact HN.out j (by omega)
     rw [hE] at q0
     clear hE
     generalize J k = v at *
     go_wp2_with fail
     go_quiet (fail)
     go_wp2_with fail
     exact ⟨⟨k + 1,by omega,by simp,HN2.out,below_drewN HB.out _⟩,by simp [intOf]; omega⟩
    ·have HY : Hid (sameI n n I J = false) := sameI_no hlt hE
     generalize I k = u at *
     generalize J k = v at *
     have hcb : (u == v) = false := by simpa using hE
     go_wp2_with fail
     go_quiet (fail)
     go_wp2
     go_ret
     exact ⟨ret_bool HY.out.symm,below_drewN HB.out _⟩
   ·obtain rfl : n = k := by omega
    have HY : Hid (sameI n n I J = true) := sameI_yes HN.out
    go_wp2
    go_ret
    exact ⟨ret_bool HY.out.symm,HB.out⟩
 ·have HY : Hid (sameI n m I J = false) := sameI_len hnm
  have hne : ((n : Int) == (m : Int)) = false := by simp; omega
  have hne2 : ¬ ((n : Int) = (m : Int)) := by omega
  go_enter Tryz.func109,Tryz.ntmps109
  go_wp2
  go_ret
  exact ⟨ret_bool HY.out.symm,Below.refl _ _⟩
def isK (e : Kp) (z x y : Int) : Bool := (e.z == z) && ((e.x == x) && (e.y == y))
def atK (n : Nat) (K : Nat → Kp) (z x y : Int) : Int := firstI (fun i => isK (K i) z x y) n
def RK (w : World) (p : Nat) (z x y : Int) : Prop := w.cell? ⟨p,0,none⟩ = some (.int .i64 z) ∧ w.cell? ⟨p,1,none⟩ = some (.int .i64 x) ∧ w.cell? ⟨p,2,none⟩ = some (.int .i64 y)
theorem RK.below {w w' : World} {p : Nat} {z x y : Int} (h : RK w p z x y) (hb : Below w.heap.size w w') : RK w' p z x y :=
 have hl := World.block_lt_of_cell? _ _ h.1
 ⟨(hb.cell (p := ⟨p,0,none⟩) hl).trans h.1,(hb.cell (p := ⟨p,1,none⟩) hl).trans h.2.1,(hb.cell (p := ⟨p,2,none⟩) hl).trans h.2.2⟩
theorem OwnQ.congr {w : World} {lo hi b n : Nat} {N C N' C' q : Nat → Nat} (h : OwnQ w lo hi b n N C q) (e : ∀ i,i < n → N i = N' i ∧ C i = C' i) : OwnQ w lo hi b n N' C' q := by
 obtain ⟨h1,h2,h3,h4⟩ := h
 exact ⟨h1,h2,fun i hi => by rw [← (e i hi).1, ← (e i hi).2]; exact h3 i hi,h4⟩
theorem tlW_of {w : World} {lo md hi : Nat} {r : Kp} {fb ib : Nat} {N C q : Nat → Nat} (h1 : lo ≤ md) (h2 : md ≤ hi) (h3 : hi ≤ w.heap.size) (hQ : OwnQ w lo md fb r.fn N C q) (hf : r.fa = some ⟨fb,0,none⟩) (hN : ∀ i,i < r.fn → (r.F i).n = N i ∧ (r.F i).cap = C i) (hi' : r.ia = some ⟨ib,0,none⟩) (h4 : md ≤ ib) (h5 : ib < hi) (hT : There w ib r.m) : TlW w lo hi r :=
 ⟨md,h1,h2,h3, .inr ⟨fb,q,hf,hQ.congr (fun i hi => ⟨(hN i hi).1.symm,(hN i hi).2.symm⟩)⟩, .inr ⟨ib,hi',h4,h5,hT⟩⟩
theorem TlW.wide {w : World} {lo lo' hi : Nat} {r : Kp} (h : TlW w lo hi r) (hl : lo' ≤ lo) : TlW w lo' hi r := by
 obtain ⟨md,h1,h2,h3,h4,h5⟩ := h
 exact ⟨md,Nat.le_trans hl h1,h2,h3,h4.imp id (fun ⟨g,q,e,ho⟩ => ⟨g,q,e,ho.wideQ hl⟩),h5⟩
theorem TlW.top {w : World} {lo hi : Nat} {r : Kp} (h : TlW w lo hi r) (hl : hi ≤ w.heap.size) : TlW w lo w.heap.size r := by
 obtain ⟨md,h1,h2,h3,h4,h5⟩ := h
 exact ⟨md,h1,Nat.le_trans h2 hl,Nat.le_refl _,h4,h5.imp id (fun ⟨ib,e,a,b,c⟩ => ⟨ib,e,a,Nat.lt_of_lt_of_le b hl,c⟩)⟩
theorem KsW.mid {w w' : World} {g n l h : Nat} {R : Nat → Kp} {M : Nat → Nat} (hT : KsW w g n R M) (hM : MidB l h w w') (ho : h ≤ g ∨ M n ≤ l) : KsW w' g n R M := by
 obtain ⟨h1,h2,h3,h4⟩ := hT
 have hu := fun i j (a : i ≤ j) (b : j ≤ n) => upM (fun j hj => (h3 j hj).1) a b
 have h0n := hu 0 n (Nat.zero_le _) (Nat.le_refl _)
 refine ⟨hM.there h1 (by omega),h2,fun j hj => ⟨(h3 j hj).1,(h3 j hj).2.1.mid hM (by omega),(h3 j hj).2.2.mid hM ?_⟩,Nat.le_trans h4 hM.size⟩
 have := hu 0 j (Nat.zero_le _) (by omega)
 have := hu (j + 1) n (by omega) (Nat.le_refl _)
 omega
theorem KsW.below {w w' : World} {g n : Nat} {R : Nat → Kp} {M : Nat → Nat} (hT : KsW w g n R M) (hb : Below w.heap.size w w') : KsW w' g n R M := hT.mid (MidB.of_below (lo := M n) (hi := g) hb) (.inl (Nat.le_refl _))
theorem toKept_own (k : Kp) (w : World) (hp : KpIs w k) (hs : SmallK k) : Calls Tryz.prog 114 #[kpV k] w fun e w' => ∃ a,e = .returned (kpV a) ∧ KpOwn w' w.heap.size k a ∧ TlW w' w.heap.size w'.heap.size a ∧ Below w.heap.size w w' := by
 have HP : Hid (KpIs w k) := hp
 have HS : Hid (SmallK k) := hs
 clear hp hs
 go_enter Tryz.func114,Tryz.ntmps114
 go_wp2_with fail
 generalize hW : (((w.alloc _).alloc _).alloc _ : World) = W
 have hB0 : Below w.heap.size w W := by subst hW; exact Qb
 have HT : Hid (There W (w.heap.size + 1) 5) := by
  show There _ _ _
  subst hW
  have := (there5k (w.alloc (.cells #[.int .i64 k.z, .int .i64 k.x, .int .i64 k.y, .slice k.fa k.fn k.fc, .slice k.ia k.m k.ic] 143)) (.int .i64 0) (.int .i64 0) (.int .i64 0) (.slice none 0 0) (.slice none 0 0) 149).below (bl_alloc (Below.refl _ _) (.cells #[.int .i64 0, .int .i64 0, .int .i64 0, .slice none 0 0, .slice none 0 0] 149))
  simpa using this
 have HU : Hid (There W (w.heap.size + 1 + 1) 5) := by
  show There _ _ _
  subst hW
  have := there5k ((w.alloc (.cells #[.int .i64 k.z, .int .i64 k.x, .int .i64 k.y, .slice k.fa k.fn k.fc, .slice k.ia k.m k.ic] 143)).alloc (.cells #[.int .i64 0, .int .i64 0, .int .i64 0, .slice none 0 0, .slice none 0 0] 149)) (.int .i64 0) (.int .i64 0) (.int .i64 0) (.slice none 0 0) (.slice none 0 0) 149
  simpa using this
 have c4 : W.cell? ⟨w.heap.size,4,none⟩ = some (.slice k.ia k.m k.ic) := by subst hW; simp [go_sem]
 have hsz : w.heap.size + 1 + 1 < W.heap.size := by subst hW; simp
 clear hW
 refine (toTile_own k.z k.x k.y k.fa k.fn k.fc k.F W (HP.out.below hB0).1 HS.out.1.1 (fun i hi => (HS.out.1.2 i hi).1)).mono ?_
 rintro e w1 ⟨fb,G,rfl,hO1,⟨q,hQ1⟩,hb1⟩
 have HQ1 : Hid (OwnQ w1 W.heap.size w1.heap.size fb k.fn (fun i => (k.F i).n) (fun i => (k.F i).n) q) := hQ1
 have hs1W := hb1.size
 clear hQ1
 have d4 : w1.cell? ⟨w.heap.size,4,none⟩ = some (.slice k.ia k.m k.ic) := bl_cell hb1 c4
 have HO1 : Hid (OwnFs w1 W.heap.size fb k.fn k.F G) := hO1
 have HT1 : Hid (There w1 (w.heap.size + 1) 5) := HT.out.below hb1
 have HU1 : Hid (There w1 (w.heap.size + 1 + 1) 5) := HU.out.below hb1
 have hB1 : Below w.heap.size w w1 := bl_then hB0 hb1
 have hsz1 : w.heap.size + 1 + 1 < w1.heap.size := Nat.lt_of_lt_of_le hsz hb1.size
 clear c4 HT HU hB0 hb1 hO1
 have hT' := HU1.out
 have t0 := hT'.cell 0 (by omega)
 have t1 := hT'.cell 1 (by omega)
 have t2 := hT'.cell 2 (by omega)
 have t3 := hT'.cell 3 (by omega)
 have t4 := hT'.cell 4 (by omega)
 have f0 := (hT' 0 (by omega)).2
 have f1 := (hT' 1 (by omega)).2
 have f2 := (hT' 2 (by omega)).2
 have f3 := (hT' 3 (by omega)).2
 have f4 := (hT' 4 (by omega)).2
 clear hT'
 go_wp2_with fail
 generalize hW2 : ((((w1.setCell ⟨w.heap.size + 1 + 1,0,none⟩ (.int .i64 k.z)).setCell ⟨w.heap.size + 1 + 1,1,none⟩ (.int .i64 k.x)).setCell ⟨w.heap.size + 1 + 1,2,none⟩ (.int .i64 k.y)).setCell ⟨w.heap.size + 1 + 1,3,none⟩ (.slice (some ⟨fb,0,none⟩) k.fn k.fn)) = w2
 obtain ⟨g0,g1,g2,g3⟩ : w2.cell? ⟨w.heap.size + 1 + 1,0,none⟩ = some (.int .i64 k.z) ∧ w2.cell? ⟨w.heap.size + 1 + 1,1,none⟩ = some (.int .i64 k.x) ∧ w2.cell? ⟨w.heap.size + 1 + 1,2,none⟩ = some (.int .i64 k.y) ∧ w2.cell? ⟨w.heap.size + 1 + 1,3,none⟩ = some (.slice (some ⟨fb,0,none⟩) k.fn k.fn) := by
  rw [← hW2]
  exact set4_at (fun o ho => HU1.out o (by omega))
 have HU2 : Hid (There w2 (w.heap.size + 1 + 1) 5) := by
  show There _ _ _
  rw [← hW2]
  exact (((HU1.out.set _ _).set _ _).set _ _).set _ _
 have hM2 : MidB w.heap.size (w.heap.size + 1 + 1 + 1) w1 w2 := by
  rw [← hW2]
  exact ((((MidB.refl _ _ _).set (by omega) (by omega) _ _).set (by omega) (by omega) _ _).set (by omega) (by omega) _ _).set (by omega) (by omega) _ _
 have HT2 : Hid (There w2 (w.heap.size + 1) 5) := by
  show There _ _ _
  rw [← hW2]
  exact (((HT1.out.otherJ (by omega)).otherJ (by omega)).otherJ (by omega)).otherJ (by omega)
 have HO2 : Hid (OwnFs w2 W.heap.size fb k.fn k.F G) := HO1.out.midB hM2 (by omega) (Nat.le_refl _)
 have HQ2 : Hid (OwnQ w2 W.heap.size w1.heap.size fb k.fn (fun i => (k.F i).n) (fun i => (k.F i).n) q) := HQ1.out.away hM2 (.inl (by omega))
 have hs12 := hM2.size
 have hB2 : Below w.heap.size w w2 := hB1.trans (hM2.below (by omega))
 have hsz2 : w.heap.size + 1 + 1 < w2.heap.size := Nat.lt_of_lt_of_le hsz1 hM2.size
 have hsW : W.heap.size ≤ w2.heap.size := Nat.le_trans (Nat.le_of_lt (Nat.lt_of_le_of_lt HO1.out.1 HO1.out.2.1)) hM2.size
 clear hW2 hM2 t0 t1 t2 t3 t4 f0 f1 f2 f3 f4 HU1 HT1 hB1 d4 hsz1 HO1
 refine (toInt64S_own k.ia k.m k.ic k.I w2 (HP.out.2.below hB2) HS.out.2).mono ?_
 rintro e w3 ⟨ib,rfl,hge3,hlt3,hN3,hTi3,hb3⟩
 have HQ3 : Hid (OwnQ w3 W.heap.size w1.heap.size fb k.fn (fun i => (k.F i).n) (fun i => (k.F i).n) q) := HQ2.out.below hb3
 have HTi3 : Hid (There w3 ib k.m) := hTi3
 have hs23 := hb3.size
 clear hTi3
 have k0 := bl_cell hb3 g0
 have k1 := bl_cell hb3 g1
 have k2 := bl_cell hb3 g2
 have k3 := bl_cell hb3 g3
 have hT3 := HT2.out.below hb3
 have hU3 := HU2.out.below hb3
 have hz4 := (hU3 4 (by omega)).2
 obtain ⟨u4,k4⟩ := (hU3 4 (by omega)).1
 have HO3 : Hid (OwnFs w3 W.heap.size fb k.fn k.F G) := HO2.out.below hb3
 have HN3 : Hid (NsAt w3 ib 0 k.m k.I) := hN3
 have HB3 : Hid (Below w.heap.size w w3) := bl_then hB2 hb3
 have hne : ∀ i j : Nat,i ≠ j → (⟨w.heap.size + 1 + 1,i,none⟩ : Addr) ≠ ⟨w.heap.size + 1 + 1,j,none⟩ := fun i j hij h => hij (by injection h)
 have i0 : (w3.setCell ⟨w.heap.size + 1 + 1,4,none⟩ (.slice (some ⟨ib,0,none⟩) k.m k.m)).cell? ⟨w.heap.size + 1 + 1,0,none⟩ = some (.int .i64 k.z) := by rw [set1_other (hne _ _ (by omega))]; exact k0
 have i1 : (w3.setCell ⟨w.heap.size + 1 + 1,4,none⟩ (.slice (some ⟨ib,0,none⟩) k.m k.m)).cell? ⟨w.heap.size + 1 + 1,1,none⟩ = some (.int .i64 k.x) := by rw [set1_other (hne _ _ (by omega))]; exact k1
 have i2 : (w3.setCell ⟨w.heap.size + 1 + 1,4,none⟩ (.slice (some ⟨ib,0,none⟩) k.m k.m)).cell? ⟨w.heap.size + 1 + 1,2,none⟩ = some (.int .i64 k.y) := by rw [set1_other (hne _ _ (by omega))]; exact k2
 have i3 : (w3.setCell ⟨w.heap.size + 1 + 1,4,none⟩ (.slice (some ⟨ib,0,none⟩) k.m k.m)).cell? ⟨w.heap.size + 1 + 1,3,none⟩ = some (.slice (some ⟨fb,0,none⟩) k.fn k.fn) := by rw [set1_other (hne _ _ (by omega))]; exact k3
 have i4 : (w3.setCell ⟨w.heap.size + 1 + 1,4,none⟩ (.slice (some ⟨ib,0,none⟩) k.m k.m)).cell? ⟨w.heap.size + 1 + 1,4,none⟩ = some (.slice (some ⟨ib,0,none⟩) k.m k.m) := set1_same k4
 have HT4 : Hid (There (w3.setCell ⟨w.heap.size + 1 + 1,4,none⟩ (.slice (some ⟨ib,0,none⟩) k.m k.m)) (w.heap.size + 1) 5) := hT3.otherJ (by omega)
 have hT' := HT4.out
 have t0 := hT'.cell 0 (by omega)
 have t1 := hT'.cell 1 (by omega)
 have t2 := hT'.cell 2 (by omega)
 have t3 := hT'.cell 3 (by omega)
 have t4 := hT'.cell 4 (by omega)
 have f0 := (hT' 0 (by omega)).2
 have f1 := (hT' 1 (by omega)).2
 have f2 := (hT' 2 (by omega)).2
 have f3 := (hT' 3 (by omega)).2
 have f4 := (hT' 4 (by omega)).2
 clear hT' g0 g1 g2 g3 HT2 HU2 hB2 hN3 hb3 hT3 hU3 hne k0 k1 k2 k3 HP HO2
 go_wp2_with fail
 have hat := layK_at (W := w3.setCell ⟨w.heap.size + 1 + 1,4,none⟩ (.slice (some ⟨ib,0,none⟩) k.m k.m)) (B := w.heap.size + 1) (o := 0) (k := ⟨k.z,k.x,k.y,some ⟨fb,0,none⟩,k.fn,k.fn,G,some ⟨ib,0,none⟩,k.m,k.m,k.I⟩) HT4.out (by omega)
 have hMM : MidB w.heap.size (w.heap.size + 1 + 1 + 1) w3 (layK (w3.setCell ⟨w.heap.size + 1 + 1,4,none⟩ (.slice (some ⟨ib,0,none⟩) k.m k.m)) (w.heap.size + 1) 0 ⟨k.z,k.x,k.y,some ⟨fb,0,none⟩,k.fn,k.fn,G,some ⟨ib,0,none⟩,k.m,k.m,k.I⟩) := by
  unfold layK
  exact ((((((MidB.refl _ _ _).set (by omega) (by omega) _ _).set (by omega) (by omega) _ _).set (by omega) (by omega) _ _).set (by omega) (by omega) _ _).set (by omega) (by omega) _ _).set (by omega) (by omega) _ _
 have hown : KpOwn w3 W.heap.size k ⟨k.z,k.x,k.y,some ⟨fb,0,none⟩,k.fn,k.fn,G,some ⟨ib,0,none⟩,k.m,k.m,k.I⟩ := ⟨⟨rfl,rfl,rfl⟩,⟨fb,rfl,rfl,rfl,HO3.out⟩,ib,rfl,rfl,rfl,rfl,by omega,hlt3,HN3.out⟩
 have hsM := hMM.size
 have htl := tlW_of (r := ⟨k.z,k.x,k.y,some ⟨fb,0,none⟩,k.fn,k.fn,G,some ⟨ib,0,none⟩,k.m,k.m,k.I⟩) (lo := w.heap.size) (md := w1.heap.size) (hi := w3.heap.size) (by omega) (by omega) hsM ((HQ3.out.away hMM (.inl (by omega))).wideQ (lo' := w.heap.size) (by omega)) rfl (fun i hi => ⟨(HO3.out.2.2.2 i hi).1.2.2.2.2.1,by obtain ⟨_,_,_,h,_⟩ := HO3.out.2.2.2 i hi; rw [h]; exact (HO3.out.2.2.2 i hi).1.2.2.2.2.1⟩) rfl (by omega) hlt3 (hMM.there HTi3.out (.inr (by omega)))
 have hown' := hown.mid hMM (by omega) (C := w.heap.size) (by omega)
 have hbl : Below w.heap.size w (layK (w3.setCell ⟨w.heap.size + 1 + 1,4,none⟩ (.slice (some ⟨ib,0,none⟩) k.m k.m)) (w.heap.size + 1) 0 ⟨k.z,k.x,k.y,some ⟨fb,0,none⟩,k.fn,k.fn,G,some ⟨ib,0,none⟩,k.m,k.m,k.I⟩) := HB3.out.trans (hMM.below (by omega))
 have htl2 := htl.top hsM
 simp only [layK,Nat.zero_add] at hat hown' hbl htl2
 exact bodyPost_ret (resTK _ _ _ ⟨k.z,k.x,k.y,some ⟨fb,0,none⟩,k.fn,k.fn,G,some ⟨ib,0,none⟩,k.m,k.m,k.I⟩ rfl hat) rfl ⟨_,rfl,hown',htl2,hbl⟩
theorem toKeptS_own (a : Option Addr) (n cap : Nat) (K : Nat → Kp) (w : World) (hp : IsKs w a n K) (hs : SmallKs n K) :
  Calls Tryz.prog 68 #[.slice a n cap] w fun e w' => ∃ b A,e = .returned (.slice (some ⟨b,0,none⟩) n n) ∧ w.heap.size ≤ b ∧ OwnKs w' (b + 1) b n K A ∧ (∃ M,KsW w' b n A M) ∧ Below w.heap.size w w' := by
 have hmk := make_kepts n hs.1
 have HP : Hid (IsKs w a n K) := hp
 have HS : Hid (SmallKs n K) := hs
 have hmax := hs.1
 clear hp hs
 go_enter Tryz.func68,Tryz.ntmps68
 go_wp2
 generalize hW : (w.alloc _ : World) = W
 have HB0 : Hid (Below w.heap.size w W) := by show Below _ _ _; subst hW; exact Qb
 have HT0 : Hid (There W w.heap.size (n * 5)) := by show There _ _ _; subst hW; exact there_madeK _ _ _
 have HL0 : Hid (w.heap.size < W.heap.size) := by show _ < _; subst hW; simp
 clear hW hmk
 go_loopw [4] (fun i wr => ∃ (k : Nat) (A : Nat → Kp) (M : Nat → Nat),k ≤ n ∧ i = .int .i64 k ∧ Below w.heap.size w wr ∧ There wr w.heap.size (n * 5) ∧ OwnKs wr (w.heap.size + 1) w.heap.size k K A ∧ w.heap.size < M 0 ∧ (∀ j,j < k → M j ≤ M (j + 1) ∧ TlW wr (M j) (M (j + 1)) (A j)) ∧ M k ≤ wr.heap.size) (fun i _ => n - (intOf i).toNat)
 case atStart => exact ⟨0,fun _ => ⟨0,0,0,none,0,0,fun _ => ⟨0,0,0,0,none,0,0,fun _ => 0,fun _ => 0,⟨#[]⟩,0⟩,none,0,0,fun _ => 0⟩,fun _ => W.heap.size,by omega,rfl,HB0.out,HT0.out,⟨Nat.lt_succ_self _,HL0.out,fun i hi => absurd hi (Nat.not_lt_zero _)⟩,HL0.out,fun j hj => absurd hj (Nat.not_lt_zero _),Nat.le_refl _⟩
 case round =>
  obtain ⟨k,A,M,hk,rfl,hB,hT,hO,hM0,hMt,hMk⟩ := hrel
  have HMt : Hid (∀ j,j < k → M j ≤ M (j + 1) ∧ TlW wr (M j) (M (j + 1)) (A j)) := hMt
  by_cases hlt : k < n
  ·rcases HP.out with h0 | ⟨b,off,rfl,hbl,hpt⟩
   ·omega
   obtain ⟨⟨f0,f1,f2,f3,f4⟩,hkis⟩ := (hpt.below hB hbl) k hlt
   have HKI : Hid (KpIs wr (K k)) := hkis
   have HB : Hid (Below w.heap.size w wr) := hB
   have HT : Hid (There wr w.heap.size (n * 5)) := hT
   have HO : Hid (OwnKs wr (w.heap.size + 1) w.heap.size k K A) := hO
   have hsr : w.heap.size < wr.heap.size := hO.2.1
   clear hB hT hO hpt hkis hMt
   have hi : (k : Int) < (n : Int) := by omega
   have hi0 : (0 : Int) ≤ (k : Int) := by omega
   go_wp2_with fail
   refine (toKept_own (K k) _ HKI.out (HS.out.2 k hlt)).mono ?_
   rintro e w' ⟨c,rfl,hc,hw,hb⟩
   have HWc : Hid (TlW w' wr.heap.size w'.heap.size c) := hw
   have hsb := hb.size
   clear hw
   have hT' := HT.out.below hb
   have t0 := hT'.cell (k * 5 + 0) (by omega)
   have t1 := hT'.cell (k * 5 + 1) (by omega)
   have t2 := hT'.cell (k * 5 + 2) (by omega)
   have t3 := hT'.cell (k * 5 + 3) (by omega)
   have t4 := hT'.cell (k * 5 + 4) (by omega)
   have y0 := (hT' (k * 5 + 0) (by omega)).2
   have y1 := (hT' (k * 5 + 1) (by omega)).2
   have y2 := (hT' (k * 5 + 2) (by omega)).2
   have y3 := (hT' (k * 5 + 3) (by omega)).2
   have y4 := (hT' (k * 5 + 4) (by omega)).2
   simp only [Nat.add_zero] at t0 y0
   have HT' : Hid (There w' w.heap.size (n * 5)) := hT'
   have HBn : Hid (Below wr.heap.size wr w') := hb
   have HC : Hid (KpOwn w' wr.heap.size (K k) c) := hc
   have HO' : Hid (OwnKs w' (w.heap.size + 1) w.heap.size k K A) := HO.out.below hb
   clear hT' hb hc f0 f1 f2 f3 f4
   go_wp2
   go_roundw
   case rel =>
    have hM := layK_mid w' w.heap.size (k * 5) c
    refine ⟨k + 1,fun i => if i = k then c else A i,fun i => if i = k + 1 then w'.heap.size else M i,by omega,by go_num,?_,?_,?_,?_,?_,?_⟩
    ·exact (HB.out.trans (HBn.out.mono HB.out.size)).trans ((hM.below (by have := HBn.out.size; omega)))
    ·exact layK_there (k := c) (B := w.heap.size) (o := k * 5) HT'.out
    ·refine ⟨Nat.lt_succ_self _,by show _ < (layK w' w.heap.size (k * 5) c).heap.size; rw [layK_size]; exact HO'.out.2.1,fun i hi => ?_⟩
     by_cases e : i = k
     ·subst e
      dsimp only
      rw [if_pos rfl]
      exact ⟨layK_at HT'.out (by omega),HC.out.mid hM (by omega) (by omega)⟩
     ·dsimp only
      rw [if_neg e]
      obtain ⟨h1,h2⟩ := HO'.out.2.2 i (by omega)
      refine ⟨?_,h2.mid hM (Nat.le_refl _) (Nat.le_refl _)⟩
      unfold KpAt at h1 ⊢
      show (layK w' w.heap.size (k * 5) c).cell? _ = _ ∧ (layK w' w.heap.size (k * 5) c).cell? _ = _ ∧ (layK w' w.heap.size (k * 5) c).cell? _ = _ ∧ (layK w' w.heap.size (k * 5) c).cell? _ = _ ∧ (layK w' w.heap.size (k * 5) c).cell? _ = _
      rw [layK_other (.inr (.inl (by simp; omega))),layK_other (.inr (.inl (by simp; omega))),layK_other (.inr (.inl (by simp; omega))),layK_other (.inr (.inl (by simp; omega))),layK_other (.inr (.inl (by simp; omega)))]
      exact h1
    ·show w.heap.size < (if 0 = k + 1 then _ else M 0)
     rw [if_neg (by omega)]; exact hM0
    ·intro j hj
     have hMn := layK_mid w' w.heap.size (k * 5) c
     have hup := fun (i j : Nat) (a : i ≤ j) (b : j ≤ k) => upM (M := M) (n := k) (fun i hi => (HMt.out i hi).1) a b
     by_cases e : j = k
     ·subst e
      simp only [if_pos,if_neg (show ¬ j = j + 1 by omega)]
      have h0j := hup 0 j (Nat.zero_le j) (Nat.le_refl _)
      exact ⟨by omega,(HWc.out.mid hMn (.inl (by omega))).wide (by omega)⟩
     ·have hjk : j < k := by omega
      have h0j := hup 0 j (Nat.zero_le j) (by omega)
      simp only [if_neg (show ¬ j = k + 1 by omega),if_neg (show ¬ j + 1 = k + 1 by omega),if_neg e]
      exact ⟨(HMt.out j hjk).1,((HMt.out j hjk).2.mid (MidB.of_below (lo := 0) (hi := 0) HBn.out) (.inl (Nat.zero_le _))).mid hMn (.inl (by omega))⟩
    ·show (if k + 1 = k + 1 then _ else _) ≤ (layK w' w.heap.size (k * 5) c).heap.size
     rw [if_pos rfl,layK_size]; exact Nat.le_refl _
   case measure => simp [intOf]; omega
  ·go_wp2
   go_ret
   have hkn : k = n := by omega
   subst hkn
   exact ⟨_,A,rfl,Nat.le_refl _,hO,⟨M,hT,hM0,fun j hj => ⟨(hMt j hj).1,⟨(hO.2.2 j hj).1.2.2.2.1,(hO.2.2 j hj).1.2.2.2.2⟩,(hMt j hj).2⟩,hMk⟩,hB⟩
theorem toCache_own (s : Int) (a : Option Addr) (n cap : Nat) (K : Nat → Kp) (w : World) (hp : IsKs w a n K) (hs : SmallKs n K) :
  Calls Tryz.prog 33 #[caV s (.slice a n cap)] w fun e w' => ∃ b A,e = .returned (caV s (.slice (some ⟨b,0,none⟩) n n)) ∧ w.heap.size ≤ b ∧ OwnKs w' (b + 1) b n K A ∧ (∃ M,KsW w' b n A M) ∧ Below w.heap.size w w' := by
 have HP : Hid (IsKs w a n K) := hp
 have HS : Hid (SmallKs n K) := hs
 clear hp hs
 go_enter Tryz.func33,Tryz.ntmps33
 go_wp2_with fail
 generalize hW : (((w.alloc _).alloc _).alloc _ : World) = W
 have hB0 : Below w.heap.size w W := by subst hW; exact Qb
 have HT : Hid (There W (w.heap.size + 1) 2) := by
  show There _ _ _
  subst hW
  have := (there2k (w.alloc (.cells #[.int .i64 s, .slice a n cap] 26)) (.int .i64 0) (.slice none 0 0) 35).below (bl_alloc (Below.refl _ _) (.cells #[.int .i64 s, .slice none 0 0] 35))
  simpa using this
 have HU : Hid (There W (w.heap.size + 1 + 1) 2) := by
  show There _ _ _
  subst hW
  have := there2k ((w.alloc (.cells #[.int .i64 s, .slice a n cap] 26)).alloc (.cells #[.int .i64 0, .slice none 0 0] 35)) (.int .i64 s) (.slice none 0 0) 35
  simpa using this
 have u0 : W.cell? ⟨w.heap.size + 1 + 1,0,none⟩ = some (.int .i64 s) := by subst hW; simp [go_sem]
 have hsz : w.heap.size + 1 + 1 < W.heap.size := World.block_lt_of_cell? _ _ u0
 clear hW
 refine (toKeptS_own a n cap K W (HP.out.below hB0) HS.out).mono ?_
 rintro e w1 ⟨b,A,rfl,hge,hO1,⟨M,hM1⟩,hb1⟩
 have HM1 : Hid (KsW w1 b n A M) := hM1
 clear hM1
 have HO1 : Hid (OwnKs w1 (b + 1) b n K A) := hO1
 have k0 := bl_cell hb1 u0
 have hT1 := HT.out.below hb1
 have hU1 := HU.out.below hb1
 have hz1 := (hU1 1 (by omega)).2
 obtain ⟨u1,k1⟩ := (hU1 1 (by omega)).1
 have HB1 : Hid (Below w.heap.size w w1) := bl_then hB0 hb1
 have hne : ∀ i j : Nat,i ≠ j → (⟨w.heap.size + 1 + 1,i,none⟩ : Addr) ≠ ⟨w.heap.size + 1 + 1,j,none⟩ := fun i j hij h => hij (by injection h)
 have i0 : (w1.setCell ⟨w.heap.size + 1 + 1,1,none⟩ (.slice (some ⟨b,0,none⟩) n n)).cell? ⟨w.heap.size + 1 + 1,0,none⟩ = some (.int .i64 s) := by rw [set1_other (hne _ _ (by omega))]; exact k0
 have i1 : (w1.setCell ⟨w.heap.size + 1 + 1,1,none⟩ (.slice (some ⟨b,0,none⟩) n n)).cell? ⟨w.heap.size + 1 + 1,1,none⟩ = some (.slice (some ⟨b,0,none⟩) n n) := set1_same k1
 have HT2 : Hid (There (w1.setCell ⟨w.heap.size + 1 + 1,1,none⟩ (.slice (some ⟨b,0,none⟩) n n)) (w.heap.size + 1) 2) := hT1.otherJ (by omega)
 have t0 := HT2.out.cell 0 (by omega)
 have t1 := HT2.out.cell 1 (by omega)
 have f0 := (HT2.out 0 (by omega)).2
 have f1 := (HT2.out 1 (by omega)).2
 clear hT1 hU1 hO1 hb1 hne HT HU hB0 u0 HP
 go_wp2_with fail
 obtain ⟨q0,q1⟩ := set2_at (W := w1.setCell ⟨w.heap.size + 1 + 1,1,none⟩ (.slice (some ⟨b,0,none⟩) n n)) (r := w.heap.size + 1) (i := 0) (j := 1) (u := .int .i64 s) (v := .slice (some ⟨b,0,none⟩) n n) (by omega) (by rw [t0]; rfl) (by rw [t1]; rfl)
 have hMM : MidB w.heap.size (w.heap.size + 1 + 1 + 1) w1 (((w1.setCell ⟨w.heap.size + 1 + 1,1,none⟩ (.slice (some ⟨b,0,none⟩) n n)).setCell ⟨w.heap.size + 1,0,none⟩ (.int .i64 s)).setCell ⟨w.heap.size + 1,1,none⟩ (.slice (some ⟨b,0,none⟩) n n)) :=
  (((MidB.refl _ _ _).set (by omega) (by omega) _ _).set (by omega) (by omega) _ _).set (by omega) (by omega) _ _
 exact bodyPost_ret (resTC rfl q0 q1) rfl ⟨b,A,rfl,by omega,HO1.out.mid (C := 0) hMM (by omega),⟨M,HM1.out.mid hMM (.inl (by omega))⟩,HB1.out.trans (hMM.below (by have := HB1.out.size; omega))⟩

end Go.Proofs.YtiephlohemphjaaGreat
