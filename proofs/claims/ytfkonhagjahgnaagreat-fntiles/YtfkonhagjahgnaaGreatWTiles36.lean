/- Texts. -/
import Derived.Test.YtfkonhagjahgnaaGreatWTiles34
import Derived.Test.YtfkonhagjahgnaaGreatWTiles33
import Derived.Test.YtfkonhagjahgnaaGreatWTiles22
import Derived.Test.YtfkonhagjahgnaaGreatWTiles27
import Derived.Test.YtfkonhagjahgnaaGreatWTiles3
import Derived.Test.YtfkonhagjahgnaaGreatWTiles15
set_option linter.unusedSimpArgs false
set_option linter.unusedVariables false
set_option maxRecDepth 100000
set_option maxHeartbeats 32000000
namespace Go.Proofs.YtfkonhagjahgnaaGreat
open Go.RowKit
set_option maxRecDepth 8000 in
theorem l3Line_any (b n cap : Nat) (X Y : Nat → Int) (r : Int) (L : List Nat) (w : World) (hp : PtsAt w b 0 n X Y) (hbl : b < w.heap.size) (hn : n ≤ 40) (hok : ∀ i,i < n → okP (X i) (Y i) = true) (hr0 : 0 ≤ r) (hr1 : r ≤ 4096) (hL : 3 ≤ n → Thin X Y r 0 (n - 1) L) :
  Calls Tryz.prog 134 #[.slice (some ⟨b,0,none⟩) n cap, .int .i64 r] w fun e w' => ∃ v,e = .returned v ∧ Row w.heap.size w' v (ptsOf X Y (thinP n L)) ∧ Below w.heap.size w w' := by
 obtain ⟨i0,hi,hz0,hz1,hz2⟩ := info_parts (show (Tryz.prog.info? 67).map (fun i => (i.zero,i.size,i.bytes)) = some (some (.agg #[.int .i64 0, .int .i64 0]),2,16) by kernel_rfl)
 have HP : Hid (PtsAt w b 0 n X Y) := hp
 have HL : Hid (3 ≤ n → Thin X Y r 0 (n - 1) L) := hL
 have HOK : Hid (∀ i,i < n → okP (X i) (Y i) = true) := hok
 clear hp hL hok
 by_cases h3 : n < 3
 ·have h3i : (n : Int) < 3 := by omega
  have HPP : Hid (thinP n L = List.range n) := by show _ = _; simp [thinP,h3]
  have HLEN : Hid ((ptsOf X Y (List.range n)).length = n) := by show _ = _; simp [ptsOf]
  go_enter Tryz.func134,Tryz.ntmps134
  go_wp2_with (first
   | (at_builtin; go_must (refine wpList_append_own _ rfl _ _ 37 rfl w.heap.size 67 i0 (.agg #[.int .i64 0, .int .i64 0]) 2 16 Tryz.underlying37 hi hz0 hz1 hz2 rfl (by decide) (.slice (some ⟨w.heap.size,0,none⟩) 0 0) 0 [] rfl (World.ownsRow_lit (base := w.heap.size) w #[] 0 (Nat.le_refl _) (Nat.zero_le _) rfl) ⟨b,0,none⟩ n cap (cellsL (ptsOf X Y (List.range n))) rfl ?c0 ?c1 ?c2 ?c3 ?c4 ?c5 ?_)))
  case c0 => rw [cellsL_len,HLEN.out]
  case c1 =>
   intro q u hq
   have := pts_cells (HP.out.below (by (repeat (first|exact Qr _ _|assumption|refine Qd ?_|refine Qa ?_ _|refine Qt ?_|refine Qs ?_ _|refine Qo ?_ ?_ _ _)) : Below w.heap.size w (w.alloc (.cells #[] 67))) hbl) q u hq
   by_cases hq0 : q = 0
   ·subst hq0; simpa [Addr.add] using this
   ·simpa [Addr.add,hq0] using this
  case c2 =>
   intro u hu
   unfold cellsL at hu
   rw [List.mem_flatMap] at hu
   obtain ⟨p,_,hp⟩ := hu
   simp at hp
   rcases hp with rfl | rfl <;> rfl
  case c3 => unfold maxLen; omega
  case c4 => omega
  case c5 => first | omega | (simp; done) | (simp; omega)
  intro v' w2 hown' hgrow hnil
  clear hnil
  have HR : Hid (Row w.heap.size w2 v' (ptsOf X Y (List.range n))) := by
   show World.ownsRow _ _ _ _ _ _ _
   rw [HLEN.out]
   simpa using hown'
  have HB2 : Hid (Below w.heap.size w w2) := ((Below.refl _ _).alloc (Nat.le_refl _) _).trans ((Below.refl _ _).grown hgrow (by simp) (fun k hk => by simp [Value.ownBlock] at hk; omega))
  clear hown' hgrow
  go_wp2
  go_ret
  exact ⟨_,rfl,by rw [HPP.out]; exact HR.out,HB2.out⟩
 ·have h3i : ¬ (n : Int) < 3 := by omega
  obtain ⟨M,hM⟩ : ∃ M,M = n - 1 := ⟨_,rfl⟩
  have HPP : Hid (thinP n L = L ++ [M]) := by show _ = _; rw [hM]; simp [thinP,h3]
  have HL' : Hid (Thin X Y r 0 M L) := by show Thin _ _ _ _ _ _; rw [hM]; exact HL.out (by omega)
  have hMi : (n : Int) - 1 = (M : Int) := by omega
  have m0 : (0 : Int) ≤ (M : Int) := by omega
  have m1 : (M : Int) < (n : Int) := by omega
  have hMn : M < n := by omega
  have hM0 : 0 < M := by omega
  clear hM
  go_enter Tryz.func134,Tryz.ntmps134
  go_wp2_with fail
  have HLL : Hid (∀ l : List Nat,(ptsOf X Y l).length = l.length) := fun l => by simp [ptsOf]
  have cM0 : ∀ W',Below w.heap.size w W' → W'.cell? ⟨b,M * 2,none⟩ = some (.int .i64 (X M)) := fun W' h => by
   have := ((HP.out.below h hbl) M hMn).1
   simpa using this
  have cM1 : ∀ W',Below w.heap.size w W' → W'.cell? ⟨b,M * 2 + 1,none⟩ = some (.int .i64 (Y M)) := fun W' h => by
   have := ((HP.out.below h hbl) M hMn).2
   simpa using this
  go_cut [4] (fun t wc => ∃ v',t = v' ∧ Row w.heap.size wc v' (ptsOf X Y (L ++ [M])) ∧ Below w.heap.size w wc)
  case first =>
   refine wp_region_noPanic ?_
   refine wp_region_held_drew (S := fun W' => Below w.heap.size w W') (by kernel_rfl) (by (repeat (first | exact Below.refl _ _ | assumption | refine Below.drew ?_ | refine bl_alloc ?_ _ | refine bl_then ?_ (by assumption)))) (fun hHeld => ?_)
   refine takeK (i := 0) (d := some 15) (v := ?v0) rfl rfl (Or.inl ⟨by rfl,?hy0⟩) (by assumption) ?_
   case hy0 => (intro w hSw; (try dsimp only at hSw); go_simp <;> with_reducible rfl)
   simp only [Act.put,Qx,Qy,Qz]
   refine takeK (i := 1) (d := some 16) (v := ?v1) rfl rfl (Or.inl ⟨by rfl,?hy1⟩) (by assumption) ?_
   case hy1 => (intro w hSw; (try dsimp only at hSw); go_simp <;> with_reducible rfl)
   simp only [Act.put,Qx,Qy,Qz]
   refine takeK (i := 2) (d := some 17) (v := ?v2) rfl rfl (Or.inl ⟨by rfl,?hy2⟩) (by assumption) ?_
   case hy2 => (intro w hSw; (try dsimp only at hSw); go_simp <;> with_reducible rfl)
   simp only [Act.put,Qx,Qy,Qz]
   refine takeK (i := 4) (d := some 19) (v := ?v4) rfl rfl (Or.inl ⟨by rfl,?hy4⟩) (by assumption) ?_
   case hy4 => (intro w hSw; (try dsimp only at hSw); go_simp <;> with_reducible rfl)
   simp only [Act.put,Qx,Qy,Qz]
   refine takeK (i := 5) (d := some 20) (v := ?v5) rfl rfl (Or.inl ⟨by rfl,?hy5⟩) (by assumption) ?_
   case hy5 => (intro w hSw; (try dsimp only at hSw); go_simp <;> with_reducible rfl)
   simp only [Act.put,Qx,Qy,Qz]
   refine takeK (i := 6) (d := some 21) (v := ?v6) rfl rfl (Or.inl ⟨by rfl,?hy6⟩) (by assumption) ?_
   case hy6 => (intro w hSw; (try dsimp only at hSw); go_simp <;> with_reducible rfl)
   simp only [Act.put,Qx,Qy,Qz]
   refine takeK (i := 7) (d := some 22) (v := ?v7) rfl rfl (Or.inl ⟨by rfl,?hy7⟩) (by assumption) ?_
   case hy7 => (intro w hSw; (try dsimp only at hSw); go_simp <;> with_reducible rfl)
   simp only [Act.put,Qx,Qy,Qz]
   refine wpAnyH_ready (rs := [3,8]) (by kernel_rfl) (by simp) ?_
   refine AllReadyH.cons rfl (fun K hK => ?_) (AllReadyH.cons rfl (fun K hK => ?_) AllReadyH.nil)
   ·skip
    go_simp
    refine (l3Thin_any b n cap X Y r hn HOK.out hr0 hr1 M 0 M (by omega) (by omega) hMn _ (HP.out.below (by (repeat (first | exact Below.refl _ _ | assumption | refine Below.drew ?_ | refine bl_alloc ?_ _ | refine bl_then ?_ (by assumption)))) hbl) (Nat.lt_of_lt_of_le hbl (Below.size (B := w.heap.size) (w := w) (by (repeat (first | exact Below.refl _ _ | assumption | refine Below.drew ?_ | refine bl_alloc ?_ _ | refine bl_then ?_ (by assumption))))))).mono ?_
    rintro e w1 ⟨v1,l1,rfl,hT1,hR1,hb1⟩
    have e1 := hT1.uniq X Y HL'.out
    subst e1
    have hB1 : Below w.heap.size w w1 := bl_then (by (repeat (first | exact Below.refl _ _ | assumption | refine Below.drew ?_ | refine bl_alloc ?_ _ | refine bl_then ?_ (by assumption)))) hb1
    have hs1 := hB1.size
    go_wp2_with fail
    refine hK.out _ _ hB1 (fun hHeld => ?_)
    clear hK K
    try simp only [Act.put,Qx,Qy,Qz]
    obtain ⟨n1,_,_⟩ := hT1.len X Y (by omega)
    have hlow := fun k hk => Nat.le_trans (Nat.le_refl _) (hR1.lt k hk).1
    refine wpAnyH_ready (rs := [8]) (by kernel_rfl) (by simp) ?_
    refine AllReadyH.cons rfl (fun K hK => ?_) AllReadyH.nil
    go_simp
    refine hK.out _ _ (by (repeat (first | exact Below.refl _ _ | assumption | refine Below.drew ?_ | refine bl_alloc ?_ _ | refine bl_then ?_ (by assumption)))) (fun hHeld => ?_)
    clear hK K
    try simp only [Act.put,Qx,Qy,Qz]
    refine wpAnyH_ready (rs := [9]) (by kernel_rfl) (by simp) ?_
    refine AllReadyH.cons rfl (fun K hK => ?_) AllReadyH.nil
    refine step_append_own rfl (.tmp 18) (.tmp 23) 37 rfl w.heap.size 67 i0 (.agg #[.int .i64 0, .int .i64 0]) 2 16 Tryz.underlying37 hi hz0 hz1 hz2 rfl (by decide) v1 (ptsOf X Y l1).length (cellsL (ptsOf X Y l1)) rfl (World.ownsRow.alloc (Row_mono hR1 (by simp)) _) ⟨w1.heap.size,0,none⟩ 1 1 [.int .i64 (X M), .int .i64 (Y M)] rfl rfl ?c1 ?c2 ?c3 ?c4 ?c5 ?_
    case c1 =>
     intro q u hq
     match q,hq with
     | 0,hq => simp at hq; subst hq; simp [Addr.add,go_sem]
     | 1,hq => simp at hq; subst hq; simp [Addr.add,go_sem]
     | q + 2,hq => simp at hq
    case c2 => intro u hu; simp at hu; rcases hu with rfl | rfl <;> rfl
    case c3 => have := HLL.out l1; have := n1; unfold maxLen; omega
    case c4 => have := HLL.out l1; have := n1; omega
    case c5 => first | omega | (simp; omega)
    intro v' w6 hown' hgrow hnil
    have hBg : Below w.heap.size w w6 := Below.trans (by (repeat (first | exact Below.refl _ _ | assumption | refine Below.drew ?_ | refine bl_alloc ?_ _ | refine bl_then ?_ (by assumption)))) ((Below.refl _ _).grown hgrow (by first | omega | (simp; omega)) (fun k hk => hlow k hk))
    show K (Act.put _ (some 24) v') w6
    refine hK.out _ _ hBg (fun hHeld => ?_)
    clear hK K
    try simp only [Act.put,Qx,Qy,Qz]
    refine takeK (i := 10) (d := some 4) (v := ?v10) rfl rfl (Or.inl ⟨by rfl,?hy10⟩) (by assumption) ?_
    case hy10 => (intro w hSw; (try dsimp only at hSw); go_simp <;> with_reducible rfl)
    simp only [Act.put,Qx,Qy,Qz]
    refine wpAnyH_done (by kernel_rfl) ?_ _
    refine NoPanic.normal ?_
    go_wp2_with fail
    go_meet
    case rel =>
     refine ⟨_,rfl,?_,hBg⟩
     rw [ptsOf_add X Y l1 M]
     show World.ownsRow _ _ _ _ _ _ _
     rw [cellsL_add,List.length_append]
     exact hown'
   ·skip
    go_simp
    refine hK.out _ _ (by (repeat (first | exact Below.refl _ _ | assumption | refine Below.drew ?_ | refine bl_alloc ?_ _ | refine bl_then ?_ (by assumption)))) (fun hHeld => ?_)
    clear hK K
    try simp only [Act.put,Qx,Qy,Qz]
    have z0 : (w.drew.alloc (.cells #[.int .i64 (X M), .int .i64 (Y M)] 67)).cell? ⟨w.heap.size,0,none⟩ = some (.int .i64 (X M)) := by simp [go_sem]
    have z1 : (w.drew.alloc (.cells #[.int .i64 (X M), .int .i64 (Y M)] 67)).cell? ⟨w.heap.size,1,none⟩ = some (.int .i64 (Y M)) := by simp [go_sem]
    refine wpAnyH_ready (rs := [3]) (by kernel_rfl) (by simp) ?_
    refine AllReadyH.cons rfl (fun K hK => ?_) AllReadyH.nil
    go_simp
    refine (l3Thin_any b n cap X Y r hn HOK.out hr0 hr1 M 0 M (by omega) (by omega) hMn _ (HP.out.below (by (repeat (first | exact Below.refl _ _ | assumption | refine Below.drew ?_ | refine bl_alloc ?_ _ | refine bl_then ?_ (by assumption)))) hbl) (Nat.lt_of_lt_of_le hbl (Below.size (B := w.heap.size) (w := w) (by (repeat (first | exact Below.refl _ _ | assumption | refine Below.drew ?_ | refine bl_alloc ?_ _ | refine bl_then ?_ (by assumption))))))).mono ?_
    rintro e w1 ⟨v1,l1,rfl,hT1,hR1,hb1⟩
    have e1 := hT1.uniq X Y HL'.out
    subst e1
    have hB1 : Below w.heap.size w w1 := bl_then (by (repeat (first | exact Below.refl _ _ | assumption | refine Below.drew ?_ | refine bl_alloc ?_ _ | refine bl_then ?_ (by assumption)))) hb1
    have hs1 := hB1.size
    go_wp2_with fail
    refine hK.out _ _ hB1 (fun hHeld => ?_)
    clear hK K
    try simp only [Act.put,Qx,Qy,Qz]
    obtain ⟨n1,_,_⟩ := hT1.len X Y (by omega)
    have hlow : ∀ k,v1.ownBlock = some k → w.heap.size ≤ k := fun k hk => by
     have := (hR1.lt k hk).1
     simp at this
     omega
    refine wpAnyH_ready (rs := [9]) (by kernel_rfl) (by simp) ?_
    refine AllReadyH.cons rfl (fun K hK => ?_) AllReadyH.nil
    refine step_append_own rfl (.tmp 18) (.tmp 23) 37 rfl w.heap.size 67 i0 (.agg #[.int .i64 0, .int .i64 0]) 2 16 Tryz.underlying37 hi hz0 hz1 hz2 rfl (by decide) v1 (ptsOf X Y l1).length (cellsL (ptsOf X Y l1)) rfl (Row_mono hR1 (by simp)) ⟨w.heap.size,0,none⟩ 1 1 [.int .i64 (X M), .int .i64 (Y M)] rfl rfl ?c1 ?c2 ?c3 ?c4 ?c5 ?_
    case c1 =>
     intro q u hq
     match q,hq with
     | 0,hq => simp at hq; subst hq; simpa [Addr.add] using bl_cell hb1 z0
     | 1,hq => simp at hq; subst hq; simpa [Addr.add] using bl_cell hb1 z1
     | q + 2,hq => simp at hq
    case c2 => intro u hu; simp at hu; rcases hu with rfl | rfl <;> rfl
    case c3 => have := HLL.out l1; have := n1; unfold maxLen; omega
    case c4 => have := HLL.out l1; have := n1; omega
    case c5 => first | omega | (simp; omega)
    intro v' w6 hown' hgrow hnil
    have hBg : Below w.heap.size w w6 := Below.trans (by (repeat (first | exact Below.refl _ _ | assumption | refine Below.drew ?_ | refine bl_alloc ?_ _ | refine bl_then ?_ (by assumption)))) ((Below.refl _ _).grown hgrow (by first | omega | (simp; omega)) (fun k hk => hlow k hk))
    show K (Act.put _ (some 24) v') w6
    refine hK.out _ _ hBg (fun hHeld => ?_)
    clear hK K
    try simp only [Act.put,Qx,Qy,Qz]
    refine takeK (i := 10) (d := some 4) (v := ?w10) rfl rfl (Or.inl ⟨by rfl,?hz10⟩) (by assumption) ?_
    case hz10 => (intro w hSw; (try dsimp only at hSw); go_simp <;> with_reducible rfl)
    simp only [Act.put,Qx,Qy,Qz]
    refine wpAnyH_done (by kernel_rfl) ?_ _
    refine NoPanic.normal ?_
    go_wp2_with fail
    go_meet
    case rel =>
     refine ⟨_,rfl,?_,hBg⟩
     rw [ptsOf_add X Y l1 M]
     show World.ownsRow _ _ _ _ _ _ _
     rw [cellsL_add,List.length_append]
     exact hown'
  case rest =>
   obtain ⟨v',rfl,hR,hB⟩ := hcut
   have HR : Hid (Row w.heap.size wc u4 (ptsOf X Y (L ++ [M]))) := hR
   clear hR
   go_wp2_with fail
   go_ret
   exact ⟨_,rfl,by rw [HPP.out]; exact HR.out,hB⟩
theorem fx_pts {fs : List Fx} (hc : fxC fs = 0) (i : Nat) (hi : i < fs.length) : 0 < (fxAt fs i).pts.length ∧ (fxAt fs i).pts.length ≤ 12 := by
 have h := (featsC_ok hc).2.2 i hi
 obtain ⟨_,_,_,_,_,_,_,_,_,_,_,_,_,_,_,h1,h2,_⟩ := feat_ok h
 exact ⟨h1,h2⟩
theorem FxRow.ownR {base : Nat} {w : World} {v : Value} {fs : List Fx} {H : Nat → Feat} (h : FxRow base w v fs H) (hc : fxC fs = 0) :
  ∃ a cap,v = .slice a fs.length cap ∧ IsFs w a fs.length H ∧ OwnR w base w.heap.size a fs.length (fun i => (H i).n) (fun i => (H i).cap) := by
 obtain ⟨a,cap,hv,hcap,h0 | ⟨b,rfl,hb,hF⟩⟩ := h.is
 ·exact ⟨a,cap,hv, .inl h0, .inl h0⟩
 ·refine ⟨_,cap,hv, .inr ⟨b,0,rfl,hb,hF⟩,?_⟩
  rcases h.1.at with ⟨h1,h2⟩ | ⟨g,cap',hv',hg,hgl,hc',hT,_⟩
  ·left
   simpa using congrArg List.length h2
  ·rw [List.length_range] at hv' hT
   rw [hv] at hv'
   injection hv' with e1 e2 e3
   injection e1 with e1
   injection e1 with e1
   subst e1
   refine .inr ⟨b,fun i => (((H i).a).map (·.block)).getD 0,rfl,⟨hg,hb,Nat.le_refl _⟩,hT,fun i hi => ?_,fun i j hi hj hij => ?_⟩
   ·obtain ⟨e,r⟩ := h.2.1 i hi
    have hp := fx_pts hc i hi
    have hn : (H i).n = (fxAt fs i).pts.length := by rw [e]; rfl
    obtain ⟨a',c',hv2,_,h3 | ⟨q,ha,hq,hql,_,hqT⟩⟩ := r.own
    ·omega
    ·injection hv2 with k1 k2 k3
     have hai : (H i).a = some ⟨q,0,none⟩ := k1.trans ha
     have hcell : w.cell? ⟨b,i * 7 + 4,none⟩ = some (.slice (H i).a (H i).n (H i).cap) := by
      obtain ⟨_,_,_,_,c4,_,_⟩ := (hF i hi).1
      simpa using c4
     have hqb : q ≠ b := by
      intro e'
      obtain ⟨c1,h1⟩ := heap_of_row r q (by rw [hai]; rfl)
      obtain ⟨c2,h2⟩ := heap_of_row h.1 b (by rw [hv]; rfl)
      rw [e',h2] at h1
      injection h1 with h1
      injection h1 with _ h1
      exact absurd h1 (by decide)
     simp only [hai,Option.map_some,Option.getD_some]
     refine ⟨⟨hq,hql,hqb⟩,?_,?_⟩
     ·rw [hn]; exact hqT
     ·rw [hcell,hai]
   ·obtain ⟨_,r1⟩ := h.2.1 i hi
    obtain ⟨_,r2⟩ := h.2.1 j hj
    have hp1 := fx_pts hc i hi
    have hp2 := fx_pts hc j hj
    obtain ⟨_,_,hv1,_,h3 | ⟨q1,ha1,_⟩⟩ := r1.own
    ·omega
    obtain ⟨_,_,hv2,_,h4 | ⟨q2,ha2,_⟩⟩ := r2.own
    ·omega
    injection hv1 with k1
    injection hv2 with k2
    have e1 := k1.trans ha1
    have e2 := k2.trans ha2
    simp only [e1,e2,Option.map_some,Option.getD_some] at hij
    subst hij
    exact h.2.2 i j hi hj (e1.trans e2.symm) (by rw [e1]; simp)
noncomputable def upC (Z : Nat → Int) (n : Nat) : Int := if 900 < n then 2 else (match upG Z n with | none => 5 | some _ => 0)
noncomputable def upL (Z : Nat → Int) (n : Nat) : List Fx := if 900 < n then [] else (upG Z n).getD []
theorem upG_ok {Z : Nat → Int} {n : Nat} {fs : List Fx} (h : upG Z n = some fs) : fxC fs = 0 := by
 unfold upG at h
 split at h
 ·cases hr : rdList Z (n - 2) with
  | none => rw [hr] at h; cases h
  | some x =>
   rw [hr] at h
   simp only [Option.bind_some] at h
   split at h
   ·rename_i hh
    injection h with h
    subst h
    exact hh.2.1
   ·cases h
 ·cases h
def UpAns (C : Int) (L : List Fx) (w : World) (e : Ending) (w' : World) : Prop :=
 ∃ a cap T,e = .returned (.agg #[.int .i64 C, .slice a L.length cap]) ∧ IsFs w' a L.length T ∧ (∀ i,i < L.length → (T i).same (fxG L i)) ∧ OwnR w' w.heap.size w'.heap.size a L.length (fun i => (T i).n) (fun i => (T i).cap) ∧ Below w.heap.size w w'
theorem unP_ans {Z : Nat → Int} {n : Nat} {w w' : World} {e : Ending} (h : UnP Z n w e w') : UpAns (upC Z n) (upL Z n) w e w' := by
 obtain ⟨h,hb⟩ := h
 unfold upC upL
 split at h
 ·rename_i hn
  rw [if_pos hn,if_pos hn]
  exact ⟨none,0,fun _ => fxFeat ⟨[],ByteArray.empty, []⟩ none 0,h, .inl rfl,fun i hi => absurd hi (Nat.not_lt_zero _), .inl rfl,hb⟩
 ·rename_i hn
  rw [if_neg hn,if_neg hn]
  cases hg : upG Z n with
  | none =>
   rw [hg] at h
   exact ⟨none,0,fun _ => fxFeat ⟨[],ByteArray.empty, []⟩ none 0,h, .inl rfl,fun i hi => absurd hi (Nat.not_lt_zero _), .inl rfl,hb⟩
  | some fs =>
   rw [hg] at h
   obtain ⟨v,H,he,hX⟩ := h
   obtain ⟨a,cap,rfl,hF,hO⟩ := hX.ownR (upG_ok hg)
   exact ⟨a,cap,H,he,hF,hX.same,hO,hb⟩
def TlAns (C z x y : Int) (L : List Fx) (w : World) (e : Ending) (w' : World) : Prop :=
 ∃ a cap T,e = .returned (trV C z x y (.slice a L.length cap)) ∧ IsFs w' a L.length T ∧ (∀ i,i < L.length → (T i).same (fxG L i)) ∧ OwnR w' w.heap.size w'.heap.size a L.length (fun i => (T i).n) (fun i => (T i).cap) ∧ Below w.heap.size w w'
noncomputable def tlC (z x y : Int) (Z : Nat → Int) (n : Nat) : Int := if refB z x y = true then upC Z n else 3
open Classical in
noncomputable def tlK (z x y : Int) (Z : Nat → Int) (n : Nat) (v : Int) : Int := if tlC z x y Z n = 0 then v else 0
open Classical in
noncomputable def tlL (z x y : Int) (Z : Nat → Int) (n : Nat) : List Fx := if tlC z x y Z n = 0 then upL Z n else []
theorem TlAns.bad {C z x y : Int} {Z : Nat → Int} {n : Nat} {w w' : World} (hc : tlC z x y Z n = C) (h0 : C ≠ 0) (hb : Below w.heap.size w w') : TlAns (tlC z x y Z n) (tlK z x y Z n z) (tlK z x y Z n x) (tlK z x y Z n y) (tlL z x y Z n) w (.returned (trV C 0 0 0 (.slice none 0 0))) w' := by
 have h1 : ¬ tlC z x y Z n = 0 := by rw [hc]; exact h0
 unfold tlK tlL
 rw [if_neg h1,if_neg h1,if_neg h1,if_neg h1,hc]
 exact ⟨none,0,fun _ => fxFeat ⟨[],ByteArray.empty, []⟩ none 0,rfl, .inl rfl,fun i hi => absurd hi (Nat.not_lt_zero _), .inl rfl,hb⟩
theorem OwnR.wideR {w : World} {lo lo' hi hi' m : Nat} {a : Option Addr} {N C : Nat → Nat} (h : OwnR w lo hi a m N C) (h1 : lo' ≤ lo) (h2 : hi ≤ hi') (h3 : hi' ≤ w.heap.size) : OwnR w lo' hi' a m N C := by
 rcases h with h | ⟨g,q,e,⟨k1,k2,k3⟩,hT,hq,hd⟩
 ·exact .inl h
 ·exact .inr ⟨g,q,e,⟨by omega,by omega,h3⟩,hT,fun i hi => ⟨⟨by have := (hq i hi).1; omega,by have := (hq i hi).1; omega,(hq i hi).1.2.2⟩,(hq i hi).2⟩,hd⟩
theorem there5t (V : World) (a b c d e : Value) (t : TypeId) : There (V.alloc (.cells #[a,b,c,d,e] t)) V.heap.size 5 := fun o ho => by
 have : o = 0 ∨ o = 1 ∨ o = 2 ∨ o = 3 ∨ o = 4 := by omega
 rcases this with rfl | rfl | rfl | rfl | rfl <;> exact ⟨⟨_,by simp [go_sem]; rfl⟩,by simp [go_sem]⟩
theorem There.putT {W : World} {r n o r' : Nat} {v : Value} (h : There W r n) : There (W.setCell ⟨r',o,none⟩ v) r n := fun o' ho => by
 obtain ⟨⟨u,hu⟩,hf⟩ := h o' ho
 refine ⟨?_,by rw [World.frozen?_setCell]; exact hf⟩
 by_cases e : (⟨r',o,none⟩ : Addr) = ⟨r,o',none⟩
 ·rw [e]; exact ⟨v,World.cell?_setCell_same _ _ _ (by rw [hu])⟩
 ·exact ⟨u,by rw [set1_other e]; exact hu⟩
theorem sett5_at {W : World} {r : Nat} {a b c d e : Value} (hT : There W r 5) :
  (((((W.setCell ⟨r,0,none⟩ a).setCell ⟨r,1,none⟩ b).setCell ⟨r,2,none⟩ c).setCell ⟨r,3,none⟩ d).setCell ⟨r,4,none⟩ e).cell? ⟨r,0,none⟩ = some a ∧
  (((((W.setCell ⟨r,0,none⟩ a).setCell ⟨r,1,none⟩ b).setCell ⟨r,2,none⟩ c).setCell ⟨r,3,none⟩ d).setCell ⟨r,4,none⟩ e).cell? ⟨r,1,none⟩ = some b ∧
  (((((W.setCell ⟨r,0,none⟩ a).setCell ⟨r,1,none⟩ b).setCell ⟨r,2,none⟩ c).setCell ⟨r,3,none⟩ d).setCell ⟨r,4,none⟩ e).cell? ⟨r,2,none⟩ = some c ∧
  (((((W.setCell ⟨r,0,none⟩ a).setCell ⟨r,1,none⟩ b).setCell ⟨r,2,none⟩ c).setCell ⟨r,3,none⟩ d).setCell ⟨r,4,none⟩ e).cell? ⟨r,3,none⟩ = some d ∧
  (((((W.setCell ⟨r,0,none⟩ a).setCell ⟨r,1,none⟩ b).setCell ⟨r,2,none⟩ c).setCell ⟨r,3,none⟩ d).setCell ⟨r,4,none⟩ e).cell? ⟨r,4,none⟩ = some e := by
 obtain ⟨x0,h0⟩ := (hT 0 (by omega)).1
 obtain ⟨x1,h1⟩ := (hT 1 (by omega)).1
 obtain ⟨x2,h2⟩ := (hT 2 (by omega)).1
 obtain ⟨x3,h3⟩ := (hT 3 (by omega)).1
 obtain ⟨x4,h4⟩ := (hT 4 (by omega)).1
 have ne : ∀ i j : Nat,i ≠ j → (⟨r,i,none⟩ : Addr) ≠ ⟨r,j,none⟩ := fun i j hij h => hij (by injection h)
 refine ⟨?_,?_,?_,?_,?_⟩
 ·rw [set1_other (ne 4 0 (by omega)),set1_other (ne 3 0 (by omega)),set1_other (ne 2 0 (by omega)),set1_other (ne 1 0 (by omega))]; exact set1_same (by exact h0)
 ·rw [set1_other (ne 4 1 (by omega)),set1_other (ne 3 1 (by omega)),set1_other (ne 2 1 (by omega))]; exact set1_same (by rw [set1_other (ne 0 1 (by omega))]; exact h1)
 ·rw [set1_other (ne 4 2 (by omega)),set1_other (ne 3 2 (by omega))]; exact set1_same (by rw [set1_other (ne 1 2 (by omega)),set1_other (ne 0 2 (by omega))]; exact h2)
 ·rw [set1_other (ne 4 3 (by omega))]; exact set1_same (by rw [set1_other (ne 2 3 (by omega)),set1_other (ne 1 3 (by omega)),set1_other (ne 0 3 (by omega))]; exact h3)
 ·exact set1_same (by rw [set1_other (ne 3 4 (by omega)),set1_other (ne 2 4 (by omega)),set1_other (ne 1 4 (by omega)),set1_other (ne 0 4 (by omega))]; exact h4)
theorem mid5 {W : World} {r : Nat} {a b c d e : Value} : MidB r (r + 1) W (((((W.setCell ⟨r,0,none⟩ a).setCell ⟨r,1,none⟩ b).setCell ⟨r,2,none⟩ c).setCell ⟨r,3,none⟩ d).setCell ⟨r,4,none⟩ e) :=
 (((((MidB.refl r (r + 1) W).set (Nat.le_refl _) (Nat.lt_succ_self _) _ _).set (Nat.le_refl _) (Nat.lt_succ_self _) _ _).set (Nat.le_refl _) (Nat.lt_succ_self _) _ _).set (Nat.le_refl _) (Nat.lt_succ_self _) _ _).set (Nat.le_refl _) (Nat.lt_succ_self _) _ _
theorem sheetTile_any (z x y : Int) (a : Option Addr) (n cap : Nat) (w : World) : Calls Tryz.prog 21 #[.agg #[.int .i64 z, .int .i64 x, .int .i64 y, .slice a n cap]] w fun e w' => e = .returned (.agg #[.int .i64 z, .int .i64 x, .int .i64 y, .slice a n cap]) ∧ Below w.heap.size w w' := by
 go_enter Tryz.func21,Tryz.ntmps21
 go_wp2
 exact bodyPost_ret (v := .agg #[.int .i64 z, .int .i64 x, .int .i64 y, .slice a n cap]) (by simp [results,Tryz.results21,go_sem]) rfl ⟨rfl,by (repeat (first|exact Qr _ _|assumption|refine Qd ?_|refine Qa ?_ _|refine Qt ?_|refine Qs ?_ _|refine Qo ?_ ?_ _ _))⟩
end Go.Proofs.YtfkonhagjahgnaaGreat
