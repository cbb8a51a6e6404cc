/- Texts. -/
import Derived.Test.YtfkonhagjahgnaaGreatWTiles6
import Derived.Test.YtfkonhagjahgnaaGreatWTiles32
import Derived.Test.YtfkonhagjahgnaaGreatWTiles1
import Derived.Deep.LoopGhost
import Derived.Test.YtfkonhagjahgnaaGreatWTiles31
import Derived.Test.YtfkonhagjahgnaaGreatWTiles5
import Derived.Test.YtfkonhagjahgnaaGreatWTiles9
set_option linter.unusedSimpArgs false
set_option linter.unusedVariables false
set_option maxRecDepth 100000
set_option maxHeartbeats 32000000
namespace Go.Proofs.YtfkonhagjahgnaaGreat
open Go.RowKit
def openL (l : List (Int × Int)) : List (Int × Int) := if 1 < l.length ∧ l.getLast? = l.head? then l.dropLast else l
def fillL (k : Nat) (l : List (Int × Int)) : List (Int × Int) := l ++ List.replicate (k - l.length) (l.getLastD (0,0))
theorem fillL_full {k : Nat} {l : List (Int × Int)} (h : k ≤ l.length) : fillL k l = l := by
 unfold fillL
 rw [show k - l.length = 0 by omega]
 simp
theorem fillL_step {k : Nat} {l : List (Int × Int)} {x y : Int} (h : l.length < k) (hl : l.getLast? = some (x,y)) : fillL k (l ++ [(x,y)]) = fillL k l := by
 unfold fillL
 have e1 : (l ++ [(x,y)]).getLastD (0,0) = (x,y) := by simp
 have e2 : l.getLastD (0,0) = (x,y) := by rw [List.getLastD_eq_getLast?,hl]; rfl
 rw [e1,e2,List.append_assoc]
 congr 1
 have e3 : k - l.length = (k - (l ++ [(x,y)]).length) + 1 := by simp; omega
 rw [e3,List.replicate_succ]
 rfl
theorem Row.first {base : Nat} {w : World} {v : Value} {l : List (Int × Int)} (h : Row base w v l) (hne : 0 < l.length) :
  ∃ g cap x y,v = .slice (some ⟨g,0,none⟩) l.length cap ∧ l.head? = some (x,y) ∧ w.cell? ⟨g,0,none⟩ = some (.int .i64 x) ∧ w.cell? ⟨g,1,none⟩ = some (.int .i64 y) := by
 obtain ⟨a,cap,hv,hc,h0 | ⟨b,rfl,hb,hl,hp,ht⟩⟩ := h.own
 ·omega
 ·obtain ⟨e1,e2⟩ := hp 0 (by omega)
  simp only [Nat.zero_add,Nat.zero_mul] at e1 e2
  refine ⟨b,cap,px l 0,py l 0,hv,?_,e1,e2⟩
  cases l with
  | nil => simp at hne
  | cons p l => simp [px,py]
theorem Row.cut {base : Nat} {w : World} {g cap : Nat} {l : List (Int × Int)} (h : Row base w (.slice (some ⟨g,0,none⟩) l.length cap) l) : Row base w (.slice (some ⟨g,0,none⟩) (l.length - 1) cap) l.dropLast := by
 obtain ⟨h1,h2 | ⟨g',cp,cur,hv,hg,hh,hkc,hcm,hcs,htk⟩⟩ := h
 ·cases h2.1
 ·injection hv with e1 e2 e3
  injection e1 with e1
  injection e1 with e1
  subst e1 e3
  have hl : l.dropLast.length = l.length - 1 := List.length_dropLast
  have hc : cellsL l.dropLast = (cellsL l).take ((l.length - 1) * 2) := by
   by_cases h0 : l = []
   ·subst h0; rfl
   ·have e := List.dropLast_concat_getLast h0
    obtain ⟨⟨x,y⟩,hxy⟩ : ∃ p,p = l.getLast h0 := ⟨_,rfl⟩
    have e' : l = l.dropLast ++ [(x,y)] := by rw [hxy]; exact e.symm
    have hcl : cellsL l = cellsL l.dropLast ++ [.int .i64 x, .int .i64 y] := by
     conv => lhs; rw [e']
     exact cellsL_add _ _ _
    rw [hcl,List.take_append_of_le_length (by rw [cellsL_len,hl]; exact Nat.le_refl _),List.take_of_length_le (by rw [cellsL_len,hl]; exact Nat.le_refl _)]
  refine ⟨by rw [cellsL_len], .inr ⟨g,cap,cur,by rw [hl],hg,hh,by rw [hl]; omega,hcm,hcs,?_⟩⟩
  rw [hc, ← htk,List.take_take,hl]
  congr 1
  omega
set_option maxRecDepth 8000 in
theorem filled_any (base k : Nat) (v : Value) (l : List (Int × Int)) (w : World) (hR : Row base w v l) (hne : 0 < l.length) (hl : l.length ≤ 20) (hk : k ≤ 20) (hb : base ≤ w.heap.size) :
  Calls Tryz.prog 68 #[v, .int .i64 (k : Int)] w fun e w' => ∃ v',e = .returned v' ∧ Row base w' v' (fillL k l) ∧ Below base w w' ∧ NP w w' := by
 obtain ⟨i0,hi,hz0,hz1,hz2⟩ := info_parts (show (Tryz.prog.info? 67).map (fun i => (i.zero,i.size,i.bytes)) = some (some (.agg #[.int .i64 0, .int .i64 0]),2,16) by kernel_rfl)
 have HR : Hid (Row base w v l) := hR
 clear hR
 go_enter Tryz.func68,Tryz.ntmps68
 go_wp2_with fail
 go_loopg [0] k (fun gh s0 wr => ∃ m : List (Int × Int),0 < m.length ∧ m.length ≤ 20 ∧ k ≤ m.length + gh ∧ fillL k m = fillL k l ∧ Row base wr s0 m ∧ Below base w wr ∧ NP w wr)
 case atStart => exact ⟨l,hne,hl,by omega,rfl,HR.out,Below.refl _ _,NP.refl _⟩
 case round =>
  obtain ⟨m,hm0,hm20,hgh,hfm,hRm,hBm,hNm⟩ := hrel
  obtain ⟨g,cap5,x,y,hv,hg1,hg2,hc5,hlast,e0,e1⟩ := hRm.last hm0
  have HFM : Hid (fillL k m = fillL k l) := hfm
  have HLA : Hid (m.getLast? = some (x,y)) := hlast
  have HRm : Hid (Row base wr u0 m) := hRm
  have HBm : Hid (Below base w wr) := hBm
  have HNm : Hid (NP w wr) := hNm
  have hbs := hBm.size
  clear hfm hlast hRm hBm hNm
  obtain ⟨N,hN⟩ : ∃ N,N = m.length := ⟨_,rfl⟩
  have HN : Hid (N = m.length) := hN
  rw [← hN] at hv e0 e1 hc5 hm0 hm20 hgh
  by_cases hlt : N < k
  ·cases gk with
   | zero => omega
   | succ gh =>
    have hlti : (N : Int) < (k : Int) := by omega
    obtain ⟨M,hM⟩ : ∃ M,M = N - 1 := ⟨_,rfl⟩
    rw [← hM] at e0 e1
    have wM : IntKind.i64.wrap ((N : Int) - 1) = (M : Int) := by
     rw [show (N : Int) - 1 = (M : Int) by omega]
     exact IntWalk.i64_in _ (by omega)
    have hMi : (N : Int) - 1 = (M : Int) := by omega
    have m0 : (0 : Int) ≤ (M : Int) := by omega
    have m1 : (M : Int) < (N : Int) := by omega
    have HG : Hid (k ≤ N + (gh + 1)) := hgh
    clear hM hN hgh
    subst hv
    go_wp2_with (first
     | (at_builtin; go_must (refine wpList_append_own _ rfl _ _ 37 rfl base 67 i0 (.agg #[.int .i64 0, .int .i64 0]) 2 16 Tryz.underlying37 hi hz0 hz1 hz2 rfl (by decide) _ m.length (cellsL m) rfl (World.ownsRow.alloc HRm.out _) ⟨wr.heap.size,0,none⟩ 1 1 [.int .i64 x, .int .i64 y] rfl rfl ?c1 ?c2 ?c3 ?c4 ?c5 ?_)))
    case c1 =>
     intro q u hq
     match q,hq with
     | 0,hq => simp at hq; subst hq; simp [Addr.add,go_sem]
     | 1,hq => simp at hq; subst hq; simp [Addr.add,go_sem]
     | q + 2,hq => simp at hq
    case c2 => first | (intro u hu; simp at hu; rcases hu with rfl | rfl <;> rfl) | exact ⟨rfl,rfl⟩
    case c3 => have := HN.out; unfold maxLen; omega
    case c4 => have := HN.out; omega
    case c5 => first | omega | (simp; omega)
    intro v' w6 hown' hgrow hnil
    clear hnil
    have hBa : Below wr.heap.size wr (wr.alloc (.cells #[.int .i64 x, .int .i64 y] 67)) := (Below.refl _ _).alloc (Nat.le_refl _) _
    have hBg : Below base (wr.alloc (.cells #[.int .i64 x, .int .i64 y] 67)) w6 := (Below.refl _ _).grown hgrow (by simp; omega) (fun k hk => (HRm.out.lt k hk).1)
    have HB6 : Hid (Below base w w6) := (HBm.out.trans (hBa.mono (by omega))).trans hBg
    have HN6 : Hid (NP w w6) := (HNm.out.trans (NP.of_below hBa)).trans (NP.of_grown (HRm.out.below hBa) hgrow)
    have HR6 : Hid (Row base w6 v' (m ++ [(x,y)])) := by
     show World.ownsRow _ _ _ _ _ _ _
     rw [cellsL_add,List.length_append]
     exact hown'
    clear hown' hgrow hBa hBg
    go_wp2_with fail
    go_roundg gh
    case measure => omega
    case rel =>
     have h1 := HN.out
     have h2 := HG.out
     exact ⟨m ++ [(x,y)],by simp,by simp; omega,by simp; omega,by rw [fillL_step (by omega) HLA.out]; exact HFM.out,HR6.out,HB6.out,HN6.out⟩
  ·have hlti : ¬ (N : Int) < (k : Int) := by omega
   have HF : Hid (fillL k l = m) := by
    show _ = _
    rw [← HFM.out,fillL_full (by have := HN.out; omega)]
   subst hv
   clear hN
   go_wp2_with fail
   go_ret
   exact ⟨_,rfl,by rw [HF.out]; exact HRm.out,HBm.out,HNm.out⟩
set_option maxRecDepth 8000 in
theorem opened_any (base : Nat) (v : Value) (l : List (Int × Int)) (w : World) (hR : Row base w v l) (hne : 0 < l.length) (hl : l.length ≤ 20) :
  Calls Tryz.prog 66 #[v] w fun e w' => ∃ v',e = .returned v' ∧ Row base w' v' (openL l) ∧ Below w.heap.size w w' := by
 obtain ⟨g,cap5,x,y,hv,hg1,hg2,hc5,hlast,e0,e1⟩ := hR.last hne
 obtain ⟨g',cap',x',y',hv',hhead,d0,d1⟩ := hR.first hne
 rw [hv] at hv'
 injection hv' with a1 a2 a3
 injection a1 with a1
 injection a1 with a1
 subst a1 a3
 have HR : Hid (Row base w (.slice (some ⟨g,0,none⟩) l.length cap5) l) := by show Row _ _ _ _; rw [← hv]; exact hR
 have HLA : Hid (l.getLast? = some (x,y) ∧ l.head? = some (x',y')) := ⟨hlast,hhead⟩
 subst hv
 clear hR hlast hhead
 obtain ⟨N,hN⟩ : ∃ N,N = l.length := ⟨_,rfl⟩
 have HN : Hid (N = l.length) := hN
 rw [← hN] at e0 e1 hc5 hne hl ⊢
 obtain ⟨M,hM⟩ : ∃ M,M = N - 1 := ⟨_,rfl⟩
 rw [← hM] at e0 e1
 have HM : Hid (M = N - 1) := hM
 have hMi : (N : Int) - 1 = (M : Int) := by omega
 have m0 : (0 : Int) ≤ (M : Int) := by omega
 have m1 : (M : Int) < (N : Int) := by omega
 have n0 : (0 : Int) < (N : Int) := by omega
 have mc : (M : Int) ≤ (cap5 : Int) := by omega
 have b0 : ∀ W',Below w.heap.size w W' → W'.cell? ⟨g,M * 2,none⟩ = some (.int .i64 x) := fun W' h => bl_cell h e0
 have b1 : ∀ W',Below w.heap.size w W' → W'.cell? ⟨g,M * 2 + 1,none⟩ = some (.int .i64 y) := fun W' h => bl_cell h e1
 have b2 : ∀ W',Below w.heap.size w W' → W'.cell? ⟨g,0,none⟩ = some (.int .i64 x') := fun W' h => bl_cell h d0
 have b3 : ∀ W',Below w.heap.size w W' → W'.cell? ⟨g,1,none⟩ = some (.int .i64 y') := fun W' h => bl_cell h d1
 clear hN hM
 go_enter Tryz.func66,Tryz.ntmps66
 go_wp2_with fail
 go_cut [18] (fun t wc => t = .bool (decide (0 < M ∧ (x,y) = (x',y'))) ∧ Below w.heap.size w wc)
 case first =>
  by_cases hM0 : M = 0
  ·have hd : decide ((0 : Int) < (M : Int)) = false := by simp; omega
   have hd2 : decide (0 < M) = false := by simp; omega
   have HD : Hid (decide (0 < M ∧ (x,y) = (x',y')) = false) := by show _ = _; simp [hM0]
   clear hM0
   refine wp_region_noPanic ?_
   refine wp_region_held_drew (S := fun W' => Below w.heap.size w W') (by kernel_rfl) (by (repeat (first | exact Below.refl _ _ | assumption | refine Below.drew ?_ | refine bl_alloc ?_ _ | refine bl_then ?_ (by assumption)))) (fun hHeld => ?_)
   refine takeK (i := 0) (d := some 7) (v := ?v0) rfl rfl (Or.inl ⟨by rfl,?hy0⟩) (by assumption) ?_
   case hy0 => (intro w hSw; (try dsimp only at hSw); go_simp <;> with_reducible rfl)
   simp only [Act.put,Qx,Qy,Qz]
   refine takeK (i := 1) (d := some 8) (v := ?v1) rfl rfl (Or.inl ⟨by rfl,?hy1⟩) (by assumption) ?_
   case hy1 => (intro w hSw; (try dsimp only at hSw); go_simp <;> with_reducible rfl)
   simp only [Act.put,Qx,Qy,Qz]
   refine takeK (i := 2) (d := some 9) (v := ?v2) rfl rfl (Or.inl ⟨by rfl,?hy2⟩) (by assumption) ?_
   case hy2 => (intro w hSw; (try dsimp only at hSw); go_simp <;> with_reducible rfl)
   simp only [Act.put,Qx,Qy,Qz]
   refine passK (i := 3) (d := some 10) rfl rfl (by rfl) (by assumption) ?_
   simp only [Act.put,Qx,Qy,Qz]
   refine passK (i := 4) (d := some 11) rfl rfl (by rfl) (by assumption) ?_
   simp only [Act.put,Qx,Qy,Qz]
   refine passK (i := 5) (d := some 12) rfl rfl (by rfl) (by assumption) ?_
   simp only [Act.put,Qx,Qy,Qz]
   refine passK (i := 6) (d := some 13) rfl rfl (by rfl) (by assumption) ?_
   simp only [Act.put,Qx,Qy,Qz]
   refine passK (i := 7) (d := some 14) rfl rfl (by rfl) (by assumption) ?_
   simp only [Act.put,Qx,Qy,Qz]
   refine passK (i := 8) (d := some 15) rfl rfl (by rfl) (by assumption) ?_
   simp only [Act.put,Qx,Qy,Qz]
   refine passK (i := 9) (d := some 16) rfl rfl (by rfl) (by assumption) ?_
   simp only [Act.put,Qx,Qy,Qz]
   refine passK (i := 10) (d := some 17) rfl rfl (by rfl) (by assumption) ?_
   simp only [Act.put,Qx,Qy,Qz]
   refine takeK (i := 11) (d := some 18) (v := ?v11) rfl rfl (Or.inl ⟨by rfl,?hy11⟩) (by assumption) ?_
   case hy11 => (intro w hSw; (try dsimp only at hSw); go_simp <;> with_reducible rfl)
   simp only [Act.put,Qx,Qy,Qz]
   refine wpAnyH_done (by kernel_rfl) ?_ _
   refine NoPanic.normal ?_
   go_wp2_with fail
   go_meet
   case rel => exact ⟨by rw [HD.out],by (repeat (first|exact Qr _ _|assumption|refine Qd ?_|refine Qa ?_ _|refine Qt ?_|refine Qs ?_ _|refine Qo ?_ ?_ _ _))⟩
  ·have hd : decide ((0 : Int) < (M : Int)) = true := by simp; omega
   have hd2 : decide (0 < M) = true := by simp; omega
   have hM1 : 0 < M := by omega
   by_cases hx : x = x'
   ·by_cases hy : y = y'
    ·subst hx hy
     have HD : Hid (decide (0 < M ∧ (x,y) = (x,y)) = true) := by show _ = _; simp [hM1]
     clear hM1 hM0
     go_region_held3 (fun W' => Below w.heap.size w W') ((repeat (first|exact Qr _ _|assumption|refine Qd ?_|refine Qa ?_ _|refine Qt ?_|refine Qs ?_ _|refine Qo ?_ ?_ _ _))) (fail)
     go_wp2_with fail
     go_meet
     case rel => exact ⟨by rw [HD.out],by assumption⟩
    ·have hyb : (y == y') = false := by simpa using hy
     have HD : Hid (decide (0 < M ∧ (x,y) = (x',y')) = false) := by show _ = _; simp [hy]
     subst hx
     clear hM1 hM0
     go_region_held3 (fun W' => Below w.heap.size w W') ((repeat (first|exact Qr _ _|assumption|refine Qd ?_|refine Qa ?_ _|refine Qt ?_|refine Qs ?_ _|refine Qo ?_ ?_ _ _))) (fail)
     go_wp2_with fail
     go_meet
     case rel => exact ⟨by rw [HD.out],by assumption⟩
   ·have hxb : (x == x') = false := by simpa using hx
    have HD : Hid (decide (0 < M ∧ (x,y) = (x',y')) = false) := by show _ = _; simp [hx]
    clear hM1 hM0
    go_region_held3 (fun W' => Below w.heap.size w W') ((repeat (first|exact Qr _ _|assumption|refine Qd ?_|refine Qa ?_ _|refine Qt ?_|refine Qs ?_ _|refine Qo ?_ ?_ _ _))) (fail)
    go_wp2_with fail
    go_meet
    case rel => exact ⟨by rw [HD.out],by assumption⟩
 case rest =>
  obtain ⟨rfl,hbc⟩ := hcut
  have HBc : Hid (Below w.heap.size w wc) := hbc
  have HRc : Hid (Row base wc (.slice (some ⟨g,0,none⟩) l.length cap5) l) := HR.out.below hbc
  clear hbc b0 b1 b2 b3
  by_cases hd : 0 < M ∧ (x,y) = (x',y')
  ·have HO : Hid (openL l = l.dropLast) := by
    show _ = _
    unfold openL
    rw [if_pos]
    have h1 := HN.out
    have h2 := HM.out
    exact ⟨by omega,by rw [HLA.out.1,HLA.out.2,hd.2]⟩
   rw [decide_eq_true hd]
   clear hd
   go_wp2_with fail
   go_ret
   refine ⟨_,rfl,?_,HBc.out⟩
   rw [HO.out]
   have := HRc.out.cut
   rw [← HN.out, ← HM.out] at this
   exact this
  ·have HO : Hid (openL l = l) := by
    show _ = _
    unfold openL
    rw [if_neg]
    rintro ⟨h3,h4⟩
    have h1 := HN.out
    have h2 := HM.out
    rw [HLA.out.1,HLA.out.2] at h4
    exact hd ⟨by omega,by injection h4⟩
   rw [decide_eq_false hd]
   clear hd
   go_wp2_with fail
   go_ret
   refine ⟨_,rfl,?_,HBc.out⟩
   rw [HO.out,HN.out]
   exact HRc.out
def farTo (X Y : Nat → Int) (r : Int) (f t k : Nat) : Bool := decide (∃ i,i < k ∧ f < i ∧ nearI X Y r f t i = false)
theorem farTo_end (X Y : Nat → Int) (r : Int) (f t : Nat) : farTo X Y r f t t = farB X Y r f t := rfl
theorem farTo_one (X Y : Nat → Int) (r : Int) (f t : Nat) : farTo X Y r f t (f + 1) = false := by
 unfold farTo
 rw [decide_eq_false_iff_not]
 rintro ⟨i,h1,h2,_⟩
 omega
theorem farTo_step (X Y : Nat → Int) (r : Int) (f t k : Nat) (hk : f < k) : farTo X Y r f t (k + 1) = (farTo X Y r f t k || !nearI X Y r f t k) := by
 rw [Bool.eq_iff_iff]
 simp only [farTo,decide_eq_true_eq,Bool.or_eq_true,Bool.not_eq_true']
 constructor
 ·rintro ⟨i,h1,h2,h3⟩
  by_cases e : i = k
  ·subst e; exact .inr h3
  ·exact .inl ⟨i,by omega,h2,h3⟩
 ·rintro (⟨i,h1,h2,h3⟩ | h)
  ·exact ⟨i,by omega,h2,h3⟩
  ·exact ⟨k,by omega,hk,h⟩
theorem Row_mono {w : World} {b1 b2 n size : Nat} {e : TypeId} {v : Value} {xs : List Value} (h : w.ownsRow b1 e size v n xs) (hb : b2 ≤ b1) : w.ownsRow b2 e size v n xs := by
 obtain ⟨h1,h2 | ⟨g,cp,cur,hv,hg,hr⟩⟩ := h
 ·exact ⟨h1, .inl h2⟩
 ·exact ⟨h1, .inr ⟨g,cp,cur,hv,Nat.le_trans hb hg,hr⟩⟩
set_option maxRecDepth 8000 in
theorem l3Thin_any (b n cap : Nat) (X Y : Nat → Int) (r : Int) (hn : n ≤ 40) (hok : ∀ i,i < n → okP (X i) (Y i) = true) (hr0 : 0 ≤ r) (hr1 : r ≤ 4096) :
  ∀ d f t,t - f ≤ d → f < t → t < n → ∀ w,PtsAt w b 0 n X Y → b < w.heap.size →
  Calls Tryz.prog 161 #[.slice (some ⟨b,0,none⟩) n cap, .int .i64 (f : Int), .int .i64 (t : Int), .int .i64 r] w fun e w' => ∃ v l,e = .returned v ∧ Thin X Y r f t l ∧ Row w.heap.size w' v (ptsOf X Y l) ∧ Below w.heap.size w w' := by
 intro d
 induction d with
 | zero => intro f t h1 h2; omega
 | succ d ih =>
  intro f t hd hft htn w hp hbl
  obtain ⟨i0,hi,hz0,hz1,hz2⟩ := info_parts (show (Tryz.prog.info? 67).map (fun i => (i.zero,i.size,i.bytes)) = some (some (.agg #[.int .i64 0, .int .i64 0]),2,16) by kernel_rfl)
  have IH := (show Hid _ from ih)
  have HP : Hid (PtsAt w b 0 n X Y) := hp
  have HOK : Hid (∀ i,i < n → okP (X i) (Y i) = true) := hok
  have cm : ∀ i,i < n → ∀ W',Below w.heap.size w W' → W'.cell? ⟨b,i * 2,none⟩ = some (.int .i64 (X i)) ∧ W'.cell? ⟨b,i * 2 + 1,none⟩ = some (.int .i64 (Y i)) := fun i hi W' h => by
   have := (HP.out.below h hbl) i hi
   simpa using this
  have HCM : Hid _ := cm
  have HD : Hid (t - f ≤ d + 1) := hd
  clear hp ih cm hd
  go_enter Tryz.func161,Tryz.ntmps161
  go_wp2_with fail
  go_loopw [9,10] (fun s9 s10 wr => ∃ k : Nat,f + 1 ≤ k ∧ k ≤ t ∧ s10 = .int .i64 (k : Int) ∧ s9 = .bool (farTo X Y r f t k) ∧ Below w.heap.size w wr) (fun _ s10 _ => t - (intOf s10).toNat)
  case atStart => exact ⟨f + 1,by omega,by omega,by go_num,by rw [farTo_one],Below.refl _ _⟩
  case round =>
   obtain ⟨k,hk1,hk2,rfl,rfl,hB⟩ := hrel
   have HB : Hid (Below w.heap.size w wr) := hB
   clear hB
   by_cases hlt : k < t
   ·have hki : (k : Int) < (t : Int) := by omega
    have hst := farTo_step X Y r f t k (by omega)
    cases hfar : farTo X Y r f t k
    ·rw [hfar] at hst
     simp only [Bool.false_or] at hst
     have HST : Hid (farTo X Y r f t (k + 1) = !nearI X Y r f t k) := hst
     clear hst hfar
     have k0 : (0 : Int) ≤ (k : Int) := by omega
     have k1 : (k : Int) < (n : Int) := by omega
     have f0 : (0 : Int) ≤ (f : Int) := by omega
     have f1 : (f : Int) < (n : Int) := by omega
     have t0 : (0 : Int) ≤ (t : Int) := by omega
     have t1 : (t : Int) < (n : Int) := by omega
     have ck0 : ∀ W',Below wr.heap.size wr W' → W'.cell? ⟨b,k * 2,none⟩ = some (.int .i64 (X k)) := fun W' h => (HCM.out k (by omega) W' (bl_then HB.out h)).1
     have ck1 : ∀ W',Below wr.heap.size wr W' → W'.cell? ⟨b,k * 2 + 1,none⟩ = some (.int .i64 (Y k)) := fun W' h => (HCM.out k (by omega) W' (bl_then HB.out h)).2
     have cf0 : ∀ W',Below wr.heap.size wr W' → W'.cell? ⟨b,f * 2,none⟩ = some (.int .i64 (X f)) := fun W' h => (HCM.out f (by omega) W' (bl_then HB.out h)).1
     have cf1 : ∀ W',Below wr.heap.size wr W' → W'.cell? ⟨b,f * 2 + 1,none⟩ = some (.int .i64 (Y f)) := fun W' h => (HCM.out f (by omega) W' (bl_then HB.out h)).2
     have ct0 : ∀ W',Below wr.heap.size wr W' → W'.cell? ⟨b,t * 2,none⟩ = some (.int .i64 (X t)) := fun W' h => (HCM.out t (by omega) W' (bl_then HB.out h)).1
     have ct1 : ∀ W',Below wr.heap.size wr W' → W'.cell? ⟨b,t * 2 + 1,none⟩ = some (.int .i64 (Y t)) := fun W' h => (HCM.out t (by omega) W' (bl_then HB.out h)).2
     have HO3 : Hid (okP (X k) (Y k) = true ∧ okP (X f) (Y f) = true ∧ okP (X t) (Y t) = true) := ⟨HOK.out k (by omega),HOK.out f (by omega),HOK.out t (by omega)⟩
     go_wp2_with fail
     go_region_held3 (fun W' => Below wr.heap.size wr W') ((repeat (first|exact Qr _ _|assumption|refine Qd ?_|refine Qa ?_ _|refine Qt ?_|refine Qs ?_ _|refine Qo ?_ ?_ _ _)))
      (first | (go_at_call 168; refine (l1Near_any _ _ _ _ _ _ _ _ HO3.out.1 HO3.out.2.1 HO3.out.2.2 hr0 hr1).mono ?_; rintro e w' ⟨rfl,hb⟩))
     go_wp2_with fail
     rename_i hfin
     go_roundw
     case rel => exact ⟨k + 1,by omega,by omega,by go_num,by rw [HST.out]; rfl,bl_then HB.out hfin⟩
     case measure => simp [intOf]; omega
    ·rw [hfar] at hst
     simp only [Bool.true_or] at hst
     have HST : Hid (farTo X Y r f t (k + 1) = true) := hst
     clear hst hfar
     go_wp2_with fail
     refine wp_region_noPanic ?_
     refine wp_region_held_drew (S := fun W' => Below wr.heap.size wr W') (by kernel_rfl) (by (repeat (first | exact Below.refl _ _ | assumption | refine Below.drew ?_ | refine bl_alloc ?_ _ | refine bl_then ?_ (by assumption)))) (fun hHeld => ?_)
     refine takeK (i := 0) (d := some 19) (v := ?v0) rfl rfl (Or.inl ⟨by rfl,?hy0⟩) (by assumption) ?_
     case hy0 => (intro w hSw; (try dsimp only at hSw); go_simp <;> with_reducible rfl)
     simp only [Act.put,Qx,Qy,Qz]
     refine takeK (i := 1) (d := some 20) (v := ?v1) rfl rfl (Or.inl ⟨by rfl,?hy1⟩) (by assumption) ?_
     case hy1 => (intro w hSw; (try dsimp only at hSw); go_simp <;> with_reducible rfl)
     simp only [Act.put,Qx,Qy,Qz]
     refine passK (i := 2) (d := some 21) rfl rfl (by rfl) (by assumption) ?_
     simp only [Act.put,Qx,Qy,Qz]
     refine passK (i := 3) (d := some 22) rfl rfl (by rfl) (by assumption) ?_
     simp only [Act.put,Qx,Qy,Qz]
     refine passK (i := 4) (d := some 23) rfl rfl (by rfl) (by assumption) ?_
     simp only [Act.put,Qx,Qy,Qz]
     refine passK (i := 5) (d := some 24) rfl rfl (by rfl) (by assumption) ?_
     simp only [Act.put,Qx,Qy,Qz]
     refine passK (i := 6) (d := some 25) rfl rfl (by rfl) (by assumption) ?_
     simp only [Act.put,Qx,Qy,Qz]
     refine passK (i := 7) (d := some 26) rfl rfl (by rfl) (by assumption) ?_
     simp only [Act.put,Qx,Qy,Qz]
     refine passK (i := 8) (d := some 27) rfl rfl (by rfl) (by assumption) ?_
     simp only [Act.put,Qx,Qy,Qz]
     refine passK (i := 9) (d := some 28) rfl rfl (by rfl) (by assumption) ?_
     simp only [Act.put,Qx,Qy,Qz]
     refine passK (i := 10) (d := some 29) rfl rfl (by rfl) (by assumption) ?_
     simp only [Act.put,Qx,Qy,Qz]
     refine passK (i := 11) (d := some 30) rfl rfl (by rfl) (by assumption) ?_
     simp only [Act.put,Qx,Qy,Qz]
     refine passK (i := 12) (d := some 31) rfl rfl (by rfl) (by assumption) ?_
     simp only [Act.put,Qx,Qy,Qz]
     refine passK (i := 13) (d := some 32) rfl rfl (by rfl) (by assumption) ?_
     simp only [Act.put,Qx,Qy,Qz]
     refine passK (i := 14) (d := some 33) rfl rfl (by rfl) (by assumption) ?_
     simp only [Act.put,Qx,Qy,Qz]
     refine passK (i := 15) (d := some 34) rfl rfl (by rfl) (by assumption) ?_
     simp only [Act.put,Qx,Qy,Qz]
     refine passK (i := 16) (d := some 35) rfl rfl (by rfl) (by assumption) ?_
     simp only [Act.put,Qx,Qy,Qz]
     refine takeK (i := 17) (d := some 36) (v := ?v17) rfl rfl (Or.inl ⟨by rfl,?hy17⟩) (by assumption) ?_
     case hy17 => (intro w hSw; (try dsimp only at hSw); go_simp <;> with_reducible rfl)
     simp only [Act.put,Qx,Qy,Qz]
     refine takeK (i := 18) (d := some 9) (v := ?v18) rfl rfl (Or.inl ⟨by rfl,?hy18⟩) (by assumption) ?_
     case hy18 => (intro w hSw; (try dsimp only at hSw); go_simp <;> with_reducible rfl)
     simp only [Act.put,Qx,Qy,Qz]
     refine wpAnyH_done (by kernel_rfl) ?_ _
     refine NoPanic.normal ?_
     go_wp2_with fail
     go_roundw
     case rel => exact ⟨k + 1,by omega,by omega,by go_num,by rw [HST.out],bl_then HB.out (by (repeat (first|exact Qr _ _|assumption|refine Qd ?_|refine Qa ?_ _|refine Qt ?_|refine Qs ?_ _|refine Qo ?_ ?_ _ _)))⟩
     case measure => simp [intOf]; omega
   ·have hke : k = t := by omega
    subst hke
    rw [farTo_end]
    obtain ⟨cf0,cf1⟩ := HCM.out f (by omega) wr HB.out
    have f0 : (0 : Int) ≤ (f : Int) := by omega
    have f1 : (f : Int) < (n : Int) := by omega
    cases hfar : farB X Y r f k
    ·have HF : Hid (Thin X Y r f k [f]) := .near f k hfar
     have hs := HB.out.size
     clear hfar
     go_wp2_with fail
     go_ret
     refine ⟨_, [f],rfl,HF.out,?_,by have HB' := HB.out; (repeat (first|exact Qr _ _|assumption|refine Qd ?_|refine Qa ?_ _|refine Qt ?_|refine Qs ?_ _|refine Qo ?_ ?_ _ _))⟩
     have := World.ownsRow_lit (base := w.heap.size) (e := 67) (size := 2) wr #[.int .i64 (X f), .int .i64 (Y f)] 1 hs (by decide) rfl
     exact this
    ·obtain ⟨j,q1,q2,_⟩ := (farB_iff X Y r f k).1 hfar
     have HFar : Hid (farB X Y r f k = true) := hfar
     clear hfar cf0 cf1
     go_wp2_with fail
     refine (l3Farthest_any b n cap f k X Y wr (HP.out.below HB.out hbl) (Nat.lt_of_lt_of_le hbl HB.out.size) hn (by omega) (by omega) HOK.out).mono ?_
     rintro e w1 ⟨m,rfl,hM,hb1⟩
     have m1 := hM.lo
     have m2 := hM.hi
     have HM : Hid (Far X Y f k (f + 1) k m) := hM
     have HB1 : Hid (Below w.heap.size w w1) := bl_then HB.out hb1
     clear hM hb1
     go_wp2_with fail
     refine (IH.out f m (by have := HD.out; omega) (by omega) (by omega) w1 (HP.out.below HB1.out hbl) (Nat.lt_of_lt_of_le hbl HB1.out.size)).mono ?_
     rintro e w2 ⟨v1,l1,rfl,hT1,hR1,hb2⟩
     have HT1 : Hid (Thin X Y r f m l1) := hT1
     have HR1 : Hid (Row w1.heap.size w2 v1 (ptsOf X Y l1)) := hR1
     have HB2 : Hid (Below w.heap.size w w2) := bl_then HB1.out hb2
     have hs12 := hb2.size
     clear hT1 hR1 hb2
     go_wp2_with fail
     refine (IH.out m k (by have := HD.out; omega) (by omega) (by omega) w2 (HP.out.below HB2.out hbl) (Nat.lt_of_lt_of_le hbl HB2.out.size)).mono ?_
     rintro e w3 ⟨v2,l2,rfl,hT2,hR2,hb3⟩
     obtain ⟨n1,n2,n3⟩ := HT1.out.len X Y (by omega)
     obtain ⟨n4,n5,n6⟩ := hT2.len X Y (by omega)
     have hlen2 : (ptsOf X Y l2).length = l2.length := by simp [ptsOf]
     have hlen1 : (ptsOf X Y l1).length = l1.length := by simp [ptsOf]
     have hl2 : 0 < l2.length := List.length_pos_iff.2 n6
     obtain ⟨g,cp,hv2⟩ : ∃ g cp,v2 = .slice (some ⟨g,0,none⟩) (ptsOf X Y l2).length cp := by
      obtain ⟨av,cv,hv,_,h0 | ⟨g,rfl,_⟩⟩ := hR2.own
      ·omega
      ·exact ⟨g,cv,hv⟩
     have hc2 := World.ownsRow.cells hR2 (g := g) (by rw [hv2]; rfl)
     have HC2 := (show Hid _ from hc2)
     have HT : Hid (Thin X Y r f k (l1 ++ l2)) := .split f k m l1 l2 HFar.out HM.out HT1.out hT2
     have HR3 : Hid (Row w1.heap.size w3 v1 (ptsOf X Y l1)) := HR1.out.below hb3
     have HB3 : Hid (Below w.heap.size w w3) := bl_then HB2.out hb3
     have hs23 := hb3.size
     have HLL : Hid ((ptsOf X Y l2).length = l2.length ∧ (ptsOf X Y l1).length = l1.length) := ⟨hlen2,hlen1⟩
     subst hv2
     clear hT2 hR2 hb3 hc2 n2 n3 n5 n6 HR1 hlen1 hlen2
     go_wp2_with (first
      | (at_builtin; go_must (refine wpList_append_own _ rfl _ _ 37 rfl w1.heap.size 67 i0 (.agg #[.int .i64 0, .int .i64 0]) 2 16 Tryz.underlying37 hi hz0 hz1 hz2 rfl (by decide) _ (ptsOf X Y l1).length (cellsL (ptsOf X Y l1)) rfl HR3.out ⟨g,0,none⟩ (ptsOf X Y l2).length cp (cellsL (ptsOf X Y l2)) rfl ?c0 ?c1 ?c2 ?c3 ?c4 ?c5 ?_)))
     case c0 => rw [cellsL_len]
     case c1 => exact HC2.out
     case c2 =>
      intro u hu
      unfold cellsL at hu
      rw [List.mem_flatMap] at hu
      obtain ⟨p,_,hp⟩ := hu
      simp at hp
      rcases hp with rfl | rfl <;> rfl
     case c3 => have := HLL.out; unfold maxLen; omega
     case c4 => have := HLL.out; omega
     case c5 => omega
     intro v' w4 hown' hgrow hnil
     clear hnil
     have HB4 : Hid (Below w.heap.size w w4) := HB3.out.trans ((Below.refl _ _).grown hgrow HB3.out.size (fun k hk => Nat.le_trans HB1.out.size (HR3.out.lt k hk).1))
     have HR4 : Hid (Row w.heap.size w4 v' (ptsOf X Y (l1 ++ l2))) := by
      show Row _ _ _ _
      have e1 : ptsOf X Y (l1 ++ l2) = ptsOf X Y l1 ++ ptsOf X Y l2 := by simp [ptsOf]
      have e2 : cellsL (ptsOf X Y l1 ++ ptsOf X Y l2) = cellsL (ptsOf X Y l1) ++ cellsL (ptsOf X Y l2) := by simp [cellsL]
      rw [e1]
      show World.ownsRow _ _ _ _ _ _ _
      rw [e2,List.length_append]
      exact Row_mono hown' HB1.out.size
     clear hown' hgrow
     go_wp2
     go_ret
     exact ⟨_,l1 ++ l2,rfl,HT.out,HR4.out,HB4.out⟩
def DrawnL (w : World) (g m c : Nat) (G : Nat → Feat) : Prop := m ≤ c ∧ m ≤ 13 ∧ g < w.heap.size ∧ FsAt w g 0 m G ∧ SmallFs m G
theorem range_getD (m i : Nat) (hi : i < m) : (List.range m).getD i 0 = i := by simp [List.getD_eq_getElem?_getD,hi]
theorem FRow.fs {base g m c : Nat} {w : World} {H : Nat → Feat} (h : FRow base w (.slice (some ⟨g,0,none⟩) m c) H (List.range m)) (hp : ∀ j,j < m → IsPts w (H j).a (H j).n (H j).X (H j).Y) : m ≤ c ∧ g < w.heap.size ∧ base ≤ g ∧ FsAt w g 0 m H := by
 rcases h.at with ⟨hv,hl⟩ | ⟨g',c',hv,hg',hgl,hc',_,hF⟩
 ·cases hv
 ·rw [List.length_range] at hc' hF
  injection hv with e1 e2 e3
  injection e1 with e1
  injection e1 with e1
  subst e1 e3
  refine ⟨hc',hgl,hg',fun i hi => ⟨?_,hp i hi⟩⟩
  have := hF i hi
  rw [range_getD m i hi] at this
  rw [Nat.zero_add]
  exact this
theorem there_zero (m : Nat) (w : World) (t : TypeId) (i : Nat) (hi : i < m) : FeatAt (w.alloc (.cells (madeCells zeroF (m * 7)) t)) w.heap.size (i * 7) 0 0 0 0 (.slice none 0 0) ⟨#[]⟩ 0 := by
 have c : ∀ k (hk : k < 7),(w.alloc (.cells (madeCells zeroF (m * 7)) t)).cell? ⟨w.heap.size,i * 7 + k,none⟩ = zeroF[k]? := fun k hk => by
  rw [World.cell?_alloc_at _ _ _ _ rfl]
  unfold madeCells
  have hz : zeroF.size = 7 := rfl
  have e : (i * 7 + k) % 7 = k := by omega
  simp [hz,e,show i * 7 + k < m * 7 by omega]
  have hc : k = 0 ∨ k = 1 ∨ k = 2 ∨ k = 3 ∨ k = 4 ∨ k = 5 ∨ k = 6 := by omega
  rcases hc with rfl | rfl | rfl | rfl | rfl | rfl | rfl <;> rfl
 exact ⟨c 0 (by omega),c 1 (by omega),c 2 (by omega),c 3 (by omega),c 4 (by omega),c 5 (by omega),c 6 (by omega)⟩
def DrawnS (lo : Nat) (w : World) (g m c : Nat) (G : Nat → Feat) : Prop := DrawnL w g m c G ∧ lo ≤ g ∧ (∀ i,i < m → ∀ q o,(G i).a = some ⟨q,o,none⟩ → lo ≤ q) ∧ ∀ i,i < m → (G i).n ≤ (G i).cap
theorem PtsAt.keepsS {s : Nat} {w w' : World} {b off n : Nat} {X Y : Nat → Int} (h : PtsAt w b off n X Y) (hk : Keeps s w w') (hb : b < w.heap.size) (hs : b ≠ s) : PtsAt w' b off n X Y := fun i hi =>
 ⟨(hk.cell (p := ⟨b,off + i * 2,none⟩) hb hs).trans (h i hi).1,(hk.cell (p := ⟨b,off + i * 2 + 1,none⟩) hb hs).trans (h i hi).2⟩
theorem FeatAt.keepsS {s : Nat} {w w' : World} {p o : Nat} {id la ki wi pr : Int} {v : Value} {lab : ByteArray} (h : FeatAt w p o id la ki wi v lab pr) (hk : Keeps s w w') (hs : p ≠ s) : FeatAt w' p o id la ki wi v lab pr := by
 have hp : p < w.heap.size := World.block_lt_of_cell? _ _ h.1
 have c : ∀ (k : Nat) (u : Value),w.cell? ⟨p,k,none⟩ = some u → w'.cell? ⟨p,k,none⟩ = some u := fun k u e => (hk.cell (p := ⟨p,k,none⟩) hp hs).trans e
 obtain ⟨h0,h1,h2,h3,h4,h5,h6⟩ := h
 exact ⟨c _ _ h0,c _ _ h1,c _ _ h2,c _ _ h3,c _ _ h4,c _ _ h5,c _ _ h6⟩
theorem DrawnF.lo {base : Nat} {w : World} {f : Feat} (h : DrawnF base w f) {q o : Nat} (e : f.a = some ⟨q,o,none⟩) : base ≤ q := by
 obtain ⟨l,hR,hl,h0,_⟩ := h
 obtain ⟨g,c,hv,hg,_⟩ := hR.at (by omega)
 rw [e] at hv
 injection hv with hv
 injection hv with hv
 injection hv with hv
 omega
theorem DrawnF.room {base : Nat} {w : World} {f : Feat} (h : DrawnF base w f) : f.n ≤ f.cap := by
 obtain ⟨l,hR,hl,h0,_⟩ := h
 obtain ⟨g,c,hv,_,_,hc,_⟩ := hR.at (by omega)
 injection hv with _ e2 e3
 omega
theorem DrawnS.keeps {lo s : Nat} {w w' : World} {g m c : Nat} {G : Nat → Feat} (h : DrawnS lo w g m c G) (hk : Keeps s w w') (hs : s < lo) : DrawnS lo w' g m c G := by
 obtain ⟨⟨h1,h2,h3,h4,h5⟩,h6,h7,h8⟩ := h
 refine ⟨⟨h1,h2,Nat.lt_of_lt_of_le h3 hk.size,fun i hi => ⟨(h4 i hi).1.keepsS hk (by omega),?_⟩,h5⟩,h6,h7,h8⟩
 rcases (h4 i hi).2 with h0 | ⟨q,o,ea,hl,hp⟩
 ·exact .inl h0
 ·exact .inr ⟨q,o,ea,Nat.lt_of_lt_of_le hl hk.size,hp.keepsS hk hl (by have := h7 i hi q o ea; omega)⟩
theorem l2Wrong_src (a : Option Addr) (n cap : Nat) (Z : Nat → Int) (s t : Nat) (w : World) (h : Src a n cap Z s t w) (hcap : n ≤ cap) (ht : t ≤ 10) :
  Calls Tryz.prog 15 #[.pointer (some ⟨s,0,none⟩)] w fun e w' => ∃ (g m c : Nat) (G : Nat → Feat) (t' : Nat),e = .returned (.slice (some ⟨g,0,none⟩) m c) ∧ DrawnS w.heap.size w' g m c G ∧ t' ≤ t + 330 ∧ Src a n cap Z s t' w' ∧ Keeps s w w' := by
 obtain ⟨i0,hi,hz0,hz1,hz2⟩ := info_parts info_if
 have hmk := make_feats 13 (by omega)
 have hsl : s < w.heap.size := World.block_lt_of_cell? _ _ h.code
 have HS : Hid (Src a n cap Z s t w) := h
 clear h
 go_enter Tryz.func15,Tryz.ntmps15
 go_wp2_with fail
 refine (l2Right_any a n cap Z s t w HS.out hcap (by omega)).mono ?_
 rintro e w1 ⟨g,m,c,H,t1,rfl,hF1,hm5,hD1,ht1,hS1,hK1⟩
 have HF1 : Hid (FRow w.heap.size w1 (.slice (some ⟨g,0,none⟩) m c) H (List.range m)) := hF1
 have HD1 : Hid (∀ j,j < m → DrawnF w.heap.size w1 (H j)) := hD1
 have HS1 : Hid (Src a n cap Z s t1 w1) := hS1
 have HK1 : Hid (Keeps s w w1) := hK1
 clear hF1 hD1 hS1 hK1 HS
 go_wp2_with fail
 refine (l1Next_any a n cap Z s t1 12 w1 HS1.out hcap (by omega) (by omega) (by omega)).mono ?_
 rintro e w2 ⟨v2,rfl,hv2,hS2,hK2⟩
 have HF2 : Hid (FRow w.heap.size w2 (.slice (some ⟨g,0,none⟩) m c) H (List.range m)) := ownsRow_keeps HF1.out hK2 hsl
 have HD2 : Hid (∀ j,j < m → DrawnF w.heap.size w2 (H j)) := fun j hj => (HD1.out j hj).keeps hK2 hsl
 have HS2 : Hid (Src a n cap Z s (t1 + 1) w2) := hS2
 have HK2 : Hid (Keeps s w w2) := HK1.out.trans hK2
 clear hS2 hK2 HF1 HD1 HS1 HK1
 have hFs := HF2.out.fs (fun j hj => (HD2.out j hj).is)
 have hsmall : SmallFs m H := ⟨by omega,fun i hi => by obtain ⟨l,_,_,_,h6,_,_,h7⟩ := HD2.out i hi; exact ⟨by omega,by omega⟩⟩
 by_cases h0 : v2 = 0
 ·subst h0
  clear hmk
  go_wp2_with fail
  refine (l2Bent_any a n cap Z s _ w2 HS2.out hcap (by omega)).mono ?_
  rintro e w3 ⟨id,la,ki,wi,b,off,N,cN,X,Y,lab,pr,t3,rfl,hN6,hNc,hgb,hbl,hP3,hlab,ht3,hS3,hK3⟩
  have hO3 : FRow w.heap.size w3 (.slice (some ⟨g,0,none⟩) m c) H (List.range m) := ownsRow_keeps HF2.out hK3 hsl
  have HO3 : Hid (FRow w.heap.size w3 (.slice (some ⟨g,0,none⟩) m c) H (List.range m)) := hO3
  have HD3 : Hid (∀ j,j < m → DrawnF w.heap.size w3 (H j)) := fun j hj => (HD2.out j hj).keeps hK3 hsl
  have HP3 : Hid (PtsAt w3 b off N X Y) := hP3
  have HS3 : Hid (Src a n cap Z s t3 w3) := hS3
  have hsl3 : s < w3.heap.size := World.block_lt_of_cell? _ _ hS3.code
  have hw2 : w.heap.size ≤ w2.heap.size := HK2.out.size
  have HK3 : Hid (Keeps s w w3) := HK2.out.trans hK3
  have hgl : g < w2.heap.size ∧ w.heap.size ≤ g := ⟨hFs.2.1,hFs.2.2.1⟩
  have hw3 : w.heap.size ≤ w3.heap.size := HK3.out.size
  clear hO3 hP3 hS3 hK3 hFs hsmall
  go_wp2_with (first
   | (at_builtin; go_must (refine wpList_append_own _ rfl _ _ 24 rfl w.heap.size 39 i0 (.agg #[.int .i64 0, .int .i64 0, .int .i64 0, .int .i64 0, .slice none 0 0, .string ⟨#[]⟩, .int .i64 0]) 7 80 Tryz.underlying24 hi hz0 hz1 hz2 rfl (by decide) (.slice (some ⟨g,0,none⟩) m c) m (cellsF H (List.range m)) rfl ?c6 ⟨w3.heap.size,0,none⟩ 1 1 (fcell ⟨id,la,ki,wi,some ⟨b,off,none⟩,N,cN,X,Y,lab,pr⟩) rfl ?c0 ?c1 ?c2 ?c3 ?c4 ?c5 ?_)))
  case c6 =>
   have := HO3.out.below ((Below.refl w3.heap.size w3).alloc (Nat.le_refl _) (.cells #[.int .i64 id, .int .i64 la, .int .i64 ki, .int .i64 wi, .slice (some ⟨b,off,none⟩) N cN, .string lab, .int .i64 pr] 39))
   unfold FRow at this
   rw [List.length_range] at this
   exact this
  case c0 => rfl
  case c1 =>
   intro q u hq
   have hq7 : q < 7 := (List.getElem?_eq_some_iff.1 hq).1
   have hc : q = 0 ∨ q = 1 ∨ q = 2 ∨ q = 3 ∨ q = 4 ∨ q = 5 ∨ q = 6 := by omega
   rcases hc with rfl | rfl | rfl | rfl | rfl | rfl | rfl <;> (simp [fcell] at hq; subst hq; simp [Addr.add,go_sem])
  case c2 => exact fcell_one _
  case c3 => unfold maxLen; omega
  case c4 => omega
  case c5 => simp; omega
  intro v' w4 hown' hgrow hnil
  obtain ⟨g4,c4,hv4⟩ : ∃ g4 c4,v' = .slice (some ⟨g4,0,none⟩) (m + 1) c4 := by
   obtain ⟨_,h2 | ⟨g',cp,cur,hv,_⟩⟩ := hown'
   ·first | exact absurd h2.1 hnil | (have := hnil.1 h2.1; simp at this)
   ·exact ⟨g',cp,hv⟩
  subst hv4
  have hb3a : Below w3.heap.size w3 (w3.alloc (.cells #[.int .i64 id, .int .i64 la, .int .i64 ki, .int .i64 wi, .slice (some ⟨b,off,none⟩) N cN, .string lab, .int .i64 pr] 39)) := (Below.refl w3.heap.size w3).alloc (Nat.le_refl _) _
  have hO3a := HO3.out.below hb3a
  have HF4 : FRow w.heap.size w4 (.slice (some ⟨g4,0,none⟩) (m + 1) c4) (fun i => if i = m then ⟨id,la,ki,wi,some ⟨b,off,none⟩,N,cN,X,Y,lab,pr⟩ else H i) (List.range (m + 1)) := by
   unfold FRow
   have e1 : cellsF (fun i => if i = m then ⟨id,la,ki,wi,some ⟨b,off,none⟩,N,cN,X,Y,lab,pr⟩ else H i) (List.range (m + 1)) = cellsF H (List.range m) ++ fcell ⟨id,la,ki,wi,some ⟨b,off,none⟩,N,cN,X,Y,lab,pr⟩ := by
    rw [List.range_succ,cellsF_app,cellsF_one,if_pos rfl]
    rw [cellsF_congr (H' := H) (List.range m) (fun j hj => by rw [if_neg]; have := List.mem_range.1 hj; omega)]
   rw [e1,List.length_range]
   exact hown'
  have hpt : ∀ j,j < m + 1 → IsPts w4 ((fun i => if i = m then (⟨id,la,ki,wi,some ⟨b,off,none⟩,N,cN,X,Y,lab,pr⟩ : Feat) else H i) j).a ((fun i => if i = m then (⟨id,la,ki,wi,some ⟨b,off,none⟩,N,cN,X,Y,lab,pr⟩ : Feat) else H i) j).n ((fun i => if i = m then (⟨id,la,ki,wi,some ⟨b,off,none⟩,N,cN,X,Y,lab,pr⟩ : Feat) else H i) j).X ((fun i => if i = m then (⟨id,la,ki,wi,some ⟨b,off,none⟩,N,cN,X,Y,lab,pr⟩ : Feat) else H i) j).Y := fun j hj => by
   by_cases e : j = m
   ·simp only [if_pos e]
    have hs4 := hgrow.size
    refine .inr ⟨b,off,rfl,by simp at hs4; omega,?_⟩
    exact PtsAt.grown (s := g) (HP3.out.below hb3a hbl) hgrow (by omega)
   ·simp only [if_neg e]
    exact (((HD3.out j (by omega)).below hb3a).kept hO3a hgrow).is
  have hF := HF4.fs hpt
  have HS4 : Hid (Src a n cap Z s t3 w4) := (HS3.out.belowC hb3a hsl3).belowC ((Below.refl w.heap.size _).grown hgrow (by simp; omega) (fun q hq => by simp [Value.ownBlock] at hq; omega)) hsl
  have HL : Hid (DrawnS w.heap.size w4 g4 (m + 1) c4 (fun i => if i = m then ⟨id,la,ki,wi,some ⟨b,off,none⟩,N,cN,X,Y,lab,pr⟩ else H i)) := by
   refine ⟨⟨hF.1,by omega,hF.2.1,hF.2.2.2,by omega,fun i hi => ?_⟩,hF.2.2.1,fun i hi q o e' => ?_,fun i hi => ?_⟩
   rotate_left
   ·by_cases e : i = m
    ·simp only [if_pos e] at e'
     injection e' with e'
     injection e' with e'
     omega
    ·simp only [if_neg e] at e'
     exact (HD3.out i (by omega)).lo e'
   ·by_cases e : i = m
    ·simp only [if_pos e]
     exact hNc
    ·simp only [if_neg e]
     exact (HD3.out i (by omega)).room
   by_cases e : i = m
   ·simp only [if_pos e]
    show N ≤ 1048576 ∧ lab.size ≤ 1048576
    exact ⟨by omega,by omega⟩
   ·simp only [if_neg e]
    obtain ⟨l,_,_,_,h6,_,_,h7⟩ := HD3.out i (by omega)
    exact ⟨by omega,by omega⟩
  have HK4 : Hid (Keeps s w w4) := (HK3.out.trans (Keeps.of_below hb3a)).grownF hgrow (fun q hq => by simp [Value.ownBlock] at hq; omega)
  clear hown' hgrow hnil HF4 hpt hF hO3a hb3a
  go_wp2
  go_ret
  exact ⟨g4,m + 1,c4,_,t3,rfl,HL.out,by omega,HS4.out,HK4.out⟩
 ·have h0' : (((v2 : Nat) : Int) == 0) = false := by simp; omega
  by_cases h1 : v2 = 1
  ·subst h1
   have HL : Hid (DrawnS w.heap.size (w2.alloc (.cells (madeCells zeroF (13 * 7)) 39)) w2.heap.size 13 13 (fun _ => ⟨0,0,0,0,none,0,0,fun _ => 0,fun _ => 0,⟨#[]⟩,0⟩)) := by
    refine ⟨⟨by omega,by omega,by simp,fun i hi => ⟨?_, .inl rfl⟩,by omega,fun i hi => ⟨by show 0 ≤ _; omega,by show 0 ≤ _; omega⟩⟩,HK2.out.size,fun i hi q o e' => (by cases e'),fun i hi => Nat.le_refl _⟩
    rw [Nat.zero_add]
    exact there_zero 13 w2 39 i hi
   have HS4 : Hid (Src a n cap Z s (t1 + 1) (w2.alloc (.cells (madeCells zeroF (13 * 7)) 39))) := HS2.out.belowC ((Below.refl w2.heap.size w2).alloc (Nat.le_refl _) _) (World.block_lt_of_cell? _ _ HS2.out.code)
   have HK4 : Hid (Keeps s w (w2.alloc (.cells (madeCells zeroF (13 * 7)) 39))) := HK2.out.trans (Keeps.of_below ((Below.refl _ _).alloc (Nat.le_refl _) _))
   obtain ⟨W',hW',HL,HS4,HK4⟩ : ∃ W',(Instr.makeSlice 24 (.int .i64 13) (.int .i64 13)).run Tryz.prog w2 = .ok (.slice (some ⟨w2.heap.size,0,none⟩) 13 13) W' ∧ Hid (DrawnS w.heap.size W' w2.heap.size 13 13 (fun _ => ⟨0,0,0,0,none,0,0,fun _ => 0,fun _ => 0,⟨#[]⟩,0⟩)) ∧ Hid (Src a n cap Z s (t1 + 1) W') ∧ Hid (Keeps s w W') := ⟨_,hmk w2,HL,HS4,HK4⟩
   clear hFs hsmall hmk
   go_wp2
   go_ret
   exact ⟨_,13,13,_,_,rfl,HL.out,by omega,HS4.out,HK4.out⟩
  ·have h1' : (((v2 : Nat) : Int) == 1) = false := by simp; omega
   have HL : Hid (DrawnS w.heap.size w2 g m c H) := ⟨⟨hFs.1,by omega,hFs.2.1,hFs.2.2.2,hsmall⟩,hFs.2.2.1,fun i hi q o e' => (HD2.out i hi).lo e',fun i hi => (HD2.out i hi).room⟩
   clear hFs hsmall hmk
   go_wp2
   go_ret
   exact ⟨g,m,c,H,_,rfl,HL.out,by omega,HS2.out,HK2.out⟩
end Go.Proofs.YtfkonhagjahgnaaGreat
