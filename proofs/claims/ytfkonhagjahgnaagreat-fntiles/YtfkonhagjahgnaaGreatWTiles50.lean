/- Texts. -/
import Derived.Test.YtfkonhagjahgnaaGreatWTiles49
set_option linter.unusedSimpArgs false
set_option linter.unusedVariables false
set_option maxRecDepth 100000
set_option maxHeartbeats 32000000
namespace Go.Proofs.YtfkonhagjahgnaaGreat
open Go.RowKit
def Off0 (m : Nat) (T : Nat → Feat) : Prop := ∀ i,i < m → ∀ q o,(T i).a = some ⟨q,o,none⟩ → o = 0
def BoAns (C z x y : Int) (m : Nat) (G : Nat → Feat) (w : World) (e : Ending) (w' : World) : Prop :=
 ∃ a cap T,e = .returned (trV C z x y (.slice a m cap)) ∧ SrcB w.heap.size w'.heap.size w' a m T ∧ (∀ i,i < m → (T i).same (G i)) ∧ m ≤ cap ∧ Off0 m T ∧ Below w.heap.size w w'
theorem BtAns.bo {C z x y : Int} {m : Nat} {G : Nat → Feat} {w w' : World} {e : Ending} (h : BtAns C z x y m G w e w') : BoAns C z x y m G w e w' := by
 obtain ⟨a,cap,T,h1,h2,h3,h4,h5,h6⟩ := h
 refine ⟨a,cap,T,h1,h2,h3,h5,fun i hi q o e' => ?_,h6⟩
 rcases h4 with h0 | ⟨g,q',ea,hQ⟩
 ·omega
 ·rcases h2 with h0 | ⟨g',ea',_,hF⟩
  ·omega
  ·have c1 := (hQ.2.2.1 i hi).2.2
   have c2 := (hF i hi).1.2.2.2.2.1
   rw [ea] at ea'
   injection ea' with ea'
   injection ea' with ea'
   subst ea'
   rw [c1] at c2
   injection c2 with c2
   injection c2 with c2
   rw [← c2] at e'
   injection e' with e'
   injection e' with _ e'
   exact e'.symm
theorem l4All_off (b n cap : Nat) (G : Nat → Feat) (z : Int) (w : World) (hg : FsAt w b 0 n G) (hbl : b < w.heap.size) (hs : SmallFs n G) (hf : featsC n G = 0) (hz : zoomB z = true) :
  Calls Tryz.prog 54 #[.slice (some ⟨b,0,none⟩) n cap, .int .i64 z] w fun e w' => ∃ g c T,e = .returned (.slice (some ⟨g,0,none⟩) n c) ∧ w.heap.size ≤ g ∧ g < w'.heap.size ∧ FsAt w' g 0 n T ∧ (∀ i,i < n → simOf z (G ((srtF n G).getD i 0)) (T i)) ∧ (∀ i,i < n → ∀ q o,(T i).a = some ⟨q,o,none⟩ → w.heap.size ≤ q) ∧ Off0 n T ∧ Below w.heap.size w w' := by
 obtain ⟨i0,hi,hz0,hz1,hz2⟩ := info_parts info_if
 obtain ⟨hn12,_,hokG⟩ := featsC_ok hf
 have hlen : (srtF n G).length = n := srtK_len _ _ _
 have HLS := (show Hid _ from l2Sort_any b n cap G w hg hbl hn12 (fun i hi => (featC_zero (hokG i hi)).2.1) hs)
 have HOK : Hid (∀ i,i < n → okC (G ((srtF n G).getD i 0))) := fun i hi => hokG _ (srtF_lt n G i hi)
 have HZ : Hid (zoomB z = true) := hz
 clear hg hs hf hokG hz
 go_enter Tryz.func54,Tryz.ntmps54
 go_wp2_with fail
 refine Calls.mono HLS.out ?_
 rintro e w1 ⟨v1,H1,rfl,hF1,hC1,hb1⟩
 have hpts : ∀ j ∈ srtF n G,IsPts w1 (H1 j).a (H1 j).n (H1 j).X (H1 j).Y := fun j hj => by
  have hjn : j < n := by
   obtain ⟨i,hi,e⟩ := List.getElem_of_mem hj
   have := srtF_lt n G i (by omega)
   rw [List.getD_eq_getElem?_getD,List.getElem?_eq_getElem hi] at this
   simp at this
   omega
  obtain ⟨⟨_,_,_,_,e5,e6,e7,_,_⟩,hR⟩ := hC1.1 j hjn
  obtain ⟨a',c',hv,_,hI⟩ := hR.own.pts
  injection hv with i1 i2 i3
  rw [i1]
  have hl : (ptsOf (G j).X (G j).Y (List.range (G j).n)).length = (G j).n := by simp [ptsOf]
  rw [hl] at hI
  have eX : ∀ i,i < (G j).n → px (ptsOf (G j).X (G j).Y (List.range (G j).n)) i = (G j).X i ∧ py (ptsOf (G j).X (G j).Y (List.range (G j).n)) i = (G j).Y i := fun i hi => by simp [px,py,ptsOf,List.getD_eq_getElem?_getD,hi]
  rw [e5,e6,e7]
  rcases hI with h0 | ⟨q,o,ea,hl',hp⟩
  ·exact .inl h0
  ·refine .inr ⟨q,o,ea,hl',fun i hi => ?_⟩
   have := hp i hi
   rw [(eX i hi).1,(eX i hi).2] at this
   exact this
 obtain ⟨a1,c1,hv1,hc1,hI1⟩ := hF1.is hpts
 rw [hlen] at hv1 hc1 hI1
 subst hv1
 have HI1 : Hid (IsFs w1 a1 n (fun i => H1 ((srtF n G).getD i 0))) := hI1
 have HSM : Hid (∀ i,i < n → (H1 ((srtF n G).getD i 0)).same (G ((srtF n G).getD i 0))) := fun i hi => (hC1.1 _ (srtF_lt n G i hi)).1
 have HB1 : Hid (Below w.heap.size w w1) := hb1
 clear hF1 hC1 hb1 hpts hI1 HLS
 obtain ⟨H2,hH2⟩ : ∃ H2 : Nat → Feat,H2 = fun i => H1 ((srtF n G).getD i 0) := ⟨_,rfl⟩
 obtain ⟨K2,hK2⟩ : ∃ K2 : Nat → Feat,K2 = fun i => G ((srtF n G).getD i 0) := ⟨_,rfl⟩
 have HSM2 : Hid (∀ i,i < n → (H2 i).same (K2 i)) := by rw [hH2,hK2]; exact HSM.out
 have HOK2 : Hid (∀ i,i < n → okC (K2 i)) := by rw [hK2]; exact HOK.out
 have HPOST : Hid (∀ (T : Nat → Feat),(∀ i,i < n → simOf z (K2 i) (T i)) → ∀ i,i < n → simOf z (G ((srtF n G).getD i 0)) (T i)) := by rw [hK2]; exact fun T h => h
 rw [← hH2] at HI1
 clear hH2 hK2 HSM HOK
 go_wp2_with fail
 generalize hV : (w1.alloc _ : World) = V
 have hbV : Below w1.heap.size w1 V := by subst hV; (repeat (first|exact Qr _ _|assumption|refine Qd ?_|refine Qa ?_ _|refine Qt ?_|refine Qs ?_ _|refine Qo ?_ ?_ _ _))
 have HO0 : Hid (SfRow w1.heap.size V (.slice (some ⟨w1.heap.size,0,none⟩) 0 0) 0 z K2 K2) := by
  refine ⟨?_,fun i hi => absurd hi (Nat.not_lt_zero _),fun i j hi => absurd hi (Nat.not_lt_zero _)⟩
  subst hV
  exact World.ownsRow_lit (base := w1.heap.size) w1 #[] 0 (Nat.le_refl _) (Nat.zero_le _) rfl
 have HBV : Hid (Below w1.heap.size w1 V) := hbV
 clear hV hbV
 go_loopw [6,7] (fun v i wr => ∃ (k g c : Nat) (T : Nat → Feat),k ≤ n ∧ i = .int .i64 (k : Int) ∧ v = .slice (some ⟨g,0,none⟩) k c ∧ SfRow w1.heap.size wr v k z K2 T ∧ Below w1.heap.size w1 wr) (fun _ i _ => n - (intOf i).toNat)
 case atStart => exact ⟨0,w1.heap.size,0,K2,by omega,rfl,rfl,HO0.out,HBV.out⟩
 case round =>
  obtain ⟨k,g,c,T,hk,rfl,rfl,hO,hB⟩ := hrel
  have HO : Hid (SfRow w1.heap.size wr (.slice (some ⟨g,0,none⟩) k c) k z K2 T) := hO
  have HIr : Hid (IsFs wr a1 n H2) := HI1.out.below hB
  have HB : Hid (Below w1.heap.size w1 wr) := hB
  clear hO hB
  by_cases hlt : k < n
  ·rcases HIr.out with h0 | ⟨b1,o1,rfl,hbl1,hFs⟩
   ·omega
   have hok := HOK2.out k hlt
   obtain ⟨s1,s2,s3,s4,s5,s6,s7,s8,s9⟩ := HSM2.out k hlt
   have hok2 : okC (H2 k) := by unfold okC; rw [s1,s2,s3,s4,s5,s6,s7,s8,s9]; exact hok
   obtain ⟨hk3,hk0,hk12,_,hin,_⟩ := featC_zero hok2
   have hff := (hFs k hlt).1
   obtain ⟨q,o,ea,hql,hpt⟩ : ∃ q o,(H2 k).a = some ⟨q,o,none⟩ ∧ q < wr.heap.size ∧ PtsAt wr q o (H2 k).n (H2 k).X (H2 k).Y := by
    rcases (hFs k hlt).2 with h' | ⟨q,o,e,hl,hp⟩
    ·omega
    ·exact ⟨q,o,e,hl,hp⟩
   rw [ea] at hff
   have HS3 := (show Hid _ from l3Simple_any b1 (H2 k).id (H2 k).la (H2 k).ki (H2 k).wi z q (H2 k).n (H2 k).cap (H2 k).X (H2 k).Y (H2 k).lab (H2 k).pr (thinOf z (H2 k)) wr hff hpt hql HZ.out hk3 hk0 hk12 hin (thinOf_spec z (H2 k)))
   rw [← show simpR 0 (H2 k).ki z (H2 k).n (H2 k).X (H2 k).Y (thinOf z (H2 k)) = fillL (H2 k).ki.toNat (simpT (H2 k).ki z (H2 k).n (H2 k).X (H2 k).Y (thinOf z (H2 k))) by rw [simpR,if_pos rfl]] at HS3
   have eS : simpR 0 (H2 k).ki z (H2 k).n (H2 k).X (H2 k).Y (thinOf z (H2 k)) = simL z (K2 k) := simL_same (HSM2.out k hlt)
   rw [eS] at HS3
   have HSF : Hid (0 < (simL z (K2 k)).length ∧ (simL z (K2 k)).length ≤ 12) := ⟨(simL_facts hok HZ.out).2.2.2,(simL_facts hok HZ.out).2.1⟩
   have HSN : Hid ((H2 k).id = (K2 k).id ∧ (H2 k).la = (K2 k).la ∧ (H2 k).ki = (K2 k).ki ∧ (H2 k).wi = (K2 k).wi ∧ (H2 k).lab = (K2 k).lab ∧ (H2 k).pr = (K2 k).pr) := ⟨s1,s2,s3,s4,s8,s9⟩
   have hi1 : (k : Int) < (n : Int) := by omega
   have hi0 : (0 : Int) ≤ (k : Int) := by omega
   clear hff hpt hFs hok hok2 hk3 hk0 hk12 hin s1 s2 s3 s4 s5 s6 s7 s8 s9 eS ea
   go_wp2_with fail
   refine Calls.mono HS3.out ?_
   rintro e w2 ⟨v2,rfl,hR2,hb2⟩
   obtain ⟨g2,c2,hv2,hg2,hg2l,hc2,hP2⟩ := hR2.at HSF.out.1
   subst hv2
   generalize hLn : (simL z (K2 k)).length = N at *
   have HR2 : Hid (Row wr.heap.size w2 (.slice (some ⟨g2,0,none⟩) N c2) (simL z (K2 k))) := hR2
   have HO2 : Hid (SfRow w1.heap.size w2 (.slice (some ⟨g,0,none⟩) k c) k z K2 T) := HO.out.below hb2
   have HB2 : Hid (Below w1.heap.size w1 w2) := bl_then HB.out hb2
   have hwr2 := HB.out.size
   have HFR : Hid (∀ i,i < k → (T i).a ≠ some ⟨g2,0,none⟩) := fun i hi e => by have := (World.ownsRow.lt (HO.out.2.1 i hi).2 g2 (by rw [e]; rfl)).2; omega
   clear hR2 hb2 hP2 HS3
   go_wp2_with (first
    | (at_builtin; go_must (refine wpList_append_own _ rfl _ _ 24 rfl w1.heap.size 39 i0 (.agg #[.int .i64 0, .int .i64 0, .int .i64 0, .int .i64 0, .slice none 0 0, .string ⟨#[]⟩, .int .i64 0]) 7 80 Tryz.underlying24 hi hz0 hz1 hz2 rfl (by decide) (.slice (some ⟨g,0,none⟩) k c) k (cellsF T (List.range k)) rfl ?c6 ⟨w2.heap.size,0,none⟩ 1 1 (fcell ⟨(H2 k).id,(H2 k).la,(H2 k).ki,(H2 k).wi,some ⟨g2,0,none⟩,N,c2,px (simL z (K2 k)),py (simL z (K2 k)),(H2 k).lab,(H2 k).pr⟩) rfl ?c0 ?c1 ?c2 ?c3 ?c4 ?c5 ?_)))
   case c6 =>
    have := HO2.out.1.below ((Below.refl w2.heap.size w2).alloc (Nat.le_refl _) (.cells #[.int .i64 (H2 k).id, .int .i64 (H2 k).la, .int .i64 (H2 k).ki, .int .i64 (H2 k).wi, .slice (some ⟨g2,0,none⟩) N c2, .string (H2 k).lab, .int .i64 (H2 k).pr] 39))
    unfold FRow at this
    rw [List.length_range] at this
    exact this
   case c0 => rfl
   case c1 =>
    intro q u hq
    have hq7 : q < 7 := (List.getElem?_eq_some_iff.1 hq).1
    have hc : q = 0 ∨ q = 1 ∨ q = 2 ∨ q = 3 ∨ q = 4 ∨ q = 5 ∨ q = 6 := by omega
    rcases hc with rfl | rfl | rfl | rfl | rfl | rfl | rfl <;> (simp [fcell] at hq; subst hq; simp [Addr.add,go_sem])
   case c2 => exact fcell_one _
   case c3 => unfold maxLen; omega
   case c4 => omega
   case c5 => have := HB2.out.size; simp; omega
   intro v' w4 hown' hgrow hnil
   obtain ⟨g4,c4,hv4⟩ : ∃ g4 c4,v' = .slice (some ⟨g4,0,none⟩) (k + 1) c4 := by
    obtain ⟨_,h2 | ⟨g',cp,cur,hv,_⟩⟩ := hown'
    ·first | exact absurd h2.1 hnil | (have := hnil.1 h2.1; simp at this)
    ·exact ⟨g',cp,hv⟩
   subst hv4
   have hbA : Below w2.heap.size w2 (w2.alloc (.cells #[.int .i64 (H2 k).id, .int .i64 (H2 k).la, .int .i64 (H2 k).ki, .int .i64 (H2 k).wi, .slice (some ⟨g2,0,none⟩) N c2, .string (H2 k).lab, .int .i64 (H2 k).pr] 39)) := (Below.refl w2.heap.size w2).alloc (Nat.le_refl _) _
   have hOA := HO2.out.below hbA
   have HF4 := (show Hid (SfRow w1.heap.size w4 (.slice (some ⟨g4,0,none⟩) (k + 1) c4) (k + 1) z K2 (fun i => if i = k then ⟨(H2 k).id,(H2 k).la,(H2 k).ki,(H2 k).wi,some ⟨g2,0,none⟩,N,c2,px (simL z (K2 k)),py (simL z (K2 k)),(H2 k).lab,(H2 k).pr⟩ else T i)) from
    SfRow.app hOA ⟨HSN.out.1,HSN.out.2.1,HSN.out.2.2.1,HSN.out.2.2.2.1,hLn.symm,rfl,rfl,HSN.out.2.2.2.2.1,HSN.out.2.2.2.2.2⟩ ((HR2.out.below hbA).wide hwr2) hown' hgrow HFR.out)
   have hBg := (Below.refl w1.heap.size (w2.alloc (.cells #[.int .i64 (H2 k).id, .int .i64 (H2 k).la, .int .i64 (H2 k).ki, .int .i64 (H2 k).wi, .slice (some ⟨g2,0,none⟩) N c2, .string (H2 k).lab, .int .i64 (H2 k).pr] 39))).grown hgrow (by have := HB2.out.size; simp; omega) (fun q hq => (World.ownsRow.lt hOA.1 q hq).1)
   have HB4 : Hid (Below w1.heap.size w1 w4) := (bl_then HB2.out hbA).trans hBg
   clear hown' hgrow hnil hOA hBg hbA
   go_wp2
   go_roundw
   case rel => exact ⟨k + 1,g4,c4,_,by omega,by go_num,rfl,HF4.out,HB4.out⟩
   case measure => simp [intOf]; omega
  ·obtain rfl : n = k := by omega
   have HQ := HO.out.fs
   have hgg : w.heap.size ≤ g := Nat.le_trans HB1.out.size (World.ownsRow.lt HO.out.1 g rfl).1
   have HS' : Hid (∀ i,i < n → simOf z (K2 i) (T i)) := fun i hi => (HO.out.2.1 i hi).1
   have HLO : Hid (∀ i,i < n → ∀ q o,(T i).a = some ⟨q,o,none⟩ → w.heap.size ≤ q) := fun i hi q o ea => Nat.le_trans HB1.out.size (World.ownsRow.lt (HO.out.2.1 i hi).2 q (by rw [ea]; rfl)).1
   have HOF : Hid (Off0 n T) := fun i hi q o ea => by
    obtain ⟨g',c',hv,_⟩ := (HO.out.2.1 i hi).2.at (simL_facts (HOK2.out i hi) HZ.out).2.2.2
    rw [ea] at hv
    injection hv with hv
    injection hv with hv
    injection hv
   go_wp2
   go_ret
   exact ⟨g,c,T,rfl,hgg,HQ.1,HQ.2.2,HPOST.out T HS'.out,HLO.out,HOF.out,bl_then HB1.out HB.out⟩
theorem l7Build_off (z x y : Int) (b n cap : Nat) (G : Nat → Feat) (w : World) (hg : FsAt w b 0 n G) (hbl : b < w.heap.size) (hs : SmallFs n G) (hf : featsC n G = 0) (hr : refB z x y = true) :
  Calls Tryz.prog 24 #[.slice (some ⟨b,0,none⟩) n cap,refV z x y] w fun e w' => ∃ a c T,e = .returned (.agg #[.int .i64 z, .int .i64 x, .int .i64 y, .slice a (chs z x y n G).length c]) ∧ SrcB w.heap.size w'.heap.size w' a (chs z x y n G).length T ∧ (∀ i,i < (chs z x y n G).length → (T i).same (btG z x y n G i)) ∧ (chs z x y n G).length ≤ c ∧ Off0 (chs z x y n G).length T ∧ Below w.heap.size w w' := by
 obtain ⟨i0,hi,hz0,hz1,hz2⟩ := info_parts info_if
 have hz : zoomB z = true := by simp [refB] at hr; exact hr.1
 have hn12 := (featsC_ok hf).1
 have HOK : Hid (∀ i,i < n → okC (G ((srtF n G).getD i 0))) := fun i hi => (featsC_ok hf).2.2 _ (srtF_lt n G i hi)
 have HLA : Hid (∀ W,Below w.heap.size w W → Calls Tryz.prog 54 #[.slice (some ⟨b,0,none⟩) n cap, .int .i64 z] W fun e w' => ∃ g c T,e = .returned (.slice (some ⟨g,0,none⟩) n c) ∧ W.heap.size ≤ g ∧ g < w'.heap.size ∧ FsAt w' g 0 n T ∧ (∀ i,i < n → simOf z (G ((srtF n G).getD i 0)) (T i)) ∧ (∀ i,i < n → ∀ q o,(T i).a = some ⟨q,o,none⟩ → W.heap.size ≤ q) ∧ Off0 n T ∧ Below W.heap.size W w') := fun W hW => l4All_off b n cap G z W (hg.below hW hbl) (Nat.lt_of_lt_of_le hbl hW.size) hs hf hz
 have HR : Hid (refB z x y = true) := hr
 have HKA : Hid (chs z x y n G = (ksM z x y n G n).map fun j => (srtF n G).getD j 0) := ksM_all
 clear hg hs hf hr
 go_enter Tryz.func24,Tryz.ntmps24
 go_wp2_with fail
 generalize hW : ((w.alloc _).alloc _ : World) = W
 have HB0 : Hid (Below w.heap.size w W) := by show Below _ _ _; subst hW; (repeat (first|exact Qr _ _|assumption|refine Qd ?_|refine Qa ?_ _|refine Qt ?_|refine Qs ?_ _|refine Qo ?_ ?_ _ _))
 have hlW : W.heap.size = w.heap.size + 2 := by subst hW; simp
 have HT : Hid (There W (w.heap.size + 1) 4) := by
  show There _ _ _
  subst hW
  have := there4 (w.alloc (.cells #[.int .i64 z, .int .i64 x, .int .i64 y] 26)) (.int .i64 0) (.int .i64 0) (.int .i64 0) (.slice none 0 0) 30
  simpa using this
 have c0 : ∀ W',Below W.heap.size W W' → W'.cell? ⟨w.heap.size,0,none⟩ = some (.int .i64 z) := fun W' h => by rw [h.cell (by simp; omega)]; subst hW; simp [go_sem]
 have c1 : ∀ W',Below W.heap.size W W' → W'.cell? ⟨w.heap.size,1,none⟩ = some (.int .i64 x) := fun W' h => by rw [h.cell (by simp; omega)]; subst hW; simp [go_sem]
 have c2 : ∀ W',Below W.heap.size W W' → W'.cell? ⟨w.heap.size,2,none⟩ = some (.int .i64 y) := fun W' h => by rw [h.cell (by simp; omega)]; subst hW; simp [go_sem]
 have HC : Hid (∀ W',Below W.heap.size W W' → W'.cell? ⟨w.heap.size,0,none⟩ = some (.int .i64 z) ∧ W'.cell? ⟨w.heap.size,1,none⟩ = some (.int .i64 x) ∧ W'.cell? ⟨w.heap.size,2,none⟩ = some (.int .i64 y)) := fun W' h => ⟨c0 W' h,c1 W' h,c2 W' h⟩
 clear hW c0 c1 c2
 refine Calls.mono (HLA.out _ HB0.out) ?_
 rintro e w1 ⟨g,c,T,rfl,hgg,hgl,hFT,hsim,hlo,hof,hb1⟩
 have HOF : Hid (Off0 n T) := hof
 clear hof
 have HSIM : Hid (∀ i,i < n → simOf z (G ((srtF n G).getD i 0)) (T i)) := hsim
 have HN0 : Hid (∀ i,i < n → 0 < (T i).n) := fun i hi => by rw [(hsim i hi).2.2.2.2.1]; exact (simL_facts (HOK.out i hi) hz).2.2.2
 have HSRC1 : Hid (SrcB W.heap.size w1.heap.size w1 (some ⟨g,0,none⟩) n T) := .inr ⟨g,rfl,⟨hgg,hgl⟩,fun i hi => by
  obtain ⟨hF,hP⟩ := hFT i hi
  rw [Nat.zero_add] at hF
  refine ⟨hF,?_⟩
  rcases hP with h0 | ⟨q,o,ea,hl,hp⟩
  ·exact absurd h0 (Nat.ne_of_gt (HN0.out i hi))
  ·exact ⟨q,o,ea,⟨hlo i hi q o ea,hl⟩,hp⟩⟩
 have HB1 : Hid (Below W.heap.size W w1) := hb1
 obtain ⟨z0,z1,z2⟩ := HC.out _ hb1
 have hs1 := hb1.size
 clear hFT hsim hlo hb1 HLA
 go_wp2_with fail
 generalize hV : (w1.alloc _ : World) = w3
 have hb3 : Below w1.heap.size w1 w3 := by subst hV; (repeat (first|exact Qr _ _|assumption|refine Qd ?_|refine Qa ?_ _|refine Qt ?_|refine Qs ?_ _|refine Qo ?_ ?_ _ _))
 have hl3 : w3.heap.size = w1.heap.size + 1 := by subst hV; simp
 have HTP3 : Hid (There w3 w1.heap.size 4) := by
  show There _ _ _
  subst hV
  exact there4 w1 _ _ _ _ _
 have HSh3 : Hid (ShAt w3 w1.heap.size z x y (.slice none 0 0)) := by
  show ShAt _ _ _ _ _ _
  subst hV
  refine ⟨?_,?_,?_,?_⟩ <;> simp [go_sem]
 clear hV z0 z1 z2
 have HSRC : Hid (SrcB W.heap.size w1.heap.size w3 (some ⟨g,0,none⟩) n T) := HSRC1.out.up hb3 (Nat.le_refl _)
 have HB3 : Hid (Below W.heap.size W w3) := bl_then HB1.out hb3
 clear HSRC1 hb3
 obtain ⟨P,hPP⟩ : ∃ P,P = w1.heap.size := ⟨_,rfl⟩
 rw [← hPP] at HSRC HSh3 HTP3 ⊢
 have hP3 : w3.heap.size = P + 1 := by omega
 have hPW : W.heap.size ≤ P := by omega
 have hgP : g < P := by omega
 clear hPP hl3 hs1
 obtain ⟨base,hbase⟩ : ∃ base,base = P + 1 := ⟨_,rfl⟩
 have HO0 : Hid (FRow base w3 (.slice none 0 0) T []) := ⟨by simp [cellsF], .inl ⟨rfl,rfl⟩⟩
 go_loopw [7] (fun i wr => ∃ (k : Nat) (va : Option Addr) (vc : Nat),k ≤ n ∧ i = .int .i64 (k : Int) ∧ ShAt wr P z x y (.slice va (ksM z x y n G k).length vc) ∧ There wr P 4 ∧ FRow base wr (.slice va (ksM z x y n G k).length vc) T (ksM z x y n G k) ∧ Below P w3 wr) (fun i _ => n - (intOf i).toNat)
 case atStart => exact ⟨0,none,0,by omega,rfl,HSh3.out,HTP3.out,HO0.out,Below.refl _ _⟩
 case round =>
  obtain ⟨k,va,vc,hkn,rfl,hSr,hTr,hOr,hBr⟩ := hrel
  have HSr : Hid (ShAt wr P z x y (.slice va (ksM z x y n G k).length vc)) := hSr
  have HTr : Hid (There wr P 4) := hTr
  have HOr : Hid (FRow base wr (.slice va (ksM z x y n G k).length vc) T (ksM z x y n G k)) := hOr
  have HBr : Hid (Below P w3 wr) := hBr
  have hszr : w3.heap.size ≤ wr.heap.size := hBr.size
  have hk12 : (ksM z x y n G k).length ≤ 12 := by have := ksM_le (z := z) (x := x) (y := y) (n := n) (G := G) (k := k); omega
  have HBW : Hid (Below W.heap.size W wr) := HB3.out.trans (hBr.mono hPW)
  clear hSr hTr hOr hBr HSh3 HTP3 HO0
  by_cases hlt : k < n
  ·rcases HSRC.out.up HBr.out (Nat.le_refl _) with h0 | ⟨g',eg,_,hFs⟩
   ·omega
   injection eg with eg
   injection eg with eg
   subst eg
   obtain ⟨hFk,q,o,eqa,⟨hq1,hq2⟩,hpt⟩ := hFs k hlt
   have HOF := (show Hid _ from sim_okB (HSIM.out k hlt) (HOK.out k hlt) hz)
   have HLB : Hid (∀ W',Below wr.heap.size wr W' → Calls Tryz.prog 56 #[.pointer (some ⟨g,k * 7,none⟩), .int .i64 z] W' fun e w' => e = .returned (wideV (dblL (T k).X (T k).Y (T k).n) (reachI (T k).wi z)) ∧ Below W'.heap.size W' w') := fun W' h => by
    have hF' := hFk
    rw [eqa] at hF'
    exact l4Box_any g (T k).id (T k).la (T k).ki (T k).wi z q o (T k).n (T k).cap (T k).X (T k).Y (T k).lab (T k).pr W' (hF'.below h (by omega)) (hpt.below h (by omega)) (Nat.lt_of_lt_of_le (by omega) h.size) HOF.out.1 (by have := HOF.out.2.1; omega) HOF.out.2.2.1 HOF.out.2.2.2 hz
   have HLX : Hid (∀ W',Calls Tryz.prog 57 #[refV z x y] W' fun e w' => e = .returned (ctrV z x y) ∧ Below W'.heap.size W' w') := fun W' => l7Box_any z x y W' HR.out
   have HME := (show Hid _ from sim_meet (x := x) (y := y) (HSIM.out k hlt))
   have hfk := hFk
   unfold wideV at HLB
   unfold ctrV at HLX
   generalize mnTo (px (dblL (T k).X (T k).Y (T k).n)) (dblL (T k).X (T k).Y (T k).n).length - reachI (T k).wi z = r1 at *
   generalize mnTo (py (dblL (T k).X (T k).Y (T k).n)) (dblL (T k).X (T k).Y (T k).n).length - reachI (T k).wi z = r2 at *
   generalize mxTo (px (dblL (T k).X (T k).Y (T k).n)) (dblL (T k).X (T k).Y (T k).n).length + reachI (T k).wi z = r3 at *
   generalize mxTo (py (dblL (T k).X (T k).Y (T k).n)) (dblL (T k).X (T k).Y (T k).n).length + reachI (T k).wi z = r4 at *
   generalize centI z (x * 8) = a1 at *
   generalize centI z (y * 8) = a2 at *
   generalize centI z (x * 8 + 7) = a3 at *
   generalize centI z (y * 8 + 7) = a4 at *
   have c0 : ∀ W',Below wr.heap.size wr W' → W'.cell? ⟨w.heap.size,0,none⟩ = some (.int .i64 z) := fun W' h => (HC.out W' (bl_then HBW.out h)).1
   have c1 : ∀ W',Below wr.heap.size wr W' → W'.cell? ⟨w.heap.size,1,none⟩ = some (.int .i64 x) := fun W' h => (HC.out W' (bl_then HBW.out h)).2.1
   have c2 : ∀ W',Below wr.heap.size wr W' → W'.cell? ⟨w.heap.size,2,none⟩ = some (.int .i64 y) := fun W' h => (HC.out W' (bl_then HBW.out h)).2.2
   have hi1 : (k : Int) < (n : Int) := by omega
   have hi0 : (0 : Int) ≤ (k : Int) := by omega
   have HFK : Hid (FeatAt wr g (k * 7) (T k).id (T k).la (T k).ki (T k).wi (.slice (T k).a (T k).n (T k).cap) (T k).lab (T k).pr) := hFk
   have hgr : g < wr.heap.size := by omega
   have hPr : P < wr.heap.size := by omega
   clear hFk hfk hpt hFs
   go_wp2_with fail
   go_region_held3 (fun W' => Below wr.heap.size wr W') ((repeat (first|exact Qr _ _|assumption|refine Qd ?_|refine Qa ?_ _|refine Qt ?_|refine Qs ?_ _|refine Qo ?_ ?_ _ _)))
    (first
     | (go_at_call 56; refine Calls.mono (HLB.out _ (by assumption)) ?_; rintro e w4 ⟨rfl,hb4⟩)
     | (go_at_call 57; refine Calls.mono (HLX.out _) ?_; rintro e w5 ⟨rfl,hb5⟩)
     | (go_at_call 55; refine (l1Meet_any _ _ _ _ _ _ _ _ _).mono ?_; rintro e w6 ⟨rfl,hb6⟩))
   have hBm : Below wr.heap.size wr w6 := by assumption
   generalize w6 = wm at *
   rw [HME.out]
   clear HLB HLX HME c0 c1 c2
   have hbm : Below wr.heap.size wr wm := hBm
   have HSm : Hid (ShAt wm P z x y (.slice va (ksM z x y n G k).length vc)) := HSr.out.keep hbm hPr
   have HTm : Hid (There wm P 4) := HTr.out.below hbm
   have HOm : Hid (FRow base wm (.slice va (ksM z x y n G k).length vc) T (ksM z x y n G k)) := HOr.out.below hbm
   have HBm : Hid (Below P w3 wm) := HBr.out.trans (hbm.mono (by omega))
   have HFm : Hid (FeatAt wm g (k * 7) (T k).id (T k).la (T k).ki (T k).wi (.slice (T k).a (T k).n (T k).cap) (T k).lab (T k).pr) := HFK.out.below hbm hgr
   have hsm := hbm.size
   clear hBm hbm HSr HTr HOr HBr HFK
   cases hp : rchF z x y (G ((srtF n G).getD k 0))
   ·have hnx := ksM_no hp
    have HO6 : Hid (FRow base wm (.slice va (ksM z x y n G (k + 1)).length vc) T (ksM z x y n G (k + 1))) := by rw [hnx]; exact HOm.out
    have HS6 : Hid (ShAt wm P z x y (.slice va (ksM z x y n G (k + 1)).length vc)) := by rw [hnx]; exact HSm.out
    clear hnx hp
    go_wp2_with fail
    go_roundw
    case rel => exact ⟨k + 1,va,vc,by omega,by go_num,HS6.out,HTm.out,HO6.out,HBm.out⟩
    case measure => simp [intOf]; omega
   ·have hnx := ksM_yes hp
    have HOB : Hid (∀ b,(Value.slice va (ksM z x y n G k).length vc).ownBlock = some b → base ≤ b ∧ b < wm.heap.size) := fun b hb => World.ownsRow.lt HOm.out b hb
    have HNX : Hid (ksM z x y n G (k + 1) = ksM z x y n G k ++ [k]) := hnx
    have hnl : (ksM z x y n G (k + 1)).length = (ksM z x y n G k).length + 1 := by rw [hnx]; simp
    clear hnx hp
    generalize hvn : (ksM z x y n G k).length = vn at *
    go_wp2_with fail
    have HPW : Hid (∀ W',Below wm.heap.size wm W' → SkB P wm g k (T k) W') := fun W' h => ⟨h.mono (by omega),HFm.out.below h (by omega)⟩
    have d0 : ∀ W',SkB P wm g k (T k) W' → W'.cell? ⟨g,k * 7,none⟩ = some (.int .i64 (T k).id) := fun W' h => h.2.1
    have d1 : ∀ W',SkB P wm g k (T k) W' → W'.cell? ⟨g,k * 7 + 1,none⟩ = some (.int .i64 (T k).la) := fun W' h => h.2.2.1
    have d2 : ∀ W',SkB P wm g k (T k) W' → W'.cell? ⟨g,k * 7 + 2,none⟩ = some (.int .i64 (T k).ki) := fun W' h => h.2.2.2.1
    have d3 : ∀ W',SkB P wm g k (T k) W' → W'.cell? ⟨g,k * 7 + 3,none⟩ = some (.int .i64 (T k).wi) := fun W' h => h.2.2.2.2.1
    have d4 : ∀ W',SkB P wm g k (T k) W' → W'.cell? ⟨g,k * 7 + 4,none⟩ = some (.slice (T k).a (T k).n (T k).cap) := fun W' h => h.2.2.2.2.2.1
    have d5 : ∀ W',SkB P wm g k (T k) W' → W'.cell? ⟨g,k * 7 + 5,none⟩ = some (.string (T k).lab) := fun W' h => h.2.2.2.2.2.2.1
    have d6 : ∀ W',SkB P wm g k (T k) W' → W'.cell? ⟨g,k * 7 + 6,none⟩ = some (.int .i64 (T k).pr) := fun W' h => h.2.2.2.2.2.2.2
    refine wp_region_noPanic ?_
    refine wp_region_held_drew (S := fun W' => SkB P wm g k (T k) W') (by kernel_rfl) (HPW.out _ (by (repeat (first|exact Qr _ _|assumption|refine Qd ?_|refine Qa ?_ _|refine Qt ?_|refine Qs ?_ _|refine Qo ?_ ?_ _ _)))) (fun hHeld => ?_)
    have hX0 : SkB P wm g k (T k) wm.drew := hHeld
    have hb0 : Below wm.heap.size wm wm.drew := by (repeat (first|exact Qr _ _|assumption|refine Qd ?_|refine Qa ?_ _|refine Qt ?_|refine Qs ?_ _|refine Qo ?_ ?_ _ _))
    refine takeK (i := 0) (d := some 29) (v := ?va0) rfl rfl (Or.inl ⟨by rfl,?hya0⟩) hX0 ?_
    case hya0 => (intro w hSw; (try dsimp only at hSw); go_simp <;> with_reducible rfl)
    try simp only [Act.put,Qx,Qy,Qz]
    refine takeK (i := 2) (d := some 31) (v := ?va2) rfl rfl (Or.inl ⟨by rfl,?hya2⟩) hX0 ?_
    case hya2 => (intro w hSw; (try dsimp only at hSw); go_simp <;> with_reducible rfl)
    try simp only [Act.put,Qx,Qy,Qz]
    refine takeK (i := 3) (d := some 32) (v := ?va3) rfl rfl (Or.inl ⟨by rfl,?hya3⟩) hX0 ?_
    case hya3 => (intro w hSw; (try dsimp only at hSw); go_simp <;> with_reducible rfl)
    try simp only [Act.put,Qx,Qy,Qz]
    refine takeK (i := 4) (d := some 33) (v := ?va4) rfl rfl (Or.inl ⟨by rfl,?hya4⟩) hX0 ?_
    case hya4 => (intro w hSw; (try dsimp only at hSw); go_simp <;> with_reducible rfl)
    try simp only [Act.put,Qx,Qy,Qz]
    refine takeK (i := 5) (d := some 34) (v := ?va5) rfl rfl (Or.inl ⟨by rfl,?hya5⟩) hX0 ?_
    case hya5 => (intro w hSw; (try dsimp only at hSw); go_simp <;> with_reducible rfl)
    try simp only [Act.put,Qx,Qy,Qz]
    refine wpAnyH_ready (rs := [1,6]) (by kernel_rfl) (by simp) ?_
    refine (AllReadyH.cons rfl (fun K hK => ?_) (AllReadyH.cons rfl (fun K hK => ?_) AllReadyH.nil))
    ·rw [if_pos (by rfl)]
     have s3 := (HSm.out.keep hb0 (by omega)).2.2.2
     go_simp
     refine hK.out _ _ hX0 (fun hHeld => ?_)
     clear hK K s3
     try simp only [Act.put,Qx,Qy,Qz]
     refine wpAnyH_ready (rs := [6]) (by kernel_rfl) (by simp) ?_
     refine (AllReadyH.cons rfl (fun K hK => ?_) AllReadyH.nil)
     rw [if_pos (by rfl)]
     go_simp
     generalize hwA : (World.alloc _ _ : World) = wBp
     have hdp : Below wm.heap.size wm wBp.drew := by subst hwA; (repeat (first|exact Qr _ _|assumption|refine Qd ?_|refine Qa ?_ _|refine Qt ?_|refine Qs ?_ _|refine Qo ?_ ?_ _ _))
     have HNC : Hid (∀ j u,(fcell (T k))[j]? = some u → wBp.drew.cell? ((⟨wm.heap.size,0,none⟩ : Addr).add j) = some u) := by
      intro j u hq
      have hq7 : j < 7 := (List.getElem?_eq_some_iff.1 hq).1
      have hc : j = 0 ∨ j = 1 ∨ j = 2 ∨ j = 3 ∨ j = 4 ∨ j = 5 ∨ j = 6 := by omega
      subst hwA
      rcases hc with rfl | rfl | rfl | rfl | rfl | rfl | rfl <;> (simp [fcell,eqa] at hq; subst hq; simp [Addr.add,go_sem,eqa])
     clear hwA
     have hXAp := HPW.out _ hdp
     refine hK.out _ _ hXAp (fun hHeld => ?_)
     clear hK K
     try simp only [Act.put,Qx,Qy,Qz]
     have hOA := HOm.out.below hdp
     refine wpAnyH_ready (rs := [7]) (by kernel_rfl) (by simp) ?_
     refine (AllReadyH.cons rfl (fun K hK => ?_) AllReadyH.nil)
     refine step_append_own rfl (.tmp 30) (.tmp 35) 24 rfl base 39 i0 (.agg #[.int .i64 0, .int .i64 0, .int .i64 0, .int .i64 0, .slice none 0 0, .string ⟨#[]⟩, .int .i64 0]) 7 80 Tryz.underlying24 hi hz0 hz1 hz2 rfl (by decide) (.slice va vn vc) vn (cellsF T (ksM z x y n G k)) rfl ?c6 ⟨wm.heap.size,0,none⟩ 1 1 (fcell (T k)) rfl ?c0 ?c1 ?c2 ?c3 ?c4 ?c5 ?_
     case c6 =>
      have := hOA
      unfold FRow at this
      rw [hvn] at this
      exact this
     case c0 => rfl
     case c1 => exact HNC.out
     case c2 => exact fcell_one _
     case c3 => unfold maxLen; omega
     case c4 => omega
     case c5 => have := (hdp).size; omega
     intro v' w4 hown' hgrow hnil
     obtain ⟨g4,c4,hv4⟩ : ∃ g4 c4,v' = .slice (some ⟨g4,0,none⟩) (vn + 1) c4 := by
      obtain ⟨_,h2 | ⟨g',cp,cur,hv,_⟩⟩ := hown'
      ·first | exact absurd h2.2 (by omega) | (have := hnil.1 h2.1; simp at this)
      ·exact ⟨g',cp,hv⟩
     subst hv4
     have HF4 : Hid (FRow base w4 (.slice (some ⟨g4,0,none⟩) (vn + 1) c4) T (ksM z x y n G (k + 1))) := by
      show FRow _ _ _ _ _
      unfold FRow
      rw [hnl,HNX.out,cellsF_app,cellsF_one]
      exact hown'
     have hKB : Below base wBp.drew w4 := (Below.refl base wBp.drew).grown hgrow (by have := (hdp).size; omega) (fun r hr => (HOB.out r hr).1)
     have HB4 : Hid (Below P w3 w4) := (HBm.out.trans ((hdp).mono (by omega))).trans (hKB.mono (by omega))
     have HS4 : Hid (ShAt w4 P z x y (.slice va vn vc)) := (HSm.out.keep hdp (by omega)).keep hKB (by omega)
     have hT4 : There w4 P 4 := There.belowB' (HTm.out.below hdp) hKB (by omega)
     have hX4 : SkB P wm g k (T k) w4 := ⟨((hdp).mono (by omega)).trans (hKB.mono (by omega)),(HFm.out.below hdp (by omega)).below hKB (by omega)⟩
     clear hown' hnil hOA hgrow hKB
     show K (Act.put _ (some 36) _) w4
     refine hK.out _ _ hX4 (fun hHeld => ?_)
     clear hK K
     try simp only [Act.put,Qx,Qy,Qz]
     refine takeK (i := 8) (d := some 37) (v := ?vep8) rfl rfl (Or.inl ⟨by rfl,?hyep8⟩) hX4 ?_
     case hyep8 => (intro w hSw; (try dsimp only at hSw); go_simp <;> with_reducible rfl)
     try simp only [Act.put,Qx,Qy,Qz]
     refine wpAnyH_ready (rs := [9]) (by kernel_rfl) (by simp) ?_
     refine (AllReadyH.cons rfl (fun K hK => ?_) AllReadyH.nil)
     rw [if_pos (by rfl)]
     have t3 := hT4.cell 3 (by omega)
     have f3 := (hT4 3 (by omega)).2
     go_simp
     have hne : ∀ j,j ≠ 3 → (⟨P,3,none⟩ : Addr) ≠ ⟨P,j,none⟩ := fun j hj e => hj (by injection e with _ e; exact e.symm)
     obtain ⟨u3,hu3⟩ := (hT4 3 (by omega)).1
     have HS5 : Hid (ShAt (w4.setCell ⟨P,3,none⟩ (.slice (some ⟨g4,0,none⟩) (vn + 1) c4)) P z x y (.slice (some ⟨g4,0,none⟩) (vn + 1) c4)) := ⟨by rw [set1_other (hne 0 (by omega))]; exact HS4.out.1,by rw [set1_other (hne 1 (by omega))]; exact HS4.out.2.1,by rw [set1_other (hne 2 (by omega))]; exact HS4.out.2.2.1,set1_same hu3⟩
     have HB5 : Hid (Below P w3 (w4.setCell ⟨P,3,none⟩ (.slice (some ⟨g4,0,none⟩) (vn + 1) c4))) := HB4.out.setCell (Nat.le_refl _) _
     have hX5 : SkB P wm g k (T k) (w4.setCell ⟨P,3,none⟩ (.slice (some ⟨g4,0,none⟩) (vn + 1) c4)) := ⟨hX4.1.setCell (Nat.le_refl _) _,by
      have hnb : ∀ j : Nat,(⟨P,3,none⟩ : Addr) ≠ ⟨g,j,none⟩ := fun j e => by injection e; omega
      obtain ⟨e0,e1,e2,e3,e4,e5,e6⟩ := hX4.2
      refine ⟨?_,?_,?_,?_,?_,?_,?_⟩ <;> (rw [set1_other (hnb _)]; assumption)⟩
     refine hK.out _ _ hX5 (fun hHeld => ?_)
     clear hK K
     try simp only [Act.put,Qx,Qy,Qz]
     refine wpAnyH_done (by kernel_rfl) ?_ _
     refine NoPanic.normal ?_
     have HO5 : Hid (FRow base (w4.setCell ⟨P,3,none⟩ (.slice (some ⟨g4,0,none⟩) (vn + 1) c4)) (.slice (some ⟨g4,0,none⟩) (vn + 1) c4) T (ksM z x y n G (k + 1))) := HF4.out.put (by omega)
     have HT5 : Hid (There (w4.setCell ⟨P,3,none⟩ (.slice (some ⟨g4,0,none⟩) (vn + 1) c4)) P 4) := hT4.set _ _
     clear hX4 hX5 HF4 HS4 HB4 hT4 t3 f3 hne hu3
     generalize w4.setCell ⟨P,3,none⟩ (.slice (some ⟨g4,0,none⟩) (vn + 1) c4) = w7 at *
     clear d0 d1 d2 d3 d4 d5 d6 HPW
     go_wp2_with fail
     go_roundw
     case rel => exact ⟨k + 1,some ⟨g4,0,none⟩,c4,by omega,by go_num,by rw [hnl]; exact HS5.out,HT5.out,by rw [hnl]; exact HO5.out,HB5.out⟩
     case measure => simp [intOf]; omega
    ·rw [if_pos (by rfl)]
     go_simp
     generalize hwA : (World.alloc _ _ : World) = wBq
     have hdq : Below wm.heap.size wm wBq.drew := by subst hwA; (repeat (first|exact Qr _ _|assumption|refine Qd ?_|refine Qa ?_ _|refine Qt ?_|refine Qs ?_ _|refine Qo ?_ ?_ _ _))
     have HNC : Hid (∀ j u,(fcell (T k))[j]? = some u → wBq.drew.cell? ((⟨wm.heap.size,0,none⟩ : Addr).add j) = some u) := by
      intro j u hq
      have hq7 : j < 7 := (List.getElem?_eq_some_iff.1 hq).1
      have hc : j = 0 ∨ j = 1 ∨ j = 2 ∨ j = 3 ∨ j = 4 ∨ j = 5 ∨ j = 6 := by omega
      subst hwA
      rcases hc with rfl | rfl | rfl | rfl | rfl | rfl | rfl <;> (simp [fcell,eqa] at hq; subst hq; simp [Addr.add,go_sem,eqa])
     clear hwA
     have hXAq := HPW.out _ hdq
     refine hK.out _ _ hXAq (fun hHeld => ?_)
     clear hK K
     try simp only [Act.put,Qx,Qy,Qz]
     refine wpAnyH_ready (rs := [1]) (by kernel_rfl) (by simp) ?_
     refine (AllReadyH.cons rfl (fun K hK => ?_) AllReadyH.nil)
     rw [if_pos (by rfl)]
     have s3 := (HSm.out.keep hdq (by omega)).2.2.2
     go_simp
     refine hK.out _ _ hXAq (fun hHeld => ?_)
     clear hK K s3
     try simp only [Act.put,Qx,Qy,Qz]
     have hOA := HOm.out.below hdq
     refine wpAnyH_ready (rs := [7]) (by kernel_rfl) (by simp) ?_
     refine (AllReadyH.cons rfl (fun K hK => ?_) AllReadyH.nil)
     refine step_append_own rfl (.tmp 30) (.tmp 35) 24 rfl base 39 i0 (.agg #[.int .i64 0, .int .i64 0, .int .i64 0, .int .i64 0, .slice none 0 0, .string ⟨#[]⟩, .int .i64 0]) 7 80 Tryz.underlying24 hi hz0 hz1 hz2 rfl (by decide) (.slice va vn vc) vn (cellsF T (ksM z x y n G k)) rfl ?c6 ⟨wm.heap.size,0,none⟩ 1 1 (fcell (T k)) rfl ?c0 ?c1 ?c2 ?c3 ?c4 ?c5 ?_
     case c6 =>
      have := hOA
      unfold FRow at this
      rw [hvn] at this
      exact this
     case c0 => rfl
     case c1 => exact HNC.out
     case c2 => exact fcell_one _
     case c3 => unfold maxLen; omega
     case c4 => omega
     case c5 => have := (hdq).size; omega
     intro v' w4 hown' hgrow hnil
     obtain ⟨g4,c4,hv4⟩ : ∃ g4 c4,v' = .slice (some ⟨g4,0,none⟩) (vn + 1) c4 := by
      obtain ⟨_,h2 | ⟨g',cp,cur,hv,_⟩⟩ := hown'
      ·first | exact absurd h2.2 (by omega) | (have := hnil.1 h2.1; simp at this)
      ·exact ⟨g',cp,hv⟩
     subst hv4
     have HF4 : Hid (FRow base w4 (.slice (some ⟨g4,0,none⟩) (vn + 1) c4) T (ksM z x y n G (k + 1))) := by
      show FRow _ _ _ _ _
      unfold FRow
      rw [hnl,HNX.out,cellsF_app,cellsF_one]
      exact hown'
     have hKB : Below base wBq.drew w4 := (Below.refl base wBq.drew).grown hgrow (by have := (hdq).size; omega) (fun r hr => (HOB.out r hr).1)
     have HB4 : Hid (Below P w3 w4) := (HBm.out.trans ((hdq).mono (by omega))).trans (hKB.mono (by omega))
     have HS4 : Hid (ShAt w4 P z x y (.slice va vn vc)) := (HSm.out.keep hdq (by omega)).keep hKB (by omega)
     have hT4 : There w4 P 4 := There.belowB' (HTm.out.below hdq) hKB (by omega)
     have hX4 : SkB P wm g k (T k) w4 := ⟨((hdq).mono (by omega)).trans (hKB.mono (by omega)),(HFm.out.below hdq (by omega)).below hKB (by omega)⟩
     clear hown' hnil hOA hgrow hKB
     show K (Act.put _ (some 36) _) w4
     refine hK.out _ _ hX4 (fun hHeld => ?_)
     clear hK K
     try simp only [Act.put,Qx,Qy,Qz]
     refine takeK (i := 8) (d := some 37) (v := ?veq8) rfl rfl (Or.inl ⟨by rfl,?hyeq8⟩) hX4 ?_
     case hyeq8 => (intro w hSw; (try dsimp only at hSw); go_simp <;> with_reducible rfl)
     try simp only [Act.put,Qx,Qy,Qz]
     refine wpAnyH_ready (rs := [9]) (by kernel_rfl) (by simp) ?_
     refine (AllReadyH.cons rfl (fun K hK => ?_) AllReadyH.nil)
     rw [if_pos (by rfl)]
     have t3 := hT4.cell 3 (by omega)
     have f3 := (hT4 3 (by omega)).2
     go_simp
     have hne : ∀ j,j ≠ 3 → (⟨P,3,none⟩ : Addr) ≠ ⟨P,j,none⟩ := fun j hj e => hj (by injection e with _ e; exact e.symm)
     obtain ⟨u3,hu3⟩ := (hT4 3 (by omega)).1
     have HS5 : Hid (ShAt (w4.setCell ⟨P,3,none⟩ (.slice (some ⟨g4,0,none⟩) (vn + 1) c4)) P z x y (.slice (some ⟨g4,0,none⟩) (vn + 1) c4)) := ⟨by rw [set1_other (hne 0 (by omega))]; exact HS4.out.1,by rw [set1_other (hne 1 (by omega))]; exact HS4.out.2.1,by rw [set1_other (hne 2 (by omega))]; exact HS4.out.2.2.1,set1_same hu3⟩
     have HB5 : Hid (Below P w3 (w4.setCell ⟨P,3,none⟩ (.slice (some ⟨g4,0,none⟩) (vn + 1) c4))) := HB4.out.setCell (Nat.le_refl _) _
     have hX5 : SkB P wm g k (T k) (w4.setCell ⟨P,3,none⟩ (.slice (some ⟨g4,0,none⟩) (vn + 1) c4)) := ⟨hX4.1.setCell (Nat.le_refl _) _,by
      have hnb : ∀ j : Nat,(⟨P,3,none⟩ : Addr) ≠ ⟨g,j,none⟩ := fun j e => by injection e; omega
      obtain ⟨e0,e1,e2,e3,e4,e5,e6⟩ := hX4.2
      refine ⟨?_,?_,?_,?_,?_,?_,?_⟩ <;> (rw [set1_other (hnb _)]; assumption)⟩
     refine hK.out _ _ hX5 (fun hHeld => ?_)
     clear hK K
     try simp only [Act.put,Qx,Qy,Qz]
     refine wpAnyH_done (by kernel_rfl) ?_ _
     refine NoPanic.normal ?_
     have HO5 : Hid (FRow base (w4.setCell ⟨P,3,none⟩ (.slice (some ⟨g4,0,none⟩) (vn + 1) c4)) (.slice (some ⟨g4,0,none⟩) (vn + 1) c4) T (ksM z x y n G (k + 1))) := HF4.out.put (by omega)
     have HT5 : Hid (There (w4.setCell ⟨P,3,none⟩ (.slice (some ⟨g4,0,none⟩) (vn + 1) c4)) P 4) := hT4.set _ _
     clear hX4 hX5 HF4 HS4 HB4 hT4 t3 f3 hne hu3
     generalize w4.setCell ⟨P,3,none⟩ (.slice (some ⟨g4,0,none⟩) (vn + 1) c4) = w7 at *
     clear d0 d1 d2 d3 d4 d5 d6 HPW
     go_wp2_with fail
     go_roundw
     case rel => exact ⟨k + 1,some ⟨g4,0,none⟩,c4,by omega,by go_num,by rw [hnl]; exact HS5.out,HT5.out,by rw [hnl]; exact HO5.out,HB5.out⟩
     case measure => simp [intOf]; omega
  ·obtain rfl : k = n := by omega
   have hlen : (chs z x y k G).length = (ksM z x y k G k).length := by rw [HKA.out]; simp
   have HSB : Hid (SrcB W.heap.size wr.heap.size wr va (ksM z x y k G k).length (fun i => T ((ksM z x y k G k).getD i 0)) ∧ (ksM z x y k G k).length ≤ vc) := by
    rcases HOr.out.at with ⟨hv,hl⟩ | ⟨g2,c2,hv,hg2,hgl2,hc2,_,hF2⟩
    ·rw [hl]
     exact ⟨.inl rfl,Nat.zero_le _⟩
    ·injection hv with e1 e2 e3
     subst e1 e3
     refine ⟨.inr ⟨g2,rfl,⟨by omega,hgl2⟩,fun i hi => ⟨hF2 i hi,?_⟩⟩,hc2⟩
     rcases HSRC.out.up HBr.out (Nat.le_refl _) with h0 | ⟨g',eg,_,hFs⟩
     ·have := ksM_lt i hi; omega
     obtain ⟨_,q,o,eqa,⟨hq1,hq2⟩,hpt⟩ := hFs _ (ksM_lt i hi)
     exact ⟨q,o,eqa,⟨by omega,by omega⟩,hpt⟩
   have HSAM : Hid (∀ i,i < (ksM z x y k G k).length → (T ((ksM z x y k G k).getD i 0)).same (btG z x y k G i)) := fun i hi => by
    unfold btG
    rw [ksM_get i hi]
    exact bF_sim (HSIM.out _ (ksM_lt i hi))
   have HTR : Hid (There wr (w.heap.size + 1) 4) := There.belowB' (HT.out.below HB3.out) HBr.out (by omega)
   obtain ⟨z0,z1,z2,z3⟩ := HSr.out
   have hT9 := HTR.out
   have t0 := hT9.cell 0 (by omega)
   have t1 := hT9.cell 1 (by omega)
   have t2 := hT9.cell 2 (by omega)
   have t3 := hT9.cell 3 (by omega)
   have f0 := (hT9 0 (by omega)).2
   have f1 := (hT9 1 (by omega)).2
   have f2 := (hT9 2 (by omega)).2
   have f3 := (hT9 3 (by omega)).2
   have HBw : Hid (Below w.heap.size w wr) := bl_then HB0.out HBW.out
   have hPr : P < wr.heap.size := by omega
   clear hT9
   go_wp2_with fail
   obtain ⟨q0,q1,q2,q3⟩ := set4_at (a := .int .i64 z) (b := .int .i64 x) (c := .int .i64 y) (d := .slice va (ksM z x y k G k).length vc) HTR.out
   have hle : w.heap.size ≤ w.heap.size + 1 := Nat.le_succ _
   refine bodyPost_ret (v := .agg #[.int .i64 z, .int .i64 x, .int .i64 y, .slice va (ksM z x y k G k).length vc]) (by simp [results,Tryz.results24,go_sem,q0,q1,q2,q3]) rfl ⟨va,vc,fun i => T ((ksM z x y k G k).getD i 0),?_,?_,?_,?_,?_,?_⟩
   ·rw [hlen]
   ·rw [hlen]
    have h := (HSB.out.1.set4 (r := w.heap.size + 1) (v0 := .int .i64 z) (v1 := .int .i64 x) (v2 := .int .i64 y) (v3 := .slice va (ksM z x y k G k).length vc) (by omega)).wide HB0.out.size
    simpa using h
   ·rw [hlen]; exact HSAM.out
   ·rw [hlen]; exact HSB.out.2
   ·rw [hlen]; exact fun i hi q o e => HOF.out _ (ksM_lt i hi) q o e
   ·exact (((HBw.out.setCell hle _).setCell hle _).setCell hle _).setCell hle _
theorem boAns_no {C z x y : Int} {n : Nat} {G : Nat → Feat} {a b c : Int} {w w' : World} {e : Ending} (hC : btC z x y n G = C) (h0 : C ≠ 0) (he : e = .returned (trV C 0 0 0 (.slice none 0 0))) (hb : Below w.heap.size w w') :
  BoAns (btC z x y n G) (btK z x y n G a) (btK z x y n G b) (btK z x y n G c) (btM z x y n G) (btG z x y n G) w e w' := by
 have hn : btC z x y n G ≠ 0 := by rw [hC]; exact h0
 have hm : btM z x y n G = 0 := by unfold btM; rw [if_neg hn]
 have hk : ∀ v,btK z x y n G v = 0 := fun v => by unfold btK; rw [if_neg hn]
 rw [hm,hk,hk,hk,hC]
 exact ⟨none,0,G,he, .inl rfl,fun i hi => absurd hi (Nat.not_lt_zero _),Nat.le_refl _,fun i hi => absurd hi (Nat.not_lt_zero _),hb⟩
theorem spec_BuildTile_off (z x y : Int) (b n cap : Nat) (G : Nat → Feat) (w : World) (hg : FsAt w b 0 n G) (hbl : b < w.heap.size) (hs : SmallFs n G) :
  Calls Tryz.prog 7 #[.slice (some ⟨b,0,none⟩) n cap,refV z x y] w (BoAns (btC z x y n G) (btK z x y n G z) (btK z x y n G x) (btK z x y n G y) (btM z x y n G) (btG z x y n G) w) := by
 have HG : Hid (FsAt w b 0 n G) := hg
 have HS : Hid (SmallFs n G) := hs
 have HC0 : Hid (refB z x y = false → btC z x y n G = 3) := fun hr => by unfold btC; rw [hr]; rfl
 have HC1 : Hid (refB z x y = true → btC z x y n G = featsC n G) := fun hr => by unfold btC; rw [hr]; rfl
 clear hg hs
 go_enter Tryz.func7,Tryz.ntmps7
 go_wp2_with fail
 generalize hW : ((w.alloc _).alloc _ : World) = W
 have HB0 : Hid (Below w.heap.size w W) := by show Below _ _ _; subst hW; (repeat (first|exact Qr _ _|assumption|refine Qd ?_|refine Qa ?_ _|refine Qt ?_|refine Qs ?_ _|refine Qo ?_ ?_ _ _))
 have hlW : W.heap.size = w.heap.size + 2 := by subst hW; simp
 have HT : Hid (There W (w.heap.size + 1) 5) := by
  show There _ _ _
  subst hW
  have := there5b (w.alloc (.cells #[.int .i64 z, .int .i64 x, .int .i64 y] 26)) (.int .i64 0) (.int .i64 0) (.int .i64 0) (.int .i64 0) (.slice none 0 0) 32
  simpa using this
 have HC : Hid (∀ W',Below W.heap.size W W' → W'.cell? ⟨w.heap.size,0,none⟩ = some (.int .i64 z) ∧ W'.cell? ⟨w.heap.size,1,none⟩ = some (.int .i64 x) ∧ W'.cell? ⟨w.heap.size,2,none⟩ = some (.int .i64 y)) := fun W' h => by
  refine ⟨?_,?_,?_⟩ <;> (rw [h.cell (by simp; omega)]; subst hW; simp [go_sem])
 clear hW
 refine (l7Fault_any z x y _).mono ?_
 rintro e w1 ⟨rfl,hb1⟩
 have hT1 := HT.out.below hb1
 have HT1 : Hid (There w1 (w.heap.size + 1) 5) := hT1
 have HB1 : Hid (Below w.heap.size w w1) := bl_then HB0.out hb1
 have HW1 : Hid (Below W.heap.size W w1) := hb1
 have hle : w.heap.size ≤ w.heap.size + 1 := Nat.le_succ _
 clear hb1
 rcases refC_cases z x y with ⟨hrc,hrb⟩ | ⟨hrc,hrb⟩
 ·rw [hrc]
  have HRB : Hid (refB z x y = true) := hrb
  clear hrc hrb hT1
  go_wp2_with fail
  refine (l2Many_any b n cap G _ (HG.out.below HB1.out hbl) (Nat.lt_of_lt_of_le hbl HB1.out.size) HS.out).mono ?_
  rintro e w2 ⟨rfl,hb2⟩
  have hT2 := HT1.out.below hb2
  have HT2 : Hid (There w2 (w.heap.size + 1) 5) := hT2
  have HB2 : Hid (Below w.heap.size w w2) := bl_then HB1.out hb2
  have hW2 : Below W.heap.size W w2 := bl_then HW1.out hb2
  obtain ⟨z0,z1,z2⟩ := HC.out _ hW2
  have hs2 := hW2.size
  clear hb2
  by_cases hf : featsC n G = 0
  ·have HLB := (show Hid _ from l7Build_off z x y b n cap G w2 (HG.out.below HB2.out hbl) (Nat.lt_of_lt_of_le hbl HB2.out.size) HS.out hf HRB.out)
   have HZ : Hid (btC z x y n G = 0) := (HC1.out HRB.out).trans hf
   rw [hf]
   clear hf hT2
   go_wp2_with fail
   refine Calls.mono HLB.out ?_
   rintro e w3 ⟨a,c,T,rfl,hS,hsam,hc,hof,hb3⟩
   have HOF : Hid (Off0 (chs z x y n G).length T) := hof
   clear hof
   have hT3 := HT2.out.below hb3
   have HT3 : Hid (There w3 (w.heap.size + 1) 5) := hT3
   have HB3 : Hid (Below w.heap.size w w3) := bl_then HB2.out hb3
   have HSR := (show Hid (SrcB w2.heap.size w3.heap.size w3 a (chs z x y n G).length T) from hS)
   have HSA := (show Hid (∀ i,i < (chs z x y n G).length → (T i).same (btG z x y n G i)) from hsam)
   have t0 := hT3.cell 0 (by omega)
   have t1 := hT3.cell 1 (by omega)
   have t2 := hT3.cell 2 (by omega)
   have t3 := hT3.cell 3 (by omega)
   have t4 := hT3.cell 4 (by omega)
   have f0 := (hT3 0 (by omega)).2
   have f1 := (hT3 1 (by omega)).2
   have f2 := (hT3 2 (by omega)).2
   have f3 := (hT3 3 (by omega)).2
   have f4 := (hT3 4 (by omega)).2
   clear hb3 hT3 hS hsam z0 z1 z2 HLB
   go_wp2_with fail
   obtain ⟨q0,q1,q2,q3,q4⟩ := set5_at (a := .int .i64 0) (b := .int .i64 z) (c := .int .i64 x) (d := .int .i64 y) (e := .slice a (chs z x y n G).length c) HT3.out
   refine bodyPost_ret (v := .agg #[.int .i64 0, .int .i64 z, .int .i64 x, .int .i64 y, .slice a (chs z x y n G).length c]) (by simp [results,Tryz.results7,go_sem,q0,q1,q2,q3,q4]) rfl ?_
   have hm : btM z x y n G = (chs z x y n G).length := by unfold btM; rw [if_pos HZ.out]
   have hk : ∀ v,btK z x y n G v = v := fun v => by unfold btK; rw [if_pos HZ.out]
   rw [hm,hk,hk,hk,HZ.out]
   refine ⟨a,c,T,rfl,?_,HSA.out,hc,HOF.out,((((HB3.out.setCell hle _).setCell hle _).setCell hle _).setCell hle _).setCell hle _⟩
   have h := (HSR.out.set5 (r := w.heap.size + 1) (v0 := .int .i64 0) (v1 := .int .i64 z) (v2 := .int .i64 x) (v3 := .int .i64 y) (v4 := .slice a (chs z x y n G).length c) (by omega)).wide HB2.out.size
   simpa using h
  ·have hcb : (featsC n G == 0) = false := by simpa using hf
   have HCC : Hid (btC z x y n G = featsC n G) := HC1.out HRB.out
   have HNZ : Hid (featsC n G ≠ 0) := hf
   have t0 := hT2.cell 0 (by omega)
   have t1 := hT2.cell 1 (by omega)
   have t2 := hT2.cell 2 (by omega)
   have t3 := hT2.cell 3 (by omega)
   have t4 := hT2.cell 4 (by omega)
   have f0 := (hT2 0 (by omega)).2
   have f1 := (hT2 1 (by omega)).2
   have f2 := (hT2 2 (by omega)).2
   have f3 := (hT2 3 (by omega)).2
   have f4 := (hT2 4 (by omega)).2
   clear hf hT2 z0 z1 z2
   generalize hfc : featsC n G = fc at *
   go_wp2_with fail
   obtain ⟨q0,q1,q2,q3,q4⟩ := set5_at (a := .int .i64 fc) (b := .int .i64 0) (c := .int .i64 0) (d := .int .i64 0) (e := .slice none 0 0) HT2.out
   exact bodyPost_ret (v := .agg #[.int .i64 fc, .int .i64 0, .int .i64 0, .int .i64 0, .slice none 0 0]) (by simp [results,Tryz.results7,go_sem,q0,q1,q2,q3,q4]) rfl (boAns_no HCC.out HNZ.out rfl (((((HB2.out.setCell hle _).setCell hle _).setCell hle _).setCell hle _).setCell hle _))
 ·rw [hrc]
  have HCC : Hid (btC z x y n G = 3) := HC0.out hrb
  have t0 := hT1.cell 0 (by omega)
  have t1 := hT1.cell 1 (by omega)
  have t2 := hT1.cell 2 (by omega)
  have t3 := hT1.cell 3 (by omega)
  have t4 := hT1.cell 4 (by omega)
  have f0 := (hT1 0 (by omega)).2
  have f1 := (hT1 1 (by omega)).2
  have f2 := (hT1 2 (by omega)).2
  have f3 := (hT1 3 (by omega)).2
  have f4 := (hT1 4 (by omega)).2
  clear hrc hrb hT1
  go_wp2_with fail
  obtain ⟨q0,q1,q2,q3,q4⟩ := set5_at (a := .int .i64 3) (b := .int .i64 0) (c := .int .i64 0) (d := .int .i64 0) (e := .slice none 0 0) HT1.out
  exact bodyPost_ret (v := .agg #[.int .i64 3, .int .i64 0, .int .i64 0, .int .i64 0, .slice none 0 0]) (by simp [results,Tryz.results7,go_sem,q0,q1,q2,q3,q4]) rfl (boAns_no HCC.out (by decide) rfl (((((HB1.out.setCell hle _).setCell hle _).setCell hle _).setCell hle _).setCell hle _))
end Go.Proofs.YtfkonhagjahgnaaGreat
