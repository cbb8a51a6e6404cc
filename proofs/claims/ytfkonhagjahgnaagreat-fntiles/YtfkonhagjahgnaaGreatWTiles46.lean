/- Texts. -/
import Derived.Test.YtfkonhagjahgnaaGreatWTiles45
import Derived.Test.YtfkonhagjahgnaaGreatWTiles28
import Derived.Test.YtfkonhagjahgnaaGreatWTiles10
set_option linter.unusedSimpArgs false
set_option linter.unusedVariables false
set_option maxRecDepth 100000
set_option maxHeartbeats 32000000
namespace Go.Proofs.YtfkonhagjahgnaaGreat
open Go.RowKit
def SrcB (lo base : Nat) (w : World) (a : Option Addr) (n : Nat) (T : Nat → Feat) : Prop :=
 n = 0 ∨ ∃ g,a = some ⟨g,0,none⟩ ∧ (lo ≤ g ∧ g < base) ∧ ∀ i,i < n → FeatAt w g (i * 7) (T i).id (T i).la (T i).ki (T i).wi (.slice (T i).a (T i).n (T i).cap) (T i).lab (T i).pr ∧ ∃ q o,(T i).a = some ⟨q,o,none⟩ ∧ (lo ≤ q ∧ q < base) ∧ PtsAt w q o (T i).n (T i).X (T i).Y
theorem SrcB.stay {lo base P n : Nat} {w w' : World} {a : Option Addr} {T : Nat → Feat} (h : SrcB lo base w a n T) (hs : StayP P base w w') (hP : P < lo) : SrcB lo base w' a n T := by
 rcases h with h | ⟨g,ea,⟨g1,g2⟩,h⟩
 ·exact .inl h
 ·refine .inr ⟨g,ea,⟨g1,g2⟩,fun i hi => ?_⟩
  obtain ⟨⟨e0,e1,e2,e3,e4,e5,e6⟩,q,o,eq,⟨q1,q2⟩,hp⟩ := h i hi
  have f := fun o v (hc : w.cell? ⟨g,o,none⟩ = some v) => hs g o v g2 (by omega) hc
  exact ⟨⟨f _ _ e0,f _ _ e1,f _ _ e2,f _ _ e3,f _ _ e4,f _ _ e5,f _ _ e6⟩,q,o,eq,⟨q1,q2⟩,fun j hj => ⟨hs q _ _ q2 (by omega) (hp j hj).1,hs q _ _ q2 (by omega) (hp j hj).2⟩⟩
theorem StayP.refl (P base : Nat) (w : World) : StayP P base w w := fun _ _ _ _ _ h => h
theorem StayP.trans {P base : Nat} {w w' w'' : World} (h : StayP P base w w') (k : StayP P base w' w'') : StayP P base w w'' := fun b o v hb hp hc => k b o v hb hp (h b o v hb hp hc)
theorem StayP.below {P base : Nat} {w w' : World} (h : Below base w w') : StayP P base w w' := fun b o v hb hp hc => (h.cell (p := ⟨b,o,none⟩) hb).trans hc
theorem SortRes.srcB {base n : Nat} {w : World} {a : Option Addr} {G T : Nat → Feat} (h : SortRes base w a n G T) (hf : featsC n G = 0) : SrcB base w.heap.size w a n T := by
 have hm : srtM n G = n := if_pos hf
 obtain ⟨h1,h2,h3⟩ := h
 rw [hm] at h1 h2 h3
 rcases h3 with h0 | ⟨g,q,ea,hQ⟩
 ·exact .inl h0
 ·rcases h1 with h0 | ⟨b,off,eb,hbl,hFs⟩
  ·exact .inl h0
  ·rw [ea] at eb
   injection eb with eb
   injection eb with e1 e2
   subst e1
   obtain ⟨⟨h1,h2',h3⟩,h4,h5,h6⟩ := hQ
   refine .inr ⟨g,ea,⟨h1,hbl⟩,fun i hi => ?_⟩
   obtain ⟨hF,hP⟩ := hFs i hi
   rw [← e2,Nat.zero_add] at hF
   refine ⟨hF,?_⟩
   have hpos : 0 < (T i).n := by
    have hok := (featsC_ok hf).2.2 _ (srtF_lt n G i hi)
    rw [(h2 i hi).2.2.2.2.1]
    exact (featC_zero hok).2.1
   have e4 := (h5 i hi).2.2
   rw [hF.2.2.2.2.1] at e4
   injection e4 with e4
   injection e4 with e4 _ _
   rcases hP with h0 | ⟨q',o,e,hl,hp⟩
   ·omega
   ·rw [e4] at e
    injection e with e
    injection e with e5 e6
    subst e5 e6
    exact ⟨_,_,e4,⟨(h5 i hi).1.1,by omega⟩,hp⟩
theorem SrcB.up {lo base base' n : Nat} {w w' : World} {a : Option Addr} {T : Nat → Feat} (h : SrcB lo base w a n T) (hb : Below base w w') (hB : base ≤ base') : SrcB lo base' w' a n T := by
 rcases h with h | ⟨g,ea,⟨g1,g2⟩,h⟩
 ·exact .inl h
 ·refine .inr ⟨g,ea,⟨g1,by omega⟩,fun i hi => ?_⟩
  obtain ⟨hF,q,o,eq,⟨q1,q2⟩,hp⟩ := h i hi
  exact ⟨hF.below hb g2,q,o,eq,⟨q1,by omega⟩,hp.below hb q2⟩
theorem there5b (V : World) (a b c d e : Value) (t : TypeId) : There (V.alloc (.cells #[a,b,c,d,e] t)) V.heap.size 5 := fun o ho => by
 have : o = 0 ∨ o = 1 ∨ o = 2 ∨ o = 3 ∨ o = 4 := by omega
 rcases this with rfl | rfl | rfl | rfl | rfl <;> exact ⟨⟨_,by simp [go_sem]; rfl⟩,by simp [go_sem]⟩
theorem ShAt.keep {w w' : World} {P B : Nat} {z x y : Int} {v : Value} (h : ShAt w P z x y v) (hb : Below B w w') (hP : P < B) : ShAt w' P z x y v :=
 ⟨(hb.cell (p := ⟨P,0,none⟩) hP).trans h.1,(hb.cell (p := ⟨P,1,none⟩) hP).trans h.2.1,(hb.cell (p := ⟨P,2,none⟩) hP).trans h.2.2.1,(hb.cell (p := ⟨P,3,none⟩) hP).trans h.2.2.2⟩
theorem sheetTile_bt (z x y : Int) (sa : Option Addr) (sn sc : Nat) (w : World) : Calls Tryz.prog 21 #[sheetV z x y (.slice sa sn sc)] w fun e w' => e = .returned (.agg #[.int .i64 z, .int .i64 x, .int .i64 y, .slice sa sn sc]) ∧ Below w.heap.size w w' := by
 go_enter Tryz.func21,Tryz.ntmps21
 go_wp2_with fail
 refine bodyPost_ret (v := .agg #[.int .i64 z, .int .i64 x, .int .i64 y, .slice sa sn sc]) (by simp [results,Tryz.results21,go_sem]) rfl ⟨rfl,by (repeat (first|exact Qr _ _|assumption|refine Qd ?_|refine Qa ?_ _|refine Qt ?_|refine Qs ?_ _|refine Qo ?_ ?_ _ _))⟩
theorem impl_BuildTile_ok (z x y : Int) (b n cap : Nat) (G : Nat → Feat) (w : World) (hg : FsAt w b 0 n G) (hbl : b < w.heap.size) (hs : SmallFs n G) (hcap : n ≤ cap) (hf : featsC n G = 0) (hr : refB z x y = true) :
  Calls Tryz.prog 6 #[.slice (some ⟨b,0,none⟩) n cap,refV z x y] w fun e w' => ∃ base a c T,e = .returned (.agg #[.int .i64 0, .int .i64 z, .int .i64 x, .int .i64 y, .slice a (chs z x y n G).length c]) ∧ SfRow base w' (.slice a (chs z x y n G).length c) (chs z x y n G).length z (fun i => G ((chs z x y n G).getD i 0)) T ∧ w.heap.size ≤ base ∧ Below w.heap.size w w' := by
 have hm : srtM n G = n := if_pos hf
 have hz : zoomB z = true := by simp [refB] at hr; exact hr.1
 have hn12 := (featsC_ok hf).1
 have HOK : Hid (∀ i,i < n → okC (G ((srtF n G).getD i 0))) := fun i hi => (featsC_ok hf).2.2 _ (srtF_lt n G i hi)
 have HSM : Hid (∀ i,i < n → (G ((srtF n G).getD i 0)).lab.size ≤ 1048576 ∧ (G ((srtF n G).getD i 0)).n ≤ 1048576) := fun i hi => ⟨(hs.2 _ (srtF_lt n G i hi)).2,(hs.2 _ (srtF_lt n G i hi)).1⟩
 have HSO : Hid (∀ W,Below w.heap.size w W → Calls Tryz.prog 18 #[.slice (some ⟨b,0,none⟩) n cap] W fun e w' => ∃ a c T,e = .returned (.agg #[.int .i64 0, .slice a n c]) ∧ n ≤ c ∧ SrcB W.heap.size w'.heap.size w' a n T ∧ (∀ i,i < n → (T i).same (G ((srtF n G).getD i 0)) ∧ (T i).n ≤ (T i).cap) ∧ Below W.heap.size W w') := fun W hW => (impl_SortFeatures_cap b n cap G W (hg.below hW hbl) (Nat.lt_of_lt_of_le hbl hW.size) hs hcap).mono fun e w' ⟨a,c,T,h1,h2,h3,h4⟩ => ⟨a,c,T,by rw [h1,hf,hm],by rw [hm] at h2; exact h2,h3.1.srcB hf,fun i hi => ⟨h3.1.2.1 i (by rw [hm]; exact hi),h3.2 i (by rw [hm]; exact hi)⟩,h4⟩
 have HRF : Hid (∀ W',Calls Tryz.prog 17 #[.agg #[.int .i64 z, .int .i64 x, .int .i64 y]] W' fun e w' => e = .returned (.int .i64 0) ∧ Below W'.heap.size W' w') := fun W' => by
  have h := refFault_any z x y W'
  have h0 : refC z x y = 0 := by
   rcases refC_cases z x y with ⟨h,_⟩ | ⟨_,h⟩
   ·exact h
   ·rw [hr] at h; cases h
  rw [h0] at h
  exact h
 have HR : Hid (refB z x y = true) := hr
 clear hg hs hf hr hm
 obtain ⟨H,hH⟩ : ∃ H : Nat → Feat,H = fun i => G ((chs z x y n G).getD i 0) := ⟨_,rfl⟩
 have HHE : Hid ((fun i => G ((chs z x y n G).getD i 0)) = H) := hH.symm
 have HHK : Hid (∀ m,m < n → rchF z x y (G ((srtF n G).getD m 0)) = true → H (chsM z x y n G m).length = G ((srtF n G).getD m 0)) := fun m hm hp => by rw [hH]; show G _ = _; rw [(chsM_yes hm hp).2]
 clear hH
 go_enter Tryz.func6,Tryz.ntmps6
 go_wp2_with fail
 generalize hW : (((w.alloc _).alloc _).alloc _ : World) = W
 have HB0 : Hid (Below w.heap.size w W) := by show Below _ _ _; subst hW; (repeat (first|exact Qr _ _|assumption|refine Qd ?_|refine Qa ?_ _|refine Qt ?_|refine Qs ?_ _|refine Qo ?_ ?_ _ _))
 have hlW : W.heap.size = w.heap.size + 3 := by subst hW; simp
 have HT : Hid (There W (w.heap.size + 1) 5) := by
  show There _ _ _
  subst hW
  have := (there5b (w.alloc (.cells #[.int .i64 z, .int .i64 x, .int .i64 y] 26)) (.int .i64 0) (.int .i64 0) (.int .i64 0) (.int .i64 0) (.slice none 0 0) 32).below (bl_alloc (Below.refl _ _) (.cells #[.int .i64 z, .int .i64 x, .int .i64 y, .slice none 0 0] 51))
  simpa using this
 have HTP : Hid (There W (w.heap.size + 1 + 1) 4) := by
  show There _ _ _
  subst hW
  have := there4 ((w.alloc (.cells #[.int .i64 z, .int .i64 x, .int .i64 y] 26)).alloc (.cells #[.int .i64 0, .int .i64 0, .int .i64 0, .int .i64 0, .slice none 0 0] 32)) (.int .i64 z) (.int .i64 x) (.int .i64 y) (.slice none 0 0) 51
  simpa using this
 have HSh : Hid (ShAt W (w.heap.size + 1 + 1) z x y (.slice none 0 0)) := by
  show ShAt _ _ _ _ _ _
  subst hW
  refine ⟨?_,?_,?_,?_⟩ <;> simp [go_sem]
 clear hW
 generalize hPd : w.heap.size + 1 + 1 = P at *
 have s0 := HSh.out.1
 refine Calls.mono (HRF.out _) ?_
 rintro e w1 ⟨rfl,hb1⟩
 have HW1 : Hid (Below W.heap.size W w1) := hb1
 clear hb1 s0
 go_wp2_with fail
 refine Calls.mono (HSO.out _ (bl_then HB0.out HW1.out)) ?_
 rintro e w2 ⟨a,c,T,rfl,hnc,hsrc,hsame,hb2⟩
 have HSRC : Hid (SrcB w1.heap.size w2.heap.size w2 a n T) := hsrc
 have HSAME : Hid (∀ i,i < n → (T i).same (G ((srtF n G).getD i 0)) ∧ (T i).n ≤ (T i).cap) := hsame
 have HW2 : Hid (Below W.heap.size W w2) := bl_then HW1.out hb2
 have h12 := hb2.size
 have hs1 := HW1.out.size
 clear hsrc hsame hb2
 go_wp2_with fail
 generalize hV : (w2.alloc _ : World) = w3
 have hb3 : Below w2.heap.size w2 w3 := by subst hV; (repeat (first|exact Qr _ _|assumption|refine Qd ?_|refine Qa ?_ _|refine Qt ?_|refine Qs ?_ _|refine Qo ?_ ?_ _ _))
 have hl3 : w2.heap.size < w3.heap.size := by subst hV; simp
 clear hV
 have HSRC3 : Hid (SrcB w1.heap.size w3.heap.size w3 a n T) := HSRC.out.up hb3 (by omega)
 have HW3 : Hid (Below W.heap.size W w3) := bl_then HW2.out hb3
 have hPW : P < W.heap.size := by omega
 have hP1 : P < w1.heap.size := by omega
 have hP3 : P < w3.heap.size := by omega
 have HSh3 : Hid (ShAt w3 P z x y (.slice none 0 0)) := HSh.out.keep HW3.out hPW
 have HTP3 : Hid (There w3 P 4) := HTP.out.below HW3.out
 have HT3 : Hid (There w3 (w.heap.size + 1) 5) := HT.out.below HW3.out
 have HB3 : Hid (Below w.heap.size w w3) := bl_then HB0.out HW3.out
 have HO0 : Hid (SfRow w3.heap.size w3 (.slice none 0 0) 0 z H H) := ⟨⟨by simp [cellsF], .inl ⟨rfl,rfl⟩⟩,fun i hi => absurd hi (Nat.not_lt_zero _),fun i j hi => absurd hi (Nat.not_lt_zero _)⟩
 clear HSRC hb3 HSh HTP HT HW1 HW2 HW3
 obtain ⟨base,hbase⟩ : ∃ base,base = w3.heap.size := ⟨_,rfl⟩
 rw [← hbase] at HSRC3 HO0 hP3
 have hb3' : base ≤ w3.heap.size := by omega
 go_loopw [30] (fun i wr => ∃ (m : Nat) (va : Option Addr) (vc : Nat) (T' : Nat → Feat),m ≤ n ∧ i = .int .i64 (m : Int) ∧ ShAt wr P z x y (.slice va (chsM z x y n G m).length vc) ∧ There wr P 4 ∧ SfRow base wr (.slice va (chsM z x y n G m).length vc) (chsM z x y n G m).length z H T' ∧ StayP P base w3 wr ∧ Below P w3 wr) (fun i _ => n - (intOf i).toNat)
 case atStart => exact ⟨0,none,0,H,by omega,rfl,HSh3.out,HTP3.out,HO0.out,StayP.refl _ _ _,Below.refl _ _⟩
 case round =>
  obtain ⟨m,va,vc,T',hmn,rfl,hSr,hTr,hOr,hStr,hBr⟩ := hrel
  have HSr : Hid (ShAt wr P z x y (.slice va (chsM z x y n G m).length vc)) := hSr
  have HTr : Hid (There wr P 4) := hTr
  have HOr : Hid (SfRow base wr (.slice va (chsM z x y n G m).length vc) (chsM z x y n G m).length z H T') := hOr
  have HStr : Hid (StayP P base w3 wr) := hStr
  have HBr : Hid (Below P w3 wr) := hBr
  have hszr : w3.heap.size ≤ wr.heap.size := hBr.size
  have hk12 : (chsM z x y n G m).length ≤ 12 := Nat.le_trans chsM_le hn12
  clear hSr hTr hOr hStr hBr HSh3 HTP3 HO0
  by_cases hlt : m < n
  ·rcases HSRC3.out.stay HStr.out hP1 with h0 | ⟨g,rfl,⟨g1,g2⟩,hFs⟩
   ·omega
   obtain ⟨⟨q0,q1,q2,q3,q4,q5,q6⟩,q,o,eqa,⟨hq1,hq2⟩,hpt⟩ := hFs m hlt
   have HPT : Hid (PtsAt wr q o (T m).n (T m).X (T m).Y) := hpt
   obtain ⟨⟨e1,e2,e3,e4,e5,e6,e7,e8,e9⟩,hnc'⟩ := HSAME.out m hlt
   have hokT : okC (T m) := by unfold okC; rw [e1,e2,e3,e4,e5,e6,e7,e8,e9]; exact HOK.out m hlt
   have hsmT : (T m).lab.size ≤ 1048576 ∧ (T m).n ≤ 1048576 := by rw [e8,e5]; exact HSM.out m hlt
   have hsim : simL z (T m) = simL z (G ((srtF n G).getD m 0)) := simL_same (HSAME.out m hlt).1
   have hrch : rchF z x y (T m) = rchF z x y (G ((srtF n G).getD m 0)) := by unfold rchF; rw [e4,hsim]
   have hgr : g < wr.heap.size := by omega
   have hi1 : (m : Int) < (n : Int) := by omega
   have hi0 : (0 : Int) ≤ (m : Int) := by omega
   have HFID := (show Hid _ from And.intro e1 (And.intro e2 (And.intro e3 (And.intro e4 (And.intro e8 e9)))))
   clear hpt hFs e1 e2 e3 e4 e5 e6 e7 e8 e9
   rw [eqa] at q4
   obtain ⟨z0,z1,z2,z3⟩ := HSr.out
   have hPr : P < wr.heap.size := by omega
   go_wp2_with fail
   generalize hV : (wr.alloc _ : World) = V
   have hbV : Below wr.heap.size wr V := by subst hV; (repeat (first|exact Qr _ _|assumption|refine Qd ?_|refine Qa ?_ _|refine Qt ?_|refine Qs ?_ _|refine Qo ?_ ?_ _ _))
   have d0 : ∀ W',Below V.heap.size V W' → W'.cell? ⟨wr.heap.size,0,none⟩ = some (.int .i64 (T m).id) := fun W' h => by rw [h.cell (by subst hV; simp)]; subst hV; simp [go_sem]
   have d1 : ∀ W',Below V.heap.size V W' → W'.cell? ⟨wr.heap.size,1,none⟩ = some (.int .i64 (T m).la) := fun W' h => by rw [h.cell (by subst hV; simp)]; subst hV; simp [go_sem]
   have d2 : ∀ W',Below V.heap.size V W' → W'.cell? ⟨wr.heap.size,2,none⟩ = some (.int .i64 (T m).ki) := fun W' h => by rw [h.cell (by subst hV; simp)]; subst hV; simp [go_sem]
   have d3 : ∀ W',Below V.heap.size V W' → W'.cell? ⟨wr.heap.size,3,none⟩ = some (.int .i64 (T m).wi) := fun W' h => by rw [h.cell (by subst hV; simp)]; subst hV; simp [go_sem]
   have d4 : ∀ W',Below V.heap.size V W' → W'.cell? ⟨wr.heap.size,4,none⟩ = some (.slice (some ⟨q,o,none⟩) (T m).n (T m).cap) := fun W' h => by rw [h.cell (by subst hV; simp)]; subst hV; simp [go_sem]
   have d5 : ∀ W',Below V.heap.size V W' → W'.cell? ⟨wr.heap.size,5,none⟩ = some (.string (T m).lab) := fun W' h => by rw [h.cell (by subst hV; simp)]; subst hV; simp [go_sem]
   have d6 : ∀ W',Below V.heap.size V W' → W'.cell? ⟨wr.heap.size,6,none⟩ = some (.int .i64 (T m).pr) := fun W' h => by rw [h.cell (by subst hV; simp)]; subst hV; simp [go_sem]
   clear hV q0 q1 q2 q3 q4 q5 q6 z0 z1 z2 z3
   have hcz : (0 : Int) = simpC z (featC (T m).id (T m).la (T m).ki (T m).wi (T m).n (T m).X (T m).Y (T m).lab (T m).pr) := by unfold simpC; rw [if_pos hz]; exact hokT.symm
   have hqr : q < wr.heap.size := by omega
   have HRB := (show Hid _ from isReachedBy_any x y (.slice va (chsM z x y n G m).length vc) va (chsM z x y n G m).length vc rfl (T m).id (T m).la (T m).ki (T m).wi z q (T m).n (T m).cap (T m).X (T m).Y (T m).lab (T m).pr (thinOf z (T m)) V (HPT.out.below hbV hqr) (Nat.lt_of_lt_of_le hqr hbV.size) hsmT.2 hnc' hsmT.1 (thinOf_spec z (T m)) 0 hcz HR.out)
   have erch : rchB 0 (T m).wi z x y (dblR (simpR 0 (T m).ki z (T m).n (T m).X (T m).Y (thinOf z (T m)))) = rchF z x y (G ((srtF n G).getD m 0)) := hrch
   rw [erch] at HRB
   refine Calls.mono HRB.out ?_
   rintro e w5 ⟨rfl,hb5⟩
   have hbr5 : Below wr.heap.size wr w5 := bl_then hbV hb5
   have HB5 : Hid (Below wr.heap.size wr w5) := hbr5
   have HS5 : Hid (ShAt w5 P z x y (.slice va (chsM z x y n G m).length vc)) := HSr.out.keep hbr5 hPr
   have HO5 : Hid (SfRow base w5 (.slice va (chsM z x y n G m).length vc) (chsM z x y n G m).length z H T') := HOr.out.below hbr5
   have HT5 : Hid (There w5 P 4) := HTr.out.below hbr5
   have HSt5 : Hid (StayP P base w3 w5) := HStr.out.trans (StayP.below (hbr5.mono (by omega)))
   have HBP5 : Hid (Below P w3 w5) := HBr.out.trans (hbr5.mono (by omega))
   have h5r := hbr5.size
   cases hp : rchF z x y (G ((srtF n G).getD m 0))
   ·have hnx := chsM_no hlt hp
    have HO6 : Hid (SfRow base w5 (.slice va (chsM z x y n G (m + 1)).length vc) (chsM z x y n G (m + 1)).length z H T') := by rw [hnx]; exact HO5.out
    have HS6 : Hid (ShAt w5 P z x y (.slice va (chsM z x y n G (m + 1)).length vc)) := by rw [hnx]; exact HS5.out
    clear hnx hp erch hb5 hbV hbr5 d0 d1 d2 d3 d4 d5 d6 hcz hrch hsim
    go_wp2_with fail
    go_roundw
    case rel => exact ⟨m + 1,va,vc,T',by omega,by go_num,HS6.out,HT5.out,HO6.out,HSt5.out,HBP5.out⟩
    case measure => simp [intOf]; omega
   ·have hnx := (chsM_yes hlt hp).1
    have hHk := HHK.out m hlt hp
    have HTK := (show Hid _ from sheetTake_any P base (chsM z x y n G m).length z x y va (chsM z x y n G m).length vc H T' (T m) q o w5 HS5.out HT5.out hP3 (by omega) HO5.out hk12 eqa (HPT.out.below hbr5 hqr) (Nat.lt_of_lt_of_le hqr h5r) hnc' hokT hz (by rw [hHk]; exact hsim) (by rw [hHk]; exact HFID.out) hsmT.2 hsmT.1)
    have e0 := d0 w5 hb5
    have e1 := d1 w5 hb5
    have e2 := d2 w5 hb5
    have e3 := d3 w5 hb5
    have e4 := d4 w5 hb5
    have e5 := d5 w5 hb5
    have e6 := d6 w5 hb5
    rw [eqa, ← hnx] at HTK
    clear hnx hp erch hb5 hbV hbr5 d0 d1 d2 d3 d4 d5 d6 hcz hrch hsim hHk
    go_wp2_with fail
    refine Calls.mono HTK.out ?_
    rintro e w6 ⟨rfl,a6,c6,T6,hS6,hT6,hO6,hSt6,hB6⟩
    have HSt6 : Hid (StayP P base w3 w6) := HSt5.out.trans hSt6
    have HBP6 : Hid (Below P w3 w6) := HBP5.out.trans hB6
    clear e0 e1 e2 e3 e4 e5 e6
    go_wp2_with fail
    go_roundw
    case rel => exact ⟨m + 1,a6,c6,T6,by omega,by go_num,hS6,hT6,hO6,HSt6.out,HBP6.out⟩
    case measure => simp [intOf]; omega
  ·obtain rfl : m = n := by omega
   rw [chsM_all] at HSr HOr
   have HTR : Hid (There wr (w.heap.size + 1) 5) := There.belowB' HT3.out HBr.out (by omega)
   obtain ⟨z0,z1,z2,z3⟩ := HSr.out
   have hPr : P < wr.heap.size := by omega
   have HBw : Hid (Below w.heap.size w wr) := HB3.out.trans (HBr.out.mono (by omega))
   go_wp2_with fail
   refine Calls.mono (sheetTile_bt z x y va (chs z x y m G).length vc wr) ?_
   rintro e w9 ⟨rfl,hb9⟩
   have hT9 := HTR.out.below hb9
   have HO9 : Hid (SfRow base w9 (.slice va (chs z x y m G).length vc) (chs z x y m G).length z H T') := HOr.out.below hb9
   have HB9 : Hid (Below w.heap.size w w9) := bl_then HBw.out hb9
   have HT9 : Hid (There w9 (w.heap.size + 1) 5) := hT9
   have t0 := hT9.cell 0 (by omega)
   have t1 := hT9.cell 1 (by omega)
   have t2 := hT9.cell 2 (by omega)
   have t3 := hT9.cell 3 (by omega)
   have t4 := hT9.cell 4 (by omega)
   have f0 := (hT9 0 (by omega)).2
   have f1 := (hT9 1 (by omega)).2
   have f2 := (hT9 2 (by omega)).2
   have f3 := (hT9 3 (by omega)).2
   have f4 := (hT9 4 (by omega)).2
   clear hT9 hb9 z0 z1 z2 z3
   go_wp2_with fail
   obtain ⟨q0,q1,q2,q3,q4⟩ := set5_at (a := .int .i64 0) (b := .int .i64 z) (c := .int .i64 x) (d := .int .i64 y) (e := .slice va (chs z x y m G).length vc) HT9.out
   have hle : w.heap.size ≤ w.heap.size + 1 := Nat.le_succ _
   have hlb : w.heap.size + 1 < base := by omega
   refine bodyPost_ret (v := .agg #[.int .i64 0, .int .i64 z, .int .i64 x, .int .i64 y, .slice va (chs z x y m G).length vc]) (by simp [results,Tryz.results6,go_sem,q0,q1,q2,q3,q4]) rfl ⟨base,va,vc,T',rfl,?_,by omega,?_⟩
   ·rw [HHE.out]
    exact ((((HO9.out.put hlb).put hlb).put hlb).put hlb).put hlb
   ·exact ((((HB9.out.setCell hle _).setCell hle _).setCell hle _).setCell hle _).setCell hle _
end Go.Proofs.YtfkonhagjahgnaaGreat
