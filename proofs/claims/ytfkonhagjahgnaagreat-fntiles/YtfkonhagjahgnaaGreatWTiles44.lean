/- Texts. -/
import Derived.Test.YtfkonhagjahgnaaGreatWTiles40
import Derived.Test.YtfkonhagjahgnaaGreatWTiles43
import Derived.Test.YtfkonhagjahgnaaGreatWTiles35
import Derived.Test.YtfkonhagjahgnaaGreatWTiles5
set_option linter.unusedSimpArgs false
set_option linter.unusedVariables false
set_option maxRecDepth 100000
set_option maxHeartbeats 32000000
namespace Go.Proofs.YtfkonhagjahgnaaGreat
open Go.RowKit
theorem ownsRow_otherB {base r o : Nat} {w : World} {t : TypeId} {s n : Nat} {v u : Value} {l : List Value} (h : w.ownsRow base t s v n l) (hr : r < base) : (w.setCell ⟨r,o,none⟩ u).ownsRow base t s v n l := by
 obtain ⟨h1,h2 | ⟨g,cp,cur,hv,hg,hh,hr'⟩⟩ := h
 ·exact ⟨h1, .inl h2⟩
 ·exact ⟨h1, .inr ⟨g,cp,cur,hv,hg,by rw [Below.heap_setCell _ _ _ _ (by simp; omega)]; exact hh,hr'⟩⟩
theorem SfRow.put {base k r o : Nat} {w : World} {v u : Value} {z : Int} {H T : Nat → Feat} (h : SfRow base w v k z H T) (hr : r < base) : SfRow base (w.setCell ⟨r,o,none⟩ u) v k z H T :=
 ⟨ownsRow_otherB h.1 hr,fun i hi => ⟨(h.2.1 i hi).1,ownsRow_otherB (h.2.1 i hi).2 hr⟩,h.2.2⟩
def ShAt (w : World) (P : Nat) (z x y : Int) (v : Value) : Prop := w.cell? ⟨P,0,none⟩ = some (.int .i64 z) ∧ w.cell? ⟨P,1,none⟩ = some (.int .i64 x) ∧ w.cell? ⟨P,2,none⟩ = some (.int .i64 y) ∧ w.cell? ⟨P,3,none⟩ = some v
def SkS (P : Nat) (W : World) (Bf : Nat) (z id la ki wi : Int) (v : Value) (lab : ByteArray) (pr : Int) (W' : World) : Prop := Below P W W' ∧ W'.cell? ⟨P,0,none⟩ = some (.int .i64 z) ∧ FeatAt W' Bf 0 id la ki wi v lab pr
def StayP (P base : Nat) (w w' : World) : Prop := ∀ b o v,b < base → b ≠ P → w.cell? ⟨b,o,none⟩ = some v → w'.cell? ⟨b,o,none⟩ = some v
theorem sheetTake_any (P base k : Nat) (z x y : Int) (va : Option Addr) (vn vc : Nat) (H T : Nat → Feat) (f : Feat) (q o : Nat) (w : World) (hA : ShAt w P z x y (.slice va vn vc)) (hT : There w P 4) (hP : P < base) (hbase : base ≤ w.heap.size)
  (hrow : SfRow base w (.slice va vn vc) k z H T) (hk : k ≤ 12) (ha : f.a = some ⟨q,o,none⟩) (hp : PtsAt w q o f.n f.X f.Y) (hql : q < w.heap.size) (hcap : f.n ≤ f.cap) (hok : okC f) (hz : zoomB z = true) (hsame : simL z f = simL z (H k)) (hid : f.id = (H k).id ∧ f.la = (H k).la ∧ f.ki = (H k).ki ∧ f.wi = (H k).wi ∧ f.lab = (H k).lab ∧ f.pr = (H k).pr) (hn : f.n ≤ 1048576) (hl : f.lab.size ≤ 1048576) :
  Calls Tryz.prog 20 #[.pointer (some ⟨P,0,none⟩), .agg #[.int .i64 f.id, .int .i64 f.la, .int .i64 f.ki, .int .i64 f.wi, .slice f.a f.n f.cap, .string f.lab, .int .i64 f.pr]] w fun e w' => e = .returned (.tuple #[]) ∧ ∃ a' c' T',ShAt w' P z x y (.slice a' (k + 1) c') ∧ There w' P 4 ∧ SfRow base w' (.slice a' (k + 1) c') (k + 1) z H T' ∧ StayP P base w w' ∧ Below P w w' := by
 obtain ⟨i0,hi,hz0,hz1,hz2⟩ := info_parts info_if
 rw [ha]
 have HSA : Hid (∀ W',Below w.heap.size w W' → Calls Tryz.prog 26 #[.agg #[.int .i64 f.id, .int .i64 f.la, .int .i64 f.ki, .int .i64 f.wi, .slice (some ⟨q,o,none⟩) f.n f.cap, .string f.lab, .int .i64 f.pr], .int .i64 z] W' fun e w' => ∃ v,e = .returned (.agg #[.int .i64 0, .int .i64 f.id, .int .i64 f.la, .int .i64 f.ki, .int .i64 f.wi,v, .string f.lab, .int .i64 f.pr]) ∧ Row W'.heap.size w' v (simL z f) ∧ Below W'.heap.size W' w') := fun W' h => by
  have hc : (0 : Int) = simpC z (featC f.id f.la f.ki f.wi f.n f.X f.Y f.lab f.pr) := by unfold simpC; rw [if_pos hz]; exact hok.symm
  have hh := impl_SimpleAt_any f.id f.la f.ki f.wi z q f.n f.cap f.X f.Y f.lab f.pr (thinOf z f) W' (hp.below h hql) (Nat.lt_of_lt_of_le hql h.size) hn hcap hl (thinOf_spec z f) 0 hc
  have e1 : ∀ v : Int,zI 0 v = v := fun v => if_pos rfl
  have e2 : zS 0 f.lab = f.lab := if_pos rfl
  simp only [e1,e2] at hh
  exact hh
 rw [hsame] at HSA
 have HSF : Hid (0 < (simL z (H k)).length ∧ (simL z (H k)).length ≤ 12) := by rw [← hsame]; exact ⟨(simL_facts hok hz).2.2.2,(simL_facts hok hz).2.1⟩
 have HROW : Hid (SfRow base w (.slice va vn vc) k z H T) := hrow
 have HID := (show Hid _ from hid)
 have HA : Hid (ShAt w P z x y (.slice va vn vc)) := hA
 have HT : Hid (There w P 4) := hT
 have hPw : P < w.heap.size := Nat.lt_of_lt_of_le hP hbase
 have HOB : Hid (∀ b,(Value.slice va vn vc).ownBlock = some b → base ≤ b ∧ b < w.heap.size) := fun b hb => World.ownsRow.lt hrow.1 b hb
 generalize f.id = id at *
 generalize f.la = la at *
 generalize f.ki = ki at *
 generalize f.wi = wi at *
 generalize f.lab = lab at *
 generalize f.pr = pr at *
 generalize f.n = fn at *
 generalize f.cap = fcap at *
 clear hA hT hrow hid hp hok hsame hz
 have fld : ∀ (a : Option Addr) (m c : Nat) w,(Instr.field 64 (.agg #[.int .i64 0, .int .i64 id, .int .i64 la, .int .i64 ki, .int .i64 wi, .slice a m c, .string lab, .int .i64 pr]) 1).run Tryz.prog w = .ok (.agg #[.int .i64 id, .int .i64 la, .int .i64 ki, .int .i64 wi, .slice a m c, .string lab, .int .i64 pr]) w := fun _ _ _ _ => by kernel_rfl
 go_enter Tryz.func20,Tryz.ntmps20
 go_wp2_with fail
 generalize hW : (w.alloc _ : World) = W
 have hB0 : Below w.heap.size w W := by subst hW; (repeat (first|exact Qr _ _|assumption|refine Qd ?_|refine Qa ?_ _|refine Qt ?_|refine Qs ?_ _|refine Qo ?_ ?_ _ _))
 have HFW : Hid (FeatAt W w.heap.size 0 id la ki wi (.slice (some ⟨q,o,none⟩) fn fcap) lab pr) := by
  show FeatAt _ _ _ _ _ _ _ _ _ _
  subst hW
  refine ⟨?_,?_,?_,?_,?_,?_,?_⟩ <;> simp [go_sem]
 have hwW : w.heap.size < W.heap.size := by subst hW; simp
 clear hW
 have HB0 : Hid (Below w.heap.size w W) := hB0
 have HPW : Hid (∀ W',Below W.heap.size W W' → SkS P W w.heap.size z id la ki wi (.slice (some ⟨q,o,none⟩) fn fcap) lab pr W') := fun W' h => ⟨h.mono (by omega),(((h.cell (p := ⟨P,0,none⟩) (by simp; omega)).trans (hB0.cell (p := ⟨P,0,none⟩) hPw)).trans HA.out.1),HFW.out.below h hwW⟩
 have k0 : ∀ W',SkS P W w.heap.size z id la ki wi (.slice (some ⟨q,o,none⟩) fn fcap) lab pr W' → W'.cell? ⟨P,0,none⟩ = some (.int .i64 z) := fun W' h => h.2.1
 have d0 : ∀ W',SkS P W w.heap.size z id la ki wi (.slice (some ⟨q,o,none⟩) fn fcap) lab pr W' → W'.cell? ⟨w.heap.size,0,none⟩ = some (.int .i64 id) := fun W' h => h.2.2.1
 have d1 : ∀ W',SkS P W w.heap.size z id la ki wi (.slice (some ⟨q,o,none⟩) fn fcap) lab pr W' → W'.cell? ⟨w.heap.size,1,none⟩ = some (.int .i64 la) := fun W' h => h.2.2.2.1
 have d2 : ∀ W',SkS P W w.heap.size z id la ki wi (.slice (some ⟨q,o,none⟩) fn fcap) lab pr W' → W'.cell? ⟨w.heap.size,2,none⟩ = some (.int .i64 ki) := fun W' h => h.2.2.2.2.1
 have d3 : ∀ W',SkS P W w.heap.size z id la ki wi (.slice (some ⟨q,o,none⟩) fn fcap) lab pr W' → W'.cell? ⟨w.heap.size,3,none⟩ = some (.int .i64 wi) := fun W' h => h.2.2.2.2.2.1
 have d4 : ∀ W',SkS P W w.heap.size z id la ki wi (.slice (some ⟨q,o,none⟩) fn fcap) lab pr W' → W'.cell? ⟨w.heap.size,4,none⟩ = some (.slice (some ⟨q,o,none⟩) fn fcap) := fun W' h => h.2.2.2.2.2.2.1
 have d5 : ∀ W',SkS P W w.heap.size z id la ki wi (.slice (some ⟨q,o,none⟩) fn fcap) lab pr W' → W'.cell? ⟨w.heap.size,5,none⟩ = some (.string lab) := fun W' h => h.2.2.2.2.2.2.2.1
 have d6 : ∀ W',SkS P W w.heap.size z id la ki wi (.slice (some ⟨q,o,none⟩) fn fcap) lab pr W' → W'.cell? ⟨w.heap.size,6,none⟩ = some (.int .i64 pr) := fun W' h => h.2.2.2.2.2.2.2.2
 have HAW : Hid (∀ W',Below W.heap.size W W' → ShAt W' P z x y (.slice va vn vc)) := fun W' h => by
  have hh := bl_then hB0 h
  exact ⟨(hh.cell (p := ⟨P,0,none⟩) hPw).trans HA.out.1,(hh.cell (p := ⟨P,1,none⟩) hPw).trans HA.out.2.1,(hh.cell (p := ⟨P,2,none⟩) hPw).trans HA.out.2.2.1,(hh.cell (p := ⟨P,3,none⟩) hPw).trans HA.out.2.2.2⟩
 clear hB0
 go_wp2_with fail
 refine wp_region_noPanic ?_
 refine wp_region_held_drew (S := fun W' => SkS P W w.heap.size z id la ki wi (.slice (some ⟨q,o,none⟩) fn fcap) lab pr W') (by kernel_rfl) (HPW.out _ (by (repeat (first|exact Qr _ _|assumption|refine Qd ?_|refine Qa ?_ _|refine Qt ?_|refine Qs ?_ _|refine Qo ?_ ?_ _ _)))) (fun hHeld => ?_)
 have hX0 : SkS P W w.heap.size z id la ki wi (.slice (some ⟨q,o,none⟩) fn fcap) lab pr W.drew := hHeld
 have hb0 : Below W.heap.size W W.drew := by (repeat (first|exact Qr _ _|assumption|refine Qd ?_|refine Qa ?_ _|refine Qt ?_|refine Qs ?_ _|refine Qo ?_ ?_ _ _))
 refine takeK (i := 0) (d := some 4) (v := ?va0) rfl rfl (Or.inl ⟨by rfl,?hya0⟩) hX0 ?_
 case hya0 => (intro w hSw; (try dsimp only at hSw); go_simp <;> with_reducible rfl)
 try simp only [Act.put,Qx,Qy,Qz]
 refine takeK (i := 1) (d := some 5) (v := ?va1) rfl rfl (Or.inl ⟨by rfl,?hya1⟩) hX0 ?_
 case hya1 => (intro w hSw; (try dsimp only at hSw); go_simp <;> with_reducible rfl)
 try simp only [Act.put,Qx,Qy,Qz]
 refine takeK (i := 2) (d := some 6) (v := ?va2) rfl rfl (Or.inl ⟨by rfl,?hya2⟩) hX0 ?_
 case hya2 => (intro w hSw; (try dsimp only at hSw); go_simp <;> with_reducible rfl)
 try simp only [Act.put,Qx,Qy,Qz]
 refine takeK (i := 3) (d := some 7) (v := ?va3) rfl rfl (Or.inl ⟨by rfl,?hya3⟩) hX0 ?_
 case hya3 => (intro w hSw; (try dsimp only at hSw); go_simp <;> with_reducible rfl)
 try simp only [Act.put,Qx,Qy,Qz]
 refine takeK (i := 5) (d := some 9) (v := ?va5) rfl rfl (Or.inl ⟨by rfl,?hya5⟩) hX0 ?_
 case hya5 => (intro w hSw; (try dsimp only at hSw); go_simp <;> with_reducible rfl)
 try simp only [Act.put,Qx,Qy,Qz]
 refine takeK (i := 6) (d := some 10) (v := ?va6) rfl rfl (Or.inl ⟨by rfl,?hya6⟩) hX0 ?_
 case hya6 => (intro w hSw; (try dsimp only at hSw); go_simp <;> with_reducible rfl)
 try simp only [Act.put,Qx,Qy,Qz]
 refine takeK (i := 7) (d := some 11) (v := ?va7) rfl rfl (Or.inl ⟨by rfl,?hya7⟩) hX0 ?_
 case hya7 => (intro w hSw; (try dsimp only at hSw); go_simp <;> with_reducible rfl)
 try simp only [Act.put,Qx,Qy,Qz]
 refine takeK (i := 8) (d := some 12) (v := ?va8) rfl rfl (Or.inl ⟨by rfl,?hya8⟩) hX0 ?_
 case hya8 => (intro w hSw; (try dsimp only at hSw); go_simp <;> with_reducible rfl)
 try simp only [Act.put,Qx,Qy,Qz]
 refine takeK (i := 9) (d := some 13) (v := ?va9) rfl rfl (Or.inl ⟨by rfl,?hya9⟩) hX0 ?_
 case hya9 => (intro w hSw; (try dsimp only at hSw); go_simp <;> with_reducible rfl)
 try simp only [Act.put,Qx,Qy,Qz]
 refine takeK (i := 10) (d := some 14) (v := ?va10) rfl rfl (Or.inl ⟨by rfl,?hya10⟩) hX0 ?_
 case hya10 => (intro w hSw; (try dsimp only at hSw); go_simp <;> with_reducible rfl)
 try simp only [Act.put,Qx,Qy,Qz]
 refine wpAnyH_ready (rs := [4,11]) (by kernel_rfl) (by simp) ?_
 refine (AllReadyH.cons rfl (fun K hK => ?_) (AllReadyH.cons rfl (fun K hK => ?_) AllReadyH.nil))
 ·rw [if_pos (by rfl)]
  have s3 := (HAW.out _ hb0).2.2.2
  go_simp
  refine hK.out _ _ hX0 (fun hHeld => ?_)
  clear hK K s3
  try simp only [Act.put,Qx,Qy,Qz]
  refine wpAnyH_ready (rs := [11]) (by kernel_rfl) (by simp) ?_
  refine (AllReadyH.cons rfl (fun K hK => ?_) AllReadyH.nil)
  rw [if_pos (by rfl)]
  go_simp
  refine Calls.mono (HSA.out _ (bl_then HB0.out hb0)) ?_
  rintro e w1p ⟨v1,rfl,hR1,hb1p⟩
  obtain ⟨g2,c2,hv2,hg2,hg2l,hc2,hP2⟩ := hR1.at HSF.out.1
  subst hv2
  generalize hLn : (simL z (H k)).length = N at *
  have hcp : Below W.heap.size W w1p := bl_then hb0 hb1p
  have hX1p := HPW.out _ hcp
  have HR1 : Hid (Row base w1p (.slice (some ⟨g2,0,none⟩) N c2) (simL z (H k))) := Row.wide hR1 (by have := (bl_then HB0.out hb0).size; omega)
  have HFR : Hid (∀ i,i < k → (T i).a ≠ some ⟨g2,0,none⟩) := fun i hi e => by have h1 := (World.ownsRow.lt (HROW.out.2.1 i hi).2 g2 (by rw [e]; rfl)).2; have h2 := (bl_then HB0.out hb0).size; omega
  clear hR1 hP2
  go_wp2_with fail
  refine hK.out _ _ hX1p (fun hHeld => ?_)
  clear hK K
  try simp only [Act.put,Qx,Qy,Qz]
  refine takeK (i := 12) (d := some 16) (v := ?vcp12) rfl rfl (Or.inl ⟨by rfl,?hycp12⟩) hX1p ?_
  case hycp12 => (intro w hSw; (try dsimp only at hSw); go_simp <;> with_reducible rfl)
  try simp only [Act.put,Qx,Qy,Qz]
  refine wpAnyH_ready (rs := [13]) (by kernel_rfl) (by simp) ?_
  refine (AllReadyH.cons rfl (fun K hK => ?_) AllReadyH.nil)
  rw [if_pos (by rfl)]
  go_simp
  generalize hwA : (World.alloc _ _ : World) = wAp
  have hbAp : Below w1p.heap.size w1p wAp := by subst hwA; (repeat (first|exact Qr _ _|assumption|refine Qd ?_|refine Qa ?_ _|refine Qt ?_|refine Qs ?_ _|refine Qo ?_ ?_ _ _))
  have HNC : Hid (∀ j u,(fcell ⟨id,la,ki,wi,some ⟨g2,0,none⟩,N,c2,px (simL z (H k)),py (simL z (H k)),lab,pr⟩)[j]? = some u → wAp.cell? ((⟨w1p.heap.size,0,none⟩ : Addr).add j) = some u) := by
   intro j u hq
   have hq7 : j < 7 := (List.getElem?_eq_some_iff.1 hq).1
   have hc : j = 0 ∨ j = 1 ∨ j = 2 ∨ j = 3 ∨ j = 4 ∨ j = 5 ∨ j = 6 := by omega
   subst hwA
   rcases hc with rfl | rfl | rfl | rfl | rfl | rfl | rfl <;> (simp [fcell] at hq; subst hq; simp [Addr.add,go_sem])
  clear hwA
  have hdp : Below W.heap.size W wAp := bl_then hcp hbAp
  have hXAp := HPW.out _ hdp
  have HRA : Hid (Row base wAp (.slice (some ⟨g2,0,none⟩) N c2) (simL z (H k))) := HR1.out.below hbAp
  refine hK.out _ _ hXAp (fun hHeld => ?_)
  clear hK K
  try simp only [Act.put,Qx,Qy,Qz]
  have hOA := HROW.out.below (bl_then HB0.out hdp)
  refine wpAnyH_ready (rs := [14]) (by kernel_rfl) (by simp) ?_
  refine (AllReadyH.cons rfl (fun K hK => ?_) AllReadyH.nil)
  refine step_append_own rfl (.tmp 8) (.tmp 17) 24 rfl base 39 i0 (.agg #[.int .i64 0, .int .i64 0, .int .i64 0, .int .i64 0, .slice none 0 0, .string ⟨#[]⟩, .int .i64 0]) 7 80 Tryz.underlying24 hi hz0 hz1 hz2 rfl (by decide) (.slice va vn vc) k (cellsF T (List.range k)) rfl ?c6 ⟨w1p.heap.size,0,none⟩ 1 1 (fcell ⟨id,la,ki,wi,some ⟨g2,0,none⟩,N,c2,px (simL z (H k)),py (simL z (H k)),lab,pr⟩) rfl ?c0 ?c1 ?c2 ?c3 ?c4 ?c5 ?_
  case c6 =>
   have := hOA.1
   unfold FRow at this
   rw [List.length_range] at this
   exact this
  case c0 => rfl
  case c1 => exact HNC.out
  case c2 => exact fcell_one _
  case c3 => unfold maxLen; omega
  case c4 => omega
  case c5 => have := (bl_then HB0.out hdp).size; omega
  intro v' w4 hown' hgrow hnil
  obtain ⟨g4,c4,hv4⟩ : ∃ g4 c4,v' = .slice (some ⟨g4,0,none⟩) (k + 1) c4 := by
   obtain ⟨_,h2 | ⟨g',cp,cur,hv,_⟩⟩ := hown'
   ·first | exact absurd h2.2 (by omega) | (have := hnil.1 h2.1; simp at this)
   ·exact ⟨g',cp,hv⟩
  subst hv4
  have HF4 : Hid (SfRow base w4 (.slice (some ⟨g4,0,none⟩) (k + 1) c4) (k + 1) z H (fun i => if i = k then ⟨id,la,ki,wi,some ⟨g2,0,none⟩,N,c2,px (simL z (H k)),py (simL z (H k)),lab,pr⟩ else T i)) := SfRow.app hOA ⟨HID.out.1,HID.out.2.1,HID.out.2.2.1,HID.out.2.2.2.1,hLn.symm,rfl,rfl,HID.out.2.2.2.2.1,HID.out.2.2.2.2.2⟩ HRA.out hown' hgrow HFR.out
  have HKC : Hid (∀ b o v,b < W.heap.size → (b < base ∨ w.heap.size ≤ b) → wAp.cell? ⟨b,o,none⟩ = some v → w4.cell? ⟨b,o,none⟩ = some v) := fun b o v _ hb hc => hgrow.cell hc (fun e => by have := HOB.out b e.symm; omega)
  have HB4 : Hid (Below P W w4) := ((hdp.mono (show P ≤ W.heap.size by omega))).trans ((Below.refl P wAp).grown hgrow (by have := (bl_then HB0.out hdp).size; omega) (fun r hr => by have := HOB.out r hr; omega))
  have hA4 := HAW.out _ hdp
  have HS4 : Hid (ShAt w4 P z x y (.slice va vn vc)) := ⟨HKC.out _ _ _ (by omega) (.inl hP) hA4.1,HKC.out _ _ _ (by omega) (.inl hP) hA4.2.1,HKC.out _ _ _ (by omega) (.inl hP) hA4.2.2.1,HKC.out _ _ _ (by omega) (.inl hP) hA4.2.2.2⟩
  have hT4 : There w4 P 4 := There.belowB' (HT.out.below (bl_then HB0.out hdp)) ((Below.refl base wAp).grown hgrow (by have := (bl_then HB0.out hdp).size; omega) (fun r hr => (HOB.out r hr).1)) hP
  have hX4 : SkS P W w.heap.size z id la ki wi (.slice (some ⟨q,o,none⟩) fn fcap) lab pr w4 := ⟨HB4.out,HS4.out.1,by
   obtain ⟨e0,e1,e2,e3,e4,e5,e6⟩ := hXAp.2.2
   exact ⟨HKC.out _ _ _ hwW (.inr (Nat.le_refl _)) e0,HKC.out _ _ _ hwW (.inr (Nat.le_refl _)) e1,HKC.out _ _ _ hwW (.inr (Nat.le_refl _)) e2,HKC.out _ _ _ hwW (.inr (Nat.le_refl _)) e3,HKC.out _ _ _ hwW (.inr (Nat.le_refl _)) e4,HKC.out _ _ _ hwW (.inr (Nat.le_refl _)) e5,HKC.out _ _ _ hwW (.inr (Nat.le_refl _)) e6⟩⟩
  have HST : Hid (StayP P base w w4) := fun b o v hb hbp hc => HKC.out _ _ _ (by omega) (.inl hb) (((bl_then HB0.out hdp).cell (p := ⟨b,o,none⟩) (show b < w.heap.size by omega)).trans hc)
  clear hown' hnil hOA hA4 hgrow HKC
  show K (Act.put _ (some 18) _) w4
  refine hK.out _ _ hX4 (fun hHeld => ?_)
  clear hK K
  try simp only [Act.put,Qx,Qy,Qz]
  refine takeK (i := 15) (d := some 19) (v := ?vep15) rfl rfl (Or.inl ⟨by rfl,?hyep15⟩) hX4 ?_
  case hyep15 => (intro w hSw; (try dsimp only at hSw); go_simp <;> with_reducible rfl)
  try simp only [Act.put,Qx,Qy,Qz]
  refine takeK (i := 16) (d := some 20) (v := ?vep16) rfl rfl (Or.inl ⟨by rfl,?hyep16⟩) hX4 ?_
  case hyep16 => (intro w hSw; (try dsimp only at hSw); go_simp <;> with_reducible rfl)
  try simp only [Act.put,Qx,Qy,Qz]
  refine wpAnyH_ready (rs := [17]) (by kernel_rfl) (by simp) ?_
  refine (AllReadyH.cons rfl (fun K hK => ?_) AllReadyH.nil)
  rw [if_pos (by rfl)]
  have t3 := hT4.cell 3 (by omega)
  have f3 := (hT4 3 (by omega)).2
  go_simp
  have hne : ∀ j,j ≠ 3 → (⟨P,3,none⟩ : Addr) ≠ ⟨P,j,none⟩ := fun j hj e => hj (by injection e with _ e; exact e.symm)
  obtain ⟨u3,hu3⟩ := (hT4 3 (by omega)).1
  have HS5 : Hid (ShAt (w4.setCell ⟨P,3,none⟩ (.slice (some ⟨g4,0,none⟩) (k + 1) c4)) P z x y (.slice (some ⟨g4,0,none⟩) (k + 1) c4)) := ⟨by rw [set1_other (hne 0 (by omega))]; exact HS4.out.1,by rw [set1_other (hne 1 (by omega))]; exact HS4.out.2.1,by rw [set1_other (hne 2 (by omega))]; exact HS4.out.2.2.1,set1_same hu3⟩
  have HB5 : Hid (Below P W (w4.setCell ⟨P,3,none⟩ (.slice (some ⟨g4,0,none⟩) (k + 1) c4))) := HB4.out.setCell (Nat.le_refl _) _
  have hneB : (⟨P,3,none⟩ : Addr) ≠ ⟨w.heap.size,0,none⟩ := fun e => by injection e; omega
  have hX5 : SkS P W w.heap.size z id la ki wi (.slice (some ⟨q,o,none⟩) fn fcap) lab pr (w4.setCell ⟨P,3,none⟩ (.slice (some ⟨g4,0,none⟩) (k + 1) c4)) := ⟨HB5.out,HS5.out.1,by
   have hnb : ∀ j : Nat,(⟨P,3,none⟩ : Addr) ≠ ⟨w.heap.size,j,none⟩ := fun j e => by injection e; omega
   obtain ⟨e0,e1,e2,e3,e4,e5,e6⟩ := hX4.2.2
   refine ⟨?_,?_,?_,?_,?_,?_,?_⟩ <;> (rw [set1_other (hnb _)]; assumption)⟩
  refine hK.out _ _ hX5 (fun hHeld => ?_)
  clear hK K
  try simp only [Act.put,Qx,Qy,Qz]
  refine wpAnyH_done (by kernel_rfl) ?_ _
  refine NoPanic.normal ?_
  go_wp2_with fail
  refine bodyPost_end (v := .tuple #[]) (by simp [results,Tryz.results20,go_sem]) rfl ⟨rfl,_,c4,_,HS5.out,hT4.set _ _,HF4.out.put hP,fun b o v hb hbp hc => ?_,(HB0.out.mono (Nat.le_of_lt hPw)).trans HB5.out⟩
  rw [set1_other (fun e => hbp (by injection e with e; exact e.symm))]
  exact HST.out b o v hb hbp hc
 ·rw [if_pos (by rfl)]
  go_simp
  refine Calls.mono (HSA.out _ (bl_then HB0.out hb0)) ?_
  rintro e w1q ⟨v1,rfl,hR1,hb1q⟩
  obtain ⟨g2,c2,hv2,hg2,hg2l,hc2,hP2⟩ := hR1.at HSF.out.1
  subst hv2
  generalize hLn : (simL z (H k)).length = N at *
  have hcq : Below W.heap.size W w1q := bl_then hb0 hb1q
  have hX1q := HPW.out _ hcq
  have HR1 : Hid (Row base w1q (.slice (some ⟨g2,0,none⟩) N c2) (simL z (H k))) := Row.wide hR1 (by have := (bl_then HB0.out hb0).size; omega)
  have HFR : Hid (∀ i,i < k → (T i).a ≠ some ⟨g2,0,none⟩) := fun i hi e => by have h1 := (World.ownsRow.lt (HROW.out.2.1 i hi).2 g2 (by rw [e]; rfl)).2; have h2 := (bl_then HB0.out hb0).size; omega
  clear hR1 hP2
  go_wp2_with fail
  refine hK.out _ _ hX1q (fun hHeld => ?_)
  clear hK K
  try simp only [Act.put,Qx,Qy,Qz]
  refine takeK (i := 12) (d := some 16) (v := ?vcq12) rfl rfl (Or.inl ⟨by rfl,?hycq12⟩) hX1q ?_
  case hycq12 => (intro w hSw; (try dsimp only at hSw); go_simp <;> with_reducible rfl)
  try simp only [Act.put,Qx,Qy,Qz]
  refine wpAnyH_ready (rs := [4,13]) (by kernel_rfl) (by simp) ?_
  refine (AllReadyH.cons rfl (fun K hK => ?_) (AllReadyH.cons rfl (fun K hK => ?_) AllReadyH.nil))
  ·rw [if_pos (by rfl)]
   have s3 := (HAW.out _ hcq).2.2.2
   go_simp
   refine hK.out _ _ hX1q (fun hHeld => ?_)
   clear hK K s3
   try simp only [Act.put,Qx,Qy,Qz]
   refine wpAnyH_ready (rs := [13]) (by kernel_rfl) (by simp) ?_
   refine (AllReadyH.cons rfl (fun K hK => ?_) AllReadyH.nil)
   rw [if_pos (by rfl)]
   go_simp
   generalize hwA : (World.alloc _ _ : World) = wAr
   have hbAr : Below w1q.heap.size w1q wAr := by subst hwA; (repeat (first|exact Qr _ _|assumption|refine Qd ?_|refine Qa ?_ _|refine Qt ?_|refine Qs ?_ _|refine Qo ?_ ?_ _ _))
   have HNC : Hid (∀ j u,(fcell ⟨id,la,ki,wi,some ⟨g2,0,none⟩,N,c2,px (simL z (H k)),py (simL z (H k)),lab,pr⟩)[j]? = some u → wAr.cell? ((⟨w1q.heap.size,0,none⟩ : Addr).add j) = some u) := by
    intro j u hq
    have hq7 : j < 7 := (List.getElem?_eq_some_iff.1 hq).1
    have hc : j = 0 ∨ j = 1 ∨ j = 2 ∨ j = 3 ∨ j = 4 ∨ j = 5 ∨ j = 6 := by omega
    subst hwA
    rcases hc with rfl | rfl | rfl | rfl | rfl | rfl | rfl <;> (simp [fcell] at hq; subst hq; simp [Addr.add,go_sem])
   clear hwA
   have hdr : Below W.heap.size W wAr := bl_then hcq hbAr
   have hXAr := HPW.out _ hdr
   have HRA : Hid (Row base wAr (.slice (some ⟨g2,0,none⟩) N c2) (simL z (H k))) := HR1.out.below hbAr
   refine hK.out _ _ hXAr (fun hHeld => ?_)
   clear hK K
   try simp only [Act.put,Qx,Qy,Qz]
   have hOA := HROW.out.below (bl_then HB0.out hdr)
   refine wpAnyH_ready (rs := [14]) (by kernel_rfl) (by simp) ?_
   refine (AllReadyH.cons rfl (fun K hK => ?_) AllReadyH.nil)
   refine step_append_own rfl (.tmp 8) (.tmp 17) 24 rfl base 39 i0 (.agg #[.int .i64 0, .int .i64 0, .int .i64 0, .int .i64 0, .slice none 0 0, .string ⟨#[]⟩, .int .i64 0]) 7 80 Tryz.underlying24 hi hz0 hz1 hz2 rfl (by decide) (.slice va vn vc) k (cellsF T (List.range k)) rfl ?c6 ⟨w1q.heap.size,0,none⟩ 1 1 (fcell ⟨id,la,ki,wi,some ⟨g2,0,none⟩,N,c2,px (simL z (H k)),py (simL z (H k)),lab,pr⟩) rfl ?c0 ?c1 ?c2 ?c3 ?c4 ?c5 ?_
   case c6 =>
    have := hOA.1
    unfold FRow at this
    rw [List.length_range] at this
    exact this
   case c0 => rfl
   case c1 => exact HNC.out
   case c2 => exact fcell_one _
   case c3 => unfold maxLen; omega
   case c4 => omega
   case c5 => have := (bl_then HB0.out hdr).size; omega
   intro v' w4 hown' hgrow hnil
   obtain ⟨g4,c4,hv4⟩ : ∃ g4 c4,v' = .slice (some ⟨g4,0,none⟩) (k + 1) c4 := by
    obtain ⟨_,h2 | ⟨g',cp,cur,hv,_⟩⟩ := hown'
    ·first | exact absurd h2.2 (by omega) | (have := hnil.1 h2.1; simp at this)
    ·exact ⟨g',cp,hv⟩
   subst hv4
   have HF4 : Hid (SfRow base w4 (.slice (some ⟨g4,0,none⟩) (k + 1) c4) (k + 1) z H (fun i => if i = k then ⟨id,la,ki,wi,some ⟨g2,0,none⟩,N,c2,px (simL z (H k)),py (simL z (H k)),lab,pr⟩ else T i)) := SfRow.app hOA ⟨HID.out.1,HID.out.2.1,HID.out.2.2.1,HID.out.2.2.2.1,hLn.symm,rfl,rfl,HID.out.2.2.2.2.1,HID.out.2.2.2.2.2⟩ HRA.out hown' hgrow HFR.out
   have HKC : Hid (∀ b o v,b < W.heap.size → (b < base ∨ w.heap.size ≤ b) → wAr.cell? ⟨b,o,none⟩ = some v → w4.cell? ⟨b,o,none⟩ = some v) := fun b o v _ hb hc => hgrow.cell hc (fun e => by have := HOB.out b e.symm; omega)
   have HB4 : Hid (Below P W w4) := ((hdr.mono (show P ≤ W.heap.size by omega))).trans ((Below.refl P wAr).grown hgrow (by have := (bl_then HB0.out hdr).size; omega) (fun r hr => by have := HOB.out r hr; omega))
   have hA4 := HAW.out _ hdr
   have HS4 : Hid (ShAt w4 P z x y (.slice va vn vc)) := ⟨HKC.out _ _ _ (by omega) (.inl hP) hA4.1,HKC.out _ _ _ (by omega) (.inl hP) hA4.2.1,HKC.out _ _ _ (by omega) (.inl hP) hA4.2.2.1,HKC.out _ _ _ (by omega) (.inl hP) hA4.2.2.2⟩
   have hT4 : There w4 P 4 := There.belowB' (HT.out.below (bl_then HB0.out hdr)) ((Below.refl base wAr).grown hgrow (by have := (bl_then HB0.out hdr).size; omega) (fun r hr => (HOB.out r hr).1)) hP
   have hX4 : SkS P W w.heap.size z id la ki wi (.slice (some ⟨q,o,none⟩) fn fcap) lab pr w4 := ⟨HB4.out,HS4.out.1,by
    obtain ⟨e0,e1,e2,e3,e4,e5,e6⟩ := hXAr.2.2
    exact ⟨HKC.out _ _ _ hwW (.inr (Nat.le_refl _)) e0,HKC.out _ _ _ hwW (.inr (Nat.le_refl _)) e1,HKC.out _ _ _ hwW (.inr (Nat.le_refl _)) e2,HKC.out _ _ _ hwW (.inr (Nat.le_refl _)) e3,HKC.out _ _ _ hwW (.inr (Nat.le_refl _)) e4,HKC.out _ _ _ hwW (.inr (Nat.le_refl _)) e5,HKC.out _ _ _ hwW (.inr (Nat.le_refl _)) e6⟩⟩
   have HST : Hid (StayP P base w w4) := fun b o v hb hbp hc => HKC.out _ _ _ (by omega) (.inl hb) (((bl_then HB0.out hdr).cell (p := ⟨b,o,none⟩) (show b < w.heap.size by omega)).trans hc)
   clear hown' hnil hOA hA4 hgrow HKC
   show K (Act.put _ (some 18) _) w4
   refine hK.out _ _ hX4 (fun hHeld => ?_)
   clear hK K
   try simp only [Act.put,Qx,Qy,Qz]
   refine takeK (i := 15) (d := some 19) (v := ?ver15) rfl rfl (Or.inl ⟨by rfl,?hyer15⟩) hX4 ?_
   case hyer15 => (intro w hSw; (try dsimp only at hSw); go_simp <;> with_reducible rfl)
   try simp only [Act.put,Qx,Qy,Qz]
   refine takeK (i := 16) (d := some 20) (v := ?ver16) rfl rfl (Or.inl ⟨by rfl,?hyer16⟩) hX4 ?_
   case hyer16 => (intro w hSw; (try dsimp only at hSw); go_simp <;> with_reducible rfl)
   try simp only [Act.put,Qx,Qy,Qz]
   refine wpAnyH_ready (rs := [17]) (by kernel_rfl) (by simp) ?_
   refine (AllReadyH.cons rfl (fun K hK => ?_) AllReadyH.nil)
   rw [if_pos (by rfl)]
   have t3 := hT4.cell 3 (by omega)
   have f3 := (hT4 3 (by omega)).2
   go_simp
   have hne : ∀ j,j ≠ 3 → (⟨P,3,none⟩ : Addr) ≠ ⟨P,j,none⟩ := fun j hj e => hj (by injection e with _ e; exact e.symm)
   obtain ⟨u3,hu3⟩ := (hT4 3 (by omega)).1
   have HS5 : Hid (ShAt (w4.setCell ⟨P,3,none⟩ (.slice (some ⟨g4,0,none⟩) (k + 1) c4)) P z x y (.slice (some ⟨g4,0,none⟩) (k + 1) c4)) := ⟨by rw [set1_other (hne 0 (by omega))]; exact HS4.out.1,by rw [set1_other (hne 1 (by omega))]; exact HS4.out.2.1,by rw [set1_other (hne 2 (by omega))]; exact HS4.out.2.2.1,set1_same hu3⟩
   have HB5 : Hid (Below P W (w4.setCell ⟨P,3,none⟩ (.slice (some ⟨g4,0,none⟩) (k + 1) c4))) := HB4.out.setCell (Nat.le_refl _) _
   have hneB : (⟨P,3,none⟩ : Addr) ≠ ⟨w.heap.size,0,none⟩ := fun e => by injection e; omega
   have hX5 : SkS P W w.heap.size z id la ki wi (.slice (some ⟨q,o,none⟩) fn fcap) lab pr (w4.setCell ⟨P,3,none⟩ (.slice (some ⟨g4,0,none⟩) (k + 1) c4)) := ⟨HB5.out,HS5.out.1,by
    have hnb : ∀ j : Nat,(⟨P,3,none⟩ : Addr) ≠ ⟨w.heap.size,j,none⟩ := fun j e => by injection e; omega
    obtain ⟨e0,e1,e2,e3,e4,e5,e6⟩ := hX4.2.2
    refine ⟨?_,?_,?_,?_,?_,?_,?_⟩ <;> (rw [set1_other (hnb _)]; assumption)⟩
   refine hK.out _ _ hX5 (fun hHeld => ?_)
   clear hK K
   try simp only [Act.put,Qx,Qy,Qz]
   refine wpAnyH_done (by kernel_rfl) ?_ _
   refine NoPanic.normal ?_
   go_wp2_with fail
   refine bodyPost_end (v := .tuple #[]) (by simp [results,Tryz.results20,go_sem]) rfl ⟨rfl,_,c4,_,HS5.out,hT4.set _ _,HF4.out.put hP,fun b o v hb hbp hc => ?_,(HB0.out.mono (Nat.le_of_lt hPw)).trans HB5.out⟩
   rw [set1_other (fun e => hbp (by injection e with e; exact e.symm))]
   exact HST.out b o v hb hbp hc
  ·rw [if_pos (by rfl)]
   go_simp
   generalize hwA : (World.alloc _ _ : World) = wAs
   have hbAs : Below w1q.heap.size w1q wAs := by subst hwA; (repeat (first|exact Qr _ _|assumption|refine Qd ?_|refine Qa ?_ _|refine Qt ?_|refine Qs ?_ _|refine Qo ?_ ?_ _ _))
   have HNC : Hid (∀ j u,(fcell ⟨id,la,ki,wi,some ⟨g2,0,none⟩,N,c2,px (simL z (H k)),py (simL z (H k)),lab,pr⟩)[j]? = some u → wAs.cell? ((⟨w1q.heap.size,0,none⟩ : Addr).add j) = some u) := by
    intro j u hq
    have hq7 : j < 7 := (List.getElem?_eq_some_iff.1 hq).1
    have hc : j = 0 ∨ j = 1 ∨ j = 2 ∨ j = 3 ∨ j = 4 ∨ j = 5 ∨ j = 6 := by omega
    subst hwA
    rcases hc with rfl | rfl | rfl | rfl | rfl | rfl | rfl <;> (simp [fcell] at hq; subst hq; simp [Addr.add,go_sem])
   clear hwA
   have hds : Below W.heap.size W wAs := bl_then hcq hbAs
   have hXAs := HPW.out _ hds
   have HRA : Hid (Row base wAs (.slice (some ⟨g2,0,none⟩) N c2) (simL z (H k))) := HR1.out.below hbAs
   refine hK.out _ _ hXAs (fun hHeld => ?_)
   clear hK K
   try simp only [Act.put,Qx,Qy,Qz]
   refine wpAnyH_ready (rs := [4]) (by kernel_rfl) (by simp) ?_
   refine (AllReadyH.cons rfl (fun K hK => ?_) AllReadyH.nil)
   rw [if_pos (by rfl)]
   have s3 := (HAW.out _ hds).2.2.2
   go_simp
   refine hK.out _ _ hXAs (fun hHeld => ?_)
   clear hK K s3
   try simp only [Act.put,Qx,Qy,Qz]
   have hOA := HROW.out.below (bl_then HB0.out hds)
   refine wpAnyH_ready (rs := [14]) (by kernel_rfl) (by simp) ?_
   refine (AllReadyH.cons rfl (fun K hK => ?_) AllReadyH.nil)
   refine step_append_own rfl (.tmp 8) (.tmp 17) 24 rfl base 39 i0 (.agg #[.int .i64 0, .int .i64 0, .int .i64 0, .int .i64 0, .slice none 0 0, .string ⟨#[]⟩, .int .i64 0]) 7 80 Tryz.underlying24 hi hz0 hz1 hz2 rfl (by decide) (.slice va vn vc) k (cellsF T (List.range k)) rfl ?c6 ⟨w1q.heap.size,0,none⟩ 1 1 (fcell ⟨id,la,ki,wi,some ⟨g2,0,none⟩,N,c2,px (simL z (H k)),py (simL z (H k)),lab,pr⟩) rfl ?c0 ?c1 ?c2 ?c3 ?c4 ?c5 ?_
   case c6 =>
    have := hOA.1
    unfold FRow at this
    rw [List.length_range] at this
    exact this
   case c0 => rfl
   case c1 => exact HNC.out
   case c2 => exact fcell_one _
   case c3 => unfold maxLen; omega
   case c4 => omega
   case c5 => have := (bl_then HB0.out hds).size; omega
   intro v' w4 hown' hgrow hnil
   obtain ⟨g4,c4,hv4⟩ : ∃ g4 c4,v' = .slice (some ⟨g4,0,none⟩) (k + 1) c4 := by
    obtain ⟨_,h2 | ⟨g',cp,cur,hv,_⟩⟩ := hown'
    ·first | exact absurd h2.2 (by omega) | (have := hnil.1 h2.1; simp at this)
    ·exact ⟨g',cp,hv⟩
   subst hv4
   have HF4 : Hid (SfRow base w4 (.slice (some ⟨g4,0,none⟩) (k + 1) c4) (k + 1) z H (fun i => if i = k then ⟨id,la,ki,wi,some ⟨g2,0,none⟩,N,c2,px (simL z (H k)),py (simL z (H k)),lab,pr⟩ else T i)) := SfRow.app hOA ⟨HID.out.1,HID.out.2.1,HID.out.2.2.1,HID.out.2.2.2.1,hLn.symm,rfl,rfl,HID.out.2.2.2.2.1,HID.out.2.2.2.2.2⟩ HRA.out hown' hgrow HFR.out
   have HKC : Hid (∀ b o v,b < W.heap.size → (b < base ∨ w.heap.size ≤ b) → wAs.cell? ⟨b,o,none⟩ = some v → w4.cell? ⟨b,o,none⟩ = some v) := fun b o v _ hb hc => hgrow.cell hc (fun e => by have := HOB.out b e.symm; omega)
   have HB4 : Hid (Below P W w4) := ((hds.mono (show P ≤ W.heap.size by omega))).trans ((Below.refl P wAs).grown hgrow (by have := (bl_then HB0.out hds).size; omega) (fun r hr => by have := HOB.out r hr; omega))
   have hA4 := HAW.out _ hds
   have HS4 : Hid (ShAt w4 P z x y (.slice va vn vc)) := ⟨HKC.out _ _ _ (by omega) (.inl hP) hA4.1,HKC.out _ _ _ (by omega) (.inl hP) hA4.2.1,HKC.out _ _ _ (by omega) (.inl hP) hA4.2.2.1,HKC.out _ _ _ (by omega) (.inl hP) hA4.2.2.2⟩
   have hT4 : There w4 P 4 := There.belowB' (HT.out.below (bl_then HB0.out hds)) ((Below.refl base wAs).grown hgrow (by have := (bl_then HB0.out hds).size; omega) (fun r hr => (HOB.out r hr).1)) hP
   have hX4 : SkS P W w.heap.size z id la ki wi (.slice (some ⟨q,o,none⟩) fn fcap) lab pr w4 := ⟨HB4.out,HS4.out.1,by
    obtain ⟨e0,e1,e2,e3,e4,e5,e6⟩ := hXAs.2.2
    exact ⟨HKC.out _ _ _ hwW (.inr (Nat.le_refl _)) e0,HKC.out _ _ _ hwW (.inr (Nat.le_refl _)) e1,HKC.out _ _ _ hwW (.inr (Nat.le_refl _)) e2,HKC.out _ _ _ hwW (.inr (Nat.le_refl _)) e3,HKC.out _ _ _ hwW (.inr (Nat.le_refl _)) e4,HKC.out _ _ _ hwW (.inr (Nat.le_refl _)) e5,HKC.out _ _ _ hwW (.inr (Nat.le_refl _)) e6⟩⟩
   have HST : Hid (StayP P base w w4) := fun b o v hb hbp hc => HKC.out _ _ _ (by omega) (.inl hb) (((bl_then HB0.out hds).cell (p := ⟨b,o,none⟩) (show b < w.heap.size by omega)).trans hc)
   clear hown' hnil hOA hA4 hgrow HKC
   show K (Act.put _ (some 18) _) w4
   refine hK.out _ _ hX4 (fun hHeld => ?_)
   clear hK K
   try simp only [Act.put,Qx,Qy,Qz]
   refine takeK (i := 15) (d := some 19) (v := ?ves15) rfl rfl (Or.inl ⟨by rfl,?hyes15⟩) hX4 ?_
   case hyes15 => (intro w hSw; (try dsimp only at hSw); go_simp <;> with_reducible rfl)
   try simp only [Act.put,Qx,Qy,Qz]
   refine takeK (i := 16) (d := some 20) (v := ?ves16) rfl rfl (Or.inl ⟨by rfl,?hyes16⟩) hX4 ?_
   case hyes16 => (intro w hSw; (try dsimp only at hSw); go_simp <;> with_reducible rfl)
   try simp only [Act.put,Qx,Qy,Qz]
   refine wpAnyH_ready (rs := [17]) (by kernel_rfl) (by simp) ?_
   refine (AllReadyH.cons rfl (fun K hK => ?_) AllReadyH.nil)
   rw [if_pos (by rfl)]
   have t3 := hT4.cell 3 (by omega)
   have f3 := (hT4 3 (by omega)).2
   go_simp
   have hne : ∀ j,j ≠ 3 → (⟨P,3,none⟩ : Addr) ≠ ⟨P,j,none⟩ := fun j hj e => hj (by injection e with _ e; exact e.symm)
   obtain ⟨u3,hu3⟩ := (hT4 3 (by omega)).1
   have HS5 : Hid (ShAt (w4.setCell ⟨P,3,none⟩ (.slice (some ⟨g4,0,none⟩) (k + 1) c4)) P z x y (.slice (some ⟨g4,0,none⟩) (k + 1) c4)) := ⟨by rw [set1_other (hne 0 (by omega))]; exact HS4.out.1,by rw [set1_other (hne 1 (by omega))]; exact HS4.out.2.1,by rw [set1_other (hne 2 (by omega))]; exact HS4.out.2.2.1,set1_same hu3⟩
   have HB5 : Hid (Below P W (w4.setCell ⟨P,3,none⟩ (.slice (some ⟨g4,0,none⟩) (k + 1) c4))) := HB4.out.setCell (Nat.le_refl _) _
   have hneB : (⟨P,3,none⟩ : Addr) ≠ ⟨w.heap.size,0,none⟩ := fun e => by injection e; omega
   have hX5 : SkS P W w.heap.size z id la ki wi (.slice (some ⟨q,o,none⟩) fn fcap) lab pr (w4.setCell ⟨P,3,none⟩ (.slice (some ⟨g4,0,none⟩) (k + 1) c4)) := ⟨HB5.out,HS5.out.1,by
    have hnb : ∀ j : Nat,(⟨P,3,none⟩ : Addr) ≠ ⟨w.heap.size,j,none⟩ := fun j e => by injection e; omega
    obtain ⟨e0,e1,e2,e3,e4,e5,e6⟩ := hX4.2.2
    refine ⟨?_,?_,?_,?_,?_,?_,?_⟩ <;> (rw [set1_other (hnb _)]; assumption)⟩
   refine hK.out _ _ hX5 (fun hHeld => ?_)
   clear hK K
   try simp only [Act.put,Qx,Qy,Qz]
   refine wpAnyH_done (by kernel_rfl) ?_ _
   refine NoPanic.normal ?_
   go_wp2_with fail
   refine bodyPost_end (v := .tuple #[]) (by simp [results,Tryz.results20,go_sem]) rfl ⟨rfl,_,c4,_,HS5.out,hT4.set _ _,HF4.out.put hP,fun b o v hb hbp hc => ?_,(HB0.out.mono (Nat.le_of_lt hPw)).trans HB5.out⟩
   rw [set1_other (fun e => hbp (by injection e with e; exact e.symm))]
   exact HST.out b o v hb hbp hc
end Go.Proofs.YtfkonhagjahgnaaGreat
