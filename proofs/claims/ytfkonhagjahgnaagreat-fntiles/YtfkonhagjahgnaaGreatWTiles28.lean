/- Texts. -/
import Derived.Test.YtfkonhagjahgnaaGreatWTiles26
import Derived.Test.YtfkonhagjahgnaaGreatWTiles27
import Derived.Test.YtfkonhagjahgnaaGreatWTiles25
import Derived.Test.YtfkonhagjahgnaaGreatWTiles16
import Derived.WalkMore
import Derived.Deep.LoopGhost
import Derived.Test.YtfkonhagjahgnaaGreatWTiles22
import Derived.Test.YtfkonhagjahgnaaGreatWTiles24
import Derived.Test.YtfkonhagjahgnaaGreatWTiles4
import Derived.Test.YtfkonhagjahgnaaGreatWTiles20
set_option linter.unusedSimpArgs false
set_option linter.unusedVariables false
set_option maxRecDepth 100000
set_option maxHeartbeats 32000000
namespace Go.Proofs.YtfkonhagjahgnaaGreat
open Go.RowKit
def srtF (n : Nat) (G : Nat → Feat) : List Nat := srtK (fun i => (G i).la) (fun i => (G i).id) n
theorem srtF_lt (n : Nat) (G : Nat → Feat) (i : Nat) (hi : i < n) : (srtF n G).getD i 0 < n := by
 have hl : (srtF n G).length = n := srtK_len _ _ n
 refine (srtK_mem (fun i => (G i).la) (fun i => (G i).id) n _).1 ?_
 rw [List.getD_eq_getElem?_getD,List.getElem?_eq_getElem (by rw [hl]; exact hi)]
 exact List.getElem_mem _
theorem srtF_inj (n : Nat) (G : Nat → Feat) (i j : Nat) (hi : i < n) (hj : j < n) (h : (srtF n G).getD i 0 = (srtF n G).getD j 0) : i = j := by
 have hl : (srtF n G).length = n := srtK_len _ _ n
 have hnd : (srtF n G).Nodup := (srtK_perm (fun i => (G i).la) (fun i => (G i).id) n).nodup_iff.2 List.nodup_range
 rw [List.getD_eq_getElem?_getD,List.getD_eq_getElem?_getD,List.getElem?_eq_getElem (by rw [hl]; exact hi),List.getElem?_eq_getElem (by rw [hl]; exact hj)] at h
 exact (List.getElem_inj (xs := srtF n G) hnd).1 h
noncomputable def srtM (n : Nat) (G : Nat → Feat) : Nat := if featsC n G = 0 then n else 0
def SortRes (base : Nat) (w : World) (a : Option Addr) (n : Nat) (G T : Nat → Feat) : Prop :=
 IsFs w a (srtM n G) T ∧ (∀ i,i < srtM n G → (T i).same (G ((srtF n G).getD i 0))) ∧
 (srtM n G = 0 ∨ ∃ g q,a = some ⟨g,0,none⟩ ∧ OwnQ w base w.heap.size g (srtM n G) (fun i => (T i).n) (fun i => (T i).cap) q)
theorem featC_pos {id la ki wi : Int} {n : Nat} {X Y : Nat → Int} {lab : ByteArray} {pr : Int} (h : featC id la ki wi n X Y lab pr = 0) : 0 < n ∧ n ≤ 12 := by
 unfold featC at h
 by_cases h1 : rngB id la ki wi pr = true
 ·by_cases h2 : sizeB ki n = true
  ·unfold sizeB at h2
   by_cases k1 : ki = 1
   ·rw [if_pos k1] at h2; simp at h2; omega
   ·rw [if_neg k1] at h2
    by_cases k2 : ki = 2
    ·rw [if_pos k2] at h2; simp [inB] at h2; omega
    ·rw [if_neg k2] at h2; simp [inB] at h2; omega
  ·simp [h1,h2] at h
 ·simp [h1] at h
theorem FeatAt.set {w : World} {p o r s : Nat} {id la ki wi : Int} {pts x : Value} {lab : ByteArray} {pr : Int} (h : FeatAt w p o id la ki wi pts lab pr) (hne : r ≠ p) : FeatAt (w.setCell ⟨r,s,none⟩ x) p o id la ki wi pts lab pr := by
 have nb : ∀ q : Nat,(⟨r,s,none⟩ : Addr) ≠ ⟨p,q,none⟩ := fun q e => hne (by injection e)
 obtain ⟨h0,h1,h2,h3,h4,h5,h6⟩ := h
 exact ⟨by rw [set1_other (nb _)]; exact h0,by rw [set1_other (nb _)]; exact h1,by rw [set1_other (nb _)]; exact h2,by rw [set1_other (nb _)]; exact h3,by rw [set1_other (nb _)]; exact h4,by rw [set1_other (nb _)]; exact h5,by rw [set1_other (nb _)]; exact h6⟩
theorem row_ne {base base' : Nat} {w : World} {q g n m c d : Nat} {l : List (Int × Int)} {H : Nat → Feat} {k : List Nat} (h : Row base w (.slice (some ⟨q,0,none⟩) n c) l) (h' : FRow base' w (.slice (some ⟨g,0,none⟩) m d) H k) : q ≠ g := fun e => by
 subst e
 obtain ⟨c1,h1⟩ := heap_of_row h q rfl
 obtain ⟨c2,h2⟩ := heap_of_row h' q rfl
 rw [h1] at h2
 injection h2 with h2
 injection h2 with _ h2
 exact absurd h2 (by decide)
theorem sortRes_mk {base1 r n c : Nat} {a : Option Addr} {G H : Nat → Feat} {w2 w3 : World} {x y : Value} (hc : featsC n G = 0) (hR : FRow base1 w2 (.slice a n c) H (List.range n)) (hC : Copies base1 w2 n G H) (hpos : ∀ i,i < n → 0 < (G i).n) (hap : apartK (fun i => (G i).id) n)
  (hres : (n = 0 ∧ w3 = w2) ∨ ∃ (g c' : Nat) (l : List Nat),Value.slice a n c = .slice (some ⟨g,0,none⟩) n c' ∧ base1 ≤ g ∧ g < w2.heap.size ∧ l.Perm (List.range n) ∧ l.Pairwise (fun a b => ltK (fun i => (H i).la) (fun i => (H i).id) b a = false) ∧ w2.grownBy w3 (some g) ∧ There w3 g (n * 7) ∧
    ∀ i,i < n → FeatAt w3 g (i * 7) (H (l.getD i 0)).id (H (l.getD i 0)).la (H (l.getD i 0)).ki (H (l.getD i 0)).wi (.slice (H (l.getD i 0)).a (H (l.getD i 0)).n (H (l.getD i 0)).cap) (H (l.getD i 0)).lab (H (l.getD i 0)).pr)
  (hr : r < base1) : ∃ T,SortRes r ((w3.setCell ⟨r,0,none⟩ x).setCell ⟨r,1,none⟩ y) a n G T ∧ ∀ i,i < srtM n G → (T i).n ≤ (T i).cap := by
 have hM : srtM n G = n := by unfold srtM; rw [if_pos hc]
 rcases hres with ⟨h0,_⟩ | ⟨g,c',l,hv,hg,hgl,hp,hs,hgr,hT,hF⟩
 ·refine ⟨G,?_,fun i hi => by omega⟩
  unfold SortRes
  rw [hM,h0]
  exact ⟨.inl rfl,fun i hi => by omega, .inl rfl⟩
 ·injection hv with e1 _ e3
  subst e1 e3
  have hl : l = srtF n G := by
   have h1 : apartK (fun i => (H i).id) n := fun i j hi hj e => hap i j hi hj (by
    have a1 := (hC.1 i hi).1.1
    have a2 := (hC.1 j hj).1.1
    show (G i).id = (G j).id
    rw [← a1, ← a2]; exact e)
   rw [srtK_unique _ _ n h1 l hp hs]
   exact srtK_congr n (fun j hj => ⟨(hC.1 j hj).1.2.1,(hC.1 j hj).1.1⟩)
  subst hl
  have hq : ∀ j, ∃ q,j < n → (H j).a = some ⟨q,0,none⟩ ∧ base1 ≤ q ∧ q < w2.heap.size ∧ q ≠ g ∧ PtsAt w2 q 0 (G j).n (G j).X (G j).Y ∧ There w2 q ((G j).n * 2) := fun j => by
   by_cases hj : j < n
   ·obtain ⟨s1,r1⟩ := hC.1 j hj
    have hnn : (H j).n = (G j).n := s1.2.2.2.2.1
    rw [hnn] at r1
    obtain ⟨q,q1,q2,q3,q4,q5⟩ := r1.atP (hpos j hj)
    rw [q1] at r1
    exact ⟨q,fun _ => ⟨q1,q2,q3,row_ne r1 hR,q4,q5⟩⟩
   ·exact ⟨0,fun h => absurd h hj⟩
  obtain ⟨q,hq⟩ := Classical.skolem.1 hq
  have hsz := hgr.size
  have hlt := srtF_lt n G
  refine ⟨fun i => H ((srtF n G).getD i 0),?_,fun i hi => ?_⟩
  case refine_2 =>
   rw [hM] at hi
   obtain ⟨a',c',hv',hc',_⟩ := (hC.1 _ (hlt i hi)).2.own
   have hl' : (ptsOf (G ((srtF n G).getD i 0)).X (G ((srtF n G).getD i 0)).Y (List.range (G ((srtF n G).getD i 0)).n)).length = (G ((srtF n G).getD i 0)).n := by simp [ptsOf]
   injection hv' with _ _ e3
   rw [hl'] at hc'
   show (H ((srtF n G).getD i 0)).n ≤ (H ((srtF n G).getD i 0)).cap
   rw [e3,(hC.1 _ (hlt i hi)).1.2.2.2.2.1]
   exact hc'
  unfold SortRes
  rw [hM]
  refine ⟨.inr ⟨g,0,rfl,by simp; omega,fun i hi => ⟨?_,?_⟩⟩,fun i hi => (hC.1 _ (hlt i hi)).1, .inr ⟨g,fun i => q ((srtF n G).getD i 0),rfl,⟨by omega,by simp; omega,Nat.le_refl _⟩,(hT.store (by omega)).store (by omega),fun i hi => ⟨⟨?_,?_,?_⟩,?_,?_⟩,fun i j hi hj e => ?_⟩⟩
  ·rw [Nat.zero_add]
   exact ((hF i hi).set (by omega)).set (by omega)
  ·obtain ⟨q1,q2,q3,q4,q5,q6⟩ := hq _ (hlt i hi)
   obtain ⟨_,_,_,_,s5,s6,s7,_,_⟩ := (hC.1 _ (hlt i hi)).1
   show IsPts _ (H ((srtF n G).getD i 0)).a (H ((srtF n G).getD i 0)).n (H ((srtF n G).getD i 0)).X (H ((srtF n G).getD i 0)).Y
   rw [q1,s5,s6,s7]
   exact .inr ⟨_,0,rfl,by simp only [World.size_setCell]; omega,((q5.grown hgr q4).store (by omega)).store (by omega)⟩
  ·show r ≤ q ((srtF n G).getD i 0)
   have := (hq _ (hlt i hi)).2.1; omega
  ·show q ((srtF n G).getD i 0) < _
   have := (hq _ (hlt i hi)).2.2.1; simp only [World.size_setCell]; omega
  ·exact (hq _ (hlt i hi)).2.2.2.1
  ·obtain ⟨q1,q2,q3,q4,q5,q6⟩ := hq _ (hlt i hi)
   obtain ⟨_,_,_,_,s5,_⟩ := (hC.1 _ (hlt i hi)).1
   show There _ _ ((H ((srtF n G).getD i 0)).n * 2)
   rw [s5]
   exact ((q6.grown hgr q4).store (by omega)).store (by omega)
  ·obtain ⟨q1,_⟩ := hq _ (hlt i hi)
   have := (((hF i hi).set (r := r) (s := 0) (x := x) (by omega)).set (r := r) (s := 1) (x := y) (by omega)).2.2.2.2.1
   rw [this,q1]
  ·have e1 := (hq _ (hlt i hi)).1
   have e2 := (hq _ (hlt j hj)).1
   have e' : q ((srtF n G).getD i 0) = q ((srtF n G).getD j 0) := e
   have := hC.2 _ _ (hlt i hi) (hlt j hj) (by rw [e1,e2,e'])
   exact srtF_inj n G i j hi hj this
theorem impl_SortFeatures_cap (b n cap : Nat) (G : Nat → Feat) (w : World) (hg : FsAt w b 0 n G) (hbl : b < w.heap.size) (hs : SmallFs n G) (hcap : n ≤ cap) :
  Calls Tryz.prog 18 #[.slice (some ⟨b,0,none⟩) n cap] w fun e w' => ∃ a c T,e = .returned (.agg #[.int .i64 (featsC n G), .slice a (srtM n G) c]) ∧ srtM n G ≤ c ∧ (SortRes w.heap.size w' a n G T ∧ ∀ i,i < srtM n G → (T i).n ≤ (T i).cap) ∧ Below w.heap.size w w' := by
 have HG : Hid (FsAt w b 0 n G) := hg
 have HS : Hid (SmallFs n G) := hs
 clear hg hs
 have key : ∀ (T : Array Value) (Wf : World) (v0 v1 : Value),T[2]?.getD undef = .pointer (some ⟨w.heap.size,0,none⟩) → Wf.cell? ⟨w.heap.size,0,none⟩ = some v0 → Wf.cell? ⟨w.heap.size,1,none⟩ = some v1 → (results Tryz.f18 T).run Tryz.prog Wf = .ok (.agg #[v0,v1]) Wf := fun T Wf v0 v1 hT h0 h1 => by
  simp [results,Tryz.results18,go_sem,hT,h0,h1]
 have KEY := (show Hid _ from key)
 clear key
 go_enter Tryz.func18,Tryz.ntmps18
 go_wp2_with fail
 generalize hV : (w.alloc _ : World) = V
 have hBV : Below w.heap.size w V := by subst hV; (repeat (first|exact Qr _ _|assumption|refine Qd ?_|refine Qa ?_ _|refine Qt ?_|refine Qs ?_ _|refine Qo ?_ ?_ _ _))
 have hTV : There V w.heap.size 2 := fun o ho => by
  subst hV
  have hc : o = 0 ∨ o = 1 := by omega
  rcases hc with rfl | rfl <;> exact ⟨⟨_,by simp [go_sem]; rfl⟩,by simp [go_sem]⟩
 have hlV : w.heap.size < V.heap.size := by subst hV; simp
 clear hV
 refine (FeaturesFault_any b n cap G V (HG.out.below hBV hbl) (Nat.lt_of_lt_of_le hbl hBV.size) HS.out hcap).mono ?_
 rintro e w1 ⟨rfl,hb1⟩
 have hB1 : Below w.heap.size w w1 := bl_then hBV hb1
 have hT1 := hTV.below hb1
 have hl1 : w.heap.size < w1.heap.size := Nat.lt_of_lt_of_le hlV hb1.size
 clear hBV hTV hb1
 by_cases hc : featsC n G = 0
 ·have HC : Hid (featsC n G = 0) := hc
  have hM : Hid (srtM n G = n) := by show _ = _; unfold srtM; rw [if_pos hc]
  obtain ⟨h12,hap,hfc⟩ := featsC_ok hc
  have HPOS : Hid (∀ i,i < n → 0 < (G i).n) := fun i hi => (featC_pos (hfc i hi)).1
  have HAP : Hid (apartK (fun i => (G i).id) n) := hap
  rw [hc]
  have HT1 : Hid (There w1 w.heap.size 2) := hT1
  have HB1 : Hid (Below w.heap.size w w1) := hB1
  clear hc hap hfc hT1 hB1
  go_wp2_with fail
  refine (copyFeatures_any b n cap G w1 (HG.out.below HB1.out hbl) (Nat.lt_of_lt_of_le hbl HB1.out.size) h12 HPOS.out HS.out).mono ?_
  rintro e w2 ⟨v,H,rfl,hR2,hC2,hb2⟩
  have HT2 : Hid (There w2 w.heap.size 2) := HT1.out.below hb2
  have HB2 : Hid (Below w.heap.size w w2) := bl_then HB1.out hb2
  have HR2 : Hid (FRow w1.heap.size w2 v H (List.range n)) := hR2
  have HC2 : Hid (Copies w1.heap.size w2 n G H) := hC2
  clear hR2 hC2 hb2
  go_wp2_with fail
  refine (sortF_any n _ v H w2 HR2.out (by omega)).mono ?_
  rintro e w3 ⟨rfl,hres⟩
  have HRES := (show Hid _ from hres)
  obtain ⟨a,c,hv⟩ : ∃ a c,v = .slice a n c := by
   rcases HR2.out.at with ⟨hv,hl⟩ | ⟨g,c,hv,_⟩
   ·have hn0 : n = 0 := by simpa using congrArg List.length hl
    exact ⟨none,0,by rw [hv,hn0]⟩
   ·rw [List.length_range] at hv
    exact ⟨_,c,hv⟩
  subst hv
  have hnc : Hid (n ≤ c) := by
   show n ≤ c
   rcases HR2.out.at with ⟨hv,hl⟩ | ⟨g,c',hv,_,_,hc',_⟩
   ·injection hv with _ h1 h2; omega
   ·rw [List.length_range] at hv hc'
    injection hv with _ _ h2
    omega
  have hT3 : There w3 w.heap.size 2 := by
   rcases HRES.out with ⟨_,rfl⟩ | ⟨g,c,l,_,hg,_,_,_,hgr,_⟩
   ·exact HT2.out
   ·exact HT2.out.grown hgr (by omega)
  have hB3 : Below w.heap.size w w3 := by
   rcases HRES.out with ⟨_,rfl⟩ | ⟨g,c,l,_,hg,_,_,_,hgr,_⟩
   ·exact HB2.out
   ·exact HB2.out.trans (below_grown hgr (by omega) HB2.out.size)
  have t0 := hT3.cell 0 (by omega)
  have t1 := hT3.cell 1 (by omega)
  have z0 := (hT3 0 (by omega)).2
  have z1 := (hT3 1 (by omega)).2
  have HB3 : Hid (Below w.heap.size w w3) := hB3
  clear hres hT3 hB3
  go_wp2_with fail
  obtain ⟨u0,u1⟩ := set2_at (W := w3) (r := w.heap.size) (i := 0) (j := 1) (u := .int .i64 0) (v := .slice a n c) (by omega) (by rw [t0]; rfl) (by rw [t1]; rfl)
  have hf := sortRes_mk (r := w.heap.size) (x := .int .i64 0) (y := .slice a n c) HC.out HR2.out HC2.out HPOS.out HAP.out HRES.out (by omega)
  obtain ⟨T,hT⟩ := hf
  refine bodyPost_ret (KEY.out _ _ _ _ rfl u0 u1) rfl ⟨a,c,T,by rw [hM.out,HC.out],by rw [hM.out]; exact hnc.out,hT,?_⟩
  exact (HB3.out.setCell (Nat.le_refl _) _).setCell (Nat.le_refl _) _
 ·have hM : Hid (srtM n G = 0) := by show _ = _; unfold srtM; rw [if_neg hc]
  have hcb : (featsC n G == 0) = false := by simpa using hc
  have t0 := hT1.cell 0 (by omega)
  have t1 := hT1.cell 1 (by omega)
  have z0 := (hT1 0 (by omega)).2
  have z1 := (hT1 1 (by omega)).2
  have HT1 : Hid (There w1 w.heap.size 2) := hT1
  clear hc hT1
  go_wp2_with fail
  obtain ⟨u0,u1⟩ := set2_at (W := w1) (r := w.heap.size) (i := 0) (j := 1) (u := .int .i64 (featsC n G)) (v := .slice none 0 0) (by omega) (by rw [t0]; rfl) (by rw [t1]; rfl)
  refine bodyPost_ret (KEY.out _ _ _ _ rfl u0 u1) rfl ⟨none,0,G,by rw [hM.out],by rw [hM.out]; exact Nat.le_refl _,?_,?_⟩
  ·unfold SortRes
   rw [hM.out]
   exact ⟨⟨.inl rfl,fun i hi => by omega, .inl rfl⟩,fun i hi => by omega⟩
  ·exact (hB1.setCell (Nat.le_refl _) _).setCell (Nat.le_refl _) _
theorem ptsOf_add (X Y : Nat → Int) (l : List Nat) (i : Nat) : ptsOf X Y (l ++ [i]) = ptsOf X Y l ++ [(X i,Y i)] := by simp [ptsOf]
set_option maxRecDepth 8000 in
theorem thinned_any (b n cap : Nat) (X Y : Nat → Int) (r : Int) (L : List Nat) (w : World) (hp : PtsAt w b 0 n X Y) (hbl : b < w.heap.size) (hn : 2 ≤ n) (hn' : n ≤ 40) (hcap : n ≤ cap) (hok : ∀ i,i < n → okP (X i) (Y i) = true) (hr0 : 0 ≤ r) (hr1 : r ≤ 4096) (hL : Thin X Y r 0 (n - 1) L) :
  Calls Tryz.prog 106 #[.slice (some ⟨b,0,none⟩) n cap, .int .i64 r] w fun e w' => ∃ v,e = .returned v ∧ Row w.heap.size w' v (ptsOf X Y (L ++ [n - 1])) ∧ Below w.heap.size w w' := by
 obtain ⟨i0,hi,hz0,hz1,hz2⟩ := info_parts (show (Tryz.prog.info? 67).map (fun i => (i.zero,i.size,i.bytes)) = some (some (.agg #[.int .i64 0, .int .i64 0]),2,16) by kernel_rfl)
 have HP : Hid (PtsAt w b 0 n X Y) := hp
 have HOK : Hid (∀ i,i < n → okP (X i) (Y i) = true) := hok
 have HL : Hid (Thin X Y r 0 (n - 1) L) := hL
 obtain ⟨f0,f1⟩ := hp 0 (by omega)
 clear hp hok hL
 simp only [Nat.zero_mul,Nat.add_zero,Nat.zero_add] at f0 f1
 have hn0 : (0 : Int) < (n : Int) := by omega
 have hn00 : 0 < n := by omega
 obtain ⟨M,hM⟩ : ∃ M,M = n - 1 := ⟨_,rfl⟩
 rw [← hM]
 have HM : Hid (M = n - 1) := hM
 have hMi : (n : Int) - 1 = (M : Int) := by omega
 rw [← hM] at HL
 clear hM
 go_enter Tryz.func106,Tryz.ntmps106
 go_wp2_with fail
 go_step3
 go_wp2_with fail
 have c0 : ∀ W',Below w.heap.size w W' → W'.cell? ⟨b,0,none⟩ = some (.int .i64 (X 0)) := fun W' h => (h.cell (p := ⟨b,0,none⟩) hbl).trans f0
 have c1 : ∀ W',Below w.heap.size w W' → W'.cell? ⟨b,1,none⟩ = some (.int .i64 (Y 0)) := fun W' h => (h.cell (p := ⟨b,1,none⟩) hbl).trans f1
 clear f0 f1
 go_region_held3 (fun W' => Below w.heap.size w W') ((repeat (first|exact Qr _ _|assumption|refine Qd ?_|refine Qa ?_ _|refine Qt ?_|refine Qs ?_ _|refine Qo ?_ ?_ _ _))) (fail)
 go_wp2_with fail
 generalize hW : (((w.alloc _).alloc _).drew : World) = W
 have hB0 : Below w.heap.size w W := by subst hW; (repeat (first|exact Qr _ _|assumption|refine Qd ?_|refine Qa ?_ _|refine Qt ?_|refine Qs ?_ _|refine Qo ?_ ?_ _ _))
 have hS0 : StackAt W (w.heap.size + 1) w.heap.size (.slice none 0 0) [] := by
  subst hW
  refine ⟨?_,World.ownsRow_nil _ _ _ _⟩
  have := heap_alloc_new (w.alloc (.cells #[.int .i64 (X 0), .int .i64 (Y 0)] 67)) (.cells #[.slice none 0 0] 188)
  simpa [World.drew] using this
 have hR0 : Row w.heap.size W (.slice (some ⟨w.heap.size,0,none⟩) 1 1) (ptsOf X Y [0]) := by
  subst hW
  have := World.ownsRow_lit (base := w.heap.size) (e := 67) (size := 2) w #[.int .i64 (X 0), .int .i64 (Y 0)] 1 (Nat.le_refl _) (by decide) rfl
  exact World.ownsRow.drew (World.ownsRow.alloc this _)
 clear hW
 refine (push_any (w.heap.size + 1) w.heap.size M _ [] W hS0 (by simp) hB0.size).mono ?_
 rintro e w1 ⟨⟨u,rfl⟩,⟨v1,hS1⟩,hK1⟩
 have hR1 := Row.kept2 hS0 hR0 hK1
 have hB1 : Below w.heap.size w w1 := hB0.trans (hK1.below (by omega) (fun g hg => by cases hg) hB0.size)
 have HS1 : Hid (StackAt w1 (w.heap.size + 1) w.heap.size v1 [M]) := hS1
 have HR1 : Hid (Row w.heap.size w1 (.slice (some ⟨w.heap.size,0,none⟩) 1 1) (ptsOf X Y [0])) := hR1
 have HB1 : Hid (Below w.heap.size w w1) := hB1
 clear hB0 hS0 hR0 hS1 hK1 hR1 hB1 c0 c1
 go_wp2_with fail
 go_step3
 go_wp2_with fail
 go_loopg [5,6] n (fun g s5 s6 wx => ∃ (f : Nat) (st S0 R : List Nat) (vS : Value),n ≤ f + g ∧ s5 = .int .i64 (f : Int) ∧ StackAt wx (w.heap.size + 1) w.heap.size vS st.reverse ∧ Row w.heap.size wx s6 (ptsOf X Y (S0 ++ [f])) ∧ Rise f st n ∧ Rest X Y r f st R ∧ S0 ++ R = L ++ [M] ∧ Below w.heap.size w wx)
 case atStart =>
  have hm := HM.out
  exact ⟨0, [M], [],L ++ [M],v1,by omega,rfl,HS1.out,HR1.out,⟨by omega,by show M < n; omega⟩, .seg 0 M [] L [M] HL.out (.done M),rfl,HB1.out⟩
 case round =>
  obtain ⟨f,st,S0,R,vS,hg,rfl,hS,hR,hRi,hRe,hLR,hB⟩ := hrel
  have hfn := hRi.lt
  cases gk with
  | zero => omega
  | succ g =>
   have Hg : Hid (n ≤ f + (g + 1)) := hg
   have HS : Hid (StackAt wr (w.heap.size + 1) w.heap.size vS st.reverse) := hS
   have HR : Hid (Row w.heap.size wr u6 (ptsOf X Y (S0 ++ [f]))) := hR
   have HRi : Hid (Rise f st n) := hRi
   have HRe : Hid (Rest X Y r f st R) := hRe
   have HLR : Hid (S0 ++ R = L ++ [M]) := hLR
   have HB : Hid (Below w.heap.size w wr) := hB
   clear hg hS hR hRi hRe hLR hB
   go_wp2_with fail
   obtain ⟨wo,hwo⟩ : ∃ wo : World,wo = wr := ⟨_,rfl⟩
   subst hwo
   go_loopg [5] n (fun g2 s5 wy => ∃ (st : List Nat) (R : List Nat) (vS : Value),s5 = .int .i64 (f : Int) ∧ (∀ t s,st = t :: s → t ≤ f + g2) ∧ StackAt wy (w.heap.size + 1) w.heap.size vS st.reverse ∧ Row w.heap.size wy u6 (ptsOf X Y (S0 ++ [f])) ∧ Rise f st n ∧ Rest X Y r f st R ∧ S0 ++ R = L ++ [M] ∧ Below w.heap.size w wy)
   case atStart =>
    refine ⟨st,R,vS,rfl,fun t s e => ?_,HS.out,HR.out,HRi.out,HRe.out,HLR.out,HB.out⟩
    have := HRi.out
    rw [e] at this
    have := Rise.lt _ _ _ this.2
    omega
   case round =>
    clear HS HR HRi HRe HLR HB
    clear R vS st
    obtain ⟨st,R,vS,rfl,hg2,hS,hR,hRi,hRe,hLR,hB⟩ := hrel
    have HR : Hid (Row w.heap.size wr u6 (ptsOf X Y (S0 ++ [f]))) := hR
    have HB : Hid (Below w.heap.size w wr) := hB
    have HLR : Hid (S0 ++ R = L ++ [M]) := hLR
    clear hR hB hLR
    cases st with
    | nil =>
     have hRf : R = [f] := by cases hRe; rfl
     have hT := top_none _ _ _ wr hS
     have HT := (show Hid _ from hT)
     have HE : Hid (S0 ++ [f] = L ++ [M]) := by show _ = _; rw [← hRf]; exact HLR.out
     clear hT hS hRe hRi hg2
     go_wp2_with fail
     refine Calls.mono HT.out ?_
     rintro e w2 ⟨rfl,hb2⟩
     have HR2 : Hid (Row w.heap.size w2 u6 (ptsOf X Y (S0 ++ [f]))) := HR.out.below hb2
     have HB2 : Hid (Below w.heap.size w w2) := bl_then HB.out hb2
     clear hb2
     go_wp2_with fail
     rw [Exit.noGoto_ret]
     go_ret
     exact ⟨_,rfl,by rw [← HE.out]; exact HR2.out,HB2.out⟩
    | cons t st =>
     cases gk with
     | zero =>
      have h1 := hg2 t st rfl
      have h2 := hRi.1
      omega
     | succ g2 =>
      have htg := hg2 t st rfl
      have hft := hRi.1
      have htn := Rise.lt _ _ _ hRi.2
      have hlen := Rise.len _ _ _ hRi
      simp only [List.reverse_cons,List.length_cons] at hS hlen
      have hT := top_some _ _ t vS st.reverse wr hS (by simp; omega)
      have HT := (show Hid _ from hT)
      have HS : Hid (StackAt wr (w.heap.size + 1) w.heap.size vS (st.reverse ++ [t])) := hS
      have HRi : Hid (Rise f (t :: st) n) := hRi
      have HRe : Hid (Rest X Y r f (t :: st) R) := hRe
      have Htg : Hid (t ≤ f + (g2 + 1)) := htg
      have hl2 : w.heap.size + 1 < wr.heap.size := hS.lt
      clear hT hS hRe hRi hg2 htg
      go_wp2_with fail
      refine Calls.mono HT.out ?_
      rintro e w2 ⟨rfl,hb2⟩
      have HR2 : Hid (Row w.heap.size w2 u6 (ptsOf X Y (S0 ++ [f]))) := HR.out.below hb2
      have HB2 : Hid (Below w.heap.size w w2) := bl_then HB.out hb2
      have HS2 : Hid (StackAt w2 (w.heap.size + 1) w.heap.size vS (st.reverse ++ [t])) := HS.out.below hb2
      clear hb2 HR HB HS HT
      have hft' : (f : Int) ≤ (t : Int) + 1 := by omega
      have htc : (t : Int) + 1 ≤ (cap : Int) := by omega
      have hf0 : (0 : Int) ≤ (f : Int) := by omega
      go_wp2_with fail
      have hPs : PtsAt w2 b (f * 2) (t + 1 - f) (fun i => X (f + i)) (fun i => Y (f + i)) := fun i hi => by
       obtain ⟨e1,e2⟩ := (HP.out.below HB2.out hbl) (f + i) (by omega)
       have e : 0 + (f + i) * 2 = f * 2 + i * 2 := by omega
       rw [e] at e1 e2
       exact ⟨e1,e2⟩
      refine (farthestIn_any b (f * 2) (t + 1 - f) (cap - f) (fun i => X (f + i)) (fun i => Y (f + i)) w2 hPs (Nat.lt_of_lt_of_le hbl HB2.out.size) (by omega) (by omega) (fun i hi => HOK.out (f + i) (by omega))).mono ?_
      rintro e w3 ⟨p,rfl,hF,hb3⟩
      have hFar : Far X Y f t f (t + 1) (f + p) := by
       refine Far.shift X Y (by omega) ?_
       have e1 : t + 1 - f - 1 = t - f := by omega
       have e2 : t + 1 - f = t - f + 1 := by omega
       rw [e1,e2] at hF
       exact hF
      obtain ⟨m,hm⟩ : ∃ m,m = f + p := ⟨_,rfl⟩
      rw [← hm] at hFar
      have hmi : (f : Int) + (p : Int) = (m : Int) := by omega
      have hmt : m < t + 1 := hFar.hi
      have hmf : f ≤ m := hFar.lo
      have HFar : Hid (Far X Y f t f (t + 1) m) := hFar
      have HR3 : Hid (Row w.heap.size w3 u6 (ptsOf X Y (S0 ++ [f]))) := HR2.out.below hb3
      have HB3 : Hid (Below w.heap.size w w3) := bl_then HB2.out hb3
      have HS3 : Hid (StackAt w3 (w.heap.size + 1) w.heap.size vS (st.reverse ++ [t])) := HS2.out.below hb3
      clear hPs hF hFar hb3 HR2 HB2 HS2 hm hft' htc
      have cm : ∀ i,i < n → ∀ W',Below w3.heap.size w3 W' → W'.cell? ⟨b,i * 2,none⟩ = some (.int .i64 (X i)) ∧ W'.cell? ⟨b,i * 2 + 1,none⟩ = some (.int .i64 (Y i)) := fun i hi W' h => by
       have := (HP.out.below (bl_then HB3.out h) hbl) i hi
       simpa using this
      have cm0 : ∀ W',Below w3.heap.size w3 W' → W'.cell? ⟨b,m * 2,none⟩ = some (.int .i64 (X m)) := fun W' h => (cm m (by omega) W' h).1
      have cm1 : ∀ W',Below w3.heap.size w3 W' → W'.cell? ⟨b,m * 2 + 1,none⟩ = some (.int .i64 (Y m)) := fun W' h => (cm m (by omega) W' h).2
      have cf0 : ∀ W',Below w3.heap.size w3 W' → W'.cell? ⟨b,f * 2,none⟩ = some (.int .i64 (X f)) := fun W' h => (cm f (by omega) W' h).1
      have cf1 : ∀ W',Below w3.heap.size w3 W' → W'.cell? ⟨b,f * 2 + 1,none⟩ = some (.int .i64 (Y f)) := fun W' h => (cm f (by omega) W' h).2
      have ct0 : ∀ W',Below w3.heap.size w3 W' → W'.cell? ⟨b,t * 2,none⟩ = some (.int .i64 (X t)) := fun W' h => (cm t (by omega) W' h).1
      have ct1 : ∀ W',Below w3.heap.size w3 W' → W'.cell? ⟨b,t * 2 + 1,none⟩ = some (.int .i64 (Y t)) := fun W' h => (cm t (by omega) W' h).2
      have hr3 : Below w3.heap.size w3 w3 := Below.refl _ _
      have bm0 : (0 : Int) ≤ (m : Int) := by omega
      have bm1 : (m : Int) < (n : Int) := by omega
      have bf1 : (f : Int) < (n : Int) := by omega
      have bt0 : (0 : Int) ≤ (t : Int) := by omega
      have bt1 : (t : Int) < (n : Int) := by omega
      have hnear : isNearB (X m) (Y m) (X f) (Y f) (X t) (Y t) r = !farB X Y r f t := by
       rw [← near_far X Y HFar.out]
       have o1 := HOK.out m (by omega)
       have o2 := HOK.out f (by omega)
       have o3 := HOK.out t (by omega)
       simp [isNearB,nearI,o1,o2,o3,inB,hr0,hr1]
      have HN : Hid (∀ W',Calls Tryz.prog 146 #[.agg #[.int .i64 (X m), .int .i64 (Y m)], .agg #[.int .i64 (X f), .int .i64 (Y f)], .agg #[.int .i64 (X t), .int .i64 (Y t)], .int .i64 r] W' fun e w' => e = .returned (.bool (!farB X Y r f t)) ∧ Below W'.heap.size W' w') := fun W' => by
       rw [← hnear]
       exact impl_IsNear_any _ _ _ _ _ _ _ _
      clear cm hnear
      go_wp2_with fail
      go_cut [46] (fun q wc => q = .bool (!farB X Y r f t) ∧ Below w3.heap.size w3 wc)
      case first =>
       go_region_held3 (fun W' => Below w3.heap.size w3 W') ((repeat (first|exact Qr _ _|assumption|refine Qd ?_|refine Qa ?_ _|refine Qt ?_|refine Qs ?_ _|refine Qo ?_ ?_ _ _)))
        (first | (go_at_call 146; refine (HN.out _).mono ?_; rintro e w' ⟨rfl,hb⟩))
       go_wp2_with fail
       go_meet
       case rel => exact ⟨rfl,by assumption⟩
      case rest =>
       obtain ⟨rfl,hbc⟩ := hcut
       have HR4 : Hid (Row w.heap.size wc u6 (ptsOf X Y (S0 ++ [f]))) := HR3.out.below hbc
       have HB4 : Hid (Below w.heap.size w wc) := bl_then HB3.out hbc
       have HS4 : Hid (StackAt wc (w.heap.size + 1) w.heap.size vS (st.reverse ++ [t])) := HS3.out.below hbc
       have d0 := ct0 _ hbc
       have d1 := ct1 _ hbc
       clear cm0 cm1 cf0 cf1 ct0 ct1 hr3 HR3 HB3 HS3 hbc HN
       cases hfar : farB X Y r f t
       ·obtain ⟨R',hRe',hR'⟩ : ∃ R',Rest X Y r t st R' ∧ R = [f] ++ R' := by
         cases HRe.out with
         | seg _ _ _ l R' hT hRe' =>
          cases hT with
          | near _ _ _ => exact ⟨R',hRe',rfl⟩
          | split _ _ m' l1 l2 h1 _ _ _ => rw [hfar] at h1; cases h1
        have HRe' : Hid (Rest X Y r t st R') := hRe'
        have HLR' : Hid ((S0 ++ [f]) ++ R' = L ++ [M]) := by show _ = _; rw [List.append_assoc, ← hR']; exact HLR.out
        have hl100 : st.reverse.length ≤ 100 := by simp; omega
        clear hRe' hR' hfar
        go_wp2_with fail
        refine (drop_any _ _ t vS st.reverse wc HS4.out hl100).mono ?_
        rintro e w5 ⟨⟨u',rfl⟩,⟨v5,hS5⟩,hK5⟩
        have hR5 := Row.kept2 HS4.out HR4.out hK5
        have hB5 : Below w.heap.size w w5 := HB4.out.trans (hK5.below (by omega) (fun g hg => (HS4.out.row.lt g hg).1) HB4.out.size)
        have hc5 := (HP.out.below hB5 hbl) t (by omega)
        simp only [Nat.zero_add] at hc5
        obtain ⟨e0,e1⟩ := hc5
        have HS5 : Hid (StackAt w5 (w.heap.size + 1) w.heap.size v5 st.reverse) := hS5
        have HR5 : Hid (Row w.heap.size w5 u6 (ptsOf X Y (S0 ++ [f]))) := hR5
        have HB5 : Hid (Below w.heap.size w w5) := hB5
        have hs5 : w.heap.size ≤ w5.heap.size := hB5.size
        have hlS : (S0 ++ [f]).length ≤ n + 1 := by
         have h1 := congrArg List.length HLR'.out
         have h2 := (HL.out.len X Y (by have := HM.out; omega)).1
         have := HM.out
         simp at h1 ⊢
         omega
        have hlP : (ptsOf X Y (S0 ++ [f])).length ≤ n + 1 := by rw [ptsOf,List.length_map]; exact hlS
        clear hS5 hK5 hR5 hB5 d0 d1 HS4 HR4 HB4 hlS hl100
        go_wp2_with (first
         | (at_builtin; go_must (refine wpList_append_own _ rfl _ _ 37 rfl w.heap.size 67 i0 (.agg #[.int .i64 0, .int .i64 0]) 2 16 Tryz.underlying37 hi hz0 hz1 hz2 rfl (by decide) _ (ptsOf X Y (S0 ++ [f])).length (cellsL (ptsOf X Y (S0 ++ [f]))) rfl (World.ownsRow.alloc HR5.out _) ⟨w5.heap.size,0,none⟩ 1 1 [.int .i64 (X t), .int .i64 (Y t)] rfl rfl ?c1 ?c2 ?c3 ?c4 ?c5 ?_)))
        case c1 =>
         intro q u hq
         match q,hq with
         | 0,hq => simp at hq; subst hq; simp [Addr.add,go_sem]
         | 1,hq => simp at hq; subst hq; simp [Addr.add,go_sem]
         | q + 2,hq => simp at hq
        case c2 => first | (intro u hu; simp at hu; rcases hu with rfl | rfl <;> rfl) | exact ⟨rfl,rfl⟩
        case c3 => unfold maxLen; omega
        case c4 => omega
        case c5 => first | omega | (simp; omega)
        intro v' w6 hown' hgrow hnil
        clear hnil
        have hBa : Below w5.heap.size w5 (w5.alloc (.cells #[.int .i64 (X t), .int .i64 (Y t)] 67)) := (Below.refl _ _).alloc (Nat.le_refl _) _
        have hBg : Below w.heap.size (w5.alloc (.cells #[.int .i64 (X t), .int .i64 (Y t)] 67)) w6 := (Below.refl _ _).grown hgrow (by simp; omega) (fun k hk => (HR5.out.lt k hk).1)
        have HB6 : Hid (Below w.heap.size w w6) := (bl_then HB5.out hBa).trans hBg
        have HS6 : Hid (StackAt w6 (w.heap.size + 1) w.heap.size v5 st.reverse) := (HS5.out.below hBa).grown (HR5.out.below hBa) hgrow
        have HR6 : Hid (Row w.heap.size w6 v' (ptsOf X Y ((S0 ++ [f]) ++ [t]))) := by
         show Row _ _ _ _
         rw [ptsOf_add X Y (S0 ++ [f]) t]
         show World.ownsRow _ _ _ _ _ _ _
         rw [cellsL_add,List.length_append]
         exact hown'
        clear hown' hgrow hBa hBg
        go_wp2_with fail
        go_roundg g
        case measure => omega
        case rel => exact ⟨t,st,S0 ++ [f],R',v5,by have := Hg.out; omega,rfl,HS6.out,HR6.out,HRi.out.2,HRe'.out,HLR'.out,HB6.out⟩
       ·have hmid := far_mid X Y HFar.out hfar
        obtain ⟨l1,l2,R',t1,t2,hRe',hR'⟩ : ∃ l1 l2 R',Thin X Y r f m l1 ∧ Thin X Y r m t l2 ∧ Rest X Y r t st R' ∧ R = (l1 ++ l2) ++ R' := by
         cases HRe.out with
         | seg _ _ _ l R' hT hRe' =>
          cases hT with
          | near _ _ h0 => rw [hfar] at h0; cases h0
          | split _ _ m' l1 l2 h1 hm' t1 t2 =>
           have e := hm'.uniq X Y hmid
           subst e
           exact ⟨l1,l2,R',t1,t2,hRe',rfl⟩
        have HRe' : Hid (Rest X Y r f (m :: t :: st) (l1 ++ (l2 ++ R'))) := .seg f m _ _ _ t1 (.seg m t _ _ _ t2 hRe')
        have HLR' : Hid (S0 ++ (l1 ++ (l2 ++ R')) = L ++ [M]) := by show _ = _; rw [← List.append_assoc l1, ← hR']; exact HLR.out
        have b1 := hmid.lo
        have b2 := hmid.hi
        have hl100 : (st.reverse ++ [t]).length ≤ 100 := by simp; omega
        clear hRe' hR' hfar hmid t1 t2
        go_wp2_with fail
        refine (push_any _ _ m vS (st.reverse ++ [t]) wc HS4.out hl100 HB4.out.size).mono ?_
        rintro e w5 ⟨⟨u',rfl⟩,⟨v5,hS5⟩,hK5⟩
        have hR5 := Row.kept2 HS4.out HR4.out hK5
        have hB5 : Below w.heap.size w w5 := HB4.out.trans (hK5.below (by omega) (fun g hg => (HS4.out.row.lt g hg).1) HB4.out.size)
        have HS5 : Hid (StackAt w5 (w.heap.size + 1) w.heap.size v5 (m :: t :: st).reverse) := by
         show StackAt _ _ _ _ _
         simp only [List.reverse_cons]
         exact hS5
        have HR5 : Hid (Row w.heap.size w5 u6 (ptsOf X Y (S0 ++ [f]))) := hR5
        have HB5 : Hid (Below w.heap.size w w5) := hB5
        clear hS5 hK5 hR5 hB5 d0 d1 HS4 HR4 HB4
        go_wp2_with fail
        go_roundg g2
        case measure => omega
        case rel =>
         refine ⟨m :: t :: st,l1 ++ (l2 ++ R'),v5,rfl,fun t' s' e => ?_,HS5.out,HR5.out,⟨by omega,by omega,HRi.out.2⟩,HRe'.out,HLR'.out,HB5.out⟩
         injection e with e1 e2
         have := Htg.out
         omega
def fL (f : Feat) : List Int := featL f.id.toNat f.la.toNat f.ki.toNat f.wi.toNat f.pr.toNat f.lab f.n f.X f.Y
def catL (G : Nat → Feat) : Nat → List Int
 | 0 => []
 | k + 1 => catL G k ++ fL (G k)
def datL (n : Nat) (G : Nat → Feat) : List Int := putI n ++ catL G n
def sumL (l : List Int) : Nat := (sumZ (zz l) l.length).toNat
def endL (l : List Int) : List Int := l ++ [((sumL l / 256 : Nat) : Int),((sumL l % 256 : Nat) : Int)]
def Okf (f : Feat) : Prop := featC f.id f.la f.ki f.wi f.n f.X f.Y f.lab f.pr = 0
noncomputable def plC (n : Nat) (G : Nat → Feat) : Int := if featsC n G = 0 then (if ordS n G = true then (if 900 < (datL n G).length + 2 then 2 else 0) else 1) else featsC n G
noncomputable def plL (n : Nat) (G : Nat → Feat) : List Int := if plC n G = 0 then endL (datL n G) else []
def Byt (l : List Int) : Prop := ∀ x ∈ l,0 ≤ x ∧ x ≤ 255
theorem Byt.app {l m : List Int} (h : Byt l) (k : Byt m) : Byt (l ++ m) := fun x hx => (List.mem_append.1 hx).elim (h x) (k x)
theorem putI_byt (n : Nat) : Byt (putI n) := by
 induction n using Nat.strongRecOn with
 | ind n ih =>
  by_cases h : n < 128
  ·rw [putI_small h]; intro x hx; simp at hx; omega
  ·rw [putI_big h]
   intro x hx
   rcases List.mem_cons.1 hx with rfl | hx
   ·omega
   ·exact ih (n / 128) (by omega) x hx
theorem hd_byt (N : List Nat) : Byt (hd N) := fun x hx => by
 unfold hd at hx
 obtain ⟨y,_,hy⟩ := List.mem_flatMap.1 hx
 exact putI_byt y x hy
theorem labL_byt (s : ByteArray) : Byt (labL s) := fun x hx => by
 unfold labL at hx
 obtain ⟨y,_,rfl⟩ := List.mem_map.1 hx
 have := y.toNat_lt
 omega
theorem ptsL_byt (X Y : Nat → Int) : ∀ k,Byt (ptsL X Y k)
 | 0 => fun x hx => by simp [ptsL] at hx
 | k + 1 => (ptsL_byt X Y k).app ((putI_byt _).app (putI_byt _))
theorem fL_byt (f : Feat) : Byt (fL f) := (hd_byt _).app ((labL_byt _).app ((putI_byt _).app (ptsL_byt _ _ _)))
theorem catL_byt (G : Nat → Feat) : ∀ k,Byt (catL G k)
 | 0 => fun x hx => by simp [catL] at hx
 | k + 1 => (catL_byt G k).app (fL_byt _)
theorem datL_byt (n : Nat) (G : Nat → Feat) : Byt (datL n G) := (putI_byt _).app (catL_byt _ _)
theorem zz_byt {l : List Int} (h : Byt l) (i : Nat) : 0 ≤ zz l i ∧ zz l i ≤ 255 := by
 unfold zz
 rw [List.getD_eq_getElem?_getD]
 cases hx : l[i]? with
 | none => simp
 | some x => exact h x (List.mem_of_getElem? hx)
theorem fL_len {f : Feat} (h : Okf f) : (fL f).length ≤ 100 := by
 obtain ⟨i,l,k,v,p,e1,e2,e3,e4,e5,g1,g2,g3,g4,g5,gn,gn',hin,hs⟩ := feat_ok h
 exact featL_len gn' hin hs (by omega) (by omega) (by omega) (by omega) (by omega)
theorem catL_len {n : Nat} {G : Nat → Feat} (h : ∀ i,i < n → Okf (G i)) : ∀ k,k ≤ n → (catL G k).length ≤ 100 * k
 | 0,_ => by simp [catL]
 | k + 1,hk => by
  have h1 := catL_len h k (by omega)
  have h2 := fL_len (h k (by omega))
  simp [catL]
  omega
theorem datL_len {n : Nat} {G : Nat → Feat} (h : ∀ i,i < n → Okf (G i)) (hn : n ≤ 12) : (datL n G).length ≤ 1202 := by
 have h1 := catL_len h n (Nat.le_refl _)
 have h2 := putI_len2 n (by omega)
 simp [datL]
 omega
theorem sumL_lt (l : List Int) : sumL l < 65521 := by have := sumZ_bd (zz l) l.length; unfold sumL; omega
theorem sumL_eq (l : List Int) : sumZ (zz l) l.length = (sumL l : Int) := by have := sumZ_bd (zz l) l.length; unfold sumL; omega
theorem putFeature_f (base : Nat) (v : Value) (l : List Int) (f : Feat) (b off : Nat) (w : World) (hf : Okf f) (ha : f.a = some ⟨b,off,none⟩) (hO : RowB base w v l) (hbase : base ≤ w.heap.size) (hp : PtsAt w b off f.n f.X f.Y) (hbl : b < base) (hl : l.length ≤ 1800) :
  Calls Tryz.prog 60 #[v, .agg #[.int .i64 f.id, .int .i64 f.la, .int .i64 f.ki, .int .i64 f.wi, .slice f.a f.n f.cap, .string f.lab, .int .i64 f.pr]] w fun e w' => ∃ v',e = .returned v' ∧ RowB base w' v' (l ++ fL f) ∧ Below base w w' ∧ NB w w' := by
 obtain ⟨i,la,k,u,p,e1,e2,e3,e4,e5,g1,g2,g3,g4,g5,gn,gn',hin,hs⟩ := feat_ok hf
 have h := putFeature_any base v l i la k u p f.lab b off f.n f.cap f.X f.Y w hO hbase hp hbl gn' hin hs g1 g2 g3 g4 g5 hl
 unfold fL
 rw [e1,e2,e3,e4,e5,ha]
 simpa using h
def rdFs (Z : Nat → Int) : Nat → Nat → Nat → Option (List Fx × Nat)
 | 0,_,o => some ([],o)
 | c + 1,n,o => (rdFeat (fun i => Z (i + o)) (n - o)).bind fun d => (rdFs Z c n (o + d.2)).map fun r => (d.1 :: r.1,r.2)
def rdList (Z : Nat → Int) (n : Nat) : Option (List Fx × Nat) := (rdUp 12 Z n).bind fun c => rdFs Z c.1 n c.2
theorem rdFs_none {Z : Nat → Int} {c n o : Nat} (h : rdFeat (fun i => Z (i + o)) (n - o) = none) : rdFs Z (c + 1) n o = none := by simp [rdFs,h]
theorem rdFs_some {Z : Nat → Int} {c n o : Nat} {d : Fx × Nat} (h : rdFeat (fun i => Z (i + o)) (n - o) = some d) : rdFs Z (c + 1) n o = (rdFs Z c n (o + d.2)).map fun r => (d.1 :: r.1,r.2) := by simp [rdFs,h]
def fxFeat (f : Fx) (a : Option Addr) (cap : Nat) : Feat := ⟨(f.ns.getD 0 0 : Nat),(f.ns.getD 1 0 : Nat),(f.ns.getD 2 0 : Nat),(f.ns.getD 3 0 : Nat),a,f.pts.length,cap,px f.pts,py f.pts,f.lab,(f.ns.getD 4 0 : Nat)⟩
def fxAt (fs : List Fx) (i : Nat) : Fx := fs.getD i ⟨[],ByteArray.empty, []⟩
def FxRow (base : Nat) (w : World) (v : Value) (fs : List Fx) (H : Nat → Feat) : Prop :=
 FRow base w v H (List.range fs.length) ∧ (∀ i,i < fs.length → H i = fxFeat (fxAt fs i) (H i).a (H i).cap ∧ Row base w (.slice (H i).a (H i).n (H i).cap) (fxAt fs i).pts) ∧ ∀ i j,i < fs.length → j < fs.length → (H i).a = (H j).a → (H i).a ≠ none → i = j
theorem Row.keptU {base base' : Nat} {w w' : World} {u v : Value} {l : List (Int × Int)} {H : Nat → Feat} {m : List Nat} (h : Row base w u l) (h' : FRow base' w v H m) (hg : w.grownBy w' v.ownBlock) : Row base w' u l := by
 refine World.ownsRow.kept h hg ?_
 cases hu : u.ownBlock with
 | none => exact .inl rfl
 | some g =>
  right
  intro e
  obtain ⟨c1,h1⟩ := heap_of_row h g hu
  obtain ⟨c2,h2⟩ := heap_of_row h' g e.symm
  rw [h1] at h2
  injection h2 with h2
  injection h2 with _ h2
  exact absurd h2 (by decide)
theorem FxRow.keeps {base s : Nat} {w w' : World} {v : Value} {fs : List Fx} {H : Nat → Feat} (h : FxRow base w v fs H) (hk : Keeps s w w') (hs : s < base) : FxRow base w' v fs H :=
 ⟨ownsRow_of h.1 fun g hg => hk.block g (World.ownsRow.lt h.1 g hg).2 (by have := (World.ownsRow.lt h.1 g hg).1; omega),fun i hi => ⟨(h.2.1 i hi).1,(h.2.1 i hi).2.keeps hk hs⟩,h.2.2⟩
theorem FxRow.below {base : Nat} {w w' : World} {v : Value} {fs : List Fx} {H : Nat → Feat} (h : FxRow base w v fs H) (hk : Below w.heap.size w w') : FxRow base w' v fs H :=
 ⟨ownsRow_of h.1 fun g hg => hk.block g (World.ownsRow.lt h.1 g hg).2,fun i hi => ⟨(h.2.1 i hi).1,(h.2.1 i hi).2.below hk⟩,h.2.2⟩
theorem fxAt_app {fs : List Fx} {f : Fx} {i : Nat} (hi : i < fs.length + 1) : fxAt (fs ++ [f]) i = if i = fs.length then f else fxAt fs i := by
 unfold fxAt
 by_cases h : i = fs.length
 ·subst h; simp [List.getD]
 ·rw [if_neg h]
  simp [List.getD,List.getElem?_append_left (show i < fs.length by omega)]
theorem FxRow.app {base : Nat} {w w' : World} {v v' : Value} {fs : List Fx} {H : Nat → Feat} {f : Fx} {a : Option Addr} {c : Nat} (h : FxRow base w v fs H) (hR : Row base w (.slice a f.pts.length c) f.pts)
  (hown : w'.ownsRow base 39 7 v' (fs.length + 1) (cellsF H (List.range fs.length) ++ fcell (fxFeat f a c))) (hg : w.grownBy w' v.ownBlock) (hf : ∀ i,i < fs.length → (H i).a = a → a = none) :
  FxRow base w' v' (fs ++ [f]) (fun i => if i = fs.length then fxFeat f a c else H i) := by
 refine ⟨?_,fun i hi => ?_,fun i j hi hj hij hne => ?_⟩
 ·unfold FRow
  have e1 : cellsF (fun i => if i = fs.length then fxFeat f a c else H i) (List.range (fs ++ [f]).length) = cellsF H (List.range fs.length) ++ fcell (fxFeat f a c) := by
   rw [List.length_append,List.length_singleton,List.range_succ,cellsF_app,cellsF_one,if_pos rfl]
   rw [cellsF_congr (H' := H) (List.range fs.length) (fun j hj => by rw [if_neg]; have := List.mem_range.1 hj; omega)]
  rw [e1,List.length_range,List.length_append,List.length_singleton]
  exact hown
 ·simp only [List.length_append,List.length_singleton] at hi
  rw [fxAt_app hi]
  by_cases e : i = fs.length
  ·simp only [if_pos e]
   exact ⟨rfl,hR.keptU h.1 hg⟩
  ·simp only [if_neg e]
   obtain ⟨e1,r1⟩ := h.2.1 i (by omega)
   exact ⟨e1,r1.keptU h.1 hg⟩
 ·simp only [List.length_append,List.length_singleton] at hi hj
  by_cases e1 : i = fs.length <;> by_cases e2 : j = fs.length
  ·omega
  ·simp only [if_pos e1,if_neg e2] at hij hne
   exact absurd (hf j (by omega) hij.symm) hne
  ·simp only [if_neg e1,if_pos e2] at hij hne
   have := hf i (by omega) hij
   exact absurd (hij.trans this) hne
  ·simp only [if_neg e1,if_neg e2] at hij hne
   exact h.2.2 i j (by omega) (by omega) hij hne
theorem FxRow.fresh {base : Nat} {w w' : World} {v : Value} {fs : List Fx} {H : Nat → Feat} {a : Option Addr} {n c : Nat} {l : List (Int × Int)} (h : FxRow base w v fs H) (hR : Row w.heap.size w' (.slice a n c) l) (i : Nat) (hi : i < fs.length) (e : (H i).a = a) : a = none := by
 cases ha : a with
 | none => rfl
 | some p =>
  subst ha
  have h1 := (h.2.1 i hi).2
  rw [e] at h1
  have h2 := (World.ownsRow.lt h1 p.block rfl).2
  have h3 := (World.ownsRow.lt hR p.block rfl).1
  omega
end Go.Proofs.YtfkonhagjahgnaaGreat
