/- Texts. -/
import Derived.Test.YtfkonhagjahgnaaGreatWTiles21
import Derived.Test.YtfkonhagjahgnaaGreatWTiles5
import Derived.Test.YtfkonhagjahgnaaGreatWTiles19
import Derived.Test.YtfkonhagjahgnaaGreatWTiles9
import Derived.Test.YtfkonhagjahgnaaGreatWTiles2
import Derived.Test.YtfkonhagjahgnaaGreatWTiles1
import Derived.Deep.DeepCutAuto
set_option linter.unusedSimpArgs false
set_option linter.unusedVariables false
set_option maxRecDepth 100000
set_option maxHeartbeats 32000000
namespace Go.Proofs.YtfkonhagjahgnaaGreat
open Go.RowKit
noncomputable def codeAt (G : Nat → Feat) (i : Nat) : Int := by
 classical exact if featC (G i).id (G i).la (G i).ki (G i).wi (G i).n (G i).X (G i).Y (G i).lab (G i).pr ≠ 0 then featC (G i).id (G i).la (G i).ki (G i).wi (G i).n (G i).X (G i).Y (G i).lab (G i).pr else if ∃ j,j < i ∧ (G j).id = (G i).id then 6 else 0
noncomputable def featsC (n : Nat) (G : Nat → Feat) : Int := if 12 < n then 2 else scanC (codeAt G) 0 n
theorem codeAt_fault {G : Nat → Feat} {i : Nat} (h : featC (G i).id (G i).la (G i).ki (G i).wi (G i).n (G i).X (G i).Y (G i).lab (G i).pr ≠ 0) : codeAt G i = featC (G i).id (G i).la (G i).ki (G i).wi (G i).n (G i).X (G i).Y (G i).lab (G i).pr := by unfold codeAt; rw [if_pos h]
theorem codeAt_taken {G : Nat → Feat} {i : Nat} (h : featC (G i).id (G i).la (G i).ki (G i).wi (G i).n (G i).X (G i).Y (G i).lab (G i).pr = 0) (h2 : ∃ j,j < i ∧ (G j).id = (G i).id) : codeAt G i = 6 := by unfold codeAt; rw [if_neg (by simp [h]),if_pos h2]
theorem codeAt_ok {G : Nat → Feat} {i : Nat} (h : featC (G i).id (G i).la (G i).ki (G i).wi (G i).n (G i).X (G i).Y (G i).lab (G i).pr = 0) (h2 : ¬ ∃ j,j < i ∧ (G j).id = (G i).id) : codeAt G i = 0 := by unfold codeAt; rw [if_neg (by simp [h]),if_neg h2]
theorem codeAt_same {G H : Nat → Feat} {n i : Nat} (h : ∀ j,j < n → (G j).same (H j)) (hi : i < n) : codeAt G i = codeAt H i := by
 obtain ⟨s1,s2,s3,s4,s5,s6,s7,s8,s9⟩ := h i hi
 have e : (∃ j,j < i ∧ (G j).id = (G i).id) ↔ (∃ j,j < i ∧ (H j).id = (H i).id) := by
  constructor
  ·rintro ⟨j,hj,e⟩; exact ⟨j,hj,by rw [← (h j (by omega)).1, ← s1]; exact e⟩
  ·rintro ⟨j,hj,e⟩; exact ⟨j,hj,by rw [(h j (by omega)).1,s1]; exact e⟩
 unfold codeAt
 rw [s1,s2,s3,s4,s5,s6,s7,s8,s9]
 rw [s1] at e
 simp only [e]
theorem featsC_same {G H : Nat → Feat} {n : Nat} (h : ∀ j,j < n → (G j).same (H j)) : featsC n G = featsC n H := by
 unfold featsC
 rw [scan_congr (codeAt G) (codeAt H) n 0 (fun j _ hj => codeAt_same h (by omega))]
theorem l2Many_any (b n cap : Nat) (G : Nat → Feat) (w : World) (hg : FsAt w b 0 n G) (hbl : b < w.heap.size) (hs : SmallFs n G) :
  Calls Tryz.prog 23 #[.slice (some ⟨b,0,none⟩) n cap] w fun e w' => e = .returned (.int .i64 (featsC n G)) ∧ Below w.heap.size w w' := by
 have HG : Hid (FsAt w b 0 n G) := hg
 have HS : Hid (SmallFs n G) := hs
 have hn := hs.1
 clear hg hs
 by_cases h12 : (12 : Int) < n
 ·have hz : Hid (featsC n G = 2) := by show _ = _; unfold featsC; rw [if_pos (by omega)]
  go_enter Tryz.func23,Tryz.ntmps23
  go_wp2
  go_ret
  exact ⟨ret_int hz.out.symm,by (repeat (first|exact Qr _ _|assumption|refine Qd ?_|refine Qa ?_ _|refine Qt ?_|refine Qs ?_ _|refine Qo ?_ ?_ _ _))⟩
 ·have hz : Hid (featsC n G = scanC (codeAt G) 0 n) := by show _ = _; unfold featsC; rw [if_neg (by omega)]
  go_enter Tryz.func23,Tryz.ntmps23
  go_wp2
  go_loopw [3] (fun v wr => ∃ k : Nat,k ≤ n ∧ v = .int .i64 k ∧ (∀ j,j < k → codeAt G j = 0) ∧ Below w.heap.size w wr) (fun v _ => n - (intOf v).toNat)
  case atStart => exact ⟨0,by omega,rfl,by omega,Below.refl _ _⟩
  case round =>
   obtain ⟨k,hk,rfl,hA,hB⟩ := hrel
   have HB : Hid (Below w.heap.size w wr) := hB
   have HA : Hid (∀ j,j < k → codeAt G j = 0) := hA
   by_cases hlt : k < n
   ·have HGr : Hid (FsAt wr b 0 n G) := HG.out.below hB hbl
    have hblr : b < wr.heap.size := Nat.lt_of_lt_of_le hbl hB.size
    obtain ⟨hF,hP⟩ := HGr.out k hlt
    rw [Nat.zero_add] at hF
    have HF : Hid (FeatAt wr b (k * 7) (G k).id (G k).la (G k).ki (G k).wi (.slice (G k).a (G k).n (G k).cap) (G k).lab (G k).pr) := hF
    have HP : Hid (IsPts wr (G k).a (G k).n (G k).X (G k).Y) := hP
    obtain ⟨z1,z2⟩ := HS.out.2 k hlt
    have HLT : Hid (k < n) := hlt
    clear hB hA hF hP
    have hi : (k : Int) < (n : Int) := by omega
    have hi0 : (0 : Int) ≤ (k : Int) := by omega
    go_wp2_with fail
    refine (l2Fault_any b (k * 7) _ _ _ _ _ _ _ (G k).X (G k).Y _ _ _ HF.out HP.out z2 z1).mono ?_
    rintro e w1 ⟨rfl,hb1⟩
    by_cases hc : featC (G k).id (G k).la (G k).ki (G k).wi (G k).n (G k).X (G k).Y (G k).lab (G k).pr = 0
    ·rw [hc]
     have HC : Hid (featC (G k).id (G k).la (G k).ki (G k).wi (G k).n (G k).X (G k).Y (G k).lab (G k).pr = 0) := hc
     have d0 : ∀ W',Below w1.heap.size w1 W' → W'.cell? ⟨b,k * 7,none⟩ = some (.int .i64 (G k).id) := fun W' h => ((HF.out.below hb1 hblr).below h (Nat.lt_of_lt_of_le hblr hb1.size)).1
     have HG1 : Hid (FsAt w1 b 0 n G) := HGr.out.below hb1 hblr
     have hbl1 : b < w1.heap.size := Nat.lt_of_lt_of_le hblr hb1.size
     have HB1 : Hid (Below w.heap.size w w1) := bl_then HB.out hb1
     clear hc hb1
     have hr1 : Below w1.heap.size w1 w1 := Below.refl _ _
     go_wp2_with fail
     refine (l2At_any b n cap G k _ HLT.out HG1.out hbl1 hn).mono ?_
     rintro e w2 ⟨⟨r,hr,hre,hrl,rfl⟩,hb2⟩
     have HB2 : Hid (Below w.heap.size w w2) := bl_then HB1.out hb2
     clear hb2
     by_cases hrk : r = k
     ·subst hrk
      have hok : codeAt G r = 0 := codeAt_ok HC.out (fun ⟨j,hj,hje⟩ => hrl j hj hje)
      have HOK : Hid (codeAt G r = 0) := hok
      clear hok hre hrl
      go_wp2
      go_roundw
      case rel => exact ⟨r + 1,by have := HLT.out; omega,by go_num,fun j hj => by
        by_cases e : j = r
        ·rw [e]; exact HOK.out
        ·exact HA.out j (by omega),HB2.out⟩
      case measure => have := HLT.out; simp [intOf]; omega
     ·have hne : (((r : Nat) : Int) == ((k : Nat) : Int)) = false := by simp; omega
      have htk : Hid (codeAt G k = 6) := codeAt_taken HC.out ⟨r,by omega,hre⟩
      have hsc : Hid (featsC n G = 6) := by
       show _ = _
       rw [hz.out,scan_first (codeAt G) n 0 k (fun j _ hj => HA.out j hj) (by omega) (by have := HLT.out; omega) (by rw [htk.out]; decide),htk.out]
      clear hre hrl
      go_wp2
      go_ret
      exact ⟨ret_int hsc.out.symm,HB2.out⟩
    ·have hsc : Hid (featsC n G = featC (G k).id (G k).la (G k).ki (G k).wi (G k).n (G k).X (G k).Y (G k).lab (G k).pr) := by
      show _ = _
      have h6 := codeAt_fault hc
      rw [hz.out,scan_first (codeAt G) n 0 k (fun j _ hj => HA.out j hj) (by omega) (by have := HLT.out; omega) (by rw [h6]; exact hc),h6]
     have hcb : (featC (G k).id (G k).la (G k).ki (G k).wi (G k).n (G k).X (G k).Y (G k).lab (G k).pr == 0) = false := by simpa using hc
     have HB1 : Hid (Below w.heap.size w w1) := bl_then HB.out hb1
     clear hc hb1
     go_wp2
     go_ret
     exact ⟨ret_int hsc.out.symm,HB1.out⟩
   ·have hsc : Hid (featsC n G = 0) := by
     show _ = _
     rw [hz.out]
     exact scan_none _ _ _ (fun j _ hj => HA.out j (by omega))
    go_wp2
    go_ret
    exact ⟨ret_int hsc.out.symm,HB.out⟩
def fcell (f : Feat) : List Value := [.int .i64 f.id, .int .i64 f.la, .int .i64 f.ki, .int .i64 f.wi, .slice f.a f.n f.cap, .string f.lab, .int .i64 f.pr]
theorem fcell_len (f : Feat) : (fcell f).length = 7 := rfl
theorem fcell_one (f : Feat) : ∀ v ∈ fcell f,v.oneCell' = true := fun v hv => by
 simp [fcell] at hv
 rcases hv with rfl | rfl | rfl | rfl | rfl | rfl | rfl <;> rfl
def cellsF (H : Nat → Feat) (l : List Nat) : List Value := l.flatMap fun j => fcell (H j)
theorem cellsF_cons (H : Nat → Feat) (j : Nat) (l : List Nat) : cellsF H (j :: l) = fcell (H j) ++ cellsF H l := by simp [cellsF]
theorem cellsF_app (H : Nat → Feat) (l m : List Nat) : cellsF H (l ++ m) = cellsF H l ++ cellsF H m := by simp [cellsF]
theorem cellsF_one (H : Nat → Feat) (j : Nat) : cellsF H [j] = fcell (H j) := by simp [cellsF]
theorem cellsF_len (H : Nat → Feat) : ∀ l : List Nat,(cellsF H l).length = l.length * 7
 | [] => rfl
 | j :: l => by rw [cellsF_cons,List.length_append,cellsF_len H l,fcell_len,List.length_cons]; omega
theorem cellsF_cell (H : Nat → Feat) (l : List Nat) : ∀ v ∈ cellsF H l,v.oneCell' = true := fun v hv => by
 unfold cellsF at hv
 rw [List.mem_flatMap] at hv
 obtain ⟨j,_,hj⟩ := hv
 exact fcell_one _ v hj
theorem cellsF_congr {H H' : Nat → Feat} : ∀ l : List Nat,(∀ j ∈ l,H j = H' j) → cellsF H l = cellsF H' l
 | [],_ => rfl
 | j :: l,h => by rw [cellsF_cons,cellsF_cons,h j (List.mem_cons_self ..),cellsF_congr l (fun k hk => h k (List.mem_cons_of_mem _ hk))]
theorem cellsF_at (H : Nat → Feat) : ∀ (l : List Nat) (i k : Nat),i < l.length → k < 7 → (cellsF H l)[i * 7 + k]? = (fcell (H (l.getD i 0)))[k]?
 | [],i,k,h,_ => absurd h (by simp)
 | j :: l,0,k,h,hk => by
  rw [cellsF_cons,Nat.zero_mul,Nat.zero_add,List.getElem?_append_left (by rw [fcell_len]; exact hk)]
  rfl
 | j :: l,i + 1,k,h,hk => by
  rw [cellsF_cons,List.getElem?_append_right (by rw [fcell_len]; omega),fcell_len]
  have e : (i + 1) * 7 + k - 7 = i * 7 + k := by omega
  rw [e,cellsF_at H l i k (by simpa using h) hk]
  rfl
def FRow (base : Nat) (w : World) (v : Value) (H : Nat → Feat) (l : List Nat) : Prop := w.ownsRow base 39 7 v l.length (cellsF H l)
theorem FRow.at {base : Nat} {w : World} {v : Value} {H : Nat → Feat} {l : List Nat} (h : FRow base w v H l) :
  (v = .slice none 0 0 ∧ l = []) ∨ ∃ g cap,v = .slice (some ⟨g,0,none⟩) l.length cap ∧ base ≤ g ∧ g < w.heap.size ∧ l.length ≤ cap ∧ There w g (l.length * 7) ∧
   ∀ i,i < l.length → FeatAt w g (i * 7) (H (l.getD i 0)).id (H (l.getD i 0)).la (H (l.getD i 0)).ki (H (l.getD i 0)).wi (.slice (H (l.getD i 0)).a (H (l.getD i 0)).n (H (l.getD i 0)).cap) (H (l.getD i 0)).lab (H (l.getD i 0)).pr := by
 obtain ⟨h1,h2 | ⟨g,cp,cur,hv,hg,hh,hkc,hcm,hcs,htk⟩⟩ := h
 ·exact .inl ⟨h2.1,by have := h2.2; cases l with
   | nil => rfl
   | cons => simp at this⟩
 ·right
  have hgl : g < w.heap.size := lt_of_heap hh
  have hrow : w.ownsRow base 39 7 (.slice (some ⟨g,0,none⟩) l.length cp) l.length (cellsF H l) := ⟨h1, .inr ⟨g,cp,cur,rfl,hg,hh,hkc,hcm,hcs,htk⟩⟩
  refine ⟨g,cp,hv,hg,hgl,hkc,fun o ho => ⟨?_,hrow.frozenAt o⟩,fun i hi => ?_⟩
  ·rw [hrow.cellAt o ho]
   have hlt : o < (cellsF H l).length := by rw [cellsF_len]; exact ho
   exact ⟨(cellsF H l)[o],List.getElem?_eq_getElem hlt⟩
  ·have c := fun k (hk : k < 7) => (hrow.cellAt (i * 7 + k) (by omega)).trans (cellsF_at H l i k hi hk)
   exact ⟨c 0 (by omega),c 1 (by omega),c 2 (by omega),c 3 (by omega),c 4 (by omega),c 5 (by omega),c 6 (by omega)⟩
theorem FRow.below {base : Nat} {w w' : World} {v : Value} {H : Nat → Feat} {l : List Nat} (h : FRow base w v H l) (hb : Below w.heap.size w w') : FRow base w' v H l := by
 obtain ⟨h1,h2 | ⟨g,cp,cur,hv,hg,hh,hr⟩⟩ := h
 ·exact ⟨h1, .inl h2⟩
 ·exact ⟨h1, .inr ⟨g,cp,cur,hv,hg,(hb.block g (lt_of_heap hh)).trans hh,hr⟩⟩
theorem FRow.is {base : Nat} {w : World} {v : Value} {H : Nat → Feat} {l : List Nat} (h : FRow base w v H l) (hp : ∀ j ∈ l,IsPts w (H j).a (H j).n (H j).X (H j).Y) :
  ∃ a cap,v = .slice a l.length cap ∧ l.length ≤ cap ∧ IsFs w a l.length (fun i => H (l.getD i 0)) := by
 rcases h.at with ⟨rfl,rfl⟩ | ⟨g,cap,hv,hg,hgl,hc,hT,hF⟩
 ·exact ⟨none,0,rfl,Nat.le_refl _, .inl rfl⟩
 ·refine ⟨_,cap,hv,hc, .inr ⟨g,0,rfl,hgl,fun i hi => ⟨?_,?_⟩⟩⟩
  ·rw [Nat.zero_add]; exact hF i hi
  ·refine hp _ ?_
   rw [List.getD_eq_getElem?_getD,List.getElem?_eq_getElem hi]
   exact List.getElem_mem hi
theorem Feat.same_symm {f g : Feat} (h : f.same g) : g.same f := by
 obtain ⟨h1,h2,h3,h4,h5,h6,h7,h8,h9⟩ := h
 exact ⟨h1.symm,h2.symm,h3.symm,h4.symm,h5.symm,h6.symm,h7.symm,h8.symm,h9.symm⟩
theorem Feat.same_trans {f g h : Feat} (a : f.same g) (b : g.same h) : f.same h := by
 obtain ⟨h1,h2,h3,h4,h5,h6,h7,h8,h9⟩ := a
 obtain ⟨k1,k2,k3,k4,k5,k6,k7,k8,k9⟩ := b
 exact ⟨h1.trans k1,h2.trans k2,h3.trans k3,h4.trans k4,h5.trans k5,h6.trans k6,h7.trans k7,h8.trans k8,h9.trans k9⟩
theorem featsC_ok {n : Nat} {G : Nat → Feat} (h : featsC n G = 0) : n ≤ 12 ∧ apartK (fun i => (G i).id) n ∧ ∀ i,i < n → featC (G i).id (G i).la (G i).ki (G i).wi (G i).n (G i).X (G i).Y (G i).lab (G i).pr = 0 := by
 unfold featsC at h
 by_cases h12 : 12 < n
 ·rw [if_pos h12] at h; cases h
 ·rw [if_neg h12] at h
  have hz := scan_zero _ _ _ h
  have hA : ∀ i,i < n → featC (G i).id (G i).la (G i).ki (G i).wi (G i).n (G i).X (G i).Y (G i).lab (G i).pr = 0 ∧ ¬ ∃ j,j < i ∧ (G j).id = (G i).id := fun i hi => by
   have := hz i (Nat.zero_le _) (by omega)
   unfold codeAt at this
   by_cases hf : featC (G i).id (G i).la (G i).ki (G i).wi (G i).n (G i).X (G i).Y (G i).lab (G i).pr ≠ 0
   ·rw [if_pos hf] at this; exact absurd this hf
   ·rw [if_neg hf] at this
    by_cases hj : ∃ j,j < i ∧ (G j).id = (G i).id
    ·rw [if_pos hj] at this; cases this
    ·exact ⟨by simpa using hf,hj⟩
  refine ⟨by omega,fun i j hi hj e => ?_,fun i hi => (hA i hi).1⟩
  rcases Nat.lt_trichotomy i j with h | h | h
  ·exact absurd ⟨i,h,e⟩ (hA j hj).2
  ·exact h
  ·exact absurd ⟨j,h,e.symm⟩ (hA i hi).2
theorem FeaturesFault_any (b n cap : Nat) (G : Nat → Feat) (w : World) (hg : FsAt w b 0 n G) (hbl : b < w.heap.size) (hs : SmallFs n G) (hcap : n ≤ cap) :
  Calls Tryz.prog 43 #[.slice (some ⟨b,0,none⟩) n cap] w fun e w' => e = .returned (.int .i64 (featsC n G)) ∧ Below w.heap.size w w' := by
 have HG : Hid (FsAt w b 0 n G) := hg
 have HS : Hid (SmallFs n G) := hs
 have hn := hs.1
 clear hg hs
 by_cases h12 : (12 : Int) < n
 ·have hz : Hid (featsC n G = 2) := by show _ = _; unfold featsC; rw [if_pos (by omega)]
  go_enter Tryz.func43,Tryz.ntmps43
  go_wp2
  go_ret
  exact ⟨ret_int hz.out.symm,by (repeat (first|exact Qr _ _|assumption|refine Qd ?_|refine Qa ?_ _|refine Qt ?_|refine Qs ?_ _|refine Qo ?_ ?_ _ _))⟩
 ·have hz : Hid (featsC n G = scanC (codeAt G) 0 n) := by show _ = _; unfold featsC; rw [if_neg (by omega)]
  go_enter Tryz.func43,Tryz.ntmps43
  go_wp2
  go_loopw [11] (fun v wr => ∃ k : Nat,k ≤ n ∧ v = .int .i64 k ∧ (∀ j,j < k → codeAt G j = 0) ∧ Below w.heap.size w wr) (fun v _ => n - (intOf v).toNat)
  case atStart => exact ⟨0,by omega,rfl,by omega,Below.refl _ _⟩
  case round =>
   obtain ⟨k,hk,rfl,hA,hB⟩ := hrel
   have HB : Hid (Below w.heap.size w wr) := hB
   have HA : Hid (∀ j,j < k → codeAt G j = 0) := hA
   by_cases hlt : k < n
   ·have HGr : Hid (FsAt wr b 0 n G) := HG.out.below hB hbl
    have hblr : b < wr.heap.size := Nat.lt_of_lt_of_le hbl hB.size
    obtain ⟨⟨f0,f1,f2,f3,f4,f5,f6⟩,hP⟩ := HGr.out k hlt
    simp only [Nat.zero_add] at f0 f1 f2 f3 f4 f5 f6
    have HP : Hid (IsPts wr (G k).a (G k).n (G k).X (G k).Y) := hP
    obtain ⟨z1,z2⟩ := HS.out.2 k hlt
    have HLT : Hid (k < n) := hlt
    clear hB hA hP
    have hi : (k : Int) < (n : Int) := by omega
    have hi0 : (0 : Int) ≤ (k : Int) := by omega
    go_wp2_with fail
    generalize hV : (wr.alloc _ : World) = V
    have hBV : Below wr.heap.size wr V := by subst hV; (repeat (first|exact Qr _ _|assumption|refine Qd ?_|refine Qa ?_ _|refine Qt ?_|refine Qs ?_ _|refine Qo ?_ ?_ _ _))
    have v0 : ∀ W',Below V.heap.size V W' → W'.cell? ⟨wr.heap.size,0,none⟩ = some (.int .i64 (G k).id) := fun W' h => by
     rw [h.cell (by subst hV; simp)]; subst hV; simp [go_sem]
    clear hV
    have HBV : Hid (Below w.heap.size w V) := bl_then HB.out hBV
    have HGV : Hid (FsAt V b 0 n G) := HGr.out.below hBV hblr
    have hblV : b < V.heap.size := Nat.lt_of_lt_of_le hblr hBV.size
    have HPV : Hid (IsPts V (G k).a (G k).n (G k).X (G k).Y) := HP.out.below hBV
    clear hBV f0 f1 f2 f3 f4 f5 f6 HP HGr
    refine (FeatureFault_any _ _ _ _ _ _ _ (G k).X (G k).Y _ _ _ HPV.out z2 z1).mono ?_
    rintro e w1 ⟨rfl,hb1⟩
    by_cases hc : featC (G k).id (G k).la (G k).ki (G k).wi (G k).n (G k).X (G k).Y (G k).lab (G k).pr = 0
    ·rw [hc]
     have HC : Hid (featC (G k).id (G k).la (G k).ki (G k).wi (G k).n (G k).X (G k).Y (G k).lab (G k).pr = 0) := hc
     have HB1 : Hid (Below V.heap.size V w1) := hb1
     have hr1 : Below V.heap.size V w1 := hb1
     clear hc hb1
     have hk0 : (k : Int) ≤ (n : Int) := by omega
     have hkc : (k : Int) ≤ (cap : Int) := by omega
     by_cases hx : ∃ j,j < k ∧ (G j).id = (G k).id
     ·have HH : Hid (∀ W',Below V.heap.size V W' → Calls Tryz.prog 84 #[.slice (some ⟨b,0,none⟩) k cap, .int .i64 (G k).id] W' fun e w' => e = .returned (.bool true) ∧ Below W'.heap.size W' w') := fun W' h => by
       refine (hasId_any b k cap n G (G k).id W' (Nat.le_of_lt HLT.out) (HGV.out.below h hblV) (Nat.lt_of_lt_of_le hblV h.size) (by omega)).mono ?_
       rintro e w' ⟨⟨he,_⟩ | ⟨_,hno⟩,hb⟩
       ·exact ⟨he,hb⟩
       ·obtain ⟨j,hj,hje⟩ := hx
        exact absurd hje (hno j hj)
      have htk : Hid (codeAt G k = 6) := codeAt_taken HC.out hx
      have hsc : Hid (featsC n G = 6) := by
       show _ = _
       rw [hz.out,scan_first (codeAt G) n 0 k (fun j _ hj => HA.out j hj) (by omega) (by have := HLT.out; omega) (by rw [htk.out]; decide),htk.out]
      clear hx
      go_wp2_with fail
      go_region_held3 (fun W' => Below V.heap.size V W') ((repeat (first|exact Qr _ _|assumption|refine Qd ?_|refine Qa ?_ _|refine Qt ?_|refine Qs ?_ _|refine Qo ?_ ?_ _ _)))
       (first | (go_at_call 84; refine (HH.out _ (by assumption)).mono ?_; rintro e w' ⟨rfl,hb⟩))
      go_wp2
      go_ret
      exact ⟨ret_int hsc.out.symm,bl_then HBV.out (by assumption)⟩
     ·have HH : Hid (∀ W',Below V.heap.size V W' → Calls Tryz.prog 84 #[.slice (some ⟨b,0,none⟩) k cap, .int .i64 (G k).id] W' fun e w' => e = .returned (.bool false) ∧ Below W'.heap.size W' w') := fun W' h => by
       refine (hasId_any b k cap n G (G k).id W' (Nat.le_of_lt HLT.out) (HGV.out.below h hblV) (Nat.lt_of_lt_of_le hblV h.size) (by omega)).mono ?_
       rintro e w' ⟨⟨_,hyes⟩ | ⟨he,_⟩,hb⟩
       ·exact absurd hyes hx
       ·exact ⟨he,hb⟩
      have HOK : Hid (codeAt G k = 0) := codeAt_ok HC.out hx
      clear hx
      go_wp2_with fail
      go_region_held3 (fun W' => Below V.heap.size V W') ((repeat (first|exact Qr _ _|assumption|refine Qd ?_|refine Qa ?_ _|refine Qt ?_|refine Qs ?_ _|refine Qo ?_ ?_ _ _)))
       (first | (go_at_call 84; refine (HH.out _ (by assumption)).mono ?_; rintro e w' ⟨rfl,hb⟩))
      go_wp2
      go_roundw
      case rel => exact ⟨k + 1,by have := HLT.out; omega,by go_num,fun j hj => by
        by_cases e : j = k
        ·rw [e]; exact HOK.out
        ·exact HA.out j (by omega),bl_then HBV.out (by assumption)⟩
      case measure => have := HLT.out; simp [intOf]; omega
    ·have hsc : Hid (featsC n G = featC (G k).id (G k).la (G k).ki (G k).wi (G k).n (G k).X (G k).Y (G k).lab (G k).pr) := by
      show _ = _
      have h6 := codeAt_fault hc
      rw [hz.out,scan_first (codeAt G) n 0 k (fun j _ hj => HA.out j hj) (by omega) (by have := HLT.out; omega) (by rw [h6]; exact hc),h6]
     have hcb : (featC (G k).id (G k).la (G k).ki (G k).wi (G k).n (G k).X (G k).Y (G k).lab (G k).pr == 0) = false := by simpa using hc
     have HB1 : Hid (Below w.heap.size w w1) := bl_then HBV.out hb1
     clear hc hb1
     go_wp2
     go_ret
     exact ⟨ret_int hsc.out.symm,HB1.out⟩
   ·have hsc : Hid (featsC n G = 0) := by
     show _ = _
     rw [hz.out]
     exact scan_none _ _ _ (fun j _ hj => HA.out j (by omega))
    go_wp2
    go_ret
    exact ⟨ret_int hsc.out.symm,HB.out⟩

theorem OutAt.keeps {s : Nat} {w w' : World} {O : Nat} {id la ki wi pr : Int} {v : Value} {lab : ByteArray} (h : OutAt w O id la ki wi v lab pr) (hk : Keeps s w w') (hs : O ≠ s) : OutAt w' O id la ki wi v lab pr := (hk.block O h.lt hs).trans h
theorem text4 (w : World) (s0 s1 s2 s3 : ByteArray) (T : TypeId) (v : Nat) (hv : v < 4) (B : Nat) (h0 : s0.size ≤ B) (h1 : s1.size ≤ B) (h2 : s2.size ≤ B) (h3 : s3.size ≤ B) :
  ∃ lab : ByteArray,lab.size ≤ B ∧ (w.alloc (.cells #[.string s0, .string s1, .string s2, .string s3] T)).cell? ⟨w.heap.size,v,none⟩ = some (.string lab) := by
 have hc : v = 0 ∨ v = 1 ∨ v = 2 ∨ v = 3 := by omega
 rcases hc with rfl | rfl | rfl | rfl
 ·exact ⟨s0,h0,by simp [go_sem]⟩
 ·exact ⟨s1,h1,by simp [go_sem]⟩
 ·exact ⟨s2,h2,by simp [go_sem]⟩
 ·exact ⟨s3,h3,by simp [go_sem]⟩
theorem resD (T : Array Value) (Wf : World) (r : Nat) (v0 v1 v2 v3 v4 v5 v6 : Value) (hT : T[2]?.getD undef = .pointer (some ⟨r,0,none⟩)) (h0 : Wf.cell? ⟨r,0,none⟩ = some v0) (h1 : Wf.cell? ⟨r,1,none⟩ = some v1) (h2 : Wf.cell? ⟨r,2,none⟩ = some v2) (h3 : Wf.cell? ⟨r,3,none⟩ = some v3) (h4 : Wf.cell? ⟨r,4,none⟩ = some v4) (h5 : Wf.cell? ⟨r,5,none⟩ = some v5) (h6 : Wf.cell? ⟨r,6,none⟩ = some v6) :
  (results Tryz.f83 T).run Tryz.prog Wf = .ok (.agg #[v0,v1,v2,v3,v4,v5,v6]) Wf := by
 simp [results,Tryz.results83,go_sem,hT,h0,h1,h2,h3,h4,h5,h6]
theorem Src.set7 {a : Option Addr} {n cap : Nat} {Z : Nat → Int} {s t r : Nat} {w : World} {v0 v1 v2 v3 v4 v5 v6 : Value} (h : Src a n cap Z s t w) (hr : s < r) : Src a n cap Z s t ((((((((w.setCell ⟨r,0,none⟩ v0).setCell ⟨r,1,none⟩ v1).setCell ⟨r,2,none⟩ v2).setCell ⟨r,3,none⟩ v3).setCell ⟨r,4,none⟩ v4).setCell ⟨r,5,none⟩ v5).setCell ⟨r,6,none⟩ v6)) :=
 (((((((h.other 0 v0 hr).other 1 v1 hr).other 2 v2 hr).other 3 v3 hr).other 4 v4 hr).other 5 v5 hr).other 6 v6 hr)
theorem Keeps.set7 {s r : Nat} {w w' : World} {v0 v1 v2 v3 v4 v5 v6 : Value} (h : Keeps s w w') (hr : w.heap.size ≤ r) : Keeps s w ((((((((w'.setCell ⟨r,0,none⟩ v0).setCell ⟨r,1,none⟩ v1).setCell ⟨r,2,none⟩ v2).setCell ⟨r,3,none⟩ v3).setCell ⟨r,4,none⟩ v4).setCell ⟨r,5,none⟩ v5).setCell ⟨r,6,none⟩ v6)) :=
 (((((((h.own1 hr 0 v0).own1 hr 1 v1).own1 hr 2 v2).own1 hr 3 v3).own1 hr 4 v4).own1 hr 5 v5).own1 hr 6 v6)
theorem l2Draw_any (a : Option Addr) (n cap : Nat) (Z : Nat → Int) (s t : Nat) (w : World) (h : Src a n cap Z s t w) (hcap : n ≤ cap) (ht : t ≤ 500) :
  Calls Tryz.prog 83 #[.pointer (some ⟨s,0,none⟩)] w fun e w' => ∃ (id la ki wi : Int) (v : Value) (lab : ByteArray) (pr : Int) (l : List (Int × Int)) (t' : Nat),e = .returned (.agg #[.int .i64 id, .int .i64 la, .int .i64 ki, .int .i64 wi,v, .string lab, .int .i64 pr]) ∧ Row w.heap.size w' v l ∧ 0 < l.length ∧ l.length ≤ 6 ∧ lab.size ≤ 6 ∧ t' ≤ t + 50 ∧ Src a n cap Z s t' w' ∧ Keeps s w w' := by
 obtain ⟨i0,hi,hz0,hz1,hz2⟩ := info_parts (show (Tryz.prog.info? 67).map (fun i => (i.zero,i.size,i.bytes)) = some (some (.agg #[.int .i64 0, .int .i64 0]),2,16) by kernel_rfl)
 have hsl : s < w.heap.size := World.block_lt_of_cell? _ _ h.code
 go_enter Tryz.func83,Tryz.ntmps83
 go_wp2_with fail
 generalize hW : (w.alloc _ : World) = W
 have hB0 : Below w.heap.size w W := by subst hW; (repeat (first|exact Qr _ _|assumption|refine Qd ?_|refine Qa ?_ _|refine Qt ?_|refine Qs ?_ _|refine Qo ?_ ?_ _ _))
 have HT0 : Hid (There W w.heap.size 7) := by
  show There _ _ _
  subst hW
  exact there7 w (.int .i64 0) (.int .i64 0) (.int .i64 0) (.int .i64 0) (.slice none 0 0) (.string ⟨#[]⟩) (.int .i64 0) 39
 have hsW : w.heap.size < W.heap.size := by subst hW; simp
 clear hW
 have HS0 : Hid (Src a n cap Z s t W) := h.below hB0
 have HK0 : Hid (Keeps s w W) := Keeps.of_below hB0
 clear h hB0
 refine (l1Next_any a n cap Z s t 30 _ HS0.out hcap (by omega) (by omega) (by omega)).mono ?_
 rintro e w1 ⟨v1,rfl,hv1,hS1,hK1⟩
 have HS1 : Hid (Src a n cap Z s (t + 1) w1) := hS1
 have HK1 : Hid (Keeps s w w1) := HK0.out.trans hK1
 have HT1 : Hid (There w1 w.heap.size 7) := HT0.out.keeps hK1 (by omega)
 have hz1' := hK1.size
 clear hS1 hK1 HS0 HK0 HT0
 go_wp2_with fail
 refine (l1Next_any a n cap Z s (t + 1) 3 _ HS1.out hcap (by omega) (by omega) (by omega)).mono ?_
 rintro e w2 ⟨v2,rfl,hv2,hS2,hK2⟩
 have HS2 : Hid (Src a n cap Z s (t + 2) w2) := hS2
 have HK2 : Hid (Keeps s w w2) := HK1.out.trans hK2
 have HT2 : Hid (There w2 w.heap.size 7) := HT1.out.keeps hK2 (by omega)
 have hz2' := hK2.size
 clear hS2 hK2 HS1 HK1 HT1
 go_wp2_with fail
 refine (l1Next_any a n cap Z s (t + 2) 3 _ HS2.out hcap (by omega) (by omega) (by omega)).mono ?_
 rintro e w3 ⟨v3,rfl,hv3,hS3,hK3⟩
 have HS3 : Hid (Src a n cap Z s (t + 3) w3) := hS3
 have HK3 : Hid (Keeps s w w3) := HK2.out.trans hK3
 have HT3 : Hid (There w3 w.heap.size 7) := HT2.out.keeps hK3 (by omega)
 have hz3' := hK3.size
 clear hS3 hK3 HS2 HK2 HT2
 go_wp2_with fail
 refine (l1Next_any a n cap Z s (t + 3) 4 _ HS3.out hcap (by omega) (by omega) (by omega)).mono ?_
 rintro e w4 ⟨v4,rfl,hv4,hS4,hK4⟩
 have HS4 : Hid (Src a n cap Z s (t + 4) w4) := hS4
 have HK4 : Hid (Keeps s w w4) := HK3.out.trans hK4
 have HT4 : Hid (There w4 w.heap.size 7) := HT3.out.keeps hK4 (by omega)
 have hz4' := hK4.size
 clear hS4 hK4 HS3 HK3 HT3
 go_wp2_with fail
 refine (l1Next_any a n cap Z s (t + 4) 3 _ HS4.out hcap (by omega) (by omega) (by omega)).mono ?_
 rintro e w5 ⟨v5,rfl,hv5,hS5,hK5⟩
 have HS5 : Hid (Src a n cap Z s (t + 5) w5) := hS5
 have HK5 : Hid (Keeps s w w5) := HK4.out.trans hK5
 have HT5 : Hid (There w5 w.heap.size 7) := HT4.out.keeps hK5 (by omega)
 have hz5' := hK5.size
 clear hS5 hK5 HS4 HK4 HT4
 go_wp2_with fail
 generalize hL : (w5.alloc _ : World) = L
 have hbL : Below w5.heap.size w5 L := by subst hL; (repeat (first|exact Qr _ _|assumption|refine Qd ?_|refine Qa ?_ _|refine Qt ?_|refine Qs ?_ _|refine Qo ?_ ?_ _ _))
 have hsL : w5.heap.size < L.heap.size := by subst hL; simp
 have HLab : Hid (∀ v,v < 4 → ∃ lab : ByteArray,lab.size ≤ 6 ∧ L.cell? ⟨w5.heap.size,v,none⟩ = some (.string lab)) := fun v hv => by
  subst hL
  exact text4 w5 _ _ _ _ _ v hv 6 (by decide) (by decide) (by decide) (by decide)
 clear hL
 refine (l1Next_any a n cap Z s (t + 5) 4 _ (HS5.out.below hbL) hcap (by omega) (by omega) (by omega)).mono ?_
 rintro e w6 ⟨v6,rfl,hv6,hS6,hK6⟩
 obtain ⟨lab,hlab,hcl⟩ := HLab.out v6 hv6
 have hcl6 : w6.cell? ⟨w5.heap.size,v6,none⟩ = some (.string lab) := (hK6.cell (p := ⟨w5.heap.size,v6,none⟩) (show w5.heap.size < L.heap.size from hsL) (by show w5.heap.size ≠ s; omega)).trans hcl
 have HS6 : Hid (Src a n cap Z s (t + 6) w6) := hS6
 have HK6 : Hid (Keeps s w w6) := (HK5.out.trans (Keeps.of_below hbL)).trans hK6
 have HT6 : Hid (There w6 w.heap.size 7) := (HT5.out.below hbL).keeps hK6 (by omega)
 have hz6' := hK6.size
 have hv6i : (v6 : Int) < 4 := by omega
 clear hS6 hK6 HS5 HK5 HT5 hbL HLab hcl
 go_upto_if 25 with fail
 generalize hV : (w6.alloc _ : World) = V
 have hbV : Below w6.heap.size w6 V := by subst hV; (repeat (first|exact Qr _ _|assumption|refine Qd ?_|refine Qa ?_ _|refine Qt ?_|refine Qs ?_ _|refine Qo ?_ ?_ _ _))
 have hsV : w6.heap.size < V.heap.size := by subst hV; simp
 have hki : 1 ≤ 1 + (v3 : Int) ∧ 1 + (v3 : Int) ≤ 3 := by omega
 have HOV : Hid (OutAt V w6.heap.size (1 + (v1 : Int)) (v2 : Int) (1 + (v3 : Int)) (v4 : Int) (.slice none 0 0) lab (v5 : Int)) := by
  show OutAt _ _ _ _ _ _ _ _ _
  subst hV
  exact heap_alloc_new w6 _
 generalize (1 + (v1 : Int)) = id at *
 generalize (1 + (v3 : Int)) = ki at *
 generalize (v2 : Int) = la at *
 generalize (v4 : Int) = wi at *
 generalize (v5 : Int) = pr at *
 have HSV : Hid (Src a n cap Z s (t + 6) V) := HS6.out.below hbV
 have HKV : Hid (Keeps s w V) := HK6.out.trans (Keeps.of_below hbV)
 have HTV : Hid (There V w.heap.size 7) := HT6.out.below hbV
 have HVS : Hid (w.heap.size < w6.heap.size ∧ w6.heap.size < V.heap.size ∧ s < w.heap.size) := ⟨by omega,hsV,hsl⟩
 clear hV hbV hcl6 HS6 HK6 HT6
 go_cut [4] (fun u wc => ∃ (kk : Nat) (t' : Nat),u = .int .i64 kk ∧ 0 < kk ∧ kk ≤ 6 ∧ t' ≤ t + 7 ∧ Src a n cap Z s t' wc ∧ Keeps s V wc)
 case first =>
  by_cases hk1 : ki = 1
  ·subst hk1
   go_wp2_with fail
   go_meet
   case rel => exact ⟨1,t + 6,rfl,by omega,by omega,by omega,HSV.out,Keeps.refl _ _⟩
  ·have hkb : (ki != 1) = true := by simpa using hk1
   have r2 : ∀ W',Keeps s V W' → W'.cell? ⟨w6.heap.size,2,none⟩ = some (.int .i64 ki) := fun W' h => (HOV.out.keeps h (by omega)).cells.1.2.2.1
   go_wp2_with fail
   refine wp_region_noPanic ?_
   refine wp_region_held_drew (S := fun W' => Keeps s V W') (by kernel_rfl) (Keeps.refl s V).drew (fun hHeld => ?_)
   refine takeK (i := 0) (d := some 26) (v := ?vr0) rfl rfl (Or.inl ⟨by rfl,?hyr0⟩) (by assumption) ?_
   case hyr0 => (intro w hSw; (try dsimp only at hSw); go_simp <;> with_reducible rfl)
   simp only [Act.put,Qx,Qy,Qz]
   refine takeK (i := 1) (d := some 27) (v := ?vr1) rfl rfl (Or.inl ⟨by rfl,?hyr1⟩) (by assumption) ?_
   case hyr1 => (intro w hSw; (try dsimp only at hSw); go_simp <;> with_reducible rfl)
   simp only [Act.put,Qx,Qy,Qz]
   refine takeK (i := 2) (d := some 28) (v := ?vr2) rfl rfl (Or.inl ⟨by rfl,?hyr2⟩) (by assumption) ?_
   case hyr2 => (intro w hSw; (try dsimp only at hSw); go_simp <;> with_reducible rfl)
   simp only [Act.put,Qx,Qy,Qz]
   refine wpAnyH_ready (rs := [3]) (by kernel_rfl) (by simp) ?_
   refine AllReadyH.cons rfl (fun K hK => ?_) AllReadyH.nil
   go_simp
   refine (l1Next_any a n cap Z s (t + 6) 4 _ HSV.out.drew hcap (by omega) (by omega) (by omega)).mono ?_
   rintro e w7 ⟨v7,rfl,hv7,hS7,hK7⟩
   have hw7 : IntKind.i64.wrap (ki + (v7 : Int)) = ki + (v7 : Int) := IntWalk.i64_in _ (by omega)
   have hKV7 : Keeps s V w7 := (Keeps.refl s V).drew.trans hK7
   go_wp2_with fail
   refine hK.out _ _ hKV7 (fun hHeld => ?_)
   clear hK K
   try simp only [Act.put,Qx,Qy,Qz]
   refine takeK (i := 4) (d := some 30) (v := ?vr4) rfl rfl (Or.inl ⟨by rfl,?hyr4⟩) (by assumption) ?_
   case hyr4 => (intro w hSw; (try dsimp only at hSw); go_simp <;> with_reducible rfl)
   simp only [Act.put,Qx,Qy,Qz]
   refine takeK (i := 5) (d := some 4) (v := ?vr5) rfl rfl (Or.inl ⟨by rfl,?hyr5⟩) (by assumption) ?_
   case hyr5 => (intro w hSw; (try dsimp only at hSw); go_simp <;> with_reducible rfl)
   simp only [Act.put,Qx,Qy,Qz]
   refine wpAnyH_done (by kernel_rfl) ?_ _
   refine NoPanic.normal ?_
   go_wp2_with fail
   go_meet
   case rel => exact ⟨ki.toNat + v7,t + 7,by rw [show ((ki.toNat + v7 : Nat) : Int) = ki + (v7 : Int) by omega],by omega,by omega,by omega,hS7,hKV7⟩
 case rest =>
  obtain ⟨kk,t7,rfl,hk0,hk6,ht7,hS7,hK7⟩ := hcut
  generalize wc = wA at *
  have HOA : Hid (OutAt wA w6.heap.size id la ki wi (.slice none 0 0) lab pr) := HOV.out.keeps hK7 (by omega)
  have HTA : Hid (There wA w.heap.size 7) := HTV.out.keeps hK7 (by omega)
  have HSA : Hid (Src a n cap Z s t7 wA) := hS7
  have HKA : Hid (Keeps s w wA) := HKV.out.trans hK7
  have hsA := hK7.size
  clear hS7 hK7 HOV HTV HSV HKV
  go_wp2_with fail
  go_loopw [4] (fun u wr => ∃ (j c t' : Nat) (v : Value) (l : List (Int × Int)),u = .int .i64 j ∧ c + j = kk ∧ t' ≤ t + 7 + 6 * c ∧ l.length = c ∧ Row V.heap.size wr v l ∧ OutAt wr w6.heap.size id la ki wi v lab pr ∧ There wr w.heap.size 7 ∧ Src a n cap Z s t' wr ∧ Keeps s w wr ∧ V.heap.size ≤ wr.heap.size) (fun u _ => (intOf u).toNat)
  case atStart => exact ⟨kk,0,t7, .slice none 0 0, [],rfl,by omega,by omega,rfl,Row.no _ _,HOA.out,HTA.out,HSA.out,HKA.out,hsA⟩
  case round =>
   obtain ⟨j,c,t',v,l,rfl,hcj,ht',hlc,hR,hO,hT,hS,hK,hsr⟩ := hrel
   have HR : Hid (Row V.heap.size wr v l) := hR
   have HO : Hid (OutAt wr w6.heap.size id la ki wi v lab pr) := hO
   have HT : Hid (There wr w.heap.size 7) := hT
   have HS : Hid (Src a n cap Z s t' wr) := hS
   have HK : Hid (Keeps s w wr) := hK
   clear hR hO hT hS hK
   by_cases hj : 0 < j
   ·have hji : (0 : Int) < (j : Int) := by omega
    go_wp2_with fail
    refine wp_region_noPanic ?_
    refine wp_region_L (S := fun W' => W'.cell? ⟨w6.heap.size,4,none⟩ = some v) (z := 7) (by kernel_rfl) ?_
    have hSd : wr.drew.cell? ⟨w6.heap.size,4,none⟩ = some v := HO.out.cells.1.2.2.2.2.1
    refine wpAnyL_take (i := 0) (v := ?v0) rfl (by kernel_rfl) (by kernel_rfl) (by kernel_rfl) (by kernel_rfl) (fun _ _ _ h => h) (Or.inl ⟨by rfl,?hy0⟩) hSd ?_
    case hy0 => (intro w hSw; (try dsimp only at hSw); go_simp <;> with_reducible rfl)
    try simp only [Act.put,Qx,Qy,Qz]
    refine wpAnyL_take (i := 1) (v := ?v1) rfl (by kernel_rfl) (by kernel_rfl) (by kernel_rfl) (by kernel_rfl) (fun _ _ _ h => h) (Or.inl ⟨by rfl,?hy1⟩) hSd ?_
    case hy1 => (intro w hSw; (try dsimp only at hSw); go_simp <;> with_reducible rfl)
    try simp only [Act.put,Qx,Qy,Qz]
    refine wpAnyL_take (i := 2) (v := ?v2) rfl (by kernel_rfl) (by kernel_rfl) (by kernel_rfl) (by kernel_rfl) (fun _ _ _ h => h) (Or.inl ⟨by rfl,?hy2⟩) hSd ?_
    case hy2 => (intro w hSw; (try dsimp only at hSw); go_simp <;> with_reducible rfl)
    try simp only [Act.put,Qx,Qy,Qz]
    refine wpAnyL_one (i := 3) (by kernel_rfl) rfl (fun K hK => ?_)
    go_simp
    refine (l1Draw_any a n cap Z s t' _ HS.out.drew hcap (by omega)).mono ?_
    rintro e w2' ⟨x,y,rfl,hS2,hK2⟩
    have hK2' : Keeps s wr w2' := (Keeps.refl s wr).drew.trans hK2
    have hO2 : OutAt w2' w6.heap.size id la ki wi v lab pr := HO.out.keeps hK2' (by omega)
    have hR2 : Row V.heap.size w2' v l := ownsRow_keeps HR.out hK2' (by omega)
    have hT2 : There w2' w.heap.size 7 := HT.out.keeps hK2' (by omega)
    have hS2c := hO2.cells.1.2.2.2.2.1
    have hsz2 := hK2'.size
    have hVw := HVS.out
    go_wp2_with fail
    refine hK.out _ _ (fun _ => hS2c) ?_
    clear hK K
    try simp only [Act.put,Qx,Qy,Qz]
    refine wpAnyL_one (i := 4) (by kernel_rfl) rfl (fun K hK => ?_)
    go_simp
    have hbA : Below w2'.heap.size w2' (w2'.alloc (.cells #[.int .i64 x, .int .i64 y] 67)) := bl_alloc (Below.refl _ _) _
    have hS3c : (w2'.alloc (.cells #[.int .i64 x, .int .i64 y] 67)).cell? ⟨w6.heap.size,4,none⟩ = some v := bl_cell hbA hS2c
    refine hK.out _ _ (fun _ => hS3c) ?_
    clear hK K
    try simp only [Act.put,Qx,Qy,Qz]
    refine wpAnyL_one (i := 5) (by kernel_rfl) rfl (fun K hK => ?_)
    refine step_append_own rfl (.tmp 36) (.tmp 39) 37 rfl V.heap.size 67 i0 (.agg #[.int .i64 0, .int .i64 0]) 2 16 Tryz.underlying37 hi hz0 hz1 hz2 rfl (by decide) v l.length (cellsL l) rfl (World.ownsRow.alloc hR2 _) ⟨w2'.heap.size,0,none⟩ 1 1 [.int .i64 x, .int .i64 y] rfl rfl ?c1 ?c2 ?c3 ?c4 ?c5 ?_
    case c1 =>
     intro q u hq
     match q,hq with
     | 0,hq => simp at hq; subst hq; simp [Addr.add,go_sem]
     | 1,hq => simp at hq; subst hq; simp [Addr.add,go_sem]
     | q + 2,hq => simp at hq
    case c2 => intro u hu; simp at hu; rcases hu with rfl | rfl <;> rfl
    case c3 => unfold maxLen; omega
    case c4 => omega
    case c5 => first | omega | (simp; omega)
    intro v' w3' hown' hgrow hnil
    clear hnil
    have hBg : Below V.heap.size (w2'.alloc (.cells #[.int .i64 x, .int .i64 y] 67)) w3' := (Below.refl _ _).grown hgrow (by simp; omega) (fun k hk => (hR2.lt k hk).1)
    have hB3 : Below V.heap.size w2' w3' := (hbA.mono (by omega)).trans hBg
    have hN3 : NP w2' w3' := (NP.of_below hbA).trans (NP.of_grown (hR2.below hbA) hgrow)
    have hO3 : OutAt w3' w6.heap.size id la ki wi v lab pr := hO2.np hN3
    have hT3 : There w3' w.heap.size 7 := There.belowB' hT2 hB3 (by omega)
    have hR3 : Row V.heap.size w3' v' (l ++ [(x,y)]) := by
     show World.ownsRow _ _ _ _ _ _ _
     rw [cellsL_add,List.length_append]
     exact hown'
    have hS3' : Src a n cap Z s (t' + 6) w3' := hS2.belowB hB3 (by omega)
    have hK3' : Keeps s w w3' := (HK.out.trans hK2').thenB (hB3.mono (by omega))
    have HZ9 : Hid (∀ u : Value,V.heap.size ≤ (w3'.setCell ⟨w6.heap.size,4,none⟩ u).heap.size) := fun u => by
     have := hB3.size
     simp [World.setCell]
     omega
    obtain ⟨⟨_,_,_,_,o4,_,_⟩,of4⟩ := hO3.cells
    obtain ⟨a6,c6,hv6',_,_⟩ := hR3.own
    show K (Act.put _ (some 40) v') w3'
    refine hK.out _ _ (fun _ => o4) ?_
    clear hK K
    try simp only [Act.put,Qx,Qy,Qz]
    have HO4 : Hid (OutAt (w3'.setCell ⟨w6.heap.size,4,none⟩ v') w6.heap.size id la ki wi v' lab pr) := hO3.set
    have HR4 : Hid (Row V.heap.size (w3'.setCell ⟨w6.heap.size,4,none⟩ v') v' (l ++ [(x,y)])) := hR3.out hO3
    have HT4' : Hid (There (w3'.setCell ⟨w6.heap.size,4,none⟩ v') w.heap.size 7) := There.out hT3 (by omega)
    have HS4' : Hid (Src a n cap Z s (t' + 6) (w3'.setCell ⟨w6.heap.size,4,none⟩ v')) := hS3'.other _ _ (by omega)
    have HK4' : Hid (Keeps s w (w3'.setCell ⟨w6.heap.size,4,none⟩ v')) := hK3'.own1 (by omega) _ _
    generalize (l ++ [(x,y)]).length = N6 at hv6'
    refine wpAnyL_take (i := 6) (v := ?v6) rfl (by kernel_rfl) (by kernel_rfl) (by kernel_rfl) (by kernel_rfl) (fun _ _ _ h => h) (Or.inl ⟨by rfl,?hy6⟩) o4 ?_
    case hy6 => (intro w hSw; (try dsimp only at hSw); go_simp <;> with_reducible rfl)
    try simp only [Act.put,Qx,Qy,Qz]
    subst hv6'
    refine wpAnyL_one (i := 7) (by kernel_rfl) rfl (fun K hK => ?_)
    go_simp
    refine hK.out _ _ (fun h => absurd rfl h) ?_
    clear hK K
    try simp only [Act.put,Qx,Qy,Qz]
    refine wpAnyL_done (by kernel_rfl) ?_ _
    refine NoPanic.normal ?_
    clear hown' hgrow hBg hB3 hN3 hO3 hT3 hR3 hS3' hK3' o4 of4 hS2 hK2 hK2' hO2 hR2 hT2 hS2c hS3c hbA hSd
    go_wp2_with fail
    go_roundw
    case rel => exact ⟨j - 1,c + 1,t' + 6,_,l ++ [(x,y)],by go_num,by omega,by omega,by simp; omega,HR4.out,HO4.out,HT4'.out,HS4'.out,HK4'.out,HZ9.out _⟩
    case measure => simp [intOf]; omega
   ·have hj0 : j = 0 := by omega
    subst hj0
    have t0 := HT.out.cell 0 (by omega)
    have t1 := HT.out.cell 1 (by omega)
    have t2 := HT.out.cell 2 (by omega)
    have t3 := HT.out.cell 3 (by omega)
    have t4 := HT.out.cell 4 (by omega)
    have t5 := HT.out.cell 5 (by omega)
    have t6 := HT.out.cell 6 (by omega)
    have z0 := (HT.out 0 (by omega)).2
    have z1 := (HT.out 1 (by omega)).2
    have z2 := (HT.out 2 (by omega)).2
    have z3 := (HT.out 3 (by omega)).2
    have z4 := (HT.out 4 (by omega)).2
    have z5 := (HT.out 5 (by omega)).2
    have z6 := (HT.out 6 (by omega)).2
    obtain ⟨⟨u0,u1,u2,u3,u4,u5,u6⟩,_⟩ := HO.out.cells
    obtain ⟨a6,c6,hv6',_,_⟩ := HR.out.own
    have hlO := HO.out.lt
    rw [hlc] at hv6'
    subst hv6'
    go_wp2_with fail
    obtain ⟨y0,y1,y2,y3,y4,y5,y6⟩ := set7_at (v0 := .int .i64 id) (v1 := .int .i64 la) (v2 := .int .i64 ki) (v3 := .int .i64 wi) (v4 := .slice a6 c c6) (v5 := .string lab) (v6 := .int .i64 pr) HT.out
    refine bodyPost_ret (resD _ _ w.heap.size _ _ _ _ _ _ _ rfl y0 y1 y2 y3 y4 y5 y6) rfl ⟨id,la,ki,wi,_,lab,pr,l,t',rfl,HR.out.set7 (by omega) (by omega),by omega,by omega,hlab,by omega,HS.out.set7 (by omega),HK.out.set7 (Nat.le_refl _)⟩
end Go.Proofs.YtfkonhagjahgnaaGreat
