/- Texts. -/
import Derived.Test.YtfkonhagjahgnaaGreatWTiles28
set_option linter.unusedSimpArgs false
set_option linter.unusedVariables false
set_option maxRecDepth 100000
set_option maxHeartbeats 32000000
namespace Go.Proofs.YtfkonhagjahgnaaGreat
open Go.RowKit
theorem FeaturesFault_zero (a : Option Addr) (cap : Nat) (w : World) : Calls Tryz.prog 43 #[.slice a 0 cap] w fun e w' => e = .returned (.int .i64 0) ∧ Below w.heap.size w w' := by
 go_enter Tryz.func43,Tryz.ntmps43
 go_wp2
 go_loopw [11] (fun v wr => v = .int .i64 0 ∧ Below w.heap.size w wr) (fun v _ => 0)
 case atStart => exact ⟨rfl,Below.refl _ _⟩
 case round =>
  obtain ⟨rfl,hB⟩ := hrel
  go_wp2
  go_ret
  exact ⟨rfl,hB⟩
theorem isSortedFunc_zero (a : Option Addr) (cap : Nat) (f : Value) (w : World) : Calls Tryz.prog 99 #[.slice a 0 cap,f] w fun e w' => e = .returned (.bool true) ∧ Below w.heap.size w w' := by
 go_enter Tryz.func99,Tryz.ntmps99
 go_wp2_with fail
 go_loopw [5] (fun i wr => i = .int .i64 (-1) ∧ w = wr) (fun _ _ => 0)
 case atStart => exact ⟨rfl,rfl⟩
 case round =>
  obtain ⟨rfl,rfl⟩ := hrel
  go_wp2
  go_ret
  exact ⟨rfl,Below.refl _ _⟩
theorem areInOrder_zero (a : Option Addr) (cap : Nat) (w : World) : Calls Tryz.prog 58 #[.slice a 0 cap] w fun e w' => e = .returned (.bool true) ∧ Below w.heap.size w w' := by
 go_enter Tryz.func58,Tryz.ntmps58
 go_wp2_with (go_at_call 99; refine (isSortedFunc_zero _ _ _ _).mono ?_; rintro e w' ⟨rfl,hb⟩)
 go_ret
 exact ⟨rfl,by assumption⟩
def fxG (fs : List Fx) : Nat → Feat := fun i => fxFeat (fxAt fs i) none 0
noncomputable def fxC (fs : List Fx) : Int := featsC fs.length (fxG fs)
def fxO (fs : List Fx) : Bool := ordI fs.length (fxG fs)
theorem FxRow.same {base : Nat} {w : World} {v : Value} {fs : List Fx} {H : Nat → Feat} (h : FxRow base w v fs H) (i : Nat) (hi : i < fs.length) : (H i).same (fxG fs i) := by
 rw [(h.2.1 i hi).1]
 exact ⟨rfl,rfl,rfl,rfl,rfl,rfl,rfl,rfl,rfl⟩
theorem FxRow.is {base : Nat} {w : World} {v : Value} {fs : List Fx} {H : Nat → Feat} (h : FxRow base w v fs H) : ∃ a cap,v = .slice a fs.length cap ∧ fs.length ≤ cap ∧ (fs.length = 0 ∨ ∃ b,a = some ⟨b,0,none⟩ ∧ b < w.heap.size ∧ FsAt w b 0 fs.length H) := by
 rcases h.1.at with ⟨rfl,hn⟩ | ⟨g,cap,hv,hg,hgl,hc,hT,hF⟩
 ·have : fs.length = 0 := by simpa using congrArg List.length hn
  exact ⟨none,0,by rw [this],by omega, .inl this⟩
 ·rw [List.length_range] at hv hc
  refine ⟨_,cap,hv,hc, .inr ⟨g,rfl,hgl,fun i hi => ⟨?_,?_⟩⟩⟩
  ·have := hF i (by simpa using hi)
   simp only [Nat.zero_add]
   simpa [List.getD,hi] using this
  ·obtain ⟨e,r⟩ := h.2.1 i hi
   obtain ⟨a',c',hv',hc',hP⟩ := r.own.pts
   injection hv' with e1 e2 e3
   rw [e1,e2]
   have eX : (H i).X = px (fxAt fs i).pts := by rw [e]; rfl
   have eY : (H i).Y = py (fxAt fs i).pts := by rw [e]; rfl
   rw [eX,eY]
   exact hP
theorem ordI_fx {n : Nat} {G H : Nat → Feat} (h : ∀ i,i < n → (G i).same (H i)) : ordI n G = ordI n H := by
 unfold ordI
 rw [decide_eq_decide]
 refine forall_congr' fun i => forall_congr' fun hi => ?_
 have h1 := h i (by omega)
 have h2 := h (i + 1) (by omega)
 unfold ltF
 rw [h1.1,h1.2.1,h2.1,h2.2.1]
theorem FxRow.fault {base : Nat} {w : World} {v : Value} {fs : List Fx} {H : Nat → Feat} (h : FxRow base w v fs H) (hs : SmallFs fs.length (fxG fs)) :
  Calls Tryz.prog 43 #[v] w fun e w' => e = .returned (.int .i64 (fxC fs)) ∧ Below w.heap.size w w' := by
 obtain ⟨a,cap,rfl,hc,h0 | ⟨b,rfl,hb,hF⟩⟩ := h.is
 ·have e : fxC fs = 0 := by unfold fxC; rw [h0]; simp [featsC,scanC]
  rw [e,h0]
  exact FeaturesFault_zero _ _ _
 ·have e : fxC fs = featsC fs.length H := (featsC_same (h.same)).symm
  rw [e]
  exact FeaturesFault_any b fs.length cap H w hF hb ⟨hs.1,fun i hi => by
   have h1 := h.same i hi
   have h2 := hs.2 i hi
   rw [h1.2.2.2.2.1,h1.2.2.2.2.2.2.2.1]
   exact h2⟩ hc
theorem FxRow.order {base : Nat} {w : World} {v : Value} {fs : List Fx} {H : Nat → Feat} (h : FxRow base w v fs H) (hs : SmallFs fs.length (fxG fs)) :
  Calls Tryz.prog 58 #[v] w fun e w' => e = .returned (.bool (fxO fs)) ∧ Below w.heap.size w w' := by
 obtain ⟨a,cap,rfl,hc,h0 | ⟨b,rfl,hb,hF⟩⟩ := h.is
 ·have e : fxO fs = true := by unfold fxO; rw [h0]; simp [ordI]
  rw [e,h0]
  exact areInOrder_zero _ _ _
 ·have e : fxO fs = ordI fs.length H := (ordI_fx h.same).symm
  rw [e]
  exact areInOrder_any b fs.length cap H w hF hb hs.1
theorem rdPts_bd {Z : Nat → Int} {n : Nat} : ∀ (c o : Nat) (x y : Int) (r : List (Int × Int) × Nat),rdPts Z c n o x y = some r → o ≤ n → r.1.length = c ∧ r.2 ≤ n
 | 0,o,x,y,r,h,ho => by
  simp [rdPts] at h
  subst h
  exact ⟨rfl,ho⟩
 | c + 1,o,x,y,r,h,ho => by
  cases h1 : rdStep (fun i => Z (i + o)) (n - o) with
  | none => rw [rdPts_none1 h1] at h; cases h
  | some d =>
   cases h2 : rdStep (fun i => Z (i + (o + d.2))) (n - (o + d.2)) with
   | none => rw [rdPts_none2 h1 h2] at h; cases h
   | some e =>
    rw [rdPts_some h1 h2] at h
    have b1 := (rdStep_bd h1).2
    have b2 := (rdStep_bd h2).2
    cases h3 : rdPts Z c n (o + d.2 + e.2) (x + d.1) (y + e.1) with
    | none => rw [h3] at h; cases h
    | some q =>
     have := rdPts_bd c _ _ _ q h3 (by omega)
     rw [h3,Option.map_some] at h
     injection h with h
     subst h
     exact ⟨by simp [this.1],this.2⟩
theorem rdAll_bd {Z : Nat → Int} {n : Nat} {r : List (Int × Int) × Nat} (h : rdAll Z n = some r) : r.1.length ≤ 12 ∧ r.2 ≤ n := by
 unfold rdAll at h
 cases hu : rdUp 12 Z n with
 | none => rw [hu] at h; cases h
 | some c =>
  have b := rdUp_bd hu
  rw [hu,Option.bind_some] at h
  have := rdPts_bd _ _ _ _ r h b.2.2.1
  exact ⟨by omega,this.2⟩
theorem rdNs_bd {Z : Nat → Int} {n : Nat} : ∀ (c o : Nat) (r : List Nat × Nat),rdNs Z c n o = some r → o ≤ n → r.2 ≤ n
 | 0,o,r,h,ho => by
  simp [rdNs] at h
  subst h
  exact ho
 | c + 1,o,r,h,ho => by
  cases h1 : rd (fun i => Z (i + o)) (n - o) with
  | none => rw [rdNs_none h1] at h; cases h
  | some d =>
   rw [rdNs_some h1] at h
   have b1 := (rd_bd h1).2.2.1
   cases h3 : rdNs Z c n (o + d.2) with
   | none => rw [h3] at h; cases h
   | some q =>
    have := rdNs_bd c _ q h3 (by omega)
    rw [h3,Option.map_some] at h
    injection h with h
    subst h
    exact this
theorem rdLab_bd {Z : Nat → Int} {n o : Nat} {r : List Int × Nat} (h : rdLab Z n o = some r) (ho : o ≤ n) : r.1.length ≤ 6 ∧ r.2 ≤ n := by
 unfold rdLab at h
 cases hu : rdUp 6 (fun i => Z (i + o)) (n - o) with
 | none => rw [hu] at h; cases h
 | some c =>
  have b := rdUp_bd hu
  rw [hu,Option.bind_some] at h
  split at h
  ·cases h
  ·injection h with h
   subst h
   refine ⟨by simp; exact b.1,?_⟩
   show o + c.2 + c.1 ≤ n
   have := b.2.2.1
   omega
theorem rdFeat_bd {Z : Nat → Int} {n : Nat} {r : Fx × Nat} (h : rdFeat Z n = some r) : r.1.pts.length ≤ 12 ∧ r.1.lab.size ≤ 6 ∧ r.2 ≤ n := by
 unfold rdFeat at h
 cases h1 : rdNs Z 5 n 0 with
 | none => rw [h1] at h; cases h
 | some a =>
  have b1 := rdNs_bd 5 0 a h1 (by omega)
  rw [h1,Option.bind_some] at h
  cases h2 : rdLab Z n a.2 with
  | none => rw [h2] at h; cases h
  | some b =>
   have b2 := rdLab_bd h2 b1
   rw [h2,Option.bind_some] at h
   cases h3 : rdAll (fun i => Z (i + b.2)) (n - b.2) with
   | none => rw [h3] at h; cases h
   | some c =>
    have b3 := rdAll_bd h3
    rw [h3,Option.map_some] at h
    injection h with h
    subst h
    refine ⟨b3.1,?_,?_⟩
    ·show (strOfNums b.1).size ≤ 6
     have := b2.1
     simp [strOfNums,ByteArray.size]
     omega
    ·show b.2 + c.2 ≤ n
     omega
def FsP (r : Option (List Fx × Nat)) (p n : Nat) (w : World) (e : Ending) (w' : World) : Prop :=
 match r with
 | none => Pan e ∧ Keeps p w w'
 | some x => if n ≤ x.2 ∧ fxC x.1 = 0 ∧ fxO x.1 = true then ∃ v H,e = .returned v ∧ FxRow w.heap.size w' v x.1 H ∧ Keeps p w w' else Pan e ∧ Keeps p w w'
theorem FsP.none {r : Option (List Fx × Nat)} {p n : Nat} {w w' : World} {e : Ending} (h : r = none) (he : Pan e) (hk : Keeps p w w') : FsP r p n w e w' := by
 subst h; exact ⟨he,hk⟩
theorem FsP.bad {r : Option (List Fx × Nat)} {p n : Nat} {w w' : World} {e : Ending} {x : List Fx × Nat} (h : r = some x) (hx : ¬ (n ≤ x.2 ∧ fxC x.1 = 0 ∧ fxO x.1 = true)) (he : Pan e) (hk : Keeps p w w') : FsP r p n w e w' := by
 subst h; unfold FsP; simp only [if_neg hx]; exact ⟨he,hk⟩
theorem FsP.some {r : Option (List Fx × Nat)} {p n : Nat} {w w' : World} {e : Ending} {x : List Fx × Nat} {v : Value} {H : Nat → Feat} (h : r = some x) (hx : n ≤ x.2 ∧ fxC x.1 = 0 ∧ fxO x.1 = true) (he : e = .returned v) (hR : FxRow w.heap.size w' v x.1 H) (hk : Keeps p w w') : FsP r p n w e w' := by
 subst h; unfold FsP; simp only [if_pos hx]; exact ⟨v,H,he,hR,hk⟩
theorem features_any (p B n : Nat) (Z : Nat → Int) (w : World) (h : UpAt w p B n Z) (hB : B ≤ p) (hp : p < w.heap.size) (hr : ∀ i,0 ≤ Z i ∧ Z i ≤ 255) (hmax : n ≤ 1048576) :
  Calls Tryz.prog 78 #[.pointer (some ⟨p,0,none⟩)] w fun e w' => FsP (rdList Z n) p n w e w' := by
 obtain ⟨i0,hi,hz0,hz1,hz2⟩ := info_parts info_if
 have HUP : Hid (UpAt w p B n Z) := h
 have HRG : Hid (∀ i,0 ≤ Z i ∧ Z i ≤ 255) := hr
 clear h hr
 go_enter Tryz.func78,Tryz.ntmps78
 go_wp2_with fail
 refine (numberUpTo_any 12 p B n Z w HUP.out hB hp HRG.out hmax).mono ?_
 intro e w1 hq
 cases hd : rdUp 12 Z n with
 | none =>
  rw [hd] at hq
  obtain ⟨⟨u,pv,rfl⟩,hk⟩ := hq
  exact ⟨rfl,FsP.none (by simp [rdList,hd]) ⟨_,_,rfl⟩ hk⟩
 | some x0 =>
  have hbd := rdUp_bd hd
  obtain ⟨C,o0⟩ := x0
  rw [hd] at hq
  obtain ⟨rfl,hu,hk⟩ := hq
  have HALL : Hid (rdList Z n = rdFs Z C n o0) := by show _ = _; simp [rdList,hd]
  have hC : C ≤ 12 := hbd.1
  have ho0 : o0 ≤ n := hbd.2.2.1
  have HU1 : Hid (UpAt w1 p B (n - o0) (fun i => Z (i + o0))) := hu
  have HKw : Hid (Keeps p w w1) := hk
  clear hd hbd hu hk
  go_wp2_with fail
  go_loopw [3,6] (fun v i wr => ∃ (k o : Nat) (fs : List Fx) (H : Nat → Feat),k ≤ C ∧ i = .int .u64 (k : Int) ∧ fs.length = k ∧ o ≤ n ∧ SmallFs fs.length (fxG fs) ∧ FxRow w.heap.size wr v fs H ∧ UpAt wr p B (n - o) (fun i => Z (i + o)) ∧ Keeps p w wr ∧ rdList Z n = (rdFs Z (C - k) n o).map fun r => (fs ++ r.1,r.2)) (fun _ i _ => C - (intOf i).toNat)
  case atStart => exact ⟨0,o0, [],fun _ => fxFeat ⟨[],ByteArray.empty, []⟩ none 0,by omega,rfl,rfl,ho0,⟨by simp,fun i hi => absurd hi (Nat.not_lt_zero _)⟩,⟨World.ownsRow_nil _ _ _ _,fun i hi => absurd hi (Nat.not_lt_zero _),fun i j hi => absurd hi (Nat.not_lt_zero _)⟩,HU1.out,HKw.out,by rw [HALL.out]; cases rdFs Z C n o0 <;> simp⟩
  case round =>
   obtain ⟨k,o,fs,H,hk,rfl,hl,ho,hsm,hX,hU,hK,hall⟩ := hrel
   have HSM : Hid (SmallFs fs.length (fxG fs)) := hsm
   have HX : Hid (FxRow w.heap.size wr u3 fs H) := hX
   have HU : Hid (UpAt wr p B (n - o) (fun i => Z (i + o))) := hU
   have HK : Hid (Keeps p w wr) := hK
   have HA : Hid (rdList Z n = (rdFs Z (C - k) n o).map fun r => (fs ++ r.1,r.2)) := hall
   have hszr := hK.size
   clear hsm hX hU hK hall HALL HU1 HKw
   have hpr : p < wr.heap.size := by omega
   by_cases hlt : k < C
   ·obtain ⟨D,hD⟩ : ∃ D,C - k = D + 1 := ⟨C - k - 1,by omega⟩
    rw [hD] at HA
    have hCD : C - (k + 1) = D := by omega
    have hi' : (k : Int) < (C : Int) := by omega
    go_wp2_with fail
    refine (feature_any p B (n - o) (fun i => Z (i + o)) wr HU.out hB hpr (fun i => HRG.out _) (by omega)).mono ?_
    intro e w2 hq
    cases hd : rdFeat (fun i => Z (i + o)) (n - o) with
    | none =>
     rw [hd] at hq
     obtain ⟨⟨u,pv,rfl⟩,hk2⟩ := hq
     exact ⟨rfl,FsP.none (by rw [HA.out,rdFs_none hd]; rfl) ⟨_,_,rfl⟩ (HK.out.trans hk2)⟩
    | some dd =>
     obtain ⟨f,fn⟩ := dd
     rw [hd] at hq
     obtain ⟨v1,rfl,hR1,hu2,hk2⟩ := hq
     have hbd := rdFeat_bd hd
     have hR1' : Row wr.heap.size w2 v1 f.pts := hR1
     obtain ⟨a1,c1,hv1,_,_⟩ := hR1'.own
     have HD : Hid (rdFeat (fun i => Z (i + o)) (n - o) = some (f,fn)) := hd
     have hb1 : f.pts.length ≤ 12 := hbd.1
     have hb2 : f.lab.size ≤ 6 := hbd.2.1
     have hb3 : fn ≤ n - o := hbd.2.2
     have HA2 : Hid (rdList Z n = (rdFs Z (C - (k + 1)) n (o + fn)).map fun r => ((fs ++ [f]) ++ r.1,r.2)) := by
      show _ = _
      rw [HA.out,rdFs_some hd,hCD]
      cases rdFs Z D n (o + fn) <;> simp
     have HR1 : Hid (Row wr.heap.size w2 v1 f.pts) := hR1'
     have HX2 : Hid (FxRow w.heap.size w2 u3 fs H) := HX.out.keeps hk2 hp
     have HFR : Hid (∀ i,i < fs.length → (H i).a = a1 → a1 = none) := fun i hi e => HX.out.fresh (hv1 ▸ hR1') i hi e
     have HU2 : Hid (UpAt w2 p B (n - (o + fn)) (fun i => Z (i + (o + fn)))) := hu2.to (by show n - o - fn = _; omega) (fun i => by show Z _ = Z _; congr 1; show i + fn + o = _; omega)
     have HK2 : Hid (Keeps p w w2) := HK.out.trans hk2
     have hsz2 := hk2.size
     have HSM2 : Hid (SmallFs (fs ++ [f]).length (fxG (fs ++ [f]))) := by
      refine ⟨by simp; omega,fun i hi => ?_⟩
      simp only [List.length_append,List.length_singleton] at hi
      unfold fxG
      rw [fxAt_app hi]
      by_cases e : i = fs.length
      ·rw [if_pos e]; exact ⟨by show f.pts.length ≤ _; omega,by show f.lab.size ≤ _; omega⟩
      ·rw [if_neg e]; exact HSM.out.2 i (by omega)
     clear hR1 hR1' hu2 hk2 hd hbd HX HU HK HA HSM HD
     subst hv1
     have HL : Hid (fs.length = k) := hl
     have hlenr : (List.range fs.length).length = k := by simp [hl]
     obtain ⟨PL,hPL⟩ : ∃ PL,f.pts.length = PL := ⟨_,rfl⟩
     simp only [FeatV]
     obtain ⟨l0,h0⟩ : ∃ l0,f.ns.getD 0 0 = l0 := ⟨_,rfl⟩
     obtain ⟨l1,h1⟩ : ∃ l1,f.ns.getD 1 0 = l1 := ⟨_,rfl⟩
     obtain ⟨l2,h2⟩ : ∃ l2,f.ns.getD 2 0 = l2 := ⟨_,rfl⟩
     obtain ⟨l3,h3⟩ : ∃ l3,f.ns.getD 3 0 = l3 := ⟨_,rfl⟩
     obtain ⟨l4,h4⟩ : ∃ l4,f.ns.getD 4 0 = l4 := ⟨_,rfl⟩
     obtain ⟨LB,h5⟩ : ∃ LB,f.lab = LB := ⟨_,rfl⟩
     have HFC : Hid (fcell (fxFeat f a1 c1) = [.int .i64 (l0 : Int), .int .i64 (l1 : Int), .int .i64 (l2 : Int), .int .i64 (l3 : Int), .slice a1 PL c1, .string LB, .int .i64 (l4 : Int)]) := by
      show _ = _
      simp only [fcell,fxFeat,h0,h1,h2,h3,h4,h5,hPL]
     rw [h0,h1,h2,h3,h4,h5,hPL]
     clear h0 h1 h2 h3 h4 h5
     go_wp2_with (first
      | (at_builtin; go_must (refine wpList_append_own _ rfl _ _ 24 rfl w.heap.size 39 i0 (.agg #[.int .i64 0, .int .i64 0, .int .i64 0, .int .i64 0, .slice none 0 0, .string ⟨#[]⟩, .int .i64 0]) 7 80 Tryz.underlying24 hi hz0 hz1 hz2 rfl (by decide) u3 k (cellsF H (List.range fs.length)) rfl ?c6 ⟨w2.heap.size,0,none⟩ 1 1 [.int .i64 (l0 : Int), .int .i64 (l1 : Int), .int .i64 (l2 : Int), .int .i64 (l3 : Int), .slice a1 PL c1, .string LB, .int .i64 (l4 : Int)] rfl ?c0 ?c1 ?c2 ?c3 ?c4 ?c5 ?_)))
     case c6 =>
      have := HX2.out.1.below (bl_alloc (Below.refl w2.heap.size w2) (.cells #[.int .i64 (l0 : Int), .int .i64 (l1 : Int), .int .i64 (l2 : Int), .int .i64 (l3 : Int), .slice a1 PL c1, .string LB, .int .i64 (l4 : Int)] 39))
      unfold FRow at this
      rw [hlenr] at this
      exact this
     case c0 => rfl
     case c1 =>
      intro q u hq
      have hq7 : q < 7 := (List.getElem?_eq_some_iff.1 hq).1
      have hc : q = 0 ∨ q = 1 ∨ q = 2 ∨ q = 3 ∨ q = 4 ∨ q = 5 ∨ q = 6 := by omega
      rcases hc with rfl | rfl | rfl | rfl | rfl | rfl | rfl <;> (simp at hq; subst hq; simp [Addr.add,go_sem])
     case c2 => intro u hu; simp at hu; rcases hu with rfl | rfl | rfl | rfl | rfl | rfl | rfl <;> rfl
     case c3 => unfold maxLen; omega
     case c4 => omega
     case c5 => simp; omega
     intro v' w3 hown' hgrow hnil
     clear hnil
     have hba : Below w2.heap.size w2 (w2.alloc (.cells #[.int .i64 (l0 : Int), .int .i64 (l1 : Int), .int .i64 (l2 : Int), .int .i64 (l3 : Int), .slice a1 PL c1, .string LB, .int .i64 (l4 : Int)] 39)) := bl_alloc (Below.refl _ _) _
     have hXa := HX2.out.below hba
     have hRa : Row w.heap.size _ (.slice a1 f.pts.length c1) f.pts := (HR1.out.below hba).wide hszr
     have hBg : Below w.heap.size (w2.alloc (.cells #[.int .i64 (l0 : Int), .int .i64 (l1 : Int), .int .i64 (l2 : Int), .int .i64 (l3 : Int), .slice a1 PL c1, .string LB, .int .i64 (l4 : Int)] 39)) w3 := (Below.refl _ _).grown hgrow (by simp; omega) (fun g hg => (World.ownsRow.lt hXa.1 g hg).1)
     have hB3 : Below w.heap.size w2 w3 := (hba.mono (by omega)).trans hBg
     have HX3 : Hid (FxRow w.heap.size w3 v' (fs ++ [f]) (fun i => if i = fs.length then fxFeat f a1 c1 else H i)) := hXa.app hRa (by rw [HFC.out,HL.out]; first | exact hown' | (rw [HL.out] at hown'; exact hown')) hgrow HFR.out
     have HU3 : Hid (UpAt w3 p B (n - (o + fn)) (fun i => Z (i + (o + fn)))) := HU2.out.belowB hB3 hp hB
     have HK3 : Hid (Keeps p w w3) := keepsNew HK2.out hB3 (Nat.le_refl _)
     have hwk : IntKind.u64.wrap ((k : Int) + 1) = (k : Int) + 1 := by rw [IntKind.wrap_u64]; omega
     clear hown' hgrow hba hXa hRa hBg hB3
     go_wp2_with fail
     go_roundw
     case rel => exact ⟨k + 1,o + fn,_,_,by omega,by first | go_num | rfl | simp,by simp [HL.out],by omega,HSM2.out,HX3.out,HU3.out,HK3.out,HA2.out⟩
     case measure => simp [intOf]; omega
   ·have hke : k = C := by omega
    subst hke
    have HA' : Hid (rdList Z n = some (fs,o)) := by
     show _ = _
     rw [HA.out,Nat.sub_self]
     simp [rdFs]
    obtain ⟨a6,c6,hv6,_,_⟩ := HX.out.is
    have HFF : Hid (∀ W',Below wr.heap.size wr W' → Calls Tryz.prog 43 #[u3] W' fun e w' => e = .returned (.int .i64 (fxC fs)) ∧ Below W'.heap.size W' w') := fun W' h => (HX.out.below h).fault HSM.out
    have HOO : Hid (∀ W',Below wr.heap.size wr W' → Calls Tryz.prog 58 #[u3] W' fun e w' => e = .returned (.bool (fxO fs)) ∧ Below W'.heap.size W' w') := fun W' h => (HX.out.below h).order HSM.out
    obtain ⟨ua,ucap,u0,u1,u2,_⟩ := HU.out
    clear HA
    rw [hl] at hv6
    subst hv6
    by_cases hrest : 0 < n - o
    ·have hre : (0 : Int) < ((n - o : Nat) : Int) := by omega
     go_wp2_with fail
     exact ⟨rfl,FsP.bad HA'.out (fun h => by have := h.1; simp only at this; omega) ⟨_,_,rfl⟩ HK.out⟩
    ·have hre : ¬ (0 : Int) < ((n - o : Nat) : Int) := by omega
     have hno : n ≤ o := by omega
     by_cases hc : fxC fs = 0
     ·cases hoo : fxO fs
      ·rw [hc] at HFF
       rw [hoo] at HOO
       have HBAD : Hid (¬ (n ≤ ((fs,o) : List Fx × Nat).2 ∧ fxC ((fs,o) : List Fx × Nat).1 = 0 ∧ fxO ((fs,o) : List Fx × Nat).1 = true)) := fun h => by have h3 := h.2.2; simp only [hoo] at h3; cases h3
       go_wp2_with fail
       refine (HFF.out _ (Below.refl _ _)).mono ?_
       rintro e w5 ⟨rfl,hb5⟩
       go_wp2_with fail
       refine (HOO.out _ hb5).mono ?_
       rintro e w6 ⟨rfl,hb6⟩
       have HK6 : Hid (Keeps p w w6) := HK.out.trans (Keeps.of_below (bl_then hb5 hb6))
       clear hb5 hb6
       go_wp2_with fail
       exact ⟨rfl,FsP.bad HA'.out HBAD.out ⟨_,_,rfl⟩ HK6.out⟩
      ·rw [hc] at HFF
       rw [hoo] at HOO
       have HGOOD : Hid (n ≤ ((fs,o) : List Fx × Nat).2 ∧ fxC ((fs,o) : List Fx × Nat).1 = 0 ∧ fxO ((fs,o) : List Fx × Nat).1 = true) := ⟨hno,hc,hoo⟩
       go_wp2_with fail
       refine (HFF.out _ (Below.refl _ _)).mono ?_
       rintro e w5 ⟨rfl,hb5⟩
       go_wp2_with fail
       refine (HOO.out _ hb5).mono ?_
       rintro e w6 ⟨rfl,hb6⟩
       have HK6 : Hid (Keeps p w w6) := HK.out.trans (Keeps.of_below (bl_then hb5 hb6))
       have HX6 := HX.out.below (bl_then hb5 hb6)
       clear hb5 hb6
       go_wp2_with fail
       go_ret
       exact FsP.some HA'.out HGOOD.out rfl HX6 HK6.out
     ·have HBAD : Hid (¬ (n ≤ ((fs,o) : List Fx × Nat).2 ∧ fxC ((fs,o) : List Fx × Nat).1 = 0 ∧ fxO ((fs,o) : List Fx × Nat).1 = true)) := fun h => hc h.2.1
      generalize fxC fs = qc at HFF hc
      have hq1 : (qc != 0) = true := by simpa using hc
      have hq2 : (qc == 0) = false := by simpa using hc
      go_wp2_with fail
      refine (HFF.out _ (Below.refl _ _)).mono ?_
      rintro e w5 ⟨rfl,hb5⟩
      have HK6 : Hid (Keeps p w w5) := HK.out.trans (Keeps.of_below hb5)
      clear hb5
      go_wp2_with fail
      exact ⟨rfl,FsP.bad HA'.out HBAD.out ⟨_,_,rfl⟩ HK6.out⟩
end Go.Proofs.YtfkonhagjahgnaaGreat
