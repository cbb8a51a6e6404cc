/- Texts. -/
import Derived.Test.YtiephlohemphjaaGreatVTickViewer24
import Derived.Deep.CutBlock
set_option linter.unusedSimpArgs false
set_option linter.unusedVariables false
set_option maxRecDepth 100000
set_option maxHeartbeats 32000000
namespace Go.Proofs.YtiephlohemphjaaGreat
open Go.RowKit
def ordI (n : Nat) (G : Nat → Feat) : Bool := decide (∀ i,i < n - 1 → ltF (G (i + 1)) (G i) = false)
def ordS (n : Nat) (G : Nat → Feat) : Bool := decide (∀ i,i < n - 1 → ltF (G i) (G (i + 1)) = true)
theorem cmpF_neg (f g : Feat) : cmpF f g < 0 ↔ ltF f g = true := by
 unfold cmpF orI cmpI ltF
 by_cases h1 : f.la < g.la
 ·simp [h1]
 ·by_cases h2 : g.la < f.la
  ·have : ¬ f.la = g.la := by omega
   simp [h1,h2,this]
  ·have : f.la = g.la := by omega
   by_cases h3 : f.id < g.id
   ·simp [h1,h2,h3,this]
   ·by_cases h4 : g.id < f.id <;> simp [h1,h2,h3,h4,this]
theorem ord_same {n : Nat} {G : Nat → Feat} (h : apartK (fun i => (G i).id) n) : ordI n G = ordS n G := by
 unfold ordI ordS
 rw [decide_eq_decide]
 refine forall_congr' fun i => forall_congr' fun hi => ?_
 have hne : (G i).id ≠ (G (i + 1)).id := fun e => by have := h i (i + 1) (by omega) (by omega) e; omega
 unfold ltF
 simp
 constructor
 ·intro ⟨h1,h2⟩
  omega
 ·intro h1
  omega
theorem ordI_bad {n : Nat} {G : Nat → Feat} (i : Nat) (hi : i + 1 < n) (h : ltF (G (i + 1)) (G i) = true) : ordI n G = false := by
 unfold ordI
 rw [decide_eq_false]
 intro hc
 rw [hc i (by omega)] at h
 cases h
theorem ordS_bad {n : Nat} {G : Nat → Feat} (i : Nat) (hi : i + 1 < n) (h : ltF (G i) (G (i + 1)) = false) : ordS n G = false := by
 unfold ordS
 rw [decide_eq_false]
 intro hc
 rw [hc i (by omega)] at h
 cases h
theorem compareFeatures_ex (f g : Feat) (w : World) : Calls Tryz.prog 210 #[.agg #[.int .i64 f.id, .int .i64 f.la, .int .i64 f.ki, .int .i64 f.wi, .slice f.a f.n f.cap, .string f.lab, .int .i64 f.pr], .agg #[.int .i64 g.id, .int .i64 g.la, .int .i64 g.ki, .int .i64 g.wi, .slice g.a g.n g.cap, .string g.lab, .int .i64 g.pr]] w fun e w' => e = .returned (.int .i64 (cmpF f g)) ∧ Below w.heap.size w w' :=
 (compareFeatures_gro f g w).mono fun e w' ⟨he,hg⟩ => ⟨he,hg.1⟩
theorem isSortedFunc_any (b n cap : Nat) (G : Nat → Feat) (w : World) (hg : FsAt w b 0 n G) (hbl : b < w.heap.size) (hn : n ≤ 1048576) :
  Calls Tryz.prog 209 #[.slice (some ⟨b,0,none⟩) n cap, .func (.func 210) #[] #[]] w fun e w' => e = .returned (.bool (ordI n G)) ∧ Below w.heap.size w w' := by
 have HG : Hid (FsAt w b 0 n G) := hg
 clear hg
 by_cases h0 : n = 0
 ·subst h0
  have HV : Hid (ordI 0 G = true) := by show _ = _; simp [ordI]
  go_enter Tryz.func209,Tryz.ntmps209
  go_wp2_with fail
  go_loopw [5] (fun i wr => i = .int .i64 (-1) ∧ w = wr) (fun _ _ => 0)
  case atStart => exact ⟨rfl,rfl⟩
  case round =>
   obtain ⟨rfl,rfl⟩ := hrel
   go_wp2
   go_ret
   exact ⟨ret_bool HV.out.symm,Below.refl _ _⟩
 ·obtain ⟨N,rfl⟩ : ∃ N,n = N + 1 := ⟨n - 1,by omega⟩
  have e0 : IntKind.i64.wrap (((N + 1 : Nat) : Int) - 1) = (N : Int) := by rw [show ((N + 1 : Nat) : Int) - 1 = (N : Int) by omega]; exact IntWalk.i64_in _ (by omega)
  go_enter Tryz.func209,Tryz.ntmps209
  go_wp2_with fail
  go_loopw [5] (fun i wr => ∃ k : Nat,k ≤ N ∧ i = .int .i64 (k : Int) ∧ (∀ i,k ≤ i → i < N → ltF (G (i + 1)) (G i) = false) ∧ Below w.heap.size w wr) (fun i _ => (intOf i).toNat)
  case atStart => exact ⟨N,by omega,by first | rfl | go_num | (simp; done),fun i h1 h2 => by omega,Below.refl _ _⟩
  case round =>
   obtain ⟨k,hk,rfl,hall,hB⟩ := hrel
   have HALL : Hid (∀ i,k ≤ i → i < N → ltF (G (i + 1)) (G i) = false) := hall
   have HB : Hid (Below w.heap.size w wr) := hB
   have hbr : b < wr.heap.size := Nat.lt_of_lt_of_le hbl hB.size
   have hGr : FsAt wr b 0 (N + 1) G := HG.out.below hB hbl
   clear hall hB
   by_cases h1 : k = 0
   ·subst h1
    have HV : Hid (ordI (N + 1) G = true) := by
     show _ = _
     unfold ordI
     rw [decide_eq_true]
     exact fun i hi => HALL.out i (by omega) (by omega)
    go_wp2
    go_ret
    exact ⟨ret_bool HV.out.symm,HB.out⟩
   ·obtain ⟨M,rfl⟩ : ∃ M,k = M + 1 := ⟨k - 1,by omega⟩
    have e1 : IntKind.i64.wrap (((M + 1 : Nat) : Int) - 1) = (M : Int) := by rw [show ((M + 1 : Nat) : Int) - 1 = (M : Int) by omega]; exact IntWalk.i64_in _ (by omega)
    have e2 : (0 : Int) < ((M + 1 : Nat) : Int) := by omega
    have e3 : ((M + 1 : Nat) : Int) < ((N + 1 : Nat) : Int) := by omega
    have e4 : (M : Int) < ((N + 1 : Nat) : Int) := by omega
    obtain ⟨P,hP⟩ : ∃ P,M + 1 = P := ⟨_,rfl⟩
    obtain ⟨T,hT⟩ : ∃ T,N + 1 = T := ⟨_,rfl⟩
    have fa := hGr (M + 1) (by omega)
    have fd := hGr M (by omega)
    have HOI : Hid (ltF (G (M + 1)) (G M) = true → ordI (N + 1) G = false) := fun h => ordI_bad M (by omega) h
    have HBR : Hid (Below w.heap.size w wr) := HB.out
    have HKM : Hid (M + 1 = P) := hP
    have HKN : Hid (N + 1 = T) := hT
    rw [hP] at e1 e2 e3 fa HOI
    rw [hT] at e3 e4 HOI
    rw [hT]
    rw [hP]
    have kpos : 0 ≤ (P : Int) := by omega
    have mpos : 0 ≤ (M : Int) := by omega
    have ra : ∀ W',Below wr.heap.size wr W' → FeatAt W' b (0 + P * 7) (G P).id (G P).la (G P).ki (G P).wi (.slice (G P).a (G P).n (G P).cap) (G P).lab (G P).pr := fun W' h => fa.1.below h hbr
    have rd : ∀ W',Below wr.heap.size wr W' → FeatAt W' b (0 + M * 7) (G M).id (G M).la (G M).ki (G M).wi (.slice (G M).a (G M).n (G M).cap) (G M).lab (G M).pr := fun W' h => fd.1.below h hbr
    simp only [Nat.zero_add] at ra rd
    have a0 : ∀ W',Below wr.heap.size wr W' → W'.cell? ⟨b,P * 7,none⟩ = some (.int .i64 (G P).id) := fun W' h => (ra W' h).1
    have a1 : ∀ W',Below wr.heap.size wr W' → W'.cell? ⟨b,P * 7 + 1,none⟩ = some (.int .i64 (G P).la) := fun W' h => (ra W' h).2.1
    have a2 : ∀ W',Below wr.heap.size wr W' → W'.cell? ⟨b,P * 7 + 2,none⟩ = some (.int .i64 (G P).ki) := fun W' h => (ra W' h).2.2.1
    have a3 : ∀ W',Below wr.heap.size wr W' → W'.cell? ⟨b,P * 7 + 3,none⟩ = some (.int .i64 (G P).wi) := fun W' h => (ra W' h).2.2.2.1
    have a4 : ∀ W',Below wr.heap.size wr W' → W'.cell? ⟨b,P * 7 + 4,none⟩ = some (.slice (G P).a (G P).n (G P).cap) := fun W' h => (ra W' h).2.2.2.2.1
    have a5 : ∀ W',Below wr.heap.size wr W' → W'.cell? ⟨b,P * 7 + 5,none⟩ = some (.string (G P).lab) := fun W' h => (ra W' h).2.2.2.2.2.1
    have a6 : ∀ W',Below wr.heap.size wr W' → W'.cell? ⟨b,P * 7 + 6,none⟩ = some (.int .i64 (G P).pr) := fun W' h => (ra W' h).2.2.2.2.2.2
    have d0 : ∀ W',Below wr.heap.size wr W' → W'.cell? ⟨b,M * 7,none⟩ = some (.int .i64 (G M).id) := fun W' h => (rd W' h).1
    have d1 : ∀ W',Below wr.heap.size wr W' → W'.cell? ⟨b,M * 7 + 1,none⟩ = some (.int .i64 (G M).la) := fun W' h => (rd W' h).2.1
    have d2 : ∀ W',Below wr.heap.size wr W' → W'.cell? ⟨b,M * 7 + 2,none⟩ = some (.int .i64 (G M).ki) := fun W' h => (rd W' h).2.2.1
    have d3 : ∀ W',Below wr.heap.size wr W' → W'.cell? ⟨b,M * 7 + 3,none⟩ = some (.int .i64 (G M).wi) := fun W' h => (rd W' h).2.2.2.1
    have d4 : ∀ W',Below wr.heap.size wr W' → W'.cell? ⟨b,M * 7 + 4,none⟩ = some (.slice (G M).a (G M).n (G M).cap) := fun W' h => (rd W' h).2.2.2.2.1
    have d5 : ∀ W',Below wr.heap.size wr W' → W'.cell? ⟨b,M * 7 + 5,none⟩ = some (.string (G M).lab) := fun W' h => (rd W' h).2.2.2.2.2.1
    have d6 : ∀ W',Below wr.heap.size wr W' → W'.cell? ⟨b,M * 7 + 6,none⟩ = some (.int .i64 (G M).pr) := fun W' h => (rd W' h).2.2.2.2.2.2
    clear fa fd hGr hP hT ra rd HB
    obtain ⟨C,hC⟩ : ∃ C,cmpF (G P) (G M) = C := ⟨_,rfl⟩
    have HCM : Hid (∀ W,Calls Tryz.prog 210 #[.agg #[.int .i64 (G P).id, .int .i64 (G P).la, .int .i64 (G P).ki, .int .i64 (G P).wi, .slice (G P).a (G P).n (G P).cap, .string (G P).lab, .int .i64 (G P).pr], .agg #[.int .i64 (G M).id, .int .i64 (G M).la, .int .i64 (G M).ki, .int .i64 (G M).wi, .slice (G M).a (G M).n (G M).cap, .string (G M).lab, .int .i64 (G M).pr]] W fun e w' => e = .returned (.int .i64 C) ∧ Below W.heap.size W w') := fun W => by rw [← hC]; exact compareFeatures_ex (G P) (G M) W
    have HCI : Hid (C < 0 ↔ ltF (G P) (G M) = true) := by show _ ↔ _; rw [← hC]; exact cmpF_neg _ _
    clear hC
    by_cases hneg : C < 0
    ·have HOF : Hid (ordI T G = false) := HOI.out (HCI.out.1 hneg)
     go_wp2_with fail
     go_region_held3 (fun W' => Below wr.heap.size wr W') ((repeat (first|exact Qr _ _|assumption|refine Qd ?_|refine Qa ?_ _|refine Qt ?_|refine Qs ?_ _|refine Qo ?_ ?_ _ _)))
      (first
       | (go_at_call 210; refine (HCM.out _).mono ?_; rintro e w8 ⟨rfl,hb8⟩))
     have HB8 : Hid (Below w.heap.size w w8) := bl_then HBR.out (by assumption)
     clear a0 a1 a2 a3 a4 a5 a6 d0 d1 d2 d3 d4 d5 d6
     go_wp2
     go_ret
     exact ⟨by have h := HOF.out; rw [← HKN.out] at h; exact ret_bool h.symm,HB8.out⟩
    ·have HOK : Hid (ltF (G P) (G M) = false) := by
      show _ = _
      cases h : ltF (G P) (G M)
      ·rfl
      ·exact absurd (HCI.out.2 h) hneg
     go_wp2_with fail
     go_region_held3 (fun W' => Below wr.heap.size wr W') ((repeat (first|exact Qr _ _|assumption|refine Qd ?_|refine Qa ?_ _|refine Qt ?_|refine Qs ?_ _|refine Qo ?_ ?_ _ _)))
      (first
       | (go_at_call 210; refine (HCM.out _).mono ?_; rintro e w8 ⟨rfl,hb8⟩))
     have HB8 : Hid (Below w.heap.size w w8) := bl_then HBR.out (by assumption)
     clear a0 a1 a2 a3 a4 a5 a6 d0 d1 d2 d3 d4 d5 d6
     go_wp2
     go_roundw
     case rel =>
      have h1 := HKM.out
      refine ⟨M,by omega,by first | rfl | go_num | (simp; done) | omega,fun i h2 h3 => ?_,HB8.out⟩
      by_cases h4 : i = M
      ·subst h4
       have := HOK.out
       rw [← h1] at this
       exact this
      ·exact HALL.out i (by omega) h3
     case measure => have h1 := HKM.out; simp [intOf]; omega
theorem areInOrder_any (b n cap : Nat) (G : Nat → Feat) (w : World) (hg : FsAt w b 0 n G) (hbl : b < w.heap.size) (hn : n ≤ 1048576) :
  Calls Tryz.prog 181 #[.slice (some ⟨b,0,none⟩) n cap] w fun e w' => e = .returned (.bool (ordI n G)) ∧ Below w.heap.size w w' := by
 have HH : Hid (Calls Tryz.prog 209 #[.slice (some ⟨b,0,none⟩) n cap, .func (.func 210) #[] #[]] w fun e w' => e = .returned (.bool (ordI n G)) ∧ Below w.heap.size w w') := isSortedFunc_any b n cap G w hg hbl hn
 clear hg
 obtain ⟨c,hc⟩ : ∃ c,ordI n G = c := ⟨_,rfl⟩
 rw [hc] at HH
 rw [hc]
 clear hc
 go_enter Tryz.func181,Tryz.ntmps181
 go_wp2_with (go_at_call 209; refine Calls.mono HH.out ?_; rintro e w' ⟨rfl,hb⟩)
 go_ret
 exact ⟨rfl,by assumption⟩
theorem l6Ordered_any (b n cap : Nat) (G : Nat → Feat) (w : World) (hg : FsAt w b 0 n G) (hbl : b < w.heap.size) (hn : n ≤ 1048576) :
  Calls Tryz.prog 148 #[.slice (some ⟨b,0,none⟩) n cap] w fun e w' => e = .returned (.bool (ordS n G)) ∧ Below w.heap.size w w' := by
 have HG : Hid (FsAt w b 0 n G) := hg
 clear hg
 go_enter Tryz.func148,Tryz.ntmps148
 go_wp2_with fail
 go_loopw [3] (fun i wr => ∃ k : Nat,(k + 1 ≤ n ∨ k = 0) ∧ i = .int .i64 ((k : Int) + 1) ∧ (∀ i,i < k → ltF (G i) (G (i + 1)) = true) ∧ Below w.heap.size w wr) (fun i _ => n - (intOf i).toNat)
 case atStart => exact ⟨0, .inr rfl,rfl,fun i h1 => by omega,Below.refl _ _⟩
 case round =>
  obtain ⟨M,hk,rfl,hall,hB⟩ := hrel
  have HALL : Hid (∀ i,i < M → ltF (G i) (G (i + 1)) = true) := hall
  have HB : Hid (Below w.heap.size w wr) := hB
  have hbr : b < wr.heap.size := Nat.lt_of_lt_of_le hbl hB.size
  have hGr : FsAt wr b 0 n G := HG.out.below hB hbl
  clear hall hB
  obtain ⟨P,hP⟩ : ∃ P,M + 1 = P := ⟨_,rfl⟩
  have ePM : (M : Int) + 1 = (P : Int) := by omega
  have HKM : Hid (M + 1 = P) := hP
  rw [ePM]
  by_cases h1 : M + 1 < n
  ·have fa := hGr (M + 1) h1
   have fd := hGr M (by omega)
   have HOI : Hid (ltF (G M) (G (M + 1)) = false → ordS n G = false) := fun h => ordS_bad M h1 h
   have e1 : IntKind.i64.wrap ((P : Int) - 1) = (M : Int) := by rw [show (P : Int) - 1 = (M : Int) by omega]; exact IntWalk.i64_in _ (by omega)
   have e3 : (P : Int) < (n : Int) := by omega
   have e4 : (M : Int) < (n : Int) := by omega
   rw [hP] at fa HOI
   have kpos : 0 ≤ (P : Int) := by omega
   have mpos : 0 ≤ (M : Int) := by omega
   obtain ⟨⟨a0,a1,_,_,_,_,_⟩,_⟩ := fa
   obtain ⟨⟨d0,d1,_,_,_,_,_⟩,_⟩ := fd
   simp only [Nat.zero_add] at a0 a1 d0 d1
   obtain ⟨C,hC⟩ : ∃ C,ltF (G M) (G P) = C := ⟨_,rfl⟩
   have HCM : Hid (∀ W,Below wr.heap.size wr W → Calls Tryz.prog 176 #[.pointer (some ⟨b,M * 7,none⟩), .pointer (some ⟨b,P * 7,none⟩)] W fun e w' => e = .returned (.bool C) ∧ Below W.heap.size W w') := fun W h => by
    rw [← hC]
    exact l2Ahead_any b (M * 7) b (P * 7) (G M) (G P) W (bl_cell h d0) (bl_cell h d1) (bl_cell h a0) (bl_cell h a1)
   rw [hC] at HOI
   have HC : Hid (ltF (G M) (G P) = C) := hC
   clear hC a0 a1 d0 d1 hGr hP
   cases C with
   | false =>
    have HOF : Hid (ordS n G = false) := HOI.out rfl
    go_wp2_with fail
    go_region_held3 (fun W' => Below wr.heap.size wr W') ((repeat (first|exact Qr _ _|assumption|refine Qd ?_|refine Qa ?_ _|refine Qt ?_|refine Qs ?_ _|refine Qo ?_ ?_ _ _)))
     (first
      | (go_at_call 176; refine (HCM.out _ (by assumption)).mono ?_; rintro e w8 ⟨rfl,hb8⟩))
    have HB8 : Hid (Below w.heap.size w w8) := bl_then HB.out (by assumption)
    go_wp2
    go_ret
    exact ⟨ret_bool HOF.out.symm,HB8.out⟩
   | true =>
    go_wp2_with fail
    go_region_held3 (fun W' => Below wr.heap.size wr W') ((repeat (first|exact Qr _ _|assumption|refine Qd ?_|refine Qa ?_ _|refine Qt ?_|refine Qs ?_ _|refine Qo ?_ ?_ _ _)))
     (first
      | (go_at_call 176; refine (HCM.out _ (by assumption)).mono ?_; rintro e w8 ⟨rfl,hb8⟩))
    have HB8 : Hid (Below w.heap.size w w8) := bl_then HB.out (by assumption)
    go_wp2
    go_roundw
    case rel =>
     have h1 := HKM.out
     refine ⟨P,by omega,by first | rfl | go_num | (simp; done) | omega,fun i h2 => ?_,HB8.out⟩
     by_cases h4 : i = M
     ·subst h4
      have := HC.out
      rw [← h1] at this
      exact this
     ·exact HALL.out i (by omega)
    case measure => have h1 := HKM.out; simp [intOf]; omega
  ·have HV : Hid (ordS n G = true) := by
    show _ = _
    unfold ordS
    rw [decide_eq_true]
    exact fun i hi => HALL.out i (by omega)
   have e3 : ¬ (P : Int) < (n : Int) := by omega
   go_wp2
   go_ret
   exact ⟨ret_bool HV.out.symm,HB.out⟩
theorem There.lay {W : World} {b n : Nat} (h : There W b n) {B o : Nat} {f : Feat} (hne : B ≠ b) : There (lay7 W B o f) b n := by
 unfold lay7
 exact ((((((h.store hne).store hne).store hne).store hne).store hne).store hne).store hne
theorem ownq_lay {W : World} {B n k q0 hi : Nat} {F : Nat → Feat} {q : Nat → Nat} {f : Feat} (h : OwnQ W B hi B k (fun i => (F i).n) (fun i => (F i).n) q) (hT : There W B (n * 7)) (hk : k < n) (hfa : f.a = some ⟨q0,0,none⟩) (hfn : f.n = (F k).n) (hfc : f.cap = (F k).n) (h0 : hi ≤ q0) (h1 : q0 < W.heap.size) (hTq : There W q0 ((F k).n * 2)) :
  OwnQ (lay7 W B (k * 7) f) B (lay7 W B (k * 7) f).heap.size B (k + 1) (fun i => (F i).n) (fun i => (F i).n) (fun i => if i = k then q0 else q i) := by
 obtain ⟨⟨a1,a2,a3⟩,a4,a5,a6⟩ := h
 have hsz := lay7_size W B (k * 7) f
 refine ⟨⟨a1,by rw [hsz]; omega,Nat.le_refl _⟩,fun o ho => lay7_there hT o (by omega),fun i hi => ?_,fun i j hi hj e => ?_⟩
 ·by_cases e : i = k
  ·subst e
   show (B ≤ (if i = i then q0 else q i) ∧ (if i = i then q0 else q i) < _ ∧ (if i = i then q0 else q i) ≠ B) ∧ There _ (if i = i then q0 else q i) ((F i).n * 2) ∧ _ = some (Value.slice (some ⟨(if i = i then q0 else q i),0,none⟩) (F i).n (F i).n)
   rw [if_pos rfl]
   refine ⟨⟨by omega,by rw [hsz]; exact h1,by omega⟩,hTq.lay (by omega),?_⟩
   have := (lay7_at (f := f) (o := i * 7) hT (by omega)).2.2.2.2.1
   rw [this,hfa,hfn,hfc]
  ·show (B ≤ (if i = k then q0 else q i) ∧ (if i = k then q0 else q i) < _ ∧ (if i = k then q0 else q i) ≠ B) ∧ There _ (if i = k then q0 else q i) ((F i).n * 2) ∧ _ = some (Value.slice (some ⟨(if i = k then q0 else q i),0,none⟩) (F i).n (F i).n)
   rw [if_neg e]
   obtain ⟨b1,b2,b3⟩ := a5 i (by omega)
   refine ⟨⟨b1.1,by rw [hsz]; omega,b1.2.2⟩,b2.lay (Ne.symm b1.2.2),?_⟩
   rw [lay7_other (p := ⟨B,i * 7 + 4,none⟩) (.inr (.inl (by show i * 7 + 4 < k * 7; omega)))]
   exact b3
 ·by_cases ei : i = k <;> by_cases ej : j = k
  ·omega
  ·simp only [if_pos ei,if_neg ej] at e
   have := (a5 j (by omega)).1
   omega
  ·simp only [if_neg ei,if_pos ej] at e
   have := (a5 i (by omega)).1
   omega
  ·simp only [if_neg ei,if_neg ej] at e
   exact a6 i j (by omega) (by omega) e
theorem toFeatureS_own (a : Option Addr) (n cap : Nat) (F : Nat → Feat) (w : World) (hp : IsFs w a n F) (hmax : n ≤ 1048576) (hall : ∀ i,i < n → (F i).n ≤ 1048576) :
  Calls Tryz.prog 179 #[.slice a n cap] w fun e w' => ∃ b G,e = .returned (.slice (some ⟨b,0,none⟩) n n) ∧ OwnFs w' w.heap.size b n F G ∧ (∃ q,OwnQ w' w.heap.size w'.heap.size b n (fun i => (F i).n) (fun i => (F i).n) q) ∧ Below w.heap.size w w' := by
 have hmk := make_feats n hmax
 have HP : Hid (IsFs w a n F) := hp
 have HA : Hid (∀ i,i < n → (F i).n ≤ 1048576) := hall
 clear hp hall
 go_enter Tryz.func179,Tryz.ntmps179
 go_wp2
 generalize hW : (w.alloc _ : World) = W
 have HB0 : Hid (Below w.heap.size w W) := by show Below _ _ _; subst hW; exact Qb
 have HT0 : Hid (There W w.heap.size (n * 7)) := by show There _ _ _; subst hW; exact there_madeF _ _ _
 have HL0 : Hid (w.heap.size < W.heap.size) := by show _ < _; subst hW; simp
 clear hW hmk
 go_loopw [4] (fun i wr => ∃ (k : Nat) (G : Nat → Feat),k ≤ n ∧ i = .int .i64 k ∧ Below w.heap.size w wr ∧ There wr w.heap.size (n * 7) ∧ OwnFs wr w.heap.size w.heap.size k F G ∧ ∃ q,OwnQ wr w.heap.size wr.heap.size w.heap.size k (fun i => (F i).n) (fun i => (F i).n) q) (fun i _ => n - (intOf i).toNat)
 case atStart => exact ⟨0,F,by omega,rfl,HB0.out,HT0.out,⟨Nat.le_refl _,HL0.out,fun i hi => by omega,fun i hi => by omega⟩,fun _ => 0,⟨Nat.le_refl _,HL0.out,Nat.le_refl _⟩,(fun o ho => by omega),(fun i hi => by omega),fun i j hi => by omega⟩
 case round =>
  obtain ⟨k,G,hk,rfl,hB,hT,hO,qq,hQ⟩ := hrel
  by_cases hlt : k < n
  ·rcases HP.out with h0 | ⟨b,off,rfl,hbl,hpt⟩
   ·omega
   ·obtain ⟨⟨f0,f1,f2,f3,f4,f5,f6⟩,hIP⟩ := (hpt.below hB hbl) k hlt
    have HB : Hid (Below w.heap.size w wr) := hB
    have HT : Hid (There wr w.heap.size (n * 7)) := hT
    have HO : Hid (OwnFs wr w.heap.size w.heap.size k F G) := hO
    have HIP : Hid (IsPts wr (F k).a (F k).n (F k).X (F k).Y) := hIP
    have hnk := HA.out k hlt
    have hlw : w.heap.size < wr.heap.size := hO.2.1
    have HQ : Hid (OwnQ wr w.heap.size wr.heap.size w.heap.size k (fun i => (F i).n) (fun i => (F i).n) qq) := hQ
    clear hB hT hO hpt hIP hQ
    have hi : (k : Int) < (n : Int) := by omega
    have hi0 : (0 : Int) ≤ (k : Int) := by omega
    go_wp2_with fail
    refine (toFeature_own _ _ _ _ _ _ _ (F k).X (F k).Y _ _ _ HIP.out hnk).mono ?_
    rintro e w' ⟨q,rfl,hq1,hq2,hq3,hqT,hb⟩
    have HQT : Hid (There w' q ((F k).n * 2)) := hqT
    clear hqT
    have hT' := HT.out.below hb
    have t0 := hT'.cell (k * 7) (by omega)
    have t1 := hT'.cell (k * 7 + 1) (by omega)
    have t2 := hT'.cell (k * 7 + 2) (by omega)
    have t3 := hT'.cell (k * 7 + 3) (by omega)
    have t4 := hT'.cell (k * 7 + 4) (by omega)
    have t5 := hT'.cell (k * 7 + 5) (by omega)
    have t6 := hT'.cell (k * 7 + 6) (by omega)
    have y0 := (hT' (k * 7) (by omega)).2
    have y1 := (hT' (k * 7 + 1) (by omega)).2
    have y2 := (hT' (k * 7 + 2) (by omega)).2
    have y3 := (hT' (k * 7 + 3) (by omega)).2
    have y4 := (hT' (k * 7 + 4) (by omega)).2
    have y5 := (hT' (k * 7 + 5) (by omega)).2
    have y6 := (hT' (k * 7 + 6) (by omega)).2
    have HT' : Hid (There w' w.heap.size (n * 7)) := hT'
    have HQ3 : Hid (PtsAt w' q 0 (F k).n (F k).X (F k).Y) := hq3
    have HBn : Hid (Below wr.heap.size wr w') := hb
    clear hT' hq3 hb f0 f1 f2 f3 f4 f5 f6
    go_wp2
    go_roundw
    case rel =>
     refine ⟨k + 1,fun i => if i = k then { F k with a := some ⟨q,0,none⟩,cap := (F k).n } else G i,by omega,by go_num,?_,?_,?_,?_⟩
     ·exact lay7_below (f := { F k with a := some ⟨q,0,none⟩,cap := (F k).n }) (B := w.heap.size) (o := k * 7) (HB.out.trans (HBn.out.mono HB.out.size)) (Nat.le_refl _)
     ·exact lay7_there (f := { F k with a := some ⟨q,0,none⟩,cap := (F k).n }) (B := w.heap.size) (o := k * 7) HT'.out
     ·exact own_lay (HO.out.below HBn.out) HT'.out (by omega) (by omega) hq2 HQ3.out (by omega)
     ·exact ⟨_,ownq_lay (f := { F k with a := some ⟨q,0,none⟩,cap := (F k).n }) (HQ.out.below HBn.out) HT'.out (by omega) rfl rfl rfl hq1 hq2 HQT.out⟩
    case measure => simp [intOf]; omega
  ·go_wp2
   go_ret
   have hkn : k = n := by omega
   subst hkn
   exact ⟨_,G,rfl,hO,⟨qq,hQ⟩,hB⟩
theorem l2Copy_any (b n cap : Nat) (G : Nat → Feat) (w : World) (hg : FsAt w b 0 n G) (hbl : b < w.heap.size) (hn : n ≤ 12) (hpos : ∀ i,i < n → 0 < (G i).n) (hs : SmallFs n G) :
  Calls Tryz.prog 150 #[.slice (some ⟨b,0,none⟩) n cap] w fun e w' => ∃ v H,e = .returned v ∧ v ≠ .slice none 0 0 ∧ FRow w.heap.size w' v H (List.range n) ∧ Copies w.heap.size w' n G H ∧ Below w.heap.size w w' := by
 obtain ⟨i0,hi,hz0,hz1,hz2⟩ := info_parts info_if
 have HG : Hid (FsAt w b 0 n G) := hg
 have HPOS : Hid (∀ i,i < n → 0 < (G i).n) := hpos
 have HS : Hid (SmallFs n G) := hs
 clear hg hpos hs
 go_enter Tryz.func150,Tryz.ntmps150
 go_wp2_with fail
 generalize hS0 : (w.alloc _ : World) = S0
 have hB0 : Below w.heap.size w S0 := by subst hS0; exact Qb
 have hO0 : FRow w.heap.size S0 (.slice (some ⟨w.heap.size,0,none⟩) 0 0) G (List.range 0) := by
  subst hS0
  exact World.ownsRow_lit (base := w.heap.size) (e := 207) (size := 7) w #[] 0 (Nat.le_refl _) (Nat.zero_le _) rfl
 clear hS0
 go_loopw [3,4] (fun v i wr => ∃ (k : Nat) (H : Nat → Feat),k ≤ n ∧ i = .int .i64 (k : Int) ∧ v ≠ .slice none 0 0 ∧ FRow w.heap.size wr v H (List.range k) ∧ Copies w.heap.size wr k G H ∧ Below w.heap.size w wr) (fun _ i _ => n - (intOf i).toNat)
 case atStart => exact ⟨0,G,by omega,rfl,(by intro h; injection h with h; cases h),hO0,⟨fun i hi => by omega,fun i j hi => by omega⟩,hB0⟩
 case round =>
  obtain ⟨k,H,hk,rfl,hnn,hO,hC,hB⟩ := hrel
  have HNN : Hid (u3 ≠ .slice none 0 0) := hnn
  clear hnn
  by_cases hlt : k < n
  ·have hblr : b < wr.heap.size := Nat.lt_of_lt_of_le hbl hB.size
   obtain ⟨⟨f0,f1,f2,f3,f4,f5,f6⟩,hP⟩ := (HG.out.below hB hbl) k hlt
   simp only [Nat.zero_add] at f0 f1 f2 f3 f4 f5 f6
   have hp0 := HPOS.out k hlt
   obtain ⟨z1,z2⟩ := HS.out.2 k hlt
   obtain ⟨b',off',ha',hbl',hpt⟩ := hP.resolve_left (by omega)
   rw [ha'] at f4
   have HP : Hid (PtsAt wr b' off' (G k).n (G k).X (G k).Y) := hpt
   have HO : Hid (FRow w.heap.size wr u3 H (List.range k)) := hO
   have HC : Hid (Copies w.heap.size wr k G H) := hC
   have HB : Hid (Below w.heap.size w wr) := hB
   have HLT : Hid (k < n) := hlt
   clear hO hC hB hP hpt
   have hi' : (k : Int) < (n : Int) := by omega
   go_wp2_with fail
   clear f0 f1 f2 f3 f4 f5 f6
   refine (l2CopyOne_row _ _ _ _ b' _ _ (G k).X (G k).Y _ _ wr HP.out hbl' z1).mono ?_
   rintro e w1 ⟨a1,c1,rfl,hR1,hb1⟩
   have hrV : Below wr.heap.size wr w1 := hb1
   have HR1 : Hid (Row (wr.heap.size + 1 + 1) w1 (.slice a1 (G k).n c1) (ptsOf (G k).X (G k).Y (List.range (G k).n))) := hR1
   have HO1 : Hid (FRow w.heap.size w1 u3 H (List.range k)) := HO.out.below hb1
   have HB1 : Hid (Below w.heap.size w w1) := bl_then HB.out hrV
   have HrV : Hid (Below wr.heap.size wr w1) := hrV
   have hszw := HB.out.size
   have hsz1 := hb1.size
   clear hR1 hrV hb1 HO HB
   have hlenr : (List.range k).length = k := by simp
   go_wp2_with (first
    | (at_builtin; go_must (refine wpList_append_own _ rfl _ _ 145 rfl w.heap.size 207 i0 (.agg #[.int .i64 0, .int .i64 0, .int .i64 0, .int .i64 0, .slice none 0 0, .string ⟨#[]⟩, .int .i64 0]) 7 80 Tryz.underlying145 hi hz0 hz1 hz2 rfl (by decide) u3 k (cellsF H (List.range k)) rfl ?c6 ⟨w1.heap.size,0,none⟩ 1 1 (fcell { G k with a := a1,cap := c1 }) rfl ?c0 ?c1 ?c2 ?c3 ?c4 ?c5 ?_)))
   case c6 =>
    have := HO1.out.below (by exact Qb : Below w1.heap.size w1 (w1.alloc (.cells #[.int .i64 (G k).id, .int .i64 (G k).la, .int .i64 (G k).ki, .int .i64 (G k).wi, .slice a1 (G k).n c1, .string (G k).lab, .int .i64 (G k).pr] 207)))
    unfold FRow at this
    rw [hlenr] at this
    exact this
   case c0 => rfl
   case c1 =>
    intro q u hq
    have hq7 : q < 7 := (List.getElem?_eq_some_iff.1 hq).1
    have hc : q = 0 ∨ q = 1 ∨ q = 2 ∨ q = 3 ∨ q = 4 ∨ q = 5 ∨ q = 6 := by omega
    rcases hc with rfl | rfl | rfl | rfl | rfl | rfl | rfl <;> (simp [fcell] at hq; subst hq; simp [Addr.add,go_sem])
   case c2 => exact fcell_one _
   case c3 => unfold maxLen; omega
   case c4 => omega
   case c5 => simp; omega
   intro v' w3 hown' hgrow hnil
   have HN' : Hid (v' ≠ .slice none 0 0) := hnil
   clear hnil
   have hO2 : FRow w.heap.size (w1.alloc (.cells #[.int .i64 (G k).id, .int .i64 (G k).la, .int .i64 (G k).ki, .int .i64 (G k).wi, .slice a1 (G k).n c1, .string (G k).lab, .int .i64 (G k).pr] 207)) u3 H (List.range k) := HO1.out.below (by exact Qb)
   have hR2 := HR1.out.below (by exact Qb : Below w1.heap.size w1 (w1.alloc (.cells #[.int .i64 (G k).id, .int .i64 (G k).la, .int .i64 (G k).ki, .int .i64 (G k).wi, .slice a1 (G k).n c1, .string (G k).lab, .int .i64 (G k).pr] 207)))
   have hb2 : Below wr.heap.size wr (w1.alloc (.cells #[.int .i64 (G k).id, .int .i64 (G k).la, .int .i64 (G k).ki, .int .i64 (G k).wi, .slice a1 (G k).n c1, .string (G k).lab, .int .i64 (G k).pr] 207)) := HrV.out.alloc (by omega) _
   obtain ⟨hC1,hC2⟩ := HC.out
   have HF : Hid (FRow w.heap.size w3 v' (fun i => if i = k then { G k with a := a1,cap := c1 } else H i) (List.range (k + 1))) := by
    show FRow _ _ _ _ _
    unfold FRow
    have e1 : cellsF (fun i => if i = k then { G k with a := a1,cap := c1 } else H i) (List.range (k + 1)) = cellsF H (List.range k) ++ fcell { G k with a := a1,cap := c1 } := by
     rw [List.range_succ,cellsF_app,cellsF_one,if_pos rfl]
     rw [cellsF_congr (H' := H) (List.range k) (fun j hj => by rw [if_neg]; have := List.mem_range.1 hj; omega)]
    rw [e1,List.length_range]
    exact hown'
   have HCn : Hid (Copies w.heap.size w3 (k + 1) G (fun i => if i = k then { G k with a := a1,cap := c1 } else H i)) := by
    show Copies _ _ _ _ _
    obtain ⟨g1,hg1,hg1',_⟩ := HR1.out.atP hp0
    refine ⟨fun i hi => ?_,fun i j hi hj e => ?_⟩
    ·by_cases e : i = k
     ·subst e
      simp only [if_pos]
      exact ⟨⟨rfl,rfl,rfl,rfl,rfl,rfl,rfl,rfl,rfl⟩,(hR2.keptF hO2 hgrow).wideB (by omega)⟩
     ·simp only [if_neg e]
      obtain ⟨s1,r1⟩ := hC1 i (by omega)
      exact ⟨s1,(r1.below hb2).keptF hO2 hgrow⟩
    ·have old : ∀ i,i < k → (H i).a ≠ a1 := fun i hi e => by
      obtain ⟨s1,r1⟩ := hC1 i hi
      have hnn : (H i).n = (G i).n := s1.2.2.2.2.1
      rw [hnn] at r1
      obtain ⟨g,hg,_,hgl,_⟩ := r1.atP (HPOS.out i (by omega))
      rw [hg,hg1] at e
      injection e with e
      injection e with e
      omega
     by_cases ei : i = k <;> by_cases ej : j = k
     ·omega
     ·simp only [if_pos ei,if_neg ej] at e
      exact absurd e.symm (old j (by omega))
     ·simp only [if_neg ei,if_pos ej] at e
      exact absurd e (old i (by omega))
     ·simp only [if_neg ei,if_neg ej] at e
      exact hC2 i j (by omega) (by omega) e
   have HB3 : Hid (Below w.heap.size w w3) := (HB1.out.alloc (by omega) _).grown hgrow (by simp; omega) (fun g hg => ((World.ownsRow.lt (show World.ownsRow _ _ _ _ _ _ _ from hO2)) g hg).1)
   clear hown' hgrow hO2 hR2 hb2 hC1 hC2
   go_wp2
   go_roundw
   case rel => exact ⟨k + 1,_,by have := HLT.out; omega,by go_num,HN'.out,HF.out,HCn.out,HB3.out⟩
   case measure => have := HLT.out; simp [intOf]; omega
  ·go_wp2
   go_ret
   have hkn : k = n := by omega
   subst hkn
   exact ⟨_,H,rfl,HNN.out,hO,hC,hB⟩
end Go.Proofs.YtiephlohemphjaaGreat
