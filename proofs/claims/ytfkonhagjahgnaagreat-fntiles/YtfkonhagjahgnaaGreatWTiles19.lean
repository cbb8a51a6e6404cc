/- Texts. -/
import Derived.Test.YtfkonhagjahgnaaGreatWTiles12
import Derived.Test.YtfkonhagjahgnaaGreatWTiles11
import Derived.Test.YtfkonhagjahgnaaGreatWTiles17
import Derived.Test.YtfkonhagjahgnaaGreatWTiles2
import Derived.Test.YtfkonhagjahgnaaGreatWTiles6
import Derived.Test.YtfkonhagjahgnaaGreatWTiles9
import Derived.Test.YtfkonhagjahgnaaGreatWTiles1
set_option linter.unusedSimpArgs false
set_option linter.unusedVariables false
set_option maxRecDepth 100000
set_option maxHeartbeats 32000000
namespace Go.Proofs.YtfkonhagjahgnaaGreat
open Go.RowKit
theorem featC_zero {id la ki wi : Int} {n : Nat} {X Y : Nat → Int} {lab : ByteArray} {pr : Int} (h : featC id la ki wi n X Y lab pr = 0) :
  (ki = 1 ∨ ki = 2 ∨ ki = 3) ∧ 0 < n ∧ n ≤ 12 ∧ (ki ≤ n) ∧ (∀ i,i < n → inW (X i) (Y i) = true) ∧ lab.size ≤ 6 := by
 unfold featC at h
 split at h
 ·rename_i h1
  split at h
  ·rename_i h2
   split at h
   ·rename_i h3
    split at h
    ·rename_i h4
     have hk : 1 ≤ ki ∧ ki ≤ 3 := by
      simp [rngB,inB] at h1
      omega
     have hlab : lab.size ≤ 6 := by
      unfold labB at h4
      simp at h4
      exact h4.1
     have hin : ∀ i,i < n → inW (X i) (Y i) = true := of_decide_eq_true h3
     have hkk : ki = 1 ∨ ki = 2 ∨ ki = 3 := by omega
     refine ⟨hkk,?_,?_,?_,hin,hlab⟩
     all_goals
      rcases hkk with rfl | rfl | rfl
      ·simp [sizeB] at h2; omega
      ·simp [sizeB,inB] at h2; omega
      ·simp [sizeB,inB] at h2; omega
    ·cases h
   ·cases h
  ·cases h
 ·cases h
theorem featC_rng {id la ki wi : Int} {n : Nat} {X Y : Nat → Int} {lab : ByteArray} {pr : Int} (h : featC id la ki wi n X Y lab pr = 0) :
  (1 ≤ id ∧ id ≤ 999) ∧ (0 ≤ la ∧ la ≤ 9) ∧ (0 ≤ wi ∧ wi ≤ 3) ∧ (0 ≤ pr ∧ pr ≤ 9) := by
 unfold featC at h
 split at h
 ·rename_i h1
  simp [rngB,inB] at h1
  omega
 ·cases h
def kindN (ki : Int) (n : Nat) : Prop := (ki = 1 ∧ n = 1) ∨ (ki = 2 ∧ 2 ≤ n) ∨ (ki = 3 ∧ 3 ≤ n)
theorem featC_point {id la wi : Int} {n : Nat} {X Y : Nat → Int} {lab : ByteArray} {pr : Int} (h : featC id la 1 wi n X Y lab pr = 0) : n = 1 := by
 unfold featC at h
 split at h
 ·split at h
  ·rename_i h2
   simp [sizeB] at h2
   omega
  ·cases h
 ·cases h
def reachI (wi z : Int) : Int := (wi + 1) * unitI z
theorem reach_bd {wi z : Int} (hw : 0 ≤ wi ∧ wi ≤ 3) (hz : zoomB z = true) : 16 ≤ reachI wi z ∧ reachI wi z ≤ 512 := by
 unfold reachI
 rcases zoomB_cases hz with rfl | rfl | rfl | rfl
 all_goals
  simp only [show unitI 0 = 128 from rfl,show unitI 1 = 64 from rfl,show unitI 2 = 32 from rfl,show unitI 3 = 16 from rfl]
  omega
theorem unit_lit {z : Int} (hz : zoomB z = true) : unitI z = 128 ∨ unitI z = 64 ∨ unitI z = 32 ∨ unitI z = 16 := by rcases zoomB_cases hz with rfl | rfl | rfl | rfl <;> simp [unitI]
theorem reachAt_any (id la ki wi z : Int) (v : Value) (lab : ByteArray) (pr : Int) (w : World) (hw : 0 ≤ wi ∧ wi ≤ 3) (hz : zoomB z = true) (hv : ∃ a n c,v = .slice a n c) :
  Calls Tryz.prog 75 #[.agg #[.int .i64 id, .int .i64 la, .int .i64 ki, .int .i64 wi,v, .string lab, .int .i64 pr], .int .i64 z] w fun e w' => e = .returned (.int .i64 (reachI wi z)) ∧ Below w.heap.size w w' := by
 obtain ⟨a,n,c,rfl⟩ := hv
 have s1 := fun w => impl_UnitAt_any z w
 have hv : unitV z = .agg #[.int .i64 0, .int .i64 (unitI z)] := by simp [unitV,hz]
 simp only [hv] at s1
 have hbd := unit_lit hz
 have hr : Hid (reachI wi z = (wi + 1) * unitI z) := rfl
 generalize unitI z = u at *
 have i1 : ∀ w,(Instr.field 43 (.agg #[.int .i64 0, .int .i64 u]) 1).run Tryz.prog w = .ok (.int .i64 u) w := fun _ => by kernel_rfl
 have hS := (show Hid _ from s1)
 clear s1 hv
 obtain ⟨hw0,hw1⟩ := hw
 go_enter Tryz.func75,Tryz.ntmps75
 go_wp2_with fail
 generalize hW : (w.alloc _ : World) = W
 have hB0 : Below w.heap.size w W := by subst hW; (repeat (first|exact Qr _ _|assumption|refine Qd ?_|refine Qa ?_ _|refine Qt ?_|refine Qs ?_ _|refine Qo ?_ ?_ _ _))
 have c3 : ∀ W',Below W.heap.size W W' → W'.cell? ⟨w.heap.size,3,none⟩ = some (.int .i64 wi) := fun W' h => by
  rw [h.cell (by subst hW; simp)]; subst hW; simp [go_sem]
 clear hW
 have hr0 : Below W.heap.size W W := Below.refl _ _
 rcases hbd with rfl | rfl | rfl | rfl
 all_goals
  go_region_held3 (fun W' => Below W.heap.size W W') ((repeat (first|exact Qr _ _|assumption|refine Qd ?_|refine Qa ?_ _|refine Qt ?_|refine Qs ?_ _|refine Qo ?_ ?_ _ _)))
   (first | (go_at_call 72; refine (hS.out _).mono ?_; rintro e w' ⟨rfl,hb⟩))
  go_wp2
  go_ret
  exact ⟨ret_int (by rw [IntWalk.i64_in (wi + 1) (by omega),IntWalk.i64_in _ (by omega)]; exact hr.out.symm),bl_then hB0 (by assumption)⟩
def coverB (ki wi z cx cy : Int) (D : List (Int × Int)) : Bool := if ki = 3 then insideB cx cy D.length (px D) (py D) else byB cx cy (reachI wi z) (px D) (py D) D.length
theorem doubled_at (b off n cap : Nat) (X Y : Nat → Int) (w : World) (hp : PtsAt w b off n X Y) (hbl : b < w.heap.size) (hn0 : 0 < n) (hn : n ≤ 40) (hin : ∀ i,i < n → inW (X i) (Y i) = true) :
  Calls Tryz.prog 74 #[.slice (some ⟨b,off,none⟩) n cap] w fun e w' => ∃ g cg,e = .returned (.slice (some ⟨g,0,none⟩) n cg) ∧ g < w'.heap.size ∧ n ≤ cg ∧ PtsAt w' g 0 n (px (dblL X Y n)) (py (dblL X Y n)) ∧ Below w.heap.size w w' :=
 (doubled_any b off n cap X Y w hp hbl hn hin).mono fun e w' ⟨v,he,hR,hb⟩ => by
  obtain ⟨g,cg,hv,h1,h2,h3,h4⟩ := hR.at (by rw [dblL_len]; exact hn0)
  rw [dblL_len] at hv h3 h4
  exact ⟨g,cg,by rw [he,hv],h2,h3,h4,hb⟩
theorem coveringOf_area (w : World) : Calls Tryz.prog 73 #[.int .i64 3] w fun e w' => e = .returned (.func (.func 111) #[] #[]) ∧ w = w' := by
 go_enter Tryz.func73,Tryz.ntmps73
 go_wp2
 go_ret
 exact ⟨rfl,rfl⟩
theorem coveringOf_line (ki : Int) (w : World) (h : ki ≠ 3) : Calls Tryz.prog 73 #[.int .i64 ki] w fun e w' => e = .returned (.func (.func 112) #[] #[]) ∧ w = w' := by
 have hk : (ki == 3) = false := by simpa using h
 go_enter Tryz.func73,Tryz.ntmps73
 go_wp2
 go_ret
 exact ⟨rfl,rfl⟩
theorem dbl_ok (X Y : Nat → Int) (n : Nat) (hin : ∀ i,i < n → inW (X i) (Y i) = true) : ∀ i,i < n → okP (px (dblL X Y n) i) (py (dblL X Y n) i) = true := fun i hi => by
 obtain ⟨e1,e2⟩ := dblL_px X Y n i hi
 have := inW_bd (hin i hi)
 rw [e1,e2,okP_iff]
 omega
theorem l4Doubled_at (b off n cap : Nat) (X Y : Nat → Int) (w : World) (hp : PtsAt w b off n X Y) (hbl : b < w.heap.size) (hn0 : 0 < n) (hn : n ≤ 40) (hin : ∀ i,i < n → inW (X i) (Y i) = true) :
  Calls Tryz.prog 96 #[.slice (some ⟨b,off,none⟩) n cap] w fun e w' => ∃ g cg,e = .returned (.slice (some ⟨g,0,none⟩) n cg) ∧ g < w'.heap.size ∧ n ≤ cg ∧ PtsAt w' g 0 n (px (dblL X Y n)) (py (dblL X Y n)) ∧ Below w.heap.size w w' :=
 (l4Doubled_any b off n cap X Y w hp hbl hn hin).mono fun e w' ⟨v,he,hR,hb⟩ => by
  obtain ⟨g,cg,hv,h1,h2,h3,h4⟩ := hR.at (by rw [dblL_len]; exact hn0)
  rw [dblL_len] at hv h3 h4
  exact ⟨g,cg,by rw [he,hv],h2,h3,h4,hb⟩
theorem l4Reach_any (q o : Nat) (wi z : Int) (w : World) (hf : w.cell? ⟨q,o + 3,none⟩ = some (.int .i64 wi)) (hw : 0 ≤ wi ∧ wi ≤ 3) (hz : zoomB z = true) :
  Calls Tryz.prog 97 #[.pointer (some ⟨q,o,none⟩), .int .i64 z] w fun e w' => e = .returned (.int .i64 (reachI wi z)) ∧ Below w.heap.size w w' := by
 have s1 := fun w => l3Unit_any z w hz
 have hbd := unit_lit hz
 have hr : Hid (reachI wi z = (wi + 1) * unitI z) := rfl
 generalize unitI z = u at *
 obtain ⟨hw0,hw1⟩ := hw
 have hS := (show Hid _ from s1)
 clear s1
 have c3 : ∀ W',Below w.heap.size w W' → W'.cell? ⟨q,o + 3,none⟩ = some (.int .i64 wi) := fun W' h => bl_cell h hf
 have hr0 : Below w.heap.size w w := Below.refl _ _
 clear hf
 rcases hbd with rfl | rfl | rfl | rfl
 all_goals
  go_enter Tryz.func97,Tryz.ntmps97
  go_wp2_with fail
  go_region_held3 (fun W' => Below w.heap.size w W') ((repeat (first|exact Qr _ _|assumption|refine Qd ?_|refine Qa ?_ _|refine Qt ?_|refine Qs ?_ _|refine Qo ?_ ?_ _ _)))
   (first | (go_at_call 138; refine (hS.out _).mono ?_; rintro e w1 ⟨rfl,rfl⟩))
  go_wp2
  go_ret
  exact ⟨ret_int (by rw [IntWalk.i64_in (wi + 1) (by omega),IntWalk.i64_in _ (by omega)]; exact hr.out.symm),by assumption⟩
def hd (N : List Nat) : List Int := N.flatMap putI
def labL (s : ByteArray) : List Int := s.data.toList.map fun b => (b.toNat : Int)
theorem labL_cells (s : ByteArray) : cellsB (labL s) = Lib.strCells s := by simp [cellsB,labL,Lib.strCells,Function.comp_def]
theorem labL_len (s : ByteArray) : (labL s).length = s.size := by simp [labL]
def featL (id la ki wi pr : Nat) (lab : ByteArray) (n : Nat) (X Y : Nat → Int) : List Int := hd [id,la,ki,wi,pr,lab.size] ++ (labL lab ++ (putI n ++ ptsL X Y n))
theorem hd_len : ∀ (N : List Nat),(∀ x ∈ N,x ≤ 1099511627776) → (hd N).length ≤ 6 * N.length
 | [],_ => by simp [hd]
 | x :: N,h => by
  have h1 := putI_len6 x (h x (by simp))
  have h2 := hd_len N (fun y hy => h y (by simp [hy]))
  simp [hd] at h2 ⊢
  omega
theorem featL_len {id la ki wi pr : Nat} {lab : ByteArray} {n : Nat} {X Y : Nat → Int} (hn : n ≤ 12) (hin : Near n X Y) (hs : lab.size ≤ 6) (h1 : id ≤ 999) (h2 : la ≤ 999) (h3 : ki ≤ 999) (h4 : wi ≤ 999) (h5 : pr ≤ 999) : (featL id la ki wi pr lab n X Y).length ≤ 100 := by
 have e1 := hd_len [id,la,ki,wi,pr,lab.size] (by intro x hx; simp at hx; omega)
 have e2 := labL_len lab
 have e3 := putI_len2 n (by omega)
 have e4 := ptsL_len hin n (Nat.le_refl _)
 simp at e1
 simp [featL]
 omega
theorem OutAt.nb {w w' : World} {O : Nat} {id la ki wi pr : Int} {v : Value} {lab : ByteArray} (h : OutAt w O id la ki wi v lab pr) (hn : NB w w') : OutAt w' O id la ki wi v lab pr := hn _ _ _ _ h (by decide)
theorem OutAt.fresh (w : World) (id la ki wi : Int) (v : Value) (lab : ByteArray) (pr : Int) : OutAt (w.alloc (.cells #[.int .i64 id, .int .i64 la, .int .i64 ki, .int .i64 wi,v, .string lab, .int .i64 pr] 39)) w.heap.size id la ki wi v lab pr := by simp [OutAt,World.alloc, -World.alloc_eq]
theorem putFeature_any (base : Nat) (v : Value) (l : List Int) (id la ki wi pr : Nat) (lab : ByteArray) (b off n cap : Nat) (X Y : Nat → Int) (w : World) (hO : RowB base w v l) (hbase : base ≤ w.heap.size) (hp : PtsAt w b off n X Y) (hbl : b < base) (hn : n ≤ 12) (hin : Near n X Y) (hs : lab.size ≤ 6)
  (h1 : id ≤ 999) (h2 : la ≤ 999) (h3 : ki ≤ 999) (h4 : wi ≤ 999) (h5 : pr ≤ 999) (hl : l.length ≤ 1800) :
  Calls Tryz.prog 60 #[v, .agg #[.int .i64 (id : Int), .int .i64 (la : Int), .int .i64 (ki : Int), .int .i64 (wi : Int), .slice (some ⟨b,off,none⟩) n cap, .string lab, .int .i64 (pr : Int)]] w fun e w' => ∃ v',e = .returned v' ∧ RowB base w' v' (l ++ featL id la ki wi pr lab n X Y) ∧ Below base w w' ∧ NB w w' := by
 obtain ⟨i0,hi,hz0,hz1,hz2⟩ := info_parts info_u8
 have HO : Hid (RowB base w v l) := hO
 have HP : Hid (PtsAt w b off n X Y) := hp
 have HIN : Hid (Near n X Y) := hin
 have e1 : IntKind.u64.wrap (id : Int) = (id : Int) := by rw [IntKind.wrap_u64]; omega
 have e2 : IntKind.u64.wrap (la : Int) = (la : Int) := by rw [IntKind.wrap_u64]; omega
 have e3 : IntKind.u64.wrap (ki : Int) = (ki : Int) := by rw [IntKind.wrap_u64]; omega
 have e4 : IntKind.u64.wrap (wi : Int) = (wi : Int) := by rw [IntKind.wrap_u64]; omega
 have e5 : IntKind.u64.wrap (pr : Int) = (pr : Int) := by rw [IntKind.wrap_u64]; omega
 have e6 : IntKind.u64.wrap (lab.size : Int) = (lab.size : Int) := by rw [IntKind.wrap_u64]; omega
 clear hO hp hin
 go_enter Tryz.func60,Tryz.ntmps60
 go_wp2_with fail
 generalize hW : (w.alloc _ : World) = W
 have hBa : Below w.heap.size w W := by subst hW; (repeat (first|exact Qr _ _|assumption|refine Qd ?_|refine Qa ?_ _|refine Qt ?_|refine Qs ?_ _|refine Qo ?_ ?_ _ _))
 have HF : Hid (OutAt W w.heap.size (id : Int) la ki wi (.slice (some ⟨b,off,none⟩) n cap) lab pr) := by subst hW; exact OutAt.fresh _ _ _ _ _ _ _ _
 have HO1 : Hid (RowB base W v l) := HO.out.below hBa
 have HB : Hid (Below base w W) := hBa.mono hbase
 have HN : Hid (NB w W) := NB.of_below hBa
 obtain ⟨r,hr⟩ : ∃ r,w.heap.size = r := ⟨_,rfl⟩
 rw [hr] at HF hbase
 try rw [hr]
 clear hW HO hBa
 obtain ⟨N,hNN⟩ : ∃ N : List Nat,N = [id,la,ki,wi,pr,lab.size] := ⟨_,rfl⟩
 have HNN : Hid (N = [id,la,ki,wi,pr,lab.size]) := hNN
 clear hNN
 go_loopw [0,21] (fun u i wr => ∃ (k : Nat) (l' : List Int),k ≤ 6 ∧ i = .int .i64 (k : Int) ∧ l' = l ++ hd (N.take k) ∧ l'.length ≤ 1800 + 6 * k ∧ RowB base wr u l' ∧ OutAt wr r (id : Int) la ki wi (.slice (some ⟨b,off,none⟩) n cap) lab pr ∧ Below base w wr ∧ NB w wr) (fun _ i _ => 6 - (intOf i).toNat)
 case atStart => exact ⟨0,l,by omega,rfl,by simp [hd],by omega,HO1.out,HF.out,HB.out,HN.out⟩
 case round =>
  obtain ⟨k,l',hk,rfl,hl1,hl2,hO,hF,hB,hN⟩ := hrel
  have HL : Hid (l' = l ++ hd (N.take k)) := hl1
  have HOr : Hid (RowB base wr u0 l') := hO
  have HFr : Hid (OutAt wr r (id : Int) la ki wi (.slice (some ⟨b,off,none⟩) n cap) lab pr) := hF
  have HBr : Hid (Below base w wr) := hB
  have HNr : Hid (NB w wr) := hN
  have hbr : base ≤ wr.heap.size := by have := hB.size; omega
  clear hO hF hB hN HO1 HF HB HN hl1
  by_cases hlt : k < 6
  ·have hi' : (k : Int) < 6 := by omega
   obtain ⟨x,hat,hx2,hx3⟩ : ∃ x : Nat,(∀ w,(Instr.index 148 (Value.agg #[.int .i64 (id : Int), .int .i64 (la : Int), .int .i64 (ki : Int), .int .i64 (wi : Int), .int .i64 (pr : Int), .int .i64 (lab.size : Int)]) (.int .i64 (k : Int))).run Tryz.prog w = .ok (.int .i64 (x : Int)) w) ∧ x ≤ 999 ∧ hd (N.take (k + 1)) = hd (N.take k) ++ putI x := by
    rw [HNN.out]
    rcases (by omega : k = 0 ∨ k = 1 ∨ k = 2 ∨ k = 3 ∨ k = 4 ∨ k = 5) with rfl | rfl | rfl | rfl | rfl | rfl
    ·exact ⟨id,fun _ => by kernel_rfl,by omega,by simp [hd]⟩
    ·exact ⟨la,fun _ => by kernel_rfl,by omega,by simp [hd]⟩
    ·exact ⟨ki,fun _ => by kernel_rfl,by omega,by simp [hd]⟩
    ·exact ⟨wi,fun _ => by kernel_rfl,by omega,by simp [hd]⟩
    ·exact ⟨pr,fun _ => by kernel_rfl,by omega,by simp [hd]⟩
    ·exact ⟨lab.size,fun _ => by kernel_rfl,by omega,by simp [hd]⟩
   have HX : Hid (hd (N.take (k + 1)) = hd (N.take k) ++ putI x) := hx3
   have h6 := putI_len6 x (by omega)
   have ex : IntKind.u64.wrap (x : Int) = (x : Int) := by rw [IntKind.wrap_u64]; omega
   clear hx3
   go_wp2_with fail
   refine (putNumber_nb base u0 l' x wr HOr.out hbr (by omega) (by omega)).mono ?_
   rintro e w3 ⟨v3,rfl,hO3,hB3,hN3⟩
   have HO3 : Hid (RowB base w3 v3 (l' ++ putI x)) := hO3
   have HF3 : Hid (OutAt w3 r (id : Int) la ki wi (.slice (some ⟨b,off,none⟩) n cap) lab pr) := HFr.out.nb hN3
   have HB3 : Hid (Below base w w3) := HBr.out.trans hB3
   have HN3 : Hid (NB w w3) := HNr.out.trans hN3
   clear hO3 hB3 hN3 HOr HFr HBr HNr hat
   go_wp2
   go_roundw
   case rel => exact ⟨k + 1,l' ++ putI x,by omega,by first | rfl | go_num | (simp; done) | omega,by rw [HX.out,HL.out]; simp,by simp; omega,HO3.out,HF3.out,HB3.out,HN3.out⟩
   case measure => simp [intOf]; omega
  ·have hk6 : k = 6 := by omega
   subst hk6
   have HL' : Hid (l' = l ++ hd [id,la,ki,wi,pr,lab.size]) := by show _ = _; rw [HL.out,HNN.out]; rfl
   obtain ⟨⟨c0,c1,c2,c3,c4,c5,c6⟩,_⟩ := HFr.out.cells
   have hrl := HFr.out.lt
   go_wp2_with (first
    | (at_builtin; go_must (refine Lib.wpList_append_own_string _ rfl _ _ 22 9 rfl base 5 i0 Tryz.underlying22 Tryz.underlying9 hi hz0 hz1 hz2 _ l'.length (cellsB l') rfl HOr.out lab rfl ?c3 ?c4 ?c5 ?_)))
   case c3 => unfold maxLen; omega
   case c4 => omega
   case c5 => omega
   intro v3 w3 hown hgrow hnil
   have HO3 : Hid (RowB base w3 v3 (l' ++ labL lab)) := by
    show RowB _ _ _ _
    unfold RowB
    rw [cellsB_add,labL_cells,List.length_append,labL_len]
    exact hown
   have hBg : Below base wr w3 := (Below.refl _ _).grown hgrow hbr (fun k hk => (HOr.out.lt k hk).1)
   have hNg : NB wr w3 := NB.of_grown HOr.out hgrow
   have HF3 : Hid (OutAt w3 r (id : Int) la ki wi (.slice (some ⟨b,off,none⟩) n cap) lab pr) := HFr.out.nb hNg
   have HB3 : Hid (Below base w w3) := HBr.out.trans hBg
   have HN3 : Hid (NB w w3) := HNr.out.trans hNg
   have hs3 : base ≤ w3.heap.size := by have := hBg.size; omega
   clear hown hgrow hnil hBg hNg HOr HFr HBr HNr c0 c1 c2 c3 c4 c5 c6
   obtain ⟨⟨c0,c1,c2,c3,c4,c5,c6⟩,_⟩ := HF3.out.cells
   have hrl3 := HF3.out.lt
   have hll : (l' ++ labL lab).length ≤ 1900 := by rw [List.length_append,labL_len]; omega
   go_wp2_with fail
   refine (putPoints_any base v3 (l' ++ labL lab) b off n cap X Y w3 HO3.out hs3 (HP.out.below HB3.out hbl) hbl hn HIN.out hll).mono ?_
   rintro e w4 ⟨v4,rfl,hO4,hB4,hN4⟩
   have HO4 : Hid (RowB base w4 v4 (l ++ featL id la ki wi pr lab n X Y)) := by
    show RowB _ _ _ _
    rw [HL'.out] at hO4
    simpa [featL] using hO4
   have HB4 : Hid (Below base w w4) := HB3.out.trans hB4
   have HN4 : Hid (NB w w4) := HN3.out.trans hN4
   clear hO4 hB4 hN4 HO3 HF3 HB3 HN3 c0 c1 c2 c3 c4 c5 c6
   go_wp2
   go_ret
   exact ⟨_,rfl,HO4.out,HB4.out,HN4.out⟩
theorem le_of_sq {a b : Int} (hb : 0 ≤ b) (h : a * a ≤ b * b) : -b ≤ a ∧ a ≤ b := by
 have key : ∀ c : Int,b < c → ¬ c * c ≤ b * b := fun c hc hle => by
  have h1 : (b + 1) * (b + 1) ≤ c * c := Int.mul_le_mul (by omega) (by omega) (by omega) (by omega)
  have h2 : (b + 1) * (b + 1) = b * b + 2 * b + 1 := by grind
  omega
 refine ⟨?_,?_⟩
 ·rcases Int.lt_or_le a (-b) with h1 | h1
  ·exact absurd (show (-a) * (-a) ≤ b * b by rw [Int.neg_mul_neg]; exact h) (key (-a) (by omega))
  ·exact h1
 ·rcases Int.lt_or_le b a with h1 | h1
  ·exact absurd h (key a h1)
  ·exact h1
theorem sq_part {x y k : Int} (h : x * x + y * y ≤ k) : x * x ≤ k ∧ y * y ≤ k := by
 have h1 := sq_nonneg x
 have h2 := sq_nonneg y
 omega
theorem foot_in {d u v c t D r : Int} (hD : 0 < D) (ht0 : 0 ≤ t) (htD : t ≤ D) (he : d * D = t * u - c * v) (hv : v * v ≤ D) (hc : c * c ≤ r * r * D) (hr : 0 ≤ r) : mnI 0 u - r ≤ d ∧ d ≤ mxI 0 u + r := by
 have hcv : (c * v) * (c * v) ≤ (r * D) * (r * D) := by
  have e1 : (c * v) * (c * v) = (c * c) * (v * v) := by grind
  have e2 : (r * D) * (r * D) = (r * r * D) * D := by grind
  rw [e1,e2]
  exact Int.mul_le_mul hc hv (sq_nonneg v) (Int.mul_nonneg (sq_nonneg r) (by omega))
 obtain ⟨c1,c2⟩ := le_of_sq (Int.mul_nonneg hr (by omega)) hcv
 have tlo : mnI 0 u * D ≤ t * u := by
  unfold mnI
  split
  ·rw [Int.zero_mul]; exact Int.mul_nonneg ht0 (by omega)
  ·rename_i h
   have : t * (-u) ≤ D * (-u) := Int.mul_le_mul_of_nonneg_right htD (by omega)
   rw [Int.mul_neg,Int.mul_neg] at this
   rw [Int.mul_comm u D]
   omega
 have thi : t * u ≤ mxI 0 u * D := by
  unfold mxI
  split
  ·rename_i h
   have : t * (-u) ≥ 0 := Int.mul_nonneg ht0 (by omega)
   rw [Int.mul_neg] at this
   rw [Int.zero_mul]
   omega
  ·rename_i h
   have : t * u ≤ D * u := Int.mul_le_mul_of_nonneg_right htD (by omega)
   rw [Int.mul_comm u D]
   exact this
 refine ⟨?_,?_⟩
 ·apply Int.le_of_mul_le_mul_right _ hD
  rw [Int.sub_mul,he]
  omega
 ·apply Int.le_of_mul_le_mul_right _ hD
  rw [Int.add_mul,he]
  omega
theorem mn_shift (a b : Int) : mnI a b = a + mnI 0 (b - a) := by unfold mnI; split <;> split <;> omega
theorem mx_shift (a b : Int) : mxI a b = a + mxI 0 (b - a) := by unfold mxI; split <;> split <;> omega
theorem near_box {px py ax ay bx by' r : Int} (hr : 0 ≤ r) (h : nearB px py ax ay bx by' r = true) : (mnI ax bx - r ≤ px ∧ px ≤ mxI ax bx + r) ∧ (mnI ay by' - r ≤ py ∧ py ≤ mxI ay by' + r) := by
 have hd := of_decide_eq_true h
 unfold overI underI at hd
 have en : ∀ u v : Int,mnI u v ≤ u ∧ mnI u v ≤ v ∧ u ≤ mxI u v ∧ v ≤ mxI u v := fun u v => by unfold mnI mxI; split <;> split <;> omega
 have x1 := en ax bx
 have y1 := en ay by'
 by_cases c1 : alongI px py ax ay bx by' ≤ 0
 ·simp only [c1,if_true] at hd
  obtain ⟨s1,s2⟩ := sq_part (show (ax - px) * (ax - px) + (ay - py) * (ay - py) ≤ r * r by unfold distI at hd; omega)
  have p1 := le_of_sq hr s1
  have p2 := le_of_sq hr s2
  omega
 ·by_cases c2 : distI ax ay bx by' ≤ alongI px py ax ay bx by'
  ·simp only [c1,c2,if_true,if_false] at hd
   obtain ⟨s1,s2⟩ := sq_part (show (bx - px) * (bx - px) + (by' - py) * (by' - py) ≤ r * r by unfold distI at hd; omega)
   have p1 := le_of_sq hr s1
   have p2 := le_of_sq hr s2
   omega
  ·simp only [c1,c2,if_false] at hd
   have hD : 0 < distI ax ay bx by' := by omega
   have hx : (px - ax) * distI ax ay bx by' = alongI px py ax ay bx by' * (bx - ax) - crossI ax ay bx by' px py * (by' - ay) := by unfold distI alongI crossI; grind
   have hy : (py - ay) * distI ax ay bx by' = alongI px py ax ay bx by' * (by' - ay) - (-crossI ax ay bx by' px py) * (bx - ax) := by unfold distI alongI crossI; grind
   obtain ⟨u1,u2⟩ := sq_part (show (bx - ax) * (bx - ax) + (by' - ay) * (by' - ay) ≤ distI ax ay bx by' from Int.le_refl _)
   have f1 := foot_in hD (by omega) (by omega) hx u2 hd hr
   have f2 := foot_in hD (by omega) (by omega) hy u1 (by rw [Int.neg_mul_neg]; exact hd) hr
   rw [mn_shift ax bx,mx_shift ax bx,mn_shift ay by',mx_shift ay by']
   omega
theorem isNear_box {px py ax ay bx by' r : Int} (h : isNearB px py ax ay bx by' r = true) : (mnI ax bx - r ≤ px ∧ px ≤ mxI ax bx + r) ∧ (mnI ay by' - r ≤ py ∧ py ≤ mxI ay by' + r) := by
 simp only [isNearB,Bool.and_eq_true] at h
 obtain ⟨_,_,_,h4,h5⟩ := h
 simp [inB] at h4
 exact near_box h4.1 h5
theorem byB_ex {cx cy r : Int} {X Y : Nat → Int} : ∀ n,byB cx cy r X Y n = true → ∃ i,i < n ∧ isNearB cx cy (X (i - 1)) (Y (i - 1)) (X i) (Y i) r = true
 | 0,h => by cases h
 | k + 1,h => by
  rw [byB,Bool.or_eq_true] at h
  rcases h with h | h
  ·obtain ⟨i,hi,hn⟩ := byB_ex k h
   exact ⟨i,by omega,hn⟩
  ·exact ⟨k,by omega,h⟩
theorem cover_box {ki wi z cx cy : Int} {D : List (Int × Int)} (hr : 0 ≤ reachI wi z) (h : coverB ki wi z cx cy D = true) :
  mnTo (px D) D.length - reachI wi z ≤ cx ∧ cx ≤ mxTo (px D) D.length + reachI wi z ∧ mnTo (py D) D.length - reachI wi z ≤ cy ∧ cy ≤ mxTo (py D) D.length + reachI wi z := by
 unfold coverB at h
 split at h
 ·have := inside_box h
  omega
 ·obtain ⟨i,hi,hn⟩ := byB_ex _ h
  obtain ⟨⟨b1,b2⟩,b3,b4⟩ := isNear_box hn
  have m1 := mnTo_le (px D) D.length i hi
  have m2 := mnTo_le (px D) D.length (i - 1) (by omega)
  have m3 := mnTo_le (py D) D.length i hi
  have m4 := mnTo_le (py D) D.length (i - 1) (by omega)
  have m5 := le_mxTo (px D) D.length i hi
  have m6 := le_mxTo (px D) D.length (i - 1) (by omega)
  have m7 := le_mxTo (py D) D.length i hi
  have m8 := le_mxTo (py D) D.length (i - 1) (by omega)
  unfold mnI at b1 b3
  unfold mxI at b2 b4
  split at b1 <;> split at b2 <;> split at b3 <;> split at b4 <;> omega
theorem doubled_new (b off n cap : Nat) (X Y : Nat → Int) (w : World) (hp : PtsAt w b off n X Y) (hbl : b < w.heap.size) (hn0 : 0 < n) (hn : n ≤ 40) (hin : ∀ i, i < n → inW (X i) (Y i) = true) :
  Calls Tryz.prog 74 #[.slice (some ⟨b, off, none⟩) n cap] w fun e w' => ∃ g cg, e = .returned (.slice (some ⟨g, 0, none⟩) n cg) ∧ w.heap.size ≤ g ∧ g < w'.heap.size ∧ n ≤ cg ∧ PtsAt w' g 0 n (px (dblL X Y n)) (py (dblL X Y n)) ∧ Below w.heap.size w w' :=
 (doubled_any b off n cap X Y w hp hbl hn hin).mono fun e w' ⟨v, he, hR, hb⟩ => by
  obtain ⟨g, cg, hv, h1, h2, h3, h4⟩ := hR.at (by rw [dblL_len]; exact hn0)
  rw [dblL_len] at hv h3 h4
  exact ⟨g, cg, by rw [he, hv], h1, h2, h3, h4, hb⟩
theorem PtsAt.apart {w : World} {b r o n : Nat} {v : Value} {X Y : Nat → Int} (h : PtsAt w b 0 n X Y) (hr : b ≠ r) : PtsAt (w.setCell ⟨r, o, none⟩ v) b 0 n X Y := fun i hi =>
 ⟨(set1_other (fun e => hr (by injection e with e1; exact e1.symm))).trans (h i hi).1, (set1_other (fun e => hr (by injection e with e1; exact e1.symm))).trans (h i hi).2⟩
def byF (ki : Int) : Nat := if ki = 3 then 111 else 112
abbrev shapeV (id ki wi z : Int) (g n cg : Nat) : Value := .agg #[.int .i64 id, .func (.func (byF ki)) #[] #[], .slice (some ⟨g, 0, none⟩) n cg, .int .i64 (reachI wi z)]
theorem coveringOf_by (ki : Int) (w : World) : Calls Tryz.prog 73 #[.int .i64 ki] w fun e w' => e = .returned (.func (.func (byF ki)) #[] #[]) ∧ w = w' := by
 unfold byF
 by_cases h : ki = 3
 ·subst h
  exact coveringOf_area w
 ·rw [if_neg h]
  exact coveringOf_line ki w h
theorem there4s (V : World) (a b c d : Value) (t : TypeId) : There (V.alloc (.cells #[a, b, c, d] t)) V.heap.size 4 := fun o ho => by
 have : o = 0 ∨ o = 1 ∨ o = 2 ∨ o = 3 := by omega
 rcases this with rfl | rfl | rfl | rfl <;> exact ⟨⟨_, by simp [go_sem]; rfl⟩, by simp [go_sem]⟩
theorem shapeOf_any {off : Nat} (id la ki wi z : Int) (b n cap : Nat) (X Y : Nat → Int) (lab : ByteArray) (pr : Int) (w : World) (hp : PtsAt w b off n X Y) (hbl : b < w.heap.size) (hn0 : 0 < n) (hn : n ≤ 40) (hin : ∀ i, i < n → inW (X i) (Y i) = true) (hw : 0 ≤ wi ∧ wi ≤ 3) (hz : zoomB z = true) :
  Calls Tryz.prog 28 #[.agg #[.int .i64 id, .int .i64 la, .int .i64 ki, .int .i64 wi, .slice (some ⟨b, off, none⟩) n cap, .string lab, .int .i64 pr], .int .i64 z] w fun e w' => ∃ g cg, e = .returned (shapeV id ki wi z g n cg) ∧ g < w'.heap.size ∧ n ≤ cg ∧ PtsAt w' g 0 n (px (dblL X Y n)) (py (dblL X Y n)) ∧ Below w.heap.size w w' := by
 have HP : Hid (PtsAt w b off n X Y) := hp
 have HIN : Hid (∀ i, i < n → inW (X i) (Y i) = true) := hin
 have HW : Hid (0 ≤ wi ∧ wi ≤ 3) := hw
 have HR : Hid (∀ W, Calls Tryz.prog 75 #[.agg #[.int .i64 id, .int .i64 la, .int .i64 ki, .int .i64 wi, .slice (some ⟨b, off, none⟩) n cap, .string lab, .int .i64 pr], .int .i64 z] W fun e w' => e = .returned (.int .i64 (reachI wi z)) ∧ Below W.heap.size W w') := fun W => reachAt_any id la ki wi z _ lab pr W hw hz ⟨_, _, _, rfl⟩
 have HV : Hid (∀ W, Calls Tryz.prog 73 #[.int .i64 ki] W fun e w' => e = .returned (.func (.func (byF ki)) #[] #[]) ∧ W = w') := fun W => coveringOf_by ki W
 clear hp hin hw
 show Calls Tryz.prog 28 _ w fun e w' => ∃ g cg, e = .returned (.agg #[.int .i64 id, .func (.func (byF ki)) #[] #[], .slice (some ⟨g, 0, none⟩) n cg, .int .i64 (reachI wi z)]) ∧ g < w'.heap.size ∧ n ≤ cg ∧ PtsAt w' g 0 n (px (dblL X Y n)) (py (dblL X Y n)) ∧ Below w.heap.size w w'
 generalize byF ki = fby at *
 generalize reachI wi z = rch at *
 have hsf : ∀ (a : Addr) (m : Mode) (w : World), (store a (.func (.func fby) #[] #[]) m).run Tryz.prog w = stored Tryz.prog w a (.func (.func fby) #[] #[]) m := fun a m w => run_store Tryz.prog w a _ m rfl
 go_enter Tryz.func28, Tryz.ntmps28
 go_wp2_with fail
 generalize hW : ((w.alloc _).alloc _ : World) = W
 have hB0 : Below w.heap.size w W := by subst hW; (repeat (first|exact Qr _ _|assumption|refine Qd ?_|refine Qa ?_ _|refine Qt ?_|refine Qs ?_ _|refine Qo ?_ ?_ _ _))
 have HT : Hid (There W (w.heap.size + 1) 4) := by
  show There _ _ _
  subst hW
  have := there4s (w.alloc (.cells #[.int .i64 id, .int .i64 la, .int .i64 ki, .int .i64 wi, .slice (some ⟨b, off, none⟩) n cap, .string lab, .int .i64 pr] 39)) (.int .i64 0) .nilFunc (.slice none 0 0) (.int .i64 0) 74
  simpa using this
 have c0 : ∀ W', Below (w.heap.size + 1) W W' → W'.cell? ⟨w.heap.size, 0, none⟩ = some (.int .i64 id) := fun W' h => by
  rw [h.cell (by simp)]; subst hW; simp [go_sem]
 have c1 : ∀ W', Below (w.heap.size + 1) W W' → W'.cell? ⟨w.heap.size, 1, none⟩ = some (.int .i64 la) := fun W' h => by
  rw [h.cell (by simp)]; subst hW; simp [go_sem]
 have c2 : ∀ W', Below (w.heap.size + 1) W W' → W'.cell? ⟨w.heap.size, 2, none⟩ = some (.int .i64 ki) := fun W' h => by
  rw [h.cell (by simp)]; subst hW; simp [go_sem]
 have c3 : ∀ W', Below (w.heap.size + 1) W W' → W'.cell? ⟨w.heap.size, 3, none⟩ = some (.int .i64 wi) := fun W' h => by
  rw [h.cell (by simp)]; subst hW; simp [go_sem]
 have c4 : ∀ W', Below (w.heap.size + 1) W W' → W'.cell? ⟨w.heap.size, 4, none⟩ = some (.slice (some ⟨b, off, none⟩) n cap) := fun W' h => by
  rw [h.cell (by simp)]; subst hW; simp [go_sem]
 have c5 : ∀ W', Below (w.heap.size + 1) W W' → W'.cell? ⟨w.heap.size, 5, none⟩ = some (.string lab) := fun W' h => by
  rw [h.cell (by simp)]; subst hW; simp [go_sem]
 have c6 : ∀ W', Below (w.heap.size + 1) W W' → W'.cell? ⟨w.heap.size, 6, none⟩ = some (.int .i64 pr) := fun W' h => by
  rw [h.cell (by simp)]; subst hW; simp [go_sem]
 have hsz : w.heap.size + 1 < W.heap.size := by subst hW; simp
 clear hW
 have HB0 : Hid (Below w.heap.size w W) := hB0
 have HPW : Hid (PtsAt W b off n X Y) := HP.out.below hB0 hbl
 have hblW : b < W.heap.size := Nat.lt_of_lt_of_le hbl hB0.size
 clear hB0 HP
 refine wp_region_noPanic ?_
 refine wp_region_held_drew (S := fun W' => Below (w.heap.size + 1) W W') (by kernel_rfl) (by (repeat (first|exact Qr _ _|assumption|refine Qd ?_|refine Qa ?_ _|refine Qt ?_|refine Qs ?_ _|refine Qo ?_ ?_ _ _))) (fun hHeld => ?_)
 have hX0 : Below (w.heap.size + 1) W W.drew := hHeld
 refine takeK (i := 0) (d := some 5) (v := ?v0) rfl rfl (Or.inl ⟨by rfl, ?hy0⟩) (by assumption) ?_
 case hy0 => (intro w hSw; (try dsimp only at hSw); go_simp <;> with_reducible rfl)
 try simp only [Act.put, Qx, Qy, Qz]
 refine takeK (i := 1) (d := some 6) (v := ?v1) rfl rfl (Or.inl ⟨by rfl, ?hy1⟩) (by assumption) ?_
 case hy1 => (intro w hSw; (try dsimp only at hSw); go_simp <;> with_reducible rfl)
 try simp only [Act.put, Qx, Qy, Qz]
 refine takeK (i := 2) (d := some 7) (v := ?v2) rfl rfl (Or.inl ⟨by rfl, ?hy2⟩) (by assumption) ?_
 case hy2 => (intro w hSw; (try dsimp only at hSw); go_simp <;> with_reducible rfl)
 try simp only [Act.put, Qx, Qy, Qz]
 refine takeK (i := 3) (d := some 8) (v := ?v3) rfl rfl (Or.inl ⟨by rfl, ?hy3⟩) (by assumption) ?_
 case hy3 => (intro w hSw; (try dsimp only at hSw); go_simp <;> with_reducible rfl)
 try simp only [Act.put, Qx, Qy, Qz]
 refine takeK (i := 5) (d := some 10) (v := ?v5) rfl rfl (Or.inl ⟨by rfl, ?hy5⟩) (by assumption) ?_
 case hy5 => (intro w hSw; (try dsimp only at hSw); go_simp <;> with_reducible rfl)
 try simp only [Act.put, Qx, Qy, Qz]
 refine takeK (i := 6) (d := some 11) (v := ?v6) rfl rfl (Or.inl ⟨by rfl, ?hy6⟩) (by assumption) ?_
 case hy6 => (intro w hSw; (try dsimp only at hSw); go_simp <;> with_reducible rfl)
 try simp only [Act.put, Qx, Qy, Qz]
 refine takeK (i := 8) (d := some 13) (v := ?v8) rfl rfl (Or.inl ⟨by rfl, ?hy8⟩) (by assumption) ?_
 case hy8 => (intro w hSw; (try dsimp only at hSw); go_simp <;> with_reducible rfl)
 try simp only [Act.put, Qx, Qy, Qz]
 refine takeK (i := 9) (d := some 14) (v := ?v9) rfl rfl (Or.inl ⟨by rfl, ?hy9⟩) (by assumption) ?_
 case hy9 => (intro w hSw; (try dsimp only at hSw); go_simp <;> with_reducible rfl)
 try simp only [Act.put, Qx, Qy, Qz]
 refine wpAnyH_ready (rs := [4]) (by kernel_rfl) (by simp) ?_
 refine (AllReadyH.cons rfl (fun K hK => ?_) AllReadyH.nil)
 go_simp
 refine Calls.mono (HV.out _) ?_
 rintro e w1 ⟨rfl, rfl⟩
 go_wp2_with fail
 refine hK.out _ _ hX0 (fun hHeld => ?_)
 clear hK K
 try simp only [Act.put, Qx, Qy, Qz]
 refine wpAnyH_ready (rs := [7]) (by kernel_rfl) (by simp) ?_
 refine (AllReadyH.cons rfl (fun K hK => ?_) AllReadyH.nil)
 go_simp
 refine Calls.mono (doubled_new b off n cap X Y _ (PtsAt.below HPW.out (show Below W.heap.size W W.drew by (repeat (first|exact Qr _ _|assumption|refine Qd ?_|refine Qa ?_ _|refine Qt ?_|refine Qs ?_ _|refine Qo ?_ ?_ _ _))) hblW) hblW hn0 hn HIN.out) ?_
 rintro e w2 ⟨g, cg, rfl, hgg, hgl, hcg, hPg, hb2⟩
 have hgW : W.heap.size ≤ g := hgg
 have hF2 : Below W.heap.size W w2 := (show Below W.heap.size W W.drew by (repeat (first|exact Qr _ _|assumption|refine Qd ?_|refine Qa ?_ _|refine Qt ?_|refine Qs ?_ _|refine Qo ?_ ?_ _ _))).trans hb2
 have hX2 : Below (w.heap.size + 1) W w2 := hF2.mono (Nat.le_of_lt hsz)
 go_wp2_with fail
 refine hK.out _ _ hX2 (fun hHeld => ?_)
 clear hK K hb2
 try simp only [Act.put, Qx, Qy, Qz]
 refine wpAnyH_ready (rs := [10]) (by kernel_rfl) (by simp) ?_
 refine (AllReadyH.cons rfl (fun K hK => ?_) AllReadyH.nil)
 go_simp
 refine Calls.mono (HR.out _) ?_
 rintro e w3 ⟨rfl, hb3⟩
 have hF3 : Below W.heap.size W w3 := bl_then hF2 hb3
 have hX3 : Below (w.heap.size + 1) W w3 := hF3.mono (Nat.le_of_lt hsz)
 have hP3 : PtsAt w3 g 0 n (px (dblL X Y n)) (py (dblL X Y n)) := PtsAt.below hPg hb3 hgl
 have hg3 : g < w3.heap.size := Nat.lt_of_lt_of_le hgl hb3.size
 have hge : W.heap.size ≤ g ∨ True := .inr trivial
 go_wp2_with fail
 refine hK.out _ _ hX3 (fun hHeld => ?_)
 clear hK K hb3
 try simp only [Act.put, Qx, Qy, Qz]
 refine takeK (i := 11) (d := some 16) (v := ?v11) rfl rfl (Or.inl ⟨by rfl, ?hy11⟩) (by assumption) ?_
 case hy11 => (intro w hSw; (try dsimp only at hSw); go_simp <;> with_reducible rfl)
 try simp only [Act.put, Qx, Qy, Qz]
 have hT3 := HT.out.below hF3
 have HT3 : Hid (There w3 (w.heap.size + 1) 4) := hT3
 have t0 := hT3.cell 0 (by omega)
 have t1 := hT3.cell 1 (by omega)
 have t2 := hT3.cell 2 (by omega)
 have t3 := hT3.cell 3 (by omega)
 have f0 := (hT3 0 (by omega)).2
 have f1 := (hT3 1 (by omega)).2
 have f2 := (hT3 2 (by omega)).2
 have f3 := (hT3 3 (by omega)).2
 clear hT3
 refine wpAnyH_ready (rs := [12]) (by kernel_rfl) (by simp) ?_
 refine (AllReadyH.cons rfl (fun K hK => ?_) AllReadyH.nil)
 go_simp
 have HBs : Below (w.heap.size + 1) W ((((w3.setCell ⟨w.heap.size + 1, 0, none⟩ (.int .i64 id)).setCell ⟨w.heap.size + 1, 1, none⟩ (.func (.func fby) #[] #[])).setCell ⟨w.heap.size + 1, 2, none⟩ (.slice (some ⟨g, 0, none⟩) n cg)).setCell ⟨w.heap.size + 1, 3, none⟩ (.int .i64 rch)) := (((hX3.setCell (Nat.le_refl _) _).setCell (Nat.le_refl _) _).setCell (Nat.le_refl _) _).setCell (Nat.le_refl _) _
 refine hK.out _ _ HBs (fun hHeld => ?_)
 clear hK K
 try simp only [Act.put, Qx, Qy, Qz]
 refine wpAnyH_done (by kernel_rfl) ?_ _
 refine NoPanic.normal ?_
 go_wp2_with fail
 obtain ⟨q0, q1, q2, q3⟩ := set4_at (a := .int .i64 id) (b := .func (.func fby) #[] #[]) (c := .slice (some ⟨g, 0, none⟩) n cg) (d := .int .i64 rch) HT3.out
 refine bodyPost_ret (v := .agg #[.int .i64 id, .func (.func fby) #[] #[], .slice (some ⟨g, 0, none⟩) n cg, .int .i64 rch]) (by simp [results, Tryz.results28, go_sem, q0, q1, q2, q3]) rfl ⟨g, cg, rfl, by simpa [World.setCell] using hg3, hcg, ?_, (HB0.out.trans (HBs.mono (Nat.le_succ _)))⟩
 exact (((hP3.apart (by omega)).apart (by omega)).apart (by omega)).apart (by omega)
theorem enter_of {f : Nat} {fn : Func} (hf : Tryz.prog.funcs[f]? = some fn) (h1 : (fn.name == "runtime.NumGoroutine") = false) (hb : fn.body.isSome = true) (args : Array Value) (w : World) : (callFunc f args).run Tryz.prog w = .ok (.enter f args) w := by
 have h1' : fn.name ≠ "runtime.NumGoroutine" := by simpa using h1
 obtain ⟨c, hc⟩ := Option.isSome_iff_exists.1 hb
 simp [callFunc, hf, h1', hc]
theorem enter_by (ki : Int) (args : Array Value) (w : World) : (callFunc (byF ki) args).run Tryz.prog w = .ok (.enter (byF ki) args) w := by
 unfold byF
 split
 ·exact enter_of Tryz.func111 (by kernel_rfl) (by kernel_rfl) args w
 ·exact enter_of Tryz.func112 (by kernel_rfl) (by kernel_rfl) args w
theorem by_any (ki wi z cx cy : Int) (g n cg : Nat) (X Y : Nat → Int) (w : World) (hp : PtsAt w g 0 n (px (dblL X Y n)) (py (dblL X Y n))) (hg : g < w.heap.size) (hn0 : 0 < n) (hn : n ≤ 40) (hcg : n ≤ cg) :
  Calls Tryz.prog (byF ki) #[.agg #[.int .i64 cx, .int .i64 cy], .slice (some ⟨g, 0, none⟩) n cg, .int .i64 (reachI wi z)] w fun e w' => e = .returned (.bool (coverB ki wi z cx cy (dblL X Y n))) ∧ Below w.heap.size w w' := by
 have hdl := dblL_len X Y n
 unfold byF coverB
 by_cases h : ki = 3
 ·rw [if_pos h, if_pos h, hdl]
  exact isInArea_any _ _ _ g n cg _ _ _ hp hg (by omega) hcg
 ·rw [if_neg h, if_neg h, hdl]
  exact isByLine_any _ _ _ g n cg _ _ _ hp hg hn0 (by omega) hcg
theorem covers_any (id ki wi z cx cy : Int) (g n cg : Nat) (X Y : Nat → Int) (w : World) (hp : PtsAt w g 0 n (px (dblL X Y n)) (py (dblL X Y n))) (hg : g < w.heap.size) (hn0 : 0 < n) (hn : n ≤ 40) (hcg : n ≤ cg) :
  Calls Tryz.prog 29 #[shapeV id ki wi z g n cg, .agg #[.int .i64 cx, .int .i64 cy]] w fun e w' => e = .returned (.bool (coverB ki wi z cx cy (dblL X Y n))) ∧ Below w.heap.size w w' := by
 have HP : Hid (PtsAt w g 0 n (px (dblL X Y n)) (py (dblL X Y n))) := hp
 have HC : Hid (∀ W, PtsAt W g 0 n (px (dblL X Y n)) (py (dblL X Y n)) → g < W.heap.size → Calls Tryz.prog (byF ki) #[.agg #[.int .i64 cx, .int .i64 cy], .slice (some ⟨g, 0, none⟩) n cg, .int .i64 (reachI wi z)] W fun e w' => e = .returned (.bool (coverB ki wi z cx cy (dblL X Y n))) ∧ Below W.heap.size W w') := fun W h1 h2 => by_any ki wi z cx cy g n cg X Y W h1 h2 hn0 hn hcg
 have hce := enter_by ki
 clear hp
 show Calls Tryz.prog 29 #[.agg #[.int .i64 id, .func (.func (byF ki)) #[] #[], .slice (some ⟨g, 0, none⟩) n cg, .int .i64 (reachI wi z)], _] w _
 generalize byF ki = fby at *
 generalize reachI wi z = rch at *
 generalize coverB ki wi z cx cy (dblL X Y n) = cv at *
 go_enter Tryz.func29, Tryz.ntmps29
 go_wp2_with fail
 generalize hW : ((w.alloc _).alloc _ : World) = W
 have hB0 : Below w.heap.size w W := by subst hW; (repeat (first|exact Qr _ _|assumption|refine Qd ?_|refine Qa ?_ _|refine Qt ?_|refine Qs ?_ _|refine Qo ?_ ?_ _ _))
 clear hW
 refine Calls.mono (HC.out W (HP.out.below hB0 hg) (Nat.lt_of_lt_of_le hg hB0.size)) ?_
 rintro e w' ⟨rfl, hb⟩
 have HB : Hid (Below w.heap.size w w') := bl_then hB0 hb
 clear hb hB0
 go_wp2
 go_ret
 exact ⟨rfl, HB.out⟩
end Go.Proofs.YtfkonhagjahgnaaGreat
