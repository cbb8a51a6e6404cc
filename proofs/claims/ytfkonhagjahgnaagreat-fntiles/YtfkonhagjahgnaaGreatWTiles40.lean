/- Texts. -/
import Derived.Test.YtfkonhagjahgnaaGreatWTiles29
import Derived.Test.YtfkonhagjahgnaaGreatWTiles38
import Derived.Test.YtfkonhagjahgnaaGreatWTiles12
import Derived.Test.YtfkonhagjahgnaaGreatWTiles24
import Derived.Test.YtfkonhagjahgnaaGreatWTiles19
import Derived.Test.YtfkonhagjahgnaaGreatWTiles15
import Derived.Test.YtfkonhagjahgnaaGreatWTiles1
import Derived.Deep.DeepCutAuto
set_option linter.unusedSimpArgs false
set_option linter.unusedVariables false
set_option maxRecDepth 100000
set_option maxHeartbeats 32000000
namespace Go.Proofs.YtfkonhagjahgnaaGreat
open Go.RowKit
theorem thin_exL (X Y : Nat → Int) (z : Int) (n : Nat) : ∃ L,3 ≤ (snapL X Y z n).length → Thin (px (snapL X Y z n)) (py (snapL X Y z n)) (gridI z) 0 ((snapL X Y z n).length - 1) L := by
 by_cases h3 : 3 ≤ (snapL X Y z n).length
 ·obtain ⟨L,hL⟩ := Thin.exists (px (snapL X Y z n)) (py (snapL X Y z n)) (gridI z) ((snapL X Y z n).length - 1) 0 ((snapL X Y z n).length - 1) (by omega) (by omega)
  exact ⟨L,fun _ => hL⟩
 ·exact ⟨[],fun h => absurd h h3⟩
noncomputable def thinOf (z : Int) (f : Feat) : List Nat := Classical.choose (thin_exL f.X f.Y z f.n)
theorem thinOf_spec (z : Int) (f : Feat) : 3 ≤ (snapL f.X f.Y z f.n).length → Thin (px (snapL f.X f.Y z f.n)) (py (snapL f.X f.Y z f.n)) (gridI z) 0 ((snapL f.X f.Y z f.n).length - 1) (thinOf z f) := Classical.choose_spec (thin_exL f.X f.Y z f.n)
noncomputable def simL (z : Int) (f : Feat) : List (Int × Int) := simpR 0 f.ki z f.n f.X f.Y (thinOf z f)
def simOf (z : Int) (f t : Feat) : Prop := t.id = f.id ∧ t.la = f.la ∧ t.ki = f.ki ∧ t.wi = f.wi ∧ t.n = (simL z f).length ∧ t.X = px (simL z f) ∧ t.Y = py (simL z f) ∧ t.lab = f.lab ∧ t.pr = f.pr
abbrev okC (f : Feat) : Prop := featC f.id f.la f.ki f.wi f.n f.X f.Y f.lab f.pr = 0
theorem simL_facts {z : Int} {f : Feat} (h : okC f) (hz : zoomB z = true) : kindN f.ki (simL z f).length ∧ (simL z f).length ≤ 12 ∧ allW (simL z f) ∧ 0 < (simL z f).length := by
 obtain ⟨h1,h2,h3⟩ := simpR_facts h hz (thinOf_spec z f)
 exact ⟨h1,h2,h3,by show 0 < (simpR 0 f.ki z f.n f.X f.Y (thinOf z f)).length; rcases h1 with ⟨_,h⟩ | ⟨_,h⟩ | ⟨_,h⟩ <;> omega⟩
theorem simL_same {z : Int} {f g : Feat} (h : f.same g) : simL z f = simL z g := by
 obtain ⟨h1,h2,h3,h4,h5,h6,h7,h8,h9⟩ := h
 unfold simL thinOf
 rw [h3]
 congr 1
 all_goals first | rw [h5,h6,h7] | skip
 all_goals first | rfl | simp only [h5,h6,h7]
theorem Row.keptA {base base' : Nat} {w w' : World} {u v : Value} {l : List (Int × Int)} {H : Nat → Feat} {m : List Nat} (h : Row base w u l) (h' : FRow base' w v H m) (hg : w.grownBy w' v.ownBlock) : Row base w' u l := by
 refine World.ownsRow.kept h hg ?_
 cases hu : u.ownBlock with
 | none => exact .inl rfl
 | some g =>
  right
  intro e
  obtain ⟨c1,h1⟩ := heap_of_row h g hu
  obtain ⟨c2,h2⟩ := heap_of_row h' g e.symm
  rw [h1] at h2
  injection h2 with h2
  injection h2 with _ h2
  exact absurd h2 (by decide)
def SfRow (base : Nat) (w : World) (v : Value) (k : Nat) (z : Int) (H T : Nat → Feat) : Prop :=
 FRow base w v T (List.range k) ∧ (∀ i,i < k → simOf z (H i) (T i) ∧ Row base w (.slice (T i).a (T i).n (T i).cap) (simL z (H i))) ∧ ∀ i j,i < k → j < k → (T i).a = (T j).a → i = j
theorem SfRow.below {base k : Nat} {w w' : World} {v : Value} {z : Int} {H T : Nat → Feat} (h : SfRow base w v k z H T) (hb : Below w.heap.size w w') : SfRow base w' v k z H T :=
 ⟨h.1.below hb,fun i hi => ⟨(h.2.1 i hi).1,(h.2.1 i hi).2.below hb⟩,h.2.2⟩
theorem SfRow.app {base k : Nat} {w w' : World} {v v' : Value} {z : Int} {H T : Nat → Feat} {t : Feat} (h : SfRow base w v k z H T) (hs : simOf z (H k) t) (hR : Row base w (.slice t.a t.n t.cap) (simL z (H k)))
  (hown : w'.ownsRow base 39 7 v' (k + 1) (cellsF T (List.range k) ++ fcell t)) (hg : w.grownBy w' v.ownBlock) (hfr : ∀ i,i < k → (T i).a ≠ t.a) : SfRow base w' v' (k + 1) z H (fun i => if i = k then t else T i) := by
 refine ⟨?_,fun i hi => ?_,fun i j hi hj hij => ?_⟩
 ·unfold FRow
  have e1 : cellsF (fun i => if i = k then t else T i) (List.range (k + 1)) = cellsF T (List.range k) ++ fcell t := by
   rw [List.range_succ,cellsF_app,cellsF_one,if_pos rfl]
   rw [cellsF_congr (H' := T) (List.range k) (fun j hj => by rw [if_neg]; have := List.mem_range.1 hj; omega)]
  rw [e1,List.length_range]
  exact hown
 ·by_cases e : i = k
  ·subst e
   simp only [↓reduceIte]
   exact ⟨hs,hR.keptA h.1 hg⟩
  ·simp only [if_neg e]
   exact ⟨(h.2.1 i (by omega)).1,(h.2.1 i (by omega)).2.keptA h.1 hg⟩
 ·by_cases e1 : i = k <;> by_cases e2 : j = k
  ·omega
  ·simp only [if_pos e1,if_neg e2] at hij
   exact absurd hij.symm (hfr j (by omega))
  ·simp only [if_neg e1,if_pos e2] at hij
   exact absurd hij (hfr i (by omega))
  ·simp only [if_neg e1,if_neg e2] at hij
   exact h.2.2 i j (by omega) (by omega) hij
theorem SfRow.fs {base k g c : Nat} {w : World} {z : Int} {H T : Nat → Feat} (h : SfRow base w (.slice (some ⟨g,0,none⟩) k c) k z H T) : g < w.heap.size ∧ k ≤ c ∧ FsAt w g 0 k T := by
 have hp : ∀ j,j < k → IsPts w (T j).a (T j).n (T j).X (T j).Y := fun j hj => by
  obtain ⟨⟨_,_,_,_,e5,e6,e7,_,_⟩,hR⟩ := h.2.1 j hj
  obtain ⟨a',c',hv,_,hI⟩ := hR.own.pts
  injection hv with i1 i2 i3
  rw [e6,e7,e5,i1]
  exact hI
 rcases h.1.at with ⟨hv,hl⟩ | ⟨g',c',hv,hg',hgl,hc',_,hF⟩
 ·cases hv
 ·injection hv with e1 e2 e3
  injection e1 with e1
  injection e1 with e1
  subst e1
  rw [List.length_range] at hc' hF
  refine ⟨hgl,by omega,fun i hi => ⟨?_,hp i hi⟩⟩
  have hF' := hF i hi
  have er : (List.range k).getD i 0 = i := by simp [List.getD,hi]
  rw [er] at hF'
  rw [Nat.zero_add]
  exact hF'
theorem simple_ok {off : Nat} (id la ki wi z : Int) (b n cap : Nat) (X Y : Nat → Int) (lab : ByteArray) (pr : Int) (L : List Nat) (w : World) (hp : PtsAt w b off n X Y) (hbl : b < w.heap.size) (hn : n ≤ 1048576) (hcap : n ≤ cap) (hl : lab.size ≤ 1048576)
  (hL : 3 ≤ (snapL X Y z n).length → Thin (px (snapL X Y z n)) (py (snapL X Y z n)) (gridI z) 0 ((snapL X Y z n).length - 1) L) (hC : 0 = simpC z (featC id la ki wi n X Y lab pr)) (hR0 : 0 < (simpR 0 ki z n X Y L).length) :
  Calls Tryz.prog 26 #[.agg #[.int .i64 id, .int .i64 la, .int .i64 ki, .int .i64 wi, .slice (some ⟨b,off,none⟩) n cap, .string lab, .int .i64 pr], .int .i64 z] w fun e w' => ∃ g cg,e = .returned (.agg #[.int .i64 0, .int .i64 id, .int .i64 la, .int .i64 ki, .int .i64 wi, .slice (some ⟨g,0,none⟩) (simpR 0 ki z n X Y L).length cg, .string lab, .int .i64 pr]) ∧ g < w'.heap.size ∧ (simpR 0 ki z n X Y L).length ≤ cg ∧ PtsAt w' g 0 (simpR 0 ki z n X Y L).length (px (simpR 0 ki z n X Y L)) (py (simpR 0 ki z n X Y L)) ∧ Below w.heap.size w w' :=
 (impl_SimpleAt_any id la ki wi z b n cap X Y lab pr L w hp hbl hn hcap hl hL 0 hC).mono fun e w' ⟨v,he,hR,hb⟩ => by
  obtain ⟨g,cg,hv,h1,h2,h3,h4⟩ := hR.at hR0
  refine ⟨g,cg,?_,h2,h3,h4,hb⟩
  rw [he,hv]
  simp [zI,zS]
theorem simple_no {off : Nat} (id la ki wi z : Int) (b n cap : Nat) (X Y : Nat → Int) (lab : ByteArray) (pr : Int) (L : List Nat) (w : World) (hp : PtsAt w b off n X Y) (hbl : b < w.heap.size) (hn : n ≤ 1048576) (hcap : n ≤ cap) (hl : lab.size ≤ 1048576)
  (hL : 3 ≤ (snapL X Y z n).length → Thin (px (snapL X Y z n)) (py (snapL X Y z n)) (gridI z) 0 ((snapL X Y z n).length - 1) L) (C : Int) (hC : C = simpC z (featC id la ki wi n X Y lab pr)) (hC0 : C ≠ 0) :
  Calls Tryz.prog 26 #[.agg #[.int .i64 id, .int .i64 la, .int .i64 ki, .int .i64 wi, .slice (some ⟨b,off,none⟩) n cap, .string lab, .int .i64 pr], .int .i64 z] w fun e w' => ∃ a c,e = .returned (.agg #[.int .i64 C, .int .i64 0, .int .i64 0, .int .i64 0, .int .i64 0, .slice a 0 c, .string ⟨#[]⟩, .int .i64 0]) ∧ Below w.heap.size w w' :=
 (impl_SimpleAt_any id la ki wi z b n cap X Y lab pr L w hp hbl hn hcap hl hL C hC).mono fun e w' ⟨v,he,hR,hb⟩ => by
  rw [simpR,if_neg hC0] at hR
  obtain ⟨a,c,hv,_⟩ := hR.own
  refine ⟨a,c,?_,hb⟩
  rw [he,hv]
  simp [zI,zS,hC0]
theorem mnTo_bd (X : Nat → Int) (lo hi : Int) : ∀ n,0 < n → (∀ i,i < n → lo ≤ X i ∧ X i ≤ hi) → lo ≤ mnTo X n ∧ mnTo X n ≤ hi
 | 0,h,_ => absurd h (by omega)
 | 1,_,h => by rw [mnTo_one]; exact h 0 (by omega)
 | k + 2,_,h => by
  have h1 := mnTo_bd X lo hi (k + 1) (by omega) (fun i hi => h i (by omega))
  have h2 := h (k + 1) (by omega)
  rw [mnTo,mnI]
  split <;> omega
theorem mxTo_bd (X : Nat → Int) (lo hi : Int) : ∀ n,0 < n → (∀ i,i < n → lo ≤ X i ∧ X i ≤ hi) → lo ≤ mxTo X n ∧ mxTo X n ≤ hi
 | 0,h,_ => absurd h (by omega)
 | 1,_,h => by rw [mxTo_one]; exact h 0 (by omega)
 | k + 2,_,h => by
  have h1 := mxTo_bd X lo hi (k + 1) (by omega) (fun i hi => h i (by omega))
  have h2 := h (k + 1) (by omega)
  rw [mxTo,mxI]
  split <;> omega
theorem dbl_bd (X Y : Nat → Int) (n : Nat) (hin : ∀ i,i < n → inW (X i) (Y i) = true) : (∀ i,i < n → 0 ≤ px (dblL X Y n) i ∧ px (dblL X Y n) i ≤ 2048) ∧ (∀ i,i < n → 0 ≤ py (dblL X Y n) i ∧ py (dblL X Y n) i ≤ 2048) := by
 refine ⟨fun i hi => ?_,fun i hi => ?_⟩
 all_goals
  obtain ⟨e1,e2⟩ := dblL_px X Y n i hi
  have := inW_bd (hin i hi)
  omega
theorem there4 (V : World) (a b c d : Value) (t : TypeId) : There (V.alloc (.cells #[a,b,c,d] t)) V.heap.size 4 := fun o ho => by
 refine ⟨⟨#[a,b,c,d][o]'(by simpa using ho),?_⟩,World.frozen?_alloc_at _ _ _ _ rfl⟩
 rw [World.cell?_alloc_at _ _ _ _ rfl]
 exact Array.getElem?_eq_getElem _
theorem there5 (V : World) (a b c d e : Value) (t : TypeId) : There (V.alloc (.cells #[a,b,c,d,e] t)) V.heap.size 5 := fun o ho => by
 refine ⟨⟨#[a,b,c,d,e][o]'(by simpa using ho),?_⟩,World.frozen?_alloc_at _ _ _ _ rfl⟩
 rw [World.cell?_alloc_at _ _ _ _ rfl]
 exact Array.getElem?_eq_getElem _
abbrev wideV (D : List (Int × Int)) (r : Int) : Value := .agg #[.int .i64 (mnTo (px D) D.length - r), .int .i64 (mnTo (py D) D.length - r), .int .i64 (mxTo (px D) D.length + r), .int .i64 (mxTo (py D) D.length + r)]
theorem boxAsItIs_any (id la ki wi z : Int) (b n cap : Nat) (X Y : Nat → Int) (lab : ByteArray) (pr : Int) (w : World) (hp : PtsAt w b 0 n X Y) (hbl : b < w.heap.size) (hn0 : 0 < n) (hn : n ≤ 40) (hin : ∀ i,i < n → inW (X i) (Y i) = true) (hw : 0 ≤ wi ∧ wi ≤ 3) (hz : zoomB z = true) :
  Calls Tryz.prog 90 #[.agg #[.int .i64 id, .int .i64 la, .int .i64 ki, .int .i64 wi, .slice (some ⟨b,0,none⟩) n cap, .string lab, .int .i64 pr], .int .i64 z] w fun e w' => e = .returned (wideV (dblL X Y n) (reachI wi z)) ∧ Below w.heap.size w w' := by
 have HP : Hid (PtsAt w b 0 n X Y) := hp
 have HIN : Hid (∀ i,i < n → inW (X i) (Y i) = true) := hin
 have HW : Hid (0 ≤ wi ∧ wi ≤ 3) := hw
 have hall : allOk n (px (dblL X Y n)) (py (dblL X Y n)) = true := decide_eq_true (dbl_ok X Y n hin)
 have hrb := reach_bd hw hz
 obtain ⟨hbx,hby⟩ := dbl_bd X Y n hin
 obtain ⟨m1,m2⟩ := mnTo_bd _ 0 2048 n hn0 hbx
 obtain ⟨m3,m4⟩ := mnTo_bd _ 0 2048 n hn0 hby
 obtain ⟨m5,m6⟩ := mxTo_bd _ 0 2048 n hn0 hbx
 obtain ⟨m7,m8⟩ := mxTo_bd _ 0 2048 n hn0 hby
 have hbv : boxV n (px (dblL X Y n)) (py (dblL X Y n)) = .agg #[.int .i64 0, .int .i64 (mnTo (px (dblL X Y n)) n), .int .i64 (mnTo (py (dblL X Y n)) n), .int .i64 (mxTo (px (dblL X Y n)) n), .int .i64 (mxTo (py (dblL X Y n)) n)] := by simp [boxV,hall]
 have Hbox : Hid (∀ g cg w,PtsAt w g 0 n (px (dblL X Y n)) (py (dblL X Y n)) → g < w.heap.size → n ≤ cg → Calls Tryz.prog 131 #[.slice (some ⟨g,0,none⟩) n cg] w fun e w' => e = .returned (.agg #[.int .i64 0, .int .i64 (mnTo (px (dblL X Y n)) n), .int .i64 (mnTo (py (dblL X Y n)) n), .int .i64 (mxTo (px (dblL X Y n)) n), .int .i64 (mxTo (py (dblL X Y n)) n)]) ∧ Below w.heap.size w w') := fun g cg w h1 h2 h3 => by
  have := impl_BoxOf_ok g n cg _ _ w h1 h2 h3 hn0 hn hall
  rw [hbv] at this
  exact this
 have HV : Hid (wideV (dblL X Y n) (reachI wi z) = .agg #[.int .i64 (mnTo (px (dblL X Y n)) n - reachI wi z), .int .i64 (mnTo (py (dblL X Y n)) n - reachI wi z), .int .i64 (mxTo (px (dblL X Y n)) n + reachI wi z), .int .i64 (mxTo (py (dblL X Y n)) n + reachI wi z)]) := by
  show wideV _ _ = _
  unfold wideV
  rw [dblL_len]
 have Hdb : Hid (∀ w,PtsAt w b 0 n X Y → b < w.heap.size → Calls Tryz.prog 74 #[.slice (some ⟨b,0,none⟩) n cap] w fun e w' => ∃ g cg,e = .returned (.slice (some ⟨g,0,none⟩) n cg) ∧ g < w'.heap.size ∧ n ≤ cg ∧ PtsAt w' g 0 n (px (dblL X Y n)) (py (dblL X Y n)) ∧ Below w.heap.size w w') := fun w h1 h2 => doubled_at b 0 n cap X Y w h1 h2 hn0 hn hin
 generalize mnTo (px (dblL X Y n)) n = a1 at *
 generalize mnTo (py (dblL X Y n)) n = a2 at *
 generalize mxTo (px (dblL X Y n)) n = a3 at *
 generalize mxTo (py (dblL X Y n)) n = a4 at *
 have Hre : Hid (∀ w,Calls Tryz.prog 75 #[.agg #[.int .i64 id, .int .i64 la, .int .i64 ki, .int .i64 wi, .slice (some ⟨b,0,none⟩) n cap, .string lab, .int .i64 pr], .int .i64 z] w fun e w' => e = .returned (.int .i64 (reachI wi z)) ∧ Below w.heap.size w w') := fun w => reachAt_any id la ki wi z _ lab pr w hw hz ⟨_,_,_,rfl⟩
 generalize reachI wi z = r at *
 generalize dblL X Y n = D at *
 have i1 : ∀ w,(Instr.field 95 (.agg #[.int .i64 0, .int .i64 a1, .int .i64 a2, .int .i64 a3, .int .i64 a4]) 1).run Tryz.prog w = .ok (.agg #[.int .i64 a1, .int .i64 a2, .int .i64 a3, .int .i64 a4]) w := fun _ => by kernel_rfl
 clear hp hin hall hbv hbx hby hw
 go_enter Tryz.func90,Tryz.ntmps90
 go_wp2_with fail
 generalize hW : ((w.alloc _).alloc _ : World) = W
 have hB0 : Below w.heap.size w W := by subst hW; (repeat (first|exact Qr _ _|assumption|refine Qd ?_|refine Qa ?_ _|refine Qt ?_|refine Qs ?_ _|refine Qo ?_ ?_ _ _))
 have c0 : ∀ W',Below W.heap.size W W' → W'.cell? ⟨w.heap.size,0,none⟩ = some (.int .i64 id) := fun W' h => by
  rw [h.cell (by subst hW; simp <;> omega)]; subst hW; simp [go_sem]
 have c1 : ∀ W',Below W.heap.size W W' → W'.cell? ⟨w.heap.size,1,none⟩ = some (.int .i64 la) := fun W' h => by
  rw [h.cell (by subst hW; simp <;> omega)]; subst hW; simp [go_sem]
 have c2 : ∀ W',Below W.heap.size W W' → W'.cell? ⟨w.heap.size,2,none⟩ = some (.int .i64 ki) := fun W' h => by
  rw [h.cell (by subst hW; simp <;> omega)]; subst hW; simp [go_sem]
 have c3 : ∀ W',Below W.heap.size W W' → W'.cell? ⟨w.heap.size,3,none⟩ = some (.int .i64 wi) := fun W' h => by
  rw [h.cell (by subst hW; simp <;> omega)]; subst hW; simp [go_sem]
 have c4 : ∀ W',Below W.heap.size W W' → W'.cell? ⟨w.heap.size,4,none⟩ = some (.slice (some ⟨b,0,none⟩) n cap) := fun W' h => by
  rw [h.cell (by subst hW; simp <;> omega)]; subst hW; simp [go_sem]
 have c5 : ∀ W',Below W.heap.size W W' → W'.cell? ⟨w.heap.size,5,none⟩ = some (.string lab) := fun W' h => by
  rw [h.cell (by subst hW; simp <;> omega)]; subst hW; simp [go_sem]
 have c6 : ∀ W',Below W.heap.size W W' → W'.cell? ⟨w.heap.size,6,none⟩ = some (.int .i64 pr) := fun W' h => by
  rw [h.cell (by subst hW; simp <;> omega)]; subst hW; simp [go_sem]
 have HT : Hid (There W (w.heap.size + 1) 4) := by
  show There _ _ _
  subst hW
  have := there4 (w.alloc (.cells #[.int .i64 id, .int .i64 la, .int .i64 ki, .int .i64 wi, .slice (some ⟨b,0,none⟩) n cap, .string lab, .int .i64 pr] 39)) (.int .i64 0) (.int .i64 0) (.int .i64 0) (.int .i64 0) 93
  simpa using this
 have hsW : w.heap.size + 1 < W.heap.size := by subst hW; simp
 clear hW
 have HB0 : Hid (Below w.heap.size w W) := hB0
 have HPW : Hid (PtsAt W b 0 n X Y) := HP.out.below hB0 hbl
 have hblW : b < W.heap.size := Nat.lt_of_lt_of_le hbl hB0.size
 clear hB0 HP
 have hr0 : Below W.heap.size W W := Below.refl _ _
 go_cut [5,6] (fun t s wc => ∃ p : Nat,t = .pointer (some ⟨p,0,none⟩) ∧ s = .int .i64 r ∧ Below W.heap.size W wc ∧ wc.cell? ⟨p,0,none⟩ = some (.int .i64 a1) ∧ wc.cell? ⟨p,1,none⟩ = some (.int .i64 a2) ∧ wc.cell? ⟨p,2,none⟩ = some (.int .i64 a3) ∧ wc.cell? ⟨p,3,none⟩ = some (.int .i64 a4))
 case first =>
  refine wp_region_noPanic ?_
  refine wp_region_held_drew (S := fun W' => Below W.heap.size W W') (by kernel_rfl) (by (repeat (first|exact Qr _ _|assumption|refine Qd ?_|refine Qa ?_ _|refine Qt ?_|refine Qs ?_ _|refine Qo ?_ ?_ _ _))) (fun hHeld => ?_)
  have hBd : Below W.heap.size W W.drew := hHeld
  refine takeK (i := 0) (d := some 7) (v := ?vt1) rfl rfl (Or.inl ⟨by rfl,?hyt1⟩) (by assumption) ?_
  case hyt1 => (intro w hSw; (try dsimp only at hSw); go_simp <;> with_reducible rfl)
  try simp only [Act.put,Qx,Qy,Qz]
  refine takeK (i := 1) (d := some 8) (v := ?vt2) rfl rfl (Or.inl ⟨by rfl,?hyt2⟩) (by assumption) ?_
  case hyt2 => (intro w hSw; (try dsimp only at hSw); go_simp <;> with_reducible rfl)
  try simp only [Act.put,Qx,Qy,Qz]
  refine takeK (i := 5) (d := some 12) (v := ?vt3) rfl rfl (Or.inl ⟨by rfl,?hyt3⟩) (by assumption) ?_
  case hyt3 => (intro w hSw; (try dsimp only at hSw); go_simp <;> with_reducible rfl)
  try simp only [Act.put,Qx,Qy,Qz]
  refine takeK (i := 6) (d := some 13) (v := ?vt4) rfl rfl (Or.inl ⟨by rfl,?hyt4⟩) (by assumption) ?_
  case hyt4 => (intro w hSw; (try dsimp only at hSw); go_simp <;> with_reducible rfl)
  try simp only [Act.put,Qx,Qy,Qz]
  refine wpAnyH_ready (rs := [2,8]) (by kernel_rfl) (by simp) ?_
  refine (AllReadyH.cons rfl (fun K hK => ?_) (AllReadyH.cons rfl (fun K hK => ?_) AllReadyH.nil))
  ·skip
   go_simp
   refine (Hdb.out _ (HPW.out.below hBd hblW) (Nat.lt_of_lt_of_le hblW (Below.size hBd))).mono ?_
   rintro e w5 ⟨g,cg,rfl,hgl5,hcg,hPg5,hb5⟩
   have hB5 : Below W.heap.size W w5 := bl_then hBd hb5
   go_wp2_with fail
   refine hK.out _ _ hB5 (fun hHeld => ?_)
   clear hK K
   try simp only [Act.put,Qx,Qy,Qz]
   refine wpAnyH_ready (rs := [3,8]) (by kernel_rfl) (by simp) ?_
   refine (AllReadyH.cons rfl (fun K hK => ?_) (AllReadyH.cons rfl (fun K hK => ?_) AllReadyH.nil))
   ·skip
    go_simp
    refine (Hbox.out g cg _ hPg5 hgl5 hcg).mono ?_
    rintro e w6 ⟨rfl,hb6⟩
    have hB6 : Below W.heap.size W w6 := bl_then hB5 hb6
    go_wp2_with fail
    refine hK.out _ _ hB6 (fun hHeld => ?_)
    clear hK K
    try simp only [Act.put,Qx,Qy,Qz]
    refine takeK (i := 4) (d := some 11) (v := ?vt7) rfl rfl (Or.inl ⟨by rfl,?hyt7⟩) (by assumption) ?_
    case hyt7 => (intro w hSw; (try dsimp only at hSw); go_simp <;> with_reducible rfl)
    try simp only [Act.put,Qx,Qy,Qz]
    refine wpAnyH_ready (rs := [7,8]) (by kernel_rfl) (by simp) ?_
    refine (AllReadyH.cons rfl (fun K hK => ?_) (AllReadyH.cons rfl (fun K hK => ?_) AllReadyH.nil))
    ·skip
     go_simp
     refine (Hre.out _).mono ?_
     rintro e w8 ⟨rfl,hb8⟩
     have hB8 : Below W.heap.size W w8 := bl_then hB6 hb8
     go_wp2_with fail
     refine hK.out _ _ hB8 (fun hHeld => ?_)
     clear hK K
     try simp only [Act.put,Qx,Qy,Qz]
     refine wpAnyH_ready (rs := [8]) (by kernel_rfl) (by simp) ?_
     refine (AllReadyH.cons rfl (fun K hK => ?_) AllReadyH.nil)
     go_simp
     generalize hw9 : (World.alloc w8 (.cells #[.int .i64 0, .int .i64 0, .int .i64 0, .int .i64 0] 93) : World) = w9
     have hb9 : Below (World.heap w8).size w8 w9 := by subst hw9; (repeat (first|exact Qr _ _|assumption|refine Qd ?_|refine Qa ?_ _|refine Qt ?_|refine Qs ?_ _|refine Qo ?_ ?_ _ _))
     have hT9 : There w9 ((World.heap w8).size) 4 := by subst hw9; exact there4 w8 _ _ _ _ _
     have hB9 : Below W.heap.size W w9 := bl_then hB8 hb9
     clear hw9
     refine hK.out _ _ hB9 (fun hHeld => ?_)
     clear hK K
     try simp only [Act.put,Qx,Qy,Qz]
     refine wpAnyH_ready (rs := [9]) (by kernel_rfl) (by simp) ?_
     refine (AllReadyH.cons rfl (fun K hK => ?_) AllReadyH.nil)
     have HTz : Hid (There w9 ((World.heap w8).size) 4) := hT9
     have t0 := hT9.cell 0 (by omega)
     have f0 := (hT9 0 (by omega)).2
     have t1 := hT9.cell 1 (by omega)
     have f1 := (hT9 1 (by omega)).2
     have t2 := hT9.cell 2 (by omega)
     have f2 := (hT9 2 (by omega)).2
     have t3 := hT9.cell 3 (by omega)
     have f3 := (hT9 3 (by omega)).2
     have hple : W.heap.size ≤ (World.heap w8).size := by first | exact Nat.le_refl _ | exact Below.size (by assumption)
     try simp only [World.drew_heap] at t0 t1 t2 t3 f0 f1 f2 f3 hple
     go_simp
     obtain ⟨s0,s1,s2,s3⟩ := set4_at (a := .int .i64 a1) (b := .int .i64 a2) (c := .int .i64 a3) (d := .int .i64 a4) HTz.out
     have hBf := (((Below.setCell hB9 (p := ⟨(World.heap w8).size,0,none⟩) hple (.int .i64 a1)).setCell (p := ⟨(World.heap w8).size,1,none⟩) hple (.int .i64 a2)).setCell (p := ⟨(World.heap w8).size,2,none⟩) hple (.int .i64 a3)).setCell (p := ⟨(World.heap w8).size,3,none⟩) hple (.int .i64 a4)
     refine hK.out _ _ hBf (fun hHeld => ?_)
     clear hK K
     try simp only [Act.put,Qx,Qy,Qz]
     refine takeK (i := 10) (d := some 6) (v := ?vt11) rfl rfl (Or.inl ⟨by rfl,?hyt11⟩) (by assumption) ?_
     case hyt11 => (intro w hSw; (try dsimp only at hSw); go_simp <;> with_reducible rfl)
     try simp only [Act.put,Qx,Qy,Qz]
     refine wpAnyH_done (by kernel_rfl) ?_ _
     refine NoPanic.normal ?_
     go_wp2_with fail
     go_meet
     case rel => exact ⟨_,rfl,rfl,hBf,s0,s1,s2,s3⟩
    ·skip
     go_simp
     generalize hw12 : (World.alloc w6 (.cells #[.int .i64 0, .int .i64 0, .int .i64 0, .int .i64 0] 93) : World) = w12
     have hb12 : Below (World.heap w6).size w6 w12 := by subst hw12; (repeat (first|exact Qr _ _|assumption|refine Qd ?_|refine Qa ?_ _|refine Qt ?_|refine Qs ?_ _|refine Qo ?_ ?_ _ _))
     have hT12 : There w12 ((World.heap w6).size) 4 := by subst hw12; exact there4 w6 _ _ _ _ _
     have hB12 : Below W.heap.size W w12 := bl_then hB6 hb12
     clear hw12
     refine hK.out _ _ hB12 (fun hHeld => ?_)
     clear hK K
     try simp only [Act.put,Qx,Qy,Qz]
     refine wpAnyH_ready (rs := [7]) (by kernel_rfl) (by simp) ?_
     refine (AllReadyH.cons rfl (fun K hK => ?_) AllReadyH.nil)
     go_simp
     refine (Hre.out _).mono ?_
     rintro e w13 ⟨rfl,hb13⟩
     have hB13 : Below W.heap.size W w13 := bl_then hB12 hb13
     have hT13 : There w13 ((World.heap w6).size) 4 := hT12.below hb13
     go_wp2_with fail
     refine hK.out _ _ hB13 (fun hHeld => ?_)
     clear hK K
     try simp only [Act.put,Qx,Qy,Qz]
     refine wpAnyH_ready (rs := [9]) (by kernel_rfl) (by simp) ?_
     refine (AllReadyH.cons rfl (fun K hK => ?_) AllReadyH.nil)
     have HTz : Hid (There w13 ((World.heap w6).size) 4) := hT13
     have t0 := hT13.cell 0 (by omega)
     have f0 := (hT13 0 (by omega)).2
     have t1 := hT13.cell 1 (by omega)
     have f1 := (hT13 1 (by omega)).2
     have t2 := hT13.cell 2 (by omega)
     have f2 := (hT13 2 (by omega)).2
     have t3 := hT13.cell 3 (by omega)
     have f3 := (hT13 3 (by omega)).2
     have hple : W.heap.size ≤ (World.heap w6).size := by first | exact Nat.le_refl _ | exact Below.size (by assumption)
     try simp only [World.drew_heap] at t0 t1 t2 t3 f0 f1 f2 f3 hple
     go_simp
     obtain ⟨s0,s1,s2,s3⟩ := set4_at (a := .int .i64 a1) (b := .int .i64 a2) (c := .int .i64 a3) (d := .int .i64 a4) HTz.out
     have hBf := (((Below.setCell hB13 (p := ⟨(World.heap w6).size,0,none⟩) hple (.int .i64 a1)).setCell (p := ⟨(World.heap w6).size,1,none⟩) hple (.int .i64 a2)).setCell (p := ⟨(World.heap w6).size,2,none⟩) hple (.int .i64 a3)).setCell (p := ⟨(World.heap w6).size,3,none⟩) hple (.int .i64 a4)
     refine hK.out _ _ hBf (fun hHeld => ?_)
     clear hK K
     try simp only [Act.put,Qx,Qy,Qz]
     refine takeK (i := 10) (d := some 6) (v := ?vt15) rfl rfl (Or.inl ⟨by rfl,?hyt15⟩) (by assumption) ?_
     case hyt15 => (intro w hSw; (try dsimp only at hSw); go_simp <;> with_reducible rfl)
     try simp only [Act.put,Qx,Qy,Qz]
     refine wpAnyH_done (by kernel_rfl) ?_ _
     refine NoPanic.normal ?_
     go_wp2_with fail
     go_meet
     case rel => exact ⟨_,rfl,rfl,hBf,s0,s1,s2,s3⟩
   ·skip
    go_simp
    generalize hw16 : (World.alloc w5 (.cells #[.int .i64 0, .int .i64 0, .int .i64 0, .int .i64 0] 93) : World) = w16
    have hb16 : Below (World.heap w5).size w5 w16 := by subst hw16; (repeat (first|exact Qr _ _|assumption|refine Qd ?_|refine Qa ?_ _|refine Qt ?_|refine Qs ?_ _|refine Qo ?_ ?_ _ _))
    have hT16 : There w16 ((World.heap w5).size) 4 := by subst hw16; exact there4 w5 _ _ _ _ _
    have hB16 : Below W.heap.size W w16 := bl_then hB5 hb16
    have hPg16 := PtsAt.below hPg5 hb16 hgl5
    have hgl16 := Nat.lt_of_lt_of_le hgl5 (Below.size hb16)
    clear hw16
    refine hK.out _ _ hB16 (fun hHeld => ?_)
    clear hK K
    try simp only [Act.put,Qx,Qy,Qz]
    refine wpAnyH_ready (rs := [3]) (by kernel_rfl) (by simp) ?_
    refine (AllReadyH.cons rfl (fun K hK => ?_) AllReadyH.nil)
    go_simp
    refine (Hbox.out g cg _ hPg16 hgl16 hcg).mono ?_
    rintro e w17 ⟨rfl,hb17⟩
    have hB17 : Below W.heap.size W w17 := bl_then hB16 hb17
    have hT17 : There w17 ((World.heap w5).size) 4 := hT16.below hb17
    go_wp2_with fail
    refine hK.out _ _ hB17 (fun hHeld => ?_)
    clear hK K
    try simp only [Act.put,Qx,Qy,Qz]
    refine takeK (i := 4) (d := some 11) (v := ?vt18) rfl rfl (Or.inl ⟨by rfl,?hyt18⟩) (by assumption) ?_
    case hyt18 => (intro w hSw; (try dsimp only at hSw); go_simp <;> with_reducible rfl)
    try simp only [Act.put,Qx,Qy,Qz]
    refine wpAnyH_ready (rs := [7]) (by kernel_rfl) (by simp) ?_
    refine (AllReadyH.cons rfl (fun K hK => ?_) AllReadyH.nil)
    go_simp
    refine (Hre.out _).mono ?_
    rintro e w19 ⟨rfl,hb19⟩
    have hB19 : Below W.heap.size W w19 := bl_then hB17 hb19
    have hT19 : There w19 ((World.heap w5).size) 4 := hT17.below hb19
    go_wp2_with fail
    refine hK.out _ _ hB19 (fun hHeld => ?_)
    clear hK K
    try simp only [Act.put,Qx,Qy,Qz]
    refine wpAnyH_ready (rs := [9]) (by kernel_rfl) (by simp) ?_
    refine (AllReadyH.cons rfl (fun K hK => ?_) AllReadyH.nil)
    have HTz : Hid (There w19 ((World.heap w5).size) 4) := hT19
    have t0 := hT19.cell 0 (by omega)
    have f0 := (hT19 0 (by omega)).2
    have t1 := hT19.cell 1 (by omega)
    have f1 := (hT19 1 (by omega)).2
    have t2 := hT19.cell 2 (by omega)
    have f2 := (hT19 2 (by omega)).2
    have t3 := hT19.cell 3 (by omega)
    have f3 := (hT19 3 (by omega)).2
    have hple : W.heap.size ≤ (World.heap w5).size := by first | exact Nat.le_refl _ | exact Below.size (by assumption)
    try simp only [World.drew_heap] at t0 t1 t2 t3 f0 f1 f2 f3 hple
    go_simp
    obtain ⟨s0,s1,s2,s3⟩ := set4_at (a := .int .i64 a1) (b := .int .i64 a2) (c := .int .i64 a3) (d := .int .i64 a4) HTz.out
    have hBf := (((Below.setCell hB19 (p := ⟨(World.heap w5).size,0,none⟩) hple (.int .i64 a1)).setCell (p := ⟨(World.heap w5).size,1,none⟩) hple (.int .i64 a2)).setCell (p := ⟨(World.heap w5).size,2,none⟩) hple (.int .i64 a3)).setCell (p := ⟨(World.heap w5).size,3,none⟩) hple (.int .i64 a4)
    refine hK.out _ _ hBf (fun hHeld => ?_)
    clear hK K
    try simp only [Act.put,Qx,Qy,Qz]
    refine takeK (i := 10) (d := some 6) (v := ?vt21) rfl rfl (Or.inl ⟨by rfl,?hyt21⟩) (by assumption) ?_
    case hyt21 => (intro w hSw; (try dsimp only at hSw); go_simp <;> with_reducible rfl)
    try simp only [Act.put,Qx,Qy,Qz]
    refine wpAnyH_done (by kernel_rfl) ?_ _
    refine NoPanic.normal ?_
    go_wp2_with fail
    go_meet
    case rel => exact ⟨_,rfl,rfl,hBf,s0,s1,s2,s3⟩
  ·skip
   go_simp
   generalize hw22 : (World.drew (World.alloc W (.cells #[.int .i64 0, .int .i64 0, .int .i64 0, .int .i64 0] 93)) : World) = w22
   have hb22 : Below (World.heap W).size W w22 := by subst hw22; (repeat (first|exact Qr _ _|assumption|refine Qd ?_|refine Qa ?_ _|refine Qt ?_|refine Qs ?_ _|refine Qo ?_ ?_ _ _))
   have hT22 : There w22 ((World.heap W).size) 4 := by subst hw22; exact there4 W _ _ _ _ _
   have hB22 : Below W.heap.size W w22 := bl_then (Below.refl W.heap.size W) hb22
   clear hw22
   refine hK.out _ _ hB22 (fun hHeld => ?_)
   clear hK K
   try simp only [Act.put,Qx,Qy,Qz]
   refine wpAnyH_ready (rs := [2]) (by kernel_rfl) (by simp) ?_
   refine (AllReadyH.cons rfl (fun K hK => ?_) AllReadyH.nil)
   go_simp
   refine (Hdb.out _ (HPW.out.below hB22 hblW) (Nat.lt_of_lt_of_le hblW (Below.size hB22))).mono ?_
   rintro e w23 ⟨g,cg,rfl,hgl23,hcg,hPg23,hb23⟩
   have hB23 : Below W.heap.size W w23 := bl_then hB22 hb23
   have hT23 : There w23 ((World.heap W).size) 4 := hT22.below hb23
   go_wp2_with fail
   refine hK.out _ _ hB23 (fun hHeld => ?_)
   clear hK K
   try simp only [Act.put,Qx,Qy,Qz]
   refine wpAnyH_ready (rs := [3]) (by kernel_rfl) (by simp) ?_
   refine (AllReadyH.cons rfl (fun K hK => ?_) AllReadyH.nil)
   go_simp
   refine (Hbox.out g cg _ hPg23 hgl23 hcg).mono ?_
   rintro e w24 ⟨rfl,hb24⟩
   have hB24 : Below W.heap.size W w24 := bl_then hB23 hb24
   have hT24 : There w24 ((World.heap W).size) 4 := hT23.below hb24
   go_wp2_with fail
   refine hK.out _ _ hB24 (fun hHeld => ?_)
   clear hK K
   try simp only [Act.put,Qx,Qy,Qz]
   refine takeK (i := 4) (d := some 11) (v := ?vt25) rfl rfl (Or.inl ⟨by rfl,?hyt25⟩) (by assumption) ?_
   case hyt25 => (intro w hSw; (try dsimp only at hSw); go_simp <;> with_reducible rfl)
   try simp only [Act.put,Qx,Qy,Qz]
   refine wpAnyH_ready (rs := [7]) (by kernel_rfl) (by simp) ?_
   refine (AllReadyH.cons rfl (fun K hK => ?_) AllReadyH.nil)
   go_simp
   refine (Hre.out _).mono ?_
   rintro e w26 ⟨rfl,hb26⟩
   have hB26 : Below W.heap.size W w26 := bl_then hB24 hb26
   have hT26 : There w26 ((World.heap W).size) 4 := hT24.below hb26
   go_wp2_with fail
   refine hK.out _ _ hB26 (fun hHeld => ?_)
   clear hK K
   try simp only [Act.put,Qx,Qy,Qz]
   refine wpAnyH_ready (rs := [9]) (by kernel_rfl) (by simp) ?_
   refine (AllReadyH.cons rfl (fun K hK => ?_) AllReadyH.nil)
   have HTz : Hid (There w26 ((World.heap W).size) 4) := hT26
   have t0 := hT26.cell 0 (by omega)
   have f0 := (hT26 0 (by omega)).2
   have t1 := hT26.cell 1 (by omega)
   have f1 := (hT26 1 (by omega)).2
   have t2 := hT26.cell 2 (by omega)
   have f2 := (hT26 2 (by omega)).2
   have t3 := hT26.cell 3 (by omega)
   have f3 := (hT26 3 (by omega)).2
   have hple : W.heap.size ≤ (World.heap W).size := by first | exact Nat.le_refl _ | exact Below.size (by assumption)
   try simp only [World.drew_heap] at t0 t1 t2 t3 f0 f1 f2 f3 hple
   go_simp
   obtain ⟨s0,s1,s2,s3⟩ := set4_at (a := .int .i64 a1) (b := .int .i64 a2) (c := .int .i64 a3) (d := .int .i64 a4) HTz.out
   have hBf := (((Below.setCell hB26 (p := ⟨(World.heap W).size,0,none⟩) hple (.int .i64 a1)).setCell (p := ⟨(World.heap W).size,1,none⟩) hple (.int .i64 a2)).setCell (p := ⟨(World.heap W).size,2,none⟩) hple (.int .i64 a3)).setCell (p := ⟨(World.heap W).size,3,none⟩) hple (.int .i64 a4)
   refine hK.out _ _ hBf (fun hHeld => ?_)
   clear hK K
   try simp only [Act.put,Qx,Qy,Qz]
   refine takeK (i := 10) (d := some 6) (v := ?vt28) rfl rfl (Or.inl ⟨by rfl,?hyt28⟩) (by assumption) ?_
   case hyt28 => (intro w hSw; (try dsimp only at hSw); go_simp <;> with_reducible rfl)
   try simp only [Act.put,Qx,Qy,Qz]
   refine wpAnyH_done (by kernel_rfl) ?_ _
   refine NoPanic.normal ?_
   go_wp2_with fail
   go_meet
   case rel => exact ⟨_,rfl,rfl,hBf,s0,s1,s2,s3⟩
 case rest =>
  obtain ⟨p,rfl,rfl,hBc,e0,e1,e2,e3⟩ := hcut
  have hT' := HT.out.below hBc
  have HT' : Hid (There wc (w.heap.size + 1) 4) := hT'
  have t0 := hT'.cell 0 (by omega)
  have t1 := hT'.cell 1 (by omega)
  have t2 := hT'.cell 2 (by omega)
  have t3 := hT'.cell 3 (by omega)
  have z0 := (hT' 0 (by omega)).2
  have z1 := (hT' 1 (by omega)).2
  have z2 := (hT' 2 (by omega)).2
  have z3 := (hT' 3 (by omega)).2
  have hszc : w.heap.size + 1 < wc.heap.size := Nat.lt_of_lt_of_le hsW hBc.size
  have hBw : Hid (Below w.heap.size w wc) := bl_then HB0.out hBc
  clear c0 c1 c2 c3 c4 c5 c6 hT' hBc hr0
  go_wp2_with fail
  obtain ⟨s0,s1,s2,s3⟩ := set4_at (a := .int .i64 (a1 - r)) (b := .int .i64 (a2 - r)) (c := .int .i64 (a3 + r)) (d := .int .i64 (a4 + r)) HT'.out
  refine bodyPost_ret (v := .agg #[.int .i64 (a1 - r), .int .i64 (a2 - r), .int .i64 (a3 + r), .int .i64 (a4 + r)]) (by simp [results,Tryz.results90,go_sem,s0,s1,s2,s3]) rfl ⟨by rw [HV.out],?_⟩
  have HB := hBw.out
  (repeat (first|exact Qr _ _|assumption|refine Qd ?_|refine Qa ?_ _|refine Qt ?_|refine Qs ?_ _|refine Qo ?_ ?_ _ _))
def dcB (C ki wi z x y : Int) (R : List (Int × Int)) : Bool := decide (C = 0) && (pixB z x y && coverB ki wi z (centI z x) (centI z y) (dblL (px R) (py R) R.length))
theorem impl_DoesCover_any {off : Nat} (id la ki wi z x y : Int) (b n cap : Nat) (X Y : Nat → Int) (lab : ByteArray) (pr : Int) (L : List Nat) (w : World) (hp : PtsAt w b off n X Y) (hbl : b < w.heap.size) (hn : n ≤ 1048576) (hcap : n ≤ cap) (hl : lab.size ≤ 1048576)
  (hL : 3 ≤ (snapL X Y z n).length → Thin (px (snapL X Y z n)) (py (snapL X Y z n)) (gridI z) 0 ((snapL X Y z n).length - 1) L) (C : Int) (hC : C = simpC z (featC id la ki wi n X Y lab pr)) :
  Calls Tryz.prog 9 #[.agg #[.int .i64 id, .int .i64 la, .int .i64 ki, .int .i64 wi, .slice (some ⟨b,off,none⟩) n cap, .string lab, .int .i64 pr], .int .i64 z, .int .i64 x, .int .i64 y] w fun e w' => e = .returned (.bool (dcB C ki wi z x y (simpR C ki z n X Y L))) ∧ Below w.heap.size w w' := by
 have HP : Hid (PtsAt w b off n X Y) := hp
 have HL := (show Hid _ from hL)
 have HC : Hid (C = simpC z (featC id la ki wi n X Y lab pr)) := hC
 clear hp hL hC
 go_enter Tryz.func9,Tryz.ntmps9
 go_wp2_with fail
 generalize hW : (w.alloc _ : World) = W
 have hB0 : Below w.heap.size w W := by subst hW; (repeat (first|exact Qr _ _|assumption|refine Qd ?_|refine Qa ?_ _|refine Qt ?_|refine Qs ?_ _|refine Qo ?_ ?_ _ _))
 clear hW
 have HB0 : Hid (Below w.heap.size w W) := hB0
 have HPW : Hid (PtsAt W b off n X Y) := HP.out.below hB0 hbl
 have hblW : b < W.heap.size := Nat.lt_of_lt_of_le hbl hB0.size
 clear hB0
 by_cases hC0 : C = 0
 ·subst hC0
  have hz : zoomB z = true := by
   have := HC.out
   unfold simpC at this
   split at this
   ·assumption
   ·omega
  have hfc : featC id la ki wi n X Y lab pr = 0 := by
   have := HC.out
   unfold simpC at this
   rw [if_pos hz] at this
   exact this.symm
  obtain ⟨hkn,hR12,hall⟩ := simpR_facts hfc hz HL.out
  have hwr := (featC_rng hfc).2.2.1
  have hR0 : 0 < (simpR 0 ki z n X Y L).length := by rcases hkn with ⟨_,h⟩ | ⟨_,h⟩ | ⟨_,h⟩ <;> omega
  have Hs := (show Hid _ from simple_ok id la ki wi z b n cap X Y lab pr L W HPW.out hblW hn hcap hl HL.out HC.out hR0)
  clear hfc
  refine Calls.mono Hs.out ?_
  clear Hs
  have HAL : Hid (allW (simpR 0 ki z n X Y L)) := hall
  clear hall hkn
  generalize hRe : simpR 0 ki z n X Y L = R at *
  have HRe : Hid (simpR 0 ki z n X Y L = R) := hRe
  clear hRe
  rintro e w1 ⟨g,cg,rfl,hgl,hcg,hPg,hb1⟩
  have hB1 : Below w.heap.size w w1 := bl_then HB0.out hb1
  have HPg : Hid (PtsAt w1 g 0 R.length (px R) (py R)) := hPg
  generalize hRn : R.length = N at *
  clear hPg hb1
  go_wp2_with fail
  obtain ⟨k0,k1,k2,hk⟩ : ∃ k0 k1 k2 : Int,centV z x y = .agg #[.int .i64 k0, .int .i64 k1, .int .i64 k2] := by
   unfold centV
   split <;> exact ⟨_,_,_,rfl⟩
  have Hce := (show Hid _ from impl_CentreOf_any z x y)
  refine (Hce.out _).mono ?_
  rintro e w2 ⟨rfl,hb2⟩
  rw [hk]
  have hB2 : Below w.heap.size w w2 := bl_then hB1 hb2
  have HP2 : Hid (PtsAt w2 g 0 N (px R) (py R)) := HPg.out.below hb2 hgl
  have hg2 : g < w2.heap.size := Nat.lt_of_lt_of_le hgl hb2.size
  clear HPg hb2 hB1 hgl
  cases hpx : pixB z x y
  ·have HK : Hid (dcB 0 ki wi z x y R = false) := by show _ = _; simp [dcB,hpx]
   have hk0 : k0 = 3 := by
    rw [centV,hpx] at hk
    simp at hk
    exact hk.1.symm
   subst hk0
   go_wp2_with fail
   go_ret
   exact ⟨ret_bool (by rw [HRe.out]; exact HK.out.symm),by have hB2' := hB2; (repeat (first|exact Qr _ _|assumption|refine Qd ?_|refine Qa ?_ _|refine Qt ?_|refine Qs ?_ _|refine Qo ?_ ?_ _ _))⟩
  ·have HK : Hid (dcB 0 ki wi z x y R = coverB ki wi z (centI z x) (centI z y) (dblL (px R) (py R) N)) := by show _ = _; simp [dcB,hpx,hRn]
   have hkk : k0 = 0 ∧ k1 = centI z x ∧ k2 = centI z y := by
    rw [centV,hpx] at hk
    simp at hk
    exact ⟨hk.1.symm,hk.2.1.symm,hk.2.2.symm⟩
   obtain ⟨rfl,rfl,rfl⟩ := hkk
   clear hk
   generalize centI z x = cx at *
   generalize centI z y = cy at *
   go_wp2_with fail
   generalize hV : ((w2.alloc _).alloc _ : World) = V
   have hbV : Below w2.heap.size w2 V := by subst hV; (repeat (first|exact Qr _ _|assumption|refine Qd ?_|refine Qa ?_ _|refine Qt ?_|refine Qs ?_ _|refine Qo ?_ ?_ _ _))
   have s0 : ∀ W',Below V.heap.size V W' → W'.cell? ⟨w2.heap.size,1,none⟩ = some (.int .i64 id) := fun W' h => by
    rw [h.cell (by subst hV; simp <;> omega)]; subst hV; simp [go_sem]
   have s1 : ∀ W',Below V.heap.size V W' → W'.cell? ⟨w2.heap.size,2,none⟩ = some (.int .i64 la) := fun W' h => by
    rw [h.cell (by subst hV; simp <;> omega)]; subst hV; simp [go_sem]
   have s2 : ∀ W',Below V.heap.size V W' → W'.cell? ⟨w2.heap.size,3,none⟩ = some (.int .i64 ki) := fun W' h => by
    rw [h.cell (by subst hV; simp <;> omega)]; subst hV; simp [go_sem]
   have s3 : ∀ W',Below V.heap.size V W' → W'.cell? ⟨w2.heap.size,4,none⟩ = some (.int .i64 wi) := fun W' h => by
    rw [h.cell (by subst hV; simp <;> omega)]; subst hV; simp [go_sem]
   have s4 : ∀ W',Below V.heap.size V W' → W'.cell? ⟨w2.heap.size,5,none⟩ = some (.slice (some ⟨g,0,none⟩) N cg) := fun W' h => by
    rw [h.cell (by subst hV; simp <;> omega)]; subst hV; simp [go_sem]
   have s5 : ∀ W',Below V.heap.size V W' → W'.cell? ⟨w2.heap.size,6,none⟩ = some (.string lab) := fun W' h => by
    rw [h.cell (by subst hV; simp <;> omega)]; subst hV; simp [go_sem]
   have s6 : ∀ W',Below V.heap.size V W' → W'.cell? ⟨w2.heap.size,7,none⟩ = some (.int .i64 pr) := fun W' h => by
    rw [h.cell (by subst hV; simp <;> omega)]; subst hV; simp [go_sem]
   have q0 : ∀ W',Below V.heap.size V W' → W'.cell? ⟨w2.heap.size + 1,1,none⟩ = some (.int .i64 cx) := fun W' h => by
    rw [h.cell (by subst hV; simp <;> omega)]; subst hV; simp [go_sem]
   have q1 : ∀ W',Below V.heap.size V W' → W'.cell? ⟨w2.heap.size + 1,2,none⟩ = some (.int .i64 cy) := fun W' h => by
    rw [h.cell (by subst hV; simp <;> omega)]; subst hV; simp [go_sem]
   clear hV
   have HPV : Hid (PtsAt V g 0 N (px R) (py R)) := HP2.out.below hbV hg2
   have hgV : g < V.heap.size := Nat.lt_of_lt_of_le hg2 hbV.size
   have HSh : Hid (∀ W',Below V.heap.size V W' → Calls Tryz.prog 28 #[.agg #[.int .i64 id, .int .i64 la, .int .i64 ki, .int .i64 wi, .slice (some ⟨g,0,none⟩) N cg, .string lab, .int .i64 pr], .int .i64 z] W' fun e w' => ∃ g' cg',e = .returned (shapeV id ki wi z g' N cg') ∧ g' < w'.heap.size ∧ N ≤ cg' ∧ PtsAt w' g' 0 N (px (dblL (px R) (py R) N)) (py (dblL (px R) (py R) N)) ∧ Below W'.heap.size W' w') := fun W' h => shapeOf_any id la ki wi z g N cg (px R) (py R) lab pr W' (HPV.out.below h hgV) (Nat.lt_of_lt_of_le hgV h.size) hR0 (by omega) (fun i _ => HAL.out.at i) hwr hz
   have HCo : Hid (∀ W' g' cg',PtsAt W' g' 0 N (px (dblL (px R) (py R) N)) (py (dblL (px R) (py R) N)) → g' < W'.heap.size → N ≤ cg' → Calls Tryz.prog 29 #[shapeV id ki wi z g' N cg', .agg #[.int .i64 cx, .int .i64 cy]] W' fun e w' => e = .returned (.bool (coverB ki wi z cx cy (dblL (px R) (py R) N))) ∧ Below W'.heap.size W' w') := fun W' g' cg' h1 h2 h3 => covers_any id ki wi z cx cy g' N cg' (px R) (py R) W' h1 h2 hR0 (by omega) h3
   clear HP2
   refine wp_region_noPanic ?_
   refine wp_region_held_drew (S := fun W' => Below V.heap.size V W') (by kernel_rfl) (by (repeat (first|exact Qr _ _|assumption|refine Qd ?_|refine Qa ?_ _|refine Qt ?_|refine Qs ?_ _|refine Qo ?_ ?_ _ _))) (fun hHeld => ?_)
   have hX0 : Below V.heap.size V V.drew := hHeld
   refine takeK (i := 0) (d := some 26) (v := ?vd0) rfl rfl (Or.inl ⟨by rfl,?hyd0⟩) (by assumption) ?_
   case hyd0 => (intro w hSw; (try dsimp only at hSw); go_simp <;> with_reducible rfl)
   try simp only [Act.put,Qx,Qy,Qz]
   refine takeK (i := 1) (d := some 27) (v := ?vd1) rfl rfl (Or.inl ⟨by rfl,?hyd1⟩) (by assumption) ?_
   case hyd1 => (intro w hSw; (try dsimp only at hSw); go_simp <;> with_reducible rfl)
   try simp only [Act.put,Qx,Qy,Qz]
   refine takeK (i := 2) (d := some 28) (v := ?vd2) rfl rfl (Or.inl ⟨by rfl,?hyd2⟩) (by assumption) ?_
   case hyd2 => (intro w hSw; (try dsimp only at hSw); go_simp <;> with_reducible rfl)
   try simp only [Act.put,Qx,Qy,Qz]
   refine takeK (i := 4) (d := some 30) (v := ?vd4) rfl rfl (Or.inl ⟨by rfl,?hyd4⟩) (by assumption) ?_
   case hyd4 => (intro w hSw; (try dsimp only at hSw); go_simp <;> with_reducible rfl)
   try simp only [Act.put,Qx,Qy,Qz]
   refine takeK (i := 5) (d := some 31) (v := ?vd5) rfl rfl (Or.inl ⟨by rfl,?hyd5⟩) (by assumption) ?_
   case hyd5 => (intro w hSw; (try dsimp only at hSw); go_simp <;> with_reducible rfl)
   try simp only [Act.put,Qx,Qy,Qz]
   refine wpAnyH_ready (rs := [3]) (by kernel_rfl) (by simp) ?_
   refine (AllReadyH.cons rfl (fun K hK => ?_) AllReadyH.nil)
   go_simp
   refine Calls.mono (HSh.out _ hX0) ?_
   rintro e w3 ⟨g',cg',rfl,hg3,hcg3,hP3,hb3⟩
   have hX3 : Below V.heap.size V w3 := bl_then hX0 hb3
   go_wp2_with fail
   refine hK.out _ _ hX3 (fun hHeld => ?_)
   clear hK K hb3
   try simp only [Act.put,Qx,Qy,Qz]
   refine wpAnyH_ready (rs := [6]) (by kernel_rfl) (by simp) ?_
   refine (AllReadyH.cons rfl (fun K hK => ?_) AllReadyH.nil)
   go_simp
   refine Calls.mono (HCo.out _ _ _ hP3 hg3 hcg3) ?_
   rintro e w4 ⟨rfl,hb4⟩
   have hX4 : Below V.heap.size V w4 := bl_then hX3 hb4
   go_wp2_with fail
   refine hK.out _ _ hX4 (fun hHeld => ?_)
   clear hK K hb4
   try simp only [Act.put,Qx,Qy,Qz]
   refine takeK (i := 7) (d := some 8) (v := ?vd7) rfl rfl (Or.inl ⟨by rfl,?hyd7⟩) (by assumption) ?_
   case hyd7 => (intro w hSw; (try dsimp only at hSw); go_simp <;> with_reducible rfl)
   try simp only [Act.put,Qx,Qy,Qz]
   refine wpAnyH_done (by kernel_rfl) ?_ _
   refine NoPanic.normal ?_
   go_wp2_with fail
   go_ret
   exact ⟨ret_bool (by rw [HRe.out]; exact HK.out.symm),bl_then hB2 (bl_then hbV hX4)⟩
 ·have HK : Hid (∀ R,dcB C ki wi z x y R = false) := fun R => by simp [dcB,hC0]
  have hcb : (C != 0) = true := by simpa using hC0
  refine (simple_no id la ki wi z b n cap X Y lab pr L W HPW.out hblW hn hcap hl HL.out C HC.out hC0).mono ?_
  rintro e w1 ⟨a1,c1,rfl,hb1⟩
  have hB1 : Below w.heap.size w w1 := bl_then HB0.out hb1
  go_wp2_with fail
  obtain ⟨k0,k1,k2,hk⟩ : ∃ k0 k1 k2 : Int,centV z x y = .agg #[.int .i64 k0, .int .i64 k1, .int .i64 k2] := by
   unfold centV
   split <;> exact ⟨_,_,_,rfl⟩
  refine (impl_CentreOf_any z x y _).mono ?_
  rintro e w2 ⟨rfl,hb2⟩
  rw [hk]
  have hB2 : Below w.heap.size w w2 := bl_then hB1 hb2
  clear hk hb1 hb2 hB1
  go_wp2_with fail
  go_ret
  exact ⟨ret_bool (HK.out _).symm,by have hB2' := hB2; (repeat (first|exact Qr _ _|assumption|refine Qd ?_|refine Qa ?_ _|refine Qt ?_|refine Qs ?_ _|refine Qo ?_ ?_ _ _))⟩
end Go.Proofs.YtfkonhagjahgnaaGreat
