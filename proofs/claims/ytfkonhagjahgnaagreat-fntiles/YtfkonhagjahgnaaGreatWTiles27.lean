/- Texts. -/
import Derived.Test.YtfkonhagjahgnaaGreatWTiles24
import Derived.Test.YtfkonhagjahgnaaGreatWTiles6
import Derived.Test.YtfkonhagjahgnaaGreatWTiles3
import Derived.Test.YtfkonhagjahgnaaGreatWTiles15
import Derived.Test.YtfkonhagjahgnaaGreatWTiles25
set_option linter.unusedSimpArgs false
set_option linter.unusedVariables false
set_option maxRecDepth 100000
set_option maxHeartbeats 32000000
namespace Go.Proofs.YtfkonhagjahgnaaGreat
open Go.RowKit
def OwnQ (w : World) (lo hi b n : Nat) (N C q : Nat → Nat) : Prop :=
 (lo ≤ b ∧ b < hi ∧ hi ≤ w.heap.size) ∧ There w b (n * 7) ∧
 (∀ i,i < n → (lo ≤ q i ∧ q i < hi ∧ q i ≠ b) ∧ There w (q i) (N i * 2) ∧ w.cell? ⟨b,i * 7 + 4,none⟩ = some (.slice (some ⟨q i,0,none⟩) (N i) (C i))) ∧
 (∀ i j,i < n → j < n → q i = q j → i = j)
theorem OwnQ.away {w w' : World} {lo hi lo' hi' b n : Nat} {N C q : Nat → Nat} (h : OwnQ w lo hi b n N C q) (hm : MidB lo' hi' w w') (ho : hi' ≤ lo ∨ hi ≤ lo') : OwnQ w' lo hi b n N C q := by
 obtain ⟨⟨h1,h2,h3⟩,h4,h5,h6⟩ := h
 exact ⟨⟨h1,h2,Nat.le_trans h3 hm.size⟩,hm.there h4 (by omega),fun i hi => ⟨(h5 i hi).1,hm.there (h5 i hi).2.1 (by have := (h5 i hi).1; omega),hm.cell (h5 i hi).2.2 (by omega)⟩,h6⟩



def OwnR (w : World) (lo hi : Nat) (a : Option Addr) (m : Nat) (N C : Nat → Nat) : Prop := m = 0 ∨ ∃ g q,a = some ⟨g,0,none⟩ ∧ OwnQ w lo hi g m N C q
theorem OwnR.away {w w' : World} {lo hi lo' hi' m : Nat} {a : Option Addr} {N C : Nat → Nat} (h : OwnR w lo hi a m N C) (hm : MidB lo' hi' w w') (ho : hi' ≤ lo ∨ hi ≤ lo') : OwnR w' lo hi a m N C := by
 rcases h with h | ⟨g,q,e,hq⟩
 ·exact .inl h
 ·exact .inr ⟨g,q,e,hq.away hm ho⟩
theorem isFs_mid {w w' : World} {lo up lo' up' m : Nat} {a : Option Addr} {T : Nat → Feat} (hF : IsFs w a m T) (hO : OwnR w lo' up' a m (fun i => (T i).n) (fun i => (T i).cap)) (hM : MidB lo up w w') (h : up ≤ lo') : IsFs w' a m T := by
 rcases hO with h0 | ⟨g,q,rfl,⟨h1,h2,h3⟩,hT,hq,_⟩
 ·exact .inl h0
 ·rcases hF with h0 | ⟨b,off,e,hbl,hFs⟩
  ·exact .inl h0
  ·injection e with e
   injection e with e1 e2
   subst e1 e2
   refine .inr ⟨g,0,rfl,Nat.lt_of_lt_of_le hbl hM.size,fun i hi => ?_⟩
   obtain ⟨⟨c0,c1,c2,c3,c4,c5,c6⟩,hp⟩ := hFs i hi
   obtain ⟨⟨q1,q2,q3⟩,q4,q5⟩ := hq i hi
   have ho : g < lo ∨ up ≤ g := .inr (Nat.le_trans h h1)
   refine ⟨⟨hM.cell c0 ho,hM.cell c1 ho,hM.cell c2 ho,hM.cell c3 ho,hM.cell c4 ho,hM.cell c5 ho,hM.cell c6 ho⟩,?_⟩
   rw [Nat.zero_add] at c4
   rw [q5] at c4
   injection c4 with c4
   injection c4 with c4 _ _
   rcases hp with hp | ⟨b',off',e',hbl',hpt⟩
   ·exact .inl hp
   ·rw [← c4] at e'
    injection e' with e'
    injection e' with e1' e2'
    refine .inr ⟨b',off',by rw [← c4,e1',e2'],Nat.lt_of_lt_of_le hbl' hM.size,fun x hx => ?_⟩
    have ho' : b' < lo ∨ up ≤ b' := .inr (by omega)
    exact ⟨hM.cell (hpt x hx).1 ho',hM.cell (hpt x hx).2 ho'⟩
abbrev trV (c z x y : Int) (v : Value) : Value := .agg #[.int .i64 c, .int .i64 z, .int .i64 x, .int .i64 y,v]
def T5At (w : World) (p : Nat) (c z x y : Int) (v : Value) : Prop := w.cell? ⟨p,0,none⟩ = some (.int .i64 c) ∧ w.cell? ⟨p,1,none⟩ = some (.int .i64 z) ∧ w.cell? ⟨p,2,none⟩ = some (.int .i64 x) ∧ w.cell? ⟨p,3,none⟩ = some (.int .i64 y) ∧ w.cell? ⟨p,4,none⟩ = some v
theorem T5At.below {w w' : World} {p : Nat} {c z x y : Int} {v : Value} (h : T5At w p c z x y v) (hb : Below w.heap.size w w') : T5At w' p c z x y v :=
 ⟨bl_cellB hb h.1,bl_cellB hb h.2.1,bl_cellB hb h.2.2.1,bl_cellB hb h.2.2.2.1,bl_cellB hb h.2.2.2.2⟩
def sameF (f g : Feat) : Bool := ptsEq f.n f.X f.Y g.n g.X g.Y && sameB f.id f.la f.ki f.wi f.lab f.pr g.id g.la g.ki g.wi g.lab g.pr
def sameL (n : Nat) (G : Nat → Feat) (m : Nat) (H : Nat → Feat) : Bool := decide (n = m) && decide (∀ i,i < n → sameF (G i) (H i) = true)
theorem sameL_len {n m : Nat} {G H : Nat → Feat} (h : ¬ n = m) : sameL n G m H = false := by simp [sameL,h]
theorem sameL_bad {n : Nat} {G H : Nat → Feat} (k : Nat) (hk : k < n) (h : sameF (G k) (H k) = false) : sameL n G n H = false := by
 unfold sameL
 rw [decide_eq_false (p := ∀ i,i < n → sameF (G i) (H i) = true) (fun hc => by have := hc k hk; rw [h] at this; cases this)]
 simp
theorem sameL_ok {n : Nat} {G H : Nat → Feat} (h : ∀ i,i < n → sameF (G i) (H i) = true) : sameL n G n H = true := by
 unfold sameL
 rw [decide_eq_true h]; simp
theorem sameF_same {f f' g g' : Feat} (h : f.same f') (h' : g.same g') : sameF f g = sameF f' g' := by
 obtain ⟨s1,s2,s3,s4,s5,s6,s7,s8,s9⟩ := h
 obtain ⟨t1,t2,t3,t4,t5,t6,t7,t8,t9⟩ := h'
 unfold sameF
 rw [s1,s2,s3,s4,s5,s6,s7,s8,s9,t1,t2,t3,t4,t5,t6,t7,t8,t9]
def Pts0 (w : World) (n : Nat) (G : Nat → Feat) : Prop := ∀ i,i < n → ∃ q,(G i).a = some ⟨q,0,none⟩ ∧ q < w.heap.size ∧ PtsAt w q 0 (G i).n (G i).X (G i).Y
theorem Pts0.below {w w' : World} {n : Nat} {G : Nat → Feat} (h : Pts0 w n G) (hb : Below w.heap.size w w') : Pts0 w' n G := fun i hi => by
 obtain ⟨q,e1,e2,e3⟩ := h i hi
 exact ⟨q,e1,Nat.lt_of_lt_of_le e2 hb.size,e3.below hb e2⟩
theorem equalFunc_any (b d n m c c' : Nat) (G H : Nat → Feat) (w : World) (hg : FsAt w b 0 n G) (hh : FsAt w d 0 m H) (hb : b < w.heap.size) (hd : d < w.heap.size) (hpg : Pts0 w n G) (hph : Pts0 w m H) (hsg : SmallFs n G) (hsh : SmallFs m H) :
  Calls Tryz.prog 32 #[.slice (some ⟨b,0,none⟩) n c, .slice (some ⟨d,0,none⟩) m c', .func (.func 33) #[] #[]] w fun e w' => e = .returned (.bool (sameL n G m H)) ∧ Below w.heap.size w w' := by
 by_cases hnm : n = m
 rotate_left
 ·have hne : ((n : Int) == (m : Int)) = false := by simp; omega
  have hn := hsg.1
  have hm := hsh.1
  have hz : Hid (sameL n G m H = false) := sameL_len hnm
  go_enter Tryz.func32,Tryz.ntmps32
  go_wp2
  go_ret
  exact ⟨ret_bool hz.out.symm,by (repeat (first|exact Qr _ _|assumption|refine Qd ?_|refine Qa ?_ _|refine Qt ?_|refine Qs ?_ _|refine Qo ?_ ?_ _ _))⟩
 subst hnm
 have HG : Hid (FsAt w b 0 n G) := hg
 have HH : Hid (FsAt w d 0 n H) := hh
 have HPG : Hid (Pts0 w n G) := hpg
 have HPH : Hid (Pts0 w n H) := hph
 have HSG : Hid (SmallFs n G) := hsg
 have HSH : Hid (SmallFs n H) := hsh
 have hn := hsg.1
 clear hg hh hpg hph hsg hsh
 go_enter Tryz.func32,Tryz.ntmps32
 go_wp2
 go_loopw [17] (fun v wr => ∃ k : Nat,k ≤ n ∧ v = .int .i64 k ∧ (∀ j,j < k → sameF (G j) (H j) = true) ∧ Below w.heap.size w wr) (fun v _ => n - (intOf v).toNat)
 case atStart => exact ⟨0,by omega,rfl,by omega,Below.refl _ _⟩
 case round =>
  obtain ⟨k,hk,rfl,hA,hB⟩ := hrel
  have HA : Hid (∀ j,j < k → sameF (G j) (H j) = true) := hA
  have HB : Hid (Below w.heap.size w wr) := hB
  by_cases hlt : k < n
  ·obtain ⟨⟨f0,f1,f2,f3,f4,f5,f6⟩,_⟩ := (HG.out.below hB hb) k hlt
   obtain ⟨⟨g0,g1,g2,g3,g4,g5,g6⟩,_⟩ := (HH.out.below hB hd) k hlt
   obtain ⟨q,eq,hql,hqp⟩ := (HPG.out.below hB) k hlt
   obtain ⟨r,er,hrl,hrp⟩ := (HPH.out.below hB) k hlt
   rw [eq] at f4
   rw [er] at g4
   simp only [Nat.zero_add] at f0 f1 f2 f3 f4 f5 f6 g0 g1 g2 g3 g4 g5 g6
   have KQ : Hid (PtsAt wr q 0 (G k).n (G k).X (G k).Y) := hqp
   have KR : Hid (PtsAt wr r 0 (H k).n (H k).X (H k).Y) := hrp
   have z1 := (HSG.out.2 k hlt).1
   have z2 := (HSH.out.2 k hlt).1
   have hdr : d < wr.heap.size := Nat.lt_of_lt_of_le hd hB.size
   have HLT : Hid (k < n) := hlt
   clear hB hA eq er hqp hrp
   have hi : (k : Int) < (n : Int) := by omega
   have hi0 : (0 : Int) ≤ (k : Int) := by omega
   go_wp2_with fail
   generalize hV : ((wr.alloc _).alloc _ : World) = V
   have hBV : Below wr.heap.size wr V := by subst hV; (repeat (first|exact Qr _ _|assumption|refine Qd ?_|refine Qa ?_ _|refine Qt ?_|refine Qs ?_ _|refine Qo ?_ ?_ _ _))
   clear hV f0 f1 f2 f3 f4 f5 f6 g0 g1 g2 g3 g4 g5 g6
   refine (isSameFeature_any _ _ _ _ _ _ _ _ q r _ _ _ _ (G k).X (G k).Y (H k).X (H k).Y _ _ _ _ V (KQ.out.below hBV hql) (KR.out.below hBV hrl) (Nat.lt_of_lt_of_le hql hBV.size) (Nat.lt_of_lt_of_le hrl hBV.size) z1 z2).mono ?_
   rintro e w' ⟨rfl,hb'⟩
   have HB' : Hid (Below w.heap.size w w') := bl_then HB.out (bl_then hBV hb')
   clear hBV hb'
   cases hs : sameF (G k) (H k)
   ·have hs' : (ptsEq (G k).n (G k).X (G k).Y (H k).n (H k).X (H k).Y && sameB (G k).id (G k).la (G k).ki (G k).wi (G k).lab (G k).pr (H k).id (H k).la (H k).ki (H k).wi (H k).lab (H k).pr) = false := hs
    rw [hs']
    have hz : Hid (sameL n G n H = false) := sameL_bad k HLT.out hs
    clear hs hs'
    go_wp2
    go_ret
    exact ⟨ret_bool hz.out.symm,HB'.out⟩
   ·have hs' : (ptsEq (G k).n (G k).X (G k).Y (H k).n (H k).X (H k).Y && sameB (G k).id (G k).la (G k).ki (G k).wi (G k).lab (G k).pr (H k).id (H k).la (H k).ki (H k).wi (H k).lab (H k).pr) = true := hs
    rw [hs']
    have HE : Hid (sameF (G k) (H k) = true) := hs
    clear hs hs'
    go_wp2
    go_roundw
    case rel => exact ⟨k + 1,by have := HLT.out; omega,by go_num,fun j hj => by
      by_cases e : j = k
      ·rw [e]; exact HE.out
      ·exact HA.out j (by omega),HB'.out⟩
    case measure => have := HLT.out; simp [intOf]; omega
  ·have hz : Hid (sameL n G n H = true) := sameL_ok (fun i hi => HA.out i (by omega))
   go_wp2
   go_ret
   exact ⟨ret_bool hz.out.symm,HB.out⟩
theorem impl_SameFeatures_any (b d n m c c' : Nat) (G H : Nat → Feat) (w : World) (hg : FsAt w b 0 n G) (hh : FsAt w d 0 m H) (hb : b < w.heap.size) (hd : d < w.heap.size) (hpg : Pts0 w n G) (hph : Pts0 w m H) (hsg : SmallFs n G) (hsh : SmallFs m H) :
  Calls Tryz.prog 12 #[.slice (some ⟨b,0,none⟩) n c, .slice (some ⟨d,0,none⟩) m c'] w fun e w' => e = .returned (.bool (sameL n G m H)) ∧ Below w.heap.size w w' := by
 have HX : Hid (Calls Tryz.prog 32 #[.slice (some ⟨b,0,none⟩) n c, .slice (some ⟨d,0,none⟩) m c', .func (.func 33) #[] #[]] w fun e w' => e = .returned (.bool (sameL n G m H)) ∧ Below w.heap.size w w') := equalFunc_any b d n m c c' G H w hg hh hb hd hpg hph hsg hsh
 clear hg hh hpg hph hsg hsh
 go_enter Tryz.func12,Tryz.ntmps12
 go_wp2_with fail
 refine HX.out.mono ?_
 rintro e w' ⟨rfl,hb'⟩
 go_wp2
 go_ret
 exact ⟨rfl,hb'⟩
theorem l1Pick_new2 (a : Option Addr) (n cap : Nat) (Z : Nat → Int) (s t : Nat) (x0 x1 : Int) (w : World) (T : TypeId) (h : Src a n cap Z s t w) (hcap : n ≤ cap) (ht : t ≤ 900) :
  Calls Tryz.prog 40 #[.pointer (some ⟨s,0,none⟩), .slice (some ⟨w.heap.size,0,none⟩) 2 2] (w.alloc (.cells #[.int .i64 x0, .int .i64 x1] T)) fun e w' => ∃ x : Int,e = .returned (.int .i64 x) ∧ Src a n cap Z s (t + 1) w' ∧ Keeps s w w' := by
 have hsl : s < w.heap.size := World.block_lt_of_cell? _ _ h.code
 have hb : Below w.heap.size w (w.alloc (.cells #[.int .i64 x0, .int .i64 x1] T)) := by (repeat (first|exact Qr _ _|assumption|refine Qd ?_|refine Qa ?_ _|refine Qt ?_|refine Qs ?_ _|refine Qo ?_ ?_ _ _))
 refine (l1Pick_any a n cap Z s t w.heap.size 2 (fun i => if i = 0 then x0 else x1) _ (h.below hb) hcap ht (by omega) (by omega) (by omega) (fun i hi => ?_)).mono ?_
 ·have hc : i = 0 ∨ i = 1 := by omega
  rcases hc with rfl | rfl <;> simp [go_sem]
 ·rintro e w' ⟨x,rfl,hS,hK⟩
  exact ⟨x,rfl,hS,(Keeps.of_below hb).trans hK⟩
theorem l1Pick_new3 (a : Option Addr) (n cap : Nat) (Z : Nat → Int) (s t : Nat) (x0 x1 x2 : Int) (w : World) (T : TypeId) (h : Src a n cap Z s t w) (hcap : n ≤ cap) (ht : t ≤ 900) :
  Calls Tryz.prog 40 #[.pointer (some ⟨s,0,none⟩), .slice (some ⟨w.heap.size,0,none⟩) 3 3] (w.alloc (.cells #[.int .i64 x0, .int .i64 x1, .int .i64 x2] T)) fun e w' => ∃ x : Int,e = .returned (.int .i64 x) ∧ Src a n cap Z s (t + 1) w' ∧ Keeps s w w' := by
 have hsl : s < w.heap.size := World.block_lt_of_cell? _ _ h.code
 have hb : Below w.heap.size w (w.alloc (.cells #[.int .i64 x0, .int .i64 x1, .int .i64 x2] T)) := by (repeat (first|exact Qr _ _|assumption|refine Qd ?_|refine Qa ?_ _|refine Qt ?_|refine Qs ?_ _|refine Qo ?_ ?_ _ _))
 refine (l1Pick_any a n cap Z s t w.heap.size 3 (fun i => if i = 0 then x0 else if i = 1 then x1 else x2) _ (h.below hb) hcap ht (by omega) (by omega) (by omega) (fun i hi => ?_)).mono ?_
 ·have hc : i = 0 ∨ i = 1 ∨ i = 2 := by omega
  rcases hc with rfl | rfl | rfl <;> simp [go_sem]
 ·rintro e w' ⟨x,rfl,hS,hK⟩
  exact ⟨x,rfl,hS,(Keeps.of_below hb).trans hK⟩
theorem l1Pick_new5 (a : Option Addr) (n cap : Nat) (Z : Nat → Int) (s t : Nat) (x0 x1 x2 x3 x4 : Int) (w : World) (T : TypeId) (h : Src a n cap Z s t w) (hcap : n ≤ cap) (ht : t ≤ 900) :
  Calls Tryz.prog 40 #[.pointer (some ⟨s,0,none⟩), .slice (some ⟨w.heap.size,0,none⟩) 5 5] (w.alloc (.cells #[.int .i64 x0, .int .i64 x1, .int .i64 x2, .int .i64 x3, .int .i64 x4] T)) fun e w' => ∃ x : Int,e = .returned (.int .i64 x) ∧ Src a n cap Z s (t + 1) w' ∧ Keeps s w w' := by
 have hsl : s < w.heap.size := World.block_lt_of_cell? _ _ h.code
 have hb : Below w.heap.size w (w.alloc (.cells #[.int .i64 x0, .int .i64 x1, .int .i64 x2, .int .i64 x3, .int .i64 x4] T)) := by (repeat (first|exact Qr _ _|assumption|refine Qd ?_|refine Qa ?_ _|refine Qt ?_|refine Qs ?_ _|refine Qo ?_ ?_ _ _))
 refine (l1Pick_any a n cap Z s t w.heap.size 5 (fun i => if i = 0 then x0 else if i = 1 then x1 else if i = 2 then x2 else if i = 3 then x3 else x4) _ (h.below hb) hcap ht (by omega) (by omega) (by omega) (fun i hi => ?_)).mono ?_
 ·have hc : i = 0 ∨ i = 1 ∨ i = 2 ∨ i = 3 ∨ i = 4 := by omega
  rcases hc with rfl | rfl | rfl | rfl | rfl <;> simp [go_sem]
 ·rintro e w' ⟨x,rfl,hS,hK⟩
  exact ⟨x,rfl,hS,(Keeps.of_below hb).trans hK⟩
theorem resBent (T : Array Value) (Wf : World) (r : Nat) (v0 v1 v2 v3 v4 v5 v6 : Value) (hT : T[2]?.getD undef = .pointer (some ⟨r,0,none⟩)) (h0 : Wf.cell? ⟨r,0,none⟩ = some v0) (h1 : Wf.cell? ⟨r,1,none⟩ = some v1) (h2 : Wf.cell? ⟨r,2,none⟩ = some v2) (h3 : Wf.cell? ⟨r,3,none⟩ = some v3) (h4 : Wf.cell? ⟨r,4,none⟩ = some v4) (h5 : Wf.cell? ⟨r,5,none⟩ = some v5) (h6 : Wf.cell? ⟨r,6,none⟩ = some v6) :
  (results Tryz.f38 T).run Tryz.prog Wf = .ok (.agg #[v0,v1,v2,v3,v4,v5,v6]) Wf := by
 simp [results,Tryz.results38,go_sem,hT,h0,h1,h2,h3,h4,h5,h6]
theorem PtsAt.set7 {w : World} {b off n r : Nat} {X Y : Nat → Int} {v0 v1 v2 v3 v4 v5 v6 : Value} (h : PtsAt w b off n X Y) (hr : r ≠ b) : PtsAt ((((((((w.setCell ⟨r,0,none⟩ v0).setCell ⟨r,1,none⟩ v1).setCell ⟨r,2,none⟩ v2).setCell ⟨r,3,none⟩ v3).setCell ⟨r,4,none⟩ v4).setCell ⟨r,5,none⟩ v5).setCell ⟨r,6,none⟩ v6)) b off n X Y :=
 ((((((h.set hr).set hr).set hr).set hr).set hr).set hr).set hr
theorem ptsAt_none {X Y : Nat → Int} (w : World) (b off : Nat) : PtsAt w b off 0 X Y := fun i hi => absurd hi (Nat.not_lt_zero i)
theorem PtsAt.tail {w : World} {b n : Nat} {X Y : Nat → Int} (h : PtsAt w b 0 n X Y) : PtsAt w b 2 (n - 1) (fun i => X (i + 1)) (fun i => Y (i + 1)) := fun i hi => by
 obtain ⟨e1,e2⟩ := h (i + 1) (by omega)
 rw [show 0 + (i + 1) * 2 = 2 + i * 2 by omega] at e1 e2
 exact ⟨e1,e2⟩
theorem There.oth {w : World} {O r n : Nat} (h : There w r n) (hne : O ≠ r) (o : Nat) (x : Value) : There (w.setCell ⟨O,o,none⟩ x) r n := fun o' ho => by
 obtain ⟨u,hu⟩ := (h o' ho).1
 refine ⟨⟨u,?_⟩,by rw [World.frozen?_setCell]; exact (h o' ho).2⟩
 rw [set1_other (fun e => hne (by injection e))]
 exact hu
theorem OutAt.frozen {w : World} {O : Nat} {id la ki wi pr : Int} {v : Value} {lab : ByteArray} (h : OutAt w O id la ki wi v lab pr) (o : Nat) : w.frozen? ⟨O,o,none⟩ = false := by
 simp [World.frozen?,show w.heap[O]? = _ from h]
theorem OutAt.oth {w : World} {O q : Nat} {id la ki wi pr : Int} {v : Value} {lab : ByteArray} (h : OutAt w O id la ki wi v lab pr) (hne : q ≠ O) (o : Nat) (x : Value) : OutAt (w.setCell ⟨q,o,none⟩ x) O id la ki wi v lab pr := by
 unfold OutAt
 rw [Below.heap_setCell _ _ _ _ (fun e => hne (by simpa using e.symm))]
 exact h
theorem PtsAt.put0 {w : World} {b n : Nat} {X Y : Nat → Int} (h : PtsAt w b 0 n X Y) (x : Int) (hn : 0 < n) : PtsAt (w.setCell ⟨b,0,none⟩ (.int .i64 x)) b 0 n (fun i => if i = 0 then x else X i) Y := fun i hi => by
 obtain ⟨e1,e2⟩ := h i hi
 refine ⟨?_,?_⟩
 ·by_cases h0 : i = 0
  ·subst h0
   simp only [Nat.zero_mul,Nat.add_zero,if_true]
   exact set1_same (by simpa using e1)
  ·simp only [h0,if_false]
   rw [set1_other (fun e => by injection e with _ e; omega)]
   exact e1
 ·rw [set1_other (fun e => by injection e with _ e; omega)]
  exact e2
theorem text3 (w : World) (s0 s1 s2 : ByteArray) (T : TypeId) (v : Nat) (hv : v < 3) (B : Nat) (h0 : s0.size ≤ B) (h1 : s1.size ≤ B) (h2 : s2.size ≤ B) :
  ∃ lab : ByteArray,lab.size ≤ B ∧ (w.alloc (.cells #[.string s0, .string s1, .string s2] T)).cell? ⟨w.heap.size,v,none⟩ = some (.string lab) := by
 have hc : v = 0 ∨ v = 1 ∨ v = 2 := by omega
 rcases hc with rfl | rfl | rfl
 ·exact ⟨s0,h0,by simp [go_sem]⟩
 ·exact ⟨s1,h1,by simp [go_sem]⟩
 ·exact ⟨s2,h2,by simp [go_sem]⟩
theorem l2Bent_any (a : Option Addr) (n cap : Nat) (Z : Nat → Int) (s t : Nat) (w : World) (h : Src a n cap Z s t w) (hcap : n ≤ cap) (ht : t ≤ 400) :
  Calls Tryz.prog 38 #[.pointer (some ⟨s,0,none⟩)] w fun e w' => ∃ (id la ki wi : Int) (b off m c : Nat) (X Y : Nat → Int) (lab : ByteArray) (pr : Int) (t' : Nat),e = .returned (.agg #[.int .i64 id, .int .i64 la, .int .i64 ki, .int .i64 wi, .slice (some ⟨b,off,none⟩) m c, .string lab, .int .i64 pr]) ∧ m ≤ 6 ∧ m ≤ c ∧ w.heap.size < b ∧ b < w'.heap.size ∧ PtsAt w' b off m X Y ∧ lab.size ≤ 7 ∧ t' ≤ t + 52 ∧ Src a n cap Z s t' w' ∧ Keeps s w w' := by
 have hsl : s < w.heap.size := World.block_lt_of_cell? _ _ h.code
 go_enter Tryz.func38,Tryz.ntmps38
 go_wp2_with fail
 generalize hW : (w.alloc _ : World) = W
 have hB0 : Below w.heap.size w W := by subst hW; (repeat (first|exact Qr _ _|assumption|refine Qd ?_|refine Qa ?_ _|refine Qt ?_|refine Qs ?_ _|refine Qo ?_ ?_ _ _))
 have HT0 : Hid (There W w.heap.size 7) := by
  show There _ _ _
  subst hW
  exact there7 w (.int .i64 0) (.int .i64 0) (.int .i64 0) (.int .i64 0) (.slice none 0 0) (.string ⟨#[]⟩) (.int .i64 0) 39
 have hsW : w.heap.size < W.heap.size := by subst hW; simp
 clear hW
 refine (l2Draw_any a n cap Z s t W (h.below hB0) hcap (by omega)).mono ?_
 rintro e w1 ⟨id,la,ki,wi,v,lab,pr,l,tn,rfl,hR1,hl0,hl6,hlab,ht1,hS1,hK1⟩
 obtain ⟨g,cg,hv,hgW,hgl,hcg,hPg⟩ := hR1.at hl0
 subst hv
 have HT1 : Hid (There w1 w.heap.size 7) := HT0.out.keeps hK1 (by omega)
 have HK1 : Hid (Keeps s w w1) := (Keeps.of_below hB0).trans hK1
 have HS1 : Hid (Src a n cap Z s tn w1) := hS1
 have HP1 : Hid (PtsAt w1 g 0 l.length (px l) (py l)) := hPg
 have hs1 := hK1.size
 have HR1 : Hid (Row W.heap.size w1 (.slice (some ⟨g,0,none⟩) l.length cg) l) := hR1
 clear hR1 hS1 hK1 hPg h HT0 hB0
 have HPt : Hid (∀ w',Row W.heap.size w' (.slice (some ⟨g,0,none⟩) l.length cg) l → PtsAt w' g 0 l.length (px l) (py l)) := fun w' h => by
  obtain ⟨g',cg',hv,_,_,_,hP⟩ := h.at hl0
  injection hv with e1
  injection e1 with e1
  injection e1 with e1
  subst e1
  exact hP
 have HFz : Hid (∀ w',Row W.heap.size w' (.slice (some ⟨g,0,none⟩) l.length cg) l → w'.frozen? ⟨g,0,none⟩ = false) := fun w' h => World.ownsRow.frozenAt h 0
 generalize hN : l.length = N at *
 go_wp2_with fail
 generalize hV : (w1.alloc _ : World) = V
 have hbV : Below w1.heap.size w1 V := by subst hV; (repeat (first|exact Qr _ _|assumption|refine Qd ?_|refine Qa ?_ _|refine Qt ?_|refine Qs ?_ _|refine Qo ?_ ?_ _ _))
 have HOV : Hid (OutAt V w1.heap.size id la ki wi (.slice (some ⟨g,0,none⟩) N cg) lab pr) := by
  show OutAt _ _ _ _ _ _ _ _ _
  subst hV
  exact heap_alloc_new w1 _
 have hsV : w1.heap.size < V.heap.size := by subst hV; simp
 clear hV
 refine (l1Next_any a n cap Z s tn 14 _ (HS1.out.below hbV) hcap (by omega) (by omega) (by omega)).mono ?_
 rintro e w2 ⟨v7,rfl,hv7,hS2,hK2⟩
 have HO2 : Hid (OutAt w2 w1.heap.size id la ki wi (.slice (some ⟨g,0,none⟩) N cg) lab pr) := HOV.out.keeps hK2 (by omega)
 have HT2 : Hid (There w2 w.heap.size 7) := (HT1.out.below hbV).keeps hK2 (by omega)
 have HS2 : Hid (Src a n cap Z s (tn + 1) w2) := hS2
 have hK12 : Keeps s w1 w2 := (Keeps.of_below hbV).trans hK2
 have HK2 : Hid (Keeps s w w2) := HK1.out.trans hK12
 have HR2 : Hid (Row W.heap.size w2 (.slice (some ⟨g,0,none⟩) N cg) l) := by
  have := ownsRow_keeps HR1.out hK12 (show s < W.heap.size by omega)
  exact this
 have hs2 : V.heap.size ≤ w2.heap.size := hK2.size
 clear hS2 hK2 hK12 hbV HOV HT1 HS1 HK1 HR1 HP1
 have hcase : v7 = 0 ∨ v7 = 1 ∨ v7 = 2 ∨ v7 = 3 ∨ v7 = 4 ∨ v7 = 5 ∨ 6 ≤ v7 := by omega
 have hne1 : ¬ w1.heap.size = w.heap.size := by omega
 have hne2 : ¬ w.heap.size = w1.heap.size := by omega
 rcases hcase with rfl | rfl | rfl | rfl | rfl | rfl | h6
 ·go_wp2_with fail
  refine (l1Pick_new3 a n cap Z s (tn + 1) _ _ _ _ _ HS2.out hcap (by omega)).mono ?_
  rintro e w3 ⟨x,rfl,hS3,hK3⟩
  have HS3 : Hid (Src a n cap Z s (tn + 1 + 1) w3) := hS3
  have HK3 : Hid (Keeps s w w3) := HK2.out.trans hK3
  have HO3 : Hid (OutAt w3 w1.heap.size id la ki wi (.slice (some ⟨g,0,none⟩) N cg) lab pr) := HO2.out.keeps hK3 (by omega)
  have HT3 : Hid (There w3 w.heap.size 7) := HT2.out.keeps hK3 (by omega)
  have HR3 : Hid (Row W.heap.size w3 (.slice (some ⟨g,0,none⟩) N cg) l) := by
   have := ownsRow_keeps HR2.out hK3 (show s < W.heap.size by omega)
   exact this
  have hs3 := hK3.size
  have HP3 : Hid (PtsAt w3 g 0 N (px l) (py l)) := HPt.out w3 HR3.out
  have uz := HO3.out.frozen 0
  clear hS3 hK3
  have hT' := HT3.out
  have t0 := hT'.cell 0 (by omega)
  have t1 := hT'.cell 1 (by omega)
  have t2 := hT'.cell 2 (by omega)
  have t3 := hT'.cell 3 (by omega)
  have t4 := hT'.cell 4 (by omega)
  have t5 := hT'.cell 5 (by omega)
  have t6 := hT'.cell 6 (by omega)
  have z0 := (hT' 0 (by omega)).2
  have z1 := (hT' 1 (by omega)).2
  have z2 := (hT' 2 (by omega)).2
  have z3 := (hT' 3 (by omega)).2
  have z4 := (hT' 4 (by omega)).2
  have z5 := (hT' 5 (by omega)).2
  have z6 := (hT' 6 (by omega)).2
  obtain ⟨⟨u0,u1,u2,u3,u4,u5,u6⟩,uf⟩ := HO3.out.cells
  clear hT'
  go_wp2_with fail
  obtain ⟨y0,y1,y2,y3,y4,y5,y6⟩ := set7_at (v0 := .int .i64 x) (v1 := .int .i64 la) (v2 := .int .i64 ki) (v3 := .int .i64 wi) (v4 := .slice (some ⟨g,0,none⟩) N cg) (v5 := .string lab) (v6 := .int .i64 pr) (There.oth HT3.out (show w1.heap.size ≠ w.heap.size by omega) 0 (.int .i64 x))
  refine bodyPost_ret (resBent _ _ w.heap.size _ _ _ _ _ _ _ rfl y0 y1 y2 y3 y4 y5 y6) rfl ⟨_,_,_,_,g,0,N,cg,px l,py l,lab,_,tn + 1 + 1,rfl,by omega,by omega,by omega,(by simp [World.setCell]; omega),(HP3.out.set (r := w1.heap.size) (o := 0) (v := .int .i64 x) (by omega)).set7 (by omega),by omega,by omega,(HS3.out.other 0 (.int .i64 x) (by omega)).set7 (by omega),(HK3.out.own1 (by omega) 0 (.int .i64 x)).set7 (Nat.le_refl _)⟩
 ·go_wp2_with fail
  refine (l1Pick_new5 a n cap Z s (tn + 1) _ _ _ _ _ _ _ HS2.out hcap (by omega)).mono ?_
  rintro e w3 ⟨x,rfl,hS3,hK3⟩
  have HS3 : Hid (Src a n cap Z s (tn + 1 + 1) w3) := hS3
  have HK3 : Hid (Keeps s w w3) := HK2.out.trans hK3
  have HO3 : Hid (OutAt w3 w1.heap.size id la ki wi (.slice (some ⟨g,0,none⟩) N cg) lab pr) := HO2.out.keeps hK3 (by omega)
  have HT3 : Hid (There w3 w.heap.size 7) := HT2.out.keeps hK3 (by omega)
  have HR3 : Hid (Row W.heap.size w3 (.slice (some ⟨g,0,none⟩) N cg) l) := by
   have := ownsRow_keeps HR2.out hK3 (show s < W.heap.size by omega)
   exact this
  have hs3 := hK3.size
  have HP3 : Hid (PtsAt w3 g 0 N (px l) (py l)) := HPt.out w3 HR3.out
  have uz := HO3.out.frozen 2
  clear hS3 hK3
  have hT' := HT3.out
  have t0 := hT'.cell 0 (by omega)
  have t1 := hT'.cell 1 (by omega)
  have t2 := hT'.cell 2 (by omega)
  have t3 := hT'.cell 3 (by omega)
  have t4 := hT'.cell 4 (by omega)
  have t5 := hT'.cell 5 (by omega)
  have t6 := hT'.cell 6 (by omega)
  have z0 := (hT' 0 (by omega)).2
  have z1 := (hT' 1 (by omega)).2
  have z2 := (hT' 2 (by omega)).2
  have z3 := (hT' 3 (by omega)).2
  have z4 := (hT' 4 (by omega)).2
  have z5 := (hT' 5 (by omega)).2
  have z6 := (hT' 6 (by omega)).2
  obtain ⟨⟨u0,u1,u2,u3,u4,u5,u6⟩,uf⟩ := HO3.out.cells
  clear hT'
  go_wp2_with fail
  obtain ⟨y0,y1,y2,y3,y4,y5,y6⟩ := set7_at (v0 := .int .i64 id) (v1 := .int .i64 la) (v2 := .int .i64 x) (v3 := .int .i64 wi) (v4 := .slice (some ⟨g,0,none⟩) N cg) (v5 := .string lab) (v6 := .int .i64 pr) (There.oth HT3.out (show w1.heap.size ≠ w.heap.size by omega) 2 (.int .i64 x))
  refine bodyPost_ret (resBent _ _ w.heap.size _ _ _ _ _ _ _ rfl y0 y1 y2 y3 y4 y5 y6) rfl ⟨_,_,_,_,g,0,N,cg,px l,py l,lab,_,tn + 1 + 1,rfl,by omega,by omega,by omega,(by simp [World.setCell]; omega),(HP3.out.set (r := w1.heap.size) (o := 2) (v := .int .i64 x) (by omega)).set7 (by omega),by omega,by omega,(HS3.out.other 2 (.int .i64 x) (by omega)).set7 (by omega),(HK3.out.own1 (by omega) 2 (.int .i64 x)).set7 (Nat.le_refl _)⟩
 ·go_wp2_with fail
  refine (l1Pick_new2 a n cap Z s (tn + 1) _ _ _ _ HS2.out hcap (by omega)).mono ?_
  rintro e w3 ⟨x,rfl,hS3,hK3⟩
  have HS3 : Hid (Src a n cap Z s (tn + 1 + 1) w3) := hS3
  have HK3 : Hid (Keeps s w w3) := HK2.out.trans hK3
  have HO3 : Hid (OutAt w3 w1.heap.size id la ki wi (.slice (some ⟨g,0,none⟩) N cg) lab pr) := HO2.out.keeps hK3 (by omega)
  have HT3 : Hid (There w3 w.heap.size 7) := HT2.out.keeps hK3 (by omega)
  have HR3 : Hid (Row W.heap.size w3 (.slice (some ⟨g,0,none⟩) N cg) l) := by
   have := ownsRow_keeps HR2.out hK3 (show s < W.heap.size by omega)
   exact this
  have hs3 := hK3.size
  have HP3 : Hid (PtsAt w3 g 0 N (px l) (py l)) := HPt.out w3 HR3.out
  have uz := HO3.out.frozen 3
  clear hS3 hK3
  have hT' := HT3.out
  have t0 := hT'.cell 0 (by omega)
  have t1 := hT'.cell 1 (by omega)
  have t2 := hT'.cell 2 (by omega)
  have t3 := hT'.cell 3 (by omega)
  have t4 := hT'.cell 4 (by omega)
  have t5 := hT'.cell 5 (by omega)
  have t6 := hT'.cell 6 (by omega)
  have z0 := (hT' 0 (by omega)).2
  have z1 := (hT' 1 (by omega)).2
  have z2 := (hT' 2 (by omega)).2
  have z3 := (hT' 3 (by omega)).2
  have z4 := (hT' 4 (by omega)).2
  have z5 := (hT' 5 (by omega)).2
  have z6 := (hT' 6 (by omega)).2
  obtain ⟨⟨u0,u1,u2,u3,u4,u5,u6⟩,uf⟩ := HO3.out.cells
  clear hT'
  go_wp2_with fail
  obtain ⟨y0,y1,y2,y3,y4,y5,y6⟩ := set7_at (v0 := .int .i64 id) (v1 := .int .i64 la) (v2 := .int .i64 ki) (v3 := .int .i64 x) (v4 := .slice (some ⟨g,0,none⟩) N cg) (v5 := .string lab) (v6 := .int .i64 pr) (There.oth HT3.out (show w1.heap.size ≠ w.heap.size by omega) 3 (.int .i64 x))
  refine bodyPost_ret (resBent _ _ w.heap.size _ _ _ _ _ _ _ rfl y0 y1 y2 y3 y4 y5 y6) rfl ⟨_,_,_,_,g,0,N,cg,px l,py l,lab,_,tn + 1 + 1,rfl,by omega,by omega,by omega,(by simp [World.setCell]; omega),(HP3.out.set (r := w1.heap.size) (o := 3) (v := .int .i64 x) (by omega)).set7 (by omega),by omega,by omega,(HS3.out.other 3 (.int .i64 x) (by omega)).set7 (by omega),(HK3.out.own1 (by omega) 3 (.int .i64 x)).set7 (Nat.le_refl _)⟩
 ·have hcg1 : (1 : Int) ≤ (cg : Int) := by omega
  have hN1 : (1 : Int) ≤ (N : Int) := by omega
  have HP2 : Hid (PtsAt w2 g 0 N (px l) (py l)) := HPt.out w2 HR2.out
  have uz := HO2.out.frozen 4
  by_cases hc1 : cg = 1
  ·have hN0 : N = 1 := by omega
   subst hc1 hN0
   have hT' := HT2.out
   have t0 := hT'.cell 0 (by omega)
   have t1 := hT'.cell 1 (by omega)
   have t2 := hT'.cell 2 (by omega)
   have t3 := hT'.cell 3 (by omega)
   have t4 := hT'.cell 4 (by omega)
   have t5 := hT'.cell 5 (by omega)
   have t6 := hT'.cell 6 (by omega)
   have z0 := (hT' 0 (by omega)).2
   have z1 := (hT' 1 (by omega)).2
   have z2 := (hT' 2 (by omega)).2
   have z3 := (hT' 3 (by omega)).2
   have z4 := (hT' 4 (by omega)).2
   have z5 := (hT' 5 (by omega)).2
   have z6 := (hT' 6 (by omega)).2
   obtain ⟨⟨u0,u1,u2,u3,u4,u5,u6⟩,uf⟩ := HO2.out.cells
   clear hT'
   go_wp2_with fail
   obtain ⟨y0,y1,y2,y3,y4,y5,y6⟩ := set7_at (v0 := .int .i64 id) (v1 := .int .i64 la) (v2 := .int .i64 ki) (v3 := .int .i64 wi) (v4 := .slice (some ⟨g,0,none⟩) 0 0) (v5 := .string lab) (v6 := .int .i64 pr) (There.oth HT2.out (show w1.heap.size ≠ w.heap.size by omega) 4 (.slice (some ⟨g,0,none⟩) 0 0))
   refine bodyPost_ret (resBent _ _ w.heap.size _ _ _ _ _ _ _ rfl y0 y1 y2 y3 y4 y5 y6) rfl ⟨_,_,_,_,g,0,0,0,px l,py l,lab,_,tn + 1,rfl,by omega,by omega,by omega,(by simp [World.setCell]; omega),((ptsAt_none (X := px l) (Y := py l) w2 g 0).set (r := w1.heap.size) (o := 4) (v := .slice (some ⟨g,0,none⟩) 0 0) (by omega)).set7 (by omega),by omega,by omega,(HS2.out.other 4 (.slice (some ⟨g,0,none⟩) 0 0) (by omega)).set7 (by omega),(HK2.out.own1 (by omega) 4 (.slice (some ⟨g,0,none⟩) 0 0)).set7 (Nat.le_refl _)⟩
  ·skip
   have hT' := HT2.out
   have t0 := hT'.cell 0 (by omega)
   have t1 := hT'.cell 1 (by omega)
   have t2 := hT'.cell 2 (by omega)
   have t3 := hT'.cell 3 (by omega)
   have t4 := hT'.cell 4 (by omega)
   have t5 := hT'.cell 5 (by omega)
   have t6 := hT'.cell 6 (by omega)
   have z0 := (hT' 0 (by omega)).2
   have z1 := (hT' 1 (by omega)).2
   have z2 := (hT' 2 (by omega)).2
   have z3 := (hT' 3 (by omega)).2
   have z4 := (hT' 4 (by omega)).2
   have z5 := (hT' 5 (by omega)).2
   have z6 := (hT' 6 (by omega)).2
   obtain ⟨⟨u0,u1,u2,u3,u4,u5,u6⟩,uf⟩ := HO2.out.cells
   clear hT'
   go_wp2_with fail
   obtain ⟨y0,y1,y2,y3,y4,y5,y6⟩ := set7_at (v0 := .int .i64 id) (v1 := .int .i64 la) (v2 := .int .i64 ki) (v3 := .int .i64 wi) (v4 := .slice (some ⟨g,2,none⟩) (N - 1) (cg - 1)) (v5 := .string lab) (v6 := .int .i64 pr) (There.oth HT2.out (show w1.heap.size ≠ w.heap.size by omega) 4 (.slice (some ⟨g,2,none⟩) (N - 1) (cg - 1)))
   refine bodyPost_ret (resBent _ _ w.heap.size _ _ _ _ _ _ _ rfl y0 y1 y2 y3 y4 y5 y6) rfl ⟨_,_,_,_,g,2,N - 1,cg - 1,fun i => px l (i + 1),fun i => py l (i + 1),lab,_,tn + 1,rfl,by omega,by omega,by omega,(by simp [World.setCell]; omega),(HP2.out.tail.set (r := w1.heap.size) (o := 4) (v := .slice (some ⟨g,2,none⟩) (N - 1) (cg - 1)) (by omega)).set7 (by omega),by omega,by omega,(HS2.out.other 4 (.slice (some ⟨g,2,none⟩) (N - 1) (cg - 1)) (by omega)).set7 (by omega),(HK2.out.own1 (by omega) 4 (.slice (some ⟨g,2,none⟩) (N - 1) (cg - 1))).set7 (Nat.le_refl _)⟩
 ·have hN1 : (0 : Int) < (N : Int) := by omega
  have HP2 : Hid (PtsAt w2 g 0 N (px l) (py l)) := HPt.out w2 HR2.out
  go_wp2_with fail
  refine wp_region_noPanic ?_
  refine wp_region_L (S := fun W' => W'.cell? ⟨w1.heap.size,4,none⟩ = some (.slice (some ⟨g,0,none⟩) N cg)) (z := 7) (by kernel_rfl) ?_
  have hSd : w2.drew.cell? ⟨w1.heap.size,4,none⟩ = some (.slice (some ⟨g,0,none⟩) N cg) := HO2.out.cells.1.2.2.2.2.1
  refine wpAnyL_take (i := 0) (v := ?q0) rfl (by kernel_rfl) (by kernel_rfl) (by kernel_rfl) (by kernel_rfl) (fun _ _ _ h => h) (Or.inl ⟨by rfl,?hq0⟩) hSd ?_
  case hq0 => (intro w hSw; (try dsimp only at hSw); go_simp <;> with_reducible rfl)
  try simp only [Act.put,Qx,Qy,Qz]
  refine wpAnyL_take (i := 1) (v := ?q1) rfl (by kernel_rfl) (by kernel_rfl) (by kernel_rfl) (by kernel_rfl) (fun _ _ _ h => h) (Or.inl ⟨by rfl,?hq1⟩) hSd ?_
  case hq1 => (intro w hSw; (try dsimp only at hSw); go_simp <;> with_reducible rfl)
  try simp only [Act.put,Qx,Qy,Qz]
  refine wpAnyL_take (i := 2) (v := ?q2) rfl (by kernel_rfl) (by kernel_rfl) (by kernel_rfl) (by kernel_rfl) (fun _ _ _ h => h) (Or.inl ⟨by rfl,?hq2⟩) hSd ?_
  case hq2 => (intro w hSw; (try dsimp only at hSw); go_simp <;> with_reducible rfl)
  try simp only [Act.put,Qx,Qy,Qz]
  refine wpAnyL_one (i := 3) (by kernel_rfl) rfl (fun K hK => ?_)
  go_simp
  generalize hA : (World.drew (World.alloc w2 (.cells #[.int .i64 (-1), .int .i64 1025] 2)) : World) = A
  have hbA : Below w2.heap.size w2 A := by subst hA; (repeat (first|exact Qr _ _|assumption|refine Qd ?_|refine Qa ?_ _|refine Qt ?_|refine Qs ?_ _|refine Qo ?_ ?_ _ _))
  have hSA : A.cell? ⟨w1.heap.size,4,none⟩ = some (.slice (some ⟨g,0,none⟩) N cg) := bl_cell hbA HO2.out.cells.1.2.2.2.2.1
  refine hK.out _ _ (fun _ => hSA) ?_
  clear hK K
  try simp only [Act.put,Qx,Qy,Qz]
  refine wpAnyL_one (i := 4) (by kernel_rfl) rfl (fun K hK => ?_)
  go_simp
  have Hpk : Calls Tryz.prog 40 #[.pointer (some ⟨s,0,none⟩), .slice (some ⟨w2.heap.size,0,none⟩) 2 2] A fun e w' => ∃ x : Int,e = .returned (.int .i64 x) ∧ Src a n cap Z s (tn + 1 + 1) w' ∧ Keeps s A w' := by
   subst hA
   have hsl2 : s < w2.heap.size := by omega
   refine (l1Pick_any a n cap Z s (tn + 1) w2.heap.size 2 (fun i => if i = 0 then -1 else 1025) _ (HS2.out.below hbA) hcap (by omega) (by omega) (by omega) (by omega) (fun i hi => ?_)).mono (fun e w' h => h)
   have hc : i = 0 ∨ i = 1 := by omega
   rcases hc with rfl | rfl <;> simp [go_sem]
  refine Calls.mono Hpk ?_
  rintro e w3 ⟨x,rfl,hS3,hK3⟩
  clear Hpk
  have hK23 : Keeps s w2 w3 := (Keeps.of_below hbA).trans hK3
  have HO3 : Hid (OutAt w3 w1.heap.size id la ki wi (.slice (some ⟨g,0,none⟩) N cg) lab pr) := HO2.out.keeps hK23 (by omega)
  have HT3 : Hid (There w3 w.heap.size 7) := HT2.out.keeps hK23 (by omega)
  have HS3 : Hid (Src a n cap Z s (tn + 1 + 1) w3) := hS3
  have HK3 : Hid (Keeps s w w3) := HK2.out.trans hK23
  have HR3 : Hid (Row W.heap.size w3 (.slice (some ⟨g,0,none⟩) N cg) l) := by
   have := ownsRow_keeps HR2.out hK23 (show s < W.heap.size by omega)
   exact this
  have HP3 : Hid (PtsAt w3 g 0 N (px l) (py l)) := HPt.out w3 HR3.out
  have hs3 := hK23.size
  have hSw3 : w3.cell? ⟨w1.heap.size,4,none⟩ = some (.slice (some ⟨g,0,none⟩) N cg) := HO3.out.cells.1.2.2.2.2.1
  go_wp2_with fail
  refine hK.out _ _ (fun _ => hSw3) ?_
  clear hK K hS3 hK3 hK23
  try simp only [Act.put,Qx,Qy,Qz]
  refine wpAnyL_one (i := 5) (by kernel_rfl) rfl (fun K hK => ?_)
  go_simp
  refine hK.out _ _ (fun _ => hSw3) ?_
  clear hK K
  try simp only [Act.put,Qx,Qy,Qz]
  refine wpAnyL_take (i := 6) (v := ?q6) rfl (by kernel_rfl) (by kernel_rfl) (by kernel_rfl) (by kernel_rfl) (fun _ _ _ h => h) (Or.inl ⟨by rfl,?hq6⟩) hSw3 ?_
  case hq6 => (intro w hSw; (try dsimp only at hSw); go_simp <;> with_reducible rfl)
  try simp only [Act.put,Qx,Qy,Qz]
  refine wpAnyL_one (i := 7) (by kernel_rfl) rfl (fun K hK => ?_)
  have hg0 : w3.cell? ⟨g,0,none⟩ = some (.int .i64 (px l 0)) := by have := (HP3.out 0 (by omega)).1; simpa using this
  have hgz : w3.frozen? ⟨g,0,none⟩ = false := HFz.out w3 HR3.out
  go_simp
  refine hK.out _ _ (fun h => absurd rfl h) ?_
  clear hK K
  try simp only [Act.put,Qx,Qy,Qz]
  refine wpAnyL_done (by kernel_rfl) ?_ _
  refine NoPanic.normal ?_
  have HO4 : Hid (OutAt (w3.setCell ⟨g,0,none⟩ (.int .i64 x)) w1.heap.size id la ki wi (.slice (some ⟨g,0,none⟩) N cg) lab pr) := HO3.out.oth (by omega) _ _
  have HT4 : Hid (There (w3.setCell ⟨g,0,none⟩ (.int .i64 x)) w.heap.size 7) := There.oth HT3.out (by omega) _ _
  have HS4 : Hid (Src a n cap Z s (tn + 1 + 1) (w3.setCell ⟨g,0,none⟩ (.int .i64 x))) := HS3.out.other _ _ (by omega)
  have HK4 : Hid (Keeps s w (w3.setCell ⟨g,0,none⟩ (.int .i64 x))) := HK3.out.own1 (by omega) _ _
  have HP4 : Hid (PtsAt (w3.setCell ⟨g,0,none⟩ (.int .i64 x)) g 0 N (fun i => if i = 0 then x else px l i) (py l)) := HP3.out.put0 x (by omega)
  have hs4 : (w3.setCell ⟨g,0,none⟩ (.int .i64 x)).heap.size = w3.heap.size := by simp [World.setCell]
  generalize w3.setCell ⟨g,0,none⟩ (.int .i64 x) = w4 at *
  clear hSd hSA hbA hSw3 hg0 hgz hA
  have hT' := HT4.out
  have t0 := hT'.cell 0 (by omega)
  have t1 := hT'.cell 1 (by omega)
  have t2 := hT'.cell 2 (by omega)
  have t3 := hT'.cell 3 (by omega)
  have t4 := hT'.cell 4 (by omega)
  have t5 := hT'.cell 5 (by omega)
  have t6 := hT'.cell 6 (by omega)
  have z0 := (hT' 0 (by omega)).2
  have z1 := (hT' 1 (by omega)).2
  have z2 := (hT' 2 (by omega)).2
  have z3 := (hT' 3 (by omega)).2
  have z4 := (hT' 4 (by omega)).2
  have z5 := (hT' 5 (by omega)).2
  have z6 := (hT' 6 (by omega)).2
  obtain ⟨⟨u0,u1,u2,u3,u4,u5,u6⟩,uf⟩ := HO4.out.cells
  clear hT'
  go_wp2_with fail
  obtain ⟨y0,y1,y2,y3,y4,y5,y6⟩ := set7_at (v0 := .int .i64 id) (v1 := .int .i64 la) (v2 := .int .i64 ki) (v3 := .int .i64 wi) (v4 := .slice (some ⟨g,0,none⟩) N cg) (v5 := .string lab) (v6 := .int .i64 pr) (HT4.out)
  refine bodyPost_ret (resBent _ _ w.heap.size _ _ _ _ _ _ _ rfl y0 y1 y2 y3 y4 y5 y6) rfl ⟨_,_,_,_,g,0,N,cg,fun i => if i = 0 then x else px l i,py l,lab,_,tn + 1 + 1,rfl,by omega,by omega,by omega,(by simp [World.setCell]; omega),(HP4.out).set7 (by omega),by omega,by omega,(HS4.out).set7 (by omega),(HK4.out).set7 (Nat.le_refl _)⟩
 ·go_wp2_with fail
  generalize hA : (w2.alloc _ : World) = A
  have hbA : Below w2.heap.size w2 A := by subst hA; (repeat (first|exact Qr _ _|assumption|refine Qd ?_|refine Qa ?_ _|refine Qt ?_|refine Qs ?_ _|refine Qo ?_ ?_ _ _))
  have hsA : w2.heap.size < A.heap.size := by subst hA; simp
  have HLab : Hid (∀ v,v < 3 → ∃ lab' : ByteArray,lab'.size ≤ 7 ∧ A.cell? ⟨w2.heap.size,v,none⟩ = some (.string lab')) := fun v hv => by
   subst hA
   exact text3 w2 _ _ _ _ v hv 7 (by decide) (by decide) (by decide)
  clear hA
  refine (l1Next_any a n cap Z s (tn + 1) 3 _ (HS2.out.below hbA) hcap (by omega) (by omega) (by omega)).mono ?_
  rintro e w3 ⟨v8,rfl,hv8,hS3,hK3⟩
  obtain ⟨lab',hlab',hcl⟩ := HLab.out v8 hv8
  have hcl3 : w3.cell? ⟨w2.heap.size,v8,none⟩ = some (.string lab') := (hK3.cell (p := ⟨w2.heap.size,v8,none⟩) (show w2.heap.size < A.heap.size from hsA) (by show w2.heap.size ≠ s; omega)).trans hcl
  have hK23 : Keeps s w2 w3 := (Keeps.of_below hbA).trans hK3
  have HO3 : Hid (OutAt w3 w1.heap.size id la ki wi (.slice (some ⟨g,0,none⟩) N cg) lab pr) := HO2.out.keeps hK23 (by omega)
  have HT3 : Hid (There w3 w.heap.size 7) := HT2.out.keeps hK23 (by omega)
  have HS3 : Hid (Src a n cap Z s (tn + 1 + 1) w3) := hS3
  have HK3 : Hid (Keeps s w w3) := HK2.out.trans hK23
  have HR3 : Hid (Row W.heap.size w3 (.slice (some ⟨g,0,none⟩) N cg) l) := by
   have := ownsRow_keeps HR2.out hK23 (show s < W.heap.size by omega)
   exact this
  have HP3 : Hid (PtsAt w3 g 0 N (px l) (py l)) := HPt.out w3 HR3.out
  have hs3 := hK23.size
  have hs3' := hK3.size
  have uz := HO3.out.frozen 5
  have hv8i : (v8 : Int) < 3 := by omega
  have hne3 : ¬ w2.heap.size = w1.heap.size := by omega
  clear hS3 hK3 hK23 hbA HLab hcl
  have hT' := HT3.out
  have t0 := hT'.cell 0 (by omega)
  have t1 := hT'.cell 1 (by omega)
  have t2 := hT'.cell 2 (by omega)
  have t3 := hT'.cell 3 (by omega)
  have t4 := hT'.cell 4 (by omega)
  have t5 := hT'.cell 5 (by omega)
  have t6 := hT'.cell 6 (by omega)
  have z0 := (hT' 0 (by omega)).2
  have z1 := (hT' 1 (by omega)).2
  have z2 := (hT' 2 (by omega)).2
  have z3 := (hT' 3 (by omega)).2
  have z4 := (hT' 4 (by omega)).2
  have z5 := (hT' 5 (by omega)).2
  have z6 := (hT' 6 (by omega)).2
  obtain ⟨⟨u0,u1,u2,u3,u4,u5,u6⟩,uf⟩ := HO3.out.cells
  clear hT'
  go_wp2_with fail
  obtain ⟨y0,y1,y2,y3,y4,y5,y6⟩ := set7_at (v0 := .int .i64 id) (v1 := .int .i64 la) (v2 := .int .i64 ki) (v3 := .int .i64 wi) (v4 := .slice (some ⟨g,0,none⟩) N cg) (v5 := .string lab') (v6 := .int .i64 pr) (There.oth HT3.out (show w1.heap.size ≠ w.heap.size by omega) 5 (.string lab'))
  refine bodyPost_ret (resBent _ _ w.heap.size _ _ _ _ _ _ _ rfl y0 y1 y2 y3 y4 y5 y6) rfl ⟨_,_,_,_,g,0,N,cg,px l,py l,lab',_,tn + 1 + 1,rfl,by omega,by omega,by omega,(by simp [World.setCell]; omega),(HP3.out.set (r := w1.heap.size) (o := 5) (v := .string lab') (by omega)).set7 (by omega),by omega,by omega,(HS3.out.other 5 (.string lab') (by omega)).set7 (by omega),(HK3.out.own1 (by omega) 5 (.string lab')).set7 (Nat.le_refl _)⟩
 ·have g0 : ((v7 : Int) == 0) = false := by simp; omega
  have g1 : ((v7 : Int) == 1) = false := by simp; omega
  have g2 : ((v7 : Int) == 2) = false := by simp; omega
  have g3 : ((v7 : Int) == 3) = false := by simp; omega
  have g4 : ((v7 : Int) == 4) = false := by simp; omega
  have g5 : ((v7 : Int) == 5) = false := by simp; omega
  have HP2 : Hid (PtsAt w2 g 0 N (px l) (py l)) := HPt.out w2 HR2.out
  have hT' := HT2.out
  have t0 := hT'.cell 0 (by omega)
  have t1 := hT'.cell 1 (by omega)
  have t2 := hT'.cell 2 (by omega)
  have t3 := hT'.cell 3 (by omega)
  have t4 := hT'.cell 4 (by omega)
  have t5 := hT'.cell 5 (by omega)
  have t6 := hT'.cell 6 (by omega)
  have z0 := (hT' 0 (by omega)).2
  have z1 := (hT' 1 (by omega)).2
  have z2 := (hT' 2 (by omega)).2
  have z3 := (hT' 3 (by omega)).2
  have z4 := (hT' 4 (by omega)).2
  have z5 := (hT' 5 (by omega)).2
  have z6 := (hT' 6 (by omega)).2
  obtain ⟨⟨u0,u1,u2,u3,u4,u5,u6⟩,uf⟩ := HO2.out.cells
  clear hT'
  go_wp2_with fail
  obtain ⟨y0,y1,y2,y3,y4,y5,y6⟩ := set7_at (v0 := .int .i64 id) (v1 := .int .i64 la) (v2 := .int .i64 ki) (v3 := .int .i64 wi) (v4 := .slice (some ⟨g,0,none⟩) N cg) (v5 := .string lab) (v6 := .int .i64 pr) (HT2.out)
  refine bodyPost_ret (resBent _ _ w.heap.size _ _ _ _ _ _ _ rfl y0 y1 y2 y3 y4 y5 y6) rfl ⟨_,_,_,_,g,0,N,cg,px l,py l,lab,_,tn + 1,rfl,by omega,by omega,by omega,(by simp [World.setCell]; omega),(HP2.out).set7 (by omega),by omega,by omega,(HS2.out).set7 (by omega),(HK2.out).set7 (Nat.le_refl _)⟩
end Go.Proofs.YtfkonhagjahgnaaGreat
