/- Texts. -/
import Derived.Test.YtfkonhagjahgnaaGreatWTiles29
import Derived.Test.YtfkonhagjahgnaaGreatWTiles6
import Derived.Shelf.Pu.Clone
import Derived.Test.YtfkonhagjahgnaaGreatWTiles4
import Derived.Test.YtfkonhagjahgnaaGreatWTiles15
import Derived.Test.YtfkonhagjahgnaaGreatWTiles27
import Derived.Test.YtfkonhagjahgnaaGreatWTiles26
import Derived.Test.YtfkonhagjahgnaaGreatWTiles11
import Derived.Test.YtfkonhagjahgnaaGreatWTiles3
import Derived.Deep.DeepCutAuto
set_option linter.unusedSimpArgs false
set_option linter.unusedVariables false
set_option maxRecDepth 100000
set_option maxHeartbeats 32000000
namespace Go.Proofs.YtfkonhagjahgnaaGreat
open Go.RowKit
set_option maxRecDepth 8000 in
theorem slicesClone_any {off : Nat} (b n cap : Nat) (X Y : Nat → Int) (w : World) (hp : PtsAt w b off n X Y) (hbl : b < w.heap.size) (hn : n ≤ 1048576) :
    Calls Tryz.prog 107 #[.slice (some ⟨b, off, none⟩) n cap] w fun e w' => ∃ a c, e = .returned (.slice a n c) ∧ Below w.heap.size w w' := by
  obtain ⟨i0, hi, hz0, hz1, hz2⟩ := info_parts (show (Tryz.prog.info? 67).map (fun i => (i.zero, i.size, i.bytes)) = some (some (.agg #[.int .i64 0, .int .i64 0]), 2, 16) by kernel_rfl)
  have HP : Hid (PtsAt w b off n X Y) := hp
  have HLEN : Hid ((ptsOf X Y (List.range n)).length = n) := by show _ = _; simp [ptsOf]
  clear hp
  have hnl : ∀ w, Sem.run Tryz.prog (binOp BinOp.eql 37 (.slice (some ⟨b, off, none⟩) n cap) (.slice none 0 0)) w = .ok (.bool false) w := fun _ => by kernel_rfl
  go_enter Tryz.func107, Tryz.ntmps107
  go_wp2_with (first
    | (at_builtin; go_must (refine wpList_append_own _ rfl _ _ 37 rfl w.heap.size 67 i0 (.agg #[.int .i64 0, .int .i64 0]) 2 16 Tryz.underlying37 hi hz0 hz1 hz2 rfl (by decide) (.slice (some ⟨w.heap.size, 0, none⟩) 0 0) 0 [] rfl (World.ownsRow_lit (base := w.heap.size) w #[] 0 (Nat.le_refl _) (Nat.zero_le _) rfl) ⟨b, off, none⟩ n cap (cellsL (ptsOf X Y (List.range n))) rfl ?c0 ?c1 ?c2 ?c3 ?c4 ?c5 ?_)))
  case c0 => rw [cellsL_len, HLEN.out]
  case c1 =>
    intro q u hq
    have h1 := pts_cellsO (HP.out.below (by (repeat (first|exact Qr _ _|assumption|refine Qd ?_|refine Qa ?_ _|refine Qt ?_|refine Qs ?_ _|refine Qo ?_ ?_ _ _)) : Below w.heap.size w (w.alloc (.cells #[] 67))) hbl) q u hq
    by_cases hq0 : q = 0
    · subst hq0; simpa [Addr.add] using h1
    · simpa [Addr.add, hq0] using h1
  case c2 =>
    intro u hu
    unfold cellsL at hu
    rw [List.mem_flatMap] at hu
    obtain ⟨p, _, hp⟩ := hu
    simp at hp
    rcases hp with rfl | rfl <;> rfl
  case c3 => unfold maxLen; omega
  case c4 => omega
  case c5 => first | omega | (simp; done) | (simp; omega)
  intro v' w2 hown' hgrow hnil
  clear hnil
  obtain ⟨a, c, hv⟩ : ∃ a c, v' = .slice a n c := by
    obtain ⟨_, h2 | ⟨g, cp, cur, hv, _⟩⟩ := hown'
    · exact ⟨none, 0, by have e := h2.2; have e2 : n = 0 := by omega
                         subst e2; exact h2.1⟩
    · exact ⟨_, cp, by rw [hv]⟩
  have HB2 : Hid (Below w.heap.size w w2) := ((Below.refl _ _).alloc (Nat.le_refl _) _).trans ((Below.refl _ _).grown hgrow (by simp) (fun k hk => by simp [Value.ownBlock] at hk; omega))
  subst hv
  clear hown' hgrow
  go_wp2
  go_ret
  exact ⟨a, c, rfl, HB2.out⟩
theorem copyFeature_any {off : Nat} (id la ki wi : Int) (b n cap : Nat) (X Y : Nat → Int) (lab : ByteArray) (pr : Int) (w : World) (hp : PtsAt w b off n X Y) (hbl : b < w.heap.size) (hn : n ≤ 1048576) (hl : lab.size ≤ 1048576) :
    Calls Tryz.prog 67 #[.agg #[.int .i64 id, .int .i64 la, .int .i64 ki, .int .i64 wi, .slice (some ⟨b, off, none⟩) n cap, .string lab, .int .i64 pr]] w fun e w' => ∃ a c, e = .returned (.agg #[.int .i64 id, .int .i64 la, .int .i64 ki, .int .i64 wi, .slice a n c, .string lab, .int .i64 pr]) ∧ Below w.heap.size w w' := by
  have HP : Hid (PtsAt w b off n X Y) := hp
  clear hp
  go_enter Tryz.func67, Tryz.ntmps67
  go_wp2_with fail
  generalize hW : ((w.alloc _).alloc _ : World) = W
  have hB0 : Below w.heap.size w W := by subst hW; (repeat (first|exact Qr _ _|assumption|refine Qd ?_|refine Qa ?_ _|refine Qt ?_|refine Qs ?_ _|refine Qo ?_ ?_ _ _))
  have q0 : W.cell? ⟨w.heap.size, 0, none⟩ = some (.int .i64 id) := by subst hW; simp [go_sem]
  have q1 : W.cell? ⟨w.heap.size, 1, none⟩ = some (.int .i64 la) := by subst hW; simp [go_sem]
  have q2 : W.cell? ⟨w.heap.size, 2, none⟩ = some (.int .i64 ki) := by subst hW; simp [go_sem]
  have q3 : W.cell? ⟨w.heap.size, 3, none⟩ = some (.int .i64 wi) := by subst hW; simp [go_sem]
  have q4 : W.cell? ⟨w.heap.size, 4, none⟩ = some (.slice (some ⟨b, off, none⟩) n cap) := by subst hW; simp [go_sem]
  have q5 : W.cell? ⟨w.heap.size, 5, none⟩ = some (.string lab) := by subst hW; simp [go_sem]
  have q6 : W.cell? ⟨w.heap.size, 6, none⟩ = some (.int .i64 pr) := by subst hW; simp [go_sem]
  have fz : ∀ o, W.frozen? ⟨w.heap.size, o, none⟩ = false := fun o => by subst hW; simp [go_sem]
  have hT : There W (w.heap.size + 1) 7 := fun o ho => by
    subst hW
    have hc : o = 0 ∨ o = 1 ∨ o = 2 ∨ o = 3 ∨ o = 4 ∨ o = 5 ∨ o = 6 := by omega
    rcases hc with rfl | rfl | rfl | rfl | rfl | rfl | rfl <;> exact ⟨⟨_, by simp [go_sem]; rfl⟩, by simp [go_sem]⟩
  have hsz : w.heap.size + 1 < W.heap.size := by subst hW; simp
  clear hW
  refine (slicesClone_any b n cap X Y W (HP.out.below hB0 hbl) (Nat.lt_of_lt_of_le hbl hB0.size) hn).mono ?_
  rintro e w1 ⟨a1, c1, rfl, hb1⟩
  have hB1 : Below w.heap.size w w1 := bl_then hB0 hb1
  have p0 := bl_cell hb1 q0
  have p1 := bl_cell hb1 q1
  have p2 := bl_cell hb1 q2
  have p3 := bl_cell hb1 q3
  have p4 := bl_cell hb1 q4
  have p5 := bl_cell hb1 q5
  have p6 := bl_cell hb1 q6
  have f1 : w1.frozen? ⟨w.heap.size, 4, none⟩ = false := (hb1.frozen (p := ⟨w.heap.size, 4, none⟩) (by show w.heap.size < _; omega)).trans (fz 4)
  have f2 : w1.frozen? ⟨w.heap.size, 5, none⟩ = false := (hb1.frozen (p := ⟨w.heap.size, 5, none⟩) (by show w.heap.size < _; omega)).trans (fz 5)
  have hT1 := hT.below hb1
  have hsz1 := hb1.size
  clear q0 q1 q2 q3 q4 q5 q6 fz hT hb1 hB0
  have HT1 : Hid (There w1 (w.heap.size + 1) 7) := hT1
  clear hT1
  go_wp2_with fail
  generalize hW2 : (w1.setCell _ _ : World) = W2
  have g0 : W2.cell? ⟨w.heap.size, 0, none⟩ = some (.int .i64 id) := by subst hW2; rw [set1_other (by simp)]; exact p0
  have g1 : W2.cell? ⟨w.heap.size, 1, none⟩ = some (.int .i64 la) := by subst hW2; rw [set1_other (by simp)]; exact p1
  have g2 : W2.cell? ⟨w.heap.size, 2, none⟩ = some (.int .i64 ki) := by subst hW2; rw [set1_other (by simp)]; exact p2
  have g3 : W2.cell? ⟨w.heap.size, 3, none⟩ = some (.int .i64 wi) := by subst hW2; rw [set1_other (by simp)]; exact p3
  have g4 : W2.cell? ⟨w.heap.size, 4, none⟩ = some (.slice a1 n c1) := by subst hW2; exact set1_same p4
  have g5 : W2.cell? ⟨w.heap.size, 5, none⟩ = some (.string lab) := by subst hW2; rw [set1_other (by simp)]; exact p5
  have g6 : W2.cell? ⟨w.heap.size, 6, none⟩ = some (.int .i64 pr) := by subst hW2; rw [set1_other (by simp)]; exact p6
  have ff : W2.frozen? ⟨w.heap.size, 5, none⟩ = false := by subst hW2; rw [World.frozen?_setCell]; exact f2
  have hT2 : There W2 (w.heap.size + 1) 7 := fun o ho => by
    subst hW2
    obtain ⟨u, hu⟩ := (HT1.out o ho).1
    exact ⟨⟨u, by rw [set1_other (by simp)]; exact hu⟩, by rw [World.frozen?_setCell]; exact (HT1.out o ho).2⟩
  have hB2 : Below w.heap.size w W2 := by subst hW2; exact hB1.setCell (Nat.le_refl _) _
  have hsz2 : w1.heap.size ≤ W2.heap.size := by subst hW2; simp [World.setCell]
  clear hW2 p0 p1 p2 p3 p4 p5 p6 f1 f2 hB1
  refine (stringsClone_any lab W2 hl).mono ?_
  rintro e w3 ⟨rfl, hb3⟩
  have hB3 : Below w.heap.size w w3 := bl_then hB2 hb3
  have p0 := bl_cell hb3 g0
  have p1 := bl_cell hb3 g1
  have p2 := bl_cell hb3 g2
  have p3 := bl_cell hb3 g3
  have p4 := bl_cell hb3 g4
  have p5 := bl_cell hb3 g5
  have p6 := bl_cell hb3 g6
  have f5 : w3.frozen? ⟨w.heap.size, 5, none⟩ = false := (hb3.frozen (p := ⟨w.heap.size, 5, none⟩) (by show w.heap.size < _; omega)).trans ff
  have hT3 := hT2.below hb3
  have hsz3 := hb3.size
  have t0 := hT3.cell 0 (by omega)
  have t1 := hT3.cell 1 (by omega)
  have t2 := hT3.cell 2 (by omega)
  have t3 := hT3.cell 3 (by omega)
  have t4 := hT3.cell 4 (by omega)
  have t5 := hT3.cell 5 (by omega)
  have t6 := hT3.cell 6 (by omega)
  have z0 := (hT3 0 (by omega)).2
  have z1 := (hT3 1 (by omega)).2
  have z2 := (hT3 2 (by omega)).2
  have z3 := (hT3 3 (by omega)).2
  have z4 := (hT3 4 (by omega)).2
  have z5 := (hT3 5 (by omega)).2
  have z6 := (hT3 6 (by omega)).2
  have HT4 : Hid (There (w3.setCell ⟨w.heap.size, 5, none⟩ (.string lab)) (w.heap.size + 1) 7) := fun o ho => by
    obtain ⟨u, hu⟩ := (hT3 o ho).1
    exact ⟨⟨u, by rw [set1_other (by simp)]; exact hu⟩, by rw [World.frozen?_setCell]; exact (hT3 o ho).2⟩
  have HB3 : Hid (Below w.heap.size w w3) := hB3
  clear g0 g1 g2 g3 g4 g5 g6 ff hT2 hT3 hB2 hB3 hb3
  go_wp2_with fail
  obtain ⟨y0, y1, y2, y3, y4, y5, y6⟩ := set7_at (v0 := .int .i64 id) (v1 := .int .i64 la) (v2 := .int .i64 ki) (v3 := .int .i64 wi) (v4 := .slice a1 n c1) (v5 := .string lab) (v6 := .int .i64 pr) HT4.out
  have key : ∀ (T : Array Value) (Wf : World), T[2]?.getD undef = .pointer (some ⟨w.heap.size + 1, 0, none⟩) → Wf.cell? ⟨w.heap.size + 1, 0, none⟩ = some (.int .i64 id) → Wf.cell? ⟨w.heap.size + 1, 1, none⟩ = some (.int .i64 la) → Wf.cell? ⟨w.heap.size + 1, 2, none⟩ = some (.int .i64 ki) → Wf.cell? ⟨w.heap.size + 1, 3, none⟩ = some (.int .i64 wi) → Wf.cell? ⟨w.heap.size + 1, 4, none⟩ = some (.slice a1 n c1) → Wf.cell? ⟨w.heap.size + 1, 5, none⟩ = some (.string lab) → Wf.cell? ⟨w.heap.size + 1, 6, none⟩ = some (.int .i64 pr) →
      (results Tryz.f67 T).run Tryz.prog Wf = .ok (.agg #[.int .i64 id, .int .i64 la, .int .i64 ki, .int .i64 wi, .slice a1 n c1, .string lab, .int .i64 pr]) Wf := fun T Wf hT h0 h1 h2 h3 h4 h5 h6 => by
    simp [results, Tryz.results67, go_sem, hT, h0, h1, h2, h3, h4, h5, h6]
  refine bodyPost_ret (key _ _ rfl y0 y1 y2 y3 y4 y5 y6) rfl ⟨a1, c1, rfl, ?_⟩
  exact ((((((((HB3.out.setCell (Nat.le_refl _) _).setCell (Nat.le_succ _) _).setCell (Nat.le_succ _) _).setCell (Nat.le_succ _) _).setCell (Nat.le_succ _) _).setCell (Nat.le_succ _) _).setCell (Nat.le_succ _) _).setCell (Nat.le_succ _) _)
theorem there2t (V : World) (a b : Value) (t : TypeId) : There (V.alloc (.cells #[a,b] t)) V.heap.size 2 := fun o ho => by
 have : o = 0 ∨ o = 1 := by omega
 rcases this with rfl | rfl <;> exact ⟨⟨_,by simp [go_sem]; rfl⟩,by simp [go_sem]⟩
noncomputable def stC (z x y : Int) (n : Nat) (G : Nat → Feat) : Int := if refC z x y = 0 then plC n G else refC z x y
noncomputable def stN (z x y : Int) (n : Nat) (G : Nat → Feat) : Int := if stC z x y n G = 0 then sumZ (zz (plL n G)) (plL n G).length else 0
theorem plL_900 (n : Nat) (G : Nat → Feat) : (plL n G).length ≤ 900 := by
 unfold plL
 split
 ·rename_i h
  unfold plC at h
  split at h
  ·split at h
   ·split at h
    ·omega
    ·simp [endL]; omega
   ·omega
  ·contradiction
 ·simp
theorem st_same {z x y : Int} {G H : Nat → Feat} {n : Nat} (h : ∀ i,i < n → (G i).same (H i)) : stC z x y n G = stC z x y n H ∧ stN z x y n G = stN z x y n H := by
 obtain ⟨h1,h2⟩ := pl_same h
 unfold stN stC
 rw [h1,h2]
 exact ⟨rfl,rfl⟩
theorem Src.belowC {a : Option Addr} {n cap : Nat} {Z : Nat → Int} {s t B : Nat} {w w' : World} (h : Src a n cap Z s t w) (hb : Below B w w') (hB : s < B) : Src a n cap Z s t w' := by
 refine ⟨(hb.cell (p := ⟨s,0,none⟩) hB).trans h.code,(hb.cell (p := ⟨s,1,none⟩) hB).trans h.at',(hb.frozen (p := ⟨s,1,none⟩) hB).trans h.wr,?_,h.rng,h.max⟩
 rcases h.bytes with h0 | ⟨b,off,e,hs,hz⟩
 ·exact .inl h0
 ·exact .inr ⟨b,off,e,hs,fun i hi => (hb.cell (p := ⟨b,off + i,none⟩) (show b < _ by omega)).trans (hz i hi)⟩
def DrawnF (base : Nat) (w : World) (f : Feat) : Prop := ∃ l,Row base w (.slice f.a f.n f.cap) l ∧ l.length = f.n ∧ 0 < f.n ∧ f.n ≤ 6 ∧ f.X = px l ∧ f.Y = py l ∧ f.lab.size ≤ 7
theorem DrawnF.is {base : Nat} {w : World} {f : Feat} (h : DrawnF base w f) : IsPts w f.a f.n f.X f.Y := by
 obtain ⟨l,hR,hl,_,_,hX,hY,_⟩ := h
 have := hR.own
 rw [hl, ← hX, ← hY] at this
 exact this.is
theorem DrawnF.below {base : Nat} {w w' : World} {f : Feat} (h : DrawnF base w f) (hb : Below w.heap.size w w') : DrawnF base w' f := by
 obtain ⟨l,hR,hr⟩ := h
 exact ⟨l,hR.below hb,hr⟩
theorem DrawnF.keeps {base s : Nat} {w w' : World} {f : Feat} (h : DrawnF base w f) (hk : Keeps s w w') (hs : s < base) : DrawnF base w' f := by
 obtain ⟨l,hR,hr⟩ := h
 exact ⟨l,ownsRow_keeps hR hk hs,hr⟩
theorem DrawnF.kept {base base' : Nat} {w w' : World} {v : Value} {f : Feat} {H : Nat → Feat} {m : List Nat} (h : DrawnF base w f) (h' : FRow base' w v H m) (hg : w.grownBy w' v.ownBlock) : DrawnF base w' f := by
 obtain ⟨l,hR,hr⟩ := h
 exact ⟨l,hR.keptF h' hg,hr⟩
theorem Keeps.grownF {s : Nat} {w w1 w2 : World} {v : Value} (h : Keeps s w w1) (hg : w1.grownBy w2 v.ownBlock) (hv : ∀ g,v.ownBlock = some g → w.heap.size ≤ g) : Keeps s w w2 :=
 ⟨hg.os.trans h.os,hg.tape.trans h.tape,hg.output.trans h.output,Nat.le_trans h.size hg.size,fun k hk hs => (hg.block k (Nat.lt_of_lt_of_le hk h.size) (fun e => by have := hv k e.symm; omega)).trans (h.block k hk hs)⟩
theorem l2At_some (b n cap : Nat) (G : Nat → Feat) (t : Int) (w : World) (hg : ∀ i,i < n → w.cell? ⟨b,i * 7,none⟩ = some (.int .i64 (G i).id)) (hbl : b < w.heap.size) (hn : n ≤ 1048576) :
  Calls Tryz.prog 53 #[.slice (some ⟨b,0,none⟩) n cap, .int .i64 t] w fun e w' => (∃ r : Int,e = .returned (.int .i64 r)) ∧ Below w.heap.size w w' := by
 have HG : Hid (∀ i,i < n → w.cell? ⟨b,i * 7,none⟩ = some (.int .i64 (G i).id)) := hg
 clear hg
 go_enter Tryz.func53,Tryz.ntmps53
 go_wp2
 go_loopw [5] (fun v wr => ∃ k : Nat,k ≤ n ∧ v = .int .i64 k ∧ Below w.heap.size w wr) (fun v _ => n - (intOf v).toNat)
 case atStart => exact ⟨0,by omega,rfl,Below.refl _ _⟩
 case round =>
  obtain ⟨k,hk,rfl,hB⟩ := hrel
  have HB : Hid (Below w.heap.size w wr) := hB
  by_cases hlt : k < n
  ·have f0 := (hB.cell (p := ⟨b,k * 7,none⟩) hbl).trans (HG.out k hlt)
   clear hB
   have hi : (k : Int) < (n : Int) := by omega
   have hi0 : (0 : Int) ≤ (k : Int) := by omega
   by_cases he : (G k).id = t
   ·rw [he] at f0
    go_wp2
    go_ret
    exact ⟨⟨_,rfl⟩,HB.out⟩
   ·have he' : ((G k).id == t) = false := by simpa using he
    clear he
    go_wp2
    go_roundw
    case rel => exact ⟨k + 1,by omega,by go_num,HB.out⟩
    case measure => simp [intOf]; omega
  ·go_wp2
   go_ret
   exact ⟨⟨_,rfl⟩,HB.out⟩
theorem l2Right_any (a : Option Addr) (n cap : Nat) (Z : Nat → Int) (s t : Nat) (w : World) (h : Src a n cap Z s t w) (hcap : n ≤ cap) (ht : t ≤ 100) :
  Calls Tryz.prog 36 #[.pointer (some ⟨s,0,none⟩)] w fun e w' => ∃ (g m c : Nat) (H : Nat → Feat) (t' : Nat),e = .returned (.slice (some ⟨g,0,none⟩) m c) ∧ FRow w.heap.size w' (.slice (some ⟨g,0,none⟩) m c) H (List.range m) ∧ m ≤ 5 ∧ (∀ j,j < m → DrawnF w.heap.size w' (H j)) ∧ t' ≤ t + 260 ∧ Src a n cap Z s t' w' ∧ Keeps s w w' := by
 obtain ⟨i0,hi,hz0,hz1,hz2⟩ := info_parts info_if
 have hsl : s < w.heap.size := World.block_lt_of_cell? _ _ h.code
 have HS : Hid (Src a n cap Z s t w) := h
 clear h
 go_enter Tryz.func36,Tryz.ntmps36
 go_wp2_with fail
 generalize hW : (w.alloc _ : World) = W
 have hB0 : Below w.heap.size w W := by subst hW; (repeat (first|exact Qr _ _|assumption|refine Qd ?_|refine Qa ?_ _|refine Qt ?_|refine Qs ?_ _|refine Qo ?_ ?_ _ _))
 have HO0 : Hid (FRow w.heap.size W (.slice (some ⟨w.heap.size,0,none⟩) 0 0) (fun _ => ⟨0,0,0,0,none,0,0,fun _ => 0,fun _ => 0,⟨#[]⟩,0⟩) []) := by
  show FRow _ _ _ _ _
  subst hW
  exact World.ownsRow_lit (base := w.heap.size) w #[] 0 (Nat.le_refl _) (Nat.zero_le _) rfl
 clear hW
 refine (l1Next_any a n cap Z s t 6 W (HS.out.below hB0) hcap (by omega) (by omega) (by omega)).mono ?_
 rintro e w1 ⟨v1,rfl,hv1,hS1,hK1⟩
 have HO1 : Hid (FRow w.heap.size w1 (.slice (some ⟨w.heap.size,0,none⟩) 0 0) (fun _ => ⟨0,0,0,0,none,0,0,fun _ => 0,fun _ => 0,⟨#[]⟩,0⟩) []) := ownsRow_keeps HO0.out hK1 hsl
 have HS1 : Hid (Src a n cap Z s (t + 1) w1) := hS1
 have HK1 : Hid (Keeps s w w1) := (Keeps.of_below hB0).trans hK1
 clear hS1 hK1 hB0 HO0 HS
 go_wp2_with fail
 go_loopw [3,4] (fun v kk wr => ∃ (m k t' g c : Nat) (H : Nat → Feat),kk = .int .i64 (k : Int) ∧ v = .slice (some ⟨g,0,none⟩) m c ∧ m + k ≤ 5 ∧ t' + 50 * k ≤ t + 251 ∧ FRow w.heap.size wr (.slice (some ⟨g,0,none⟩) m c) H (List.range m) ∧ (∀ j,j < m → DrawnF w.heap.size wr (H j)) ∧ Src a n cap Z s t' wr ∧ Keeps s w wr) (fun _ kk _ => (intOf kk).toNat)
 case atStart => exact ⟨0,v1,t + 1,_,_,_,rfl,rfl,by omega,by omega,HO1.out,fun j hj => by omega,HS1.out,HK1.out⟩
 case round =>
  obtain ⟨m,k,t',g,c,H,rfl,rfl,hmk,htk,hO,hD,hS,hK⟩ := hrel
  have HO : Hid (FRow w.heap.size wr (.slice (some ⟨g,0,none⟩) m c) H (List.range m)) := hO
  have HD : Hid (∀ j,j < m → DrawnF w.heap.size wr (H j)) := hD
  have HK : Hid (Keeps s w wr) := hK
  by_cases hk0 : 0 < k
  ·have hk0' : (0 : Int) < (k : Int) := by omega
   have HS2 : Hid (Src a n cap Z s t' wr) := hS
   have hwr : w.heap.size ≤ wr.heap.size := hK.size
   clear hO hD hS hK
   go_wp2_with fail
   refine (l2Draw_any a n cap Z s t' wr HS2.out hcap (by omega)).mono ?_
   rintro e w2 ⟨id,la,ki,wi,v,lab,pr,l,t2,rfl,hR2,hl0,hl6,hlab,ht2,hS2,hK2⟩
   obtain ⟨g2,c2,hv2,hg2,hg2l,hlc2,hP2⟩ := hR2.at hl0
   subst hv2
   obtain ⟨N,hN⟩ : ∃ N,N = l.length := ⟨_,rfl⟩
   have HN : Hid (N = l.length) := hN
   rw [← hN] at hl0 hl6 hR2 ⊢
   clear hN hP2 hlc2
   have hO2 : FRow w.heap.size w2 (.slice (some ⟨g,0,none⟩) m c) H (List.range m) := ownsRow_keeps HO.out hK2 hsl
   have HO2 : Hid (FRow w.heap.size w2 (.slice (some ⟨g,0,none⟩) m c) H (List.range m)) := hO2
   have HD2 : Hid (∀ j,j < m → DrawnF w.heap.size w2 (H j)) := fun j hj => (HD.out j hj).keeps hK2 hsl
   have HDn : Hid (DrawnF w.heap.size w2 ⟨id,la,ki,wi,some ⟨g2,0,none⟩,N,c2,px l,py l,lab,pr⟩) := ⟨l,Row.wideB hR2 hwr,HN.out.symm,hl0,hl6,rfl,rfl,by show lab.size ≤ 7; omega⟩
   have HS3 : Hid (Src a n cap Z s t2 w2) := hS2
   have HK2 : Hid (Keeps s w w2) := HK.out.trans hK2
   clear hR2 hS2 hK2 HS2 HO HD HK hO2 hwr
   go_wp2_with fail
   generalize hV : (w2.alloc _ : World) = V
   have hBV : Below w2.heap.size w2 V := by subst hV; (repeat (first|exact Qr _ _|assumption|refine Qd ?_|refine Qa ?_ _|refine Qt ?_|refine Qs ?_ _|refine Qo ?_ ?_ _ _))
   have v0 : ∀ W',Below V.heap.size V W' → W'.cell? ⟨w2.heap.size,0,none⟩ = some (.int .i64 id) := fun W' h => by rw [h.cell (by subst hV; simp)]; subst hV; simp [go_sem]
   have v1' : ∀ W',Below V.heap.size V W' → W'.cell? ⟨w2.heap.size,1,none⟩ = some (.int .i64 la) := fun W' h => by rw [h.cell (by subst hV; simp)]; subst hV; simp [go_sem]
   have v2 : ∀ W',Below V.heap.size V W' → W'.cell? ⟨w2.heap.size,2,none⟩ = some (.int .i64 ki) := fun W' h => by rw [h.cell (by subst hV; simp)]; subst hV; simp [go_sem]
   have v3 : ∀ W',Below V.heap.size V W' → W'.cell? ⟨w2.heap.size,3,none⟩ = some (.int .i64 wi) := fun W' h => by rw [h.cell (by subst hV; simp)]; subst hV; simp [go_sem]
   have v4 : ∀ W',Below V.heap.size V W' → W'.cell? ⟨w2.heap.size,4,none⟩ = some (.slice (some ⟨g2,0,none⟩) N c2) := fun W' h => by rw [h.cell (by subst hV; simp)]; subst hV; simp [go_sem]
   have v5 : ∀ W',Below V.heap.size V W' → W'.cell? ⟨w2.heap.size,5,none⟩ = some (.string lab) := fun W' h => by rw [h.cell (by subst hV; simp)]; subst hV; simp [go_sem]
   have v6 : ∀ W',Below V.heap.size V W' → W'.cell? ⟨w2.heap.size,6,none⟩ = some (.int .i64 pr) := fun W' h => by rw [h.cell (by subst hV; simp)]; subst hV; simp [go_sem]
   clear hV
   have hOV := HO2.out.below hBV
   have hcells : ∀ i,i < m → V.cell? ⟨g,i * 7,none⟩ = some (.int .i64 (H i).id) := fun i hi => by
    rcases hOV.at with ⟨hv,hl⟩ | ⟨g',c',hv,_,_,_,_,hF⟩
    ·cases hv
    ·injection hv with e1 e2 e3
     injection e1 with e1
     injection e1 with e1
     subst e1
     have := (hF i (by simpa using hi)).1
     have eg : (List.range m).getD i 0 = i := by simp [List.getD_eq_getElem?_getD,hi]
     rw [eg] at this
     exact this
   have hgV : g < V.heap.size ∧ w.heap.size ≤ g := by
    rcases hOV.at with ⟨hv,hl⟩ | ⟨g',c',hv,hg',hgl,_⟩
    ·cases hv
    ·injection hv with e1 e2 e3
     injection e1 with e1
     injection e1 with e1
     omega
   have HBV : Hid (Below w2.heap.size w2 V) := hBV
   refine (l2At_some g m c H id V hcells hgV.1 (by omega)).mono ?_
   rintro e w3 ⟨⟨r,rfl⟩,hb3⟩
   have HB3 : Hid (Below w2.heap.size w2 w3) := bl_then hBV hb3
   have hr3 : Below V.heap.size V w3 := hb3
   clear hOV hcells hBV hb3
   by_cases hr : r < 0
   ·go_wp2_with (first
     | (at_builtin; go_must (refine wpList_append_own _ rfl _ _ 24 rfl w.heap.size 39 i0 (.agg #[.int .i64 0, .int .i64 0, .int .i64 0, .int .i64 0, .slice none 0 0, .string ⟨#[]⟩, .int .i64 0]) 7 80 Tryz.underlying24 hi hz0 hz1 hz2 rfl (by decide) (.slice (some ⟨g,0,none⟩) m c) m (cellsF H (List.range m)) rfl ?c6 ⟨w3.heap.size,0,none⟩ 1 1 (fcell ⟨id,la,ki,wi,some ⟨g2,0,none⟩,N,c2,px l,py l,lab,pr⟩) rfl ?c0 ?c1 ?c2 ?c3 ?c4 ?c5 ?_)))
    case c6 =>
     have := (HO2.out.below HB3.out).below ((Below.refl w3.heap.size w3).alloc (Nat.le_refl _) (.cells #[.int .i64 id, .int .i64 la, .int .i64 ki, .int .i64 wi, .slice (some ⟨g2,0,none⟩) N c2, .string lab, .int .i64 pr] 39))
     unfold FRow at this
     rw [List.length_range] at this
     exact this
    case c0 => rfl
    case c1 =>
     intro q u hq
     have hq7 : q < 7 := (List.getElem?_eq_some_iff.1 hq).1
     have hc : q = 0 ∨ q = 1 ∨ q = 2 ∨ q = 3 ∨ q = 4 ∨ q = 5 ∨ q = 6 := by omega
     rcases hc with rfl | rfl | rfl | rfl | rfl | rfl | rfl <;> (simp [fcell] at hq; subst hq; simp [Addr.add,go_sem])
    case c2 => exact fcell_one _
    case c3 => unfold maxLen; omega
    case c4 => omega
    case c5 => have := HB3.out.size; have := HK2.out.size; simp; omega
    intro v' w4 hown' hgrow hnil
    obtain ⟨g4,c4,hv4⟩ : ∃ g4 c4,v' = .slice (some ⟨g4,0,none⟩) (m + 1) c4 := by
     obtain ⟨_,h2 | ⟨g',cp,cur,hv,_⟩⟩ := hown'
     ·first | exact absurd h2.1 hnil | (have := hnil.1 h2.1; simp at this)
     ·exact ⟨g',cp,hv⟩
    subst hv4
    have hO3 := (HO2.out.below HB3.out).below ((Below.refl w3.heap.size w3).alloc (Nat.le_refl _) (.cells #[.int .i64 id, .int .i64 la, .int .i64 ki, .int .i64 wi, .slice (some ⟨g2,0,none⟩) N c2, .string lab, .int .i64 pr] 39))
    have hB3a : Below w2.heap.size w2 (w3.alloc (.cells #[.int .i64 id, .int .i64 la, .int .i64 ki, .int .i64 wi, .slice (some ⟨g2,0,none⟩) N c2, .string lab, .int .i64 pr] 39)) := HB3.out.alloc HB3.out.size _
    have HF4 : Hid (FRow w.heap.size w4 (.slice (some ⟨g4,0,none⟩) (m + 1) c4) (fun i => if i = m then ⟨id,la,ki,wi,some ⟨g2,0,none⟩,N,c2,px l,py l,lab,pr⟩ else H i) (List.range (m + 1))) := by
     show FRow _ _ _ _ _
     unfold FRow
     have e1 : cellsF (fun i => if i = m then ⟨id,la,ki,wi,some ⟨g2,0,none⟩,N,c2,px l,py l,lab,pr⟩ else H i) (List.range (m + 1)) = cellsF H (List.range m) ++ fcell ⟨id,la,ki,wi,some ⟨g2,0,none⟩,N,c2,px l,py l,lab,pr⟩ := by
      rw [List.range_succ,cellsF_app,cellsF_one,if_pos rfl]
      rw [cellsF_congr (H' := H) (List.range m) (fun j hj => by rw [if_neg]; have := List.mem_range.1 hj; omega)]
     rw [e1,List.length_range]
     exact hown'
    have HD4 : Hid (∀ j,j < m + 1 → DrawnF w.heap.size w4 ((fun i => if i = m then (⟨id,la,ki,wi,some ⟨g2,0,none⟩,N,c2,px l,py l,lab,pr⟩ : Feat) else H i) j)) := fun j hj => by
     by_cases e : j = m
     ·simp only [if_pos e]
      exact (HDn.out.below hB3a).kept hO3 hgrow
     ·simp only [if_neg e]
      exact ((HD2.out j (by omega)).below hB3a).kept hO3 hgrow
    have hb4 : Below w.heap.size (w3.alloc (.cells #[.int .i64 id, .int .i64 la, .int .i64 ki, .int .i64 wi, .slice (some ⟨g2,0,none⟩) N c2, .string lab, .int .i64 pr] 39)) w4 := (Below.refl _ _).grown hgrow (by have := HB3.out.size; have := HK2.out.size; simp; omega) (fun q hq => by simp [Value.ownBlock] at hq; omega)
    have HS4 : Hid (Src a n cap Z s t2 w4) := (HS3.out.below hB3a).belowC hb4 hsl
    have HK4 : Hid (Keeps s w w4) := (HK2.out.trans (Keeps.of_below hB3a)).grownF hgrow (fun q hq => by simp [Value.ownBlock] at hq; omega)
    clear hown' hgrow hnil hO3 hB3a hb4
    go_wp2
    go_roundw
    case rel => exact ⟨m + 1,k - 1,t2,g4,c4,_,by congr 1; omega,rfl,by omega,by omega,HF4.out,HD4.out,HS4.out,HK4.out⟩
    case measure => simp [intOf]; omega
   ·have hr' : decide (r < 0) = false := by simpa using hr
    have HO4 : Hid (FRow w.heap.size w3 (.slice (some ⟨g,0,none⟩) m c) H (List.range m)) := HO2.out.below HB3.out
    have HD4 : Hid (∀ j,j < m → DrawnF w.heap.size w3 (H j)) := fun j hj => (HD2.out j hj).below HB3.out
    have HS4 : Hid (Src a n cap Z s t2 w3) := HS3.out.below HB3.out
    have HK4 : Hid (Keeps s w w3) := HK2.out.trans (Keeps.of_below HB3.out)
    go_wp2
    go_roundw
    case rel => exact ⟨m,k - 1,t2,g,c,H,by congr 1; omega,rfl,by omega,by omega,HO4.out,HD4.out,HS4.out,HK4.out⟩
    case measure => simp [intOf]; omega
  ·have hk' : k = 0 := by omega
   subst hk'
   go_wp2
   go_ret
   exact ⟨g,m,c,H,t',rfl,hO,by omega,hD,by omega,hS,hK⟩


end Go.Proofs.YtfkonhagjahgnaaGreat
