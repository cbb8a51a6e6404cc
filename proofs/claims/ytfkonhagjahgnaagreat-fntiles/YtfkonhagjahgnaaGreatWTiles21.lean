/- Texts. -/
import Derived.Test.YtfkonhagjahgnaaGreatWTiles12
import Derived.Test.YtfkonhagjahgnaaGreatWTiles1
import Derived.Deep.RegionHeld3
import Derived.Test.YtfkonhagjahgnaaGreatWTiles6
import Derived.Test.YtfkonhagjahgnaaGreatWTiles16
import Derived.Deep.DeepCutAuto
set_option linter.unusedSimpArgs false
set_option linter.unusedVariables false
set_option maxRecDepth 100000
set_option maxHeartbeats 32000000
namespace Go.Proofs.YtfkonhagjahgnaaGreat
open Go.RowKit
theorem PtsAt.store {W : World} {b off n : Nat} {X Y : Nat → Int} (h : PtsAt W b off n X Y) {r o : Nat} {v : Value} (hne : r ≠ b) : PtsAt (W.setCell ⟨r,o,none⟩ v) b off n X Y := fun i hi => by
 obtain ⟨h1,h2⟩ := h i hi
 refine ⟨?_,?_⟩
 ·rw [World.cell?_setCell_other]
  ·exact h1
  ·simp [hne]
 ·rw [World.cell?_setCell_other]
  ·exact h2
  ·simp [hne]
theorem There.store {W : World} {b n : Nat} (h : There W b n) {r o : Nat} {v : Value} (hne : r ≠ b) : There (W.setCell ⟨r,o,none⟩ v) b n := fun i hi => by
 obtain ⟨u,hu⟩ := (h i hi).1
 refine ⟨⟨u,?_⟩,by rw [World.frozen?_setCell]; exact (h i hi).2⟩
 rw [World.cell?_setCell_other]
 ·exact hu
 ·simp [hne]
structure Feat where
 id : Int
 la : Int
 ki : Int
 wi : Int
 a : Option Addr
 n : Nat
 cap : Nat
 X : Nat → Int
 Y : Nat → Int
 lab : ByteArray
 pr : Int
def FsAt (w : World) (b off n : Nat) (F : Nat → Feat) : Prop :=
 ∀ i,i < n → FeatAt w b (off + i * 7) (F i).id (F i).la (F i).ki (F i).wi (.slice (F i).a (F i).n (F i).cap) (F i).lab (F i).pr ∧ IsPts w (F i).a (F i).n (F i).X (F i).Y
theorem FsAt.below {w w' : World} {b off n : Nat} {F : Nat → Feat} (h : FsAt w b off n F) (hb : Below w.heap.size w w') (hl : b < w.heap.size) : FsAt w' b off n F := fun i hi =>
 ⟨(h i hi).1.below hb hl,(h i hi).2.below hb⟩
def IsFs (w : World) (a : Option Addr) (n : Nat) (F : Nat → Feat) : Prop := n = 0 ∨ ∃ b off,a = some ⟨b,off,none⟩ ∧ b < w.heap.size ∧ FsAt w b off n F
theorem IsFs.below {w w' : World} {a : Option Addr} {n : Nat} {F : Nat → Feat} (h : IsFs w a n F) (hb : Below w.heap.size w w') : IsFs w' a n F := by
 rcases h with h | ⟨b,off,e,hl,hp⟩
 ·exact .inl h
 ·exact .inr ⟨b,off,e,Nat.lt_of_lt_of_le hl hb.size,hp.below hb hl⟩
def Feat.same (f g : Feat) : Prop := f.id = g.id ∧ f.la = g.la ∧ f.ki = g.ki ∧ f.wi = g.wi ∧ f.n = g.n ∧ f.X = g.X ∧ f.Y = g.Y ∧ f.lab = g.lab ∧ f.pr = g.pr
theorem info_if : (Tryz.prog.info? 39).map (fun i => (i.zero,i.size,i.bytes)) = some (some (.agg #[.int .i64 0, .int .i64 0, .int .i64 0, .int .i64 0, .slice none 0 0, .string ⟨#[]⟩, .int .i64 0]),7,80) := by kernel_rfl
abbrev zeroF : Array Value := #[.int .i64 0, .int .i64 0, .int .i64 0, .int .i64 0, .slice none 0 0, .string ⟨#[]⟩, .int .i64 0]
theorem make_feats (n : Nat) (h : n ≤ 1048576) (w : World) :
  (Instr.makeSlice 24 (.int .i64 (n : Int)) (.int .i64 (n : Int))).run Tryz.prog w = .ok (.slice (some ⟨w.heap.size,0,none⟩) n n) (w.alloc (.cells (madeCells zeroF (n * 7)) 39)) := by
 obtain ⟨i,hi,hz,hs,hb⟩ := info_parts info_if
 have hr := run_make (P := Tryz.prog) w 24 39 i _ Tryz.underlying24 hi hz .i64 .i64 (n : Int) (n : Int) (by omega) (Int.le_refl _) (by rw [hb]; omega) (by omega)
 simp only [Int.toNat_natCast,hs] at hr
 exact hr
def SmallFs (n : Nat) (F : Nat → Feat) : Prop := n ≤ 1048576 ∧ ∀ i,i < n → (F i).n ≤ 1048576 ∧ (F i).lab.size ≤ 1048576
theorem l2At_any (b n cap : Nat) (G : Nat → Feat) (i : Nat) (w : World) (hi : i < n) (hg : FsAt w b 0 n G) (hbl : b < w.heap.size) (hn : n ≤ 1048576) :
  Calls Tryz.prog 53 #[.slice (some ⟨b,0,none⟩) n cap, .int .i64 (G i).id] w fun e w' => (∃ r : Nat,r ≤ i ∧ (G r).id = (G i).id ∧ (∀ j,j < r → (G j).id ≠ (G i).id) ∧ e = .returned (.int .i64 r)) ∧ Below w.heap.size w w' := by
 have HG : Hid (FsAt w b 0 n G) := hg
 clear hg
 have HI : Hid (i < n) := hi
 clear hi
 generalize hid : (G i).id = t
 have HT : Hid ((G i).id = t) := hid
 clear hid
 go_enter Tryz.func53,Tryz.ntmps53
 go_wp2
 go_loopw [5] (fun v wr => ∃ k : Nat,k ≤ i ∧ v = .int .i64 k ∧ (∀ j,j < k → (G j).id ≠ t) ∧ Below w.heap.size w wr) (fun v _ => n - (intOf v).toNat)
 case atStart => exact ⟨0,by omega,rfl,by omega,Below.refl _ _⟩
 case round =>
  obtain ⟨k,hk,rfl,hA,hB⟩ := hrel
  have hlt : k < n := Nat.lt_of_le_of_lt hk HI.out
  have f0 : wr.cell? ⟨b,k * 7,none⟩ = some (.int .i64 (G k).id) := by simpa using ((HG.out.below hB hbl) k hlt).1.1
  have HB : Hid (Below w.heap.size w wr) := hB
  have HA : Hid (∀ j,j < k → (G j).id ≠ t) := hA
  clear hB hA
  have hi : (k : Int) < (n : Int) := by omega
  have hi0 : (0 : Int) ≤ (k : Int) := by omega
  by_cases he : (G k).id = t
  ·rw [he] at f0
   go_wp2
   go_ret
   exact ⟨⟨k,hk,he,HA.out,rfl⟩,HB.out⟩
  ·have he' : ((G k).id == t) = false := by simpa using he
   have HE : Hid ((G k).id ≠ t) := he
   have hki : k ≠ i := fun e => he (by rw [e]; exact HT.out)
   clear he
   go_wp2
   go_roundw
   case rel => exact ⟨k + 1,by omega,by go_num,fun j hj => by
     by_cases e : j = k
     ·rw [e]; exact HE.out
     ·exact HA.out j (by omega),HB.out⟩
   case measure => simp [intOf]; omega
theorem hasId_any (b n cap N : Nat) (G : Nat → Feat) (t : Int) (w : World) (hnN : n ≤ N) (hg : FsAt w b 0 N G) (hbl : b < w.heap.size) (hn : n ≤ 1048576) :
  Calls Tryz.prog 84 #[.slice (some ⟨b,0,none⟩) n cap, .int .i64 t] w fun e w' => ((e = .returned (.bool true) ∧ ∃ j,j < n ∧ (G j).id = t) ∨ (e = .returned (.bool false) ∧ ∀ j,j < n → (G j).id ≠ t)) ∧ Below w.heap.size w w' := by
 have HG : Hid (FsAt w b 0 N G) := hg
 clear hg
 go_enter Tryz.func84,Tryz.ntmps84
 go_wp2
 go_loopw [9] (fun v wr => ∃ k : Nat,k ≤ n ∧ v = .int .i64 k ∧ (∀ j,j < k → (G j).id ≠ t) ∧ Below w.heap.size w wr) (fun v _ => n - (intOf v).toNat)
 case atStart => exact ⟨0,by omega,rfl,by omega,Below.refl _ _⟩
 case round =>
  obtain ⟨k,hk,rfl,hA,hB⟩ := hrel
  have HB : Hid (Below w.heap.size w wr) := hB
  have HA : Hid (∀ j,j < k → (G j).id ≠ t) := hA
  by_cases hlt : k < n
  ·obtain ⟨⟨f0,f1,f2,f3,f4,f5,f6⟩,_⟩ := (HG.out.below hB hbl) k (by omega)
   simp only [Nat.zero_add] at f0 f1 f2 f3 f4 f5 f6
   clear hB hA
   have hi : (k : Int) < (n : Int) := by omega
   have hi0 : (0 : Int) ≤ (k : Int) := by omega
   by_cases he : (G k).id = t
   ·have he' : ((G k).id == t) = true := by simpa using he
    have HE : Hid ((G k).id = t) := he
    clear he
    go_wp2
    go_ret
    exact ⟨.inl ⟨rfl,k,hlt,HE.out⟩,by have HB' := HB.out; (repeat (first|exact Qr _ _|assumption|refine Qd ?_|refine Qa ?_ _|refine Qt ?_|refine Qs ?_ _|refine Qo ?_ ?_ _ _))⟩
   ·have he' : ((G k).id == t) = false := by simpa using he
    have HE : Hid ((G k).id ≠ t) := he
    clear he
    go_wp2
    go_roundw
    case rel => exact ⟨k + 1,by omega,by go_num,fun j hj => by
      by_cases e : j = k
      ·rw [e]; exact HE.out
      ·exact HA.out j (by omega),by have HB' := HB.out; (repeat (first|exact Qr _ _|assumption|refine Qd ?_|refine Qa ?_ _|refine Qt ?_|refine Qs ?_ _|refine Qo ?_ ?_ _ _))⟩
    case measure => simp [intOf]; omega
  ·go_wp2
   go_ret
   exact ⟨.inr ⟨rfl,fun j hj => hA j (by omega)⟩,hB⟩

theorem resC (T : Array Value) (Wf : World) (r : Nat) (v0 v1 v2 v3 v4 v5 v6 : Value) (hT : T[2]?.getD undef = .pointer (some ⟨r, 0, none⟩)) (h0 : Wf.cell? ⟨r, 0, none⟩ = some v0) (h1 : Wf.cell? ⟨r, 1, none⟩ = some v1) (h2 : Wf.cell? ⟨r, 2, none⟩ = some v2) (h3 : Wf.cell? ⟨r, 3, none⟩ = some v3) (h4 : Wf.cell? ⟨r, 4, none⟩ = some v4) (h5 : Wf.cell? ⟨r, 5, none⟩ = some v5) (h6 : Wf.cell? ⟨r, 6, none⟩ = some v6) :
    (results Tryz.f132 T).run Tryz.prog Wf = .ok (.agg #[v0, v1, v2, v3, v4, v5, v6]) Wf := by
  simp [results, Tryz.results132, go_sem, hT, h0, h1, h2, h3, h4, h5, h6]
set_option maxRecDepth 8000 in
theorem l2CopyOne_row {off : Nat} (id la ki wi : Int) (b n cap : Nat) (X Y : Nat → Int) (lab : ByteArray) (pr : Int) (w : World) (hp : PtsAt w b off n X Y) (hbl : b < w.heap.size) (hn : n ≤ 1048576) :
    Calls Tryz.prog 132 #[.agg #[.int .i64 id, .int .i64 la, .int .i64 ki, .int .i64 wi, .slice (some ⟨b, off, none⟩) n cap, .string lab, .int .i64 pr]] w fun e w' => ∃ a c, e = .returned (.agg #[.int .i64 id, .int .i64 la, .int .i64 ki, .int .i64 wi, .slice a n c, .string lab, .int .i64 pr]) ∧ Row (w.heap.size + 1 + 1) w' (.slice a n c) (ptsOf X Y (List.range n)) ∧ Below w.heap.size w w' := by
  obtain ⟨i0, hi, hz0, hz1, hz2⟩ := info_parts (show (Tryz.prog.info? 67).map (fun i => (i.zero, i.size, i.bytes)) = some (some (.agg #[.int .i64 0, .int .i64 0]), 2, 16) by kernel_rfl)
  have HP : Hid (PtsAt w b off n X Y) := hp
  have HLEN : Hid ((ptsOf X Y (List.range n)).length = n) := by show _ = _; simp [ptsOf]
  clear hp
  obtain ⟨W, hWd⟩ : ∃ W, W = (((w.alloc (.cells #[.int .i64 id, .int .i64 la, .int .i64 ki, .int .i64 wi, .slice (some ⟨b, off, none⟩) n cap, .string lab, .int .i64 pr] 39)).alloc (.cells #[.int .i64 0, .int .i64 0, .int .i64 0, .int .i64 0, .slice none 0 0, .string ⟨#[]⟩, .int .i64 0] 39)) : World) := ⟨_, rfl⟩
  have hB0 : Below w.heap.size w W := by subst hWd; (repeat (first|exact Qr _ _|assumption|refine Qd ?_|refine Qa ?_ _|refine Qt ?_|refine Qs ?_ _|refine Qo ?_ ?_ _ _))
  have hO : OutAt W w.heap.size id la ki wi (.slice (some ⟨b, off, none⟩) n cap) lab pr := by
    subst hWd
    unfold OutAt
    rw [Below.heap_alloc _ _ _ (by simp)]
    exact heap_alloc_new w _
  have hT : There W (w.heap.size + 1) 7 := by
    subst hWd
    have := there7 (w.alloc (.cells #[.int .i64 id, .int .i64 la, .int .i64 ki, .int .i64 wi, .slice (some ⟨b, off, none⟩) n cap, .string lab, .int .i64 pr] 39)) (.int .i64 0) (.int .i64 0) (.int .i64 0) (.int .i64 0) (.slice none 0 0) (.string ⟨#[]⟩) (.int .i64 0) 39
    simpa using this
  have hsW : W.heap.size = w.heap.size + 2 := by subst hWd; simp
  have HB0 := (show Hid _ from hB0)
  have HO := (show Hid _ from hO)
  have HT : Hid (There W (w.heap.size + 1) 7) := hT
  have HSW := (show Hid _ from hsW)
  have HWD := (show Hid _ from hWd)
  clear hB0 hO hT hsW hWd
  go_enter Tryz.func132, Tryz.ntmps132
  go_wp2_with (first
    | (at_builtin; go_must (refine wpList_append_own _ rfl _ _ 37 rfl (w.heap.size + 1 + 1) 67 i0 (.agg #[.int .i64 0, .int .i64 0]) 2 16 Tryz.underlying37 hi hz0 hz1 hz2 rfl (by decide) (.slice (some ⟨w.heap.size + 1 + 1, 0, none⟩) 0 0) 0 [] rfl ?c6 ⟨b, off, none⟩ n cap (cellsL (ptsOf X Y (List.range n))) rfl ?c0 ?c1 ?c2 ?c3 ?c4 ?c5 ?_)))
  case c6 =>
    have := World.ownsRow_lit (base := w.heap.size + 1 + 1) (e := 67) (size := 2) W #[] 0 (by rw [HSW.out]; exact Nat.le_refl _) (Nat.zero_le _) rfl
    rw [HSW.out, HWD.out] at this
    exact this
  case c0 => rw [cellsL_len, HLEN.out]
  case c1 =>
    intro q u hq
    have hb : Below w.heap.size w (W.alloc (.cells #[] 67)) := bl_alloc HB0.out _
    rw [HWD.out] at hb
    have h1 := pts_cellsO (HP.out.below hb hbl) q u hq
    by_cases hq0 : q = 0
    · subst hq0; simpa [Addr.add] using h1
    · simpa [Addr.add, hq0] using h1
  case c2 =>
    intro u hu
    unfold cellsL at hu
    rw [List.mem_flatMap] at hu
    obtain ⟨p, _, hp⟩ := hu
    simp at hp
    rcases hp with rfl | rfl <;> rfl
  case c3 => unfold maxLen; omega
  case c4 => omega
  case c5 => first | omega | (simp; done) | (simp; omega)
  intro v' w2 hown' hgrow hnil
  clear hnil
  obtain ⟨a', c', hv'⟩ : ∃ a' c', v' = .slice a' n c' := by
    obtain ⟨_, h2 | ⟨g, cp, cur, hv, _⟩⟩ := hown'
    · exact ⟨none, 0, by have e := h2.2; have e2 : n = 0 := by omega
                         subst e2; exact h2.1⟩
    · exact ⟨_, cp, by rw [hv]⟩
  have HOWN : Hid (Row (w.heap.size + 1 + 1) w2 v' (ptsOf X Y (List.range n))) := by
    show Row _ _ _ _
    unfold Row
    rw [HLEN.out]
    simpa using hown'
  have hgb : Below (w.heap.size + 1 + 1) (W.alloc (.cells #[] 67)) w2 := by
    rw [HWD.out]
    exact (Below.refl _ _).grown hgrow (by simp) (fun k hk => by simp [Value.ownBlock] at hk; omega)
  have hWa : Below W.heap.size W (W.alloc (.cells #[] 67)) := (Below.refl _ _).alloc (Nat.le_refl _) _
  have hW2 : Below (w.heap.size + 2) W w2 := (hWa.mono (by rw [HSW.out]; exact Nat.le_refl _)).trans hgb
  have hO2 : OutAt w2 w.heap.size id la ki wi (.slice (some ⟨b, off, none⟩) n cap) lab pr := (hW2.block _ (by omega)).trans HO.out
  have hT2 : There w2 (w.heap.size + 1) 7 := There.belowB' HT.out hW2 (by omega)
  have hB2 : Below w.heap.size w w2 := HB0.out.trans (hW2.mono (by omega))
  have hs2 : w.heap.size + 2 < w2.heap.size ∨ True := .inr trivial
  obtain ⟨⟨u0, u1, u2, u3, u4, u5, u6⟩, f4⟩ := hO2.cells
  have hlw := hO2.lt
  have t0 := hT2.cell 0 (by omega)
  have t1 := hT2.cell 1 (by omega)
  have t2 := hT2.cell 2 (by omega)
  have t3 := hT2.cell 3 (by omega)
  have t4 := hT2.cell 4 (by omega)
  have t5 := hT2.cell 5 (by omega)
  have t6 := hT2.cell 6 (by omega)
  have z0 := (hT2 0 (by omega)).2
  have z1 := (hT2 1 (by omega)).2
  have z2 := (hT2 2 (by omega)).2
  have z3 := (hT2 3 (by omega)).2
  have z4 := (hT2 4 (by omega)).2
  have z5 := (hT2 5 (by omega)).2
  have z6 := (hT2 6 (by omega)).2
  have HT9 : Hid (There (w2.setCell ⟨w.heap.size, 4, none⟩ v') (w.heap.size + 1) 7) := There.out hT2 (by omega)
  have HB9 : Hid (Below w.heap.size w w2) := hB2
  subst hv'
  clear hown' hgrow hgb hWa hW2 hO2 hT2 hB2 hs2
  go_wp2_with fail
  obtain ⟨y0, y1, y2, y3, y4, y5, y6⟩ := set7_at (v0 := .int .i64 id) (v1 := .int .i64 la) (v2 := .int .i64 ki) (v3 := .int .i64 wi) (v4 := .slice a' n c') (v5 := .string lab) (v6 := .int .i64 pr) HT9.out
  exact bodyPost_ret (resC _ _ (w.heap.size + 1) _ _ _ _ _ _ _ rfl y0 y1 y2 y3 y4 y5 y6) rfl ⟨a', c', rfl, ((((((((HOWN.out.setB (by omega)).setB (by omega)).setB (by omega)).setB (by omega)).setB (by omega)).setB (by omega)).setB (by omega)).setB (by omega)), below7 (HB9.out.setCell (Nat.le_refl _) _) (Nat.le_succ _)⟩
theorem l2CopyOne_any {off : Nat} (id la ki wi : Int) (b n cap : Nat) (X Y : Nat → Int) (lab : ByteArray) (pr : Int) (w : World) (hp : PtsAt w b off n X Y) (hbl : b < w.heap.size) (hn : n ≤ 1048576) :
    Calls Tryz.prog 132 #[.agg #[.int .i64 id, .int .i64 la, .int .i64 ki, .int .i64 wi, .slice (some ⟨b, off, none⟩) n cap, .string lab, .int .i64 pr]] w fun e w' => ∃ a m c, e = .returned (.agg #[.int .i64 id, .int .i64 la, .int .i64 ki, .int .i64 wi, .slice a m c, .string lab, .int .i64 pr]) ∧ Below w.heap.size w w' :=
  (l2CopyOne_row id la ki wi b n cap X Y lab pr w hp hbl hn).mono fun e w' ⟨a, c, he, _, hb⟩ => ⟨a, n, c, he, hb⟩
end Go.Proofs.YtfkonhagjahgnaaGreat
