/- Texts. -/
import Derived.Test.YtfkonhagjahgnaaGreatWTiles1
import Derived.Laws.OwnMore
import Derived.Shelf.Pu.Clone
import Derived.Test.YtfkonhagjahgnaaGreatWTiles2
import Derived.Deep.RegionHeld3
set_option linter.unusedSimpArgs false
set_option linter.unusedVariables false
set_option maxRecDepth 100000
set_option maxHeartbeats 32000000
namespace Go.Proofs.YtfkonhagjahgnaaGreat
open Go.RowKit
def cellsL (l : List (Int × Int)) : List Value := l.flatMap fun p => [.int .i64 p.1, .int .i64 p.2]
def px (l : List (Int × Int)) (i : Nat) : Int := (l.getD i (0,0)).1
def py (l : List (Int × Int)) (i : Nat) : Int := (l.getD i (0,0)).2
theorem cellsL_cons (p : Int × Int) (l : List (Int × Int)) : cellsL (p :: l) = .int .i64 p.1 :: .int .i64 p.2 :: cellsL l := by simp [cellsL]
theorem cellsL_add (l : List (Int × Int)) (x y : Int) : cellsL (l ++ [(x,y)]) = cellsL l ++ [.int .i64 x, .int .i64 y] := by simp [cellsL]
theorem cellsL_len : ∀ l : List (Int × Int),(cellsL l).length = l.length * 2
 | [] => rfl
 | p :: l => by rw [cellsL_cons]; simp [cellsL_len l]; omega
theorem cellsL_at : ∀ (l : List (Int × Int)) (i : Nat),i < l.length → (cellsL l)[i * 2]? = some (.int .i64 (px l i)) ∧ (cellsL l)[i * 2 + 1]? = some (.int .i64 (py l i))
 | [],i,h => absurd h (by simp)
 | p :: l,0,h => by rw [cellsL_cons]; simp [px,py]
 | p :: l,i + 1,h => by
  obtain ⟨h1,h2⟩ := cellsL_at l i (by simpa using h)
  rw [cellsL_cons]
  have e1 : (i + 1) * 2 = i * 2 + 1 + 1 := by omega
  rw [e1]
  simp only [List.getElem?_cons_succ]
  exact ⟨h1,h2⟩
def Own (w : World) (base : Nat) (v : Value) (n : Nat) (X Y : Nat → Int) : Prop :=
 ∃ a cap,v = .slice a n cap ∧ n ≤ cap ∧ (n = 0 ∨ ∃ b,a = some ⟨b,0,none⟩ ∧ base ≤ b ∧ b < w.heap.size ∧ PtsAt w b 0 n X Y ∧ There w b (n * 2))
def Row (base : Nat) (w : World) (v : Value) (l : List (Int × Int)) : Prop := w.ownsRow base 67 2 v l.length (cellsL l)
theorem Row.own {base : Nat} {w : World} {v : Value} {l : List (Int × Int)} (h : Row base w v l) : Own w base v l.length (px l) (py l) := by
 obtain ⟨h1,h2 | ⟨g,cp,cur,hv,hg,hh,hkc,hcm,hcs,htk⟩⟩ := h
 ·obtain ⟨rfl,h0⟩ := h2
  rw [h0]
  exact ⟨none,0,rfl,Nat.le_refl _, .inl rfl⟩
 ·have hgl : g < w.heap.size := by
   rcases Nat.lt_or_ge g w.heap.size with h' | h'
   ·exact h'
   ·rw [Array.getElem?_eq_none h'] at hh; cases hh
  have hrow : w.ownsRow base 67 2 (.slice (some ⟨g,0,none⟩) l.length cp) l.length (cellsL l) := ⟨h1, .inr ⟨g,cp,cur,rfl,hg,hh,hkc,hcm,hcs,htk⟩⟩
  refine ⟨some ⟨g,0,none⟩,cp,hv,hkc, .inr ⟨g,rfl,hg,hgl,fun i hi => ?_,fun o ho => ⟨?_,hrow.frozenAt o⟩⟩⟩
  ·obtain ⟨e1,e2⟩ := cellsL_at l i hi
   simp only [Nat.zero_add]
   exact ⟨(hrow.cellAt _ (by omega)).trans e1,(hrow.cellAt _ (by omega)).trans e2⟩
  ·rw [hrow.cellAt o ho]
   have hlt : o < (cellsL l).length := by rw [cellsL_len]; exact ho
   exact ⟨(cellsL l)[o],List.getElem?_eq_getElem hlt⟩
theorem Row.below {base : Nat} {w w' : World} {v : Value} {l : List (Int × Int)} (h : Row base w v l) (hb : Below w.heap.size w w') : Row base w' v l := by
 obtain ⟨h1,h2 | ⟨g,cp,cur,hv,hg,hh,hr⟩⟩ := h
 ·exact ⟨h1, .inl h2⟩
 ·refine ⟨h1, .inr ⟨g,cp,cur,hv,hg,?_,hr⟩⟩
  have hgl : g < w.heap.size := by
   rcases Nat.lt_or_ge g w.heap.size with h' | h'
   ·exact h'
   ·rw [Array.getElem?_eq_none h'] at hh; cases hh
  rw [hb.block g hgl]
  exact hh
theorem Own.pts {w : World} {base : Nat} {v : Value} {n : Nat} {X Y : Nat → Int} (h : Own w base v n X Y) : ∃ a cap,v = .slice a n cap ∧ n ≤ cap ∧ IsPts w a n X Y := by
 obtain ⟨a,cap,hv,hc,h0 | ⟨b,ha,hb,hl,hp,ht⟩⟩ := h
 ·exact ⟨a,cap,hv,hc, .inl h0⟩
 ·exact ⟨a,cap,hv,hc, .inr ⟨b,0,ha,hl,hp⟩⟩
theorem PtsAt.grown {w w' : World} {b off n s : Nat} {X Y : Nat → Int} (h : PtsAt w b off n X Y) (hg : w.grownBy w' (some s)) (hs : b ≠ s) : PtsAt w' b off n X Y := fun i hi =>
 ⟨hg.cell (h i hi).1 (fun e => hs (by injection e)),hg.cell (h i hi).2 (fun e => hs (by injection e))⟩
theorem grown_refl (w : World) (r : Option Nat) : w.grownBy w r := ⟨rfl,rfl,rfl,Nat.le_refl _,fun _ _ _ => rfl⟩
theorem grown_trans {a b c : World} {r : Option Nat} (h : a.grownBy b r) (k : b.grownBy c r) : a.grownBy c r :=
 ⟨k.os.trans h.os,k.tape.trans h.tape,k.output.trans h.output,Nat.le_trans h.size k.size,fun j hj hs => (k.block j (Nat.lt_of_lt_of_le hj h.size) hs).trans (h.block j hj hs)⟩
theorem grown_set {a b : World} {s : Nat} (h : a.grownBy b (some s)) (o : Nat) (v : Value) : a.grownBy (b.setCell ⟨s,o,none⟩ v) (some s) :=
 grown_trans h ⟨rfl,rfl,rfl,by simp [World.setCell],fun j _ hs => Below.heap_setCell _ _ _ _ (fun e => hs (by simp [e]))⟩
theorem below_grown {B s : Nat} {a b : World} (h : a.grownBy b (some s)) (hB : B ≤ s) (hl : B ≤ a.heap.size) : Below B a b :=
 ⟨h.os,h.tape,h.output,h.size,fun k hk => h.block k (by omega) (fun e => by injection e with e; omega)⟩
def ptsOf (X Y : Nat → Int) (l : List Nat) : List (Int × Int) := l.map fun i => (X i,Y i)
theorem heap_of_row {w : World} {base size n : Nat} {e : TypeId} {v : Value} {xs : List Value} (h : w.ownsRow base e size v n xs) : ∀ g,v.ownBlock = some g → ∃ cur,w.heap[g]? = some (.cells cur e (0,0)) := fun g hg => by
 obtain ⟨_,h2 | ⟨g',cp,cur,rfl,_,hh,_⟩⟩ := h
 ·rw [h2.1] at hg; cases hg
 ·simp [Value.ownBlock] at hg
  subst hg
  exact ⟨cur,hh⟩
theorem There.belowB' {W W' : World} {r n B : Nat} (h : There W r n) (hb : Below B W W') (hr : r < B) : There W' r n := fun o ho => by
 obtain ⟨u,hu⟩ := (h o ho).1
 exact ⟨⟨u,(hb.cell (p := ⟨r,o,none⟩) hr).trans hu⟩,(hb.frozen (p := ⟨r,o,none⟩) hr).trans (h o ho).2⟩
theorem lt_of_heap {w : World} {k : Nat} {o : Obj} (h : w.heap[k]? = some o) : k < w.heap.size := by
 rcases Nat.lt_or_ge k w.heap.size with h' | h'
 ·exact h'
 ·rw [Array.getElem?_eq_none h'] at h; cases h
theorem Own.is {w : World} {base : Nat} {a : Option Addr} {n cap : Nat} {X Y : Nat → Int} (h : Own w base (.slice a n cap) n X Y) : IsPts w a n X Y := by
 obtain ⟨a',cap',hv,hc,hi⟩ := h.pts
 injection hv with h1 h2 h3
 subst h1
 exact hi
theorem bl_cell {w w' : World} {p : Addr} {v : Value} (hb : Below w.heap.size w w') (h : w.cell? p = some v) : w'.cell? p = some v := (hb.cell (World.block_lt_of_cell? _ _ h)).trans h
theorem gr_cell {w w' : World} {b o s : Nat} {v : Value} (hg : w.grownBy w' (some s)) (h : w.cell? ⟨b,o,none⟩ = some v) (hs : b ≠ s) : w'.cell? ⟨b,o,none⟩ = some v := hg.cell h (fun e => hs (by injection e))
theorem pts_cellsO {w : World} {b off n : Nat} {X Y : Nat → Int} (h : PtsAt w b off n X Y) : ∀ j u,(cellsL (ptsOf X Y (List.range n)))[j]? = some u → w.cell? ⟨b,off + j,none⟩ = some u := fun j u hu => by
 have hlen : (ptsOf X Y (List.range n)).length = n := by simp [ptsOf]
 have hj : j < n * 2 := by
  have := (List.getElem?_eq_some_iff.1 hu).1
  rw [cellsL_len,hlen] at this
  exact this
 have hi : j / 2 < n := by omega
 obtain ⟨e1,e2⟩ := cellsL_at (ptsOf X Y (List.range n)) (j / 2) (by rw [hlen]; exact hi)
 obtain ⟨c1,c2⟩ := h (j / 2) hi
 have ex : px (ptsOf X Y (List.range n)) (j / 2) = X (j / 2) := by simp [px,ptsOf,List.getD_eq_getElem?_getD,hi]
 have ey : py (ptsOf X Y (List.range n)) (j / 2) = Y (j / 2) := by simp [py,ptsOf,List.getD_eq_getElem?_getD,hi]
 rw [ex] at e1
 rw [ey] at e2
 rcases Nat.mod_two_eq_zero_or_one j with hm | hm
 ·have e : j / 2 * 2 = j := by omega
  rw [e] at e1 c1
  rw [e1] at hu
  rw [c1]
  exact hu
 ·have e : j / 2 * 2 + 1 = j := by omega
  rw [Nat.add_assoc,e] at c2
  rw [e] at e2
  rw [e2] at hu
  rw [c2]
  exact hu
theorem sliteClone_any (s : ByteArray) (w : World) (hlim : s.size ≤ 1048576) :
  Calls Tryz.prog 148 #[.string s] w fun e w' => e = .returned (.string s) ∧ Below w.heap.size w w' := by
 by_cases h0 : s.size = 0
 ·have hs : s = ⟨#[]⟩ := by
   apply ByteArray.ext
   exact Array.eq_empty_of_size_eq_zero h0
  subst hs
  go_enter Tryz.func148,Tryz.ntmps148
  go_wp2
  go_ret
  exact ⟨rfl,Below.refl _ _⟩
 ·obtain ⟨i0,hi,hz0,hz1,hz2⟩ := info_parts info_u8
  have hinfo : (Tryz.prog.info? 5).map (·.size) = some 1 := by rw [hi]; simp [hz1]
  have hco : Tryz.prog.cellsOf 5 = 1 := by simp [Program.cellsOf,hi,hz1]
  obtain ⟨M,hM⟩ : ∃ M,M = madeCells (Value.int .u8 0).cells (((s.size : Nat) : Int).toNat * i0.size) := ⟨_,rfl⟩
  have hMs : M.size = s.size := by rw [hM,size_madeCells,hz1]; simp
  have hmk : ∀ W : World,(Instr.makeSlice 22 (.int .i64 (s.size : Int)) (.int .i64 (s.size : Int))).run Tryz.prog W = .ok (.slice (some ⟨W.heap.size,0,none⟩) s.size s.size) (W.alloc (.cells M 5)) := fun W => by
   have h := run_make (P := Tryz.prog) W 22 5 i0 (.int .u8 0) Tryz.underlying22 hi hz0 .i64 .i64 (s.size : Int) (s.size : Int) (by omega) (by omega) (by rw [hz2]; omega) (by omega)
   rw [← hM] at h
   simpa using h
  clear hM
  have hcp := Lib.run_copy_row_string (P := Tryz.prog) (w.alloc (.cells M 5)) 22 9 3 5 w.heap.size 0 s.size s.size s M 5 Tryz.underlying22 hinfo (heap_alloc_new w _) (Nat.le_refl _) (by omega)
  obtain ⟨Y,hY⟩ : ∃ Y,Y = (M.toList.take 0 ++ Lib.byteCells s.data.toList ++ M.toList.drop (0 + s.size)).toArray := ⟨_,rfl⟩
  rw [← hY] at hcp
  have hYl : Y.toList = Lib.byteCells s.data.toList := by
   rw [hY,List.toList_toArray,List.take_zero,List.nil_append,List.drop_of_length_le (by rw [Array.length_toList]; omega),List.append_nil]
  have hYs : Y.size = s.size := by rw [← Array.length_toList,hYl,Lib.byteCells_length, ← Lib.size_eq]
  have hgY : ((w.alloc (.cells M 5)).setRow w.heap.size Y).heap[w.heap.size]? = some (.cells Y 5 (0,0)) := setRow_heap _ _ M _ 5 (0,0) (heap_alloc_new w _)
  have hne : s.data.toList ≠ [] := fun e => h0 (by rw [Lib.size_eq,e]; rfl)
  have hUS := Lib.run_unsafeString_row (P := Tryz.prog) ((w.alloc (.cells M 5)).setRow w.heap.size Y) 215 3 9 5 Tryz.underlying215 hco w.heap.size Y.size (by unfold World.shape?; rw [hgY]) s.data.toList hne (by rw [← Lib.size_eq]; omega) (by rw [← Lib.size_eq]; omega)
   (fun j x hx => Lib.cells_of_row hgY Y.size j _ (by rw [List.take_of_length_le (by rw [Array.length_toList]; exact Nat.le_refl _),hYl]; simp [Lib.byteCells,hx]))
  rw [← Lib.size_eq] at hUS
  clear hY
  go_enter Tryz.func148,Tryz.ntmps148
  go_wp2
  go_ret
  have hb1 : Below w.heap.size w (w.alloc (.cells M 5)) := (Below.refl _ w).alloc (Nat.le_refl _) _
  have hb2 : Below w.heap.size (w.alloc (.cells M 5)) ((w.alloc (.cells M 5)).setRow w.heap.size Y) := ⟨rfl,rfl,rfl,by simp,fun k hk => setRow_other _ _ _ _ (by omega)⟩
  exact ⟨rfl,Lib.below_freeze (hb1.trans hb2) (p := ⟨w.heap.size,0,none⟩) (Nat.le_refl _) _⟩
theorem stringsClone_any (s : ByteArray) (w : World) (hlim : s.size ≤ 1048576) :
  Calls Tryz.prog 108 #[.string s] w fun e w' => e = .returned (.string s) ∧ Below w.heap.size w w' := by
 go_enter Tryz.func108,Tryz.ntmps108
 go_wp2_with (go_at_call 148; refine (sliteClone_any _ _ hlim).mono ?_; rintro e w1 ⟨rfl,hb1⟩)
 go_ret
 exact ⟨rfl,by (repeat (first|exact Qr _ _|assumption|refine Qd ?_|refine Qa ?_ _|refine Qt ?_|refine Qs ?_ _|refine Qo ?_ ?_ _ _))⟩
theorem ownsRow_of {w w' : World} {base size n : Nat} {e : TypeId} {v : Value} {xs : List Value} (h : w.ownsRow base e size v n xs) (hk : ∀ g,v.ownBlock = some g → w'.heap[g]? = w.heap[g]?) : w'.ownsRow base e size v n xs := by
 obtain ⟨h1,h2 | ⟨g,cp,cur,hv,hg,hh,hr⟩⟩ := h
 ·exact ⟨h1, .inl h2⟩
 ·refine ⟨h1, .inr ⟨g,cp,cur,hv,hg,?_,hr⟩⟩
  rw [hk g (by rw [hv]; rfl)]
  exact hh
theorem there7 (V : World) (v0 v1 v2 v3 v4 v5 v6 : Value) (t : TypeId) : There (V.alloc (.cells #[v0,v1,v2,v3,v4,v5,v6] t)) V.heap.size 7 := fun o ho => by
 refine ⟨⟨#[v0,v1,v2,v3,v4,v5,v6][o]'(by simpa using ho),?_⟩,World.frozen?_alloc_at _ _ _ _ rfl⟩
 rw [World.cell?_alloc_at _ _ _ _ rfl]
 exact Array.getElem?_eq_getElem _
def OutAt (w : World) (O : Nat) (id la ki wi : Int) (v : Value) (lab : ByteArray) (pr : Int) : Prop := w.heap[O]? = some (Obj.cells #[.int .i64 id, .int .i64 la, .int .i64 ki, .int .i64 wi,v, .string lab, .int .i64 pr] 39 (0,0))
theorem OutAt.cells {w : World} {O : Nat} {id la ki wi pr : Int} {v : Value} {lab : ByteArray} (h : OutAt w O id la ki wi v lab pr) :
  (w.cell? ⟨O,0,none⟩ = some (.int .i64 id) ∧ w.cell? ⟨O,1,none⟩ = some (.int .i64 la) ∧ w.cell? ⟨O,2,none⟩ = some (.int .i64 ki) ∧ w.cell? ⟨O,3,none⟩ = some (.int .i64 wi) ∧ w.cell? ⟨O,4,none⟩ = some v ∧ w.cell? ⟨O,5,none⟩ = some (.string lab) ∧ w.cell? ⟨O,6,none⟩ = some (.int .i64 pr)) ∧ w.frozen? ⟨O,4,none⟩ = false := by
 unfold OutAt at h
 refine ⟨⟨?_,?_,?_,?_,?_,?_,?_⟩,?_⟩ <;> simp [World.cell?,World.frozen?,h]
theorem OutAt.lt {w : World} {O : Nat} {id la ki wi pr : Int} {v : Value} {lab : ByteArray} (h : OutAt w O id la ki wi v lab pr) : O < w.heap.size := lt_of_heap h
theorem There.out {w : World} {O r n : Nat} {x : Value} (h : There w r n) (hne : O ≠ r) : There (w.setCell ⟨O,4,none⟩ x) r n := fun o ho => by
 obtain ⟨u,hu⟩ := (h o ho).1
 exact ⟨⟨u,by rw [set1_other (fun e => hne (by injection e))]; exact hu⟩,by rw [World.frozen?_setCell]; exact (h o ho).2⟩
theorem below7 {B r : Nat} {w W : World} {v0 v1 v2 v3 v4 v5 v6 : Value} (h : Below B w W) (hr : B ≤ r) : Below B w ((((((((W.setCell ⟨r,0,none⟩ v0).setCell ⟨r,1,none⟩ v1).setCell ⟨r,2,none⟩ v2).setCell ⟨r,3,none⟩ v3).setCell ⟨r,4,none⟩ v4).setCell ⟨r,5,none⟩ v5).setCell ⟨r,6,none⟩ v6)) :=
 (((((((h.setCell (p := ⟨r,0,none⟩) hr v0).setCell (p := ⟨r,1,none⟩) hr v1).setCell (p := ⟨r,2,none⟩) hr v2).setCell (p := ⟨r,3,none⟩) hr v3).setCell (p := ⟨r,4,none⟩) hr v4).setCell (p := ⟨r,5,none⟩) hr v5).setCell (p := ⟨r,6,none⟩) hr v6)
def NP (w w' : World) : Prop := ∀ (k : Nat) (cur : Array Value) (t : TypeId) (fz : Nat × Nat),w.heap[k]? = some (Obj.cells cur t fz) → t ≠ 67 → w'.heap[k]? = some (Obj.cells cur t fz)
theorem NP.refl (w : World) : NP w w := fun _ _ _ _ h _ => h
theorem NP.trans {a b c : World} (h : NP a b) (k : NP b c) : NP a c := fun i cur t fz h1 h2 => k i cur t fz (h i cur t fz h1 h2) h2
theorem NP.of_below {w w' : World} (h : Below w.heap.size w w') : NP w w' := fun k cur t fz h1 _ => (h.block k (lt_of_heap h1)).trans h1
theorem NP.of_grown {base : Nat} {w w' : World} {v : Value} {l : List (Int × Int)} (hR : Row base w v l) (hg : w.grownBy w' v.ownBlock) : NP w w' := fun k cur t fz h1 h2 => by
 refine (hg.block k (lt_of_heap h1) (fun e => ?_)).trans h1
 obtain ⟨cur',hc⟩ := heap_of_row hR k e.symm
 rw [h1] at hc
 injection hc with hc
 injection hc with _ hc2
 exact h2 hc2
theorem Row.other {base p o : Nat} {w : World} {v u : Value} {l : List (Int × Int)} {cur : Array Value} {t : TypeId} {fz : Nat × Nat} (h : Row base w v l) (hp : w.heap[p]? = some (Obj.cells cur t fz)) (ht : t ≠ 67) : Row base (w.setCell ⟨p,o,none⟩ u) v l := by
 refine ownsRow_of h fun g hg => Below.heap_setCell _ _ _ _ (fun e => ?_)
 obtain ⟨cur',hc⟩ := heap_of_row h g hg
 simp at e
 subst e
 rw [hp] at hc
 injection hc with hc
 injection hc with _ hc2
 exact ht hc2
theorem OutAt.set {w : World} {O : Nat} {id la ki wi pr : Int} {v v' : Value} {lab : ByteArray} (h : OutAt w O id la ki wi v lab pr) : OutAt (w.setCell ⟨O,4,none⟩ v') O id la ki wi v' lab pr := by
 have := heap_setCell_same w O 4 _ 39 v' h
 simpa [OutAt] using this
theorem OutAt.below {w w' : World} {O : Nat} {id la ki wi pr : Int} {v : Value} {lab : ByteArray} (h : OutAt w O id la ki wi v lab pr) (hb : Below w.heap.size w w') : OutAt w' O id la ki wi v lab pr := (hb.block O h.lt).trans h
theorem OutAt.np {w w' : World} {O : Nat} {id la ki wi pr : Int} {v : Value} {lab : ByteArray} (h : OutAt w O id la ki wi v lab pr) (hn : NP w w') : OutAt w' O id la ki wi v lab pr := hn _ _ _ _ h (by decide)
theorem Row.out {base : Nat} {w : World} {O : Nat} {id la ki wi pr : Int} {v u x : Value} {lab : ByteArray} {l : List (Int × Int)} (h : Row base w u l) (ho : OutAt w O id la ki wi v lab pr) : Row base (w.setCell ⟨O,4,none⟩ x) u l := Row.other h ho (by decide)
theorem Row.wide {base B : Nat} {w : World} {v : Value} {l : List (Int × Int)} (h : Row base w v l) (hB : B ≤ base) : Row B w v l := by
 obtain ⟨h1,h2 | ⟨g,cp,cur,hv,hg,hr⟩⟩ := h
 ·exact ⟨h1, .inl h2⟩
 ·exact ⟨h1, .inr ⟨g,cp,cur,hv,by omega,hr⟩⟩
theorem Row.no (base : Nat) (w : World) : Row base w (.slice none 0 0) [] := World.ownsRow_nil _ _ _ _
theorem Row.at {base : Nat} {w : World} {v : Value} {l : List (Int × Int)} (h : Row base w v l) (hne : 0 < l.length) :
  ∃ g cap,v = .slice (some ⟨g,0,none⟩) l.length cap ∧ base ≤ g ∧ g < w.heap.size ∧ l.length ≤ cap ∧ PtsAt w g 0 l.length (px l) (py l) := by
 obtain ⟨a,cap,hv,hc,h0 | ⟨b,rfl,hb,hl,hp,ht⟩⟩ := h.own
 ·omega
 ·exact ⟨b,cap,hv,hb,hl,hc,hp⟩
theorem Row.set7 {base B r : Nat} {w : World} {v : Value} {l : List (Int × Int)} {v0 v1 v2 v3 v4 v5 v6 : Value} (h : Row base w v l) (hB : B ≤ base) (hr : r < base) : Row B ((((((((w.setCell ⟨r,0,none⟩ v0).setCell ⟨r,1,none⟩ v1).setCell ⟨r,2,none⟩ v2).setCell ⟨r,3,none⟩ v3).setCell ⟨r,4,none⟩ v4).setCell ⟨r,5,none⟩ v5).setCell ⟨r,6,none⟩ v6)) v l := by
 obtain ⟨h1,h2 | ⟨g,cp,cur,hv,hg,hh,hr'⟩⟩ := h
 ·exact ⟨h1, .inl h2⟩
 ·refine ⟨h1, .inr ⟨g,cp,cur,hv,by omega,?_,hr'⟩⟩
  rw [Below.heap_setCell _ _ _ _ (by simp; omega),Below.heap_setCell _ _ _ _ (by simp; omega),Below.heap_setCell _ _ _ _ (by simp; omega),Below.heap_setCell _ _ _ _ (by simp; omega),Below.heap_setCell _ _ _ _ (by simp; omega),Below.heap_setCell _ _ _ _ (by simp; omega),Below.heap_setCell _ _ _ _ (by simp; omega)]
  exact hh
structure MidB (lo hi : Nat) (w w' : World) : Prop where
 os : w'.os = w.os
 tape : w'.tape = w.tape
 output : w'.output = w.output
 size : w.heap.size ≤ w'.heap.size
 block : ∀ k,k < w.heap.size → (k < lo ∨ hi ≤ k) → w'.heap[k]? = w.heap[k]?
theorem MidB.refl (lo hi : Nat) (w : World) : MidB lo hi w w := ⟨rfl,rfl,rfl,Nat.le_refl _,fun _ _ _ => rfl⟩
theorem MidB.trans {lo hi : Nat} {a b c : World} (h : MidB lo hi a b) (k : MidB lo hi b c) : MidB lo hi a c :=
 ⟨k.os.trans h.os,k.tape.trans h.tape,k.output.trans h.output,Nat.le_trans h.size k.size,fun i hi ho => (k.block i (Nat.lt_of_lt_of_le hi h.size) ho).trans (h.block i hi ho)⟩
theorem MidB.of_below {lo hi : Nat} {a b : World} (h : Below a.heap.size a b) : MidB lo hi a b := ⟨h.os,h.tape,h.output,h.size,fun i hi _ => h.block i hi⟩
theorem MidB.of_grown {lo hi s : Nat} {a b : World} (h : a.grownBy b (some s)) (h1 : lo ≤ s) (h2 : s < hi) : MidB lo hi a b :=
 ⟨h.os,h.tape,h.output,h.size,fun j hj ho => h.block j hj (fun e => by injection e with e; omega)⟩
theorem MidB.set {lo hi s : Nat} {a b : World} (h : MidB lo hi a b) (h1 : lo ≤ s) (h2 : s < hi) (o : Nat) (v : Value) : MidB lo hi a (b.setCell ⟨s,o,none⟩ v) :=
 h.trans (MidB.of_grown (grown_set (grown_refl b (some s)) o v) h1 h2)
theorem MidB.below {lo hi : Nat} {a b : World} (h : MidB lo hi a b) (hl : lo ≤ a.heap.size) : Below lo a b := ⟨h.os,h.tape,h.output,h.size,fun k hk => h.block k (by omega) (.inl hk)⟩
theorem MidB.cell {lo hi : Nat} {a b : World} (h : MidB lo hi a b) {p o : Nat} {v : Value} (hc : a.cell? ⟨p,o,none⟩ = some v) (ho : p < lo ∨ hi ≤ p) : b.cell? ⟨p,o,none⟩ = some v := by
 have hp := World.block_lt_of_cell? _ _ hc
 have he := h.block p hp ho
 have hg : a.grownBy (b) none ∨ True := .inr trivial
 unfold World.cell? at hc ⊢
 simp only [he]
 exact hc
theorem MidB.there {lo hi : Nat} {a b : World} (h : MidB lo hi a b) {p n : Nat} (hT : There a p n) (ho : p < lo ∨ hi ≤ p) : There b p n := fun o hn => by
 obtain ⟨v,hv⟩ := (hT o hn).1
 refine ⟨⟨v,h.cell hv ho⟩,?_⟩
 have he := h.block p (World.block_lt_of_cell? _ _ hv) ho
 have hz := (hT o hn).2
 unfold World.frozen? at hz ⊢
 simp only [he]
 exact hz
theorem There.grown {w w' : World} {p n s : Nat} (h : There w p n) (hg : w.grownBy w' (some s)) (hs : p ≠ s) : There w' p n := fun o hn => by
 obtain ⟨v,hv⟩ := (h o hn).1
 refine ⟨⟨v,gr_cell hg hv hs⟩,?_⟩
 have he := hg.block p (World.block_lt_of_cell? _ _ hv) (fun e => hs (by injection e))
 have hz := (h o hn).2
 unfold World.frozen? at hz ⊢
 simp only [he]
 exact hz
def isNearB (px py ax ay bx by' r : Int) : Bool := okP px py && (okP ax ay && (okP bx by' && (inB r 0 4096 && nearB px py ax ay bx by' r)))
theorem dist_comm (ax ay bx by' : Int) : distI ax ay bx by' = distI bx by' ax ay := by
 unfold distI
 rw [← Int.neg_sub bx ax, ← Int.neg_sub by' ay,Int.neg_mul_neg,Int.neg_mul_neg]
theorem along_comm (px py ax ay bx by' : Int) : alongI px py ax ay bx by' = (bx - ax) * (px - ax) + (by' - ay) * (py - ay) := by
 unfold alongI
 rw [Int.mul_comm (px - ax),Int.mul_comm (py - ay)]
theorem along_same (px py ax ay : Int) : alongI px py ax ay ax ay = 0 := by simp [alongI]
theorem dist_def (ax ay bx by' : Int) : (bx - ax) * (bx - ax) + (by' - ay) * (by' - ay) = distI ax ay bx by' := rfl
theorem ret_two {a b c d : Int} (h : a = b) (k : c = d) : Ending.returned (.tuple #[.int .i64 a, .int .i64 c]) = .returned (.tuple #[.int .i64 b, .int .i64 d]) := by rw [h,k]
theorem gapOf_same (px py ax ay bx by' : Int) (w : World) (hp : okP px py = true) (ha : okP ax ay = true) (hb : okP bx by' = true) (heq : ∀ w,(Op.equalIn 10000 204 (.agg #[.int .i64 ax, .int .i64 ay]) (.agg #[.int .i64 bx, .int .i64 by'])).run Tryz.prog w = .ok true w) :
  Calls Tryz.prog 162 #[.agg #[.int .i64 px, .int .i64 py], .agg #[.int .i64 ax, .int .i64 ay], .agg #[.int .i64 bx, .int .i64 by']] w fun e w' => e = .returned (.tuple #[.int .i64 ((px - ax) * (px - ax) + (py - ay) * (py - ay)), .int .i64 (1)]) ∧ Below w.heap.size w w' := by
 have HP : Hid _ := hp
 have HA : Hid _ := ha
 have HB : Hid _ := hb
 clear hp ha hb
 go_enter Tryz.func162,Tryz.ntmps162
 go_wp2_with fail
 generalize hW : (((w.alloc _).alloc _).alloc _ : World) = W
 have hB0 : Below w.heap.size w W := by subst hW; (repeat (first|exact Qr _ _|assumption|refine Qd ?_|refine Qa ?_ _|refine Qt ?_|refine Qs ?_ _|refine Qo ?_ ?_ _ _))
 have c00 : ∀ W',Below W.heap.size W W' → W'.cell? ⟨w.heap.size,0,none⟩ = some (.int .i64 px) := fun W' h => by
  rw [h.cell (by subst hW; simp <;> omega)]; subst hW; simp [go_sem]
 have c01 : ∀ W',Below W.heap.size W W' → W'.cell? ⟨w.heap.size,1,none⟩ = some (.int .i64 py) := fun W' h => by
  rw [h.cell (by subst hW; simp <;> omega)]; subst hW; simp [go_sem]
 have c10 : ∀ W',Below W.heap.size W W' → W'.cell? ⟨w.heap.size + 1,0,none⟩ = some (.int .i64 ax) := fun W' h => by
  rw [h.cell (by subst hW; simp <;> omega)]; subst hW; simp [go_sem]
 have c11 : ∀ W',Below W.heap.size W W' → W'.cell? ⟨w.heap.size + 1,1,none⟩ = some (.int .i64 ay) := fun W' h => by
  rw [h.cell (by subst hW; simp <;> omega)]; subst hW; simp [go_sem]
 have c20 : ∀ W',Below W.heap.size W W' → W'.cell? ⟨w.heap.size + 1 + 1,0,none⟩ = some (.int .i64 bx) := fun W' h => by
  rw [h.cell (by subst hW; simp <;> omega)]; subst hW; simp [go_sem]
 have c21 : ∀ W',Below W.heap.size W W' → W'.cell? ⟨w.heap.size + 1 + 1,1,none⟩ = some (.int .i64 by') := fun W' h => by
  rw [h.cell (by subst hW; simp <;> omega)]; subst hW; simp [go_sem]
 clear hW
 have HB0 : Hid (Below w.heap.size w W) := hB0
 clear hB0
 have hr : Below W.heap.size W W := Below.refl _ _
 go_wp2_with (first
  | (go_at_call 171; refine (wayOf_any _ _ _ _ _ (by first | exact HA.out | exact HB.out) (by first | exact HP.out | exact HB.out)).mono ?_; rintro e w' ⟨rfl,hb⟩; have hbn : Below W.heap.size W w' := (by (repeat (first|exact Qr _ _|assumption|refine Qd ?_|refine Qa ?_ _|refine Qt ?_|refine Qs ?_ _|refine Qo ?_ ?_ _ _))))
  | (go_at_call 170; refine (squareOf_any _ _ _ (by first | exact way_df HA.out HP.out | exact way_df HB.out HP.out | exact way_df HA.out HB.out)).mono ?_; rintro e w' ⟨rfl,hb⟩; have hbn : Below W.heap.size W w' := (by (repeat (first|exact Qr _ _|assumption|refine Qd ?_|refine Qa ?_ _|refine Qt ?_|refine Qs ?_ _|refine Qo ?_ ?_ _ _)))))
 go_ret2
 exact ⟨rfl,by have HB1 := HB0.out; (repeat (first|exact Qr _ _|assumption|refine Qd ?_|refine Qa ?_ _|refine Qt ?_|refine Qs ?_ _|refine Qo ?_ ?_ _ _))⟩
theorem gapOf_low (px py ax ay bx by' : Int) (w : World) (hp : okP px py = true) (ha : okP ax ay = true) (hb : okP bx by' = true) (heq : ∀ w,(Op.equalIn 10000 204 (.agg #[.int .i64 ax, .int .i64 ay]) (.agg #[.int .i64 bx, .int .i64 by'])).run Tryz.prog w = .ok false w) (c1 : (bx - ax) * (px - ax) + (by' - ay) * (py - ay) ≤ 0) :
  Calls Tryz.prog 162 #[.agg #[.int .i64 px, .int .i64 py], .agg #[.int .i64 ax, .int .i64 ay], .agg #[.int .i64 bx, .int .i64 by']] w fun e w' => e = .returned (.tuple #[.int .i64 ((px - ax) * (px - ax) + (py - ay) * (py - ay)), .int .i64 (1)]) ∧ Below w.heap.size w w' := by
 have HP : Hid _ := hp
 have HA : Hid _ := ha
 have HB : Hid _ := hb
 clear hp ha hb
 go_enter Tryz.func162,Tryz.ntmps162
 go_wp2_with fail
 generalize hW : (((w.alloc _).alloc _).alloc _ : World) = W
 have hB0 : Below w.heap.size w W := by subst hW; (repeat (first|exact Qr _ _|assumption|refine Qd ?_|refine Qa ?_ _|refine Qt ?_|refine Qs ?_ _|refine Qo ?_ ?_ _ _))
 have c00 : ∀ W',Below W.heap.size W W' → W'.cell? ⟨w.heap.size,0,none⟩ = some (.int .i64 px) := fun W' h => by
  rw [h.cell (by subst hW; simp <;> omega)]; subst hW; simp [go_sem]
 have c01 : ∀ W',Below W.heap.size W W' → W'.cell? ⟨w.heap.size,1,none⟩ = some (.int .i64 py) := fun W' h => by
  rw [h.cell (by subst hW; simp <;> omega)]; subst hW; simp [go_sem]
 have c10 : ∀ W',Below W.heap.size W W' → W'.cell? ⟨w.heap.size + 1,0,none⟩ = some (.int .i64 ax) := fun W' h => by
  rw [h.cell (by subst hW; simp <;> omega)]; subst hW; simp [go_sem]
 have c11 : ∀ W',Below W.heap.size W W' → W'.cell? ⟨w.heap.size + 1,1,none⟩ = some (.int .i64 ay) := fun W' h => by
  rw [h.cell (by subst hW; simp <;> omega)]; subst hW; simp [go_sem]
 have c20 : ∀ W',Below W.heap.size W W' → W'.cell? ⟨w.heap.size + 1 + 1,0,none⟩ = some (.int .i64 bx) := fun W' h => by
  rw [h.cell (by subst hW; simp <;> omega)]; subst hW; simp [go_sem]
 have c21 : ∀ W',Below W.heap.size W W' → W'.cell? ⟨w.heap.size + 1 + 1,1,none⟩ = some (.int .i64 by') := fun W' h => by
  rw [h.cell (by subst hW; simp <;> omega)]; subst hW; simp [go_sem]
 clear hW
 have HB0 : Hid (Below w.heap.size w W) := hB0
 clear hB0
 have hr : Below W.heap.size W W := Below.refl _ _
 go_wp2_with (first
  | (go_at_call 171; refine (wayOf_any _ _ _ _ _ (by first | exact HA.out | exact HB.out) (by first | exact HP.out | exact HB.out)).mono ?_; rintro e w' ⟨rfl,hb⟩; have hbn : Below W.heap.size W w' := (by (repeat (first|exact Qr _ _|assumption|refine Qd ?_|refine Qa ?_ _|refine Qt ?_|refine Qs ?_ _|refine Qo ?_ ?_ _ _)))))
 have hl : w'.heap.size < w'.heap.size + 1 := by omega
 generalize hV : (w'.alloc _ : World) = V
 have hWV : Below W.heap.size W V := by subst hV; (repeat (first|exact Qr _ _|assumption|refine Qd ?_|refine Qa ?_ _|refine Qt ?_|refine Qs ?_ _|refine Qo ?_ ?_ _ _))
 have g0 : ∀ W',Below V.heap.size V W' → W'.cell? ⟨w'.heap.size,0,none⟩ = some (.int .i64 (bx - ax)) := fun W' h => by
  rw [h.cell (by subst hV; simp)]; subst hV; simp [go_sem]
 have g1 : ∀ W',Below V.heap.size V W' → W'.cell? ⟨w'.heap.size,1,none⟩ = some (.int .i64 (by' - ay)) := fun W' h => by
  rw [h.cell (by subst hV; simp)]; subst hV; simp [go_sem]
 clear hV hl
 have HVW : Hid (∀ W',Below V.heap.size V W' → Below W.heap.size W W') := fun W' h => bl_then hWV h
 replace c00 := fun W' h => c00 W' (HVW.out W' h)
 replace c01 := fun W' h => c01 W' (HVW.out W' h)
 replace c10 := fun W' h => c10 W' (HVW.out W' h)
 replace c11 := fun W' h => c11 W' (HVW.out W' h)
 replace c20 := fun W' h => c20 W' (HVW.out W' h)
 replace c21 := fun W' h => c21 W' (HVW.out W' h)
 have HBV : Hid (Below w.heap.size w V) := bl_then HB0.out hWV
 clear hr hb hbn hWV
 go_region_held3 (fun W' => Below V.heap.size V W') ((repeat (first|exact Qr _ _|assumption|refine Qd ?_|refine Qa ?_ _|refine Qt ?_|refine Qs ?_ _|refine Qo ?_ ?_ _ _)))
  (first
   | (go_at_call 171; refine (wayOf_any _ _ _ _ _ HA.out HP.out).mono ?_; rintro e w1 ⟨rfl,hb⟩)
   | (go_at_call 172; refine (dotOf_any _ _ _ _ _ (way_df HA.out HB.out) (way_df HA.out HP.out)).mono ?_; rintro e w1 ⟨rfl,hb⟩)
   | (go_at_call 170; refine (squareOf_any _ _ _ (way_df HA.out HB.out)).mono ?_; rintro e w1 ⟨rfl,hb⟩))
 go_wp2_with (first
  | (go_at_call 171; refine (wayOf_any _ _ _ _ _ (by first | exact HA.out | exact HB.out) (by exact HP.out)).mono ?_; rintro e w2 ⟨rfl,hbz⟩; have hbn : Below V.heap.size V w2 := (by (repeat (first|exact Qr _ _|assumption|refine Qd ?_|refine Qa ?_ _|refine Qt ?_|refine Qs ?_ _|refine Qo ?_ ?_ _ _))))
  | (go_at_call 170; refine (squareOf_any _ _ _ (by first | exact way_df HA.out HP.out | exact way_df HB.out HP.out)).mono ?_; rintro e w2 ⟨rfl,hbz⟩; have hbn : Below V.heap.size V w2 := (by (repeat (first|exact Qr _ _|assumption|refine Qd ?_|refine Qa ?_ _|refine Qt ?_|refine Qs ?_ _|refine Qo ?_ ?_ _ _)))))
 go_ret2
 exact ⟨rfl,by have HB1 := HBV.out; (repeat (first|exact Qr _ _|assumption|refine Qd ?_|refine Qa ?_ _|refine Qt ?_|refine Qs ?_ _|refine Qo ?_ ?_ _ _))⟩
theorem gapOf_high (px py ax ay bx by' : Int) (w : World) (hp : okP px py = true) (ha : okP ax ay = true) (hb : okP bx by' = true) (heq : ∀ w,(Op.equalIn 10000 204 (.agg #[.int .i64 ax, .int .i64 ay]) (.agg #[.int .i64 bx, .int .i64 by'])).run Tryz.prog w = .ok false w) (c1 : ¬ (bx - ax) * (px - ax) + (by' - ay) * (py - ay) ≤ 0) (c2 : (bx - ax) * (bx - ax) + (by' - ay) * (by' - ay) ≤ (bx - ax) * (px - ax) + (by' - ay) * (py - ay)) :
  Calls Tryz.prog 162 #[.agg #[.int .i64 px, .int .i64 py], .agg #[.int .i64 ax, .int .i64 ay], .agg #[.int .i64 bx, .int .i64 by']] w fun e w' => e = .returned (.tuple #[.int .i64 ((px - bx) * (px - bx) + (py - by') * (py - by')), .int .i64 (1)]) ∧ Below w.heap.size w w' := by
 have HP : Hid _ := hp
 have HA : Hid _ := ha
 have HB : Hid _ := hb
 clear hp ha hb
 go_enter Tryz.func162,Tryz.ntmps162
 go_wp2_with fail
 generalize hW : (((w.alloc _).alloc _).alloc _ : World) = W
 have hB0 : Below w.heap.size w W := by subst hW; (repeat (first|exact Qr _ _|assumption|refine Qd ?_|refine Qa ?_ _|refine Qt ?_|refine Qs ?_ _|refine Qo ?_ ?_ _ _))
 have c00 : ∀ W',Below W.heap.size W W' → W'.cell? ⟨w.heap.size,0,none⟩ = some (.int .i64 px) := fun W' h => by
  rw [h.cell (by subst hW; simp <;> omega)]; subst hW; simp [go_sem]
 have c01 : ∀ W',Below W.heap.size W W' → W'.cell? ⟨w.heap.size,1,none⟩ = some (.int .i64 py) := fun W' h => by
  rw [h.cell (by subst hW; simp <;> omega)]; subst hW; simp [go_sem]
 have c10 : ∀ W',Below W.heap.size W W' → W'.cell? ⟨w.heap.size + 1,0,none⟩ = some (.int .i64 ax) := fun W' h => by
  rw [h.cell (by subst hW; simp <;> omega)]; subst hW; simp [go_sem]
 have c11 : ∀ W',Below W.heap.size W W' → W'.cell? ⟨w.heap.size + 1,1,none⟩ = some (.int .i64 ay) := fun W' h => by
  rw [h.cell (by subst hW; simp <;> omega)]; subst hW; simp [go_sem]
 have c20 : ∀ W',Below W.heap.size W W' → W'.cell? ⟨w.heap.size + 1 + 1,0,none⟩ = some (.int .i64 bx) := fun W' h => by
  rw [h.cell (by subst hW; simp <;> omega)]; subst hW; simp [go_sem]
 have c21 : ∀ W',Below W.heap.size W W' → W'.cell? ⟨w.heap.size + 1 + 1,1,none⟩ = some (.int .i64 by') := fun W' h => by
  rw [h.cell (by subst hW; simp <;> omega)]; subst hW; simp [go_sem]
 clear hW
 have HB0 : Hid (Below w.heap.size w W) := hB0
 clear hB0
 have hr : Below W.heap.size W W := Below.refl _ _
 go_wp2_with (first
  | (go_at_call 171; refine (wayOf_any _ _ _ _ _ (by first | exact HA.out | exact HB.out) (by first | exact HP.out | exact HB.out)).mono ?_; rintro e w' ⟨rfl,hb⟩; have hbn : Below W.heap.size W w' := (by (repeat (first|exact Qr _ _|assumption|refine Qd ?_|refine Qa ?_ _|refine Qt ?_|refine Qs ?_ _|refine Qo ?_ ?_ _ _)))))
 have hl : w'.heap.size < w'.heap.size + 1 := by omega
 generalize hV : (w'.alloc _ : World) = V
 have hWV : Below W.heap.size W V := by subst hV; (repeat (first|exact Qr _ _|assumption|refine Qd ?_|refine Qa ?_ _|refine Qt ?_|refine Qs ?_ _|refine Qo ?_ ?_ _ _))
 have g0 : ∀ W',Below V.heap.size V W' → W'.cell? ⟨w'.heap.size,0,none⟩ = some (.int .i64 (bx - ax)) := fun W' h => by
  rw [h.cell (by subst hV; simp)]; subst hV; simp [go_sem]
 have g1 : ∀ W',Below V.heap.size V W' → W'.cell? ⟨w'.heap.size,1,none⟩ = some (.int .i64 (by' - ay)) := fun W' h => by
  rw [h.cell (by subst hV; simp)]; subst hV; simp [go_sem]
 clear hV hl
 have HVW : Hid (∀ W',Below V.heap.size V W' → Below W.heap.size W W') := fun W' h => bl_then hWV h
 replace c00 := fun W' h => c00 W' (HVW.out W' h)
 replace c01 := fun W' h => c01 W' (HVW.out W' h)
 replace c10 := fun W' h => c10 W' (HVW.out W' h)
 replace c11 := fun W' h => c11 W' (HVW.out W' h)
 replace c20 := fun W' h => c20 W' (HVW.out W' h)
 replace c21 := fun W' h => c21 W' (HVW.out W' h)
 have HBV : Hid (Below w.heap.size w V) := bl_then HB0.out hWV
 clear hr hb hbn hWV
 go_region_held3 (fun W' => Below V.heap.size V W') ((repeat (first|exact Qr _ _|assumption|refine Qd ?_|refine Qa ?_ _|refine Qt ?_|refine Qs ?_ _|refine Qo ?_ ?_ _ _)))
  (first
   | (go_at_call 171; refine (wayOf_any _ _ _ _ _ HA.out HP.out).mono ?_; rintro e w1 ⟨rfl,hb⟩)
   | (go_at_call 172; refine (dotOf_any _ _ _ _ _ (way_df HA.out HB.out) (way_df HA.out HP.out)).mono ?_; rintro e w1 ⟨rfl,hb⟩)
   | (go_at_call 170; refine (squareOf_any _ _ _ (way_df HA.out HB.out)).mono ?_; rintro e w1 ⟨rfl,hb⟩))
 go_wp2_with (first
  | (go_at_call 171; refine (wayOf_any _ _ _ _ _ (by first | exact HA.out | exact HB.out) (by exact HP.out)).mono ?_; rintro e w2 ⟨rfl,hbz⟩; have hbn : Below V.heap.size V w2 := (by (repeat (first|exact Qr _ _|assumption|refine Qd ?_|refine Qa ?_ _|refine Qt ?_|refine Qs ?_ _|refine Qo ?_ ?_ _ _))))
  | (go_at_call 170; refine (squareOf_any _ _ _ (by first | exact way_df HA.out HP.out | exact way_df HB.out HP.out)).mono ?_; rintro e w2 ⟨rfl,hbz⟩; have hbn : Below V.heap.size V w2 := (by (repeat (first|exact Qr _ _|assumption|refine Qd ?_|refine Qa ?_ _|refine Qt ?_|refine Qs ?_ _|refine Qo ?_ ?_ _ _)))))
 go_ret2
 exact ⟨rfl,by have HB1 := HBV.out; (repeat (first|exact Qr _ _|assumption|refine Qd ?_|refine Qa ?_ _|refine Qt ?_|refine Qs ?_ _|refine Qo ?_ ?_ _ _))⟩
theorem gapOf_mid (px py ax ay bx by' : Int) (w : World) (hp : okP px py = true) (ha : okP ax ay = true) (hb : okP bx by' = true) (heq : ∀ w,(Op.equalIn 10000 204 (.agg #[.int .i64 ax, .int .i64 ay]) (.agg #[.int .i64 bx, .int .i64 by'])).run Tryz.prog w = .ok false w) (c1 : ¬ (bx - ax) * (px - ax) + (by' - ay) * (py - ay) ≤ 0) (c2 : ¬ (bx - ax) * (bx - ax) + (by' - ay) * (by' - ay) ≤ (bx - ax) * (px - ax) + (by' - ay) * (py - ay)) :
  Calls Tryz.prog 162 #[.agg #[.int .i64 px, .int .i64 py], .agg #[.int .i64 ax, .int .i64 ay], .agg #[.int .i64 bx, .int .i64 by']] w fun e w' => e = .returned (.tuple #[.int .i64 (crossI ax ay bx by' px py * crossI ax ay bx by' px py), .int .i64 ((bx - ax) * (bx - ax) + (by' - ay) * (by' - ay))]) ∧ Below w.heap.size w w' := by
 obtain ⟨x1,x2⟩ := cross_bd ha hb hp
 obtain ⟨x3,x4⟩ := mul_bd (a := crossI ax ay bx by' px py) (b := crossI ax ay bx by' px py) (B := 52428800) (C := 52428800) (by omega) (by omega) (by omega) (by omega) (by omega)
 have HP : Hid _ := hp
 have HA : Hid _ := ha
 have HB : Hid _ := hb
 clear hp ha hb
 go_enter Tryz.func162,Tryz.ntmps162
 go_wp2_with fail
 generalize hW : (((w.alloc _).alloc _).alloc _ : World) = W
 have hB0 : Below w.heap.size w W := by subst hW; (repeat (first|exact Qr _ _|assumption|refine Qd ?_|refine Qa ?_ _|refine Qt ?_|refine Qs ?_ _|refine Qo ?_ ?_ _ _))
 have c00 : ∀ W',Below W.heap.size W W' → W'.cell? ⟨w.heap.size,0,none⟩ = some (.int .i64 px) := fun W' h => by
  rw [h.cell (by subst hW; simp <;> omega)]; subst hW; simp [go_sem]
 have c01 : ∀ W',Below W.heap.size W W' → W'.cell? ⟨w.heap.size,1,none⟩ = some (.int .i64 py) := fun W' h => by
  rw [h.cell (by subst hW; simp <;> omega)]; subst hW; simp [go_sem]
 have c10 : ∀ W',Below W.heap.size W W' → W'.cell? ⟨w.heap.size + 1,0,none⟩ = some (.int .i64 ax) := fun W' h => by
  rw [h.cell (by subst hW; simp <;> omega)]; subst hW; simp [go_sem]
 have c11 : ∀ W',Below W.heap.size W W' → W'.cell? ⟨w.heap.size + 1,1,none⟩ = some (.int .i64 ay) := fun W' h => by
  rw [h.cell (by subst hW; simp <;> omega)]; subst hW; simp [go_sem]
 have c20 : ∀ W',Below W.heap.size W W' → W'.cell? ⟨w.heap.size + 1 + 1,0,none⟩ = some (.int .i64 bx) := fun W' h => by
  rw [h.cell (by subst hW; simp <;> omega)]; subst hW; simp [go_sem]
 have c21 : ∀ W',Below W.heap.size W W' → W'.cell? ⟨w.heap.size + 1 + 1,1,none⟩ = some (.int .i64 by') := fun W' h => by
  rw [h.cell (by subst hW; simp <;> omega)]; subst hW; simp [go_sem]
 clear hW
 have HB0 : Hid (Below w.heap.size w W) := hB0
 clear hB0
 have hr : Below W.heap.size W W := Below.refl _ _
 go_wp2_with (first
  | (go_at_call 171; refine (wayOf_any _ _ _ _ _ (by first | exact HA.out | exact HB.out) (by first | exact HP.out | exact HB.out)).mono ?_; rintro e w' ⟨rfl,hb⟩; have hbn : Below W.heap.size W w' := (by (repeat (first|exact Qr _ _|assumption|refine Qd ?_|refine Qa ?_ _|refine Qt ?_|refine Qs ?_ _|refine Qo ?_ ?_ _ _)))))
 have hl : w'.heap.size < w'.heap.size + 1 := by omega
 generalize hV : (w'.alloc _ : World) = V
 have hWV : Below W.heap.size W V := by subst hV; (repeat (first|exact Qr _ _|assumption|refine Qd ?_|refine Qa ?_ _|refine Qt ?_|refine Qs ?_ _|refine Qo ?_ ?_ _ _))
 have g0 : ∀ W',Below V.heap.size V W' → W'.cell? ⟨w'.heap.size,0,none⟩ = some (.int .i64 (bx - ax)) := fun W' h => by
  rw [h.cell (by subst hV; simp)]; subst hV; simp [go_sem]
 have g1 : ∀ W',Below V.heap.size V W' → W'.cell? ⟨w'.heap.size,1,none⟩ = some (.int .i64 (by' - ay)) := fun W' h => by
  rw [h.cell (by subst hV; simp)]; subst hV; simp [go_sem]
 clear hV hl
 have HVW : Hid (∀ W',Below V.heap.size V W' → Below W.heap.size W W') := fun W' h => bl_then hWV h
 replace c00 := fun W' h => c00 W' (HVW.out W' h)
 replace c01 := fun W' h => c01 W' (HVW.out W' h)
 replace c10 := fun W' h => c10 W' (HVW.out W' h)
 replace c11 := fun W' h => c11 W' (HVW.out W' h)
 replace c20 := fun W' h => c20 W' (HVW.out W' h)
 replace c21 := fun W' h => c21 W' (HVW.out W' h)
 have HBV : Hid (Below w.heap.size w V) := bl_then HB0.out hWV
 clear hr hb hbn hWV
 go_region_held3 (fun W' => Below V.heap.size V W') ((repeat (first|exact Qr _ _|assumption|refine Qd ?_|refine Qa ?_ _|refine Qt ?_|refine Qs ?_ _|refine Qo ?_ ?_ _ _)))
  (first
   | (go_at_call 171; refine (wayOf_any _ _ _ _ _ HA.out HP.out).mono ?_; rintro e w1 ⟨rfl,hb⟩)
   | (go_at_call 172; refine (dotOf_any _ _ _ _ _ (way_df HA.out HB.out) (way_df HA.out HP.out)).mono ?_; rintro e w1 ⟨rfl,hb⟩)
   | (go_at_call 170; refine (squareOf_any _ _ _ (way_df HA.out HB.out)).mono ?_; rintro e w1 ⟨rfl,hb⟩))
 go_wp2_with (first
  | (go_at_call 173; refine (turnOf_any _ _ _ _ _ _ _ HA.out HB.out HP.out).mono ?_; rintro e w2 ⟨rfl,hbz⟩; have hbn : Below V.heap.size V w2 := (by (repeat (first|exact Qr _ _|assumption|refine Qd ?_|refine Qa ?_ _|refine Qt ?_|refine Qs ?_ _|refine Qo ?_ ?_ _ _)))))
 go_ret2
 exact ⟨rfl,by have HB1 := HBV.out; (repeat (first|exact Qr _ _|assumption|refine Qd ?_|refine Qa ?_ _|refine Qt ?_|refine Qs ?_ _|refine Qo ?_ ?_ _ _))⟩
theorem gapOf_any (px py ax ay bx by' : Int) (w : World) (hp : okP px py = true) (ha : okP ax ay = true) (hb : okP bx by' = true) :
  Calls Tryz.prog 162 #[.agg #[.int .i64 px, .int .i64 py], .agg #[.int .i64 ax, .int .i64 ay], .agg #[.int .i64 bx, .int .i64 by']] w fun e w' => e = .returned (.tuple #[.int .i64 (overI px py ax ay bx by'), .int .i64 (underI px py ax ay bx by')]) ∧ Below w.heap.size w w' := by
 have heq := fun (w : World) => equalIn_pair 9998 ax ay bx by' w
 by_cases e1 : ax = bx ∧ ay = by'
 ·obtain ⟨rfl,rfl⟩ := e1
  refine (gapOf_same px py ax ay ax ay w hp ha hb (fun w => by rw [heq w]; simp)).mono ?_
  rintro e w' ⟨rfl,h⟩
  exact ⟨ret_two (by rw [overI,along_same,if_pos (Int.le_refl 0),dist_comm]; rfl) (by rw [underI,along_same,if_pos (Int.le_refl 0)]),h⟩
 ·have hf : ((ax == bx) && (ay == by')) = false := by
   by_cases q : ax = bx
   ·have : ¬ ay = by' := fun h => e1 ⟨q,h⟩
    simp [q,this]
   ·simp [q]
  by_cases c1 : (bx - ax) * (px - ax) + (by' - ay) * (py - ay) ≤ 0
  ·refine (gapOf_low px py ax ay bx by' w hp ha hb (fun w => by rw [heq w,hf]) c1).mono ?_
   rintro e w' ⟨rfl,h⟩
   exact ⟨ret_two (by rw [overI,along_comm,if_pos c1,dist_comm]; rfl) (by rw [underI,along_comm,if_pos c1]),h⟩
  ·by_cases c2 : (bx - ax) * (bx - ax) + (by' - ay) * (by' - ay) ≤ (bx - ax) * (px - ax) + (by' - ay) * (py - ay)
   ·refine (gapOf_high px py ax ay bx by' w hp ha hb (fun w => by rw [heq w,hf]) c1 c2).mono ?_
    rintro e w' ⟨rfl,h⟩
    exact ⟨ret_two (by rw [overI,along_comm,if_neg c1,if_pos (by rw [← dist_def]; exact c2),dist_comm]; rfl) (by rw [underI,along_comm,if_neg c1,if_pos (by rw [← dist_def]; exact c2)]),h⟩
   ·refine (gapOf_mid px py ax ay bx by' w hp ha hb (fun w => by rw [heq w,hf]) c1 c2).mono ?_
    rintro e w' ⟨rfl,h⟩
    exact ⟨ret_two (by rw [overI,along_comm,if_neg c1,if_neg (by rw [← dist_def]; exact c2)]) (by rw [underI,along_comm,if_neg c1,if_neg (by rw [← dist_def]; exact c2)]; rfl),h⟩

def sideAt (px py : Int) (n : Nat) (X Y : Nat → Int) (i : Nat) : Bool := sideB px py (X i) (Y i) (X ((i + 1) % n)) (Y ((i + 1) % n))
def insideB (px py : Int) (n : Nat) (X Y : Nat → Int) : Bool := okP px py && (decide (3 ≤ n) && (decide (n ≤ 40) && (allOk n X Y && oddTo (sideAt px py n X Y) n)))

end Go.Proofs.YtfkonhagjahgnaaGreat
