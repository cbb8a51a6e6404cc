/- Texts. -/
import Derived.Test.YtiephlohemphjaaGreatVTickViewer10
set_option linter.unusedSimpArgs false
set_option linter.unusedVariables false
set_option maxRecDepth 100000
set_option maxHeartbeats 32000000
namespace Go.Proofs.YtiephlohemphjaaGreat
open Go.RowKit
theorem info_rf : (Tryz.prog.info? 97).map (fun i => (i.zero,i.size,i.bytes)) = some (some (.agg #[.int .i64 0, .int .i64 0, .int .i64 0]),3,24) := by kernel_rfl
def cellsR (R : Rfs) (n : Nat) : List Value := (List.range n).flatMap fun i => [.int .i64 (R.z i), .int .i64 (R.x i), .int .i64 (R.y i)]
theorem cellsR_add (R : Rfs) (n : Nat) : cellsR R (n + 1) = cellsR R n ++ [.int .i64 (R.z n), .int .i64 (R.x n), .int .i64 (R.y n)] := by simp [cellsR,List.range_succ]
theorem cellsR_len (R : Rfs) : ∀ n,(cellsR R n).length = n * 3
 | 0 => rfl
 | n + 1 => by rw [cellsR_add,List.length_append,cellsR_len R n]; simp; omega
theorem cellsR_at (R : Rfs) : ∀ (n i : Nat),i < n → (cellsR R n)[i * 3]? = some (.int .i64 (R.z i)) ∧ (cellsR R n)[i * 3 + 1]? = some (.int .i64 (R.x i)) ∧ (cellsR R n)[i * 3 + 2]? = some (.int .i64 (R.y i))
 | 0,i,h => absurd h (by omega)
 | n + 1,i,h => by
  rw [cellsR_add]
  by_cases e : i = n
  ·subst e
   have hl := cellsR_len R i
   rw [List.getElem?_append_right (by omega),List.getElem?_append_right (by omega),List.getElem?_append_right (by omega),hl]
   have e1 : i * 3 + 1 - i * 3 = 1 := by omega
   have e2 : i * 3 + 2 - i * 3 = 2 := by omega
   rw [Nat.sub_self,e1,e2]
   exact ⟨rfl,rfl,rfl⟩
  ·have hl := cellsR_len R n
   rw [List.getElem?_append_left (by omega),List.getElem?_append_left (by omega),List.getElem?_append_left (by omega)]
   exact cellsR_at R n i (by omega)
def RowT (base : Nat) (w : World) (v : Value) (n : Nat) (R : Rfs) : Prop := w.ownsRow base 97 3 v n (cellsR R n)
theorem RowT.no (base : Nat) (w : World) (R : Rfs) : RowT base w (.slice none 0 0) 0 R := World.ownsRow_nil _ _ _ _
theorem RowT.own {base : Nat} {w : World} {v : Value} {n : Nat} {R : Rfs} (h : RowT base w v n R) : OwnT w base v n R := by
 obtain ⟨h1,h2 | ⟨g,cp,cur,hv,hg,hh,hkc,hcm,hcs,htk⟩⟩ := h
 ·obtain ⟨rfl,h0⟩ := h2
  rw [h0]
  exact ⟨none,0,rfl,Nat.le_refl _, .inl rfl⟩
 ·have hgl : g < w.heap.size := by
   rcases Nat.lt_or_ge g w.heap.size with h' | h'
   ·exact h'
   ·rw [Array.getElem?_eq_none h'] at hh; cases hh
  have hrow : w.ownsRow base 97 3 (.slice (some ⟨g,0,none⟩) n cp) n (cellsR R n) := ⟨h1, .inr ⟨g,cp,cur,rfl,hg,hh,hkc,hcm,hcs,htk⟩⟩
  refine ⟨some ⟨g,0,none⟩,cp,hv,hkc, .inr ⟨g,rfl,hg,hgl,fun i hi => ?_,fun o ho => ⟨?_,hrow.frozenAt o⟩⟩⟩
  ·obtain ⟨e1,e2,e3⟩ := cellsR_at R n i hi
   simp only [Nat.zero_add]
   exact ⟨(hrow.cellAt _ (by omega)).trans e1,(hrow.cellAt _ (by omega)).trans e2,(hrow.cellAt _ (by omega)).trans e3⟩
  ·rw [hrow.cellAt o ho]
   have hlt : o < (cellsR R n).length := by rw [cellsR_len]; exact ho
   exact ⟨(cellsR R n)[o],List.getElem?_eq_getElem hlt⟩
theorem there2r (V : World) (a b : Value) (t : TypeId) : There (V.alloc (.cells #[a,b] t)) V.heap.size 2 := fun o ho => by
 have : o = 0 ∨ o = 1 := by omega
 rcases this with rfl | rfl <;> exact ⟨⟨_,by simp [go_sem]; rfl⟩,by simp [go_sem]⟩
theorem OwnT.set {w : World} {base B r o : Nat} {v u : Value} {n : Nat} {R : Rfs} (h : OwnT w base v n R) (hr : r < base) (hB : B ≤ base) : OwnT (w.setCell ⟨r,o,none⟩ u) B v n R := by
 obtain ⟨a,cap,hv,hc,h0 | ⟨b,ha,hbb,hl,hp,ht⟩⟩ := h
 ·exact ⟨a,cap,hv,hc, .inl h0⟩
 ·have hne : ∀ i : Nat,(⟨r,o,none⟩ : Addr) ≠ ⟨b,i,none⟩ := fun i e => by injection e with e; omega
  refine ⟨a,cap,hv,hc, .inr ⟨b,ha,by omega,by simpa [World.setCell] using hl,fun i hi => ?_,fun o' ho' => ?_⟩⟩
  ·obtain ⟨h0,h1,h2⟩ := hp i hi
   exact ⟨by rw [set1_other (hne _)]; exact h0,by rw [set1_other (hne _)]; exact h1,by rw [set1_other (hne _)]; exact h2⟩
  ·obtain ⟨⟨x,hx⟩,hf⟩ := ht o' ho'
   exact ⟨⟨x,by rw [set1_other (hne _)]; exact hx⟩,by rw [World.frozen?_setCell]; exact hf⟩
def RefA (w : World) (b : Nat) (z x y : Int) : Prop := w.cell? ⟨b,0,none⟩ = some (.int .i64 z) ∧ w.cell? ⟨b,1,none⟩ = some (.int .i64 x) ∧ w.cell? ⟨b,2,none⟩ = some (.int .i64 y)
theorem RefA.lt {w : World} {b : Nat} {z x y : Int} (h : RefA w b z x y) : b < w.heap.size := World.block_lt_of_cell? _ _ h.1
theorem RefA.below {w w' : World} {b : Nat} {z x y : Int} (h : RefA w b z x y) (hb : Below w.heap.size w w') : RefA w' b z x y :=
 ⟨(hb.cell (p := ⟨b,0,none⟩) h.lt).trans h.1,(hb.cell (p := ⟨b,1,none⟩) h.lt).trans h.2.1,(hb.cell (p := ⟨b,2,none⟩) h.lt).trans h.2.2⟩
theorem RefA.apart {w : World} {b r o : Nat} {v : Value} {z x y : Int} (h : RefA w b z x y) (hr : r ≠ b) : RefA (w.setCell ⟨r,o,none⟩ v) b z x y :=
 ⟨(set1_other (fun e => hr (by injection e))).trans h.1,(set1_other (fun e => hr (by injection e))).trans h.2.1,(set1_other (fun e => hr (by injection e))).trans h.2.2⟩
theorem RefA.put {W : World} {r : Nat} {z x y : Int} (hT : There W r 3) : RefA (((W.setCell ⟨r,0,none⟩ (.int .i64 z)).setCell ⟨r,1,none⟩ (.int .i64 x)).setCell ⟨r,2,none⟩ (.int .i64 y)) r z x y := by
 obtain ⟨x0,h0⟩ := (hT 0 (by omega)).1
 obtain ⟨x1,h1⟩ := (hT 1 (by omega)).1
 obtain ⟨x2,h2⟩ := (hT 2 (by omega)).1
 have ne : ∀ i j : Nat,i ≠ j → (⟨r,i,none⟩ : Addr) ≠ ⟨r,j,none⟩ := fun i j hij h => hij (by injection h)
 refine ⟨?_,?_,?_⟩
 ·rw [set1_other (ne 2 0 (by omega)),set1_other (ne 1 0 (by omega))]; exact set1_same h0
 ·rw [set1_other (ne 2 1 (by omega))]; exact set1_same (by rw [set1_other (ne 0 1 (by omega))]; exact h1)
 ·exact set1_same (by rw [set1_other (ne 1 2 (by omega)),set1_other (ne 0 2 (by omega))]; exact h2)
theorem There.putV {W : World} {r n o r' : Nat} {v : Value} (h : There W r n) : There (W.setCell ⟨r',o,none⟩ v) r n := fun o' ho => by
 obtain ⟨⟨u,hu⟩,hf⟩ := h o' ho
 refine ⟨?_,by rw [World.frozen?_setCell]; exact hf⟩
 by_cases e : (⟨r',o,none⟩ : Addr) = ⟨r,o',none⟩
 ·rw [e]; exact ⟨v,World.cell?_setCell_same _ _ _ (by rw [hu])⟩
 ·exact ⟨u,by rw [set1_other e]; exact hu⟩
theorem There.lt3 {W : World} {r : Nat} (h : There W r 3) : r < W.heap.size := by
 obtain ⟨v,hv⟩ := (h 0 (by omega)).1
 exact World.block_lt_of_cell? _ _ hv
theorem Reg.store3 {B r n : Nat} {W W1 : World} {a b c : Value} (h : Reg B W r n W1) (hr : B ≤ r) : Reg B W r n (((W1.setCell ⟨r,0,none⟩ a).setCell ⟨r,1,none⟩ b).setCell ⟨r,2,none⟩ c) :=
 ((h.store hr _ _).store hr _ _).store hr _ _
def visN (x wd : Int) : Nat := ((x + wd - 1) / 8 - x / 8 + 1).toNat
def visR (z x y wd : Int) : Rfs := ⟨fun _ => z,fun i => x / 8 + (i % visN x wd : Nat),fun i => y / 8 + (i / visN x wd : Nat)⟩
def visM (z x y wd ht : Int) : Nat := if camB z x y wd ht = true then visN y ht * visN x wd else 0
theorem visN_bd {x wd : Int} (h : 1 ≤ wd ∧ wd ≤ 8) : 1 ≤ visN x wd ∧ visN x wd ≤ 2 ∧ ((visN x wd : Nat) : Int) = (x + wd - 1) / 8 - x / 8 + 1 := by
 unfold visN
 omega
theorem visM_le (z x y wd ht : Int) : visM z x y wd ht ≤ 4 := by
 unfold visM
 split
 ·rename_i h
  have hi := camB_in h
  have h1 := visN_bd (x := x) hi.1.1
  have h2 := visN_bd (x := y) hi.1.2
  exact Nat.mul_le_mul h2.2.1 h1.2.1
 ·omega
theorem tileAt_any (z x y wd ht a b : Int) (w : World) (h : pixB z a b = true) : Calls Tryz.prog 138 #[camV z x y wd ht,pxV a b] w fun e w' => e = .returned (refV z (a / 8) (b / 8)) ∧ Below w.heap.size w w' := by
 have hz := pixB_zoom h
 have hp := pixB_in h
 have hn := pixI_bd hz
 have sX := fun w => pxX_any a b w (by omega) (by omega)
 have sY := fun w => pxY_any a b w (by omega) (by omega)
 have sR := fun w => impl_RefAt_any z a b w
 have hv : atV z a b = rrV 0 z (a / 8) (b / 8) := by simp [atV,h]
 simp only [hv] at sR
 clear hv hz hp hn h
 generalize a / 8 = u at *
 generalize b / 8 = v at *
 have i1 : ∀ w,(Instr.field 211 (.agg #[.int .i64 0, .int .i64 z, .int .i64 u, .int .i64 v]) 1).run Tryz.prog w = .ok (.agg #[.int .i64 z, .int .i64 u, .int .i64 v]) w := fun _ => by kernel_rfl
 go_enter Tryz.func138,Tryz.ntmps138
 go_wp2_with fail
 generalize hW : ((w.alloc _).alloc _ : World) = W
 have HB0 : Hid (Below w.heap.size w W) := by show Below _ _ _; subst hW; exact Qb
 have hL : w.heap.size + 1 < W.heap.size := by subst hW; simp
 have HT : Hid (There W (w.heap.size + 1) 3) := by
  show There _ _ _
  subst hW
  have := there3r (w.alloc (.cells #[.int .i64 z, .int .i64 x, .int .i64 y, .int .i64 wd, .int .i64 ht] 32)) (.int .i64 0) (.int .i64 0) (.int .i64 0) 97
  simpa using this
 have c0 : W.cell? ⟨w.heap.size,0,none⟩ = some (.int .i64 z) := by subst hW; simp [go_sem]
 clear hW
 have hreg : Reg (w.heap.size + 1) W (w.heap.size + 1) 3 W := Reg.start (Nat.le_of_lt hL) HT.out
 have d0 : ∀ W',Reg (w.heap.size + 1) W (w.heap.size + 1) 3 W' → W'.cell? ⟨w.heap.size,0,none⟩ = some (.int .i64 z) := fun W' h => (h.bel.cell (p := ⟨w.heap.size,0,none⟩) (by simp <;> omega)).trans c0
 have t0 : ∀ W',Reg (w.heap.size + 1) W (w.heap.size + 1) 3 W' → W'.cell? ⟨w.heap.size + 1,0,none⟩ = some (cellOr W' (w.heap.size + 1) 0) := fun W' h => h.there.cell 0 (by omega)
 have t1 : ∀ W',Reg (w.heap.size + 1) W (w.heap.size + 1) 3 W' → W'.cell? ⟨w.heap.size + 1,1,none⟩ = some (cellOr W' (w.heap.size + 1) 1) := fun W' h => h.there.cell 1 (by omega)
 have t2 : ∀ W',Reg (w.heap.size + 1) W (w.heap.size + 1) 3 W' → W'.cell? ⟨w.heap.size + 1,2,none⟩ = some (cellOr W' (w.heap.size + 1) 2) := fun W' h => h.there.cell 2 (by omega)
 have f0 : ∀ W',Reg (w.heap.size + 1) W (w.heap.size + 1) 3 W' → W'.frozen? ⟨w.heap.size + 1,0,none⟩ = false := fun W' h => (h.there 0 (by omega)).2
 have f1 : ∀ W',Reg (w.heap.size + 1) W (w.heap.size + 1) 3 W' → W'.frozen? ⟨w.heap.size + 1,1,none⟩ = false := fun W' h => (h.there 1 (by omega)).2
 have f2 : ∀ W',Reg (w.heap.size + 1) W (w.heap.size + 1) 3 W' → W'.frozen? ⟨w.heap.size + 1,2,none⟩ = false := fun W' h => (h.there 2 (by omega)).2
 clear c0
 go_region_held3 (Reg (w.heap.size + 1) W (w.heap.size + 1) 3) (first | with_reducible assumption | with_reducible exact Reg.drew hreg | with_reducible exact Reg.store3 (by with_reducible assumption) (Nat.le_refl _) | with_reducible exact Reg.call (by with_reducible assumption) (by with_reducible assumption))
  (first
   | (go_at_call 118; refine (sX _).mono ?_; rintro e w' ⟨rfl,rfl⟩)
   | (go_at_call 119; refine (sY _).mono ?_; rintro e w' ⟨rfl,rfl⟩)
   | (go_at_call 170; refine (sR _).mono ?_; rintro e w' ⟨rfl,hb⟩; have hk : Reg (w.heap.size + 1) W (w.heap.size + 1) 3 w' := Reg.call (by assumption) hb)
   | fail)
 go_wp2
 obtain ⟨q0,q1,q2⟩ := RefA.put (z := z) (x := u) (y := v) hk.there
 exact bodyPost_ret (v := refV z u v) (by simp [results,Tryz.results138,go_sem,q0,q1,q2]) rfl ⟨rfl,(((HB0.out.trans (hk.bel.mono (Nat.le_succ _))).setCell (Nat.le_succ _) _).setCell (Nat.le_succ _) _).setCell (Nat.le_succ _) _⟩

end Go.Proofs.YtiephlohemphjaaGreat
