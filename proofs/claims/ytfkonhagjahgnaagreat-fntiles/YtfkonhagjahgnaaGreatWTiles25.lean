/- Texts. -/
import Derived.Test.YtfkonhagjahgnaaGreatWTiles20
import Derived.Test.YtfkonhagjahgnaaGreatWTiles6
import Derived.Test.YtfkonhagjahgnaaGreatWTiles2
import Derived.OwnWalk
import Derived.Deep.DeepMust
import Derived.Test.YtfkonhagjahgnaaGreatWTiles21
import Derived.Laws.StructEq
set_option linter.unusedSimpArgs false
set_option linter.unusedVariables false
set_option maxRecDepth 100000
set_option maxHeartbeats 32000000
namespace Go.Proofs.YtfkonhagjahgnaaGreat
open Go.RowKit
def intsL (st : List Nat) : List Value := st.map fun k : Nat => Value.int .i64 (k : Int)
structure StackAt (w : World) (S base : Nat) (v : Value) (st : List Nat) : Prop where
 blk : w.heap[S]? = some (.cells #[v] 188 (0,0))
 row : World.ownsRow w base 3 1 v st.length (intsL st)
theorem StackAt.lt {w : World} {S base : Nat} {v : Value} {st : List Nat} (h : StackAt w S base v st) : S < w.heap.size := by
 rcases Nat.lt_or_ge S w.heap.size with h' | h'
 ·exact h'
 ·have := h.blk; rw [Array.getElem?_eq_none h'] at this; cases this
theorem StackAt.cell {w : World} {S base : Nat} {v : Value} {st : List Nat} (h : StackAt w S base v st) : w.cell? ⟨S,0,none⟩ = some v := by
 simp [World.cell?,h.blk]
theorem StackAt.frozen {w : World} {S base : Nat} {v : Value} {st : List Nat} (h : StackAt w S base v st) : w.frozen? ⟨S,0,none⟩ = false := by
 simp [World.frozen?,h.blk]
theorem info_int : (Tryz.prog.info? 3).map (fun i => (i.zero,i.size,i.bytes)) = some (some (.int .i64 0),1,8) := by kernel_rfl
structure Kept2 (S : Nat) (row : Option Nat) (w w' : World) : Prop where
 os : w'.os = w.os
 tape : w'.tape = w.tape
 output : w'.output = w.output
 size : w.heap.size ≤ w'.heap.size
 block : ∀ k,k < w.heap.size → k ≠ S → some k ≠ row → w'.heap[k]? = w.heap[k]?
theorem Kept2.below {S B : Nat} {row : Option Nat} {w w' : World} (h : Kept2 S row w w') (hS : B ≤ S) (hr : ∀ g,row = some g → B ≤ g) (hl : B ≤ w.heap.size) : Below B w w' :=
 ⟨h.os,h.tape,h.output,h.size,fun k hk => h.block k (by omega) (by omega) (fun e => by have := hr k e.symm; omega)⟩
theorem Row.kept2 {S b1 b2 : Nat} {w w' : World} {v sv : Value} {st : List Nat} {l : List (Int × Int)} (hS : StackAt w S b1 v st) (hR : Row b2 w sv l) (hk : Kept2 S v.ownBlock w w') : Row b2 w' sv l := by
 refine ownsRow_of hR fun g hg => ?_
 obtain ⟨cur,hcur⟩ := heap_of_row hR g hg
 have hlt := (hR.lt g hg).2
 refine hk.block g hlt (fun e => ?_) (fun e => ?_)
 ·subst e
  rw [hS.blk] at hcur
  simp at hcur
 ·obtain ⟨cur',hcur'⟩ := heap_of_row hS.row g e.symm
  rw [hcur] at hcur'
  simp at hcur'
theorem StackAt.grown {S b1 b2 : Nat} {w w' : World} {v sv : Value} {st : List Nat} {l : List (Int × Int)} (hS : StackAt w S b1 v st) (hR : Row b2 w sv l) (hg : w.grownBy w' sv.ownBlock) : StackAt w' S b1 v st := by
 have hne : ∀ g,sv.ownBlock = some g → ∃ cur,w.heap[g]? = some (.cells cur 67 (0,0)) := heap_of_row hR
 refine ⟨?_,ownsRow_of hS.row fun g hgv => ?_⟩
 ·rw [hg.block S hS.lt (fun e => by
   obtain ⟨cur,hc⟩ := hne S e.symm
   rw [hS.blk] at hc
   simp at hc)]
  exact hS.blk
 ·refine hg.block g (hS.row.lt g hgv).2 (fun e => ?_)
  obtain ⟨cur,hc⟩ := hne g e.symm
  obtain ⟨cur',hc'⟩ := heap_of_row hS.row g hgv
  rw [hc] at hc'
  simp at hc'
theorem StackAt.below {S b1 : Nat} {w w' : World} {v : Value} {st : List Nat} (hS : StackAt w S b1 v st) (hb : Below w.heap.size w w') : StackAt w' S b1 v st :=
 ⟨(hb.block S hS.lt).trans hS.blk,ownsRow_of hS.row fun g hg => hb.block g (hS.row.lt g hg).2⟩
theorem stack_set {S b1 : Nat} {w : World} {v v' : Value} {st st' : List Nat} (hS : StackAt w S b1 v st) (hr : w.ownsRow b1 3 1 v' st'.length (intsL st')) : StackAt (w.setCell ⟨S,0,none⟩ v') S b1 v' st' ∧ w.grownBy (w.setCell ⟨S,0,none⟩ v') (some S) := by
 refine ⟨⟨?_,ownsRow_of hr fun g hg => ?_⟩,grown_set (grown_refl _ _) 0 v'⟩
 ·have := heap_setCell_same w S 0 #[v] 188 v' hS.blk
  simpa using this
 ·refine Below.heap_setCell _ _ _ _ (fun e => ?_)
  obtain ⟨cur,hc⟩ := heap_of_row hr g hg
  simp at e
  subst e
  rw [hS.blk] at hc
  simp at hc
theorem intsL_add (st : List Nat) (k : Nat) : intsL (st ++ [k]) = intsL st ++ [.int .i64 (k : Int)] := by simp [intsL]
set_option maxRecDepth 8000 in
theorem push_any (S base k : Nat) (v : Value) (st : List Nat) (w : World) (h : StackAt w S base v st) (hl : st.length ≤ 100) (hb : base ≤ w.heap.size) :
  Calls Tryz.prog 143 #[.pointer (some ⟨S,0,none⟩), .int .i64 (k : Int)] w fun e w' => (∃ u,e = .returned u) ∧ (∃ v',StackAt w' S base v' (st ++ [k])) ∧ Kept2 S v.ownBlock w w' := by
 obtain ⟨i0,hi,hz0,hz1,hz2⟩ := info_parts info_int
 have c0 := h.cell
 have f0 := h.frozen
 have hSl := h.lt
 have HS : Hid (StackAt w S base v st) := h
 clear h
 go_enter Tryz.func143,Tryz.ntmps143
 go_wp2_with (first
  | (at_builtin; go_must (refine wpList_append_own _ rfl _ _ 177 rfl base 3 i0 (.int .i64 0) 1 8 Tryz.underlying177 hi hz0 hz1 hz2 rfl (by decide) _ st.length (intsL st) rfl (World.ownsRow.alloc HS.out.row _) ⟨w.heap.size,0,none⟩ 1 1 [.int .i64 (k : Int)] rfl rfl ?c1 ?c2 ?c3 ?c4 ?c5 ?_)))
 case c1 =>
  intro q u hq
  match q,hq with
  | 0,hq => simp at hq; subst hq; simp [Addr.add,go_sem]
  | q + 1,hq => simp at hq
 case c2 => first | (intro u hu; simp at hu; subst hu; rfl) | rfl
 case c3 => unfold maxLen; omega
 case c4 => omega
 case c5 => first | omega | (simp; omega)
 intro v' w3 hown' hgrow hnil
 clear hnil
 have hw1 : Below w.heap.size w (w.alloc (.cells #[.int .i64 (k : Int)] 3)) := (Below.refl _ _).alloc (Nat.le_refl _) _
 have hS1 : StackAt (w.alloc (.cells #[.int .i64 (k : Int)] 3)) S base v st := HS.out.below hw1
 have hSr : (w.alloc (.cells #[.int .i64 (k : Int)] 3)).heap[S]? = w3.heap[S]? := by
  refine (hgrow.block S hS1.lt (fun e => ?_)).symm
  obtain ⟨cur,hc⟩ := heap_of_row hS1.row S e.symm
  rw [hS1.blk] at hc
  simp at hc
 have blk3 : w3.heap[S]? = some (.cells #[v] 188 (0,0)) := hSr.symm.trans hS1.blk
 have c3 : w3.cell? ⟨S,0,none⟩ = some v := by simp [World.cell?,blk3]
 have f3 : w3.frozen? ⟨S,0,none⟩ = false := by simp [World.frozen?,blk3]
 have hrow3 : w3.ownsRow base 3 1 v' (st ++ [k]).length (intsL (st ++ [k])) := by
  rw [intsL_add,List.length_append]
  exact hown'
 have HB3 : Hid (w3.heap[S]? = some (.cells #[v] 188 (0,0))) := blk3
 have HR3 : Hid (w3.ownsRow base 3 1 v' (st ++ [k]).length (intsL (st ++ [k]))) := hrow3
 have HG : Hid ((w.alloc (.cells #[.int .i64 (k : Int)] 3)).grownBy w3 v.ownBlock) := hgrow
 have HW1 : Hid (Below w.heap.size w (w.alloc (.cells #[.int .i64 (k : Int)] 3))) := hw1
 obtain ⟨a',n',cap',hv'⟩ : ∃ a' n' cap',v' = .slice a' n' cap' := by
  obtain ⟨_,h2 | ⟨g,cp,cur,hv,_⟩⟩ := hrow3
  ·exact ⟨none,0,0,h2.1⟩
  ·exact ⟨_,_,_,hv⟩
 subst hv'
 clear hown' hgrow hS1 hSr blk3 hrow3 hw1 c0 f0
 go_wp2
 have hr : w3.ownsRow base 3 1 (.slice a' n' cap') (st ++ [k]).length (intsL (st ++ [k])) := HR3.out
 have h4 : StackAt (w3.setCell ⟨S,0,none⟩ (.slice a' n' cap')) S base (.slice a' n' cap') (st ++ [k]) := by
  refine ⟨?_,ownsRow_of hr fun g hg => ?_⟩
  ·have := heap_setCell_same w3 S 0 #[v] 188 (.slice a' n' cap') HB3.out
   simpa using this
  ·refine Below.heap_setCell _ _ _ _ (fun e => ?_)
   obtain ⟨cur,hc⟩ := heap_of_row hr g hg
   simp at e
   subst e
   rw [HB3.out] at hc
   simp at hc
 refine bodyPost_end (v := .tuple #[]) (by simp [results,Tryz.results143,go_sem]) rfl ⟨⟨_,rfl⟩,⟨_,h4⟩,?_⟩
 have hg := HG.out
 have hw := HW1.out
 exact ⟨hg.os.trans hw.os,hg.tape.trans hw.tape,hg.output.trans hw.output,Nat.le_trans hw.size (Nat.le_trans hg.size (by simp [World.setCell])),fun j hj hS hr => (Below.heap_setCell _ _ _ _ (by simpa using hS)).trans ((hg.block j (Nat.lt_of_lt_of_le hj hw.size) hr).trans (hw.block j hj))⟩
theorem top_none (S base : Nat) (v : Value) (w : World) (h : StackAt w S base v []) :
  Calls Tryz.prog 144 #[.pointer (some ⟨S,0,none⟩)] w fun e w' => e = .returned (.tuple #[.int .i64 0, .bool false]) ∧ Below w.heap.size w w' := by
 have c0 := h.cell
 obtain ⟨a,cap,hv⟩ : ∃ a cap,v = .slice a 0 cap := by
  obtain ⟨_,h2 | ⟨g,cp,cur,rfl,_⟩⟩ := h.row
  ·exact ⟨none,0,h2.1⟩
  ·exact ⟨_,_,rfl⟩
 subst hv
 clear h
 go_enter Tryz.func144,Tryz.ntmps144
 go_wp2
 refine bodyPost_ret (v := .tuple #[.int .i64 0, .bool false]) (by simp [results,Tryz.results144,go_sem]) rfl ⟨rfl,by (repeat (first|exact Qr _ _|assumption|refine Qd ?_|refine Qa ?_ _|refine Qt ?_|refine Qs ?_ _|refine Qo ?_ ?_ _ _))⟩
theorem StackAt.last {w : World} {S base k : Nat} {v : Value} {st : List Nat} (h : StackAt w S base v (st ++ [k])) :
  ∃ g cap,v = .slice (some ⟨g,0,none⟩) (st.length + 1) cap ∧ st.length + 1 ≤ cap ∧ w.cell? ⟨g,st.length,none⟩ = some (.int .i64 (k : Int)) := by
 have hr := h.row
 obtain ⟨h1,h2 | ⟨g,cp,cur,hv,hg,hh,hkc,hcm,hcs,htk⟩⟩ := h.row
 ·have := h2.2; simp at this
 ·refine ⟨g,cp,by rw [hv]; simp,by simpa using hkc,?_⟩
  rw [hv] at hr
  rw [hr.cellAt st.length (by simp)]
  simp [intsL]
theorem top_some (S base k : Nat) (v : Value) (st : List Nat) (w : World) (h : StackAt w S base v (st ++ [k])) (hl : st.length ≤ 100) :
  Calls Tryz.prog 144 #[.pointer (some ⟨S,0,none⟩)] w fun e w' => e = .returned (.tuple #[.int .i64 (k : Int), .bool true]) ∧ Below w.heap.size w w' := by
 obtain ⟨g,cap,rfl,hcap,hk⟩ := h.last
 have c0 : ∀ W',Below w.heap.size w W' → W'.cell? ⟨S,0,none⟩ = some (.slice (some ⟨g,0,none⟩) (st.length + 1) cap) := fun W' hb => bl_cell hb h.cell
 have c1 : ∀ W',Below w.heap.size w W' → W'.cell? ⟨g,st.length,none⟩ = some (.int .i64 (k : Int)) := fun W' hb => bl_cell hb hk
 have hr : Below w.heap.size w w := Below.refl _ _
 have e0 := h.cell
 clear h hk
 obtain ⟨L,hL⟩ : ∃ L,L = st.length + 1 := ⟨_,rfl⟩
 generalize st.length = M at *
 rw [← hL] at c0 e0 hcap
 have hw : IntKind.i64.wrap ((L : Int) - 1) = (M : Int) := by
  have e : (L : Int) - 1 = (M : Int) := by omega
  rw [e]
  exact IntWalk.i64_in _ (by omega)
 have hMl : (M : Int) < (L : Int) := by omega
 have hM0 : (0 : Int) ≤ (M : Int) := by omega
 have hL0 : ((L : Int) == 0) = false := by simp; omega
 clear hL
 go_enter Tryz.func144,Tryz.ntmps144
 go_wp2_with fail
 go_region_held3 (fun W' => Below w.heap.size w W') ((repeat (first|exact Qr _ _|assumption|refine Qd ?_|refine Qa ?_ _|refine Qt ?_|refine Qs ?_ _|refine Qo ?_ ?_ _ _))) (fail)
 go_wp2_with fail
 refine bodyPost_ret (v := .tuple #[.int .i64 (k : Int), .bool true]) (by simp [results,Tryz.results144,go_sem]) rfl ⟨rfl,by assumption⟩
theorem drop_any (S base k : Nat) (v : Value) (st : List Nat) (w : World) (h : StackAt w S base v (st ++ [k])) (hl : st.length ≤ 100) :
  Calls Tryz.prog 147 #[.pointer (some ⟨S,0,none⟩)] w fun e w' => (∃ u,e = .returned u) ∧ (∃ v',StackAt w' S base v' st) ∧ Kept2 S v.ownBlock w w' := by
 obtain ⟨g,cap,hv,hcap,hk⟩ := h.last
 have HS : Hid (StackAt w S base v (st ++ [k])) := h
 have c0 := h.cell
 have f0 := h.frozen
 subst hv
 clear h hk
 obtain ⟨L,hL⟩ : ∃ L,L = st.length + 1 := ⟨_,rfl⟩
 obtain ⟨M,hM⟩ : ∃ M,M = st.length := ⟨_,rfl⟩
 rw [← hM] at hL hcap hl
 rw [← hL] at hcap
 have HM : Hid (M = st.length) := hM
 have HL : Hid (L = M + 1) := hL
 rw [← hM, ← hL] at c0
 have hw : IntKind.i64.wrap ((L : Int) - 1) = (M : Int) := by
  have e : (L : Int) - 1 = (M : Int) := by omega
  rw [e]
  exact IntWalk.i64_in _ (by omega)
 have hMc : (M : Int) ≤ (cap : Int) := by omega
 have hM0 : (0 : Int) ≤ (M : Int) := by omega
 clear hL hM
 go_enter Tryz.func147,Tryz.ntmps147
 refine wp_region_noPanic ?_
 refine wp_region_L (S := fun W' => W' = w.drew) (z := 14) (by kernel_rfl) ?_
 have hSt : (fun W' => W' = w.drew) w.drew := rfl
 refine wpAnyL_take (i := 0) (v := ?v0) rfl (by kernel_rfl) (by kernel_rfl) (by kernel_rfl) (by kernel_rfl) (fun _ _ _ h => h) (Or.inl ⟨by rfl,?hy0⟩) (by rfl) ?_
 case hy0 => (intro w hSw; go_simp <;> with_reducible rfl)
 try simp only [Act.put,Qx,Qy,Qz]
 refine wpAnyL_take (i := 1) (v := ?v1) rfl (by kernel_rfl) (by kernel_rfl) (by kernel_rfl) (by kernel_rfl) (fun _ _ _ h => h) (Or.inl ⟨by rfl,?hy1⟩) (by rfl) ?_
 case hy1 => (intro w hSw; go_simp <;> with_reducible rfl)
 try simp only [Act.put,Qx,Qy,Qz]
 refine wpAnyL_take (i := 2) (v := ?v2) rfl (by kernel_rfl) (by kernel_rfl) (by kernel_rfl) (by kernel_rfl) (fun _ _ _ h => h) (Or.inl ⟨by rfl,?hy2⟩) (by rfl) ?_
 case hy2 => (intro w hSw; go_simp <;> with_reducible rfl)
 try simp only [Act.put,Qx,Qy,Qz]
 refine wpAnyL_take (i := 3) (v := ?v3) rfl (by kernel_rfl) (by kernel_rfl) (by kernel_rfl) (by kernel_rfl) (fun _ _ _ h => h) (Or.inl ⟨by rfl,?hy3⟩) (by rfl) ?_
 case hy3 => (intro w hSw; go_simp <;> with_reducible rfl)
 try simp only [Act.put,Qx,Qy,Qz]
 refine wpAnyL_take (i := 4) (v := ?v4) rfl (by kernel_rfl) (by kernel_rfl) (by kernel_rfl) (by kernel_rfl) (fun _ _ _ h => h) (Or.inl ⟨by rfl,?hy4⟩) (by rfl) ?_
 case hy4 => (intro w hSw; go_simp <;> with_reducible rfl)
 try simp only [Act.put,Qx,Qy,Qz]
 refine wpAnyL_take (i := 5) (v := ?v5) rfl (by kernel_rfl) (by kernel_rfl) (by kernel_rfl) (by kernel_rfl) (fun _ _ _ h => h) (Or.inl ⟨by rfl,?hy5⟩) (by rfl) ?_
 case hy5 => (intro w hSw; go_simp <;> with_reducible rfl)
 try simp only [Act.put,Qx,Qy,Qz]
 refine wpAnyL_take (i := 6) (v := ?v6) rfl (by kernel_rfl) (by kernel_rfl) (by kernel_rfl) (by kernel_rfl) (fun _ _ _ h => h) (Or.inl ⟨by rfl,?hy6⟩) (by rfl) ?_
 case hy6 => (intro w hSw; go_simp <;> with_reducible rfl)
 try simp only [Act.put,Qx,Qy,Qz]
 refine wpAnyL_take (i := 7) (v := ?v7) rfl (by kernel_rfl) (by kernel_rfl) (by kernel_rfl) (by kernel_rfl) (fun _ _ _ h => h) (Or.inl ⟨by rfl,?hy7⟩) (by rfl) ?_
 case hy7 => (intro w hSw; go_simp <;> with_reducible rfl)
 try simp only [Act.put,Qx,Qy,Qz]
 refine wpAnyL_take (i := 8) (v := ?v8) rfl (by kernel_rfl) (by kernel_rfl) (by kernel_rfl) (by kernel_rfl) (fun _ _ _ h => h) (Or.inl ⟨by rfl,?hy8⟩) (by rfl) ?_
 case hy8 => (intro w hSw; go_simp <;> with_reducible rfl)
 try simp only [Act.put,Qx,Qy,Qz]
 refine wpAnyL_take (i := 9) (v := ?v9) rfl (by kernel_rfl) (by kernel_rfl) (by kernel_rfl) (by kernel_rfl) (fun _ _ _ h => h) (Or.inl ⟨by rfl,?hy9⟩) (by rfl) ?_
 case hy9 => (intro w hSw; go_simp <;> with_reducible rfl)
 try simp only [Act.put,Qx,Qy,Qz]
 refine wpAnyL_take (i := 10) (v := ?v10) rfl (by kernel_rfl) (by kernel_rfl) (by kernel_rfl) (by kernel_rfl) (fun _ _ _ h => h) (Or.inl ⟨by rfl,?hy10⟩) (by rfl) ?_
 case hy10 => (intro w hSw; go_simp <;> with_reducible rfl)
 try simp only [Act.put,Qx,Qy,Qz]
 refine wpAnyL_take (i := 11) (v := ?v11) rfl (by kernel_rfl) (by kernel_rfl) (by kernel_rfl) (by kernel_rfl) (fun _ _ _ h => h) (Or.inl ⟨by rfl,?hy11⟩) (by rfl) ?_
 case hy11 => (intro w hSw; go_simp <;> with_reducible rfl)
 try simp only [Act.put,Qx,Qy,Qz]
 refine wpAnyL_one (i := 12) (by kernel_rfl) rfl (fun K hK => ?_)
 go_simp
 refine hK.out _ _ (fun _ => by rfl) ?_
 clear hK K
 try simp only [Act.put,Qx,Qy,Qz]
 refine wpAnyL_take (i := 13) (v := ?v13) rfl (by kernel_rfl) (by kernel_rfl) (by kernel_rfl) (by kernel_rfl) (fun _ _ _ h => h) (Or.inl ⟨by rfl,?hy13⟩) (by rfl) ?_
 case hy13 => (intro w hSw; go_simp <;> with_reducible rfl)
 try simp only [Act.put,Qx,Qy,Qz]
 refine wpAnyL_one (i := 14) (by kernel_rfl) rfl (fun K hK => ?_)
 go_simp
 refine hK.out _ _ (fun h => absurd rfl h) ?_
 clear hK K
 try simp only [Act.put,Qx,Qy,Qz]
 refine wpAnyL_done (by kernel_rfl) ?_ _
 refine NoPanic.normal ?_
 have hT : w.ownsRow base 3 1 (.slice (some ⟨g,0,none⟩) M cap) st.length (intsL st) := by
  have hr := HS.out.row
  obtain ⟨h1,h2 | ⟨g',cp,cur,hv,hg,hh,hkc,hcm,hcs,htk⟩⟩ := hr
  ·cases h2.1
  ·injection hv with e1 e2 e3
   injection e1 with e1
   injection e1 with e1
   subst e1 e3
   refine ⟨by simp [intsL], .inr ⟨g,cap,cur,by rw [HM.out],hg,hh,by have := HM.out; have := HL.out; omega,hcm,hcs,?_⟩⟩
   have : (cur.toList.take ((st ++ [k]).length * 1)).take (st.length * 1) = (intsL (st ++ [k])).take (st.length * 1) := by rw [htk]
   rw [List.take_take] at this
   simp [intsL] at this ⊢
   exact this
 obtain ⟨r1,r2⟩ := stack_set (v' := .slice (some ⟨g,0,none⟩) M cap) (st' := st) HS.out hT
 refine bodyPost_end (v := .tuple #[]) (by simp [results,Tryz.results147,go_sem]) rfl ⟨⟨_,rfl⟩,⟨_,⟨r1.blk,r1.row⟩⟩,?_⟩
 exact ⟨r2.os,r2.tape,r2.output,r2.size,fun k hk hS _ => r2.block k hk (fun e => hS (by injection e))⟩
theorem equalIn_point (n : Nat) (a b c d : Int) (w : World) : (Op.equalIn (n + 2) 67 (.agg #[.int .i64 a, .int .i64 b]) (.agg #[.int .i64 c, .int .i64 d])).run Tryz.prog w = .ok ((a == c) && (b == d)) w := by
 have hp0 : ∀ (x y : Int) (w : World),(part 2 #[.int .i64 x, .int .i64 y] 0).run Tryz.prog w = .ok (.int .i64 x) w := fun _ _ _ => by kernel_rfl
 have hp1 : ∀ (x y : Int) (w : World),(part 2 #[.int .i64 x, .int .i64 y] 1).run Tryz.prog w = .ok (.int .i64 y) w := fun _ _ _ => by kernel_rfl
 have hi := fun (a b : Int) (w : World) => run_equalIn_int (P := Tryz.prog) w n 2 .i64 .i64 a b Tryz.underlying2
 rw [run_equalIn_struct w (n + 1) 67 _ _ (by kernel_rfl) (by kernel_rfl)]
 simp [Op.eqFields,Program.fieldsOf,Tryz.underlying67,hp0,hp1,hi]
 by_cases h1 : a = c <;> by_cases h2 : b = d <;> simp [h1,h2]
def ptsEq (n : Nat) (X Y : Nat → Int) (m : Nat) (X' Y' : Nat → Int) : Bool := decide (n = m) && decide (∀ i,i < n → X i = X' i ∧ Y i = Y' i)
theorem slicesEqual_any (b d n m c c' : Nat) (X Y X' Y' : Nat → Int) (w : World) (hp : PtsAt w b 0 n X Y) (hq : PtsAt w d 0 m X' Y') (hb : b < w.heap.size) (hd : d < w.heap.size) (hn : n ≤ 1048576) (hm : m ≤ 1048576) :
  Calls Tryz.prog 79 #[.slice (some ⟨b,0,none⟩) n c, .slice (some ⟨d,0,none⟩) m c'] w fun e w' => e = .returned (.bool (ptsEq n X Y m X' Y')) ∧ Below w.heap.size w w' := by
 by_cases hnm : n = m
 ·subst hnm
  have HP : Hid (PtsAt w b 0 n X Y) := hp
  have HQ : Hid (PtsAt w d 0 n X' Y') := hq
  clear hp hq
  go_enter Tryz.func79,Tryz.ntmps79
  go_wp2
  go_loopw [13] (fun v wr => ∃ k : Nat,k ≤ n ∧ v = .int .i64 k ∧ (∀ j,j < k → X j = X' j ∧ Y j = Y' j) ∧ Below w.heap.size w wr) (fun v _ => n - (intOf v).toNat)
  case atStart => exact ⟨0,by omega,rfl,by omega,Below.refl _ _⟩
  case round =>
   obtain ⟨k,hk,rfl,hA,hB⟩ := hrel
   have HA : Hid (∀ j,j < k → X j = X' j ∧ Y j = Y' j) := hA
   have HB : Hid (Below w.heap.size w wr) := hB
   by_cases hlt : k < n
   ·have c0 : ∀ W',Below wr.heap.size wr W' → W'.cell? ⟨b,k * 2,none⟩ = some (.int .i64 (X k)) := fun W' h => by
     simpa using ((HP.out.below hB hb).below h (Nat.lt_of_lt_of_le hb hB.size) k hlt).1
    have c1 : ∀ W',Below wr.heap.size wr W' → W'.cell? ⟨b,k * 2 + 1,none⟩ = some (.int .i64 (Y k)) := fun W' h => by
     simpa using ((HP.out.below hB hb).below h (Nat.lt_of_lt_of_le hb hB.size) k hlt).2
    have e0 : ∀ W',Below wr.heap.size wr W' → W'.cell? ⟨d,k * 2,none⟩ = some (.int .i64 (X' k)) := fun W' h => by
     simpa using ((HQ.out.below hB hd).below h (Nat.lt_of_lt_of_le hd hB.size) k hlt).1
    have e1 : ∀ W',Below wr.heap.size wr W' → W'.cell? ⟨d,k * 2 + 1,none⟩ = some (.int .i64 (Y' k)) := fun W' h => by
     simpa using ((HQ.out.below hB hd).below h (Nat.lt_of_lt_of_le hd hB.size) k hlt).2
    have heq := fun (w : World) => equalIn_point 9998 (X k) (Y k) (X' k) (Y' k) w
    have HLT : Hid (k < n) := hlt
    clear hB hA
    have hi : (k : Int) < (n : Int) := by omega
    have hi0 : (0 : Int) ≤ (k : Int) := by omega
    by_cases hE : X k = X' k ∧ Y k = Y' k
    ·have hv : ((X k == X' k) && (Y k == Y' k)) = true := by simp [hE.1,hE.2]
     rw [hv] at heq
     have HE : Hid (X k = X' k ∧ Y k = Y' k) := hE
     clear hE hv
     go_wp2
     go_region_held3 (fun W' => Below wr.heap.size wr W') ((repeat (first|exact Qr _ _|assumption|refine Qd ?_|refine Qa ?_ _|refine Qt ?_|refine Qs ?_ _|refine Qo ?_ ?_ _ _))) (fail)
     go_wp2
     go_roundw
     case rel => exact ⟨k + 1,by have := HLT.out; omega,by go_num,fun j hj => by
       by_cases e : j = k
       ·rw [e]; exact HE.out
       ·exact HA.out j (by omega),bl_then HB.out (by assumption)⟩
     case measure => have := HLT.out; simp [intOf]; omega
    ·have hv : ((X k == X' k) && (Y k == Y' k)) = false := by
      cases h1 : (X k == X' k)
      ·rfl
      ·cases h2 : (Y k == Y' k)
       ·rfl
       ·exact absurd ⟨by simpa using h1,by simpa using h2⟩ hE
     rw [hv] at heq
     have hz : Hid (ptsEq n X Y n X' Y' = false) := by
      show _ = _
      unfold ptsEq
      rw [decide_eq_false (p := ∀ i,i < n → X i = X' i ∧ Y i = Y' i) (fun h => hE (h k hlt))]
      simp
     clear hE hv
     go_wp2
     go_region_held3 (fun W' => Below wr.heap.size wr W') ((repeat (first|exact Qr _ _|assumption|refine Qd ?_|refine Qa ?_ _|refine Qt ?_|refine Qs ?_ _|refine Qo ?_ ?_ _ _))) (fail)
     go_wp2
     go_ret
     exact ⟨ret_bool hz.out.symm,bl_then HB.out (by assumption)⟩
   ·have hz : Hid (ptsEq n X Y n X' Y' = true) := by
     show _ = _
     unfold ptsEq
     rw [decide_eq_true (p := ∀ i,i < n → X i = X' i ∧ Y i = Y' i) (fun i hi => HA.out i (by omega))]
     simp
    go_wp2
    go_ret
    exact ⟨ret_bool hz.out.symm,HB.out⟩
 ·have hne : ((n : Int) == (m : Int)) = false := by simp; omega
  have hz : Hid (ptsEq n X Y m X' Y' = false) := by show _ = _; simp [ptsEq,hnm]
  go_enter Tryz.func79,Tryz.ntmps79
  go_wp2
  go_ret
  exact ⟨ret_bool hz.out.symm,by (repeat (first|exact Qr _ _|assumption|refine Qd ?_|refine Qa ?_ _|refine Qt ?_|refine Qs ?_ _|refine Qo ?_ ?_ _ _))⟩
def sameB (i1 l1 k1 w1 : Int) (s1 : ByteArray) (p1 i2 l2 k2 w2 : Int) (s2 : ByteArray) (p2 : Int) : Bool := (i1 == i2) && ((l1 == l2) && ((k1 == k2) && ((w1 == w2) && (decide (s1 = s2) && (p1 == p2)))))
theorem bytes_ne {s1 s2 : ByteArray} (h : ¬ s1 = s2) : (s1 == s2) = false ∧ (s1.toList == s2.toList) = false := by
 have h1 : (s1.toList == s2.toList) = false := by
  cases hb : (s1.toList == s2.toList)
  ·rfl
  ·have e : s1.toList = s2.toList := by simpa using hb
   rw [ByteArray.toList_eq,ByteArray.toList_eq] at e
   exact absurd (ByteArray.ext (Array.toList_inj.1 e)) h
 exact ⟨by rw [beq_toListBytes]; exact h1,h1⟩
theorem isSameFeature_any (i1 l1 k1 w1 i2 l2 k2 w2 : Int) (b d n m c c' : Nat) (X Y X' Y' : Nat → Int) (s1 s2 : ByteArray) (p1 p2 : Int) (w : World) (hp : PtsAt w b 0 n X Y) (hq : PtsAt w d 0 m X' Y') (hb : b < w.heap.size) (hd : d < w.heap.size) (hn : n ≤ 1048576) (hm : m ≤ 1048576) :
  Calls Tryz.prog 33 #[.agg #[.int .i64 i1, .int .i64 l1, .int .i64 k1, .int .i64 w1, .slice (some ⟨b,0,none⟩) n c, .string s1, .int .i64 p1], .agg #[.int .i64 i2, .int .i64 l2, .int .i64 k2, .int .i64 w2, .slice (some ⟨d,0,none⟩) m c', .string s2, .int .i64 p2]] w fun e w' => e = .returned (.bool (ptsEq n X Y m X' Y' && sameB i1 l1 k1 w1 s1 p1 i2 l2 k2 w2 s2 p2)) ∧ Below w.heap.size w w' := by
 have HP : Hid (PtsAt w b 0 n X Y) := hp
 have HQ : Hid (PtsAt w d 0 m X' Y') := hq
 clear hp hq
 go_enter Tryz.func33,Tryz.ntmps33
 go_wp2_with fail
 generalize hW : ((w.alloc _).alloc _ : World) = W
 have hB0 : Below w.heap.size w W := by subst hW; (repeat (first|exact Qr _ _|assumption|refine Qd ?_|refine Qa ?_ _|refine Qt ?_|refine Qs ?_ _|refine Qo ?_ ?_ _ _))
 have hsz : W.heap.size = w.heap.size + 1 + 1 := by subst hW; simp
 have a0 : ∀ W',Below W.heap.size W W' → W'.cell? ⟨w.heap.size,0,none⟩ = some (.int .i64 i1) := fun W' h => by
  rw [h.cell (by subst hW; first | (simp; done) | (simp; omega))]; subst hW; simp [go_sem]
 have a1 : ∀ W',Below W.heap.size W W' → W'.cell? ⟨w.heap.size,1,none⟩ = some (.int .i64 l1) := fun W' h => by
  rw [h.cell (by subst hW; first | (simp; done) | (simp; omega))]; subst hW; simp [go_sem]
 have a2 : ∀ W',Below W.heap.size W W' → W'.cell? ⟨w.heap.size,2,none⟩ = some (.int .i64 k1) := fun W' h => by
  rw [h.cell (by subst hW; first | (simp; done) | (simp; omega))]; subst hW; simp [go_sem]
 have a3 : ∀ W',Below W.heap.size W W' → W'.cell? ⟨w.heap.size,3,none⟩ = some (.int .i64 w1) := fun W' h => by
  rw [h.cell (by subst hW; first | (simp; done) | (simp; omega))]; subst hW; simp [go_sem]
 have a5 : ∀ W',Below W.heap.size W W' → W'.cell? ⟨w.heap.size,5,none⟩ = some (.string s1) := fun W' h => by
  rw [h.cell (by subst hW; first | (simp; done) | (simp; omega))]; subst hW; simp [go_sem]
 have a6 : ∀ W',Below W.heap.size W W' → W'.cell? ⟨w.heap.size,6,none⟩ = some (.int .i64 p1) := fun W' h => by
  rw [h.cell (by subst hW; first | (simp; done) | (simp; omega))]; subst hW; simp [go_sem]
 have b0 : ∀ W',Below W.heap.size W W' → W'.cell? ⟨w.heap.size + 1,0,none⟩ = some (.int .i64 i2) := fun W' h => by
  rw [h.cell (by subst hW; first | (simp; done) | (simp; omega))]; subst hW; simp [go_sem]
 have b1 : ∀ W',Below W.heap.size W W' → W'.cell? ⟨w.heap.size + 1,1,none⟩ = some (.int .i64 l2) := fun W' h => by
  rw [h.cell (by subst hW; first | (simp; done) | (simp; omega))]; subst hW; simp [go_sem]
 have b2 : ∀ W',Below W.heap.size W W' → W'.cell? ⟨w.heap.size + 1,2,none⟩ = some (.int .i64 k2) := fun W' h => by
  rw [h.cell (by subst hW; first | (simp; done) | (simp; omega))]; subst hW; simp [go_sem]
 have b3 : ∀ W',Below W.heap.size W W' → W'.cell? ⟨w.heap.size + 1,3,none⟩ = some (.int .i64 w2) := fun W' h => by
  rw [h.cell (by subst hW; first | (simp; done) | (simp; omega))]; subst hW; simp [go_sem]
 have b5 : ∀ W',Below W.heap.size W W' → W'.cell? ⟨w.heap.size + 1,5,none⟩ = some (.string s2) := fun W' h => by
  rw [h.cell (by subst hW; first | (simp; done) | (simp; omega))]; subst hW; simp [go_sem]
 have b6 : ∀ W',Below W.heap.size W W' → W'.cell? ⟨w.heap.size + 1,6,none⟩ = some (.int .i64 p2) := fun W' h => by
  rw [h.cell (by subst hW; first | (simp; done) | (simp; omega))]; subst hW; simp [go_sem]
 clear hW
 refine (slicesEqual_any b d n m c c' X Y X' Y' W (HP.out.below hB0 hb) (HQ.out.below hB0 hd) (by omega) (by omega) hn hm).mono ?_
 rintro e v1 ⟨rfl,hb1⟩
 have HB0 : Hid (Below w.heap.size w W) := hB0
 have hB1 : Below W.heap.size W v1 := hb1
 clear hB0 hsz hb1
 have HB1 : Hid (Below w.heap.size w v1) := bl_then HB0.out hB1
 cases hpe : ptsEq n X Y m X' Y'
 ·have KPE : Hid (ptsEq n X Y m X' Y' = false) := hpe
  go_wp2
  go_ret
  exact ⟨ret_bool (by simp [KPE.out]),HB1.out⟩
 have KPE : Hid (ptsEq n X Y m X' Y' = true) := hpe
 clear hpe
 by_cases g0 : i1 = i2
 rotate_left
 ·have g0' : (i1 == i2) = false := by simpa using g0
  have hz : Hid (sameB i1 l1 k1 w1 s1 p1 i2 l2 k2 w2 s2 p2 = false) := by show _ = _; simp [sameB,g0]
  clear g0
  go_wp2
  go_ret
  exact ⟨ret_bool (by rw [KPE.out,hz.out]; simp),HB1.out⟩
 subst g0
 by_cases g1 : l1 = l2
 rotate_left
 ·have g1' : (l1 == l2) = false := by simpa using g1
  have hz : Hid (sameB i1 l1 k1 w1 s1 p1 i1 l2 k2 w2 s2 p2 = false) := by show _ = _; simp [sameB,g1]
  clear g1
  go_wp2
  go_ret
  exact ⟨ret_bool (by rw [KPE.out,hz.out]; simp),HB1.out⟩
 subst g1
 by_cases g2 : k1 = k2
 rotate_left
 ·have g2' : (k1 == k2) = false := by simpa using g2
  have hz : Hid (sameB i1 l1 k1 w1 s1 p1 i1 l1 k2 w2 s2 p2 = false) := by show _ = _; simp [sameB,g2]
  clear g2
  go_wp2
  go_ret
  exact ⟨ret_bool (by rw [KPE.out,hz.out]; simp),HB1.out⟩
 subst g2
 by_cases g3 : w1 = w2
 rotate_left
 ·have g3' : (w1 == w2) = false := by simpa using g3
  have hz : Hid (sameB i1 l1 k1 w1 s1 p1 i1 l1 k1 w2 s2 p2 = false) := by show _ = _; simp [sameB,g3]
  clear g3
  go_wp2
  go_ret
  exact ⟨ret_bool (by rw [KPE.out,hz.out]; simp),HB1.out⟩
 subst g3
 by_cases g5 : s1 = s2
 rotate_left
 ·obtain ⟨q1,q2⟩ := bytes_ne g5
  have hz : Hid (sameB i1 l1 k1 w1 s1 p1 i1 l1 k1 w1 s2 p2 = false) := by show _ = _; simp [sameB,g5]
  clear g5
  go_wp2
  go_ret
  exact ⟨ret_bool (by rw [KPE.out,hz.out]; simp),HB1.out⟩
 subst g5
 have hz : Hid (sameB i1 l1 k1 w1 s1 p1 i1 l1 k1 w1 s1 p2 = (p1 == p2)) := by show _ = _; simp [sameB]
 go_wp2
 go_ret
 exact ⟨ret_bool (by rw [KPE.out,hz.out]; simp),HB1.out⟩
end Go.Proofs.YtfkonhagjahgnaaGreat
