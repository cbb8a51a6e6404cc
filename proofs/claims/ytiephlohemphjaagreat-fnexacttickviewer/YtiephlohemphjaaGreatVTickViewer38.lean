/- Texts. -/
import Derived.Test.YtiephlohemphjaaGreatVTickViewer37
set_option linter.unusedSimpArgs false
set_option linter.unusedVariables false
set_option maxRecDepth 100000
set_option maxHeartbeats 32000000
namespace Go.Proofs.YtiephlohemphjaaGreat
open Go.RowKit
end Go.Proofs.YtiephlohemphjaaGreat
namespace Go.Proofs.YtiephlohemphjaaGreat
open Go.RowKit Go.Shelf Go.Maps Go.Sort
attribute [local go_sem] Oper.semAt_some
def agCs (a : Ag) : List Value := [.int .i64 a.z, .int .i64 a.x, .int .i64 a.y, .slice a.fa a.fn a.fc, .slice a.ia a.m a.ic, .int .i64 a.t]
def agsCs (l : List Ag) : List Value := l.flatMap agCs
def ABox (W : World) (B : Nat) (a : Ag) : Prop := W.heap[B]? = some (.cells #[.int .i64 a.z, .int .i64 a.x, .int .i64 a.y, .slice a.fa a.fn a.fc, .slice a.ia a.m a.ic, .int .i64 a.t] 178 (0,0))
theorem ABox.at {W : World} {B : Nat} {a : Ag} (h : ABox W B a) : W.cell? ⟨B,0,none⟩ = some (.int .i64 a.z) ∧ W.cell? ⟨B,1,none⟩ = some (.int .i64 a.x) ∧ W.cell? ⟨B,2,none⟩ = some (.int .i64 a.y) ∧ W.cell? ⟨B,3,none⟩ = some (.slice a.fa a.fn a.fc) ∧ W.cell? ⟨B,4,none⟩ = some (.slice a.ia a.m a.ic) ∧ W.cell? ⟨B,5,none⟩ = some (.int .i64 a.t) := by
 have h' : W.heap[B]? = _ := h
 exact ⟨by simp [World.cell?,h'],by simp [World.cell?,h'],by simp [World.cell?,h'],by simp [World.cell?,h'],by simp [World.cell?,h'],by simp [World.cell?,h']⟩
abbrev zeroAg : Array Value := #[.int .i64 0, .int .i64 0, .int .i64 0, .slice none 0 0, .slice none 0 0, .int .i64 0]
theorem info_ag : (Tryz.prog.info? 178).map (fun i => (i.zero,i.size,i.bytes)) = some (some (.agg zeroAg),6,80) := by kernel_rfl
def AllA (D0 : DataW Value) (xs : List Ag) : Prop := ∃ ps,AllV D0 ps ∧ xs = ps.map (·.2)
theorem values_stops (Bm b nn : Nat) (D0 : DataW Value) (w : World) (hBm : Bm < w.heap.size) (hm : w.cell? ⟨Bm,0,none⟩ = some (.map (some b))) (hown : w.ownsMap Tryz.prog 97 RV b nn D0) :
  SeqStopsK Fence.wide 3 Tryz.prog 190 #[.pointer (some ⟨Bm,0,none⟩)] (fun x : Ag => #[agW x]) KeepsWalks (AllA D0) (fun _ => True) (Maps.size D0) w := fun l J Jx W hW hJ hJx hY h0 =>
 values1_in l Bm b nn D0 J Jx hY W hJ ((hW.cell (p := ⟨Bm,0,none⟩) hBm).trans hm) (ownsMap_below hown hW) h0
theorem mapsValues_any (mb : Nat) (w : World) : Calls Tryz.prog 160 #[.map (some mb)] w fun e w' => e = .returned (.func (.func 190) #[] #[.pointer (some ⟨w.heap.size,0,none⟩)]) ∧ w' = w.alloc (.cells #[.map (some mb)] 159) := by
 have hmf : ∀ (fn : Fn) (first cap : Array Value) (w : World),(Instr.makeFunc fn first cap).run Tryz.prog w = .ok (.func fn first cap) w := fun _ _ _ _ => rfl
 go_enter Tryz.func160,Tryz.ntmps160
 go_wp2
 go_ret
 exact ⟨rfl,rfl⟩
theorem appendSeqA_any (Bm b nn : Nat) (D0 : DataW Value) (w : World) (hBm : Bm < w.heap.size) (hm : w.cell? ⟨Bm,0,none⟩ = some (.map (some b))) (hown : w.ownsMap Tryz.prog 97 RV b nn D0) (hall : Maps.size D0 ≤ 1048576) :
  Calls Tryz.prog 218 #[.slice none 0 0, .func (.func 190) #[] #[.pointer (some ⟨Bm,0,none⟩)]] w fun e w' => ∃ v xs,e = .returned v ∧ AllA D0 xs ∧ w'.ownsRow w.heap.size 178 6 v xs.length (agsCs xs) ∧ Below w.heap.size w w' := by
 obtain ⟨i0,hi,hz0,hz1,hz2⟩ := info_parts info_ag
 refine (callsIn_wide (n := 4)).1 ?_
 refine callsIn_of_wp_marks Tryz.func218 rfl trivial ?_ rfl
 simp only [Tryz.ntmps218,List.size_toArray,List.length_cons,List.length_nil,Nat.reduceAdd,Nat.reduceSub,Array.replicate_succ,Array.replicate_zero,List.push_toArray,List.append_toArray,List.nil_append,List.cons_append]
 gi_wp2
 obtain ⟨W0,hW0⟩ : ∃ W0,(w.alloc (.cells #[.slice none 0 0] 198) : World) = W0 := ⟨_,rfl⟩
 have b0 : Boxed W0 w.heap.size 198 (.slice none 0 0) := by rw [← hW0]; exact Boxed.new w 198 (.slice none 0 0)
 have hB0 : Below w.heap.size w W0 := by rw [← hW0]; exact Qb
 have hsz : W0.heap.size = w.heap.size + 1 := by rw [← hW0]; simp
 rw [hW0]
 clear hW0
 refine wpIn_rangeFunc_ownH rfl (by omega) (gf := 190) (lb := #[.pointer (some ⟨Bm,0,none⟩)]) rfl trivial (enters_of Tryz.func190 (by kernel_rfl) rfl)
  (values_stops Bm b nn D0 W0 (by omega) ((hB0.cell (p := ⟨Bm,0,none⟩) hBm).trans hm) (ownsMap_below hown hB0)) (fun h k => KeepsWalks.trans h k) (fun W l o o' _ h1 _ h3 => KeepsWalks.putObj o' h1 h3) (Below.refl _ _) (fun _ => rfl)
  (fun pre W => ((∃ v,Boxed W w.heap.size 198 v ∧ W.ownsRow w.heap.size 178 6 v pre.length (agsCs pre) ∧ True)) ∧ Below w.heap.size w W)
  (fun _ _ _ => False)
  (OwnFrom.and (Own.from (holdsRow_own w.heap.size w.heap.size 198 178 6 (fun (pre : List Ag) => pre.length) (fun pre => agsCs pre) (fun _ _ => True)) _) (ownFrom_below (Nat.le_refl _) (by omega)))
  (fun _ _ _ _ _ hs _ _ => hs)
  ⟨⟨_,b0,World.ownsRow_nil _ _ _ _,trivial⟩,hB0⟩
  (fun x a' W => ∃ Bx,ABox W Bx x ∧ a' = { tmps := #[.slice none 0 0, .func (.func 190) #[] #[.pointer (some ⟨Bm,0,none⟩)], .pointer (some ⟨w.heap.size,0,none⟩),undef, .slice none 0 0, .pointer (some ⟨Bx,0,none⟩), .func (.func 190) #[] #[.pointer (some ⟨Bm,0,none⟩)],agW x,undef,undef,undef,undef,undef],defers := [] })
  ?hAx ?assign ?body ?done ?stop
 case hAx =>
  rintro x a' _ X Y row ⟨Bx,e1,e2⟩ hg hr
  exact ⟨Bx,(hg.block Bx (Array.getElem?_eq_some_iff.1 e1).1 (fun e' => by obtain ⟨_,o,ho,hc⟩ := hr Bx e'.symm; rw [show X.heap[Bx]? = _ from e1] at ho; cases ho; cases hc)).trans e1,e2⟩
 case assign =>
  rintro l pre x W K ⟨⟨v,hv,hrow,_⟩,hB⟩ hK
  have hK2 := hK { tmps := #[.slice none 0 0, .func (.func 190) #[] #[.pointer (some ⟨Bm,0,none⟩)], .pointer (some ⟨w.heap.size,0,none⟩),undef, .slice none 0 0, .pointer (some ⟨W.heap.size,0,none⟩), .func (.func 190) #[] #[.pointer (some ⟨Bm,0,none⟩)],agW x,undef,undef,undef,undef,undef],defers := [] } (W.alloc (.cells #[.int .i64 x.z, .int .i64 x.x, .int .i64 x.y, .slice x.fa x.fn x.fc, .slice x.ia x.m x.ic, .int .i64 x.t] 178))
   ((KeepsOthers.alloc _ _).from _) (KeepsWalks.alloc _ _) ⟨⟨v,hv.alloc _,hrow.alloc _,trivial⟩,hB.alloc hB.size _⟩ ⟨_,World.alloc_heap_new W _,rfl⟩
  gi_wp2
  exact hK2
 case body =>
  rintro l pre x a' W hl hlr ⟨⟨v,hv,hrow,_⟩,hB⟩ ⟨Bx,hE,rfl⟩ hlt
  obtain ⟨e0,e1,e2,e3,e4,e5⟩ := hE.at
  have hc := hv.cell
  have hmx : 1048577 ≤ maxLen := by decide
  have hce : ∀ j u,(agCs x)[j]? = some u → (W.alloc (.cells #[.int .i64 x.z, .int .i64 x.x, .int .i64 x.y, .slice x.fa x.fn x.fc, .slice x.ia x.m x.ic, .int .i64 x.t] 178)).cell? ((⟨W.heap.size,0,none⟩ : Addr).add j) = some u := by
   have hN : ABox (W.alloc (.cells #[.int .i64 x.z, .int .i64 x.x, .int .i64 x.y, .slice x.fa x.fn x.fc, .slice x.ia x.m x.ic, .int .i64 x.t] 178)) W.heap.size x := World.alloc_heap_new W _
   obtain ⟨n0,n1,n2,n3,n4,n5⟩ := hN.at
   intro j u hj
   match j,hj with
   | 0,hj => exact (Option.some.inj hj) ▸ n0
   | 1,hj => exact (Option.some.inj hj) ▸ n1
   | 2,hj => exact (Option.some.inj hj) ▸ n2
   | 3,hj => exact (Option.some.inj hj) ▸ n3
   | 4,hj => exact (Option.some.inj hj) ▸ n4
   | 5,hj => exact (Option.some.inj hj) ▸ n5
   | j + 6,hj => cases (show (none : Option Value) = some u from hj)
  gi_wp2_with (gi_at_builtin; refine wpListIn_append_own _ rfl _ _ 198 rfl w.heap.size 178 i0 (.agg zeroAg) 6 80 Tryz.underlying198 hi hz0 hz1 hz2 rfl (by decide) _ _ _ rfl (hrow.alloc _) ⟨W.heap.size,0,none⟩ 1 1 (agCs x) rfl rfl hce (by simp [agCs,Value.oneCell']) (by omega) (by omega) (by have := hB.size; simp; omega) ?_; intro v' w1 hown' hgrow _; obtain ⟨g',cap',rfl⟩ := ownsRow_succ hown'; obtain ⟨hv1,hv2,hr2,hk2,hb2⟩ := hv.appended (by decide) hrow hB.size (Nat.le_refl _) hown' hgrow; have hc1 := hv1.cell; have hf1 := hv1.frozen)
  have hkw : KeepsWalks W w1 := (KeepsWalks.alloc W (.cells #[.int .i64 x.z, .int .i64 x.x, .int .i64 x.y, .slice x.fa x.fn x.fc, .slice x.ia x.m x.ic, .int .i64 x.t] 178)).trans (KeepsWalks.of_grownBy hgrow (fun j o e h => by
   have e' : v.ownBlock = some j := e
   rcases (hrow.alloc (.cells #[.int .i64 x.z, .int .i64 x.x, .int .i64 x.y, .slice x.fa x.fn x.fc, .slice x.ia x.m x.ic, .int .i64 x.t] 178)).2 with ⟨rfl,_⟩ | ⟨g,cap,cur,rfl,_,hgb,_⟩
   ·cases e'
   ·have : g = j := by simpa [Value.ownBlock] using e'
    subst this
    rw [hgb] at h
    cases h
    rfl))
  refine ⟨hk2.from _,hkw.trans (KeepsWalks.setCell _ _ _),⟨_,hv2,?_,trivial⟩,hB.trans hb2⟩
  simpa [agsCs] using hr2
 case done =>
  rintro D ys W hD hys ⟨⟨v,hv,hrow,_⟩,hB⟩ hK
  have hc := hv.cell
  gi_wp2
  refine ⟨by simp, .inl ⟨_,_,rfl,run_takeDeferred hK,?_⟩⟩
  exact ⟨_,results_tmp rfl _ _ _,v,ys,rfl,hys,ownsRow_putObj hrow _ hK rfl,hB.trans (belowK_b (w := w) (Nat.le_refl _) W D _ _ (by omega) hK rfl rfl)⟩
 case stop =>
  rintro D c pre W _ _ h _
  exact h.elim
end Go.Proofs.YtiephlohemphjaaGreat
namespace Go.Proofs.YtiephlohemphjaaGreat
open Go.RowKit
end Go.Proofs.YtiephlohemphjaaGreat
