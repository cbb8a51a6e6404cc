/- Texts. -/
import Derived.Test.YtiephlohemphjaaGreatVTickViewer1
import Derived.Test.YtiephlohemphjaaGreatVTickViewer3
set_option linter.unusedSimpArgs false
set_option linter.unusedVariables false
set_option maxRecDepth 100000
set_option maxHeartbeats 32000000
namespace Go.Proofs.YtiephlohemphjaaGreat
open Go.RowKit

theorem info_n64 : (Tryz.prog.info? 2).map (fun i => (i.zero,i.size,i.bytes)) = some (some (.int .i64 0),1,8) := by kernel_rfl
def RowN (base : Nat) (w : World) (v : Value) (l : List Int) : Prop := w.ownsRow base 2 1 v l.length (l.map (.int .i64 ·))
def nz (l : List Int) (i : Nat) : Int := l.getD i 0
theorem RowN.own {base : Nat} {w : World} {v : Value} {l : List Int} (h : RowN base w v l) : OwnN w base v l.length (nz l) := by
 obtain ⟨h1,h2 | ⟨g,cp,cur,hv,hg,hh,hkc,hcm,hcs,htk⟩⟩ := id h
 ·obtain ⟨rfl,h0⟩ := h2
  rw [h0]
  exact ⟨none,0,rfl,Nat.le_refl _, .inl rfl⟩
 ·have hgl : g < w.heap.size := by
   rcases Nat.lt_or_ge g w.heap.size with h' | h'
   ·exact h'
   ·rw [Array.getElem?_eq_none h'] at hh; cases hh
  have hrow : w.ownsRow base 2 1 (.slice (some ⟨g,0,none⟩) l.length cp) l.length (l.map (.int .i64 ·)) := ⟨h1, .inr ⟨g,cp,cur,rfl,hg,hh,hkc,hcm,hcs,htk⟩⟩
  refine ⟨some ⟨g,0,none⟩,cp,hv,hkc, .inr ⟨g,rfl,hg,hgl,fun i hi => ?_,fun o ho => ⟨?_,hrow.frozenAt o⟩⟩⟩
  ·rw [Nat.zero_add,hrow.cellAt i (by omega),List.getElem?_map]
   simp [nz,List.getD_eq_getElem?_getD,hi]
  ·rw [hrow.cellAt o (by omega),List.getElem?_map]
   simp [ho]
theorem RowN.below {base : Nat} {w w' : World} {v : Value} {l : List Int} (h : RowN base w v l) (hb : Below w.heap.size w w') : RowN base w' v l := by
 obtain ⟨h1,h2 | ⟨g,cp,cur,hv,hg,hh,hr⟩⟩ := h
 ·exact ⟨h1, .inl h2⟩
 ·refine ⟨h1, .inr ⟨g,cp,cur,hv,hg,?_,hr⟩⟩
  have hgl : g < w.heap.size := by
   rcases Nat.lt_or_ge g w.heap.size with h' | h'
   ·exact h'
   ·rw [Array.getElem?_eq_none h'] at hh; cases hh
  rw [hb.block g hgl]
  exact hh
theorem RowN.no (base : Nat) (w : World) : RowN base w (.slice none 0 0) [] := World.ownsRow_nil _ _ _ _
theorem RowN.wide {base B : Nat} {w : World} {v : Value} {l : List Int} (h : RowN base w v l) (hB : B ≤ base) : RowN B w v l := by
 obtain ⟨h1,h2 | ⟨g,cp,cur,hv,hg,hr⟩⟩ := h
 ·exact ⟨h1, .inl h2⟩
 ·exact ⟨h1, .inr ⟨g,cp,cur,hv,by omega,hr⟩⟩
theorem RowN.other {base r o : Nat} {w : World} {v u : Value} {l : List Int} (h : RowN base w v l) (hr : r < base) : RowN base (w.setCell ⟨r,o,none⟩ u) v l := by
 obtain ⟨h1,h2 | ⟨g,cp,cur,hv,hg,hh,hr'⟩⟩ := h
 ·exact ⟨h1, .inl h2⟩
 ·exact ⟨h1, .inr ⟨g,cp,cur,hv,hg,by rw [Below.heap_setCell _ _ _ _ (by simp; omega)]; exact hh,hr'⟩⟩
theorem make_n64 (n : Nat) (h : n ≤ 1048576) (w : World) :
  (Instr.makeSlice 141 (.int .i64 (n : Int)) (.int .i64 (n : Int))).run Tryz.prog w = .ok (.slice (some ⟨w.heap.size,0,none⟩) n n) (w.alloc (.cells (madeCells #[.int .i64 0] n) 2)) := by
 obtain ⟨i,hi,hz,hs,hb⟩ := info_parts info_n64
 have hr := run_make (P := Tryz.prog) w 141 2 i _ Tryz.underlying141 hi hz .i64 .i64 (n : Int) (n : Int) (by omega) (Int.le_refl _) (by rw [hb]; omega) (by omega)
 simp only [Int.toNat_natCast,hs,Nat.mul_one] at hr
 exact hr
theorem there_madeN (n : Nat) (w : World) (t : TypeId) : There (w.alloc (.cells (madeCells #[.int .i64 0] n) t)) w.heap.size n := fun o ho => by
 have hz := size_madeCells #[.int .i64 0] n
 refine ⟨⟨(madeCells #[.int .i64 0] n)[o]'(by rw [hz]; exact ho),?_⟩,World.frozen?_alloc_at _ _ _ _ rfl⟩
 rw [World.cell?_alloc_at _ _ _ _ rfl]
 exact Array.getElem?_eq_getElem _
theorem toInt64S_own (a : Option Addr) (n cap : Nat) (Z : Nat → Int) (w : World) (hp : IsNs w a n Z) (hmax : n ≤ 1048576) :
  Calls Tryz.prog 152 #[.slice a n cap] w fun e w' => ∃ b,e = .returned (.slice (some ⟨b,0,none⟩) n n) ∧ w.heap.size ≤ b ∧ b < w'.heap.size ∧ NsAt w' b 0 n Z ∧ There w' b n ∧ Below w.heap.size w w' := by
 have hmk := make_n64 n hmax
 have HP : Hid (IsNs w a n Z) := hp
 clear hp
 go_enter Tryz.func152,Tryz.ntmps152
 go_wp2
 generalize hW : (w.alloc _ : World) = W
 have HB0 : Hid (Below w.heap.size w W) := by show Below _ _ _; subst hW; exact Qb
 have HT0 : Hid (There W w.heap.size n) := by show There _ _ _; subst hW; exact there_madeN _ _ _
 have HL0 : Hid (w.heap.size < W.heap.size) := by show _ < _; subst hW; simp
 clear hW hmk
 go_loopw [4] (fun i wr => ∃ k : Nat,k ≤ n ∧ i = .int .i64 k ∧ Below w.heap.size w wr ∧ There wr w.heap.size n ∧ NsAt wr w.heap.size 0 k Z ∧ w.heap.size < wr.heap.size) (fun i _ => n - (intOf i).toNat)
 case atStart => exact ⟨0,by omega,rfl,HB0.out,HT0.out,fun i hi => by omega,HL0.out⟩
 case round =>
  obtain ⟨k,hk,rfl,hB,hT,hPt,hlw⟩ := hrel
  by_cases hlt : k < n
  ·rcases HP.out with h0 | ⟨b,off,rfl,hbl,hpt⟩
   ·omega
   ·have hx : wr.cell? ⟨b,off + k,none⟩ = some (.int .i64 (Z k)) := (hB.cell (p := ⟨b,off + k,none⟩) hbl).trans (hpt k hlt)
    have HB : Hid (Below w.heap.size w wr) := hB
    have HT : Hid (There wr w.heap.size n) := hT
    have HQ : Hid (NsAt wr w.heap.size 0 k Z) := hPt
    have t0 := hT.cell k hlt
    have f0 := (hT k hlt).2
    clear hB hT hPt hpt
    have hi : (k : Int) < (n : Int) := by omega
    have hi0 : (0 : Int) ≤ (k : Int) := by omega
    go_wp2
    go_roundw
    case rel =>
     refine ⟨k + 1,by omega,by go_num,?_,HT.out.setN _ _,fillN HT.out hlt HQ.out,?_⟩
     ·have HB' := HB.out
      exact Qb
     ·simp; omega
    case measure => simp [intOf]; omega
  ·go_wp2
   go_ret
   have hkn : k = n := by omega
   subst hkn
   exact ⟨_,rfl,Nat.le_refl _,hlw,hPt,hT,hB⟩
end Go.Proofs.YtiephlohemphjaaGreat
namespace Go.Proofs.YtiephlohemphjaaGreat
open Go.RowKit Go.Sort Go.Shelf
theorem Gro.grow {V W' : World} (h : Gro V W') : ∃ q os',W' = Go.Sort.grow (V.drewN q) os' := by
 obtain ⟨hb,hd⟩ := h
 refine ⟨W'.drawn - V.drawn,W'.heap.extract V.heap.size W'.heap.size,?_⟩
 obtain ⟨hp,tp,dr,os,ou⟩ := W'
 obtain ⟨h1,h2,h3,h4,h5⟩ := hb
 simp only at h1 h2 h3 h4 h5 hd
 subst h1 h2 h3
 have e1 : V.drawn + (dr - V.drawn) = dr := by omega
 have e2 : V.heap ++ hp.extract V.heap.size hp.size = hp := by
  apply Array.ext
  ·simp; omega
  ·intro i hi hi'
   by_cases h : i < V.heap.size
   ·rw [Array.getElem_append_left h]
    have := h5 i h
    rw [Array.getElem?_eq_getElem hi',Array.getElem?_eq_getElem h] at this
    injection this with this
    exact this.symm
   ·rw [Array.getElem_append_right (by omega)]
    simp only [Array.getElem_extract]
    congr 1
    omega
 simp only [Go.Sort.grow,World.drewN,e1,e2]
theorem cmpI_lt (x y : Int) : cmpI x y < 0 ↔ x < y := by
 unfold cmpI
 by_cases h1 : x < y
 ·rw [if_pos h1]; simp [h1]
 ·rw [if_neg h1]
  by_cases h2 : y < x
  ·rw [if_pos h2]; simp [h1]
  ·rw [if_neg h2]; simp [h1]
theorem grown_sortF (enc : Nat → List Value) (k : Nat) (w : World) (g off m : Nat) (d : Array Nat) (os : Array Obj) : w.grownBy (sortWorldK enc k w g off m d os) (some g) := by
 refine ⟨rfl,rfl,rfl,size_sortWorldK_c _ _ _ _ _ _ _ _,fun j hj hne => ?_⟩
 have hne' : g ≠ j := fun e => hne (by rw [e])
 show ((putRowK enc k (Sort.ahead w m) g off d).heap ++ os)[j]? = _
 have hs : (putRowK enc k (Sort.ahead w m) g off d).heap.size = w.heap.size := by
  show (putRow id (Sort.ahead w m) g off (flatK enc k d)).heap.size = _
  rw [size_putRow]; rfl
 rw [Array.getElem?_append_left (by rw [hs]; exact hj)]
 show (w.heap.modify g _)[j]? = _
 rw [Array.getElem?_modify,if_neg hne']
end Go.Proofs.YtiephlohemphjaaGreat
namespace Go.Proofs.YtiephlohemphjaaGreat
open Go.RowKit
end Go.Proofs.YtiephlohemphjaaGreat
