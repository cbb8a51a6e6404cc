/- Texts. -/
import Derived.Test.YtiephlohemphjaaGreatVTickViewer3
import Derived.Test.YtiephlohemphjaaGreatVTickViewer5
set_option linter.unusedSimpArgs false
set_option linter.unusedVariables false
set_option maxRecDepth 100000
set_option maxHeartbeats 32000000
namespace Go.Proofs.YtiephlohemphjaaGreat
open Go.RowKit
end Go.Proofs.YtiephlohemphjaaGreat
namespace Go.Proofs.YtiephlohemphjaaGreat
open Go.ChangeShapes Go.WideShapes Go.ChangeAt Go.RowKit Go.Deep
end Go.Proofs.YtiephlohemphjaaGreat
namespace Go.Proofs.YtiephlohemphjaaGreat
open Go.RowKit
end Go.Proofs.YtiephlohemphjaaGreat
namespace Go.Proofs.YtiephlohemphjaaGreat
open Go.ChangeShapes Go.WideShapes Go.ChangeAt Go.RowKit Go.Deep
theorem trod_pts {H : Type} {enc : TypeId × Value → H} {w : World} {base fuel : Nat} {held : Bool} {cs : List Value} {y : DataW H × List MemPlace}
  (hf : DataW.trod enc Tryz.prog w base (fun _ => true) held fuel 246 cs = some y) :
  ∃ (a : Option Addr) (n cap : Nat) (X Y : Nat → Int),cs = [.slice a n cap] ∧ IsPts w a n X Y ∧ n ≤ cap ∧ cap ≤ maxLen := by
 rcases open_slice_pairs Tryz.underlying246 Tryz.underlying303 cells_lp rfl rfl cells_i64 cells_i64 hf with ⟨hcs,_⟩ | ⟨x,l,c,m,n,V0,V1,D0,D1,P0,P1,hcs,_,hl,hc,hm,_,hx⟩
 ·exact ⟨none,0,0,fun _ => 0,fun _ => 0,hcs, .inl rfl,Nat.le_refl _,Nat.zero_le _⟩
 ·simp at hm
  subst hm
  refine ⟨some x,l,_,fun i => intOf (V0 i),fun i => intOf (V1 i),hcs,?_,hl,hc⟩
  by_cases h0 : l = 0
  ·exact .inl h0
  ·right
   obtain ⟨b,off,spot⟩ := x
   obtain ⟨e0,_,_,_⟩ := hx 0 (by omega)
   have hspot : spot = none := by simpa [Addr.add] using World.cell?_spot e0
   subst hspot
   refine ⟨b,off,rfl,?_,fun i hi => ?_⟩
   ·have := World.block_lt_of_cell? _ _ e0
    simpa [Addr.add] using this
   ·obtain ⟨e0,e1,g0,g1⟩ := hx i (by omega)
    obtain ⟨n0,q0,_,_⟩ := DataW.trod_int Tryz.underlying2 g0
    obtain ⟨n1,q1,_,_⟩ := DataW.trod_int Tryz.underlying2 g1
    simp at q0 q1
    rw [q0] at e0
    rw [q1] at e1
    simp only [q0,q1,intOf]
    rw [add_plain] at e0 e1
    exact ⟨e0,by rw [Nat.add_assoc]; exact e1⟩
theorem cells_lf : Tryz.prog.cellsOf 248 = 7 := by kernel_rfl
theorem cells_ls : Tryz.prog.cellsOf 246 = 1 := by kernel_rfl
theorem cells_st : Tryz.prog.cellsOf 9 = 1 := by kernel_rfl
theorem trod_feat {H : Type} {enc : TypeId × Value → H} {w : World} {base fuel : Nat} {held : Bool} {cs : List Value} {y : DataW H × List MemPlace}
  (h : DataW.trod enc Tryz.prog w base (fun _ => true) held fuel 248 cs = some y) :
  ∃ (id la ki wi : Int) (a : Option Addr) (n cap : Nat) (X Y : Nat → Int) (lab : ByteArray) (pr : Int),cs = [.int .i64 id, .int .i64 la, .int .i64 ki, .int .i64 wi, .slice a n cap, .string lab, .int .i64 pr] ∧ IsPts w a n X Y ∧ n ≤ cap ∧ cap ≤ maxLen ∧ lab.size ≤ maxLen := by
 obtain ⟨xs,m,rfl,hx,hl,hxl,hf⟩ := DataW.trod_struct Tryz.underlying248 h
 rw [cells_lf] at hl
 have hxl7 : xs.length = 7 := hxl
 match cs,hl with
 | [v0,v1,v2,v3,v4,v5,v6],_ =>
  match xs,hxl7 with
  | [x0,x1,x2,x3,x4,x5,x6],_ =>
   have h0 := hf 0 _ rfl
   have h1 := hf 1 _ rfl
   have h2 := hf 2 _ rfl
   have h3 := hf 3 _ rfl
   have h4 := hf 4 _ rfl
   have h5 := hf 5 _ rfl
   have h6 := hf 6 _ rfl
   simp [cells_i64,cells_ls,cells_st] at h0 h1 h2 h3 h4 h5 h6
   obtain ⟨id,e0,_,_⟩ := DataW.trod_int Tryz.underlying2 h0
   obtain ⟨la,e1,_,_⟩ := DataW.trod_int Tryz.underlying2 h1
   obtain ⟨ki,e2,_,_⟩ := DataW.trod_int Tryz.underlying2 h2
   obtain ⟨wi,e3,_,_⟩ := DataW.trod_int Tryz.underlying2 h3
   obtain ⟨a,n,cap,X,Y,e4,hp,hn,hc⟩ := trod_pts h4
   obtain ⟨lab,e5,_,hs⟩ := DataW.trod_string Tryz.underlying9 h5
   obtain ⟨pr,e6,_,_⟩ := DataW.trod_int Tryz.underlying2 h6
   simp at e0 e1 e2 e3 e4 e5 e6
   subst e0 e1 e2 e3 e4 e5 e6
   exact ⟨id,la,ki,wi,a,n,cap,X,Y,lab,pr,rfl,hp,hn,hc,hs⟩
end Go.Proofs.YtiephlohemphjaaGreat
namespace Go.Proofs.YtiephlohemphjaaGreat
open Go.RowKit
theorem impl_CentreOf_any (z x y : Int) (w : World) : Calls Tryz.prog 186 #[.int .i64 z, .int .i64 x, .int .i64 y] w fun e w' => e = .returned (centV z x y) ∧ Below w.heap.size w w' := by
 go_enter Tryz.func186,Tryz.ntmps186
 go_wp2_with fail
 generalize hW : (w.alloc _ : World) = W
 have HB0 : Hid (Below w.heap.size w W) := by show Below _ _ _; subst hW; exact Qb
 have HT : Hid (There W w.heap.size 3) := by
  show There _ _ _
  subst hW
  exact there3 w (.int .i64 0) (.int .i64 0) (.int .i64 0) 232
 have hsz : w.heap.size < W.heap.size := by subst hW; simp
 clear hW
 refine (isPixel_any _ _ _ _).mono ?_
 rintro e w1 ⟨rfl,hb1⟩
 have HT1 : Hid (There w1 w.heap.size 3) := HT.out.below hb1
 have HB1 : Hid (Below w.heap.size w w1) := bl_then HB0.out hb1
 have hsz1 : w.heap.size < w1.heap.size := Nat.lt_of_lt_of_le hsz hb1.size
 clear hb1 HT HB0
 cases h : pixB z x y
 ·have hT' := HT1.out
  have t0 := hT'.cell 0 (by omega)
  have t1 := hT'.cell 1 (by omega)
  have t2 := hT'.cell 2 (by omega)
  have f0 := (hT' 0 (by omega)).2
  have f1 := (hT' 1 (by omega)).2
  have f2 := (hT' 2 (by omega)).2
  clear hT'
  go_wp2_with fail
  obtain ⟨q0,q1,q2⟩ := set3_at (a := .int .i64 3) (b := .int .i64 0) (c := .int .i64 0) HT1.out
  refine bodyPost_ret (v := .agg #[.int .i64 3, .int .i64 0, .int .i64 0]) (by simp [results,Tryz.results186,go_sem,q0,q1,q2]) rfl ⟨by simp [centV,h],?_⟩
  have HB := HB1.out
  exact Qb
 ·have hz := pixB_zoom h
  have hb := pixB_in h
  have s1 := fun w => impl_UnitAt_any z w
  have hv : unitV z = .agg #[.int .i64 0, .int .i64 (unitI z)] := by simp [unitV,hz]
  simp only [hv] at s1
  have i1 : ∀ u w,(Instr.field 181 (.agg #[.int .i64 0, .int .i64 u]) 1).run Tryz.prog w = .ok (.int .i64 u) w := fun _ _ => by kernel_rfl
  have hc : Hid (centV z x y = .agg #[.int .i64 0, .int .i64 (centI z x), .int .i64 (centI z y)]) := by show _ = _; simp [centV,h]
  have hcx : centI z x = (2 * x + 1) * unitI z := rfl
  have hcy : centI z y = (2 * y + 1) * unitI z := rfl
  have hbd : unitI z = 128 ∨ unitI z = 64 ∨ unitI z = 32 ∨ unitI z = 16 := by rcases zoomB_cases hz with rfl | rfl | rfl | rfl <;> simp [unitI]
  have hpb := (pixI_bd hz).2
  go_wp2_with fail
  refine (s1 _).mono ?_
  rintro e w2 ⟨rfl,hb2⟩
  generalize unitI z = u at *
  generalize pixI z = m at *
  have hT' := HT1.out.below hb2
  have HT2 : Hid (There w2 w.heap.size 3) := hT'
  have t0 := hT'.cell 0 (by omega)
  have t1 := hT'.cell 1 (by omega)
  have t2 := hT'.cell 2 (by omega)
  have f0 := (hT' 0 (by omega)).2
  have f1 := (hT' 1 (by omega)).2
  have f2 := (hT' 2 (by omega)).2
  have HB2 : Hid (Below w.heap.size w w2) := bl_then HB1.out hb2
  have hsz2 : w.heap.size < w2.heap.size := Nat.lt_of_lt_of_le hsz1 hb2.size
  clear hT' hb2
  rcases hbd with rfl | rfl | rfl | rfl
  all_goals
   go_wp2_with fail
   obtain ⟨q0,q1,q2⟩ := set3_at (a := .int .i64 0) (b := .int .i64 (centI z x)) (c := .int .i64 (centI z y)) HT2.out
   rw [hcx,hcy] at q0 q1 q2
   refine bodyPost_ret (v := .agg #[.int .i64 0, .int .i64 (centI z x), .int .i64 (centI z y)]) (by simp [results,Tryz.results186,go_sem,q0,q1,q2,hcx,hcy]) rfl ⟨by rw [hc.out],?_⟩
   have HB := HB2.out
   exact Qb
end Go.Proofs.YtiephlohemphjaaGreat
