/- Texts. -/
import Derived.Test.YtfkonhagjahgnaaGreatWTiles10
import Derived.Test.YtfkonhagjahgnaaGreatWTiles1
import Derived.Test.YtfkonhagjahgnaaGreatWTiles6
import Derived.Test.YtfkonhagjahgnaaGreatWTiles5
import Derived.Deep.DeepMust
import Derived.Test.YtfkonhagjahgnaaGreatWTiles2
import Derived.Test.YtfkonhagjahgnaaGreatWTiles7
import Derived.Test.YtfkonhagjahgnaaGreatWTiles4
import Derived.Laws.Bits64b
set_option linter.unusedSimpArgs false
set_option linter.unusedVariables false
set_option maxRecDepth 100000
set_option maxHeartbeats 32000000
namespace Go.Proofs.YtfkonhagjahgnaaGreat
open Go.RowKit
def PanQ (R : Ending → World → Prop) (Q : Exit → Act → World → Prop) : Exit → Act → World → Prop
 | .panic c,a,w => a.defers = [] ∧ R (.panicked c) w
 | e,a,w => Q e a w
theorem PanQ.normal {R : Ending → World → Prop} {Q : Exit → Act → World → Prop} {a : Act} {w : World} (h : Q .normal a w) : PanQ R Q .normal a w := h
theorem wp_region_pan {P : Program} {id : Nat} {ops : Array Oper} {b : Bool} (R : Ending → World → Prop) {Q : Exit → Act → World → Prop} {a : Act} {w : World} (hp : ∀ c a w,a.defers = [] → R (.panicked c) w → Q (.panic c) a w) (h : (Code.region id ops b).wp P (PanQ R Q) a w) : (Code.region id ops b).wp P Q a w :=
 Code.wp_mono (fun e a w h => by cases e <;> first | exact h | exact hp _ _ _ h.1 h.2) h
def rdPts (Z : Nat → Int) : Nat → Nat → Nat → Int → Int → Option (List (Int × Int) × Nat)
 | 0,_,o,_,_ => some ([],o)
 | c + 1,n,o,x,y => (rdStep (fun i => Z (i + o)) (n - o)).bind fun d => (rdStep (fun i => Z (i + (o + d.2))) (n - (o + d.2))).bind fun e => (rdPts Z c n (o + d.2 + e.2) (x + d.1) (y + e.1)).map fun r => ((x + d.1,y + e.1) :: r.1,r.2)
theorem rdStep_bd {Z : Nat → Int} {n : Nat} {x : Int × Nat} (h : rdStep Z n = some x) : (-1073741824 ≤ x.1 ∧ x.1 ≤ 1073741824) ∧ x.2 ≤ n := by
 unfold rdStep at h
 cases hr : rdUp 2147483648 Z n with
 | none => simp [hr] at h
 | some y =>
  have hb := rdUp_bd hr
  simp [hr] at h
  subst h
  have := unfoldI_bd (n := (y.1 : Int)) (B := 1073741824) (by omega) (by omega)
  exact ⟨this,hb.2.2.1⟩
def rdAll (Z : Nat → Int) (n : Nat) : Option (List (Int × Int) × Nat) := (rdUp 12 Z n).bind fun c => rdPts Z c.1 n c.2 0 0
def PtsP (r : Option (List (Int × Int) × Nat)) (p B n : Nat) (Z : Nat → Int) (w : World) (e : Ending) (w' : World) : Prop :=
 match r with
 | none => Pan e ∧ Keeps p w w'
 | some x => ∃ v,e = .returned v ∧ Row w.heap.size w' v x.1 ∧ UpAt w' p B (n - x.2) (fun i => Z (i + x.2)) ∧ Keeps p w w'
theorem PtsP.none {r : Option (List (Int × Int) × Nat)} {p B n : Nat} {Z : Nat → Int} {w w' : World} {e : Ending} (h : r = none) (he : Pan e) (hk : Keeps p w w') : PtsP r p B n Z w e w' := by
 subst h; exact ⟨he,hk⟩
theorem PtsP.some {r : Option (List (Int × Int) × Nat)} {p B n : Nat} {Z : Nat → Int} {w w' : World} {e : Ending} {l : List (Int × Int)} {y : Nat} {v : Value} (h : r = some (l,y)) (he : e = .returned v) (hR : Row w.heap.size w' v l) (hu : UpAt w' p B (n - y) (fun i => Z (i + y))) (hk : Keeps p w w') : PtsP r p B n Z w e w' := by
 subst h; exact ⟨v,he,hR,hu,hk⟩
theorem Row.keeps {base s : Nat} {w w' : World} {v : Value} {l : List (Int × Int)} (h : Row base w v l) (hk : Keeps s w w') (hs : s < base) : Row base w' v l :=
 ownsRow_of h fun g hg => by
  have := h.lt g hg
  exact hk.block g this.2 (by have := this.1; omega)
theorem UpAt.belowB {w w' : World} {p B n K : Nat} {Z : Nat → Int} (h : UpAt w p B n Z) (hb : Below K w w') (hp : p < K) (hB : B ≤ p) : UpAt w' p B n Z := by
 obtain ⟨a,cap,h0,h1,h2,h3⟩ := h
 refine ⟨a,cap,(hb.cell (p := ⟨p,0,Option.none⟩) hp).trans h0,(hb.frozen (p := ⟨p,0,Option.none⟩) hp).trans h1,h2,?_⟩
 rcases h3 with h3 | ⟨b,off,e,hb',hz⟩
 ·exact .inl h3
 ·exact .inr ⟨b,off,e,hb',fun i hi => (hb.cell (p := ⟨b,off + i,Option.none⟩) (show b < _ by omega)).trans (hz i hi)⟩
theorem UpAt.to {w : World} {p B n n' : Nat} {Z Z' : Nat → Int} (h : UpAt w p B n Z) (hn : n = n') (hZ : ∀ i,Z i = Z' i) : UpAt w p B n' Z' := by
 obtain rfl : Z = Z' := funext hZ
 exact hn ▸ h
theorem rdPts_none1 {Z : Nat → Int} {c n o : Nat} {x y : Int} (h : rdStep (fun i => Z (i + o)) (n - o) = none) : rdPts Z (c + 1) n o x y = none := by simp [rdPts,h]
theorem rdPts_none2 {Z : Nat → Int} {c n o : Nat} {x y : Int} {d : Int × Nat} (h : rdStep (fun i => Z (i + o)) (n - o) = some d) (h2 : rdStep (fun i => Z (i + (o + d.2))) (n - (o + d.2)) = none) : rdPts Z (c + 1) n o x y = none := by simp [rdPts,h,h2]
theorem rdPts_some {Z : Nat → Int} {c n o : Nat} {x y : Int} {d e : Int × Nat} (h : rdStep (fun i => Z (i + o)) (n - o) = some d) (h2 : rdStep (fun i => Z (i + (o + d.2))) (n - (o + d.2)) = some e) : rdPts Z (c + 1) n o x y = (rdPts Z c n (o + d.2 + e.2) (x + d.1) (y + e.1)).map fun r => ((x + d.1,y + e.1) :: r.1,r.2) := by simp [rdPts,h,h2]
structure PSt (w : World) (base p B n : Nat) (Z : Nat → Int) (o : Nat) (x y : Int) (v : Value) (l : List (Int × Int)) (wr : World) : Prop where
 c0 : wr.cell? ⟨w.heap.size,0,none⟩ = some (.int .i64 x)
 c1 : wr.cell? ⟨w.heap.size,1,none⟩ = some (.int .i64 y)
 f0 : wr.frozen? ⟨w.heap.size,0,none⟩ = false
 f1 : wr.frozen? ⟨w.heap.size,1,none⟩ = false
 R : Row base wr v l
 U : UpAt wr p B (n - o) (fun i => Z (i + o))
 K : Keeps p w wr
 sz : base ≤ wr.heap.size
theorem PSt.drew {w : World} {base p B n : Nat} {Z : Nat → Int} {o : Nat} {x y : Int} {v : Value} {l : List (Int × Int)} {wr : World} (h : PSt w base p B n Z o x y v l wr) : PSt w base p B n Z o x y v l wr.drew :=
 ⟨h.c0,h.c1,h.f0,h.f1,h.R,h.U,h.K.drew,h.sz⟩
theorem PSt.read {w : World} {base p B n : Nat} {Z : Nat → Int} {o o' : Nat} {x y : Int} {v : Value} {l : List (Int × Int)} {wr w2 : World} (h : PSt w base p B n Z o x y v l wr) (hp : p < w.heap.size) (hb : base = w.heap.size + 1) (hk : Keeps p wr w2) (hu : UpAt w2 p B (n - o') (fun i => Z (i + o'))) : PSt w base p B n Z o' x y v l w2 := by
 have hs := h.sz
 have hq : w.heap.size < wr.heap.size := by omega
 exact ⟨(hk.cell (p := ⟨w.heap.size,0,none⟩) hq (show w.heap.size ≠ p by omega)).trans h.c0,(hk.cell (p := ⟨w.heap.size,1,none⟩) hq (show w.heap.size ≠ p by omega)).trans h.c1,(hk.frozen (p := ⟨w.heap.size,0,none⟩) hq (show w.heap.size ≠ p by omega)).trans h.f0,(hk.frozen (p := ⟨w.heap.size,1,none⟩) hq (show w.heap.size ≠ p by omega)).trans h.f1,h.R.keeps hk (by omega),hu,h.K.trans hk,Nat.le_trans hs hk.size⟩
theorem PSt.grow {w : World} {base p B n : Nat} {Z : Nat → Int} {o : Nat} {x y : Int} {v v' : Value} {l l' : List (Int × Int)} {wr w2 : World} (h : PSt w base p B n Z o x y v l wr) (hp : p < w.heap.size) (hB : B ≤ p) (hb : base = w.heap.size + 1) (hk : Below base wr w2) (hR : Row base w2 v' l') : PSt w base p B n Z o x y v' l' w2 := by
 have hq : w.heap.size < base := by omega
 exact ⟨(hk.cell (p := ⟨w.heap.size,0,none⟩) hq).trans h.c0,(hk.cell (p := ⟨w.heap.size,1,none⟩) hq).trans h.c1,(hk.frozen (p := ⟨w.heap.size,0,none⟩) hq).trans h.f0,(hk.frozen (p := ⟨w.heap.size,1,none⟩) hq).trans h.f1,hR,h.U.belowB hk (by omega) hB,
  ⟨hk.os.trans h.K.os,hk.tape.trans h.K.tape,hk.output.trans h.K.output,Nat.le_trans h.K.size hk.size,fun j hj hs => (hk.block j (by omega)).trans (h.K.block j hj hs)⟩,Nat.le_trans h.sz hk.size⟩
theorem PSt.set {w : World} {base p B n : Nat} {Z : Nat → Int} {o : Nat} {x y x' y' : Int} {v : Value} {l : List (Int × Int)} {wr : World} (h : PSt w base p B n Z o x y v l wr) (hp : p < w.heap.size) (hB : B ≤ p) (hb : base = w.heap.size + 1) (j : Nat) (u : Value)
  (h0 : (wr.setCell ⟨w.heap.size,j,none⟩ u).cell? ⟨w.heap.size,0,none⟩ = some (.int .i64 x')) (h1 : (wr.setCell ⟨w.heap.size,j,none⟩ u).cell? ⟨w.heap.size,1,none⟩ = some (.int .i64 y')) : PSt w base p B n Z o x' y' v l (wr.setCell ⟨w.heap.size,j,none⟩ u) := by
 have hbl : Below w.heap.size wr (wr.setCell ⟨w.heap.size,j,none⟩ u) := (Below.refl w.heap.size wr).setCell (p := ⟨w.heap.size,j,none⟩) (Nat.le_refl _) u
 refine ⟨h0,h1,by rw [World.frozen?_setCell]; exact h.f0,by rw [World.frozen?_setCell]; exact h.f1,ownsRow_of h.R fun g hg => Below.heap_setCell _ _ _ _ (by have := (h.R.lt g hg).1; show g ≠ w.heap.size; omega),h.U.belowB hbl hp hB,
  ⟨hbl.os.trans h.K.os,hbl.tape.trans h.K.tape,hbl.output.trans h.K.output,Nat.le_trans h.K.size hbl.size,fun k hk hs => (hbl.block k hk).trans (h.K.block k hk hs)⟩,Nat.le_trans h.sz hbl.size⟩
theorem points_any (p B n : Nat) (Z : Nat → Int) (w : World) (h : UpAt w p B n Z) (hB : B ≤ p) (hp : p < w.heap.size) (hr : ∀ i,0 ≤ Z i ∧ Z i ≤ 255) (hmax : n ≤ 1048576) :
  Calls Tryz.prog 151 #[.pointer (some ⟨p,0,none⟩)] w fun e w' => PtsP (rdAll Z n) p B n Z w e w' := by
 obtain ⟨i0,hi,hz0,hz1,hz2⟩ := info_parts info_pt
 have HUP : Hid (UpAt w p B n Z) := h
 have HRG : Hid (∀ i,0 ≤ Z i ∧ Z i ≤ 255) := hr
 clear h hr
 go_enter Tryz.func151,Tryz.ntmps151
 go_wp2_with fail
 generalize hW : (World.alloc _ _ : World) = W
 have hBW : Below w.heap.size w W := by subst hW; (repeat (first|exact Qr _ _|assumption|refine Qd ?_|refine Qa ?_ _|refine Qt ?_|refine Qs ?_ _|refine Qo ?_ ?_ _ _))
 have hszW : W.heap.size = w.heap.size + 1 := by subst hW; simp
 have HT : Hid (There W w.heap.size 2) := by
  show There _ _ _
  subst hW
  exact there2 w (.int .i64 0) (.int .i64 0) 67
 have q0 : W.cell? ⟨w.heap.size,0,none⟩ = some (.int .i64 0) := by subst hW; simp [go_sem]
 have q1 : W.cell? ⟨w.heap.size,1,none⟩ = some (.int .i64 0) := by subst hW; simp [go_sem]
 clear hW
 refine (numberUpTo_any 12 p B n Z W (HUP.out.belowB hBW hp hB) hB (by omega) HRG.out hmax).mono ?_
 intro e w1 hq
 cases hd : rdUp 12 Z n with
 | none =>
  rw [hd] at hq
  obtain ⟨⟨u,pv,rfl⟩,hk⟩ := hq
  exact ⟨rfl,PtsP.none (by simp [rdAll,hd]) ⟨_,_,rfl⟩ ((Keeps.of_below hBW).trans hk)⟩
 | some x0 =>
  have hbd := rdUp_bd hd
  obtain ⟨C,o0⟩ := x0
  rw [hd] at hq
  obtain ⟨rfl,hu,hk⟩ := hq
  have HALL : Hid (rdAll Z n = rdPts Z C n o0 0 0) := by show _ = _; simp [rdAll,hd]
  have hC : C ≤ 12 := hbd.1
  have ho0 : o0 ≤ n := hbd.2.2.1
  have HK1 : Hid (Keeps p W w1) := hk
  have HU1 : Hid (UpAt w1 p B (n - o0) (fun i => Z (i + o0))) := hu
  have HT1 : Hid (There w1 w.heap.size 2) := fun o ho => by
   have := HT.out o ho
   rw [hk.cell (p := ⟨w.heap.size,o,none⟩) (show w.heap.size < _ by omega) (show w.heap.size ≠ p by omega),hk.frozen (p := ⟨w.heap.size,o,none⟩) (show w.heap.size < _ by omega) (show w.heap.size ≠ p by omega)]
   exact this
  have q0' : w1.cell? ⟨w.heap.size,0,none⟩ = some (.int .i64 0) := (hk.cell (p := ⟨w.heap.size,0,none⟩) (show w.heap.size < _ by omega) (show w.heap.size ≠ p by omega)).trans q0
  have q1' : w1.cell? ⟨w.heap.size,1,none⟩ = some (.int .i64 0) := (hk.cell (p := ⟨w.heap.size,1,none⟩) (show w.heap.size < _ by omega) (show w.heap.size ≠ p by omega)).trans q1
  have HKw : Hid (Keeps p w w1) := (Keeps.of_below hBW).trans hk
  have hsz1 := hk.size
  clear hd hbd hu hk q0 q1 HT hBW
  go_wp2_with fail
  have HS0 : Hid (PSt w W.heap.size p B n Z o0 0 0 (.slice none 0 0) [] w1) := ⟨q0',q1',(HT1.out 0 (by omega)).2,(HT1.out 1 (by omega)).2,Row.no _ _,HU1.out,HKw.out,hsz1⟩
  go_loopw [3,8] (fun v i wr => ∃ (k o : Nat) (x y : Int) (l : List (Int × Int)),k ≤ C ∧ i = .int .u64 (k : Int) ∧ l.length = k ∧ o ≤ n ∧ (-1073741824 * (k : Int) ≤ x ∧ x ≤ 1073741824 * (k : Int)) ∧ (-1073741824 * (k : Int) ≤ y ∧ y ≤ 1073741824 * (k : Int)) ∧ PSt w W.heap.size p B n Z o x y v l wr ∧ rdAll Z n = (rdPts Z (C - k) n o x y).map fun r => (l ++ r.1,r.2)) (fun _ i _ => C - (intOf i).toNat)
  case atStart => exact ⟨0,o0,0,0, [],by omega,rfl,rfl,ho0,⟨by omega,by omega⟩,⟨by omega,by omega⟩,HS0.out,by rw [HALL.out]; cases rdPts Z C n o0 0 0 <;> simp⟩
  case round =>
   obtain ⟨k,o,x,y,l,hk,rfl,hl,ho,hx,hy,hS,hall⟩ := hrel
   have HS : Hid (PSt w W.heap.size p B n Z o x y u3 l wr) := hS
   have HA : Hid (rdAll Z n = (rdPts Z (C - k) n o x y).map fun r => (l ++ r.1,r.2)) := hall
   have hsz := hS.sz
   clear hS hall HALL HK1 HU1 HT1 HKw q0' q1' HS0
   by_cases hlt : k < C
   ·obtain ⟨D,hD⟩ : ∃ D,C - k = D + 1 := ⟨C - k - 1,by omega⟩
    rw [hD] at HA
    have hi' : (k : Int) < (C : Int) := by omega
    have hpr : p < wr.heap.size := by omega
    go_wp2_with fail
    have c0 := HS.out.c0
    have hpr0 : p < wr.heap.size := by have := HS.out.sz; omega
    refine wp_region_pan (fun e w' => PtsP (rdAll Z n) p B n Z w e w') (fun c a w h1 h2 => ⟨h1,h2⟩) ?_
    refine wp_region_L (S := fun W' => W'.cell? ⟨w.heap.size,0,none⟩ = some (.int .i64 x)) (z := 6) (by kernel_rfl) ?_
    refine wpAnyL_take (i := 0) (v := ?a00) rfl (by kernel_rfl) (by kernel_rfl) (by kernel_rfl) (by kernel_rfl) (fun _ _ _ h => h) (Or.inl ⟨by rfl,?ha00⟩) (show wr.drew.cell? ⟨w.heap.size,0,none⟩ = _ from c0) ?_
    case ha00 => (intro w hSw; (try dsimp only at hSw); go_simp <;> with_reducible rfl)
    try simp only [Act.put,Qx,Qy,Qz]
    refine wpAnyL_take (i := 1) (v := ?a01) rfl (by kernel_rfl) (by kernel_rfl) (by kernel_rfl) (by kernel_rfl) (fun _ _ _ h => h) (Or.inl ⟨by rfl,?ha01⟩) (show wr.drew.cell? ⟨w.heap.size,0,none⟩ = _ from c0) ?_
    case ha01 => (intro w hSw; (try dsimp only at hSw); go_simp <;> with_reducible rfl)
    try simp only [Act.put,Qx,Qy,Qz]
    refine wpAnyL_take (i := 2) (v := ?a02) rfl (by kernel_rfl) (by kernel_rfl) (by kernel_rfl) (by kernel_rfl) (fun _ _ _ h => h) (Or.inl ⟨by rfl,?ha02⟩) (show wr.drew.cell? ⟨w.heap.size,0,none⟩ = _ from c0) ?_
    case ha02 => (intro w hSw; (try dsimp only at hSw); go_simp <;> with_reducible rfl)
    try simp only [Act.put,Qx,Qy,Qz]
    refine wpAnyL_one (i := 3) (by kernel_rfl) rfl (fun K hK => ?_)
    go_simp
    refine (step_any p B (n - o) (fun i => Z (i + o)) wr.drew HS.out.drew.U hB hpr0 (fun i => HRG.out _) (by omega)).mono ?_
    intro e w2 hq
    cases hd0 : rdStep (fun i => Z (i + o)) (n - o) with
    | none =>
     rw [hd0] at hq
     obtain ⟨⟨u,pv,rfl⟩,hk2⟩ := hq
     exact ⟨rfl,PtsP.none (by rw [HA.out,rdPts_none1 hd0]; rfl) ⟨_,_,rfl⟩ (HS.out.drew.K.trans hk2)⟩
    | some dd =>
     have hbd0 := rdStep_bd hd0
     obtain ⟨dx,dn⟩ := dd
     have HD0 : Hid (rdStep (fun i => Z (i + o)) (n - o) = some (dx,dn)) := hd0
     rw [hd0] at hq
     obtain ⟨rfl,hu2,hk2⟩ := hq
     have HS2 : Hid (PSt w W.heap.size p B n Z (o + dn) x y u3 l w2) := HS.out.drew.read hp hszW hk2 (hu2.to (by omega) (fun i => by show Z _ = Z _; congr 1; omega))
     have hbx0 : (-1073741824 ≤ dx ∧ dx ≤ 1073741824) ∧ dn ≤ n - o := hbd0
     have g0 := HS2.out.c0
     have gf0 := HS2.out.f0
     have hw0 : IntKind.i64.wrap (x + dx) = x + dx := IntWalk.i64_in _ (by omega)
     clear hd0 hbd0 hu2 hk2
     go_wp2_with fail
     refine hK.out _ _ (fun _ => g0) ?_
     clear hK K
     try simp only [Act.put,Qx,Qy,Qz]
     refine wpAnyL_take (i := 4) (v := ?a04) rfl (by kernel_rfl) (by kernel_rfl) (by kernel_rfl) (by kernel_rfl) (fun _ _ _ h => h) (Or.inl ⟨by rfl,?ha04⟩) g0 ?_
     case ha04 => (intro w hSw; (try dsimp only at hSw); go_simp <;> with_reducible rfl)
     try simp only [Act.put,Qx,Qy,Qz]
     refine wpAnyL_take (i := 5) (v := ?a05) rfl (by kernel_rfl) (by kernel_rfl) (by kernel_rfl) (by kernel_rfl) (fun _ _ _ h => h) (Or.inl ⟨by rfl,?ha05⟩) g0 ?_
     case ha05 => (intro w hSw; (try dsimp only at hSw); go_simp <;> with_reducible rfl)
     try simp only [Act.put,Qx,Qy,Qz]
     refine wpAnyL_one (i := 6) (by kernel_rfl) rfl (fun K hK => ?_)
     go_simp
     refine hK.out _ _ (fun h => absurd rfl h) ?_
     clear hK K
     try simp only [Act.put,Qx,Qy,Qz]
     refine wpAnyL_done (by kernel_rfl) ?_ _
     refine PanQ.normal ?_
     have HT0 : Hid (PSt w W.heap.size p B n Z (o + dn) (x + dx) y u3 l (w2.setCell ⟨w.heap.size,0,none⟩ (.int .i64 (x + dx)))) := HS2.out.set hp hB hszW 0 _ (World.cell?_setCell_same _ _ _ (by rw [g0])) (by rw [set1_other (fun e => by injection e with _ e; omega)]; exact HS2.out.c1)
     generalize hV0 : (w2.setCell ⟨w.heap.size,0,none⟩ (.int .i64 (x + dx))) = V0 at HT0 ⊢
     clear hV0 g0 gf0 HS2 c0
     go_wp2_with fail
     have c1 := HT0.out.c1
     have hpr1 : p < V0.heap.size := by have := HT0.out.sz; omega
     refine wp_region_pan (fun e w' => PtsP (rdAll Z n) p B n Z w e w') (fun c a w h1 h2 => ⟨h1,h2⟩) ?_
     refine wp_region_L (S := fun W' => W'.cell? ⟨w.heap.size,1,none⟩ = some (.int .i64 y)) (z := 6) (by kernel_rfl) ?_
     refine wpAnyL_take (i := 0) (v := ?a10) rfl (by kernel_rfl) (by kernel_rfl) (by kernel_rfl) (by kernel_rfl) (fun _ _ _ h => h) (Or.inl ⟨by rfl,?ha10⟩) (show V0.drew.cell? ⟨w.heap.size,1,none⟩ = _ from c1) ?_
     case ha10 => (intro w hSw; (try dsimp only at hSw); go_simp <;> with_reducible rfl)
     try simp only [Act.put,Qx,Qy,Qz]
     refine wpAnyL_take (i := 1) (v := ?a11) rfl (by kernel_rfl) (by kernel_rfl) (by kernel_rfl) (by kernel_rfl) (fun _ _ _ h => h) (Or.inl ⟨by rfl,?ha11⟩) (show V0.drew.cell? ⟨w.heap.size,1,none⟩ = _ from c1) ?_
     case ha11 => (intro w hSw; (try dsimp only at hSw); go_simp <;> with_reducible rfl)
     try simp only [Act.put,Qx,Qy,Qz]
     refine wpAnyL_take (i := 2) (v := ?a12) rfl (by kernel_rfl) (by kernel_rfl) (by kernel_rfl) (by kernel_rfl) (fun _ _ _ h => h) (Or.inl ⟨by rfl,?ha12⟩) (show V0.drew.cell? ⟨w.heap.size,1,none⟩ = _ from c1) ?_
     case ha12 => (intro w hSw; (try dsimp only at hSw); go_simp <;> with_reducible rfl)
     try simp only [Act.put,Qx,Qy,Qz]
     refine wpAnyL_one (i := 3) (by kernel_rfl) rfl (fun K hK => ?_)
     go_simp
     refine (step_any p B (n - (o + dn)) (fun i => Z (i + (o + dn))) V0.drew HT0.out.drew.U hB hpr1 (fun i => HRG.out _) (by omega)).mono ?_
     intro e w3 hq
     cases hd1 : rdStep (fun i => Z (i + (o + dn))) (n - (o + dn)) with
     | none =>
      rw [hd1] at hq
      obtain ⟨⟨u,pv,rfl⟩,hk2⟩ := hq
      exact ⟨rfl,PtsP.none (by rw [HA.out,rdPts_none2 HD0.out hd1]; rfl) ⟨_,_,rfl⟩ (HT0.out.drew.K.trans hk2)⟩
     | some dd =>
      have hbd1 := rdStep_bd hd1
      obtain ⟨ex,en⟩ := dd
      have HD1 : Hid (rdStep (fun i => Z (i + (o + dn))) (n - (o + dn)) = some (ex,en)) := hd1
      rw [hd1] at hq
      obtain ⟨rfl,hu2,hk2⟩ := hq
      have HS3 : Hid (PSt w W.heap.size p B n Z (o + dn + en) (x + dx) y u3 l w3) := HT0.out.drew.read hp hszW hk2 (hu2.to (by omega) (fun i => by show Z _ = Z _; congr 1; omega))
      have hbx1 : (-1073741824 ≤ ex ∧ ex ≤ 1073741824) ∧ en ≤ n - (o + dn) := hbd1
      have g1 := HS3.out.c1
      have gf1 := HS3.out.f1
      have hw1 : IntKind.i64.wrap (y + ex) = y + ex := IntWalk.i64_in _ (by omega)
      clear hd1 hbd1 hu2 hk2
      go_wp2_with fail
      refine hK.out _ _ (fun _ => g1) ?_
      clear hK K
      try simp only [Act.put,Qx,Qy,Qz]
      refine wpAnyL_take (i := 4) (v := ?a14) rfl (by kernel_rfl) (by kernel_rfl) (by kernel_rfl) (by kernel_rfl) (fun _ _ _ h => h) (Or.inl ⟨by rfl,?ha14⟩) g1 ?_
      case ha14 => (intro w hSw; (try dsimp only at hSw); go_simp <;> with_reducible rfl)
      try simp only [Act.put,Qx,Qy,Qz]
      refine wpAnyL_take (i := 5) (v := ?a15) rfl (by kernel_rfl) (by kernel_rfl) (by kernel_rfl) (by kernel_rfl) (fun _ _ _ h => h) (Or.inl ⟨by rfl,?ha15⟩) g1 ?_
      case ha15 => (intro w hSw; (try dsimp only at hSw); go_simp <;> with_reducible rfl)
      try simp only [Act.put,Qx,Qy,Qz]
      refine wpAnyL_one (i := 6) (by kernel_rfl) rfl (fun K hK => ?_)
      go_simp
      refine hK.out _ _ (fun h => absurd rfl h) ?_
      clear hK K
      try simp only [Act.put,Qx,Qy,Qz]
      refine wpAnyL_done (by kernel_rfl) ?_ _
      refine PanQ.normal ?_
      have HT1 : Hid (PSt w W.heap.size p B n Z (o + dn + en) (x + dx) (y + ex) u3 l (w3.setCell ⟨w.heap.size,1,none⟩ (.int .i64 (y + ex)))) := HS3.out.set hp hB hszW 1 _ (by rw [set1_other (fun e => by injection e with _ e; omega)]; exact HS3.out.c0) (World.cell?_setCell_same _ _ _ (by rw [g1]))
      generalize hV1 : (w3.setCell ⟨w.heap.size,1,none⟩ (.int .i64 (y + ex))) = V1 at HT1 ⊢
      clear hV1 g1 gf1 HS3 c1
      have HA2 : Hid (rdAll Z n = (rdPts Z D n (o + dn + en) (x + dx) (y + ex)).map fun r => ((l ++ [(x + dx,y + ex)]) ++ r.1,r.2)) := by
       show _ = _
       rw [HA.out,rdPts_some HD0.out HD1.out]
       cases rdPts Z D n (o + dn + en) (x + dx) (y + ex) <;> simp
      have hCD : C - (k + 1) = D := by omega
      have m0 := HT1.out.c0
      have m1 := HT1.out.c1
      have hlV := HT1.out.sz
      obtain ⟨a5,c5,hu5,_,_⟩ := HT1.out.R.own
      rw [hl] at hu5
      subst hu5
      have HL : Hid (l.length = k) := hl
      clear HA HD0 HD1 HS hl
      go_wp2_with (first
       | (at_builtin; go_must (refine wpList_append_own _ rfl _ _ 37 rfl W.heap.size 67 i0 (.agg #[.int .i64 0, .int .i64 0]) 2 16 Tryz.underlying37 hi hz0 hz1 hz2 rfl (by decide) _ l.length (cellsL l) rfl (World.ownsRow.alloc HT1.out.R _) ⟨V1.heap.size,0,none⟩ 1 1 [.int .i64 (x + dx), .int .i64 (y + ex)] rfl rfl ?c1 ?c2 ?c3 ?c4 ?c5 ?_)))
      case c1 =>
       intro q u hq
       match q,hq with
       | 0,hq => simp at hq; subst hq; simp [Addr.add,go_sem]
       | 1,hq => simp at hq; subst hq; simp [Addr.add,go_sem]
       | q + 2,hq => simp at hq
      case c2 => first | (intro u hu; simp at hu; rcases hu with rfl | rfl <;> rfl) | exact ⟨rfl,rfl⟩
      case c3 => have := HL.out; unfold maxLen; omega
      case c4 => have := HL.out; omega
      case c5 => first | omega | (simp; omega)
      intro v' w5 hown' hgrow hnil
      clear hnil
      have hBg : Below W.heap.size (V1.alloc (.cells #[.int .i64 (x + dx), .int .i64 (y + ex)] 67)) w5 := (Below.refl _ _).grown hgrow (by simp; omega) (fun k hk => (HT1.out.R.lt k hk).1)
      have hBa : Below W.heap.size V1 (V1.alloc (.cells #[.int .i64 (x + dx), .int .i64 (y + ex)] 67)) := (Below.refl _ _).alloc hlV _
      have hR5 : Row W.heap.size w5 v' (l ++ [(x + dx,y + ex)]) := by
       show World.ownsRow _ _ _ _ _ _ _
       rw [cellsL_add,List.length_append]
       rw [hszW]
       exact hown'
      have HS5 : Hid (PSt w W.heap.size p B n Z (o + dn + en) (x + dx) (y + ex) v' (l ++ [(x + dx,y + ex)]) w5) := HT1.out.grow hp hB hszW (hBa.trans hBg) hR5
      have hwk : IntKind.u64.wrap ((k : Int) + 1) = (k : Int) + 1 := by rw [IntKind.wrap_u64]; omega
      clear hown' hgrow hBg hBa hR5 m0 m1
      go_wp2_with fail
      go_roundw
      case rel => exact ⟨k + 1,o + dn + en,x + dx,y + ex,_,by omega,by first | go_num | rfl | simp,by have := HL.out; simp; omega,by omega,⟨by omega,by omega⟩,⟨by omega,by omega⟩,HS5.out,by rw [hCD]; exact HA2.out⟩
      case measure => simp [intOf]; omega
   ·have hke : k = C := by omega
    subst hke
    have HA' : Hid (rdAll Z n = some (l,o)) := by
     show _ = _
     rw [HA.out,Nat.sub_self]
     simp [rdPts]
    obtain ⟨a5,c5,hu5,_,_⟩ := HS.out.R.own
    have HRw := HS.out.R.wide (B := w.heap.size) (by omega)
    clear HA
    subst hu5
    go_wp2_with fail
    go_ret
    exact PtsP.some HA'.out rfl HRw HS.out.U HS.out.K
def sumOk (Z : Nat → Int) (n : Nat) : Prop := 2 ≤ n ∧ Z (n - 2) * 256 + Z (n - 1) = sumZ Z (n - 2)
theorem checkSum_short (p B n : Nat) (Z : Nat → Int) (w : World) (h : UpAt w p B n Z) (hn : n < 2) :
  Calls Tryz.prog 77 #[.pointer (some ⟨p,0,none⟩)] w fun e w' => Pan e ∧ Keeps p w w' := by
 obtain ⟨a,cap,h0,h1,h2,h3⟩ := h
 clear h3
 have hlt : (n : Int) - 2 < 0 := by omega
 have hw : IntKind.i64.wrap ((n : Int) - 2) = (n : Int) - 2 := IntWalk.i64_in _ (by omega)
 go_enter Tryz.func77,Tryz.ntmps77
 go_wp2
 exact ⟨rfl,⟨_,_,rfl⟩,Keeps.refl _ _⟩
theorem checkSum_long (p B n : Nat) (Z : Nat → Int) (w : World) (h : UpAt w p B n Z) (hB : B ≤ p) (hp : p < w.heap.size) (hr : ∀ i,0 ≤ Z i ∧ Z i ≤ 255) (hn : 2 ≤ n) (hmax : n ≤ 1048576) :
  Calls Tryz.prog 77 #[.pointer (some ⟨p,0,none⟩)] w fun e w' => if Z (n - 2) * 256 + Z (n - 1) = sumZ Z (n - 2) then e = .returned (.tuple #[]) ∧ UpAt w' p B (n - 2) Z ∧ Keeps p w w' else Pan e ∧ Keeps p w w' := by
 obtain ⟨a,cap,h0,h1,h2,h3⟩ := h
 rcases h3 with h3 | ⟨b,off,rfl,hb,hz⟩
 ·omega
 obtain ⟨E,hE⟩ : ∃ E : Nat,n = E + 2 := ⟨n - 2,by omega⟩
 subst hE
 have HZ : Hid (BsAt w b off (E + 2) Z) := hz
 have HR : Hid (∀ i,0 ≤ Z i ∧ Z i ≤ 255) := hr
 clear hz hr
 have hw : IntKind.i64.wrap (((E + 2 : Nat) : Int) - 2) = (E : Int) := by rw [IntWalk.i64_in _ (by omega)]; omega
 have hE0 : ¬ (E : Int) < 0 := by omega
 have hE1 : (E : Int) ≤ (E : Int) + 2 := by omega
 have hE2 : (E : Int) ≤ (cap : Int) := by omega
 go_enter Tryz.func77,Tryz.ntmps77
 go_wp2_with fail
 generalize hW : (World.alloc _ _ : World) = W
 have hKW : Keeps p w W := by subst hW; exact ((Keeps.refl p w).set 0 _).trans (Keeps.of_below (bl_alloc (Below.refl _ _) _))
 have hsz : W.heap.size = w.heap.size + 1 := by subst hW; simp [World.setCell]
 have u0 : W.cell? ⟨w.heap.size,0,none⟩ = some (.slice (some ⟨b,off + E,none⟩) 2 (cap - E)) := by
  subst hW
  have h := (MapKept.heap_alloc (w.setCell ⟨p,0,none⟩ (.slice (some ⟨b,off,none⟩) E cap)) (.cells #[.slice (some ⟨b,off + E,none⟩) 2 (cap - E)] 127)).1
  have e : (w.setCell ⟨p,0,none⟩ (.slice (some ⟨b,off,none⟩) E cap)).heap.size = w.heap.size := by simp [World.setCell]
  rw [e] at h
  simp only [World.cell?,h]
  rfl
 have u1 : W.frozen? ⟨w.heap.size,0,none⟩ = false := by
  subst hW
  have h := (MapKept.heap_alloc (w.setCell ⟨p,0,none⟩ (.slice (some ⟨b,off,none⟩) E cap)) (.cells #[.slice (some ⟨b,off + E,none⟩) 2 (cap - E)] 127)).1
  have e : (w.setCell ⟨p,0,none⟩ (.slice (some ⟨b,off,none⟩) E cap)).heap.size = w.heap.size := by simp [World.setCell]
  rw [e] at h
  simp only [World.frozen?,h]
  rfl
 have k0 : W.cell? ⟨p,0,none⟩ = some (.slice (some ⟨b,off,none⟩) E cap) := by
  subst hW
  rw [World.cell?_alloc_lt _ _ _ (by simpa [World.setCell] using hp)]
  exact World.cell?_setCell_same _ _ _ (by rw [h0])
 have k1 : W.frozen? ⟨p,0,none⟩ = false := by
  subst hW
  rw [(bl_alloc (Below.refl _ _) _ : Below _ _ _).frozen (by simpa [World.setCell] using hp),World.frozen?_setCell]
  exact h1
 have HZW : Hid (BsAt W b off (E + 2) Z) := fun i hi => (hKW.cell (p := ⟨b,off + i,none⟩) (show b < _ by omega) (show b ≠ p by omega)).trans (HZ.out i hi)
 have HKW : Hid (Keeps p w W) := hKW
 clear hW hKW h0 h1 HZ
 have HUL : Hid (UpAt W w.heap.size B 2 (fun i => Z (i + E))) := ⟨_,_,u0,u1,by omega, .inr ⟨b,off + E,rfl,hb,fun i hi => by have := HZW.out (i + E) (by omega); rwa [show off + E + i = off + (i + E) by omega]⟩⟩
 clear u0 u1
 refine (take_some w.heap.size B 2 2 (fun i => Z (i + E)) W HUL.out (by omega) (by omega) (Nat.le_refl _) (by omega) (by omega)).mono ?_
 rintro e w1 ⟨g,rfl,hg1,hg2,hgb,_,hK1⟩
 have q0 : w1.cell? ⟨p,0,none⟩ = some (.slice (some ⟨b,off,none⟩) E cap) := (hK1.cell (p := ⟨p,0,none⟩) (show p < _ by omega) (show p ≠ _ by omega)).trans k0
 have q1 : w1.frozen? ⟨p,0,none⟩ = false := (hK1.frozen (p := ⟨p,0,none⟩) (show p < _ by omega) (show p ≠ _ by omega)).trans k1
 have HZ1 : Hid (BsAt w1 b off E Z) := fun i hi => (hK1.cell (p := ⟨b,off + i,none⟩) (show b < _ by omega) (show b ≠ _ by omega)).trans (HZW.out i (by omega))
 have hsz1 := hK1.size
 have HK : Hid (Keeps p w w1) := ⟨hK1.os.trans HKW.out.os,hK1.tape.trans HKW.out.tape,hK1.output.trans HKW.out.output,Nat.le_trans HKW.out.size hK1.size,fun j hj hjp => (hK1.block j (by omega) (by omega)).trans (HKW.out.block j hj hjp)⟩
 obtain ⟨A,hA⟩ : ∃ A : Nat,Z E = (A : Int) := ⟨(Z E).toNat,by have := (HR.out E).1; omega⟩
 obtain ⟨C,hC⟩ : ∃ C : Nat,Z (E + 1) = (C : Int) := ⟨(Z (E + 1)).toNat,by have := (HR.out (E + 1)).1; omega⟩
 have hA2 : A < 256 := by have := (HR.out E).2; omega
 have hC2 : C < 256 := by have := (HR.out (E + 1)).2; omega
 have g0 : w1.cell? ⟨g,0,none⟩ = some (.int .u8 (A : Int)) := by
  have := hgb 0 (by omega)
  simp only [Nat.zero_add] at this
  rw [this,hA]
 have g1 : w1.cell? ⟨g,1,none⟩ = some (.int .u8 (C : Int)) := by
  have := hgb 1 (by omega)
  simp only [Nat.zero_add,Nat.add_comm 1 E] at this
  rw [this,hC]
 have HP : Hid ((if Z (E + 2 - 2) * 256 + Z (E + 2 - 1) = sumZ Z (E + 2 - 2) then True else False) ↔ ((A : Int) * 256 + (C : Int) = sumZ Z E)) := by
  show _ ↔ _
  rw [show E + 2 - 2 = E by omega,show E + 2 - 1 = E + 1 by omega,hA,hC]
  simp
 have HSO : Hid (∀ W',Below w1.heap.size w1 W' → Calls Tryz.prog 61 #[.slice (some ⟨b,off,none⟩) E cap] W' fun e w' => e = .returned (.int .u64 (sumZ Z E)) ∧ Below W'.heap.size W' w') := fun W' hb' => (sumOf_any (some ⟨b,off,none⟩) E cap Z W' (.inr ⟨b,off,rfl,Nat.lt_of_lt_of_le (by omega) hb'.size,fun i hi => (hb'.cell (p := ⟨b,off + i,none⟩) (show b < _ by omega)).trans (HZ1.out i hi)⟩) HR.out (by omega)).mono fun e w' ⟨he,hw⟩ => ⟨he,hw ▸ Below.refl _ _⟩
 have x0 : ∀ W',Below w1.heap.size w1 W' → W'.cell? ⟨g,0,none⟩ = some (.int .u8 (A : Int)) := fun W' h => (h.cell (p := ⟨g,0,none⟩) hg2).trans g0
 have x1 : ∀ W',Below w1.heap.size w1 W' → W'.cell? ⟨g,1,none⟩ = some (.int .u8 (C : Int)) := fun W' h => (h.cell (p := ⟨g,1,none⟩) hg2).trans g1
 have x2 : ∀ W',Below w1.heap.size w1 W' → W'.cell? ⟨p,0,none⟩ = some (.slice (some ⟨b,off,none⟩) E cap) := fun W' h => (h.cell (p := ⟨p,0,none⟩) (show p < _ by omega)).trans q0
 obtain ⟨P,hP⟩ : ∃ P : Nat,P = A * 256 := ⟨_,rfl⟩
 have a1 : IntKind.u64.wrap (A : Int) = (A : Int) := by rw [IntKind.wrap_u64]; omega
 have a2 : IntKind.u64.wrap (C : Int) = (C : Int) := by rw [IntKind.wrap_u64]; omega
 have a3 : IntKind.u64.wrap ((A : Int) * 2 ^ min (Int.toNat 8) IntKind.u64.bits) = (P : Int) := by
  rw [show (2 : Int) ^ min (Int.toNat 8) IntKind.u64.bits = 256 from rfl,IntKind.wrap_u64]; omega
 have a4 : IntKind.u64.wrap ((A : Int) * 256) = (P : Int) := by rw [IntKind.wrap_u64]; omega
 have a5 : bits .or .u64 (P : Int) (C : Int) = (P : Int) + (C : Int) := by
  rw [bits_or_u64_nat P C (by omega) (by omega)]
  have : P ||| C = P + C := by
   have := Nat.shiftLeft_add_eq_or_of_lt (b := C) (i := 8) (by omega) A
   simp only [Nat.shiftLeft_eq,show (2 : Nat) ^ 8 = 256 from rfl] at this
   rw [hP]
   exact this.symm
  rw [this]
  simp
 have HPP : Hid ((P : Int) = (A : Int) * 256) := by show _ = _; omega
 clear hP g0 g1 hgb hA hC HZW HUL HKW k0 k1 hK1
 by_cases heq : (P : Int) + (C : Int) = sumZ Z E
 ·have HT : Hid (Z (E + 2 - 2) * 256 + Z (E + 2 - 1) = sumZ Z (E + 2 - 2)) := by
   have := HP.out.2 (by have := HPP.out; omega)
   show _ = _
   by_cases h : Z (E + 2 - 2) * 256 + Z (E + 2 - 1) = sumZ Z (E + 2 - 2)
   ·exact h
   ·rw [if_neg h] at this; exact this.elim
  clear HP HPP
  generalize sumZ Z E = S at HSO heq
  go_wp2_with fail
  go_region_held3 (fun W' => Below w1.heap.size w1 W') ((repeat (first|exact Qr _ _|assumption|refine Qd ?_|refine Qa ?_ _|refine Qt ?_|refine Qs ?_ _|refine Qo ?_ ?_ _ _)))
   (first
    | (go_at_call 61; refine (HSO.out _ (by (repeat (first|exact Qr _ _|assumption|refine Qd ?_|refine Qa ?_ _|refine Qt ?_|refine Qs ?_ _|refine Qo ?_ ?_ _ _)))).mono ?_; rintro e w' ⟨rfl,hb'⟩)
    | fail)
  go_wp2_with fail
  have HF : Hid (∀ W',Below w1.heap.size w1 W' → UpAt W' p B (E + 2 - 2) Z ∧ Keeps p w W') := fun W' h => by
   refine ⟨⟨_,_,x2 W' h,(h.frozen (p := ⟨p,0,none⟩) (show p < _ by omega)).trans q1,by omega, .inr ⟨b,off,rfl,hb,fun i hi => (h.cell (p := ⟨b,off + i,none⟩) (show b < _ by omega)).trans (HZ1.out i (by omega))⟩⟩,HK.out.trans (Keeps.of_below h)⟩
  first
   | exact bodyPost_end (v := .tuple #[]) (by simp [results,Tryz.results77,go_sem]) rfl ⟨rfl,HF.out _ (by assumption)⟩
   | exact bodyPost_end (v := .tuple #[]) (by simp [results,Tryz.results77,go_sem]) rfl (by rw [if_pos HT.out]; exact ⟨rfl,HF.out _ (by assumption)⟩)
 ·have HT : Hid (¬ Z (E + 2 - 2) * 256 + Z (E + 2 - 1) = sumZ Z (E + 2 - 2)) := by
   show ¬ _
   intro h
   have := HP.out.1 (by rw [if_pos h]; trivial)
   have h2 := HPP.out
   omega
  clear HP HPP
  generalize sumZ Z E = S at HSO heq
  have hq1 : ((P : Int) + (C : Int) != S) = true := by simpa using heq
  have hq2 : ((P : Int) + (C : Int) == S) = false := by simpa using heq
  clear heq
  go_wp2_with fail
  go_region_held3 (fun W' => Below w1.heap.size w1 W') ((repeat (first|exact Qr _ _|assumption|refine Qd ?_|refine Qa ?_ _|refine Qt ?_|refine Qs ?_ _|refine Qo ?_ ?_ _ _)))
   (first
    | (go_at_call 61; refine (HSO.out _ (by (repeat (first|exact Qr _ _|assumption|refine Qd ?_|refine Qa ?_ _|refine Qt ?_|refine Qs ?_ _|refine Qo ?_ ?_ _ _)))).mono ?_; rintro e w' ⟨rfl,hb'⟩)
    | fail)
  go_wp2_with fail
  have HF : Hid (∀ W',Below w1.heap.size w1 W' → Keeps p w W') := fun W' h => HK.out.trans (Keeps.of_below h)
  first
   | exact ⟨rfl,⟨_,_,rfl⟩,HF.out _ (by assumption)⟩
   | exact ⟨rfl,by rw [if_neg HT.out]; exact ⟨⟨_,_,rfl⟩,HF.out _ (by assumption)⟩⟩
end Go.Proofs.YtfkonhagjahgnaaGreat
