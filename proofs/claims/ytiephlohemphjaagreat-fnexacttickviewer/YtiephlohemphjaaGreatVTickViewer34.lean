/- Texts. -/
import Derived.Test.YtiephlohemphjaaGreatVTickViewer32
set_option linter.unusedSimpArgs false
set_option linter.unusedVariables false
set_option maxRecDepth 100000
set_option maxHeartbeats 32000000
namespace Go.Proofs.YtiephlohemphjaaGreat
open Go.RowKit
end Go.Proofs.YtiephlohemphjaaGreat
namespace Go.Proofs.YtiephlohemphjaaGreat
open Go.ChangeShapes Go.WideShapes Go.ChangeAt Go.RowKit Go.Deep
theorem cells_lcV : Tryz.prog.cellsOf 23 = 5 := by kernel_rfl
theorem trod_camV {H : Type} {enc : TypeId × Value → H} {w : World} {base : Nat} {spare : Nat → Bool} {held : Bool} {n : Nat} {cs : List Value} {x : DataW H × List MemPlace}
  (h : DataW.trod enc Tryz.prog w base spare held n 23 cs = some x) : ∃ a b c d e : Int,cs = [.int .i64 a, .int .i64 b, .int .i64 c, .int .i64 d, .int .i64 e] := by
 obtain ⟨xs,m,rfl,hx,hl,hxl,hf⟩ := DataW.trod_struct Tryz.underlying23 h
 rw [cells_lcV] at hl
 have hxl3 : xs.length = 5 := hxl
 match cs,hl with
 | [v0,v1,v2,v3,v4],_ =>
  match xs,hxl3 with
  | [x0,x1,x2,x3,x4],_ =>
   have h0 := hf 0 _ rfl
   have h1 := hf 1 _ rfl
   have h2 := hf 2 _ rfl
   have h3 := hf 3 _ rfl
   have h4 := hf 4 _ rfl
   simp [cells_i64] at h0 h1 h2 h3 h4
   obtain ⟨a,e0,_,_⟩ := DataW.trod_int Tryz.underlying2 h0
   obtain ⟨b,e1,_,_⟩ := DataW.trod_int Tryz.underlying2 h1
   obtain ⟨c,e2,_,_⟩ := DataW.trod_int Tryz.underlying2 h2
   obtain ⟨d,e3,_,_⟩ := DataW.trod_int Tryz.underlying2 h3
   obtain ⟨e,e4,_,_⟩ := DataW.trod_int Tryz.underlying2 h4
   simp at e0 e1 e2 e3 e4
   subst e0 e1 e2 e3 e4
   exact ⟨a,b,c,d,e,rfl⟩
theorem cells_lwV : Tryz.prog.cellsOf 108 = 5 := by kernel_rfl
theorem trod_rqV {H : Type} {enc : TypeId × Value → H} {w : World} {base : Nat} {spare : Nat → Bool} {held : Bool} {n : Nat} {cs : List Value} {x : DataW H × List MemPlace}
  (h : DataW.trod enc Tryz.prog w base spare held n 108 cs = some x) : ∃ a b c d e : Int,cs = [.int .i64 a, .int .i64 b, .int .i64 c, .int .i64 d, .int .i64 e] := by
 obtain ⟨xs,m,rfl,hx,hl,hxl,hf⟩ := DataW.trod_struct Tryz.underlying108 h
 rw [cells_lwV] at hl
 have hxl3 : xs.length = 3 := hxl
 match cs,hl with
 | [v0,v1,v2,v3,v4],_ =>
  match xs,hxl3 with
  | [x0,x1,x2],_ =>
   have h0 := hf 0 _ rfl
   have h1 := hf 1 _ rfl
   have h2 := hf 2 _ rfl
   simp [cells_i64,cells_lrT] at h0 h1 h2
   obtain ⟨a,b,c,e0⟩ := trod_refT h0
   obtain ⟨d,e1,_,_⟩ := DataW.trod_int Tryz.underlying2 h1
   obtain ⟨e,e2,_,_⟩ := DataW.trod_int Tryz.underlying2 h2
   simp at e0 e1 e2
   obtain ⟨rfl,rfl,rfl⟩ := e0
   subst e1 e2
   exact ⟨a,b,c,d,e,rfl⟩
theorem trod_rqsV {H : Type} {enc : TypeId × Value → H} {w : World} {base fuel : Nat} {held : Bool} {cs : List Value} {y : DataW H × List MemPlace}
  (hf : DataW.trod enc Tryz.prog w base (fun _ => true) held fuel 27 cs = some y) :
  ∃ (a : Option Addr) (n cap : Nat) (E : Nat → Req),cs = [.slice a n cap] ∧ (IsWs w a n E ∧ n ≤ cap ∧ cap ≤ maxLen) := by
 rcases open_slice Tryz.underlying27 hf with ⟨hcs,_⟩ | ⟨x,l,c,m,n,D,Pl,hcs,_,hl,hc,hm,_,hx⟩
 ·exact ⟨none,0,0,fun _ => ⟨0,0,0,0,0⟩,hcs, .inl rfl,Nat.le_refl _,Nat.zero_le _⟩
 ·simp at hm
  subst hm
  have each : ∀ i, ∃ e : Req,i < l → ∀ k,k < 5 → w.cell? (x.add (i * 5 + k)) = [Value.int .i64 e.z, .int .i64 e.x, .int .i64 e.y, .int .i64 e.du, .int .i64 e.tr][k]? := by
   intro i
   by_cases hi : i < l
   ·obtain ⟨cs',h1,h2⟩ := hx i (by omega)
    rw [cells_lwV] at h1
    obtain ⟨_,hlen,hcell⟩ := World.cells?_some h1
    obtain ⟨k0,k1,k2,k3,k4,rfl⟩ := trod_rqV h2
    refine ⟨⟨k0,k1,k2,k3,k4⟩,fun _ k hk => ?_⟩
    have := hcell k hk
    rw [add_add] at this
    exact this
   ·exact ⟨⟨0,0,0,0,0⟩,fun h => absurd h hi⟩
  obtain ⟨E,hE⟩ := Classical.skolem.1 each
  refine ⟨some x,l,_,E,hcs,?_,hl,hc⟩
  by_cases h0 : l = 0
  ·exact .inl h0
  ·right
   obtain ⟨b,off,spot⟩ := x
   have e0 := hE 0 (by omega) 0 (by omega)
   simp at e0
   have hspot : spot = none := by simpa [Addr.add] using World.cell?_spot e0
   subst hspot
   refine ⟨b,off,rfl,?_,fun i hi => ?_⟩
   ·have := World.block_lt_of_cell? _ _ e0
    simpa [Addr.add] using this
   ·have hc5 := hE i hi
    have k0 := hc5 0 (by omega)
    have k1 := hc5 1 (by omega)
    have k2 := hc5 2 (by omega)
    have k3 := hc5 3 (by omega)
    have k4 := hc5 4 (by omega)
    rw [add_plain] at k0 k1 k2 k3 k4
    simp only [← Nat.add_assoc,Nat.add_zero] at k0 k1 k2 k3 k4
    exact ⟨k0,k1,k2,k3,k4⟩
theorem trod_cache {H : Type} {enc : TypeId × Value → H} {w : World} {base fuel : Nat} {held : Bool} {cs : List Value} {y : DataW H × List MemPlace}
  (h : DataW.trod enc Tryz.prog w base (fun _ => true) held fuel 26 cs = some y) :
  ∃ (s : Int) (a : Option Addr) (n cap : Nat) (K : Nat → Kp),cs = [.int .i64 s, .slice a n cap] ∧ (IsKs w a n K ∧ CameKs n K) := by
 obtain ⟨y0,y1,m,hx,hl,h0,h1⟩ := trod_struct2 Tryz.underlying26 h
 simp only [cells_i64,cells_lks] at h0 h1
 obtain ⟨s,e0,_,_⟩ := DataW.trod_int Tryz.underlying2 h0
 obtain ⟨a,k,cap,K,e1,hK⟩ := trod_kepts h1
 refine ⟨s,a,k,cap,K,?_,hK⟩
 have hlen : cs.length = 2 := by rw [hl]; exact cells_lc
 match cs,hlen with
 | [v0,v1],_ =>
  simp at e0 e1
  simp [e0,e1]
theorem cells_lws : Tryz.prog.cellsOf 27 = 1 := by kernel_rfl
theorem cells_lv : Tryz.prog.cellsOf 29 = 10 := by kernel_rfl
theorem open_viewer {H : Type} {enc : TypeId × Value → H} {w : World} {base b0 : Nat} {held : Bool} {r : Reach} {v : Value} {d : DataW H} {p : List MemPlace}
  (hv : Value.okWide Tryz.prog w r b0 29 v) (h : DataW.Trod enc Tryz.prog w base (fun _ => true) held 29 v d p) :
  ∃ (z x y wd ht now s : Int) (ka : Option Addr) (kn kc : Nat) (K : Nat → Kp) (ra : Option Addr) (rn rc : Nat) (E : Nat → Req) (bad : Int),
   v = .agg #[.int .i64 z, .int .i64 x, .int .i64 y, .int .i64 wd, .int .i64 ht, .int .i64 now, .int .i64 s, .slice ka kn kc, .slice ra rn rc, .int .i64 bad] ∧ ((IsKs w ka kn K ∧ CameKs kn K) ∧ IsWs w ra rn E ∧ rn ≤ rc ∧ rc ≤ maxLen) := by
 obtain ⟨cs,rfl,hsz⟩ := okWide_struct Tryz.underlying29 hv
 obtain ⟨n,h⟩ := h
 obtain ⟨xs,m,e,hx,hl,hxl,hf⟩ := DataW.trod_struct Tryz.underlying29 h
 have hxl5 : xs.length = 5 := hxl
 simp only [Value.cells] at hl hf
 rw [cells_lv] at hl
 match xs,hxl5 with
 | [x0,x1,x2,x3,x4],_ =>
  have h0 := hf 0 _ rfl
  have h1 := hf 1 _ rfl
  have h2 := hf 2 _ rfl
  have h3 := hf 3 _ rfl
  have h4 := hf 4 _ rfl
  match hcs : cs.toList,hl with
  | [v0,v1,v2,v3,v4,v5,v6,v7,v8,v9],_ =>
   rw [hcs] at h0 h1 h2 h3 h4
   simp [cells_i64,cells_lcV,cells_lc,cells_lws] at h0 h1 h2 h3 h4
   obtain ⟨z,x,y,wd,ht,e0⟩ := trod_camV h0
   obtain ⟨now,e1,_,_⟩ := DataW.trod_int Tryz.underlying2 h1
   obtain ⟨s,ka,kn,kc,K,e2,hK⟩ := trod_cache h2
   obtain ⟨ra,rn,rc,E,e3,hE⟩ := trod_rqsV h3
   obtain ⟨bad,e4,_,_⟩ := DataW.trod_int Tryz.underlying2 h4
   simp at e0 e1 e2 e3 e4
   refine ⟨z,x,y,wd,ht,now,s,ka,kn,kc,K,ra,rn,rc,E,bad,?_,hK,hE⟩
   obtain ⟨rfl,rfl,rfl,rfl,rfl⟩ := e0
   obtain ⟨rfl,rfl⟩ := e2
   subst e1 e3 e4
   have : cs = #[.int .i64 z, .int .i64 x, .int .i64 y, .int .i64 wd, .int .i64 ht, .int .i64 now, .int .i64 s, .slice ka kn kc, .slice ra rn rc, .int .i64 bad] := by
    apply Array.toList_inj.1
    rw [hcs]
   rw [this]
end Go.Proofs.YtiephlohemphjaaGreat
namespace Go.Proofs.YtiephlohemphjaaGreat
open Go.RowKit
theorem cell_no_map {w : World} {P : Program} {k : TypeId} {mb n o p : Nat} {D : DataW Value} {v : Value} (hm : w.ownsMap P k RV mb n D) (hp : w.cell? ⟨p,o,none⟩ = some v) : p ≠ mb := by
 intro e
 subst e
 obtain ⟨es,c,hb,_⟩ := hm
 simp [World.cell?,hb] at hp
def PutS (W : World) (p q : Nat) (s t : Int) (mb : Nat) (k : Kp) : Prop :=
 (W.cell? ⟨p,0,none⟩ = some (.int .i64 s) ∧ W.cell? ⟨p,1,none⟩ = some (.int .i64 t) ∧ W.cell? ⟨p,2,none⟩ = some (.map (some mb))) ∧
 W.cell? ⟨q,0,none⟩ = some (.int .i64 k.z) ∧ W.cell? ⟨q,1,none⟩ = some (.int .i64 k.x) ∧ W.cell? ⟨q,2,none⟩ = some (.int .i64 k.y) ∧ W.cell? ⟨q,3,none⟩ = some (.slice k.fa k.fn k.fc) ∧ W.cell? ⟨q,4,none⟩ = some (.slice k.ia k.m k.ic)
theorem PutS.grown {w w' : World} {p q mb : Nat} {s t : Int} {k : Kp} (h : PutS w p q s t mb k) (hg : w.grownBy w' (some mb)) (hp : p ≠ mb) (hq : q ≠ mb) : PutS w' p q s t mb k := by
 obtain ⟨⟨a,b,c⟩,d,e,f,g,i⟩ := h
 exact ⟨⟨gr_cell hg a hp,gr_cell hg b hp,gr_cell hg c hp⟩,gr_cell hg d hq,gr_cell hg e hq,gr_cell hg f hq,gr_cell hg g hq,gr_cell hg i hq⟩
abbrev putD (D : DataW Value) (k : Kp) (t : Int) : DataW Value := D.put (keyL k.z k.x k.y) (.held (agV k.z k.x k.y k.fa k.fn k.fc k.ia k.m k.ic t))
theorem there_alloc {w : World} {p n : Nat} {o : Obj} (h : There w p n) (hp : p < w.heap.size) : There (w.alloc o) p n := fun i hi => by
 obtain ⟨⟨v,h1⟩,h2⟩ := h i hi
 refine ⟨⟨v,?_⟩,?_⟩
 ·rw [World.cell?_alloc_old _ _ _ (Nat.ne_of_lt hp)]; exact h1
 ·rw [World.frozen?_alloc_old _ _ _ (Nat.ne_of_lt hp)]; exact h2
theorem shelfPut_stay (p mb n : Nat) (s t : Int) (D : DataW Value) (k : Kp) (w : World) (hp : ShA w p s t mb) (hT : There w p 3) (hm : w.ownsMap Tryz.prog 97 RV mb n D) (hz : I64 k.z) (hx : I64 k.x) (hy : I64 k.y) (hn : n < 1000) (ht0 : -10 ≤ t) (ht : t < 1000) (hD : (Maps.size (putD D k (t + 1)) : Int) ≤ s) :
  Calls Tryz.prog 122 #[.pointer (some ⟨p,0,none⟩),kpV k] w fun e w' => e = .returned (.tuple #[]) ∧ ShA w' p s (t + 1) mb ∧ There w' p 3 ∧ w'.ownsMap Tryz.prog 97 RV mb (n + 1) (putD D k (t + 1)) ∧ (∀ B,B ≤ p → B ≤ mb → Below B w w') ∧ ∀ q,q < w.heap.size → q ≠ p → q ≠ mb → w'.heap[q]? = w.heap[q]? := by
 have hpl : p < w.heap.size := World.block_lt_of_cell? _ _ hp.1
 have hml : mb < w.heap.size := hm.lt
 have hpm : p ≠ mb := cell_no_map hm hp.1
 have HM : Hid (w.ownsMap Tryz.prog 97 RV mb n D) := hm
 have HT : Hid (There w p 3) := hT
 have HP : Hid (ShA w p s t mb) := hp
 have HD : Hid ((Maps.size (putD D k (t + 1)) : Int) ≤ s) := hD
 have HK : Hid (keyOf Tryz.prog 97 (refV k.z k.x k.y) = some (keyL k.z k.x k.y)) := key_ref hz hx hy
 have c1 : ∀ o,(w.alloc o).cell? ⟨p,1,none⟩ = some (.int .i64 t) := fun o => by rw [World.cell?_alloc_old _ _ _ (Nat.ne_of_lt hpl)]; exact hp.2.1
 have f1 : ∀ o,(w.alloc o).frozen? ⟨p,1,none⟩ = false := fun o => by rw [World.frozen?_alloc_old _ _ _ (Nat.ne_of_lt hpl)]; exact (hT 1 (by omega)).2
 have hw1 : IntKind.i64.wrap (t + 1) = t + 1 := IntWalk.i64_in _ (by omega)
 clear hm hT hp hD hz hx hy
 go_enter Tryz.func122,Tryz.ntmps122
 go_wp2_with fail
 generalize hW : (World.alloc _ _ : World) = W
 have HG : Hid (w.grownBy W (some p)) := by show World.grownBy _ _ _; subst hW; exact grown_trans (grown_set (grown_refl w (some p)) 1 _) (World.grownBy_alloc _ _ (some p))
 have HS : Hid (PutS W p w.heap.size s (t + 1) mb k) := by
  show PutS _ _ _ _ _ _ _
  subst hW
  have nep : ∀ o,o ≠ 1 → (⟨p,1,none⟩ : Addr) ≠ ⟨p,o,none⟩ := fun o h e => by injection e with _ e; exact h e.symm
  have hlt : ∀ v,p < (w.setCell ⟨p,1,none⟩ v).heap.size := fun v => by simp; exact hpl
  refine ⟨⟨?_,?_,?_⟩,?_,?_,?_,?_,?_⟩
  ·rw [World.cell?_alloc_old _ _ _ (Nat.ne_of_lt (hlt _)),set1_other (nep 0 (by omega))]; exact HP.out.1
  ·rw [World.cell?_alloc_old _ _ _ (Nat.ne_of_lt (hlt _))]; exact set1_same HP.out.2.1
  ·rw [World.cell?_alloc_old _ _ _ (Nat.ne_of_lt (hlt _)),set1_other (nep 2 (by omega))]; exact HP.out.2.2
  ·simp [go_sem]
  ·simp [go_sem]
  ·simp [go_sem]
  ·simp [go_sem]
  ·simp [go_sem]
 have HTW : Hid (There W p 3) := by show There _ _ _; subst hW; exact there_alloc (HT.out.set _ _) (by simp; exact hpl)
 have hql : w.heap.size < W.heap.size := by subst hW; simp [go_sem]
 have hqm : w.heap.size ≠ mb := by omega
 clear hW c1 f1 hw1
 have HMW : Hid (W.ownsMap Tryz.prog 97 RV mb n D) := HM.out.kept HG.out (by simp; omega)
 obtain ⟨w1,hrun,hm1,hg1⟩ := HMW.out.drew.update keyed_ref Tryz.underlying159 (show n < maxLen by simp only [maxLen]; omega) HK.out (RV_mk k.z k.x k.y k.fa k.fn k.fc k.ia k.m k.ic (t + 1))
 have HM1 : Hid (w1.ownsMap Tryz.prog 97 RV mb (n + 1) (putD D k (t + 1))) := hm1
 have HG1 : Hid (W.grownBy w1 (some mb)) := ⟨hg1.os,hg1.tape,hg1.output,hg1.size,hg1.block⟩
 clear hm1 hg1
 refine wp_region_noPanic ?_
 refine wp_region_held_drew (S := fun W' => PutS W' p w.heap.size s (t + 1) mb k) (by kernel_rfl) HS.out (fun hHeld => ?_)
 have hSd : PutS W.drew p w.heap.size s (t + 1) mb k := HS.out
 refine takeK (i := 0) (d := some 11) (v := ?vr0) rfl rfl (Or.inl ⟨by rfl,?hyr0⟩) hSd ?_
 case hyr0 => (intro w hSw; obtain ⟨⟨s0,s1,s2⟩,k0,k1,k2,k3,k4⟩ := (show PutS w p _ s (t + 1) mb k from hSw); go_simp <;> with_reducible rfl)
 try simp only [Act.put,Qx,Qy,Qz]
 refine takeK (i := 1) (d := some 12) (v := ?vr1) rfl rfl (Or.inl ⟨by rfl,?hyr1⟩) hSd ?_
 case hyr1 => (intro w hSw; obtain ⟨⟨s0,s1,s2⟩,k0,k1,k2,k3,k4⟩ := (show PutS w p _ s (t + 1) mb k from hSw); go_simp <;> with_reducible rfl)
 try simp only [Act.put,Qx,Qy,Qz]
 refine takeK (i := 2) (d := some 13) (v := ?vr2) rfl rfl (Or.inl ⟨by rfl,?hyr2⟩) hSd ?_
 case hyr2 => (intro w hSw; obtain ⟨⟨s0,s1,s2⟩,k0,k1,k2,k3,k4⟩ := (show PutS w p _ s (t + 1) mb k from hSw); go_simp <;> with_reducible rfl)
 try simp only [Act.put,Qx,Qy,Qz]
 refine takeK (i := 3) (d := some 14) (v := ?vr3) rfl rfl (Or.inl ⟨by rfl,?hyr3⟩) hSd ?_
 case hyr3 => (intro w hSw; obtain ⟨⟨s0,s1,s2⟩,k0,k1,k2,k3,k4⟩ := (show PutS w p _ s (t + 1) mb k from hSw); go_simp <;> with_reducible rfl)
 try simp only [Act.put,Qx,Qy,Qz]
 refine takeK (i := 4) (d := some 15) (v := ?vr4) rfl rfl (Or.inl ⟨by rfl,?hyr4⟩) hSd ?_
 case hyr4 => (intro w hSw; obtain ⟨⟨s0,s1,s2⟩,k0,k1,k2,k3,k4⟩ := (show PutS w p _ s (t + 1) mb k from hSw); go_simp <;> with_reducible rfl)
 try simp only [Act.put,Qx,Qy,Qz]
 refine takeK (i := 5) (d := some 16) (v := ?vr5) rfl rfl (Or.inl ⟨by rfl,?hyr5⟩) hSd ?_
 case hyr5 => (intro w hSw; obtain ⟨⟨s0,s1,s2⟩,k0,k1,k2,k3,k4⟩ := (show PutS w p _ s (t + 1) mb k from hSw); go_simp <;> with_reducible rfl)
 try simp only [Act.put,Qx,Qy,Qz]
 refine takeK (i := 6) (d := some 17) (v := ?vr6) rfl rfl (Or.inl ⟨by rfl,?hyr6⟩) hSd ?_
 case hyr6 => (intro w hSw; obtain ⟨⟨s0,s1,s2⟩,k0,k1,k2,k3,k4⟩ := (show PutS w p _ s (t + 1) mb k from hSw); go_simp <;> with_reducible rfl)
 try simp only [Act.put,Qx,Qy,Qz]
 refine takeK (i := 7) (d := some 18) (v := ?vr7) rfl rfl (Or.inl ⟨by rfl,?hyr7⟩) hSd ?_
 case hyr7 => (intro w hSw; obtain ⟨⟨s0,s1,s2⟩,k0,k1,k2,k3,k4⟩ := (show PutS w p _ s (t + 1) mb k from hSw); go_simp <;> with_reducible rfl)
 try simp only [Act.put,Qx,Qy,Qz]
 refine takeK (i := 8) (d := some 19) (v := ?vr8) rfl rfl (Or.inl ⟨by rfl,?hyr8⟩) hSd ?_
 case hyr8 => (intro w hSw; obtain ⟨⟨s0,s1,s2⟩,k0,k1,k2,k3,k4⟩ := (show PutS w p _ s (t + 1) mb k from hSw); go_simp <;> with_reducible rfl)
 try simp only [Act.put,Qx,Qy,Qz]
 refine takeK (i := 9) (d := some 20) (v := ?vr9) rfl rfl (Or.inl ⟨by rfl,?hyr9⟩) hSd ?_
 case hyr9 => (intro w hSw; obtain ⟨⟨s0,s1,s2⟩,k0,k1,k2,k3,k4⟩ := (show PutS w p _ s (t + 1) mb k from hSw); go_simp <;> with_reducible rfl)
 try simp only [Act.put,Qx,Qy,Qz]
 refine takeK (i := 10) (d := some 21) (v := ?vr10) rfl rfl (Or.inl ⟨by rfl,?hyr10⟩) hSd ?_
 case hyr10 => (intro w hSw; obtain ⟨⟨s0,s1,s2⟩,k0,k1,k2,k3,k4⟩ := (show PutS w p _ s (t + 1) mb k from hSw); go_simp <;> with_reducible rfl)
 try simp only [Act.put,Qx,Qy,Qz]
 refine takeK (i := 11) (d := some 22) (v := ?vr11) rfl rfl (Or.inl ⟨by rfl,?hyr11⟩) hSd ?_
 case hyr11 => (intro w hSw; obtain ⟨⟨s0,s1,s2⟩,k0,k1,k2,k3,k4⟩ := (show PutS w p _ s (t + 1) mb k from hSw); go_simp <;> with_reducible rfl)
 try simp only [Act.put,Qx,Qy,Qz]
 refine takeK (i := 12) (d := some 23) (v := ?vr12) rfl rfl (Or.inl ⟨by rfl,?hyr12⟩) hSd ?_
 case hyr12 => (intro w hSw; obtain ⟨⟨s0,s1,s2⟩,k0,k1,k2,k3,k4⟩ := (show PutS w p _ s (t + 1) mb k from hSw); go_simp <;> with_reducible rfl)
 try simp only [Act.put,Qx,Qy,Qz]
 refine wpAnyH_ready (rs := [13]) (by kernel_rfl) (by simp) ?_
 refine (AllReadyH.cons rfl (fun K hK => ?_) AllReadyH.nil)
 rw [if_pos (by rfl)]
 go_simp
 have HS1 : PutS w1 p w.heap.size s (t + 1) mb k := HS.out.grown HG1.out hpm hqm
 refine hK.out _ _ HS1 (fun hHeld => ?_)
 clear hK K hrun hSd
 try simp only [Act.put,Qx,Qy,Qz]
 refine wpAnyH_done (by kernel_rfl) ?_ _
 refine NoPanic.normal ?_
 have HT1 : Hid (There w1 p 3) := HTW.out.grown HG1.out hpm
 have HB1 : Hid (∀ B,B ≤ p → B ≤ mb → Below B w w1) := fun B h1 h2 => (below_grown HG.out h1 (by omega)).trans (below_grown HG1.out h2 (by omega))
 have HQ1 : Hid (∀ q,q < w.heap.size → q ≠ p → q ≠ mb → w1.heap[q]? = w.heap[q]?) := fun q h1 h2 h3 => (HG1.out.block q (Nat.lt_of_lt_of_le h1 HG.out.size) (by simp; exact h3)).trans (HG.out.block q h1 (by simp; exact h2))
 have HA1 : Hid (ShA w1 p s (t + 1) mb) := HS1.1
 clear HS1 HS HTW HMW HG HG1 HP HT HM HK
 generalize hD1 : putD D k (t + 1) = D1 at *
 have hle : ¬ (s < (Maps.size D1 : Int)) := by have := HD.out; omega
 have HM2 : Hid (w1.ownsMap Tryz.prog 97 RV mb (n + 1) D1) := HM1.out
 go_wp2_with fail
 refine wp_region_noPanic ?_
 refine wp_region_held_drew (S := fun W' => ShA W' p s (t + 1) mb ∧ W'.ownsMap Tryz.prog 97 RV mb (n + 1) D1) (by kernel_rfl) ⟨HA1.out,HM1.out⟩ (fun hHeld => ?_)
 have hSd : ShA w1.drew p s (t + 1) mb ∧ w1.drew.ownsMap Tryz.prog 97 RV mb (n + 1) D1 := ⟨HA1.out,HM1.out⟩
 refine takeK (i := 0) (d := some 24) (v := ?vq0) rfl rfl (Or.inl ⟨by rfl,?hyq0⟩) hSd ?_
 case hyq0 => (intro w hSw; obtain ⟨⟨s0,s1,s2⟩,hmm⟩ := (show ShA w p s (t + 1) mb ∧ w.ownsMap Tryz.prog 97 RV mb (n + 1) D1 from hSw); have hln := fun ty => hmm.len Tryz.underlying159 ty; go_simp <;> with_reducible rfl)
 try simp only [Act.put,Qx,Qy,Qz]
 refine takeK (i := 1) (d := some 25) (v := ?vq1) rfl rfl (Or.inl ⟨by rfl,?hyq1⟩) hSd ?_
 case hyq1 => (intro w hSw; obtain ⟨⟨s0,s1,s2⟩,hmm⟩ := (show ShA w p s (t + 1) mb ∧ w.ownsMap Tryz.prog 97 RV mb (n + 1) D1 from hSw); have hln := fun ty => hmm.len Tryz.underlying159 ty; go_simp <;> with_reducible rfl)
 try simp only [Act.put,Qx,Qy,Qz]
 refine takeK (i := 2) (d := some 26) (v := ?vq2) rfl rfl (Or.inl ⟨by rfl,?hyq2⟩) hSd ?_
 case hyq2 => (intro w hSw; obtain ⟨⟨s0,s1,s2⟩,hmm⟩ := (show ShA w p s (t + 1) mb ∧ w.ownsMap Tryz.prog 97 RV mb (n + 1) D1 from hSw); have hln := fun ty => hmm.len Tryz.underlying159 ty; go_simp <;> with_reducible rfl)
 try simp only [Act.put,Qx,Qy,Qz]
 refine takeK (i := 3) (d := some 27) (v := ?vq3) rfl rfl (Or.inl ⟨by rfl,?hyq3⟩) hSd ?_
 case hyq3 => (intro w hSw; obtain ⟨⟨s0,s1,s2⟩,hmm⟩ := (show ShA w p s (t + 1) mb ∧ w.ownsMap Tryz.prog 97 RV mb (n + 1) D1 from hSw); have hln := fun ty => hmm.len Tryz.underlying159 ty; go_simp <;> with_reducible rfl)
 try simp only [Act.put,Qx,Qy,Qz]
 refine takeK (i := 4) (d := some 28) (v := ?vq4) rfl rfl (Or.inl ⟨by rfl,?hyq4⟩) hSd ?_
 case hyq4 => (intro w hSw; obtain ⟨⟨s0,s1,s2⟩,hmm⟩ := (show ShA w p s (t + 1) mb ∧ w.ownsMap Tryz.prog 97 RV mb (n + 1) D1 from hSw); have hln := fun ty => hmm.len Tryz.underlying159 ty; go_simp <;> with_reducible rfl)
 try simp only [Act.put,Qx,Qy,Qz]
 refine takeK (i := 5) (d := some 29) (v := ?vq5) rfl rfl (Or.inl ⟨by rfl,?hyq5⟩) hSd ?_
 case hyq5 => (intro w hSw; obtain ⟨⟨s0,s1,s2⟩,hmm⟩ := (show ShA w p s (t + 1) mb ∧ w.ownsMap Tryz.prog 97 RV mb (n + 1) D1 from hSw); have hln := fun ty => hmm.len Tryz.underlying159 ty; go_simp <;> with_reducible rfl)
 try simp only [Act.put,Qx,Qy,Qz]
 refine takeK (i := 6) (d := some 30) (v := ?vq6) rfl rfl (Or.inl ⟨by rfl,?hyq6⟩) hSd ?_
 case hyq6 => (intro w hSw; obtain ⟨⟨s0,s1,s2⟩,hmm⟩ := (show ShA w p s (t + 1) mb ∧ w.ownsMap Tryz.prog 97 RV mb (n + 1) D1 from hSw); have hln := fun ty => hmm.len Tryz.underlying159 ty; go_simp <;> with_reducible rfl)
 try simp only [Act.put,Qx,Qy,Qz]
 refine takeK (i := 7) (d := some 31) (v := ?vq7) rfl rfl (Or.inl ⟨by rfl,?hyq7⟩) hSd ?_
 case hyq7 => (intro w hSw; obtain ⟨⟨s0,s1,s2⟩,hmm⟩ := (show ShA w p s (t + 1) mb ∧ w.ownsMap Tryz.prog 97 RV mb (n + 1) D1 from hSw); have hln := fun ty => hmm.len Tryz.underlying159 ty; go_simp <;> with_reducible rfl)
 try simp only [Act.put,Qx,Qy,Qz]
 refine takeK (i := 8) (d := some 32) (v := ?vq8) rfl rfl (Or.inl ⟨by rfl,?hyq8⟩) hSd ?_
 case hyq8 => (intro w hSw; obtain ⟨⟨s0,s1,s2⟩,hmm⟩ := (show ShA w p s (t + 1) mb ∧ w.ownsMap Tryz.prog 97 RV mb (n + 1) D1 from hSw); have hln := fun ty => hmm.len Tryz.underlying159 ty; go_simp <;> with_reducible rfl)
 try simp only [Act.put,Qx,Qy,Qz]
 refine takeK (i := 9) (d := some 33) (v := ?vq9) rfl rfl (Or.inl ⟨by rfl,?hyq9⟩) hSd ?_
 case hyq9 => (intro w hSw; obtain ⟨⟨s0,s1,s2⟩,hmm⟩ := (show ShA w p s (t + 1) mb ∧ w.ownsMap Tryz.prog 97 RV mb (n + 1) D1 from hSw); have hln := fun ty => hmm.len Tryz.underlying159 ty; go_simp <;> with_reducible rfl)
 try simp only [Act.put,Qx,Qy,Qz]
 refine wpAnyH_done (by kernel_rfl) ?_ _
 refine NoPanic.normal ?_
 clear hSd
 go_wp2
 refine bodyPost_end (v := .tuple #[]) (by simp [results,Tryz.results122,go_sem]) rfl ?_
 exact ⟨rfl,HA1.out,HT1.out,by rw [hD1]; exact HM2.out.drew,fun B h1 h2 => ⟨(HB1.out B h1 h2).os,(HB1.out B h1 h2).tape,(HB1.out B h1 h2).output,(HB1.out B h1 h2).size,(HB1.out B h1 h2).block⟩,fun q h1 h2 h3 => HQ1.out q h1 h2 h3⟩
theorem shelfPut_ok (p mb n : Nat) (s t : Int) (D : DataW Value) (k : Kp) (w : World) (hp : ShA w p s t mb) (hT : There w p 3) (hm : w.ownsMap Tryz.prog 97 RV mb n D) (hz : I64 k.z) (hx : I64 k.x) (hy : I64 k.y) (hn : n < 1000) (ht0 : -10 ≤ t) (ht : t < 1000) (hD : (Maps.size (putD D k (t + 1)) : Int) ≤ s) :
  Calls Tryz.prog 122 #[.pointer (some ⟨p,0,none⟩),kpV k] w fun e w' => e = .returned (.tuple #[]) ∧ ShA w' p s (t + 1) mb ∧ There w' p 3 ∧ w'.ownsMap Tryz.prog 97 RV mb (n + 1) (putD D k (t + 1)) ∧ ∀ B,B ≤ p → B ≤ mb → Below B w w' :=
 (shelfPut_stay p mb n s t D k w hp hT hm hz hx hy hn ht0 ht hD).mono fun e w' ⟨h1,h2,h3,h4,h5,_⟩ => ⟨h1,h2,h3,h4,h5⟩
end Go.Proofs.YtiephlohemphjaaGreat
