/- Texts. -/
import Derived.Test.YtfkonhagjahgnaaGreatWTiles22
import Derived.Test.YtfkonhagjahgnaaGreatWTiles5
import Derived.Test.YtfkonhagjahgnaaGreatWTiles1
import Derived.Lib.ConvBytes
import Derived.Deep.CutBlock
import Derived.Deep.DeepCutAuto
set_option linter.unusedSimpArgs false
set_option linter.unusedVariables false
set_option maxRecDepth 100000
set_option maxHeartbeats 32000000
namespace Go.Proofs.YtfkonhagjahgnaaGreat
open Go.RowKit
theorem nowPut {w V D D' : World} (h : Below w.heap.size w D ∧ NB V D) (hb : Below D.heap.size D D') : Below w.heap.size w D' ∧ NB V D' := ⟨bl_then h.1 hb,h.2.trans (NB.of_below hb)⟩
theorem nowApp {w V D D' : World} (h : Below w.heap.size w D ∧ NB V D) (hb : Below w.heap.size D D') (hn : NB D D') : Below w.heap.size w D' ∧ NB V D' := ⟨h.1.trans hb,h.2.trans hn⟩
theorem RowB.ne {base gc : Nat} {w : World} {v : Value} {l : List Int} (h : RowB base w v l) (hg : w.heap.size ≤ gc) : some gc ≠ v.ownBlock := fun e => by
 obtain ⟨cur,hc⟩ := heap_of_row h gc e.symm
 have := lt_of_heap hc
 omega
theorem BsAt.grownB {w w' : World} {b n : Nat} {Z : Nat → Int} {row : Option Nat} (h : BsAt w b 0 n Z) (hg : w.grownBy w' row) (hne : some b ≠ row) : BsAt w' b 0 n Z := fun i hi => hg.cell (h i hi) hne
theorem stepB {ops : Array Oper} {o : Oper} {a : Act} {w : World} {K : Act → World → Prop} {Q : Exit → Act → World → Prop} {E : Prop}
  (hg : o.guard = none) (d : Option Nat) (hd : o.dst = d) (s x : Operand) (hop : o.op = Op.call { callee := Callee.builtin Builtin.append,args := #[s,x],argTypes := #[22,22] })
  (base : Nat) (v : Value) (l : List Int) (hs : a.eval s = v) (hown : RowB base w v l) (g c : Nat) (m : List Int) (hx : a.eval x = .slice (some ⟨g,0,none⟩) m.length c) (hm : BsAt w g 0 m.length (zz m))
  (hlen : l.length + m.length ≤ 5000) (hbase : base ≤ w.heap.size)
  (hK : ∀ v' w',RowB base w' v' (l ++ m) → Below base w w' → NB w w' → w.grownBy w' v.ownBlock → K (a.put d v') w') :
  if Region.wanted o (yielded ops a.tmps) = true then Oper.wp Tryz.prog o a w K Q else E := by
 obtain ⟨i0,hi,hz0,hz1,hz2⟩ := info_parts info_u8
 subst hd
 refine step_append_own hg s x 22 hop base 5 i0 (.int .u8 0) 1 1 Tryz.underlying22 hi hz0 hz1 hz2 rfl (by decide) v l.length (cellsB l) hs hown ⟨g,0,none⟩ m.length c (cellsB m) hx (by simp [cellsB]) hm.news (cellsB_one _) (by unfold maxLen; omega) (by omega) hbase ?_
 intro v' w' h1 h2 h3
 refine hK v' w' ?_ ((Below.refl _ _).grown h2 hbase (fun k hk => (hown.lt k hk).1)) (NB.of_grown hown h2) h2
 unfold RowB
 rw [cellsB_add,List.length_append]
 exact h1
theorem stepC {ops : Array Oper} {o : Oper} {a : Act} {w : World} {K : Act → World → Prop} {Q : Exit → Act → World → Prop} {E : Prop}
  (hg : o.guard = none) (d : Option Nat) (hd : o.dst = d) (x : Operand) (hop : o.op = Op.convert 9 22 x) (s : ByteArray) (hx : a.eval x = .string s)
  (hK : ∀ c w',BsAt w' w.heap.size 0 s.size (zz (labL s)) → w.heap.size < w'.heap.size → Below w.heap.size w w' → K (a.put d (.slice (some ⟨w.heap.size,0,none⟩) s.size c)) w') :
  if Region.wanted o (yielded ops a.tmps) = true then Oper.wp Tryz.prog o a w K Q else E := by
 subst hd
 have hw : Region.wanted o (yielded ops a.tmps) = true := by simp [Region.wanted,hg]
 rw [if_pos hw]
 have hrun := Lib.run_convert_string_bytes (P := Tryz.prog) w 9 22 5 s Tryz.underlying9 Tryz.underlying22 Tryz.underlying5
 unfold Oper.wp
 simp [execOp,hop,hx,hrun,Result.andThen]
 refine hK _ _ (fun i hi => ?_) (by rw [Lib.bytesWorld_size]; omega) ⟨rfl,rfl,rfl,by rw [Lib.bytesWorld_size]; omega,fun k hk => Lib.bytesWorld_at_old w _ s k hk⟩
 have := Lib.bytesWorld_cell w 5 s i hi
 rw [Nat.zero_add,this]
 have hl : i < s.data.toList.length := by simpa using hi
 simp [zz,labL,List.getD,hl]
 cases s.data[i]? <;> simp
theorem l6Feature_any (p o : Nat) (id la ki wi pr : Nat) (lab : ByteArray) (b off n cap : Nat) (X Y : Nat → Int) (w : World) (hf : FeatAt w p o (id : Int) la ki wi (.slice (some ⟨b,off,none⟩) n cap) lab pr) (hp : PtsAt w b off n X Y) (hbl : b < w.heap.size) (hn : n ≤ 12) (hin : Near n X Y) (hs : lab.size ≤ 6)
  (h1 : id ≤ 999) (h2 : la ≤ 999) (h3 : ki ≤ 999) (h4 : wi ≤ 999) (h5 : pr ≤ 999) :
  Calls Tryz.prog 118 #[.pointer (some ⟨p,o,none⟩)] w fun e w' => ∃ v',e = .returned v' ∧ RowB w.heap.size w' v' (featL id la ki wi pr lab n X Y) ∧ Below w.heap.size w w' := by
 have HP : Hid (PtsAt w b off n X Y) := hp
 have HIN : Hid (Near n X Y) := hin
 have hpl : p < w.heap.size := World.block_lt_of_cell? _ _ hf.1
 have k0 : ∀ W',Below w.heap.size w W' → W'.cell? ⟨p,o,none⟩ = some (.int .i64 (id : Int)) := fun W' h => (hf.below h hpl).1
 have k1 : ∀ W',Below w.heap.size w W' → W'.cell? ⟨p,o + 1,none⟩ = some (.int .i64 (la : Int)) := fun W' h => (hf.below h hpl).2.1
 have k2 : ∀ W',Below w.heap.size w W' → W'.cell? ⟨p,o + 2,none⟩ = some (.int .i64 (ki : Int)) := fun W' h => (hf.below h hpl).2.2.1
 have k3 : ∀ W',Below w.heap.size w W' → W'.cell? ⟨p,o + 3,none⟩ = some (.int .i64 (wi : Int)) := fun W' h => (hf.below h hpl).2.2.2.1
 have k4 : ∀ W',Below w.heap.size w W' → W'.cell? ⟨p,o + 4,none⟩ = some (.slice (some ⟨b,off,none⟩) n cap) := fun W' h => (hf.below h hpl).2.2.2.2.1
 have k5 : ∀ W',Below w.heap.size w W' → W'.cell? ⟨p,o + 5,none⟩ = some (.string lab) := fun W' h => (hf.below h hpl).2.2.2.2.2.1
 have k6 : ∀ W',Below w.heap.size w W' → W'.cell? ⟨p,o + 6,none⟩ = some (.int .i64 (pr : Int)) := fun W' h => (hf.below h hpl).2.2.2.2.2.2
 have l1 := putI_len6 id (by omega)
 have l2 := putI_len6 la (by omega)
 have l3 := putI_len6 ki (by omega)
 have l4 := putI_len6 wi (by omega)
 have l5 := putI_len6 pr (by omega)
 have l6 := putI_len6 lab.size (by omega)
 have l7 := putI_len6 n (by omega)
 clear hf hp hin
 go_enter Tryz.func118,Tryz.ntmps118
 go_wp2_with fail
 go_cut [3] (fun t wc => RowB w.heap.size wc t (putI id ++ putI la ++ putI ki) ∧ Below w.heap.size w wc)
 case first =>
  refine wp_region_noPanic ?_
  refine wp_region_held_drew (S := fun W' => Below w.heap.size w W' ∧ NB w W') (by kernel_rfl) (⟨(Below.refl _ _).drew,NB.of_below ((Below.refl _ _).drew)⟩) (fun hH0a => ?_)
  have hS0a : Below w.heap.size w w.drew ∧ NB w w.drew := hH0a
  refine takeK (i := 0) (d := some 7) (v := ?va0) rfl rfl (Or.inl ⟨by rfl,?hya0⟩) (by assumption) ?_
  case hya0 => (intro W0 hSw; (try dsimp only at hSw); obtain ⟨hS1,hS2⟩ := hSw; go_simp <;> with_reducible rfl)
  try simp only [Act.put,Qx,Qy,Qz]
  refine takeK (i := 1) (d := some 8) (v := ?va1) rfl rfl (Or.inl ⟨by rfl,?hya1⟩) (by assumption) ?_
  case hya1 => (intro W0 hSw; (try dsimp only at hSw); obtain ⟨hS1,hS2⟩ := hSw; go_simp <;> with_reducible rfl)
  try simp only [Act.put,Qx,Qy,Qz]
  refine takeK (i := 2) (d := some 9) (v := ?va2) rfl rfl (Or.inl ⟨by rfl,?hya2⟩) (by assumption) ?_
  case hya2 => (intro W0 hSw; (try dsimp only at hSw); obtain ⟨hS1,hS2⟩ := hSw; go_simp <;> with_reducible rfl)
  try simp only [Act.put,Qx,Qy,Qz]
  refine takeK (i := 3) (d := some 10) (v := ?va3) rfl rfl (Or.inl ⟨by rfl,?hya3⟩) (by assumption) ?_
  case hya3 => (intro W0 hSw; (try dsimp only at hSw); obtain ⟨hS1,hS2⟩ := hSw; go_simp <;> with_reducible rfl)
  try simp only [Act.put,Qx,Qy,Qz]
  refine takeK (i := 5) (d := some 12) (v := ?va5) rfl rfl (Or.inl ⟨by rfl,?hya5⟩) (by assumption) ?_
  case hya5 => (intro W0 hSw; (try dsimp only at hSw); obtain ⟨hS1,hS2⟩ := hSw; go_simp <;> with_reducible rfl)
  try simp only [Act.put,Qx,Qy,Qz]
  refine takeK (i := 6) (d := some 13) (v := ?va6) rfl rfl (Or.inl ⟨by rfl,?hya6⟩) (by assumption) ?_
  case hya6 => (intro W0 hSw; (try dsimp only at hSw); obtain ⟨hS1,hS2⟩ := hSw; go_simp <;> with_reducible rfl)
  try simp only [Act.put,Qx,Qy,Qz]
  refine takeK (i := 7) (d := some 14) (v := ?va7) rfl rfl (Or.inl ⟨by rfl,?hya7⟩) (by assumption) ?_
  case hya7 => (intro W0 hSw; (try dsimp only at hSw); obtain ⟨hS1,hS2⟩ := hSw; go_simp <;> with_reducible rfl)
  try simp only [Act.put,Qx,Qy,Qz]
  refine takeK (i := 8) (d := some 15) (v := ?va8) rfl rfl (Or.inl ⟨by rfl,?hya8⟩) (by assumption) ?_
  case hya8 => (intro W0 hSw; (try dsimp only at hSw); obtain ⟨hS1,hS2⟩ := hSw; go_simp <;> with_reducible rfl)
  try simp only [Act.put,Qx,Qy,Qz]
  refine takeK (i := 11) (d := some 18) (v := ?va11) rfl rfl (Or.inl ⟨by rfl,?hya11⟩) (by assumption) ?_
  case hya11 => (intro W0 hSw; (try dsimp only at hSw); obtain ⟨hS1,hS2⟩ := hSw; go_simp <;> with_reducible rfl)
  try simp only [Act.put,Qx,Qy,Qz]
  refine takeK (i := 12) (d := some 19) (v := ?va12) rfl rfl (Or.inl ⟨by rfl,?hya12⟩) (by assumption) ?_
  case hya12 => (intro W0 hSw; (try dsimp only at hSw); obtain ⟨hS1,hS2⟩ := hSw; go_simp <;> with_reducible rfl)
  try simp only [Act.put,Qx,Qy,Qz]
  refine takeK (i := 13) (d := some 20) (v := ?va13) rfl rfl (Or.inl ⟨by rfl,?hya13⟩) (by assumption) ?_
  case hya13 => (intro W0 hSw; (try dsimp only at hSw); obtain ⟨hS1,hS2⟩ := hSw; go_simp <;> with_reducible rfl)
  try simp only [Act.put,Qx,Qy,Qz]
  refine takeK (i := 14) (d := some 21) (v := ?va14) rfl rfl (Or.inl ⟨by rfl,?hya14⟩) (by assumption) ?_
  case hya14 => (intro W0 hSw; (try dsimp only at hSw); obtain ⟨hS1,hS2⟩ := hSw; go_simp <;> with_reducible rfl)
  try simp only [Act.put,Qx,Qy,Qz]
  refine wpAnyH_ready (rs := [4]) (by kernel_rfl) (by simp) ?_
  refine (AllReadyH.cons rfl (fun K hK => ?_) AllReadyH.nil)
  go_simp
  refine Calls.mono (l6Put_any id w.drew (by omega)) ?_
  rintro e wa4 ⟨ua4,rfl,hRa4,hba4⟩
  have hSa4 := nowPut hS0a hba4
  obtain ⟨ga4,ca4,rfl,_,_,_,hsa4⟩ := hRa4.at (putI_ne id)
  have HRa4 : RowB w.heap.size wa4 (.slice (some ⟨ga4,0,none⟩) (putI id).length ca4) (putI id) := hRa4.wide (hS0a).1.size
  go_wp2_with fail
  refine hK.out _ _ hSa4 (fun hHa4 => ?_)
  clear hK K
  try simp only [Act.put,Qx,Qy,Qz]
  refine wpAnyH_ready (rs := [9]) (by kernel_rfl) (by simp) ?_
  refine (AllReadyH.cons rfl (fun K hK => ?_) AllReadyH.nil)
  go_simp
  refine Calls.mono (l6Put_any la wa4 (by omega)) ?_
  rintro e wa9 ⟨ua9,rfl,hRa9,hba9⟩
  have hSa9 := nowPut hSa4 hba9
  obtain ⟨ga9,ca9,rfl,_,_,_,hsa9⟩ := hRa9.at (putI_ne la)
  have HRa9 : RowB w.heap.size wa9 (.slice (some ⟨ga9,0,none⟩) (putI la).length ca9) (putI la) := hRa9.wide (hSa4).1.size
  have HRa4x : RowB w.heap.size wa9 (.slice (some ⟨ga4,0,none⟩) (putI id).length ca4) (putI id) := HRa4.below hba9
  go_wp2_with fail
  refine hK.out _ _ hSa9 (fun hHa9 => ?_)
  clear hK K
  try simp only [Act.put,Qx,Qy,Qz]
  refine wpAnyH_ready (rs := [10]) (by kernel_rfl) (by simp) ?_
  refine (AllReadyH.cons rfl (fun K hK => ?_) AllReadyH.nil)
  refine stepB rfl (some 17) rfl (.tmp 11) (.tmp 16) rfl w.heap.size (.slice (some ⟨ga4,0,none⟩) (putI id).length ca4) (putI id) rfl HRa4x ga9 (ca9) (putI la) rfl hsa9 (by first | omega | (simp only [List.length_append,labL_len]; omega)) hSa9.1.size ?_
  intro va10 wa10 hRa10 hba10 hNa10 hga10
  have hSa10 := nowApp hSa9 hba10 hNa10
  refine hK.out _ _ hSa10 (fun hHa10 => ?_)
  clear hK K
  try simp only [Act.put,Qx,Qy,Qz]
  refine wpAnyH_ready (rs := [15]) (by kernel_rfl) (by simp) ?_
  refine (AllReadyH.cons rfl (fun K hK => ?_) AllReadyH.nil)
  go_simp
  refine Calls.mono (l6Put_any ki wa10 (by omega)) ?_
  rintro e wa15 ⟨ua15,rfl,hRa15,hba15⟩
  have hSa15 := nowPut hSa10 hba15
  obtain ⟨ga15,ca15,rfl,_,_,_,hsa15⟩ := hRa15.at (putI_ne ki)
  have HRa15 : RowB w.heap.size wa15 (.slice (some ⟨ga15,0,none⟩) (putI ki).length ca15) (putI ki) := hRa15.wide (hSa10).1.size
  have hRa10x : RowB w.heap.size wa15 va10 ((putI id) ++ putI la) := hRa10.below hba15
  go_wp2_with fail
  refine hK.out _ _ hSa15 (fun hHa15 => ?_)
  clear hK K
  try simp only [Act.put,Qx,Qy,Qz]
  refine wpAnyH_ready (rs := [16]) (by kernel_rfl) (by simp) ?_
  refine (AllReadyH.cons rfl (fun K hK => ?_) AllReadyH.nil)
  refine stepB rfl (some 23) rfl (.tmp 17) (.tmp 22) rfl w.heap.size va10 ((putI id) ++ putI la) rfl hRa10x ga15 (ca15) (putI ki) rfl hsa15 (by first | omega | (simp only [List.length_append,labL_len]; omega)) hSa15.1.size ?_
  intro va16 wa16 hRa16 hba16 hNa16 hga16
  have hSa16 := nowApp hSa15 hba16 hNa16
  refine hK.out _ _ hSa16 (fun hHa16 => ?_)
  clear hK K
  try simp only [Act.put,Qx,Qy,Qz]
  refine takeK (i := 17) (d := some 3) (v := ?va17) rfl rfl (Or.inl ⟨by rfl,?hya17⟩) (by assumption) ?_
  case hya17 => (intro W0 hSw; (try dsimp only at hSw); obtain ⟨hS1,hS2⟩ := hSw; go_simp <;> with_reducible rfl)
  try simp only [Act.put,Qx,Qy,Qz]
  refine wpAnyH_done (by kernel_rfl) ?_ _
  refine NoPanic.normal ?_
  go_wp2_with fail
  go_meet
  case rel => exact ⟨hRa16,hSa16.1⟩
 case rest =>
 obtain ⟨hR1,hB1⟩ := hcut
 generalize wc = V1 at *
 generalize u3 = o1 at *
 go_wp2_with fail
 go_cut [3] (fun t wc => RowB w.heap.size wc t (putI id ++ putI la ++ putI ki ++ putI wi ++ putI pr) ∧ Below w.heap.size w wc)
 case first =>
  refine wp_region_noPanic ?_
  refine wp_region_held_drew (S := fun W' => Below w.heap.size w W' ∧ NB V1 W') (by kernel_rfl) (⟨hB1.drew,NB.of_below ((Below.refl _ _).drew)⟩) (fun hH0b => ?_)
  have hS0b : Below w.heap.size w V1.drew ∧ NB V1 V1.drew := hH0b
  have hR1' : RowB w.heap.size V1.drew o1 (putI id ++ putI la ++ putI ki) := hR1.below ((Below.refl _ _).drew)
  refine takeK (i := 0) (d := some 24) (v := ?vb0) rfl rfl (Or.inl ⟨by rfl,?hyb0⟩) (by assumption) ?_
  case hyb0 => (intro W0 hSw; (try dsimp only at hSw); obtain ⟨hS1,hS2⟩ := hSw; go_simp <;> with_reducible rfl)
  try simp only [Act.put,Qx,Qy,Qz]
  refine takeK (i := 1) (d := some 25) (v := ?vb1) rfl rfl (Or.inl ⟨by rfl,?hyb1⟩) (by assumption) ?_
  case hyb1 => (intro W0 hSw; (try dsimp only at hSw); obtain ⟨hS1,hS2⟩ := hSw; go_simp <;> with_reducible rfl)
  try simp only [Act.put,Qx,Qy,Qz]
  refine takeK (i := 2) (d := some 26) (v := ?vb2) rfl rfl (Or.inl ⟨by rfl,?hyb2⟩) (by assumption) ?_
  case hyb2 => (intro W0 hSw; (try dsimp only at hSw); obtain ⟨hS1,hS2⟩ := hSw; go_simp <;> with_reducible rfl)
  try simp only [Act.put,Qx,Qy,Qz]
  refine takeK (i := 3) (d := some 27) (v := ?vb3) rfl rfl (Or.inl ⟨by rfl,?hyb3⟩) (by assumption) ?_
  case hyb3 => (intro W0 hSw; (try dsimp only at hSw); obtain ⟨hS1,hS2⟩ := hSw; go_simp <;> with_reducible rfl)
  try simp only [Act.put,Qx,Qy,Qz]
  refine takeK (i := 4) (d := some 28) (v := ?vb4) rfl rfl (Or.inl ⟨by rfl,?hyb4⟩) (by assumption) ?_
  case hyb4 => (intro W0 hSw; (try dsimp only at hSw); obtain ⟨hS1,hS2⟩ := hSw; go_simp <;> with_reducible rfl)
  try simp only [Act.put,Qx,Qy,Qz]
  refine takeK (i := 7) (d := some 31) (v := ?vb7) rfl rfl (Or.inl ⟨by rfl,?hyb7⟩) (by assumption) ?_
  case hyb7 => (intro W0 hSw; (try dsimp only at hSw); obtain ⟨hS1,hS2⟩ := hSw; go_simp <;> with_reducible rfl)
  try simp only [Act.put,Qx,Qy,Qz]
  refine takeK (i := 8) (d := some 32) (v := ?vb8) rfl rfl (Or.inl ⟨by rfl,?hyb8⟩) (by assumption) ?_
  case hyb8 => (intro W0 hSw; (try dsimp only at hSw); obtain ⟨hS1,hS2⟩ := hSw; go_simp <;> with_reducible rfl)
  try simp only [Act.put,Qx,Qy,Qz]
  refine takeK (i := 9) (d := some 33) (v := ?vb9) rfl rfl (Or.inl ⟨by rfl,?hyb9⟩) (by assumption) ?_
  case hyb9 => (intro W0 hSw; (try dsimp only at hSw); obtain ⟨hS1,hS2⟩ := hSw; go_simp <;> with_reducible rfl)
  try simp only [Act.put,Qx,Qy,Qz]
  refine takeK (i := 10) (d := some 34) (v := ?vb10) rfl rfl (Or.inl ⟨by rfl,?hyb10⟩) (by assumption) ?_
  case hyb10 => (intro W0 hSw; (try dsimp only at hSw); obtain ⟨hS1,hS2⟩ := hSw; go_simp <;> with_reducible rfl)
  try simp only [Act.put,Qx,Qy,Qz]
  refine wpAnyH_ready (rs := [5]) (by kernel_rfl) (by simp) ?_
  refine (AllReadyH.cons rfl (fun K hK => ?_) AllReadyH.nil)
  go_simp
  refine Calls.mono (l6Put_any wi V1.drew (by omega)) ?_
  rintro e wb5 ⟨ub5,rfl,hRb5,hbb5⟩
  have hSb5 := nowPut hS0b hbb5
  obtain ⟨gb5,cb5,rfl,_,_,_,hsb5⟩ := hRb5.at (putI_ne wi)
  have HRb5 : RowB w.heap.size wb5 (.slice (some ⟨gb5,0,none⟩) (putI wi).length cb5) (putI wi) := hRb5.wide (hS0b).1.size
  have hR1'x : RowB w.heap.size wb5 o1 (putI id ++ putI la ++ putI ki) := hR1'.below hbb5
  go_wp2_with fail
  refine hK.out _ _ hSb5 (fun hHb5 => ?_)
  clear hK K
  try simp only [Act.put,Qx,Qy,Qz]
  refine wpAnyH_ready (rs := [6]) (by kernel_rfl) (by simp) ?_
  refine (AllReadyH.cons rfl (fun K hK => ?_) AllReadyH.nil)
  refine stepB rfl (some 30) rfl (.tmp 24) (.tmp 29) rfl w.heap.size o1 (putI id ++ putI la ++ putI ki) rfl hR1'x gb5 (cb5) (putI wi) rfl hsb5 (by first | omega | (simp only [List.length_append,labL_len]; omega)) hSb5.1.size ?_
  intro vb6 wb6 hRb6 hbb6 hNb6 hgb6
  have hSb6 := nowApp hSb5 hbb6 hNb6
  refine hK.out _ _ hSb6 (fun hHb6 => ?_)
  clear hK K
  try simp only [Act.put,Qx,Qy,Qz]
  refine wpAnyH_ready (rs := [11]) (by kernel_rfl) (by simp) ?_
  refine (AllReadyH.cons rfl (fun K hK => ?_) AllReadyH.nil)
  go_simp
  refine Calls.mono (l6Put_any pr wb6 (by omega)) ?_
  rintro e wb11 ⟨ub11,rfl,hRb11,hbb11⟩
  have hSb11 := nowPut hSb6 hbb11
  obtain ⟨gb11,cb11,rfl,_,_,_,hsb11⟩ := hRb11.at (putI_ne pr)
  have HRb11 : RowB w.heap.size wb11 (.slice (some ⟨gb11,0,none⟩) (putI pr).length cb11) (putI pr) := hRb11.wide (hSb6).1.size
  have hRb6x : RowB w.heap.size wb11 vb6 ((putI id ++ putI la ++ putI ki) ++ putI wi) := hRb6.below hbb11
  go_wp2_with fail
  refine hK.out _ _ hSb11 (fun hHb11 => ?_)
  clear hK K
  try simp only [Act.put,Qx,Qy,Qz]
  refine wpAnyH_ready (rs := [12]) (by kernel_rfl) (by simp) ?_
  refine (AllReadyH.cons rfl (fun K hK => ?_) AllReadyH.nil)
  refine stepB rfl (some 36) rfl (.tmp 30) (.tmp 35) rfl w.heap.size vb6 ((putI id ++ putI la ++ putI ki) ++ putI wi) rfl hRb6x gb11 (cb11) (putI pr) rfl hsb11 (by first | omega | (simp only [List.length_append,labL_len]; omega)) hSb11.1.size ?_
  intro vb12 wb12 hRb12 hbb12 hNb12 hgb12
  have hSb12 := nowApp hSb11 hbb12 hNb12
  refine hK.out _ _ hSb12 (fun hHb12 => ?_)
  clear hK K
  try simp only [Act.put,Qx,Qy,Qz]
  refine takeK (i := 13) (d := some 3) (v := ?vb13) rfl rfl (Or.inl ⟨by rfl,?hyb13⟩) (by assumption) ?_
  case hyb13 => (intro W0 hSw; (try dsimp only at hSw); obtain ⟨hS1,hS2⟩ := hSw; go_simp <;> with_reducible rfl)
  try simp only [Act.put,Qx,Qy,Qz]
  refine wpAnyH_done (by kernel_rfl) ?_ _
  refine NoPanic.normal ?_
  go_wp2_with fail
  go_meet
  case rel => exact ⟨hRb12,hSb12.1⟩
 case rest =>
 clear hR1 hB1
 obtain ⟨hR2,hB2⟩ := hcut
 generalize wc = V2 at *
 generalize u3 = o2 at *
 go_wp2_with fail
 go_cut [3] (fun t wc => RowB w.heap.size wc t (putI id ++ putI la ++ putI ki ++ putI wi ++ putI pr ++ putI lab.size ++ labL lab) ∧ Below w.heap.size w wc)
 case first =>
  refine wp_region_noPanic ?_
  refine wp_region_held_drew (S := fun W' => Below w.heap.size w W' ∧ NB V2 W') (by kernel_rfl) (⟨hB2.drew,NB.of_below ((Below.refl _ _).drew)⟩) (fun hH0c => ?_)
  have hS0c : Below w.heap.size w V2.drew ∧ NB V2 V2.drew := hH0c
  have hR2' : RowB w.heap.size V2.drew o2 (putI id ++ putI la ++ putI ki ++ putI wi ++ putI pr) := hR2.below ((Below.refl _ _).drew)
  refine takeK (i := 0) (d := some 37) (v := ?vc0) rfl rfl (Or.inl ⟨by rfl,?hyc0⟩) (by assumption) ?_
  case hyc0 => (intro W0 hSw; (try dsimp only at hSw); obtain ⟨hS1,hS2⟩ := hSw; go_simp <;> with_reducible rfl)
  try simp only [Act.put,Qx,Qy,Qz]
  refine takeK (i := 1) (d := some 38) (v := ?vc1) rfl rfl (Or.inl ⟨by rfl,?hyc1⟩) (by assumption) ?_
  case hyc1 => (intro W0 hSw; (try dsimp only at hSw); obtain ⟨hS1,hS2⟩ := hSw; go_simp <;> with_reducible rfl)
  try simp only [Act.put,Qx,Qy,Qz]
  refine takeK (i := 2) (d := some 39) (v := ?vc2) rfl rfl (Or.inl ⟨by rfl,?hyc2⟩) (by assumption) ?_
  case hyc2 => (intro W0 hSw; (try dsimp only at hSw); obtain ⟨hS1,hS2⟩ := hSw; go_simp <;> with_reducible rfl)
  try simp only [Act.put,Qx,Qy,Qz]
  refine takeK (i := 3) (d := some 40) (v := ?vc3) rfl rfl (Or.inl ⟨by rfl,?hyc3⟩) (by assumption) ?_
  case hyc3 => (intro W0 hSw; (try dsimp only at hSw); obtain ⟨hS1,hS2⟩ := hSw; go_simp <;> with_reducible rfl)
  try simp only [Act.put,Qx,Qy,Qz]
  refine takeK (i := 4) (d := some 41) (v := ?vc4) rfl rfl (Or.inl ⟨by rfl,?hyc4⟩) (by assumption) ?_
  case hyc4 => (intro W0 hSw; (try dsimp only at hSw); obtain ⟨hS1,hS2⟩ := hSw; go_simp <;> with_reducible rfl)
  try simp only [Act.put,Qx,Qy,Qz]
  refine takeK (i := 5) (d := some 42) (v := ?vc5) rfl rfl (Or.inl ⟨by rfl,?hyc5⟩) (by assumption) ?_
  case hyc5 => (intro W0 hSw; (try dsimp only at hSw); obtain ⟨hS1,hS2⟩ := hSw; go_simp <;> with_reducible rfl)
  try simp only [Act.put,Qx,Qy,Qz]
  refine takeK (i := 8) (d := some 45) (v := ?vc8) rfl rfl (Or.inl ⟨by rfl,?hyc8⟩) (by assumption) ?_
  case hyc8 => (intro W0 hSw; (try dsimp only at hSw); obtain ⟨hS1,hS2⟩ := hSw; go_simp <;> with_reducible rfl)
  try simp only [Act.put,Qx,Qy,Qz]
  refine takeK (i := 9) (d := some 46) (v := ?vc9) rfl rfl (Or.inl ⟨by rfl,?hyc9⟩) (by assumption) ?_
  case hyc9 => (intro W0 hSw; (try dsimp only at hSw); obtain ⟨hS1,hS2⟩ := hSw; go_simp <;> with_reducible rfl)
  try simp only [Act.put,Qx,Qy,Qz]
  refine takeK (i := 10) (d := some 47) (v := ?vc10) rfl rfl (Or.inl ⟨by rfl,?hyc10⟩) (by assumption) ?_
  case hyc10 => (intro W0 hSw; (try dsimp only at hSw); obtain ⟨hS1,hS2⟩ := hSw; go_simp <;> with_reducible rfl)
  try simp only [Act.put,Qx,Qy,Qz]
  refine takeK (i := 11) (d := some 48) (v := ?vc11) rfl rfl (Or.inl ⟨by rfl,?hyc11⟩) (by assumption) ?_
  case hyc11 => (intro W0 hSw; (try dsimp only at hSw); obtain ⟨hS1,hS2⟩ := hSw; go_simp <;> with_reducible rfl)
  try simp only [Act.put,Qx,Qy,Qz]
  refine wpAnyH_ready (rs := [6,12]) (by kernel_rfl) (by simp) ?_
  refine (AllReadyH.cons rfl (fun K hK => ?_) (AllReadyH.cons rfl (fun K hK => ?_) AllReadyH.nil))
  ·skip
   go_simp
   refine Calls.mono (l6Put_any lab.size V2.drew (by omega)) ?_
   rintro e wd6 ⟨ud6,rfl,hRd6,hbd6⟩
   have hSd6 := nowPut hS0c hbd6
   obtain ⟨gd6,cd6,rfl,_,_,_,hsd6⟩ := hRd6.at (putI_ne lab.size)
   have HRd6 : RowB w.heap.size wd6 (.slice (some ⟨gd6,0,none⟩) (putI lab.size).length cd6) (putI lab.size) := hRd6.wide (hS0c).1.size
   have hR2'x : RowB w.heap.size wd6 o2 (putI id ++ putI la ++ putI ki ++ putI wi ++ putI pr) := hR2'.below hbd6
   go_wp2_with fail
   refine hK.out _ _ hSd6 (fun hHd6 => ?_)
   clear hK K
   try simp only [Act.put,Qx,Qy,Qz]
   refine wpAnyH_ready (rs := [7,12]) (by kernel_rfl) (by simp) ?_
   refine (AllReadyH.cons rfl (fun K hK => ?_) (AllReadyH.cons rfl (fun K hK => ?_) AllReadyH.nil))
   ·skip
    refine stepB rfl (some 44) rfl (.tmp 37) (.tmp 43) rfl w.heap.size o2 (putI id ++ putI la ++ putI ki ++ putI wi ++ putI pr) rfl hR2'x gd6 (cd6) (putI lab.size) rfl hsd6 (by first | omega | (simp only [List.length_append,labL_len]; omega)) hSd6.1.size ?_
    intro ve7 we7 hRe7 hbe7 hNe7 hge7
    have hSe7 := nowApp hSd6 hbe7 hNe7
    refine hK.out _ _ hSe7 (fun hHe7 => ?_)
    clear hK K
    try simp only [Act.put,Qx,Qy,Qz]
    refine wpAnyH_ready (rs := [12]) (by kernel_rfl) (by simp) ?_
    refine (AllReadyH.cons rfl (fun K hK => ?_) AllReadyH.nil)
    refine stepC rfl (some 49) rfl (.tmp 48) rfl lab rfl ?_
    intro cce12 we12 hLe12 hMe12 hbe12
    have hSe12 := nowPut hSe7 hbe12
    have hnee12 : some we7.heap.size ≠ Value.ownBlock ve7 := RowB.ne hRe7 (Nat.le_refl _)
    have hRe7y : RowB w.heap.size we12 ve7 ((putI id ++ putI la ++ putI ki ++ putI wi ++ putI pr) ++ putI lab.size) := hRe7.below hbe12
    refine hK.out _ _ hSe12 (fun hHe12 => ?_)
    clear hK K
    try simp only [Act.put,Qx,Qy,Qz]
    refine wpAnyH_ready (rs := [13]) (by kernel_rfl) (by simp) ?_
    refine (AllReadyH.cons rfl (fun K hK => ?_) AllReadyH.nil)
    refine stepB rfl (some 50) rfl (.tmp 44) (.tmp 49) rfl w.heap.size ve7 ((putI id ++ putI la ++ putI ki ++ putI wi ++ putI pr) ++ putI lab.size) rfl hRe7y we7.heap.size (cce12) (labL lab) (by rw [labL_len]; rfl) (by rw [labL_len]; exact hLe12) (by first | omega | (simp only [List.length_append,labL_len]; omega)) hSe12.1.size ?_
    intro ve13 we13 hRe13 hbe13 hNe13 hge13
    have hSe13 := nowApp hSe12 hbe13 hNe13
    refine hK.out _ _ hSe13 (fun hHe13 => ?_)
    clear hK K
    try simp only [Act.put,Qx,Qy,Qz]
    refine takeK (i := 14) (d := some 3) (v := ?ve14) rfl rfl (Or.inl ⟨by rfl,?hye14⟩) (by assumption) ?_
    case hye14 => (intro W0 hSw; (try dsimp only at hSw); obtain ⟨hS1,hS2⟩ := hSw; go_simp <;> with_reducible rfl)
    try simp only [Act.put,Qx,Qy,Qz]
    refine wpAnyH_done (by kernel_rfl) ?_ _
    refine NoPanic.normal ?_
    go_wp2_with fail
    go_meet
    case rel => exact ⟨hRe13,hSe13.1⟩
   ·skip
    refine stepC rfl (some 49) rfl (.tmp 48) rfl lab rfl ?_
    intro ccf12 wf12 hLf12 hMf12 hbf12
    have hSf12 := nowPut hSd6 hbf12
    have hnef12 : some wd6.heap.size ≠ Value.ownBlock o2 := RowB.ne hR2'x (Nat.le_refl _)
    have hR2'xy : RowB w.heap.size wf12 o2 (putI id ++ putI la ++ putI ki ++ putI wi ++ putI pr) := hR2'x.below hbf12
    have HRd6y : RowB w.heap.size wf12 (.slice (some ⟨gd6,0,none⟩) (putI lab.size).length cd6) (putI lab.size) := HRd6.below hbf12
    have hsd6y : BsAt wf12 gd6 0 (putI lab.size).length (zz (putI lab.size)) := BsAt.below hsd6 hbf12 (World.block_lt_of_cell? _ _ (hsd6 0 (putI_ne _)))
    refine hK.out _ _ hSf12 (fun hHf12 => ?_)
    clear hK K
    try simp only [Act.put,Qx,Qy,Qz]
    refine wpAnyH_ready (rs := [7]) (by kernel_rfl) (by simp) ?_
    refine (AllReadyH.cons rfl (fun K hK => ?_) AllReadyH.nil)
    refine stepB rfl (some 44) rfl (.tmp 37) (.tmp 43) rfl w.heap.size o2 (putI id ++ putI la ++ putI ki ++ putI wi ++ putI pr) rfl hR2'xy gd6 (cd6) (putI lab.size) rfl hsd6y (by first | omega | (simp only [List.length_append,labL_len]; omega)) hSf12.1.size ?_
    intro vf7 wf7 hRf7 hbf7 hNf7 hgf7
    have hSf7 := nowApp hSf12 hbf7 hNf7
    have hLf7 : BsAt wf7 wd6.heap.size 0 lab.size (zz (labL lab)) := hLf12.grownB hgf7 hnef12
    have hMf7 : wd6.heap.size < wf7.heap.size := Nat.lt_of_lt_of_le hMf12 hbf7.size
    refine hK.out _ _ hSf7 (fun hHf7 => ?_)
    clear hK K
    try simp only [Act.put,Qx,Qy,Qz]
    refine wpAnyH_ready (rs := [13]) (by kernel_rfl) (by simp) ?_
    refine (AllReadyH.cons rfl (fun K hK => ?_) AllReadyH.nil)
    refine stepB rfl (some 50) rfl (.tmp 44) (.tmp 49) rfl w.heap.size vf7 ((putI id ++ putI la ++ putI ki ++ putI wi ++ putI pr) ++ putI lab.size) rfl hRf7 wd6.heap.size (ccf12) (labL lab) (by rw [labL_len]; rfl) (by rw [labL_len]; exact hLf7) (by first | omega | (simp only [List.length_append,labL_len]; omega)) hSf7.1.size ?_
    intro vf13 wf13 hRf13 hbf13 hNf13 hgf13
    have hSf13 := nowApp hSf7 hbf13 hNf13
    refine hK.out _ _ hSf13 (fun hHf13 => ?_)
    clear hK K
    try simp only [Act.put,Qx,Qy,Qz]
    refine takeK (i := 14) (d := some 3) (v := ?vf14) rfl rfl (Or.inl ⟨by rfl,?hyf14⟩) (by assumption) ?_
    case hyf14 => (intro W0 hSw; (try dsimp only at hSw); obtain ⟨hS1,hS2⟩ := hSw; go_simp <;> with_reducible rfl)
    try simp only [Act.put,Qx,Qy,Qz]
    refine wpAnyH_done (by kernel_rfl) ?_ _
    refine NoPanic.normal ?_
    go_wp2_with fail
    go_meet
    case rel => exact ⟨hRf13,hSf13.1⟩
  ·skip
   refine stepC rfl (some 49) rfl (.tmp 48) rfl lab rfl ?_
   intro ccg12 wg12 hLg12 hMg12 hbg12
   have hSg12 := nowPut hS0c hbg12
   have hneg12 : some V2.drew.heap.size ≠ Value.ownBlock o2 := RowB.ne hR2' (Nat.le_refl _)
   have hR2'y : RowB w.heap.size wg12 o2 (putI id ++ putI la ++ putI ki ++ putI wi ++ putI pr) := hR2'.below hbg12
   refine hK.out _ _ hSg12 (fun hHg12 => ?_)
   clear hK K
   try simp only [Act.put,Qx,Qy,Qz]
   refine wpAnyH_ready (rs := [6]) (by kernel_rfl) (by simp) ?_
   refine (AllReadyH.cons rfl (fun K hK => ?_) AllReadyH.nil)
   go_simp
   refine Calls.mono (l6Put_any lab.size wg12 (by omega)) ?_
   rintro e wg6 ⟨ug6,rfl,hRg6,hbg6⟩
   have hSg6 := nowPut hSg12 hbg6
   obtain ⟨gg6,cg6,rfl,_,_,_,hsg6⟩ := hRg6.at (putI_ne lab.size)
   have HRg6 : RowB w.heap.size wg6 (.slice (some ⟨gg6,0,none⟩) (putI lab.size).length cg6) (putI lab.size) := hRg6.wide (hSg12).1.size
   have hR2'yx : RowB w.heap.size wg6 o2 (putI id ++ putI la ++ putI ki ++ putI wi ++ putI pr) := hR2'y.below hbg6
   have hLg6 : BsAt wg6 V2.drew.heap.size 0 lab.size (zz (labL lab)) := hLg12.below hbg6 hMg12
   have hMg6 : V2.drew.heap.size < wg6.heap.size := Nat.lt_of_lt_of_le hMg12 hbg6.size
   go_wp2_with fail
   refine hK.out _ _ hSg6 (fun hHg6 => ?_)
   clear hK K
   try simp only [Act.put,Qx,Qy,Qz]
   refine wpAnyH_ready (rs := [7]) (by kernel_rfl) (by simp) ?_
   refine (AllReadyH.cons rfl (fun K hK => ?_) AllReadyH.nil)
   refine stepB rfl (some 44) rfl (.tmp 37) (.tmp 43) rfl w.heap.size o2 (putI id ++ putI la ++ putI ki ++ putI wi ++ putI pr) rfl hR2'yx gg6 (cg6) (putI lab.size) rfl hsg6 (by first | omega | (simp only [List.length_append,labL_len]; omega)) hSg6.1.size ?_
   intro vg7 wg7 hRg7 hbg7 hNg7 hgg7
   have hSg7 := nowApp hSg6 hbg7 hNg7
   have hLg7 : BsAt wg7 V2.drew.heap.size 0 lab.size (zz (labL lab)) := hLg6.grownB hgg7 hneg12
   have hMg7 : V2.drew.heap.size < wg7.heap.size := Nat.lt_of_lt_of_le hMg6 hbg7.size
   refine hK.out _ _ hSg7 (fun hHg7 => ?_)
   clear hK K
   try simp only [Act.put,Qx,Qy,Qz]
   refine wpAnyH_ready (rs := [13]) (by kernel_rfl) (by simp) ?_
   refine (AllReadyH.cons rfl (fun K hK => ?_) AllReadyH.nil)
   refine stepB rfl (some 50) rfl (.tmp 44) (.tmp 49) rfl w.heap.size vg7 ((putI id ++ putI la ++ putI ki ++ putI wi ++ putI pr) ++ putI lab.size) rfl hRg7 V2.drew.heap.size (ccg12) (labL lab) (by rw [labL_len]; rfl) (by rw [labL_len]; exact hLg7) (by first | omega | (simp only [List.length_append,labL_len]; omega)) hSg7.1.size ?_
   intro vg13 wg13 hRg13 hbg13 hNg13 hgg13
   have hSg13 := nowApp hSg7 hbg13 hNg13
   refine hK.out _ _ hSg13 (fun hHg13 => ?_)
   clear hK K
   try simp only [Act.put,Qx,Qy,Qz]
   refine takeK (i := 14) (d := some 3) (v := ?vg14) rfl rfl (Or.inl ⟨by rfl,?hyg14⟩) (by assumption) ?_
   case hyg14 => (intro W0 hSw; (try dsimp only at hSw); obtain ⟨hS1,hS2⟩ := hSw; go_simp <;> with_reducible rfl)
   try simp only [Act.put,Qx,Qy,Qz]
   refine wpAnyH_done (by kernel_rfl) ?_ _
   refine NoPanic.normal ?_
   go_wp2_with fail
   go_meet
   case rel => exact ⟨hRg13,hSg13.1⟩
 case rest =>
 clear hR2 hB2
 obtain ⟨hR3,hB3⟩ := hcut
 generalize wc = V3 at *
 generalize u3 = o3 at *
 have HR3 : Hid (RowB w.heap.size V3 o3 (putI id ++ putI la ++ putI ki ++ putI wi ++ putI pr ++ putI lab.size ++ labL lab)) := hR3
 have HB3 : Hid (Below w.heap.size w V3) := hB3
 obtain ⟨L3,hL3⟩ : ∃ L : List Int,putI id ++ putI la ++ putI ki ++ putI wi ++ putI pr ++ putI lab.size ++ labL lab = L := ⟨_,rfl⟩
 have hlen3 : L3.length ≤ 42 := by rw [← hL3]; simp only [List.length_append,labL_len]; omega
 have HFL : Hid (∀ m : List Int,featL id la ki wi pr lab n X Y = L3 ++ (putI n ++ ptsL X Y n)) := by
  intro m
  rw [← hL3]
  simp [featL,hd]
 rw [hL3] at HR3
 clear hR3 hB3 hL3
 have q4 := k4 V3 HB3.out
 obtain ⟨i0,hi,hz0,hz1,hz2⟩ := info_parts info_u8
 go_wp2_with fail
 refine (l6Put_any n V3 (by omega)).mono ?_
 rintro e w5 ⟨u5,rfl,hR5,hb5⟩
 obtain ⟨g5,c5,rfl,_,_,_,hs5⟩ := hR5.at (putI_ne n)
 have HS5 : Hid (BsAt w5 g5 0 (putI n).length (zz (putI n))) := hs5
 have HO5 : Hid (RowB w.heap.size w5 o3 L3) := HR3.out.below hb5
 have HB5 : Hid (Below w.heap.size w w5) := bl_then HB3.out hb5
 have hle5 := HB5.out.size
 clear hR5 hs5 hb5 HR3 HB3 q4
 go_wp2_with (first
  | (at_builtin; go_must (refine wpList_append_own _ rfl _ _ 22 rfl w.heap.size 5 i0 (.int .u8 0) 1 1 Tryz.underlying22 hi hz0 hz1 hz2 rfl (by decide) _ L3.length (cellsB L3) rfl HO5.out ⟨g5,0,none⟩ (putI n).length c5 (cellsB (putI n)) rfl (by simp [cellsB]) HS5.out.news (cellsB_one _) ?c3 ?c4 ?c5 ?_)))
 case c3 => unfold maxLen; omega
 case c4 => omega
 case c5 => first | omega | (simp; omega)
 intro v6 w6 hown hgrow hnil
 have HB6 : Hid (Below w.heap.size w w6) := HB5.out.grown hgrow hle5 (fun k hk => (HO5.out.lt k hk).1)
 have HO6 : Hid (RowB w.heap.size w6 v6 (L3 ++ putI n)) := by
  show RowB _ _ _ _
  unfold RowB
  rw [cellsB_add,List.length_append]
  exact hown
 clear hown hgrow hnil HO5 HB5 HS5 hle5
 go_wp2_with fail
 generalize hW : (w6.alloc _ : World) = W
 have hBa : Below w6.heap.size w6 W := by subst hW; (repeat (first|exact Qr _ _|assumption|refine Qd ?_|refine Qa ?_ _|refine Qt ?_|refine Qs ?_ _|refine Qo ?_ ?_ _ _))
 have HA : Hid (PtB W w6.heap.size (ahX X 0) (ahX Y 0)) := by subst hW; exact PtB.new _ _ _
 have HOW : Hid (RowB w.heap.size W v6 (L3 ++ putI n)) := HO6.out.below hBa
 have HBW : Hid (Below w.heap.size w W) := bl_then HB6.out hBa
 obtain ⟨r,hr⟩ : ∃ r,w6.heap.size = r := ⟨_,rfl⟩
 have hwr : w.heap.size ≤ r := by have := HB6.out.size; omega
 rw [hr] at HA
 try rw [hr]
 clear hW hBa hr HO6 HB6
 go_loopw [3,5] (fun u i wr => ∃ k : Nat,k ≤ n ∧ i = .int .i64 (k : Int) ∧ RowB w.heap.size wr u (L3 ++ (putI n ++ ptsL X Y k)) ∧ PtB wr r (ahX X k) (ahX Y k) ∧ Below w.heap.size w wr) (fun _ i _ => n - (intOf i).toNat)
 case atStart => exact ⟨0,by omega,rfl,by simpa [ptsL] using HOW.out,HA.out,HBW.out⟩
 case round =>
  obtain ⟨k,hk,rfl,hO,hA,hB⟩ := hrel
  have HOr : Hid (RowB w.heap.size wr u3 (L3 ++ (putI n ++ ptsL X Y k))) := hO
  have HAr : Hid (PtB wr r (ahX X k) (ahX Y k)) := hA
  have HBr : Hid (Below w.heap.size w wr) := hB
  have hbr : w.heap.size ≤ wr.heap.size := hB.size
  have q4 := k4 wr hB
  clear hO hA hB HOW HA HBW
  by_cases hlt : k < n
  ·obtain ⟨hx,hy⟩ := (HP.out.below HBr.out hbl) k hlt
   have hbw : b < wr.heap.size := by omega
   have hi' : (k : Int) < (n : Int) := by omega
   obtain ⟨hX,hY⟩ := HIN.out k hlt
   have hX' := ahX_bd (fun i hi => (HIN.out i hi).1) k (by omega)
   have hY' := ahX_bd (fun i hi => (HIN.out i hi).2) k (by omega)
   obtain ⟨m,hm,hm'⟩ := step_num hX hX'
   obtain ⟨q,hq,hq'⟩ := step_num hY hY'
   have HST : Hid (ptsL X Y (k + 1) = ptsL X Y k ++ (putI m ++ putI q)) := by show _ = _; simp [ptsL,stepL,hm,hq]
   have hlen := ptsL_len HIN.out k (by omega)
   have hlm := putI_len2 m hm'
   have hlq := putI_len2 q hq'
   have HM : Hid (foldI (X k - ahX X k) = (m : Int)) := hm
   have HQ : Hid (foldI (Y k - ahX Y k) = (q : Int)) := hq
   clear hm hq
   obtain ⟨ax,hax⟩ : ∃ z,ahX X k = z := ⟨_,rfl⟩
   obtain ⟨ay,hay⟩ : ∃ z,ahX Y k = z := ⟨_,rfl⟩
   rw [hax] at hX' HM HAr
   rw [hay] at hY' HQ HAr
   clear hax hay
   go_wp2_with fail
   generalize hV : (wr.alloc _ : World) = V
   have hbV : Below wr.heap.size wr V := by subst hV; (repeat (first|exact Qr _ _|assumption|refine Qd ?_|refine Qa ?_ _|refine Qt ?_|refine Qs ?_ _|refine Qo ?_ ?_ _ _))
   have HPV : Hid (PtB V wr.heap.size (X k) (Y k)) := by subst hV; exact PtB.new _ _ _
   have HAV : Hid (PtB V r ax ay) := HAr.out.nb (NB.of_below hbV)
   have hOV : RowB w.heap.size V u3 (L3 ++ (putI n ++ ptsL X Y k)) := HOr.out.below hbV
   have hBV : Below w.heap.size w V := bl_then HBr.out hbV
   obtain ⟨rp,hrp⟩ : ∃ r,wr.heap.size = r := ⟨_,rfl⟩
   rw [hrp] at HPV
   rw [hrp]
   clear hV hbV HOr HAr HBr hx hy hrp q4
   have x0 : ∀ W',NB V W' → W'.cell? ⟨r,0,none⟩ = some (.int .i64 ax) := fun W' h => (HAV.out.nb h).cells.1
   have x1 : ∀ W',NB V W' → W'.cell? ⟨r,1,none⟩ = some (.int .i64 ay) := fun W' h => (HAV.out.nb h).cells.2.1
   have y0 : ∀ W',NB V W' → W'.cell? ⟨rp,0,none⟩ = some (.int .i64 (X k)) := fun W' h => (HPV.out.nb h).cells.1
   have y1 : ∀ W',NB V W' → W'.cell? ⟨rp,1,none⟩ = some (.int .i64 (Y k)) := fun W' h => (HPV.out.nb h).cells.2.1
   have wx : IntKind.i64.wrap (X k - ax) = X k - ax := IntWalk.i64_in _ (by omega)
   have wy : IntKind.i64.wrap (Y k - ay) = Y k - ay := IntWalk.i64_in _ (by omega)
   refine wp_region_noPanic ?_
   refine wp_region_held_drew (S := fun W' => Below w.heap.size w W' ∧ NB V W') (by kernel_rfl) (⟨hBV.drew,NB.of_below ((Below.refl _ _).drew)⟩) (fun hH0h => ?_)
   have hS0h : Below w.heap.size w V.drew ∧ NB V V.drew := hH0h
   have hOV' : RowB w.heap.size V.drew u3 (L3 ++ (putI n ++ ptsL X Y k)) := hOV.below ((Below.refl _ _).drew)
   refine takeK (i := 0) (d := some 76) (v := ?vh0) rfl rfl (Or.inl ⟨by rfl,?hyh0⟩) (by assumption) ?_
   case hyh0 => (intro W0 hSw; (try dsimp only at hSw); obtain ⟨hS1,hS2⟩ := hSw; go_simp <;> with_reducible rfl)
   try simp only [Act.put,Qx,Qy,Qz]
   refine takeK (i := 1) (d := some 77) (v := ?vh1) rfl rfl (Or.inl ⟨by rfl,?hyh1⟩) (by assumption) ?_
   case hyh1 => (intro W0 hSw; (try dsimp only at hSw); obtain ⟨hS1,hS2⟩ := hSw; go_simp <;> with_reducible rfl)
   try simp only [Act.put,Qx,Qy,Qz]
   refine takeK (i := 2) (d := some 78) (v := ?vh2) rfl rfl (Or.inl ⟨by rfl,?hyh2⟩) (by assumption) ?_
   case hyh2 => (intro W0 hSw; (try dsimp only at hSw); obtain ⟨hS1,hS2⟩ := hSw; go_simp <;> with_reducible rfl)
   try simp only [Act.put,Qx,Qy,Qz]
   refine takeK (i := 3) (d := some 79) (v := ?vh3) rfl rfl (Or.inl ⟨by rfl,?hyh3⟩) (by assumption) ?_
   case hyh3 => (intro W0 hSw; (try dsimp only at hSw); obtain ⟨hS1,hS2⟩ := hSw; go_simp <;> with_reducible rfl)
   try simp only [Act.put,Qx,Qy,Qz]
   refine takeK (i := 4) (d := some 80) (v := ?vh4) rfl rfl (Or.inl ⟨by rfl,?hyh4⟩) (by assumption) ?_
   case hyh4 => (intro W0 hSw; (try dsimp only at hSw); obtain ⟨hS1,hS2⟩ := hSw; go_simp <;> with_reducible rfl)
   try simp only [Act.put,Qx,Qy,Qz]
   refine takeK (i := 5) (d := some 81) (v := ?vh5) rfl rfl (Or.inl ⟨by rfl,?hyh5⟩) (by assumption) ?_
   case hyh5 => (intro W0 hSw; (try dsimp only at hSw); obtain ⟨hS1,hS2⟩ := hSw; go_simp <;> with_reducible rfl)
   try simp only [Act.put,Qx,Qy,Qz]
   refine takeK (i := 9) (d := some 85) (v := ?vh9) rfl rfl (Or.inl ⟨by rfl,?hyh9⟩) (by assumption) ?_
   case hyh9 => (intro W0 hSw; (try dsimp only at hSw); obtain ⟨hS1,hS2⟩ := hSw; go_simp <;> with_reducible rfl)
   try simp only [Act.put,Qx,Qy,Qz]
   refine takeK (i := 10) (d := some 86) (v := ?vh10) rfl rfl (Or.inl ⟨by rfl,?hyh10⟩) (by assumption) ?_
   case hyh10 => (intro W0 hSw; (try dsimp only at hSw); obtain ⟨hS1,hS2⟩ := hSw; go_simp <;> with_reducible rfl)
   try simp only [Act.put,Qx,Qy,Qz]
   refine takeK (i := 11) (d := some 87) (v := ?vh11) rfl rfl (Or.inl ⟨by rfl,?hyh11⟩) (by assumption) ?_
   case hyh11 => (intro W0 hSw; (try dsimp only at hSw); obtain ⟨hS1,hS2⟩ := hSw; go_simp <;> with_reducible rfl)
   try simp only [Act.put,Qx,Qy,Qz]
   refine takeK (i := 12) (d := some 88) (v := ?vh12) rfl rfl (Or.inl ⟨by rfl,?hyh12⟩) (by assumption) ?_
   case hyh12 => (intro W0 hSw; (try dsimp only at hSw); obtain ⟨hS1,hS2⟩ := hSw; go_simp <;> with_reducible rfl)
   try simp only [Act.put,Qx,Qy,Qz]
   refine takeK (i := 13) (d := some 89) (v := ?vh13) rfl rfl (Or.inl ⟨by rfl,?hyh13⟩) (by assumption) ?_
   case hyh13 => (intro W0 hSw; (try dsimp only at hSw); obtain ⟨hS1,hS2⟩ := hSw; go_simp <;> with_reducible rfl)
   try simp only [Act.put,Qx,Qy,Qz]
   refine wpAnyH_ready (rs := [6]) (by kernel_rfl) (by simp) ?_
   refine (AllReadyH.cons rfl (fun K hK => ?_) AllReadyH.nil)
   go_simp
   refine Calls.mono (l6Fold_any (X k - ax) V.drew (by omega) (by omega)) ?_
   rintro e wfh6 ⟨rfl,rfl⟩
   rw [HM.out]
   go_wp2_with fail
   refine hK.out _ _ hS0h (fun hHh6 => ?_)
   clear hK K
   try simp only [Act.put,Qx,Qy,Qz]
   refine wpAnyH_ready (rs := [7]) (by kernel_rfl) (by simp) ?_
   refine (AllReadyH.cons rfl (fun K hK => ?_) AllReadyH.nil)
   go_simp
   refine Calls.mono (l6Put_any m V.drew (by omega)) ?_
   rintro e wh7 ⟨uh7,rfl,hRh7,hbh7⟩
   have hSh7 := nowPut hS0h hbh7
   obtain ⟨gh7,ch7,rfl,_,_,_,hsh7⟩ := hRh7.at (putI_ne m)
   have HRh7 : RowB w.heap.size wh7 (.slice (some ⟨gh7,0,none⟩) (putI m).length ch7) (putI m) := hRh7.wide (hS0h).1.size
   have hOV'x : RowB w.heap.size wh7 u3 (L3 ++ (putI n ++ ptsL X Y k)) := hOV'.below hbh7
   go_wp2_with fail
   refine hK.out _ _ hSh7 (fun hHh7 => ?_)
   clear hK K
   try simp only [Act.put,Qx,Qy,Qz]
   refine wpAnyH_ready (rs := [8]) (by kernel_rfl) (by simp) ?_
   refine (AllReadyH.cons rfl (fun K hK => ?_) AllReadyH.nil)
   refine stepB rfl (some 84) rfl (.tmp 76) (.tmp 83) rfl w.heap.size u3 (L3 ++ (putI n ++ ptsL X Y k)) rfl hOV'x gh7 (ch7) (putI m) rfl hsh7 (by first | omega | (simp only [List.length_append,labL_len]; omega)) hSh7.1.size ?_
   intro vh8 wh8 hRh8 hbh8 hNh8 hgh8
   have hSh8 := nowApp hSh7 hbh8 hNh8
   refine hK.out _ _ hSh8 (fun hHh8 => ?_)
   clear hK K
   try simp only [Act.put,Qx,Qy,Qz]
   refine wpAnyH_ready (rs := [14]) (by kernel_rfl) (by simp) ?_
   refine (AllReadyH.cons rfl (fun K hK => ?_) AllReadyH.nil)
   go_simp
   refine Calls.mono (l6Fold_any (Y k - ay) wh8 (by omega) (by omega)) ?_
   rintro e wfh14 ⟨rfl,rfl⟩
   rw [HQ.out]
   go_wp2_with fail
   refine hK.out _ _ hSh8 (fun hHh14 => ?_)
   clear hK K
   try simp only [Act.put,Qx,Qy,Qz]
   refine wpAnyH_ready (rs := [15]) (by kernel_rfl) (by simp) ?_
   refine (AllReadyH.cons rfl (fun K hK => ?_) AllReadyH.nil)
   go_simp
   refine Calls.mono (l6Put_any q wh8 (by omega)) ?_
   rintro e wh15 ⟨uh15,rfl,hRh15,hbh15⟩
   have hSh15 := nowPut hSh8 hbh15
   obtain ⟨gh15,ch15,rfl,_,_,_,hsh15⟩ := hRh15.at (putI_ne q)
   have HRh15 : RowB w.heap.size wh15 (.slice (some ⟨gh15,0,none⟩) (putI q).length ch15) (putI q) := hRh15.wide (hSh8).1.size
   have hRh8x : RowB w.heap.size wh15 vh8 ((L3 ++ (putI n ++ ptsL X Y k)) ++ putI m) := hRh8.below hbh15
   go_wp2_with fail
   refine hK.out _ _ hSh15 (fun hHh15 => ?_)
   clear hK K
   try simp only [Act.put,Qx,Qy,Qz]
   refine wpAnyH_ready (rs := [16]) (by kernel_rfl) (by simp) ?_
   refine (AllReadyH.cons rfl (fun K hK => ?_) AllReadyH.nil)
   refine stepB rfl (some 92) rfl (.tmp 84) (.tmp 91) rfl w.heap.size vh8 ((L3 ++ (putI n ++ ptsL X Y k)) ++ putI m) rfl hRh8x gh15 (ch15) (putI q) rfl hsh15 (by first | omega | (simp only [List.length_append,labL_len]; omega)) hSh15.1.size ?_
   intro vh16 wh16 hRh16 hbh16 hNh16 hgh16
   have hSh16 := nowApp hSh15 hbh16 hNh16
   refine hK.out _ _ hSh16 (fun hHh16 => ?_)
   clear hK K
   try simp only [Act.put,Qx,Qy,Qz]
   refine takeK (i := 17) (d := some 3) (v := ?vh17) rfl rfl (Or.inl ⟨by rfl,?hyh17⟩) (by assumption) ?_
   case hyh17 => (intro W0 hSw; (try dsimp only at hSw); obtain ⟨hS1,hS2⟩ := hSw; go_simp <;> with_reducible rfl)
   try simp only [Act.put,Qx,Qy,Qz]
   refine wpAnyH_done (by kernel_rfl) ?_ _
   refine NoPanic.normal ?_
   have HO9 : Hid (RowB w.heap.size wh16 vh16 (L3 ++ (putI n ++ ptsL X Y (k + 1)))) := by
    show RowB _ _ _ _
    rw [HST.out]
    simpa using hRh16
   have HS9 : Hid (Below w.heap.size w wh16 ∧ NB V wh16) := hSh16
   have HA9 : Hid (PtB wh16 r ax ay) := HAV.out.nb hSh16.2
   have HP9 : Hid (PtB wh16 rp (X k) (Y k)) := HPV.out.nb hSh16.2
   obtain ⟨a0,a1,f0,f1⟩ := HA9.out.cells
   obtain ⟨p0,p1,_,_⟩ := HP9.out.cells
   clear x0 x1 y0 y1 wx wy
   go_wp2
   go_roundw
   case rel =>
    refine ⟨k + 1,by omega,by first | rfl | go_num | (simp; done) | omega,?_,?_,?_⟩
    ·exact HO9.out.set2 HA9.out
    ·rw [ahX_succ,ahX_succ]; exact HA9.out.set
    ·exact (HS9.out.1.setCell (p := ⟨r,0,none⟩) hwr _).setCell (p := ⟨r,1,none⟩) hwr _
   case measure => simp [intOf]; omega
  ·have hkn : k = n := by omega
   subst hkn
   have hi' : ¬ (k : Int) < (k : Int) := by omega
   go_wp2
   go_ret
   exact ⟨_,rfl,by rw [HFL.out []]; exact HOr.out,HBr.out⟩
end Go.Proofs.YtfkonhagjahgnaaGreat
