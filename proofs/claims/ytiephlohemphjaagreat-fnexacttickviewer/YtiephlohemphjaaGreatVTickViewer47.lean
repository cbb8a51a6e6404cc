/- Texts. -/
import Derived.Test.YtiephlohemphjaaGreatVTickViewer46
set_option linter.unusedSimpArgs false
set_option linter.unusedVariables false
set_option maxRecDepth 100000
set_option maxHeartbeats 32000000
namespace Go.Proofs.YtiephlohemphjaaGreat
open Go.RowKit
theorem map_ne {w : World} {k : TypeId} {mb n p : Nat} {D : DataW Value} {v : Value} (h : w.ownsMap Tryz.prog k RV mb n D) (hc : w.cell? ⟨p,0,none⟩ = some v) : mb ≠ p := fun e => by
 subst e
 obtain ⟨es,clock,hb,_⟩ := h
 simp [World.cell?,hb] at hc
theorem ShM.but {w w' : World} {sp mb : Nat} {s t : Int} {L : List Ag} (h : ShM w sp s t mb L) (h1 : w'.heap[sp]? = w.heap[sp]?) (h2 : w'.heap[mb]? = w.heap[mb]?) : ShM w' sp s t mb L := by
 obtain ⟨⟨a0,a1,a2⟩,hT,D,⟨es,clock,hb,F,hs,hD⟩,hR⟩ := h
 exact ⟨⟨(World.cell?_of_block (a := ⟨sp,0,none⟩) h1).trans a0,(World.cell?_of_block (a := ⟨sp,1,none⟩) h1).trans a1,(World.cell?_of_block (a := ⟨sp,2,none⟩) h1).trans a2⟩,there_heap hT h1,D,⟨es,clock,h2.trans hb,F,hs,hD⟩,hR⟩
theorem Blk.but {w w' : World} {q : Nat} {l : List Value} (h : Blk w q l) (he : w'.heap[q]? = w.heap[q]?) : Blk w' q l := fun i u hi => ⟨(World.cell?_of_block (a := ⟨q,i,none⟩) he).trans (h i u hi).1,(World.frozen?_of_block (a := ⟨q,i,none⟩) he).trans (h i u hi).2⟩
def LkT (w : World) (T B p : Nat) (z x y wd ht now s t : Int) (L : List Ag) (rv : Value) (bad : Int) (sv : Value) : Prop :=
 ∃ sp mb,(B ≤ p ∧ p < T) ∧ (B ≤ sp ∧ sp < T) ∧ (B ≤ mb ∧ mb < T) ∧ T ≤ w.heap.size ∧ Blk w p (lkL z x y wd ht now (.pointer (some ⟨sp,0,none⟩)) rv bad sv) ∧ ShM w sp s t mb L ∧ sp ≠ p ∧ mb ≠ p
theorem LkT.below {w w' : World} {T B p : Nat} {z x y wd ht now s t : Int} {L : List Ag} {rv : Value} {bad : Int} {sv : Value} (h : LkT w T B p z x y wd ht now s t L rv bad sv) (hb : Below T w w') : LkT w' T B p z x y wd ht now s t L rv bad sv := by
 obtain ⟨sp,mb,h1,h2,h3,h4,h5,h6,h7⟩ := h
 exact ⟨sp,mb,h1,h2,h3,Nat.le_trans h4 hb.size,h5.but (hb.block p h1.2),h6.but (hb.block sp h2.2) (hb.block mb h3.2),h7⟩
theorem LkA.t {w : World} {B p : Nat} {z x y wd ht now s : Int} {n : Nat} {A : Nat → Kp} {ra : Option Addr} {rn rc : Nat} {bad : Int} (h : LkA w B p z x y wd ht now s n A ra rn rc bad) (h0 : ∀ j,j < n → kC A j = 0) : LkT w w.heap.size B p z x y wd ht now s (n : Int) (agL A n) (.slice ra rn rc) bad (.slice none 0 0) := by
 obtain ⟨hB,sp,hV,hK,hne⟩ := h
 obtain ⟨mb,D,h1,h2,h3,h4,h5,h6⟩ := (hK.shf h0)
 have hm : mb ≠ p := map_ne h5 (hV.cell 0 rfl)
 exact ⟨sp,mb,⟨hB,hV.lt⟩,⟨h1,World.block_lt_of_cell? _ _ h3.1⟩,⟨h2,h5.lt⟩,Nat.le_refl _,hV,⟨h3,h4,D,h5,h6⟩,hne,hm⟩
def vaZ (c : Int) : Va := ⟨c,false,0,⟨fun _ => 0,fun _ => 0,fun _ => 0⟩,0,0,0,0,0,0,0,0,fun _ => ⟨0,0,0,none,0,0,fun _ => ⟨0,0,0,0,none,0,0,fun _ => 0,fun _ => 0,⟨#[]⟩,0⟩,none,0,0,fun _ => 0⟩,0,fun _ => ⟨0,0,0,0,0⟩,0⟩
def vmZ : Vm := ⟨none,0,none,0,fun _ => ⟨0,0,0,none,0,0,fun _ => ⟨0,0,0,0,none,0,0,fun _ => 0,fun _ => 0,⟨#[]⟩,0⟩,none,0,0,fun _ => 0⟩,none,0⟩
theorem OwVa.zero (lo hi : Nat) (w : World) (c : Int) (h1 : lo ≤ hi) (h2 : hi ≤ w.heap.size) : OwVa lo hi w (vaZ c) vmZ := ⟨lo,lo,Nat.le_refl _,Nat.le_refl _,h1,h2, .inl rfl, .inl rfl, .inl rfl, .inl rfl⟩
theorem IsVa.zero (w : World) (c : Int) : IsVa w (vaZ c) vmZ := ⟨.inl rfl, .inl rfl, .inl rfl⟩
theorem SmVa.zero (c : Int) : SmVa (vaZ c) := ⟨Nat.zero_le _,Nat.zero_le _,⟨Nat.zero_le _,fun i hi => absurd hi (Nat.not_lt_zero _)⟩,Nat.zero_le _⟩
theorem OwVa.ofK {lo hi : Nat} {w : World} {c : Int} {tk : Bool} {m : Nat} {R : Rfs} {z x y wd ht now s : Int} {n : Nat} {K K' : Nat → Kp} {rn : Nat} {E : Nat → Req} {bad : Int} {u : Vm} (h : OwVa lo hi w ⟨c,tk,m,R,z,x,y,wd,ht,now,s,n,K,rn,E,bad⟩ u) (hs : ∀ i,i < n → (K i).z = (K' i).z ∧ (K i).x = (K' i).x ∧ (K i).y = (K' i).y ∧ (K i).fn = (K' i).fn ∧ (K i).m = (K' i).m ∧ (K i).I = (K' i).I ∧ ∀ j,j < (K i).fn → ((K i).F j).same ((K' i).F j)) : OwVa lo hi w ⟨c,tk,m,R,z,x,y,wd,ht,now,s,n,K',rn,E,bad⟩ u := by
 obtain ⟨l,q,h1,h2,h3,h4,h5,h6,h8,h7⟩ := h
 exact ⟨l,q,h1,h2,h3,h4,h5,h6.of_same hs,h8,h7⟩
theorem OwVa.upper {lo hi hi' : Nat} {w : World} {v : Va} {u : Vm} (h : OwVa lo hi w v u) (h1 : hi ≤ hi') (h2 : hi' ≤ w.heap.size) : OwVa lo hi' w v u := by
 obtain ⟨l,q,a1,a2,a3,a4,a5,a6,a8,a7⟩ := h
 exact ⟨l,q,a1,a2,by omega,h2,a5,a6,a8,a7.wide (Nat.le_refl _) h1⟩
theorem WsAt.but {w w' : World} {b off n : Nat} {E : Nat → Req} (h : WsAt w b off n E) (he : w'.heap[b]? = w.heap[b]?) : WsAt w' b off n E := fun i hi => by
 obtain ⟨h0,h1,h2,h3,h4⟩ := h i hi
 exact ⟨(World.cell?_of_block (a := ⟨b,_,none⟩) he).trans h0,(World.cell?_of_block (a := ⟨b,_,none⟩) he).trans h1,(World.cell?_of_block (a := ⟨b,_,none⟩) he).trans h2,(World.cell?_of_block (a := ⟨b,_,none⟩) he).trans h3,(World.cell?_of_block (a := ⟨b,_,none⟩) he).trans h4⟩
theorem LkT.sent {w w' : World} {T B p : Nat} {z x y wd ht now s t : Int} {L : List Ag} {rv rv' : Value} {bad : Int} {sv sv' pv : Value} (h : LkT w T B p z x y wd ht now s t L rv bad sv) (hob : ∀ g,sv.ownBlock = some g → T ≤ g) (hBu : But p sv.ownBlock w w') (hsz : w.heap.size ≤ w'.heap.size)
  (hp : w.cell? ⟨p,6,none⟩ = some pv) (hV : Blk w' p (lkL z x y wd ht now pv rv' bad sv')) : LkT w' T B p z x y wd ht now s t L rv' bad sv' := by
 obtain ⟨sp,mb,h1,h2,h3,h4,h5,h6,h7,h8⟩ := h
 have e : pv = .pointer (some ⟨sp,0,none⟩) := by
  have := h5.cell 6 rfl
  rw [hp] at this
  injection this
 subst e
 exact ⟨sp,mb,h1,h2,h3,Nat.le_trans h4 hsz,hV,h6.but (hBu sp (by omega) h7 (fun e => by have := hob sp e.symm; omega)) (hBu mb (by omega) h8 (fun e => by have := hob mb e.symm; omega)),h7,h8⟩
theorem LkT.set5 {w : World} {T B p : Nat} {z x y wd ht now now' s t : Int} {L : List Ag} {rv : Value} {bad : Int} {sv : Value} (h : LkT w T B p z x y wd ht now s t L rv bad sv) : LkT (w.setCell ⟨p,5,none⟩ (.int .i64 now')) T B p z x y wd ht now' s t L rv bad sv := by
 obtain ⟨sp,mb,h1,h2,h3,h4,h5,h6,h7,h8⟩ := h
 exact ⟨sp,mb,h1,h2,h3,by simpa using h4,h5.set 5 _,h6.but (Below.heap_setCell w ⟨p,5,none⟩ _ sp (fun e => h7 (by simpa using e))) (Below.heap_setCell w ⟨p,5,none⟩ _ mb (fun e => h8 (by simpa using e))),h7,h8⟩
theorem resTold {T : Array Value} {Wf : World} {r : Nat} {v : Va} {u : Vm} (hT : T[2]?.getD undef = .pointer (some ⟨r,0,none⟩)) (h : Blk Wf r (vaL v u)) :
  (results Tryz.f39 T).run Tryz.prog Wf = .ok (vaV v u) Wf := by
 have h0 := h.cell 0 rfl
 have h1 := h.cell 1 rfl
 have h2 := h.cell 2 rfl
 have h3 := h.cell 3 rfl
 have h4 := h.cell 4 rfl
 have h5 := h.cell 5 rfl
 have h6 := h.cell 6 rfl
 have h7 := h.cell 7 rfl
 have h8 := h.cell 8 rfl
 have h9 := h.cell 9 rfl
 have h10 := h.cell 10 rfl
 have h11 := h.cell 11 rfl
 have h12 := h.cell 12 rfl
 simp [results,Tryz.results39,go_sem,hT,h0,h1,h2,h3,h4,h5,h6,h7,h8,h9,h10,h11,h12]
theorem told_any (T B p : Nat) (z x y wd ht now s t : Int) (L : List Ag) (KL : Nat → Kp) (ra : Option Addr) (rn rc : Nat) (E : Nat → Req) (bad : Int) (sv : Value) (sl : List Req) (w : World)
  (hV : LkT w T B p z x y wd ht now s t L (.slice ra rn rc) bad sv) (hs : RowS T w sv sl) (hr : IsWs w ra rn E) (hra : (∃ ad,ra = some ad) ∨ ra = none ∧ rc = 0) (hrn : rn ≤ 1000) (hL : L.length ≤ 100) (hK : ∀ i a,L[i]? = some a → ∃ t,a = agK (KL i) t) (hsrc : ∀ i,i < L.length → SrcK w (KL i)) :
  Calls Tryz.prog 39 #[.pointer (some ⟨p,0,none⟩)] w fun e w' => ∃ u,e = .returned (vaV ⟨0,false,sl.length,rfsOf sl,z,x,y,wd,ht,now,s,L.length,KL,rn,E,bad⟩ u) ∧ OwVa T w'.heap.size w' ⟨0,false,sl.length,rfsOf sl,z,x,y,wd,ht,now,s,L.length,KL,rn,E,bad⟩ u ∧ Below w.heap.size w w' := by
 obtain ⟨i0,hi,hz0,hz1,hz2⟩ := info_parts info_req
 obtain ⟨sp,mb,⟨hBp,hpT⟩,⟨hBs,hsT⟩,⟨hBm,hmT⟩,hTw,hV,hM,hne1,hne2⟩ := hV
 obtain ⟨sa,sc,hsv⟩ : ∃ a c,sv = .slice a sl.length c := by
  rcases hs.slice' with ⟨e1,e2⟩ | ⟨g,c,e,_⟩
  ·exact ⟨none,0,by rw [e1,e2]; rfl⟩
  ·exact ⟨_,_,e⟩
 subst hsv
 have HS : Hid (OwT T w.heap.size w sa sl.length (rfsOf sl)) := hs.own.ow
 have HR : Hid (IsWs w ra rn E) := hr
 have HRA : Hid ((∃ ad,ra = some ad) ∨ ra = none ∧ rc = 0) := hra
 have hpl : p < w.heap.size := hV.lt
 have HVr : Hid (∀ W',Below w.heap.size w W' → Blk W' p (lkL z x y wd ht now (.pointer (some ⟨sp,0,none⟩)) (.slice ra rn rc) bad (.slice sa sl.length sc))) := fun W' h => hV.below hpl h
 have HCa : Hid (∀ W',Below w.heap.size w W' → Calls Tryz.prog 79 #[.pointer (some ⟨sp,0,none⟩)] W' fun e w' => ∃ a c R,e = .returned (caV s (.slice a L.length c)) ∧ CaNew w' W'.heap.size a L.length KL R ∧ Below W'.heap.size W' w') := fun W' h =>
  shelfCache_any B sp s t L KL W' ((hM.f hBs hBm).below h) hL hK (fun i hi => (hsrc i hi).below h)
 have HRw : Hid (∀ W',Below w.heap.size w W' → ∀ ad q u,ra = some ad → (cellsW (listW rn E))[q]? = some u → W'.cell? (ad.add q) = some u) := fun W' h ad q u e hq => by
  rcases hr.below h with h0 | ⟨b,off,e',hbl,hpt⟩
  ·subst h0; simp [listW,cellsW] at hq
  ·rw [e] at e'; injection e' with e'; subst e'
   have h1 := ws_cells hpt q u hq
   by_cases hq0 : q = 0
   ·subst hq0; simpa [Addr.add] using h1
   ·simpa [Addr.add,hq0] using h1
 clear hV hM hr hs hra hsrc hK
 go_enter Tryz.func39,Tryz.ntmps39
 go_wp2_with fail
 generalize hW : (w.alloc _ : World) = W
 have HB0 : Hid (Below w.heap.size w W) := by show Below _ _ _; subst hW; exact Qb
 have HRs : Hid (Blk W w.heap.size [.int .i64 0, .bool false, .slice none 0 0, .int .i64 0, .int .i64 0, .int .i64 0, .int .i64 0, .int .i64 0, .int .i64 0, .int .i64 0, .slice none 0 0, .slice none 0 0, .int .i64 0]) := by show Blk _ _ _; subst hW; exact Blk.new _ _ _
 have hWs : W.heap.size = w.heap.size + 1 := by subst hW; simp
 have HWs : Hid (W.heap.size = w.heap.size + 1) := hWs
 clear hW hWs
 have ce0 : ∀ W',Below w.heap.size w W' → W'.cell? ⟨p,0,none⟩ = _ := fun W' h => (HVr.out W' h).cell 0 rfl
 have ce1 : ∀ W',Below w.heap.size w W' → W'.cell? ⟨p,1,none⟩ = _ := fun W' h => (HVr.out W' h).cell 1 rfl
 have ce2 : ∀ W',Below w.heap.size w W' → W'.cell? ⟨p,2,none⟩ = _ := fun W' h => (HVr.out W' h).cell 2 rfl
 have ce3 : ∀ W',Below w.heap.size w W' → W'.cell? ⟨p,3,none⟩ = _ := fun W' h => (HVr.out W' h).cell 3 rfl
 have ce4 : ∀ W',Below w.heap.size w W' → W'.cell? ⟨p,4,none⟩ = _ := fun W' h => (HVr.out W' h).cell 4 rfl
 have ce5 : ∀ W',Below w.heap.size w W' → W'.cell? ⟨p,5,none⟩ = _ := fun W' h => (HVr.out W' h).cell 5 rfl
 have ce6 : ∀ W',Below w.heap.size w W' → W'.cell? ⟨p,6,none⟩ = _ := fun W' h => (HVr.out W' h).cell 6 rfl
 have ce7 : ∀ W',Below w.heap.size w W' → W'.cell? ⟨p,7,none⟩ = _ := fun W' h => (HVr.out W' h).cell 7 rfl
 have ce8 : ∀ W',Below w.heap.size w W' → W'.cell? ⟨p,8,none⟩ = _ := fun W' h => (HVr.out W' h).cell 8 rfl
 have ce9 : ∀ W',Below w.heap.size w W' → W'.cell? ⟨p,9,none⟩ = _ := fun W' h => (HVr.out W' h).cell 9 rfl
 refine wp_region_noPanic ?_
 refine wp_region_held_drew (S := fun W' => Below w.heap.size w W') (by kernel_rfl) (by have := HB0.out; exact Qb) (fun hHeld => ?_)
 have hX0 : Below w.heap.size w W.drew := hHeld
 refine takeK (i := 0) (d := some 3) (v := ?vt0) rfl rfl (Or.inl ⟨by rfl,?hyt0⟩) (by assumption) ?_
 case hyt0 => (intro w hSw; (try dsimp only at hSw); go_simp <;> with_reducible rfl)
 try simp only [Act.put,Qx,Qy,Qz]
 refine takeK (i := 1) (d := some 4) (v := ?vt1) rfl rfl (Or.inl ⟨by rfl,?hyt1⟩) (by assumption) ?_
 case hyt1 => (intro w hSw; (try dsimp only at hSw); go_simp <;> with_reducible rfl)
 try simp only [Act.put,Qx,Qy,Qz]
 refine takeK (i := 2) (d := some 5) (v := ?vt2) rfl rfl (Or.inl ⟨by rfl,?hyt2⟩) (by assumption) ?_
 case hyt2 => (intro w hSw; (try dsimp only at hSw); go_simp <;> with_reducible rfl)
 try simp only [Act.put,Qx,Qy,Qz]
 refine takeK (i := 3) (d := some 6) (v := ?vt3) rfl rfl (Or.inl ⟨by rfl,?hyt3⟩) (by assumption) ?_
 case hyt3 => (intro w hSw; (try dsimp only at hSw); go_simp <;> with_reducible rfl)
 try simp only [Act.put,Qx,Qy,Qz]
 refine takeK (i := 4) (d := some 7) (v := ?vt4) rfl rfl (Or.inl ⟨by rfl,?hyt4⟩) (by assumption) ?_
 case hyt4 => (intro w hSw; (try dsimp only at hSw); go_simp <;> with_reducible rfl)
 try simp only [Act.put,Qx,Qy,Qz]
 refine takeK (i := 5) (d := some 8) (v := ?vt5) rfl rfl (Or.inl ⟨by rfl,?hyt5⟩) (by assumption) ?_
 case hyt5 => (intro w hSw; (try dsimp only at hSw); go_simp <;> with_reducible rfl)
 try simp only [Act.put,Qx,Qy,Qz]
 refine takeK (i := 6) (d := some 9) (v := ?vt6) rfl rfl (Or.inl ⟨by rfl,?hyt6⟩) (by assumption) ?_
 case hyt6 => (intro w hSw; (try dsimp only at hSw); go_simp <;> with_reducible rfl)
 try simp only [Act.put,Qx,Qy,Qz]
 refine takeK (i := 7) (d := some 10) (v := ?vt7) rfl rfl (Or.inl ⟨by rfl,?hyt7⟩) (by assumption) ?_
 case hyt7 => (intro w hSw; (try dsimp only at hSw); go_simp <;> with_reducible rfl)
 try simp only [Act.put,Qx,Qy,Qz]
 refine takeK (i := 8) (d := some 11) (v := ?vt8) rfl rfl (Or.inl ⟨by rfl,?hyt8⟩) (by assumption) ?_
 case hyt8 => (intro w hSw; (try dsimp only at hSw); go_simp <;> with_reducible rfl)
 try simp only [Act.put,Qx,Qy,Qz]
 refine takeK (i := 9) (d := some 12) (v := ?vt9) rfl rfl (Or.inl ⟨by rfl,?hyt9⟩) (by assumption) ?_
 case hyt9 => (intro w hSw; (try dsimp only at hSw); go_simp <;> with_reducible rfl)
 try simp only [Act.put,Qx,Qy,Qz]
 refine takeK (i := 10) (d := some 13) (v := ?vt10) rfl rfl (Or.inl ⟨by rfl,?hyt10⟩) (by assumption) ?_
 case hyt10 => (intro w hSw; (try dsimp only at hSw); go_simp <;> with_reducible rfl)
 try simp only [Act.put,Qx,Qy,Qz]
 refine takeK (i := 11) (d := some 14) (v := ?vt11) rfl rfl (Or.inl ⟨by rfl,?hyt11⟩) (by assumption) ?_
 case hyt11 => (intro w hSw; (try dsimp only at hSw); go_simp <;> with_reducible rfl)
 try simp only [Act.put,Qx,Qy,Qz]
 refine takeK (i := 12) (d := some 15) (v := ?vt12) rfl rfl (Or.inl ⟨by rfl,?hyt12⟩) (by assumption) ?_
 case hyt12 => (intro w hSw; (try dsimp only at hSw); go_simp <;> with_reducible rfl)
 try simp only [Act.put,Qx,Qy,Qz]
 refine takeK (i := 13) (d := some 16) (v := ?vt13) rfl rfl (Or.inl ⟨by rfl,?hyt13⟩) (by assumption) ?_
 case hyt13 => (intro w hSw; (try dsimp only at hSw); go_simp <;> with_reducible rfl)
 try simp only [Act.put,Qx,Qy,Qz]
 refine takeK (i := 14) (d := some 17) (v := ?vt14) rfl rfl (Or.inl ⟨by rfl,?hyt14⟩) (by assumption) ?_
 case hyt14 => (intro w hSw; (try dsimp only at hSw); go_simp <;> with_reducible rfl)
 try simp only [Act.put,Qx,Qy,Qz]
 refine takeK (i := 15) (d := some 18) (v := ?vt15) rfl rfl (Or.inl ⟨by rfl,?hyt15⟩) (by assumption) ?_
 case hyt15 => (intro w hSw; (try dsimp only at hSw); go_simp <;> with_reducible rfl)
 try simp only [Act.put,Qx,Qy,Qz]
 refine takeK (i := 17) (d := some 20) (v := ?vt17) rfl rfl (Or.inl ⟨by rfl,?hyt17⟩) (by assumption) ?_
 case hyt17 => (intro w hSw; (try dsimp only at hSw); go_simp <;> with_reducible rfl)
 try simp only [Act.put,Qx,Qy,Qz]
 refine takeK (i := 18) (d := some 21) (v := ?vt18) rfl rfl (Or.inl ⟨by rfl,?hyt18⟩) (by assumption) ?_
 case hyt18 => (intro w hSw; (try dsimp only at hSw); go_simp <;> with_reducible rfl)
 try simp only [Act.put,Qx,Qy,Qz]
 refine takeK (i := 19) (d := some 22) (v := ?vt19) rfl rfl (Or.inl ⟨by rfl,?hyt19⟩) (by assumption) ?_
 case hyt19 => (intro w hSw; (try dsimp only at hSw); go_simp <;> with_reducible rfl)
 try simp only [Act.put,Qx,Qy,Qz]
 refine takeK (i := 20) (d := some 23) (v := ?vt20) rfl rfl (Or.inl ⟨by rfl,?hyt20⟩) (by assumption) ?_
 case hyt20 => (intro w hSw; (try dsimp only at hSw); go_simp <;> with_reducible rfl)
 try simp only [Act.put,Qx,Qy,Qz]
 refine takeK (i := 22) (d := some 25) (v := ?vt22) rfl rfl (Or.inl ⟨by rfl,?hyt22⟩) (by assumption) ?_
 case hyt22 => (intro w hSw; (try dsimp only at hSw); go_simp <;> with_reducible rfl)
 try simp only [Act.put,Qx,Qy,Qz]
 refine takeK (i := 23) (d := some 26) (v := ?vt23) rfl rfl (Or.inl ⟨by rfl,?hyt23⟩) (by assumption) ?_
 case hyt23 => (intro w hSw; (try dsimp only at hSw); go_simp <;> with_reducible rfl)
 try simp only [Act.put,Qx,Qy,Qz]
 refine takeK (i := 24) (d := some 27) (v := ?vt24) rfl rfl (Or.inl ⟨by rfl,?hyt24⟩) (by assumption) ?_
 case hyt24 => (intro w hSw; (try dsimp only at hSw); go_simp <;> with_reducible rfl)
 try simp only [Act.put,Qx,Qy,Qz]
 refine takeK (i := 25) (d := some 28) (v := ?vt25) rfl rfl (Or.inl ⟨by rfl,?hyt25⟩) (by assumption) ?_
 case hyt25 => (intro w hSw; (try dsimp only at hSw); go_simp <;> with_reducible rfl)
 try simp only [Act.put,Qx,Qy,Qz]
 have hb0 : Below W.heap.size W W.drew := Below.drew (Below.refl _ _)
 generalize W.drew = wk0 at *
 refine wpAnyH_ready (rs := [16]) (by kernel_rfl) (by simp) ?_
 refine (AllReadyH.cons rfl (fun K hK => ?_) AllReadyH.nil)
 rw [if_pos (by rfl)]
 go_simp
 refine Calls.mono (HCa.out _ hX0) ?_
 rintro e wk1 ⟨a2,c2,R2,rfl,hN,hb1⟩
 have hX1 : Below w.heap.size w wk1 := bl_then hX0 hb1
 have hk0 : W.heap.size ≤ wk0.heap.size := hb0.size
 have hN1 : CaNew wk1 W.heap.size a2 L.length KL R2 := hN.imp id fun ⟨g,M,e,hg,h⟩ => ⟨g,M,e,by omega,h⟩
 have HN : Hid (CaNew wk1 W.heap.size a2 L.length KL R2 ∧ CrW wk1 W.heap.size wk1.heap.size a2 L.length R2) := ⟨hN1,hN1.crw⟩
 have HR1 : Hid (Blk wk1 w.heap.size [.int .i64 0, .bool false, .slice none 0 0, .int .i64 0, .int .i64 0, .int .i64 0, .int .i64 0, .int .i64 0, .int .i64 0, .int .i64 0, .slice none 0 0, .slice none 0 0, .int .i64 0]) := HRs.out.below (by rw [HWs.out]; omega) (bl_then hb0 hb1)
 have HS1 : Hid (OwT T w.heap.size wk1 sa sl.length (rfsOf sl)) := HS.out.mid (MidB.of_below (lo := 0) (hi := 0) hX1) (.inl (Nat.zero_le _))
 have hk1 : W.heap.size ≤ wk1.heap.size := Nat.le_trans hk0 hb1.size
 go_wp2_with fail
 refine hK.out _ _ hX1 (fun hHeld => ?_)
 clear hK K hN hN1 hb1 hb0 HCa HS
 try simp only [Act.put,Qx,Qy,Qz]
 have key : ∀ (a3 : Option Addr) (c3 : Nat) (w3 : World),Below wk1.heap.size wk1 w3 → OwR wk1.heap.size w3.heap.size w3 a3 rn E → Below w.heap.size w w3 → ∃ wF,wF = ((((((((((((w3.setCell ⟨w.heap.size,0,none⟩ (.int .i64 0)).setCell ⟨w.heap.size,1,none⟩ (.bool false)).setCell ⟨w.heap.size,2,none⟩ (.slice sa sl.length sc)).setCell ⟨w.heap.size,3,none⟩ (.int .i64 z)).setCell ⟨w.heap.size,4,none⟩ (.int .i64 x)).setCell ⟨w.heap.size,5,none⟩ (.int .i64 y)).setCell ⟨w.heap.size,6,none⟩ (.int .i64 wd)).setCell ⟨w.heap.size,7,none⟩ (.int .i64 ht)).setCell ⟨w.heap.size,8,none⟩ (.int .i64 now)).setCell ⟨w.heap.size,9,none⟩ (.int .i64 s)).setCell ⟨w.heap.size,10,none⟩ (.slice a2 L.length c2)).setCell ⟨w.heap.size,11,none⟩ (.slice a3 rn c3)).setCell ⟨w.heap.size,12,none⟩ (.int .i64 bad) ∧ Blk wF w.heap.size (vaL ⟨0,false,sl.length,rfsOf sl,z,x,y,wd,ht,now,s,L.length,KL,rn,E,bad⟩ ⟨sa,sc,a2,c2,R2,a3,c3⟩) ∧ OwVa T wF.heap.size wF ⟨0,false,sl.length,rfsOf sl,z,x,y,wd,ht,now,s,L.length,KL,rn,E,bad⟩ ⟨sa,sc,a2,c2,R2,a3,c3⟩ ∧ Below w.heap.size w wF := fun a3 c3 w3 hb3 hO3 hX3 => by
  have hR3 := HR1.out.below HR1.out.lt hb3
  have hMM : MidB w.heap.size (w.heap.size + 1) w3 (((((((((((((w3.setCell ⟨w.heap.size,0,none⟩ (.int .i64 0)).setCell ⟨w.heap.size,1,none⟩ (.bool false)).setCell ⟨w.heap.size,2,none⟩ (.slice sa sl.length sc)).setCell ⟨w.heap.size,3,none⟩ (.int .i64 z)).setCell ⟨w.heap.size,4,none⟩ (.int .i64 x)).setCell ⟨w.heap.size,5,none⟩ (.int .i64 y)).setCell ⟨w.heap.size,6,none⟩ (.int .i64 wd)).setCell ⟨w.heap.size,7,none⟩ (.int .i64 ht)).setCell ⟨w.heap.size,8,none⟩ (.int .i64 now)).setCell ⟨w.heap.size,9,none⟩ (.int .i64 s)).setCell ⟨w.heap.size,10,none⟩ (.slice a2 L.length c2)).setCell ⟨w.heap.size,11,none⟩ (.slice a3 rn c3)).setCell ⟨w.heap.size,12,none⟩ (.int .i64 bad)) := ((((((((((((((MidB.refl _ _ _).set (Nat.le_refl _) (Nat.lt_succ_self _) _ _).set (Nat.le_refl _) (Nat.lt_succ_self _) _ _).set (Nat.le_refl _) (Nat.lt_succ_self _) _ _).set (Nat.le_refl _) (Nat.lt_succ_self _) _ _).set (Nat.le_refl _) (Nat.lt_succ_self _) _ _).set (Nat.le_refl _) (Nat.lt_succ_self _) _ _).set (Nat.le_refl _) (Nat.lt_succ_self _) _ _).set (Nat.le_refl _) (Nat.lt_succ_self _) _ _).set (Nat.le_refl _) (Nat.lt_succ_self _) _ _).set (Nat.le_refl _) (Nat.lt_succ_self _) _ _).set (Nat.le_refl _) (Nat.lt_succ_self _) _ _).set (Nat.le_refl _) (Nat.lt_succ_self _) _ _).set (Nat.le_refl _) (Nat.lt_succ_self _) _ _)
  refine ⟨_,rfl,((((((((((((hR3.set 0 _).set 1 _).set 2 _).set 3 _).set 4 _).set 5 _).set 6 _).set 7 _).set 8 _).set 9 _).set 10 _).set 11 _).set 12 _,?_,hX3.trans (hMM.below hX3.size)⟩
  have hM0 : MidB 0 0 wk1 w3 := MidB.of_below hb3
  have hs3 := hb3.size
  have hw1 := HWs.out
  refine ⟨W.heap.size,wk1.heap.size,by omega,hk1,Nat.le_trans hs3 hMM.size,Nat.le_refl _,((HS1.out.mid hM0 (.inl (Nat.zero_le _))).mid hMM (.inr (Nat.le_refl _))).wide (Nat.le_refl _) (by omega),(HN.out.1.below hb3).mid hMM (by omega),(HN.out.2.mid hM0 (Nat.zero_le _)).mid hMM (by omega),(hO3.mid hMM (.inl (by omega))).wide (Nat.le_refl _) hMM.size⟩
 have KEY := (show Hid _ from key)
 rcases HRA.out with ⟨ad,rfl⟩ | ⟨rfl,rfl⟩
 ·refine wpAnyH_ready (rs := [21]) (by kernel_rfl) (by simp) ?_
  refine (AllReadyH.cons rfl (fun K hK => ?_) AllReadyH.nil)
  refine step_append_own rfl (.const (.slice none 0 0)) (.tmp 23) 36 rfl wk1.heap.size 99 i0 (.agg #[.int .i64 0, .int .i64 0, .int .i64 0, .int .i64 0, .int .i64 0]) 5 40 Tryz.underlying36 hi hz0 hz1 hz2 rfl (by decide) (.slice none 0 0) 0 [] rfl (World.ownsRow_nil _ _ _ _) ad rn rc (cellsW (listW rn E)) rfl ?c0 (fun q u hq => HRw.out wk1 hX1 ad q u rfl hq) (cellsW_cell _) ?c3 ?c4 (Nat.le_refl _) ?_
  case c0 => rw [cellsW_len,listW_len]
  case c3 => unfold maxLen; omega
  case c4 => omega
  intro v' w3 hown' hgrow hnil
  clear hnil
  have hrow : RowW wk1.heap.size w3 v' (listW rn E) := by
   show World.ownsRow _ _ _ _ _ _ _
   rw [listW_len]
   simpa using hown'
  have hb3 : Below wk1.heap.size wk1 w3 := ⟨hgrow.os,hgrow.tape,hgrow.output,hgrow.size,fun k hk => hgrow.block k hk (by simp [Value.ownBlock])⟩
  have hown := hrow.own
  rw [listW_len] at hown
  obtain ⟨a3,c3,hv3,_⟩ := id hown
  subst hv3
  have hO3 : OwR wk1.heap.size w3.heap.size w3 a3 rn E := (OwnW.ow hown).imp id fun ⟨b,e,h1,h2,h3,h4⟩ => ⟨b,e,h1,h2,fun i hi => by have := h3 i hi; rw [listW_nw _ _ _ hi] at this; exact this,h4⟩
  have hX3 : Below w.heap.size w w3 := bl_then hX1 hb3
  clear hown' hgrow hrow hown
  show K (Act.put _ (some 24) _) _
  refine hK.out _ _ hX3 (fun hHeld => ?_)
  clear hK K
  try simp only [Act.put,Qx,Qy,Qz]
  refine takeK (i := 26) (d := some 29) (v := ?vuw326) rfl rfl (Or.inl ⟨by rfl,?hyuw326⟩) (by assumption) ?_
  case hyuw326 => (intro w hSw; (try dsimp only at hSw); go_simp <;> with_reducible rfl)
  try simp only [Act.put,Qx,Qy,Qz]
  refine takeK (i := 27) (d := some 30) (v := ?vuw327) rfl rfl (Or.inl ⟨by rfl,?hyuw327⟩) (by assumption) ?_
  case hyuw327 => (intro w hSw; (try dsimp only at hSw); go_simp <;> with_reducible rfl)
  try simp only [Act.put,Qx,Qy,Qz]
  have hR3 := HR1.out.below HR1.out.lt hb3
  have t0 := hR3.cell 0 rfl
  have t1 := hR3.cell 1 rfl
  have t2 := hR3.cell 2 rfl
  have t3 := hR3.cell 3 rfl
  have t4 := hR3.cell 4 rfl
  have t5 := hR3.cell 5 rfl
  have t6 := hR3.cell 6 rfl
  have t7 := hR3.cell 7 rfl
  have t8 := hR3.cell 8 rfl
  have t9 := hR3.cell 9 rfl
  have t10 := hR3.cell 10 rfl
  have t11 := hR3.cell 11 rfl
  have t12 := hR3.cell 12 rfl
  have f0 := hR3.free 0 rfl
  have f1 := hR3.free 1 rfl
  have f2 := hR3.free 2 rfl
  have f3 := hR3.free 3 rfl
  have f4 := hR3.free 4 rfl
  have f5 := hR3.free 5 rfl
  have f6 := hR3.free 6 rfl
  have f7 := hR3.free 7 rfl
  have f8 := hR3.free 8 rfl
  have f9 := hR3.free 9 rfl
  have f10 := hR3.free 10 rfl
  have f11 := hR3.free 11 rfl
  have f12 := hR3.free 12 rfl
  obtain ⟨wF,hwF,hBk,hOw,hXF⟩ := KEY.out a3 c3 w3 hb3 hO3 hX3
  have HBk : Hid (Blk wF w.heap.size (vaL ⟨0,false,sl.length,rfsOf sl,z,x,y,wd,ht,now,s,L.length,KL,rn,E,bad⟩ ⟨sa,sc,a2,c2,R2,a3,c3⟩)) := hBk
  have HOw : Hid (OwVa T wF.heap.size wF ⟨0,false,sl.length,rfsOf sl,z,x,y,wd,ht,now,s,L.length,KL,rn,E,bad⟩ ⟨sa,sc,a2,c2,R2,a3,c3⟩) := hOw
  clear hBk hOw KEY
  refine wpAnyH_ready (rs := [28]) (by kernel_rfl) (by simp) ?_
  refine (AllReadyH.cons rfl (fun K hK => ?_) AllReadyH.nil)
  rw [if_pos (by rfl)]
  go_simp
  rw [← hwF]
  refine hK.out _ _ hXF (fun hHeld => ?_)
  clear hK K hwF hR3
  clear t0 f0
  clear t1 f1
  clear t2 f2
  clear t3 f3
  clear t4 f4
  clear t5 f5
  clear t6 f6
  clear t7 f7
  clear t8 f8
  clear t9 f9
  clear t10 f10
  clear t11 f11
  clear t12 f12
  try simp only [Act.put,Qx,Qy,Qz]
  refine wpAnyH_done (by kernel_rfl) ?_ _
  refine NoPanic.normal ?_
  clear ce0
  clear ce1
  clear ce2
  clear ce3
  clear ce4
  clear ce5
  clear ce6
  clear ce7
  clear ce8
  clear ce9
  go_wp2_with fail
  exact bodyPost_ret (resTold (v := ⟨0,false,sl.length,rfsOf sl,z,x,y,wd,ht,now,s,L.length,KL,rn,E,bad⟩) (u := ⟨sa,sc,a2,c2,R2,a3,c3⟩) rfl HBk.out) rfl ⟨_,rfl,HOw.out,hXF⟩
 ·obtain rfl : rn = 0 := by
   rcases HR.out with h | ⟨b,off,e,_⟩
   ·exact h
   ·cases e
  refine wpAnyH_ready (rs := [21]) (by kernel_rfl) (by simp) ?_
  refine (AllReadyH.cons rfl (fun K hK => ?_) AllReadyH.nil)
  refine step_append_none rfl (.const (.slice none 0 0)) (.tmp 23) 36 rfl wk1.heap.size 99 i0 5 Tryz.underlying36 hi (.slice none 0 0) 0 [] rfl (World.ownsRow_nil _ _ _ _) rfl ?_
  show K (Act.put _ (some 24) _) _
  refine hK.out _ _ hX1 (fun hHeld => ?_)
  clear hK K
  have hb3 : Below wk1.heap.size wk1 wk1 := Below.refl _ _
  have hO3 : OwR wk1.heap.size wk1.heap.size wk1 (none : Option Addr) 0 E := .inl rfl
  try simp only [Act.put,Qx,Qy,Qz]
  refine takeK (i := 26) (d := some 29) (v := ?vuwk126) rfl rfl (Or.inl ⟨by rfl,?hyuwk126⟩) (by assumption) ?_
  case hyuwk126 => (intro w hSw; (try dsimp only at hSw); go_simp <;> with_reducible rfl)
  try simp only [Act.put,Qx,Qy,Qz]
  refine takeK (i := 27) (d := some 30) (v := ?vuwk127) rfl rfl (Or.inl ⟨by rfl,?hyuwk127⟩) (by assumption) ?_
  case hyuwk127 => (intro w hSw; (try dsimp only at hSw); go_simp <;> with_reducible rfl)
  try simp only [Act.put,Qx,Qy,Qz]
  have hR3 := HR1.out.below HR1.out.lt hb3
  have t0 := hR3.cell 0 rfl
  have t1 := hR3.cell 1 rfl
  have t2 := hR3.cell 2 rfl
  have t3 := hR3.cell 3 rfl
  have t4 := hR3.cell 4 rfl
  have t5 := hR3.cell 5 rfl
  have t6 := hR3.cell 6 rfl
  have t7 := hR3.cell 7 rfl
  have t8 := hR3.cell 8 rfl
  have t9 := hR3.cell 9 rfl
  have t10 := hR3.cell 10 rfl
  have t11 := hR3.cell 11 rfl
  have t12 := hR3.cell 12 rfl
  have f0 := hR3.free 0 rfl
  have f1 := hR3.free 1 rfl
  have f2 := hR3.free 2 rfl
  have f3 := hR3.free 3 rfl
  have f4 := hR3.free 4 rfl
  have f5 := hR3.free 5 rfl
  have f6 := hR3.free 6 rfl
  have f7 := hR3.free 7 rfl
  have f8 := hR3.free 8 rfl
  have f9 := hR3.free 9 rfl
  have f10 := hR3.free 10 rfl
  have f11 := hR3.free 11 rfl
  have f12 := hR3.free 12 rfl
  obtain ⟨wF,hwF,hBk,hOw,hXF⟩ := KEY.out none 0 wk1 hb3 hO3 hX1
  have HBk : Hid (Blk wF w.heap.size (vaL ⟨0,false,sl.length,rfsOf sl,z,x,y,wd,ht,now,s,L.length,KL,0,E,bad⟩ ⟨sa,sc,a2,c2,R2,none,0⟩)) := hBk
  have HOw : Hid (OwVa T wF.heap.size wF ⟨0,false,sl.length,rfsOf sl,z,x,y,wd,ht,now,s,L.length,KL,0,E,bad⟩ ⟨sa,sc,a2,c2,R2,none,0⟩) := hOw
  clear hBk hOw KEY
  refine wpAnyH_ready (rs := [28]) (by kernel_rfl) (by simp) ?_
  refine (AllReadyH.cons rfl (fun K hK => ?_) AllReadyH.nil)
  rw [if_pos (by rfl)]
  go_simp
  rw [← hwF]
  refine hK.out _ _ hXF (fun hHeld => ?_)
  clear hK K hwF hR3
  clear t0 f0
  clear t1 f1
  clear t2 f2
  clear t3 f3
  clear t4 f4
  clear t5 f5
  clear t6 f6
  clear t7 f7
  clear t8 f8
  clear t9 f9
  clear t10 f10
  clear t11 f11
  clear t12 f12
  try simp only [Act.put,Qx,Qy,Qz]
  refine wpAnyH_done (by kernel_rfl) ?_ _
  refine NoPanic.normal ?_
  clear ce0
  clear ce1
  clear ce2
  clear ce3
  clear ce4
  clear ce5
  clear ce6
  clear ce7
  clear ce8
  clear ce9
  go_wp2_with fail
  exact bodyPost_ret (resTold (v := ⟨0,false,sl.length,rfsOf sl,z,x,y,wd,ht,now,s,L.length,KL,0,E,bad⟩) (u := ⟨sa,sc,a2,c2,R2,none,0⟩) rfl HBk.out) rfl ⟨_,rfl,HOw.out,hXF⟩
end Go.Proofs.YtiephlohemphjaaGreat
