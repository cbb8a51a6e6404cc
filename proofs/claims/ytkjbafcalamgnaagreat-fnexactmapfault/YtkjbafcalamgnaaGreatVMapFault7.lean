/- Texts. -/
import Derived.Test.YtkjbafcalamgnaaGreatVMapFault5
import Derived.Test.YtkjbafcalamgnaaGreatVMapFault4
set_option linter.unusedSimpArgs false
set_option linter.unusedVariables false
set_option maxRecDepth 100000
set_option maxHeartbeats 32000000
namespace Go.Proofs.YtkjbafcalamgnaaGreat
open Go.RowKit
abbrev kP : Value := .iface 242 (.agg #[])
abbrev kL : Value := .iface 243 (.agg #[])
abbrev kA : Value := .iface 244 (.agg #[])
theorem zBn (w : World) : Calls Tryz.prog 187 #[] w fun e w' => e = .returned (.slice (some ⟨w.heap.size, 0, none⟩) 3 3) ∧ w' = w.alloc (.cells #[kP, kL, kA] 200) := by
 go_enter Tryz.func187, Tryz.ntmps187
 go_wp2
 go_ret
 exact ⟨rfl, rfl⟩
theorem numP (w : World) : (method 458 242 (.agg #[]) "loop.example/g00403/impl.number").run Tryz.prog w = .ok (296, .agg #[]) w := by kernel_rfl
theorem uX (w : World) : Calls Tryz.prog 296 #[.agg #[]] w fun e w' => e = .returned (.int .i64 1) ∧ Bw w w' := by
 go_enter Tryz.func296, Tryz.ntmps296
 go_wp2
 go_ret
 exact ⟨rfl, by (repeat (first|exact Qr _ _|assumption|refine Qd ?_|refine Qa ?_ _|refine Qt ?_|refine Qs ?_ _|refine Qo ?_ ?_ _ _))⟩
theorem numL (w : World) : (method 458 243 (.agg #[]) "loop.example/g00403/impl.number").run Tryz.prog w = .ok (297, .agg #[]) w := by kernel_rfl
theorem zA2 (w : World) : Calls Tryz.prog 297 #[.agg #[]] w fun e w' => e = .returned (.int .i64 2) ∧ Bw w w' := by
 go_enter Tryz.func297, Tryz.ntmps297
 go_wp2
 go_ret
 exact ⟨rfl, by (repeat (first|exact Qr _ _|assumption|refine Qd ?_|refine Qa ?_ _|refine Qt ?_|refine Qs ?_ _|refine Qo ?_ ?_ _ _))⟩
theorem numA (w : World) : (method 458 244 (.agg #[]) "loop.example/g00403/impl.number").run Tryz.prog w = .ok (298, .agg #[]) w := by kernel_rfl
theorem zB0 (w : World) : Calls Tryz.prog 298 #[.agg #[]] w fun e w' => e = .returned (.int .i64 3) ∧ Bw w w' := by
 go_enter Tryz.func298, Tryz.ntmps298
 go_wp2
 go_ret
 exact ⟨rfl, by (repeat (first|exact Qr _ _|assumption|refine Qd ?_|refine Qa ?_ _|refine Qt ?_|refine Qs ?_ _|refine Qo ?_ ?_ _ _))⟩
theorem zNh (w : World) : Calls Tryz.prog 146 #[.int .i64 1] w fun e w' => e = .returned kP ∧ Bw w w' := by
 have h1 := numP
 have h2 := numL
 have h3 := numA
 go_enter Tryz.func146, Tryz.ntmps146
 go_wp2_with fail
 refine (zBn _).mono ?_
 rintro e W ⟨rfl, hW⟩
 have hB : Bw w W := by subst hW; exact Qb
 have c0 : ∀ W', Bw W W' → W'.cell? ⟨w.heap.size, 0, none⟩ = some kP := fun W' h => by
  rw [h.cell (by subst hW; simp)]; subst hW; simp [go_sem]
 have c1 : ∀ W', Bw W W' → W'.cell? ⟨w.heap.size, 1, none⟩ = some kL := fun W' h => by
  rw [h.cell (by subst hW; simp)]; subst hW; simp [go_sem]
 have c2 : ∀ W', Bw W W' → W'.cell? ⟨w.heap.size, 2, none⟩ = some kA := fun W' h => by
  rw [h.cell (by subst hW; simp)]; subst hW; simp [go_sem]
 clear hW
 have HB : Hid (Bw w W) := hB
 clear hB
 have hr : Bw W W := Below.refl _ _
 go_wp2
 refine wp_loop_rounds 4 ?_
 rw [rounds_succ]
 go_wp2_with fail
 refine (uX _).mono ?_
 rintro e w0 ⟨rfl, hb0⟩
 have hB0 : Bw W w0 := by exact Qb
 go_wp2_with fail
 go_ret
 exact ⟨rfl, zA HB.out (by assumption)⟩
theorem zNg (w : World) : Calls Tryz.prog 146 #[.int .i64 2] w fun e w' => e = .returned kL ∧ Bw w w' := by
 have h1 := numP
 have h2 := numL
 have h3 := numA
 go_enter Tryz.func146, Tryz.ntmps146
 go_wp2_with fail
 refine (zBn _).mono ?_
 rintro e W ⟨rfl, hW⟩
 have hB : Bw w W := by subst hW; exact Qb
 have c0 : ∀ W', Bw W W' → W'.cell? ⟨w.heap.size, 0, none⟩ = some kP := fun W' h => by
  rw [h.cell (by subst hW; simp)]; subst hW; simp [go_sem]
 have c1 : ∀ W', Bw W W' → W'.cell? ⟨w.heap.size, 1, none⟩ = some kL := fun W' h => by
  rw [h.cell (by subst hW; simp)]; subst hW; simp [go_sem]
 have c2 : ∀ W', Bw W W' → W'.cell? ⟨w.heap.size, 2, none⟩ = some kA := fun W' h => by
  rw [h.cell (by subst hW; simp)]; subst hW; simp [go_sem]
 clear hW
 have HB : Hid (Bw w W) := hB
 clear hB
 have hr : Bw W W := Below.refl _ _
 go_wp2
 refine wp_loop_rounds 4 ?_
 rw [rounds_succ]
 go_wp2_with fail
 refine (uX _).mono ?_
 rintro e w0 ⟨rfl, hb0⟩
 have hB0 : Bw W w0 := by exact Qb
 go_wp2_with fail
 rw [rounds_succ]
 go_wp2_with fail
 refine (zA2 _).mono ?_
 rintro e w1 ⟨rfl, hb1⟩
 have hB1 : Bw W w1 := by exact Qb
 go_wp2_with fail
 go_ret
 exact ⟨rfl, zA HB.out (by assumption)⟩
theorem zNf (w : World) : Calls Tryz.prog 146 #[.int .i64 3] w fun e w' => e = .returned kA ∧ Bw w w' := by
 have h1 := numP
 have h2 := numL
 have h3 := numA
 go_enter Tryz.func146, Tryz.ntmps146
 go_wp2_with fail
 refine (zBn _).mono ?_
 rintro e W ⟨rfl, hW⟩
 have hB : Bw w W := by subst hW; exact Qb
 have c0 : ∀ W', Bw W W' → W'.cell? ⟨w.heap.size, 0, none⟩ = some kP := fun W' h => by
  rw [h.cell (by subst hW; simp)]; subst hW; simp [go_sem]
 have c1 : ∀ W', Bw W W' → W'.cell? ⟨w.heap.size, 1, none⟩ = some kL := fun W' h => by
  rw [h.cell (by subst hW; simp)]; subst hW; simp [go_sem]
 have c2 : ∀ W', Bw W W' → W'.cell? ⟨w.heap.size, 2, none⟩ = some kA := fun W' h => by
  rw [h.cell (by subst hW; simp)]; subst hW; simp [go_sem]
 clear hW
 have HB : Hid (Bw w W) := hB
 clear hB
 have hr : Bw W W := Below.refl _ _
 go_wp2
 refine wp_loop_rounds 4 ?_
 rw [rounds_succ]
 go_wp2_with fail
 refine (uX _).mono ?_
 rintro e w0 ⟨rfl, hb0⟩
 have hB0 : Bw W w0 := by exact Qb
 go_wp2_with fail
 rw [rounds_succ]
 go_wp2_with fail
 refine (zA2 _).mono ?_
 rintro e w1 ⟨rfl, hb1⟩
 have hB1 : Bw W w1 := by exact Qb
 go_wp2_with fail
 rw [rounds_succ]
 go_wp2_with fail
 refine (zB0 _).mono ?_
 rintro e w2 ⟨rfl, hb2⟩
 have hB2 : Bw W w2 := by exact Qb
 go_wp2_with fail
 go_ret
 exact ⟨rfl, zA HB.out (by assumption)⟩
theorem zLm (ki : Int) (w : World) (k1 : ki ≠ 1) (k2 : ki ≠ 2) (k3 : ki ≠ 3) : Calls Tryz.prog 146 #[.int .i64 ki] w fun e w' => e = .returned .nilIface ∧ Bw w w' := by
 have h1 := numP
 have h2 := numL
 have h3 := numA
 have e1 : ((1 : Int) == ki) = false := by simp; omega
 have e2 : ((2 : Int) == ki) = false := by simp; omega
 have e3 : ((3 : Int) == ki) = false := by simp; omega
 go_enter Tryz.func146, Tryz.ntmps146
 go_wp2_with fail
 refine (zBn _).mono ?_
 rintro e W ⟨rfl, hW⟩
 have hB : Bw w W := by subst hW; exact Qb
 have c0 : ∀ W', Bw W W' → W'.cell? ⟨w.heap.size, 0, none⟩ = some kP := fun W' h => by
  rw [h.cell (by subst hW; simp)]; subst hW; simp [go_sem]
 have c1 : ∀ W', Bw W W' → W'.cell? ⟨w.heap.size, 1, none⟩ = some kL := fun W' h => by
  rw [h.cell (by subst hW; simp)]; subst hW; simp [go_sem]
 have c2 : ∀ W', Bw W W' → W'.cell? ⟨w.heap.size, 2, none⟩ = some kA := fun W' h => by
  rw [h.cell (by subst hW; simp)]; subst hW; simp [go_sem]
 clear hW
 have HB : Hid (Bw w W) := hB
 clear hB
 have hr : Bw W W := Below.refl _ _
 go_wp2
 refine wp_loop_rounds 4 ?_
 rw [rounds_succ]
 go_wp2_with fail
 refine (uX _).mono ?_
 rintro e w0 ⟨rfl, hb0⟩
 have hB0 : Bw W w0 := by exact Qb
 go_wp2_with fail
 rw [rounds_succ]
 go_wp2_with fail
 refine (zA2 _).mono ?_
 rintro e w1 ⟨rfl, hb1⟩
 have hB1 : Bw W w1 := by exact Qb
 go_wp2_with fail
 rw [rounds_succ]
 go_wp2_with fail
 refine (zB0 _).mono ?_
 rintro e w2 ⟨rfl, hb2⟩
 have hB2 : Bw W w2 := by exact Qb
 go_wp2_with fail
 rw [rounds_succ]
 go_wp2_with fail
 go_ret
 exact ⟨rfl, zA HB.out (by assumption)⟩
theorem asPP (w : World) : (Instr.typeAssert kP 200 242 true).run Tryz.prog w = .ok (.tuple #[.agg #[], .bool true]) w := by kernel_rfl
theorem asPL (w : World) : (Instr.typeAssert kP 200 243 true).run Tryz.prog w = .ok (.tuple #[.agg #[], .bool false]) w := by kernel_rfl
theorem asPA (w : World) : (Instr.typeAssert kP 200 244 true).run Tryz.prog w = .ok (.tuple #[.agg #[], .bool false]) w := by kernel_rfl
abbrev wordP : ByteArray := ⟨#[112, 111, 105, 110, 116]⟩
theorem zI3 (w : World) : Calls Tryz.prog 147 #[kP] w fun e w' => e = .returned (.tuple #[.string wordP, .int .i64 1]) ∧ Bw w w' := by
 have h1 := asPP
 have h2 := asPL
 have h3 := asPA
 go_enter Tryz.func147, Tryz.ntmps147
 go_wp2
 go_ret2
 exact ⟨rfl, by (repeat (first|exact Qr _ _|assumption|refine Qd ?_|refine Qa ?_ _|refine Qt ?_|refine Qs ?_ _|refine Qo ?_ ?_ _ _))⟩
theorem vQ (w : World) : Calls Tryz.prog 148 #[kP] w fun e w' => e = .returned (.int .i64 1) ∧ Bw w w' := by
 have h1 := numP
 have h2 := numL
 have h3 := numA
 go_enter Tryz.func148, Tryz.ntmps148
 go_wp2_with (first | (go_at_call 296; refine (uX _).mono ?_; rintro e w' ⟨rfl, hb⟩) | (go_at_call 297; refine (zA2 _).mono ?_; rintro e w' ⟨rfl, hb⟩) | (go_at_call 298; refine (zB0 _).mono ?_; rintro e w' ⟨rfl, hb⟩))
 go_ret
 exact ⟨rfl, by (repeat (first|exact Qr _ _|assumption|refine Qd ?_|refine Qa ?_ _|refine Qt ?_|refine Qs ?_ _|refine Qo ?_ ?_ _ _))⟩
theorem asLP (w : World) : (Instr.typeAssert kL 200 242 true).run Tryz.prog w = .ok (.tuple #[.agg #[], .bool false]) w := by kernel_rfl
theorem asLL (w : World) : (Instr.typeAssert kL 200 243 true).run Tryz.prog w = .ok (.tuple #[.agg #[], .bool true]) w := by kernel_rfl
theorem asLA (w : World) : (Instr.typeAssert kL 200 244 true).run Tryz.prog w = .ok (.tuple #[.agg #[], .bool false]) w := by kernel_rfl
abbrev wordL : ByteArray := ⟨#[108, 105, 110, 101]⟩
theorem zI2 (w : World) : Calls Tryz.prog 147 #[kL] w fun e w' => e = .returned (.tuple #[.string wordL, .int .i64 12]) ∧ Bw w w' := by
 have h1 := asLP
 have h2 := asLL
 have h3 := asLA
 go_enter Tryz.func147, Tryz.ntmps147
 go_wp2
 go_ret2
 exact ⟨rfl, by (repeat (first|exact Qr _ _|assumption|refine Qd ?_|refine Qa ?_ _|refine Qt ?_|refine Qs ?_ _|refine Qo ?_ ?_ _ _))⟩
theorem vP (w : World) : Calls Tryz.prog 148 #[kL] w fun e w' => e = .returned (.int .i64 2) ∧ Bw w w' := by
 have h1 := numP
 have h2 := numL
 have h3 := numA
 go_enter Tryz.func148, Tryz.ntmps148
 go_wp2_with (first | (go_at_call 296; refine (uX _).mono ?_; rintro e w' ⟨rfl, hb⟩) | (go_at_call 297; refine (zA2 _).mono ?_; rintro e w' ⟨rfl, hb⟩) | (go_at_call 298; refine (zB0 _).mono ?_; rintro e w' ⟨rfl, hb⟩))
 go_ret
 exact ⟨rfl, by (repeat (first|exact Qr _ _|assumption|refine Qd ?_|refine Qa ?_ _|refine Qt ?_|refine Qs ?_ _|refine Qo ?_ ?_ _ _))⟩
theorem asAP (w : World) : (Instr.typeAssert kA 200 242 true).run Tryz.prog w = .ok (.tuple #[.agg #[], .bool false]) w := by kernel_rfl
theorem asAL (w : World) : (Instr.typeAssert kA 200 243 true).run Tryz.prog w = .ok (.tuple #[.agg #[], .bool false]) w := by kernel_rfl
theorem asAA (w : World) : (Instr.typeAssert kA 200 244 true).run Tryz.prog w = .ok (.tuple #[.agg #[], .bool true]) w := by kernel_rfl
abbrev wordA : ByteArray := ⟨#[97, 114, 101, 97]⟩
theorem zI1 (w : World) : Calls Tryz.prog 147 #[kA] w fun e w' => e = .returned (.tuple #[.string wordA, .int .i64 12]) ∧ Bw w w' := by
 have h1 := asAP
 have h2 := asAL
 have h3 := asAA
 go_enter Tryz.func147, Tryz.ntmps147
 go_wp2
 go_ret2
 exact ⟨rfl, by (repeat (first|exact Qr _ _|assumption|refine Qd ?_|refine Qa ?_ _|refine Qt ?_|refine Qs ?_ _|refine Qo ?_ ?_ _ _))⟩
theorem vO (w : World) : Calls Tryz.prog 148 #[kA] w fun e w' => e = .returned (.int .i64 3) ∧ Bw w w' := by
 have h1 := numP
 have h2 := numL
 have h3 := numA
 go_enter Tryz.func148, Tryz.ntmps148
 go_wp2_with (first | (go_at_call 296; refine (uX _).mono ?_; rintro e w' ⟨rfl, hb⟩) | (go_at_call 297; refine (zA2 _).mono ?_; rintro e w' ⟨rfl, hb⟩) | (go_at_call 298; refine (zB0 _).mono ?_; rintro e w' ⟨rfl, hb⟩))
 go_ret
 exact ⟨rfl, by (repeat (first|exact Qr _ _|assumption|refine Qd ?_|refine Qa ?_ _|refine Qt ?_|refine Qs ?_ _|refine Qo ?_ ?_ _ _))⟩
theorem yI {w w':World}{p:Addr}{v:Value}(hb:Below w.heap.size w w')(h:w.cell? p=some v):w'.cell? p=some v:=(hb.cell (World.block_lt_of_cell? _ _ h)).trans h
theorem xI {w w':World}{b o s:Nat}{v:Value}(hg:w.grownBy w' (some s))(h:w.cell? ⟨b,o,none⟩=some v)(hs:b≠s):w'.cell? ⟨b,o,none⟩=some v:=hg.cell h (fun e=>hs (by injection e))
theorem zA0 {w w':World}{base size n:Nat}{e:TypeId}{v:Value}{xs:List Value}(h:w.ownsRow base e size v n xs)(hk:∀ g,v.ownBlock=some g→w'.heap[g]?=w.heap[g]?):w'.ownsRow base e size v n xs:=by
 obtain ⟨h1,h2 | ⟨g,cp,cur,hv,hg,hh,hr⟩⟩:=h
 ·exact ⟨h1,.inl h2⟩
 ·refine ⟨h1,.inr ⟨g,cp,cur,hv,hg,?_,hr⟩⟩
  rw [hk g (by rw [hv];rfl)]
  exact hh
theorem Row.no (base:Nat)(w:World):Row base w (.slice none 0 0) []:=World.ownsRow_nil _ _ _ _
theorem Row.at {base:Nat}{w:World}{v:Value}{l:List (Int × Int)}(h:Row base w v l)(hne:0<l.length) :
  ∃ g cap,v=.slice (some ⟨g,0,none⟩) l.length cap∧base≤g∧g<w.heap.size∧l.length≤cap∧zI w g 0 l.length (px l) (py l):=by
 obtain ⟨a,cap,hv,hc,h0 | ⟨b,rfl,hb,hl,hp,ht⟩⟩:=h.own
 ·omega
 ·exact ⟨b,cap,hv,hb,hl,hc,hp⟩
theorem zLq:(Tryz.prog.info? 206).map (fun i=>(i.zero,i.size,i.bytes))=some (some (.agg #[.int .i64 0,.int .i64 0]),2,16):=by kernel_rfl

def yU (X Y:Nat→Int)(n:Nat):List (Int × Int):=(List.range n).map fun i=>(2 * X i,2 * Y i)
theorem xU (X Y:Nat→Int)(n:Nat):(yU X Y n).length=n:=by simp [yU]
theorem zIh (X Y:Nat→Int)(k:Nat):yU X Y (k+1)=yU X Y k ++ [(2 * X k,2 * Y k)]:=by simp [yU,List.range_succ]
theorem dblL_px (X Y:Nat→Int)(n i:Nat)(h:i<n):px (yU X Y n) i=2 * X i∧py (yU X Y n) i=2 * Y i:=by
  simp [px,py,yU,List.getD_eq_getElem?_getD,h]
theorem zEa (b off n cap:Nat)(X Y:Nat→Int)(w:World)(hp:zI w b off n X Y)(hbl:b<w.heap.size)(hn:n≤40)(hin:∀ i,i<n→inW (X i) (Y i)=true) :
    Calls Tryz.prog 211 #[.slice (some ⟨b,off,none⟩) n cap] w fun e w'=>∃ v,e=.returned v∧Row w.heap.size w' v (yU X Y n)∧Bw w w':=by
  obtain ⟨i0,hi,hz0,hz1,hz2⟩:=info_parts zLq
  have HP:Hid (zI w b off n X Y):=hp
  have HIN:Hid (∀ i,i<n→inW (X i) (Y i)=true):=hin
  clear hp hin
  go_enter Tryz.func211,Tryz.ntmps211
  go_wp2_with fail
  generalize hW:(w.alloc _:World)=W
  have hB0:Bw w W:=by subst hW;exact Qb
  have hO0:W.ownsRow w.heap.size 206 2 (.slice (some ⟨w.heap.size,0,none⟩) 0 0) 0 []:=by
    subst hW
    exact World.ownsRow_lit (base:=w.heap.size) w #[] 0 (Nat.le_refl _) (Nat.zero_le _) rfl
  clear hW
  have HB0:Hid (Bw w W):=hB0
  have HO0:Hid (Row w.heap.size W (.slice (some ⟨w.heap.size,0,none⟩) 0 0) []):=hO0
  clear hB0 hO0
  go_loopw [3,4] (fun v i wr=>∃ k:Nat,k≤n∧i=.int .i64 (k:Int)∧Row w.heap.size wr v (yU X Y k)∧Bw w wr) (fun _ i _=>n - (intOf i).toNat)
  case atStart=>exact ⟨0,by omega,rfl,HO0.out,HB0.out⟩
  case round =>
    obtain ⟨k,hk,rfl,hO,hB⟩:=hrel
    by_cases hlt:k<n
    · obtain ⟨hx,hy⟩:=(HP.out.below hB hbl) k hlt
      obtain ⟨⟨x0,x1⟩,y0,y1⟩:=zLr (HIN.out k hlt)
      have HB:Hid (Bw w wr):=hB
      have HO:Hid (Row w.heap.size wr u3 (yU X Y k)):=hO
      have hbw:b<wr.heap.size:=Nat.lt_of_lt_of_le hbl hB.size
      have hszc:w.heap.size≤wr.heap.size:=hB.size
      have HLEN:Hid ((yU X Y k).length=k):=xU X Y k
      have HS:Hid (yU X Y (k+1)=yU X Y k ++ [(2 * X k,2 * Y k)]):=zIh X Y k
      clear hO hB
      have hi':(k:Int)<(n:Int):=by omega
      have wx:IntKind.i64.wrap (2 * X k)=2 * X k:=IntWalk.i64_in _ (by omega)
      have wy:IntKind.i64.wrap (2 * Y k)=2 * Y k:=IntWalk.i64_in _ (by omega)
      go_wp2_with fail
      go_region_law (refine xM rfl (.tmp 12) (.tmp 26) 136 rfl w.heap.size 206 i0 (.agg #[.int .i64 0,.int .i64 0]) 2 16 Tryz.underlying136 hi hz0 hz1 hz2 rfl (by decide) u3 (yU X Y k).length (xR (yU X Y k)) rfl ?own ⟨wr.heap.size,0,none⟩ 1 1 [.int .i64 (2 * X k),.int .i64 (2 * Y k)] rfl rfl ?c1 ?c2 ?c3 ?c4 ?c5 ?_
                     case own=>exact World.ownsRow.alloc HO.out _
                     case c1 =>
                       intro q u hq
                       match q,hq with
                       | 0,hq=>simp at hq;subst hq;simp [Addr.add,go_sem]
                       | 1,hq=>simp at hq;subst hq;simp [Addr.add,go_sem]
                       | q+2,hq=>simp at hq
                     case c2=>intro u hu;simp at hu;rcases hu with rfl | rfl <;> rfl
                     case c3=>have:=HLEN.out;unfold maxLen;omega
                     case c4=>have:=HLEN.out;omega
                     case c5=>first | omega | (simp;omega)
                     intro v' w3 hown' hgrow hnil
                     clear hnil
                     have hBV:Bw wr (World.alloc (World.drew wr) (.cells #[.int .i64 (2 * X k),.int .i64 (2 * Y k)] 206)):=by exact Qb
                     have hBg:Below w.heap.size (World.alloc (World.drew wr) (.cells #[.int .i64 (2 * X k),.int .i64 (2 * Y k)] 206)) w3:=(Below.refl _ _).grown hgrow (by have:=hBV.size;omega) (fun k hk=>(HO.out.lt k hk).1)
                     have HB3:Hid (Bw w w3):=(HB.out.trans (hBV.mono hszc)).trans hBg
                     have HO3:Hid (Row w.heap.size w3 v' (yU X Y (k+1))):=(by
                       show Row _ _ _ _
                       rw [HS.out]
                       show World.ownsRow _ _ _ _ _ _ _
                       rw [zDn,List.length_append]
                       exact hown')
                     clear hown' hgrow hBg hBV)
      all_goals
        go_wp2_with fail
        go_roundw
        case rel=>exact ⟨k+1,by omega,by go_num,HO3.out,HB3.out⟩
        case measure=>simp [intOf];omega
    · go_wp2
      go_ret
      have hkn:k=n:=by omega
      subst hkn
      exact ⟨_,rfl,hO,hB⟩
theorem zHz (b off n cap:Nat)(X Y:Nat→Int)(w:World)(hp:zI w b off n X Y)(hbl:b<w.heap.size)(hn:n≤40)(hin:∀ i,i<n→inW (X i) (Y i)=true) :
    Calls Tryz.prog 219 #[.slice (some ⟨b,off,none⟩) n cap] w fun e w'=>∃ v,e=.returned v∧Row w.heap.size w' v (yU X Y n)∧Bw w w':=by
  obtain ⟨i0,hi,hz0,hz1,hz2⟩:=info_parts zLq
  have HP:Hid (zI w b off n X Y):=hp
  have HIN:Hid (∀ i,i<n→inW (X i) (Y i)=true):=hin
  clear hp hin
  go_enter Tryz.func219,Tryz.ntmps219
  go_wp2_with fail
  go_loopw [3,8] (fun v i wr=>∃ k:Nat,k≤n∧i=.int .i64 (k:Int)∧Row w.heap.size wr v (yU X Y k)∧Bw w wr) (fun _ i _=>n - (intOf i).toNat)
  case atStart=>exact ⟨0,by omega,rfl,Row.no _ _,Below.refl _ _⟩
  case round =>
    obtain ⟨k,hk,rfl,hO,hB⟩:=hrel
    by_cases hlt:k<n
    · obtain ⟨hx,hy⟩:=(HP.out.below hB hbl) k hlt
      obtain ⟨⟨x0,x1⟩,y0,y1⟩:=zLr (HIN.out k hlt)
      have HB:Hid (Bw w wr):=hB
      have HO:Hid (Row w.heap.size wr u3 (yU X Y k)):=hO
      have hbw:b<wr.heap.size:=Nat.lt_of_lt_of_le hbl hB.size
      have hszc:w.heap.size≤wr.heap.size:=hB.size
      have HLEN:Hid ((yU X Y k).length=k):=xU X Y k
      have HS:Hid (yU X Y (k+1)=yU X Y k ++ [(2 * X k,2 * Y k)]):=zIh X Y k
      clear hO hB
      have hi':(k:Int)<(n:Int):=by omega
      go_wp2_with (first
        | (at_builtin;go_must (refine wpList_append_own _ rfl _ _ 136 rfl w.heap.size 206 i0 (.agg #[.int .i64 0,.int .i64 0]) 2 16 Tryz.underlying136 hi hz0 hz1 hz2 rfl (by decide) _ (yU X Y k).length (xR (yU X Y k)) rfl (World.ownsRow.alloc (World.ownsRow.alloc HO.out _) _) ⟨wr.heap.size+1,0,none⟩ 1 1 [.int .i64 (2 * X k),.int .i64 (2 * Y k)] rfl rfl ?c1 ?c2 ?c3 ?c4 ?c5 ?_)))
      try (case c1 =>
        intro q u hq
        match q,hq with
        | 0,hq=>simp at hq;subst hq;simp [Addr.add,go_sem]
        | 1,hq=>simp at hq;subst hq;simp [Addr.add,go_sem]
        | q+2,hq=>simp at hq)
      case c2=>first | (intro u hu;simp at hu;rcases hu with rfl | rfl <;> rfl) | exact ⟨rfl,rfl⟩
      case c3=>have:=HLEN.out;unfold maxLen;omega
      case c4=>have:=HLEN.out;omega
      case c5=>first | omega | (simp;omega)
      intro v' w3 hown' hgrow hnil
      clear hnil
      generalize hV:((wr.alloc _).alloc _:World)=V at hgrow
      have hBV:Bw wr V:=by subst hV;exact Qb
      have hBg:Below w.heap.size V w3:=(Below.refl _ _).grown hgrow (by have:=hBV.size;omega) (fun k hk=>(HO.out.lt k hk).1)
      have HB3:Hid (Bw w w3):=(HB.out.trans (hBV.mono hszc)).trans hBg
      have HO3:Hid (Row w.heap.size w3 v' (yU X Y (k+1))):=by
        show Row _ _ _ _
        rw [HS.out]
        show World.ownsRow _ _ _ _ _ _ _
        rw [zDn,List.length_append]
        exact hown'
      clear hown' hgrow hBg hBV hV
      go_wp2
      go_roundw
      case rel=>exact ⟨k+1,by omega,by go_num,HO3.out,HB3.out⟩
      case measure=>simp [intOf];omega
    · go_wp2
      go_ret
      have hkn:k=n:=by omega
      subst hkn
      exact ⟨_,rfl,hO,hB⟩
def yB (px py:Int)(n:Nat)(X Y:Nat→Int):Bool:=okP px py && (decide (3≤n) && (decide (n≤40) && (zGg n X Y && xH (xN px py n X Y) n)))
theorem zFt (px py ax ay bx by':Int)(w:World)(hp:okP px py=true)(ha:okP ax ay=true)(hb:okP bx by'=true)(h:by'<ay)(h1:by'≤py)(h2:py<ay) :
  Calls Tryz.prog 267 #[.agg #[.int .i64 px,.int .i64 py],.agg #[.int .i64 ax,.int .i64 ay],.agg #[.int .i64 bx,.int .i64 by']] w fun e w'=>e=.returned (.bool (yC px py ax ay bx by'))∧Bw w w':=by
 have HP:Hid (okP px py=true):=hp
 have HA:Hid (okP ax ay=true):=ha
 have HB:Hid (okP bx by'=true):=hb
 clear hp ha hb
 have HE:Hid (yC px py ax ay bx by'=decide (0<zW bx by' ax ay px py)):=by
  show _=_
  rw [zBt h]
  simp [h1,h2]
 go_enter Tryz.func267,Tryz.ntmps267
 go_wp2
 generalize hW:(((w.alloc _).alloc _).alloc _:World)=W
 have hB0:Bw w W:=by subst hW;exact Qb
 have c00:∀ W',Bw W W'→W'.cell? ⟨w.heap.size,0,none⟩=some (.int .i64 px):=Qc hW
 have c01:∀ W',Bw W W'→W'.cell? ⟨w.heap.size,1,none⟩=some (.int .i64 py):=Qc hW
 have c10:∀ W',Bw W W'→W'.cell? ⟨w.heap.size+1,0,none⟩=some (.int .i64 ax):=Qc hW
 have c11:∀ W',Bw W W'→W'.cell? ⟨w.heap.size+1,1,none⟩=some (.int .i64 ay):=Qc hW
 have c20:∀ W',Bw W W'→W'.cell? ⟨w.heap.size+1+1,0,none⟩=some (.int .i64 bx):=Qc hW
 have c21:∀ W',Bw W W'→W'.cell? ⟨w.heap.size+1+1,1,none⟩=some (.int .i64 by'):=Qc hW
 have q0:=c00
 clear hW
 have HB0:Hid (Bw w W):=hB0
 clear hB0
 go_cut [7,8] (fun t s wc=>∃ b d:Nat,t=.pointer (some ⟨b,0,none⟩)∧s=.pointer (some ⟨d,0,none⟩)∧b≠d∧Bw W wc∧W.heap.size≤b∧W.heap.size≤d∧wc.cell? ⟨b,0,none⟩=some (.int .i64 ax)∧wc.cell? ⟨b,1,none⟩=some (.int .i64 ay)∧wc.cell? ⟨d,0,none⟩=some (.int .i64 bx)∧wc.cell? ⟨d,1,none⟩=some (.int .i64 by')∧wc.frozen? ⟨b,0,none⟩=false∧wc.frozen? ⟨b,1,none⟩=false∧wc.frozen? ⟨d,0,none⟩=false∧wc.frozen? ⟨d,1,none⟩=false)
 case first =>
  go_region_held3 (fun W'=>Bw W W') ((repeat (first|exact Qr _ _|assumption|refine Qd ?_|refine Qa ?_ _|refine Qt ?_|refine Qs ?_ _|refine Qo ?_ ?_ _ _))) (fail)
  all_goals
   go_wp2_with fail
   go_meet
   case rel =>
    refine ⟨_,_,rfl,rfl,by first | omega | (simp;done) | (simp;omega),by assumption,by first | omega | (simp;done) | (simp;omega),by first | omega | (simp;done) | (simp;omega),?_,?_,?_,?_,?_,?_,?_,?_⟩ <;> (go_simp;done)
 case rest =>
  obtain ⟨b1,d1,rfl,rfl,hne,hB1,hb1,hd1,x1,x2,x3,x4,f1,f2,f3,f4⟩:=hcut
  have hne':d1≠b1:=fun h=>hne h.symm
  have hw0:=World.block_lt_of_cell? _ _ (c00 W (Below.refl _ _))
  have n1:b1≠w.heap.size:=by have:w.heap.size<W.heap.size:=hw0;omega
  have n2:d1≠w.heap.size:=by have:w.heap.size<W.heap.size:=hw0;omega
  have p1:=c01 wc hB1
  clear hw0 c00 c01 c10 c11 c20 c21
  have p0:=q0 wc hB1
  clear q0
  go_wp2_with (go_at_call 274;refine (zAx _ _ _ _ _ _ _ HB.out HA.out HP.out).mono ?_;rintro e w' ⟨rfl,hbz⟩)
  go_ret
  exact ⟨zF HE.out.symm,zA HB0.out (by exact Qb)⟩
theorem zEg (px py ax ay bx by':Int)(w:World)(hp:okP px py=true)(ha:okP ax ay=true)(hb:okP bx by'=true)(h:by'<ay)(h1:¬ by'≤py) :
  Calls Tryz.prog 267 #[.agg #[.int .i64 px,.int .i64 py],.agg #[.int .i64 ax,.int .i64 ay],.agg #[.int .i64 bx,.int .i64 by']] w fun e w'=>e=.returned (.bool (yC px py ax ay bx by'))∧Bw w w':=by
 have HP:Hid (okP px py=true):=hp
 have HA:Hid (okP ax ay=true):=ha
 have HB:Hid (okP bx by'=true):=hb
 clear hp ha hb
 have HE:Hid (yC px py ax ay bx by'=false):=by
  show _=_
  rw [zBt h]
  simp [h1]
 have h1':decide (by'≤py)=false:=by simpa using h1
 go_enter Tryz.func267,Tryz.ntmps267
 go_wp2
 generalize hW:(((w.alloc _).alloc _).alloc _:World)=W
 have hB0:Bw w W:=by subst hW;exact Qb
 have c00:∀ W',Bw W W'→W'.cell? ⟨w.heap.size,0,none⟩=some (.int .i64 px):=Qc hW
 have c01:∀ W',Bw W W'→W'.cell? ⟨w.heap.size,1,none⟩=some (.int .i64 py):=Qc hW
 have c10:∀ W',Bw W W'→W'.cell? ⟨w.heap.size+1,0,none⟩=some (.int .i64 ax):=Qc hW
 have c11:∀ W',Bw W W'→W'.cell? ⟨w.heap.size+1,1,none⟩=some (.int .i64 ay):=Qc hW
 have c20:∀ W',Bw W W'→W'.cell? ⟨w.heap.size+1+1,0,none⟩=some (.int .i64 bx):=Qc hW
 have c21:∀ W',Bw W W'→W'.cell? ⟨w.heap.size+1+1,1,none⟩=some (.int .i64 by'):=Qc hW
 have q0:=c00
 clear hW
 have HB0:Hid (Bw w W):=hB0
 clear hB0
 go_cut [7,8] (fun t s wc=>∃ b d:Nat,t=.pointer (some ⟨b,0,none⟩)∧s=.pointer (some ⟨d,0,none⟩)∧b≠d∧Bw W wc∧W.heap.size≤b∧W.heap.size≤d∧wc.cell? ⟨b,0,none⟩=some (.int .i64 ax)∧wc.cell? ⟨b,1,none⟩=some (.int .i64 ay)∧wc.cell? ⟨d,0,none⟩=some (.int .i64 bx)∧wc.cell? ⟨d,1,none⟩=some (.int .i64 by')∧wc.frozen? ⟨b,0,none⟩=false∧wc.frozen? ⟨b,1,none⟩=false∧wc.frozen? ⟨d,0,none⟩=false∧wc.frozen? ⟨d,1,none⟩=false)
 case first =>
  go_region_held3 (fun W'=>Bw W W') ((repeat (first|exact Qr _ _|assumption|refine Qd ?_|refine Qa ?_ _|refine Qt ?_|refine Qs ?_ _|refine Qo ?_ ?_ _ _))) (fail)
  all_goals
   go_wp2_with fail
   go_meet
   case rel =>
    refine ⟨_,_,rfl,rfl,by first | omega | (simp;done) | (simp;omega),by assumption,by first | omega | (simp;done) | (simp;omega),by first | omega | (simp;done) | (simp;omega),?_,?_,?_,?_,?_,?_,?_,?_⟩ <;> (go_simp;done)
 case rest =>
  obtain ⟨b1,d1,rfl,rfl,hne,hB1,hb1,hd1,x1,x2,x3,x4,f1,f2,f3,f4⟩:=hcut
  have hne':d1≠b1:=fun h=>hne h.symm
  have hw0:=World.block_lt_of_cell? _ _ (c00 W (Below.refl _ _))
  have n1:b1≠w.heap.size:=by have:w.heap.size<W.heap.size:=hw0;omega
  have n2:d1≠w.heap.size:=by have:w.heap.size<W.heap.size:=hw0;omega
  have p1:=c01 wc hB1
  clear hw0 c00 c01 c10 c11 c20 c21
  have p0:=q0 wc hB1
  clear q0
  go_wp2
  go_ret
  exact ⟨zF HE.out.symm,zA HB0.out (by exact Qb)⟩
theorem zEf (px py ax ay bx by':Int)(w:World)(hp:okP px py=true)(ha:okP ax ay=true)(hb:okP bx by'=true)(h:by'<ay)(h1:by'≤py)(h2:¬ py<ay) :
  Calls Tryz.prog 267 #[.agg #[.int .i64 px,.int .i64 py],.agg #[.int .i64 ax,.int .i64 ay],.agg #[.int .i64 bx,.int .i64 by']] w fun e w'=>e=.returned (.bool (yC px py ax ay bx by'))∧Bw w w':=by
 have HP:Hid (okP px py=true):=hp
 have HA:Hid (okP ax ay=true):=ha
 have HB:Hid (okP bx by'=true):=hb
 clear hp ha hb
 have HE:Hid (yC px py ax ay bx by'=false):=by
  show _=_
  rw [zBt h]
  simp [h1,h2]
 have h2':decide (py<ay)=false:=by simpa using h2
 go_enter Tryz.func267,Tryz.ntmps267
 go_wp2
 generalize hW:(((w.alloc _).alloc _).alloc _:World)=W
 have hB0:Bw w W:=by subst hW;exact Qb
 have c00:∀ W',Bw W W'→W'.cell? ⟨w.heap.size,0,none⟩=some (.int .i64 px):=Qc hW
 have c01:∀ W',Bw W W'→W'.cell? ⟨w.heap.size,1,none⟩=some (.int .i64 py):=Qc hW
 have c10:∀ W',Bw W W'→W'.cell? ⟨w.heap.size+1,0,none⟩=some (.int .i64 ax):=Qc hW
 have c11:∀ W',Bw W W'→W'.cell? ⟨w.heap.size+1,1,none⟩=some (.int .i64 ay):=Qc hW
 have c20:∀ W',Bw W W'→W'.cell? ⟨w.heap.size+1+1,0,none⟩=some (.int .i64 bx):=Qc hW
 have c21:∀ W',Bw W W'→W'.cell? ⟨w.heap.size+1+1,1,none⟩=some (.int .i64 by'):=Qc hW
 have q0:=c00
 clear hW
 have HB0:Hid (Bw w W):=hB0
 clear hB0
 go_cut [7,8] (fun t s wc=>∃ b d:Nat,t=.pointer (some ⟨b,0,none⟩)∧s=.pointer (some ⟨d,0,none⟩)∧b≠d∧Bw W wc∧W.heap.size≤b∧W.heap.size≤d∧wc.cell? ⟨b,0,none⟩=some (.int .i64 ax)∧wc.cell? ⟨b,1,none⟩=some (.int .i64 ay)∧wc.cell? ⟨d,0,none⟩=some (.int .i64 bx)∧wc.cell? ⟨d,1,none⟩=some (.int .i64 by')∧wc.frozen? ⟨b,0,none⟩=false∧wc.frozen? ⟨b,1,none⟩=false∧wc.frozen? ⟨d,0,none⟩=false∧wc.frozen? ⟨d,1,none⟩=false)
 case first =>
  go_region_held3 (fun W'=>Bw W W') ((repeat (first|exact Qr _ _|assumption|refine Qd ?_|refine Qa ?_ _|refine Qt ?_|refine Qs ?_ _|refine Qo ?_ ?_ _ _))) (fail)
  all_goals
   go_wp2_with fail
   go_meet
   case rel =>
    refine ⟨_,_,rfl,rfl,by first | omega | (simp;done) | (simp;omega),by assumption,by first | omega | (simp;done) | (simp;omega),by first | omega | (simp;done) | (simp;omega),?_,?_,?_,?_,?_,?_,?_,?_⟩ <;> (go_simp;done)
 case rest =>
  obtain ⟨b1,d1,rfl,rfl,hne,hB1,hb1,hd1,x1,x2,x3,x4,f1,f2,f3,f4⟩:=hcut
  have hne':d1≠b1:=fun h=>hne h.symm
  have hw0:=World.block_lt_of_cell? _ _ (c00 W (Below.refl _ _))
  have n1:b1≠w.heap.size:=by have:w.heap.size<W.heap.size:=hw0;omega
  have n2:d1≠w.heap.size:=by have:w.heap.size<W.heap.size:=hw0;omega
  have p1:=c01 wc hB1
  clear hw0 c00 c01 c10 c11 c20 c21
  have p0:=q0 wc hB1
  clear q0
  go_wp2
  go_ret
  exact ⟨zF HE.out.symm,zA HB0.out (by exact Qb)⟩
theorem zEh (px py ax ay bx by':Int)(w:World)(hp:okP px py=true)(ha:okP ax ay=true)(hb:okP bx by'=true) :
  Calls Tryz.prog 267 #[.agg #[.int .i64 px,.int .i64 py],.agg #[.int .i64 ax,.int .i64 ay],.agg #[.int .i64 bx,.int .i64 by']] w fun e w'=>e=.returned (.bool (yC px py ax ay bx by'))∧Bw w w':=by
 by_cases h:by'<ay
 ·by_cases h1:by'≤py
  ·by_cases h2:py<ay
   ·exact zFt _ _ _ _ _ _ _ hp ha hb h h1 h2
   ·exact zEf _ _ _ _ _ _ _ hp ha hb h h1 h2
  ·exact zEg _ _ _ _ _ _ _ hp ha hb h h1
 ·by_cases h1:ay≤py
  ·by_cases h2:py<by'
   ·exact zFs _ _ _ _ _ _ _ hp ha hb (by omega) h1 h2
   ·exact zEd _ _ _ _ _ _ _ hp ha hb (by omega) h1 h2
  ·exact zEe _ _ _ _ _ _ _ hp ha hb (by omega) h1
def vX (n k:Nat):Nat:=if k=0 then n - 1 else k - 1
def uQ (px py:Int)(n:Nat)(X Y:Nat→Int)(i:Nat):Bool:=yC px py (X (vX n i)) (Y (vX n i)) (X i) (Y i)
theorem zM3 (px py:Int)(n:Nat)(X Y:Nat→Int)(hn:0<n):xH (uQ px py n X Y) n=xH (xN px py n X Y) n:=by
 refine zJf _ _ n ?_ (fun i hi=>?_) hn
 ·have e:n - 1+1=n:=by omega
  simp [uQ,xN,vX,e,Nat.mod_self]
 ·simp [uQ,xN,vX,Nat.mod_eq_of_lt hi]
theorem zA5 (px py:Int)(a:Option Addr)(n cap:Nat)(X Y:Nat→Int)(w:World)(hn:n<3) :
  Calls Tryz.prog 251 #[.agg #[.int .i64 px,.int .i64 py],.slice a n cap] w fun e w'=>e=.returned (.bool (yB px py n X Y))∧Bw w w':=by
 have HE:Hid (yB px py n X Y=false):=by
  show _=_
  have:¬ 3≤n:=by omega
  simp [yB,this]
 have hni:(n:Int)<3:=by omega
 go_enter Tryz.func251,Tryz.ntmps251
 go_wp2
 go_ret
 exact ⟨zF HE.out.symm,Qb⟩
theorem zAq (px py:Int)(a:Option Addr)(n cap:Nat)(X Y:Nat→Int)(w:World)(hn:40<n)(hmax:n≤1048576) :
  Calls Tryz.prog 251 #[.agg #[.int .i64 px,.int .i64 py],.slice a n cap] w fun e w'=>e=.returned (.bool (yB px py n X Y))∧Bw w w':=by
 have HE:Hid (yB px py n X Y=false):=by
  show _=_
  have:¬ n≤40:=by omega
  simp [yB,this]
 have hni:(40:Int)<(n:Int):=by omega
 have hn3:decide ((n:Int)<3)=false:=by simp;omega
 go_enter Tryz.func251,Tryz.ntmps251
 go_wp2
 go_ret
 exact ⟨zF HE.out.symm,Qb⟩
theorem zCa (px py:Int)(b n cap:Nat)(X Y:Nat→Int)(w:World)(hp:okP px py=false)(h3:3≤n)(h40:n≤40) :
  Calls Tryz.prog 251 #[.agg #[.int .i64 px,.int .i64 py],.slice (some ⟨b,0,none⟩) n cap] w fun e w'=>e=.returned (.bool (yB px py n X Y))∧Bw w w':=by
 have HE:Hid (yB px py n X Y=false):=by show _=_;simp [yB,hp]
 have k1:=zIj hp
 have hn3:decide ((n:Int)<3)=false:=by simp;omega
 have hn40:decide ((40:Int)<(n:Int))=false:=by simp;omega
 clear hp
 go_enter Tryz.func251,Tryz.ntmps251
 go_wp2_with (go_at_call 264;refine (yQ _ _ _).mono ?_;rintro e w' ⟨rfl,hb⟩)
 go_ret
 exact ⟨zF HE.out.symm,Qb⟩
theorem zA6 (px py:Int)(b n cap:Nat)(X Y:Nat→Int)(w:World)(hp:okP px py=true)(hpt:zI w b 0 n X Y)(hbl:b<w.heap.size)(hcap:n≤cap)(h3:3≤n)(h40:n≤40)(hall:zGg n X Y=false) :
  Calls Tryz.prog 251 #[.agg #[.int .i64 px,.int .i64 py],.slice (some ⟨b,0,none⟩) n cap] w fun e w'=>e=.returned (.bool (yB px py n X Y))∧Bw w w':=by
 have HE:Hid (yB px py n X Y=false):=by show _=_;simp [yB,hall]
 have hN:zAu n X Y=3:=by simp [zAu,hall]
 have HQ:Hid (zI w b 0 n X Y):=hpt
 have k1:=zEs hp
 have hn3:decide ((n:Int)<3)=false:=by simp;omega
 have hn40:decide ((40:Int)<(n:Int))=false:=by simp;omega
 clear hp hpt hall
 go_enter Tryz.func251,Tryz.ntmps251
 go_wp2_with fail
 refine (yQ _ _ _).mono ?_
 rintro e w1 ⟨rfl,hb1⟩
 have hB1:Bw w w1:=by exact Qb
 have HQ1:Hid (zI w1 b 0 n X Y):=HQ.out.below hB1 hbl
 have hbl1:b<w1.heap.size:=Nat.lt_of_lt_of_le hbl hB1.size
 have HB1:Hid (Bw w w1):=hB1
 clear hB1 hb1
 go_wp2_with (go_at_call 265;refine (zAe _ _ _ _ X Y _ HQ1.out hbl1 hcap (by omega)).mono ?_;rintro e w2 ⟨rfl,hb2⟩)
 go_ret
 exact ⟨zF HE.out.symm,zA HB1.out hb2⟩
theorem zAp (px py:Int)(b n cap:Nat)(X Y:Nat→Int)(w:World)(hp:okP px py=true)(hpt:zI w b 0 n X Y)(hbl:b<w.heap.size)(hcap:n≤cap)(h3:3≤n)(h40:n≤40)(hall:zGg n X Y=true) :
  Calls Tryz.prog 251 #[.agg #[.int .i64 px,.int .i64 py],.slice (some ⟨b,0,none⟩) n cap] w fun e w'=>e=.returned (.bool (yB px py n X Y))∧Bw w w':=by
 have HE:Hid (yB px py n X Y=xH (uQ px py n X Y) n):=by
  show _=_
  rw [zM3 px py n X Y (by omega)]
  simp [yB,hall,hp,h3,h40]
 have hN:zAu n X Y=0:=by simp [zAu,hall]
 have HP:Hid (okP px py=true):=hp
 have HQ:Hid (zI w b 0 n X Y):=hpt
 have HO:Hid (∀ i,i<n→okP (X i) (Y i)=true):=by
  show ∀ i,i<n→okP (X i) (Y i)=true
  exact of_decide_eq_true hall
 have k1:=zEs hp
 have hn3:decide ((n:Int)<3)=false:=by simp;omega
 have hn40:decide ((40:Int)<(n:Int))=false:=by simp;omega
 clear hp hpt hall
 go_enter Tryz.func251,Tryz.ntmps251
 go_wp2_with fail
 generalize hW:(w.alloc _:World)=W
 have hB0:Bw w W:=by subst hW;exact Qb
 have c00:∀ W',Bw W W'→W'.cell? ⟨w.heap.size,0,none⟩=some (.int .i64 px):=Qc hW
 have c01:∀ W',Bw W W'→W'.cell? ⟨w.heap.size,1,none⟩=some (.int .i64 py):=Qc hW
 clear hW
 have HB0:Hid (Bw w W):=hB0
 have HQ1:Hid (zI W b 0 n X Y):=HQ.out.below hB0 hbl
 have hblW:b<W.heap.size:=Nat.lt_of_lt_of_le hbl hB0.size
 clear hB0 HQ hbl
 refine (yQ _ _ _).mono ?_
 rintro e w1 ⟨rfl,hb1⟩
 have HQ2:Hid (zI w1 b 0 n X Y):=HQ1.out.below hb1 hblW
 have hbl1:b<w1.heap.size:=Nat.lt_of_lt_of_le hblW hb1.size
 go_wp2_with fail
 refine (zAe _ _ _ _ X Y _ HQ2.out hbl1 hcap (by omega)).mono ?_
 rintro e w2 ⟨rfl,hb2⟩
 have hB2:Bw W w2:=zA hb1 hb2
 have hwr:IntKind.i64.wrap ((n:Int) - 1)=(n:Int) - 1:=IntWalk.i64_in _ (by omega)
 have hi1:(0:Int)≤(n:Int) - 1:=by omega
 have hi2:(n:Int) - 1<(n:Int):=by omega
 have hti:((n:Int) - 1).toNat=n - 1:=by omega
 obtain ⟨hx,hy⟩:=(HQ1.out.below hB2 hblW) (n - 1) (by omega)
 simp only [Nat.zero_add] at hx hy
 clear hb1 hb2 HQ2
 go_wp2_with fail
 refine (vF _ _ _).mono ?_
 rintro e w3 ⟨rfl,hb3⟩
 have hB3:Bw W w3:=zA hB2 hb3
 clear hx hy hB2 hb3
 have HQ3:Hid (zI w3 b 0 n X Y):=HQ1.out.below hB3 hblW
 have hbl3:b<w3.heap.size:=Nat.lt_of_lt_of_le hblW hB3.size
 replace c00:=fun W' (h:Below w3.heap.size w3 W')=>c00 W' (zA hB3 h)
 replace c01:=fun W' (h:Below w3.heap.size w3 W')=>c01 W' (zA hB3 h)
 have HB3:Hid (Bw w w3):=zA HB0.out hB3
 clear hB3 HB0 HQ1 hblW hbl1 hwr hi1 hi2 hti hN k1
 go_wp2
 go_loopw [5,35] (fun q i wr=>∃ k:Nat,k≤n∧i=.int .i64 k∧q=.bool (xH (uQ px py n X Y) k)∧Bw w3 wr∧wr.cell? ⟨w3.heap.size,0,none⟩=some (.int .i64 (X (vX n k)))∧wr.cell? ⟨w3.heap.size,1,none⟩=some (.int .i64 (Y (vX n k)))∧wr.frozen? ⟨w3.heap.size,0,none⟩=false∧wr.frozen? ⟨w3.heap.size,1,none⟩=false) (fun _ i _=>n - (intOf i).toNat)
 case atStart=>exact ⟨0,by omega,rfl,rfl,Qb,by simp [go_sem,vX],by simp [go_sem,vX],by simp [go_sem],by simp [go_sem]⟩
 case round =>
  obtain ⟨k,hk,rfl,rfl,hB,f0,f1,z0,z1⟩:=hrel
  by_cases hlt:k<n
  ·obtain ⟨hx,hy⟩:=(HQ3.out.below hB hbl3) k hlt
   simp only [Nat.zero_add] at hx hy
   have hFl:w3.heap.size<wr.heap.size:=World.block_lt_of_cell? _ _ f0
   have HK1:Hid (okP (X (vX n k)) (Y (vX n k))=true):=HO.out _ (by unfold vX;split <;> omega)
   have HK2:Hid (okP (X k) (Y k)=true):=HO.out k hlt
   have hodd:Hid (xH (uQ px py n X Y) (k+1)=if uQ px py n X Y k=true then !(xH (uQ px py n X Y) k) else xH (uQ px py n X Y) k):=rfl
   have HS:Hid (uQ px py n X Y k=yC px py (X (vX n k)) (Y (vX n k)) (X k) (Y k)):=rfl
   have hprev:vX n (k+1)=k:=by simp [vX]
   have HV:Hid (vX n (k+1)=k):=hprev
   clear hprev
   have hi:(k:Int)<(n:Int):=by omega
   generalize hXp:X (vX n k)=xp at *
   generalize hYp:Y (vX n k)=yp at *
   clear hXp hYp
   have F0:Hid (wr.cell? ⟨w3.heap.size,0,none⟩=some (.int .i64 xp)):=f0
   have F1:Hid (wr.cell? ⟨w3.heap.size,1,none⟩=some (.int .i64 yp)):=f1
   have Z0:Hid (wr.frozen? ⟨w3.heap.size,0,none⟩=false):=z0
   have Z1:Hid (wr.frozen? ⟨w3.heap.size,1,none⟩=false):=z1
   have HB:Hid (Bw w3 wr):=hB
   clear f0 f1 z0 z1 hB
   go_wp2_with fail
   refine (vF _ _ _).mono ?_
   rintro e w4 ⟨rfl,hb4⟩
   have hB4:Bw wr w4:=by exact Qb
   clear hb4 hx hy
   go_wp2
   generalize hV:(w4.alloc _:World)=V
   have hBV:Bw wr V:=by subst hV;exact Qb
   have t0:∀ W',Bw V W'→W'.cell? ⟨w4.heap.size,0,none⟩=some (.int .i64 (X k)):=Qc hV
   have t1:∀ W',Bw V W'→W'.cell? ⟨w4.heap.size,1,none⟩=some (.int .i64 (Y k)):=Qc hV
   have f0:∀ W',Bw V W'→W'.cell? ⟨w3.heap.size,0,none⟩=some (.int .i64 xp):=fun W' h=>((zA hBV h).cell (p:=⟨w3.heap.size,0,none⟩) hFl).trans F0.out
   have f1:∀ W',Bw V W'→W'.cell? ⟨w3.heap.size,1,none⟩=some (.int .i64 yp):=fun W' h=>((zA hBV h).cell (p:=⟨w3.heap.size,1,none⟩) hFl).trans F1.out
   have z0:∀ W',Bw V W'→W'.frozen? ⟨w3.heap.size,0,none⟩=false:=fun W' h=>((zA hBV h).frozen (p:=⟨w3.heap.size,0,none⟩) hFl).trans Z0.out
   have z1:∀ W',Bw V W'→W'.frozen? ⟨w3.heap.size,1,none⟩=false:=fun W' h=>((zA hBV h).frozen (p:=⟨w3.heap.size,1,none⟩) hFl).trans Z1.out
   have hBV3:Bw w3 V:=zA HB.out hBV
   replace c00:=fun W' (h:Below V.heap.size V W')=>c00 W' (zA hBV3 h)
   replace c01:=fun W' (h:Below V.heap.size V W')=>c01 W' (zA hBV3 h)
   have HBV3:Hid (Bw w3 V):=hBV3
   clear hV hBV hBV3 hB4
   cases hsv:yC px py xp yp (X k) (Y k)
   all_goals
    go_region_held3 (fun W'=>Bw V W') ((repeat (first|exact Qr _ _|assumption|refine Qd ?_|refine Qa ?_ _|refine Qt ?_|refine Qs ?_ _|refine Qo ?_ ?_ _ _)))
     (first
      | (go_at_call 266;refine (vF _ _ _).mono ?_;rintro e w' ⟨rfl,hb⟩)
      | (go_at_call 267;refine (zEh _ _ _ _ _ _ _ HP.out HK1.out HK2.out).mono ?_;rintro e w' ⟨rfl,hb⟩))
    rename_i hfin
    go_wp2
    go_roundw
    case rel =>
     refine ⟨k+1,by omega,by go_num,congrArg Value.bool (by rw [hodd.out,HS.out,hsv];rfl),?_,?_,?_,?_,?_⟩
     ·have hG:=zA HBV3.out hfin
      exact (hG.setCell (Nat.le_refl _) _).setCell (Nat.le_refl _) _
     ·rw [HV.out]
      exact zN8 (Option.isSome_iff_exists.2 ⟨_,f0 _ hfin⟩)
     ·rw [HV.out]
      exact zN7 (Option.isSome_iff_exists.2 ⟨_,f1 _ hfin⟩)
     ·simp [World.frozen?_setCell,z0 _ hfin]
     ·simp [World.frozen?_setCell,z1 _ hfin]
    case measure=>simp [intOf];omega
  ·go_wp2
   go_ret
   have hkn:k=n:=by omega
   subst hkn
   exact ⟨zF HE.out.symm,zA HB3.out hB⟩
theorem zA7 (px py:Int)(b n cap:Nat)(X Y:Nat→Int)(w:World)(hpt:zI w b 0 n X Y)(hbl:b<w.heap.size)(hcap:n≤cap)(hmax:n≤1048576) :
  Calls Tryz.prog 251 #[.agg #[.int .i64 px,.int .i64 py],.slice (some ⟨b,0,none⟩) n cap] w fun e w'=>e=.returned (.bool (yB px py n X Y))∧Bw w w':=by
 by_cases h3:n<3
 ·exact zA5 _ _ _ _ _ _ _ _ h3
 by_cases h40:40<n
 ·exact zAq _ _ _ _ _ _ _ _ h40 hmax
 cases hp:okP px py
 ·exact zCa _ _ _ _ _ _ _ _ hp (by omega) (by omega)
 cases ha:zGg n X Y
 ·exact zA6 _ _ _ _ _ _ _ _ hp hpt hbl hcap (by omega) (by omega) ha
 ·exact zAp _ _ _ _ _ _ _ _ hp hpt hbl hcap (by omega) (by omega) ha

theorem zD.grown {w w':World}{p n s:Nat}(h:zD w p n)(hg:w.grownBy w' (some s))(hs:p≠s):zD w' p n:=fun o hn=>by
 obtain ⟨v,hv⟩:=(h o hn).1
 refine ⟨⟨v,xI hg hv hs⟩,?_⟩
 have he:=hg.block p (World.block_lt_of_cell? _ _ hv) (fun e=>hs (by injection e))
 have hz:=(h o hn).2
 unfold World.frozen? at hz ⊢
 simp only [he]
 exact hz
end Go.Proofs.YtkjbafcalamgnaaGreat
