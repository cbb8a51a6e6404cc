/- Texts. -/
import Derived.Test.YtkjbafcalamgnaaGreatVZoomViewer1
import Derived.Test.YtkjbafcalamgnaaGreatVZoomViewer3
set_option linter.unusedSimpArgs false
set_option linter.unusedVariables false
set_option maxRecDepth 100000
set_option maxHeartbeats 32000000
namespace Go.Proofs.YtkjbafcalamgnaaGreat
open Go.RowKit
def xR (w:World)(a:Option Addr)(n:Nat)(X Y:Nat→Int):Prop :=
 n=0∨∃ b off,a=some ⟨b,off,none⟩∧b<w.heap.size∧zL w b off n X Y
theorem xR.below {w w':World}{a:Option Addr}{n:Nat}{X Y:Nat→Int}(h:xR w a n X Y)(hb:Below w.heap.size w w'):xR w' a n X Y:=by
 rcases h with h | ⟨b,off,e,hl,hp⟩
 ·exact .inl h
 ·exact .inr ⟨b,off,e,Nat.lt_of_lt_of_le hl hb.size,hp.below hb hl⟩
theorem zC.set {W:World}{r n:Nat}(h:zC W r n)(o:Nat)(v:Value):zC (W.setCell ⟨r,o,none⟩ v) r n:=fun o' ho=>by
 obtain ⟨u,hu⟩:=(h o' ho).1
 refine ⟨?_,?_⟩
 ·by_cases e:o=o'
  ·subst e
   exact ⟨v,World.cell?_setCell_same _ _ _ (by rw [hu])⟩
  ·exact ⟨u,by rw [World.cell?_setCell_other];exact hu;simp [e]⟩
 ·rw [World.frozen?_setCell];exact (h o' ho).2
theorem zNn {W:World}{B n k:Nat}{X Y:Nat→Int}(hT:zC W B (n * 2))(hk:k<n)(hp:zL W B 0 k X Y) :
  zL ((W.setCell ⟨B,k * 2,none⟩ (.int .i64 (X k))).setCell ⟨B,k * 2+1,none⟩ (.int .i64 (Y k))) B 0 (k+1) X Y:=fun i hi=>by
 by_cases e:i=k
 ·subst e
  obtain ⟨u,hu⟩:=(hT (i * 2) (by omega)).1
  obtain ⟨v,hv⟩:=((hT.set (i * 2) (.int .i64 (X i))) (i * 2+1) (by omega)).1
  refine ⟨?_,?_⟩
  ·rw [World.cell?_setCell_other]
   ·simpa using World.cell?_setCell_same _ _ _ (by rw [hu])
   ·simp
  ·simpa using World.cell?_setCell_same _ _ _ (by rw [hv])
 ·obtain ⟨h1,h2⟩:=hp i (by omega)
  refine ⟨?_,?_⟩
  ·rw [World.cell?_setCell_other,World.cell?_setCell_other]
   ·exact h1
   ·simp <;> omega
   ·simp <;> omega
  ·rw [World.cell?_setCell_other,World.cell?_setCell_other]
   ·exact h2
   ·simp <;> omega
   ·simp <;> omega
theorem info_ip:(Tryz.prog.info? 206).map (fun i=>(i.zero,i.size,i.bytes))=some (some (.agg #[.int .i64 0,.int .i64 0]),2,16):=by kernel_rfl
theorem zWu (n:Nat)(h:n≤1048576)(w:World) :
  (Instr.makeSlice 136 (.int .i64 (n:Int)) (.int .i64 (n:Int))).run Tryz.prog w=.ok (.slice (some ⟨w.heap.size,0,none⟩) n n) (w.alloc (.cells (madeCells #[.int .i64 0,.int .i64 0] (n * 2)) 206)):=by
 obtain ⟨i,hi,hz,hs,hb⟩:=info_parts info_ip
 have hr:=run_make (P:=Tryz.prog) w 136 206 i _ Tryz.underlying136 hi hz .i64 .i64 (n:Int) (n:Int) (by omega) (Int.le_refl _) (by rw [hb];omega) (by omega)
 simp only [Int.toNat_natCast,hs] at hr
 exact hr
theorem zRp (n:Nat)(w:World)(t:TypeId):zC (w.alloc (.cells (madeCells #[.int .i64 0,.int .i64 0] n) t)) w.heap.size n:=fun o ho=>by
 have hz:=size_madeCells #[.int .i64 0,.int .i64 0] n
 refine ⟨⟨(madeCells #[.int .i64 0,.int .i64 0] n)[o]'(by rw [hz];exact ho),?_⟩,World.frozen?_alloc_at _ _ _ _ rfl⟩
 rw [World.cell?_alloc_at _ _ _ _ rfl]
 exact Array.getElem?_eq_getElem _
theorem zMd (a:Option Addr)(n cap:Nat)(X Y:Nat→Int)(w:World)(hp:xR w a n X Y)(hmax:n≤1048576) :
  Calls Tryz.prog 145 #[.slice a n cap] w fun e w'=>∃ b,e=.returned (.slice (some ⟨b,0,none⟩) n n)∧w.heap.size≤b∧b<w'.heap.size∧zL w' b 0 n X Y∧zC w' b (n * 2)∧Bw w w':=by
 have hmk:=zWu n hmax
 have HP:Hid (xR w a n X Y):=hp
 clear hp
 go_enter Tryz.func145,Tryz.ntmps145
 go_wp2
 generalize hW:(w.alloc _:World)=W
 have HB0:Hid (Bw w W):=by show Below _ _ _;subst hW;exact Qb
 have HT0:Hid (zC W w.heap.size (n * 2)):=by show zC _ _ _;subst hW;exact zRp _ _ _
 have HL0:Hid (w.heap.size<W.heap.size):=by show _<_;subst hW;simp
 clear hW hmk
 go_loopw [4] (fun i wr=>∃ k:Nat,k≤n∧i=.int .i64 k∧Bw w wr∧zC wr w.heap.size (n * 2)∧zL wr w.heap.size 0 k X Y∧w.heap.size<wr.heap.size) (fun i _=>n - (intOf i).toNat)
 case atStart=>exact ⟨0,by omega,rfl,HB0.out,HT0.out,fun i hi=>by omega,HL0.out⟩
 case round =>
  obtain ⟨k,hk,rfl,hB,hT,hPt,hlw⟩:=hrel
  by_cases hlt:k<n
  ·rcases HP.out with h0 | ⟨b,off,rfl,hbl,hpt⟩
   ·omega
   ·obtain ⟨hx,hy⟩:=(hpt.below hB hbl) k hlt
    have HB:Hid (Bw w wr):=hB
    have HT:Hid (zC wr w.heap.size (n * 2)):=hT
    have HQ:Hid (zL wr w.heap.size 0 k X Y):=hPt
    clear hB hT hPt hpt
    have hi:(k:Int)<(n:Int):=by omega
    go_wp2_with fail
    refine (zOm _ _ _).mono ?_
    rintro e w' ⟨rfl,hb⟩
    have hT':=HT.out.below hb
    have t0:=hT'.cell (k * 2) (by omega)
    have t1:=hT'.cell (k * 2+1) (by omega)
    have f0:=(hT' (k * 2) (by omega)).2
    have f1:=(hT' (k * 2+1) (by omega)).2
    have HT':Hid (zC w' w.heap.size (n * 2)):=hT'
    clear hT'
    go_wp2
    go_roundw
    case rel =>
     have hsz:=hb.size
     refine ⟨k+1,by omega,by go_num,?_,(HT'.out.set _ _).set _ _,zNn HT'.out hlt (HQ.out.below hb hlw),?_⟩
     ·have HB':=HB.out
      exact Qb
     ·simp;omega
    case measure=>simp [intOf];omega
  ·go_wp2
   go_ret
   have hkn:k=n:=by omega
   subst hkn
   exact ⟨_,rfl,Nat.le_refl _,hlw,hPt,hT,hB⟩
theorem zNs (b d n:Nat)(X Y:Nat→Int)(w:World)(hp:zL w b 0 n X Y)(hq:zL w d 0 n X Y)(hb:b<w.heap.size)(hd:d<w.heap.size)(hmax:n≤1048576) :
  Calls Tryz.prog 151 #[.slice (some ⟨b,0,none⟩) n n,.slice (some ⟨d,0,none⟩) n n] w fun e w'=>e=.returned (.bool true)∧Bw w w':=by
 have HP:Hid (zL w b 0 n X Y):=hp
 have HQ:Hid (zL w d 0 n X Y):=hq
 clear hp hq
 go_enter Tryz.func151,Tryz.ntmps151
 go_wp2
 go_loopw [5] (fun i wr=>∃ k:Nat,k≤n∧i=.int .i64 k∧Bw w wr) (fun i _=>n - (intOf i).toNat)
 case atStart=>exact ⟨0,by omega,rfl,Below.refl _ _⟩
 case round =>
  obtain ⟨k,hk,rfl,hB⟩:=hrel
  by_cases hlt:k<n
  ·have c0:∀ W',Bw wr W'→W'.cell? ⟨b,k * 2,none⟩=some (.int .i64 (X k)):=fun W' h=>by
    simpa using ((HP.out.below hB hb).below h (Nat.lt_of_lt_of_le hb hB.size) k hlt).1
   have c1:∀ W',Bw wr W'→W'.cell? ⟨b,k * 2+1,none⟩=some (.int .i64 (Y k)):=fun W' h=>by
    simpa using ((HP.out.below hB hb).below h (Nat.lt_of_lt_of_le hb hB.size) k hlt).2
   have e0:∀ W',Bw wr W'→W'.cell? ⟨d,k * 2,none⟩=some (.int .i64 (X k)):=fun W' h=>by
    simpa using ((HQ.out.below hB hd).below h (Nat.lt_of_lt_of_le hd hB.size) k hlt).1
   have e1:∀ W',Bw wr W'→W'.cell? ⟨d,k * 2+1,none⟩=some (.int .i64 (Y k)):=fun W' h=>by
    simpa using ((HQ.out.below hB hd).below h (Nat.lt_of_lt_of_le hd hB.size) k hlt).2
   have HB:Hid (Bw w wr):=hB
   clear hB
   have hi:(k:Int)<(n:Int):=by omega
   have hi0:(0:Int)≤(k:Int):=by omega
   go_wp2
   go_region_held3 (fun W'=>Bw wr W') ((repeat (first|exact Qr _ _|assumption|refine Qd ?_|refine Qa ?_ _|refine Qt ?_|refine Qs ?_ _|refine Qo ?_ ?_ _ _)))
    (first
     | (go_at_call 189;refine (zHu _ _ _).mono ?_;rintro e w' ⟨rfl,hb⟩))
   go_wp2
   go_roundw
   case rel=>exact ⟨k+1,by omega,by go_num,zA HB.out (by assumption)⟩
   case measure=>simp [intOf];omega
  ·go_wp2
   go_ret
   exact ⟨rfl,hB⟩
end Go.Proofs.YtkjbafcalamgnaaGreat
namespace Go.Proofs.YtkjbafcalamgnaaGreat
open Go.ChangeShapes Go.WideShapes Go.ChangeAt Go.RowKit Go.Deep
end Go.Proofs.YtkjbafcalamgnaaGreat
namespace Go.Proofs.YtkjbafcalamgnaaGreat
open Go.RowKit
end Go.Proofs.YtkjbafcalamgnaaGreat
namespace Go.Proofs.YtkjbafcalamgnaaGreat
open Go.ChangeShapes Go.WideShapes Go.ChangeAt Go.RowKit Go.Deep
theorem zV7 {H:Type}{enc:TypeId × Value→H}{w:World}{base fuel:Nat}{held:Bool}{cs:List Value}{y:DataW H × List MemPlace}(hf:DataW.trod enc Tryz.prog w base (fun _=>true) held fuel 133 cs=some y) :
  ∃ (a:Option Addr) (n cap:Nat) (X Y:Nat→Int),cs=[.slice a n cap]∧xR w a n X Y∧n≤cap∧cap≤maxLen:=by
 rcases open_slice_pairs Tryz.underlying133 Tryz.underlying238 zXv rfl rfl uM uM hf with ⟨hcs,_⟩ | ⟨x,l,c,m,n,V0,V1,D0,D1,P0,P1,hcs,_,hl,hc,hm,_,hx⟩
 ·exact ⟨none,0,0,fun _=>0,fun _=>0,hcs,.inl rfl,Nat.le_refl _,Nat.zero_le _⟩
 ·simp at hm
  subst hm
  refine ⟨some x,l,_,fun i=>intOf (V0 i),fun i=>intOf (V1 i),hcs,?_,hl,hc⟩
  by_cases h0:l=0
  ·exact .inl h0
  ·right
   obtain ⟨b,off,spot⟩:=x
   obtain ⟨e0,_,_,_⟩:=hx 0 (by omega)
   have hspot:spot=none:=by simpa [Addr.add] using World.cell?_spot e0
   subst hspot
   refine ⟨b,off,rfl,?_,fun i hi=>?_⟩
   ·have:=World.block_lt_of_cell? _ _ e0
    simpa [Addr.add] using this
   ·obtain ⟨e0,e1,g0,g1⟩:=hx i (by omega)
    obtain ⟨n0,q0,_,_⟩:=DataW.trod_int Tryz.underlying2 g0
    obtain ⟨n1,q1,_,_⟩:=DataW.trod_int Tryz.underlying2 g1
    simp at q0 q1
    rw [q0] at e0
    rw [q1] at e1
    simp only [q0,q1,intOf]
    rw [add_plain] at e0 e1
    exact ⟨e0,by rw [Nat.add_assoc];exact e1⟩
theorem zQ4:Tryz.prog.cellsOf 135=7:=by kernel_rfl
theorem zXu:Tryz.prog.cellsOf 133=1:=by kernel_rfl
theorem zXr:Tryz.prog.cellsOf 9=1:=by kernel_rfl
theorem zTr {H:Type}{enc:TypeId × Value→H}{w:World}{base fuel:Nat}{held:Bool}{cs:List Value}{y:DataW H × List MemPlace}(h:DataW.trod enc Tryz.prog w base (fun _=>true) held fuel 135 cs=some y) :
  ∃ (id la ki wi:Int) (a:Option Addr) (n cap:Nat) (X Y:Nat→Int) (lab:ByteArray) (pr:Int),cs=[.int .i64 id,.int .i64 la,.int .i64 ki,.int .i64 wi,.slice a n cap,.string lab,.int .i64 pr]∧xR w a n X Y∧n≤cap∧cap≤maxLen∧lab.size≤maxLen:=by
 obtain ⟨xs,m,rfl,hx,hl,hxl,hf⟩:=DataW.trod_struct Tryz.underlying135 h
 rw [zQ4] at hl
 have hxl7:xs.length=7:=hxl
 match cs,hl with
 | [v0,v1,v2,v3,v4,v5,v6],_ =>
  match xs,hxl7 with
  | [x0,x1,x2,x3,x4,x5,x6],_ =>
   have h0:=hf 0 _ rfl
   have h1:=hf 1 _ rfl
   have h2:=hf 2 _ rfl
   have h3:=hf 3 _ rfl
   have h4:=hf 4 _ rfl
   have h5:=hf 5 _ rfl
   have h6:=hf 6 _ rfl
   simp [uM,zXu,zXr] at h0 h1 h2 h3 h4 h5 h6
   obtain ⟨id,e0,_,_⟩:=DataW.trod_int Tryz.underlying2 h0
   obtain ⟨la,e1,_,_⟩:=DataW.trod_int Tryz.underlying2 h1
   obtain ⟨ki,e2,_,_⟩:=DataW.trod_int Tryz.underlying2 h2
   obtain ⟨wi,e3,_,_⟩:=DataW.trod_int Tryz.underlying2 h3
   obtain ⟨a,n,cap,X,Y,e4,hp,hn,hc⟩:=zV7 h4
   obtain ⟨lab,e5,_,hs⟩:=DataW.trod_string Tryz.underlying9 h5
   obtain ⟨pr,e6,_,_⟩:=DataW.trod_int Tryz.underlying2 h6
   simp at e0 e1 e2 e3 e4 e5 e6
   subst e0 e1 e2 e3 e4 e5 e6
   exact ⟨id,la,ki,wi,a,n,cap,X,Y,lab,pr,rfl,hp,hn,hc,hs⟩
end Go.Proofs.YtkjbafcalamgnaaGreat
namespace Go.Proofs.YtkjbafcalamgnaaGreat
open Go.RowKit
def zPc (c:Int):Bool:=decide (97≤c) && decide (c≤122)
theorem zNc (c:Int)(w:World):Calls Tryz.prog 188 #[.int .u8 c] w fun e w'=>e=.returned (.bool (zPc c))∧w'=w:=by
 unfold zPc
 go_enter Tryz.func188,Tryz.ntmps188
 by_cases h1:97≤c
 ·go_wp2
  all_goals (go_ret;exact ⟨zI (by simp [h1]),rfl⟩)
 ·have h2:decide (97≤c)=false:=by simpa using h1
  go_wp2
  all_goals (go_ret;exact ⟨zI (by simp [h1]),rfl⟩)
def vT (ki:Int)(n:Int):Bool:=if ki=1 then decide (n=1) else if ki=2 then inB n 2 12 else inB n 3 12
theorem zSg (ki n:Int)(w:World):Calls Tryz.prog 184 #[.int .i64 ki,.int .i64 n] w fun e w'=>e=.returned (.bool (vT ki n))∧w'=w:=by
 unfold vT
 by_cases h1:ki=1
 ·subst h1
  go_enter Tryz.func184,Tryz.ntmps184
  go_wp2
  go_ret
  exact ⟨zI rfl,rfl⟩
 ·by_cases h2:ki=2
  ·subst h2
   go_enter Tryz.func184,Tryz.ntmps184
   go_wp2_with (go_at_call 59;refine (yC _ _ _ _).mono ?_;rintro e w' ⟨rfl,rfl⟩)
   go_ret
   exact ⟨zI (by simp),rfl⟩
  ·have k1:(ki == 1)=false:=by simpa using h1
   have k2:(ki == 2)=false:=by simpa using h2
   go_enter Tryz.func184,Tryz.ntmps184
   go_wp2_with (go_at_call 59;refine (yC _ _ _ _).mono ?_;rintro e w' ⟨rfl,rfl⟩)
   go_ret
   exact ⟨zI (by simp [h1,h2]),rfl⟩
abbrev kP : Value := .iface 242 (.agg #[])
abbrev kL : Value := .iface 243 (.agg #[])
abbrev kA : Value := .iface 244 (.agg #[])
theorem zGn (w : World) : Calls Tryz.prog 187 #[] w fun e w' => e = .returned (.slice (some ⟨w.heap.size, 0, none⟩) 3 3) ∧ w' = w.alloc (.cells #[kP, kL, kA] 200) := by
 go_enter Tryz.func187, Tryz.ntmps187
 go_wp2
 go_ret
 exact ⟨rfl, rfl⟩
theorem numP (w : World) : (method 458 242 (.agg #[]) "loop.example/g00403/impl.number").run Tryz.prog w = .ok (296, .agg #[]) w := by kernel_rfl
theorem zDc (w : World) : Calls Tryz.prog 296 #[.agg #[]] w fun e w' => e = .returned (.int .i64 1) ∧ Bw w w' := by
 go_enter Tryz.func296, Tryz.ntmps296
 go_wp2
 go_ret
 exact ⟨rfl, by (repeat (first|exact Qr _ _|assumption|refine Qd ?_|refine Qa ?_ _|refine Qt ?_|refine Qs ?_ _|refine Qo ?_ ?_ _ _))⟩
theorem numL (w : World) : (method 458 243 (.agg #[]) "loop.example/g00403/impl.number").run Tryz.prog w = .ok (297, .agg #[]) w := by kernel_rfl
theorem zE5 (w : World) : Calls Tryz.prog 297 #[.agg #[]] w fun e w' => e = .returned (.int .i64 2) ∧ Bw w w' := by
 go_enter Tryz.func297, Tryz.ntmps297
 go_wp2
 go_ret
 exact ⟨rfl, by (repeat (first|exact Qr _ _|assumption|refine Qd ?_|refine Qa ?_ _|refine Qt ?_|refine Qs ?_ _|refine Qo ?_ ?_ _ _))⟩
theorem numA (w : World) : (method 458 244 (.agg #[]) "loop.example/g00403/impl.number").run Tryz.prog w = .ok (298, .agg #[]) w := by kernel_rfl
theorem zG8 (w : World) : Calls Tryz.prog 298 #[.agg #[]] w fun e w' => e = .returned (.int .i64 3) ∧ Bw w w' := by
 go_enter Tryz.func298, Tryz.ntmps298
 go_wp2
 go_ret
 exact ⟨rfl, by (repeat (first|exact Qr _ _|assumption|refine Qd ?_|refine Qa ?_ _|refine Qt ?_|refine Qs ?_ _|refine Qo ?_ ?_ _ _))⟩
theorem zW7 (w : World) : Calls Tryz.prog 146 #[.int .i64 1] w fun e w' => e = .returned kP ∧ Bw w w' := by
 have h1 := numP
 have h2 := numL
 have h3 := numA
 go_enter Tryz.func146, Tryz.ntmps146
 go_wp2_with fail
 refine (zGn _).mono ?_
 rintro e W ⟨rfl, hW⟩
 have hB : Bw w W := by subst hW; exact Qb
 have c0 : ∀ W', Bw W W' → W'.cell? ⟨w.heap.size, 0, none⟩ = some kP := fun W' h => by
  rw [h.cell (by subst hW; simp)]; subst hW; simp [go_sem]
 have c1 : ∀ W', Bw W W' → W'.cell? ⟨w.heap.size, 1, none⟩ = some kL := fun W' h => by
  rw [h.cell (by subst hW; simp)]; subst hW; simp [go_sem]
 have c2 : ∀ W', Bw W W' → W'.cell? ⟨w.heap.size, 2, none⟩ = some kA := fun W' h => by
  rw [h.cell (by subst hW; simp)]; subst hW; simp [go_sem]
 clear hW
 have HB : Hid (Bw w W) := hB
 clear hB
 have hr : Bw W W := Below.refl _ _
 go_wp2
 refine wp_loop_rounds 4 ?_
 rw [rounds_succ]
 go_wp2_with fail
 refine (zDc _).mono ?_
 rintro e w0 ⟨rfl, hb0⟩
 have hB0 : Bw W w0 := by exact Qb
 go_wp2_with fail
 go_ret
 exact ⟨rfl, zA HB.out (by assumption)⟩
theorem zW6 (w : World) : Calls Tryz.prog 146 #[.int .i64 2] w fun e w' => e = .returned kL ∧ Bw w w' := by
 have h1 := numP
 have h2 := numL
 have h3 := numA
 go_enter Tryz.func146, Tryz.ntmps146
 go_wp2_with fail
 refine (zGn _).mono ?_
 rintro e W ⟨rfl, hW⟩
 have hB : Bw w W := by subst hW; exact Qb
 have c0 : ∀ W', Bw W W' → W'.cell? ⟨w.heap.size, 0, none⟩ = some kP := fun W' h => by
  rw [h.cell (by subst hW; simp)]; subst hW; simp [go_sem]
 have c1 : ∀ W', Bw W W' → W'.cell? ⟨w.heap.size, 1, none⟩ = some kL := fun W' h => by
  rw [h.cell (by subst hW; simp)]; subst hW; simp [go_sem]
 have c2 : ∀ W', Bw W W' → W'.cell? ⟨w.heap.size, 2, none⟩ = some kA := fun W' h => by
  rw [h.cell (by subst hW; simp)]; subst hW; simp [go_sem]
 clear hW
 have HB : Hid (Bw w W) := hB
 clear hB
 have hr : Bw W W := Below.refl _ _
 go_wp2
 refine wp_loop_rounds 4 ?_
 rw [rounds_succ]
 go_wp2_with fail
 refine (zDc _).mono ?_
 rintro e w0 ⟨rfl, hb0⟩
 have hB0 : Bw W w0 := by exact Qb
 go_wp2_with fail
 rw [rounds_succ]
 go_wp2_with fail
 refine (zE5 _).mono ?_
 rintro e w1 ⟨rfl, hb1⟩
 have hB1 : Bw W w1 := by exact Qb
 go_wp2_with fail
 go_ret
 exact ⟨rfl, zA HB.out (by assumption)⟩
theorem zW5 (w : World) : Calls Tryz.prog 146 #[.int .i64 3] w fun e w' => e = .returned kA ∧ Bw w w' := by
 have h1 := numP
 have h2 := numL
 have h3 := numA
 go_enter Tryz.func146, Tryz.ntmps146
 go_wp2_with fail
 refine (zGn _).mono ?_
 rintro e W ⟨rfl, hW⟩
 have hB : Bw w W := by subst hW; exact Qb
 have c0 : ∀ W', Bw W W' → W'.cell? ⟨w.heap.size, 0, none⟩ = some kP := fun W' h => by
  rw [h.cell (by subst hW; simp)]; subst hW; simp [go_sem]
 have c1 : ∀ W', Bw W W' → W'.cell? ⟨w.heap.size, 1, none⟩ = some kL := fun W' h => by
  rw [h.cell (by subst hW; simp)]; subst hW; simp [go_sem]
 have c2 : ∀ W', Bw W W' → W'.cell? ⟨w.heap.size, 2, none⟩ = some kA := fun W' h => by
  rw [h.cell (by subst hW; simp)]; subst hW; simp [go_sem]
 clear hW
 have HB : Hid (Bw w W) := hB
 clear hB
 have hr : Bw W W := Below.refl _ _
 go_wp2
 refine wp_loop_rounds 4 ?_
 rw [rounds_succ]
 go_wp2_with fail
 refine (zDc _).mono ?_
 rintro e w0 ⟨rfl, hb0⟩
 have hB0 : Bw W w0 := by exact Qb
 go_wp2_with fail
 rw [rounds_succ]
 go_wp2_with fail
 refine (zE5 _).mono ?_
 rintro e w1 ⟨rfl, hb1⟩
 have hB1 : Bw W w1 := by exact Qb
 go_wp2_with fail
 rw [rounds_succ]
 go_wp2_with fail
 refine (zG8 _).mono ?_
 rintro e w2 ⟨rfl, hb2⟩
 have hB2 : Bw W w2 := by exact Qb
 go_wp2_with fail
 go_ret
 exact ⟨rfl, zA HB.out (by assumption)⟩
theorem zUv (ki : Int) (w : World) (k1 : ki ≠ 1) (k2 : ki ≠ 2) (k3 : ki ≠ 3) : Calls Tryz.prog 146 #[.int .i64 ki] w fun e w' => e = .returned .nilIface ∧ Bw w w' := by
 have h1 := numP
 have h2 := numL
 have h3 := numA
 have e1 : ((1 : Int) == ki) = false := by simp; omega
 have e2 : ((2 : Int) == ki) = false := by simp; omega
 have e3 : ((3 : Int) == ki) = false := by simp; omega
 go_enter Tryz.func146, Tryz.ntmps146
 go_wp2_with fail
 refine (zGn _).mono ?_
 rintro e W ⟨rfl, hW⟩
 have hB : Bw w W := by subst hW; exact Qb
 have c0 : ∀ W', Bw W W' → W'.cell? ⟨w.heap.size, 0, none⟩ = some kP := fun W' h => by
  rw [h.cell (by subst hW; simp)]; subst hW; simp [go_sem]
 have c1 : ∀ W', Bw W W' → W'.cell? ⟨w.heap.size, 1, none⟩ = some kL := fun W' h => by
  rw [h.cell (by subst hW; simp)]; subst hW; simp [go_sem]
 have c2 : ∀ W', Bw W W' → W'.cell? ⟨w.heap.size, 2, none⟩ = some kA := fun W' h => by
  rw [h.cell (by subst hW; simp)]; subst hW; simp [go_sem]
 clear hW
 have HB : Hid (Bw w W) := hB
 clear hB
 have hr : Bw W W := Below.refl _ _
 go_wp2
 refine wp_loop_rounds 4 ?_
 rw [rounds_succ]
 go_wp2_with fail
 refine (zDc _).mono ?_
 rintro e w0 ⟨rfl, hb0⟩
 have hB0 : Bw W w0 := by exact Qb
 go_wp2_with fail
 rw [rounds_succ]
 go_wp2_with fail
 refine (zE5 _).mono ?_
 rintro e w1 ⟨rfl, hb1⟩
 have hB1 : Bw W w1 := by exact Qb
 go_wp2_with fail
 rw [rounds_succ]
 go_wp2_with fail
 refine (zG8 _).mono ?_
 rintro e w2 ⟨rfl, hb2⟩
 have hB2 : Bw W w2 := by exact Qb
 go_wp2_with fail
 rw [rounds_succ]
 go_wp2_with fail
 go_ret
 exact ⟨rfl, zA HB.out (by assumption)⟩
theorem asPP (w : World) : (Instr.typeAssert kP 200 242 true).run Tryz.prog w = .ok (.tuple #[.agg #[], .bool true]) w := by kernel_rfl
theorem asPL (w : World) : (Instr.typeAssert kP 200 243 true).run Tryz.prog w = .ok (.tuple #[.agg #[], .bool false]) w := by kernel_rfl
theorem asPA (w : World) : (Instr.typeAssert kP 200 244 true).run Tryz.prog w = .ok (.tuple #[.agg #[], .bool false]) w := by kernel_rfl
abbrev wordP : ByteArray := ⟨#[112, 111, 105, 110, 116]⟩
theorem zRt (w : World) : Calls Tryz.prog 147 #[kP] w fun e w' => e = .returned (.tuple #[.string wordP, .int .i64 1]) ∧ Bw w w' := by
 have h1 := asPP
 have h2 := asPL
 have h3 := asPA
 go_enter Tryz.func147, Tryz.ntmps147
 go_wp2
 go_ret2
 exact ⟨rfl, by (repeat (first|exact Qr _ _|assumption|refine Qd ?_|refine Qa ?_ _|refine Qt ?_|refine Qs ?_ _|refine Qo ?_ ?_ _ _))⟩
theorem zBn (w : World) : Calls Tryz.prog 148 #[kP] w fun e w' => e = .returned (.int .i64 1) ∧ Bw w w' := by
 have h1 := numP
 have h2 := numL
 have h3 := numA
 go_enter Tryz.func148, Tryz.ntmps148
 go_wp2_with (first | (go_at_call 296; refine (zDc _).mono ?_; rintro e w' ⟨rfl, hb⟩) | (go_at_call 297; refine (zE5 _).mono ?_; rintro e w' ⟨rfl, hb⟩) | (go_at_call 298; refine (zG8 _).mono ?_; rintro e w' ⟨rfl, hb⟩))
 go_ret
 exact ⟨rfl, by (repeat (first|exact Qr _ _|assumption|refine Qd ?_|refine Qa ?_ _|refine Qt ?_|refine Qs ?_ _|refine Qo ?_ ?_ _ _))⟩
theorem asLP (w : World) : (Instr.typeAssert kL 200 242 true).run Tryz.prog w = .ok (.tuple #[.agg #[], .bool false]) w := by kernel_rfl
theorem asLL (w : World) : (Instr.typeAssert kL 200 243 true).run Tryz.prog w = .ok (.tuple #[.agg #[], .bool true]) w := by kernel_rfl
theorem asLA (w : World) : (Instr.typeAssert kL 200 244 true).run Tryz.prog w = .ok (.tuple #[.agg #[], .bool false]) w := by kernel_rfl
abbrev wordL : ByteArray := ⟨#[108, 105, 110, 101]⟩
theorem zRs (w : World) : Calls Tryz.prog 147 #[kL] w fun e w' => e = .returned (.tuple #[.string wordL, .int .i64 12]) ∧ Bw w w' := by
 have h1 := asLP
 have h2 := asLL
 have h3 := asLA
 go_enter Tryz.func147, Tryz.ntmps147
 go_wp2
 go_ret2
 exact ⟨rfl, by (repeat (first|exact Qr _ _|assumption|refine Qd ?_|refine Qa ?_ _|refine Qt ?_|refine Qs ?_ _|refine Qo ?_ ?_ _ _))⟩
theorem zBm (w : World) : Calls Tryz.prog 148 #[kL] w fun e w' => e = .returned (.int .i64 2) ∧ Bw w w' := by
 have h1 := numP
 have h2 := numL
 have h3 := numA
 go_enter Tryz.func148, Tryz.ntmps148
 go_wp2_with (first | (go_at_call 296; refine (zDc _).mono ?_; rintro e w' ⟨rfl, hb⟩) | (go_at_call 297; refine (zE5 _).mono ?_; rintro e w' ⟨rfl, hb⟩) | (go_at_call 298; refine (zG8 _).mono ?_; rintro e w' ⟨rfl, hb⟩))
 go_ret
 exact ⟨rfl, by (repeat (first|exact Qr _ _|assumption|refine Qd ?_|refine Qa ?_ _|refine Qt ?_|refine Qs ?_ _|refine Qo ?_ ?_ _ _))⟩
theorem asAP (w : World) : (Instr.typeAssert kA 200 242 true).run Tryz.prog w = .ok (.tuple #[.agg #[], .bool false]) w := by kernel_rfl
theorem asAL (w : World) : (Instr.typeAssert kA 200 243 true).run Tryz.prog w = .ok (.tuple #[.agg #[], .bool false]) w := by kernel_rfl
theorem asAA (w : World) : (Instr.typeAssert kA 200 244 true).run Tryz.prog w = .ok (.tuple #[.agg #[], .bool true]) w := by kernel_rfl
abbrev wordA : ByteArray := ⟨#[97, 114, 101, 97]⟩
theorem zRr (w : World) : Calls Tryz.prog 147 #[kA] w fun e w' => e = .returned (.tuple #[.string wordA, .int .i64 12]) ∧ Bw w w' := by
 have h1 := asAP
 have h2 := asAL
 have h3 := asAA
 go_enter Tryz.func147, Tryz.ntmps147
 go_wp2
 go_ret2
 exact ⟨rfl, by (repeat (first|exact Qr _ _|assumption|refine Qd ?_|refine Qa ?_ _|refine Qt ?_|refine Qs ?_ _|refine Qo ?_ ?_ _ _))⟩
theorem zBl (w : World) : Calls Tryz.prog 148 #[kA] w fun e w' => e = .returned (.int .i64 3) ∧ Bw w w' := by
 have h1 := numP
 have h2 := numL
 have h3 := numA
 go_enter Tryz.func148, Tryz.ntmps148
 go_wp2_with (first | (go_at_call 296; refine (zDc _).mono ?_; rintro e w' ⟨rfl, hb⟩) | (go_at_call 297; refine (zE5 _).mono ?_; rintro e w' ⟨rfl, hb⟩) | (go_at_call 298; refine (zG8 _).mono ?_; rintro e w' ⟨rfl, hb⟩))
 go_ret
 exact ⟨rfl, by (repeat (first|exact Qr _ _|assumption|refine Qd ?_|refine Qa ?_ _|refine Qt ?_|refine Qs ?_ _|refine Qo ?_ ?_ _ _))⟩
def vP (l:List (Int × Int)):List Value:=l.flatMap fun p=>[.int .i64 p.1,.int .i64 p.2]
def px (l:List (Int × Int))(i:Nat):Int:=(l.getD i (0,0)).1
def py (l:List (Int × Int))(i:Nat):Int:=(l.getD i (0,0)).2
theorem zDt (p:Int × Int)(l:List (Int × Int)):vP (p :: l)=.int .i64 p.1 :: .int .i64 p.2 :: vP l:=by simp [vP]
theorem zJ0 (l:List (Int × Int))(x y:Int):vP (l ++ [(x,y)])=vP l ++ [.int .i64 x,.int .i64 y]:=by simp [vP]
theorem zBe:∀ l:List (Int × Int),(vP l).length=l.length * 2
 | []=>rfl
 | p :: l=>by rw [zDt];simp [zBe l];omega
theorem zH4:∀ (l:List (Int × Int)) (i:Nat),i<l.length→(vP l)[i * 2]?=some (.int .i64 (px l i))∧(vP l)[i * 2+1]?=some (.int .i64 (py l i))
 | [],i,h=>absurd h (by simp)
 | p :: l,0,h=>by rw [zDt];simp [px,py]
 | p :: l,i+1,h=>by
  obtain ⟨h1,h2⟩:=zH4 l i (by simpa using h)
  rw [zDt]
  have e1:(i+1) * 2=i * 2+1+1:=by omega
  rw [e1]
  simp only [List.getElem?_cons_succ]
  exact ⟨h1,h2⟩
def Own (w:World)(base:Nat)(v:Value)(n:Nat)(X Y:Nat→Int):Prop :=
 ∃ a cap,v=.slice a n cap∧n≤cap∧(n=0∨∃ b,a=some ⟨b,0,none⟩∧base≤b∧b<w.heap.size∧zL w b 0 n X Y∧zC w b (n * 2))
def Row (base:Nat)(w:World)(v:Value)(l:List (Int × Int)):Prop:=w.ownsRow base 206 2 v l.length (vP l)
theorem Row.own {base:Nat}{w:World}{v:Value}{l:List (Int × Int)}(h:Row base w v l):Own w base v l.length (px l) (py l):=by
 obtain ⟨h1,h2 | ⟨g,cp,cur,hv,hg,hh,hkc,hcm,hcs,htk⟩⟩:=h
 ·obtain ⟨rfl,h0⟩:=h2
  rw [h0]
  exact ⟨none,0,rfl,Nat.le_refl _,.inl rfl⟩
 ·have hgl:g<w.heap.size:=by
   rcases Nat.lt_or_ge g w.heap.size with h' | h'
   ·exact h'
   ·rw [Array.getElem?_eq_none h'] at hh;cases hh
  have hrow:w.ownsRow base 206 2 (.slice (some ⟨g,0,none⟩) l.length cp) l.length (vP l):=⟨h1,.inr ⟨g,cp,cur,rfl,hg,hh,hkc,hcm,hcs,htk⟩⟩
  refine ⟨some ⟨g,0,none⟩,cp,hv,hkc,.inr ⟨g,rfl,hg,hgl,fun i hi=>?_,fun o ho=>⟨?_,hrow.frozenAt o⟩⟩⟩
  ·obtain ⟨e1,e2⟩:=zH4 l i hi
   simp only [Nat.zero_add]
   exact ⟨(hrow.cellAt _ (by omega)).trans e1,(hrow.cellAt _ (by omega)).trans e2⟩
  ·rw [hrow.cellAt o ho]
   have hlt:o<(vP l).length:=by rw [zBe];exact ho
   exact ⟨(vP l)[o],List.getElem?_eq_getElem hlt⟩
theorem Row.below {base:Nat}{w w':World}{v:Value}{l:List (Int × Int)}(h:Row base w v l)(hb:Below w.heap.size w w'):Row base w' v l:=by
 obtain ⟨h1,h2 | ⟨g,cp,cur,hv,hg,hh,hr⟩⟩:=h
 ·exact ⟨h1,.inl h2⟩
 ·refine ⟨h1,.inr ⟨g,cp,cur,hv,hg,?_,hr⟩⟩
  have hgl:g<w.heap.size:=by
   rcases Nat.lt_or_ge g w.heap.size with h' | h'
   ·exact h'
   ·rw [Array.getElem?_eq_none h'] at hh;cases hh
  rw [hb.block g hgl]
  exact hh
theorem zCl (w:World)(r:Option Nat):w.grownBy w r:=⟨rfl,rfl,rfl,Nat.le_refl _,fun _ _ _=>rfl⟩
theorem zDq {a b c:World}{r:Option Nat}(h:a.grownBy b r)(k:b.grownBy c r):a.grownBy c r :=
 ⟨k.os.trans h.os,k.tape.trans h.tape,k.output.trans h.output,Nat.le_trans h.size k.size,fun j hj hs=>(k.block j (Nat.lt_of_lt_of_le hj h.size) hs).trans (h.block j hj hs)⟩
theorem zCc {a b:World}{s:Nat}(h:a.grownBy b (some s))(o:Nat)(v:Value):a.grownBy (b.setCell ⟨s,o,none⟩ v) (some s) :=
 zDq h ⟨rfl,rfl,rfl,by simp [World.setCell],fun j _ hs=>Below.heap_setCell _ _ _ _ (fun e=>hs (by simp [e]))⟩
theorem uF {B s:Nat}{a b:World}(h:a.grownBy b (some s))(hB:B≤s)(hl:B≤a.heap.size):Below B a b :=
 ⟨h.os,h.tape,h.output,h.size,fun k hk=>h.block k (by omega) (fun e=>by injection e with e;omega)⟩
theorem zU8 (a a':Option Addr)(n cap cap':Nat)(X Y:Nat→Int)(w:World)(hp:xR w a n X Y)(hq:xR w a' n X Y)(hmax:n≤1048576) :
  Calls Tryz.prog 151 #[.slice a n cap,.slice a' n cap'] w fun e w'=>e=.returned (.bool true)∧Bw w w':=by
 have HP:Hid (xR w a n X Y):=hp
 have HQ:Hid (xR w a' n X Y):=hq
 clear hp hq
 go_enter Tryz.func151,Tryz.ntmps151
 go_wp2
 go_loopw [5] (fun i wr=>∃ k:Nat,k≤n∧i=.int .i64 k∧Bw w wr) (fun i _=>n - (intOf i).toNat)
 case atStart=>exact ⟨0,by omega,rfl,Below.refl _ _⟩
 case round =>
  obtain ⟨k,hk,rfl,hB⟩:=hrel
  by_cases hlt:k<n
  ·rcases HP.out with h0 | ⟨b,off,rfl,hb,hpt⟩
   ·omega
   rcases HQ.out with h0 | ⟨d,off',rfl,hd,hqt⟩
   ·omega
   have c0:∀ W',Bw wr W'→W'.cell? ⟨b,off+k * 2,none⟩=some (.int .i64 (X k)):=fun W' h =>
    ((hpt.below hB hb).below h (Nat.lt_of_lt_of_le hb hB.size) k hlt).1
   have c1:∀ W',Bw wr W'→W'.cell? ⟨b,off+k * 2+1,none⟩=some (.int .i64 (Y k)):=fun W' h =>
    ((hpt.below hB hb).below h (Nat.lt_of_lt_of_le hb hB.size) k hlt).2
   have e0:∀ W',Bw wr W'→W'.cell? ⟨d,off'+k * 2,none⟩=some (.int .i64 (X k)):=fun W' h =>
    ((hqt.below hB hd).below h (Nat.lt_of_lt_of_le hd hB.size) k hlt).1
   have e1:∀ W',Bw wr W'→W'.cell? ⟨d,off'+k * 2+1,none⟩=some (.int .i64 (Y k)):=fun W' h =>
    ((hqt.below hB hd).below h (Nat.lt_of_lt_of_le hd hB.size) k hlt).2
   have HB:Hid (Bw w wr):=hB
   clear hB hpt hqt
   have hi:(k:Int)<(n:Int):=by omega
   have hi0:(0:Int)≤(k:Int):=by omega
   go_wp2
   go_region_held3 (fun W'=>Bw wr W') ((repeat (first|exact Qr _ _|assumption|refine Qd ?_|refine Qa ?_ _|refine Qt ?_|refine Qs ?_ _|refine Qo ?_ ?_ _ _)))
    (first
     | (go_at_call 189;refine (zHu _ _ _).mono ?_;rintro e w' ⟨rfl,hb⟩))
   go_wp2
   go_roundw
   case rel=>exact ⟨k+1,by omega,by go_num,zA HB.out (by assumption)⟩
   case measure=>simp [intOf];omega
  ·go_wp2
   go_ret
   exact ⟨rfl,hB⟩
def mkX (k i:Nat):Int:=((k+2 * i:Nat):Int)
def mkY (k i:Nat):Int:=((k+2 * i+1:Nat):Int)
theorem zIp (b n cap k0:Nat)(w:World)(hT:zC w b (n * 2))(hb:b<w.heap.size)(hmax:n≤1048576)(hk0:k0≤6000000000000000000) :
  Calls Tryz.prog 178 #[.slice (some ⟨b,0,none⟩) n cap,.int .i64 (k0:Int)] w fun e w'=>e=.returned (.int .i64 ((k0+2 * n:Nat):Int))∧w.grownBy w' (some b)∧zC w' b (n * 2)∧zL w' b 0 n (mkX k0) (mkY k0):=by
 have HT0:Hid (zC w b (n * 2)):=hT
 clear hT
 go_enter Tryz.func178,Tryz.ntmps178
 go_wp2_with fail
 go_loopw [1,5] (fun kk i wr=>∃ j K:Nat,j≤n∧Hid (K=k0+2 * j)∧kk=.int .i64 (K:Int)∧i=.int .i64 (j:Int)∧w.grownBy wr (some b)∧zC wr b (n * 2)∧zL wr b 0 j (mkX k0) (mkY k0)) (fun _ i _=>n - (intOf i).toNat)
 case atStart=>exact ⟨0,k0,by omega,rfl,rfl,rfl,zCl _ _,HT0.out,fun i hi=>by omega⟩
 case round =>
  obtain ⟨j,K,hj,HK,rfl,rfl,hG,hT,hP⟩:=hrel
  by_cases hlt:j<n
  ·have hKb:K≤6000000000002097152:=by have:=HK.out;omega
   have t0:=hT.cell (j * 2) (by omega)
   have t1:=hT.cell (j * 2+1) (by omega)
   have f0:=(hT (j * 2) (by omega)).2
   have f1:=(hT (j * 2+1) (by omega)).2
   have HT:Hid (zC wr b (n * 2)):=hT
   have HG:Hid (w.grownBy wr (some b)):=hG
   have HP:Hid (zL wr b 0 j (mkX k0) (mkY k0)):=hP
   clear hT hG hP
   have hi:(j:Int)<(n:Int):=by omega
   go_wp2
   go_roundw
   case rel =>
    have hx:mkX k0 j=(K:Int):=by have:=HK.out;simp [mkX];omega
    have hy:mkY k0 j=(K:Int)+1:=by have:=HK.out;simp [mkY];omega
    have hfs:=zNn (X:=mkX k0) (Y:=mkY k0) HT.out hlt HP.out
    rw [hx,hy] at hfs
    exact ⟨j+1,K+2,by omega,by have:=HK.out;show _=_;omega,by go_num,by go_num,zCc (zCc HG.out _ _) _ _,(HT.out.set _ _).set _ _,hfs⟩
   case measure=>simp [intOf];omega
  ·go_wp2
   go_ret
   have hjn:j=n:=by omega
   subst hjn
   exact ⟨zD (by have:=HK.out;omega),hG,hT,hP⟩
theorem zIw (b n cap k0:Nat)(w:World)(hp:zL w b 0 n (mkX k0) (mkY k0))(hb:b<w.heap.size)(hmax:n≤1048576)(hk0:k0≤6000000000000000000) :
  Calls Tryz.prog 206 #[.slice (some ⟨b,0,none⟩) n cap,.int .i64 (k0:Int)] w fun e w'=>e=.returned (.int .i64 ((k0+2 * n:Nat):Int))∧Bw w w':=by
 have HP:Hid (zL w b 0 n (mkX k0) (mkY k0)):=hp
 clear hp
 go_enter Tryz.func206,Tryz.ntmps206
 go_wp2_with fail
 go_loopw [1,5] (fun kk i wr=>∃ j K:Nat,j≤n∧Hid (K=k0+2 * j)∧kk=.int .i64 (K:Int)∧i=.int .i64 (j:Int)∧Bw w wr) (fun _ i _=>n - (intOf i).toNat)
 case atStart=>exact ⟨0,k0,by omega,rfl,rfl,rfl,Below.refl _ _⟩
 case round =>
  obtain ⟨j,K,hj,HK,rfl,rfl,hB⟩:=hrel
  by_cases hlt:j<n
  ·have hKb:K≤6000000000002097152:=by have:=HK.out;omega
   have hx:mkX k0 j=(K:Int):=by have:=HK.out;simp [mkX];omega
   have hy:mkY k0 j=(K:Int)+1:=by have:=HK.out;simp [mkY];omega
   obtain ⟨t0,t1⟩:=(HP.out.below hB hb) j hlt
   rw [hx] at t0
   rw [hy] at t1
   simp only [Nat.zero_add] at t0 t1
   have HB:Hid (Bw w wr):=hB
   clear hB hx hy
   have hi:(j:Int)<(n:Int):=by omega
   go_wp2
   go_roundw
   case rel=>exact ⟨j+1,K+2,by omega,by have:=HK.out;show _=_;omega,by go_num,by go_num,HB.out⟩
   case measure=>simp [intOf];omega
  ·go_wp2
   go_ret
   have hjn:j=n:=by omega
   subst hjn
   exact ⟨zD (by have:=HK.out;omega),hB⟩
def vE (X Y:Nat→Int)(l:List Nat):List (Int × Int):=l.map fun i=>(X i,Y i)
theorem zAd {w:World}{base size n:Nat}{e:TypeId}{v:Value}{xs:List Value}(h:w.ownsRow base e size v n xs):∀ g,v.ownBlock=some g→∃ cur,w.heap[g]?=some (.cells cur e (0,0)):=fun g hg=>by
 obtain ⟨_,h2 | ⟨g',cp,cur,rfl,_,hh,_⟩⟩:=h
 ·rw [h2.1] at hg;cases hg
 ·simp [Value.ownBlock] at hg
  subst hg
  exact ⟨cur,hh⟩
theorem zC.belowB' {W W':World}{r n B:Nat}(h:zC W r n)(hb:Below B W W')(hr:r<B):zC W' r n:=fun o ho=>by
 obtain ⟨u,hu⟩:=(h o ho).1
 exact ⟨⟨u,(hb.cell (p:=⟨r,o,none⟩) hr).trans hu⟩,(hb.frozen (p:=⟨r,o,none⟩) hr).trans (h o ho).2⟩
theorem yW {w:World}{k:Nat}{o:Obj}(h:w.heap[k]?=some o):k<w.heap.size:=by
 rcases Nat.lt_or_ge k w.heap.size with h' | h'
 ·exact h'
 ·rw [Array.getElem?_eq_none h'] at h;cases h
theorem zCk:(Tryz.prog.info? 2).map (fun i=>(i.zero,i.size,i.bytes))=some (some (.int .i64 0),1,8):=by kernel_rfl
def zB2 (base:Nat)(w:World)(v:Value)(l:List Int):Prop:=w.ownsRow base 2 1 v l.length (l.map (.int .i64 ·))
def nz (l:List Int)(i:Nat):Int:=l.getD i 0
theorem zB2.own {base:Nat}{w:World}{v:Value}{l:List Int}(h:zB2 base w v l):OwnN w base v l.length (nz l):=by
 obtain ⟨h1,h2 | ⟨g,cp,cur,hv,hg,hh,hkc,hcm,hcs,htk⟩⟩:=id h
 ·obtain ⟨rfl,h0⟩:=h2
  rw [h0]
  exact ⟨none,0,rfl,Nat.le_refl _,.inl rfl⟩
 ·have hgl:g<w.heap.size:=by
   rcases Nat.lt_or_ge g w.heap.size with h' | h'
   ·exact h'
   ·rw [Array.getElem?_eq_none h'] at hh;cases hh
  have hrow:w.ownsRow base 2 1 (.slice (some ⟨g,0,none⟩) l.length cp) l.length (l.map (.int .i64 ·)):=⟨h1,.inr ⟨g,cp,cur,rfl,hg,hh,hkc,hcm,hcs,htk⟩⟩
  refine ⟨some ⟨g,0,none⟩,cp,hv,hkc,.inr ⟨g,rfl,hg,hgl,fun i hi=>?_,fun o ho=>⟨?_,hrow.frozenAt o⟩⟩⟩
  ·rw [Nat.zero_add,hrow.cellAt i (by omega),List.getElem?_map]
   simp [nz,List.getD_eq_getElem?_getD,hi]
  ·rw [hrow.cellAt o (by omega),List.getElem?_map]
   simp [ho]
theorem zB2.below {base:Nat}{w w':World}{v:Value}{l:List Int}(h:zB2 base w v l)(hb:Below w.heap.size w w'):zB2 base w' v l:=by
 obtain ⟨h1,h2 | ⟨g,cp,cur,hv,hg,hh,hr⟩⟩:=h
 ·exact ⟨h1,.inl h2⟩
 ·refine ⟨h1,.inr ⟨g,cp,cur,hv,hg,?_,hr⟩⟩
  have hgl:g<w.heap.size:=by
   rcases Nat.lt_or_ge g w.heap.size with h' | h'
   ·exact h'
   ·rw [Array.getElem?_eq_none h'] at hh;cases hh
  rw [hb.block g hgl]
  exact hh
theorem zB2.no (base:Nat)(w:World):zB2 base w (.slice none 0 0) []:=World.ownsRow_nil _ _ _ _
theorem zB2.wide {base B:Nat}{w:World}{v:Value}{l:List Int}(h:zB2 base w v l)(hB:B≤base):zB2 B w v l:=by
 obtain ⟨h1,h2 | ⟨g,cp,cur,hv,hg,hr⟩⟩:=h
 ·exact ⟨h1,.inl h2⟩
 ·exact ⟨h1,.inr ⟨g,cp,cur,hv,by omega,hr⟩⟩
theorem zB2.other {base r o:Nat}{w:World}{v u:Value}{l:List Int}(h:zB2 base w v l)(hr:r<base):zB2 base (w.setCell ⟨r,o,none⟩ u) v l:=by
 obtain ⟨h1,h2 | ⟨g,cp,cur,hv,hg,hh,hr'⟩⟩:=h
 ·exact ⟨h1,.inl h2⟩
 ·exact ⟨h1,.inr ⟨g,cp,cur,hv,hg,by rw [Below.heap_setCell _ _ _ _ (by simp;omega)];exact hh,hr'⟩⟩
theorem zWv (n:Nat)(h:n≤1048576)(w:World) :
  (Instr.makeSlice 140 (.int .i64 (n:Int)) (.int .i64 (n:Int))).run Tryz.prog w=.ok (.slice (some ⟨w.heap.size,0,none⟩) n n) (w.alloc (.cells (madeCells #[.int .i64 0] n) 2)):=by
 obtain ⟨i,hi,hz,hs,hb⟩:=info_parts zCk
 have hr:=run_make (P:=Tryz.prog) w 140 2 i _ Tryz.underlying140 hi hz .i64 .i64 (n:Int) (n:Int) (by omega) (Int.le_refl _) (by rw [hb];omega) (by omega)
 simp only [Int.toNat_natCast,hs,Nat.mul_one] at hr
 exact hr
theorem zOq (n:Nat)(w:World)(t:TypeId):zC (w.alloc (.cells (madeCells #[.int .i64 0] n) t)) w.heap.size n:=fun o ho=>by
 have hz:=size_madeCells #[.int .i64 0] n
 refine ⟨⟨(madeCells #[.int .i64 0] n)[o]'(by rw [hz];exact ho),?_⟩,World.frozen?_alloc_at _ _ _ _ rfl⟩
 rw [World.cell?_alloc_at _ _ _ _ rfl]
 exact Array.getElem?_eq_getElem _
theorem zMe (a:Option Addr)(n cap:Nat)(Z:Nat→Int)(w:World)(hp:zCq w a n Z)(hmax:n≤1048576) :
  Calls Tryz.prog 161 #[.slice a n cap] w fun e w'=>∃ b,e=.returned (.slice (some ⟨b,0,none⟩) n n)∧w.heap.size≤b∧b<w'.heap.size∧zA2 w' b 0 n Z∧zC w' b n∧Bw w w':=by
 have hmk:=zWv n hmax
 have HP:Hid (zCq w a n Z):=hp
 clear hp
 go_enter Tryz.func161,Tryz.ntmps161
 go_wp2
 generalize hW:(w.alloc _:World)=W
 have HB0:Hid (Bw w W):=by show Below _ _ _;subst hW;exact Qb
 have HT0:Hid (zC W w.heap.size n):=by show zC _ _ _;subst hW;exact zOq _ _ _
 have HL0:Hid (w.heap.size<W.heap.size):=by show _<_;subst hW;simp
 clear hW hmk
 go_loopw [4] (fun i wr=>∃ k:Nat,k≤n∧i=.int .i64 k∧Bw w wr∧zC wr w.heap.size n∧zA2 wr w.heap.size 0 k Z∧w.heap.size<wr.heap.size) (fun i _=>n - (intOf i).toNat)
 case atStart=>exact ⟨0,by omega,rfl,HB0.out,HT0.out,fun i hi=>by omega,HL0.out⟩
 case round =>
  obtain ⟨k,hk,rfl,hB,hT,hPt,hlw⟩:=hrel
  by_cases hlt:k<n
  ·rcases HP.out with h0 | ⟨b,off,rfl,hbl,hpt⟩
   ·omega
   ·have hx:wr.cell? ⟨b,off+k,none⟩=some (.int .i64 (Z k)):=(hB.cell (p:=⟨b,off+k,none⟩) hbl).trans (hpt k hlt)
    have HB:Hid (Bw w wr):=hB
    have HT:Hid (zC wr w.heap.size n):=hT
    have HQ:Hid (zA2 wr w.heap.size 0 k Z):=hPt
    have t0:=hT.cell k hlt
    have f0:=(hT k hlt).2
    clear hB hT hPt hpt
    have hi:(k:Int)<(n:Int):=by omega
    have hi0:(0:Int)≤(k:Int):=by omega
    go_wp2
    go_roundw
    case rel =>
     refine ⟨k+1,by omega,by go_num,?_,HT.out.setN _ _,fillN HT.out hlt HQ.out,?_⟩
     ·have HB':=HB.out
      exact Qb
     ·simp;omega
    case measure=>simp [intOf];omega
  ·go_wp2
   go_ret
   have hkn:k=n:=by omega
   subst hkn
   exact ⟨_,rfl,Nat.le_refl _,hlw,hPt,hT,hB⟩
end Go.Proofs.YtkjbafcalamgnaaGreat
