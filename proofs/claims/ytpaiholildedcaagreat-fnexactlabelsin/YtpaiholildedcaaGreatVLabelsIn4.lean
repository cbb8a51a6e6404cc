/- Texts. -/
import Derived.Test.YtpaiholildedcaaGreatVLabelsIn1
import Derived.Test.YtpaiholildedcaaGreatVLabelsIn3
import Derived.Deep.DeepCutAuto
set_option linter.unusedSimpArgs false
set_option linter.unusedVariables false
set_option maxRecDepth 100000
set_option maxHeartbeats 32000000
namespace Go.Proofs.YtpaiholildedcaaGreat
open Go.RowKit
def zK (w:World)(b off n:Nat)(X Y:Nat→Int):Prop :=
 ∀ i,i<n→w.cell? ⟨b,off+i * 2,none⟩=some (.int .i64 (X i))∧w.cell? ⟨b,off+i * 2+1,none⟩=some (.int .i64 (Y i))
theorem zK.below {w w':World}{b off n B:Nat}{X Y:Nat→Int}(h:zK w b off n X Y)(hb:Below B w w')(hB:b<B):zK w' b off n X Y:=fun i hi =>
 ⟨(hb.cell (p:=⟨b,off+i * 2,none⟩) hB).trans (h i hi).1,(hb.cell (p:=⟨b,off+i * 2+1,none⟩) hB).trans (h i hi).2⟩
def zJ3 (n:Nat)(X Y:Nat→Int):Bool:=decide (∀ i,i<n→okP (X i) (Y i)=true)
def zCg (n:Nat)(X Y:Nat→Int):Int:=if zJ3 n X Y=true then 0 else 3
theorem zDk {n:Nat}{X Y:Nat→Int}(k:Nat)(hk:k<n)(h:okP (X k) (Y k)=false):zCg n X Y=3:=by
 unfold zCg zJ3
 rw [if_neg]
 intro hc
 have:=of_decide_eq_true hc k hk
 rw [h] at this
 cases this
theorem zMh {n:Nat}{X Y:Nat→Int}(h:∀ i,i<n→okP (X i) (Y i)=true):zCg n X Y=0:=by
 unfold zCg zJ3
 rw [if_pos (decide_eq_true h)]
theorem zBv (b off n cap:Nat)(X Y:Nat→Int)(w:World)(hp:zK w b off n X Y)(hbl:b<w.heap.size)(hcap:n≤cap)(hmax:n≤1048576) :
  Calls Tryz.prog 301 #[.slice (some ⟨b,off,none⟩) n cap] w fun e w'=>e=.returned (.int .i64 (zCg n X Y))∧Bw w w':=by
 have HP:Hid (zK w b off n X Y):=hp
 clear hp
 go_enter Tryz.func301,Tryz.ntmps301
 go_wp2
 go_loopw [8] (fun i wr=>∃ k:Nat,k≤n∧i=.int .i64 k∧(∀ j,j<k→okP (X j) (Y j)=true)∧Bw w wr) (fun i _=>n - (intOf i).toNat)
 case atStart=>exact ⟨0,by omega,rfl,by omega,Below.refl _ _⟩
 case round =>
  obtain ⟨k,hk2,rfl,hok,hB⟩:=hrel
  by_cases hlt:k<n
  ·obtain ⟨hx,hy⟩:=(HP.out.below hB hbl) k hlt
   have HO:Hid (∀ j,j<k→okP (X j) (Y j)=true):=hok
   have HB:Hid (Bw w wr):=hB
   have hsz:=hB.size
   clear hok hB
   have hi:(k:Int)<(n:Int):=by omega
   cases hq:okP (X k) (Y k)
   ·have hz:zHz (X k) (Y k)=3:=zMg hq
    go_wp2_with (go_at_call 300;refine (xC _ _ _).mono ?_;rintro e w' ⟨rfl,hb1⟩)
    go_ret
    exact ⟨zE (by rw [zDk k hlt hq]),by have HB':=HB.out;exact Qb⟩
   ·have hz:zHz (X k) (Y k)=0:=zHy hq
    go_wp2_with (go_at_call 300;refine (xC _ _ _).mono ?_;rintro e w' ⟨rfl,hb1⟩)
    go_roundw
    case rel=>exact ⟨k+1,by omega,by go_num,fun j hj=>by
      by_cases e:j=k
      ·rw [e];exact hq
      ·exact HO.out j (by omega),by have HB':=HB.out;exact Qb⟩
    case measure=>simp [intOf];omega
  ·go_wp2
   go_ret
   exact ⟨zE (zMh (fun i hi=>hok i (by omega))).symm,hB⟩
def xY (w:World)(a:Option Addr)(n:Nat)(X Y:Nat→Int):Prop :=
 n=0∨∃ b off,a=some ⟨b,off,none⟩∧b<w.heap.size∧zK w b off n X Y
theorem xY.below {w w':World}{a:Option Addr}{n:Nat}{X Y:Nat→Int}(h:xY w a n X Y)(hb:Below w.heap.size w w'):xY w' a n X Y:=by
 rcases h with h | ⟨b,off,e,hl,hp⟩
 ·exact .inl h
 ·exact .inr ⟨b,off,e,Nat.lt_of_lt_of_le hl hb.size,hp.below hb hl⟩
theorem zD.set {W:World}{r n:Nat}(h:zD W r n)(o:Nat)(v:Value):zD (W.setCell ⟨r,o,none⟩ v) r n:=fun o' ho=>by
 obtain ⟨u,hu⟩:=(h o' ho).1
 refine ⟨?_,?_⟩
 ·by_cases e:o=o'
  ·subst e
   exact ⟨v,World.cell?_setCell_same _ _ _ (by rw [hu])⟩
  ·exact ⟨u,by rw [World.cell?_setCell_other];exact hu;simp [e]⟩
 ·rw [World.frozen?_setCell];exact (h o' ho).2
theorem zJf {W:World}{B n k:Nat}{X Y:Nat→Int}(hT:zD W B (n * 2))(hk:k<n)(hp:zK W B 0 k X Y) :
  zK ((W.setCell ⟨B,k * 2,none⟩ (.int .i64 (X k))).setCell ⟨B,k * 2+1,none⟩ (.int .i64 (Y k))) B 0 (k+1) X Y:=fun i hi=>by
 by_cases e:i=k
 ·subst e
  obtain ⟨u,hu⟩:=(hT (i * 2) (by omega)).1
  obtain ⟨v,hv⟩:=((hT.set (i * 2) (.int .i64 (X i))) (i * 2+1) (by omega)).1
  refine ⟨?_,?_⟩
  ·rw [World.cell?_setCell_other]
   ·simpa using World.cell?_setCell_same _ _ _ (by rw [hu])
   ·simp
  ·simpa using World.cell?_setCell_same _ _ _ (by rw [hv])
 ·obtain ⟨h1,h2⟩:=hp i (by omega)
  refine ⟨?_,?_⟩
  ·rw [World.cell?_setCell_other,World.cell?_setCell_other]
   ·exact h1
   ·simp <;> omega
   ·simp <;> omega
  ·rw [World.cell?_setCell_other,World.cell?_setCell_other]
   ·exact h2
   ·simp <;> omega
   ·simp <;> omega
theorem info_ip:(Tryz.prog.info? 215).map (fun i=>(i.zero,i.size,i.bytes))=some (some (.agg #[.int .i64 0,.int .i64 0]),2,16):=by kernel_rfl
theorem zRx (n:Nat)(h:n≤1048576)(w:World) :
  (Instr.makeSlice 207 (.int .i64 (n:Int)) (.int .i64 (n:Int))).run Tryz.prog w=.ok (.slice (some ⟨w.heap.size,0,none⟩) n n) (w.alloc (.cells (madeCells #[.int .i64 0,.int .i64 0] (n * 2)) 215)):=by
 obtain ⟨i,hi,hz,hs,hb⟩:=info_parts info_ip
 have hr:=run_make (P:=Tryz.prog) w 207 215 i _ Tryz.underlying207 hi hz .i64 .i64 (n:Int) (n:Int) (by omega) (Int.le_refl _) (by rw [hb];omega) (by omega)
 simp only [Int.toNat_natCast,hs] at hr
 exact hr
theorem zM0 (n:Nat)(w:World)(t:TypeId):zD (w.alloc (.cells (madeCells #[.int .i64 0,.int .i64 0] n) t)) w.heap.size n:=fun o ho=>by
 have hz:=size_madeCells #[.int .i64 0,.int .i64 0] n
 refine ⟨⟨(madeCells #[.int .i64 0,.int .i64 0] n)[o]'(by rw [hz];exact ho),?_⟩,World.frozen?_alloc_at _ _ _ _ rfl⟩
 rw [World.cell?_alloc_at _ _ _ _ rfl]
 exact Array.getElem?_eq_getElem _
theorem zIa (a:Option Addr)(n cap:Nat)(X Y:Nat→Int)(w:World)(hp:xY w a n X Y)(hmax:n≤1048576) :
  Calls Tryz.prog 288 #[.slice a n cap] w fun e w'=>∃ b,e=.returned (.slice (some ⟨b,0,none⟩) n n)∧w.heap.size≤b∧b<w'.heap.size∧zK w' b 0 n X Y∧zD w' b (n * 2)∧Bw w w':=by
 have hmk:=zRx n hmax
 have HP:Hid (xY w a n X Y):=hp
 clear hp
 go_enter Tryz.func288,Tryz.ntmps288
 go_wp2
 generalize hW:(w.alloc _:World)=W
 have HB0:Hid (Bw w W):=by show Below _ _ _;subst hW;exact Qb
 have HT0:Hid (zD W w.heap.size (n * 2)):=by show zD _ _ _;subst hW;exact zM0 _ _ _
 have HL0:Hid (w.heap.size<W.heap.size):=by show _<_;subst hW;simp
 clear hW hmk
 go_loopw [4] (fun i wr=>∃ k:Nat,k≤n∧i=.int .i64 k∧Bw w wr∧zD wr w.heap.size (n * 2)∧zK wr w.heap.size 0 k X Y∧w.heap.size<wr.heap.size) (fun i _=>n - (intOf i).toNat)
 case atStart=>exact ⟨0,by omega,rfl,HB0.out,HT0.out,fun i hi=>by omega,HL0.out⟩
 case round =>
  obtain ⟨k,hk,rfl,hB,hT,hPt,hlw⟩:=hrel
  by_cases hlt:k<n
  ·rcases HP.out with h0 | ⟨b,off,rfl,hbl,hpt⟩
   ·omega
   ·obtain ⟨hx,hy⟩:=(hpt.below hB hbl) k hlt
    have HB:Hid (Bw w wr):=hB
    have HT:Hid (zD wr w.heap.size (n * 2)):=hT
    have HQ:Hid (zK wr w.heap.size 0 k X Y):=hPt
    clear hB hT hPt hpt
    have hi:(k:Int)<(n:Int):=by omega
    go_wp2_with fail
    refine (zKe _ _ _).mono ?_
    rintro e w' ⟨rfl,hb⟩
    have hT':=HT.out.below hb
    have t0:=hT'.cell (k * 2) (by omega)
    have t1:=hT'.cell (k * 2+1) (by omega)
    have f0:=(hT' (k * 2) (by omega)).2
    have f1:=(hT' (k * 2+1) (by omega)).2
    have HT':Hid (zD w' w.heap.size (n * 2)):=hT'
    clear hT'
    go_wp2
    go_roundw
    case rel =>
     have hsz:=hb.size
     refine ⟨k+1,by omega,by go_num,?_,(HT'.out.set _ _).set _ _,zJf HT'.out hlt (HQ.out.below hb hlw),?_⟩
     ·have HB':=HB.out
      exact Qb
     ·simp;omega
    case measure=>simp [intOf];omega
  ·go_wp2
   go_ret
   have hkn:k=n:=by omega
   subst hkn
   exact ⟨_,rfl,Nat.le_refl _,hlw,hPt,hT,hB⟩
theorem zJl (b d n:Nat)(X Y:Nat→Int)(w:World)(hp:zK w b 0 n X Y)(hq:zK w d 0 n X Y)(hb:b<w.heap.size)(hd:d<w.heap.size)(hmax:n≤1048576) :
  Calls Tryz.prog 289 #[.slice (some ⟨b,0,none⟩) n n,.slice (some ⟨d,0,none⟩) n n] w fun e w'=>e=.returned (.bool true)∧Bw w w':=by
 have HP:Hid (zK w b 0 n X Y):=hp
 have HQ:Hid (zK w d 0 n X Y):=hq
 clear hp hq
 go_enter Tryz.func289,Tryz.ntmps289
 go_wp2
 go_loopw [5] (fun i wr=>∃ k:Nat,k≤n∧i=.int .i64 k∧Bw w wr) (fun i _=>n - (intOf i).toNat)
 case atStart=>exact ⟨0,by omega,rfl,Below.refl _ _⟩
 case round =>
  obtain ⟨k,hk,rfl,hB⟩:=hrel
  by_cases hlt:k<n
  ·have c0:∀ W',Bw wr W'→W'.cell? ⟨b,k * 2,none⟩=some (.int .i64 (X k)):=fun W' h=>by
    simpa using ((HP.out.below hB hb).below h (Nat.lt_of_lt_of_le hb hB.size) k hlt).1
   have c1:∀ W',Bw wr W'→W'.cell? ⟨b,k * 2+1,none⟩=some (.int .i64 (Y k)):=fun W' h=>by
    simpa using ((HP.out.below hB hb).below h (Nat.lt_of_lt_of_le hb hB.size) k hlt).2
   have e0:∀ W',Bw wr W'→W'.cell? ⟨d,k * 2,none⟩=some (.int .i64 (X k)):=fun W' h=>by
    simpa using ((HQ.out.below hB hd).below h (Nat.lt_of_lt_of_le hd hB.size) k hlt).1
   have e1:∀ W',Bw wr W'→W'.cell? ⟨d,k * 2+1,none⟩=some (.int .i64 (Y k)):=fun W' h=>by
    simpa using ((HQ.out.below hB hd).below h (Nat.lt_of_lt_of_le hd hB.size) k hlt).2
   have HB:Hid (Bw w wr):=hB
   clear hB
   have hi:(k:Int)<(n:Int):=by omega
   have hi0:(0:Int)≤(k:Int):=by omega
   go_wp2
   go_region_held3 (fun W'=>Bw wr W') ((repeat (first|exact Qr _ _|assumption|refine Qd ?_|refine Qa ?_ _|refine Qt ?_|refine Qs ?_ _|refine Qo ?_ ?_ _ _)))
    (first
     | (go_at_call 299;refine (zLm _ _ _).mono ?_;rintro e w' ⟨rfl,hb⟩))
   go_wp2
   go_roundw
   case rel=>exact ⟨k+1,by omega,by go_num,zA HB.out (by assumption)⟩
   case measure=>simp [intOf];omega
  ·go_wp2
   go_ret
   exact ⟨rfl,hB⟩
end Go.Proofs.YtpaiholildedcaaGreat
namespace Go.Proofs.YtpaiholildedcaaGreat
open Go.ChangeShapes Go.WideShapes Go.ChangeAt Go.RowKit Go.Deep
end Go.Proofs.YtpaiholildedcaaGreat
namespace Go.Proofs.YtpaiholildedcaaGreat
open Go.RowKit
end Go.Proofs.YtpaiholildedcaaGreat
namespace Go.Proofs.YtpaiholildedcaaGreat
open Go.ChangeShapes Go.WideShapes Go.ChangeAt Go.RowKit Go.Deep
theorem zRf {H:Type}{enc:TypeId × Value→H}{w:World}{base fuel:Nat}{held:Bool}{cs:List Value}{y:DataW H × List MemPlace}(hf:DataW.trod enc Tryz.prog w base (fun _=>true) held fuel 307 cs=some y) :
  ∃ (a:Option Addr) (n cap:Nat) (X Y:Nat→Int),cs=[.slice a n cap]∧xY w a n X Y∧n≤cap∧cap≤maxLen:=by
 rcases open_slice_pairs Tryz.underlying307 Tryz.underlying356 zSv rfl rfl vE vE hf with ⟨hcs,_⟩ | ⟨x,l,c,m,n,V0,V1,D0,D1,P0,P1,hcs,_,hl,hc,hm,_,hx⟩
 ·exact ⟨none,0,0,fun _=>0,fun _=>0,hcs,.inl rfl,Nat.le_refl _,Nat.zero_le _⟩
 ·simp at hm
  subst hm
  refine ⟨some x,l,_,fun i=>intOf (V0 i),fun i=>intOf (V1 i),hcs,?_,hl,hc⟩
  by_cases h0:l=0
  ·exact .inl h0
  ·right
   obtain ⟨b,off,spot⟩:=x
   obtain ⟨e0,_,_,_⟩:=hx 0 (by omega)
   have hspot:spot=none:=by simpa [Addr.add] using World.cell?_spot e0
   subst hspot
   refine ⟨b,off,rfl,?_,fun i hi=>?_⟩
   ·have:=World.block_lt_of_cell? _ _ e0
    simpa [Addr.add] using this
   ·obtain ⟨e0,e1,g0,g1⟩:=hx i (by omega)
    obtain ⟨n0,q0,_,_⟩:=DataW.trod_int Tryz.underlying2 g0
    obtain ⟨n1,q1,_,_⟩:=DataW.trod_int Tryz.underlying2 g1
    simp at q0 q1
    rw [q0] at e0
    rw [q1] at e1
    simp only [q0,q1,intOf]
    rw [add_plain] at e0 e1
    exact ⟨e0,by rw [Nat.add_assoc];exact e1⟩
theorem zMk:Tryz.prog.cellsOf 309=7:=by kernel_rfl
theorem zSu:Tryz.prog.cellsOf 307=1:=by kernel_rfl
theorem zSr:Tryz.prog.cellsOf 9=1:=by kernel_rfl
theorem zOv {H:Type}{enc:TypeId × Value→H}{w:World}{base fuel:Nat}{held:Bool}{cs:List Value}{y:DataW H × List MemPlace}(h:DataW.trod enc Tryz.prog w base (fun _=>true) held fuel 309 cs=some y) :
  ∃ (id la ki wi:Int) (a:Option Addr) (n cap:Nat) (X Y:Nat→Int) (lab:ByteArray) (pr:Int),cs=[.int .i64 id,.int .i64 la,.int .i64 ki,.int .i64 wi,.slice a n cap,.string lab,.int .i64 pr]∧xY w a n X Y∧n≤cap∧cap≤maxLen∧lab.size≤maxLen:=by
 obtain ⟨xs,m,rfl,hx,hl,hxl,hf⟩:=DataW.trod_struct Tryz.underlying309 h
 rw [zMk] at hl
 have hxl7:xs.length=7:=hxl
 match cs,hl with
 | [v0,v1,v2,v3,v4,v5,v6],_ =>
  match xs,hxl7 with
  | [x0,x1,x2,x3,x4,x5,x6],_ =>
   have h0:=hf 0 _ rfl
   have h1:=hf 1 _ rfl
   have h2:=hf 2 _ rfl
   have h3:=hf 3 _ rfl
   have h4:=hf 4 _ rfl
   have h5:=hf 5 _ rfl
   have h6:=hf 6 _ rfl
   simp [vE,zSu,zSr] at h0 h1 h2 h3 h4 h5 h6
   obtain ⟨id,e0,_,_⟩:=DataW.trod_int Tryz.underlying2 h0
   obtain ⟨la,e1,_,_⟩:=DataW.trod_int Tryz.underlying2 h1
   obtain ⟨ki,e2,_,_⟩:=DataW.trod_int Tryz.underlying2 h2
   obtain ⟨wi,e3,_,_⟩:=DataW.trod_int Tryz.underlying2 h3
   obtain ⟨a,n,cap,X,Y,e4,hp,hn,hc⟩:=zRf h4
   obtain ⟨lab,e5,_,hs⟩:=DataW.trod_string Tryz.underlying9 h5
   obtain ⟨pr,e6,_,_⟩:=DataW.trod_int Tryz.underlying2 h6
   simp at e0 e1 e2 e3 e4 e5 e6
   subst e0 e1 e2 e3 e4 e5 e6
   exact ⟨id,la,ki,wi,a,n,cap,X,Y,lab,pr,rfl,hp,hn,hc,hs⟩
end Go.Proofs.YtpaiholildedcaaGreat
namespace Go.Proofs.YtpaiholildedcaaGreat
open Go.RowKit
def zK0 (c:Int):Bool:=decide (97≤c) && decide (c≤122)
theorem zI8 (c:Int)(w:World):Calls Tryz.prog 292 #[.int .u8 c] w fun e w'=>e=.returned (.bool (zK0 c))∧w'=w:=by
 unfold zK0
 go_enter Tryz.func292,Tryz.ntmps292
 by_cases h1:97≤c
 ·go_wp2
  all_goals (go_ret;exact ⟨zF (by simp [h1]),rfl⟩)
 ·have h2:decide (97≤c)=false:=by simpa using h1
  go_wp2
  all_goals (go_ret;exact ⟨zF (by simp [h1]),rfl⟩)
def xS (ki:Int)(n:Int):Bool:=if ki=1 then decide (n=1) else if ki=2 then inB n 2 12 else inB n 3 12
theorem zNs (ki n:Int)(w:World):Calls Tryz.prog 253 #[.int .i64 ki,.int .i64 n] w fun e w'=>e=.returned (.bool (xS ki n))∧w'=w:=by
 unfold xS
 by_cases h1:ki=1
 ·subst h1
  go_enter Tryz.func253,Tryz.ntmps253
  go_wp2
  go_ret
  exact ⟨zF rfl,rfl⟩
 ·by_cases h2:ki=2
  ·subst h2
   go_enter Tryz.func253,Tryz.ntmps253
   go_wp2_with (go_at_call 32;refine (zO _ _ _ _).mono ?_;rintro e w' ⟨rfl,rfl⟩)
   go_ret
   exact ⟨zF (by simp),rfl⟩
  ·have k1:(ki == 1)=false:=by simpa using h1
   have k2:(ki == 2)=false:=by simpa using h2
   go_enter Tryz.func253,Tryz.ntmps253
   go_wp2_with (go_at_call 32;refine (zO _ _ _ _).mono ?_;rintro e w' ⟨rfl,rfl⟩)
   go_ret
   exact ⟨zF (by simp [h1,h2]),rfl⟩
def vS (l:List (Int × Int)):List Value:=l.flatMap fun p=>[.int .i64 p.1,.int .i64 p.2]
def px (l:List (Int × Int))(i:Nat):Int:=(l.getD i (0,0)).1
def py (l:List (Int × Int))(i:Nat):Int:=(l.getD i (0,0)).2
theorem zBx (p:Int × Int)(l:List (Int × Int)):vS (p :: l)=.int .i64 p.1 :: .int .i64 p.2 :: vS l:=by simp [vS]
theorem zGj (l:List (Int × Int))(x y:Int):vS (l ++ [(x,y)])=vS l ++ [.int .i64 x,.int .i64 y]:=by simp [vS]
theorem zGi:∀ l:List (Int × Int),(vS l).length=l.length * 2
 | []=>rfl
 | p :: l=>by rw [zBx];simp [zGi l];omega
theorem zJz:∀ (l:List (Int × Int)) (i:Nat),i<l.length→(vS l)[i * 2]?=some (.int .i64 (px l i))∧(vS l)[i * 2+1]?=some (.int .i64 (py l i))
 | [],i,h=>absurd h (by simp)
 | p :: l,0,h=>by rw [zBx];simp [px,py]
 | p :: l,i+1,h=>by
  obtain ⟨h1,h2⟩:=zJz l i (by simpa using h)
  rw [zBx]
  have e1:(i+1) * 2=i * 2+1+1:=by omega
  rw [e1]
  simp only [List.getElem?_cons_succ]
  exact ⟨h1,h2⟩
def Own (w:World)(base:Nat)(v:Value)(n:Nat)(X Y:Nat→Int):Prop :=
 ∃ a cap,v=.slice a n cap∧n≤cap∧(n=0∨∃ b,a=some ⟨b,0,none⟩∧base≤b∧b<w.heap.size∧zK w b 0 n X Y∧zD w b (n * 2))
def Row (base:Nat)(w:World)(v:Value)(l:List (Int × Int)):Prop:=w.ownsRow base 215 2 v l.length (vS l)
theorem Row.own {base:Nat}{w:World}{v:Value}{l:List (Int × Int)}(h:Row base w v l):Own w base v l.length (px l) (py l):=by
 obtain ⟨h1,h2 | ⟨g,cp,cur,hv,hg,hh,hkc,hcm,hcs,htk⟩⟩:=h
 ·obtain ⟨rfl,h0⟩:=h2
  rw [h0]
  exact ⟨none,0,rfl,Nat.le_refl _,.inl rfl⟩
 ·have hgl:g<w.heap.size:=by
   rcases Nat.lt_or_ge g w.heap.size with h' | h'
   ·exact h'
   ·rw [Array.getElem?_eq_none h'] at hh;cases hh
  have hrow:w.ownsRow base 215 2 (.slice (some ⟨g,0,none⟩) l.length cp) l.length (vS l):=⟨h1,.inr ⟨g,cp,cur,rfl,hg,hh,hkc,hcm,hcs,htk⟩⟩
  refine ⟨some ⟨g,0,none⟩,cp,hv,hkc,.inr ⟨g,rfl,hg,hgl,fun i hi=>?_,fun o ho=>⟨?_,hrow.frozenAt o⟩⟩⟩
  ·obtain ⟨e1,e2⟩:=zJz l i hi
   simp only [Nat.zero_add]
   exact ⟨(hrow.cellAt _ (by omega)).trans e1,(hrow.cellAt _ (by omega)).trans e2⟩
  ·rw [hrow.cellAt o ho]
   have hlt:o<(vS l).length:=by rw [zGi];exact ho
   exact ⟨(vS l)[o],List.getElem?_eq_getElem hlt⟩
theorem zA8 (w:World)(r:Option Nat):w.grownBy w r:=⟨rfl,rfl,rfl,Nat.le_refl _,fun _ _ _=>rfl⟩
theorem zBt {a b c:World}{r:Option Nat}(h:a.grownBy b r)(k:b.grownBy c r):a.grownBy c r :=
 ⟨k.os.trans h.os,k.tape.trans h.tape,k.output.trans h.output,Nat.le_trans h.size k.size,fun j hj hs=>(k.block j (Nat.lt_of_lt_of_le hj h.size) hs).trans (h.block j hj hs)⟩
theorem zBu {a b:World}{r:Option Nat}(h:Below a.heap.size a b):a.grownBy b r:=⟨h.os,h.tape,h.output,h.size,fun j hj _=>h.block j hj⟩
theorem xM {a b:World}{s:Nat}(h:a.grownBy b (some s))(o:Nat)(v:Value):a.grownBy (b.setCell ⟨s,o,none⟩ v) (some s) :=
 zBt h ⟨rfl,rfl,rfl,by simp [World.setCell],fun j _ hs=>Below.heap_setCell _ _ _ _ (fun e=>hs (by simp [e]))⟩
theorem zE1 {B s:Nat}{a b:World}(h:a.grownBy b (some s))(hB:B≤s)(hl:B≤a.heap.size):Below B a b :=
 ⟨h.os,h.tape,h.output,h.size,fun k hk=>h.block k (by omega) (fun e=>by injection e with e;omega)⟩
def mkX (k i:Nat):Int:=((k+2 * i:Nat):Int)
def mkY (k i:Nat):Int:=((k+2 * i+1:Nat):Int)
theorem zFe (b n cap k0:Nat)(w:World)(hT:zD w b (n * 2))(hb:b<w.heap.size)(hmax:n≤1048576)(hk0:k0≤6000000000000000000) :
  Calls Tryz.prog 193 #[.slice (some ⟨b,0,none⟩) n cap,.int .i64 (k0:Int)] w fun e w'=>e=.returned (.int .i64 ((k0+2 * n:Nat):Int))∧w.grownBy w' (some b)∧zD w' b (n * 2)∧zK w' b 0 n (mkX k0) (mkY k0):=by
 have HT0:Hid (zD w b (n * 2)):=hT
 clear hT
 go_enter Tryz.func193,Tryz.ntmps193
 go_wp2_with fail
 go_loopw [1,5] (fun kk i wr=>∃ j K:Nat,j≤n∧Hid (K=k0+2 * j)∧kk=.int .i64 (K:Int)∧i=.int .i64 (j:Int)∧w.grownBy wr (some b)∧zD wr b (n * 2)∧zK wr b 0 j (mkX k0) (mkY k0)) (fun _ i _=>n - (intOf i).toNat)
 case atStart=>exact ⟨0,k0,by omega,rfl,rfl,rfl,zA8 _ _,HT0.out,fun i hi=>by omega⟩
 case round =>
  obtain ⟨j,K,hj,HK,rfl,rfl,hG,hT,hP⟩:=hrel
  by_cases hlt:j<n
  ·have hKb:K≤6000000000002097152:=by have:=HK.out;omega
   have t0:=hT.cell (j * 2) (by omega)
   have t1:=hT.cell (j * 2+1) (by omega)
   have f0:=(hT (j * 2) (by omega)).2
   have f1:=(hT (j * 2+1) (by omega)).2
   have HT:Hid (zD wr b (n * 2)):=hT
   have HG:Hid (w.grownBy wr (some b)):=hG
   have HP:Hid (zK wr b 0 j (mkX k0) (mkY k0)):=hP
   clear hT hG hP
   have hi:(j:Int)<(n:Int):=by omega
   go_wp2
   go_roundw
   case rel =>
    have hx:mkX k0 j=(K:Int):=by have:=HK.out;simp [mkX];omega
    have hy:mkY k0 j=(K:Int)+1:=by have:=HK.out;simp [mkY];omega
    have hfs:=zJf (X:=mkX k0) (Y:=mkY k0) HT.out hlt HP.out
    rw [hx,hy] at hfs
    exact ⟨j+1,K+2,by omega,by have:=HK.out;show _=_;omega,by go_num,by go_num,xM (xM HG.out _ _) _ _,(HT.out.set _ _).set _ _,hfs⟩
   case measure=>simp [intOf];omega
  ·go_wp2
   go_ret
   have hjn:j=n:=by omega
   subst hjn
   exact ⟨zE (by have:=HK.out;omega),hG,hT,hP⟩
def ptsOf (X Y:Nat→Int)(l:List Nat):List (Int × Int):=l.map fun i=>(X i,Y i)
theorem zBs {w:World}{base size n:Nat}{e:TypeId}{v:Value}{xs:List Value}(h:w.ownsRow base e size v n xs):∀ g,v.ownBlock=some g→∃ cur,w.heap[g]?=some (.cells cur e (0,0)):=fun g hg=>by
 obtain ⟨_,h2 | ⟨g',cp,cur,rfl,_,hh,_⟩⟩:=h
 ·rw [h2.1] at hg;cases hg
 ·simp [Value.ownBlock] at hg
  subst hg
  exact ⟨cur,hh⟩
theorem yC {w:World}{k:Nat}{o:Obj}(h:w.heap[k]?=some o):k<w.heap.size:=by
 rcases Nat.lt_or_ge k w.heap.size with h' | h'
 ·exact h'
 ·rw [Array.getElem?_eq_none h'] at h;cases h
def xB (px py ax ay bx by':Int):Int:=(px - ax) * (bx - ax)+(py - ay) * (by' - ay)
def zCn (px py ax ay bx by':Int):Int :=
 if xB px py ax ay bx by'≤0 then yZ px py ax ay
 else if yZ ax ay bx by'≤xB px py ax ay bx by' then yZ px py bx by'
 else yA ax ay bx by' px py * yA ax ay bx by' px py
def vA (px py ax ay bx by':Int):Int :=
 if xB px py ax ay bx by'≤0 then 1
 else if yZ ax ay bx by'≤xB px py ax ay bx by' then 1
 else yZ ax ay bx by'
def zB9 (px py ax ay bx by' r:Int):Bool:=decide (zCn px py ax ay bx by'≤r * r * vA px py ax ay bx by')
theorem uK (a:Int):0≤a * a:=by
 rw [← Int.natAbs_mul_self]
 exact Int.natCast_nonneg _
theorem zQo {ax ay bx by':Int}(ha:okP ax ay=true)(hb:okP bx by'=true):0≤yZ ax ay bx by'∧yZ ax ay bx by'≤52428800:=by
 obtain ⟨⟨a1,a2⟩,a3,a4⟩:=xA ha
 obtain ⟨⟨b1,b2⟩,b3,b4⟩:=xA hb
 obtain ⟨p1,p2⟩:=xL (a:=bx - ax) (b:=bx - ax) (B:=5120) (C:=5120) (by omega) (by omega) (by omega) (by omega) (by omega)
 obtain ⟨q1,q2⟩:=xL (a:=by' - ay) (b:=by' - ay) (B:=5120) (C:=5120) (by omega) (by omega) (by omega) (by omega) (by omega)
 have s1:0≤(bx - ax) * (bx - ax):=uK _
 have s2:0≤(by' - ay) * (by' - ay):=uK _
 unfold yZ
 omega
theorem zMf {ax ay bx by' cx cy:Int}(ha:okP ax ay=true)(hb:okP bx by'=true)(hc:okP cx cy=true):-52428800≤yA ax ay bx by' cx cy∧yA ax ay bx by' cx cy≤52428800:=by
 obtain ⟨⟨a1,a2⟩,a3,a4⟩:=xA ha
 obtain ⟨⟨b1,b2⟩,b3,b4⟩:=xA hb
 obtain ⟨⟨c1,c2⟩,c3,c4⟩:=xA hc
 obtain ⟨p1,p2⟩:=xL (a:=bx - ax) (b:=cy - ay) (B:=5120) (C:=5120) (by omega) (by omega) (by omega) (by omega) (by omega)
 obtain ⟨q1,q2⟩:=xL (a:=by' - ay) (b:=cx - ax) (B:=5120) (C:=5120) (by omega) (by omega) (by omega) (by omega) (by omega)
 unfold yA
 omega
theorem sq_bd {r:Int}(h0:0≤r)(h1:r≤4096):0≤r * r∧r * r≤16777216:=by
 obtain ⟨p1,p2⟩:=xL (a:=r) (b:=r) (B:=4096) (C:=4096) (by omega) (by omega) (by omega) (by omega) (by omega)
 exact ⟨uK _,by omega⟩
theorem zGc (px py ax ay bx by' r:Int)(w:World)(hp:okP px py=true)(ha:okP ax ay=true)(hb:okP bx by'=true)(h0:0≤r)(h1:r≤4096) :
  Calls Tryz.prog 259 #[.agg #[.int .i64 px,.int .i64 py],.agg #[.int .i64 ax,.int .i64 ay],.agg #[.int .i64 bx,.int .i64 by'],.int .i64 r] w fun e w'=>e=.returned (.bool (zB9 px py ax ay bx by' r))∧Bw w w':=by
 obtain ⟨⟨p1,p2⟩,p3,p4⟩:=xA hp
 obtain ⟨⟨a1,a2⟩,a3,a4⟩:=xA ha
 obtain ⟨⟨b1,b2⟩,b3,b4⟩:=xA hb
 obtain ⟨m1,m2⟩:=xL (a:=px - ax) (b:=bx - ax) (B:=5120) (C:=5120) (by omega) (by omega) (by omega) (by omega) (by omega)
 obtain ⟨m3,m4⟩:=xL (a:=py - ay) (b:=by' - ay) (B:=5120) (C:=5120) (by omega) (by omega) (by omega) (by omega) (by omega)
 obtain ⟨s1,s2⟩:=sq_bd h0 h1
 obtain ⟨d1,d2⟩:=zQo ha hb
 obtain ⟨x1,x2⟩:=zMf ha hb hp
 obtain ⟨x3,x4⟩:=xL (a:=yA ax ay bx by' px py) (b:=yA ax ay bx by' px py) (B:=52428800) (C:=52428800) (by omega) (by omega) (by omega) (by omega) (by omega)
 obtain ⟨x5,x6⟩:=xL (a:=r * r) (b:=yZ ax ay bx by') (B:=16777216) (C:=52428800) (by omega) (by omega) (by omega) (by omega) (by omega)
 have HP:Hid _:=hp
 have HA:Hid _:=ha
 have HB:Hid _:=hb
 clear hp ha hb
 have HO:Hid (zB9 px py ax ay bx by' r=decide (zCn px py ax ay bx by'≤r * r * vA px py ax ay bx by')):=rfl
 by_cases c1:(px - ax) * (bx - ax)+(py - ay) * (by' - ay)≤0
 ·have HE:Hid (zB9 px py ax ay bx by' r=decide (yZ px py ax ay≤r * r)):=by
   show _=_
   simp [zB9,zCn,vA,xB,c1]
  go_enter Tryz.func259,Tryz.ntmps259
  go_wp2_with fail
  generalize hW:(((w.alloc _).alloc _).alloc _:World)=W
  have hB0:Bw w W:=by subst hW;exact Qb
  have c00:∀ W',Bw W W'→W'.cell? ⟨w.heap.size,0,none⟩=some (.int .i64 px):=Qc hW
  have c01:∀ W',Bw W W'→W'.cell? ⟨w.heap.size,1,none⟩=some (.int .i64 py):=Qc hW
  have c10:∀ W',Bw W W'→W'.cell? ⟨w.heap.size+1,0,none⟩=some (.int .i64 ax):=Qc hW
  have c11:∀ W',Bw W W'→W'.cell? ⟨w.heap.size+1,1,none⟩=some (.int .i64 ay):=Qc hW
  have c20:∀ W',Bw W W'→W'.cell? ⟨w.heap.size+1+1,0,none⟩=some (.int .i64 bx):=Qc hW
  have c21:∀ W',Bw W W'→W'.cell? ⟨w.heap.size+1+1,1,none⟩=some (.int .i64 by'):=Qc hW
  clear hW
  have HB0:Hid (Bw w W):=hB0
  clear hB0
  have hr:Bw W W:=Below.refl _ _
  go_wp2_with (first
   | (go_at_call 286;refine (uH _ _ _ _ _ (by first | exact HP.out | exact HA.out) (by first | exact HA.out | exact HB.out)).mono ?_;rintro e w' ⟨rfl,hb⟩;have hbn:Bw W w':=(by exact Qb)))
  go_ret
  exact ⟨zF HE.out.symm,by have HB1:=HB0.out;exact Qb⟩
 ·by_cases c2:yZ ax ay bx by'≤(px - ax) * (bx - ax)+(py - ay) * (by' - ay)
  ·have HE:Hid (zB9 px py ax ay bx by' r=decide (yZ px py bx by'≤r * r)):=by
    show _=_
    simp [zB9,zCn,vA,xB,c1,c2]
   go_enter Tryz.func259,Tryz.ntmps259
   go_wp2_with fail
   generalize hW:(((w.alloc _).alloc _).alloc _:World)=W
   have hB0:Bw w W:=by subst hW;exact Qb
   have c00:∀ W',Bw W W'→W'.cell? ⟨w.heap.size,0,none⟩=some (.int .i64 px):=Qc hW
   have c01:∀ W',Bw W W'→W'.cell? ⟨w.heap.size,1,none⟩=some (.int .i64 py):=Qc hW
   have c10:∀ W',Bw W W'→W'.cell? ⟨w.heap.size+1,0,none⟩=some (.int .i64 ax):=Qc hW
   have c11:∀ W',Bw W W'→W'.cell? ⟨w.heap.size+1,1,none⟩=some (.int .i64 ay):=Qc hW
   have c20:∀ W',Bw W W'→W'.cell? ⟨w.heap.size+1+1,0,none⟩=some (.int .i64 bx):=Qc hW
   have c21:∀ W',Bw W W'→W'.cell? ⟨w.heap.size+1+1,1,none⟩=some (.int .i64 by'):=Qc hW
   clear hW
   have HB0:Hid (Bw w W):=hB0
   clear hB0
   have hr:Bw W W:=Below.refl _ _
   go_wp2_with (first
    | (go_at_call 286;refine (uH _ _ _ _ _ (by first | exact HP.out | exact HA.out) (by first | exact HA.out | exact HB.out)).mono ?_;rintro e w' ⟨rfl,hb⟩;have hbn:Bw W w':=(by exact Qb)))
   go_ret
   exact ⟨zF HE.out.symm,by have HB1:=HB0.out;exact Qb⟩
  ·have HE:Hid (zB9 px py ax ay bx by' r=decide (yA ax ay bx by' px py * yA ax ay bx by' px py≤r * r * yZ ax ay bx by')):=by
    show _=_
    simp [zB9,zCn,vA,xB,c1,c2]
   go_enter Tryz.func259,Tryz.ntmps259
   go_wp2_with fail
   generalize hW:(((w.alloc _).alloc _).alloc _:World)=W
   have hB0:Bw w W:=by subst hW;exact Qb
   have c00:∀ W',Bw W W'→W'.cell? ⟨w.heap.size,0,none⟩=some (.int .i64 px):=Qc hW
   have c01:∀ W',Bw W W'→W'.cell? ⟨w.heap.size,1,none⟩=some (.int .i64 py):=Qc hW
   have c10:∀ W',Bw W W'→W'.cell? ⟨w.heap.size+1,0,none⟩=some (.int .i64 ax):=Qc hW
   have c11:∀ W',Bw W W'→W'.cell? ⟨w.heap.size+1,1,none⟩=some (.int .i64 ay):=Qc hW
   have c20:∀ W',Bw W W'→W'.cell? ⟨w.heap.size+1+1,0,none⟩=some (.int .i64 bx):=Qc hW
   have c21:∀ W',Bw W W'→W'.cell? ⟨w.heap.size+1+1,1,none⟩=some (.int .i64 by'):=Qc hW
   clear hW
   have HB0:Hid (Bw w W):=hB0
   clear hB0
   have hr:Bw W W:=Below.refl _ _
   go_wp2_with (first
    | (go_at_call 286;refine (uH _ _ _ _ _ (by first | exact HP.out | exact HA.out) (by first | exact HA.out | exact HB.out)).mono ?_;rintro e w' ⟨rfl,hb⟩;have hbn:Bw W w':=(by exact Qb))
    | (go_at_call 287;refine (zBl _ _ _ _ _ _ _ (by exact HA.out) (by exact HB.out) (by exact HP.out)).mono ?_;rintro e w' ⟨rfl,hb⟩;have hbn:Bw W w':=(by exact Qb)))
   go_ret
   exact ⟨zF HE.out.symm,by have HB1:=HB0.out;exact Qb⟩
def zT (px py ax ay bx by' r:Int):Bool:=okP px py && (okP ax ay && (okP bx by' && (inB r 0 4096 && zB9 px py ax ay bx by' r)))
abbrev wayOfW (ax ay bx by':Int)(w:World):World:=((w.alloc (.cells #[.int .i64 ax,.int .i64 ay] 361)).alloc (.cells #[.int .i64 bx,.int .i64 by'] 361)).alloc (.cells #[.int .i64 (bx - ax),.int .i64 (by' - ay)] 361)
theorem zRb (ax ay bx by':Int)(w:World)(ha:okP ax ay=true)(hb:okP bx by'=true) :
  Calls Tryz.prog 308 #[.agg #[.int .i64 ax,.int .i64 ay],.agg #[.int .i64 bx,.int .i64 by']] w fun e w'=>e=.returned (.agg #[.int .i64 (bx - ax),.int .i64 (by' - ay)])∧wayOfW ax ay bx by' w=w':=by
 obtain ⟨⟨a1,a2⟩,a3,a4⟩:=xA ha
 obtain ⟨⟨b1,b2⟩,b3,b4⟩:=xA hb
 clear ha hb
 go_enter Tryz.func308,Tryz.ntmps308
 go_wp2
 exact bodyPost_ret (v:=.agg #[.int .i64 (bx - ax),.int .i64 (by' - ay)]) (by simp [results,Tryz.results308,go_sem]) rfl ⟨rfl,rfl⟩
theorem zCj (ax ay bx by' cx cy:Int)(w:World)(ha:okP ax ay=true)(hb:okP bx by'=true)(hc:okP cx cy=true) :
  Calls Tryz.prog 306 #[.agg #[.int .i64 ax,.int .i64 ay],.agg #[.int .i64 bx,.int .i64 by'],.agg #[.int .i64 cx,.int .i64 cy]] w fun e w'=>e=.returned (.int .i64 (yA ax ay bx by' cx cy))∧Bw w w':=by
 obtain ⟨⟨a1,a2⟩,a3,a4⟩:=xA ha
 obtain ⟨⟨b1,b2⟩,b3,b4⟩:=xA hb
 obtain ⟨⟨c1,c2⟩,c3,c4⟩:=xA hc
 have HA:Hid _:=ha
 have HB:Hid _:=hb
 have HC:Hid _:=hc
 clear ha hb hc
 unfold yA
 obtain ⟨p1,p2⟩:=xL (a:=bx - ax) (b:=cy - ay) (B:=5120) (C:=5120) (by omega) (by omega) (by omega) (by omega) (by omega)
 obtain ⟨q1,q2⟩:=xL (a:=by' - ay) (b:=cx - ax) (B:=5120) (C:=5120) (by omega) (by omega) (by omega) (by omega) (by omega)
 go_enter Tryz.func306,Tryz.ntmps306
 go_wp2
 generalize hW:(((w.alloc _).alloc _).alloc _:World)=W
 have hB0:Bw w W:=by subst hW;exact Qb
 have c00:∀ W',Bw W W'→W'.cell? ⟨w.heap.size,0,none⟩=some (.int .i64 ax):=Qc hW
 have c01:∀ W',Bw W W'→W'.cell? ⟨w.heap.size,1,none⟩=some (.int .i64 ay):=Qc hW
 have c10:∀ W',Bw W W'→W'.cell? ⟨w.heap.size+1,0,none⟩=some (.int .i64 bx):=Qc hW
 have c11:∀ W',Bw W W'→W'.cell? ⟨w.heap.size+1,1,none⟩=some (.int .i64 by'):=Qc hW
 have c20:∀ W',Bw W W'→W'.cell? ⟨w.heap.size+1+1,0,none⟩=some (.int .i64 cx):=Qc hW
 have c21:∀ W',Bw W W'→W'.cell? ⟨w.heap.size+1+1,1,none⟩=some (.int .i64 cy):=Qc hW
 clear hW
 have HB0:Hid (Bw w W):=hB0
 clear hB0
 go_cut [7,8] (fun t s wc=>∃ b d:Nat,t=.pointer (some ⟨b,0,none⟩)∧s=.pointer (some ⟨d,0,none⟩)∧Bw W wc∧wc.cell? ⟨b,0,none⟩=some (.int .i64 (bx - ax))∧wc.cell? ⟨b,1,none⟩=some (.int .i64 (by' - ay))∧wc.cell? ⟨d,0,none⟩=some (.int .i64 (cx - ax))∧wc.cell? ⟨d,1,none⟩=some (.int .i64 (cy - ay)))
 case first =>
  go_region_held3 (fun W'=>Bw W W') ((repeat (first|exact Qr _ _|assumption|refine Qd ?_|refine Qa ?_ _|refine Qt ?_|refine Qs ?_ _|refine Qo ?_ ?_ _ _)))
   (first | (go_at_call 308;refine (zRb _ _ _ _ _ (by exact HA.out) (by first | exact HB.out | exact HC.out)).mono ?_;rintro e w' ⟨rfl,rfl⟩))
  all_goals
   go_wp2_with fail
   go_meet
   case rel =>
    refine ⟨_,_,rfl,rfl,by assumption,?_,?_,?_,?_⟩ <;> (go_simp;done)
 case rest =>
  obtain ⟨b1,d1,rfl,rfl,hB1,x1,x2,x3,x4⟩:=hcut
  clear c00 c01 c10 c11 c20 c21
  go_wp2
  go_ret
  exact ⟨rfl,zA HB0.out hB1⟩
theorem zDi (b cap:Nat)(mx my nx ny ox oy c:Int)(w:World)(g0:w.cell? ⟨b,0,none⟩=some (.int .i64 mx))(g1:w.cell? ⟨b,1,none⟩=some (.int .i64 my))(g2:w.cell? ⟨b,2,none⟩=some (.int .i64 nx))(g3:w.cell? ⟨b,3,none⟩=some (.int .i64 ny))(g4:w.cell? ⟨b,4,none⟩=some (.int .i64 ox))(g5:w.cell? ⟨b,5,none⟩=some (.int .i64 oy))(hcap:3≤cap)(hc:zCg 3 (fun i=>if i=0 then mx else if i=1 then nx else ox) (fun i=>if i=0 then my else if i=1 then ny else oy)=c) :
  Calls Tryz.prog 301 #[.slice (some ⟨b,0,none⟩) 3 cap] w fun e w'=>e=.returned (.int .i64 c)∧Bw w w':=by
 rw [← hc]
 refine zBv b 0 3 cap (fun i=>if i=0 then mx else if i=1 then nx else ox) (fun i=>if i=0 then my else if i=1 then ny else oy) w (fun i hi=>?_) (World.block_lt_of_cell? w ⟨b,0,none⟩ g0) hcap (by omega)
 have hcase:i=0∨i=1∨i=2:=by omega
 rcases hcase with rfl | rfl | rfl <;> simp [*]
theorem zQr (mx my nx ny ox oy:Int)(h0:okP mx my=true)(h1:okP nx ny=true)(h2:okP ox oy=true):zCg 3 (fun i=>if i=0 then mx else if i=1 then nx else ox) (fun i=>if i=0 then my else if i=1 then ny else oy)=0:=zMh fun i hi=>by
 have hcase:i=0∨i=1∨i=2:=by omega
 rcases hcase with rfl | rfl | rfl <;> simp [*]
theorem zSp (mx my nx ny ox oy:Int)(h:okP mx my=false):zCg 3 (fun i=>if i=0 then mx else if i=1 then nx else ox) (fun i=>if i=0 then my else if i=1 then ny else oy)=3:=zDk 0 (by omega) (by simp [h])
theorem zSo (mx my nx ny ox oy:Int)(h:okP nx ny=false):zCg 3 (fun i=>if i=0 then mx else if i=1 then nx else ox) (fun i=>if i=0 then my else if i=1 then ny else oy)=3:=zDk 1 (by omega) (by simp [h])
theorem zSn (mx my nx ny ox oy:Int)(h:okP ox oy=false):zCg 3 (fun i=>if i=0 then mx else if i=1 then nx else ox) (fun i=>if i=0 then my else if i=1 then ny else oy)=3:=zDk 2 (by omega) (by simp [h])
theorem vG {ax ay bx by':Int}(ha:okP ax ay=true)(hb:okP bx by'=true):Df (bx - ax) (by' - ay):=by
 obtain ⟨⟨a1,a2⟩,a3,a4⟩:=xA ha
 obtain ⟨⟨b1,b2⟩,b3,b4⟩:=xA hb
 exact ⟨⟨by omega,by omega⟩,by omega,by omega⟩
theorem zJi (n:Nat)(a b c d:Int)(w:World):(Op.equalIn (n+2) 361 (.agg #[.int .i64 a,.int .i64 b]) (.agg #[.int .i64 c,.int .i64 d])).run Tryz.prog w=.ok ((a == c) && (b == d)) w:=by
 have hp0:∀ (x y:Int) (w:World),(part 2 #[.int .i64 x,.int .i64 y] 0).run Tryz.prog w=.ok (.int .i64 x) w:=fun _ _ _=>by kernel_rfl
 have hp1:∀ (x y:Int) (w:World),(part 2 #[.int .i64 x,.int .i64 y] 1).run Tryz.prog w=.ok (.int .i64 y) w:=fun _ _ _=>by kernel_rfl
 have hs:∀ (w:World),(sizeOf 2).run Tryz.prog w=.ok 1 w:=fun _=>by kernel_rfl
 have hi:=fun (a b:Int) (w:World)=>run_equalIn_int (P:=Tryz.prog) w n 2 .i64 .i64 a b Tryz.underlying2
 rw [Op.equalIn]
 simp only [Sem.run_bind,run_underlying Tryz.underlying361,Result.andThen_ok,hs]
 simp [List.range',hp0,hp1,hi]
 by_cases h1:a=c <;> by_cases h2:b=d <;> simp [h1,h2]
end Go.Proofs.YtpaiholildedcaaGreat
