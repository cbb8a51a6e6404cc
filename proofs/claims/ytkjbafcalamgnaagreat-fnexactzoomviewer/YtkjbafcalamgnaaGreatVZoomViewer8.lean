/- Texts. -/
import Derived.Test.YtkjbafcalamgnaaGreatVZoomViewer6
import Derived.Test.YtkjbafcalamgnaaGreatVZoomViewer7
import Derived.Deep.DeepCutAuto
import Derived.Shelf.Pu.Clone
set_option linter.unusedSimpArgs false
set_option linter.unusedVariables false
set_option maxRecDepth 100000
set_option maxHeartbeats 32000000
namespace Go.Proofs.YtkjbafcalamgnaaGreat
open Go.RowKit
theorem zU {w w':World}{p:Addr}{v:Value}(hb:Below w.heap.size w w')(h:w.cell? p=some v):w'.cell? p=some v:=(hb.cell (World.block_lt_of_cell? _ _ h)).trans h
theorem yY {w w':World}{b o s:Nat}{v:Value}(hg:w.grownBy w' (some s))(h:w.cell? ⟨b,o,none⟩=some v)(hs:b≠s):w'.cell? ⟨b,o,none⟩=some v:=hg.cell h (fun e=>hs (by injection e))
theorem zE3 {w w':World}{base size n:Nat}{e:TypeId}{v:Value}{xs:List Value}(h:w.ownsRow base e size v n xs)(hk:∀ g,v.ownBlock=some g→w'.heap[g]?=w.heap[g]?):w'.ownsRow base e size v n xs:=by
 obtain ⟨h1,h2 | ⟨g,cp,cur,hv,hg,hh,hr⟩⟩:=h
 ·exact ⟨h1,.inl h2⟩
 ·refine ⟨h1,.inr ⟨g,cp,cur,hv,hg,?_,hr⟩⟩
  rw [hk g (by rw [hv];rfl)]
  exact hh
theorem there7 (V:World)(v0 v1 v2 v3 v4 v5 v6:Value)(t:TypeId):zC (V.alloc (.cells #[v0,v1,v2,v3,v4,v5,v6] t)) V.heap.size 7:=fun o ho=>by
 refine ⟨⟨#[v0,v1,v2,v3,v4,v5,v6][o]'(by simpa using ho),?_⟩,World.frozen?_alloc_at _ _ _ _ rfl⟩
 rw [World.cell?_alloc_at _ _ _ _ rfl]
 exact Array.getElem?_eq_getElem _
def zOc (w:World)(O:Nat)(id la ki wi:Int)(v:Value)(lab:ByteArray)(pr:Int):Prop:=w.heap[O]?=some (Obj.cells #[.int .i64 id,.int .i64 la,.int .i64 ki,.int .i64 wi,v,.string lab,.int .i64 pr] 138 (0,0))
theorem zOc.cells {w:World}{O:Nat}{id la ki wi pr:Int}{v:Value}{lab:ByteArray}(h:zOc w O id la ki wi v lab pr) :
  (w.cell? ⟨O,0,none⟩=some (.int .i64 id)∧w.cell? ⟨O,1,none⟩=some (.int .i64 la)∧w.cell? ⟨O,2,none⟩=some (.int .i64 ki)∧w.cell? ⟨O,3,none⟩=some (.int .i64 wi)∧w.cell? ⟨O,4,none⟩=some v∧w.cell? ⟨O,5,none⟩=some (.string lab)∧w.cell? ⟨O,6,none⟩=some (.int .i64 pr))∧w.frozen? ⟨O,4,none⟩=false:=by
 unfold zOc at h
 refine ⟨⟨?_,?_,?_,?_,?_,?_,?_⟩,?_⟩ <;> simp [World.cell?,World.frozen?,h]
theorem zOc.lt {w:World}{O:Nat}{id la ki wi pr:Int}{v:Value}{lab:ByteArray}(h:zOc w O id la ki wi v lab pr):O<w.heap.size:=yW h
theorem zC.out {w:World}{O r n:Nat}{x:Value}(h:zC w r n)(hne:O≠r):zC (w.setCell ⟨O,4,none⟩ x) r n:=fun o ho=>by
 obtain ⟨u,hu⟩:=(h o ho).1
 exact ⟨⟨u,by rw [zB (fun e=>hne (by injection e))];exact hu⟩,by rw [World.frozen?_setCell];exact (h o ho).2⟩
theorem below7 {B r:Nat}{w W:World}{v0 v1 v2 v3 v4 v5 v6:Value}(h:Below B w W)(hr:B≤r):Below B w ((((((((W.setCell ⟨r,0,none⟩ v0).setCell ⟨r,1,none⟩ v1).setCell ⟨r,2,none⟩ v2).setCell ⟨r,3,none⟩ v3).setCell ⟨r,4,none⟩ v4).setCell ⟨r,5,none⟩ v5).setCell ⟨r,6,none⟩ v6)) :=
 (((((((h.setCell (p:=⟨r,0,none⟩) hr v0).setCell (p:=⟨r,1,none⟩) hr v1).setCell (p:=⟨r,2,none⟩) hr v2).setCell (p:=⟨r,3,none⟩) hr v3).setCell (p:=⟨r,4,none⟩) hr v4).setCell (p:=⟨r,5,none⟩) hr v5).setCell (p:=⟨r,6,none⟩) hr v6)
theorem Row.no (base:Nat)(w:World):Row base w (.slice none 0 0) []:=World.ownsRow_nil _ _ _ _
theorem Row.at {base:Nat}{w:World}{v:Value}{l:List (Int × Int)}(h:Row base w v l)(hne:0<l.length) :
  ∃ g cap,v=.slice (some ⟨g,0,none⟩) l.length cap∧base≤g∧g<w.heap.size∧l.length≤cap∧zL w g 0 l.length (px l) (py l):=by
 obtain ⟨a,cap,hv,hc,h0 | ⟨b,rfl,hb,hl,hp,ht⟩⟩:=h.own
 ·omega
 ·exact ⟨b,cap,hv,hb,hl,hc,hp⟩
theorem zUz:(Tryz.prog.info? 206).map (fun i=>(i.zero,i.size,i.bytes))=some (some (.agg #[.int .i64 0,.int .i64 0]),2,16):=by kernel_rfl

def vR (X Y:Nat→Int)(n:Nat):List (Int × Int):=(List.range n).map fun i=>(2 * X i,2 * Y i)
theorem zAs (X Y:Nat→Int)(n:Nat):(vR X Y n).length=n:=by simp [vR]
theorem zQy (X Y:Nat→Int)(k:Nat):vR X Y (k+1)=vR X Y k ++ [(2 * X k,2 * Y k)]:=by simp [vR,List.range_succ]
theorem dblL_px (X Y:Nat→Int)(n i:Nat)(h:i<n):px (vR X Y n) i=2 * X i∧py (vR X Y n) i=2 * Y i:=by
  simp [px,py,vR,List.getD_eq_getElem?_getD,h]
theorem zK9 (b off n cap:Nat)(X Y:Nat→Int)(w:World)(hp:zL w b off n X Y)(hbl:b<w.heap.size)(hn:n≤40)(hin:∀ i,i<n→inW (X i) (Y i)=true) :
    Calls Tryz.prog 211 #[.slice (some ⟨b,off,none⟩) n cap] w fun e w'=>∃ v,e=.returned v∧Row w.heap.size w' v (vR X Y n)∧Bw w w':=by
  obtain ⟨i0,hi,hz0,hz1,hz2⟩:=info_parts zUz
  have HP:Hid (zL w b off n X Y):=hp
  have HIN:Hid (∀ i,i<n→inW (X i) (Y i)=true):=hin
  clear hp hin
  go_enter Tryz.func211,Tryz.ntmps211
  go_wp2_with fail
  generalize hW:(w.alloc _:World)=W
  have hB0:Bw w W:=by subst hW;exact Qb
  have hO0:W.ownsRow w.heap.size 206 2 (.slice (some ⟨w.heap.size,0,none⟩) 0 0) 0 []:=by
    subst hW
    exact World.ownsRow_lit (base:=w.heap.size) w #[] 0 (Nat.le_refl _) (Nat.zero_le _) rfl
  clear hW
  have HB0:Hid (Bw w W):=hB0
  have HO0:Hid (Row w.heap.size W (.slice (some ⟨w.heap.size,0,none⟩) 0 0) []):=hO0
  clear hB0 hO0
  go_loopw [3,4] (fun v i wr=>∃ k:Nat,k≤n∧i=.int .i64 (k:Int)∧Row w.heap.size wr v (vR X Y k)∧Bw w wr) (fun _ i _=>n - (intOf i).toNat)
  case atStart=>exact ⟨0,by omega,rfl,HO0.out,HB0.out⟩
  case round =>
    obtain ⟨k,hk,rfl,hO,hB⟩:=hrel
    by_cases hlt:k<n
    · obtain ⟨hx,hy⟩:=(HP.out.below hB hbl) k hlt
      obtain ⟨⟨x0,x1⟩,y0,y1⟩:=zU0 (HIN.out k hlt)
      have HB:Hid (Bw w wr):=hB
      have HO:Hid (Row w.heap.size wr u3 (vR X Y k)):=hO
      have hbw:b<wr.heap.size:=Nat.lt_of_lt_of_le hbl hB.size
      have hszc:w.heap.size≤wr.heap.size:=hB.size
      have HLEN:Hid ((vR X Y k).length=k):=zAs X Y k
      have HS:Hid (vR X Y (k+1)=vR X Y k ++ [(2 * X k,2 * Y k)]):=zQy X Y k
      clear hO hB
      have hi':(k:Int)<(n:Int):=by omega
      have wx:IntKind.i64.wrap (2 * X k)=2 * X k:=IntWalk.i64_in _ (by omega)
      have wy:IntKind.i64.wrap (2 * Y k)=2 * Y k:=IntWalk.i64_in _ (by omega)
      go_wp2_with fail
      go_region_law (refine zQ rfl (.tmp 12) (.tmp 26) 136 rfl w.heap.size 206 i0 (.agg #[.int .i64 0,.int .i64 0]) 2 16 Tryz.underlying136 hi hz0 hz1 hz2 rfl (by decide) u3 (vR X Y k).length (vP (vR X Y k)) rfl ?own ⟨wr.heap.size,0,none⟩ 1 1 [.int .i64 (2 * X k),.int .i64 (2 * Y k)] rfl rfl ?c1 ?c2 ?c3 ?c4 ?c5 ?_
                     case own=>exact World.ownsRow.alloc HO.out _
                     case c1 =>
                       intro q u hq
                       match q,hq with
                       | 0,hq=>simp at hq;subst hq;simp [Addr.add,go_sem]
                       | 1,hq=>simp at hq;subst hq;simp [Addr.add,go_sem]
                       | q+2,hq=>simp at hq
                     case c2=>intro u hu;simp at hu;rcases hu with rfl | rfl <;> rfl
                     case c3=>have:=HLEN.out;unfold maxLen;omega
                     case c4=>have:=HLEN.out;omega
                     case c5=>first | omega | (simp;omega)
                     intro v' w3 hown' hgrow hnil
                     clear hnil
                     have hBV:Bw wr (World.alloc (World.drew wr) (.cells #[.int .i64 (2 * X k),.int .i64 (2 * Y k)] 206)):=by exact Qb
                     have hBg:Below w.heap.size (World.alloc (World.drew wr) (.cells #[.int .i64 (2 * X k),.int .i64 (2 * Y k)] 206)) w3:=(Below.refl _ _).grown hgrow (by have:=hBV.size;omega) (fun k hk=>(HO.out.lt k hk).1)
                     have HB3:Hid (Bw w w3):=(HB.out.trans (hBV.mono hszc)).trans hBg
                     have HO3:Hid (Row w.heap.size w3 v' (vR X Y (k+1))):=(by
                       show Row _ _ _ _
                       rw [HS.out]
                       show World.ownsRow _ _ _ _ _ _ _
                       rw [zJ0,List.length_append]
                       exact hown')
                     clear hown' hgrow hBg hBV)
      all_goals
        go_wp2_with fail
        go_roundw
        case rel=>exact ⟨k+1,by omega,by go_num,HO3.out,HB3.out⟩
        case measure=>simp [intOf];omega
    · go_wp2
      go_ret
      have hkn:k=n:=by omega
      subst hkn
      exact ⟨_,rfl,hO,hB⟩
theorem zP0 (b off n cap:Nat)(X Y:Nat→Int)(w:World)(hp:zL w b off n X Y)(hbl:b<w.heap.size)(hn:n≤40)(hin:∀ i,i<n→inW (X i) (Y i)=true) :
    Calls Tryz.prog 219 #[.slice (some ⟨b,off,none⟩) n cap] w fun e w'=>∃ v,e=.returned v∧Row w.heap.size w' v (vR X Y n)∧Bw w w':=by
  obtain ⟨i0,hi,hz0,hz1,hz2⟩:=info_parts zUz
  have HP:Hid (zL w b off n X Y):=hp
  have HIN:Hid (∀ i,i<n→inW (X i) (Y i)=true):=hin
  clear hp hin
  go_enter Tryz.func219,Tryz.ntmps219
  go_wp2_with fail
  go_loopw [3,8] (fun v i wr=>∃ k:Nat,k≤n∧i=.int .i64 (k:Int)∧Row w.heap.size wr v (vR X Y k)∧Bw w wr) (fun _ i _=>n - (intOf i).toNat)
  case atStart=>exact ⟨0,by omega,rfl,Row.no _ _,Below.refl _ _⟩
  case round =>
    obtain ⟨k,hk,rfl,hO,hB⟩:=hrel
    by_cases hlt:k<n
    · obtain ⟨hx,hy⟩:=(HP.out.below hB hbl) k hlt
      obtain ⟨⟨x0,x1⟩,y0,y1⟩:=zU0 (HIN.out k hlt)
      have HB:Hid (Bw w wr):=hB
      have HO:Hid (Row w.heap.size wr u3 (vR X Y k)):=hO
      have hbw:b<wr.heap.size:=Nat.lt_of_lt_of_le hbl hB.size
      have hszc:w.heap.size≤wr.heap.size:=hB.size
      have HLEN:Hid ((vR X Y k).length=k):=zAs X Y k
      have HS:Hid (vR X Y (k+1)=vR X Y k ++ [(2 * X k,2 * Y k)]):=zQy X Y k
      clear hO hB
      have hi':(k:Int)<(n:Int):=by omega
      go_wp2_with (first
        | (at_builtin;go_must (refine wpList_append_own _ rfl _ _ 136 rfl w.heap.size 206 i0 (.agg #[.int .i64 0,.int .i64 0]) 2 16 Tryz.underlying136 hi hz0 hz1 hz2 rfl (by decide) _ (vR X Y k).length (vP (vR X Y k)) rfl (World.ownsRow.alloc (World.ownsRow.alloc HO.out _) _) ⟨wr.heap.size+1,0,none⟩ 1 1 [.int .i64 (2 * X k),.int .i64 (2 * Y k)] rfl rfl ?c1 ?c2 ?c3 ?c4 ?c5 ?_)))
      try (case c1 =>
        intro q u hq
        match q,hq with
        | 0,hq=>simp at hq;subst hq;simp [Addr.add,go_sem]
        | 1,hq=>simp at hq;subst hq;simp [Addr.add,go_sem]
        | q+2,hq=>simp at hq)
      case c2=>first | (intro u hu;simp at hu;rcases hu with rfl | rfl <;> rfl) | exact ⟨rfl,rfl⟩
      case c3=>have:=HLEN.out;unfold maxLen;omega
      case c4=>have:=HLEN.out;omega
      case c5=>first | omega | (simp;omega)
      intro v' w3 hown' hgrow hnil
      clear hnil
      generalize hV:((wr.alloc _).alloc _:World)=V at hgrow
      have hBV:Bw wr V:=by subst hV;exact Qb
      have hBg:Below w.heap.size V w3:=(Below.refl _ _).grown hgrow (by have:=hBV.size;omega) (fun k hk=>(HO.out.lt k hk).1)
      have HB3:Hid (Bw w w3):=(HB.out.trans (hBV.mono hszc)).trans hBg
      have HO3:Hid (Row w.heap.size w3 v' (vR X Y (k+1))):=by
        show Row _ _ _ _
        rw [HS.out]
        show World.ownsRow _ _ _ _ _ _ _
        rw [zJ0,List.length_append]
        exact hown'
      clear hown' hgrow hBg hBV hV
      go_wp2
      go_roundw
      case rel=>exact ⟨k+1,by omega,by go_num,HO3.out,HB3.out⟩
      case measure=>simp [intOf];omega
    · go_wp2
      go_ret
      have hkn:k=n:=by omega
      subst hkn
      exact ⟨_,rfl,hO,hB⟩

theorem zC.grown {w w':World}{p n s:Nat}(h:zC w p n)(hg:w.grownBy w' (some s))(hs:p≠s):zC w' p n:=fun o hn=>by
 obtain ⟨v,hv⟩:=(h o hn).1
 refine ⟨⟨v,yY hg hv hs⟩,?_⟩
 have he:=hg.block p (World.block_lt_of_cell? _ _ hv) (fun e=>hs (by injection e))
 have hz:=(h o hn).2
 unfold World.frozen? at hz ⊢
 simp only [he]
 exact hz
theorem zJf {w:World}{b off n:Nat}{X Y:Nat→Int}(h:zL w b off n X Y):∀ j u,(vP (vE X Y (List.range n)))[j]?=some u→w.cell? ⟨b,off+j,none⟩=some u:=fun j u hu=>by
 have hlen:(vE X Y (List.range n)).length=n:=by simp [vE]
 have hj:j<n * 2:=by
  have:=(List.getElem?_eq_some_iff.1 hu).1
  rw [zBe,hlen] at this
  exact this
 have hi:j / 2<n:=by omega
 obtain ⟨e1,e2⟩:=zH4 (vE X Y (List.range n)) (j / 2) (by rw [hlen];exact hi)
 obtain ⟨c1,c2⟩:=h (j / 2) hi
 have ex:px (vE X Y (List.range n)) (j / 2)=X (j / 2):=by simp [px,vE,List.getD_eq_getElem?_getD,hi]
 have ey:py (vE X Y (List.range n)) (j / 2)=Y (j / 2):=by simp [py,vE,List.getD_eq_getElem?_getD,hi]
 rw [ex] at e1
 rw [ey] at e2
 rcases Nat.mod_two_eq_zero_or_one j with hm | hm
 ·have e:j / 2 * 2=j:=by omega
  rw [e] at e1 c1
  rw [e1] at hu
  rw [c1]
  exact hu
 ·have e:j / 2 * 2+1=j:=by omega
  rw [Nat.add_assoc,e] at c2
  rw [e] at e2
  rw [e2] at hu
  rw [c2]
  exact hu
theorem zIg (s:ByteArray)(w:World)(hlim:s.size≤1048576) :
  Calls Tryz.prog 263 #[.string s] w fun e w'=>e=.returned (.string s)∧Bw w w':=by
 by_cases h0:s.size=0
 ·have hs:s=⟨#[]⟩:=by
   apply ByteArray.ext
   exact Array.eq_empty_of_size_eq_zero h0
  subst hs
  go_enter Tryz.func263,Tryz.ntmps263
  go_wp2
  go_ret
  exact ⟨rfl,Below.refl _ _⟩
 ·obtain ⟨i0,hi,hz0,hz1,hz2⟩:=info_parts info_u8
  have hinfo:(Tryz.prog.info? 5).map (·.size)=some 1:=by rw [hi];simp [hz1]
  have hco:Tryz.prog.cellsOf 5=1:=by simp [Program.cellsOf,hi,hz1]
  obtain ⟨M,hM⟩:∃ M,M=madeCells (Value.int .u8 0).cells (((s.size:Nat):Int).toNat * i0.size):=⟨_,rfl⟩
  have hMs:M.size=s.size:=by rw [hM,size_madeCells,hz1];simp
  have hmk:∀ W:World,(Instr.makeSlice 271 (.int .i64 (s.size:Int)) (.int .i64 (s.size:Int))).run Tryz.prog W=.ok (.slice (some ⟨W.heap.size,0,none⟩) s.size s.size) (W.alloc (.cells M 5)):=fun W=>by
   have h:=run_make (P:=Tryz.prog) W 271 5 i0 (.int .u8 0) Tryz.underlying271 hi hz0 .i64 .i64 (s.size:Int) (s.size:Int) (by omega) (by omega) (by rw [hz2];omega) (by omega)
   rw [← hM] at h
   simpa using h
  clear hM
  have hcp:=Lib.run_copy_row_string (P:=Tryz.prog) (w.alloc (.cells M 5)) 271 9 3 5 w.heap.size 0 s.size s.size s M 5 Tryz.underlying271 hinfo (heap_alloc_new w _) (Nat.le_refl _) (by omega)
  obtain ⟨Y,hY⟩:∃ Y,Y=(M.toList.take 0 ++ Lib.byteCells s.data.toList ++ M.toList.drop (0+s.size)).toArray:=⟨_,rfl⟩
  rw [← hY] at hcp
  have hYl:Y.toList=Lib.byteCells s.data.toList:=by
   rw [hY,List.toList_toArray,List.take_zero,List.nil_append,List.drop_of_length_le (by rw [Array.length_toList];omega),List.append_nil]
  have hYs:Y.size=s.size:=by rw [← Array.length_toList,hYl,Lib.byteCells_length,← Lib.size_eq]
  have hgY:((w.alloc (.cells M 5)).setRow w.heap.size Y).heap[w.heap.size]?=some (.cells Y 5 (0,0)):=setRow_heap _ _ M _ 5 (0,0) (heap_alloc_new w _)
  have hne:s.data.toList≠[]:=fun e=>h0 (by rw [Lib.size_eq,e];rfl)
  have hUS:=Lib.run_unsafeString_row (P:=Tryz.prog) ((w.alloc (.cells M 5)).setRow w.heap.size Y) 333 3 9 5 Tryz.underlying333 hco w.heap.size Y.size (by unfold World.shape?;rw [hgY]) s.data.toList hne (by rw [← Lib.size_eq];omega) (by rw [← Lib.size_eq];omega)
   (fun j x hx=>Lib.cells_of_row hgY Y.size j _ (by rw [List.take_of_length_le (by rw [Array.length_toList];exact Nat.le_refl _),hYl];simp [Lib.byteCells,hx]))
  rw [← Lib.size_eq] at hUS
  clear hY
  go_enter Tryz.func263,Tryz.ntmps263
  go_wp2
  go_ret
  have hb1:Bw w (w.alloc (.cells M 5)):=(Below.refl _ w).alloc (Nat.le_refl _) _
  have hb2:Below w.heap.size (w.alloc (.cells M 5)) ((w.alloc (.cells M 5)).setRow w.heap.size Y):=⟨rfl,rfl,rfl,by simp,fun k hk=>setRow_other _ _ _ _ (by omega)⟩
  exact ⟨rfl,Lib.below_freeze (hb1.trans hb2) (p:=⟨w.heap.size,0,none⟩) (Nat.le_refl _) _⟩
theorem zFy (s:ByteArray)(w:World)(hlim:s.size≤1048576) :
  Calls Tryz.prog 246 #[.string s] w fun e w'=>e=.returned (.string s)∧Bw w w':=by
 go_enter Tryz.func246,Tryz.ntmps246
 go_wp2_with (go_at_call 263;refine (zIg _ _ hlim).mono ?_;rintro e w1 ⟨rfl,hb1⟩)
 go_ret
 exact ⟨rfl,Qb⟩

abbrev zCo (z x y wd ht:Int):Value:=.agg #[.int .i64 z,.int .i64 x,.int .i64 y,.int .i64 wd,.int .i64 ht]
abbrev crV (c z x y wd ht:Int):Value:=.agg #[.int .i64 c,.int .i64 z,.int .i64 x,.int .i64 y,.int .i64 wd,.int .i64 ht]
def zAi (z x y wd ht:Int):Bool:=(xD z && (inB wd 1 8 && inB ht 1 8)) && (inB x 0 (xQ z - wd) && inB y 0 (xQ z - ht))
def uR (z x y wd ht:Int):Int:=if zAi z x y wd ht=true then 0 else 3
theorem vZ {z x y wd ht:Int}(h:zAi z x y wd ht=true):xD z=true:=by simp [zAi] at h;exact h.1.1
theorem uD {z x y wd ht:Int}(h:zAi z x y wd ht=true):((1≤wd∧wd≤8)∧(1≤ht∧ht≤8))∧((0≤x∧x≤xQ z - wd)∧(0≤y∧y≤xQ z - ht)):=by
 simp [zAi,inB] at h
 omega
theorem zBf (z x y wd ht:Int):(uR z x y wd ht=0∧zAi z x y wd ht=true)∨(uR z x y wd ht=3∧zAi z x y wd ht=false):=by
 unfold uR
 cases h:zAi z x y wd ht <;> simp
theorem zJs (n:Int)(w:World):Calls Tryz.prog 93 #[.int .i64 n] w fun e w'=>e=.returned (.bool (inB n 1 8))∧w=w':=by
 go_enter Tryz.func93,Tryz.ntmps93
 go_wp2_with (go_at_call 77;refine (zR _ _ _ _).mono ?_;rintro e w' ⟨rfl,rfl⟩)
 go_ret
 exact ⟨rfl,rfl⟩
theorem zAu (z x y wd ht:Int)(w:World):Calls Tryz.prog 79 #[zCo z x y wd ht] w fun e w'=>e=.returned (pxV x y)∧Bw w w':=by
 go_enter Tryz.func79,Tryz.ntmps79
 go_wp2_with (go_at_call 80;refine (zBj _ _ _).mono ?_;rintro e w' ⟨rfl,rfl⟩)
 go_ret
 exact ⟨rfl,Qb⟩
theorem zDv (z x y wd ht:Int)(w:World):Calls Tryz.prog 90 #[zCo z x y wd ht] w fun e w'=>e=.returned (pxV wd ht)∧Bw w w':=by
 go_enter Tryz.func90,Tryz.ntmps90
 go_wp2_with (go_at_call 80;refine (zBj _ _ _).mono ?_;rintro e w' ⟨rfl,rfl⟩)
 go_ret
 exact ⟨rfl,Qb⟩
theorem zH5 (z x y wd ht:Int)(w:World)(hx:0≤x∧x≤64)(hy:0≤y∧y≤64)(hw:1≤wd∧wd≤8)(hh:1≤ht∧ht≤8):Calls Tryz.prog 118 #[zCo z x y wd ht] w fun e w'=>e=.returned (pxV (x+wd - 1) (y+ht - 1))∧Bw w w':=by
 have s1:=fun t w=>zE1 t (a:=x) (b:=y) (c:=wd) (d:=ht) w (by omega) (by omega)
 have s2:∀ t w,(binOp .sub t (pxV (x+wd) (y+ht)) (.complex .f64 4607182418800017408 4607182418800017408)).run Tryz.prog w=.ok (pxV (x+wd - 1) (y+ht - 1)) w:=fun t w=>by
  rw [← flo_1]
  exact zE0 t (a:=x+wd) (b:=y+ht) (c:=1) (d:=1) w (by omega) (by omega)
 clear hx hy hw hh
 go_enter Tryz.func118,Tryz.ntmps118
 go_wp2_with fail
 generalize hW:(w.alloc _:World)=W
 have HB0:Hid (Bw w W):=by show Below _ _ _;subst hW;exact Qb
 have c00:∀ W',Bw W W'→W'.cell? ⟨w.heap.size,0,none⟩=some (.int .i64 z):=Qc hW
 have c01:∀ W',Bw W W'→W'.cell? ⟨w.heap.size,1,none⟩=some (.int .i64 x):=Qc hW
 have c02:∀ W',Bw W W'→W'.cell? ⟨w.heap.size,2,none⟩=some (.int .i64 y):=Qc hW
 have c03:∀ W',Bw W W'→W'.cell? ⟨w.heap.size,3,none⟩=some (.int .i64 wd):=Qc hW
 have c04:∀ W',Bw W W'→W'.cell? ⟨w.heap.size,4,none⟩=some (.int .i64 ht):=Qc hW
 clear hW
 have hr:Bw W W:=Below.refl _ _
 go_region_held3 (fun W'=>Bw W W') ((repeat (first|exact Qr _ _|assumption|refine Qd ?_|refine Qa ?_ _|refine Qt ?_|refine Qs ?_ _|refine Qo ?_ ?_ _ _)))
  (first
   | (go_at_call 79;refine (zAu _ _ _ _ _ _).mono ?_;rintro e w1 ⟨rfl,hb⟩)
   | (go_at_call 90;refine (zDv _ _ _ _ _ _).mono ?_;rintro e w1 ⟨rfl,hb⟩)
   | fail)
 go_wp2
 go_ret
 exact ⟨rfl,zA HB0.out (by assumption)⟩
theorem vQ (z x y wd ht:Int)(w:World):Calls Tryz.prog 69 #[zCo z x y wd ht] w fun e w'=>e=.returned (.int .i64 (uR z x y wd ht))∧Bw w w':=by
 cases hv:(inB wd 1 8 && inB ht 1 8 && zBg z x y)
 ·have hk:Hid (uR z x y wd ht=3):=by
   show _=_
   unfold uR
   rw [if_neg]
   intro hc
   have h1:=vZ hc
   have h2:=uD hc
   have h3:=xU h1
   have:(inB wd 1 8 && inB ht 1 8 && zBg z x y)=true:=by
    simp [zBg,inB,h1]
    omega
   rw [this] at hv
   cases hv
  cases h1:inB wd 1 8 <;> cases h2:inB ht 1 8 <;> cases h3:zBg z x y
  all_goals first | (rw [h1,h2,h3] at hv;cases hv;done) | skip
  all_goals
   clear hv
   go_enter Tryz.func69,Tryz.ntmps69
   go_wp2_with (first
    | (go_at_call 93;refine (zJs _ _).mono ?_;rintro e w' ⟨rfl,rfl⟩)
    | (go_at_call 117;refine (zAb _ _ _ _).mono ?_;rintro e w' ⟨rfl,hb⟩))
   all_goals (go_ret;exact ⟨zD hk.out.symm,Qb⟩)
 ·simp only [Bool.and_eq_true] at hv
  obtain ⟨⟨h1,h2⟩,h3⟩:=hv
  have hz:=uJ h3
  have hp:=zDb h3
  have hn:=xU hz
  have hw:1≤wd∧wd≤8:=by simpa [inB] using h1
  have hh:1≤ht∧ht≤8:=by simpa [inB] using h2
  have hk:Hid (uR z x y wd ht=if zBg z (x+wd - 1) (y+ht - 1)=true then 0 else 3):=by
   show _=_
   unfold uR
   have:zAi z x y wd ht=zBg z (x+wd - 1) (y+ht - 1):=by
    rw [Bool.eq_iff_iff]
    simp [zAi,zBg,inB,hz]
    omega
   rw [this]
  have sL:=fun w=>zH5 z x y wd ht w (by omega) (by omega) hw hh
  have sX:=fun w=>zO6 (x+wd - 1) (y+ht - 1) w (by omega) (by omega)
  have sY:=fun w=>zO5 (x+wd - 1) (y+ht - 1) w (by omega) (by omega)
  have sP:=fun w=>zAb z (x+wd - 1) (y+ht - 1) w
  clear hp hn hw hh hz
  generalize x+wd - 1=lx at *
  generalize y+ht - 1=ly at *
  go_enter Tryz.func69,Tryz.ntmps69
  go_wp2_with fail
  generalize hW:(w.alloc _:World)=W
  have HB0:Hid (Bw w W):=by show Below _ _ _;subst hW;exact Qb
  have c00:∀ W',Bw W W'→W'.cell? ⟨w.heap.size,0,none⟩=some (.int .i64 z):=Qc hW
  have c01:∀ W',Bw W W'→W'.cell? ⟨w.heap.size,1,none⟩=some (.int .i64 x):=Qc hW
  have c02:∀ W',Bw W W'→W'.cell? ⟨w.heap.size,2,none⟩=some (.int .i64 y):=Qc hW
  have c03:∀ W',Bw W W'→W'.cell? ⟨w.heap.size,3,none⟩=some (.int .i64 wd):=Qc hW
  have c04:∀ W',Bw W W'→W'.cell? ⟨w.heap.size,4,none⟩=some (.int .i64 ht):=Qc hW
  clear hW
  have hr:Bw W W:=Below.refl _ _
  go_wp2_with (first
   | (go_at_call 93;refine (zJs _ _).mono ?_;rintro e w' ⟨rfl,rfl⟩)
   | fail)
  refine (zAb z x y _).mono ?_
  rintro e w1 ⟨rfl,hb1⟩
  go_wp2_with fail
  refine (sL _).mono ?_
  rintro e w2 ⟨rfl,hb2⟩
  have hB2:Bw W w2:=zA hb1 hb2
  clear hb1 hb2
  go_wp2_with fail
  cases hq:zBg z lx ly
  all_goals
   rw [hq] at sP hk
   go_region_held3 (fun W'=>Bw W W') ((repeat (first|exact Qr _ _|assumption|refine Qd ?_|refine Qa ?_ _|refine Qt ?_|refine Qs ?_ _|refine Qo ?_ ?_ _ _)))
    (first
     | (go_at_call 119;refine (sX _).mono ?_;rintro e w3 ⟨rfl,rfl⟩)
     | (go_at_call 120;refine (sY _).mono ?_;rintro e w3 ⟨rfl,rfl⟩)
     | (go_at_call 117;refine (sP _).mono ?_;rintro e w3 ⟨rfl,hb⟩)
     | fail)
   go_wp2
   go_ret
   exact ⟨zD (by rw [hk.out];rfl),zA HB0.out (by assumption)⟩
theorem zMf (z x y wd ht:Int)(w:World):Calls Tryz.prog 31 #[zCo z x y wd ht] w fun e w'=>e=.returned (zCo z x y wd ht)∧Bw w w':=by
 go_enter Tryz.func31,Tryz.ntmps31
 go_wp2
 exact bodyPost_ret (v:=zCo z x y wd ht) (by simp [results,Tryz.results31,go_sem]) rfl ⟨rfl,Qb⟩
theorem zFo (z x y wd ht:Int)(w:World):Calls Tryz.prog 38 #[zCo z x y wd ht,zCo z x y wd ht] w fun e w'=>e=.returned (.bool true)∧Bw w w':=by
 go_enter Tryz.func38,Tryz.ntmps38
 go_wp2
 go_ret
 exact ⟨rfl,Qb⟩
theorem zQe {W:World}{r:Nat}{a b c d e:Value}(hT:zC W r 5) :
  (((((W.setCell ⟨r,0,none⟩ a).setCell ⟨r,1,none⟩ b).setCell ⟨r,2,none⟩ c).setCell ⟨r,3,none⟩ d).setCell ⟨r,4,none⟩ e).cell? ⟨r,0,none⟩=some a ∧
  (((((W.setCell ⟨r,0,none⟩ a).setCell ⟨r,1,none⟩ b).setCell ⟨r,2,none⟩ c).setCell ⟨r,3,none⟩ d).setCell ⟨r,4,none⟩ e).cell? ⟨r,1,none⟩=some b ∧
  (((((W.setCell ⟨r,0,none⟩ a).setCell ⟨r,1,none⟩ b).setCell ⟨r,2,none⟩ c).setCell ⟨r,3,none⟩ d).setCell ⟨r,4,none⟩ e).cell? ⟨r,2,none⟩=some c ∧
  (((((W.setCell ⟨r,0,none⟩ a).setCell ⟨r,1,none⟩ b).setCell ⟨r,2,none⟩ c).setCell ⟨r,3,none⟩ d).setCell ⟨r,4,none⟩ e).cell? ⟨r,3,none⟩=some d ∧
  (((((W.setCell ⟨r,0,none⟩ a).setCell ⟨r,1,none⟩ b).setCell ⟨r,2,none⟩ c).setCell ⟨r,3,none⟩ d).setCell ⟨r,4,none⟩ e).cell? ⟨r,4,none⟩=some e:=by
 obtain ⟨x0,h0⟩:=(hT 0 (by omega)).1
 obtain ⟨x1,h1⟩:=(hT 1 (by omega)).1
 obtain ⟨x2,h2⟩:=(hT 2 (by omega)).1
 obtain ⟨x3,h3⟩:=(hT 3 (by omega)).1
 obtain ⟨x4,h4⟩:=(hT 4 (by omega)).1
 have ne:∀ i j:Nat,i≠j→(⟨r,i,none⟩:Addr)≠⟨r,j,none⟩:=fun i j hij h=>hij (by injection h)
 refine ⟨?_,?_,?_,?_,?_⟩
 ·rw [zB (ne 4 0 (by omega)),zB (ne 3 0 (by omega)),zB (ne 2 0 (by omega)),zB (ne 1 0 (by omega))];exact zE (by exact h0)
 ·rw [zB (ne 4 1 (by omega)),zB (ne 3 1 (by omega)),zB (ne 2 1 (by omega))];exact zE (by rw [zB (ne 0 1 (by omega))];exact h1)
 ·rw [zB (ne 4 2 (by omega)),zB (ne 3 2 (by omega))];exact zE (by rw [zB (ne 1 2 (by omega)),zB (ne 0 2 (by omega))];exact h2)
 ·rw [zB (ne 4 3 (by omega))];exact zE (by rw [zB (ne 2 3 (by omega)),zB (ne 1 3 (by omega)),zB (ne 0 3 (by omega))];exact h3)
 ·exact zE (by rw [zB (ne 3 4 (by omega)),zB (ne 2 4 (by omega)),zB (ne 1 4 (by omega)),zB (ne 0 4 (by omega))];exact h4)
theorem vK {W:World}{r:Nat}{a b c d e f:Value}(hT:zC W r 6) :
  ((((((W.setCell ⟨r,0,none⟩ a).setCell ⟨r,1,none⟩ b).setCell ⟨r,2,none⟩ c).setCell ⟨r,3,none⟩ d).setCell ⟨r,4,none⟩ e).setCell ⟨r,5,none⟩ f).cell? ⟨r,0,none⟩=some a ∧
  ((((((W.setCell ⟨r,0,none⟩ a).setCell ⟨r,1,none⟩ b).setCell ⟨r,2,none⟩ c).setCell ⟨r,3,none⟩ d).setCell ⟨r,4,none⟩ e).setCell ⟨r,5,none⟩ f).cell? ⟨r,1,none⟩=some b ∧
  ((((((W.setCell ⟨r,0,none⟩ a).setCell ⟨r,1,none⟩ b).setCell ⟨r,2,none⟩ c).setCell ⟨r,3,none⟩ d).setCell ⟨r,4,none⟩ e).setCell ⟨r,5,none⟩ f).cell? ⟨r,2,none⟩=some c ∧
  ((((((W.setCell ⟨r,0,none⟩ a).setCell ⟨r,1,none⟩ b).setCell ⟨r,2,none⟩ c).setCell ⟨r,3,none⟩ d).setCell ⟨r,4,none⟩ e).setCell ⟨r,5,none⟩ f).cell? ⟨r,3,none⟩=some d ∧
  ((((((W.setCell ⟨r,0,none⟩ a).setCell ⟨r,1,none⟩ b).setCell ⟨r,2,none⟩ c).setCell ⟨r,3,none⟩ d).setCell ⟨r,4,none⟩ e).setCell ⟨r,5,none⟩ f).cell? ⟨r,4,none⟩=some e ∧
  ((((((W.setCell ⟨r,0,none⟩ a).setCell ⟨r,1,none⟩ b).setCell ⟨r,2,none⟩ c).setCell ⟨r,3,none⟩ d).setCell ⟨r,4,none⟩ e).setCell ⟨r,5,none⟩ f).cell? ⟨r,5,none⟩=some f:=by
 obtain ⟨x0,h0⟩:=(hT 0 (by omega)).1
 obtain ⟨x1,h1⟩:=(hT 1 (by omega)).1
 obtain ⟨x2,h2⟩:=(hT 2 (by omega)).1
 obtain ⟨x3,h3⟩:=(hT 3 (by omega)).1
 obtain ⟨x4,h4⟩:=(hT 4 (by omega)).1
 obtain ⟨x5,h5⟩:=(hT 5 (by omega)).1
 have ne:∀ i j:Nat,i≠j→(⟨r,i,none⟩:Addr)≠⟨r,j,none⟩:=fun i j hij h=>hij (by injection h)
 refine ⟨?_,?_,?_,?_,?_,?_⟩
 ·rw [zB (ne 5 0 (by omega)),zB (ne 4 0 (by omega)),zB (ne 3 0 (by omega)),zB (ne 2 0 (by omega)),zB (ne 1 0 (by omega))];exact zE (by exact h0)
 ·rw [zB (ne 5 1 (by omega)),zB (ne 4 1 (by omega)),zB (ne 3 1 (by omega)),zB (ne 2 1 (by omega))];exact zE (by rw [zB (ne 0 1 (by omega))];exact h1)
 ·rw [zB (ne 5 2 (by omega)),zB (ne 4 2 (by omega)),zB (ne 3 2 (by omega))];exact zE (by rw [zB (ne 1 2 (by omega)),zB (ne 0 2 (by omega))];exact h2)
 ·rw [zB (ne 5 3 (by omega)),zB (ne 4 3 (by omega))];exact zE (by rw [zB (ne 2 3 (by omega)),zB (ne 1 3 (by omega)),zB (ne 0 3 (by omega))];exact h3)
 ·rw [zB (ne 5 4 (by omega))];exact zE (by rw [zB (ne 3 4 (by omega)),zB (ne 2 4 (by omega)),zB (ne 1 4 (by omega)),zB (ne 0 4 (by omega))];exact h4)
 ·exact zE (by rw [zB (ne 4 5 (by omega)),zB (ne 3 5 (by omega)),zB (ne 2 5 (by omega)),zB (ne 1 5 (by omega)),zB (ne 0 5 (by omega))];exact h5)
theorem zEz (V:World)(a b c d e:Value)(t:TypeId):zC (V.alloc (.cells #[a,b,c,d,e] t)) V.heap.size 5:=fun o ho=>by
 have:o=0∨o=1∨o=2∨o=3∨o=4:=by omega
 rcases this with rfl | rfl | rfl | rfl | rfl <;> exact ⟨⟨_,by simp [go_sem];rfl⟩,by simp [go_sem]⟩
theorem zKf (V:World)(a b c d e f:Value)(t:TypeId):zC (V.alloc (.cells #[a,b,c,d,e,f] t)) V.heap.size 6:=fun o ho=>by
 have:o=0∨o=1∨o=2∨o=3∨o=4∨o=5:=by omega
 rcases this with rfl | rfl | rfl | rfl | rfl | rfl <;> exact ⟨⟨_,by simp [go_sem];rfl⟩,by simp [go_sem]⟩
theorem zC.putC {W:World}{r n o r':Nat}{v:Value}(h:zC W r n):zC (W.setCell ⟨r',o,none⟩ v) r n:=fun o' ho=>by
 obtain ⟨⟨u,hu⟩,hf⟩:=h o' ho
 refine ⟨?_,by rw [World.frozen?_setCell];exact hf⟩
 by_cases e:(⟨r',o,none⟩:Addr)=⟨r,o',none⟩
 ·rw [e];exact ⟨v,World.cell?_setCell_same _ _ _ (by rw [hu])⟩
 ·exact ⟨u,by rw [zB e];exact hu⟩
theorem zC.belowC {W W':World}{r n B:Nat}(h:zC W r n)(hb:Below B W W')(hr:r<B):zC W' r n:=fun o ho=>by
 obtain ⟨u,hu⟩:=(h o ho).1
 exact ⟨⟨u,(hb.cell (p:=⟨r,o,none⟩) hr).trans hu⟩,(hb.frozen (p:=⟨r,o,none⟩) hr).trans (h o ho).2⟩
theorem zQu {a l:Int}(h0:0≤l)(h1:l≤64):0≤yS a l∧yS a l≤64:=by unfold yS;omega
theorem zJu (z x y wd ht a b:Int)(w:World)(hz:xD z=true)(hw:1≤wd∧wd≤8)(hh:1≤ht∧ht≤8)(ha:-1000≤a∧a≤1000)(hb:-1000≤b∧b≤1000) :
  Calls Tryz.prog 78 #[zCo z x y wd ht,pxV a b] w fun e w'=>e=.returned (zCo z (yS a (xQ z - wd)) (yS b (xQ z - ht)) wd ht)∧Bw w w':=by
 have sP:=fun w=>zAc z w
 have hv:zYj z=.agg #[.int .i64 0,.int .i64 (xQ z)]:=by simp [zYj,hz]
 simp only [hv] at sP
 have hn:=xU hz
 generalize xQ z=u at *
 clear hv hz
 have i1:∀ w,(Instr.field 185 (.agg #[.int .i64 0,.int .i64 u]) 1).run Tryz.prog w=.ok (.int .i64 u) w:=fun _=>by kernel_rfl
 have s1:=fun t w=>zE0 t (a:=u) (b:=u) (c:=wd) (d:=ht) w (by omega) (by omega)
 have sH:=fun w=>zNh a b (u - wd) (u - ht) w (by omega) (by omega)
 have b1:=zQu (a:=a) (l:=u - wd) (by omega) (by omega)
 have b2:=zQu (a:=b) (l:=u - ht) (by omega) (by omega)
 generalize yS a (u - wd)=hx at *
 generalize yS b (u - ht)=hy at *
 have sX:=fun w=>zO6 hx hy w (by omega) (by omega)
 have sY:=fun w=>zO5 hx hy w (by omega) (by omega)
 clear hw hh ha hb hn b1 b2
 go_enter Tryz.func78,Tryz.ntmps78
 go_wp2_with fail
 generalize hW:((w.alloc _).alloc _:World)=W
 have HB0:Hid (Bw w W):=by show Below _ _ _;subst hW;exact Qb
 have HL:Hid (w.heap.size+1<W.heap.size):=by show _<_;subst hW;simp
 have HT:Hid (zC W (w.heap.size+1) 5):=by
  show zC _ _ _
  subst hW
  have:=zEz (w.alloc (.cells #[.int .i64 z,.int .i64 x,.int .i64 y,.int .i64 wd,.int .i64 ht] 32)) (.int .i64 0) (.int .i64 0) (.int .i64 0) (.int .i64 0) (.int .i64 0) 32
  simpa using this
 have c00:∀ W',Bw W W'→W'.cell? ⟨w.heap.size,0,none⟩=some (.int .i64 z):=Qc hW
 have c01:∀ W',Bw W W'→W'.cell? ⟨w.heap.size,1,none⟩=some (.int .i64 x):=Qc hW
 have c02:∀ W',Bw W W'→W'.cell? ⟨w.heap.size,2,none⟩=some (.int .i64 y):=Qc hW
 have c03:∀ W',Bw W W'→W'.cell? ⟨w.heap.size,3,none⟩=some (.int .i64 wd):=Qc hW
 have c04:∀ W',Bw W W'→W'.cell? ⟨w.heap.size,4,none⟩=some (.int .i64 ht):=Qc hW
 have c10:∀ W',Bw W W'→W'.cell? ⟨w.heap.size+1,0,none⟩=some (.int .i64 0):=Qc hW
 have c11:∀ W',Bw W W'→W'.cell? ⟨w.heap.size+1,1,none⟩=some (.int .i64 0):=Qc hW
 have c12:∀ W',Bw W W'→W'.cell? ⟨w.heap.size+1,2,none⟩=some (.int .i64 0):=Qc hW
 have c13:∀ W',Bw W W'→W'.cell? ⟨w.heap.size+1,3,none⟩=some (.int .i64 0):=Qc hW
 have c14:∀ W',Bw W W'→W'.cell? ⟨w.heap.size+1,4,none⟩=some (.int .i64 0):=Qc hW
 have z00:∀ W',Bw W W'→W'.frozen? ⟨w.heap.size,0,none⟩=false:=Qf hW
 have z01:∀ W',Bw W W'→W'.frozen? ⟨w.heap.size,1,none⟩=false:=Qf hW
 have z02:∀ W',Bw W W'→W'.frozen? ⟨w.heap.size,2,none⟩=false:=Qf hW
 have z03:∀ W',Bw W W'→W'.frozen? ⟨w.heap.size,3,none⟩=false:=Qf hW
 have z04:∀ W',Bw W W'→W'.frozen? ⟨w.heap.size,4,none⟩=false:=Qf hW
 have z10:∀ W',Bw W W'→W'.frozen? ⟨w.heap.size+1,0,none⟩=false:=Qf hW
 have z11:∀ W',Bw W W'→W'.frozen? ⟨w.heap.size+1,1,none⟩=false:=Qf hW
 have z12:∀ W',Bw W W'→W'.frozen? ⟨w.heap.size+1,2,none⟩=false:=Qf hW
 have z13:∀ W',Bw W W'→W'.frozen? ⟨w.heap.size+1,3,none⟩=false:=Qf hW
 have z14:∀ W',Bw W W'→W'.frozen? ⟨w.heap.size+1,4,none⟩=false:=Qf hW
 clear hW
 refine (sP _).mono ?_
 rintro e w1 ⟨rfl,hb1⟩
 go_wp2_with fail
 go_region_held3 (fun W'=>Bw W W') ((repeat (first|exact Qr _ _|assumption|refine Qd ?_|refine Qa ?_ _|refine Qt ?_|refine Qs ?_ _|refine Qo ?_ ?_ _ _)))
  (first
   | (go_at_call 80;refine (zBj _ _ _).mono ?_;rintro e w3 ⟨rfl,rfl⟩)
   | (go_at_call 90;refine (zDv _ _ _ _ _ _).mono ?_;rintro e w3 ⟨rfl,hb⟩)
   | (go_at_call 136;refine (sH _).mono ?_;rintro e w3 ⟨rfl,rfl⟩)
   | fail)
 go_wp2_with (first
   | (go_at_call 119;refine (sX _).mono ?_;rintro e w3 ⟨rfl,rfl⟩)
   | (go_at_call 120;refine (sY _).mono ?_;rintro e w3 ⟨rfl,rfl⟩))
 rename_i hfin
 have hT:=((HT.out.belowC hfin HL.out).putC (o:=1) (r':=w.heap.size) (v:=.int .i64 hx)).putC (o:=2) (r':=w.heap.size) (v:=.int .i64 hy)
 obtain ⟨q0,q1,q2,q3,q4⟩:=zQe (a:=.int .i64 z) (b:=.int .i64 hx) (c:=.int .i64 hy) (d:=.int .i64 wd) (e:=.int .i64 ht) hT
 have hB:=zA HB0.out hfin
 refine bodyPost_ret (v:=zCo z hx hy wd ht) (by simp [results,Tryz.results78,go_sem,q0,q1,q2,q3,q4]) rfl ⟨rfl,?_⟩
 exact ((((((hB.setCell (Nat.le_refl _) _).setCell (Nat.le_refl _) _).setCell (Nat.le_succ _) _).setCell (Nat.le_succ _) _).setCell (Nat.le_succ _) _).setCell (Nat.le_succ _) _).setCell (Nat.le_succ _) _
theorem zBx {w W:World}{r:Nat}{a b c d e f:Value}(h:Below w.heap.size w W)(hr:w.heap.size≤r):Bw w ((((((W.setCell ⟨r,0,none⟩ a).setCell ⟨r,1,none⟩ b).setCell ⟨r,2,none⟩ c).setCell ⟨r,3,none⟩ d).setCell ⟨r,4,none⟩ e).setCell ⟨r,5,none⟩ f) :=
 (((((h.setCell hr _).setCell hr _).setCell hr _).setCell hr _).setCell hr _).setCell hr _
theorem Reg.store6 {B r n:Nat}{W W1:World}{a b c d e f:Value}(h:Reg B W r n W1)(hr:B≤r):Reg B W r n ((((((W1.setCell ⟨r,0,none⟩ a).setCell ⟨r,1,none⟩ b).setCell ⟨r,2,none⟩ c).setCell ⟨r,3,none⟩ d).setCell ⟨r,4,none⟩ e).setCell ⟨r,5,none⟩ f) :=
 (((((h.store hr _ _).store hr _ _).store hr _ _).store hr _ _).store hr _ _).store hr _ _
def zGi (z x y wd ht dx dy:Int):Value:=if zAi z x y wd ht=true then (if (inB dx (-100) 100 && inB dy (-100) 100)=true then crV 0 z (yS (x+dx) (xQ z - wd)) (yS (y+dy) (xQ z - ht)) wd ht else crV 3 0 0 0 0 0) else crV 3 0 0 0 0 0
theorem zEk (z x y wd ht dx dy:Int)(w:World):Calls Tryz.prog 36 #[zCo z x y wd ht,.int .i64 dx,.int .i64 dy] w fun e w'=>e=.returned (zGi z x y wd ht dx dy)∧Bw w w':=by
 have hp:Hid (zGi z x y wd ht dx dy=if zAi z x y wd ht=true then (if (inB dx (-100) 100 && inB dy (-100) 100)=true then crV 0 z (yS (x+dx) (xQ z - wd)) (yS (y+dy) (xQ z - ht)) wd ht else crV 3 0 0 0 0 0) else crV 3 0 0 0 0 0):=rfl
 go_enter Tryz.func36,Tryz.ntmps36
 go_wp2_with fail
 generalize hW:((w.alloc _).alloc _:World)=W
 have HB0:Hid (Bw w W):=by show Below _ _ _;subst hW;exact Qb
 have hL:w.heap.size+1<W.heap.size:=by subst hW;simp
 have HT:Hid (zC W (w.heap.size+1) 6):=by
  show zC _ _ _
  subst hW
  have:=zKf (w.alloc (.cells #[.int .i64 z,.int .i64 x,.int .i64 y,.int .i64 wd,.int .i64 ht] 32)) (.int .i64 0) (.int .i64 0) (.int .i64 0) (.int .i64 0) (.int .i64 0) (.int .i64 0) 68
  simpa using this
 have c00:∀ W',Bw W W'→W'.cell? ⟨w.heap.size,0,none⟩=some (.int .i64 z):=Qc hW
 have c01:∀ W',Bw W W'→W'.cell? ⟨w.heap.size,1,none⟩=some (.int .i64 x):=Qc hW
 have c02:∀ W',Bw W W'→W'.cell? ⟨w.heap.size,2,none⟩=some (.int .i64 y):=Qc hW
 have c03:∀ W',Bw W W'→W'.cell? ⟨w.heap.size,3,none⟩=some (.int .i64 wd):=Qc hW
 have c04:∀ W',Bw W W'→W'.cell? ⟨w.heap.size,4,none⟩=some (.int .i64 ht):=Qc hW
 clear hW
 refine (vQ z x y wd ht _).mono ?_
 rintro e w1 ⟨rfl,hb1⟩
 have HT1:Hid (zC w1 (w.heap.size+1) 6):=HT.out.below hb1
 have HB1:Hid (Bw w w1):=zA HB0.out hb1
 have hL1:w.heap.size+1<w1.heap.size:=Nat.lt_of_lt_of_le hL hb1.size
 have d0:∀ W',Reg (w.heap.size+1) w1 (w.heap.size+1) 6 W'→W'.cell? ⟨w.heap.size,0,none⟩=some (.int .i64 z):=fun W' h=>(h.bel.cell (p:=⟨w.heap.size,0,none⟩) (by simp <;> omega)).trans (c00 w1 hb1)
 have d1:∀ W',Reg (w.heap.size+1) w1 (w.heap.size+1) 6 W'→W'.cell? ⟨w.heap.size,1,none⟩=some (.int .i64 x):=fun W' h=>(h.bel.cell (p:=⟨w.heap.size,1,none⟩) (by simp <;> omega)).trans (c01 w1 hb1)
 have d2:∀ W',Reg (w.heap.size+1) w1 (w.heap.size+1) 6 W'→W'.cell? ⟨w.heap.size,2,none⟩=some (.int .i64 y):=fun W' h=>(h.bel.cell (p:=⟨w.heap.size,2,none⟩) (by simp <;> omega)).trans (c02 w1 hb1)
 have d3:∀ W',Reg (w.heap.size+1) w1 (w.heap.size+1) 6 W'→W'.cell? ⟨w.heap.size,3,none⟩=some (.int .i64 wd):=fun W' h=>(h.bel.cell (p:=⟨w.heap.size,3,none⟩) (by simp <;> omega)).trans (c03 w1 hb1)
 have d4:∀ W',Reg (w.heap.size+1) w1 (w.heap.size+1) 6 W'→W'.cell? ⟨w.heap.size,4,none⟩=some (.int .i64 ht):=fun W' h=>(h.bel.cell (p:=⟨w.heap.size,4,none⟩) (by simp <;> omega)).trans (c04 w1 hb1)
 have hreg:Reg (w.heap.size+1) w1 (w.heap.size+1) 6 w1:=Reg.start (Nat.le_of_lt hL1) HT1.out
 have t0:∀ W',Reg (w.heap.size+1) w1 (w.heap.size+1) 6 W'→W'.cell? ⟨w.heap.size+1,0,none⟩=some (zCf W' (w.heap.size+1) 0):=fun W' h=>h.there.cell 0 (by omega)
 have t1:∀ W',Reg (w.heap.size+1) w1 (w.heap.size+1) 6 W'→W'.cell? ⟨w.heap.size+1,1,none⟩=some (zCf W' (w.heap.size+1) 1):=fun W' h=>h.there.cell 1 (by omega)
 have t2:∀ W',Reg (w.heap.size+1) w1 (w.heap.size+1) 6 W'→W'.cell? ⟨w.heap.size+1,2,none⟩=some (zCf W' (w.heap.size+1) 2):=fun W' h=>h.there.cell 2 (by omega)
 have t3:∀ W',Reg (w.heap.size+1) w1 (w.heap.size+1) 6 W'→W'.cell? ⟨w.heap.size+1,3,none⟩=some (zCf W' (w.heap.size+1) 3):=fun W' h=>h.there.cell 3 (by omega)
 have t4:∀ W',Reg (w.heap.size+1) w1 (w.heap.size+1) 6 W'→W'.cell? ⟨w.heap.size+1,4,none⟩=some (zCf W' (w.heap.size+1) 4):=fun W' h=>h.there.cell 4 (by omega)
 have t5:∀ W',Reg (w.heap.size+1) w1 (w.heap.size+1) 6 W'→W'.cell? ⟨w.heap.size+1,5,none⟩=some (zCf W' (w.heap.size+1) 5):=fun W' h=>h.there.cell 5 (by omega)
 have f0:∀ W',Reg (w.heap.size+1) w1 (w.heap.size+1) 6 W'→W'.frozen? ⟨w.heap.size+1,0,none⟩=false:=fun W' h=>(h.there 0 (by omega)).2
 have f1:∀ W',Reg (w.heap.size+1) w1 (w.heap.size+1) 6 W'→W'.frozen? ⟨w.heap.size+1,1,none⟩=false:=fun W' h=>(h.there 1 (by omega)).2
 have f2:∀ W',Reg (w.heap.size+1) w1 (w.heap.size+1) 6 W'→W'.frozen? ⟨w.heap.size+1,2,none⟩=false:=fun W' h=>(h.there 2 (by omega)).2
 have f3:∀ W',Reg (w.heap.size+1) w1 (w.heap.size+1) 6 W'→W'.frozen? ⟨w.heap.size+1,3,none⟩=false:=fun W' h=>(h.there 3 (by omega)).2
 have f4:∀ W',Reg (w.heap.size+1) w1 (w.heap.size+1) 6 W'→W'.frozen? ⟨w.heap.size+1,4,none⟩=false:=fun W' h=>(h.there 4 (by omega)).2
 have f5:∀ W',Reg (w.heap.size+1) w1 (w.heap.size+1) 6 W'→W'.frozen? ⟨w.heap.size+1,5,none⟩=false:=fun W' h=>(h.there 5 (by omega)).2
 clear hb1 HT HB0 c00 c01 c02 c03 c04 hL
 rcases zBf z x y wd ht with ⟨hc,hr⟩ | ⟨hc,hr⟩
 ·simp only [hc]
  cases hd:(inB dx (-100) 100 && inB dy (-100) 100)
  ·have hq:Hid (zGi z x y wd ht dx dy=crV 3 0 0 0 0 0):=by show _=_;rw [hp.out,hd];simp [hr]
   clear hr hc hp
   cases h1:inB dx (-100) 100 <;> cases h2:inB dy (-100) 100
   all_goals first | (rw [h1,h2] at hd;cases hd;done) | skip
   all_goals
    clear hd
    go_wp2_with (go_at_call 77;refine (zR _ _ _ _).mono ?_;rintro e w1 ⟨rfl,rfl⟩)
    obtain ⟨q0,q1,q2,q3,q4,q5⟩:=vK (a:=.int .i64 3) (b:=.int .i64 0) (c:=.int .i64 0) (d:=.int .i64 0) (e:=.int .i64 0) (f:=.int .i64 0) HT1.out
    exact bodyPost_ret (v:=crV 3 0 0 0 0 0) (by simp [results,Tryz.results36,go_sem,q0,q1,q2,q3,q4,q5]) rfl ⟨by rw [hq.out],zBx HB1.out (Nat.le_succ _)⟩
  ·have hq:Hid (zGi z x y wd ht dx dy=crV 0 z (yS (x+dx) (xQ z - wd)) (yS (y+dy) (xQ z - ht)) wd ht):=by show _=_;rw [hp.out,hd];simp [hr]
   have hz:=vZ hr
   have hi:=uD hr
   have hn:=xU hz
   simp only [Bool.and_eq_true] at hd
   obtain ⟨h1,h2⟩:=hd
   have g1:-100≤dx∧dx≤100:=by simpa [inB] using h1
   have g2:-100≤dy∧dy≤100:=by simpa [inB] using h2
   have s1:=fun t w=>zE1 t (a:=x) (b:=y) (c:=dx) (d:=dy) w (by omega) (by omega)
   have sA:=fun w=>zJu z x y wd ht (x+dx) (y+dy) w hz hi.1.1 hi.1.2 (by omega) (by omega)
   generalize yS (x+dx) (xQ z - wd)=hx at *
   generalize yS (y+dy) (xQ z - ht)=hy at *
   clear hr hc hp hi hn g1 g2 hz
   go_wp2_with (go_at_call 77;refine (zR _ _ _ _).mono ?_;rintro e w1 ⟨rfl,rfl⟩)
   go_region_held3 (Reg (w.heap.size+1) w1 (w.heap.size+1) 6) (first | with_reducible assumption | with_reducible exact Reg.drew hreg | with_reducible exact Reg.store6 (by with_reducible assumption) (Nat.le_refl _) | with_reducible exact Reg.call (by with_reducible assumption) (by with_reducible assumption))
    (first
     | (go_at_call 79;refine (zAu _ _ _ _ _ _).mono ?_;rintro e w' ⟨rfl,hb⟩)
     | (go_at_call 80;refine (zBj _ _ _).mono ?_;rintro e w' ⟨rfl,rfl⟩)
     | (go_at_call 78;refine (sA _).mono ?_;rintro e w' ⟨rfl,hb⟩;have hk:Reg (w.heap.size+1) w1 (w.heap.size+1) 6 w':=Reg.call (by assumption) hb)
     | fail)
   go_wp2
   rename_i hfin
   obtain ⟨q0,q1,q2,q3,q4,q5⟩:=vK (a:=.int .i64 0) (b:=.int .i64 z) (c:=.int .i64 hx) (d:=.int .i64 hy) (e:=.int .i64 wd) (f:=.int .i64 ht) hk.there
   exact bodyPost_ret (v:=crV 0 z hx hy wd ht) (by simp [results,Tryz.results36,go_sem,q0,q1,q2,q3,q4,q5]) rfl ⟨by rw [hq.out],zBx (HB1.out.trans (hk.bel.mono (Nat.le_succ _))) (Nat.le_succ _)⟩
 ·simp only [hc]
  have hq:Hid (zGi z x y wd ht dx dy=crV 3 0 0 0 0 0):=by show _=_;rw [hp.out];simp [hr]
  clear hr hc hp
  go_wp2_with fail
  obtain ⟨q0,q1,q2,q3,q4,q5⟩:=vK (a:=.int .i64 3) (b:=.int .i64 0) (c:=.int .i64 0) (d:=.int .i64 0) (e:=.int .i64 0) (f:=.int .i64 0) HT1.out
  exact bodyPost_ret (v:=crV 3 0 0 0 0 0) (by simp [results,Tryz.results36,go_sem,q0,q1,q2,q3,q4,q5]) rfl ⟨by rw [hq.out],zBx HB1.out (Nat.le_succ _)⟩
end Go.Proofs.YtkjbafcalamgnaaGreat
