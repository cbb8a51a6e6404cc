/- Texts. -/
import Derived.Test.YtpaiholildedcaaGreatVLabelsIn6
import Derived.Test.YtpaiholildedcaaGreatVLabelsIn5
set_option linter.unusedSimpArgs false
set_option linter.unusedVariables false
set_option maxRecDepth 100000
set_option maxHeartbeats 32000000
namespace Go.Proofs.YtpaiholildedcaaGreat
open Go.RowKit
def Under (T:Nat)(w:World)(a:Option Addr)(n:Nat)(X Y:Nat→Int):Prop:=n=0∨∃ b off,a=some ⟨b,off,none⟩∧b<T∧zK w b off n X Y
theorem Under.is {T:Nat}{w:World}{a:Option Addr}{n:Nat}{X Y:Nat→Int}(h:Under T w a n X Y)(hT:T≤w.heap.size):xY w a n X Y:=by
 rcases h with h | ⟨b,off,e,hl,hp⟩
 ·exact .inl h
 ·exact .inr ⟨b,off,e,by omega,hp⟩
theorem zH {w w':World}{p:Addr}{v:Value}(hb:Below w.heap.size w w')(h:w.cell? p=some v):w'.cell? p=some v:=(hb.cell (World.block_lt_of_cell? _ _ h)).trans h
theorem xF {w w':World}{b o s:Nat}{v:Value}(hg:w.grownBy w' (some s))(h:w.cell? ⟨b,o,none⟩=some v)(hs:b≠s):w'.cell? ⟨b,o,none⟩=some v:=hg.cell h (fun e=>hs (by injection e))
theorem uY {w w':World}{b o:Nat}{row:Option Nat}{v:Value}(hg:w.grownBy w' row)(h:w.cell? ⟨b,o,none⟩=some v)(hs:∀ s,row=some s→b≠s):w'.cell? ⟨b,o,none⟩=some v:=hg.cell h (fun e=>hs _ e.symm rfl)
theorem zQy {B:Nat}{row:Option Nat}{a b:World}(h:a.grownBy b row)(hs:∀ s,row=some s→B≤s)(hl:B≤a.heap.size):Below B a b :=
 ⟨h.os,h.tape,h.output,h.size,fun k hk=>h.block k (by omega) (fun e=>by have:=hs k e.symm;omega)⟩
theorem zCm {w w':World}{base size n:Nat}{e:TypeId}{v:Value}{xs:List Value}(h:w.ownsRow base e size v n xs)(hk:∀ g,v.ownBlock=some g→w'.heap[g]?=w.heap[g]?):w'.ownsRow base e size v n xs:=by
 obtain ⟨h1,h2 | ⟨g,cp,cur,hv,hg,hh,hr⟩⟩:=h
 ·exact ⟨h1,.inl h2⟩
 ·refine ⟨h1,.inr ⟨g,cp,cur,hv,hg,?_,hr⟩⟩
  rw [hk g (by rw [hv];rfl)]
  exact hh
theorem Row.no (base:Nat)(w:World):Row base w (.slice none 0 0) []:=World.ownsRow_nil _ _ _ _
theorem Row.at {base:Nat}{w:World}{v:Value}{l:List (Int × Int)}(h:Row base w v l)(hne:0<l.length) :
  ∃ g cap,v=.slice (some ⟨g,0,none⟩) l.length cap∧base≤g∧g<w.heap.size∧l.length≤cap∧zK w g 0 l.length (px l) (py l):=by
 obtain ⟨a,cap,hv,hc,h0 | ⟨b,rfl,hb,hl,hp,ht⟩⟩:=h.own
 ·omega
 ·exact ⟨b,cap,hv,hb,hl,hc,hp⟩
theorem zP7:(Tryz.prog.info? 215).map (fun i=>(i.zero,i.size,i.bytes))=some (some (.agg #[.int .i64 0,.int .i64 0]),2,16):=by kernel_rfl

def xH (X Y:Nat→Int)(n:Nat):List (Int × Int):=(List.range n).map fun i=>(2 * X i,2 * Y i)
theorem vZ (X Y:Nat→Int)(n:Nat):(xH X Y n).length=n:=by simp [xH]
theorem zMe (X Y:Nat→Int)(k:Nat):xH X Y (k+1)=xH X Y k ++ [(2 * X k,2 * Y k)]:=by simp [xH,List.range_succ]
theorem dblL_px (X Y:Nat→Int)(n i:Nat)(h:i<n):px (xH X Y n) i=2 * X i∧py (xH X Y n) i=2 * Y i:=by
  simp [px,py,xH,List.getD_eq_getElem?_getD,h]
theorem zHb (b off n cap:Nat)(X Y:Nat→Int)(w:World)(hp:zK w b off n X Y)(hbl:b<w.heap.size)(hn:n≤40)(hin:∀ i,i<n→inW (X i) (Y i)=true) :
    Calls Tryz.prog 256 #[.slice (some ⟨b,off,none⟩) n cap] w fun e w'=>∃ v,e=.returned v∧Row w.heap.size w' v (xH X Y n)∧Bw w w':=by
  obtain ⟨i0,hi,hz0,hz1,hz2⟩:=info_parts zP7
  have HP:Hid (zK w b off n X Y):=hp
  have HIN:Hid (∀ i,i<n→inW (X i) (Y i)=true):=hin
  clear hp hin
  go_enter Tryz.func256,Tryz.ntmps256
  go_wp2_with fail
  generalize hW:(w.alloc _:World)=W
  have hB0:Bw w W:=by subst hW;exact Qb
  have hO0:W.ownsRow w.heap.size 215 2 (.slice (some ⟨w.heap.size,0,none⟩) 0 0) 0 []:=by
    subst hW
    exact World.ownsRow_lit (base:=w.heap.size) w #[] 0 (Nat.le_refl _) (Nat.zero_le _) rfl
  clear hW
  have HB0:Hid (Bw w W):=hB0
  have HO0:Hid (Row w.heap.size W (.slice (some ⟨w.heap.size,0,none⟩) 0 0) []):=hO0
  clear hB0 hO0
  go_loopw [3,4] (fun v i wr=>∃ k:Nat,k≤n∧i=.int .i64 (k:Int)∧Row w.heap.size wr v (xH X Y k)∧Bw w wr) (fun _ i _=>n - (intOf i).toNat)
  case atStart=>exact ⟨0,by omega,rfl,HO0.out,HB0.out⟩
  case round =>
    obtain ⟨k,hk,rfl,hO,hB⟩:=hrel
    by_cases hlt:k<n
    · obtain ⟨hx,hy⟩:=(HP.out.below hB hbl) k hlt
      obtain ⟨⟨x0,x1⟩,y0,y1⟩:=zP9 (HIN.out k hlt)
      have HB:Hid (Bw w wr):=hB
      have HO:Hid (Row w.heap.size wr u3 (xH X Y k)):=hO
      have hbw:b<wr.heap.size:=Nat.lt_of_lt_of_le hbl hB.size
      have hszc:w.heap.size≤wr.heap.size:=hB.size
      have HLEN:Hid ((xH X Y k).length=k):=vZ X Y k
      have HS:Hid (xH X Y (k+1)=xH X Y k ++ [(2 * X k,2 * Y k)]):=zMe X Y k
      clear hO hB
      have hi':(k:Int)<(n:Int):=by omega
      have wx:IntKind.i64.wrap (2 * X k)=2 * X k:=IntWalk.i64_in _ (by omega)
      have wy:IntKind.i64.wrap (2 * Y k)=2 * Y k:=IntWalk.i64_in _ (by omega)
      go_wp2_with fail
      go_region_law (refine yS rfl (.tmp 12) (.tmp 26) 207 rfl w.heap.size 215 i0 (.agg #[.int .i64 0,.int .i64 0]) 2 16 Tryz.underlying207 hi hz0 hz1 hz2 rfl (by decide) u3 (xH X Y k).length (vS (xH X Y k)) rfl ?own ⟨wr.heap.size,0,none⟩ 1 1 [.int .i64 (2 * X k),.int .i64 (2 * Y k)] rfl rfl ?c1 ?c2 ?c3 ?c4 ?c5 ?_
                     case own=>exact World.ownsRow.alloc HO.out _
                     case c1 =>
                       intro q u hq
                       match q,hq with
                       | 0,hq=>simp at hq;subst hq;simp [Addr.add,go_sem]
                       | 1,hq=>simp at hq;subst hq;simp [Addr.add,go_sem]
                       | q+2,hq=>simp at hq
                     case c2=>intro u hu;simp at hu;rcases hu with rfl | rfl <;> rfl
                     case c3=>have:=HLEN.out;unfold maxLen;omega
                     case c4=>have:=HLEN.out;omega
                     case c5=>first | omega | (simp;omega)
                     intro v' w3 hown' hgrow hnil
                     clear hnil
                     have hBV:Bw wr (World.alloc (World.drew wr) (.cells #[.int .i64 (2 * X k),.int .i64 (2 * Y k)] 215)):=by exact Qb
                     have hBg:Below w.heap.size (World.alloc (World.drew wr) (.cells #[.int .i64 (2 * X k),.int .i64 (2 * Y k)] 215)) w3:=(Below.refl _ _).grown hgrow (by have:=hBV.size;omega) (fun k hk=>(HO.out.lt k hk).1)
                     have HB3:Hid (Bw w w3):=(HB.out.trans (hBV.mono hszc)).trans hBg
                     have HO3:Hid (Row w.heap.size w3 v' (xH X Y (k+1))):=(by
                       show Row _ _ _ _
                       rw [HS.out]
                       show World.ownsRow _ _ _ _ _ _ _
                       rw [zGj,List.length_append]
                       exact hown')
                     clear hown' hgrow hBg hBV)
      all_goals
        go_wp2_with fail
        go_roundw
        case rel=>exact ⟨k+1,by omega,by go_num,HO3.out,HB3.out⟩
        case measure=>simp [intOf];omega
    · go_wp2
      go_ret
      have hkn:k=n:=by omega
      subst hkn
      exact ⟨_,rfl,hO,hB⟩
theorem zLq (b off n cap:Nat)(X Y:Nat→Int)(w:World)(hp:zK w b off n X Y)(hbl:b<w.heap.size)(hn:n≤40)(hin:∀ i,i<n→inW (X i) (Y i)=true) :
    Calls Tryz.prog 244 #[.slice (some ⟨b,off,none⟩) n cap] w fun e w'=>∃ v,e=.returned v∧Row w.heap.size w' v (xH X Y n)∧Bw w w':=by
  obtain ⟨i0,hi,hz0,hz1,hz2⟩:=info_parts zP7
  have HP:Hid (zK w b off n X Y):=hp
  have HIN:Hid (∀ i,i<n→inW (X i) (Y i)=true):=hin
  clear hp hin
  go_enter Tryz.func244,Tryz.ntmps244
  go_wp2_with fail
  go_loopw [3,8] (fun v i wr=>∃ k:Nat,k≤n∧i=.int .i64 (k:Int)∧Row w.heap.size wr v (xH X Y k)∧Bw w wr) (fun _ i _=>n - (intOf i).toNat)
  case atStart=>exact ⟨0,by omega,rfl,Row.no _ _,Below.refl _ _⟩
  case round =>
    obtain ⟨k,hk,rfl,hO,hB⟩:=hrel
    by_cases hlt:k<n
    · obtain ⟨hx,hy⟩:=(HP.out.below hB hbl) k hlt
      obtain ⟨⟨x0,x1⟩,y0,y1⟩:=zP9 (HIN.out k hlt)
      have HB:Hid (Bw w wr):=hB
      have HO:Hid (Row w.heap.size wr u3 (xH X Y k)):=hO
      have hbw:b<wr.heap.size:=Nat.lt_of_lt_of_le hbl hB.size
      have hszc:w.heap.size≤wr.heap.size:=hB.size
      have HLEN:Hid ((xH X Y k).length=k):=vZ X Y k
      have HS:Hid (xH X Y (k+1)=xH X Y k ++ [(2 * X k,2 * Y k)]):=zMe X Y k
      clear hO hB
      have hi':(k:Int)<(n:Int):=by omega
      go_wp2_with (first
        | (at_builtin;go_must (refine wpList_append_own _ rfl _ _ 207 rfl w.heap.size 215 i0 (.agg #[.int .i64 0,.int .i64 0]) 2 16 Tryz.underlying207 hi hz0 hz1 hz2 rfl (by decide) _ (xH X Y k).length (vS (xH X Y k)) rfl (World.ownsRow.alloc (World.ownsRow.alloc HO.out _) _) ⟨wr.heap.size+1,0,none⟩ 1 1 [.int .i64 (2 * X k),.int .i64 (2 * Y k)] rfl rfl ?c1 ?c2 ?c3 ?c4 ?c5 ?_)))
      try (case c1 =>
        intro q u hq
        match q,hq with
        | 0,hq=>simp at hq;subst hq;simp [Addr.add,go_sem]
        | 1,hq=>simp at hq;subst hq;simp [Addr.add,go_sem]
        | q+2,hq=>simp at hq)
      case c2=>first | (intro u hu;simp at hu;rcases hu with rfl | rfl <;> rfl) | exact ⟨rfl,rfl⟩
      case c3=>have:=HLEN.out;unfold maxLen;omega
      case c4=>have:=HLEN.out;omega
      case c5=>first | omega | (simp;omega)
      intro v' w3 hown' hgrow hnil
      clear hnil
      generalize hV:((wr.alloc _).alloc _:World)=V at hgrow
      have hBV:Bw wr V:=by subst hV;exact Qb
      have hBg:Below w.heap.size V w3:=(Below.refl _ _).grown hgrow (by have:=hBV.size;omega) (fun k hk=>(HO.out.lt k hk).1)
      have HB3:Hid (Bw w w3):=(HB.out.trans (hBV.mono hszc)).trans hBg
      have HO3:Hid (Row w.heap.size w3 v' (xH X Y (k+1))):=by
        show Row _ _ _ _
        rw [HS.out]
        show World.ownsRow _ _ _ _ _ _ _
        rw [zGj,List.length_append]
        exact hown'
      clear hown' hgrow hBg hBV hV
      go_wp2
      go_roundw
      case rel=>exact ⟨k+1,by omega,by go_num,HO3.out,HB3.out⟩
      case measure=>simp [intOf];omega
    · go_wp2
      go_ret
      have hkn:k=n:=by omega
      subst hkn
      exact ⟨_,rfl,hO,hB⟩
def yL (px py:Int)(n:Nat)(X Y:Nat→Int):Bool:=okP px py && (decide (3≤n) && (decide (n≤40) && (zJ3 n X Y && vF (vL px py n X Y) n)))
theorem zJb (px py ax ay bx by':Int)(w:World)(hp:okP px py=true)(ha:okP ax ay=true)(hb:okP bx by'=true)(h:by'<ay)(h1:by'≤py)(h2:py<ay) :
  Calls Tryz.prog 303 #[.agg #[.int .i64 px,.int .i64 py],.agg #[.int .i64 ax,.int .i64 ay],.agg #[.int .i64 bx,.int .i64 by']] w fun e w'=>e=.returned (.bool (yM px py ax ay bx by'))∧Bw w w':=by
 have HP:Hid (okP px py=true):=hp
 have HA:Hid (okP ax ay=true):=ha
 have HB:Hid (okP bx by'=true):=hb
 clear hp ha hb
 have HE:Hid (yM px py ax ay bx by'=decide (0<yA bx by' ax ay px py)):=by
  show _=_
  rw [zDt h]
  simp [h1,h2]
 go_enter Tryz.func303,Tryz.ntmps303
 go_wp2
 generalize hW:(((w.alloc _).alloc _).alloc _:World)=W
 have hB0:Bw w W:=by subst hW;exact Qb
 have c00:∀ W',Bw W W'→W'.cell? ⟨w.heap.size,0,none⟩=some (.int .i64 px):=Qc hW
 have c01:∀ W',Bw W W'→W'.cell? ⟨w.heap.size,1,none⟩=some (.int .i64 py):=Qc hW
 have c10:∀ W',Bw W W'→W'.cell? ⟨w.heap.size+1,0,none⟩=some (.int .i64 ax):=Qc hW
 have c11:∀ W',Bw W W'→W'.cell? ⟨w.heap.size+1,1,none⟩=some (.int .i64 ay):=Qc hW
 have c20:∀ W',Bw W W'→W'.cell? ⟨w.heap.size+1+1,0,none⟩=some (.int .i64 bx):=Qc hW
 have c21:∀ W',Bw W W'→W'.cell? ⟨w.heap.size+1+1,1,none⟩=some (.int .i64 by'):=Qc hW
 have q0:=c00
 clear hW
 have HB0:Hid (Bw w W):=hB0
 clear hB0
 go_cut [7,8] (fun t s wc=>∃ b d:Nat,t=.pointer (some ⟨b,0,none⟩)∧s=.pointer (some ⟨d,0,none⟩)∧b≠d∧Bw W wc∧W.heap.size≤b∧W.heap.size≤d∧wc.cell? ⟨b,0,none⟩=some (.int .i64 ax)∧wc.cell? ⟨b,1,none⟩=some (.int .i64 ay)∧wc.cell? ⟨d,0,none⟩=some (.int .i64 bx)∧wc.cell? ⟨d,1,none⟩=some (.int .i64 by')∧wc.frozen? ⟨b,0,none⟩=false∧wc.frozen? ⟨b,1,none⟩=false∧wc.frozen? ⟨d,0,none⟩=false∧wc.frozen? ⟨d,1,none⟩=false)
 case first =>
  go_region_held3 (fun W'=>Bw W W') ((repeat (first|exact Qr _ _|assumption|refine Qd ?_|refine Qa ?_ _|refine Qt ?_|refine Qs ?_ _|refine Qo ?_ ?_ _ _))) (fail)
  all_goals
   go_wp2_with fail
   go_meet
   case rel =>
    refine ⟨_,_,rfl,rfl,by first | omega | (simp;done) | (simp;omega),by assumption,by first | omega | (simp;done) | (simp;omega),by first | omega | (simp;done) | (simp;omega),?_,?_,?_,?_,?_,?_,?_,?_⟩ <;> (go_simp;done)
 case rest =>
  obtain ⟨b1,d1,rfl,rfl,hne,hB1,hb1,hd1,x1,x2,x3,x4,f1,f2,f3,f4⟩:=hcut
  have hne':d1≠b1:=fun h=>hne h.symm
  have hw0:=World.block_lt_of_cell? _ _ (c00 W (Below.refl _ _))
  have n1:b1≠w.heap.size:=by have:w.heap.size<W.heap.size:=hw0;omega
  have n2:d1≠w.heap.size:=by have:w.heap.size<W.heap.size:=hw0;omega
  have p1:=c01 wc hB1
  clear hw0 c00 c01 c10 c11 c20 c21
  have p0:=q0 wc hB1
  clear q0
  go_wp2_with (go_at_call 306;refine (zCj _ _ _ _ _ _ _ HB.out HA.out HP.out).mono ?_;rintro e w' ⟨rfl,hbz⟩)
  go_ret
  exact ⟨zF HE.out.symm,zA HB0.out (by exact Qb)⟩
theorem zHk (px py ax ay bx by':Int)(w:World)(hp:okP px py=true)(ha:okP ax ay=true)(hb:okP bx by'=true)(h:by'<ay)(h1:¬ by'≤py) :
  Calls Tryz.prog 303 #[.agg #[.int .i64 px,.int .i64 py],.agg #[.int .i64 ax,.int .i64 ay],.agg #[.int .i64 bx,.int .i64 by']] w fun e w'=>e=.returned (.bool (yM px py ax ay bx by'))∧Bw w w':=by
 have HP:Hid (okP px py=true):=hp
 have HA:Hid (okP ax ay=true):=ha
 have HB:Hid (okP bx by'=true):=hb
 clear hp ha hb
 have HE:Hid (yM px py ax ay bx by'=false):=by
  show _=_
  rw [zDt h]
  simp [h1]
 have h1':decide (by'≤py)=false:=by simpa using h1
 go_enter Tryz.func303,Tryz.ntmps303
 go_wp2
 generalize hW:(((w.alloc _).alloc _).alloc _:World)=W
 have hB0:Bw w W:=by subst hW;exact Qb
 have c00:∀ W',Bw W W'→W'.cell? ⟨w.heap.size,0,none⟩=some (.int .i64 px):=Qc hW
 have c01:∀ W',Bw W W'→W'.cell? ⟨w.heap.size,1,none⟩=some (.int .i64 py):=Qc hW
 have c10:∀ W',Bw W W'→W'.cell? ⟨w.heap.size+1,0,none⟩=some (.int .i64 ax):=Qc hW
 have c11:∀ W',Bw W W'→W'.cell? ⟨w.heap.size+1,1,none⟩=some (.int .i64 ay):=Qc hW
 have c20:∀ W',Bw W W'→W'.cell? ⟨w.heap.size+1+1,0,none⟩=some (.int .i64 bx):=Qc hW
 have c21:∀ W',Bw W W'→W'.cell? ⟨w.heap.size+1+1,1,none⟩=some (.int .i64 by'):=Qc hW
 have q0:=c00
 clear hW
 have HB0:Hid (Bw w W):=hB0
 clear hB0
 go_cut [7,8] (fun t s wc=>∃ b d:Nat,t=.pointer (some ⟨b,0,none⟩)∧s=.pointer (some ⟨d,0,none⟩)∧b≠d∧Bw W wc∧W.heap.size≤b∧W.heap.size≤d∧wc.cell? ⟨b,0,none⟩=some (.int .i64 ax)∧wc.cell? ⟨b,1,none⟩=some (.int .i64 ay)∧wc.cell? ⟨d,0,none⟩=some (.int .i64 bx)∧wc.cell? ⟨d,1,none⟩=some (.int .i64 by')∧wc.frozen? ⟨b,0,none⟩=false∧wc.frozen? ⟨b,1,none⟩=false∧wc.frozen? ⟨d,0,none⟩=false∧wc.frozen? ⟨d,1,none⟩=false)
 case first =>
  go_region_held3 (fun W'=>Bw W W') ((repeat (first|exact Qr _ _|assumption|refine Qd ?_|refine Qa ?_ _|refine Qt ?_|refine Qs ?_ _|refine Qo ?_ ?_ _ _))) (fail)
  all_goals
   go_wp2_with fail
   go_meet
   case rel =>
    refine ⟨_,_,rfl,rfl,by first | omega | (simp;done) | (simp;omega),by assumption,by first | omega | (simp;done) | (simp;omega),by first | omega | (simp;done) | (simp;omega),?_,?_,?_,?_,?_,?_,?_,?_⟩ <;> (go_simp;done)
 case rest =>
  obtain ⟨b1,d1,rfl,rfl,hne,hB1,hb1,hd1,x1,x2,x3,x4,f1,f2,f3,f4⟩:=hcut
  have hne':d1≠b1:=fun h=>hne h.symm
  have hw0:=World.block_lt_of_cell? _ _ (c00 W (Below.refl _ _))
  have n1:b1≠w.heap.size:=by have:w.heap.size<W.heap.size:=hw0;omega
  have n2:d1≠w.heap.size:=by have:w.heap.size<W.heap.size:=hw0;omega
  have p1:=c01 wc hB1
  clear hw0 c00 c01 c10 c11 c20 c21
  have p0:=q0 wc hB1
  clear q0
  go_wp2
  go_ret
  exact ⟨zF HE.out.symm,zA HB0.out (by exact Qb)⟩
theorem zHj (px py ax ay bx by':Int)(w:World)(hp:okP px py=true)(ha:okP ax ay=true)(hb:okP bx by'=true)(h:by'<ay)(h1:by'≤py)(h2:¬ py<ay) :
  Calls Tryz.prog 303 #[.agg #[.int .i64 px,.int .i64 py],.agg #[.int .i64 ax,.int .i64 ay],.agg #[.int .i64 bx,.int .i64 by']] w fun e w'=>e=.returned (.bool (yM px py ax ay bx by'))∧Bw w w':=by
 have HP:Hid (okP px py=true):=hp
 have HA:Hid (okP ax ay=true):=ha
 have HB:Hid (okP bx by'=true):=hb
 clear hp ha hb
 have HE:Hid (yM px py ax ay bx by'=false):=by
  show _=_
  rw [zDt h]
  simp [h1,h2]
 have h2':decide (py<ay)=false:=by simpa using h2
 go_enter Tryz.func303,Tryz.ntmps303
 go_wp2
 generalize hW:(((w.alloc _).alloc _).alloc _:World)=W
 have hB0:Bw w W:=by subst hW;exact Qb
 have c00:∀ W',Bw W W'→W'.cell? ⟨w.heap.size,0,none⟩=some (.int .i64 px):=Qc hW
 have c01:∀ W',Bw W W'→W'.cell? ⟨w.heap.size,1,none⟩=some (.int .i64 py):=Qc hW
 have c10:∀ W',Bw W W'→W'.cell? ⟨w.heap.size+1,0,none⟩=some (.int .i64 ax):=Qc hW
 have c11:∀ W',Bw W W'→W'.cell? ⟨w.heap.size+1,1,none⟩=some (.int .i64 ay):=Qc hW
 have c20:∀ W',Bw W W'→W'.cell? ⟨w.heap.size+1+1,0,none⟩=some (.int .i64 bx):=Qc hW
 have c21:∀ W',Bw W W'→W'.cell? ⟨w.heap.size+1+1,1,none⟩=some (.int .i64 by'):=Qc hW
 have q0:=c00
 clear hW
 have HB0:Hid (Bw w W):=hB0
 clear hB0
 go_cut [7,8] (fun t s wc=>∃ b d:Nat,t=.pointer (some ⟨b,0,none⟩)∧s=.pointer (some ⟨d,0,none⟩)∧b≠d∧Bw W wc∧W.heap.size≤b∧W.heap.size≤d∧wc.cell? ⟨b,0,none⟩=some (.int .i64 ax)∧wc.cell? ⟨b,1,none⟩=some (.int .i64 ay)∧wc.cell? ⟨d,0,none⟩=some (.int .i64 bx)∧wc.cell? ⟨d,1,none⟩=some (.int .i64 by')∧wc.frozen? ⟨b,0,none⟩=false∧wc.frozen? ⟨b,1,none⟩=false∧wc.frozen? ⟨d,0,none⟩=false∧wc.frozen? ⟨d,1,none⟩=false)
 case first =>
  go_region_held3 (fun W'=>Bw W W') ((repeat (first|exact Qr _ _|assumption|refine Qd ?_|refine Qa ?_ _|refine Qt ?_|refine Qs ?_ _|refine Qo ?_ ?_ _ _))) (fail)
  all_goals
   go_wp2_with fail
   go_meet
   case rel =>
    refine ⟨_,_,rfl,rfl,by first | omega | (simp;done) | (simp;omega),by assumption,by first | omega | (simp;done) | (simp;omega),by first | omega | (simp;done) | (simp;omega),?_,?_,?_,?_,?_,?_,?_,?_⟩ <;> (go_simp;done)
 case rest =>
  obtain ⟨b1,d1,rfl,rfl,hne,hB1,hb1,hd1,x1,x2,x3,x4,f1,f2,f3,f4⟩:=hcut
  have hne':d1≠b1:=fun h=>hne h.symm
  have hw0:=World.block_lt_of_cell? _ _ (c00 W (Below.refl _ _))
  have n1:b1≠w.heap.size:=by have:w.heap.size<W.heap.size:=hw0;omega
  have n2:d1≠w.heap.size:=by have:w.heap.size<W.heap.size:=hw0;omega
  have p1:=c01 wc hB1
  clear hw0 c00 c01 c10 c11 c20 c21
  have p0:=q0 wc hB1
  clear q0
  go_wp2
  go_ret
  exact ⟨zF HE.out.symm,zA HB0.out (by exact Qb)⟩
theorem zHl (px py ax ay bx by':Int)(w:World)(hp:okP px py=true)(ha:okP ax ay=true)(hb:okP bx by'=true) :
  Calls Tryz.prog 303 #[.agg #[.int .i64 px,.int .i64 py],.agg #[.int .i64 ax,.int .i64 ay],.agg #[.int .i64 bx,.int .i64 by']] w fun e w'=>e=.returned (.bool (yM px py ax ay bx by'))∧Bw w w':=by
 by_cases h:by'<ay
 ·by_cases h1:by'≤py
  ·by_cases h2:py<ay
   ·exact zJb _ _ _ _ _ _ _ hp ha hb h h1 h2
   ·exact zHj _ _ _ _ _ _ _ hp ha hb h h1 h2
  ·exact zHk _ _ _ _ _ _ _ hp ha hb h h1
 ·by_cases h1:ay≤py
  ·by_cases h2:py<by'
   ·exact zJa _ _ _ _ _ _ _ hp ha hb (by omega) h1 h2
   ·exact zHh _ _ _ _ _ _ _ hp ha hb (by omega) h1 h2
  ·exact zHi _ _ _ _ _ _ _ hp ha hb (by omega) h1
def zAj (n k:Nat):Nat:=if k=0 then n - 1 else k - 1
def zBf (px py:Int)(n:Nat)(X Y:Nat→Int)(i:Nat):Bool:=yM px py (X (zAj n i)) (Y (zAj n i)) (X i) (Y i)
theorem zRw (px py:Int)(n:Nat)(X Y:Nat→Int)(hn:0<n):vF (zBf px py n X Y) n=vF (vL px py n X Y) n:=by
 refine zNf _ _ n ?_ (fun i hi=>?_) hn
 ·have e:n - 1+1=n:=by omega
  simp [zBf,vL,zAj,e,Nat.mod_self]
 ·simp [zBf,vL,zAj,Nat.mod_eq_of_lt hi]
theorem zCt (px py:Int)(a:Option Addr)(n cap:Nat)(X Y:Nat→Int)(w:World)(hn:n<3) :
  Calls Tryz.prog 293 #[.agg #[.int .i64 px,.int .i64 py],.slice a n cap] w fun e w'=>e=.returned (.bool (yL px py n X Y))∧Bw w w':=by
 have HE:Hid (yL px py n X Y=false):=by
  show _=_
  have:¬ 3≤n:=by omega
  simp [yL,this]
 have hni:(n:Int)<3:=by omega
 go_enter Tryz.func293,Tryz.ntmps293
 go_wp2
 go_ret
 exact ⟨zF HE.out.symm,Qb⟩
theorem zCc (px py:Int)(a:Option Addr)(n cap:Nat)(X Y:Nat→Int)(w:World)(hn:40<n)(hmax:n≤1048576) :
  Calls Tryz.prog 293 #[.agg #[.int .i64 px,.int .i64 py],.slice a n cap] w fun e w'=>e=.returned (.bool (yL px py n X Y))∧Bw w w':=by
 have HE:Hid (yL px py n X Y=false):=by
  show _=_
  have:¬ n≤40:=by omega
  simp [yL,this]
 have hni:(40:Int)<(n:Int):=by omega
 have hn3:decide ((n:Int)<3)=false:=by simp;omega
 go_enter Tryz.func293,Tryz.ntmps293
 go_wp2
 go_ret
 exact ⟨zF HE.out.symm,Qb⟩
theorem zEm (px py:Int)(b n cap:Nat)(X Y:Nat→Int)(w:World)(hp:okP px py=false)(h3:3≤n)(h40:n≤40) :
  Calls Tryz.prog 293 #[.agg #[.int .i64 px,.int .i64 py],.slice (some ⟨b,0,none⟩) n cap] w fun e w'=>e=.returned (.bool (yL px py n X Y))∧Bw w w':=by
 have HE:Hid (yL px py n X Y=false):=by show _=_;simp [yL,hp]
 have k1:=zMg hp
 have hn3:decide ((n:Int)<3)=false:=by simp;omega
 have hn40:decide ((40:Int)<(n:Int))=false:=by simp;omega
 clear hp
 go_enter Tryz.func293,Tryz.ntmps293
 go_wp2_with (go_at_call 300;refine (xC _ _ _).mono ?_;rintro e w' ⟨rfl,hb⟩)
 go_ret
 exact ⟨zF HE.out.symm,Qb⟩
theorem zCu (px py:Int)(b n cap:Nat)(X Y:Nat→Int)(w:World)(hp:okP px py=true)(hpt:zK w b 0 n X Y)(hbl:b<w.heap.size)(hcap:n≤cap)(h3:3≤n)(h40:n≤40)(hall:zJ3 n X Y=false) :
  Calls Tryz.prog 293 #[.agg #[.int .i64 px,.int .i64 py],.slice (some ⟨b,0,none⟩) n cap] w fun e w'=>e=.returned (.bool (yL px py n X Y))∧Bw w w':=by
 have HE:Hid (yL px py n X Y=false):=by show _=_;simp [yL,hall]
 have hN:zCg n X Y=3:=by simp [zCg,hall]
 have HQ:Hid (zK w b 0 n X Y):=hpt
 have k1:=zHy hp
 have hn3:decide ((n:Int)<3)=false:=by simp;omega
 have hn40:decide ((40:Int)<(n:Int))=false:=by simp;omega
 clear hp hpt hall
 go_enter Tryz.func293,Tryz.ntmps293
 go_wp2_with fail
 refine (xC _ _ _).mono ?_
 rintro e w1 ⟨rfl,hb1⟩
 have hB1:Bw w w1:=by exact Qb
 have HQ1:Hid (zK w1 b 0 n X Y):=HQ.out.below hB1 hbl
 have hbl1:b<w1.heap.size:=Nat.lt_of_lt_of_le hbl hB1.size
 have HB1:Hid (Bw w w1):=hB1
 clear hB1 hb1
 go_wp2_with (go_at_call 301;refine (zBv _ _ _ _ X Y _ HQ1.out hbl1 hcap (by omega)).mono ?_;rintro e w2 ⟨rfl,hb2⟩)
 go_ret
 exact ⟨zF HE.out.symm,zA HB1.out hb2⟩
theorem zCb (px py:Int)(b n cap:Nat)(X Y:Nat→Int)(w:World)(hp:okP px py=true)(hpt:zK w b 0 n X Y)(hbl:b<w.heap.size)(hcap:n≤cap)(h3:3≤n)(h40:n≤40)(hall:zJ3 n X Y=true) :
  Calls Tryz.prog 293 #[.agg #[.int .i64 px,.int .i64 py],.slice (some ⟨b,0,none⟩) n cap] w fun e w'=>e=.returned (.bool (yL px py n X Y))∧Bw w w':=by
 have HE:Hid (yL px py n X Y=vF (zBf px py n X Y) n):=by
  show _=_
  rw [zRw px py n X Y (by omega)]
  simp [yL,hall,hp,h3,h40]
 have hN:zCg n X Y=0:=by simp [zCg,hall]
 have HP:Hid (okP px py=true):=hp
 have HQ:Hid (zK w b 0 n X Y):=hpt
 have HO:Hid (∀ i,i<n→okP (X i) (Y i)=true):=by
  show ∀ i,i<n→okP (X i) (Y i)=true
  exact of_decide_eq_true hall
 have k1:=zHy hp
 have hn3:decide ((n:Int)<3)=false:=by simp;omega
 have hn40:decide ((40:Int)<(n:Int))=false:=by simp;omega
 clear hp hpt hall
 go_enter Tryz.func293,Tryz.ntmps293
 go_wp2_with fail
 generalize hW:(w.alloc _:World)=W
 have hB0:Bw w W:=by subst hW;exact Qb
 have c00:∀ W',Bw W W'→W'.cell? ⟨w.heap.size,0,none⟩=some (.int .i64 px):=Qc hW
 have c01:∀ W',Bw W W'→W'.cell? ⟨w.heap.size,1,none⟩=some (.int .i64 py):=Qc hW
 clear hW
 have HB0:Hid (Bw w W):=hB0
 have HQ1:Hid (zK W b 0 n X Y):=HQ.out.below hB0 hbl
 have hblW:b<W.heap.size:=Nat.lt_of_lt_of_le hbl hB0.size
 clear hB0 HQ hbl
 refine (xC _ _ _).mono ?_
 rintro e w1 ⟨rfl,hb1⟩
 have HQ2:Hid (zK w1 b 0 n X Y):=HQ1.out.below hb1 hblW
 have hbl1:b<w1.heap.size:=Nat.lt_of_lt_of_le hblW hb1.size
 go_wp2_with fail
 refine (zBv _ _ _ _ X Y _ HQ2.out hbl1 hcap (by omega)).mono ?_
 rintro e w2 ⟨rfl,hb2⟩
 have hB2:Bw W w2:=zA hb1 hb2
 have hwr:IntKind.i64.wrap ((n:Int) - 1)=(n:Int) - 1:=IntWalk.i64_in _ (by omega)
 have hi1:(0:Int)≤(n:Int) - 1:=by omega
 have hi2:(n:Int) - 1<(n:Int):=by omega
 have hti:((n:Int) - 1).toNat=n - 1:=by omega
 obtain ⟨hx,hy⟩:=(HQ1.out.below hB2 hblW) (n - 1) (by omega)
 simp only [Nat.zero_add] at hx hy
 clear hb1 hb2 HQ2
 go_wp2_with fail
 refine (uO _ _ _).mono ?_
 rintro e w3 ⟨rfl,hb3⟩
 have hB3:Bw W w3:=zA hB2 hb3
 clear hx hy hB2 hb3
 have HQ3:Hid (zK w3 b 0 n X Y):=HQ1.out.below hB3 hblW
 have hbl3:b<w3.heap.size:=Nat.lt_of_lt_of_le hblW hB3.size
 replace c00:=fun W' (h:Below w3.heap.size w3 W')=>c00 W' (zA hB3 h)
 replace c01:=fun W' (h:Below w3.heap.size w3 W')=>c01 W' (zA hB3 h)
 have HB3:Hid (Bw w w3):=zA HB0.out hB3
 clear hB3 HB0 HQ1 hblW hbl1 hwr hi1 hi2 hti hN k1
 go_wp2
 go_loopw [5,35] (fun q i wr=>∃ k:Nat,k≤n∧i=.int .i64 k∧q=.bool (vF (zBf px py n X Y) k)∧Bw w3 wr∧wr.cell? ⟨w3.heap.size,0,none⟩=some (.int .i64 (X (zAj n k)))∧wr.cell? ⟨w3.heap.size,1,none⟩=some (.int .i64 (Y (zAj n k)))∧wr.frozen? ⟨w3.heap.size,0,none⟩=false∧wr.frozen? ⟨w3.heap.size,1,none⟩=false) (fun _ i _=>n - (intOf i).toNat)
 case atStart=>exact ⟨0,by omega,rfl,rfl,Qb,by simp [go_sem,zAj],by simp [go_sem,zAj],by simp [go_sem],by simp [go_sem]⟩
 case round =>
  obtain ⟨k,hk,rfl,rfl,hB,f0,f1,z0,z1⟩:=hrel
  by_cases hlt:k<n
  ·obtain ⟨hx,hy⟩:=(HQ3.out.below hB hbl3) k hlt
   simp only [Nat.zero_add] at hx hy
   have hFl:w3.heap.size<wr.heap.size:=World.block_lt_of_cell? _ _ f0
   have HK1:Hid (okP (X (zAj n k)) (Y (zAj n k))=true):=HO.out _ (by unfold zAj;split <;> omega)
   have HK2:Hid (okP (X k) (Y k)=true):=HO.out k hlt
   have hodd:Hid (vF (zBf px py n X Y) (k+1)=if zBf px py n X Y k=true then !(vF (zBf px py n X Y) k) else vF (zBf px py n X Y) k):=rfl
   have HS:Hid (zBf px py n X Y k=yM px py (X (zAj n k)) (Y (zAj n k)) (X k) (Y k)):=rfl
   have hprev:zAj n (k+1)=k:=by simp [zAj]
   have HV:Hid (zAj n (k+1)=k):=hprev
   clear hprev
   have hi:(k:Int)<(n:Int):=by omega
   generalize hXp:X (zAj n k)=xp at *
   generalize hYp:Y (zAj n k)=yp at *
   clear hXp hYp
   have F0:Hid (wr.cell? ⟨w3.heap.size,0,none⟩=some (.int .i64 xp)):=f0
   have F1:Hid (wr.cell? ⟨w3.heap.size,1,none⟩=some (.int .i64 yp)):=f1
   have Z0:Hid (wr.frozen? ⟨w3.heap.size,0,none⟩=false):=z0
   have Z1:Hid (wr.frozen? ⟨w3.heap.size,1,none⟩=false):=z1
   have HB:Hid (Bw w3 wr):=hB
   clear f0 f1 z0 z1 hB
   go_wp2_with fail
   refine (uO _ _ _).mono ?_
   rintro e w4 ⟨rfl,hb4⟩
   have hB4:Bw wr w4:=by exact Qb
   clear hb4 hx hy
   go_wp2
   generalize hV:(w4.alloc _:World)=V
   have hBV:Bw wr V:=by subst hV;exact Qb
   have t0:∀ W',Bw V W'→W'.cell? ⟨w4.heap.size,0,none⟩=some (.int .i64 (X k)):=Qc hV
   have t1:∀ W',Bw V W'→W'.cell? ⟨w4.heap.size,1,none⟩=some (.int .i64 (Y k)):=Qc hV
   have f0:∀ W',Bw V W'→W'.cell? ⟨w3.heap.size,0,none⟩=some (.int .i64 xp):=fun W' h=>((zA hBV h).cell (p:=⟨w3.heap.size,0,none⟩) hFl).trans F0.out
   have f1:∀ W',Bw V W'→W'.cell? ⟨w3.heap.size,1,none⟩=some (.int .i64 yp):=fun W' h=>((zA hBV h).cell (p:=⟨w3.heap.size,1,none⟩) hFl).trans F1.out
   have z0:∀ W',Bw V W'→W'.frozen? ⟨w3.heap.size,0,none⟩=false:=fun W' h=>((zA hBV h).frozen (p:=⟨w3.heap.size,0,none⟩) hFl).trans Z0.out
   have z1:∀ W',Bw V W'→W'.frozen? ⟨w3.heap.size,1,none⟩=false:=fun W' h=>((zA hBV h).frozen (p:=⟨w3.heap.size,1,none⟩) hFl).trans Z1.out
   have hBV3:Bw w3 V:=zA HB.out hBV
   replace c00:=fun W' (h:Below V.heap.size V W')=>c00 W' (zA hBV3 h)
   replace c01:=fun W' (h:Below V.heap.size V W')=>c01 W' (zA hBV3 h)
   have HBV3:Hid (Bw w3 V):=hBV3
   clear hV hBV hBV3 hB4
   cases hsv:yM px py xp yp (X k) (Y k)
   all_goals
    go_region_held3 (fun W'=>Bw V W') ((repeat (first|exact Qr _ _|assumption|refine Qd ?_|refine Qa ?_ _|refine Qt ?_|refine Qs ?_ _|refine Qo ?_ ?_ _ _)))
     (first
      | (go_at_call 302;refine (uO _ _ _).mono ?_;rintro e w' ⟨rfl,hb⟩)
      | (go_at_call 303;refine (zHl _ _ _ _ _ _ _ HP.out HK1.out HK2.out).mono ?_;rintro e w' ⟨rfl,hb⟩))
    rename_i hfin
    go_wp2
    go_roundw
    case rel =>
     refine ⟨k+1,by omega,by go_num,congrArg Value.bool (by rw [hodd.out,HS.out,hsv];rfl),?_,?_,?_,?_,?_⟩
     ·have hG:=zA HBV3.out hfin
      exact (hG.setCell (Nat.le_refl _) _).setCell (Nat.le_refl _) _
     ·rw [HV.out]
      exact zS7 (Option.isSome_iff_exists.2 ⟨_,f0 _ hfin⟩)
     ·rw [HV.out]
      exact zS6 (Option.isSome_iff_exists.2 ⟨_,f1 _ hfin⟩)
     ·simp [World.frozen?_setCell,z0 _ hfin]
     ·simp [World.frozen?_setCell,z1 _ hfin]
    case measure=>simp [intOf];omega
  ·go_wp2
   go_ret
   have hkn:k=n:=by omega
   subst hkn
   exact ⟨zF HE.out.symm,zA HB3.out hB⟩
theorem zCv (px py:Int)(b n cap:Nat)(X Y:Nat→Int)(w:World)(hpt:zK w b 0 n X Y)(hbl:b<w.heap.size)(hcap:n≤cap)(hmax:n≤1048576) :
  Calls Tryz.prog 293 #[.agg #[.int .i64 px,.int .i64 py],.slice (some ⟨b,0,none⟩) n cap] w fun e w'=>e=.returned (.bool (yL px py n X Y))∧Bw w w':=by
 by_cases h3:n<3
 ·exact zCt _ _ _ _ _ _ _ _ h3
 by_cases h40:40<n
 ·exact zCc _ _ _ _ _ _ _ _ h40 hmax
 cases hp:okP px py
 ·exact zEm _ _ _ _ _ _ _ _ hp (by omega) (by omega)
 cases ha:zJ3 n X Y
 ·exact zCu _ _ _ _ _ _ _ _ hp hpt hbl hcap (by omega) (by omega) ha
 ·exact zCb _ _ _ _ _ _ _ _ hp hpt hbl hcap (by omega) (by omega) ha

theorem zD.grown {w w':World}{p n s:Nat}(h:zD w p n)(hg:w.grownBy w' (some s))(hs:p≠s):zD w' p n:=fun o hn=>by
 obtain ⟨v,hv⟩:=(h o hn).1
 refine ⟨⟨v,xF hg hv hs⟩,?_⟩
 have he:=hg.block p (World.block_lt_of_cell? _ _ hv) (fun e=>hs (by injection e))
 have hz:=(h o hn).2
 unfold World.frozen? at hz ⊢
 simp only [he]
 exact hz
def mkP (k0:Nat)(i:Nat):Plc:=⟨((k0+5 * i:Nat):Int),((k0+5 * i+1:Nat):Int),((k0+5 * i+2:Nat):Int),((k0+5 * i+3:Nat):Int),((k0+5 * i+4:Nat):Int)⟩
theorem zFf (g n cap k0:Nat)(w:World)(hT:zD w g (n * 5))(hn:n≤1048576)(hk0:k0≤1125899906842624) :
  Calls Tryz.prog 59 #[.slice (some ⟨g,0,none⟩) n cap,.int .i64 (k0:Int)] w fun e w'=>e=.returned (.int .i64 ((k0+5 * n:Nat):Int))∧w.grownBy w' (some g)∧zD w' g (n * 5)∧zMr w' g 0 n (mkP k0):=by
 have HT0:Hid (zD w g (n * 5)):=hT
 clear hT
 go_enter Tryz.func59,Tryz.ntmps59
 go_wp2_with fail
 go_loopw [1,5] (fun kk i wr=>∃ j K:Nat,j≤n∧Hid (K=k0+5 * j)∧kk=.int .i64 (K:Int)∧i=.int .i64 (j:Int)∧w.grownBy wr (some g)∧zD wr g (n * 5)∧zMr wr g 0 j (mkP k0)) (fun _ i _=>n - (intOf i).toNat)
 case atStart=>exact ⟨0,k0,by omega,rfl,rfl,rfl,zA8 _ _,HT0.out,fun i hi=>by omega⟩
 case round =>
  obtain ⟨j,K,hj,HK,rfl,rfl,hG,hT',hP⟩:=hrel
  by_cases hlt:j<n
  ·have hKb:K≤1125899913134080:=by have:=HK.out;omega
   have t0:=hT'.cell (j * 5+0) (by omega)
   have t1:=hT'.cell (j * 5+1) (by omega)
   have t2:=hT'.cell (j * 5+2) (by omega)
   have t3:=hT'.cell (j * 5+3) (by omega)
   have t4:=hT'.cell (j * 5+4) (by omega)
   have y0:=(hT' (j * 5+0) (by omega)).2
   have y1:=(hT' (j * 5+1) (by omega)).2
   have y2:=(hT' (j * 5+2) (by omega)).2
   have y3:=(hT' (j * 5+3) (by omega)).2
   have y4:=(hT' (j * 5+4) (by omega)).2
   simp only [Nat.add_zero] at t0 y0
   have HG:Hid (w.grownBy wr (some g)):=hG
   have HT:Hid (zD wr g (n * 5)):=hT'
   have HP:Hid (zMr wr g 0 j (mkP k0)):=hP
   clear hT' hG hP
   have hi:(j:Int)<(n:Int):=by omega
   have hi0:(0:Int)≤(j:Int):=by omega
   go_wp2
   go_roundw
   case rel =>
    have hfs:=HP.out.lay HT.out hlt
    have he:mkP k0 j=⟨(K:Int),(K:Int)+1,(K:Int)+1+1,(K:Int)+1+1+1,(K:Int)+1+1+1+1⟩:=by
     have:=HK.out
     unfold mkP
     congr 1 <;> omega
    rw [he] at hfs
    exact ⟨j+1,K+5,by omega,by have:=HK.out;show _=_;omega,by go_num,by go_num,xM (xM (xM (xM (xM HG.out _ _) _ _) _ _) _ _) _ _,((((HT.out.setP _ _).setP _ _).setP _ _).setP _ _).setP _ _,hfs⟩
   case measure=>simp [intOf];omega
  ·go_wp2
   go_ret
   have hjn:j=n:=by omega
   subst hjn
   exact ⟨zE (by have:=HK.out;omega),hG,hT',hP⟩
theorem zC9 (a:Option Addr)(cap:Nat)(k:Int)(w:World):Calls Tryz.prog 59 #[.slice a 0 cap,.int .i64 k] w fun e w'=>e=.returned (.int .i64 k)∧w=w':=by
 go_enter Tryz.func59,Tryz.ntmps59
 go_wp2_with fail
 go_loopw [1,5] (fun kk i wr=>kk=.int .i64 k∧i=.int .i64 0∧w=wr) (fun _ _ _=>0)
 case atStart=>exact ⟨rfl,rfl,rfl⟩
 case round =>
  obtain ⟨rfl,rfl,rfl⟩:=hrel
  go_wp2
  go_ret
  exact ⟨rfl,rfl⟩
theorem zEn (a:Option Addr)(n cap k0:Nat)(w:World)(hp:zDc w a n (mkP k0))(hmax:n≤1048576)(hk0:k0≤1125899906842624) :
  Calls Tryz.prog 60 #[.slice a n cap,.int .i64 (k0:Int)] w fun e w'=>e=.returned (.int .i64 ((k0+5 * n:Nat):Int))∧Bw w w':=by
 have HP:Hid (zDc w a n (mkP k0)):=hp
 clear hp
 go_enter Tryz.func60,Tryz.ntmps60
 go_wp2_with fail
 go_loopw [1,5] (fun kk i wr=>∃ j K:Nat,j≤n∧Hid (K=k0+5 * j)∧kk=.int .i64 (K:Int)∧i=.int .i64 (j:Int)∧Bw w wr) (fun _ i _=>n - (intOf i).toNat)
 case atStart=>exact ⟨0,k0,by omega,rfl,rfl,rfl,Below.refl _ _⟩
 case round =>
  obtain ⟨j,K,hj,HK,rfl,rfl,hB⟩:=hrel
  by_cases hlt:j<n
  ·rcases HP.out with h0 | ⟨b,off,rfl,hbl,hpt⟩
   ·omega
   have hKb:K≤1125899913134080:=by have:=HK.out;omega
   have he:mkP k0 j=⟨(K:Int),(K:Int)+1,(K:Int)+1+1,(K:Int)+1+1+1,(K:Int)+1+1+1+1⟩:=by
    have:=HK.out
    unfold mkP
    congr 1 <;> omega
   have hat:=(hpt.below hB hbl) j hlt
   rw [he] at hat
   obtain ⟨t0,t1,t2,t3,t4⟩:=hat
   dsimp only at t0 t1 t2 t3 t4
   have HB:Hid (Bw w wr):=hB
   clear hB hpt he
   have hi:(j:Int)<(n:Int):=by omega
   have hi0:(0:Int)≤(j:Int):=by omega
   go_wp2
   go_roundw
   case rel=>exact ⟨j+1,K+5,by omega,by have:=HK.out;show _=_;omega,by go_num,by go_num,HB.out⟩
   case measure=>simp [intOf];omega
  ·go_wp2
   go_ret
   have hjn:j=n:=by omega
   subst hjn
   exact ⟨zE (by have:=HK.out;omega),hB⟩
def zAi (w:World)(base:Nat)(v:Value)(n:Nat)(E:Nat→Plc):Prop :=
 ∃ a cap,v=.slice a n cap∧n≤cap∧(n=0∨∃ b,a=some ⟨b,0,none⟩∧base≤b∧b<w.heap.size∧zMr w b 0 n E∧zD w b (n * 5))
theorem zAi.below {w w':World}{base:Nat}{v:Value}{n:Nat}{E:Nat→Plc}(h:zAi w base v n E)(hb:Below w.heap.size w w'):zAi w' base v n E:=by
 obtain ⟨a,cap,hv,hc,h0 | ⟨b,ha,hbb,hl,hp,ht⟩⟩:=h
 ·exact ⟨a,cap,hv,hc,.inl h0⟩
 ·exact ⟨a,cap,hv,hc,.inr ⟨b,ha,hbb,Nat.lt_of_lt_of_le hl hb.size,hp.below hb hl,ht.below hb⟩⟩
theorem zAi.pts {w:World}{base:Nat}{v:Value}{n:Nat}{E:Nat→Plc}(h:zAi w base v n E):∃ a cap,v=.slice a n cap∧n≤cap∧zDc w a n E:=by
 obtain ⟨a,cap,hv,hc,h0 | ⟨b,ha,hb,hl,hp,ht⟩⟩:=h
 ·exact ⟨a,cap,hv,hc,.inl h0⟩
 ·exact ⟨a,cap,hv,hc,.inr ⟨b,0,ha,hl,hp⟩⟩
theorem zAi.is {w:World}{base:Nat}{a:Option Addr}{n cap:Nat}{E:Nat→Plc}(h:zAi w base (.slice a n cap) n E):zDc w a n E:=by
 obtain ⟨a',cap',hv,hc,hi⟩:=h.pts
 injection hv with h1 h2 h3
 subst h1
 exact hi
theorem zAi.mid {w w':World}{base lo hi:Nat}{v:Value}{n:Nat}{E:Nat→Plc}(h:zAi w base v n E)(hM:zW lo hi w w')(hh:hi≤base):zAi w' base v n E:=by
 obtain ⟨a,cap,hv,hc,h0 | ⟨b,ha,hbb,hl,hp,ht⟩⟩:=h
 ·exact ⟨a,cap,hv,hc,.inl h0⟩
 ·refine ⟨a,cap,hv,hc,.inr ⟨b,ha,hbb,Nat.lt_of_lt_of_le hl hM.size,fun i hi=>?_,hM.there ht (.inr (by omega))⟩⟩
  obtain ⟨h0,h1,h2,h3,h4⟩:=hp i hi
  exact ⟨hM.cell h0 (.inr (by omega)),hM.cell h1 (.inr (by omega)),hM.cell h2 (.inr (by omega)),hM.cell h3 (.inr (by omega)),hM.cell h4 (.inr (by omega))⟩
def yQ (T:Nat)(w:World)(a:Option Addr)(n:Nat)(E:Nat→Plc):Prop:=n=0∨∃ b off,a=some ⟨b,off,none⟩∧b<T∧zMr w b off n E
theorem yQ.is {T:Nat}{w:World}{a:Option Addr}{n:Nat}{E:Nat→Plc}(h:yQ T w a n E)(hT:T≤w.heap.size):zDc w a n E:=by
 rcases h with h | ⟨b,off,e,hl,hp⟩
 ·exact .inl h
 ·exact .inr ⟨b,off,e,by omega,hp⟩
theorem yQ.below {T B:Nat}{w w':World}{a:Option Addr}{n:Nat}{E:Nat→Plc}(h:yQ T w a n E)(hb:Below B w w')(hB:T≤B):yQ T w' a n E:=by
 rcases h with h | ⟨b,off,e,hl,hp⟩
 ·exact .inl h
 ·exact .inr ⟨b,off,e,hl,hp.below hb (by omega)⟩
theorem yQ.mid {T lo hi:Nat}{w w':World}{a:Option Addr}{n:Nat}{E:Nat→Plc}(h:yQ T w a n E)(hM:zW lo hi w w')(hT:T≤lo):yQ T w' a n E:=by
 rcases h with h | ⟨b,off,e,hl,hp⟩
 ·exact .inl h
 ·refine .inr ⟨b,off,e,hl,fun i hi=>?_⟩
  obtain ⟨h0,h1,h2,h3,h4⟩:=hp i hi
  exact ⟨hM.cell h0 (.inl (by omega)),hM.cell h1 (.inl (by omega)),hM.cell h2 (.inl (by omega)),hM.cell h3 (.inl (by omega)),hM.cell h4 (.inl (by omega))⟩
theorem yQ.row {T:Nat}{row:Option Nat}{w w':World}{a:Option Addr}{n:Nat}{E:Nat→Plc}(h:yQ T w a n E)(hg:w.grownBy w' row)(hs:∀ s,row=some s→T≤s):yQ T w' a n E:=by
 rcases h with h | ⟨b,off,e,hl,hp⟩
 ·exact .inl h
 ·refine .inr ⟨b,off,e,hl,fun i hi=>?_⟩
  obtain ⟨h0,h1,h2,h3,h4⟩:=hp i hi
  have hne:∀ s,row=some s→b≠s:=fun s e=>by have:=hs s e;omega
  exact ⟨uY hg h0 hne,uY hg h1 hne,uY hg h2 hne,uY hg h3 hne,uY hg h4 hne⟩
theorem xO (c:Int)(a a':Option Addr)(n cap cap':Nat)(E:Nat→Plc)(w:World)(hp:zDc w a n E)(hq:zDc w a' n E)(hmax:n≤1048576) :
  Calls Tryz.prog 24 #[.agg #[.int .i64 c,.slice a n cap],.agg #[.int .i64 c,.slice a' n cap']] w fun e w'=>e=.returned (.bool true)∧Bw w w':=by
 have HP:Hid (zDc w a n E):=hp
 have HQ:Hid (zDc w a' n E):=hq
 clear hp hq
 go_enter Tryz.func24,Tryz.ntmps24
 go_wp2_with fail
 generalize hW:((w.alloc _).alloc _:World)=W
 have HB:Bw w W:=by subst hW;exact Qb
 clear hW
 refine (zHt _ _ _ _ _ E _ (HP.out.below HB) (HQ.out.below HB) hmax).mono ?_
 rintro e w' ⟨rfl,hb⟩
 go_wp2
 go_ret
 exact ⟨rfl,Qb⟩
theorem zA1 (c:Int)(b n cap:Nat)(w:World)(hT:zD w b (n * 5))(hb:b<w.heap.size)(hmax:n≤1048576) :
  Calls Tryz.prog 25 #[.agg #[.int .i64 c,.slice (some ⟨b,0,none⟩) n cap],.int .i64 1] w fun e w'=>e=.returned (.int .i64 ((1+5 * n:Nat):Int))∧w.grownBy w' (some b)∧zD w' b (n * 5)∧zMr w' b 0 n (mkP 1):=by
 have HT:Hid (zD w b (n * 5)):=hT
 clear hT
 go_enter Tryz.func25,Tryz.ntmps25
 go_wp2_with fail
 generalize hW:(w.alloc _:World)=W
 have HB:Bw w W:=by subst hW;exact Qb
 clear hW
 refine (zFf b n _ 1 _ (HT.out.below HB) hmax (by omega)).mono ?_
 rintro e w' ⟨rfl,hG,hT',hP⟩
 have HG:Hid (w.grownBy w' (some b)):=zBt (zBu HB) hG
 have HT':Hid (zD w' b (n * 5)):=hT'
 have HP':Hid (zMr w' b 0 n (mkP 1)):=hP
 clear hG hT' hP HB
 go_wp2
 go_ret
 exact ⟨rfl,HG.out,HT'.out,HP'.out⟩
theorem vD (c:Int)(a:Option Addr)(cap:Nat)(w:World) :
  Calls Tryz.prog 25 #[.agg #[.int .i64 c,.slice a 0 cap],.int .i64 1] w fun e w'=>e=.returned (.int .i64 ((1+5 * 0:Nat):Int))∧Bw w w':=by
 go_enter Tryz.func25,Tryz.ntmps25
 go_wp2_with (go_at_call 59;refine (zC9 _ _ _ _).mono ?_;rintro e w' ⟨rfl,rfl⟩)
 go_ret
 exact ⟨rfl,Qb⟩
theorem zBe (c:Int)(a:Option Addr)(n cap:Nat)(w:World)(hp:zDc w a n (mkP 1))(hmax:n≤1048576) :
  Calls Tryz.prog 26 #[.agg #[.int .i64 c,.slice a n cap],.int .i64 1] w fun e w'=>e=.returned (.int .i64 ((1+5 * n:Nat):Int))∧Bw w w':=by
 have HP:Hid (zDc w a n (mkP 1)):=hp
 clear hp
 have hneg:¬ ((1+5 * n:Nat):Int)<0:=by omega
 have Hhd:Hid (∀ w,zDc w a n (mkP 1)→Calls Tryz.prog 60 #[.slice a n cap,.int .i64 1] w fun e w'=>e=.returned (.int .i64 ((1+5 * n:Nat):Int))∧Bw w w'):=fun w h1=>zEn a n cap 1 w h1 hmax (by omega)
 generalize ((1+5 * n:Nat):Int)=q at *
 go_enter Tryz.func26,Tryz.ntmps26
 go_wp2_with fail
 generalize hW:(w.alloc _:World)=W
 have HB:Bw w W:=by subst hW;exact Qb
 clear hW
 refine (Hhd.out _ (HP.out.below HB)).mono ?_
 rintro e w' ⟨rfl,hb'⟩
 go_wp2
 go_ret
 exact ⟨rfl,Qb⟩

end Go.Proofs.YtpaiholildedcaaGreat
