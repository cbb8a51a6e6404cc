/- Texts. -/
import Derived.Test.YtpaiholildedcaaGreatVNewViewer20
import Derived.Test.YtpaiholildedcaaGreatVNewViewer16
set_option linter.unusedSimpArgs false
set_option linter.unusedVariables false
set_option maxRecDepth 100000
set_option maxHeartbeats 32000000
namespace Go.Proofs.YtpaiholildedcaaGreat
open Go.RowKit
theorem zAu {w:World}{P:Program}{k:TypeId}{mb n:Nat}{D:DataW Value}(h:w.ownsMap P k RV mb n D):w.ownsMap P k RV mb (Maps.size D) D:=by
 obtain ⟨es,c,hb,F,hs,rfl⟩:=h
 exact ⟨es,c,hb,F,by simp [Maps.size,length_sorted],rfl⟩
def Shf (w:World)(B p:Nat)(s t:Int)(L:List Ag):Prop:=∃ mb D,B≤p∧B≤mb∧ShA w p s t mb∧zC w p 3∧w.ownsMap Tryz.prog 111 RV mb L.length D∧Rep D L
theorem Shf.below {w w':World}{B p:Nat}{s t:Int}{L:List Ag}(h:Shf w B p s t L)(hb:Below w.heap.size w w'):Shf w' B p s t L:=by
 obtain ⟨mb,D,h1,h2,h3,h4,h5,h6⟩:=h
 exact ⟨mb,D,h1,h2,h3.below hb,h4.below hb,zW h5 hb,h6⟩
theorem ShK.shf {w:World}{B p:Nat}{s:Int}{n:Nat}{A:Nat→Kp}(h:ShK w B p s n A)(h0:∀ j,j<n→kC A j=0):Shf w B p s (n:Int) (agL A n):=by
 obtain ⟨mb,h1,h2,h3,h4,h5⟩:=h
 exact ⟨mb,shD A n,h1,h2,h3,h4,by rw [zKw];exact h5,zJr n h0⟩
theorem zIr {a:Ag}{M:List Ag}(h:(a :: M).Pairwise (fun a b=>zBu a≠zBu b)):xB (a :: M) a.z a.x a.y=M:=by
 obtain ⟨h1,h2⟩:=List.pairwise_cons.1 h
 have hno:∀ b ∈ M,isA b a.z a.x a.y=false:=fun b hb=>by
  cases e:isA b a.z a.x a.y
  ·rfl
  ·exfalso
   obtain ⟨e1,e2,e3⟩:=zAa.1 e
   exact h1 b hb (by unfold zBu;rw [e1,e2,e3])
 have:=vL hno
 unfold xB at *
 rw [List.filter_cons_of_neg (by simp [isA]),this]
def zLh (s:Int)(L:List Ag)(a:Ag):List Ag:=if ((xB L a.z a.x a.y ++ [a]).length:Int)≤s then xB L a.z a.x a.y ++ [a] else (xB L a.z a.x a.y ++ [a]).tail
def ShM (w:World)(p:Nat)(s t:Int)(mb:Nat)(L:List Ag):Prop:=ShA w p s t mb∧zC w p 3∧∃ D,w.ownsMap Tryz.prog 111 RV mb L.length D∧Rep D L
theorem ShM.f {w:World}{B p mb:Nat}{s t:Int}{L:List Ag}(h:ShM w p s t mb L)(h1:B≤p)(h2:B≤mb):Shf w B p s t L:=by
 obtain ⟨h3,h4,D,h5,h6⟩:=h
 exact ⟨mb,D,h1,h2,h3,h4,h5,h6⟩
theorem ShM_put (p mb:Nat)(s t:Int)(L:List Ag)(k:Kp)(w:World)(h:ShM w p s t mb L)(hI:I64 k.z∧I64 k.x∧I64 k.y)(ht:∀ b ∈ L,b.t≤t)(hL:L.length≤100)(ht0:0≤t)(ht1:t<900)(hs:0≤s) :
  Calls Tryz.prog 124 #[.pointer (some ⟨p,0,none⟩),kpV k] w fun e w'=>e=.returned (.tuple #[])∧ShM w' p s (t+1) mb (zLh s L (agK k (t+1)))∧(∀ B,B≤p→B≤mb→Below B w w')∧∀ q,q<w.heap.size→q≠p→q≠mb→w'.heap[q]?=w.heap[q]?:=by
 obtain ⟨h3,h4,D,h5,h6⟩:=h
 have hR:Rep (zGo D k (t+1)) (xB L k.z k.x k.y ++ [agK k (t+1)]):=h6.put (agK k (t+1)) hI (fun b hb=>by have:=ht b hb;show b.t<t+1;omega)
 have hlen:(xB L k.z k.x k.y ++ [agK k (t+1)]).length≤101:=by
  have:(xB L k.z k.x k.y).length≤L.length:=List.length_filter_le _ _
  simp;omega
 by_cases hsz:((xB L k.z k.x k.y ++ [agK k (t+1)]).length:Int)≤s
 ·refine (zEl p mb L.length s t D k w h3 h4 h5 hI.1 hI.2.1 hI.2.2 (by omega) (by omega) (by omega) (by rw [hR.size];exact hsz)).mono ?_
  rintro e w' ⟨rfl,g1,g2,g3,g4,g5⟩
  have e:zLh s L (agK k (t+1))=xB L k.z k.x k.y ++ [agK k (t+1)]:=if_pos hsz
  refine ⟨rfl,⟨g1,g2,zGo D k (t+1),?_,by rw [e];exact hR⟩,g4,g5⟩
  have:=zAu g3
  rw [hR.size] at this
  rw [e];exact this
 ·refine (zEm p mb L.length s t D _ k w h3 h4 h5 hR hI.1 hI.2.1 hI.2.2 (by omega) (by omega) (by omega) hs (by omega) (by rw [hR.size];omega)).mono ?_
  rintro e w' ⟨rfl,g1,g2,⟨a,M,hM,g3⟩,g4,g5⟩
  have e1:zLh s L (agK k (t+1))=M:=by
   have:zLh s L (agK k (t+1))=(xB L k.z k.x k.y ++ [agK k (t+1)]).tail:=if_neg hsz
   rw [this,hM];rfl
  have hIa:=hR.ints a (by rw [hM];simp)
  have hR2:Rep ((zGo D k (t+1)).del (zBu a)) M:=by
   have:=hR.less hIa
   rw [hM,zIr (by rw [← hM];exact hR.keys)] at this
   exact this
  refine ⟨rfl,⟨g1,g2,_,?_,by rw [e1];exact hR2⟩,g4,g5⟩
  have:=zAu g3
  rw [hR2.size] at this
  rw [e1];exact this
theorem zKx (B p:Nat)(s t:Int)(L:List Ag)(w:World)(h:Shf w B p s t L)(hL:L.length≤100) :
  Calls Tryz.prog 135 #[.pointer (some ⟨p,0,none⟩)] w fun e w'=>∃ v,e=.returned v∧zK0 w.heap.size w' v L∧Bw w w':=by
 obtain ⟨mb,D,h1,h2,h3,h4,h5,h6⟩:=h
 exact zCs p mb L.length s t D L w h3 h5 h6 (by omega) (by rw [h6.size];omega)
theorem Shf_has (B p:Nat)(s t:Int)(L:List Ag)(z x y:Int)(w:World)(h:Shf w B p s t L)(hI:I64 z∧I64 x∧I64 y) :
  Calls Tryz.prog 81 #[.pointer (some ⟨p,0,none⟩),xK z x y] w fun e w'=>e=.returned (.bool (L.any (fun a=>isA a z x y)))∧Bw w w':=by
 obtain ⟨mb,D,h1,h2,h3,h4,h5,h6⟩:=h
 have:=zBh p mb L.length s t D z x y w h3 h5 hI.1 hI.2.1 hI.2.2
 have e:Maps.has D (uS z x y)=L.any (fun a=>isA a z x y):=by
  rw [Bool.eq_iff_iff,h6.hasR hI,List.any_eq_true]
 rw [e] at this
 exact this
theorem vZ {P:Program}{ops:Array Oper}{o:Oper}{a:Act}{w:World}{K:Act→World→Prop}{Q:Exit→Act→World→Prop}{E:Prop}(hg:o.guard=none)(s x:Operand)(t:TypeId)(hop:o.op=Op.call { callee:=Callee.builtin Builtin.append,args:=#[s,x],argTypes:=#[t,t] })(base:Nat)(e:TypeId)(i:TypeInfo)(size:Nat)(h1:P.underlying t=some (.slice e))(h2:P.info? e=some i)(v:Value)(n:Nat)(xs:List Value)(hs:a.eval s=v)(hown:w.ownsRow base e size v n xs)(hx:a.eval x=.slice none 0 0)(hK:K (a.put o.dst v) w) :
  if Region.wanted o (yielded ops a.tmps)=true then Oper.wp P o a w K Q else E:=by
 have hw:Region.wanted o (yielded ops a.tmps)=true:=by simp [Region.wanted,hg]
 rw [if_pos hw]
 have hrun:=run_append_owned_none (P:=P) (w:=w) base t o.type e i size h1 h2 v n xs hown
 unfold Oper.wp
 simp [execOp,hop,resolve,invoke,builtin,hs,hx,hrun,Result.andThen]
 exact hK
def zLf (e:Req):List Value:=[.int .i64 e.z,.int .i64 e.x,.int .i64 e.y]
theorem vV (l:List Req):zT (yS l) l.length=l.flatMap zLf:=by
 have h:l.flatMap zLf=(zM l.length (nw l)).flatMap zLf:=by rw [zLn]
 rw [h]
 unfold zT zM
 rw [List.flatMap_map]
 rfl
theorem zC0 (l m:List Req):zT (yS (l ++ m)) (l ++ m).length=zT (yS l) l.length ++ zT (yS m) m.length:=by
 rw [vV,vV,vV,List.flatMap_append]
theorem zD8 (l:List Req):∀ u ∈ zT (yS l) l.length,u.oneCell'=true:=fun u hu=>by
 rw [vV,List.mem_flatMap] at hu
 obtain ⟨e,_,h⟩:=hu
 simp [zLf] at h
 rcases h with rfl | rfl | rfl <;> rfl
theorem yA.slice' {base:Nat}{w:World}{v:Value}{l:List Req}(h:yA base w v l):v=.slice none 0 0∧l=[]∨∃ g c,v=.slice (some ⟨g,0,none⟩) l.length c∧base≤g∧g<w.heap.size:=by
 obtain ⟨h1,h2 | ⟨g,cp,cur,hv,hg,hh,_⟩⟩:=h
 ·refine .inl ⟨h2.1,?_⟩
  exact List.eq_nil_of_length_eq_zero h2.2
 ·exact .inr ⟨g,cp,hv,hg,(Array.getElem?_eq_some_iff.1 hh).1⟩
abbrev lkL (z x y wd ht now:Int)(pv rv:Value)(bad:Int)(sv:Value):List Value:=[.int .i64 z,.int .i64 x,.int .i64 y,.int .i64 wd,.int .i64 ht,.int .i64 now,pv,rv,.int .i64 bad,sv]
def But (p:Nat)(ob:Option Nat)(w w':World):Prop:=∀ q,q<w.heap.size→q≠p→some q≠ob→w'.heap[q]?=w.heap[q]?
theorem zHr (Bs B1 p:Nat)(z x y wd ht now:Int)(pv rv:Value)(bad:Int)(sv:Value)(sl l1:List Req)(c:Int)(v1:Value)(ra:Option Addr)(rn rc:Nat)(w:World)(hV:Blk w p (lkL z x y wd ht now pv rv bad sv))(hs:yA Bs w sv sl)(h1:yA B1 w v1 l1)(hp:p<Bs)(hp1:p<B1)(hbs:Bs≤w.heap.size)(hl:sl.length≤1000∧l1.length≤1000) :
  Calls Tryz.prog 78 #[.pointer (some ⟨p,0,none⟩),rqV c v1 (.slice ra rn rc)] w fun e w'=>e=.returned (.tuple #[])∧∃ sv',Blk w' p (lkL z x y wd ht now pv (.slice ra rn rc) bad sv')∧yA Bs w' sv' (sl ++ l1)∧Below p w w'∧But p sv.ownBlock w w'∧(v1=.slice none 0 0→sv'=sv):=by
 obtain ⟨i1,ri,rz0,rz1,rz2⟩:=info_parts zE1
 have HV:Hid (Blk w p (lkL z x y wd ht now pv rv bad sv)):=hV
 have HS0:Hid (yA Bs w sv sl):=hs
 have HS1:Hid (yA B1 w v1 l1):=h1
 have hpl:p<w.heap.size:=hV.lt
 have HAP:Hid (zT (yS (sl ++ l1)) (sl ++ l1).length=zT (yS sl) sl.length ++ zT (yS l1) l1.length):=zC0 sl l1
 have HSv:=(show Hid _ from hs.slice')
 have HV1:=(show Hid _ from h1.slice')
 clear hV hs h1
 go_enter Tryz.func78,Tryz.ntmps78
 obtain ⟨sa,sc,hsv⟩:∃ a c,sv=.slice a sl.length c:=by
  rcases HSv.out with ⟨e1,e2⟩ | ⟨g,c,e,_⟩
  ·exact ⟨none,0,by rw [e1,e2];rfl⟩
  ·exact ⟨_,_,e⟩
 obtain ⟨va,vc,hv1⟩:∃ a c,v1=.slice a l1.length c:=by
  rcases HV1.out with ⟨e1,e2⟩ | ⟨g,c,e,_⟩
  ·exact ⟨none,0,by rw [e1,e2];rfl⟩
  ·exact ⟨_,_,e⟩
 have c7:=HV.out.cell 7 rfl
 have f7:=HV.out.free 7 rfl
 subst hsv hv1
 go_wp2_with fail
 generalize hwB:(World.alloc _ _:World)=wB
 have hB0:Below p w (w.setCell ⟨p,7,none⟩ (.slice ra rn rc)):=by have h:=Below.refl p w;exact h.setCell (Nat.le_refl p) _
 have hsz0:(w.setCell ⟨p,7,none⟩ (.slice ra rn rc)).heap.size=w.heap.size:=by simp
 have hbA:Below w.heap.size (w.setCell ⟨p,7,none⟩ (.slice ra rn rc)) wB:=by rw [← hsz0];subst hwB;exact yX (Below.refl _ _) _
 have HVB:Hid (Blk wB p (lkL z x y wd ht now pv (.slice ra rn rc) bad (.slice sa sl.length sc))):=(HV.out.set 7 _).below (by omega) (by rw [hsz0];exact hbA)
 have HSB:Hid (yA Bs wB (.slice sa sl.length sc) sl):=yA.below (w:=w.setCell ⟨p,7,none⟩ (.slice ra rn rc)) (zJ HS0.out hp) (by rw [hsz0];exact hbA)
 have H1B:Hid (yA B1 wB (.slice va l1.length vc) l1):=yA.below (w:=w.setCell ⟨p,7,none⟩ (.slice ra rn rc)) (zJ HS1.out hp1) (by rw [hsz0];exact hbA)
 have b1:wB.cell? ⟨w.heap.size,1,none⟩=some (.slice va l1.length vc):=by subst hwB;rw [← hsz0];simp [go_sem]
 have HBB:Hid (Below p w wB):=hB0.trans (hbA.mono (by omega))
 have HBu:Hid (∀ q,q<w.heap.size→q≠p→wB.heap[q]?=w.heap[q]?):=fun q h1 h2=>by
  rw [hbA.block q h1]
  exact Below.heap_setCell w ⟨p,7,none⟩ (.slice ra rn rc) q (fun e=>h2 (by simpa using e))
 have hsB:w.heap.size<wB.heap.size:=World.block_lt_of_cell? _ _ b1
 have hplB:p<wB.heap.size:=by omega
 clear hwB c7 f7 HV HS0 HS1 hB0 hsz0 hbA
 refine wp_region_noPanic ?_
 refine yP (S:=fun W'=>W'.cell? ⟨p,9,none⟩=some (.slice sa sl.length sc)∧W'.cell? ⟨w.heap.size,1,none⟩=some (.slice va l1.length vc)) (z:=10) (by kernel_rfl) ?_
 have hSd:wB.drew.cell? ⟨p,9,none⟩=some (.slice sa sl.length sc)∧wB.drew.cell? ⟨w.heap.size,1,none⟩=some (.slice va l1.length vc):=⟨HVB.out.cell 9 rfl,b1⟩
 have hBd:Bw wB wB.drew:=Below.drew (Below.refl _ _)
 have HVd:Hid (Blk wB.drew p (lkL z x y wd ht now pv (.slice ra rn rc) bad (.slice sa sl.length sc))):=HVB.out.below hplB hBd
 have HSd:Hid (yA Bs wB.drew (.slice sa sl.length sc) sl):=HSB.out.below hBd
 have H1d:Hid (yA B1 wB.drew (.slice va l1.length vc) l1):=H1B.out.below hBd
 have HBB2:Hid (Below p w wB.drew):=HBB.out.trans (hBd.mono (by omega))
 have HBu2:Hid (∀ q,q<w.heap.size→q≠p→wB.drew.heap[q]?=w.heap[q]?):=HBu.out
 have hsB2:w.heap.size<wB.drew.heap.size:=hsB
 have hplB2:p<wB.drew.heap.size:=hplB
 generalize wB.drew=wd0 at *
 clear hBd HVB HSB H1B HBB HBu b1 hsB hplB
 refine zU (i:=0) (v:=?vs0) [10] rfl (by kernel_rfl) (by kernel_rfl) (by kernel_rfl) (by kernel_rfl) (fun _ _ _ h=>h) (Or.inl ⟨by rfl,?hys0⟩) hSd ?_
 case hys0=>(intro w hSw;obtain ⟨kS0,kS1⟩:=hSw;go_simp <;> with_reducible rfl)
 try simp only [Act.put,Qx,Qy,Qz]
 refine zU (i:=1) (v:=?vs1) [10] rfl (by kernel_rfl) (by kernel_rfl) (by kernel_rfl) (by kernel_rfl) (fun _ _ _ h=>h) (Or.inl ⟨by rfl,?hys1⟩) hSd ?_
 case hys1=>(intro w hSw;obtain ⟨kS0,kS1⟩:=hSw;go_simp <;> with_reducible rfl)
 try simp only [Act.put,Qx,Qy,Qz]
 refine zU (i:=2) (v:=?vs2) [10] rfl (by kernel_rfl) (by kernel_rfl) (by kernel_rfl) (by kernel_rfl) (fun _ _ _ h=>h) (Or.inl ⟨by rfl,?hys2⟩) hSd ?_
 case hys2=>(intro w hSw;obtain ⟨kS0,kS1⟩:=hSw;go_simp <;> with_reducible rfl)
 try simp only [Act.put,Qx,Qy,Qz]
 refine zU (i:=3) (v:=?vs3) [10] rfl (by kernel_rfl) (by kernel_rfl) (by kernel_rfl) (by kernel_rfl) (fun _ _ _ h=>h) (Or.inl ⟨by rfl,?hys3⟩) hSd ?_
 case hys3=>(intro w hSw;obtain ⟨kS0,kS1⟩:=hSw;go_simp <;> with_reducible rfl)
 try simp only [Act.put,Qx,Qy,Qz]
 refine zU (i:=4) (v:=?vs4) [10] rfl (by kernel_rfl) (by kernel_rfl) (by kernel_rfl) (by kernel_rfl) (fun _ _ _ h=>h) (Or.inl ⟨by rfl,?hys4⟩) hSd ?_
 case hys4=>(intro w hSw;obtain ⟨kS0,kS1⟩:=hSw;go_simp <;> with_reducible rfl)
 try simp only [Act.put,Qx,Qy,Qz]
 refine zU (i:=5) (v:=?vs5) [10] rfl (by kernel_rfl) (by kernel_rfl) (by kernel_rfl) (by kernel_rfl) (fun _ _ _ h=>h) (Or.inl ⟨by rfl,?hys5⟩) hSd ?_
 case hys5=>(intro w hSw;obtain ⟨kS0,kS1⟩:=hSw;go_simp <;> with_reducible rfl)
 try simp only [Act.put,Qx,Qy,Qz]
 refine zU (i:=6) (v:=?vs6) [10] rfl (by kernel_rfl) (by kernel_rfl) (by kernel_rfl) (by kernel_rfl) (fun _ _ _ h=>h) (Or.inl ⟨by rfl,?hys6⟩) hSd ?_
 case hys6=>(intro w hSw;obtain ⟨kS0,kS1⟩:=hSw;go_simp <;> with_reducible rfl)
 try simp only [Act.put,Qx,Qy,Qz]
 rcases HV1.out with ⟨e1,e2⟩ | ⟨g1,cc1,e1,hg1,hgl1⟩
 ·injection e1 with e1 e3 e4
  subst e1 e2
  have e4':vc=0:=e4
  subst e4'
  refine zF (i:=7) (by kernel_rfl) rfl (fun K hK=>?_)
  refine vZ rfl (.tmp 13) (.tmp 15) 24 rfl Bs 111 i1 3 Tryz.underlying24 ri (.slice sa sl.length sc) sl.length _ rfl HSd.out rfl ?_
  show K (Act.put _ (some 16) _) _
  refine hK.out _ _ (fun _=>hSd) ?_
  clear hK K
  try simp only [Act.put,Qx,Qy,Qz]
  refine zU (i:=8) (v:=?vn8) [9,10] rfl (by kernel_rfl) (by kernel_rfl) (by kernel_rfl) (by kernel_rfl) (fun _ _ _ h=>h) (Or.inl ⟨by rfl,?hyn8⟩) hSd ?_
  case hyn8=>(intro w hSw;obtain ⟨kS0,kS1⟩:=hSw;go_simp <;> with_reducible rfl)
  try simp only [Act.put,Qx,Qy,Qz]
  refine zU (i:=9) (v:=?vn9) [10] rfl (by kernel_rfl) (by kernel_rfl) (by kernel_rfl) (by kernel_rfl) (fun _ _ _ h=>h) (Or.inl ⟨by rfl,?hyn9⟩) hSd ?_
  case hyn9=>(intro w hSw;obtain ⟨kS0,kS1⟩:=hSw;go_simp <;> with_reducible rfl)
  try simp only [Act.put,Qx,Qy,Qz]
  have c9:=HVd.out.cell 9 rfl
  have f9:=HVd.out.free 9 rfl
  refine zF (i:=10) (by kernel_rfl) rfl (fun K hK=>?_)
  go_simp
  refine hK.out _ _ (fun h=>absurd rfl h) ?_
  clear hK K
  try simp only [Act.put,Qx,Qy,Qz]
  refine zY (by kernel_rfl) ?_ _
  refine NoPanic.normal ?_
  clear c9 f9 hSd
  go_wp2_with fail
  refine bodyPost_end (v:=.tuple #[]) (by simp [results,Tryz.results78,go_sem]) rfl ?_
  refine ⟨rfl,_,HVd.out.set 9 _,?_,HBB2.out.setCell (Nat.le_refl _) _,fun q h1 h2 _=>?_,rfl⟩
  ·exact zJ HSd.out hp
  ·rw [Below.heap_setCell wd0 ⟨p,9,none⟩ _ q (fun e=>h2 (by simpa using e))];exact HBu2.out q h1 h2
 ·injection e1 with e1 e3 e4
  subst e1 e4
  have HC1:Hid (∀ j u,(zT (yS l1) l1.length)[j]?=some u→wd0.cell? ((⟨g1,0,none⟩:Addr).add j)=some u):=H1d.out.cells (g:=g1) rfl
  refine zF (i:=7) (by kernel_rfl) rfl (fun K hK=>?_)
  refine zP rfl (.tmp 13) (.tmp 15) 24 rfl Bs 111 i1 (.agg #[.int .i64 0,.int .i64 0,.int .i64 0]) 3 24 Tryz.underlying24 ri rz0 rz1 rz2 rfl (by decide) (.slice sa sl.length sc) sl.length (zT (yS sl) sl.length) rfl HSd.out ⟨g1,0,none⟩ l1.length vc (zT (yS l1) l1.length) rfl (xU _ _) HC1.out (zD8 l1) ?c3 ?c4 ?c5 ?_
  case c3=>have:=hl.1;have:=hl.2;unfold maxLen;omega
  case c4=>have:=hl.1;have:=hl.2;omega
  case c5=>omega
  intro v' w3 hown' hgrow hnil
  clear hnil
  have hrow3:yA Bs w3 v' (sl ++ l1):=by
   show World.ownsRow _ _ _ _ _ _ _
   rw [HAP.out,List.length_append]
   exact hown'
  have hob:∀ q,(Value.slice sa sl.length sc).ownBlock=some q→Bs≤q∧q<wd0.heap.size:=fun q hq=>World.ownsRow.lt HSd.out q hq
  have hpo:some p≠(Value.slice sa sl.length sc).ownBlock:=fun e=>by have:=hob p e.symm;omega
  have hbp:=hgrow.block p hplB2 hpo
  have HV3:Hid (Blk w3 p (lkL z x y wd ht now pv (.slice ra rn rc) bad (.slice sa sl.length sc))):=fun i u hi=>⟨(World.cell?_of_block (a:=⟨p,i,none⟩) hbp).trans (HVd.out i u hi).1,(World.frozen?_of_block (a:=⟨p,i,none⟩) hbp).trans (HVd.out i u hi).2⟩
  have HB3:Hid (Below p w w3):=HBB2.out.trans ((Below.refl _ _).grown hgrow (by omega) (fun k hk=>by have:=hob k hk;omega))
  have HBu3:Hid (But p (Value.slice sa sl.length sc).ownBlock w w3):=fun q h1 h2 h3=>(hgrow.block q (by omega) h3).trans (HBu2.out q h1 h2)
  have hS3:w3.cell? ⟨p,9,none⟩=some (.slice sa sl.length sc)∧w3.cell? ⟨w.heap.size,1,none⟩=some (.slice (some ⟨g1,0,none⟩) l1.length vc):=by
   refine ⟨HV3.out.cell 9 rfl,?_⟩
   by_cases hq:some w.heap.size=(Value.slice sa sl.length sc).ownBlock
   ·exfalso
    rcases HSv.out with ⟨e5,_⟩ | ⟨g,cg,e5,_,hgl⟩
    ·rw [e5] at hq;cases hq
    ·rw [e5] at hq
     simp [Value.ownBlock] at hq
     omega
   ·exact (World.cell?_of_block (a:=⟨w.heap.size,1,none⟩) (hgrow.block w.heap.size hsB2 hq)).trans hSd.2
  have HR3:Hid (yA Bs w3 v' (sl ++ l1)):=hrow3
  obtain ⟨sa',sc',hv'⟩:∃ a c,v'=.slice a (sl ++ l1).length c:=by
   rcases hrow3.slice' with ⟨e5,e6⟩ | ⟨g,cg,e5,_⟩
   ·exact ⟨none,0,by rw [e5,e6];rfl⟩
   ·exact ⟨_,_,e5⟩
  clear hown' hgrow hrow3 hob hpo hbp hSd
  have hSd:=hS3
  subst hv'
  show K (Act.put _ (some 16) _) _
  refine hK.out _ _ (fun _=>hSd) ?_
  clear hK K hS3
  generalize hN:(sl ++ l1).length=N6 at *
  try simp only [Act.put,Qx,Qy,Qz]
  refine zU (i:=8) (v:=?vm8) [9,10] rfl (by kernel_rfl) (by kernel_rfl) (by kernel_rfl) (by kernel_rfl) (fun _ _ _ h=>h) (Or.inl ⟨by rfl,?hym8⟩) hSd ?_
  case hym8=>(intro w hSw;obtain ⟨kS0,kS1⟩:=hSw;go_simp <;> with_reducible rfl)
  try simp only [Act.put,Qx,Qy,Qz]
  refine zU (i:=9) (v:=?vm9) [10] rfl (by kernel_rfl) (by kernel_rfl) (by kernel_rfl) (by kernel_rfl) (fun _ _ _ h=>h) (Or.inl ⟨by rfl,?hym9⟩) hSd ?_
  case hym9=>(intro w hSw;obtain ⟨kS0,kS1⟩:=hSw;go_simp <;> with_reducible rfl)
  try simp only [Act.put,Qx,Qy,Qz]
  have c9:=HV3.out.cell 9 rfl
  have f9:=HV3.out.free 9 rfl
  refine zF (i:=10) (by kernel_rfl) rfl (fun K hK=>?_)
  go_simp
  refine hK.out _ _ (fun h=>absurd rfl h) ?_
  clear hK K
  try simp only [Act.put,Qx,Qy,Qz]
  refine zY (by kernel_rfl) ?_ _
  refine NoPanic.normal ?_
  clear c9 f9 hSd
  go_wp2_with fail
  refine bodyPost_end (v:=.tuple #[]) (by simp [results,Tryz.results78,go_sem]) rfl ?_
  refine ⟨rfl,_,HV3.out.set 9 _,zJ HR3.out hp,HB3.out.setCell (Nat.le_refl _) _,fun q h1 h2 h3=>?_⟩
  rw [Below.heap_setCell w3 ⟨p,9,none⟩ _ q (fun e=>h2 (by simpa using e))];exact HBu3.out q h1 h2 h3
def uT (w:World)(lo hi:Nat)(a:Option Addr)(n:Nat)(G T:Nat→xG):Prop :=
 zIb w a n T∧(∀ i,i<n→(T i).same (G i)∧(T i).n≤(T i).cap)∧(n=0∨∃ g q,a=some ⟨g,0,none⟩∧zHl w lo hi g n (fun i=>(T i).n) (fun i=>(T i).cap) q)
theorem row_neM {base base':Nat}{w:World}{q g n m c d:Nat}{l:List (Int × Int)}{H:Nat→xG}{k:List Nat}(h:Row base w (.slice (some ⟨q,0,none⟩) n c) l)(h':zA5 base' w (.slice (some ⟨g,0,none⟩) m d) H k):q≠g:=fun e=>by
 subst e
 obtain ⟨c1,h1⟩:=vT h q rfl
 obtain ⟨c2,h2⟩:=vT h' q rfl
 rw [h1] at h2
 injection h2 with h2
 injection h2 with _ h2
 exact absurd h2 (by decide)
theorem zKi {base n:Nat}{w:World}{v:Value}{G H:Nat→xG}(hR:zA5 base w v H (List.range n))(hC:uM base w n G H)(hpos:∀ i,i<n→0<(G i).n):∃ a c,v=.slice a n c∧n≤c∧uT w base w.heap.size a n G H:=by
 rcases hR.at with ⟨hv,hl⟩ | ⟨g,c,hv,hg,hgl,hc,hT,hF⟩
 ·have hn0:n=0:=by simpa using congrArg List.length hl
  subst hn0
  exact ⟨none,0,hv,Nat.le_refl _,.inl rfl,fun i hi=>by omega,.inl rfl⟩
 ·rw [List.length_range] at hv hc hT hF
  subst hv
  have hq:∀ j,∃ q,j<n→(H j).a=some ⟨q,0,none⟩∧base≤q∧q<w.heap.size∧q≠g∧yW w q 0 (G j).n (G j).X (G j).Y∧zC w q ((G j).n * 2):=fun j=>by
   by_cases hj:j<n
   ·obtain ⟨s1,r1⟩:=hC.1 j hj
    have hnn:(H j).n=(G j).n:=s1.2.2.2.2.1
    rw [hnn] at r1
    obtain ⟨q,q1,q2,q3,q4,q5⟩:=r1.atP (hpos j hj)
    rw [q1] at r1
    exact ⟨q,fun _=>⟨q1,q2,q3,row_neM r1 hR,q4,q5⟩⟩
   ·exact ⟨0,fun h=>absurd h hj⟩
  obtain ⟨q,hq⟩:=Classical.skolem.1 hq
  have hgd:∀ i,i<n→(List.range n).getD i 0=i:=fun i hi=>by simp [List.getD_eq_getElem?_getD,hi]
  have hFA:∀ i,i<n→zC5 w g (i * 7) (H i).id (H i).la (H i).ki (H i).wi (.slice (H i).a (H i).n (H i).cap) (H i).lab (H i).pr:=fun i hi=>by
   have:=hF i hi
   rw [hgd i hi] at this
   exact this
  refine ⟨_,c,rfl,hc,.inr ⟨g,0,rfl,hgl,fun i hi=>⟨?_,?_⟩⟩,fun i hi=>⟨(hC.1 i hi).1,?_⟩,.inr ⟨g,q,rfl,⟨hg,hgl,Nat.le_refl _⟩,hT,fun i hi=>⟨⟨?_,?_,?_⟩,?_,?_⟩,fun i j hi hj e=>?_⟩⟩
  ·rw [Nat.zero_add];exact hFA i hi
  ·obtain ⟨q1,q2,q3,q4,q5,q6⟩:=hq i hi
   obtain ⟨_,_,_,_,s5,s6,s7,_,_⟩:=(hC.1 i hi).1
   rw [q1,s5,s6,s7]
   exact .inr ⟨_,0,rfl,q3,q5⟩
  ·obtain ⟨a',c',hv',hc',_⟩:=(hC.1 i hi).2.own
   have hl':(yT (G i).X (G i).Y (List.range (G i).n)).length=(G i).n:=by simp [yT]
   injection hv' with _ _ e3
   rw [hl'] at hc'
   rw [e3,(hC.1 i hi).1.2.2.2.2.1]
   exact hc'
  ·exact (hq i hi).2.1
  ·exact (hq i hi).2.2.1
  ·exact (hq i hi).2.2.2.1
  ·obtain ⟨_,_,_,_,s5,_⟩:=(hC.1 i hi).1
   show zC w (q i) ((H i).n * 2)
   rw [s5];exact (hq i hi).2.2.2.2.2
  ·rw [(hFA i hi).2.2.2.2.1,(hq i hi).1]
  ·exact hC.2 i j hi hj (by rw [(hq i hi).1,(hq j hj).1,e])
theorem uT.below {w w':World}{lo hi:Nat}{a:Option Addr}{n:Nat}{G T:Nat→xG}(h:uT w lo hi a n G T)(hb:Below w.heap.size w w'):uT w' lo w'.heap.size a n G T:=by
 obtain ⟨h1,h2,h3⟩:=h
 refine ⟨h1.below hb,h2,h3.imp id (fun ⟨g,q,e,ho⟩=>⟨g,q,e,?_⟩)⟩
 obtain ⟨⟨o1,o2,o3⟩,o4,o5,o6⟩:=ho.below hb
 exact ⟨⟨o1,Nat.lt_of_lt_of_le o2 o3,Nat.le_refl _⟩,o4,fun i hi=>⟨⟨(o5 i hi).1.1,Nat.lt_of_lt_of_le (o5 i hi).1.2.1 o3,(o5 i hi).1.2.2⟩,(o5 i hi).2⟩,o6⟩
theorem uT.mid {w w':World}{lo lo' l h':Nat}{a:Option Addr}{n:Nat}{G T:Nat→xG}(h:uT w lo w.heap.size a n G T)(hM:zI l h' w w')(hh:h'≤lo)(hl:lo'≤lo):uT w' lo' w'.heap.size a n G T:=by
 obtain ⟨h1,h2,h3⟩:=h
 rcases h3 with h0 | ⟨g,q,e,ho⟩
 ·exact ⟨.inl h0,h2,.inl h0⟩
 ·obtain ⟨⟨o1,o2,o3⟩,o4,o5,o6⟩:=ho
  have hsz:=hM.size
  refine ⟨?_,h2,.inr ⟨g,q,e,⟨by omega,by omega,Nat.le_refl _⟩,hM.there o4 (.inr (by omega)),fun i hi=>?_,o6⟩⟩
  ·rcases h1 with h0 | ⟨b,off,e',hb,hf⟩
   ·exact .inl h0
   ·rw [e] at e'
    injection e' with e'
    injection e' with e1 e2
    subst e1 e2
    refine .inr ⟨g,0,e,by omega,fun i hi=>?_⟩
    obtain ⟨⟨f0,f1,f2,f3,f4,f5,f6⟩,hp⟩:=hf i hi
    obtain ⟨⟨q1,q2,_⟩,q4,q5⟩:=o5 i hi
    refine ⟨⟨hM.cell f0 (.inr (by omega)),hM.cell f1 (.inr (by omega)),hM.cell f2 (.inr (by omega)),hM.cell f3 (.inr (by omega)),hM.cell f4 (.inr (by omega)),hM.cell f5 (.inr (by omega)),hM.cell f6 (.inr (by omega))⟩,?_⟩
    have e4:(T i).a=some ⟨q i,0,none⟩:=by
     simp only [Nat.zero_add] at f4
     rw [q5] at f4
     injection f4 with f4
     injection f4 with f4
     exact f4.symm
    rcases hp with h0 | ⟨pb,po,ep,hpl,hpt⟩
    ·exact .inl h0
    ·rw [e4] at ep
     injection ep with ep
     injection ep with p1 p2
     subst p1 p2
     exact .inr ⟨q i,0,e4,by omega,fun j hj=>⟨hM.cell (hpt j hj).1 (.inr (by omega)),hM.cell (hpt j hj).2 (.inr (by omega))⟩⟩
  ·obtain ⟨⟨q1,q2,q3⟩,q4,q5⟩:=o5 i hi
   exact ⟨⟨by omega,by omega,q3⟩,hM.there q4 (.inr (by omega)),hM.cell q5 (.inr (by omega))⟩
theorem _root_.Go.World.ownsRow.midK {w w':World}{base l h' s n:Nat}{t:TypeId}{v:Value}{xs:List Value}(h:w.ownsRow base t s v n xs)(hM:zI l h' w w')(hh:h'≤base):w'.ownsRow base t s v n xs:=by
 obtain ⟨h1,h2 | ⟨g,cp,cur,hv,hg,hb,h3⟩⟩:=h
 ·exact ⟨h1,.inl h2⟩
 ·refine ⟨h1,.inr ⟨g,cp,cur,hv,hg,?_,h3⟩⟩
  exact (hM.block g (Array.getElem?_eq_some_iff.1 hb).1 (.inr (by omega))).trans hb
theorem zI5 (b off n cap:Nat)(Z:Nat→Int)(w:World)(hp:uC w b off n Z)(hbl:b<w.heap.size)(hn:n≤1048576) :
  Calls Tryz.prog 181 #[.slice (some ⟨b,off,none⟩) n cap] w fun e w'=>∃ a c,e=.returned (.slice a n c)∧w'.ownsRow w.heap.size 2 1 (.slice a n c) n ((List.range n).map (fun i=>.int .i64 (Z i)))∧Bw w w':=by
 obtain ⟨i0,hi,hz0,hz1,hz2⟩:=info_parts zE2
 have HP:Hid (uC w b off n Z):=hp
 clear hp
 have hnl:∀ w,Sem.run Tryz.prog (binOp BinOp.eql 46 (.slice (some ⟨b,off,none⟩) n cap) (.slice none 0 0)) w=.ok (.bool false) w:=fun _=>by kernel_rfl
 go_enter Tryz.func181,Tryz.ntmps181
 go_wp2_with (first
  | (at_builtin;go_must (refine wpList_append_own _ rfl _ _ 46 rfl w.heap.size 2 i0 (.int .i64 0) 1 8 Tryz.underlying46 hi hz0 hz1 hz2 rfl (by decide) (.slice (some ⟨w.heap.size,0,none⟩) 0 0) 0 [] rfl (World.ownsRow_lit (base:=w.heap.size) w #[] 0 (Nat.le_refl _) (Nat.zero_le _) rfl) ⟨b,off,none⟩ n cap ((List.range n).map (fun i=>.int .i64 (Z i))) rfl ?c0 ?c1 ?c2 ?c3 ?c4 ?c5 ?_)))
 case c0=>simp
 case c1 =>
  intro q u hq
  rw [List.getElem?_map] at hq
  have hqn:q<n:=by
   rcases Nat.lt_or_ge q n with h | h
   ·exact h
   ·rw [List.getElem?_eq_none (by simpa using h)] at hq;cases hq
  have h1:=(HP.out.below (by exact Qb:Below w.heap.size w (w.alloc (.cells #[] 2))) hbl) q hqn
  simp [hqn] at hq
  subst hq
  by_cases hq0:q=0
  ·subst hq0;simpa [Addr.add] using h1
  ·simpa [Addr.add,hq0] using h1
 case c2=>intro u hu;simp at hu;obtain ⟨i,_,rfl⟩:=hu;rfl
 case c3=>unfold maxLen;omega
 case c4=>omega
 case c5=>first | omega | (simp;done) | (simp;omega)
 intro v' w2 hown' hgrow hnil
 clear hnil
 obtain ⟨a,c,hv⟩:∃ a c,v'=.slice a n c:=by
  obtain ⟨_,h2 | ⟨g,cp,cur,hv,_⟩⟩:=hown'
  ·exact ⟨none,0,by have e:=h2.2;have e2:n=0:=(by omega);subst e2;exact h2.1⟩
  ·exact ⟨_,cp,by rw [hv]⟩
 have HB2:Hid (Bw w w2):=((Below.refl _ _).alloc (Nat.le_refl _) _).trans ((Below.refl _ _).grown hgrow (by simp) (fun k hk=>by simp [Value.ownBlock] at hk;omega))
 subst hv
 have HOWN:Hid (w2.ownsRow w.heap.size 2 1 (.slice a n c) n ((List.range n).map (fun i=>.int .i64 (Z i)))):=by
  show World.ownsRow _ _ _ _ _ _ _
  simpa using hown'
 clear hown' hgrow
 go_wp2
 go_ret
 exact ⟨a,c,rfl,HOWN.out,HB2.out⟩
theorem uT.keep {w w':World}{lo hi:Nat}{a:Option Addr}{n:Nat}{G T:Nat→xG}(h:uT w lo hi a n G T)(hb:Below w.heap.size w w'):uT w' lo hi a n G T:=by
 obtain ⟨h1,h2,h3⟩:=h
 exact ⟨h1.below hb,h2,h3.imp id (fun ⟨g,q,e,ho⟩=>⟨g,q,e,ho.below hb⟩)⟩
theorem uT.mid' {w w':World}{lo hi l h':Nat}{a:Option Addr}{n:Nat}{G T:Nat→xG}(h:uT w lo hi a n G T)(hM:zI l h' w w')(hh:h'≤lo):uT w' lo hi a n G T:=by
 obtain ⟨h1,h2,h3⟩:=h
 rcases h3 with h0 | ⟨g,q,e,ho⟩
 ·exact ⟨.inl h0,h2,.inl h0⟩
 ·obtain ⟨⟨o1,o2,o3⟩,o4,o5,o6⟩:=ho
  have hsz:=hM.size
  refine ⟨?_,h2,.inr ⟨g,q,e,⟨o1,o2,by omega⟩,hM.there o4 (.inr (by omega)),fun i hi=>?_,o6⟩⟩
  ·rcases h1 with h0 | ⟨b,off,e',hb,hf⟩
   ·exact .inl h0
   ·rw [e] at e'
    injection e' with e'
    injection e' with e1 e2
    subst e1 e2
    refine .inr ⟨g,0,e,by omega,fun i hi=>?_⟩
    obtain ⟨⟨f0,f1,f2,f3,f4,f5,f6⟩,hp⟩:=hf i hi
    obtain ⟨⟨q1,q2,_⟩,q4,q5⟩:=o5 i hi
    refine ⟨⟨hM.cell f0 (.inr (by omega)),hM.cell f1 (.inr (by omega)),hM.cell f2 (.inr (by omega)),hM.cell f3 (.inr (by omega)),hM.cell f4 (.inr (by omega)),hM.cell f5 (.inr (by omega)),hM.cell f6 (.inr (by omega))⟩,?_⟩
    have e4:(T i).a=some ⟨q i,0,none⟩:=by
     simp only [Nat.zero_add] at f4
     rw [q5] at f4
     injection f4 with f4
     injection f4 with f4
     exact f4.symm
    rcases hp with h0 | ⟨pb,po,ep,hpl,hpt⟩
    ·exact .inl h0
    ·rw [e4] at ep
     injection ep with ep
     injection ep with p1 p2
     subst p1 p2
     exact .inr ⟨q i,0,e4,by omega,fun j hj=>⟨hM.cell (hpt j hj).1 (.inr (by omega)),hM.cell (hpt j hj).2 (.inr (by omega))⟩⟩
  ·obtain ⟨⟨q1,q2,q3⟩,q4,q5⟩:=o5 i hi
   exact ⟨⟨q1,q2,q3⟩,hM.there q4 (.inr (by omega)),hM.cell q5 (.inr (by omega))⟩
theorem uT.wide {w:World}{lo lo' hi:Nat}{a:Option Addr}{n:Nat}{G T:Nat→xG}(h:uT w lo hi a n G T)(hl:lo'≤lo):uT w lo' hi a n G T:=by
 obtain ⟨h1,h2,h3⟩:=h
 refine ⟨h1,h2,h3.imp id (fun ⟨g,q,e,⟨o1,o2,o3⟩,o4,o5,o6⟩=>⟨g,q,e,⟨Nat.le_trans hl o1,o2,o3⟩,o4,fun i hi=>⟨⟨Nat.le_trans hl (o5 i hi).1.1,(o5 i hi).1.2⟩,(o5 i hi).2⟩,o6⟩)⟩
def zL3 (w:World)(lo:Nat)(k r:Kp):Prop :=
 (r.z=k.z∧r.x=k.x∧r.y=k.y)∧r.fn=k.fn∧r.m=k.m∧r.I=k.I∧∃ md,lo≤md∧md≤w.heap.size∧uT w lo md r.fa k.fn k.F r.F∧w.ownsRow md 2 1 (.slice r.ia k.m r.ic) k.m ((List.range k.m).map (fun i=>.int .i64 (k.I i)))
def CkS (W:World)(q:Nat)(k:Kp):Prop:=W.cell? ⟨q,0,none⟩=some (.int .i64 k.z)∧W.cell? ⟨q,1,none⟩=some (.int .i64 k.x)∧W.cell? ⟨q,2,none⟩=some (.int .i64 k.y)∧W.cell? ⟨q,3,none⟩=some (.slice k.fa k.fn k.fc)∧W.cell? ⟨q,4,none⟩=some (.slice k.ia k.m k.ic)
theorem CkS.below {w w':World}{q:Nat}{k:Kp}(h:CkS w q k)(hb:Below w.heap.size w w'):CkS w' q k :=
 have hl:=World.block_lt_of_cell? _ _ h.1
 ⟨(hb.cell (p:=⟨q,0,none⟩) hl).trans h.1,(hb.cell (p:=⟨q,1,none⟩) hl).trans h.2.1,(hb.cell (p:=⟨q,2,none⟩) hl).trans h.2.2.1,(hb.cell (p:=⟨q,3,none⟩) hl).trans h.2.2.2.1,(hb.cell (p:=⟨q,4,none⟩) hl).trans h.2.2.2.2⟩
theorem resCK {T:Array Value}{Wf:World}{r:Nat}{z x y:Int}{u v:Value}(hT:T[2]?.getD undef=.pointer (some ⟨r,0,none⟩))(h0:Wf.cell? ⟨r,0,none⟩=some (.int .i64 z))(h1:Wf.cell? ⟨r,1,none⟩=some (.int .i64 x))(h2:Wf.cell? ⟨r,2,none⟩=some (.int .i64 y))(h3:Wf.cell? ⟨r,3,none⟩=some u)(h4:Wf.cell? ⟨r,4,none⟩=some v) :
  (results Tryz.f136 T).run Tryz.prog Wf=.ok (.agg #[.int .i64 z,.int .i64 x,.int .i64 y,u,v]) Wf:=by
 simp [results,Tryz.results136,go_sem,hT,h0,h1,h2,h3,h4]
theorem zGb (k:Kp)(fb ib io:Nat)(w:World)(hf:k.fa=some ⟨fb,0,none⟩)(hft:zJh w fb 0 k.fn k.F)(hfl:fb<w.heap.size)(hn:k.fn≤12)(hpos:∀ i,i<k.fn→0<(k.F i).n)(hs:zEe k)(hi:k.ia=some ⟨ib,io,none⟩)(hin:uC w ib io k.m k.I)(hil:ib<w.heap.size) :
  Calls Tryz.prog 136 #[kpV k] w fun e w'=>∃ r,e=.returned (kpV r)∧zL3 w' w.heap.size k r∧Bw w w':=by
 have HCf:Hid (∀ W,Bw w W→Calls Tryz.prog 180 #[.slice k.fa k.fn k.fc] W fun e w'=>∃ a c H,e=.returned (.slice a k.fn c)∧uT w' W.heap.size w'.heap.size a k.fn k.F H∧Bw W w'):=fun W h=>by
  rw [hf]
  refine (zBx fb k.fn k.fc k.F W (hft.below h hfl) (Nat.lt_of_lt_of_le hfl h.size) hn hpos hs.1).mono ?_
  rintro e w' ⟨v,H,rfl,h1,h2,h3⟩
  obtain ⟨a,c,rfl,_,h4⟩:=zKi h1 h2 hpos
  exact ⟨a,c,H,rfl,h4,h3⟩
 have HCl:Hid (∀ W,Bw w W→Calls Tryz.prog 181 #[.slice k.ia k.m k.ic] W fun e w'=>∃ a c,e=.returned (.slice a k.m c)∧w'.ownsRow W.heap.size 2 1 (.slice a k.m c) k.m ((List.range k.m).map (fun i=>.int .i64 (k.I i)))∧Bw W w'):=fun W h=>by
  rw [hi]
  exact zI5 ib io k.m k.ic k.I W (hin.below h hil) (Nat.lt_of_lt_of_le hil h.size) hs.2
 clear hf hft hfl hn hpos hs hi hin hil
 go_enter Tryz.func136,Tryz.ntmps136
 go_wp2_with fail
 generalize hW:((w.alloc _).alloc _:World)=W
 have HB0:Hid (Bw w W):=by show Below _ _ _;subst hW;exact Qb
 have HS:Hid (CkS W w.heap.size k):=by show CkS _ _ _;subst hW;refine ⟨?_,?_,?_,?_,?_⟩ <;> simp [go_sem]
 have HT:Hid (zC W (w.heap.size+1) 5):=by
  show zC _ _ _
  subst hW
  have:=there5k (w.alloc (.cells #[.int .i64 k.z,.int .i64 k.x,.int .i64 k.y,.slice k.fa k.fn k.fc,.slice k.ia k.m k.ic] 141)) (.int .i64 0) (.int .i64 0) (.int .i64 0) (.slice none 0 0) (.slice none 0 0) 141
  simpa using this
 have hsz:w.heap.size+1<W.heap.size:=by subst hW;simp
 clear hW
 refine wp_region_noPanic ?_
 refine wp_region_held_drew (S:=fun W'=>CkS W' w.heap.size k) (by kernel_rfl) HS.out (fun hHeld=>?_)
 have hSd:CkS W.drew w.heap.size k:=HS.out
 refine zL (i:=0) (d:=some 3) (v:=?va0) rfl rfl (Or.inl ⟨by rfl,?hya0⟩) (by assumption) ?_
 case hya0=>(intro w hSw;obtain ⟨k0,k1,k2,k3,k4⟩:=(show CkS w _ k from hSw);go_simp <;> with_reducible rfl)
 try simp only [Act.put,Qx,Qy,Qz]
 refine zL (i:=1) (d:=some 4) (v:=?va1) rfl rfl (Or.inl ⟨by rfl,?hya1⟩) (by assumption) ?_
 case hya1=>(intro w hSw;obtain ⟨k0,k1,k2,k3,k4⟩:=(show CkS w _ k from hSw);go_simp <;> with_reducible rfl)
 try simp only [Act.put,Qx,Qy,Qz]
 refine zL (i:=2) (d:=some 5) (v:=?va2) rfl rfl (Or.inl ⟨by rfl,?hya2⟩) (by assumption) ?_
 case hya2=>(intro w hSw;obtain ⟨k0,k1,k2,k3,k4⟩:=(show CkS w _ k from hSw);go_simp <;> with_reducible rfl)
 try simp only [Act.put,Qx,Qy,Qz]
 refine zL (i:=3) (d:=some 6) (v:=?va3) rfl rfl (Or.inl ⟨by rfl,?hya3⟩) (by assumption) ?_
 case hya3=>(intro w hSw;obtain ⟨k0,k1,k2,k3,k4⟩:=(show CkS w _ k from hSw);go_simp <;> with_reducible rfl)
 try simp only [Act.put,Qx,Qy,Qz]
 refine zL (i:=4) (d:=some 7) (v:=?va4) rfl rfl (Or.inl ⟨by rfl,?hya4⟩) (by assumption) ?_
 case hya4=>(intro w hSw;obtain ⟨k0,k1,k2,k3,k4⟩:=(show CkS w _ k from hSw);go_simp <;> with_reducible rfl)
 try simp only [Act.put,Qx,Qy,Qz]
 refine zL (i:=5) (d:=some 8) (v:=?va5) rfl rfl (Or.inl ⟨by rfl,?hya5⟩) (by assumption) ?_
 case hya5=>(intro w hSw;obtain ⟨k0,k1,k2,k3,k4⟩:=(show CkS w _ k from hSw);go_simp <;> with_reducible rfl)
 try simp only [Act.put,Qx,Qy,Qz]
 refine zL (i:=8) (d:=some 11) (v:=?va8) rfl rfl (Or.inl ⟨by rfl,?hya8⟩) (by assumption) ?_
 case hya8=>(intro w hSw;obtain ⟨k0,k1,k2,k3,k4⟩:=(show CkS w _ k from hSw);go_simp <;> with_reducible rfl)
 try simp only [Act.put,Qx,Qy,Qz]
 refine zL (i:=9) (d:=some 12) (v:=?va9) rfl rfl (Or.inl ⟨by rfl,?hya9⟩) (by assumption) ?_
 case hya9=>(intro w hSw;obtain ⟨k0,k1,k2,k3,k4⟩:=(show CkS w _ k from hSw);go_simp <;> with_reducible rfl)
 try simp only [Act.put,Qx,Qy,Qz]
 have hD0:Bw W W.drew:=by have:=Below.refl W.heap.size W;exact Qb
 generalize W.drew=wk0 at *
 refine zN 6 fun K hK=>?_
 rw [if_pos (by rfl)]
 go_simp
 refine Calls.mono (HCf.out _ (zB HB0.out hD0)) ?_
 rintro e wk1 ⟨ra,rc,RF,rfl,hF1,hb1⟩
 have hS1:CkS wk1 w.heap.size k:=hSd.below hb1
 have HD1:Hid (Bw W wk1):=zB hD0 hb1
 have HF1:Hid (uT wk1 wk0.heap.size wk1.heap.size ra k.fn k.F RF):=hF1
 have hz0:=hD0.size
 clear hF1 hSd
 go_wp2_with fail
 refine hK.out _ _ (by assumption) (fun hHeld=>?_)
 clear hK K
 try simp only [Act.put,Qx,Qy,Qz]
 refine zL (i:=7) (d:=some 10) (v:=?vb7) rfl rfl (Or.inl ⟨by rfl,?hyb7⟩) (by assumption) ?_
 case hyb7=>(intro w hSw;skip;go_simp <;> with_reducible rfl)
 try simp only [Act.put,Qx,Qy,Qz]
 refine zN 10 fun K hK=>?_
 rw [if_pos (by rfl)]
 go_simp
 refine Calls.mono (HCl.out _ (zB HB0.out HD1.out)) ?_
 rintro e wk2 ⟨na,nc,rfl,hN2,hb2⟩
 have hS2:CkS wk2 w.heap.size k:=hS1.below hb2
 have HD2:Hid (Bw W wk2):=zB HD1.out hb2
 have HF2:Hid (uT wk2 wk0.heap.size wk1.heap.size ra k.fn k.F RF):=HF1.out.keep hb2
 have hz2:=hb2.size
 have HN2:Hid (wk2.ownsRow wk1.heap.size 2 1 (.slice na k.m nc) k.m ((List.range k.m).map (fun i=>.int .i64 (k.I i)))):=hN2
 have hz1:=hb1.size
 clear hN2 hS1 HF1
 go_wp2_with fail
 refine hK.out _ _ (by assumption) (fun hHeld=>?_)
 clear hK K
 try simp only [Act.put,Qx,Qy,Qz]
 refine zL (i:=11) (d:=some 14) (v:=?vc11) rfl rfl (Or.inl ⟨by rfl,?hyc11⟩) (by assumption) ?_
 case hyc11=>(intro w hSw;skip;go_simp <;> with_reducible rfl)
 try simp only [Act.put,Qx,Qy,Qz]
 have hT2:=HT.out.below HD2.out
 have HT2:Hid (zC wk2 (w.heap.size+1) 5):=hT2
 have t0:=hT2.cell 0 (by omega)
 have t1:=hT2.cell 1 (by omega)
 have t2:=hT2.cell 2 (by omega)
 have t3:=hT2.cell 3 (by omega)
 have t4:=hT2.cell 4 (by omega)
 have f0:=(hT2 0 (by omega)).2
 have f1:=(hT2 1 (by omega)).2
 have f2:=(hT2 2 (by omega)).2
 have f3:=(hT2 3 (by omega)).2
 have f4:=(hT2 4 (by omega)).2
 refine zN 12 fun K hK=>?_
 rw [if_pos (by rfl)]
 go_simp
 generalize hwF:(World.setCell _ _ _:World)=wF
 have HL:Hid (wF=zKc wk2 (w.heap.size+1) 0 ⟨k.z,k.x,k.y,ra,k.fn,rc,RF,na,k.m,nc,k.I⟩):=by show _=_;subst hwF;rfl
 have hM:zI (w.heap.size+1) (w.heap.size+1+1) wk2 wF:=by rw [HL.out];exact zHz _ _ _ _
 have hSF:CkS wF w.heap.size k:=by
  obtain ⟨a0,a1,a2,a3,a4⟩:=hS2
  exact ⟨hM.cell a0 (.inl (by omega)),hM.cell a1 (.inl (by omega)),hM.cell a2 (.inl (by omega)),hM.cell a3 (.inl (by omega)),hM.cell a4 (.inl (by omega))⟩
 refine hK.out _ _ hSF (fun hHeld=>?_)
 clear hK K
 try simp only [Act.put,Qx,Qy,Qz]
 refine wpAnyH_done (by kernel_rfl) ?_ _
 refine NoPanic.normal ?_
 have hAt:zHn wF (w.heap.size+1) 0 ⟨k.z,k.x,k.y,ra,k.fn,rc,RF,na,k.m,nc,k.I⟩:=by rw [HL.out];exact zKb HT2.out (by omega)
 obtain ⟨q0,q1,q2,q3,q4⟩:=hAt
 simp only [Nat.zero_add] at q0 q1 q2 q3 q4
 have HQ:Hid (wF.cell? ⟨w.heap.size+1,0,none⟩=some (.int .i64 k.z)∧wF.cell? ⟨w.heap.size+1,1,none⟩=some (.int .i64 k.x)∧wF.cell? ⟨w.heap.size+1,2,none⟩=some (.int .i64 k.y)∧wF.cell? ⟨w.heap.size+1,3,none⟩=some (.slice ra k.fn rc)∧wF.cell? ⟨w.heap.size+1,4,none⟩=some (.slice na k.m nc)):=⟨q0,q1,q2,q3,q4⟩
 have hs2:=HD2.out.size
 have HFin:Hid (zL3 wF w.heap.size k ⟨k.z,k.x,k.y,ra,k.fn,rc,RF,na,k.m,nc,k.I⟩∧Bw w wF):=by
  have hszF:=hM.size
  refine ⟨⟨⟨rfl,rfl,rfl⟩,rfl,rfl,rfl,wk1.heap.size,by omega,by omega,(HF2.out.mid' hM (by omega)).wide (by omega),?_⟩,(zB HB0.out HD2.out).trans (hM.below (by omega) |>.mono (by omega))⟩
  exact HN2.out.midK hM (by omega)
 clear hwF HL hM hSF q0 q1 q2 q3 q4 hS2 hT2 HT2 t0 f0 t1 f1 t2 f2 t3 f3 t4 f4
 go_wp2_with fail
 refine bodyPost_ret (resCK rfl HQ.out.1 HQ.out.2.1 HQ.out.2.2.1 HQ.out.2.2.2.1 HQ.out.2.2.2.2) rfl ⟨_,rfl,HFin.out⟩
def zK4 (W:World)(p q mb:Nat)(z x y:Int):Prop:=W.cell? ⟨p,2,none⟩=some (.map (some mb))∧W.cell? ⟨q,0,none⟩=some (.int .i64 z)∧W.cell? ⟨q,1,none⟩=some (.int .i64 x)∧W.cell? ⟨q,2,none⟩=some (.int .i64 y)
theorem zI3 (z x y:Int)(fa:Option Addr)(fn fc:Nat)(ia:Option Addr)(m ic:Nat)(t:Int)(w:World):(Instr.field 181 (agV z x y fa fn fc ia m ic t) 0).run Tryz.prog w=.ok (.agg #[.int .i64 z,.int .i64 x,.int .i64 y,.slice fa fn fc,.slice ia m ic]) w:=by kernel_rfl
theorem zKy (p mb:Nat)(s t:Int)(L:List Ag)(a:Ag)(w:World)(h:ShM w p s t mb L)(ha:a ∈ L)(ht:∀ b ∈ L,b.t≤t)(hL:L.length≤100)(ht0:0≤t)(ht1:t<900)(hs:0≤s) :
  Calls Tryz.prog 82 #[.pointer (some ⟨p,0,none⟩),xK a.z a.x a.y] w fun e w'=>e=.returned (.tuple #[])∧ShM w' p s (t+1) mb (zLh s L { a with t:=t+1 })∧(∀ B,B≤p→B≤mb→Below B w w')∧∀ q,q<w.heap.size→q≠p→q≠mb→w'.heap[q]?=w.heap[q]?:=by
 have HM:Hid (ShM w p s t mb L):=h
 obtain ⟨h3,h4,D,h5,h6⟩:=h
 have hIa:=h6.ints a ha
 have hpl:p<w.heap.size:=World.block_lt_of_cell? _ _ h3.1
 have hml:mb<w.heap.size:=h5.lt
 have HPut:Hid (∀ W',Bw w W'→Calls Tryz.prog 124 #[.pointer (some ⟨p,0,none⟩),.agg #[.int .i64 a.z,.int .i64 a.x,.int .i64 a.y,.slice a.fa a.fn a.fc,.slice a.ia a.m a.ic]] W' fun e w'=>e=.returned (.tuple #[])∧ShM w' p s (t+1) mb (zLh s L { a with t:=t+1 })∧(∀ B,B≤p→B≤mb→Below B W' w')∧∀ q,q<W'.heap.size→q≠p→q≠mb→w'.heap[q]?=W'.heap[q]?):=fun W' hb =>
  ShM_put p mb s t L ⟨a.z,a.x,a.y,a.fa,a.fn,a.fc,fun _=>⟨0,0,0,0,none,0,0,fun _=>0,fun _=>0,⟨#[]⟩,0⟩,a.ia,a.m,a.ic,fun _=>0⟩ W' ⟨h3.below hb,h4.below hb,D,zW h5 hb,h6⟩ hIa ht hL ht0 ht1 hs
 have HLk:Hid (∀ W,Bw w W→(Instr.lookup 171 (.map (some mb)) (xK a.z a.x a.y) false).run Tryz.prog W=.ok (agW a) W):=fun W hW=>by
  obtain ⟨v,ps,hr,hv⟩:=(zW h5 hW).lookup xH Tryz.underlying171 (zFg _) (zL1 0 0 0 none 0 0 none 0 0 0) (uY hIa.1 hIa.2.1 hIa.2.2)
  rw [h6.at_ a ha] at hv
  obtain ⟨e,_⟩:=zIa hv
  injection e with e
  rw [e]
  exact hr
 have hfd:=fun w=>zI3 a.z a.x a.y a.fa a.fn a.fc a.ia a.m a.ic a.t w
 have HA:Hid (ShA w p s t mb):=h3
 clear h3 h4 h5 h6 HM hIa ht ha
 go_enter Tryz.func82,Tryz.ntmps82
 go_wp2_with fail
 generalize hW:(w.alloc _:World)=W
 have HB0:Hid (Bw w W):=by show Below _ _ _;subst hW;exact Qb
 have HR:Hid (RK W w.heap.size a.z a.x a.y):=by show RK _ _ _ _ _;subst hW;refine ⟨?_,?_,?_⟩ <;> simp [go_sem]
 clear hW
 have HS:Hid (zK4 W p w.heap.size mb a.z a.x a.y):=⟨(HA.out.below HB0.out).2.2,HR.out.1,HR.out.2.1,HR.out.2.2⟩
 have hql:w.heap.size<W.heap.size:=World.block_lt_of_cell? _ _ HR.out.1
 refine wp_region_noPanic ?_
 refine wp_region_held_drew (S:=fun W'=>zK4 W' p w.heap.size mb a.z a.x a.y) (by kernel_rfl) HS.out (fun hHeld=>?_)
 have hSd:zK4 W.drew p w.heap.size mb a.z a.x a.y:=HS.out
 refine zL (i:=0) (d:=some 4) (v:=?va0) rfl rfl (Or.inl ⟨by rfl,?hya0⟩) (by assumption) ?_
 case hya0=>(intro w hSw;obtain ⟨k0,k1,k2,k3⟩:=(show zK4 w p _ mb _ _ _ from hSw);go_simp <;> with_reducible rfl)
 try simp only [Act.put,Qx,Qy,Qz]
 refine zL (i:=1) (d:=some 5) (v:=?va1) rfl rfl (Or.inl ⟨by rfl,?hya1⟩) (by assumption) ?_
 case hya1=>(intro w hSw;obtain ⟨k0,k1,k2,k3⟩:=(show zK4 w p _ mb _ _ _ from hSw);go_simp <;> with_reducible rfl)
 try simp only [Act.put,Qx,Qy,Qz]
 refine zL (i:=2) (d:=some 6) (v:=?va2) rfl rfl (Or.inl ⟨by rfl,?hya2⟩) (by assumption) ?_
 case hya2=>(intro w hSw;obtain ⟨k0,k1,k2,k3⟩:=(show zK4 w p _ mb _ _ _ from hSw);go_simp <;> with_reducible rfl)
 try simp only [Act.put,Qx,Qy,Qz]
 refine zL (i:=3) (d:=some 7) (v:=?va3) rfl rfl (Or.inl ⟨by rfl,?hya3⟩) (by assumption) ?_
 case hya3=>(intro w hSw;obtain ⟨k0,k1,k2,k3⟩:=(show zK4 w p _ mb _ _ _ from hSw);go_simp <;> with_reducible rfl)
 try simp only [Act.put,Qx,Qy,Qz]
 refine zL (i:=4) (d:=some 8) (v:=?va4) rfl rfl (Or.inl ⟨by rfl,?hya4⟩) (by assumption) ?_
 case hya4=>(intro w hSw;obtain ⟨k0,k1,k2,k3⟩:=(show zK4 w p _ mb _ _ _ from hSw);go_simp <;> with_reducible rfl)
 try simp only [Act.put,Qx,Qy,Qz]
 refine zL (i:=5) (d:=some 9) (v:=?va5) rfl rfl (Or.inl ⟨by rfl,?hya5⟩) (by assumption) ?_
 case hya5=>(intro w hSw;obtain ⟨k0,k1,k2,k3⟩:=(show zK4 w p _ mb _ _ _ from hSw);go_simp <;> with_reducible rfl)
 try simp only [Act.put,Qx,Qy,Qz]
 have hD0:Bw W W.drew:=by have:=Below.refl W.heap.size W;exact Qb
 generalize W.drew=wk0 at *
 have hlk:=HLk.out wk0 (zB HB0.out hD0)
 refine zN 6 fun K hK=>?_
 rw [if_pos (by rfl)]
 go_simp
 refine hK.out _ _ hSd (fun hHeld=>?_)
 clear hK K hlk
 try simp only [Act.put,Qx,Qy,Qz]
 refine zL (i:=7) (d:=some 11) (v:=?vb7) rfl rfl (Or.inl ⟨by rfl,?hyb7⟩) (by assumption) ?_
 case hyb7=>(intro w hSw;skip;go_simp <;> with_reducible rfl)
 try simp only [Act.put,Qx,Qy,Qz]
 refine zN 8 fun K hK=>?_
 rw [if_pos (by rfl)]
 go_simp
 refine Calls.mono (HPut.out _ (zB HB0.out hD0)) ?_
 rintro e wk1 ⟨rfl,g1,g2,g3⟩
 have hz0:=hD0.size
 have hS1:zK4 wk1 p w.heap.size mb a.z a.x a.y:=by
  obtain ⟨k0,k1,k2,k3⟩:=hSd
  have hq:=g3 w.heap.size (by omega) (by omega) (by omega)
  exact ⟨g1.1.2.2,(World.cell?_of_block (w:=wk0) (a:=⟨w.heap.size,0,none⟩) hq).trans k1,(World.cell?_of_block (w:=wk0) (a:=⟨w.heap.size,1,none⟩) hq).trans k2,(World.cell?_of_block (w:=wk0) (a:=⟨w.heap.size,2,none⟩) hq).trans k3⟩
 have HF:Hid (ShM wk1 p s (t+1) mb (zLh s L { a with t:=t+1 })∧(∀ B,B≤p→B≤mb→Below B w wk1)∧∀ q,q<w.heap.size→q≠p→q≠mb→wk1.heap[q]?=w.heap[q]?):=⟨g1,fun B b1 b2=>((zB HB0.out hD0).mono (by omega)).trans (g2 B b1 b2),fun q q1 q2 q3=>(g3 q (by omega) q2 q3).trans ((zB HB0.out hD0).block q q1)⟩
 clear g1 g2 g3
 go_wp2_with fail
 refine hK.out _ _ hS1 (fun hHeld=>?_)
 clear hK K
 try simp only [Act.put,Qx,Qy,Qz]
 refine wpAnyH_done (by kernel_rfl) ?_ _
 refine NoPanic.normal ?_
 clear hS1 hSd
 go_wp2_with fail
 refine bodyPost_end (v:=.tuple #[]) (by simp [results,Tryz.results82,go_sem]) rfl ?_
 exact ⟨rfl,HF.out⟩
end Go.Proofs.YtpaiholildedcaaGreat
