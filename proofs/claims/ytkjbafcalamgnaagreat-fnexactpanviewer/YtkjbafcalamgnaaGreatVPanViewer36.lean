/- Texts. -/
import Derived.Test.YtkjbafcalamgnaaGreatVPanViewer34
import Derived.Test.YtkjbafcalamgnaaGreatVPanViewer35
set_option linter.unusedSimpArgs false
set_option linter.unusedVariables false
set_option maxRecDepth 100000
set_option maxHeartbeats 32000000
namespace Go.Proofs.YtkjbafcalamgnaaGreat
open Go.RowKit
end Go.Proofs.YtkjbafcalamgnaaGreat
namespace Go.Proofs.YtkjbafcalamgnaaGreat
open Go.RowKit Go.Sort Go.Shelf
def zX0 (f g:Ag):Int:=zUt f.t g.t
theorem zGb (e:Ag):(zFv e).length=6:=rfl
theorem zXf (e:Ag):∀ v ∈ zFv e,v.oneCell'=true:=by simp [zFv,Value.oneCell']
def AgAt (w:World)(p o:Nat)(a:Ag):Prop:=w.cell? ⟨p,o,none⟩=some (.int .i64 a.z)∧w.cell? ⟨p,o+1,none⟩=some (.int .i64 a.x)∧w.cell? ⟨p,o+2,none⟩=some (.int .i64 a.y)∧w.cell? ⟨p,o+3,none⟩=some (.slice a.fa a.fn a.fc)∧w.cell? ⟨p,o+4,none⟩=some (.slice a.ia a.m a.ic)∧w.cell? ⟨p,o+5,none⟩=some (.int .i64 a.t)
theorem zFr (f g:Ag)(w:World):Calls Tryz.prog 201 #[.agg (zFv f).toArray,.agg (zFv g).toArray] w fun e w'=>e=.returned (.int .i64 (zX0 f g))∧Gro w w':=by
 have H1:Hid (∀ W,Calls Tryz.prog 228 #[.int .i64 f.t,.int .i64 g.t] W fun e w'=>e=.returned (.int .i64 (zX0 f g))∧w'=W):=fun W=>zAr _ _ _
 generalize zX0 f g=A at *
 unfold zFv
 go_enter Tryz.func201,Tryz.ntmps201
 go_wp2_with fail
 generalize hV:((w.alloc _).alloc _:World)=V
 have hB0:Gro w V:=by subst hV;exact ((Gro.refl _).alloc _).alloc _
 clear hV
 refine (H1.out _).mono ?_
 rintro e w1 ⟨rfl,rfl⟩
 go_wp2
 go_ret
 exact ⟨rfl,hB0⟩
theorem zFs (f g:Ag)(w:World):Calls Tryz.prog 201 #[.agg (zFv f).toArray,.agg (zFv g).toArray] w fun e w'=>e=.returned (.int .i64 (zX0 f g))∧∃ q os',w'=grow (w.drewN q) os' :=
 (zFr f g w).mono fun e w' ⟨he,hg⟩=>⟨he,hg.grow⟩
def ARow (base:Nat)(w:World)(v:Value)(E:Nat→Ag)(n:Nat):Prop:=w.ownsRow base 223 6 v n (zFu ((List.range n).map E))
theorem zJp (e:Ag)(l:List Ag):zFu (e :: l)=zFv e ++ zFu l:=rfl
theorem zNp:∀ (l:List Ag) (i k:Nat) (e:Ag),l[i]?=some e→k<6→(zFu l)[i * 6+k]?=(zFv e)[k]?
 | [],i,k,e,h,_=>by simp at h
 | a :: l,0,k,e,h,hk=>by
  simp at h
  subst h
  rw [zJp,Nat.zero_mul,Nat.zero_add,List.getElem?_append_left (by rw [zGb];exact hk)]
 | a :: l,i+1,k,e,h,hk=>by
  have h':l[i]?=some e:=by simpa using h
  rw [zJp,List.getElem?_append_right (by rw [zGb];omega),zGb,← zNp l i k e h' hk]
  congr 1
  omega
theorem zSk (E:Nat→Ag)(n i k:Nat)(hi:i<n)(hk:k<6):(zFu ((List.range n).map E))[i * 6+k]?=(zFv (E i))[k]? :=
 zNp _ i k _ (by simp [hi]) hk
theorem zKi (H:Nat→Ag)(i j:Nat):ltOf (fun i j=>zX0 (H i) (H j)) i j=ltK (fun _=>0) (fun i=>(H i).t) i j:=by
 show decide (zUt (H i).t (H j).t<0)=(decide ((0:Int)<0) || (decide ((0:Int)=0) && decide ((H i).t<(H j).t)))
 simp [cmpI_lt]
theorem zVr (H:Nat→Ag):SWO (ltOf (fun i j=>zX0 (H i) (H j))) where
 irrefl x:=by rw [zKi,zTx];omega
 trans x y z h1 h2:=by rw [zKi,zTy] at *;omega
 ntrans x y z h1 h2:=by rw [zKi,zTx] at *;omega
theorem zUs (H:Nat→Ag)(blk off size:Nat)(w:World):CmpLays Tryz.prog 201 #[] (fun i=>zFv (H i)) 6 (fun i j=>zX0 (H i) (H j)) blk off size w :=
 fun _ _ _ _ x y=>zFs (H x) (H y) _
theorem holds_A {base:Nat}{w:World}{v:Value}{H:Nat→Ag}{n g c:Nat}(h:ARow base w v H n)(hv:v=.slice (some ⟨g,0,none⟩) n c):HoldsK (fun i=>zFv (H i)) 6 w g 0 (Array.range n):=by
 subst hv
 have hrow:w.ownsRow base 223 6 (.slice (some ⟨g,0,none⟩) n c) n (zFu ((List.range n).map H)):=h
 intro t ht
 rw [size_flatK,Array.size_range] at ht
 rw [get_flatK _ _ _ _ (by rw [Array.size_range];exact ht),Nat.zero_add]
 refine ⟨?_,hrow.frozenAt t⟩
 have hi:t / 6<n:=by omega
 have hk:t % 6<6:=by omega
 have e:=zSk H n (t / 6) (t % 6) hi hk
 have et:t / 6 * 6+t % 6=t:=by omega
 rw [et] at e
 rw [hrow.cellAt t ht,e]
 have ea:(Array.range n)[t / 6]! = t / 6:=by simp [hi]
 rw [ea]
 show (zFv (H (t / 6)))[t % 6]?=some (zFv (H (t / 6)))[t % 6]!
 have hl:t % 6<(zFv (H (t / 6))).length:=by rw [zGb];exact hk
 rw [List.getElem?_eq_getElem hl,getElem!_pos (zFv (H (t / 6))) (t % 6) hl]
theorem at_A {w:World}{H:Nat→Ag}{g:Nat}{d:Array Nat}(h:HoldsK (fun i=>zFv (H i)) 6 w g 0 d){i:Nat}(hi:i<d.size):AgAt w g (i * 6) (H d[i]!):=by
 have c:=fun k (hk:k<6)=>(h.cell hi hk).1
 simp only [Nat.zero_add] at c
 exact ⟨c 0 (by omega),c 1 (by omega),c 2 (by omega),c 3 (by omega),c 4 (by omega),c 5 (by omega)⟩
theorem there_A {w:World}{H:Nat→Ag}{g:Nat}{d:Array Nat}(h:HoldsK (fun i=>zFv (H i)) 6 w g 0 d):zC w g (d.size * 6):=fun o ho=>by
 have:=h.cell (i:=o / 6) (c:=o % 6) (by omega) (by omega)
 have e:0+o / 6 * 6+o % 6=o:=by omega
 rw [e] at this
 exact ⟨⟨_,this.1⟩,this.2⟩
theorem zTb (n base:Nat)(v:Value)(H:Nat→Ag)(w:World)(hR:ARow base w v H n)(hn:n≤1048576) :
  Calls Tryz.prog 226 #[v,.func (.func 201) #[] #[]] w fun e w'=>e=.returned (.tuple #[]) ∧
   ((n=0∧w'=w)∨∃ (g c:Nat) (l:List Nat),v=.slice (some ⟨g,0,none⟩) n c∧base≤g∧g<w.heap.size∧l.Perm (List.range n)∧l.Pairwise (fun a b=>ltK (fun _=>0) (fun i=>(H i).t) b a=false)∧w.grownBy w' (some g)∧zC w' g (n * 6)∧n≤c ∧
    ∀ i,i<n→AgAt w' g (i * 6) (H (l.getD i 0))):=by
 obtain ⟨h1,h2 | ⟨g,c,cur,hv,hg,hh,hkc,hcm,hcs,htk⟩⟩:=id hR
 ·obtain ⟨hv,hn0⟩:=h2
  subst hv
  have hcon:=AnyF.slices_SortFunc_none Tryz.sortA none 0 (.func (.func 201) #[] #[]) w
  exact hcon.mono fun e w' ⟨he,hw⟩=>⟨he,.inl ⟨hn0,hw⟩⟩
 ·have hgl:g<w.heap.size:=by
   rcases Nat.lt_or_ge g w.heap.size with h' | h'
   ·exact h'
   ·rw [Array.getElem?_eq_none h'] at hh;cases hh
  have eg:∀ args w,(callFunc 201 args).run Tryz.prog w=.ok (.enter 201 args) w:=enters_of Tryz.func201 (by kernel_rfl) rfl
  have hH:=holds_A hR hv
  have hcon:=AnyQ.slices_SortFunc Tryz.sortA 6 Tryz.isAgg223 Tryz.sizeOf223 (fun i=>zFv (H i)) (fun _=>rfl) (fun i=>zXf (H i)) (fun i j=>zX0 (H i) (H j)) (zVr H) 201 #[] g 0 c (Array.range n) w eg (zUs H g 0 _ w) hH hgl (by rw [Array.size_range];omega)
  rw [Array.size_range] at hcon
  subst hv
  refine Calls.mono (show Calls Tryz.prog 226 _ _ _ from hcon) ?_
  rintro e w' ⟨he,d',m,os,hp,hs,rfl⟩
  obtain ⟨hp1,hp2,hp3⟩:=hp
  rw [Array.size_range] at hp1
  have hH':=holdsK_sortWorldK_c (fun i=>zFv (H i)) 6 w g 0 (Array.range n) d' m os hH hgl (by rw [hp1,Array.size_range])
  have hget:∀ i,i<n→d'[i]! = d'.toList.getD i 0:=fun i hi=>by
   rw [List.getD_eq_getElem?_getD,Array.getElem?_toList,getElem!_pos d' i (by omega),Array.getElem?_eq_getElem (by omega)]
   rfl
  refine ⟨he,.inr ⟨g,c,d'.toList,rfl,hg,hgl,?_,?_,zO6 _ _ _ _ _ _ _ _,?_,hkc,fun i hi=>?_⟩⟩
  ·have h3:d'.extract 0 n=d':=by rw [← hp1];exact Array.extract_size
   have h4:(Array.range n).extract 0 n=Array.range n:=by
    have:=Array.extract_size (xs:=Array.range n)
    rw [Array.size_range] at this
    exact this
   rw [h3,h4] at hp3
   simpa using hp3
  ·rw [List.pairwise_iff_getElem]
   intro i j hi hj hij
   have hi':i<d'.size:=by simpa using hi
   have hj':j<d'.size:=by simpa using hj
   have:=hs i j (Nat.zero_le _) hij (by omega)
   rw [zKi,getElem!_pos d' i hi',getElem!_pos d' j hj'] at this
   simpa using this
  ·have:=there_A hH'
   rw [hp1] at this
   exact this
  ·have:=at_A hH' (i:=i) (by omega)
   rw [hget i hi] at this
   exact this
end Go.Proofs.YtkjbafcalamgnaaGreat
namespace Go.Proofs.YtkjbafcalamgnaaGreat
open Go.RowKit
end Go.Proofs.YtkjbafcalamgnaaGreat
namespace Go.Proofs.YtkjbafcalamgnaaGreat
open Go.RowKit Go.Sort Go.Shelf Go.Maps
abbrev zFm (a:Ag):Lit:=zBo a.z a.x a.y
structure Rep (D:DataW Value) (L:List Ag):Prop where
 tidy:Maps.Tidy D
 size:Maps.size D=L.length
 ints:∀ a ∈ L,I64 a.z∧I64 a.x∧I64 a.y
 has:∀ x,Maps.has D (.string x)=true ↔ ∃ a ∈ L,zFm a=.string x
 at_:∀ a ∈ L,∀ zd,D.atKey (zFm a) zd=.held (agW a)
 keys:L.Pairwise (fun a b=>zFm a≠zFm b)
 turns:L.Pairwise (fun a b=>a.t<b.t)
theorem zWn (a:Ag):∃ x,zFm a=.string x:=⟨_,rfl⟩
theorem Rep.nodup {D:DataW Value}{L:List Ag}(h:Rep D L):L.Nodup:=h.turns.imp (fun hlt e=>by subst e;exact absurd hlt (Int.lt_irrefl _))
theorem Rep.perm {D:DataW Value}{L xs:List Ag}(h:Rep D L)(hx:AllA D xs):xs.Perm L:=by
 obtain ⟨ps,⟨hn,hm,ha⟩,rfl⟩:=hx
 have hkey:∀ p ∈ ps,∃ a ∈ L,zFm a=.string p.1∧p.2=a:=fun p hp=>by
  obtain ⟨a,haL,hk⟩:=(h.has p.1).1 ((hm p.1).1 (List.mem_map_of_mem hp))
  refine ⟨a,haL,hk,?_⟩
  have e1:=ha p hp (.held (agW a))
  have e2:=h.at_ a haL (.held (agW a))
  rw [hk] at e2
  rw [e1] at e2
  injection e2 with e2
  exact agW_inj e2
 have hnx:(ps.map (·.2)).Nodup:=by
  rw [List.Nodup,List.pairwise_map]
  have hn':ps.Pairwise (fun p q=>p.1≠q.1):=by
   have:=hn
   rw [List.Nodup,List.pairwise_map] at this
   exact this
  refine List.Pairwise.imp_of_mem ?_ hn'
  intro p q hp hq hne e
  obtain ⟨a,_,hk,e1⟩:=hkey p hp
  obtain ⟨b,_,hk',e2⟩:=hkey q hq
  rw [e1,e2] at e
  subst e
  rw [hk] at hk'
  injection hk' with hk'
  exact hne hk'
 refine (List.perm_ext_iff_of_nodup hnx h.nodup).2 (fun a=>⟨fun hm'=>?_,fun hL=>?_⟩)
 ·obtain ⟨p,hp,rfl⟩:=List.mem_map.1 hm'
  obtain ⟨b,hb,_,e⟩:=hkey p hp
  rw [e];exact hb
 ·obtain ⟨x,hx⟩:=zWn a
  have h1:=(hm x).2 ((h.has x).2 ⟨a,hL,hx⟩)
  obtain ⟨p,hp,e⟩:=List.mem_map.1 h1
  obtain ⟨b,hb,hk,e2⟩:=hkey p hp
  have hab:a=b:=by
   by_cases hab:a=b
   ·exact hab
   ·exfalso
    have:∀ (l:List Ag),l.Pairwise (fun a b=>zFm a≠zFm b)→∀ a ∈ l,∀ b ∈ l,a≠b→zFm a≠zFm b:=by
     intro l hl
     induction hl with
     | nil=>intro a ha;simp at ha
     | cons hh _ ih =>
      intro a ha b hb hne
      rcases List.mem_cons.1 ha with ha1 | ha1
      ·rcases List.mem_cons.1 hb with hb1 | hb1
       ·exact absurd (ha1.trans hb1.symm) hne
       ·rw [ha1];exact hh b hb1
      ·rcases List.mem_cons.1 hb with hb1 | hb1
       ·rw [hb1];exact fun e=>hh a ha1 e.symm
       ·exact ih a ha1 b hb1 hne
    exact this L h.keys a hL b hb hab (by rw [hx,hk,e])
  exact List.mem_map.2 ⟨p,hp,by rw [e2,hab]⟩
theorem zLx:∀ {L ys:List Ag},ys.Perm L→ys.Pairwise (fun a b=>a.t≤b.t)→L.Pairwise (fun a b=>a.t<b.t)→ys=L
 | [],ys,hp,_,_=>List.perm_nil.1 hp
 | a :: L,[],hp,_,_=>absurd hp.length_eq (by simp)
 | a :: L,y :: ys,hp,hy,hL=>by
  obtain ⟨h1,h2⟩:=List.pairwise_cons.1 hL
  obtain ⟨h3,h4⟩:=List.pairwise_cons.1 hy
  have e:y=a:=by
   have hy':y ∈ a :: L:=hp.subset (List.mem_cons_self)
   have ha':a ∈ y :: ys:=hp.symm.subset (List.mem_cons_self)
   rcases List.mem_cons.1 hy' with e | hyL
   ·exact e
   ·rcases List.mem_cons.1 ha' with e | hay
    ·exact e.symm
    ·have:=h1 y hyL
     have:=h3 a hay
     omega
  subst e
  rw [zLx (List.Perm.cons_inv hp) h4 h2]
def zXl (w:World)(g:Nat)(L:List Ag):Prop:=∀ i a,L[i]?=some a→AgAt w g (i * 6) a
theorem zXl.below {w w':World}{g:Nat}{L:List Ag}(h:zXl w g L)(hg:g<w.heap.size)(hb:Below w.heap.size w w'):zXl w' g L:=fun i a hi=>by
 obtain ⟨h0,h1,h2,h3,h4,h5⟩:=h i a hi
 exact ⟨(hb.cell (p:=⟨g,i * 6,none⟩) hg).trans h0,(hb.cell (p:=⟨g,i * 6+1,none⟩) hg).trans h1,(hb.cell (p:=⟨g,i * 6+2,none⟩) hg).trans h2,(hb.cell (p:=⟨g,i * 6+3,none⟩) hg).trans h3,(hb.cell (p:=⟨g,i * 6+4,none⟩) hg).trans h4,(hb.cell (p:=⟨g,i * 6+5,none⟩) hg).trans h5⟩
def IsAgs (w:World)(v:Value)(L:List Ag):Prop:=(L=[]∧∃ a c,v=.slice a 0 c)∨∃ g c,v=.slice (some ⟨g,0,none⟩) L.length c∧g<w.heap.size∧zXl w g L
theorem zNf (Bm b nn:Nat)(D0:DataW Value)(w:World)(hBm:Bm<w.heap.size)(hm:w.cell? ⟨Bm,0,none⟩=some (.map (some b)))(hown:w.ownsMap Tryz.prog 104 RV b nn D0)(hall:Maps.size D0≤1048576) :
  Calls Tryz.prog 225 #[.func (.func 227) #[] #[.pointer (some ⟨Bm,0,none⟩)]] w fun e w'=>∃ v xs,e=.returned v∧AllA D0 xs∧w'.ownsRow w.heap.size 223 6 v xs.length (zFu xs)∧Bw w w':=by
 have HA:=(show Hid _ from zIn Bm b nn D0 w hBm hm hown hall)
 clear hBm hm hown
 go_enter Tryz.func225,Tryz.ntmps225
 go_wp2_with fail
 refine Calls.mono HA.out ?_
 rintro e w1 ⟨v,xs,rfl,h1,h2,h3⟩
 have H3:Hid (AllA D0 xs∧w1.ownsRow w.heap.size 223 6 v xs.length (zFu xs)∧Bw w w1):=⟨h1,h2,h3⟩
 clear h1 h2 h3
 go_wp2
 go_ret
 exact ⟨v,xs,rfl,H3.out⟩
theorem zOe (Bm b nn:Nat)(D0:DataW Value)(L:List Ag)(w:World)(hBm:Bm<w.heap.size)(hm:w.cell? ⟨Bm,0,none⟩=some (.map (some b)))(hown:w.ownsMap Tryz.prog 104 RV b nn D0)(hR:Rep D0 L)(hall:Maps.size D0≤1048576)(hL:L.length≤1048576) :
  Calls Tryz.prog 199 #[.func (.func 227) #[] #[.pointer (some ⟨Bm,0,none⟩)],.func (.func 201) #[] #[]] w fun e w'=>∃ v,e=.returned v∧IsAgs w' v L∧Bw w w':=by
 have HC:=(show Hid _ from zNf Bm b nn D0 w hBm hm hown hall)
 have HR:Hid (Rep D0 L):=hR
 clear hBm hm hown hR
 go_enter Tryz.func199,Tryz.ntmps199
 go_wp2_with fail
 refine Calls.mono HC.out ?_
 rintro e w1 ⟨v,xs,rfl,h1,h2,h3⟩
 have hp:xs.Perm L:=HR.out.perm h1
 have HP:Hid (xs.Perm L):=hp
 have HB1:Hid (Bw w w1):=h3
 have hxl:xs.length=L.length:=hp.length_eq
 have hE:(List.range xs.length).map (fun i=>xs.getD i ⟨0,0,0,none,0,0,none,0,0,0⟩)=xs:=by
  apply List.ext_getElem
  ·simp
  ·intro i h1 h2
   simp at h1
   simp [List.getD_eq_getElem?_getD,h1]
 have HRow:Hid (ARow w.heap.size w1 v (fun i=>xs.getD i ⟨0,0,0,none,0,0,none,0,0,0⟩) xs.length):=by
  show ARow _ _ _ _ _
  unfold ARow
  rw [hE]
  exact h2
 clear h1 h2 h3 hp hE
 have HS:=(show Hid _ from zTb xs.length w.heap.size v (fun i=>xs.getD i ⟨0,0,0,none,0,0,none,0,0,0⟩) w1 HRow.out (by omega))
 go_wp2_with fail
 refine Calls.mono HS.out ?_
 rintro e w2 ⟨rfl,hres⟩
 have HF:Hid (IsAgs w2 v L∧Bw w w2):=by
  show _∧_
  rcases hres with ⟨h0,rfl⟩ | ⟨g,c,l,hv,hg,hgl,hp,hs,hgr,hT,hc,hF⟩
  ·have hL0:L=[]:=List.length_eq_zero_iff.1 (by omega)
   refine ⟨.inl ⟨hL0,?_⟩,HB1.out⟩
   rcases HRow.out.2 with ⟨e,_⟩ | ⟨g,c,cur,e,hg,hh,h5,h6,h7,h8⟩
   ·exact ⟨_,_,e⟩
   ·exact ⟨_,_,by rw [e,h0]⟩
  ·have hys:(l.map (fun i=>xs.getD i ⟨0,0,0,none,0,0,none,0,0,0⟩)).Perm L:=by
    refine List.Perm.trans (hp.map _) ?_
    have hE:(List.range xs.length).map (fun i=>xs.getD i ⟨0,0,0,none,0,0,none,0,0,0⟩)=xs:=by
     apply List.ext_getElem
     ·simp
     ·intro i h1 h2
      simp at h1
      simp [List.getD_eq_getElem?_getD,h1]
    rw [hE]
    exact HP.out
   have hsrt:(l.map (fun i=>xs.getD i ⟨0,0,0,none,0,0,none,0,0,0⟩)).Pairwise (fun a b=>a.t≤b.t):=by
    rw [List.pairwise_map]
    refine hs.imp ?_
    intro i j hij
    rw [zTx] at hij
    omega
   have hyL:=zLx hys hsrt HR.out.turns
   have hll:l.length=L.length:=by rw [← hyL];simp
   refine ⟨.inr ⟨g,c,by rw [hv,hxl],Nat.lt_of_lt_of_le hgl hgr.size,fun i a hi=>?_⟩,HB1.out.trans (vW hgr hg HB1.out.size)⟩
   have hiL:i<L.length:=(List.getElem?_eq_some_iff.1 hi).1
   have:=hF i (by omega)
   rw [← hyL] at hi
   rw [List.getElem?_map,List.getElem?_eq_getElem (by omega)] at hi
   have e2:l.getD i 0=l[i]'(by omega):=by simp [List.getD_eq_getElem?_getD,show i<l.length by omega]
   rw [e2] at this
   simp only [Option.map_some,Option.some.injEq] at hi
   rw [← hi]
   exact this
 clear hres
 go_wp2
 go_ret
 exact ⟨v,rfl,HF.out⟩
end Go.Proofs.YtkjbafcalamgnaaGreat
namespace Go.Proofs.YtkjbafcalamgnaaGreat
open Go.RowKit

theorem yU.viewC {w:World}{B b n:Nat}{K A:Nat→Kp}(h:yU w B b n K A)(z x y wd ht now s:Int)(rn:Nat)(E:Nat→Req)(bad:Int):Go.Proofs.YtkjbafcalamgnaaGreat.viewC z x y wd ht now s n A rn E bad=Go.Proofs.YtkjbafcalamgnaaGreat.viewC z x y wd ht now s n K rn E bad:=by
 have e:zCv z x y wd ht n A E=zCv z x y wd ht n K E:=by
  funext i
  unfold zCv
  rw [h.atK _ _ _ n (Nat.le_refl _)]
 unfold Go.Proofs.YtkjbafcalamgnaaGreat.viewC
 rw [h.cacheC,e]
end Go.Proofs.YtkjbafcalamgnaaGreat
