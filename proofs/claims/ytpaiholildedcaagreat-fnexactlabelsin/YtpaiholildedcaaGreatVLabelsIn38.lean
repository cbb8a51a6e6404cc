/- Texts. -/
import Derived.Test.YtpaiholildedcaaGreatVLabelsIn37
import Derived.Test.YtpaiholildedcaaGreatVLabelsIn16
set_option linter.unusedSimpArgs false
set_option linter.unusedVariables false
set_option maxRecDepth 100000
set_option maxHeartbeats 32000000
namespace Go.Proofs.YtpaiholildedcaaGreat
open Go.RowKit
noncomputable def lbvA (z x y wd ht now s:Int)(n:Nat)(A:Nat→Kp)(rn:Nat)(E:Nat→Req)(bad:Int):List Plc:=if viewC z x y wd ht now s n A rn E bad=0 then zOj n A z x y wd ht else []
def zp (L:List Plc)(i:Nat):Plc:=L.getD i zPl
theorem zAi.setL {w:World}{base B r o:Nat}{v u:Value}{n:Nat}{Z:Nat→Plc}(h:zAi w base v n Z)(hr:r<base)(hB:B≤base):zAi (w.setCell ⟨r,o,none⟩ u) B v n Z:=by
 obtain ⟨a,cap,hv,hc,h0 | ⟨b,ha,hbb,hl,hp,ht⟩⟩:=h
 ·exact ⟨a,cap,hv,hc,.inl h0⟩
 ·have hne:∀ i:Nat,(⟨r,o,none⟩:Addr)≠⟨b,i,none⟩:=fun i e=>by injection e with e;omega
  refine ⟨a,cap,hv,hc,.inr ⟨b,ha,by omega,by simpa [World.setCell] using hl,fun i hi=>?_,fun o' ho'=>?_⟩⟩
  ·obtain ⟨h0,h1,h2,h3,h4⟩:=hp i hi
   exact ⟨(zB (hne _)).trans h0,(zB (hne _)).trans h1,(zB (hne _)).trans h2,(zB (hne _)).trans h3,(zB (hne _)).trans h4⟩
  ·obtain ⟨⟨x,hx⟩,hf⟩:=ht o' ho'
   exact ⟨⟨x,by rw [zB (hne _)];exact hx⟩,by rw [World.frozen?_setCell];exact hf⟩
theorem zIr (w:World)(base:Nat)(Z:Nat→Plc):zAi w base (.slice none 0 0) 0 Z:=⟨none,0,rfl,Nat.le_refl _,.inl rfl⟩
theorem zS8 {T:Array Value}{Wf:World}{r:Nat}{c:Int}{v:Value}(hT:T[2]?.getD undef=.pointer (some ⟨r,0,none⟩))(h0:Wf.cell? ⟨r,0,none⟩=some (.int .i64 c))(h1:Wf.cell? ⟨r,1,none⟩=some v) :
  (results Tryz.f23 T).run Tryz.prog Wf=.ok (.agg #[.int .i64 c,v]) Wf:=by
 simp [results,Tryz.results23,go_sem,hT,h0,h1]
theorem zS9 {T:Array Value}{Wf:World}{r:Nat}{c:Int}{v:Value}(hT:T[2]?.getD undef=.pointer (some ⟨r,0,none⟩))(h0:Wf.cell? ⟨r,0,none⟩=some (.int .i64 c))(h1:Wf.cell? ⟨r,1,none⟩=some v) :
  (results Tryz.f22 T).run Tryz.prog Wf=.ok (.agg #[.int .i64 c,v]) Wf:=by
 simp [results,Tryz.results22,go_sem,hT,h0,h1]
theorem zCs (z x y wd ht now s:Int)(b n cap:Nat)(A:Nat→Kp)(ra:Option Addr)(rn rc:Nat)(E:Nat→Req)(bad:Int)(w:World)(ha:zB0 w b n A)(hs:zL n A)(hcap:∀ i,i<n→(A i).fn≤(A i).fc)(hnc:n≤cap)(hr:zAn w ra rn E)(hrn:rn≤1048576)(hrc:rn≤rc) :
  Calls Tryz.prog 23 #[vwV z x y wd ht now s (.slice (some ⟨b,0,none⟩) n cap) (.slice ra rn rc) bad] w fun e w'=>∃ v,e=.returned (.agg #[.int .i64 (viewC z x y wd ht now s n A rn E bad),v])∧zAi w' w.heap.size v (lbvA z x y wd ht now s n A rn E bad).length (zp (lbvA z x y wd ht now s n A rn E bad))∧Bw w w':=by
 obtain ⟨VC,hVC⟩:∃ VC,viewC z x y wd ht now s n A rn E bad=VC:=⟨_,rfl⟩
 have HF:Hid (∀ W,Bw w W→Calls Tryz.prog 34 #[vwV z x y wd ht now s (.slice (some ⟨b,0,none⟩) n cap) (.slice ra rn rc) bad] W fun e w'=>∃ p,e=.returned (.tuple #[.pointer (some ⟨p,0,none⟩),.int .i64 VC])∧Bw W w'∧(VC=0→LkA w' W.heap.size p z x y wd ht now s n A ra rn rc bad)):=fun W h=>zIw z x y wd ht now s b n cap A ra rn rc E bad VC W hVC (ha.below h) hs hcap hnc (hr.below h) hrn hrc
 have HC:Hid (VC=0→zBy z x y wd ht=true∧∀ j,j<n→kC A j=0):=fun h=>by
  obtain ⟨h1,h2⟩:=zA7 (hVC.trans h)
  exact ⟨h1,vU h2⟩
 obtain ⟨L,hL⟩:∃ L,lbvA z x y wd ht now s n A rn E bad=L:=⟨_,rfl⟩
 have HL0:Hid (VC=0→zOj n A z x y wd ht=L):=fun h=>by
  rw [← hL];unfold lbvA;rw [if_pos (hVC.trans h)]
 have HL1:Hid (VC≠0→L=[]):=fun h=>by
  rw [← hL];unfold lbvA;rw [if_neg (fun e=>h (hVC.symm.trans e))]
 rw [hVC,hL]
 have HA:Hid (zB0 w b n A):=ha
 have HS:Hid (zL n A):=hs
 clear ha hs hcap hnc hr hVC hL
 go_enter Tryz.func23,Tryz.ntmps23
 go_wp2_with fail
 generalize hW:((w.alloc _).alloc _:World)=W
 have HB0:Hid (Bw w W):=by show Below _ _ _;subst hW;exact Qb
 have HT:Hid (zD W (w.heap.size+1) 2):=by
  show zD _ _ _
  subst hW
  have:=zGs (w.alloc (.cells #[.int .i64 z,.int .i64 x,.int .i64 y,.int .i64 wd,.int .i64 ht,.int .i64 now,.int .i64 s,.slice (some ⟨b,0,none⟩) n cap,.slice ra rn rc,.int .i64 bad] 31)) (.int .i64 0) (.slice none 0 0) 58
  simpa using this
 have hsz:w.heap.size+1<W.heap.size:=by subst hW;simp
 clear hW
 refine Calls.mono (HF.out W HB0.out) ?_
 rintro e w1 ⟨p,rfl,hb1,hK1⟩
 have HK1:Hid (VC=0→LkA w1 W.heap.size p z x y wd ht now s n A ra rn rc bad):=hK1
 have HB1:Hid (Bw w w1):=zA HB0.out hb1
 have HT1:Hid (zD w1 (w.heap.size+1) 2):=HT.out.below hb1
 have hs1:W.heap.size≤w1.heap.size:=hb1.size
 clear hb1 hK1 HF HT HB0
 by_cases h0:VC=0
 case neg =>
  have hcb:(VC == 0)=false:=by simpa using h0
  have HE:=(show Hid _ from HL1.out h0)
  have hT':=HT1.out
  have t0:=hT'.cell 0 (by omega)
  have t1:=hT'.cell 1 (by omega)
  have f0:=(hT' 0 (by omega)).2
  have f1:=(hT' 1 (by omega)).2
  clear hT' HK1 HL0 HL1 HC h0
  go_wp2_with fail
  obtain ⟨q0,q1⟩:=zBi (W:=w1) (r:=w.heap.size+1) (i:=0) (j:=1) (u:=.int .i64 VC) (v:=.slice none 0 0) (by omega) (by rw [t0];rfl) (by rw [t1];rfl)
  refine bodyPost_ret (zS8 rfl q0 q1) rfl ⟨_,rfl,?_,(HB1.out.setCell (Nat.le_succ _) _).setCell (Nat.le_succ _) _⟩
  rw [HE.out]
  exact zIr _ _ _
 obtain ⟨hcam,hall⟩:=HC.out h0
 have HM:Hid (Calls Tryz.prog 57 #[.pointer (some ⟨p,0,none⟩)] w1 fun e w'=>∃ v,e=.returned v∧zAl w1.heap.size w' v L∧Bw w1 w'):=by
  have:=zNp W.heap.size p b z x y wd ht now s n A ra rn rc bad w1 (HK1.out h0) hcam hall (HA.out.below HB1.out) HS.out
  rw [HL0.out h0] at this
  exact this
 subst h0
 clear HK1 HL0 HL1 HC hcam hall
 go_wp2_with fail
 refine Calls.mono HM.out ?_
 rintro e w2 ⟨v,rfl,hR,hb2⟩
 obtain ⟨a2,c2,hv,hc2,_⟩:=hR.own
 have HO2:Hid (zAi w2 w1.heap.size v L.length (zp L)):=hR.own
 subst hv
 have HB2:Hid (Bw w w2):=zA HB1.out hb2
 have hT2:=HT1.out.below hb2
 have t0:=hT2.cell 0 (by omega)
 have t1:=hT2.cell 1 (by omega)
 have f0:=(hT2 0 (by omega)).2
 have f1:=(hT2 1 (by omega)).2
 clear hR hb2 hT2 HM HB1 HT1
 go_wp2_with fail
 obtain ⟨q0,q1⟩:=zBi (W:=w2) (r:=w.heap.size+1) (i:=0) (j:=1) (u:=.int .i64 0) (v:=.slice a2 L.length c2) (by omega) (by rw [t0];rfl) (by rw [t1];rfl)
 refine bodyPost_ret (zS8 rfl q0 q1) rfl ⟨_,rfl,?_,(HB2.out.setCell (Nat.le_succ _) _).setCell (Nat.le_succ _) _⟩
 exact (HO2.out.setL (B:=w1.heap.size) (by omega) (Nat.le_refl _)).setL (B:=w.heap.size) (by omega) (by omega)
theorem zCl (z x y wd ht now s:Int)(b n cap:Nat)(A:Nat→Kp)(ra:Option Addr)(rn rc:Nat)(E:Nat→Req)(bad:Int)(w:World)(ha:zB0 w b n A)(hs:zL n A)(hr:zAn w ra rn E)(hrn:rn≤1048576) :
  Calls Tryz.prog 22 #[vwV z x y wd ht now s (.slice (some ⟨b,0,none⟩) n cap) (.slice ra rn rc) bad] w fun e w'=>∃ v,e=.returned (.agg #[.int .i64 (viewC z x y wd ht now s n A rn E bad),v])∧zAi w' w.heap.size v (lbvA z x y wd ht now s n A rn E bad).length (zp (lbvA z x y wd ht now s n A rn E bad))∧Bw w w':=by
 obtain ⟨VC,hVC⟩:∃ VC,viewC z x y wd ht now s n A rn E bad=VC:=⟨_,rfl⟩
 have HA:Hid (zB0 w b n A):=ha
 have HS:Hid (zL n A):=hs
 have HR:Hid (zAn w ra rn E):=hr
 have HVC:Hid (viewC z x y wd ht now s n A rn E bad=VC):=hVC
 have HC:Hid (VC=0→zBy z x y wd ht=true∧∀ j,j<n→kC A j=0):=fun h=>by
  obtain ⟨h1,h2⟩:=zA7 (hVC.trans h)
  exact ⟨h1,vU h2⟩
 obtain ⟨L,hL⟩:∃ L,lbvA z x y wd ht now s n A rn E bad=L:=⟨_,rfl⟩
 have HL0:Hid (VC=0→zOj n A z x y wd ht=L):=fun h=>by
  rw [← hL];unfold lbvA;rw [if_pos (hVC.trans h)]
 have HL1:Hid (VC≠0→L=[]):=fun h=>by
  rw [← hL];unfold lbvA;rw [if_neg (fun e=>h (hVC.symm.trans e))]
 rw [hVC,hL]
 clear ha hs hr hVC hL
 go_enter Tryz.func22,Tryz.ntmps22
 go_wp2_with fail
 generalize hW:((w.alloc _).alloc _:World)=W
 have HB0:Hid (Bw w W):=by show Below _ _ _;subst hW;exact Qb
 have HT:Hid (zD W (w.heap.size+1) 2):=by
  show zD _ _ _
  subst hW
  have:=zGs (w.alloc (.cells #[.int .i64 z,.int .i64 x,.int .i64 y,.int .i64 wd,.int .i64 ht,.int .i64 now,.int .i64 s,.slice (some ⟨b,0,none⟩) n cap,.slice ra rn rc,.int .i64 bad] 31)) (.int .i64 0) (.slice none 0 0) 58
  simpa using this
 have HV:Hid (Blk W w.heap.size [.int .i64 z,.int .i64 x,.int .i64 y,.int .i64 wd,.int .i64 ht,.int .i64 now,.int .i64 s,.slice (some ⟨b,0,none⟩) n cap,.slice ra rn rc,.int .i64 bad]):=by show Blk _ _ _;subst hW;exact (Blk.new w _ _).alloc (by simp) _
 have hsz:w.heap.size+1<W.heap.size:=by subst hW;simp
 clear hW
 have HF:=(show Hid _ from zI4 _ z x y wd ht now s b n cap A ra rn rc E bad W HV.out (HA.out.below HB0.out) HS.out (HR.out.below HB0.out) hrn)
 rw [HVC.out] at HF
 refine Calls.mono HF.out ?_
 rintro e w1 ⟨rfl,hb1⟩
 have HB1:Hid (Bw w w1):=zA HB0.out hb1
 have HT1:Hid (zD w1 (w.heap.size+1) 2):=HT.out.below hb1
 have HV1:Hid (Blk w1 w.heap.size [.int .i64 z,.int .i64 x,.int .i64 y,.int .i64 wd,.int .i64 ht,.int .i64 now,.int .i64 s,.slice (some ⟨b,0,none⟩) n cap,.slice ra rn rc,.int .i64 bad]):=HV.out.below HV.out.lt hb1
 have hs1:W.heap.size≤w1.heap.size:=hb1.size
 clear hb1 HF HT HB0 HV HVC
 by_cases h0:VC=0
 case neg =>
  have hcb:(VC == 0)=false:=by simpa using h0
  have HE:=(show Hid _ from HL1.out h0)
  have hT':=HT1.out
  have t0:=hT'.cell 0 (by omega)
  have t1:=hT'.cell 1 (by omega)
  have f0:=(hT' 0 (by omega)).2
  have f1:=(hT' 1 (by omega)).2
  clear hT' HL0 HL1 HC h0
  go_wp2_with fail
  obtain ⟨q0,q1⟩:=zBi (W:=w1) (r:=w.heap.size+1) (i:=0) (j:=1) (u:=.int .i64 VC) (v:=.slice none 0 0) (by omega) (by rw [t0];rfl) (by rw [t1];rfl)
  refine bodyPost_ret (zS9 rfl q0 q1) rfl ⟨_,rfl,?_,(HB1.out.setCell (Nat.le_succ _) _).setCell (Nat.le_succ _) _⟩
  rw [HE.out]
  exact zIr _ _ _
 obtain ⟨hcam,hall⟩:=HC.out h0
 have HM:Hid (Calls Tryz.prog 56 #[.pointer (some ⟨w.heap.size,0,none⟩)] w1 fun e w'=>∃ v,e=.returned v∧zAl w1.heap.size w' v L∧Bw w1 w'):=by
  have:=zHc w.heap.size z x y wd ht now s b n cap A ra rn rc bad w1 HV1.out (HA.out.below HB1.out) HS.out hall hcam
  rw [HL0.out h0] at this
  exact this
 subst h0
 clear HL0 HL1 HC hcam hall
 go_wp2_with fail
 refine Calls.mono HM.out ?_
 rintro e w2 ⟨v,rfl,hR,hb2⟩
 obtain ⟨a2,c2,hv,hc2,_⟩:=hR.own
 have HO2:Hid (zAi w2 w1.heap.size v L.length (zp L)):=hR.own
 subst hv
 have HB2:Hid (Bw w w2):=zA HB1.out hb2
 have hT2:=HT1.out.below hb2
 have t0:=hT2.cell 0 (by omega)
 have t1:=hT2.cell 1 (by omega)
 have f0:=(hT2 0 (by omega)).2
 have f1:=(hT2 1 (by omega)).2
 clear hR hb2 hT2 HM HB1 HT1
 go_wp2_with fail
 obtain ⟨q0,q1⟩:=zBi (W:=w2) (r:=w.heap.size+1) (i:=0) (j:=1) (u:=.int .i64 0) (v:=.slice a2 L.length c2) (by omega) (by rw [t0];rfl) (by rw [t1];rfl)
 refine bodyPost_ret (zS9 rfl q0 q1) rfl ⟨_,rfl,?_,(HB2.out.setCell (Nat.le_succ _) _).setCell (Nat.le_succ _) _⟩
 exact (HO2.out.setL (B:=w1.heap.size) (by omega) (Nat.le_refl _)).setL (B:=w.heap.size) (by omega) (by omega)
theorem zAi.midV {w w':World}{base lo hi:Nat}{v:Value}{n:Nat}{E:Nat→Plc}(h:zAi w base v n E)(hM:zW lo hi w w')(hh:hi≤base):zAi w' base v n E:=h.mid hM hh
theorem yQ.midV {T lo hi:Nat}{w w':World}{a:Option Addr}{n:Nat}{E:Nat→Plc}(h:yQ T w a n E)(hM:zW lo hi w w')(hT:T≤lo):yQ T w' a n E:=h.mid hM hT
theorem zPs (c:Int)(base n cap:Nat)(a:Option Addr)(Z:Nat→Plc)(w:World)(h:zAi w base (.slice a n cap) n Z)(hmax:n≤1048576) :
  ∃ row:Option Nat,(∀ s,row=some s→base≤s∧n≠0∧a=some ⟨s,0,none⟩)∧Calls Tryz.prog 25 #[.agg #[.int .i64 c,.slice a n cap],.int .i64 1] w fun e w'=>e=.returned (.int .i64 ((1+5 * n:Nat):Int))∧w.grownBy w' row∧zAi w' base (.slice a n cap) n (mkP 1):=by
 obtain ⟨a',cap',hv,hc,h0 | ⟨b,ha,hbb,hl,hp,ht⟩⟩:=h
 ·subst h0
  exact ⟨none,(fun s hs=>by cases hs),(vD c a cap w).mono fun e w' ⟨he,hb⟩=>⟨he,zBu hb,a',cap',hv,hc,.inl rfl⟩⟩
 ·injection hv with h1 h2 h3
  subst h1 h3 ha
  by_cases h0:n=0
  ·subst h0
   exact ⟨none,(fun s hs=>by cases hs),(vD c _ cap w).mono fun e w' ⟨he,hb⟩=>⟨he,zBu hb,_,cap,rfl,hc,.inl rfl⟩⟩
  ·exact ⟨some b,(fun s hs=>by injection hs with hs;subst hs;exact ⟨hbb,h0,rfl⟩),(zA1 c b n cap w ht hl hmax).mono fun e w' ⟨he,hg,ht',hp'⟩=>⟨he,hg,_,cap,rfl,hc,.inr ⟨b,rfl,hbb,Nat.lt_of_lt_of_le hl hg.size,hp',ht'⟩⟩⟩
theorem zJe {A K:Nat→Kp}{t:Int}:∀ {l:List Nat},(∀ c ∈ l,(xN A c).id=(xN K c).id)→zFm A l t=zFm K l t
 | [],_=>rfl
 | c :: r,h=>by
  have ih:=zJe (t:=t) (l:=r) (fun d hd=>h d (List.mem_cons_of_mem _ hd))
  unfold zFm at ih ⊢
  rw [List.any_cons,List.any_cons,ih,h c (List.mem_cons_self ..)]
theorem zJ4 {n i:Nat}{A K:Nat→Kp}{l:List Nat}(hi:i<n)(hf:(A i).fn≤12)(hl:OkC n A l)(hg:∀ c,c / 64<n→c % 64<(A (c / 64)).fn→(xN A c).same (xN K c)):∀ m,m≤(A i).fn→xR A i l m=xR K i l m
 | 0,_=>rfl
 | m+1,hm=>by
  have ih:=zJ4 hi hf hl hg m (by omega)
  have ho:=hl.add hi hf m (by omega)
  have e1:(xN A (i * 64+m)).id=(xN K (i * 64+m)).id:=(hg _ (by omega) (by rw [show (i * 64+m) / 64=i by omega];omega)).1
  have e2:zFm A (xR A i l m) (xN A (i * 64+m)).id=zFm K (xR K i l m) (xN K (i * 64+m)).id:=by
   rw [zJe (K:=K) (fun c hc=>(hg c (ho.1 c hc).1 (ho.1 c hc).2).1),ih,e1]
  rw [xR,xR,e2,ih]
theorem zJh {n:Nat}{R:Rfs}{A K:Nat→Kp}(h0:∀ j,j<n→kC A j=0)(hs:∀ i,i<n→(A i).z=(K i).z∧(A i).x=(K i).x∧(A i).y=(K i).y∧(A i).fn=(K i).fn)(hg:∀ c,c / 64<n→c % 64<(A (c / 64)).fn→(xN A c).same (xN K c)):∀ k,yN n R A k=yN n R K k
 | 0=>rfl
 | k+1=>by
  have ih:=zJh h0 hs hg (R:=R) k
  have e:atK n A (R.z k) (R.x k) (R.y k)=atK n K (R.z k) (R.x k) (R.y k):=by
   unfold atK
   exact zC3 n fun i hi=>by
    unfold isK
    rw [(hs i hi).1,(hs i hi).2.1,(hs i hi).2.2.1]
  rw [yN,yN,← e]
  split
  ·rename_i hat
   rcases zJ2 n A (R.z k) (R.x k) (R.y k) with hn | ⟨i,hi,e',_⟩
   ·omega
   ·rw [e',Int.toNat_natCast,← (hs i hi).2.2.2,← ih]
    exact zJ4 hi (zSi (h0 i hi)) (zAy n R A h0 k).1 hg _ (Nat.le_refl _)
  ·exact ih
theorem zPh {x y wd ht:Int}{B B':Nat→Plc}{l:List Nat}(h:∀ i ∈ l,B i=B' i):uN x y wd ht B l=uN x y wd ht B' l:=by
 unfold uN
 generalize ([]:List Plc)=L
 induction l generalizing L with
 | nil=>rfl
 | cons i r ih =>
  have e:zB2 x y wd ht B L i=zB2 x y wd ht B' L i:=by unfold zB2;rw [h i (List.mem_cons_self ..)]
  rw [List.foldl_cons,List.foldl_cons,e]
  exact ih (fun j hj=>h j (List.mem_cons_of_mem _ hj)) _
theorem zPw {n:Nat}{A K:Nat→Kp}{z x y wd ht:Int}(h0:∀ j,j<n→kC A j=0)(hs:∀ i,i<n→(A i).z=(K i).z∧(A i).x=(K i).x∧(A i).y=(K i).y∧(A i).fn=(K i).fn)(hg:∀ c,c / 64<n→c % 64<(A (c / 64)).fn→(xN A c).same (xN K c)):zOj n A z x y wd ht=zOj n K z x y wd ht:=by
 unfold zOj
 have e:=zJh h0 hs hg (R:=xQ z x y wd) (yV z x y wd ht)
 have ho:=(zAy n (xQ z x y wd) A h0 (yV z x y wd ht)).1
 have eT:∀ i,i<(yN n (xQ z x y wd) A (yV z x y wd ht)).length→(zFn n (xQ z x y wd) A (yV z x y wd ht) i).same (zFn n (xQ z x y wd) K (yV z x y wd ht) i):=fun i hi=>by
  have hm:(yN n (xQ z x y wd) A (yV z x y wd ht)).getD i 0 ∈ yN n (xQ z x y wd) A (yV z x y wd ht):=by
   rw [List.getD_eq_getElem?_getD,List.getElem?_eq_getElem hi]
   exact List.getElem_mem hi
  unfold zFn
  rw [← e]
  exact hg _ (ho.1 _ hm).1 (ho.1 _ hm).2
 have e2:zY (yN n (xQ z x y wd) A (yV z x y wd ht)).length (zFn n (xQ z x y wd) A (yV z x y wd ht))=zY (yN n (xQ z x y wd) A (yV z x y wd ht)).length (zFn n (xQ z x y wd) K (yV z x y wd ht)):=zFz _ (fun j hj=>⟨(eT j hj).2.2.2.2.2.2.2.2,(eT j hj).1⟩)
 rw [e2,← e]
 refine zPh fun i hi=>?_
 have hi':=(uX _ _ _ i).1 hi
 unfold lbB
 rw [(eT i hi').1,(eT i hi').2.2.2.2.2.2.2.1,(eT i hi').2.2.2.2.2.1,(eT i hi').2.2.2.2.2.2.1]
theorem yB.lbvA {w:World}{B b n:Nat}{K A:Nat→Kp}(h:yB w B b n K A)(z x y wd ht now s:Int)(rn:Nat)(E:Nat→Req)(bad:Int):Go.Proofs.YtpaiholildedcaaGreat.lbvA z x y wd ht now s n A rn E bad=Go.Proofs.YtpaiholildedcaaGreat.lbvA z x y wd ht now s n K rn E bad:=by
 have hv:=h.viewC z x y wd ht now s rn E bad
 unfold Go.Proofs.YtpaiholildedcaaGreat.lbvA
 rw [hv]
 split
 ·rename_i h0
  refine zPw (vU (zA7 (hv.trans h0)).2) (fun i hi=>?_) (fun c h1 h2=>?_)
  ·obtain ⟨e1,e2,e3,e4,_⟩:=h.sameK hi
   exact ⟨e1,e2,e3,e4⟩
  ·exact (h.sameK h1).2.2.2.2.2.2 _ h2
 ·rfl
theorem zR0 (z x y wd ht now s:Int)(n:Nat)(A:Nat→Kp)(rn:Nat)(E:Nat→Req)(bad:Int):(lbvA z x y wd ht now s n A rn E bad).length≤1048576:=by
 unfold lbvA
 split
 ·rename_i h0
  have h1:=(zAy n (xQ z x y wd) A (vU (zA7 h0).2) (yV z x y wd ht)).2
  have h2:=zBg z x y wd ht
  have h3:=zB7 x y wd ht (lbB z (zFn n (xQ z x y wd) A (yV z x y wd ht))) (zY (yN n (xQ z x y wd) A (yV z x y wd ht)).length (zFn n (xQ z x y wd) A (yV z x y wd ht))) (yN n (xQ z x y wd) A (yV z x y wd ht)).length
  have hlen:(zY (yN n (xQ z x y wd) A (yV z x y wd ht)).length (zFn n (xQ z x y wd) A (yV z x y wd ht))).length=(yN n (xQ z x y wd) A (yV z x y wd ht)).length:=zB3 _ _ _
  rw [List.take_of_length_le (by omega)] at h3
  unfold zOj
  omega
 ·simp
theorem zBz (c:Int)(m:Nat)(Z:Nat→Plc)(z x y wd ht now s:Int)(a:Option Addr)(n cap:Nat)(K:Nat→Kp)(ra:Option Addr)(rn rc:Nat)(E:Nat→Req)(bad:Int)(w:World)(h:(zDn w a n K∧zA5 n K)∧zAn w ra rn E∧rn≤rc∧rc≤maxLen)(hm:m≤1048576)(hsp:zL n K→rn≤1048576→∀ (W:World) (b rb:Nat) (A:Nat→Kp),zH0 W b n K A rb rn E→Calls Tryz.prog 22 #[vwV z x y wd ht now s (.slice (some ⟨b,0,none⟩) n n) (.slice (some ⟨rb,0,none⟩) rn rn) bad] W fun e w'=>∃ v,e=.returned (.agg #[.int .i64 c,v])∧zAi w' W.heap.size v m Z∧Bw W w')(him:zL n K→rn≤1048576→∀ (W:World) (b rb:Nat) (A:Nat→Kp),zH0 W b n K A rb rn E→Calls Tryz.prog 23 #[vwV z x y wd ht now s (.slice (some ⟨b,0,none⟩) n n) (.slice (some ⟨rb,0,none⟩) rn rn) bad] W fun e w'=>∃ v,e=.returned (.agg #[.int .i64 c,v])∧zAi w' W.heap.size v m Z∧Bw W w') :
  Calls Tryz.prog 5 #[vwV z x y wd ht now s (.slice a n cap) (.slice ra rn rc) bad] w fun e w'=>e=.returned (.bool true)∧Bw w w':=by
 obtain ⟨⟨hf,hc⟩,hr,hrc,hrm⟩:=h
 have HI:Hid (zDn w a n K):=hf
 have HC:Hid (zA5 n K):=hc
 have HRq:Hid (zAn w ra rn E):=hr
 have hrl:rn≤maxLen:=Nat.le_trans hrc hrm
 have Hspec:=(show Hid _ from hsp)
 have Himpl:=(show Hid _ from him)
 clear hf hc hr hrc hrm hsp him
 go_enter Tryz.func5,Tryz.ntmps5
 go_wp2_with fail
 generalize hW:(w.alloc _:World)=W
 have HB0:Hid (Bw w W):=by show Below _ _ _;subst hW;exact Qb
 have HV:Hid (Blk W w.heap.size [.int .i64 z,.int .i64 x,.int .i64 y,.int .i64 wd,.int .i64 ht,.int .i64 now,.int .i64 s,.slice a n cap,.slice ra rn rc,.int .i64 bad]):=by show Blk _ _ _;subst hW;exact Blk.new _ _ _
 have hvl:w.heap.size<W.heap.size:=HV.out.lt
 clear hW
 refine (zId z x y wd ht now s a n cap K ra rn rc bad W (HI.out.below HB0.out) HC.out hrl).mono ?_
 rintro e w1 ⟨rfl | ⟨m0,hS,hrn,rfl⟩,hb1⟩
 ·have HB1:Hid (Bw w w1):=zA HB0.out hb1
  clear hb1 Hspec Himpl
  go_wp2
  go_ret
  exact ⟨rfl,HB1.out⟩
 have HS:Hid (zL n K):=hS
 have hneg:¬ ((m0:Nat):Int)<0:=by omega
 have Hsp:=(show Hid _ from Hspec.out hS hrn)
 have Him:=(show Hid _ from Himpl.out hS hrn)
 have HBw:Hid (Bw w w1):=zA HB0.out hb1
 have HTo:Hid (∀ W',Bw w1 W'→Calls Tryz.prog 15 #[vwV z x y wd ht now s (.slice a n cap) (.slice ra rn rc) bad] W' fun e w'=>∃ b A rb,e=.returned (vwV z x y wd ht now s (.slice (some ⟨b,0,none⟩) n n) (.slice (some ⟨rb,0,none⟩) rn rn) bad)∧W'.heap.size≤b∧W'.heap.size≤rb∧zH0 w' b n K A rb rn E∧VkW w' W'.heap.size w'.heap.size b n A rb rn∧Below W'.heap.size W' w'):=fun W' h=>zH8 z x y wd ht now s a n cap K ra rn rc E bad W' (HI.out.below (zA HBw.out h)) HS.out (HRq.out.below (zA HBw.out h)) hrn
 have HEq:Hid (∀ (W:World) (b b' rb rb':Nat) (A H:Nat→Kp),zH0 W b n K A rb rn E→zH0 W b' n K H rb' rn E→Calls Tryz.prog 18 #[vwV z x y wd ht now s (.slice (some ⟨b,0,none⟩) n n) (.slice (some ⟨rb,0,none⟩) rn rn) bad,vwV z x y wd ht now s (.slice (some ⟨b',0,none⟩) n n) (.slice (some ⟨rb',0,none⟩) rn rn) bad] W fun e w'=>e=.returned (.bool true)∧Bw W w'):=fun W b b' rb rb' A H h1 h2=>zJj z x y wd ht now s n rn b b' rb rb' K A H E bad W h1 h2 HS.out hrn
 have HV1:Hid (∀ W',Bw w1 W'→Blk W' w.heap.size [.int .i64 z,.int .i64 x,.int .i64 y,.int .i64 wd,.int .i64 ht,.int .i64 now,.int .i64 s,.slice a n cap,.slice ra rn rc,.int .i64 bad]):=fun W' h=>HV.out.below hvl (zA hb1 h)
 have hB1:Bw w1 w1:=Below.refl _ _
 have hv1:=HV1.out w1 hB1
 have hwl:w.heap.size<w1.heap.size:=Nat.lt_of_lt_of_le hvl hb1.size
 obtain ⟨d0,d1,d2,d3,d4,d5,d6,d7,d8,d9⟩:=Blk.c10 hv1
 clear hS hb1 Hspec Himpl HI HC HRq HB0 HV hv1
 go_wp2_with fail
 refine Calls.mono (HTo.out _ hB1) ?_
 rintro e wp ⟨bp,Ap,rbp,rfl,hle2,hlr2,hO2,_,hb2⟩
 have HBp:Hid (Bw w1 wp):=hb2
 have HOp:Hid (zH0 wp bp n K Ap rbp rn E):=hO2
 clear hO2 hb2
 go_wp2_with fail
 refine (Hsp.out _ _ _ _ HOp.out).mono ?_
 rintro e wq ⟨vq,rfl,hOq,hbq⟩
 obtain ⟨a0,cap0,rfl,hc0,hI0⟩:=hOq.pts
 have HIq:Hid (zDc wq a0 m Z):=hI0
 have HBq:Hid (Bw w1 wq):=zA HBp.out hbq
 clear hOq hI0 hbq HOp HBp Hsp d0 d1 d2 d3 d4 d5 d6 d7 d8 d9
 have hlq:w.heap.size<wq.heap.size:=Nat.lt_of_lt_of_le hwl HBq.out.size
 have hvq:=HV1.out wq HBq.out
 have v0:∀ o,(wq.alloc o).cell? ⟨w.heap.size,0,none⟩=_:=fun o=>(hvq.alloc hlq o).cell 0 rfl
 have v1:∀ o,(wq.alloc o).cell? ⟨w.heap.size,1,none⟩=_:=fun o=>(hvq.alloc hlq o).cell 1 rfl
 have v2:∀ o,(wq.alloc o).cell? ⟨w.heap.size,2,none⟩=_:=fun o=>(hvq.alloc hlq o).cell 2 rfl
 have v3:∀ o,(wq.alloc o).cell? ⟨w.heap.size,3,none⟩=_:=fun o=>(hvq.alloc hlq o).cell 3 rfl
 have v4:∀ o,(wq.alloc o).cell? ⟨w.heap.size,4,none⟩=_:=fun o=>(hvq.alloc hlq o).cell 4 rfl
 have v5:∀ o,(wq.alloc o).cell? ⟨w.heap.size,5,none⟩=_:=fun o=>(hvq.alloc hlq o).cell 5 rfl
 have v6:∀ o,(wq.alloc o).cell? ⟨w.heap.size,6,none⟩=_:=fun o=>(hvq.alloc hlq o).cell 6 rfl
 have v7:∀ o,(wq.alloc o).cell? ⟨w.heap.size,7,none⟩=_:=fun o=>(hvq.alloc hlq o).cell 7 rfl
 have v8:∀ o,(wq.alloc o).cell? ⟨w.heap.size,8,none⟩=_:=fun o=>(hvq.alloc hlq o).cell 8 rfl
 have v9:∀ o,(wq.alloc o).cell? ⟨w.heap.size,9,none⟩=_:=fun o=>(hvq.alloc hlq o).cell 9 rfl
 clear hvq
 go_wp2_with fail
 generalize hW3:(wq.alloc _:World)=w3
 have hb3:Bw wq w3:=by subst hW3;exact Qb
 have p0:w3.cell? ⟨wq.heap.size,0,none⟩=some (.int .i64 c):=by subst hW3;simp [go_sem]
 have p1:w3.cell? ⟨wq.heap.size,1,none⟩=some (.slice a0 m cap0):=by subst hW3;simp [go_sem]
 clear hW3
 obtain ⟨b7,hb7e⟩:∃ b,wq.heap.size=b:=⟨_,rfl⟩
 have hb7q:b7<w3.heap.size:=by rw [← hb7e];exact World.block_lt_of_cell? _ _ p0
 have hl7:=hb7q
 have HI3:Hid (yQ w3.heap.size w3 a0 m Z):=HIq.out.below hb3
 have hB3:Bw w1 w3:=zA HBq.out hb3
 rw [hb7e] at p0 p1
 simp only [hb7e]
 clear hb3 HIq HBq hb7e
 have d0:∀ W',Bw w3 W'→W'.cell? ⟨b7,0,none⟩=some (.int .i64 c):=fun W' h=>zH h p0
 have d1:∀ W',Bw w3 W'→W'.cell? ⟨b7,1,none⟩=some (.slice a0 m cap0):=fun W' h=>zH h p1
 clear p0 p1
 have hw3:=hB3.size
 have HB3:Hid (Bw w1 w3):=hB3
 clear hB3 v0 v1 v2 v3 v4 v5 v6 v7 v8 v9
 refine Calls.mono (HTo.out _ HB3.out) ?_
 rintro e w4a ⟨b4,A4,rb4,rfl,hle4,hlr4,hO4,hK4,hb4⟩
 have HO4a:Hid (zH0 w4a b4 n K A4 rb4 rn E):=hO4
 have HK4a:Hid (VkW w4a w3.heap.size w4a.heap.size b4 n A4 rb4 rn):=hK4
 have HB4a:Hid (Bw w3 w4a):=hb4
 clear hO4 hK4 hb4
 go_wp2_with fail
 generalize hwA:(w4a.alloc _:World)=w4
 have HB4b:Hid (Bw w4a w4):=by show Below _ _ _;subst hwA;exact Qb
 have HX4:Hid (Blk w4 w4a.heap.size [.int .i64 z,.int .i64 x,.int .i64 y,.int .i64 wd,.int .i64 ht,.int .i64 now,.int .i64 s,.slice (some ⟨b4,0,none⟩) n n,.slice (some ⟨rb4,0,none⟩) rn rn,.int .i64 bad]):=by show Blk _ _ _;subst hwA;exact Blk.new _ _ _
 clear hwA
 have HO4:Hid (zH0 w4 b4 n K A4 rb4 rn E):=HO4a.out.below HB4b.out
 have HK4:Hid (VkW w4 w3.heap.size w4a.heap.size b4 n A4 rb4 rn):=HK4a.out.below HB4b.out
 have hs4a:=HB4a.out.size
 have hbx:w3.heap.size≤w4a.heap.size:=hs4a
 have hxl:w4a.heap.size<w4.heap.size:=HX4.out.lt
 have hb4:Bw w3 w4:=zA HB4a.out HB4b.out
 obtain ⟨bx,hbxe⟩:∃ b,w4a.heap.size=b:=⟨_,rfl⟩
 rw [hbxe] at hbx hxl
 simp only [hbxe] at HX4 HK4 ⊢
 clear HO4a HK4a HB4a HB4b hs4a hbxe
 have hB4:Bw w1 w4:=zA HB3.out hb4
 have HI4:Hid (yQ w3.heap.size w4 a0 m Z):=HI3.out.below hb4 (Nat.le_refl _)
 have d0':∀ W',Bw w4 W'→W'.cell? ⟨b7,0,none⟩=some (.int .i64 c):=fun W' h=>d0 W' (zA hb4 h)
 have d1':∀ W',Bw w4 W'→W'.cell? ⟨b7,1,none⟩=some (.slice a0 m cap0):=fun W' h=>d1 W' (zA hb4 h)
 have hle34:=hb4.size
 have HX4':Hid (∀ W',Bw w4 W'→Blk W' bx [.int .i64 z,.int .i64 x,.int .i64 y,.int .i64 wd,.int .i64 ht,.int .i64 now,.int .i64 s,.slice (some ⟨b4,0,none⟩) n n,.slice (some ⟨rb4,0,none⟩) rn rn,.int .i64 bad]):=fun W' h=>HX4.out.below hxl h
 clear d0 d1 HI3 hb4 HX4
 refine (Him.out _ _ _ _ HO4.out).mono ?_
 rintro e wr ⟨vr,rfl,hOr,hbr⟩
 obtain ⟨a1,cap1,rfl,hc1,_⟩:=hOr.pts
 have HOr:Hid (zAi wr w4.heap.size (.slice a1 m cap1) m Z):=hOr
 have hkr:∀ s,m≠0→a1=some ⟨s,0,none⟩→s<wr.heap.size:=fun s h1 h2=>by
  obtain ⟨_,_,hv,_,h0 | ⟨b,ha,_,hl,_⟩⟩:=hOr
  ·exact absurd h0 h1
  ·injection hv with e1 _ _
   rw [h2] at e1;rw [← e1] at ha;injection ha with ha;injection ha with ha;subst ha;exact hl
 clear hOr
 have z0:=d0' _ hbr
 have z1:=d1' _ hbr
 have lz:b7<wr.heap.size:=World.block_lt_of_cell? _ _ z0
 go_wp2_with fail
 generalize hW5:(wr.alloc _:World)=w5
 have hb5:Bw wr w5:=by subst hW5;exact Qb
 have r0:w5.cell? ⟨wr.heap.size,0,none⟩=some (.int .i64 c):=by subst hW5;simp [go_sem]
 have r1:w5.cell? ⟨wr.heap.size,1,none⟩=some (.slice a1 m cap1):=by subst hW5;simp [go_sem]
 clear hW5
 have hB5:Bw w4 w5:=zA hbr hb5
 obtain ⟨b9,hb9e⟩:∃ b,wr.heap.size=b:=⟨_,rfl⟩
 have hb9:w4.heap.size≤b9:=by rw [← hb9e];exact hbr.size
 have hl9:b9<w5.heap.size:=by rw [← hb9e];exact World.block_lt_of_cell? _ _ r0
 have hO5:zAi w5 w4.heap.size (.slice a1 m cap1) m Z:=HOr.out.below hb5
 have hne5:∀ s,m≠0→a1=some ⟨s,0,none⟩→s≠b9:=fun s h1 h2=>by have:=hkr s h1 h2;omega
 rw [hb9e] at r0 r1
 simp only [hb9e]
 clear hb5 hbr HOr z0 z1 lz hb9e hkr
 have HO5:Hid (zAi w5 w4.heap.size (.slice a1 m cap1) m Z):=hO5
 have HNE:Hid (∀ s,m≠0→a1=some ⟨s,0,none⟩→s≠b9):=hne5
 have HI5:Hid (yQ w3.heap.size w5 a0 m Z):=HI4.out.below hB5 hle34
 have p0:=d0' _ hB5
 have p1:=d1' _ hB5
 have HP5:Hid (zH0 w5 b4 n K A4 rb4 rn E):=HO4.out.below hB5
 have HK5:Hid (VkW w5 w3.heap.size bx b4 n A4 rb4 rn):=HK4.out.below hB5
 have HX5:Hid (∀ W',Bw w5 W'→Blk W' bx [.int .i64 z,.int .i64 x,.int .i64 y,.int .i64 wd,.int .i64 ht,.int .i64 now,.int .i64 s,.slice (some ⟨b4,0,none⟩) n n,.slice (some ⟨rb4,0,none⟩) rn rn,.int .i64 bad]):=fun W' h=>HX4'.out W' (zA hB5 h)
 have hw5:=hB5.size
 have HB5:Hid (Bw w1 w5):=zA hB4 hB5
 clear hO5 hne5 d0' d1' HI4 HO4 HK4 hB4 hB5 HX4'
 refine (xO c _ _ _ _ _ Z _ HO5.out.is (HI5.out.is (by omega)) hm).mono ?_
 rintro e w6 ⟨rfl,hb6⟩
 have hw6:=hb6.size
 have HO6:Hid (zAi w6 w4.heap.size (.slice a1 m cap1) m Z):=HO5.out.below hb6
 have HI6:Hid (yQ w3.heap.size w6 a0 m Z):=HI5.out.below hb6 (by omega)
 have HP6:Hid (zH0 w6 b4 n K A4 rb4 rn E):=HP5.out.below hb6
 have HK6:Hid (VkW w6 w3.heap.size bx b4 n A4 rb4 rn):=HK5.out.below hb6
 have HB6:Hid (Bw w1 w6):=zA HB5.out hb6
 have g0:=zH hb6 r0
 have g1:=zH hb6 r1
 have h0:=zH hb6 p0
 have h1:=zH hb6 p1
 have hx:∀ W',Bw w6 W'→Blk W' bx [.int .i64 z,.int .i64 x,.int .i64 y,.int .i64 wd,.int .i64 ht,.int .i64 now,.int .i64 s,.slice (some ⟨b4,0,none⟩) n n,.slice (some ⟨rb4,0,none⟩) rn rn,.int .i64 bad]:=fun W' h=>HX5.out W' (zA hb6 h)
 have hv:∀ W',Bw w6 W'→Blk W' w.heap.size [.int .i64 z,.int .i64 x,.int .i64 y,.int .i64 wd,.int .i64 ht,.int .i64 now,.int .i64 s,.slice a n cap,.slice ra rn rc,.int .i64 bad]:=fun W' h=>HV1.out W' (zA HB6.out h)
 have HX6:Hid (∀ W',Bw w6 W'→Blk W' bx [.int .i64 z,.int .i64 x,.int .i64 y,.int .i64 wd,.int .i64 ht,.int .i64 now,.int .i64 s,.slice (some ⟨b4,0,none⟩) n n,.slice (some ⟨rb4,0,none⟩) rn rn,.int .i64 bad]):=hx
 obtain ⟨x0,x1,x2,x3,x4,x5,x6,x7,x8,x9⟩:=Blk.g10 (b:=w6.heap.size) (v:=w6) fun W' h=>(hx W' h)
 obtain ⟨v0,v1,v2,v3,v4,v5,v6,v7,v8,v9⟩:=Blk.g10 (b:=w6.heap.size) (v:=w6) fun W' h=>(hv W' h)
 clear r0 r1 p0 p1 hb6 HO5 HI5 HP5 HK5 HB5 HX5 hx hv
 go_wp2_with fail
 refine wp_region_noPanic ?_
 refine wp_region_held_drew (S:=fun W'=>Bw w6 W') (by kernel_rfl) (by have:=Below.refl w6.heap.size w6;exact Qb) (fun hHeld=>?_)
 have hX0:Bw w6 w6.drew:=hHeld
 refine zC (i:=0) (d:=some 27) rfl rfl ?_
 try simp only [Act.put,Qx,Qy,Qz]
 refine zC (i:=1) (d:=some 28) rfl rfl ?_
 try simp only [Act.put,Qx,Qy,Qz]
 generalize w6.drew=wk0 at *
 refine zN 2 fun K hK=>?_
 rw [if_pos (by rfl)]
 go_simp
 refine Calls.mono (HTo.out _ (zA HB6.out hX0)) ?_
 rintro e wk1 ⟨bq,Aq,rq,rfl,hge,hgr,hOq,_,hb1⟩
 have hX1:Bw w6 wk1:=zA hX0 hb1
 go_wp2_with fail
 refine hK.out _ _ (by assumption) (fun hHeld=>?_)
 clear hK K
 try simp only [Act.put,Qx,Qy,Qz]
 refine zN 3 fun K hK=>?_
 rw [if_pos (by rfl)]
 go_simp
 refine Calls.mono (HEq.out _ _ _ _ _ _ _ (HP6.out.below hX1) hOq) ?_
 rintro e wk2 ⟨rfl,hb2⟩
 have hX2:Bw w6 wk2:=zA hX1 hb2
 go_wp2_with fail
 refine hK.out _ _ (by assumption) (fun hHeld=>?_)
 clear hK K
 try simp only [Act.put,Qx,Qy,Qz]
 refine zC (i:=4) (d:=some 31) rfl rfl ?_
 try simp only [Act.put,Qx,Qy,Qz]
 refine wpAnyH_done (by kernel_rfl) ?_ _
 refine NoPanic.normal ?_
 have HB8:Hid (Bw w6 wk2):=hX2
 have hsk2:=HB8.out.size
 have HO8:Hid (zAi wk2 w4.heap.size (.slice a1 m cap1) m Z):=HO6.out.below HB8.out
 have HI8:Hid (yQ w3.heap.size wk2 a0 m Z):=HI6.out.below HB8.out (by omega)
 have HK8:Hid (VkW wk2 w3.heap.size bx b4 n A4 rb4 rn):=HK6.out.below HB8.out
 have HB8w:Hid (Bw w1 wk2):=zA HB6.out HB8.out
 have i0:=zH HB8.out g0
 have i1:=zH HB8.out g1
 have j0:=zH HB8.out h0
 have j1:=zH HB8.out h1
 have hx8:=HX6.out wk2 HB8.out
 have HMk:Hid (Calls Tryz.prog 19 #[vwV z x y wd ht now s (.slice (some ⟨b4,0,none⟩) n n) (.slice (some ⟨rb4,0,none⟩) rn rn) bad,.int .i64 1] wk2 fun e w'=>(∃ q:Nat,e=.returned (.int .i64 (q:Int)))∧zW w3.heap.size bx wk2 w'):=zFd z x y wd ht now s _ _ b4 n A4 rb4 rn bad wk2 HK8.out (HP6.out.1.small HS.out) hrn
 clear x0 v0 x1 v1 x2 v2 x3 v3 x4 v4 x5 v5 x6 v6 x7 v7 x8 v8 x9 v9 g0 g1 h0 h1 hX0 hb1 hX1 hb2 hX2 hOq hge hgr HO6 HI6 HK6 HP6 HB6 HX6 HEq HK8 HB8
 obtain ⟨x0,x1,x2,x3,x4,x5,x6,x7,x8,x9⟩:=Blk.c10 hx8
 clear hx8
 go_wp2_with fail
 refine Calls.mono HMk.out ?_
 rintro e wa ⟨⟨qn,rfl⟩,hGa⟩
 have hqn:¬ ((qn:Nat):Int)<0:=by omega
 have hwa:=hGa.size
 have l0:wa.cell? ⟨b9,0,none⟩=some (.int .i64 c):=hGa.cell i0 (.inr (by omega))
 have l1:wa.cell? ⟨b9,1,none⟩=some (.slice a1 m cap1):=hGa.cell i1 (.inr (by omega))
 have m0:wa.cell? ⟨b7,0,none⟩=some (.int .i64 c):=hGa.cell j0 (.inl (by omega))
 have m1:wa.cell? ⟨b7,1,none⟩=some (.slice a0 m cap0):=hGa.cell j1 (.inl (by omega))
 have HOa:Hid (zAi wa w4.heap.size (.slice a1 m cap1) m Z):=HO8.out.midV hGa (by omega)
 have HIa:Hid (yQ w3.heap.size wa a0 m Z):=HI8.out.midV hGa (Nat.le_refl _)
 have HBa:Hid (Bw w1 wa):=HB8w.out.trans ((hGa.below (by omega)).mono (by omega))
 clear x0 x1 x2 x3 x4 x5 x6 x7 x8 x9 i0 i1 j0 j1 hGa HO8 HI8 HMk HB8w
 go_wp2_with fail
 refine (xO c _ _ _ _ _ Z _ HOa.out.is (HIa.out.is (by omega)) hm).mono ?_
 rintro e wb ⟨rfl,hbb⟩
 have g0:=zH hbb l0
 have g1:=zH hbb l1
 have h0:=zH hbb m0
 have h1:=zH hbb m1
 have hwb:=hbb.size
 have HOb:Hid (zAi wb w4.heap.size (.slice a1 m cap1) m Z):=HOa.out.below hbb
 have HIb:Hid (yQ w3.heap.size wb a0 m Z):=HIa.out.below hbb (by omega)
 have HBb:Hid (Bw w1 wb):=zA HBa.out hbb
 clear l0 l1 m0 m1 HOa HIa HBa hbb
 obtain ⟨row,hrow,Hmark⟩:=zPs c w4.heap.size m cap1 a1 Z wb HOb.out hm
 have Hmark':=(show Hid _ from Hmark)
 have Hrow:Hid (∀ s,row=some s→w4.heap.size≤s∧s≠b9):=fun s hs=>⟨(hrow s hs).1,HNE.out s (hrow s hs).2.1 (hrow s hs).2.2⟩
 clear Hmark hrow
 have hqm:¬ ((1+5 * m:Nat):Int)<0:=by omega
 have Hheld:Hid (∀ w,zAi w w4.heap.size (.slice a1 m cap1) m (mkP 1)→Calls Tryz.prog 26 #[.agg #[.int .i64 c,.slice a1 m cap1],.int .i64 1] w fun e w'=>e=.returned (.int .i64 ((1+5 * m:Nat):Int))∧Bw w w'):=fun w h=>zBe c a1 m cap1 w h.is hm
 generalize ((1+5 * m:Nat):Int)=qm at *
 go_wp2_with fail
 refine Calls.mono Hmark'.out ?_
 rintro e wc ⟨rfl,hGc,hOc⟩
 have hwc:=hGc.size
 have l0:wc.cell? ⟨b9,0,none⟩=some (.int .i64 c):=uY hGc g0 (fun s hs=>by have:=Hrow.out s hs;omega)
 have l1:wc.cell? ⟨b9,1,none⟩=some (.slice a1 m cap1):=uY hGc g1 (fun s hs=>by have:=Hrow.out s hs;omega)
 have m0:wc.cell? ⟨b7,0,none⟩=some (.int .i64 c):=uY hGc h0 (fun s hs=>by have:=Hrow.out s hs;omega)
 have m1:wc.cell? ⟨b7,1,none⟩=some (.slice a0 m cap0):=uY hGc h1 (fun s hs=>by have:=Hrow.out s hs;omega)
 have HOc:Hid (zAi wc w4.heap.size (.slice a1 m cap1) m (mkP 1)):=hOc
 have HIc:Hid (yQ w3.heap.size wc a0 m Z):=HIb.out.row hGc (fun s hs=>by have:=Hrow.out s hs;omega)
 have HBc:Hid (Bw w1 wc):=HBb.out.trans (zQy hGc (fun s hs=>by have:=Hrow.out s hs;omega) (by omega))
 clear g0 g1 h0 h1 hOc hGc HBb HIb HOb Hmark'
 go_wp2_with fail
 refine (Hheld.out _ HOc.out).mono ?_
 rintro e wd' ⟨rfl,hbd⟩
 have hwd:=hbd.size
 have g0:=zH hbd l0
 have g1:=zH hbd l1
 have h0:=zH hbd m0
 have h1:=zH hbd m1
 have HOd:Hid (zAi wd' w4.heap.size (.slice a1 m cap1) m (mkP 1)):=HOc.out.below hbd
 have HId:Hid (yQ w3.heap.size wd' a0 m Z):=HIc.out.below hbd (by omega)
 have HBd:Hid (Bw w1 wd'):=zA HBc.out hbd
 have hvd:=HV1.out wd' HBd.out
 obtain ⟨v0,v1,v2,v3,v4,v5,v6,v7,v8,v9⟩:=Blk.c10 hvd
 clear l0 l1 m0 m1 HOc HIc HBc hbd hvd
 go_wp2_with fail
 refine Calls.mono (HTo.out _ HBd.out) ?_
 rintro e we ⟨be,Ae,re,rfl,_,_,hpe,_,hbe⟩
 have HPe:Hid (zH0 we be n K Ae re rn E):=hpe
 clear v0 v1 v2 v3 v4 v5 v6 v7 v8 v9 hpe
 go_wp2_with fail
 refine (Him.out _ _ _ _ HPe.out).mono ?_
 rintro e wf ⟨vf,rfl,hOf,hbf⟩
 obtain ⟨af,capf,rfl,hcf,hIf⟩:=hOf.pts
 have hbdf:=zA hbe hbf
 have l0:=zH hbdf g0
 have l1:=zH hbdf g1
 have m0:=zH hbdf h0
 have m1:=zH hbdf h1
 have hwf:=hbdf.size
 have HOf:Hid (zAi wf w4.heap.size (.slice a1 m cap1) m (mkP 1)):=HOd.out.below hbdf
 have HIf:Hid (yQ w3.heap.size wf a0 m Z):=HId.out.below hbdf (by omega)
 have HBf:Hid (Bw w1 wf):=zA HBd.out hbdf
 have HJf:Hid (zDc wf af m Z):=hIf
 have lm:b7<wf.heap.size:=World.block_lt_of_cell? _ _ m0
 have ll:b9<wf.heap.size:=World.block_lt_of_cell? _ _ l0
 clear g0 g1 h0 h1 HOd HId HBd hbdf hIf hOf hbe hbf HPe Him HTo
 go_wp2_with fail
 generalize hWx:(wf.alloc _:World)=wx
 have hbx':Bw wf wx:=by subst hWx;exact Qb
 clear hWx
 have k0:=zH hbx' l0
 have k1:=zH hbx' l1
 have hwx:=hbx'.size
 refine (xO c _ _ _ _ _ Z _ (HJf.out.below hbx') ((HIf.out.below hbx' (by omega)).is (by omega)) hm).mono ?_
 rintro e wh ⟨rfl,hbh⟩
 have hbfh:=zA hbx' hbh
 have HOh:Hid (zAi wh w4.heap.size (.slice a1 m cap1) m (mkP 1)):=HOf.out.below hbfh
 have HBh:Hid (Bw w1 wh):=zA HBf.out hbfh
 have s0:=zH hbh k0
 have s1:=zH hbh k1
 clear l0 l1 m0 m1 k0 k1 HOf HIf HBf HJf hbfh hbx' hbh
 go_wp2_with fail
 refine (Hheld.out _ HOh.out).mono ?_
 rintro e wi ⟨rfl,hbi'⟩
 have HBi:Hid (Bw w wi):=zA HBw.out (zA HBh.out hbi')
 clear hbi'
 go_wp2
 go_ret
 exact ⟨rfl,HBi.out⟩
end Go.Proofs.YtpaiholildedcaaGreat
