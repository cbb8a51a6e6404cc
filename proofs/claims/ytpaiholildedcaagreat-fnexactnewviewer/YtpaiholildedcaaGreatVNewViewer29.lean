/- Texts. -/
import Derived.Test.YtpaiholildedcaaGreatVNewViewer28
set_option linter.unusedSimpArgs false
set_option linter.unusedVariables false
set_option maxRecDepth 100000
set_option maxHeartbeats 32000000
namespace Go.Proofs.YtpaiholildedcaaGreat
open Go.RowKit
theorem map_ne {w:World}{k:TypeId}{mb n p:Nat}{D:DataW Value}{v:Value}(h:w.ownsMap Tryz.prog k RV mb n D)(hc:w.cell? ⟨p,0,none⟩=some v):mb≠p:=fun e=>by
 subst e
 obtain ⟨es,clock,hb,_⟩:=h
 simp [World.cell?,hb] at hc
theorem ShM.but {w w':World}{sp mb:Nat}{s t:Int}{L:List Ag}(h:ShM w sp s t mb L)(h1:w'.heap[sp]?=w.heap[sp]?)(h2:w'.heap[mb]?=w.heap[mb]?):ShM w' sp s t mb L:=by
 obtain ⟨⟨a0,a1,a2⟩,hT,D,⟨es,clock,hb,F,hs,hD⟩,hR⟩:=h
 exact ⟨⟨(World.cell?_of_block (a:=⟨sp,0,none⟩) h1).trans a0,(World.cell?_of_block (a:=⟨sp,1,none⟩) h1).trans a1,(World.cell?_of_block (a:=⟨sp,2,none⟩) h1).trans a2⟩,zIf hT h1,D,⟨es,clock,h2.trans hb,F,hs,hD⟩,hR⟩
theorem Blk.but {w w':World}{q:Nat}{l:List Value}(h:Blk w q l)(he:w'.heap[q]?=w.heap[q]?):Blk w' q l:=fun i u hi=>⟨(World.cell?_of_block (a:=⟨q,i,none⟩) he).trans (h i u hi).1,(World.frozen?_of_block (a:=⟨q,i,none⟩) he).trans (h i u hi).2⟩
def LkT (w:World)(T B p:Nat)(z x y wd ht now s t:Int)(L:List Ag)(rv:Value)(bad:Int)(sv:Value):Prop :=
 ∃ sp mb,(B≤p∧p<T)∧(B≤sp∧sp<T)∧(B≤mb∧mb<T)∧T≤w.heap.size∧Blk w p (lkL z x y wd ht now (.pointer (some ⟨sp,0,none⟩)) rv bad sv)∧ShM w sp s t mb L∧sp≠p∧mb≠p
theorem LkT.below {w w':World}{T B p:Nat}{z x y wd ht now s t:Int}{L:List Ag}{rv:Value}{bad:Int}{sv:Value}(h:LkT w T B p z x y wd ht now s t L rv bad sv)(hb:Below T w w'):LkT w' T B p z x y wd ht now s t L rv bad sv:=by
 obtain ⟨sp,mb,h1,h2,h3,h4,h5,h6,h7⟩:=h
 exact ⟨sp,mb,h1,h2,h3,Nat.le_trans h4 hb.size,h5.but (hb.block p h1.2),h6.but (hb.block sp h2.2) (hb.block mb h3.2),h7⟩
theorem LkA.t {w:World}{B p:Nat}{z x y wd ht now s:Int}{n:Nat}{A:Nat→Kp}{ra:Option Addr}{rn rc:Nat}{bad:Int}(h:LkA w B p z x y wd ht now s n A ra rn rc bad)(h0:∀ j,j<n→kC A j=0):LkT w w.heap.size B p z x y wd ht now s (n:Int) (agL A n) (.slice ra rn rc) bad (.slice none 0 0):=by
 obtain ⟨hB,sp,hV,hK,hne⟩:=h
 obtain ⟨mb,D,h1,h2,h3,h4,h5,h6⟩:=(hK.shf h0)
 have hm:mb≠p:=map_ne h5 (hV.cell 0 rfl)
 exact ⟨sp,mb,⟨hB,hV.lt⟩,⟨h1,World.block_lt_of_cell? _ _ h3.1⟩,⟨h2,h5.lt⟩,Nat.le_refl _,hV,⟨h3,h4,D,h5,h6⟩,hne,hm⟩
def vaZ (c:Int):Va:=⟨c,false,0,⟨fun _=>0,fun _=>0,fun _=>0⟩,0,0,0,0,0,0,0,0,fun _=>⟨0,0,0,none,0,0,fun _=>⟨0,0,0,0,none,0,0,fun _=>0,fun _=>0,⟨#[]⟩,0⟩,none,0,0,fun _=>0⟩,0,fun _=>⟨0,0,0,0,0⟩,0⟩
def vmZ:Vm:=⟨none,0,none,0,fun _=>⟨0,0,0,none,0,0,fun _=>⟨0,0,0,0,none,0,0,fun _=>0,fun _=>0,⟨#[]⟩,0⟩,none,0,0,fun _=>0⟩,none,0⟩
theorem zA3.zero (lo hi:Nat)(w:World)(c:Int)(h1:lo≤hi)(h2:hi≤w.heap.size):zA3 lo hi w (vaZ c) vmZ:=⟨lo,lo,Nat.le_refl _,Nat.le_refl _,h1,h2,.inl rfl,.inl rfl,.inl rfl,.inl rfl⟩
theorem zC7.zero (w:World)(c:Int):zC7 w (vaZ c) vmZ:=⟨.inl rfl,.inl rfl,.inl rfl⟩
theorem zK5.zero (c:Int):zK5 (vaZ c):=⟨Nat.zero_le _,Nat.zero_le _,⟨Nat.zero_le _,fun i hi=>absurd hi (Nat.not_lt_zero _)⟩,Nat.zero_le _⟩
theorem zA3.upper {lo hi hi':Nat}{w:World}{v:Va}{u:Vm}(h:zA3 lo hi w v u)(h1:hi≤hi')(h2:hi'≤w.heap.size):zA3 lo hi' w v u:=by
 obtain ⟨l,q,a1,a2,a3,a4,a5,a6,a8,a7⟩:=h
 exact ⟨l,q,a1,a2,by omega,h2,a5,a6,a8,a7.wide (Nat.le_refl _) h1⟩
theorem vG.but {w w':World}{b off n:Nat}{E:Nat→Req}(h:vG w b off n E)(he:w'.heap[b]?=w.heap[b]?):vG w' b off n E:=fun i hi=>by
 obtain ⟨h0,h1,h2,h3,h4⟩:=h i hi
 exact ⟨(World.cell?_of_block (a:=⟨b,_,none⟩) he).trans h0,(World.cell?_of_block (a:=⟨b,_,none⟩) he).trans h1,(World.cell?_of_block (a:=⟨b,_,none⟩) he).trans h2,(World.cell?_of_block (a:=⟨b,_,none⟩) he).trans h3,(World.cell?_of_block (a:=⟨b,_,none⟩) he).trans h4⟩
theorem LkT.sent {w w':World}{T B p:Nat}{z x y wd ht now s t:Int}{L:List Ag}{rv rv':Value}{bad:Int}{sv sv' pv:Value}(h:LkT w T B p z x y wd ht now s t L rv bad sv)(hob:∀ g,sv.ownBlock=some g→T≤g)(hBu:But p sv.ownBlock w w')(hsz:w.heap.size≤w'.heap.size)(hp:w.cell? ⟨p,6,none⟩=some pv)(hV:Blk w' p (lkL z x y wd ht now pv rv' bad sv')):LkT w' T B p z x y wd ht now s t L rv' bad sv':=by
 obtain ⟨sp,mb,h1,h2,h3,h4,h5,h6,h7,h8⟩:=h
 have e:pv=.pointer (some ⟨sp,0,none⟩):=by
  have:=h5.cell 6 rfl
  rw [hp] at this
  injection this
 subst e
 exact ⟨sp,mb,h1,h2,h3,Nat.le_trans h4 hsz,hV,h6.but (hBu sp (by omega) h7 (fun e=>by have:=hob sp e.symm;omega)) (hBu mb (by omega) h8 (fun e=>by have:=hob mb e.symm;omega)),h7,h8⟩
theorem zJx {T:Array Value}{Wf:World}{r:Nat}{v:Va}{u:Vm}(hT:T[2]?.getD undef=.pointer (some ⟨r,0,none⟩))(h:Blk Wf r (vaL v u)) :
  (results Tryz.f36 T).run Tryz.prog Wf=.ok (vaV v u) Wf:=by
 obtain ⟨h0,h1,h2,h3,h4,h5,h6,h7,h8,h9,h10,h11,h12⟩:=Blk.c13 h
 simp [results,Tryz.results36,go_sem,hT,h0,h1,h2,h3,h4,h5,h6,h7,h8,h9,h10,h11,h12]
theorem zLa (T B p:Nat)(z x y wd ht now s t:Int)(L:List Ag)(KL:Nat→Kp)(ra:Option Addr)(rn rc:Nat)(E:Nat→Req)(bad:Int)(sv:Value)(sl:List Req)(w:World)(hV:LkT w T B p z x y wd ht now s t L (.slice ra rn rc) bad sv)(hs:yA T w sv sl)(hr:xV w ra rn E)(hra:(∃ ad,ra=some ad)∨ra=none∧rc=0)(hrn:rn≤1000)(hL:L.length≤100)(hK:∀ i a,L[i]?=some a→∃ t,a=agK (KL i) t)(hsrc:∀ i,i<L.length→zH9 w (KL i)) :
  Calls Tryz.prog 36 #[.pointer (some ⟨p,0,none⟩)] w fun e w'=>∃ u,e=.returned (vaV ⟨0,false,sl.length,yS sl,z,x,y,wd,ht,now,s,L.length,KL,rn,E,bad⟩ u)∧zA3 T w'.heap.size w' ⟨0,false,sl.length,yS sl,z,x,y,wd,ht,now,s,L.length,KL,rn,E,bad⟩ u∧Bw w w':=by
 obtain ⟨i0,hi,hz0,hz1,hz2⟩:=info_parts vS
 obtain ⟨sp,mb,⟨hBp,hpT⟩,⟨hBs,hsT⟩,⟨hBm,hmT⟩,hTw,hV,hM,hne1,hne2⟩:=hV
 obtain ⟨sa,sc,hsv⟩:∃ a c,sv=.slice a sl.length c:=by
  rcases hs.slice' with ⟨e1,e2⟩ | ⟨g,c,e,_⟩
  ·exact ⟨none,0,by rw [e1,e2];rfl⟩
  ·exact ⟨_,_,e⟩
 subst hsv
 have HS:Hid (OwT T w.heap.size w sa sl.length (yS sl)):=hs.own.ow
 have HR:Hid (xV w ra rn E):=hr
 have HRA:Hid ((∃ ad,ra=some ad)∨ra=none∧rc=0):=hra
 have hpl:p<w.heap.size:=hV.lt
 have HVr:Hid (∀ W',Bw w W'→Blk W' p (lkL z x y wd ht now (.pointer (some ⟨sp,0,none⟩)) (.slice ra rn rc) bad (.slice sa sl.length sc))):=fun W' h=>hV.below hpl h
 have HCa:Hid (∀ W',Bw w W'→Calls Tryz.prog 84 #[.pointer (some ⟨sp,0,none⟩)] W' fun e w'=>∃ a c R,e=.returned (caV s (.slice a L.length c))∧uD w' W'.heap.size a L.length KL R∧Below W'.heap.size W' w'):=fun W' h =>
  zDb B sp s t L KL W' ((hM.f hBs hBm).below h) hL hK (fun i hi=>(hsrc i hi).below h)
 have HRw:Hid (∀ W',Bw w W'→∀ ad q u,ra=some ad→(zV (zM rn E))[q]?=some u→W'.cell? (ad.add q)=some u):=fun W' h ad q u e hq=>by
  rcases hr.below h with h0 | ⟨b,off,e',hbl,hpt⟩
  ·subst h0;simp [zM,zV] at hq
  ·rw [e] at e';injection e' with e';subst e'
   have h1:=zEg hpt q u hq
   by_cases hq0:q=0
   ·subst hq0;simpa [Addr.add] using h1
   ·simpa [Addr.add,hq0] using h1
 clear hV hM hr hs hra hsrc hK
 go_enter Tryz.func36,Tryz.ntmps36
 go_wp2_with fail
 generalize hW:(w.alloc _:World)=W
 have HB0:Hid (Bw w W):=by show Below _ _ _;subst hW;exact Qb
 have HRs:Hid (Blk W w.heap.size [.int .i64 0,.bool false,.slice none 0 0,.int .i64 0,.int .i64 0,.int .i64 0,.int .i64 0,.int .i64 0,.int .i64 0,.int .i64 0,.slice none 0 0,.slice none 0 0,.int .i64 0]):=by show Blk _ _ _;subst hW;exact Blk.new _ _ _
 have hWs:W.heap.size=w.heap.size+1:=by subst hW;simp
 have HWs:Hid (W.heap.size=w.heap.size+1):=hWs
 clear hW hWs
 obtain ⟨ce0,ce1,ce2,ce3,ce4,ce5,ce6,ce7,ce8,ce9⟩:=Blk.g10 (b:=w.heap.size) (v:=w) fun W' h=>(HVr.out W' h)
 refine wp_region_noPanic ?_
 refine wp_region_held_drew (S:=fun W'=>Bw w W') (by kernel_rfl) (by have:=HB0.out;exact Qb) (fun hHeld=>?_)
 have hX0:Bw w W.drew:=hHeld
 refine zE (i:=0) (d:=some 3) rfl rfl ?_
 try simp only [Act.put,Qx,Qy,Qz]
 refine zE (i:=1) (d:=some 4) rfl rfl ?_
 try simp only [Act.put,Qx,Qy,Qz]
 refine zE (i:=2) (d:=some 5) rfl rfl ?_
 try simp only [Act.put,Qx,Qy,Qz]
 refine zE (i:=3) (d:=some 6) rfl rfl ?_
 try simp only [Act.put,Qx,Qy,Qz]
 refine zE (i:=4) (d:=some 7) rfl rfl ?_
 try simp only [Act.put,Qx,Qy,Qz]
 refine zE (i:=5) (d:=some 8) rfl rfl ?_
 try simp only [Act.put,Qx,Qy,Qz]
 refine zE (i:=6) (d:=some 9) rfl rfl ?_
 try simp only [Act.put,Qx,Qy,Qz]
 refine zE (i:=7) (d:=some 10) rfl rfl ?_
 try simp only [Act.put,Qx,Qy,Qz]
 refine zE (i:=8) (d:=some 11) rfl rfl ?_
 try simp only [Act.put,Qx,Qy,Qz]
 refine zE (i:=9) (d:=some 12) rfl rfl ?_
 try simp only [Act.put,Qx,Qy,Qz]
 refine zE (i:=10) (d:=some 13) rfl rfl ?_
 try simp only [Act.put,Qx,Qy,Qz]
 refine zE (i:=11) (d:=some 14) rfl rfl ?_
 try simp only [Act.put,Qx,Qy,Qz]
 refine zE (i:=12) (d:=some 15) rfl rfl ?_
 try simp only [Act.put,Qx,Qy,Qz]
 refine zE (i:=13) (d:=some 16) rfl rfl ?_
 try simp only [Act.put,Qx,Qy,Qz]
 refine zE (i:=14) (d:=some 17) rfl rfl ?_
 try simp only [Act.put,Qx,Qy,Qz]
 refine zE (i:=15) (d:=some 18) rfl rfl ?_
 try simp only [Act.put,Qx,Qy,Qz]
 refine zE (i:=17) (d:=some 20) rfl rfl ?_
 try simp only [Act.put,Qx,Qy,Qz]
 refine zE (i:=18) (d:=some 21) rfl rfl ?_
 try simp only [Act.put,Qx,Qy,Qz]
 refine zE (i:=19) (d:=some 22) rfl rfl ?_
 try simp only [Act.put,Qx,Qy,Qz]
 refine zE (i:=20) (d:=some 23) rfl rfl ?_
 try simp only [Act.put,Qx,Qy,Qz]
 refine zE (i:=22) (d:=some 25) rfl rfl ?_
 try simp only [Act.put,Qx,Qy,Qz]
 refine zE (i:=23) (d:=some 26) rfl rfl ?_
 try simp only [Act.put,Qx,Qy,Qz]
 refine zE (i:=24) (d:=some 27) rfl rfl ?_
 try simp only [Act.put,Qx,Qy,Qz]
 refine zE (i:=25) (d:=some 28) rfl rfl ?_
 try simp only [Act.put,Qx,Qy,Qz]
 have hb0:Bw W W.drew:=Below.drew (Below.refl _ _)
 generalize W.drew=wk0 at *
 refine zN 16 fun K hK=>?_
 rw [if_pos (by rfl)]
 go_simp
 refine Calls.mono (HCa.out _ hX0) ?_
 rintro e wk1 ⟨a2,c2,R2,rfl,hN,hb1⟩
 have hX1:Bw w wk1:=zB hX0 hb1
 have hk0:W.heap.size≤wk0.heap.size:=hb0.size
 have hN1:uD wk1 W.heap.size a2 L.length KL R2:=hN.imp id fun ⟨g,M,e,hg,h⟩=>⟨g,M,e,by omega,h⟩
 have HN:Hid (uD wk1 W.heap.size a2 L.length KL R2∧CrW wk1 W.heap.size wk1.heap.size a2 L.length R2):=⟨hN1,hN1.crw⟩
 have HR1:Hid (Blk wk1 w.heap.size [.int .i64 0,.bool false,.slice none 0 0,.int .i64 0,.int .i64 0,.int .i64 0,.int .i64 0,.int .i64 0,.int .i64 0,.int .i64 0,.slice none 0 0,.slice none 0 0,.int .i64 0]):=HRs.out.below (by rw [HWs.out];omega) (zB hb0 hb1)
 have HS1:Hid (OwT T w.heap.size wk1 sa sl.length (yS sl)):=HS.out.mid (zI.of_below (lo:=0) (hi:=0) hX1) (.inl (Nat.zero_le _))
 have hk1:W.heap.size≤wk1.heap.size:=Nat.le_trans hk0 hb1.size
 go_wp2_with fail
 refine hK.out _ _ hX1 (fun hHeld=>?_)
 clear hK K hN hN1 hb1 hb0 HCa HS
 try simp only [Act.put,Qx,Qy,Qz]
 have key:∀ (a3:Option Addr) (c3:Nat) (w3:World),Bw wk1 w3→OwR wk1.heap.size w3.heap.size w3 a3 rn E→Bw w w3→∃ wF,wF=((((((((((((w3.setCell ⟨w.heap.size,0,none⟩ (.int .i64 0)).setCell ⟨w.heap.size,1,none⟩ (.bool false)).setCell ⟨w.heap.size,2,none⟩ (.slice sa sl.length sc)).setCell ⟨w.heap.size,3,none⟩ (.int .i64 z)).setCell ⟨w.heap.size,4,none⟩ (.int .i64 x)).setCell ⟨w.heap.size,5,none⟩ (.int .i64 y)).setCell ⟨w.heap.size,6,none⟩ (.int .i64 wd)).setCell ⟨w.heap.size,7,none⟩ (.int .i64 ht)).setCell ⟨w.heap.size,8,none⟩ (.int .i64 now)).setCell ⟨w.heap.size,9,none⟩ (.int .i64 s)).setCell ⟨w.heap.size,10,none⟩ (.slice a2 L.length c2)).setCell ⟨w.heap.size,11,none⟩ (.slice a3 rn c3)).setCell ⟨w.heap.size,12,none⟩ (.int .i64 bad)∧Blk wF w.heap.size (vaL ⟨0,false,sl.length,yS sl,z,x,y,wd,ht,now,s,L.length,KL,rn,E,bad⟩ ⟨sa,sc,a2,c2,R2,a3,c3⟩)∧zA3 T wF.heap.size wF ⟨0,false,sl.length,yS sl,z,x,y,wd,ht,now,s,L.length,KL,rn,E,bad⟩ ⟨sa,sc,a2,c2,R2,a3,c3⟩∧Bw w wF:=fun a3 c3 w3 hb3 hO3 hX3=>by
  have hR3:=HR1.out.below HR1.out.lt hb3
  have hMM:zI w.heap.size (w.heap.size+1) w3 (((((((((((((w3.setCell ⟨w.heap.size,0,none⟩ (.int .i64 0)).setCell ⟨w.heap.size,1,none⟩ (.bool false)).setCell ⟨w.heap.size,2,none⟩ (.slice sa sl.length sc)).setCell ⟨w.heap.size,3,none⟩ (.int .i64 z)).setCell ⟨w.heap.size,4,none⟩ (.int .i64 x)).setCell ⟨w.heap.size,5,none⟩ (.int .i64 y)).setCell ⟨w.heap.size,6,none⟩ (.int .i64 wd)).setCell ⟨w.heap.size,7,none⟩ (.int .i64 ht)).setCell ⟨w.heap.size,8,none⟩ (.int .i64 now)).setCell ⟨w.heap.size,9,none⟩ (.int .i64 s)).setCell ⟨w.heap.size,10,none⟩ (.slice a2 L.length c2)).setCell ⟨w.heap.size,11,none⟩ (.slice a3 rn c3)).setCell ⟨w.heap.size,12,none⟩ (.int .i64 bad)):=((((((((((((((zI.refl _ _ _).set (Nat.le_refl _) (Nat.lt_succ_self _) _ _).set (Nat.le_refl _) (Nat.lt_succ_self _) _ _).set (Nat.le_refl _) (Nat.lt_succ_self _) _ _).set (Nat.le_refl _) (Nat.lt_succ_self _) _ _).set (Nat.le_refl _) (Nat.lt_succ_self _) _ _).set (Nat.le_refl _) (Nat.lt_succ_self _) _ _).set (Nat.le_refl _) (Nat.lt_succ_self _) _ _).set (Nat.le_refl _) (Nat.lt_succ_self _) _ _).set (Nat.le_refl _) (Nat.lt_succ_self _) _ _).set (Nat.le_refl _) (Nat.lt_succ_self _) _ _).set (Nat.le_refl _) (Nat.lt_succ_self _) _ _).set (Nat.le_refl _) (Nat.lt_succ_self _) _ _).set (Nat.le_refl _) (Nat.lt_succ_self _) _ _)
  refine ⟨_,rfl,((((((((((((hR3.set 0 _).set 1 _).set 2 _).set 3 _).set 4 _).set 5 _).set 6 _).set 7 _).set 8 _).set 9 _).set 10 _).set 11 _).set 12 _,?_,hX3.trans (hMM.below hX3.size)⟩
  have hM0:zI 0 0 wk1 w3:=zI.of_below hb3
  have hs3:=hb3.size
  have hw1:=HWs.out
  refine ⟨W.heap.size,wk1.heap.size,by omega,hk1,Nat.le_trans hs3 hMM.size,Nat.le_refl _,((HS1.out.mid hM0 (.inl (Nat.zero_le _))).mid hMM (.inr (Nat.le_refl _))).wide (Nat.le_refl _) (by omega),(HN.out.1.below hb3).mid hMM (by omega),(HN.out.2.mid hM0 (Nat.zero_le _)).mid hMM (by omega),(hO3.mid hMM (.inl (by omega))).wide (Nat.le_refl _) hMM.size⟩
 have KEY:=(show Hid _ from key)
 rcases HRA.out with ⟨ad,rfl⟩ | ⟨rfl,rfl⟩
 ·refine zN 21 fun K hK=>?_
  refine zP rfl (.const (.slice none 0 0)) (.tmp 23) 29 rfl wk1.heap.size 134 i0 (.agg #[.int .i64 0,.int .i64 0,.int .i64 0,.int .i64 0,.int .i64 0]) 5 40 Tryz.underlying29 hi hz0 hz1 hz2 rfl (by decide) (.slice none 0 0) 0 [] rfl (World.ownsRow_nil _ _ _ _) ad rn rc (zV (zM rn E)) rfl ?c0 (fun q u hq=>HRw.out wk1 hX1 ad q u rfl hq) (vU _) ?c3 ?c4 (Nat.le_refl _) ?_
  case c0=>rw [xT,yB]
  case c3=>unfold maxLen;omega
  case c4=>omega
  intro v' w3 hown' hgrow hnil
  clear hnil
  have hrow:zX wk1.heap.size w3 v' (zM rn E):=by
   show World.ownsRow _ _ _ _ _ _ _
   rw [yB]
   simpa using hown'
  have hb3:Bw wk1 w3:=⟨hgrow.os,hgrow.tape,hgrow.output,hgrow.size,fun k hk=>hgrow.block k hk (by simp [Value.ownBlock])⟩
  have hown:=hrow.own
  rw [yB] at hown
  obtain ⟨a3,c3,hv3,_⟩:=id hown
  subst hv3
  have hO3:OwR wk1.heap.size w3.heap.size w3 a3 rn E:=(zCb.ow hown).imp id fun ⟨b,e,h1,h2,h3,h4⟩=>⟨b,e,h1,h2,fun i hi=>by have:=h3 i hi;rw [zHx _ _ _ hi] at this;exact this,h4⟩
  have hX3:Bw w w3:=zB hX1 hb3
  clear hown' hgrow hrow hown
  show K (Act.put _ (some 24) _) _
  refine hK.out _ _ hX3 (fun hHeld=>?_)
  clear hK K
  try simp only [Act.put,Qx,Qy,Qz]
  refine zE (i:=26) (d:=some 29) rfl rfl ?_
  try simp only [Act.put,Qx,Qy,Qz]
  refine zE (i:=27) (d:=some 30) rfl rfl ?_
  try simp only [Act.put,Qx,Qy,Qz]
  have hR3:=HR1.out.below HR1.out.lt hb3
  obtain ⟨t0,t1,t2,t3,t4,t5,t6,t7,t8,t9,t10,t11,t12⟩:=Blk.c13 hR3
  obtain ⟨f0,f1,f2,f3,f4,f5,f6,f7,f8,f9,f10,f11,f12⟩:=Blk.f13 hR3
  obtain ⟨wF,hwF,hBk,hOw,hXF⟩:=KEY.out a3 c3 w3 hb3 hO3 hX3
  have HBk:Hid (Blk wF w.heap.size (vaL ⟨0,false,sl.length,yS sl,z,x,y,wd,ht,now,s,L.length,KL,rn,E,bad⟩ ⟨sa,sc,a2,c2,R2,a3,c3⟩)):=hBk
  have HOw:Hid (zA3 T wF.heap.size wF ⟨0,false,sl.length,yS sl,z,x,y,wd,ht,now,s,L.length,KL,rn,E,bad⟩ ⟨sa,sc,a2,c2,R2,a3,c3⟩):=hOw
  clear hBk hOw KEY
  refine zN 28 fun K hK=>?_
  rw [if_pos (by rfl)]
  go_simp
  rw [← hwF]
  refine hK.out _ _ hXF (fun hHeld=>?_)
  clear hK K hwF hR3 t0 f0 t1 f1 t2 f2 t3 f3 t4 f4 t5 f5 t6 f6 t7 f7 t8 f8 t9 f9 t10 f10 t11 f11 t12 f12
  try simp only [Act.put,Qx,Qy,Qz]
  refine wpAnyH_done (by kernel_rfl) ?_ _
  refine NoPanic.normal ?_
  clear ce0 ce1 ce2 ce3 ce4 ce5 ce6 ce7 ce8 ce9
  go_wp2_with fail
  exact bodyPost_ret (zJx (v:=⟨0,false,sl.length,yS sl,z,x,y,wd,ht,now,s,L.length,KL,rn,E,bad⟩) (u:=⟨sa,sc,a2,c2,R2,a3,c3⟩) rfl HBk.out) rfl ⟨_,rfl,HOw.out,hXF⟩
 ·obtain rfl:rn=0:=by
   rcases HR.out with h | ⟨b,off,e,_⟩
   ·exact h
   ·cases e
  refine zN 21 fun K hK=>?_
  refine vZ rfl (.const (.slice none 0 0)) (.tmp 23) 29 rfl wk1.heap.size 134 i0 5 Tryz.underlying29 hi (.slice none 0 0) 0 [] rfl (World.ownsRow_nil _ _ _ _) rfl ?_
  show K (Act.put _ (some 24) _) _
  refine hK.out _ _ hX1 (fun hHeld=>?_)
  clear hK K
  have hb3:Bw wk1 wk1:=Below.refl _ _
  have hO3:OwR wk1.heap.size wk1.heap.size wk1 (none:Option Addr) 0 E:=.inl rfl
  try simp only [Act.put,Qx,Qy,Qz]
  refine zE (i:=26) (d:=some 29) rfl rfl ?_
  try simp only [Act.put,Qx,Qy,Qz]
  refine zE (i:=27) (d:=some 30) rfl rfl ?_
  try simp only [Act.put,Qx,Qy,Qz]
  have hR3:=HR1.out.below HR1.out.lt hb3
  obtain ⟨t0,t1,t2,t3,t4,t5,t6,t7,t8,t9,t10,t11,t12⟩:=Blk.c13 hR3
  obtain ⟨f0,f1,f2,f3,f4,f5,f6,f7,f8,f9,f10,f11,f12⟩:=Blk.f13 hR3
  obtain ⟨wF,hwF,hBk,hOw,hXF⟩:=KEY.out none 0 wk1 hb3 hO3 hX1
  have HBk:Hid (Blk wF w.heap.size (vaL ⟨0,false,sl.length,yS sl,z,x,y,wd,ht,now,s,L.length,KL,0,E,bad⟩ ⟨sa,sc,a2,c2,R2,none,0⟩)):=hBk
  have HOw:Hid (zA3 T wF.heap.size wF ⟨0,false,sl.length,yS sl,z,x,y,wd,ht,now,s,L.length,KL,0,E,bad⟩ ⟨sa,sc,a2,c2,R2,none,0⟩):=hOw
  clear hBk hOw KEY
  refine zN 28 fun K hK=>?_
  rw [if_pos (by rfl)]
  go_simp
  rw [← hwF]
  refine hK.out _ _ hXF (fun hHeld=>?_)
  clear hK K hwF hR3 t0 f0 t1 f1 t2 f2 t3 f3 t4 f4 t5 f5 t6 f6 t7 f7 t8 f8 t9 f9 t10 f10 t11 f11 t12 f12
  try simp only [Act.put,Qx,Qy,Qz]
  refine wpAnyH_done (by kernel_rfl) ?_ _
  refine NoPanic.normal ?_
  clear ce0 ce1 ce2 ce3 ce4 ce5 ce6 ce7 ce8 ce9
  go_wp2_with fail
  exact bodyPost_ret (zJx (v:=⟨0,false,sl.length,yS sl,z,x,y,wd,ht,now,s,L.length,KL,0,E,bad⟩) (u:=⟨sa,sc,a2,c2,R2,none,0⟩) rfl HBk.out) rfl ⟨_,rfl,HOw.out,hXF⟩
def CrN (k0:Nat)(w:World)(B hi:Nat)(a:Option Addr)(n:Nat)(R:Nat→Kp):Prop:=n=0∨∃ g M,a=some ⟨g,0,none⟩∧B≤g∧KsM w g n R M k0∧M n≤hi
theorem CrN.mid {k0:Nat}{w w':World}{B hi l h:Nat}{a:Option Addr}{n:Nat}{R:Nat→Kp}(hc:CrN k0 w B hi a n R)(hM:zI l h w w')(ho:h≤B∨hi≤l):CrN k0 w' B hi a n R :=
 hc.imp id fun ⟨g,M,e,hB,hK,hMn⟩=>⟨g,M,e,hB,hK.mid hM (by omega),hMn⟩
theorem CrW.midV {w w':World}{B hi l h:Nat}{a:Option Addr}{n:Nat}{R:Nat→Kp}(hc:CrW w B hi a n R)(hM:zI l h w w')(ho:h≤B∨hi≤l):CrW w' B hi a n R :=
 hc.imp id fun ⟨g,M,e,hB,hK,hMn⟩=>⟨g,M,e,hB,hK.mid hM (by omega),hMn⟩
theorem CrN.below {k0:Nat}{w w':World}{B hi:Nat}{a:Option Addr}{n:Nat}{R:Nat→Kp}(hc:CrN k0 w B hi a n R)(hb:Below w.heap.size w w'):CrN k0 w' B hi a n R :=
 hc.imp id fun ⟨g,M,e,hB,hK,hMn⟩=>⟨g,M,e,hB,hK.below hb,hMn⟩
def qVa (v:Va)(u:Vm):Nat:=kK u.KR (1+3 * v.m) v.n+5 * v.rn
def zJg (w:World)(v:Va)(u:Vm):Prop:=zC4 w u.a1 v.m (mkR 1)∧(∃ l h,CrN (1+3 * v.m) w l h u.a2 v.n u.KR)∧xV w u.a3 v.rn (mkW (kK u.KR (1+3 * v.m) v.n))∧yE v.n u.KR
theorem zJg.below {w w':World}{v:Va}{u:Vm}(h:zJg w v u)(hb:Below w.heap.size w w'):zJg w' v u:=by
 obtain ⟨h1,⟨l,q,h2⟩,h3,h4⟩:=h
 exact ⟨h1.below hb,⟨l,q,h2.below hb⟩,h3.below hb,h4⟩
theorem zF3 {R:Nat→Kp}{k0 n:Nat}(h:yE n R)(h0:k0≤4000000)(hn:n≤100):k0≤kK R k0 n∧kK R k0 n≤300000000000000:=by
 have:=kK_le (k0:=k0) h n (Nat.le_refl _)
 omega
theorem zFt (k0:Nat)(B hi:Nat)(a:Option Addr)(n cap:Nat)(R:Nat→Kp)(w:World)(h:CrW w B hi a n R)(hs:yE n R)(h0:0<k0)(hk0:k0≤1000000000):Calls Tryz.prog 101 #[.slice a n cap,.int .i64 (k0:Int)] w fun e w'=>e=.returned (.int .i64 ((kK R k0 n:Nat):Int))∧CrN k0 w' B hi a n R∧zI B hi w w':=by
 rcases h with rfl | ⟨g,M,rfl,hB,hK,hMn⟩
 ·refine (zDi a k0 k0 cap w).mono ?_
  rintro e w' ⟨rfl,rfl⟩
  exact ⟨rfl,.inl rfl,zI.refl _ _ _⟩
 ·refine (zEw g n cap k0 R M w hK hs h0 hk0).mono ?_
  rintro e w' ⟨rfl,h1,h2⟩
  exact ⟨rfl,.inr ⟨g,M,rfl,hB,h1,hMn⟩,h2.wide hB hMn⟩
theorem zFu (k0:Nat)(s:Int)(B hi:Nat)(a:Option Addr)(n cap:Nat)(R:Nat→Kp)(w:World)(h:CrW w B hi a n R)(hs:yE n R)(h0:0<k0)(hk0:k0≤1000000000):Calls Tryz.prog 52 #[caV s (.slice a n cap),.int .i64 (k0:Int)] w fun e w'=>e=.returned (.int .i64 ((kK R k0 n:Nat):Int))∧CrN k0 w' B hi a n R∧zI B hi w w':=by
 have HM:Hid (∀ V,Bw w V→Calls Tryz.prog 101 #[.slice a n cap,.int .i64 (k0:Int)] V fun e w'=>e=.returned (.int .i64 ((kK R k0 n:Nat):Int))∧CrN k0 w' B hi a n R∧zI B hi V w'):=fun V hb=>zFt k0 B hi a n cap R V (h.below hb) hs h0 hk0
 clear h hs
 generalize hq:kK R k0 n=q at *
 go_enter Tryz.func52,Tryz.ntmps52
 go_wp2_with fail
 generalize hV:(w.alloc _:World)=V
 have HB:Hid (Bw w V):=by show Below _ _ _;subst hV;exact Qb
 clear hV
 refine Calls.mono (HM.out V HB.out) ?_
 rintro e w1 ⟨rfl,h1,h2⟩
 have H1:Hid (CrN k0 w1 B hi a n R):=h1
 have H2:Hid (zI B hi w w1):=(zI.of_below HB.out).trans h2
 clear h1 h2
 go_wp2
 go_ret
 exact ⟨rfl,H1.out,H2.out⟩
theorem zLk (lo hi:Nat)(a:Option Addr)(m cap k0:Nat)(R:Rfs)(w:World)(h:OwT lo hi w a m R)(hh:hi≤w.heap.size)(hm:m≤1048576)(hk:k0≤1125899906842624) :
  Calls Tryz.prog 38 #[.slice a m cap,.int .i64 (k0:Int)] w fun e w'=>e=.returned (.int .i64 ((k0+3 * m:Nat):Int))∧zI lo hi w w'∧OwT lo hi w' a m (mkR k0):=by
 rcases h with rfl | ⟨b,rfl,h1,h2,h3,h4⟩
 ·exact (zAv a cap k0 w).mono fun e w' ⟨he,hb⟩=>by subst hb;exact ⟨he,zI.refl _ _ _,.inl rfl⟩
 by_cases hm0:m=0
 ·subst hm0
  exact (zAv _ cap k0 w).mono fun e w' ⟨he,hb⟩=>by subst hb;exact ⟨he,zI.refl _ _ _,.inl rfl⟩
 exact (zFs b m cap k0 w h4 (by omega) hm hk).mono fun e w' ⟨he,hg,ht',hp'⟩=>⟨he,zI.of_grown hg h1 h2,.inr ⟨b,rfl,h1,h2,hp',ht'⟩⟩
theorem zLl (lo hi:Nat)(a:Option Addr)(n cap k0:Nat)(E:Nat→Req)(w:World)(h:OwR lo hi w a n E)(hh:hi≤w.heap.size)(hn:n≤1048576)(hk:k0≤1125899906842624) :
  Calls Tryz.prog 53 #[.slice a n cap,.int .i64 (k0:Int)] w fun e w'=>e=.returned (.int .i64 ((k0+5 * n:Nat):Int))∧zI lo hi w w'∧OwR lo hi w' a n (mkW k0):=by
 rcases h with rfl | ⟨b,rfl,h1,h2,h3,h4⟩
 ·exact (vK a cap k0 w).mono fun e w' ⟨he,hb⟩=>by subst hb;exact ⟨he,zI.refl _ _ _,.inl rfl⟩
 by_cases hm0:n=0
 ·subst hm0
  exact (vK _ cap k0 w).mono fun e w' ⟨he,hb⟩=>by subst hb;exact ⟨he,zI.refl _ _ _,.inl rfl⟩
 exact (zCl b n cap k0 w h4 hn (by omega)).mono fun e w' ⟨he,hg,ht',hp'⟩=>⟨he,zI.of_grown hg h1 h2,.inr ⟨b,rfl,h1,h2,hp',ht'⟩⟩
theorem zEv (k0 l h hi:Nat)(v:Va)(u:Vm)(w:World)(hlh:l≤h)(hhi:h≤hi)(hw:hi≤w.heap.size)(h2:CrW w l h u.a2 v.n u.KR)(h3:OwR h hi w u.a3 v.rn v.E)(hs:yE v.n u.KR)(h0:0<k0)(hk0:k0≤4000000)(hn:v.n≤100)(hrn:v.rn≤1048576) :
  Calls Tryz.prog 19 #[vwV v.z v.x v.y v.wd v.ht v.now v.s (.slice u.a2 v.n u.c2) (.slice u.a3 v.rn u.c3) v.bad,.int .i64 (k0:Int)] w fun e w'=>e=.returned (.int .i64 ((kK u.KR k0 v.n+5 * v.rn:Nat):Int))∧CrN k0 w' l h u.a2 v.n u.KR∧OwR h hi w' u.a3 v.rn (mkW (kK u.KR k0 v.n))∧zI l hi w w':=by
 have hkk:=zF3 hs hk0 hn
 have HM:Hid (∀ V,Bw w V→Calls Tryz.prog 52 #[caV v.s (.slice u.a2 v.n u.c2),.int .i64 (k0:Int)] V fun e w'=>e=.returned (.int .i64 ((kK u.KR k0 v.n:Nat):Int))∧CrN k0 w' l h u.a2 v.n u.KR∧zI l h V w'):=fun V hb=>zFu k0 v.s l h u.a2 v.n u.c2 u.KR V (h2.below hb) hs h0 (by omega)
 have HR:Hid (OwR h hi w u.a3 v.rn v.E):=h3
 clear h2 h3 hs
 obtain ⟨c,tk,m,R,z,x,y,wd,ht,now,s,n,K,rn,E,bad⟩:=v
 obtain ⟨a1,c1,a2,c2,KR,a3,c3⟩:=u
 dsimp only at *
 generalize kK KR k0 n=Q at *
 obtain ⟨q2,hq2⟩:∃ q2,Q+5 * rn=q2:=⟨_,rfl⟩
 rw [hq2]
 have HQ2:Hid (Q+5 * rn=q2):=hq2
 clear hq2
 go_enter Tryz.func19,Tryz.ntmps19
 go_wp2_with fail
 generalize hV:(w.alloc _:World)=V
 have HB:Hid (Bw w V):=by show Below _ _ _;subst hV;exact Qb
 have HBk:Hid (Blk V w.heap.size [.int .i64 z,.int .i64 x,.int .i64 y,.int .i64 wd,.int .i64 ht,.int .i64 now,.int .i64 s,.slice a2 n c2,.slice a3 rn c3,.int .i64 bad]):=by show Blk _ _ _;subst hV;exact Blk.new _ _ _
 clear hV
 refine Calls.mono (HM.out V HB.out) ?_
 rintro e w1 ⟨rfl,hc1,h7⟩
 have c8:w1.cell? ⟨w.heap.size,8,none⟩=some (.slice a3 rn c3):=h7.cell (HBk.out.cell 8 rfl) (.inr (by omega))
 have hR1:OwR h hi w1 a3 rn E:=(HR.out.mid (zI.of_below (lo:=0) (hi:=0) HB.out) (.inl (Nat.zero_le _))).mid h7 (.inl (Nat.le_refl _))
 have HC1:Hid (CrN k0 w1 l h a2 n KR):=hc1
 have HM1:Hid (zI l hi w w1):=(zI.of_below HB.out).trans (h7.wide (Nat.le_refl _) hhi)
 have HRq:=(show Hid _ from zLl h hi a3 rn c3 Q E w1 hR1 (Nat.le_trans hw HM1.out.size) hrn (by omega))
 rw [HQ2.out] at HRq
 clear h7 HM HBk hc1 hR1
 go_wp2_with fail
 refine Calls.mono HRq.out ?_
 rintro e w2 ⟨rfl,hM2,hO2⟩
 have HM2:Hid (zI l hi w w2):=HM1.out.trans (hM2.wide hlh (Nat.le_refl _))
 have HC2:Hid (CrN k0 w2 l h a2 n KR):=HC1.out.mid hM2 (.inr (Nat.le_refl _))
 have HO2:Hid (OwR h hi w2 a3 rn (mkW Q)):=hO2
 clear hM2 hO2 HRq HM1 c8
 go_wp2
 go_ret
 exact ⟨rfl,HC2.out,HO2.out,HM2.out⟩
theorem markVa (lo hi:Nat)(v:Va)(u:Vm)(w:World)(hO:zA3 lo hi w v u)(hs:zK5 v) :
  Calls Tryz.prog 11 #[vaV v u,.int .i64 1] w fun e w'=>e=.returned (.int .i64 ((qVa v u:Nat):Int))∧zJg w' v u∧zI lo hi w w':=by
 obtain ⟨l,h,h1,h2,h3,h4,o1,o2,o3,o4⟩:=hO
 obtain ⟨s1,s2,s3,s4⟩:=hs
 have sK:yE v.n u.KR:=o2.small s3
 have HT:Hid (∀ V,Bw w V→Calls Tryz.prog 38 #[.slice u.a1 v.m u.c1,.int .i64 1] V fun e w'=>e=.returned (.int .i64 ((1+3 * v.m:Nat):Int))∧zI lo l V w'∧OwT lo l w' u.a1 v.m (mkR 1)):=fun V hb=>zLk lo l u.a1 v.m u.c1 1 v.R V (o1.mid (zI.of_below (lo:=0) (hi:=0) hb) (.inl (Nat.zero_le _))) (by have:=hb.size;omega) s1 (by omega)
 have HMv:Hid (∀ V,CrW V l h u.a2 v.n u.KR→OwR h hi V u.a3 v.rn v.E→hi≤V.heap.size→Calls Tryz.prog 19 #[vwV v.z v.x v.y v.wd v.ht v.now v.s (.slice u.a2 v.n u.c2) (.slice u.a3 v.rn u.c3) v.bad,.int .i64 ((1+3 * v.m:Nat):Int)] V fun e w'=>e=.returned (.int .i64 ((kK u.KR (1+3 * v.m) v.n+5 * v.rn:Nat):Int))∧CrN (1+3 * v.m) w' l h u.a2 v.n u.KR∧OwR h hi w' u.a3 v.rn (mkW (kK u.KR (1+3 * v.m) v.n))∧zI l hi V w'):=fun V c1 c2 c3=>zEv (1+3 * v.m) l h hi v u V h2 h3 c3 c1 c2 sK (by omega) (by omega) s2 s4
 have HW:Hid (CrW w l h u.a2 v.n u.KR∧OwR h hi w u.a3 v.rn v.E):=⟨o3,o4⟩
 have HSm:Hid (yE v.n u.KR):=sK
 clear o1 o2 o3 o4 s3 sK
 obtain ⟨Q,hQ⟩:∃ Q:Nat,qVa v u=Q:=⟨_,rfl⟩
 rw [hQ]
 obtain ⟨c,tk,m,R,z,x,y,wd,ht,now,s,n,K,rn,E,bad⟩:=v
 obtain ⟨a1,c1,a2,c2,KR,a3,c3⟩:=u
 have HMk:Hid (∀ W,zJg W ⟨c,tk,m,R,z,x,y,wd,ht,now,s,n,K,rn,E,bad⟩ ⟨a1,c1,a2,c2,KR,a3,c3⟩ ↔ zC4 W a1 m (mkR 1)∧(∃ l h,CrN (1+3 * m) W l h a2 n KR)∧xV W a3 rn (mkW (kK KR (1+3 * m) n))∧yE n KR):=fun W=>Iff.rfl
 unfold qVa at hQ
 dsimp only at *
 rw [hQ] at HMv
 clear hQ
 obtain ⟨k1,hk1⟩:∃ k1:Nat,1+3 * m=k1:=⟨_,rfl⟩
 rw [hk1] at HT HMv HMk
 clear hk1
 go_enter Tryz.func11,Tryz.ntmps11
 go_wp2_with fail
 generalize hV:(w.alloc _:World)=V
 have HB:Hid (Bw w V):=by show Below _ _ _;subst hV;exact Qb
 have HBk:Hid (Blk V w.heap.size [.int .i64 c,.bool tk,.slice a1 m c1,.int .i64 z,.int .i64 x,.int .i64 y,.int .i64 wd,.int .i64 ht,.int .i64 now,.int .i64 s,.slice a2 n c2,.slice a3 rn c3,.int .i64 bad]):=by show Blk _ _ _;subst hV;exact Blk.new _ _ _
 clear hV
 refine Calls.mono (HT.out V HB.out) ?_
 rintro e w1 ⟨rfl,hM1,hO1⟩
 have hBk1:Blk w1 w.heap.size [.int .i64 c,.bool tk,.slice a1 m c1,.int .i64 z,.int .i64 x,.int .i64 y,.int .i64 wd,.int .i64 ht,.int .i64 now,.int .i64 s,.slice a2 n c2,.slice a3 rn c3,.int .i64 bad]:=fun i u hi'=>⟨hM1.cell (HBk.out i u hi').1 (.inr (by omega)),(World.frozen?_of_block (a:=⟨w.heap.size,i,none⟩) (hM1.block w.heap.size HBk.out.lt (.inr (by omega)))).trans (HBk.out i u hi').2⟩
 obtain ⟨v0,v1,v2,v3,v4,v5,v6,v7,v8,v9,v10,v11,v12⟩:=Blk.c13 hBk1
 have hMw1:zI lo l w w1:=(zI.of_below HB.out).trans hM1
 have HM1:Hid (zI lo hi w w1):=hMw1.wide (Nat.le_refl _) (by omega)
 have HO1:Hid (OwT lo l w1 a1 m (mkR 1)):=hO1
 have HMv1:=(show Hid _ from HMv.out w1 (HW.out.1.midV hMw1 (.inl (Nat.le_refl _))) (HW.out.2.mid hMw1 (.inl h2)) (Nat.le_trans h4 hMw1.size))
 clear hM1 hO1 hBk1 hMw1 HT HMv HBk HB HW
 go_wp2_with fail
 refine Calls.mono HMv1.out ?_
 rintro e w2 ⟨rfl,hC2,hO2,hM2⟩
 have HM2:Hid (zI lo hi w w2):=HM1.out.trans (hM2.wide h1 (Nat.le_refl _))
 have HF:Hid (zJg w2 ⟨c,tk,m,R,z,x,y,wd,ht,now,s,n,K,rn,E,bad⟩ ⟨a1,c1,a2,c2,KR,a3,c3⟩):=by
  refine (HMk.out w2).2 ⟨(HO1.out.mid hM2 (.inr (Nat.le_refl _))).is ?_,⟨l,h,hC2⟩,hO2.is ?_,HSm.out⟩
  ·have:=HM2.out.size;omega
  ·have:=HM2.out.size;omega
 clear v0 v1 v2 v3 v4 v5 v6 v7 v8 v9 v10 v11 v12 hC2 hO2 hM2 HMv1 HM1 HO1 HMk
 go_wp2
 go_ret
 exact ⟨rfl,HF.out,HM2.out⟩
theorem zF5 (k0:Nat)(B hi:Nat)(a:Option Addr)(n cap:Nat)(R:Nat→Kp)(w:World)(h:CrN k0 w B hi a n R)(hs:yE n R)(h0:0<k0)(hk0:k0≤1000000000):Calls Tryz.prog 137 #[.slice a n cap,.int .i64 (k0:Int)] w fun e w'=>e=.returned (.int .i64 ((kK R k0 n:Nat):Int))∧Bw w w':=by
 rcases h with rfl | ⟨g,M,rfl,hB,hK,hMn⟩
 ·refine (zDn a k0 cap w).mono ?_
  rintro e w' ⟨rfl,rfl⟩
  exact ⟨rfl,Below.refl _ _⟩
 ·exact zE3 g n cap k0 R M w hK hs h0 hk0
theorem heldVa (v:Va)(u:Vm)(w:World)(h:zJg w v u)(hs:zK5 v) :
  Calls Tryz.prog 12 #[vaV v u,.int .i64 1] w fun e w'=>e=.returned (.int .i64 ((qVa v u:Nat):Int))∧Bw w w':=by
 obtain ⟨h1,⟨l,hh,h2⟩,h3,h4⟩:=h
 obtain ⟨s1,s2,s3,s4⟩:=hs
 have hkk:=zF3 h4 (show 1+3 * v.m≤4000000 by omega) s2
 have H1:Hid (∀ W,Bw w W→Calls Tryz.prog 39 #[.slice u.a1 v.m u.c1,.int .i64 1] W fun e w'=>e=.returned (.int .i64 ((1+3 * v.m:Nat):Int))∧Bw W w'):=fun W h=>zF4 u.a1 v.m u.c1 1 W (h1.below h) s1 (by omega)
 have H2:Hid (∀ W,Bw w W→Calls Tryz.prog 137 #[.slice u.a2 v.n u.c2,.int .i64 ((1+3 * v.m:Nat):Int)] W fun e w'=>e=.returned (.int .i64 ((kK u.KR (1+3 * v.m) v.n:Nat):Int))∧Bw W w'):=fun W h=>zF5 (1+3 * v.m) l hh u.a2 v.n u.c2 u.KR W (h2.below h) h4 (by omega) (by omega)
 have H3:Hid (∀ W,Bw w W→Calls Tryz.prog 87 #[.slice u.a3 v.rn u.c3,.int .i64 ((kK u.KR (1+3 * v.m) v.n:Nat):Int)] W fun e w'=>e=.returned (.int .i64 ((qVa v u:Nat):Int))∧Bw W w'):=fun W h=>zBw u.a3 v.rn u.c3 _ W (h3.below h) s4 (by omega)
 clear h1 h2 h3 h4 s3
 obtain ⟨c,tk,m,R,z,x,y,wd,ht,now,s,n,K,rn,E,bad⟩:=v
 obtain ⟨a1,c1,a2,c2,KR,a3,c3⟩:=u
 dsimp only at *
 have hn1:¬ ((1+3 * m:Nat):Int)<0:=by omega
 have hn2:¬ ((kK KR (1+3 * m) n:Nat):Int)<0:=by omega
 have hn3:¬ ((qVa ⟨c,tk,m,R,z,x,y,wd,ht,now,s,n,K,rn,E,bad⟩ ⟨a1,c1,a2,c2,KR,a3,c3⟩:Nat):Int)<0:=by omega
 generalize ((qVa ⟨c,tk,m,R,z,x,y,wd,ht,now,s,n,K,rn,E,bad⟩ ⟨a1,c1,a2,c2,KR,a3,c3⟩:Nat):Int)=k3 at *
 generalize ((kK KR (1+3 * m) n:Nat):Int)=k2 at *
 generalize ((1+3 * m:Nat):Int)=k1 at *
 clear hkk s1 s2 s4
 have HCa:Hid (∀ W,Bw w W→Calls Tryz.prog 86 #[caV s (.slice a2 n c2),.int .i64 k1] W fun e w'=>e=.returned (.int .i64 k2)∧Bw W w'):=fun W hW=>by
  have H2':=H2.out
  have H2'':Hid (∀ U,Bw W U→Calls Tryz.prog 137 #[.slice a2 n c2,.int .i64 k1] U fun e w'=>e=.returned (.int .i64 k2)∧Bw U w'):=fun U hu=>H2' U (zB hW hu)
  clear H1 H2 H3 H2'
  go_enter Tryz.func86,Tryz.ntmps86
  go_wp2_with fail
  generalize hU:(W.alloc _:World)=U
  have HB:Hid (Bw W U):=by show Below _ _ _;subst hU;exact Qb
  clear hU
  refine Calls.mono (H2''.out U HB.out) ?_
  rintro e w1 ⟨rfl,h2⟩
  have HF:Hid (Bw W w1):=zB HB.out h2
  clear h2
  go_wp2
  go_ret
  exact ⟨rfl,HF.out⟩
 have HVw:Hid (∀ W,Bw w W→Calls Tryz.prog 40 #[vwV z x y wd ht now s (.slice a2 n c2) (.slice a3 rn c3) bad,.int .i64 k1] W fun e w'=>e=.returned (.int .i64 k3)∧Bw W w'):=fun W hW=>by
  have HWw:Hid (Bw w W):=hW
  clear H1 H2 hW
  go_enter Tryz.func40,Tryz.ntmps40
  go_wp2_with fail
  generalize hU:(W.alloc _:World)=U
  have HB:Hid (Bw W U):=by show Below _ _ _;subst hU;exact Qb
  have HBk:Hid (Blk U W.heap.size [.int .i64 z,.int .i64 x,.int .i64 y,.int .i64 wd,.int .i64 ht,.int .i64 now,.int .i64 s,.slice a2 n c2,.slice a3 rn c3,.int .i64 bad]):=by show Blk _ _ _;subst hU;exact Blk.new _ _ _
  clear hU
  refine Calls.mono (HCa.out U (zB HWw.out HB.out)) ?_
  rintro e w1 ⟨rfl,hb1⟩
  have HB1:Hid (Bw W w1):=zB HB.out hb1
  have c8:=(HBk.out.below HBk.out.lt hb1).cell 8 rfl
  clear hb1 HBk HB
  have HQ:=(show Hid _ from H3.out w1 (zB HWw.out HB1.out))
  go_wp2_with fail
  refine Calls.mono HQ.out ?_
  rintro e w2 ⟨rfl,hb2⟩
  have HB2:Hid (Bw W w2):=zB HB1.out hb2
  clear hb2
  go_wp2
  go_ret
  exact ⟨rfl,HB2.out⟩
 clear H2 H3 HCa
 go_enter Tryz.func12,Tryz.ntmps12
 go_wp2_with fail
 generalize hU:(w.alloc _:World)=U
 have HB:Hid (Bw w U):=by show Below _ _ _;subst hU;exact Qb
 have HBk:Hid (Blk U w.heap.size [.int .i64 c,.bool tk,.slice a1 m c1,.int .i64 z,.int .i64 x,.int .i64 y,.int .i64 wd,.int .i64 ht,.int .i64 now,.int .i64 s,.slice a2 n c2,.slice a3 rn c3,.int .i64 bad]):=by show Blk _ _ _;subst hU;exact Blk.new _ _ _
 clear hU
 refine Calls.mono (H1.out U HB.out) ?_
 rintro e w1 ⟨rfl,hb1⟩
 have HB1:Hid (Bw w w1):=zB HB.out hb1
 have hBk1:=HBk.out.below HBk.out.lt hb1
 obtain ⟨v0,v1,v2,v3,v4,v5,v6,v7,v8,v9,v10,v11,v12⟩:=Blk.c13 hBk1
 clear hb1 HBk HB hBk1
 have HQ:=(show Hid _ from HVw.out w1 HB1.out)
 go_wp2_with fail
 refine Calls.mono HQ.out ?_
 rintro e w2 ⟨rfl,hb2⟩
 have HB2:Hid (Bw w w2):=zB HB1.out hb2
 clear v0 v1 v2 v3 v4 v5 v6 v7 v8 v9 v10 v11 v12 hb2
 go_wp2
 go_ret
 exact ⟨rfl,HB2.out⟩
end Go.Proofs.YtpaiholildedcaaGreat
