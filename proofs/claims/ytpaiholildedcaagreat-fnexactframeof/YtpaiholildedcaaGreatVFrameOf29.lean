/- Texts. -/
import Derived.Test.YtpaiholildedcaaGreatVFrameOf28
set_option linter.unusedSimpArgs false
set_option linter.unusedVariables false
set_option maxRecDepth 100000
set_option maxHeartbeats 32000000
namespace Go.Proofs.YtpaiholildedcaaGreat
open Go.RowKit
def nearK (n:Nat)(K:Nat→Kp):Nat→Int→Int→Int
 | 0,x,y=>atK n K 0 x y
 | z+1,x,y=>if 0≤atK n K ((z+1:Nat):Int) x y then atK n K ((z+1:Nat):Int) x y else nearK n K z (x / 2) (y / 2)
theorem zE4 (n:Nat)(K:Nat→Kp)(z x y:Int):atK n K z x y=-1∨∃ i:Nat,i<n∧atK n K z x y=(i:Int)∧(K i).z=z∧(K i).x=x∧(K i).y=y:=by
 unfold atK
 rcases zAa (fun i=>isK (K i) z x y) n with ⟨h1,h2⟩ | ⟨i,hi,hg,hf,hn⟩
 ·exact .inl h1
 ·exact .inr ⟨i,hi,hf,zDd.1 hg⟩
theorem zJ2 (n:Nat)(K:Nat→Kp):∀ (z:Nat) (x y:Int),nearK n K z x y=-1∨∃ i:Nat,i<n∧nearK n K z x y=(i:Int)
 | 0,x,y=>by
  rcases zE4 n K 0 x y with h | ⟨i,hi,h,_⟩
  ·exact .inl h
  ·exact .inr ⟨i,hi,h⟩
 | z+1,x,y=>by
  unfold nearK
  split
  ·rename_i h0
   rcases zE4 n K ((z+1:Nat):Int) x y with h | ⟨i,hi,h,_⟩
   ·rw [h] at h0;omega
   ·exact .inr ⟨i,hi,h⟩
  ·exact zJ2 n K z (x / 2) (y / 2)
theorem zGx {n:Nat}{K:Nat→Kp}{z x y:Int}(hz:0≤z)(h:0≤atK n K z x y):nearK n K z.toNat x y=atK n K z x y:=by
 obtain ⟨m,rfl⟩:∃ m:Nat,z=(m:Int):=⟨z.toNat,by omega⟩
 rw [Int.toNat_natCast]
 cases m with
 | zero=>rfl
 | succ m=>unfold nearK;rw [if_pos h]
theorem zJ1 {n:Nat}{K:Nat→Kp}{z x y:Int}(hz:0<z)(h:¬ 0≤atK n K z x y):nearK n K z.toNat x y=nearK n K (z - 1).toNat (x / 2) (y / 2):=by
 obtain ⟨m,rfl⟩:∃ m:Nat,z=((m+1:Nat):Int):=⟨(z - 1).toNat,by omega⟩
 have e:(((m+1:Nat):Int) - 1).toNat=m:=by omega
 rw [Int.toNat_natCast,e]
 conv=>lhs;unfold nearK
 rw [if_neg h]
theorem zJ3 {n:Nat}{K:Nat→Kp}{x y:Int}(h:¬ 0≤atK n K 0 x y):nearK n K (0:Int).toNat x y=-1:=by
 rcases zE4 n K 0 x y with h' | ⟨i,_,h',_⟩
 ·exact h'
 ·rw [h'] at h;omega
theorem zDj (x:Int):∀ k,zBw (x / 2) k=zBw x (k+1)
 | 0=>rfl
 | k+1=>by rw [zBw,zDj x k];rfl
theorem uG (n:Nat)(A:Nat→Kp):∀ (z:Nat) (x y:Int),nearK n A z x y=-1∨∃ i j:Nat,i<n∧nearK n A z x y=(i:Int)∧j≤z∧(A i).z=((z - j:Nat):Int)∧(A i).x=zBw x j∧(A i).y=zBw y j
 | 0,x,y=>by
  rcases zE4 n A 0 x y with h | ⟨i,hi,h,h1,h2,h3⟩
  ·exact .inl h
  ·exact .inr ⟨i,0,hi,h,Nat.le_refl _,by simpa using h1,h2,h3⟩
 | z+1,x,y=>by
  unfold nearK
  split
  ·rename_i h0
   rcases zE4 n A ((z+1:Nat):Int) x y with h | ⟨i,hi,h,h1,h2,h3⟩
   ·rw [h] at h0;omega
   ·exact .inr ⟨i,0,hi,h,Nat.zero_le _,by simpa using h1,h2,h3⟩
  ·rcases uG n A z (x / 2) (y / 2) with h | ⟨i,j,hi,h,hj,h1,h2,h3⟩
   ·exact .inl h
   ·refine .inr ⟨i,j+1,hi,h,by omega,?_,?_,?_⟩
    ·rw [h1];congr 1;omega
    ·rw [h2,zDj]
    ·rw [h3,zDj]
noncomputable def frI (n:Nat)(A:Nat→Kp)(z x y:Int):Int :=
 if 0≤nearK n A z.toNat (x / 8) (y / 8) then upI (z - (A (nearK n A z.toNat (x / 8) (y / 8)).toNat).z).toNat (A (nearK n A z.toNat (x / 8) (y / 8)).toNat).x (A (nearK n A z.toNat (x / 8) (y / 8)).toNat).y (A (nearK n A z.toNat (x / 8) (y / 8)).toNat).I x y else 0
theorem zQi {n:Nat}{A:Nat→Kp}{z x y:Int}(h:nearK n A z.toNat (x / 8) (y / 8)=-1):frI n A z x y=0:=by unfold frI;rw [if_neg (by omega)]
theorem zQj {n:Nat}{A:Nat→Kp}{z x y:Int}{i k:Nat}(h:nearK n A z.toNat (x / 8) (y / 8)=(i:Int))(hk:z - (A i).z=(k:Int)):frI n A z x y=upI k (A i).x (A i).y (A i).I x y:=by
 unfold frI
 rw [if_pos (by omega),h,Int.toNat_natCast,hk,Int.toNat_natCast]
theorem zQg {A:Nat→Kp}{i:Nat}(h:kC A i=0):(A i).m=64∧xV (A i).z (A i).x (A i).y=true:=by
 have h1:=(zDb h).1
 have h2:=zMv h1
 refine ⟨?_,zMw h2⟩
 have h3:(rtL (A i).z (A i).x (A i).y (A i).fn (A i).F).length=64:=by unfold rtL;rw [if_pos h2,zJy]
 by_cases e:(A i).m=64
 ·exact e
 ·have:=zCh h2 (zCx (by rw [h3];exact e))
  rw [h1] at this;cases this
theorem zFm {x:Int}{j:Nat}(hj:j≤3)(hx:0≤x):0≤zBw x j - zBw (x / 8) j * 8∧zBw x j - zBw (x / 8) j * 8≤7:=by
 have:j=0∨j=1∨j=2∨j=3:=by omega
 rcases this with rfl | rfl | rfl | rfl <;> simp [zBw] <;> omega
theorem zNb {z x y:Int}(h:xZ z x y=true):xV z (x / 8) (y / 8)=true:=by
 have hz:=yC h
 obtain ⟨h1,h2⟩:=vO h
 rcases zK hz with rfl | rfl | rfl | rfl <;> simp [zAj] at h1 h2 <;> simp [xV,yM,inB,vC] <;> omega
theorem zM2 {A:Nat→Kp}{z x y:Int}(hz:I64 z)(hx:I64 x)(hy:I64 y):∀ k,(∀ j,j<k→kC A j=0)→∀ i,i<k→isK (A i) z x y=true→∀ zd,(shD A k).atKey (zBj z x y) zd=.held (agV (A i).z (A i).x (A i).y (A i).fa (A i).fn (A i).fc (A i).ia (A i).m (A i).ic ((i:Int)+1))
 | 0,_,i,hi,_,_=>by omega
 | k+1,h,i,hi,hE,zd=>by
  by_cases e:i=k
  ·subst e
   obtain ⟨rfl,rfl,rfl⟩:=zDd.1 hE
   exact Maps.atKey_put_same (zCi A i).isMap (zI7 _ _ _) _ _
  ·have hk:=zDb (h k (by omega))
   obtain ⟨az,ax,ay⟩:=zGn hk.1
   have hne:zBj z x y≠zBj (A k).z (A k).x (A k).y:=fun e'=>by
    obtain ⟨h1,h2,h3⟩:=zNq hz hx hy az ax ay e'
    refine hk.2 (zA4.2 ⟨i,by omega,?_⟩)
    rw [← h1,← h2,← h3];exact hE
   have e1:(shD A (k+1)).atKey (zBj z x y) zd=(shD A k).atKey (zBj z x y) zd:=Maps.atKey_put_other hne _ _
   rw [e1]
   exact zM2 hz hx hy k (fun j hj=>h j (by omega)) i (by omega) hE zd
def ShN (W:World)(p mb:Nat)(s:Int)(n:Nat)(A:Nat→Kp):Prop:=ShA W p s (n:Int) mb∧W.ownsMap Tryz.prog 111 RV mb n (shD A n)
theorem ShN.below {w w':World}{p mb n:Nat}{s:Int}{A:Nat→Kp}(h:ShN w p mb s n A)(hb:Below w.heap.size w w'):ShN w' p mb s n A:=⟨h.1.below hb,yN h.2 hb⟩
theorem ShN.lt {w:World}{p mb n:Nat}{s:Int}{A:Nat→Kp}(h:ShN w p mb s n A):p<w.heap.size∧mb<w.heap.size:=⟨World.block_lt_of_cell? _ _ h.1.1,h.2.lt⟩
theorem ShN.grown {w w':World}{p mb n q:Nat}{s:Int}{A:Nat→Kp}(h:ShN w p mb s n A)(hg:w.grownBy w' (some q))(hp:p≠q)(hm:mb≠q):ShN w' p mb s n A :=
 ⟨⟨yG hg h.1.1 hp,yG hg h.1.2.1 hp,yG hg h.1.2.2 hp⟩,h.2.kept hg (by simp;exact hm)⟩
theorem ShN.mid {w w':World}{p mb n lo hi:Nat}{s:Int}{A:Nat→Kp}(h:ShN w p mb s n A)(hM:zR lo hi w w')(hp:p<lo∨hi≤p)(hm:mb<lo∨hi≤mb):ShN w' p mb s n A:=by
 refine ⟨⟨hM.cell h.1.1 hp,hM.cell h.1.2.1 hp,hM.cell h.1.2.2 hp⟩,?_⟩
 have hl:=h.2.lt
 obtain ⟨es,c,h1,h2⟩:=h.2
 exact ⟨es,c,(hM.block mb hl hm).trans h1,h2⟩
theorem ShN.look {w:World}{p mb n:Nat}{s:Int}{A:Nat→Kp}(h:ShN w p mb s n A)(h0:∀ j,j<n→kC A j=0){z x y:Int}(hr:xV z x y=true){i:Nat}(hi:i<n)(hE:isK (A i) z x y=true) :
  (Instr.lookup 171 (.map (some mb)) (xD z x y) false).run Tryz.prog w=.ok (agV (A i).z (A i).x (A i).y (A i).fa (A i).fn (A i).fc (A i).ia (A i).m (A i).ic ((i:Int)+1)) w:=by
 obtain ⟨hz,hx,hy⟩:=zCz hr
 obtain ⟨v,ps,hrun,hv⟩:=h.2.lookup zBa Tryz.underlying171 (zGe _) (RV_mk 0 0 0 none 0 0 none 0 0 0) (zDa hz hx hy)
 obtain ⟨e,_⟩:=zQm hv
 rw [zM2 hz hx hy n h0 i hi hE] at e
 injection e with e
 rw [e];exact hrun
noncomputable def nrV (n:Nat)(A:Nat→Kp)(N:Int):Value:=if 0≤N then kpV (A N.toNat) else .agg zEj
theorem resNr {T:Array Value}{Wf:World}{r:Nat}{b:Bool}{k:Kp}(hT:T[4]?.getD undef=.pointer (some ⟨r,0,none⟩))(hb:T[5]?.getD undef=.bool b)(h:zGc Wf r 0 k) :
  (results Tryz.f191 T).run Tryz.prog Wf=.ok (.tuple #[kpV k,.bool b]) Wf:=by
 obtain ⟨h0,h1,h2,h3,h4⟩:=h
 simp only [Nat.zero_add] at h1 h2 h3 h4
 simp [results,Tryz.results191,go_sem,hT,hb,h0,h1,h2,h3,h4]
theorem zB9 (p mb n:Nat)(s:Int)(A:Nat→Kp)(z x y:Int)(w:World)(hp:ShN w p mb s n A)(h0:∀ j,j<n→kC A j=0)(hr:xV z x y=true) :
  Calls Tryz.prog 191 #[.pointer (some ⟨p,0,none⟩),xD z x y] w fun e w'=>e=.returned (.tuple #[nrV n A (nearK n A z.toNat x y),.bool (decide (0≤nearK n A z.toNat x y))])∧Bw w w':=by
 obtain ⟨hpl,hml⟩:=hp.lt
 have HH:Hid (∀ W z x y,ShN W p mb s n A→xV z x y=true→Calls Tryz.prog 81 #[.pointer (some ⟨p,0,none⟩),xD z x y] W fun e w'=>e=.returned (.bool (decide (0≤atK n A z x y)))∧Bw W w'):=fun W z x y hK hr=>by
  obtain ⟨hz,hx,hy⟩:=zCz hr
  have:=uS p mb n s (n:Int) (shD A n) z x y W hK.1 hK.2 hz hx hy
  rw [zCv hz hx hy n (zKm h0)] at this
  exact this
 have H0:Hid (∀ j,j<n→kC A j=0):=h0
 obtain ⟨N,hN⟩:∃ N,nearK n A z.toNat x y=N:=⟨_,rfl⟩
 rw [hN]
 obtain ⟨NV,hNV⟩:∃ NV,nrV n A N=NV:=⟨_,rfl⟩
 rw [hNV]
 obtain ⟨NB,hNB⟩:∃ NB,decide (0≤N)=NB:=⟨_,rfl⟩
 rw [hNB]
 have HNV:Hid (nrV n A N=NV):=hNV
 have HNB:Hid (decide (0≤N)=NB):=hNB
 have HRb:Hid (xV z x y=true):=hr
 have HP:Hid (ShN w p mb s n A):=hp
 clear hNV hNB hr hp h0
 go_enter Tryz.func191,Tryz.ntmps191
 go_wp2_with fail
 generalize hW:((w.alloc _).alloc _:World)=W
 have HB0:Hid (Bw w W):=by show Below _ _ _;subst hW;exact Qb
 have HR:Hid (RK W w.heap.size z x y):=by show RK _ _ _ _ _;subst hW;refine ⟨?_,?_,?_⟩ <;> simp [go_sem]
 have HT:Hid (zC W (w.heap.size+1) 5):=by
  show zC _ _ _
  subst hW
  have:=zBn (w.alloc (.cells #[.int .i64 z,.int .i64 x,.int .i64 y] 111)) (.int .i64 0) (.int .i64 0) (.int .i64 0) (.slice none 0 0) (.slice none 0 0) 141
  simpa using this
 have HTr:Hid (zC W w.heap.size 3):=by
  show zC _ _ _
  subst hW
  exact zCs (uR w (.int .i64 z) (.int .i64 x) (.int .i64 y) 111) (by simp)
 have hsz:w.heap.size+1<W.heap.size:=by subst hW;simp
 have HPW:Hid (ShN W p mb s n A):=HP.out.below HB0.out
 clear hW HP
 go_loopw [] (fun wr=>∃ z x y:Int,xV z x y=true∧nearK n A z.toNat x y=N∧RK wr w.heap.size z x y∧zC wr w.heap.size 3∧zC wr (w.heap.size+1) 5∧Bw w wr∧w.heap.size+1<wr.heap.size∧ShN wr p mb s n A) (fun wr=>match wr.cell? ⟨w.heap.size,0,none⟩ with | some v=>(intOf v).toNat | none=>0)
 case atStart=>exact ⟨z,x,y,HRb.out,hN,HR.out,HTr.out,HT.out,HB0.out,hsz,HPW.out⟩
 case round =>
  clear hN HRb HR HTr HT HPW HB0 hsz W
  obtain ⟨z,x,y,hr,hN,hrk,hTr,hT,hB,hlw,hS⟩:=hrel
  have HRr:Hid (xV z x y=true):=hr
  have HTr:Hid (zC wr w.heap.size 3):=hTr
  have HT:Hid (zC wr (w.heap.size+1) 5):=hT
  have HB:Hid (Bw w wr):=hB
  have HRk:Hid (RK wr w.heap.size z x y):=hrk
  have HS:Hid (ShN wr p mb s n A):=hS
  have hzb:0≤z∧z≤3:=(zB1 hr).1
  have HA:=(show Hid _ from HH.out wr z x y hS hr)
  obtain ⟨p0,p1,p2⟩:=hrk
  have HNH:Hid (0≤atK n A z x y→nearK n A z.toNat x y=atK n A z x y):=fun h=>zGx hzb.1 h
  have HNU:Hid (¬ 0≤atK n A z x y→0<z→nearK n A z.toNat x y=nearK n A (z - 1).toNat (x / 2) (y / 2)):=fun h h'=>zJ1 h' h
  have HNo:Hid (¬ 0≤atK n A z x y→z=0→nearK n A z.toNat x y=-1):=fun h e=>by subst e;exact zJ3 h
  have HN:Hid (nearK n A z.toNat x y=N):=hN
  clear hr hTr hT hB hN hS
  go_wp2_with fail
  refine Calls.mono HA.out ?_
  rintro e w4 ⟨rfl,hb4⟩
  have HB4:Hid (Bw w w4):=zA HB.out hb4
  have HT4:Hid (zC w4 (w.heap.size+1) 5):=HT.out.below hb4
  have HTr4:Hid (zC w4 w.heap.size 3):=HTr.out.below hb4
  have HS4:Hid (ShN w4 p mb s n A):=HS.out.below hb4
  have HR4:Hid (RK w4 w.heap.size z x y):=HRk.out.below hb4
  obtain ⟨r0,r1,r2⟩:=HRk.out.below hb4
  have hlw4:w.heap.size+1<w4.heap.size:=Nat.lt_of_lt_of_le hlw hb4.size
  clear HA hb4 HS
  by_cases h0:0≤atK n A z x y
  ·rw [decide_eq_true h0]
   rcases zE4 n A z x y with h | ⟨i,hi,h,a1,a2,a3⟩
   ·rw [h] at h0;omega
   have hNi:N=(i:Int):=HN.out.symm.trans ((HNH.out h0).trans h)
   have HE:Hid (NV=kpV (A i)):=by
    show _=_
    rw [← HNV.out,hNi];unfold nrV;rw [if_pos (by omega),Int.toNat_natCast]
   have HE2:Hid (NB=true):=by show _=_;rw [← HNB.out,hNi];simp
   have HL:Hid (∀ W,ShN W p mb s n A→(Instr.lookup 171 (.map (some mb)) (xD z x y) false).run Tryz.prog W=.ok (agV (A i).z (A i).x (A i).y (A i).fa (A i).fn (A i).fc (A i).ia (A i).m (A i).ic ((i:Int)+1)) W):=fun W hW=>hW.look H0.out HRr.out hi (zDd.2 ⟨a1,a2,a3⟩)
   have hT':=HT4.out
   have t0:=hT'.cell 0 (by omega)
   have t1:=hT'.cell 1 (by omega)
   have t2:=hT'.cell 2 (by omega)
   have t3:=hT'.cell 3 (by omega)
   have t4:=hT'.cell 4 (by omega)
   have f0:=(hT' 0 (by omega)).2
   have f1:=(hT' 1 (by omega)).2
   have f2:=(hT' 2 (by omega)).2
   have f3:=(hT' 3 (by omega)).2
   have f4:=(hT' 4 (by omega)).2
   clear hT' HNH HNU HNo HN h0 h r0 r1 r2 p0 p1 p2 a1 a2 a3 hNi HNV HNB
   generalize hk:A i=k at *
   clear hk
   have hfld:∀ W,(Instr.field 181 (agV k.z k.x k.y k.fa k.fn k.fc k.ia k.m k.ic ((i:Int)+1)) 0).run Tryz.prog W=.ok (kpV k) W:=fun W=>by kernel_rfl
   go_wp2_with fail
   refine wp_region_noPanic ?_
   refine wp_region_held_drew (S:=fun W'=>ShN W' p mb s n A∧RK W' w.heap.size z x y) (by kernel_rfl) ⟨HS4.out,HR4.out⟩ (fun hHeld=>?_)
   have hSd:ShN w4.drew p mb s n A∧RK w4.drew w.heap.size z x y:=⟨HS4.out,HR4.out⟩
   refine yX (i:=0) (d:=some 16) (v:=?vr0) rfl rfl (Or.inl ⟨by rfl,?hyr0⟩) hSd ?_
   case hyr0=>(intro wz hSw;have hLk:=HL.out wz hSw.1;obtain ⟨⟨⟨s0,s1,s2⟩,_⟩,k0,k1,k2⟩:=(show ShN wz p mb s n A∧RK wz w.heap.size z x y from hSw);go_simp <;> with_reducible rfl)
   try simp only [Act.put,Qx,Qy,Qz]
   refine yX (i:=1) (d:=some 17) (v:=?vr1) rfl rfl (Or.inl ⟨by rfl,?hyr1⟩) hSd ?_
   case hyr1=>(intro wz hSw;have hLk:=HL.out wz hSw.1;obtain ⟨⟨⟨s0,s1,s2⟩,_⟩,k0,k1,k2⟩:=(show ShN wz p mb s n A∧RK wz w.heap.size z x y from hSw);go_simp <;> with_reducible rfl)
   try simp only [Act.put,Qx,Qy,Qz]
   refine yX (i:=2) (d:=some 18) (v:=?vr2) rfl rfl (Or.inl ⟨by rfl,?hyr2⟩) hSd ?_
   case hyr2=>(intro wz hSw;have hLk:=HL.out wz hSw.1;obtain ⟨⟨⟨s0,s1,s2⟩,_⟩,k0,k1,k2⟩:=(show ShN wz p mb s n A∧RK wz w.heap.size z x y from hSw);go_simp <;> with_reducible rfl)
   try simp only [Act.put,Qx,Qy,Qz]
   refine yX (i:=3) (d:=some 19) (v:=?vr3) rfl rfl (Or.inl ⟨by rfl,?hyr3⟩) hSd ?_
   case hyr3=>(intro wz hSw;have hLk:=HL.out wz hSw.1;obtain ⟨⟨⟨s0,s1,s2⟩,_⟩,k0,k1,k2⟩:=(show ShN wz p mb s n A∧RK wz w.heap.size z x y from hSw);go_simp <;> with_reducible rfl)
   try simp only [Act.put,Qx,Qy,Qz]
   refine yX (i:=4) (d:=some 20) (v:=?vr4) rfl rfl (Or.inl ⟨by rfl,?hyr4⟩) hSd ?_
   case hyr4=>(intro wz hSw;have hLk:=HL.out wz hSw.1;obtain ⟨⟨⟨s0,s1,s2⟩,_⟩,k0,k1,k2⟩:=(show ShN wz p mb s n A∧RK wz w.heap.size z x y from hSw);go_simp <;> with_reducible rfl)
   try simp only [Act.put,Qx,Qy,Qz]
   refine yX (i:=5) (d:=some 21) (v:=?vr5) rfl rfl (Or.inl ⟨by rfl,?hyr5⟩) hSd ?_
   case hyr5=>(intro wz hSw;have hLk:=HL.out wz hSw.1;obtain ⟨⟨⟨s0,s1,s2⟩,_⟩,k0,k1,k2⟩:=(show ShN wz p mb s n A∧RK wz w.heap.size z x y from hSw);go_simp <;> with_reducible rfl)
   try simp only [Act.put,Qx,Qy,Qz]
   refine yX (i:=6) (d:=some 22) (v:=?vr6) rfl rfl (Or.inl ⟨by rfl,?hyr6⟩) hSd ?_
   case hyr6=>(intro wz hSw;have hLk:=HL.out wz hSw.1;obtain ⟨⟨⟨s0,s1,s2⟩,_⟩,k0,k1,k2⟩:=(show ShN wz p mb s n A∧RK wz w.heap.size z x y from hSw);go_simp <;> with_reducible rfl)
   try simp only [Act.put,Qx,Qy,Qz]
   refine zO 7 fun K hK=>?_
   rw [if_pos (by rfl)]
   go_simp
   generalize hwF:(World.setCell _ _ _:World)=wF
   have HLk:Hid (wF=zCb w4 (w.heap.size+1) 0 k):=by show _=_;subst hwF;rfl
   have hM:zR (w.heap.size+1) (w.heap.size+1+1) w4 wF:=by rw [HLk.out];exact uK _ _ _ _
   have hSF0:ShN wF p mb s n A∧RK wF w.heap.size z x y:=⟨HS4.out.mid hM (by omega) (by omega),⟨hM.cell HR4.out.1 (.inl (by omega)),hM.cell HR4.out.2.1 (.inl (by omega)),hM.cell HR4.out.2.2 (.inl (by omega))⟩⟩
   have hSF:ShN wF.drew p mb s n A∧RK wF.drew w.heap.size z x y:=hSF0
   refine hK.out _ _ hSF (fun hHeld=>?_)
   clear hK K
   try simp only [Act.put,Qx,Qy,Qz]
   refine yX (i:=8) (d:=some 5) (v:=?vr8) rfl rfl (Or.inl ⟨by rfl,?hyr8⟩) hSF ?_
   case hyr8=>(intro wz hSw;go_simp <;> with_reducible rfl)
   try simp only [Act.put,Qx,Qy,Qz]
   refine wpAnyH_done (by kernel_rfl) ?_ _
   refine NoPanic.normal ?_
   have hAt:zGc wF (w.heap.size+1) 0 k:=by rw [HLk.out];exact zAt HT4.out (by omega)
   have HAt:Hid (zGc wF.drew (w.heap.size+1) 0 k):=hAt
   have hBF0:Bw w wF:=HB4.out.trans ((hM.below (by omega)).mono (by omega))
   have HBF:Hid (Bw w wF.drew):=by show Below _ _ _;exact Qb
   clear hAt hBF0 hSF0 hwF HLk hM hSF hHeld hSd t0 f0 t1 f1 t2 f2 t3 f3 t4 f4
   go_wp2_with fail
   refine bodyPost_ret (resNr rfl rfl HAt.out) rfl ⟨by rw [HE.out,HE2.out],HBF.out⟩
  ·rw [decide_eq_false h0]
   by_cases hz:z=0
   ·have hNi:N=-1:=HN.out.symm.trans (HNo.out (by omega) hz)
    have HE:Hid (NV=kpV ⟨0,0,0,none,0,0,fun _=>⟨0,0,0,0,none,0,0,fun _=>0,fun _=>0,⟨#[]⟩,0⟩,none,0,0,fun _=>0⟩):=by show _=_;rw [← HNV.out,hNi];unfold nrV;rw [if_neg (by omega)]
    have HE2:Hid (NB=false):=by show _=_;rw [← HNB.out,hNi];simp
    have hT':=HT4.out
    have t0:=hT'.cell 0 (by omega)
    have t1:=hT'.cell 1 (by omega)
    have t2:=hT'.cell 2 (by omega)
    have t3:=hT'.cell 3 (by omega)
    have t4:=hT'.cell 4 (by omega)
    have f0:=(hT' 0 (by omega)).2
    have f1:=(hT' 1 (by omega)).2
    have f2:=(hT' 2 (by omega)).2
    have f3:=(hT' 3 (by omega)).2
    have f4:=(hT' 4 (by omega)).2
    clear hT' HNH HNU HNo HN HRr HRk h0 HNV HNB hNi
    subst hz
    go_wp2_with fail
    generalize hwF:(World.setCell _ _ _:World)=wF
    have HLk:Hid (wF=zCb w4 (w.heap.size+1) 0 ⟨0,0,0,none,0,0,fun _=>⟨0,0,0,0,none,0,0,fun _=>0,fun _=>0,⟨#[]⟩,0⟩,none,0,0,fun _=>0⟩):=by show _=_;subst hwF;rfl
    have hM:zR (w.heap.size+1) (w.heap.size+1+1) w4 wF:=by rw [HLk.out];exact uK _ _ _ _
    have hAt:zGc wF (w.heap.size+1) 0 ⟨0,0,0,none,0,0,fun _=>⟨0,0,0,0,none,0,0,fun _=>0,fun _=>0,⟨#[]⟩,0⟩,none,0,0,fun _=>0⟩:=by rw [HLk.out];exact zAt HT4.out (by omega)
    refine bodyPost_ret (resNr rfl rfl hAt) rfl ⟨by rw [HE.out,HE2.out],HB4.out.trans ((hM.below (by omega)).mono (by omega))⟩
   ·have hz':0<z:=by omega
    have HE:Hid (nearK n A (z - 1).toNat (x / 2) (y / 2)=N):=(HNU.out (by omega) hz').symm.trans HN.out
    clear HNH HNU HNo HN h0
    go_wp2_with fail
    refine (zK9 z x y _ HRr.out).mono ?_
    rintro e w5 ⟨rfl,hb5⟩
    have hT5:=HTr4.out.below hb5
    have HTr5:Hid (zC w5 w.heap.size 3):=hT5
    have HT5:Hid (zC w5 (w.heap.size+1) 5):=HT4.out.below hb5
    have HS5:Hid (ShN w5 p mb s n A):=HS4.out.below hb5
    have t0:=hT5.cell 0 (by omega)
    have t1:=hT5.cell 1 (by omega)
    have t2:=hT5.cell 2 (by omega)
    have u0:=(hT5 0 (by omega)).2
    have u1:=(hT5 1 (by omega)).2
    have u2:=(hT5 2 (by omega)).2
    have HB5:Hid (Bw w w5):=zA HB4.out hb5
    have hlw5:w.heap.size+1<w5.heap.size:=Nat.lt_of_lt_of_le hlw4 hb5.size
    clear hT5 hb5 r0 r1 r2
    go_wp2_with fail
    obtain ⟨q0,q1,q2⟩:=zJv (a:=.int .i64 (z - 1)) (b:=.int .i64 (x / 2)) (c:=.int .i64 (y / 2)) HTr5.out
    have hg:w5.grownBy (((w5.setCell ⟨w.heap.size,0,none⟩ (.int .i64 (z - 1))).setCell ⟨w.heap.size,1,none⟩ (.int .i64 (x / 2))).setCell ⟨w.heap.size,2,none⟩ (.int .i64 (y / 2))) (some w.heap.size):=vE (vE (vE (zAf _ _) 0 _) 1 _) 2 _
    go_roundw
    case rel =>
     exact ⟨z - 1,x / 2,y / 2,zJx HRr.out hz',HE.out,⟨q0,q1,q2⟩,((HTr5.out.setN _ _).setN _ _).setN _ _,HT5.out.grown hg (by omega),((HB5.out.setCell (Nat.le_refl _) _).setCell (Nat.le_refl _) _).setCell (Nat.le_refl _) _,by simp;exact hlw5,HS5.out.grown hg (by omega) (by omega)⟩
    case measure =>
     rw [q0,p0]
     simp [intOf]
     omega
theorem zD9 (q o:Nat)(s:Int)(a:Option Addr)(n cap:Nat)(K:Nat→Kp)(z x y:Int)(w:World)(hc:CaO w q o s (.slice a n cap))(hp:zCf w a n K)(hn:n≤1048576)(hr:xV z x y=true) :
  Calls Tryz.prog 92 #[.pointer (some ⟨q,o,none⟩),xD z x y] w fun e w'=>e=.returned (.int .i64 (nearK n K z.toNat x y))∧Bw w w':=by
 have HAt:Hid (∀ W,Bw w W→∀ z x y,Calls Tryz.prog 68 #[.pointer (some ⟨q,o,none⟩),xD z x y] W fun e w'=>e=.returned (.int .i64 (atK n K z x y))∧Bw W w'):=fun W h z x y=>zC9 q o s a n cap K z x y W (hc.below h) (hp.below h) hn
 have HR0:Hid (xV z x y=true):=hr
 clear hc hp hr
 obtain ⟨N,hN⟩:∃ N,nearK n K z.toNat x y=N:=⟨_,rfl⟩
 rw [hN]
 go_enter Tryz.func92,Tryz.ntmps92
 go_wp2_with fail
 generalize hW:(w.alloc _:World)=W
 have HB0:Hid (Bw w W):=by show Below _ _ _;subst hW;exact Qb
 have HRK:Hid (RK W w.heap.size z x y):=by show RK _ _ _ _ _;subst hW;refine ⟨?_,?_,?_⟩ <;> simp [go_sem]
 have HT0:Hid (zC W w.heap.size 3):=by show zC _ _ _;subst hW;exact uR _ _ _ _ _
 clear hW
 go_loopw [] (fun wr=>∃ z x y:Int,xV z x y=true∧nearK n K z.toNat x y=N∧RK wr w.heap.size z x y∧zC wr w.heap.size 3∧Bw w wr) (fun wr=>match wr.cell? ⟨w.heap.size,0,none⟩ with | some v=>(intOf v).toNat | none=>0)
 case atStart=>exact ⟨z,x,y,HR0.out,hN,HRK.out,HT0.out,HB0.out⟩
 case round =>
  clear hN HR0 HRK HT0 HB0
  obtain ⟨z,x,y,hr,hN,hrk,hT,hB⟩:=hrel
  have HR:Hid (xV z x y=true):=hr
  have HTr:Hid (zC wr w.heap.size 3):=hT
  have HB:Hid (Bw w wr):=hB
  have HRk:Hid (RK wr w.heap.size z x y):=hrk
  have hzb:0≤z∧z≤3:=(zB1 hr).1
  have hlw:w.heap.size<wr.heap.size:=World.block_lt_of_cell? _ _ hrk.1
  have HA:=(show Hid _ from HAt.out wr hB z x y)
  obtain ⟨p0,p1,p2⟩:=hrk
  have HH:Hid (0≤atK n K z x y→nearK n K z.toNat x y=atK n K z x y):=fun h=>zGx hzb.1 h
  have HU:Hid (¬ 0≤atK n K z x y→0<z→nearK n K z.toNat x y=nearK n K (z - 1).toNat (x / 2) (y / 2)):=fun h h'=>zJ1 h' h
  have HNo:Hid (¬ 0≤atK n K z x y→z=0→nearK n K z.toNat x y=-1):=fun h e=>by subst e;exact zJ3 h
  have HN:Hid (nearK n K z.toNat x y=N):=hN
  clear hr hT hB hN
  go_wp2_with fail
  refine Calls.mono HA.out ?_
  rintro e w1 ⟨rfl,hb1⟩
  have HB1:Hid (Bw w w1):=zA HB.out hb1
  have HT1:Hid (zC w1 w.heap.size 3):=HTr.out.below hb1
  obtain ⟨r0,r1,r2⟩:=HRk.out.below hb1
  have hlw1:w.heap.size<w1.heap.size:=Nat.lt_of_lt_of_le hlw hb1.size
  clear HA hb1
  by_cases h0:0≤atK n K z x y
  ·have HE:Hid (N=atK n K z x y):=HN.out.symm.trans (HH.out h0)
   clear HH HU HNo HN
   generalize atK n K z x y=i at *
   go_wp2
   go_ret
   exact ⟨zD HE.out.symm,HB1.out⟩
  ·by_cases hz:z=0
   ·have HE:Hid (N=-1):=HN.out.symm.trans (HNo.out (by omega) hz)
    clear HH HU HNo HN HR HRk
    subst hz
    generalize atK n K 0 x y=i at *
    go_wp2
    go_ret
    exact ⟨zD HE.out.symm,HB1.out⟩
   ·have hz':0<z:=by omega
    have HE:Hid (nearK n K (z - 1).toNat (x / 2) (y / 2)=N):=(HU.out (by omega) hz').symm.trans HN.out
    clear HH HU HNo HN
    generalize atK n K z x y=i at *
    go_wp2_with fail
    refine (zG4 z x y _ HR.out).mono ?_
    rintro e w2 ⟨rfl,hb2⟩
    have hT2:=HT1.out.below hb2
    have HT2:Hid (zC w2 w.heap.size 3):=hT2
    have t0:=hT2.cell 0 (by omega)
    have t1:=hT2.cell 1 (by omega)
    have t2:=hT2.cell 2 (by omega)
    have u0:=(hT2 0 (by omega)).2
    have u1:=(hT2 1 (by omega)).2
    have u2:=(hT2 2 (by omega)).2
    have HB2:Hid (Bw w w2):=zA HB1.out hb2
    clear hT2 hb2 r0 r1 r2
    go_wp2_with fail
    obtain ⟨q0,q1,q2⟩:=zJv (a:=.int .i64 (z - 1)) (b:=.int .i64 (x / 2)) (c:=.int .i64 (y / 2)) HT2.out
    go_roundw
    case rel=>exact ⟨z - 1,x / 2,y / 2,zJx HR.out hz',HE.out,⟨q0,q1,q2⟩,((HT2.out.setN _ _).setN _ _).setN _ _,((HB2.out.setCell (Nat.le_refl _) _).setCell (Nat.le_refl _) _).setCell (Nat.le_refl _) _⟩
    case measure =>
     rw [q0,p0]
     simp [intOf]
     omega
theorem zG9 (q:Nat)(z X Y:Int)(wd ht:Nat)(now s:Int)(b n cap:Nat)(A:Nat→Kp)(ra:Option Addr)(rn rc:Nat)(bad:Int)(w:World)(hV:Blk w q [.int .i64 z,.int .i64 X,.int .i64 Y,.int .i64 (wd:Int),.int .i64 (ht:Int),.int .i64 now,.int .i64 s,.slice (some ⟨b,0,none⟩) n cap,.slice ra rn rc,.int .i64 bad])(hb:zBh z X Y wd ht=true)(ha:zB7 w b n A)(hn:n≤1048576)(h0:∀ j,j<n→kC A j=0) :
  Calls Tryz.prog 44 #[.pointer (some ⟨q,0,none⟩)] w fun e w'=>∃ v,e=.returned v∧xJ w.heap.size w' v (xL (frI n A z) X Y wd ht)∧Bw w w':=by
 obtain ⟨ii,hi,hz0,hz1,hz2⟩:=info_parts zCl
 have hql:q<w.heap.size:=hV.lt
 have HV:Hid (Blk w q [.int .i64 z,.int .i64 X,.int .i64 Y,.int .i64 (wd:Int),.int .i64 (ht:Int),.int .i64 now,.int .i64 s,.slice (some ⟨b,0,none⟩) n cap,.slice ra rn rc,.int .i64 bad]):=hV
 have hz:yM z=true:=uB hb
 have hzz:=zK hz
 have hin:=xT hb
 have hpb:=xE hz
 have x0:0≤X∧X≤64:=by omega
 have y0:0≤Y∧Y≤64:=by omega
 have hwd:1≤wd∧wd≤8:=by omega
 have hht:1≤ht∧ht≤8:=by omega
 have HRW:Hid (∀ F:Int→Int→Int,xL F X Y wd ht=frK F X Y wd (ht * wd)):=fun F=>zJ8 F X Y wd (by omega) ht
 have HPX:Hid (∀ i,i<ht * wd→xZ z (X+((i % wd:Nat):Int)) (Y+((i / wd:Nat):Int))=true):=fun i hi=>zEr hb _ _ (Nat.mod_lt _ (by omega)) (Nat.div_lt_of_lt_mul (by rw [Nat.mul_comm];exact hi))
 have HDV:Hid (∀ i,i<ht * wd→i % wd<wd∧i / wd<ht):=fun i hi=>⟨Nat.mod_lt _ (by omega),Nat.div_lt_of_lt_mul (by rw [Nat.mul_comm];exact hi)⟩
 obtain ⟨N,hN⟩:∃ N,N=ht * wd:=⟨_,rfl⟩
 have hN64:N≤64:=by rw [hN];exact Nat.mul_le_mul hht.2 hwd.2
 have hmul:IntKind.i64.wrap ((wd:Int) * (ht:Int))=(N:Int):=by
  have e:((wd:Int) * (ht:Int))=(N:Int):=by rw [hN,Int.natCast_mul,Int.mul_comm]
  rw [e]
  exact IntWalk.i64_in _ (by omega)
 rw [← hN] at HPX HDV HRW
 have hz3:0≤z∧z≤3:=by omega
 have HNe:Hid (∀ W' u v,Bw w W'→xV z u v=true→Calls Tryz.prog 92 #[.pointer (some ⟨q,6,none⟩),xD z u v] W' fun e w'=>e=.returned (.int .i64 (nearK n A z.toNat u v))∧Below W'.heap.size W' w'):=fun W' u v h hr=>by
  have hb:=HV.out.below hql h
  exact zD9 q 6 s _ n cap A z u v W' ⟨hb.cell 6 rfl,hb.cell 7 rfl⟩ (ha.is.below h) hn hr
 have HAt:Hid (∀ W' u v,xZ z u v=true→Calls Tryz.prog 93 #[.int .i64 z,.int .i64 u,.int .i64 v] W' fun e w'=>e=.returned (xD z (u / 8) (v / 8))∧Below W'.heap.size W' w'):=fun W' u v hp=>zFp z u v W' hp
 have HA:Hid (zB7 w b n A):=ha
 have HZ0:Hid (∀ j,j<n→kC A j=0):=h0
 clear hV ha h0 hb hin hN hpb hz
 obtain ⟨F,hF⟩:∃ F,frI n A z=F:=⟨_,rfl⟩
 rw [hF]
 have HFE:Hid (∀ u v,F u v=frI n A z u v):=fun u v=>by rw [← hF]
 clear hF
 go_enter Tryz.func44,Tryz.ntmps44
 go_wp2_with fail
 generalize hW:(w.alloc _:World)=w1'
 have HB0:Hid (Bw w w1'):=by show Below _ _ _;subst hW;exact Qb
 have HO0:Hid (xJ w.heap.size w1' (.slice (some ⟨w.heap.size,0,none⟩) 0 0) (frK F X Y wd 0)):=by
  show xJ _ _ _ _
  subst hW
  exact World.ownsRow_lit (base:=w.heap.size) w #[] 0 (Nat.le_refl _) (Nat.zero_le _) rfl
 clear hW
 go_loopw [4,5] (fun v j wr=>∃ i:Nat,i≤N∧j=.int .i64 (i:Int)∧xJ w.heap.size wr v (frK F X Y wd i)∧Bw w wr) (fun _ j _=>N - (intOf j).toNat)
 case atStart=>exact ⟨0,by omega,rfl,HO0.out,HB0.out⟩
 case round =>
  obtain ⟨i,hiN,rfl,hO,hB⟩:=hrel
  have HO0':Hid (xJ w.heap.size wr u4 (frK F X Y wd i)):=hO
  have HB:Hid (Bw w wr):=hB
  clear hO hB HO0 HB0
  have hbr:=HV.out.below hql HB.out
  have g3:=hbr.cell 3 rfl
  have g4:=hbr.cell 4 rfl
  clear hbr
  by_cases hlt:i<N
  ·have hi':(i:Int)<(N:Int):=by omega
   obtain ⟨m,hm⟩:∃ m:Nat,m=i % wd:=⟨_,rfl⟩
   obtain ⟨p,hp⟩:∃ p:Nat,p=i / wd:=⟨_,rfl⟩
   have hmq:=HDV.out i hlt
   rw [← hm,← hp] at hmq
   have hmb:m<8:=by omega
   have hqb:p<8:=by omega
   have em:(i:Int).tmod (wd:Int)=(m:Int):=by rw [Int.tmod_eq_emod_of_nonneg (by omega),hm];rfl
   have eq':(i:Int).tdiv (wd:Int)=(p:Int):=by rw [Int.tdiv_eq_ediv_of_nonneg (by omega),hp];rfl
   have HSK:Hid (frK F X Y wd (i+1)=frK F X Y wd i ++ [F (X+(m:Int)) (Y+(p:Int))]):=by show _=_;rw [zNz,hm,hp]
   have HLn:Hid ((frK F X Y wd i).length=i):=frK_len _ _ _ _ _
   have hpx:=HPX.out i hlt
   rw [← hm,← hp] at hpx
   clear hm hp hmq
   obtain ⟨va,vn,vc,hvs⟩:∃ va vn vc,u4=.slice va vn vc:=by
    obtain ⟨a',c',e',_,_⟩:=HO0'.out.own
    exact ⟨_,_,_,e'⟩
   subst hvs
   have HBS:Hid (∀ b,(Value.slice va vn vc).ownBlock=some b→w.heap.size≤b):=fun b hb=>(World.ownsRow.lt HO0'.out b hb).1
   have ss0:IntKind.i64.wrap (X+(m:Int))=X+(m:Int):=IntWalk.i64_in _ (by omega)
   have ss1:IntKind.i64.wrap (Y+(p:Int))=Y+(p:Int):=IntWalk.i64_in _ (by omega)
   have qq1:IntKind.i64.wrap (p:Int)=(p:Int):=IntWalk.i64_in _ (by omega)
   have qq0:IntKind.i64.wrap (m:Int)=(m:Int):=IntWalk.i64_in _ (by omega)
   have wz:¬ (wd:Int)=0:=by omega
   have wn:¬ wd=0:=by omega
   clear wz
   have bX:0≤X+(m:Int)∧X+(m:Int)≤1000:=by omega
   have bY:0≤Y+(p:Int)∧Y+(p:Int)≤1000:=by omega
   obtain ⟨PX,hPX⟩:∃ PX,X+(m:Int)=PX:=⟨_,rfl⟩
   obtain ⟨PY,hPY⟩:∃ PY,Y+(p:Int)=PY:=⟨_,rfl⟩
   rw [hPX] at HSK hpx ss0 bX
   rw [hPY] at HSK hpx ss1 bY
   have hbr:=HV.out.below hql HB.out
   obtain ⟨g0,g1,g2⟩:=Blk.c3 hbr
   clear hbr
   go_wp2_with fail
   go_region
   go_wp2_with fail
   go_region
   go_wp2_with fail
   go_region
   go_wp2_with fail
   have hBd:Bw w wr.drew.drew.drew:=by have:=HB.out;exact Qb
   have HOd:Hid (xJ w.heap.size wr.drew.drew.drew (.slice va vn vc) (frK F X Y wd i)):=HO0'.out.below (by exact Qb)
   clear HO0' g0 g1 g2 g3 g4 em eq' qq0 qq1 hPX hPY
   generalize wr.drew.drew.drew=V at *
   have HBd:Hid (Bw w V):=hBd
   have hbv:∀ W',Bw V W'→Blk W' q [.int .i64 z,.int .i64 X,.int .i64 Y,.int .i64 (wd:Int),.int .i64 (ht:Int),.int .i64 now,.int .i64 s,.slice (some ⟨b,0,none⟩) n cap,.slice ra rn rc,.int .i64 bad]:=fun W' h=>HV.out.below hql (zA HBd.out h)
   have c0:∀ W',Bw V W'→W'.cell? ⟨q,0,none⟩=some (.int .i64 z):=fun W' h=>(hbv W' h).cell 0 rfl
   clear hBd hbv
   have HAp:=(show Hid _ from fun W'=>HAt.out W' PX PY hpx)
   have HNp:=(show Hid _ from fun W' h=>HNe.out W' (PX / 8) (PY / 8) h (zNb hpx))
   have HFv:=(show Hid _ from HFE.out PX PY)
   clear HB
   refine wp_region_noPanic ?_
   refine wp_region_held_drew (S:=fun W'=>Bw V W') (by kernel_rfl) (by have:=Below.refl V.heap.size V;exact Qb) (fun hHeld=>?_)
   have hX0a:Bw V V.drew:=hHeld
   refine zE (i:=0) (d:=some 49) rfl rfl ?_
   try simp only [Act.put,Qx,Qy,Qz]
   refine zE (i:=1) (d:=some 50) rfl rfl ?_
   try simp only [Act.put,Qx,Qy,Qz]
   refine zE (i:=2) (d:=some 51) rfl rfl ?_
   try simp only [Act.put,Qx,Qy,Qz]
   refine zE (i:=3) (d:=some 52) rfl rfl ?_
   try simp only [Act.put,Qx,Qy,Qz]
   refine zE (i:=4) (d:=some 53) rfl rfl ?_
   try simp only [Act.put,Qx,Qy,Qz]
   refine zE (i:=5) (d:=some 54) rfl rfl ?_
   try simp only [Act.put,Qx,Qy,Qz]
   refine zE (i:=6) (d:=some 55) rfl rfl ?_
   try simp only [Act.put,Qx,Qy,Qz]
   refine zE (i:=7) (d:=some 56) rfl rfl ?_
   try simp only [Act.put,Qx,Qy,Qz]
   refine zE (i:=8) (d:=some 57) rfl rfl ?_
   try simp only [Act.put,Qx,Qy,Qz]
   generalize V.drew=wk0a at *
   refine zO 9 fun K hK=>?_
   rw [if_pos (by rfl)]
   go_simp
   refine Calls.mono (HAp.out _) ?_
   rintro e wk1a ⟨rfl,hb1a⟩
   have hX1a:Bw V wk1a:=zA hX0a hb1a
   go_wp2_with fail
   refine hK.out _ _ (by assumption) (fun hHeld=>?_)
   clear hK K
   try simp only [Act.put,Qx,Qy,Qz]
   refine zO 10 fun K hK=>?_
   rw [if_pos (by rfl)]
   go_simp
   refine Calls.mono (HNp.out _ (zA HBd.out hX1a)) ?_
   rintro e wk2a ⟨rfl,hb2a⟩
   have hX2a:Bw V wk2a:=zA hX1a hb2a
   go_wp2_with fail
   refine hK.out _ _ (by assumption) (fun hHeld=>?_)
   clear hK K
   try simp only [Act.put,Qx,Qy,Qz]
   refine zE (i:=11) (d:=some 8) rfl rfl ?_
   try simp only [Act.put,Qx,Qy,Qz]
   refine wpAnyH_done (by kernel_rfl) ?_ _
   refine NoPanic.normal ?_
   have HB9:Hid (Bw V wk2a):=hX2a
   have HBw:Hid (Bw w wk2a):=zA HBd.out HB9.out
   have HO9:Hid (xJ w.heap.size wk2a (.slice va vn vc) (frK F X Y wd i)):=HOd.out.below HB9.out
   have hs9:w.heap.size≤wk2a.heap.size:=HBw.out.size
   clear hX0a hb1a hX1a hb2a hX2a HOd c0
   rcases uG n A z.toNat (PX / 8) (PY / 8) with hnn | ⟨k,j,hk,hnn,hj,h1,h2,h3⟩
   ·have HG:Hid (F PX PY=0):=HFv.out.trans (zQi hnn)
    rw [hnn]
    clear HFv hnn HAp HNp
    have hlen:=HLn.out
    go_wp2_with (first
     | (at_builtin;go_must (refine wpList_append_own _ rfl _ _ 46 rfl w.heap.size 2 ii (.int .i64 0) 1 8 Tryz.underlying46 hi hz0 hz1 hz2 rfl (by decide) _ (frK F X Y wd i).length ((frK F X Y wd i).map (.int .i64 ·)) rfl (World.ownsRow.alloc HO9.out _) ⟨wk2a.heap.size,0,none⟩ 1 1 [.int .i64 0] rfl rfl ?c1 ?c2 ?c3 ?c4 ?c5 ?_)))
    case c1 =>
     intro q u hq
     match q,hq with
     | 0,hq=>simp at hq;subst hq;simp [Addr.add,go_sem]
     | q+1,hq=>simp at hq
    case c2=>intro u hu;simp at hu;subst hu;rfl
    case c3=>unfold maxLen;omega
    case c4=>omega
    case c5=>simp;omega
    intro v' w3 hown' hgrow hnil
    clear hnil
    generalize hU:(wk2a.alloc _:World)=U at hgrow
    have hBV:Bw wk2a U:=by subst hU;exact Qb
    have hBg:Below w.heap.size U w3:=(Below.refl _ _).grown hgrow (by have:=hBV.size;omega) (fun k hk=>HBS.out k hk)
    have HB3:Hid (Bw w w3):=(HBw.out.trans (hBV.mono hs9)).trans hBg
    have HO3:Hid (xJ w.heap.size w3 v' (frK F X Y wd (i+1))):=by
     show xJ _ _ _ _
     rw [HSK.out,HG.out]
     show World.ownsRow _ _ _ _ _ _ _
     rw [List.length_append,List.map_append,HLn.out]
     exact hown'
    clear hown' hgrow hBg hBV hU
    go_wp2
    go_roundw
    case rel=>exact ⟨i+1,by omega,by go_num,HO3.out,HB3.out⟩
    case measure=>simp [intOf];omega
   ·have hkz:z - (A k).z=(j:Int):=by rw [h1];omega
    have HG:Hid (F PX PY=upI j (A k).x (A k).y (A k).I PX PY):=HFv.out.trans (zQj hnn hkz)
    obtain ⟨hmk,hrf⟩:=zQg (HZ0.out k hk)
    have hrb:=zB1 hrf
    have HUp:Hid (∀ W,Bw w W→Calls Tryz.prog 94 #[.slice (A k).ia (A k).m (A k).ic,xD (A k).z (A k).x (A k).y,.int .i64 z,.int .i64 PX,.int .i64 PY] W fun e w'=>e=.returned (.int .i64 (F PX PY))∧Bw W w'):=fun W h=>by
     rcases (HA.out.2 k hk).2.2 with h' | ⟨ib,io,e,hil,hns⟩
     ·omega
     ·rw [e,hmk,HG.out]
      rw [hmk] at hns
      have b1:=zFm (x:=PX) (j:=j) (by omega) (by omega)
      have b2:=zFm (x:=PY) (j:=j) (by omega) (by omega)
      rw [← h2] at b1
      rw [← h3] at b2
      exact zPb ib io (A k).ic j (A k).z (A k).x (A k).y z PX PY (A k).I W (by omega) hkz ⟨hrb.1.1,hrb.1.2⟩ (zBx.below (show zBx w ib io 64 (A k).I from hns) h hil) (Nat.lt_of_lt_of_le hil h.size) hrb.2.1 hrb.2.2 bX bY b1 b2
    rw [hnn]
    have hik:(k:Int)<(n:Int):=by omega
    have hi0:(0:Int)≤(k:Int):=by omega
    have hkn:¬ (k:Int)<0:=by omega
    have hat:=HA.out.2 k hk |>.1
    have hbl:b<w.heap.size:=HA.out.1
    have HKp:Hid (zGc w b (k * 5) (A k)):=hat
    have hbv:=HV.out.below hql HBw.out
    have v7:=hbv.cell 7 rfl
    clear HFv hnn HAp HNp h1 h2 h3 hkz hrf hrb hmk hat hbv HG
    generalize A k=kp at *
    generalize F PX PY=G0 at *
    go_wp2_with fail
    have HBk:Hid (Bw w wk2a):=HBw.out
    have c0:∀ W',Bw w W'→W'.cell? ⟨q,0,none⟩=some (.int .i64 z):=fun W' h=>(HV.out.below hql h).cell 0 rfl
    obtain ⟨e0,e1,e2,e3,e4⟩:=HKp.out
    have d0:∀ W',Bw w W'→W'.cell? ⟨b,k * 5,none⟩=some (.int .i64 kp.z):=fun W' h=>(h.cell (p:=⟨b,_,none⟩) hbl).trans e0
    have d1:∀ W',Bw w W'→W'.cell? ⟨b,k * 5+1,none⟩=some (.int .i64 kp.x):=fun W' h=>(h.cell (p:=⟨b,_,none⟩) hbl).trans e1
    have d2:∀ W',Bw w W'→W'.cell? ⟨b,k * 5+2,none⟩=some (.int .i64 kp.y):=fun W' h=>(h.cell (p:=⟨b,_,none⟩) hbl).trans e2
    have d4:∀ W',Bw w W'→W'.cell? ⟨b,k * 5+4,none⟩=some (.slice kp.ia kp.m kp.ic):=fun W' h=>(h.cell (p:=⟨b,_,none⟩) hbl).trans e4
    clear e0 e1 e2 e3 e4 v7 HKp
    refine wp_region_noPanic ?_
    refine wp_region_held_drew (S:=fun W'=>Bw w W') (by kernel_rfl) (by have:=HBk.out;exact Qb) (fun hHeld=>?_)
    have hX0b:Bw w wk2a.drew:=hHeld
    have HO0b:Hid (xJ w.heap.size wk2a.drew (.slice va vn vc) (frK F X Y wd i)):=HO9.out.below (by exact Qb)
    refine zE (i:=0) (d:=some 72) rfl rfl ?_
    try simp only [Act.put,Qx,Qy,Qz]
    refine zE (i:=1) (d:=some 73) rfl rfl ?_
    try simp only [Act.put,Qx,Qy,Qz]
    refine zE (i:=2) (d:=some 74) rfl rfl ?_
    try simp only [Act.put,Qx,Qy,Qz]
    refine zE (i:=3) (d:=some 75) rfl rfl ?_
    try simp only [Act.put,Qx,Qy,Qz]
    refine zE (i:=4) (d:=some 76) rfl rfl ?_
    try simp only [Act.put,Qx,Qy,Qz]
    refine zE (i:=5) (d:=some 77) rfl rfl ?_
    try simp only [Act.put,Qx,Qy,Qz]
    refine zE (i:=6) (d:=some 78) rfl rfl ?_
    try simp only [Act.put,Qx,Qy,Qz]
    refine zE (i:=7) (d:=some 79) rfl rfl ?_
    try simp only [Act.put,Qx,Qy,Qz]
    refine zE (i:=8) (d:=some 80) rfl rfl ?_
    try simp only [Act.put,Qx,Qy,Qz]
    refine zE (i:=9) (d:=some 81) rfl rfl ?_
    try simp only [Act.put,Qx,Qy,Qz]
    refine zE (i:=10) (d:=some 82) rfl rfl ?_
    try simp only [Act.put,Qx,Qy,Qz]
    refine zE (i:=11) (d:=some 83) rfl rfl ?_
    try simp only [Act.put,Qx,Qy,Qz]
    refine zE (i:=12) (d:=some 84) rfl rfl ?_
    try simp only [Act.put,Qx,Qy,Qz]
    refine zE (i:=13) (d:=some 85) rfl rfl ?_
    try simp only [Act.put,Qx,Qy,Qz]
    refine zE (i:=14) (d:=some 86) rfl rfl ?_
    try simp only [Act.put,Qx,Qy,Qz]
    refine zE (i:=15) (d:=some 87) rfl rfl ?_
    try simp only [Act.put,Qx,Qy,Qz]
    generalize wk2a.drew=wk0b at *
    refine zO 16 fun K hK=>?_
    rw [if_pos (by rfl)]
    go_simp
    refine Calls.mono (HUp.out _ hX0b) ?_
    rintro e wk1b ⟨rfl,hb1b⟩
    have hX1b:Bw w wk1b:=zA hX0b hb1b
    have HO1b:Hid (xJ w.heap.size wk1b (.slice va vn vc) (frK F X Y wd i)):=HO0b.out.below hb1b
    go_wp2_with fail
    refine hK.out _ _ hX1b (fun hHeld=>?_)
    clear hK K
    try simp only [Act.put,Qx,Qy,Qz]
    refine zO 17 fun K hK=>?_
    rw [if_pos (by rfl)]
    go_simp
    generalize hwA:(World.alloc _ _:World)=wk3b
    have hbA:Bw wk1b wk3b:=by subst hwA;exact Qb
    have a0:wk3b.cell? ⟨wk1b.heap.size,0,none⟩=some (.int .i64 G0):=by subst hwA;simp [go_sem]
    have hszA:wk3b.heap.size=wk1b.heap.size+1:=by subst hwA;simp
    have HOA:Hid (wk3b.ownsRow w.heap.size 2 1 (.slice va vn vc) (frK F X Y wd i).length ((frK F X Y wd i).map (.int .i64 ·))):=by subst hwA;exact World.ownsRow.alloc HO1b.out _
    have hXAb:Bw w wk3b:=zA hX1b hbA
    have hsA:=hXAb.size
    clear hwA
    refine hK.out _ _ hXAb (fun hHeld=>?_)
    clear hK K
    try simp only [Act.put,Qx,Qy,Qz]
    have hlen:=HLn.out
    refine zO 18 fun K hK=>?_
    refine xC rfl (.tmp 72) (.tmp 89) 46 rfl w.heap.size 2 ii (.int .i64 0) 1 8 Tryz.underlying46 hi hz0 hz1 hz2 rfl (by decide) (.slice va vn vc) (frK F X Y wd i).length ((frK F X Y wd i).map (.int .i64 ·)) rfl HOA.out ⟨wk1b.heap.size,0,none⟩ 1 1 [.int .i64 G0] rfl rfl ?c1 ?c2 ?c3 ?c4 ?c5 ?_
    case c1 =>
     intro q u hq
     match q,hq with
     | 0,hq=>exact (Option.some.inj hq) ▸ a0
     | q+1,hq=>cases hq
    case c2=>intro u hu;simp at hu;subst hu;rfl
    case c3=>unfold maxLen;omega
    case c4=>omega
    case c5=>first | omega | (simp;omega)
    intro v' w3' hown' hgrow hnil
    clear hnil
    have hBg:Below w.heap.size wk3b w3':=(Below.refl _ _).grown hgrow (by omega) (fun b hb=>HBS.out b hb)
    have hB3:Bw w w3':=hXAb.trans hBg
    have HO4:Hid (xJ w.heap.size w3' v' (frK F X Y wd (i+1))):=by
     show xJ _ _ _ _
     rw [HSK.out]
     show World.ownsRow _ _ _ _ _ _ _
     rw [List.length_append,List.map_append]
     exact hown'
    rw [hlen] at hown'
    obtain ⟨ga,gc,rfl⟩:=uF hown'
    show K (Act.put _ (some 90) _) w3'
    refine hK.out _ _ hB3 (fun hHeld=>?_)
    clear hK K hown' hgrow hBg
    try simp only [Act.put,Qx,Qy,Qz]
    refine zE (i:=19) (d:=some 4) rfl rfl (hS:=hB3) ?_
    try simp only [Act.put,Qx,Qy,Qz]
    refine wpAnyH_done (by kernel_rfl) ?_ _
    refine NoPanic.normal ?_
    have HB3:Hid (Bw w w3'):=hB3
    go_wp2_with fail
    go_roundw
    case rel=>exact ⟨i+1,by omega,by go_num,HO4.out,HB3.out⟩
    case measure=>simp [intOf];omega
  ·obtain rfl:i=N:=by omega
   have hnn:¬ (i:Int)<(i:Int):=by omega
   go_wp2_with fail
   go_region
   go_wp2
   go_ret
   refine ⟨_,rfl,?_,?_⟩
   ·rw [HRW.out]
    exact HO0'.out.below (by exact Qb)
   ·have h1:=HB.out
    exact Qb
end Go.Proofs.YtpaiholildedcaaGreat
