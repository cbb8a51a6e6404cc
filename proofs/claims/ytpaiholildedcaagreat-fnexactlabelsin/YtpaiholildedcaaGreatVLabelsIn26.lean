/- Texts. -/
import Derived.Test.YtpaiholildedcaaGreatVLabelsIn24
import Derived.Test.YtpaiholildedcaaGreatVLabelsIn23
set_option linter.unusedSimpArgs false
set_option linter.unusedVariables false
set_option maxRecDepth 100000
set_option maxHeartbeats 32000000
namespace Go.Proofs.YtpaiholildedcaaGreat
open Go.RowKit
theorem zAm.congr {w:World}{lo hi b n:Nat}{N C N' C' q:Nat→Nat}(h:zAm w lo hi b n N C q)(e:∀ i,i<n→N i=N' i∧C i=C' i):zAm w lo hi b n N' C' q:=by
 obtain ⟨h1,h2,h3,h4⟩:=h
 exact ⟨h1,h2,fun i hi=>by rw [← (e i hi).1,← (e i hi).2];exact h3 i hi,h4⟩
theorem tlW_of {w:World}{lo md hi:Nat}{r:Kp}{fb ib:Nat}{N C q:Nat→Nat}(h1:lo≤md)(h2:md≤hi)(h3:hi≤w.heap.size)(hQ:zAm w lo md fb r.fn N C q)(hf:r.fa=some ⟨fb,0,none⟩)(hN:∀ i,i<r.fn→(r.F i).n=N i∧(r.F i).cap=C i)(hi':r.ia=some ⟨ib,0,none⟩)(h4:md≤ib)(h5:ib<hi)(hT:zD w ib r.m):TlW w lo hi r :=
 ⟨md,h1,h2,h3,.inr ⟨fb,q,hf,hQ.congr (fun i hi=>⟨(hN i hi).1.symm,(hN i hi).2.symm⟩)⟩,.inr ⟨ib,hi',h4,h5,hT⟩⟩
theorem TlW.wide {w:World}{lo lo' hi:Nat}{r:Kp}(h:TlW w lo hi r)(hl:lo'≤lo):TlW w lo' hi r:=by
 obtain ⟨md,h1,h2,h3,h4,h5⟩:=h
 exact ⟨md,Nat.le_trans hl h1,h2,h3,h4.imp id (fun ⟨g,q,e,ho⟩=>⟨g,q,e,ho.wideQ hl⟩),h5⟩
theorem TlW.top {w:World}{lo hi:Nat}{r:Kp}(h:TlW w lo hi r)(hl:hi≤w.heap.size):TlW w lo w.heap.size r:=by
 obtain ⟨md,h1,h2,h3,h4,h5⟩:=h
 exact ⟨md,h1,Nat.le_trans h2 hl,Nat.le_refl _,h4,h5.imp id (fun ⟨ib,e,a,b,c⟩=>⟨ib,e,a,Nat.lt_of_lt_of_le b hl,c⟩)⟩
theorem KsW.mid {w w':World}{g n l h:Nat}{R:Nat→Kp}{M:Nat→Nat}(hT:KsW w g n R M)(hM:zW l h w w')(ho:h≤g∨M n≤l):KsW w' g n R M:=by
 obtain ⟨h1,h2,h3,h4⟩:=hT
 have hu:=fun i j (a:i≤j) (b:j≤n)=>upM (fun j hj=>(h3 j hj).1) a b
 have h0n:=hu 0 n (Nat.zero_le _) (Nat.le_refl _)
 refine ⟨hM.there h1 (by omega),h2,fun j hj=>⟨(h3 j hj).1,(h3 j hj).2.1.mid hM (by omega),(h3 j hj).2.2.mid hM ?_⟩,Nat.le_trans h4 hM.size⟩
 have:=hu 0 j (Nat.zero_le _) (by omega)
 have:=hu (j+1) n (by omega) (Nat.le_refl _)
 omega
theorem KsW.below {w w':World}{g n:Nat}{R:Nat→Kp}{M:Nat→Nat}(hT:KsW w g n R M)(hb:Below w.heap.size w w'):KsW w' g n R M:=hT.mid (zW.of_below (lo:=M n) (hi:=g) hb) (.inl (Nat.le_refl _))
theorem zMz (k:Kp)(w:World)(hp:zOh w k)(hs:vV k):Calls Tryz.prog 143 #[kpV k] w fun e w'=>∃ a,e=.returned (kpV a)∧vX w' w.heap.size k a∧TlW w' w.heap.size w'.heap.size a∧Bw w w':=by
 have HP:Hid (zOh w k):=hp
 have HS:Hid (vV k):=hs
 clear hp hs
 go_enter Tryz.func143,Tryz.ntmps143
 go_wp2_with fail
 generalize hW:(((w.alloc _).alloc _).alloc _:World)=W
 have hB0:Bw w W:=by subst hW;exact Qb
 have HT:Hid (zD W (w.heap.size+1) 5):=by
  show zD _ _ _
  subst hW
  have:=(zOy (w.alloc (.cells #[.int .i64 k.z,.int .i64 k.x,.int .i64 k.y,.slice k.fa k.fn k.fc,.slice k.ia k.m k.ic] 191)) (.int .i64 0) (.int .i64 0) (.int .i64 0) (.slice none 0 0) (.slice none 0 0) 141).below (xD (Below.refl _ _) (.cells #[.int .i64 0,.int .i64 0,.int .i64 0,.slice none 0 0,.slice none 0 0] 141))
  simpa using this
 have HU:Hid (zD W (w.heap.size+1+1) 5):=by
  show zD _ _ _
  subst hW
  have:=zOy ((w.alloc (.cells #[.int .i64 k.z,.int .i64 k.x,.int .i64 k.y,.slice k.fa k.fn k.fc,.slice k.ia k.m k.ic] 191)).alloc (.cells #[.int .i64 0,.int .i64 0,.int .i64 0,.slice none 0 0,.slice none 0 0] 141)) (.int .i64 0) (.int .i64 0) (.int .i64 0) (.slice none 0 0) (.slice none 0 0) 141
  simpa using this
 have c4:W.cell? ⟨w.heap.size,4,none⟩=some (.slice k.ia k.m k.ic):=by subst hW;simp [go_sem]
 have hsz:w.heap.size+1+1<W.heap.size:=by subst hW;simp
 clear hW
 refine (zMx k.z k.x k.y k.fa k.fn k.fc k.F W (HP.out.below hB0).1 HS.out.1.1 (fun i hi=>(HS.out.1.2 i hi).1)).mono ?_
 rintro e w1 ⟨fb,G,rfl,hO1,⟨q,hQ1⟩,hb1⟩
 have HQ1:Hid (zAm w1 W.heap.size w1.heap.size fb k.fn (fun i=>(k.F i).n) (fun i=>(k.F i).n) q):=hQ1
 have hs1W:=hb1.size
 clear hQ1
 have d4:w1.cell? ⟨w.heap.size,4,none⟩=some (.slice k.ia k.m k.ic):=zH hb1 c4
 have HO1:Hid (xX w1 W.heap.size fb k.fn k.F G):=hO1
 have HT1:Hid (zD w1 (w.heap.size+1) 5):=HT.out.below hb1
 have HU1:Hid (zD w1 (w.heap.size+1+1) 5):=HU.out.below hb1
 have hB1:Bw w w1:=zA hB0 hb1
 have hsz1:w.heap.size+1+1<w1.heap.size:=Nat.lt_of_lt_of_le hsz hb1.size
 clear c4 HT HU hB0 hb1 hO1
 have hT':=HU1.out
 have t0:=hT'.cell 0 (by omega)
 have t1:=hT'.cell 1 (by omega)
 have t2:=hT'.cell 2 (by omega)
 have t3:=hT'.cell 3 (by omega)
 have t4:=hT'.cell 4 (by omega)
 have f0:=(hT' 0 (by omega)).2
 have f1:=(hT' 1 (by omega)).2
 have f2:=(hT' 2 (by omega)).2
 have f3:=(hT' 3 (by omega)).2
 have f4:=(hT' 4 (by omega)).2
 clear hT'
 go_wp2_with fail
 generalize hW2:((((w1.setCell ⟨w.heap.size+1+1,0,none⟩ (.int .i64 k.z)).setCell ⟨w.heap.size+1+1,1,none⟩ (.int .i64 k.x)).setCell ⟨w.heap.size+1+1,2,none⟩ (.int .i64 k.y)).setCell ⟨w.heap.size+1+1,3,none⟩ (.slice (some ⟨fb,0,none⟩) k.fn k.fn))=w2
 obtain ⟨g0,g1,g2,g3⟩:w2.cell? ⟨w.heap.size+1+1,0,none⟩=some (.int .i64 k.z)∧w2.cell? ⟨w.heap.size+1+1,1,none⟩=some (.int .i64 k.x)∧w2.cell? ⟨w.heap.size+1+1,2,none⟩=some (.int .i64 k.y)∧w2.cell? ⟨w.heap.size+1+1,3,none⟩=some (.slice (some ⟨fb,0,none⟩) k.fn k.fn):=by
  rw [← hW2]
  exact zAt (fun o ho=>HU1.out o (by omega))
 have HU2:Hid (zD w2 (w.heap.size+1+1) 5):=by
  show zD _ _ _
  rw [← hW2]
  exact (((HU1.out.set _ _).set _ _).set _ _).set _ _
 have hM2:zW w.heap.size (w.heap.size+1+1+1) w1 w2:=by
  rw [← hW2]
  exact ((((zW.refl _ _ _).set (by omega) (by omega) _ _).set (by omega) (by omega) _ _).set (by omega) (by omega) _ _).set (by omega) (by omega) _ _
 have HT2:Hid (zD w2 (w.heap.size+1) 5):=by
  show zD _ _ _
  rw [← hW2]
  exact (((HT1.out.otherJ (by omega)).otherJ (by omega)).otherJ (by omega)).otherJ (by omega)
 have HO2:Hid (xX w2 W.heap.size fb k.fn k.F G):=HO1.out.midB hM2 (by omega) (Nat.le_refl _)
 have HQ2:Hid (zAm w2 W.heap.size w1.heap.size fb k.fn (fun i=>(k.F i).n) (fun i=>(k.F i).n) q):=HQ1.out.away hM2 (.inl (by omega))
 have hs12:=hM2.size
 have hB2:Bw w w2:=hB1.trans (hM2.below (by omega))
 have hsz2:w.heap.size+1+1<w2.heap.size:=Nat.lt_of_lt_of_le hsz1 hM2.size
 have hsW:W.heap.size≤w2.heap.size:=Nat.le_trans (Nat.le_of_lt (Nat.lt_of_le_of_lt HO1.out.1 HO1.out.2.1)) hM2.size
 clear hW2 hM2 t0 t1 t2 t3 t4 f0 f1 f2 f3 f4 HU1 HT1 hB1 d4 hsz1 HO1
 refine (zIb k.ia k.m k.ic k.I w2 (HP.out.2.below hB2) HS.out.2).mono ?_
 rintro e w3 ⟨ib,rfl,hge3,hlt3,hN3,hTi3,hb3⟩
 have HQ3:Hid (zAm w3 W.heap.size w1.heap.size fb k.fn (fun i=>(k.F i).n) (fun i=>(k.F i).n) q):=HQ2.out.below hb3
 have HTi3:Hid (zD w3 ib k.m):=hTi3
 have hs23:=hb3.size
 clear hTi3
 have k0:=zH hb3 g0
 have k1:=zH hb3 g1
 have k2:=zH hb3 g2
 have k3:=zH hb3 g3
 have hT3:=HT2.out.below hb3
 have hU3:=HU2.out.below hb3
 have hz4:=(hU3 4 (by omega)).2
 obtain ⟨u4,k4⟩:=(hU3 4 (by omega)).1
 have HO3:Hid (xX w3 W.heap.size fb k.fn k.F G):=HO2.out.below hb3
 have HN3:Hid (zGm w3 ib 0 k.m k.I):=hN3
 have HB3:Hid (Bw w w3):=zA hB2 hb3
 have hne:∀ i j:Nat,i≠j→(⟨w.heap.size+1+1,i,none⟩:Addr)≠⟨w.heap.size+1+1,j,none⟩:=fun i j hij h=>hij (by injection h)
 have i0:(w3.setCell ⟨w.heap.size+1+1,4,none⟩ (.slice (some ⟨ib,0,none⟩) k.m k.m)).cell? ⟨w.heap.size+1+1,0,none⟩=some (.int .i64 k.z):=by rw [zB (hne _ _ (by omega))];exact k0
 have i1:(w3.setCell ⟨w.heap.size+1+1,4,none⟩ (.slice (some ⟨ib,0,none⟩) k.m k.m)).cell? ⟨w.heap.size+1+1,1,none⟩=some (.int .i64 k.x):=by rw [zB (hne _ _ (by omega))];exact k1
 have i2:(w3.setCell ⟨w.heap.size+1+1,4,none⟩ (.slice (some ⟨ib,0,none⟩) k.m k.m)).cell? ⟨w.heap.size+1+1,2,none⟩=some (.int .i64 k.y):=by rw [zB (hne _ _ (by omega))];exact k2
 have i3:(w3.setCell ⟨w.heap.size+1+1,4,none⟩ (.slice (some ⟨ib,0,none⟩) k.m k.m)).cell? ⟨w.heap.size+1+1,3,none⟩=some (.slice (some ⟨fb,0,none⟩) k.fn k.fn):=by rw [zB (hne _ _ (by omega))];exact k3
 have i4:(w3.setCell ⟨w.heap.size+1+1,4,none⟩ (.slice (some ⟨ib,0,none⟩) k.m k.m)).cell? ⟨w.heap.size+1+1,4,none⟩=some (.slice (some ⟨ib,0,none⟩) k.m k.m):=zG k4
 have HT4:Hid (zD (w3.setCell ⟨w.heap.size+1+1,4,none⟩ (.slice (some ⟨ib,0,none⟩) k.m k.m)) (w.heap.size+1) 5):=hT3.otherJ (by omega)
 have hT':=HT4.out
 have t0:=hT'.cell 0 (by omega)
 have t1:=hT'.cell 1 (by omega)
 have t2:=hT'.cell 2 (by omega)
 have t3:=hT'.cell 3 (by omega)
 have t4:=hT'.cell 4 (by omega)
 have f0:=(hT' 0 (by omega)).2
 have f1:=(hT' 1 (by omega)).2
 have f2:=(hT' 2 (by omega)).2
 have f3:=(hT' 3 (by omega)).2
 have f4:=(hT' 4 (by omega)).2
 clear hT' g0 g1 g2 g3 HT2 HU2 hB2 hN3 hb3 hT3 hU3 hne k0 k1 k2 k3 HP HO2
 go_wp2_with fail
 have hat:=zPx (W:=w3.setCell ⟨w.heap.size+1+1,4,none⟩ (.slice (some ⟨ib,0,none⟩) k.m k.m)) (B:=w.heap.size+1) (o:=0) (k:=⟨k.z,k.x,k.y,some ⟨fb,0,none⟩,k.fn,k.fn,G,some ⟨ib,0,none⟩,k.m,k.m,k.I⟩) HT4.out (by omega)
 have hMM:zW w.heap.size (w.heap.size+1+1+1) w3 (zF7 (w3.setCell ⟨w.heap.size+1+1,4,none⟩ (.slice (some ⟨ib,0,none⟩) k.m k.m)) (w.heap.size+1) 0 ⟨k.z,k.x,k.y,some ⟨fb,0,none⟩,k.fn,k.fn,G,some ⟨ib,0,none⟩,k.m,k.m,k.I⟩):=by
  unfold zF7
  exact ((((((zW.refl _ _ _).set (by omega) (by omega) _ _).set (by omega) (by omega) _ _).set (by omega) (by omega) _ _).set (by omega) (by omega) _ _).set (by omega) (by omega) _ _).set (by omega) (by omega) _ _
 have hown:vX w3 W.heap.size k ⟨k.z,k.x,k.y,some ⟨fb,0,none⟩,k.fn,k.fn,G,some ⟨ib,0,none⟩,k.m,k.m,k.I⟩:=⟨⟨rfl,rfl,rfl⟩,⟨fb,rfl,rfl,rfl,HO3.out⟩,ib,rfl,rfl,rfl,rfl,by omega,hlt3,HN3.out⟩
 have hsM:=hMM.size
 have htl:=tlW_of (r:=⟨k.z,k.x,k.y,some ⟨fb,0,none⟩,k.fn,k.fn,G,some ⟨ib,0,none⟩,k.m,k.m,k.I⟩) (lo:=w.heap.size) (md:=w1.heap.size) (hi:=w3.heap.size) (by omega) (by omega) hsM ((HQ3.out.away hMM (.inl (by omega))).wideQ (lo':=w.heap.size) (by omega)) rfl (fun i hi=>⟨(HO3.out.2.2.2 i hi).1.2.2.2.2.1,by obtain ⟨_,_,_,h,_⟩:=HO3.out.2.2.2 i hi;rw [h];exact (HO3.out.2.2.2 i hi).1.2.2.2.2.1⟩) rfl (by omega) hlt3 (hMM.there HTi3.out (.inr (by omega)))
 have hown':=hown.mid hMM (by omega) (C:=w.heap.size) (by omega)
 have hbl:Bw w (zF7 (w3.setCell ⟨w.heap.size+1+1,4,none⟩ (.slice (some ⟨ib,0,none⟩) k.m k.m)) (w.heap.size+1) 0 ⟨k.z,k.x,k.y,some ⟨fb,0,none⟩,k.fn,k.fn,G,some ⟨ib,0,none⟩,k.m,k.m,k.I⟩):=HB3.out.trans (hMM.below (by omega))
 have htl2:=htl.top hsM
 simp only [zF7,Nat.zero_add] at hat hown' hbl htl2
 exact bodyPost_ret (resTK _ _ _ ⟨k.z,k.x,k.y,some ⟨fb,0,none⟩,k.fn,k.fn,G,some ⟨ib,0,none⟩,k.m,k.m,k.I⟩ rfl hat) rfl ⟨_,rfl,hown',htl2,hbl⟩
theorem zKf (a:Option Addr)(n cap:Nat)(K:Nat→Kp)(w:World)(hp:zDn w a n K)(hs:zL n K) :
  Calls Tryz.prog 95 #[.slice a n cap] w fun e w'=>∃ b A,e=.returned (.slice (some ⟨b,0,none⟩) n n)∧w.heap.size≤b∧yB w' (b+1) b n K A∧(∃ M,KsW w' b n A M)∧Bw w w':=by
 have hmk:=zNj n hs.1
 have HP:Hid (zDn w a n K):=hp
 have HS:Hid (zL n K):=hs
 have hmax:=hs.1
 clear hp hs
 go_enter Tryz.func95,Tryz.ntmps95
 go_wp2
 generalize hW:(w.alloc _:World)=W
 have HB0:Hid (Bw w W):=by show Below _ _ _;subst hW;exact Qb
 have HT0:Hid (zD W w.heap.size (n * 5)):=by show zD _ _ _;subst hW;exact zKj _ _ _
 have HL0:Hid (w.heap.size<W.heap.size):=by show _<_;subst hW;simp
 clear hW hmk
 go_loopw [4] (fun i wr=>∃ (k:Nat) (A:Nat→Kp) (M:Nat→Nat),k≤n∧i=.int .i64 k∧Bw w wr∧zD wr w.heap.size (n * 5)∧yB wr (w.heap.size+1) w.heap.size k K A∧w.heap.size<M 0∧(∀ j,j<k→M j≤M (j+1)∧TlW wr (M j) (M (j+1)) (A j))∧M k≤wr.heap.size) (fun i _=>n - (intOf i).toNat)
 case atStart=>exact ⟨0,fun _=>⟨0,0,0,none,0,0,fun _=>⟨0,0,0,0,none,0,0,fun _=>0,fun _=>0,⟨#[]⟩,0⟩,none,0,0,fun _=>0⟩,fun _=>W.heap.size,by omega,rfl,HB0.out,HT0.out,⟨Nat.lt_succ_self _,HL0.out,fun i hi=>absurd hi (Nat.not_lt_zero _)⟩,HL0.out,fun j hj=>absurd hj (Nat.not_lt_zero _),Nat.le_refl _⟩
 case round =>
  obtain ⟨k,A,M,hk,rfl,hB,hT,hO,hM0,hMt,hMk⟩:=hrel
  have HMt:Hid (∀ j,j<k→M j≤M (j+1)∧TlW wr (M j) (M (j+1)) (A j)):=hMt
  by_cases hlt:k<n
  ·rcases HP.out with h0 | ⟨b,off,rfl,hbl,hpt⟩
   ·omega
   obtain ⟨⟨f0,f1,f2,f3,f4⟩,hkis⟩:=(hpt.below hB hbl) k hlt
   have HKI:Hid (zOh wr (K k)):=hkis
   have HB:Hid (Bw w wr):=hB
   have HT:Hid (zD wr w.heap.size (n * 5)):=hT
   have HO:Hid (yB wr (w.heap.size+1) w.heap.size k K A):=hO
   have hsr:w.heap.size<wr.heap.size:=hO.2.1
   clear hB hT hO hpt hkis hMt
   have hi:(k:Int)<(n:Int):=by omega
   have hi0:(0:Int)≤(k:Int):=by omega
   go_wp2_with fail
   refine (zMz (K k) _ HKI.out (HS.out.2 k hlt)).mono ?_
   rintro e w' ⟨c,rfl,hc,hw,hb⟩
   have HWc:Hid (TlW w' wr.heap.size w'.heap.size c):=hw
   have hsb:=hb.size
   clear hw
   have hT':=HT.out.below hb
   have t0:=hT'.cell (k * 5+0) (by omega)
   have t1:=hT'.cell (k * 5+1) (by omega)
   have t2:=hT'.cell (k * 5+2) (by omega)
   have t3:=hT'.cell (k * 5+3) (by omega)
   have t4:=hT'.cell (k * 5+4) (by omega)
   have y0:=(hT' (k * 5+0) (by omega)).2
   have y1:=(hT' (k * 5+1) (by omega)).2
   have y2:=(hT' (k * 5+2) (by omega)).2
   have y3:=(hT' (k * 5+3) (by omega)).2
   have y4:=(hT' (k * 5+4) (by omega)).2
   simp only [Nat.add_zero] at t0 y0
   have HT':Hid (zD w' w.heap.size (n * 5)):=hT'
   have HBn:Hid (Bw wr w'):=hb
   have HC:Hid (vX w' wr.heap.size (K k) c):=hc
   have HO':Hid (yB w' (w.heap.size+1) w.heap.size k K A):=HO.out.below hb
   clear hT' hb hc f0 f1 f2 f3 f4
   go_wp2
   go_roundw
   case rel =>
    have hM:=zL4 w' w.heap.size (k * 5) c
    refine ⟨k+1,fun i=>if i=k then c else A i,fun i=>if i=k+1 then w'.heap.size else M i,by omega,by go_num,?_,?_,?_,?_,?_,?_⟩
    ·exact (HB.out.trans (HBn.out.mono HB.out.size)).trans ((hM.below (by have:=HBn.out.size;omega)))
    ·exact zNl (k:=c) (B:=w.heap.size) (o:=k * 5) HT'.out
    ·refine ⟨Nat.lt_succ_self _,by show _<(zF7 w' w.heap.size (k * 5) c).heap.size;rw [zIx];exact HO'.out.2.1,fun i hi=>?_⟩
     by_cases e:i=k
     ·subst e
      dsimp only
      rw [if_pos rfl]
      exact ⟨zPx HT'.out (by omega),HC.out.mid hM (by omega) (by omega)⟩
     ·dsimp only
      rw [if_neg e]
      obtain ⟨h1,h2⟩:=HO'.out.2.2 i (by omega)
      refine ⟨?_,h2.mid hM (Nat.le_refl _) (Nat.le_refl _)⟩
      unfold zQ4 at h1 ⊢
      show (zF7 w' w.heap.size (k * 5) c).cell? _=_∧(zF7 w' w.heap.size (k * 5) c).cell? _=_∧(zF7 w' w.heap.size (k * 5) c).cell? _=_∧(zF7 w' w.heap.size (k * 5) c).cell? _=_∧(zF7 w' w.heap.size (k * 5) c).cell? _=_
      rw [uQ (.inr (.inl (by simp;omega))),uQ (.inr (.inl (by simp;omega))),uQ (.inr (.inl (by simp;omega))),uQ (.inr (.inl (by simp;omega))),uQ (.inr (.inl (by simp;omega)))]
      exact h1
    ·show w.heap.size<(if 0=k+1 then _ else M 0)
     rw [if_neg (by omega)];exact hM0
    ·intro j hj
     have hMn:=zL4 w' w.heap.size (k * 5) c
     have hup:=fun (i j:Nat) (a:i≤j) (b:j≤k)=>upM (M:=M) (n:=k) (fun i hi=>(HMt.out i hi).1) a b
     by_cases e:j=k
     ·subst e
      simp only [if_pos,if_neg (show ¬ j=j+1 by omega)]
      have h0j:=hup 0 j (Nat.zero_le j) (Nat.le_refl _)
      exact ⟨by omega,(HWc.out.mid hMn (.inl (by omega))).wide (by omega)⟩
     ·have hjk:j<k:=by omega
      have h0j:=hup 0 j (Nat.zero_le j) (by omega)
      simp only [if_neg (show ¬ j=k+1 by omega),if_neg (show ¬ j+1=k+1 by omega),if_neg e]
      exact ⟨(HMt.out j hjk).1,((HMt.out j hjk).2.mid (zW.of_below (lo:=0) (hi:=0) HBn.out) (.inl (Nat.zero_le _))).mid hMn (.inl (by omega))⟩
    ·show (if k+1=k+1 then _ else _)≤(zF7 w' w.heap.size (k * 5) c).heap.size
     rw [if_pos rfl,zIx];exact Nat.le_refl _
   case measure=>simp [intOf];omega
  ·go_wp2
   go_ret
   have hkn:k=n:=by omega
   subst hkn
   exact ⟨_,A,rfl,Nat.le_refl _,hO,⟨M,hT,hM0,fun j hj=>⟨(hMt j hj).1,⟨(hO.2.2 j hj).1.2.2.2.1,(hO.2.2 j hj).1.2.2.2.2⟩,(hMt j hj).2⟩,hMk⟩,hB⟩
theorem zKg (s:Int)(a:Option Addr)(n cap:Nat)(K:Nat→Kp)(w:World)(hp:zDn w a n K)(hs:zL n K) :
  Calls Tryz.prog 45 #[caV s (.slice a n cap)] w fun e w'=>∃ b A,e=.returned (caV s (.slice (some ⟨b,0,none⟩) n n))∧w.heap.size≤b∧yB w' (b+1) b n K A∧(∃ M,KsW w' b n A M)∧Bw w w':=by
 have HP:Hid (zDn w a n K):=hp
 have HS:Hid (zL n K):=hs
 clear hp hs
 go_enter Tryz.func45,Tryz.ntmps45
 go_wp2_with fail
 generalize hW:(((w.alloc _).alloc _).alloc _:World)=W
 have hB0:Bw w W:=by subst hW;exact Qb
 have HT:Hid (zD W (w.heap.size+1) 2):=by
  show zD _ _ _
  subst hW
  have:=(zOz (w.alloc (.cells #[.int .i64 s,.slice a n cap] 41)) (.int .i64 0) (.slice none 0 0) 28).below (xD (Below.refl _ _) (.cells #[.int .i64 s,.slice none 0 0] 28))
  simpa using this
 have HU:Hid (zD W (w.heap.size+1+1) 2):=by
  show zD _ _ _
  subst hW
  have:=zOz ((w.alloc (.cells #[.int .i64 s,.slice a n cap] 41)).alloc (.cells #[.int .i64 0,.slice none 0 0] 28)) (.int .i64 s) (.slice none 0 0) 28
  simpa using this
 have u0:W.cell? ⟨w.heap.size+1+1,0,none⟩=some (.int .i64 s):=by subst hW;simp [go_sem]
 have hsz:w.heap.size+1+1<W.heap.size:=World.block_lt_of_cell? _ _ u0
 clear hW
 refine (zKf a n cap K W (HP.out.below hB0) HS.out).mono ?_
 rintro e w1 ⟨b,A,rfl,hge,hO1,⟨M,hM1⟩,hb1⟩
 have HM1:Hid (KsW w1 b n A M):=hM1
 clear hM1
 have HO1:Hid (yB w1 (b+1) b n K A):=hO1
 have k0:=zH hb1 u0
 have hT1:=HT.out.below hb1
 have hU1:=HU.out.below hb1
 have hz1:=(hU1 1 (by omega)).2
 obtain ⟨u1,k1⟩:=(hU1 1 (by omega)).1
 have HB1:Hid (Bw w w1):=zA hB0 hb1
 have hne:∀ i j:Nat,i≠j→(⟨w.heap.size+1+1,i,none⟩:Addr)≠⟨w.heap.size+1+1,j,none⟩:=fun i j hij h=>hij (by injection h)
 have i0:(w1.setCell ⟨w.heap.size+1+1,1,none⟩ (.slice (some ⟨b,0,none⟩) n n)).cell? ⟨w.heap.size+1+1,0,none⟩=some (.int .i64 s):=by rw [zB (hne _ _ (by omega))];exact k0
 have i1:(w1.setCell ⟨w.heap.size+1+1,1,none⟩ (.slice (some ⟨b,0,none⟩) n n)).cell? ⟨w.heap.size+1+1,1,none⟩=some (.slice (some ⟨b,0,none⟩) n n):=zG k1
 have HT2:Hid (zD (w1.setCell ⟨w.heap.size+1+1,1,none⟩ (.slice (some ⟨b,0,none⟩) n n)) (w.heap.size+1) 2):=hT1.otherJ (by omega)
 have t0:=HT2.out.cell 0 (by omega)
 have t1:=HT2.out.cell 1 (by omega)
 have f0:=(HT2.out 0 (by omega)).2
 have f1:=(HT2.out 1 (by omega)).2
 clear hT1 hU1 hO1 hb1 hne HT HU hB0 u0 HP
 go_wp2_with fail
 obtain ⟨q0,q1⟩:=zBi (W:=w1.setCell ⟨w.heap.size+1+1,1,none⟩ (.slice (some ⟨b,0,none⟩) n n)) (r:=w.heap.size+1) (i:=0) (j:=1) (u:=.int .i64 s) (v:=.slice (some ⟨b,0,none⟩) n n) (by omega) (by rw [t0];rfl) (by rw [t1];rfl)
 have hMM:zW w.heap.size (w.heap.size+1+1+1) w1 (((w1.setCell ⟨w.heap.size+1+1,1,none⟩ (.slice (some ⟨b,0,none⟩) n n)).setCell ⟨w.heap.size+1,0,none⟩ (.int .i64 s)).setCell ⟨w.heap.size+1,1,none⟩ (.slice (some ⟨b,0,none⟩) n n)) :=
  (((zW.refl _ _ _).set (by omega) (by omega) _ _).set (by omega) (by omega) _ _).set (by omega) (by omega) _ _
 exact bodyPost_ret (resTC rfl q0 q1) rfl ⟨b,A,rfl,by omega,HO1.out.mid (C:=0) hMM (by omega),⟨M,HM1.out.mid hMM (.inl (by omega))⟩,HB1.out.trans (hMM.below (by have:=HB1.out.size;omega))⟩
end Go.Proofs.YtpaiholildedcaaGreat
