/- Texts. -/
import Derived.Test.YtpaiholildedcaaGreatVLabelsIn33
set_option linter.unusedSimpArgs false
set_option linter.unusedVariables false
set_option maxRecDepth 100000
set_option maxHeartbeats 32000000
namespace Go.Proofs.YtpaiholildedcaaGreat
open Go.RowKit

theorem zQ7.grownM {w w':World}{b off n g:Nat}{R:Rfs}(h:zQ7 w b off n R)(hb:b<w.heap.size)(hg:w.grownBy w' (some g))(hne:b≠g):zQ7 w' b off n R:=fun i hi =>
 ⟨(hg.cell_far ⟨b,_,none⟩ hb (fun e=>hne (by injection e))).trans (h i hi).1,(hg.cell_far ⟨b,_,none⟩ hb (fun e=>hne (by injection e))).trans (h i hi).2.1,(hg.cell_far ⟨b,_,none⟩ hb (fun e=>hne (by injection e))).trans (h i hi).2.2⟩
theorem zA7 {z x y wd ht now s:Int}{n:Nat}{K:Nat→Kp}{rn:Nat}{E:Nat→Req}{bad:Int}(h:viewC z x y wd ht now s n K rn E bad=0):zBy z x y wd ht=true∧cacheC s n K=0:=by
 have h1:or2 (uJ z x y wd ht) (zE5 now bad)=0:=by
  by_cases e:or2 (uJ z x y wd ht) (zE5 now bad)=0
  ·exact e
  ·rw [zDp e] at h;exact h
 have h2:or3 (cacheC s n K) (if s<4 then 3 else 0) (zX rn E)=0:=by
  by_cases e:or3 (cacheC s n K) (if s<4 then 3 else 0) (zX rn E)=0
  ·exact e
  ·rw [zC0 h1 e] at h;exact h
 refine ⟨?_,(zG3 h2).1⟩
 have h3:=(zG4 h1).1
 unfold uJ at h3
 by_cases e:zBy z x y wd ht=true
 ·exact e
 ·rw [if_neg e] at h3;cases h3
def xN (A:Nat→Kp)(c:Nat):zS:=(A (c / 64)).F (c % 64)
def zFm (A:Nat→Kp)(l:List Nat)(t:Int):Bool:=l.any (fun c=>decide ((xN A c).id=t))
def xR (A:Nat→Kp)(i:Nat)(l:List Nat):Nat→List Nat
 | 0=>l
 | m+1=>if zFm A (xR A i l m) (xN A (i * 64+m)).id=true then xR A i l m else xR A i l m ++ [i * 64+m]
def yN (n:Nat)(R:Rfs)(A:Nat→Kp):Nat→List Nat
 | 0=>[]
 | k+1=>if 0≤atK n A (R.z k) (R.x k) (R.y k) then xR A (atK n A (R.z k) (R.x k) (R.y k)).toNat (yN n R A k) (A (atK n A (R.z k) (R.x k) (R.y k)).toNat).fn else yN n R A k
theorem zDl (A:Nat→Kp)(i:Nat)(l:List Nat):∀ m,(xR A i l m).length≤l.length+m
 | 0=>Nat.le_refl _
 | m+1=>by
  have ih:=zDl A i l m
  rw [xR]
  split
  ·omega
  ·rw [List.length_append,List.length_singleton];omega
def OkC (n:Nat)(A:Nat→Kp)(l:List Nat):Prop:=(∀ c ∈ l,c / 64<n∧c % 64<(A (c / 64)).fn)∧l.Pairwise (fun a b=>(xN A a).id≠(xN A b).id)
theorem OkC.add {n i:Nat}{A:Nat→Kp}{l:List Nat}(h:OkC n A l)(hi:i<n)(hf:(A i).fn≤12):∀ m,m≤(A i).fn→OkC n A (xR A i l m)
 | 0,_=>h
 | m+1,hm=>by
  have ih:=OkC.add h hi hf m (by omega)
  rw [xR]
  split
  ·exact ih
  ·rename_i hno
   refine ⟨fun c hc=>?_,?_⟩
   ·rcases List.mem_append.1 hc with hc | hc
    ·exact ih.1 c hc
    ·obtain rfl:=List.mem_singleton.1 hc
     have e1:(i * 64+m) / 64=i:=by omega
     have e2:(i * 64+m) % 64=m:=by omega
     rw [e1,e2]
     exact ⟨hi,by omega⟩
   ·refine List.pairwise_append.2 ⟨ih.2,List.pairwise_singleton _ _,fun a ha b hb e=>?_⟩
    obtain rfl:=List.mem_singleton.1 hb
    exact hno (List.any_eq_true.2 ⟨a,ha,decide_eq_true e⟩)
theorem zSi {A:Nat→Kp}{i:Nat}(h:kC A i=0):(A i).fn≤12:=(zCd (zGz (zKn (zBm h).1)).2.1).1
theorem zAy (n:Nat)(R:Rfs)(A:Nat→Kp)(h0:∀ j,j<n→kC A j=0):∀ k,OkC n A (yN n R A k)∧(yN n R A k).length≤12 * k
 | 0=>⟨⟨fun c hc=>absurd hc List.not_mem_nil,List.Pairwise.nil⟩,Nat.le_refl _⟩
 | k+1=>by
  have ih:=zAy n R A h0 k
  rw [yN]
  split
  ·rename_i hat
   rcases zJ2 n A (R.z k) (R.x k) (R.y k) with hn | ⟨i,hi,e,_⟩
   ·omega
   ·rw [e,Int.toNat_natCast]
    have hf:=zSi (h0 i hi)
    refine ⟨ih.1.add hi hf _ (Nat.le_refl _),?_⟩
    have:=zDl A i (yN n R A k) (A i).fn
    omega
  ·exact ⟨ih.1,by omega⟩
theorem zQm {n:Nat}{R:Rfs}{A:Nat→Kp}{k i:Nat}(h:atK n A (R.z k) (R.x k) (R.y k)=(i:Int)):yN n R A (k+1)=xR A i (yN n R A k) (A i).fn:=by
 rw [yN,if_pos (by omega),h,Int.toNat_natCast]
theorem zQl {n:Nat}{R:Rfs}{A:Nat→Kp}{k:Nat}(h:atK n A (R.z k) (R.x k) (R.y k)=-1):yN n R A (k+1)=yN n R A k:=by
 rw [yN,if_neg (by omega)]
theorem zMq {A:Nat→Kp}{i m:Nat}{l:List Nat}(h:zFm A (xR A i l m) ((A i).F m).id=true)(hm:m<64):xR A i l (m+1)=xR A i l m:=by
 have e:xN A (i * 64+m)=(A i).F m:=by
  unfold xN
  rw [show (i * 64+m) / 64=i by omega,show (i * 64+m) % 64=m by omega]
 rw [xR,if_pos (by rw [e];exact h)]
theorem zMp {A:Nat→Kp}{i m:Nat}{l:List Nat}(h:zFm A (xR A i l m) ((A i).F m).id=false)(hm:m<64):xR A i l (m+1)=xR A i l m ++ [i * 64+m]:=by
 have e:xN A (i * 64+m)=(A i).F m:=by
  unfold xN
  rw [show (i * 64+m) / 64=i by omega,show (i * 64+m) % 64=m by omega]
 rw [xR,if_neg (by rw [e,h];decide)]
theorem zQk (A:Nat→Kp)(i m:Nat)(hm:m<64):xN A (i * 64+m)=(A i).F m:=by
 unfold xN
 rw [show (i * 64+m) / 64=i by omega,show (i * 64+m) % 64=m by omega]
theorem zLz {A:Nat→Kp}{z x y:Int}(hz:I64 z)(hx:I64 x)(hy:I64 y):∀ k,(∀ j,j<k→kC A j=0)→atK k A z x y=-1→∀ zd,(shD A k).atKey (zBd z x y) zd=zd
 | 0,_,_,_=>rfl
 | k+1,h,hat,zd=>by
  have hk:=zBm (h k (by omega))
  obtain ⟨az,ax,ay⟩:=zFy hk.1
  have hno:¬ 0≤atK (k+1) A z x y:=by omega
  have hne:zBd z x y≠zBd (A k).z (A k).x (A k).y:=fun e'=>by
   obtain ⟨h1,h2,h3⟩:=zLa hz hx hy az ax ay e'
   exact hno (zAe.2 ⟨k,by omega,zBo.2 ⟨h1.symm,h2.symm,h3.symm⟩⟩)
  have e1:(shD A (k+1)).atKey (zBd z x y) zd=(shD A k).atKey (zBd z x y) zd:=Maps.atKey_put_other hne _ _
  rw [e1]
  refine zLz hz hx hy k (fun j hj=>h j (by omega)) ?_ zd
  rcases zJ2 k A z x y with h' | ⟨i,hi,_,b1,b2,b3⟩
  ·exact h'
  ·exact absurd (zAe.2 ⟨i,by omega,zBo.2 ⟨b1,b2,b3⟩⟩) hno
theorem ShN.lookNo {w:World}{p mb n:Nat}{s:Int}{A:Nat→Kp}(h:ShN w p mb s n A)(h0:∀ j,j<n→kC A j=0){z x y:Int}(hr:zAv z x y=true)(hat:atK n A z x y=-1) :
  (Instr.lookup 171 (.map (some mb)) (uL z x y) false).run Tryz.prog w=.ok (agV 0 0 0 none 0 0 none 0 0 0) w:=by
 obtain ⟨hz,hx,hy⟩:=zDv hr
 obtain ⟨v,ps,hrun,hv⟩:=h.2.lookup zA2 Tryz.underlying171 (zDo _) (zS3 0 0 0 none 0 0 none 0 0 0) (zCr hz hx hy)
 obtain ⟨e,_⟩:=zQ3 hv
 rw [zLz hz hx hy n h0 hat] at e
 injection e with e
 rw [e];exact hrun
theorem zMb {A:Nat→Kp}{l:List Nat}{t:Int}(h:∃ j,j<l.length∧(xN A (l.getD j 0)).id=t):zFm A l t=true:=by
 obtain ⟨j,hj,e⟩:=h
 refine List.any_eq_true.2 ⟨l.getD j 0,?_,decide_eq_true e⟩
 rw [List.getD_eq_getElem?_getD,List.getElem?_eq_getElem hj]
 exact List.getElem_mem hj
theorem zMc {A:Nat→Kp}{l:List Nat}{t:Int}(h:∀ j,j<l.length→(xN A (l.getD j 0)).id≠t):zFm A l t=false:=by
 rw [zFm,List.any_eq_false]
 intro c hc
 obtain ⟨j,hj,e⟩:=List.mem_iff_getElem.1 hc
 have:=h j hj
 rw [List.getD_eq_getElem?_getD,List.getElem?_eq_getElem hj,Option.getD_some,e] at this
 simpa using this
theorem yB.viewC {w:World}{B b n:Nat}{K A:Nat→Kp}(h:yB w B b n K A)(z x y wd ht now s:Int)(rn:Nat)(E:Nat→Req)(bad:Int):Go.Proofs.YtpaiholildedcaaGreat.viewC z x y wd ht now s n A rn E bad=Go.Proofs.YtpaiholildedcaaGreat.viewC z x y wd ht now s n K rn E bad:=by
 have e:zBh z x y wd ht n A E=zBh z x y wd ht n K E:=by
  funext i
  unfold zBh
  rw [h.atK _ _ _ n (Nat.le_refl _)]
 unfold Go.Proofs.YtpaiholildedcaaGreat.viewC
 rw [h.cacheC,e]
end Go.Proofs.YtpaiholildedcaaGreat
