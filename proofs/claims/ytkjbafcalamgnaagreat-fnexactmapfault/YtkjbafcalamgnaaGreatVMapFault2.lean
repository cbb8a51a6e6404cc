/- Texts. -/
import Derived.Test.YtkjbafcalamgnaaGreatRows
import Derived.WalkKit
import Derived.ProofKit
import Derived.OpenShut
import Derived.Deep.SlicePairs
import Derived.Laws.ComplexArith
set_option linter.unusedSimpArgs false
set_option linter.unusedVariables false
set_option maxRecDepth 100000
set_option maxHeartbeats 32000000
namespace Go.Proofs.YtkjbafcalamgnaaGreat
open Go.RowKit
end Go.Proofs.YtkjbafcalamgnaaGreat
namespace Go.Proofs.YtkjbafcalamgnaaGreat
open Go.ChangeShapes Go.WideShapes Go.ChangeAt Go.RowKit
theorem own:ownKnob Tryz.prog.godebug=none:=by kernel_rfl
theorem laidOut:laidOutB Tryz.prog=true:=by kernel_rfl
theorem zNw:Tryz.prog.cellsOf 238=2:=by kernel_rfl
theorem xG:Tryz.prog.cellsOf 2=1:=by kernel_rfl
end Go.Proofs.YtkjbafcalamgnaaGreat
namespace Go.Proofs.YtkjbafcalamgnaaGreat
open Go.RowKit
def vJ (G:Nat→Bool):Nat→Int
 | 0=>-1
 | n+1=>if 0≤vJ G n then vJ G n else if G n=true then (n:Int) else -1
theorem vI {G:Nat→Bool}:∀ {n:Nat},(∀ i,i<n→G i=false)→vJ G n=-1
 | 0,_=>rfl
 | n+1,h=>by rw [vJ,vI (fun i hi=>h i (by omega)),h n (by omega)];rfl
theorem yM {G:Nat→Bool}:∀ {n i:Nat},i<n→G i=true→(∀ j,j<i→G j=false)→vJ G n=(i:Int)
 | n+1,i,hi,h,hn=>by
  rw [vJ]
  by_cases e:i=n
  ·subst e;rw [vI hn,h];rfl
  ·rw [yM (n:=n) (by omega) h hn,if_pos (by omega)]
theorem zAr (G:Nat→Bool)(n:Nat):(vJ G n=-1∧∀ i,i<n→G i=false)∨∃ i,i<n∧G i=true∧vJ G n=(i:Int)∧∀ j,j<i→G j=false:=by
 induction n with
 | zero=>exact .inl ⟨rfl,fun i hi=>absurd hi (Nat.not_lt_zero _)⟩
 | succ n ih =>
  rcases ih with ⟨h1,h2⟩ | ⟨i,hi,hg,hf,hn⟩
  ·cases hG:G n
   ·refine .inl ⟨by rw [vJ,h1,hG];rfl,fun i hi=>?_⟩
    by_cases e:i=n
    ·rw [e];exact hG
    ·exact h2 i (by omega)
   ·exact .inr ⟨n,by omega,hG,by rw [vJ,h1,hG];rfl,h2⟩
  ·exact .inr ⟨i,by omega,hg,by rw [vJ,hf,if_pos (by omega)],hn⟩
end Go.Proofs.YtkjbafcalamgnaaGreat
namespace Go.Proofs.YtkjbafcalamgnaaGreat
open Go Ieee
def flo (n:Int):Nat:=floatOfInt .f64 n
theorem zOe (n:Int):flo n=double.nearest (decide (n<0)) n.natAbs 0:=rfl
theorem zDc {m:Nat}(k:Nat)(h:m≠0):(m * 2 ^ k).log2=m.log2+k:=by
 have hp:0<2 ^ k:=Nat.two_pow_pos k
 have h2:m * 2 ^ k≠0:=Nat.mul_ne_zero h (by omega)
 rw [Nat.log2_eq_iff h2]
 have h3:=Nat.log2_self_le h
 have h4:=Nat.lt_log2_self (n:=m)
 constructor
 ·rw [Nat.pow_add];exact Nat.mul_le_mul_right _ h3
 ·rw [show m.log2+k+1=(m.log2+1)+k by omega,Nat.pow_add]
  exact Nat.mul_lt_mul_of_pos_right h4 hp
theorem zEp (neg:Bool)(n:Nat):Toward.even.cut neg n 0=n:=by
 simp [Toward.cut,Nat.mod_one]
theorem zL3 (neg:Bool)(q d:Nat)(hq:q≠0):Toward.even.cut neg (q * 2 ^ d) d=q:=by
 have hp:0<2 ^ d:=Nat.two_pow_pos d
 have hm:min d ((q * 2 ^ d).log2+2)=d:=by rw [zDc d hq];omega
 unfold Toward.cut
 simp only [hm,Nat.shiftLeft_eq,Nat.one_mul,Nat.mul_div_cancel _ hp,Nat.mul_mod_left]
 have h1:¬ (2 ^ d<2 * 0):=by omega
 have h2:((2 ^ d:Nat) == 2 * 0)=false:=by simp
 simp [h2]
theorem zJg (neg:Bool)(M k:Nat)(hM:M≠0)(hM':M<2 ^ 53)(hk:k≤1074):double.nearest neg (M * 2 ^ k) (-(k:Int))=double.nearest neg M 0:=by
 have hp:0<2 ^ k:=Nat.two_pow_pos k
 have h2:M * 2 ^ k≠0:=Nat.mul_ne_zero hM (by omega)
 have hL:M.log2<53:=(Nat.log2_lt hM).2 hM'
 have hl:=zDc k hM
 unfold Format.nearest
 rw [if_neg h2,if_neg hM]
 have e0:double.leastPlace=-1074:=by decide +kernel
 have e1:double.fractionBits=52:=rfl
 simp only [e0,e1,hl]
 have a1:max (-(k:Int)+((M.log2+k:Nat):Int) - ((52:Nat):Int)) (-1074)=(M.log2:Int) - 52:=by omega
 have a2:max ((0:Int)+((M.log2:Nat):Int) - ((52:Nat):Int)) (-1074)=(M.log2:Int) - 52:=by omega
 rw [a1,a2]
 have kept2:Toward.even.cut neg (M <<< ((0:Int) - ((M.log2:Int) - 52)).toNat) (((M.log2:Int) - 52) - 0).toNat=M * 2 ^ (52 - M.log2):=by
  rw [show (((M.log2:Int) - 52) - 0).toNat=0 by omega,show ((0:Int) - ((M.log2:Int) - 52)).toNat=52 - M.log2 by omega,zEp,Nat.shiftLeft_eq]
 have kept1:Toward.even.cut neg ((M * 2 ^ k) <<< (-(k:Int) - ((M.log2:Int) - 52)).toNat) (((M.log2:Int) - 52) - -(k:Int)).toNat=M * 2 ^ (52 - M.log2):=by
  by_cases hc:k≤52 - M.log2
  ·rw [show (((M.log2:Int) - 52) - -(k:Int)).toNat=0 by omega,show (-(k:Int) - ((M.log2:Int) - 52)).toNat=52 - M.log2 - k by omega,zEp,Nat.shiftLeft_eq,Nat.mul_assoc,← Nat.pow_add]
   congr 2;omega
  ·rw [show (-(k:Int) - ((M.log2:Int) - 52)).toNat=0 by omega,show (((M.log2:Int) - 52) - -(k:Int)).toNat=k - (52 - M.log2) by omega]
   have:(M * 2 ^ k) <<< 0=M * 2 ^ (52 - M.log2) * 2 ^ (k - (52 - M.log2)):=by
    rw [Nat.shiftLeft_zero,Nat.mul_assoc,← Nat.pow_add];congr 2;omega
   rw [this]
   exact zL3 _ _ _ (Nat.mul_ne_zero hM (by have:=Nat.two_pow_pos (52 - M.log2);omega))
 rw [kept1,kept2]
theorem zBo (n:Int)(h0:-(2 ^ 53)<n)(h1:n<2 ^ 53):∃ m i,double.read (flo n)=.number (decide (n<0)) m i∧-1074≤i∧i≤0∧signed (decide (n<0)) m (i+1074).toNat=n * 2 ^ 1074:=by
 by_cases hz:n=0
 ·subst hz
  exact ⟨0,-1074,by decide +kernel,by omega,by omega,by decide +kernel⟩
 ·generalize hM:n.natAbs=M
  have hM0:M≠0:=by omega
  have hM1:M<2 ^ 53:=by omega
  have hL:M.log2<53:=(Nat.log2_lt hM0).2 hM1
  have b1:=Nat.log2_self_le hM0
  have b2:=Nat.lt_log2_self (n:=M)
  have hk1:2 ^ 52≤M * 2 ^ (52 - M.log2):=by
   have:=Nat.mul_le_mul_right (2 ^ (52 - M.log2)) b1
   rw [← Nat.pow_add,show M.log2+(52 - M.log2)=52 by omega] at this
   exact this
  have hk2:M * 2 ^ (52 - M.log2)<2 ^ 53:=by
   have:=Nat.mul_lt_mul_of_pos_right b2 (Nat.two_pow_pos (52 - M.log2))
   rw [← Nat.pow_add,show M.log2+1+(52 - M.log2)=53 by omega] at this
   exact this
  obtain ⟨q,hq⟩:∃ q,M * 2 ^ (52 - M.log2)=q:=⟨_,rfl⟩
  rw [hq] at hk1 hk2
  have e5:(2:Nat) ^ 52=4503599627370496:=by decide
  have e6:(2:Nat) ^ 53=9007199254740992:=by decide
  rw [e5] at hk1
  rw [e6] at hk2
  have e0:double.leastPlace=-1074:=by decide +kernel
  have e2:double.binade=4503599627370496:=by decide +kernel
  have e3:double.infRung=9218868437227405312:=by decide +kernel
  have e4:double.signWeight=9223372036854775808:=by decide +kernel
  have hw:flo n=double.word (decide (n<0)) ((M.log2+1022) * 4503599627370496+q):=by
   rw [zOe,hM]
   unfold Format.nearest
   rw [if_neg hM0]
   have e1:double.fractionBits=52:=rfl
   simp only [e0,e1,e2,e3]
   have a2:max ((0:Int)+((M.log2:Nat):Int) - ((52:Nat):Int)) (-1074)=(M.log2:Int) - 52:=by omega
   rw [a2,show (((M.log2:Int) - 52) - 0).toNat=0 by omega,show ((0:Int) - ((M.log2:Int) - 52)).toNat=52 - M.log2 by omega,zEp,Nat.shiftLeft_eq,show ((M.log2:Int) - 52 - -1074).toNat=M.log2+1022 by omega,hq]
   rw [Nat.min_eq_left (by clear hq hM hM1 b1 b2 e0 e2 e3 e4 e5 e6;omega)]
  refine ⟨q,(M.log2:Int) - 52,?_,by omega,by omega,?_⟩
  ·rw [hw]
   clear hw hq hM hM1 b1 b2 h0 h1 e5 e6
   generalize M.log2=L at *
   unfold Format.read
   have r1:(double.word (decide (n<0)) ((L+1022) * 4503599627370496+q)) % 9223372036854775808=(L+1022) * 4503599627370496+q:=by
    unfold Format.word;rw [e4];split <;> omega
   have r2:((double.word (decide (n<0)) ((L+1022) * 4503599627370496+q)) / 9223372036854775808 % 2 == 1)=decide (n<0):=by
    unfold Format.word;rw [e4]
    by_cases hn:n<0
    ·simp [hn];omega
    ·simp [hn];omega
   simp only [e0,e2,e3,e4,r1,r2]
   rw [if_neg (by omega),if_pos (by omega)]
   congr 1
   ·omega
   ·omega
  ·rw [show ((M.log2:Int) - 52+1074).toNat=M.log2+1022 by omega]
   unfold signed
   rw [Nat.shiftLeft_eq,← hq,Nat.mul_assoc,← Nat.pow_add,show 52 - M.log2+(M.log2+1022)=1074 by omega]
   have two:(((2:Nat)):Int)=2:=rfl
   generalize 1074=K
   by_cases hn:n<0
   ·simp only [hn,decide_true,if_true]
    rw [Int.natCast_mul,Int.natCast_pow,← Int.neg_mul,two,show -(M:Int)=n by omega]
   ·simp only [hn,decide_false,Bool.false_eq_true,if_false]
    rw [Int.natCast_mul,Int.natCast_pow,two,show (M:Int)=n by omega]
theorem zE6 (s:Bool)(m u v:Nat):signed s m (u+v)=signed s m u * 2 ^ v:=by
 unfold signed
 simp only [Nat.shiftLeft_eq,Nat.pow_add,← Nat.mul_assoc]
 cases s <;> simp [Int.natCast_mul,Int.natCast_pow,Int.neg_mul]
private theorem zKm (k:Nat):(0:Int)<2 ^ k:=by
 have:=Nat.two_pow_pos k
 have h:((2 ^ k:Nat):Int)=2 ^ k:=by rw [Int.natCast_pow];rfl
 omega
theorem zE7 {s:Bool}{m:Nat}{i base A:Int}(h:signed s m (i+1074).toNat=A * 2 ^ 1074)(h0:-1074≤base)(h1:base≤i)(h2:base≤0):signed s m (i - base).toNat=A * 2 ^ (-base).toNat:=by
 have e1:(i+1074).toNat=(i - base).toNat+(base+1074).toNat:=by omega
 rw [e1,zE6] at h
 have e2:(2:Int) ^ 1074=2 ^ (-base).toNat * 2 ^ (base+1074).toNat:=by rw [← Int.pow_add];congr 1;omega
 rw [e2,← Int.mul_assoc] at h
 exact Int.eq_of_mul_eq_mul_right (by have:=zKm (base+1074).toNat;omega) h
theorem zK2 {s t:Bool}{m n:Nat}{i j A B:Int}(h:signed s m (i+1074).toNat=A * 2 ^ 1074)(g:signed t n (j+1074).toNat=B * 2 ^ 1074)(i0:-1074≤i)(i1:i≤0)(j0:-1074≤j)(j1:j≤0)(hs:A+B=0→(s && t)=false)(b0:-(2 ^ 53)<A+B)(b1:A+B<2 ^ 53):((Datum.number s m i).sum (.number t n j)).map double.write=some (flo (A+B)):=by
 generalize hb:min i j=base
 have h0:-1074≤base:=by omega
 have h1:=zE7 h h0 (by omega) (by omega)
 have g1:=zE7 g h0 (by omega) (by omega)
 unfold Datum.sum
 simp only [hb,h1,g1,Option.map_some,Format.write]
 congr 1
 rw [← Int.add_mul]
 generalize A+B=C at *
 have hp:=zKm (-base).toNat
 by_cases hC:C=0
 ·subst hC
  rw [Int.zero_mul,if_pos rfl,hs rfl]
  have:∀ p:Int,double.nearest false (0:Int).natAbs p=0:=fun p=>by simp [Format.nearest,Format.word]
  rw [this]
  decide +kernel
 ·have hne:¬ C * 2 ^ (-base).toNat=0:=by
   intro h
   rcases Int.mul_eq_zero.1 h with h | h
   ·exact hC h
   ·omega
  rw [if_neg hne,zOe]
  have hab:(C * 2 ^ (-base).toNat).natAbs=C.natAbs * 2 ^ (-base).toNat:=by
   rw [Int.natAbs_mul,Int.natAbs_pow];rfl
  have hneg:decide (C * 2 ^ (-base).toNat<0)=decide (C<0):=by
   by_cases hc:C<0
   ·have:C * 2 ^ (-base).toNat<0:=Int.mul_neg_of_neg_of_pos hc hp
    simp [hc,this]
   ·have:¬ C * 2 ^ (-base).toNat<0:=by have:=Int.mul_nonneg (show 0≤C by omega) (Int.le_of_lt hp);omega
    simp [hc,this]
  rw [hab,hneg]
  have hbk:base=-(((-base).toNat:Nat):Int):=by omega
  rw [hbk]
  have:((-(-(((-base).toNat:Nat):Int))).toNat)=(-base).toNat:=by omega
  rw [this]
  exact zJg _ _ _ (by omega) (by omega) (by omega)
theorem zLx {a b:Int}(a0:-(2 ^ 52)<a)(a1:a<2 ^ 52)(b0:-(2 ^ 52)<b)(b1:b<2 ^ 52):floatBits .add .f64 (flo a) (flo b)=some (flo (a+b)):=by
 obtain ⟨m,i,e1,i0,i1,h⟩:=zBo a (by omega) (by omega)
 obtain ⟨n,j,e2,j0,j1,g⟩:=zBo b (by omega) (by omega)
 show ((double.read (flo a)).sum (double.read (flo b))).map double.write=_
 rw [e1,e2]
 refine zK2 h g i0 i1 j0 j1 ?_ (by omega) (by omega)
 intro hz
 simp;omega
theorem zLv {a b:Int}(a0:-(2 ^ 52)<a)(a1:a<2 ^ 52)(b0:-(2 ^ 52)<b)(b1:b<2 ^ 52):floatBits .sub .f64 (flo a) (flo b)=some (flo (a - b)):=by
 obtain ⟨m,i,e1,i0,i1,h⟩:=zBo a (by omega) (by omega)
 obtain ⟨n,j,e2,j0,j1,g⟩:=zBo b (by omega) (by omega)
 show ((double.read (flo a)).sum (double.read (flo b)).opposite).map double.write=_
 rw [e1,e2,Int.sub_eq_add_neg]
 have g':signed (!decide (b<0)) n (j+1074).toNat=-b * 2 ^ 1074:=by
  rw [Int.neg_mul,← g]
  unfold signed
  cases decide (b<0) <;> simp
 refine zK2 h g' i0 i1 j0 j1 ?_ (by omega) (by omega)
 intro hz
 simp;omega
end Go.Proofs.YtkjbafcalamgnaaGreat
namespace Go.Proofs.YtkjbafcalamgnaaGreat
open Go.RowKit
end Go.Proofs.YtkjbafcalamgnaaGreat
namespace Go.Proofs.YtkjbafcalamgnaaGreat
open Go Ieee
private theorem all_nat {m:Nat}{p:Nat→Bool}(h:(List.range m).all p=true){k:Nat}(hk:k<m):p k=true:=List.all_eq_true.1 h k (List.mem_range.2 hk)
private theorem int_tab:(List.range 1000).all (fun a=>floatToIntVal .f64 (flo (a - 200)) .i64 == some ((a:Int) - 200))=true:=by decide +kernel
theorem zLw {a:Int}(h0:-200≤a)(h1:a<800):floatToIntVal .f64 (flo a) .i64=some a:=by
 have h:=all_nat int_tab (show (a+200).toNat<1000 by omega)
 have e1:(((a+200).toNat:Nat):Int) - 200=a:=by omega
 rw [e1] at h
 exact eq_of_beq h
end Go.Proofs.YtkjbafcalamgnaaGreat
namespace Go.Proofs.YtkjbafcalamgnaaGreat
open Go.RowKit
end Go.Proofs.YtkjbafcalamgnaaGreat
