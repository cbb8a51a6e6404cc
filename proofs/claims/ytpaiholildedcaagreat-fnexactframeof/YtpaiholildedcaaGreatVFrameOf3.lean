/- Texts. -/
import Derived.Test.YtpaiholildedcaaGreatRows
import Derived.WalkKit
import Derived.ProofKit
import Derived.OpenShut
import Derived.Deep.SlicePairs
import Derived.Deep.RegionLawGrows
import Derived.Laws.ComplexArith
set_option linter.unusedSimpArgs false
set_option linter.unusedVariables false
set_option maxRecDepth 100000
set_option maxHeartbeats 32000000
namespace Go.Proofs.YtpaiholildedcaaGreat
open Go.RowKit
end Go.Proofs.YtpaiholildedcaaGreat
namespace Go.Proofs.YtpaiholildedcaaGreat
open Go.ChangeShapes Go.WideShapes Go.ChangeAt Go.RowKit
theorem own:ownKnob Tryz.prog.godebug=none:=by kernel_rfl
theorem laidOut:laidOutB Tryz.prog=true:=by kernel_rfl
theorem zP1:Tryz.prog.cellsOf 356=2:=by kernel_rfl
theorem xP:Tryz.prog.cellsOf 2=1:=by kernel_rfl
end Go.Proofs.YtpaiholildedcaaGreat
namespace Go.Proofs.YtpaiholildedcaaGreat
open Go.RowKit
end Go.Proofs.YtpaiholildedcaaGreat
namespace Go.Proofs.YtpaiholildedcaaGreat
open Go
theorem xC {P:Program}{ops:Array Oper}{o:Oper}{a:Act}{w:World}{K:Act→World→Prop}{Q:Exit→Act→World→Prop}{E:Prop}(hg:o.guard=none)(s x:Operand)(t:TypeId)(hop:o.op=Op.call { callee:=Callee.builtin Builtin.append,args:=#[s,x],argTypes:=#[t,t] })(base:Nat)(e:TypeId)(i:TypeInfo)(z:Value)(size bytes:Nat)(h1:P.underlying t=some (.slice e))(h2:P.info? e=some i)(h3:i.zero=some z)(h4:i.size=size)(h5:i.bytes=bytes)(h6:z.cells.size=size)(h7:0<size)(v:Value)(n:Nat)(xs:List Value)(hs:a.eval s=v)(hown:w.ownsRow base e size v n xs)(ad:Addr)(m c:Nat)(news:List Value)(hx:a.eval x=.slice (some ad) m c)(hn:news.length=m * size)(hc:∀ j u,news[j]?=some u→w.cell? (ad.add j)=some u)(h1c:∀ u ∈ news,u.oneCell'=true)(b1:n+m≤maxLen)(b2:(n+m) * bytes≤140737488355328)(hbase:base≤w.heap.size)(hK:∀ v' w',w'.ownsRow base e size v' (n+m) (xs ++ news)→w.grownBy w' v.ownBlock→(v'=.slice none 0 0 ↔ v=.slice none 0 0∧m=0)→K (a.put o.dst v') w') :
  if Region.wanted o (yielded ops a.tmps)=true then Oper.wp P o a w K Q else E:=by
 have hw:Region.wanted o (yielded ops a.tmps)=true:=by simp [Region.wanted,hg]
 rw [if_pos hw]
 obtain ⟨v',w',hrun,r1,r2,r3⟩:=run_append_own (P:=P) w base t o.type e i z size bytes h1 h2 h3 h4 h5 h6 h7 v n xs hown ad m c news hn hc h1c b1 b2 hbase
 unfold Oper.wp
 simp [execOp,hop,resolve,invoke,builtin,hs,hx,hrun,Result.andThen]
 exact hK v' w' r1 r2 r3
end Go.Proofs.YtpaiholildedcaaGreat
namespace Go.Proofs.YtpaiholildedcaaGreat
open Go.RowKit
def or2 (x y:Int):Int:=if x=0 then y else x
theorem zE1 (b c:Nat)(x y:Int)(w:World)(h0:w.cell? ⟨b,0,none⟩=some (.int .i64 x))(h1:w.cell? ⟨b,1,none⟩=some (.int .i64 y)) :
  Calls Tryz.prog 71 #[.slice (some ⟨b,0,none⟩) 2 c] w fun e w'=>e=.returned (.int .i64 (or2 x y))∧w'=w:=by
 unfold or2
 by_cases hx:x=0
 ·subst hx
  by_cases hy:y=0
  ·subst hy
   go_enter Tryz.func71,Tryz.ntmps71
   go_wp2
   refine wp_loop_rounds 3 ?_
   rw [rounds_succ]
   go_wp2
   rw [rounds_succ]
   go_wp2
   rw [rounds_succ]
   go_wp2
   go_ret
   exact ⟨by simp,rfl⟩
  ·have hy':(y == 0)=false:=by simpa using hy
   go_enter Tryz.func71,Tryz.ntmps71
   go_wp2
   refine wp_loop_rounds 2 ?_
   rw [rounds_succ]
   go_wp2
   rw [rounds_succ]
   go_wp2
   go_ret
   exact ⟨by simp,rfl⟩
 ·have hx':(x == 0)=false:=by simpa using hx
  go_enter Tryz.func71,Tryz.ntmps71
  go_wp2
  refine wp_loop_rounds 1 ?_
  rw [rounds_succ]
  go_wp2
  go_ret
  exact ⟨by simp [hx],rfl⟩
def or3 (x y z:Int):Int:=if x=0 then (if y=0 then z else y) else x
theorem zL5 (b c:Nat)(x y z:Int)(w:World)(h0:w.cell? ⟨b,0,none⟩=some (.int .i64 x))(h1:w.cell? ⟨b,1,none⟩=some (.int .i64 y))(h2:w.cell? ⟨b,2,none⟩=some (.int .i64 z)) :
  Calls Tryz.prog 71 #[.slice (some ⟨b,0,none⟩) 3 c] w fun e w'=>e=.returned (.int .i64 (or3 x y z))∧w'=w:=by
 unfold or3
 by_cases hx:x=0
 ·subst hx
  by_cases hy:y=0
  ·subst hy
   by_cases hz:z=0
   ·subst hz
    go_enter Tryz.func71,Tryz.ntmps71
    go_wp2
    refine wp_loop_rounds 4 ?_
    rw [rounds_succ]
    go_wp2
    rw [rounds_succ]
    go_wp2
    rw [rounds_succ]
    go_wp2
    rw [rounds_succ]
    go_wp2
    go_ret
    exact ⟨by simp,rfl⟩
   ·have hz':(z == 0)=false:=by simpa using hz
    go_enter Tryz.func71,Tryz.ntmps71
    go_wp2
    refine wp_loop_rounds 3 ?_
    rw [rounds_succ]
    go_wp2
    rw [rounds_succ]
    go_wp2
    rw [rounds_succ]
    go_wp2
    go_ret
    exact ⟨by simp,rfl⟩
  ·have hy':(y == 0)=false:=by simpa using hy
   go_enter Tryz.func71,Tryz.ntmps71
   go_wp2
   refine wp_loop_rounds 2 ?_
   rw [rounds_succ]
   go_wp2
   rw [rounds_succ]
   go_wp2
   go_ret
   exact ⟨by simp [hy],rfl⟩
 ·have hx':(x == 0)=false:=by simpa using hx
  rw [if_neg hx]
  go_enter Tryz.func71,Tryz.ntmps71
  go_wp2
  refine wp_loop_rounds 1 ?_
  rw [rounds_succ]
  go_wp2
  go_ret
  exact ⟨rfl,rfl⟩
def yH (c:Nat→Int):Nat→Nat→Int
 | _,0=>0
 | i,k+1=>if c i≠0 then c i else yH c (i+1) k
theorem zQ (c:Nat→Int):∀ (m i k:Nat),(∀ j,i≤j→j<k→c j=0)→i≤k→k<i+m→c k≠0→yH c i m=c k
 | 0,i,k,_,h1,h2,_=>by omega
 | m+1,i,k,h,h1,h2,hne=>by
  rw [yH]
  by_cases e:i=k
  ·subst e;rw [if_pos hne]
  ·rw [if_neg (by rw [h i (Nat.le_refl _) (by omega)];simp)]
   exact zQ c m (i+1) k (fun j hj=>h j (by omega)) (by omega) (by omega) hne
theorem yJ (c:Nat→Int):∀ (m i:Nat),(∀ j,i≤j→j<i+m→c j=0)→yH c i m=0
 | 0,_,_=>rfl
 | m+1,i,h=>by
  rw [yH,if_neg (by rw [h i (Nat.le_refl _) (by omega)];simp)]
  exact yJ c m (i+1) (fun j hj hj'=>h j (by omega) (by omega))
theorem zEo (c d:Nat→Int):∀ (m i:Nat),(∀ j,i≤j→j<i+m→c j=d j)→yH c i m=yH d i m
 | 0,_,_=>rfl
 | m+1,i,h=>by
  rw [yH,yH,h i (Nat.le_refl _) (by omega),zEo c d m (i+1) (fun j hj hj'=>h j (by omega) (by omega))]
theorem zGs (c:Nat→Int):∀ (m i:Nat),yH c i m=0→∀ j,i≤j→j<i+m→c j=0
 | 0,i,_,j,h1,h2=>by omega
 | m+1,i,h,j,h1,h2=>by
  rw [yH] at h
  by_cases hc:c i≠0
  ·rw [if_pos hc] at h;exact absurd h hc
  ·rw [if_neg hc] at h
   by_cases e:j=i
   ·subst e;simpa using hc
   ·exact zGs c m (i+1) h j (by omega) (by omega)
def zQl (I : Nat → Int) (n : Nat) : Prop := ∀ i j, i < n → j < n → I i = I j → i = j
theorem zJi (n:Nat)(a b c a' b' c':Int)(w:World):(Op.equalIn (n+2) 111 (.agg #[.int .i64 a,.int .i64 b,.int .i64 c]) (.agg #[.int .i64 a',.int .i64 b',.int .i64 c'])).run Tryz.prog w=.ok ((a == a') && ((b == b') && (c == c'))) w:=by
 have hp0:∀ (x y z:Int) (w:World),(part 2 #[.int .i64 x,.int .i64 y,.int .i64 z] 0).run Tryz.prog w=.ok (.int .i64 x) w:=fun _ _ _ _=>by kernel_rfl
 have hp1:∀ (x y z:Int) (w:World),(part 2 #[.int .i64 x,.int .i64 y,.int .i64 z] 1).run Tryz.prog w=.ok (.int .i64 y) w:=fun _ _ _ _=>by kernel_rfl
 have hp2:∀ (x y z:Int) (w:World),(part 2 #[.int .i64 x,.int .i64 y,.int .i64 z] 2).run Tryz.prog w=.ok (.int .i64 z) w:=fun _ _ _ _=>by kernel_rfl
 have hi:=fun (a b:Int) (w:World)=>run_equalIn_int (P:=Tryz.prog) w n 2 .i64 .i64 a b Tryz.underlying2
 rw [run_equalIn_struct w (n+1) 111 _ _ (by kernel_rfl) (by kernel_rfl)]
 simp [Op.eqFields,Program.fieldsOf,Tryz.underlying111,hp0,hp1,hp2,hi]
 by_cases h1:a=a' <;> by_cases h2:b=b' <;> by_cases h3:c=c' <;> simp [h1,h2,h3]
theorem zDm (a b c a' b' c':Int)(w:World):(binOp .eql 111 (.agg #[.int .i64 a,.int .i64 b,.int .i64 c]) (.agg #[.int .i64 a',.int .i64 b',.int .i64 c'])).run Tryz.prog w=.ok (.bool ((a == a') && ((b == b') && (c == c')))) w:=by
 rw [run_eql_struct,zJi 9998]
 rfl
theorem zOx (a b c a' b' c':Int):((a == a') && ((b == b') && (c == c')))=((a' == a) && ((b' == b) && (c' == c))):=by
 rw [Bool.eq_iff_iff]
 simp
 constructor <;> (rintro ⟨h1,h2,h3⟩;exact ⟨h1.symm,h2.symm,h3.symm⟩)
def vZ (G:Nat→Bool):Nat→Int
 | 0=>-1
 | n+1=>if 0≤vZ G n then vZ G n else if G n=true then (n:Int) else -1
theorem vY {G:Nat→Bool}:∀ {n:Nat},(∀ i,i<n→G i=false)→vZ G n=-1
 | 0,_=>rfl
 | n+1,h=>by rw [vZ,vY (fun i hi=>h i (by omega)),h n (by omega)];rfl
theorem yR {G:Nat→Bool}:∀ {n i:Nat},i<n→G i=true→(∀ j,j<i→G j=false)→vZ G n=(i:Int)
 | n+1,i,hi,h,hn=>by
  rw [vZ]
  by_cases e:i=n
  ·subst e;rw [vY hn,h];rfl
  ·rw [yR (n:=n) (by omega) h hn,if_pos (by omega)]
theorem zAa (G:Nat→Bool)(n:Nat):(vZ G n=-1∧∀ i,i<n→G i=false)∨∃ i,i<n∧G i=true∧vZ G n=(i:Int)∧∀ j,j<i→G j=false:=by
 induction n with
 | zero=>exact .inl ⟨rfl,fun i hi=>absurd hi (Nat.not_lt_zero _)⟩
 | succ n ih =>
  rcases ih with ⟨h1,h2⟩ | ⟨i,hi,hg,hf,hn⟩
  ·cases hG:G n
   ·refine .inl ⟨by rw [vZ,h1,hG];rfl,fun i hi=>?_⟩
    by_cases e:i=n
    ·rw [e];exact hG
    ·exact h2 i (by omega)
   ·exact .inr ⟨n,by omega,hG,by rw [vZ,h1,hG];rfl,h2⟩
  ·exact .inr ⟨i,by omega,hg,by rw [vZ,hf,if_pos (by omega)],hn⟩
end Go.Proofs.YtpaiholildedcaaGreat
namespace Go.Proofs.YtpaiholildedcaaGreat
open Go Ieee
def flo (n:Int):Nat:=floatOfInt .f64 n
theorem zQk (n:Int):flo n=double.nearest (decide (n<0)) n.natAbs 0:=rfl
theorem zEs {m:Nat}(k:Nat)(h:m≠0):(m * 2 ^ k).log2=m.log2+k:=by
 have hp:0<2 ^ k:=Nat.two_pow_pos k
 have h2:m * 2 ^ k≠0:=Nat.mul_ne_zero h (by omega)
 rw [Nat.log2_eq_iff h2]
 have h3:=Nat.log2_self_le h
 have h4:=Nat.lt_log2_self (n:=m)
 constructor
 ·rw [Nat.pow_add];exact Nat.mul_le_mul_right _ h3
 ·rw [show m.log2+k+1=(m.log2+1)+k by omega,Nat.pow_add]
  exact Nat.mul_lt_mul_of_pos_right h4 hp
theorem zF5 (neg:Bool)(n:Nat):Toward.even.cut neg n 0=n:=by
 simp [Toward.cut,Nat.mod_one]
theorem zN8 (neg:Bool)(q d:Nat)(hq:q≠0):Toward.even.cut neg (q * 2 ^ d) d=q:=by
 have hp:0<2 ^ d:=Nat.two_pow_pos d
 have hm:min d ((q * 2 ^ d).log2+2)=d:=by rw [zEs d hq];omega
 unfold Toward.cut
 simp only [hm,Nat.shiftLeft_eq,Nat.one_mul,Nat.mul_div_cancel _ hp,Nat.mul_mod_left]
 have h1:¬ (2 ^ d<2 * 0):=by omega
 have h2:((2 ^ d:Nat) == 2 * 0)=false:=by simp
 simp [h2]
theorem zLc (neg:Bool)(M k:Nat)(hM:M≠0)(hM':M<2 ^ 53)(hk:k≤1074):double.nearest neg (M * 2 ^ k) (-(k:Int))=double.nearest neg M 0:=by
 have hp:0<2 ^ k:=Nat.two_pow_pos k
 have h2:M * 2 ^ k≠0:=Nat.mul_ne_zero hM (by omega)
 have hL:M.log2<53:=(Nat.log2_lt hM).2 hM'
 have hl:=zEs k hM
 unfold Format.nearest
 rw [if_neg h2,if_neg hM]
 have e0:double.leastPlace=-1074:=by decide +kernel
 have e1:double.fractionBits=52:=rfl
 simp only [e0,e1,hl]
 have a1:max (-(k:Int)+((M.log2+k:Nat):Int) - ((52:Nat):Int)) (-1074)=(M.log2:Int) - 52:=by omega
 have a2:max ((0:Int)+((M.log2:Nat):Int) - ((52:Nat):Int)) (-1074)=(M.log2:Int) - 52:=by omega
 rw [a1,a2]
 have kept2:Toward.even.cut neg (M <<< ((0:Int) - ((M.log2:Int) - 52)).toNat) (((M.log2:Int) - 52) - 0).toNat=M * 2 ^ (52 - M.log2):=by
  rw [show (((M.log2:Int) - 52) - 0).toNat=0 by omega,show ((0:Int) - ((M.log2:Int) - 52)).toNat=52 - M.log2 by omega,zF5,Nat.shiftLeft_eq]
 have kept1:Toward.even.cut neg ((M * 2 ^ k) <<< (-(k:Int) - ((M.log2:Int) - 52)).toNat) (((M.log2:Int) - 52) - -(k:Int)).toNat=M * 2 ^ (52 - M.log2):=by
  by_cases hc:k≤52 - M.log2
  ·rw [show (((M.log2:Int) - 52) - -(k:Int)).toNat=0 by omega,show (-(k:Int) - ((M.log2:Int) - 52)).toNat=52 - M.log2 - k by omega,zF5,Nat.shiftLeft_eq,Nat.mul_assoc,← Nat.pow_add]
   congr 2;omega
  ·rw [show (-(k:Int) - ((M.log2:Int) - 52)).toNat=0 by omega,show (((M.log2:Int) - 52) - -(k:Int)).toNat=k - (52 - M.log2) by omega]
   have:(M * 2 ^ k) <<< 0=M * 2 ^ (52 - M.log2) * 2 ^ (k - (52 - M.log2)):=by
    rw [Nat.shiftLeft_zero,Nat.mul_assoc,← Nat.pow_add];congr 2;omega
   rw [this]
   exact zN8 _ _ _ (Nat.mul_ne_zero hM (by have:=Nat.two_pow_pos (52 - M.log2);omega))
 rw [kept1,kept2]
theorem zCn (n:Int)(h0:-(2 ^ 53)<n)(h1:n<2 ^ 53):∃ m i,double.read (flo n)=.number (decide (n<0)) m i∧-1074≤i∧i≤0∧signed (decide (n<0)) m (i+1074).toNat=n * 2 ^ 1074:=by
 by_cases hz:n=0
 ·subst hz
  exact ⟨0,-1074,by decide +kernel,by omega,by omega,by decide +kernel⟩
 ·generalize hM:n.natAbs=M
  have hM0:M≠0:=by omega
  have hM1:M<2 ^ 53:=by omega
  have hL:M.log2<53:=(Nat.log2_lt hM0).2 hM1
  have b1:=Nat.log2_self_le hM0
  have b2:=Nat.lt_log2_self (n:=M)
  have hk1:2 ^ 52≤M * 2 ^ (52 - M.log2):=by
   have:=Nat.mul_le_mul_right (2 ^ (52 - M.log2)) b1
   rw [← Nat.pow_add,show M.log2+(52 - M.log2)=52 by omega] at this
   exact this
  have hk2:M * 2 ^ (52 - M.log2)<2 ^ 53:=by
   have:=Nat.mul_lt_mul_of_pos_right b2 (Nat.two_pow_pos (52 - M.log2))
   rw [← Nat.pow_add,show M.log2+1+(52 - M.log2)=53 by omega] at this
   exact this
  obtain ⟨q,hq⟩:∃ q,M * 2 ^ (52 - M.log2)=q:=⟨_,rfl⟩
  rw [hq] at hk1 hk2
  have e5:(2:Nat) ^ 52=4503599627370496:=by decide
  have e6:(2:Nat) ^ 53=9007199254740992:=by decide
  rw [e5] at hk1
  rw [e6] at hk2
  have e0:double.leastPlace=-1074:=by decide +kernel
  have e2:double.binade=4503599627370496:=by decide +kernel
  have e3:double.infRung=9218868437227405312:=by decide +kernel
  have e4:double.signWeight=9223372036854775808:=by decide +kernel
  have hw:flo n=double.word (decide (n<0)) ((M.log2+1022) * 4503599627370496+q):=by
   rw [zQk,hM]
   unfold Format.nearest
   rw [if_neg hM0]
   have e1:double.fractionBits=52:=rfl
   simp only [e0,e1,e2,e3]
   have a2:max ((0:Int)+((M.log2:Nat):Int) - ((52:Nat):Int)) (-1074)=(M.log2:Int) - 52:=by omega
   rw [a2,show (((M.log2:Int) - 52) - 0).toNat=0 by omega,show ((0:Int) - ((M.log2:Int) - 52)).toNat=52 - M.log2 by omega,zF5,Nat.shiftLeft_eq,show ((M.log2:Int) - 52 - -1074).toNat=M.log2+1022 by omega,hq]
   rw [Nat.min_eq_left (by clear hq hM hM1 b1 b2 e0 e2 e3 e4 e5 e6;omega)]
  refine ⟨q,(M.log2:Int) - 52,?_,by omega,by omega,?_⟩
  ·rw [hw]
   clear hw hq hM hM1 b1 b2 h0 h1 e5 e6
   generalize M.log2=L at *
   unfold Format.read
   have r1:(double.word (decide (n<0)) ((L+1022) * 4503599627370496+q)) % 9223372036854775808=(L+1022) * 4503599627370496+q:=by
    unfold Format.word;rw [e4];split <;> omega
   have r2:((double.word (decide (n<0)) ((L+1022) * 4503599627370496+q)) / 9223372036854775808 % 2 == 1)=decide (n<0):=by
    unfold Format.word;rw [e4]
    by_cases hn:n<0
    ·simp [hn];omega
    ·simp [hn];omega
   simp only [e0,e2,e3,e4,r1,r2]
   rw [if_neg (by omega),if_pos (by omega)]
   congr 1
   ·omega
   ·omega
  ·rw [show ((M.log2:Int) - 52+1074).toNat=M.log2+1022 by omega]
   unfold signed
   rw [Nat.shiftLeft_eq,← hq,Nat.mul_assoc,← Nat.pow_add,show 52 - M.log2+(M.log2+1022)=1074 by omega]
   have two:(((2:Nat)):Int)=2:=rfl
   generalize 1074=K
   by_cases hn:n<0
   ·simp only [hn,decide_true,if_true]
    rw [Int.natCast_mul,Int.natCast_pow,← Int.neg_mul,two,show -(M:Int)=n by omega]
   ·simp only [hn,decide_false,Bool.false_eq_true,if_false]
    rw [Int.natCast_mul,Int.natCast_pow,two,show (M:Int)=n by omega]
theorem zGp (s:Bool)(m u v:Nat):signed s m (u+v)=signed s m u * 2 ^ v:=by
 unfold signed
 simp only [Nat.shiftLeft_eq,Nat.pow_add,← Nat.mul_assoc]
 cases s <;> simp [Int.natCast_mul,Int.natCast_pow,Int.neg_mul]
private theorem zMm (k:Nat):(0:Int)<2 ^ k:=by
 have:=Nat.two_pow_pos k
 have h:((2 ^ k:Nat):Int)=2 ^ k:=by rw [Int.natCast_pow];rfl
 omega
theorem zGq {s:Bool}{m:Nat}{i base A:Int}(h:signed s m (i+1074).toNat=A * 2 ^ 1074)(h0:-1074≤base)(h1:base≤i)(h2:base≤0):signed s m (i - base).toNat=A * 2 ^ (-base).toNat:=by
 have e1:(i+1074).toNat=(i - base).toNat+(base+1074).toNat:=by omega
 rw [e1,zGp] at h
 have e2:(2:Int) ^ 1074=2 ^ (-base).toNat * 2 ^ (base+1074).toNat:=by rw [← Int.pow_add];congr 1;omega
 rw [e2,← Int.mul_assoc] at h
 exact Int.eq_of_mul_eq_mul_right (by have:=zMm (base+1074).toNat;omega) h
theorem zM0 {s t:Bool}{m n:Nat}{i j A B:Int}(h:signed s m (i+1074).toNat=A * 2 ^ 1074)(g:signed t n (j+1074).toNat=B * 2 ^ 1074)(i0:-1074≤i)(i1:i≤0)(j0:-1074≤j)(j1:j≤0)(hs:A+B=0→(s && t)=false)(b0:-(2 ^ 53)<A+B)(b1:A+B<2 ^ 53):((Datum.number s m i).sum (.number t n j)).map double.write=some (flo (A+B)):=by
 generalize hb:min i j=base
 have h0:-1074≤base:=by omega
 have h1:=zGq h h0 (by omega) (by omega)
 have g1:=zGq g h0 (by omega) (by omega)
 unfold Datum.sum
 simp only [hb,h1,g1,Option.map_some,Format.write]
 congr 1
 rw [← Int.add_mul]
 generalize A+B=C at *
 have hp:=zMm (-base).toNat
 by_cases hC:C=0
 ·subst hC
  rw [Int.zero_mul,if_pos rfl,hs rfl]
  have:∀ p:Int,double.nearest false (0:Int).natAbs p=0:=fun p=>by simp [Format.nearest,Format.word]
  rw [this]
  decide +kernel
 ·have hne:¬ C * 2 ^ (-base).toNat=0:=by
   intro h
   rcases Int.mul_eq_zero.1 h with h | h
   ·exact hC h
   ·omega
  rw [if_neg hne,zQk]
  have hab:(C * 2 ^ (-base).toNat).natAbs=C.natAbs * 2 ^ (-base).toNat:=by
   rw [Int.natAbs_mul,Int.natAbs_pow];rfl
  have hneg:decide (C * 2 ^ (-base).toNat<0)=decide (C<0):=by
   by_cases hc:C<0
   ·have:C * 2 ^ (-base).toNat<0:=Int.mul_neg_of_neg_of_pos hc hp
    simp [hc,this]
   ·have:¬ C * 2 ^ (-base).toNat<0:=by have:=Int.mul_nonneg (show 0≤C by omega) (Int.le_of_lt hp);omega
    simp [hc,this]
  rw [hab,hneg]
  have hbk:base=-(((-base).toNat:Nat):Int):=by omega
  rw [hbk]
  have:((-(-(((-base).toNat:Nat):Int))).toNat)=(-base).toNat:=by omega
  rw [this]
  exact zLc _ _ _ (by omega) (by omega) (by omega)
theorem zN2 {a b:Int}(a0:-(2 ^ 52)<a)(a1:a<2 ^ 52)(b0:-(2 ^ 52)<b)(b1:b<2 ^ 52):floatBits .add .f64 (flo a) (flo b)=some (flo (a+b)):=by
 obtain ⟨m,i,e1,i0,i1,h⟩:=zCn a (by omega) (by omega)
 obtain ⟨n,j,e2,j0,j1,g⟩:=zCn b (by omega) (by omega)
 show ((double.read (flo a)).sum (double.read (flo b))).map double.write=_
 rw [e1,e2]
 refine zM0 h g i0 i1 j0 j1 ?_ (by omega) (by omega)
 intro hz
 simp;omega
theorem zN0 {a b:Int}(a0:-(2 ^ 52)<a)(a1:a<2 ^ 52)(b0:-(2 ^ 52)<b)(b1:b<2 ^ 52):floatBits .sub .f64 (flo a) (flo b)=some (flo (a - b)):=by
 obtain ⟨m,i,e1,i0,i1,h⟩:=zCn a (by omega) (by omega)
 obtain ⟨n,j,e2,j0,j1,g⟩:=zCn b (by omega) (by omega)
 show ((double.read (flo a)).sum (double.read (flo b)).opposite).map double.write=_
 rw [e1,e2,Int.sub_eq_add_neg]
 have g':signed (!decide (b<0)) n (j+1074).toNat=-b * 2 ^ 1074:=by
  rw [Int.neg_mul,← g]
  unfold signed
  cases decide (b<0) <;> simp
 refine zM0 h g' i0 i1 j0 j1 ?_ (by omega) (by omega)
 intro hz
 simp;omega
end Go.Proofs.YtpaiholildedcaaGreat
namespace Go.Proofs.YtpaiholildedcaaGreat
open Go.RowKit
end Go.Proofs.YtpaiholildedcaaGreat
namespace Go.Proofs.YtpaiholildedcaaGreat
open Go Ieee
private theorem all_nat {m:Nat}{p:Nat→Bool}(h:(List.range m).all p=true){k:Nat}(hk:k<m):p k=true:=List.all_eq_true.1 h k (List.mem_range.2 hk)
private theorem int_tab:(List.range 1000).all (fun a=>floatToIntVal .f64 (flo (a - 200)) .i64 == some ((a:Int) - 200))=true:=by decide +kernel
theorem zN1 {a:Int}(h0:-200≤a)(h1:a<800):floatToIntVal .f64 (flo a) .i64=some a:=by
 have h:=all_nat int_tab (show (a+200).toNat<1000 by omega)
 have e1:(((a+200).toNat:Nat):Int) - 200=a:=by omega
 rw [e1] at h
 exact eq_of_beq h
end Go.Proofs.YtpaiholildedcaaGreat
namespace Go.Proofs.YtpaiholildedcaaGreat
open Go.RowKit
end Go.Proofs.YtpaiholildedcaaGreat
