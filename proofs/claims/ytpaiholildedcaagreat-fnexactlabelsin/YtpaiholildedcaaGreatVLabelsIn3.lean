/- Texts. -/
import Derived.Test.YtpaiholildedcaaGreatRows
import Derived.ProofKit
import Derived.OpenShut
import Derived.Deep.SlicePairs
import Derived.Deep.RegionLawGrows
import Derived.Laws.ComplexArith
import Derived.Shelf.SlSortCmp.NoneTotal
set_option linter.unusedSimpArgs false
set_option linter.unusedVariables false
set_option maxRecDepth 100000
set_option maxHeartbeats 32000000
namespace Go.Proofs.YtpaiholildedcaaGreat
open Go.RowKit
end Go.Proofs.YtpaiholildedcaaGreat
namespace Go.Proofs.YtpaiholildedcaaGreat
open Go.ChangeShapes Go.WideShapes Go.ChangeAt Go.RowKit
theorem own:ownKnob Tryz.prog.godebug=none:=by kernel_rfl
theorem laidOut:laidOutB Tryz.prog=true:=by kernel_rfl
theorem zSv:Tryz.prog.cellsOf 356=2:=by kernel_rfl
theorem vE:Tryz.prog.cellsOf 2=1:=by kernel_rfl
end Go.Proofs.YtpaiholildedcaaGreat
namespace Go.Proofs.YtpaiholildedcaaGreat
open Go.RowKit
end Go.Proofs.YtpaiholildedcaaGreat
namespace Go.Proofs.YtpaiholildedcaaGreat
open Go
theorem yS {P:Program}{ops:Array Oper}{o:Oper}{a:Act}{w:World}{K:Act→World→Prop}{Q:Exit→Act→World→Prop}{E:Prop}(hg:o.guard=none)(s x:Operand)(t:TypeId)(hop:o.op=Op.call { callee:=Callee.builtin Builtin.append,args:=#[s,x],argTypes:=#[t,t] })(base:Nat)(e:TypeId)(i:TypeInfo)(z:Value)(size bytes:Nat)(h1:P.underlying t=some (.slice e))(h2:P.info? e=some i)(h3:i.zero=some z)(h4:i.size=size)(h5:i.bytes=bytes)(h6:z.cells.size=size)(h7:0<size)(v:Value)(n:Nat)(xs:List Value)(hs:a.eval s=v)(hown:w.ownsRow base e size v n xs)(ad:Addr)(m c:Nat)(news:List Value)(hx:a.eval x=.slice (some ad) m c)(hn:news.length=m * size)(hc:∀ j u,news[j]?=some u→w.cell? (ad.add j)=some u)(h1c:∀ u ∈ news,u.oneCell'=true)(b1:n+m≤maxLen)(b2:(n+m) * bytes≤140737488355328)(hbase:base≤w.heap.size)(hK:∀ v' w',w'.ownsRow base e size v' (n+m) (xs ++ news)→w.grownBy w' v.ownBlock→(v'=.slice none 0 0 ↔ v=.slice none 0 0∧m=0)→K (a.put o.dst v') w') :
  if Region.wanted o (yielded ops a.tmps)=true then Oper.wp P o a w K Q else E:=by
 have hw:Region.wanted o (yielded ops a.tmps)=true:=by simp [Region.wanted,hg]
 rw [if_pos hw]
 obtain ⟨v',w',hrun,r1,r2,r3⟩:=run_append_own (P:=P) w base t o.type e i z size bytes h1 h2 h3 h4 h5 h6 h7 v n xs hown ad m c news hn hc h1c b1 b2 hbase
 unfold Oper.wp
 simp [execOp,hop,resolve,invoke,builtin,hs,hx,hrun,Result.andThen]
 exact hK v' w' r1 r2 r3
end Go.Proofs.YtpaiholildedcaaGreat
namespace Go.Proofs.YtpaiholildedcaaGreat
open Go.RowKit
def or2 (x y:Int):Int:=if x=0 then y else x
theorem zGh (b c:Nat)(x y:Int)(w:World)(h0:w.cell? ⟨b,0,none⟩=some (.int .i64 x))(h1:w.cell? ⟨b,1,none⟩=some (.int .i64 y)) :
  Calls Tryz.prog 71 #[.slice (some ⟨b,0,none⟩) 2 c] w fun e w'=>e=.returned (.int .i64 (or2 x y))∧w'=w:=by
 unfold or2
 by_cases hx:x=0
 ·subst hx
  by_cases hy:y=0
  ·subst hy
   go_enter Tryz.func71,Tryz.ntmps71
   go_wp2
   refine wp_loop_rounds 3 ?_
   rw [rounds_succ]
   go_wp2
   rw [rounds_succ]
   go_wp2
   rw [rounds_succ]
   go_wp2
   go_ret
   exact ⟨by simp,rfl⟩
  ·have hy':(y == 0)=false:=by simpa using hy
   go_enter Tryz.func71,Tryz.ntmps71
   go_wp2
   refine wp_loop_rounds 2 ?_
   rw [rounds_succ]
   go_wp2
   rw [rounds_succ]
   go_wp2
   go_ret
   exact ⟨by simp,rfl⟩
 ·have hx':(x == 0)=false:=by simpa using hx
  go_enter Tryz.func71,Tryz.ntmps71
  go_wp2
  refine wp_loop_rounds 1 ?_
  rw [rounds_succ]
  go_wp2
  go_ret
  exact ⟨by simp [hx],rfl⟩
def or3 (x y z:Int):Int:=if x=0 then (if y=0 then z else y) else x
theorem zOb (b c:Nat)(x y z:Int)(w:World)(h0:w.cell? ⟨b,0,none⟩=some (.int .i64 x))(h1:w.cell? ⟨b,1,none⟩=some (.int .i64 y))(h2:w.cell? ⟨b,2,none⟩=some (.int .i64 z)) :
  Calls Tryz.prog 71 #[.slice (some ⟨b,0,none⟩) 3 c] w fun e w'=>e=.returned (.int .i64 (or3 x y z))∧w'=w:=by
 unfold or3
 by_cases hx:x=0
 ·subst hx
  by_cases hy:y=0
  ·subst hy
   by_cases hz:z=0
   ·subst hz
    go_enter Tryz.func71,Tryz.ntmps71
    go_wp2
    refine wp_loop_rounds 4 ?_
    rw [rounds_succ]
    go_wp2
    rw [rounds_succ]
    go_wp2
    rw [rounds_succ]
    go_wp2
    rw [rounds_succ]
    go_wp2
    go_ret
    exact ⟨by simp,rfl⟩
   ·have hz':(z == 0)=false:=by simpa using hz
    go_enter Tryz.func71,Tryz.ntmps71
    go_wp2
    refine wp_loop_rounds 3 ?_
    rw [rounds_succ]
    go_wp2
    rw [rounds_succ]
    go_wp2
    rw [rounds_succ]
    go_wp2
    go_ret
    exact ⟨by simp,rfl⟩
  ·have hy':(y == 0)=false:=by simpa using hy
   go_enter Tryz.func71,Tryz.ntmps71
   go_wp2
   refine wp_loop_rounds 2 ?_
   rw [rounds_succ]
   go_wp2
   rw [rounds_succ]
   go_wp2
   go_ret
   exact ⟨by simp [hy],rfl⟩
 ·have hx':(x == 0)=false:=by simpa using hx
  rw [if_neg hx]
  go_enter Tryz.func71,Tryz.ntmps71
  go_wp2
  refine wp_loop_rounds 1 ?_
  rw [rounds_succ]
  go_wp2
  go_ret
  exact ⟨rfl,rfl⟩
def yR (c:Nat→Int):Nat→Nat→Int
 | _,0=>0
 | i,k+1=>if c i≠0 then c i else yR c (i+1) k
theorem zU (c:Nat→Int):∀ (m i k:Nat),(∀ j,i≤j→j<k→c j=0)→i≤k→k<i+m→c k≠0→yR c i m=c k
 | 0,i,k,_,h1,h2,_=>by omega
 | m+1,i,k,h,h1,h2,hne=>by
  rw [yR]
  by_cases e:i=k
  ·subst e;rw [if_pos hne]
  ·rw [if_neg (by rw [h i (Nat.le_refl _) (by omega)];simp)]
   exact zU c m (i+1) k (fun j hj=>h j (by omega)) (by omega) (by omega) hne
theorem yT (c:Nat→Int):∀ (m i:Nat),(∀ j,i≤j→j<i+m→c j=0)→yR c i m=0
 | 0,_,_=>rfl
 | m+1,i,h=>by
  rw [yR,if_neg (by rw [h i (Nat.le_refl _) (by omega)];simp)]
  exact yT c m (i+1) (fun j hj hj'=>h j (by omega) (by omega))
theorem zF2 (c d:Nat→Int):∀ (m i:Nat),(∀ j,i≤j→j<i+m→c j=d j)→yR c i m=yR d i m
 | 0,_,_=>rfl
 | m+1,i,h=>by
  rw [yR,yR,h i (Nat.le_refl _) (by omega),zF2 c d m (i+1) (fun j hj hj'=>h j (by omega) (by omega))]
theorem zIi (c:Nat→Int):∀ (m i:Nat),yR c i m=0→∀ j,i≤j→j<i+m→c j=0
 | 0,i,_,j,h1,h2=>by omega
 | m+1,i,h,j,h1,h2=>by
  rw [yR] at h
  by_cases hc:c i≠0
  ·rw [if_pos hc] at h;exact absurd h hc
  ·rw [if_neg hc] at h
   by_cases e:j=i
   ·subst e;simpa using hc
   ·exact zIi c m (i+1) h j (by omega) (by omega)
def ltK (L I : Nat → Int) (i j : Nat) : Bool := decide (L i < L j) || (decide (L i = L j) && decide (I i < I j))
theorem zD5 (L I : Nat → Int) (i j : Nat) : ltK L I i j = true ↔ L i < L j ∨ (L i = L j ∧ I i < I j) := by simp [ltK]
theorem zL3 (L I : Nat → Int) (i j : Nat) : ltK L I i j = false ↔ ¬ (L i < L j ∨ (L i = L j ∧ I i < I j)) := by
  rw [← zD5]; simp
def zMa (L I : Nat → Int) (i : Nat) : List Nat → List Nat
  | [] => [i]
  | j :: r => if ltK L I j i = true then j :: zMa L I i r else i :: j :: r
def zJ7 (L I : Nat → Int) : Nat → List Nat
  | 0 => []
  | n + 1 => zMa L I n (zJ7 L I n)
theorem zEg (L I : Nat → Int) (i : Nat) : ∀ l, (zMa L I i l).Perm (i :: l)
  | [] => .refl _
  | j :: r => by
    rw [zMa]
    split
    · exact ((zEg L I i r).cons j).trans (.swap i j r)
    · exact .refl _
theorem zAs (L I : Nat → Int) : ∀ n, (zJ7 L I n).Perm (List.range n)
  | 0 => .refl _
  | n + 1 => by
    rw [zJ7, List.range_succ]
    exact (zEg L I n _).trans (((zAs L I n).cons n).trans (List.perm_append_singleton n _).symm)
theorem zB3 (L I : Nat → Int) (n : Nat) : (zJ7 L I n).length = n := by simpa using (zAs L I n).length_eq
theorem uX (L I : Nat → Int) (n i : Nat) : i ∈ zJ7 L I n ↔ i < n := by rw [(zAs L I n).mem_iff]; simp
def zE2 (I : Nat → Int) (n : Nat) : Prop := ∀ i j, i < n → j < n → I i = I j → i = j
theorem zEf (L I : Nat → Int) (i : Nat) : ∀ l : List Nat, l.Pairwise (fun a b => ltK L I a b = true) → (∀ j ∈ l, I j ≠ I i) → (zMa L I i l).Pairwise (fun a b => ltK L I a b = true)
  | [], _, _ => by simp [zMa]
  | j :: r, h, hd => by
    rw [List.pairwise_cons] at h
    rw [zMa]
    split
    · rename_i hji
      rw [List.pairwise_cons]
      refine ⟨fun x hx => ?_, zEf L I i r h.2 (fun x hx => hd x (List.mem_cons_of_mem _ hx))⟩
      rcases List.mem_cons.1 ((zEg L I i r).mem_iff.1 hx) with rfl | hx
      · exact hji
      · exact h.1 x hx
    · rename_i hji
      have hij : ltK L I i j = true := by
        have hne := hd j (List.mem_cons_self ..)
        rw [zD5] at hji ⊢
        omega
      refine List.pairwise_cons.2 ⟨fun x hx => ?_, List.pairwise_cons.2 h⟩
      rcases List.mem_cons.1 hx with rfl | hx
      · exact hij
      · have := h.1 x hx
        rw [zD5] at this hij ⊢
        omega
theorem zDs (L I : Nat → Int) : ∀ n, zE2 I n → (zJ7 L I n).Pairwise (fun a b => ltK L I a b = true)
  | 0, _ => by simp [zJ7]
  | n + 1, h => by
    rw [zJ7]
    refine zEf L I n _ (zDs L I n (fun i j hi hj e => h i j (by omega) (by omega) e)) (fun j hj e => ?_)
    have hj' := (uX L I n j).1 hj
    have := h j n (by omega) (by omega) e
    omega
theorem zPu {L I L' I' : Nat → Int} {i j : Nat} (h1 : L i = L' i) (h2 : L j = L' j) (h3 : I i = I' i) (h4 : I j = I' j) : ltK L I i j = ltK L' I' i j := by
  unfold ltK; rw [h1, h2, h3, h4]
theorem zGf {L I L' I' : Nat → Int} {i : Nat} : ∀ l : List Nat, (∀ j, (j = i ∨ j ∈ l) → L j = L' j ∧ I j = I' j) → zMa L I i l = zMa L' I' i l
  | [], _ => rfl
  | j :: r, h => by
    obtain ⟨a1, a2⟩ := h j (.inr (List.mem_cons_self ..))
    obtain ⟨b1, b2⟩ := h i (.inl rfl)
    rw [zMa, zMa, zPu a1 b1 a2 b2, zGf r (fun k hk => h k (hk.imp id (List.mem_cons_of_mem _)))]
theorem zFz {L I L' I' : Nat → Int} : ∀ n : Nat, (∀ j, j < n → L j = L' j ∧ I j = I' j) → zJ7 L I n = zJ7 L' I' n
  | 0, _ => rfl
  | n + 1, h => by
    rw [zJ7, zJ7, zFz n (fun j hj => h j (by omega))]
    refine zGf _ (fun j hj => ?_)
    rcases hj with rfl | hj
    · exact h j (by omega)
    · exact h j (by have := (uX L' I' n j).1 hj; omega)
theorem zP5 (L I : Nat → Int) (i : Nat) : ∀ (l : List Nat) (k : Nat), k ≤ l.length → (∀ j, j < k → ltK L I (l.getD j 0) i = true) → (k = l.length ∨ ltK L I (l.getD k 0) i = false) → zMa L I i l = l.take k ++ i :: l.drop k
  | [], k, hk, _, _ => by have : k = 0 := by simpa using hk
                          subst this; rfl
  | j :: r, 0, _, _, h2 => by
    have h3 : ltK L I j i = false := by simpa using h2
    rw [zMa, if_neg (by simp [h3])]; rfl
  | j :: r, k + 1, hk, h1, h2 => by
    have h3 : ltK L I j i = true := by simpa using h1 0 (by omega)
    rw [zMa, if_pos h3, zP5 L I i r k (by simpa using hk) (fun q hq => by simpa using h1 (q + 1) (by omega)) (by simpa using h2)]
    rfl
theorem zLl (n:Nat)(a b c a' b' c':Int)(w:World):(Op.equalIn (n+2) 111 (.agg #[.int .i64 a,.int .i64 b,.int .i64 c]) (.agg #[.int .i64 a',.int .i64 b',.int .i64 c'])).run Tryz.prog w=.ok ((a == a') && ((b == b') && (c == c'))) w:=by
 have hp0:∀ (x y z:Int) (w:World),(part 2 #[.int .i64 x,.int .i64 y,.int .i64 z] 0).run Tryz.prog w=.ok (.int .i64 x) w:=fun _ _ _ _=>by kernel_rfl
 have hp1:∀ (x y z:Int) (w:World),(part 2 #[.int .i64 x,.int .i64 y,.int .i64 z] 1).run Tryz.prog w=.ok (.int .i64 y) w:=fun _ _ _ _=>by kernel_rfl
 have hp2:∀ (x y z:Int) (w:World),(part 2 #[.int .i64 x,.int .i64 y,.int .i64 z] 2).run Tryz.prog w=.ok (.int .i64 z) w:=fun _ _ _ _=>by kernel_rfl
 have hi:=fun (a b:Int) (w:World)=>run_equalIn_int (P:=Tryz.prog) w n 2 .i64 .i64 a b Tryz.underlying2
 rw [run_equalIn_struct w (n+1) 111 _ _ (by kernel_rfl) (by kernel_rfl)]
 simp [Op.eqFields,Program.fieldsOf,Tryz.underlying111,hp0,hp1,hp2,hi]
 by_cases h1:a=a' <;> by_cases h2:b=b' <;> by_cases h3:c=c' <;> simp [h1,h2,h3]
theorem zEq (a b c a' b' c':Int)(w:World):(binOp .eql 111 (.agg #[.int .i64 a,.int .i64 b,.int .i64 c]) (.agg #[.int .i64 a',.int .i64 b',.int .i64 c'])).run Tryz.prog w=.ok (.bool ((a == a') && ((b == b') && (c == c')))) w:=by
 rw [run_eql_struct,zLl 9998]
 rfl
theorem zRm (a b c a' b' c':Int):((a == a') && ((b == b') && (c == c')))=((a' == a) && ((b' == b) && (c' == c))):=by
 rw [Bool.eq_iff_iff]
 simp
 constructor <;> (rintro ⟨h1,h2,h3⟩;exact ⟨h1.symm,h2.symm,h3.symm⟩)
def yK (G:Nat→Bool):Nat→Int
 | 0=>-1
 | n+1=>if 0≤yK G n then yK G n else if G n=true then (n:Int) else -1
theorem vQ {G:Nat→Bool}:∀ {n:Nat},(∀ i,i<n→G i=false)→yK G n=-1
 | 0,_=>rfl
 | n+1,h=>by rw [yK,vQ (fun i hi=>h i (by omega)),h n (by omega)];rfl
theorem yP {G:Nat→Bool}:∀ {n i:Nat},i<n→G i=true→(∀ j,j<i→G j=false)→yK G n=(i:Int)
 | n+1,i,hi,h,hn=>by
  rw [yK]
  by_cases e:i=n
  ·subst e;rw [vQ hn,h];rfl
  ·rw [yP (n:=n) (by omega) h hn,if_pos (by omega)]
theorem uT (G:Nat→Bool)(n:Nat):(yK G n=-1∧∀ i,i<n→G i=false)∨∃ i,i<n∧G i=true∧yK G n=(i:Int)∧∀ j,j<i→G j=false:=by
 induction n with
 | zero=>exact .inl ⟨rfl,fun i hi=>absurd hi (Nat.not_lt_zero _)⟩
 | succ n ih =>
  rcases ih with ⟨h1,h2⟩ | ⟨i,hi,hg,hf,hn⟩
  ·cases hG:G n
   ·refine .inl ⟨by rw [yK,h1,hG];rfl,fun i hi=>?_⟩
    by_cases e:i=n
    ·rw [e];exact hG
    ·exact h2 i (by omega)
   ·exact .inr ⟨n,by omega,hG,by rw [yK,h1,hG];rfl,h2⟩
  ·exact .inr ⟨i,by omega,hg,by rw [yK,hf,if_pos (by omega)],hn⟩
end Go.Proofs.YtpaiholildedcaaGreat
namespace Go.Proofs.YtpaiholildedcaaGreat
open Go Ieee
def flo (n:Int):Nat:=floatOfInt .f64 n
theorem zTh (n:Int):flo n=double.nearest (decide (n<0)) n.natAbs 0:=rfl
theorem zF5 {m:Nat}(k:Nat)(h:m≠0):(m * 2 ^ k).log2=m.log2+k:=by
 have hp:0<2 ^ k:=Nat.two_pow_pos k
 have h2:m * 2 ^ k≠0:=Nat.mul_ne_zero h (by omega)
 rw [Nat.log2_eq_iff h2]
 have h3:=Nat.log2_self_le h
 have h4:=Nat.lt_log2_self (n:=m)
 constructor
 ·rw [Nat.pow_add];exact Nat.mul_le_mul_right _ h3
 ·rw [show m.log2+k+1=(m.log2+1)+k by omega,Nat.pow_add]
  exact Nat.mul_lt_mul_of_pos_right h4 hp
theorem zHv (neg:Bool)(n:Nat):Toward.even.cut neg n 0=n:=by
 simp [Toward.cut,Nat.mod_one]
theorem zQp (neg:Bool)(q d:Nat)(hq:q≠0):Toward.even.cut neg (q * 2 ^ d) d=q:=by
 have hp:0<2 ^ d:=Nat.two_pow_pos d
 have hm:min d ((q * 2 ^ d).log2+2)=d:=by rw [zF5 d hq];omega
 unfold Toward.cut
 simp only [hm,Nat.shiftLeft_eq,Nat.one_mul,Nat.mul_div_cancel _ hp,Nat.mul_mod_left]
 have h1:¬ (2 ^ d<2 * 0):=by omega
 have h2:((2 ^ d:Nat) == 2 * 0)=false:=by simp
 simp [h2]
theorem zNg (neg:Bool)(M k:Nat)(hM:M≠0)(hM':M<2 ^ 53)(hk:k≤1074):double.nearest neg (M * 2 ^ k) (-(k:Int))=double.nearest neg M 0:=by
 have hp:0<2 ^ k:=Nat.two_pow_pos k
 have h2:M * 2 ^ k≠0:=Nat.mul_ne_zero hM (by omega)
 have hL:M.log2<53:=(Nat.log2_lt hM).2 hM'
 have hl:=zF5 k hM
 unfold Format.nearest
 rw [if_neg h2,if_neg hM]
 have e0:double.leastPlace=-1074:=by decide +kernel
 have e1:double.fractionBits=52:=rfl
 simp only [e0,e1,hl]
 have a1:max (-(k:Int)+((M.log2+k:Nat):Int) - ((52:Nat):Int)) (-1074)=(M.log2:Int) - 52:=by omega
 have a2:max ((0:Int)+((M.log2:Nat):Int) - ((52:Nat):Int)) (-1074)=(M.log2:Int) - 52:=by omega
 rw [a1,a2]
 have kept2:Toward.even.cut neg (M <<< ((0:Int) - ((M.log2:Int) - 52)).toNat) (((M.log2:Int) - 52) - 0).toNat=M * 2 ^ (52 - M.log2):=by
  rw [show (((M.log2:Int) - 52) - 0).toNat=0 by omega,show ((0:Int) - ((M.log2:Int) - 52)).toNat=52 - M.log2 by omega,zHv,Nat.shiftLeft_eq]
 have kept1:Toward.even.cut neg ((M * 2 ^ k) <<< (-(k:Int) - ((M.log2:Int) - 52)).toNat) (((M.log2:Int) - 52) - -(k:Int)).toNat=M * 2 ^ (52 - M.log2):=by
  by_cases hc:k≤52 - M.log2
  ·rw [show (((M.log2:Int) - 52) - -(k:Int)).toNat=0 by omega,show (-(k:Int) - ((M.log2:Int) - 52)).toNat=52 - M.log2 - k by omega,zHv,Nat.shiftLeft_eq,Nat.mul_assoc,← Nat.pow_add]
   congr 2;omega
  ·rw [show (-(k:Int) - ((M.log2:Int) - 52)).toNat=0 by omega,show (((M.log2:Int) - 52) - -(k:Int)).toNat=k - (52 - M.log2) by omega]
   have:(M * 2 ^ k) <<< 0=M * 2 ^ (52 - M.log2) * 2 ^ (k - (52 - M.log2)):=by
    rw [Nat.shiftLeft_zero,Nat.mul_assoc,← Nat.pow_add];congr 2;omega
   rw [this]
   exact zQp _ _ _ (Nat.mul_ne_zero hM (by have:=Nat.two_pow_pos (52 - M.log2);omega))
 rw [kept1,kept2]
theorem zDh (n:Int)(h0:-(2 ^ 53)<n)(h1:n<2 ^ 53):∃ m i,double.read (flo n)=.number (decide (n<0)) m i∧-1074≤i∧i≤0∧signed (decide (n<0)) m (i+1074).toNat=n * 2 ^ 1074:=by
 by_cases hz:n=0
 ·subst hz
  exact ⟨0,-1074,by decide +kernel,by omega,by omega,by decide +kernel⟩
 ·generalize hM:n.natAbs=M
  have hM0:M≠0:=by omega
  have hM1:M<2 ^ 53:=by omega
  have hL:M.log2<53:=(Nat.log2_lt hM0).2 hM1
  have b1:=Nat.log2_self_le hM0
  have b2:=Nat.lt_log2_self (n:=M)
  have hk1:2 ^ 52≤M * 2 ^ (52 - M.log2):=by
   have:=Nat.mul_le_mul_right (2 ^ (52 - M.log2)) b1
   rw [← Nat.pow_add,show M.log2+(52 - M.log2)=52 by omega] at this
   exact this
  have hk2:M * 2 ^ (52 - M.log2)<2 ^ 53:=by
   have:=Nat.mul_lt_mul_of_pos_right b2 (Nat.two_pow_pos (52 - M.log2))
   rw [← Nat.pow_add,show M.log2+1+(52 - M.log2)=53 by omega] at this
   exact this
  obtain ⟨q,hq⟩:∃ q,M * 2 ^ (52 - M.log2)=q:=⟨_,rfl⟩
  rw [hq] at hk1 hk2
  have e5:(2:Nat) ^ 52=4503599627370496:=by decide
  have e6:(2:Nat) ^ 53=9007199254740992:=by decide
  rw [e5] at hk1
  rw [e6] at hk2
  have e0:double.leastPlace=-1074:=by decide +kernel
  have e2:double.binade=4503599627370496:=by decide +kernel
  have e3:double.infRung=9218868437227405312:=by decide +kernel
  have e4:double.signWeight=9223372036854775808:=by decide +kernel
  have hw:flo n=double.word (decide (n<0)) ((M.log2+1022) * 4503599627370496+q):=by
   rw [zTh,hM]
   unfold Format.nearest
   rw [if_neg hM0]
   have e1:double.fractionBits=52:=rfl
   simp only [e0,e1,e2,e3]
   have a2:max ((0:Int)+((M.log2:Nat):Int) - ((52:Nat):Int)) (-1074)=(M.log2:Int) - 52:=by omega
   rw [a2,show (((M.log2:Int) - 52) - 0).toNat=0 by omega,show ((0:Int) - ((M.log2:Int) - 52)).toNat=52 - M.log2 by omega,zHv,Nat.shiftLeft_eq,show ((M.log2:Int) - 52 - -1074).toNat=M.log2+1022 by omega,hq]
   rw [Nat.min_eq_left (by clear hq hM hM1 b1 b2 e0 e2 e3 e4 e5 e6;omega)]
  refine ⟨q,(M.log2:Int) - 52,?_,by omega,by omega,?_⟩
  ·rw [hw]
   clear hw hq hM hM1 b1 b2 h0 h1 e5 e6
   generalize M.log2=L at *
   unfold Format.read
   have r1:(double.word (decide (n<0)) ((L+1022) * 4503599627370496+q)) % 9223372036854775808=(L+1022) * 4503599627370496+q:=by
    unfold Format.word;rw [e4];split <;> omega
   have r2:((double.word (decide (n<0)) ((L+1022) * 4503599627370496+q)) / 9223372036854775808 % 2 == 1)=decide (n<0):=by
    unfold Format.word;rw [e4]
    by_cases hn:n<0
    ·simp [hn];omega
    ·simp [hn];omega
   simp only [e0,e2,e3,e4,r1,r2]
   rw [if_neg (by omega),if_pos (by omega)]
   congr 1
   ·omega
   ·omega
  ·rw [show ((M.log2:Int) - 52+1074).toNat=M.log2+1022 by omega]
   unfold signed
   rw [Nat.shiftLeft_eq,← hq,Nat.mul_assoc,← Nat.pow_add,show 52 - M.log2+(M.log2+1022)=1074 by omega]
   have two:(((2:Nat)):Int)=2:=rfl
   generalize 1074=K
   by_cases hn:n<0
   ·simp only [hn,decide_true,if_true]
    rw [Int.natCast_mul,Int.natCast_pow,← Int.neg_mul,two,show -(M:Int)=n by omega]
   ·simp only [hn,decide_false,Bool.false_eq_true,if_false]
    rw [Int.natCast_mul,Int.natCast_pow,two,show (M:Int)=n by omega]
theorem zIe (s:Bool)(m u v:Nat):signed s m (u+v)=signed s m u * 2 ^ v:=by
 unfold signed
 simp only [Nat.shiftLeft_eq,Nat.pow_add,← Nat.mul_assoc]
 cases s <;> simp [Int.natCast_mul,Int.natCast_pow,Int.neg_mul]
private theorem zOq (k:Nat):(0:Int)<2 ^ k:=by
 have:=Nat.two_pow_pos k
 have h:((2 ^ k:Nat):Int)=2 ^ k:=by rw [Int.natCast_pow];rfl
 omega
theorem zIf {s:Bool}{m:Nat}{i base A:Int}(h:signed s m (i+1074).toNat=A * 2 ^ 1074)(h0:-1074≤base)(h1:base≤i)(h2:base≤0):signed s m (i - base).toNat=A * 2 ^ (-base).toNat:=by
 have e1:(i+1074).toNat=(i - base).toNat+(base+1074).toNat:=by omega
 rw [e1,zIe] at h
 have e2:(2:Int) ^ 1074=2 ^ (-base).toNat * 2 ^ (base+1074).toNat:=by rw [← Int.pow_add];congr 1;omega
 rw [e2,← Int.mul_assoc] at h
 exact Int.eq_of_mul_eq_mul_right (by have:=zOq (base+1074).toNat;omega) h
theorem zO3 {s t:Bool}{m n:Nat}{i j A B:Int}(h:signed s m (i+1074).toNat=A * 2 ^ 1074)(g:signed t n (j+1074).toNat=B * 2 ^ 1074)(i0:-1074≤i)(i1:i≤0)(j0:-1074≤j)(j1:j≤0)(hs:A+B=0→(s && t)=false)(b0:-(2 ^ 53)<A+B)(b1:A+B<2 ^ 53):((Datum.number s m i).sum (.number t n j)).map double.write=some (flo (A+B)):=by
 generalize hb:min i j=base
 have h0:-1074≤base:=by omega
 have h1:=zIf h h0 (by omega) (by omega)
 have g1:=zIf g h0 (by omega) (by omega)
 unfold Datum.sum
 simp only [hb,h1,g1,Option.map_some,Format.write]
 congr 1
 rw [← Int.add_mul]
 generalize A+B=C at *
 have hp:=zOq (-base).toNat
 by_cases hC:C=0
 ·subst hC
  rw [Int.zero_mul,if_pos rfl,hs rfl]
  have:∀ p:Int,double.nearest false (0:Int).natAbs p=0:=fun p=>by simp [Format.nearest,Format.word]
  rw [this]
  decide +kernel
 ·have hne:¬ C * 2 ^ (-base).toNat=0:=by
   intro h
   rcases Int.mul_eq_zero.1 h with h | h
   ·exact hC h
   ·omega
  rw [if_neg hne,zTh]
  have hab:(C * 2 ^ (-base).toNat).natAbs=C.natAbs * 2 ^ (-base).toNat:=by
   rw [Int.natAbs_mul,Int.natAbs_pow];rfl
  have hneg:decide (C * 2 ^ (-base).toNat<0)=decide (C<0):=by
   by_cases hc:C<0
   ·have:C * 2 ^ (-base).toNat<0:=Int.mul_neg_of_neg_of_pos hc hp
    simp [hc,this]
   ·have:¬ C * 2 ^ (-base).toNat<0:=by have:=Int.mul_nonneg (show 0≤C by omega) (Int.le_of_lt hp);omega
    simp [hc,this]
  rw [hab,hneg]
  have hbk:base=-(((-base).toNat:Nat):Int):=by omega
  rw [hbk]
  have:((-(-(((-base).toNat:Nat):Int))).toNat)=(-base).toNat:=by omega
  rw [this]
  exact zNg _ _ _ (by omega) (by omega) (by omega)
theorem zQh {a b:Int}(a0:-(2 ^ 52)<a)(a1:a<2 ^ 52)(b0:-(2 ^ 52)<b)(b1:b<2 ^ 52):floatBits .add .f64 (flo a) (flo b)=some (flo (a+b)):=by
 obtain ⟨m,i,e1,i0,i1,h⟩:=zDh a (by omega) (by omega)
 obtain ⟨n,j,e2,j0,j1,g⟩:=zDh b (by omega) (by omega)
 show ((double.read (flo a)).sum (double.read (flo b))).map double.write=_
 rw [e1,e2]
 refine zO3 h g i0 i1 j0 j1 ?_ (by omega) (by omega)
 intro hz
 simp;omega
theorem zQf {a b:Int}(a0:-(2 ^ 52)<a)(a1:a<2 ^ 52)(b0:-(2 ^ 52)<b)(b1:b<2 ^ 52):floatBits .sub .f64 (flo a) (flo b)=some (flo (a - b)):=by
 obtain ⟨m,i,e1,i0,i1,h⟩:=zDh a (by omega) (by omega)
 obtain ⟨n,j,e2,j0,j1,g⟩:=zDh b (by omega) (by omega)
 show ((double.read (flo a)).sum (double.read (flo b)).opposite).map double.write=_
 rw [e1,e2,Int.sub_eq_add_neg]
 have g':signed (!decide (b<0)) n (j+1074).toNat=-b * 2 ^ 1074:=by
  rw [Int.neg_mul,← g]
  unfold signed
  cases decide (b<0) <;> simp
 refine zO3 h g' i0 i1 j0 j1 ?_ (by omega) (by omega)
 intro hz
 simp;omega
end Go.Proofs.YtpaiholildedcaaGreat
namespace Go.Proofs.YtpaiholildedcaaGreat
open Go.RowKit
end Go.Proofs.YtpaiholildedcaaGreat
namespace Go.Proofs.YtpaiholildedcaaGreat
open Go Ieee
private theorem all_nat {m:Nat}{p:Nat→Bool}(h:(List.range m).all p=true){k:Nat}(hk:k<m):p k=true:=List.all_eq_true.1 h k (List.mem_range.2 hk)
private theorem int_tab:(List.range 1000).all (fun a=>floatToIntVal .f64 (flo (a - 200)) .i64 == some ((a:Int) - 200))=true:=by decide +kernel
theorem zQg {a:Int}(h0:-200≤a)(h1:a<800):floatToIntVal .f64 (flo a) .i64=some a:=by
 have h:=all_nat int_tab (show (a+200).toNat<1000 by omega)
 have e1:(((a+200).toNat:Nat):Int) - 200=a:=by omega
 rw [e1] at h
 exact eq_of_beq h
end Go.Proofs.YtpaiholildedcaaGreat
namespace Go.Proofs.YtpaiholildedcaaGreat
open Go.RowKit

end Go.Proofs.YtpaiholildedcaaGreat
namespace Go.Proofs
open Go.Shelf
def Tryz.sortF_ren:Go.Shelf.Ren:=⟨fun | 6=>157 | 15=>199 | 14=>198 | 28=>236 | 29=>237 | 20=>228 | 21=>229 | 22=>230 | 23=>231 | 24=>232 | 25=>233 | 26=>234 | 27=>235 | 46=>262 | 47=>263 | 48=>264 | 49=>265 | 50=>266 | 57=>290 | n=>n,fun | 22=>137 | 24=>209 | 25=>218 | 3=>3 | 39=>161 | 0=>0 | 53=>290 | 55=>292 | 4=>4 | 46=>283 | 45=>282 | 50=>287 | 5=>5 | 9=>9 | 66=>318 | 70=>322 | 76=>342 | 77=>343 | n=>n,fun | n=>n⟩
theorem Tryz.sortF:Go.Proofs.SlLaysF0.n6 Tryz.prog Tryz.sortF_ren:={
 mixed:=by kernel_rfl
 f6:=⟨Tryz.f157.name,by decide,Tryz.func157.trans (congrArg some (by kernel_rfl))⟩
 f14:=⟨Tryz.f198.name,by decide,Tryz.func198.trans (congrArg some (by kernel_rfl))⟩
 f15:=Tryz.func199.trans (congrArg some (by kernel_rfl))
 f20:=⟨Tryz.f228.name,by decide,Tryz.func228.trans (congrArg some (by kernel_rfl))⟩
 f21:=⟨Tryz.f229.name,by decide,Tryz.func229.trans (congrArg some (by kernel_rfl))⟩
 f22:=⟨Tryz.f230.name,by decide,Tryz.func230.trans (congrArg some (by kernel_rfl))⟩
 f23:=⟨Tryz.f231.name,by decide,Tryz.func231.trans (congrArg some (by kernel_rfl))⟩
 f24:=⟨Tryz.f232.name,by decide,Tryz.func232.trans (congrArg some (by kernel_rfl))⟩
 f25:=⟨Tryz.f233.name,by decide,Tryz.func233.trans (congrArg some (by kernel_rfl))⟩
 f26:=⟨Tryz.f234.name,by decide,Tryz.func234.trans (congrArg some (by kernel_rfl))⟩
 f27:=⟨Tryz.f235.name,by decide,Tryz.func235.trans (congrArg some (by kernel_rfl))⟩
 f28:=Tryz.func236.trans (congrArg some (by kernel_rfl))
 f29:=Tryz.func237.trans (congrArg some (by kernel_rfl))
 f46:=⟨Tryz.f262.name,by decide,Tryz.func262.trans (congrArg some (by kernel_rfl))⟩
 f47:=Tryz.func263.trans (congrArg some (by kernel_rfl))
 f48:=Tryz.func264.trans (congrArg some (by kernel_rfl))
 f49:=⟨Tryz.f265.name,by decide,Tryz.func265.trans (congrArg some (by kernel_rfl))⟩
 f50:=⟨Tryz.f266.name,by decide,Tryz.func266.trans (congrArg some (by kernel_rfl))⟩
 f57:=⟨Tryz.f290.name,by decide,Tryz.func290.trans (congrArg some (by kernel_rfl))⟩
 t0:=Tryz.underlying0
 a0:=Tryz.isAgg0
 z0:=Tryz.sizeOf0
 v0:=Tryz.zeroValue0
 t3:=Tryz.underlying3
 a3:=Tryz.isAgg3
 z3:=Tryz.sizeOf3
 v3:=Tryz.zeroValue3
 t4:=Tryz.underlying4
 a4:=Tryz.isAgg4
 z4:=Tryz.sizeOf4
 v4:=Tryz.zeroValue4
 t5:=Tryz.underlying5
 a5:=Tryz.isAgg5
 z5:=Tryz.sizeOf5
 v5:=Tryz.zeroValue5
 t9:=Tryz.underlying9
 a9:=Tryz.isAgg9
 z9:=Tryz.sizeOf9
 v9:=Tryz.zeroValue9
 t22:=Tryz.underlying137
 a22:=Tryz.isAgg137
 z22:=Tryz.sizeOf137
 v22:=Tryz.zeroValue137
 t25:=Tryz.underlying218
 a25:=Tryz.isAgg218
 z25:=Tryz.sizeOf218
 v25:=Tryz.zeroValue218
 t39:=Tryz.underlying161
 a39:=Tryz.isAgg161
 z39:=Tryz.sizeOf161
 v39:=Tryz.zeroValue161
 t45:=Tryz.underlying282
 a45:=Tryz.isAgg282
 z45:=Tryz.sizeOf282
 v45:=Tryz.zeroValue282
 t46:=Tryz.underlying283
 a46:=Tryz.isAgg283
 z46:=Tryz.sizeOf283
 v46:=Tryz.zeroValue283
 t50:=Tryz.underlying287
 a50:=Tryz.isAgg287
 z50:=Tryz.sizeOf287
 v50:=Tryz.zeroValue287
 t53:=Tryz.underlying290
 a53:=Tryz.isAgg290
 z53:=Tryz.sizeOf290
 v53:=Tryz.zeroValue290
 t55:=Tryz.underlying292
 a55:=Tryz.isAgg292
 z55:=Tryz.sizeOf292
 v55:=Tryz.zeroValue292
 t66:=Tryz.underlying318
 a66:=Tryz.isAgg318
 z66:=Tryz.sizeOf318
 v66:=Tryz.zeroValue318
 t70:=Tryz.underlying322
 a70:=Tryz.isAgg322
 z70:=Tryz.sizeOf322
 v70:=Tryz.zeroValue322
 t76:=Tryz.underlying342
 a76:=Tryz.isAgg342
 z76:=Tryz.sizeOf342
 v76:=Tryz.zeroValue342
 t77:=Tryz.underlying343
 a77:=Tryz.isAgg343
 z77:=Tryz.sizeOf343
 v77:=Tryz.zeroValue343 }
end Go.Proofs
namespace Go.Proofs.YtpaiholildedcaaGreat
open Go.RowKit
end Go.Proofs.YtpaiholildedcaaGreat
