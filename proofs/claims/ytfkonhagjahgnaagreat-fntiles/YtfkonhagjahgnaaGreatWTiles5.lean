/- Texts. -/
import Derived.WalkKit
import Derived.Deep.RegionLawGrows
import Derived.OwnWalk
import Derived.Shelf.SlSortCmp.NoneTotal
import Derived.Shelf.SlGeneric
import Derived.Ground.SlsfProg
import Derived.Test.YtfkonhagjahgnaaGreatRows
set_option linter.unusedSimpArgs false
set_option linter.unusedVariables false
set_option maxRecDepth 100000
set_option maxHeartbeats 32000000
namespace Go.Proofs.YtfkonhagjahgnaaGreat
open Go.RowKit
def scanC (c : Nat → Int) : Nat → Nat → Int
 | _,0 => 0
 | i,k + 1 => if c i ≠ 0 then c i else scanC c (i + 1) k
theorem scan_first (c : Nat → Int) : ∀ (m i k : Nat),(∀ j,i ≤ j → j < k → c j = 0) → i ≤ k → k < i + m → c k ≠ 0 → scanC c i m = c k
 | 0,i,k,_,h1,h2,_ => by omega
 | m + 1,i,k,h,h1,h2,hne => by
  rw [scanC]
  by_cases e : i = k
  ·subst e; rw [if_pos hne]
  ·rw [if_neg (by rw [h i (Nat.le_refl _) (by omega)]; simp)]
   exact scan_first c m (i + 1) k (fun j hj => h j (by omega)) (by omega) (by omega) hne
theorem scan_none (c : Nat → Int) : ∀ (m i : Nat),(∀ j,i ≤ j → j < i + m → c j = 0) → scanC c i m = 0
 | 0,_,_ => rfl
 | m + 1,i,h => by
  rw [scanC,if_neg (by rw [h i (Nat.le_refl _) (by omega)]; simp)]
  exact scan_none c m (i + 1) (fun j hj hj' => h j (by omega) (by omega))
theorem scan_congr (c d : Nat → Int) : ∀ (m i : Nat),(∀ j,i ≤ j → j < i + m → c j = d j) → scanC c i m = scanC d i m
 | 0,_,_ => rfl
 | m + 1,i,h => by
  rw [scanC,scanC,h i (Nat.le_refl _) (by omega),scan_congr c d m (i + 1) (fun j hj hj' => h j (by omega) (by omega))]
theorem scan_zero (c : Nat → Int) : ∀ (m i : Nat),scanC c i m = 0 → ∀ j,i ≤ j → j < i + m → c j = 0
 | 0,i,_,j,h1,h2 => by omega
 | m + 1,i,h,j,h1,h2 => by
  rw [scanC] at h
  by_cases hc : c i ≠ 0
  ·rw [if_pos hc] at h; exact absurd h hc
  ·rw [if_neg hc] at h
   by_cases e : j = i
   ·subst e; simpa using hc
   ·exact scan_zero c m (i + 1) h j (by omega) (by omega)
def ltK (L I : Nat → Int) (i j : Nat) : Bool := decide (L i < L j) || (decide (L i = L j) && decide (I i < I j))
theorem ltK_iff (L I : Nat → Int) (i j : Nat) : ltK L I i j = true ↔ L i < L j ∨ (L i = L j ∧ I i < I j) := by simp [ltK]
theorem ltK_no (L I : Nat → Int) (i j : Nat) : ltK L I i j = false ↔ ¬ (L i < L j ∨ (L i = L j ∧ I i < I j)) := by
  rw [← ltK_iff]; simp
def insK (L I : Nat → Int) (i : Nat) : List Nat → List Nat
  | [] => [i]
  | j :: r => if ltK L I j i = true then j :: insK L I i r else i :: j :: r
def srtK (L I : Nat → Int) : Nat → List Nat
  | 0 => []
  | n + 1 => insK L I n (srtK L I n)
theorem insK_perm (L I : Nat → Int) (i : Nat) : ∀ l, (insK L I i l).Perm (i :: l)
  | [] => .refl _
  | j :: r => by
    rw [insK]
    split
    · exact ((insK_perm L I i r).cons j).trans (.swap i j r)
    · exact .refl _
theorem srtK_perm (L I : Nat → Int) : ∀ n, (srtK L I n).Perm (List.range n)
  | 0 => .refl _
  | n + 1 => by
    rw [srtK, List.range_succ]
    exact (insK_perm L I n _).trans (((srtK_perm L I n).cons n).trans (List.perm_append_singleton n _).symm)
theorem srtK_len (L I : Nat → Int) (n : Nat) : (srtK L I n).length = n := by simpa using (srtK_perm L I n).length_eq
theorem srtK_mem (L I : Nat → Int) (n i : Nat) : i ∈ srtK L I n ↔ i < n := by rw [(srtK_perm L I n).mem_iff]; simp
def apartK (I : Nat → Int) (n : Nat) : Prop := ∀ i j, i < n → j < n → I i = I j → i = j
theorem insK_sorted (L I : Nat → Int) (i : Nat) : ∀ l : List Nat, l.Pairwise (fun a b => ltK L I a b = true) → (∀ j ∈ l, I j ≠ I i) → (insK L I i l).Pairwise (fun a b => ltK L I a b = true)
  | [], _, _ => by simp [insK]
  | j :: r, h, hd => by
    rw [List.pairwise_cons] at h
    rw [insK]
    split
    · rename_i hji
      rw [List.pairwise_cons]
      refine ⟨fun x hx => ?_, insK_sorted L I i r h.2 (fun x hx => hd x (List.mem_cons_of_mem _ hx))⟩
      rcases List.mem_cons.1 ((insK_perm L I i r).mem_iff.1 hx) with rfl | hx
      · exact hji
      · exact h.1 x hx
    · rename_i hji
      have hij : ltK L I i j = true := by
        have hne := hd j (List.mem_cons_self ..)
        rw [ltK_iff] at hji ⊢
        omega
      refine List.pairwise_cons.2 ⟨fun x hx => ?_, List.pairwise_cons.2 h⟩
      rcases List.mem_cons.1 hx with rfl | hx
      · exact hij
      · have := h.1 x hx
        rw [ltK_iff] at this hij ⊢
        omega
theorem srtK_sorted (L I : Nat → Int) : ∀ n, apartK I n → (srtK L I n).Pairwise (fun a b => ltK L I a b = true)
  | 0, _ => by simp [srtK]
  | n + 1, h => by
    rw [srtK]
    refine insK_sorted L I n _ (srtK_sorted L I n (fun i j hi hj e => h i j (by omega) (by omega) e)) (fun j hj e => ?_)
    have hj' := (srtK_mem L I n j).1 hj
    have := h j n (by omega) (by omega) e
    omega
theorem srtK_unique (L I : Nat → Int) (n : Nat) (h : apartK I n) (l : List Nat) (hp : l.Perm (List.range n)) (hs : l.Pairwise (fun a b => ltK L I b a = false)) : l = srtK L I n := by
  refine List.Perm.eq_of_pairwise (le := fun a b => ltK L I b a = false) (fun a b ha hb h1 h2 => ?_) hs ((srtK_sorted L I n h).imp (fun {a b} hab => ?_)) (hp.trans (srtK_perm L I n).symm)
  · have ha' : a < n := by simpa using hp.mem_iff.1 ha
    have hb' := (srtK_mem L I n b).1 hb
    rw [ltK_no] at h1 h2
    exact h a b ha' hb' (by omega)
  · rw [ltK_iff] at hab
    rw [ltK_no]
    omega
theorem ltK_congr {L I L' I' : Nat → Int} {i j : Nat} (h1 : L i = L' i) (h2 : L j = L' j) (h3 : I i = I' i) (h4 : I j = I' j) : ltK L I i j = ltK L' I' i j := by
  unfold ltK; rw [h1, h2, h3, h4]
theorem insK_congr {L I L' I' : Nat → Int} {i : Nat} : ∀ l : List Nat, (∀ j, (j = i ∨ j ∈ l) → L j = L' j ∧ I j = I' j) → insK L I i l = insK L' I' i l
  | [], _ => rfl
  | j :: r, h => by
    obtain ⟨a1, a2⟩ := h j (.inr (List.mem_cons_self ..))
    obtain ⟨b1, b2⟩ := h i (.inl rfl)
    rw [insK, insK, ltK_congr a1 b1 a2 b2, insK_congr r (fun k hk => h k (hk.imp id (List.mem_cons_of_mem _)))]
theorem srtK_congr {L I L' I' : Nat → Int} : ∀ n : Nat, (∀ j, j < n → L j = L' j ∧ I j = I' j) → srtK L I n = srtK L' I' n
  | 0, _ => rfl
  | n + 1, h => by
    rw [srtK, srtK, srtK_congr n (fun j hj => h j (by omega))]
    refine insK_congr _ (fun j hj => ?_)
    rcases hj with rfl | hj
    · exact h j (by omega)
    · exact h j (by have := (srtK_mem L' I' n j).1 hj; omega)
theorem insK_at (L I : Nat → Int) (i : Nat) : ∀ (l : List Nat) (k : Nat), k ≤ l.length → (∀ j, j < k → ltK L I (l.getD j 0) i = true) → (k = l.length ∨ ltK L I (l.getD k 0) i = false) → insK L I i l = l.take k ++ i :: l.drop k
  | [], k, hk, _, _ => by have : k = 0 := by simpa using hk
                          subst this; rfl
  | j :: r, 0, _, _, h2 => by
    have h3 : ltK L I j i = false := by simpa using h2
    rw [insK, if_neg (by simp [h3])]; rfl
  | j :: r, k + 1, hk, h1, h2 => by
    have h3 : ltK L I j i = true := by simpa using h1 0 (by omega)
    rw [insK, if_pos h3, insK_at L I i r k (by simpa using hk) (fun q hq => by simpa using h1 (q + 1) (by omega)) (by simpa using h2)]
    rfl
end Go.Proofs.YtfkonhagjahgnaaGreat
namespace Go.Proofs.YtfkonhagjahgnaaGreat
open Go
theorem step_append_own {P : Program} {ops : Array Oper} {o : Oper} {a : Act} {w : World} {K : Act → World → Prop} {Q : Exit → Act → World → Prop} {E : Prop}
  (hg : o.guard = none) (s x : Operand) (t : TypeId) (hop : o.op = Op.call { callee := Callee.builtin Builtin.append,args := #[s,x],argTypes := #[t,t] })
  (base : Nat) (e : TypeId) (i : TypeInfo) (z : Value) (size bytes : Nat) (h1 : P.underlying t = some (.slice e)) (h2 : P.info? e = some i) (h3 : i.zero = some z) (h4 : i.size = size) (h5 : i.bytes = bytes) (h6 : z.cells.size = size) (h7 : 0 < size)
  (v : Value) (n : Nat) (xs : List Value) (hs : a.eval s = v) (hown : w.ownsRow base e size v n xs)
  (ad : Addr) (m c : Nat) (news : List Value) (hx : a.eval x = .slice (some ad) m c) (hn : news.length = m * size) (hc : ∀ j u,news[j]? = some u → w.cell? (ad.add j) = some u) (h1c : ∀ u ∈ news,u.oneCell' = true)
  (b1 : n + m ≤ maxLen) (b2 : (n + m) * bytes ≤ 140737488355328) (hbase : base ≤ w.heap.size)
  (hK : ∀ v' w',w'.ownsRow base e size v' (n + m) (xs ++ news) → w.grownBy w' v.ownBlock → (v' = .slice none 0 0 ↔ v = .slice none 0 0 ∧ m = 0) → K (a.put o.dst v') w') :
  if Region.wanted o (yielded ops a.tmps) = true then Oper.wp P o a w K Q else E := by
 have hw : Region.wanted o (yielded ops a.tmps) = true := by simp [Region.wanted,hg]
 rw [if_pos hw]
 obtain ⟨v',w',hrun,r1,r2,r3⟩ := run_append_own (P := P) w base t o.type e i z size bytes h1 h2 h3 h4 h5 h6 h7 v n xs hown ad m c news hn hc h1c b1 b2 hbase
 unfold Oper.wp
 simp [execOp,hop,resolve,invoke,builtin,hs,hx,hrun,Result.andThen]
 exact hK v' w' r1 r2 r3
end Go.Proofs.YtfkonhagjahgnaaGreat
namespace Go.Proofs.YtfkonhagjahgnaaGreat
open Go.RowKit
end Go.Proofs.YtfkonhagjahgnaaGreat
namespace Go.Proofs
open Go.Shelf
def Tryz.sortF_ren : Go.Shelf.Ren := ⟨fun | 6 => 45 | 15 => 86 | 14 => 85 | 28 => 128 | 29 => 129 | 20 => 120 | 21 => 121 | 22 => 122 | 23 => 123 | 24 => 124 | 25 => 125 | 26 => 126 | 27 => 127 | 46 => 153 | 47 => 154 | 48 => 155 | 49 => 156 | 50 => 157 | 57 => 166 | n => n,fun | 22 => 24 | 24 => 39 | 25 => 90 | 3 => 3 | 39 => 99 | 0 => 0 | 53 => 175 | 55 => 108 | 4 => 4 | 46 => 168 | 45 => 167 | 50 => 172 | 5 => 5 | 9 => 9 | 66 => 198 | 70 => 201 | 76 => 217 | 77 => 218 | n => n,fun | n => n⟩
theorem Tryz.sortF : Go.Proofs.SlLaysF0.n6 Tryz.prog Tryz.sortF_ren := {
 mixed := by kernel_rfl
 f6 := ⟨Tryz.f45.name,by decide,Tryz.func45.trans (congrArg some (by kernel_rfl))⟩
 f14 := ⟨Tryz.f85.name,by decide,Tryz.func85.trans (congrArg some (by kernel_rfl))⟩
 f15 := Tryz.func86.trans (congrArg some (by kernel_rfl))
 f20 := ⟨Tryz.f120.name,by decide,Tryz.func120.trans (congrArg some (by kernel_rfl))⟩
 f21 := ⟨Tryz.f121.name,by decide,Tryz.func121.trans (congrArg some (by kernel_rfl))⟩
 f22 := ⟨Tryz.f122.name,by decide,Tryz.func122.trans (congrArg some (by kernel_rfl))⟩
 f23 := ⟨Tryz.f123.name,by decide,Tryz.func123.trans (congrArg some (by kernel_rfl))⟩
 f24 := ⟨Tryz.f124.name,by decide,Tryz.func124.trans (congrArg some (by kernel_rfl))⟩
 f25 := ⟨Tryz.f125.name,by decide,Tryz.func125.trans (congrArg some (by kernel_rfl))⟩
 f26 := ⟨Tryz.f126.name,by decide,Tryz.func126.trans (congrArg some (by kernel_rfl))⟩
 f27 := ⟨Tryz.f127.name,by decide,Tryz.func127.trans (congrArg some (by kernel_rfl))⟩
 f28 := Tryz.func128.trans (congrArg some (by kernel_rfl))
 f29 := Tryz.func129.trans (congrArg some (by kernel_rfl))
 f46 := ⟨Tryz.f153.name,by decide,Tryz.func153.trans (congrArg some (by kernel_rfl))⟩
 f47 := Tryz.func154.trans (congrArg some (by kernel_rfl))
 f48 := Tryz.func155.trans (congrArg some (by kernel_rfl))
 f49 := ⟨Tryz.f156.name,by decide,Tryz.func156.trans (congrArg some (by kernel_rfl))⟩
 f50 := ⟨Tryz.f157.name,by decide,Tryz.func157.trans (congrArg some (by kernel_rfl))⟩
 f57 := ⟨Tryz.f166.name,by decide,Tryz.func166.trans (congrArg some (by kernel_rfl))⟩
 t0 := Tryz.underlying0
 a0 := Tryz.isAgg0
 z0 := Tryz.sizeOf0
 v0 := Tryz.zeroValue0
 t3 := Tryz.underlying3
 a3 := Tryz.isAgg3
 z3 := Tryz.sizeOf3
 v3 := Tryz.zeroValue3
 t4 := Tryz.underlying4
 a4 := Tryz.isAgg4
 z4 := Tryz.sizeOf4
 v4 := Tryz.zeroValue4
 t5 := Tryz.underlying5
 a5 := Tryz.isAgg5
 z5 := Tryz.sizeOf5
 v5 := Tryz.zeroValue5
 t9 := Tryz.underlying9
 a9 := Tryz.isAgg9
 z9 := Tryz.sizeOf9
 v9 := Tryz.zeroValue9
 t22 := Tryz.underlying24
 a22 := Tryz.isAgg24
 z22 := Tryz.sizeOf24
 v22 := Tryz.zeroValue24
 t25 := Tryz.underlying90
 a25 := Tryz.isAgg90
 z25 := Tryz.sizeOf90
 v25 := Tryz.zeroValue90
 t39 := Tryz.underlying99
 a39 := Tryz.isAgg99
 z39 := Tryz.sizeOf99
 v39 := Tryz.zeroValue99
 t45 := Tryz.underlying167
 a45 := Tryz.isAgg167
 z45 := Tryz.sizeOf167
 v45 := Tryz.zeroValue167
 t46 := Tryz.underlying168
 a46 := Tryz.isAgg168
 z46 := Tryz.sizeOf168
 v46 := Tryz.zeroValue168
 t50 := Tryz.underlying172
 a50 := Tryz.isAgg172
 z50 := Tryz.sizeOf172
 v50 := Tryz.zeroValue172
 t53 := Tryz.underlying175
 a53 := Tryz.isAgg175
 z53 := Tryz.sizeOf175
 v53 := Tryz.zeroValue175
 t55 := Tryz.underlying108
 a55 := Tryz.isAgg108
 z55 := Tryz.sizeOf108
 v55 := Tryz.zeroValue108
 t66 := Tryz.underlying198
 a66 := Tryz.isAgg198
 z66 := Tryz.sizeOf198
 v66 := Tryz.zeroValue198
 t70 := Tryz.underlying201
 a70 := Tryz.isAgg201
 z70 := Tryz.sizeOf201
 v70 := Tryz.zeroValue201
 t76 := Tryz.underlying217
 a76 := Tryz.isAgg217
 z76 := Tryz.sizeOf217
 v76 := Tryz.zeroValue217
 t77 := Tryz.underlying218
 a77 := Tryz.isAgg218
 z77 := Tryz.sizeOf218
 v77 := Tryz.zeroValue218 }
end Go.Proofs
namespace Go.Proofs.YtfkonhagjahgnaaGreat
open Go.RowKit
end Go.Proofs.YtfkonhagjahgnaaGreat
