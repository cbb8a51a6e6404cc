/- Texts. -/
import Derived.Test.YtfkonhagjahgnaaGreatWTiles3
import Derived.Laws.Bits64b
import Derived.Test.YtfkonhagjahgnaaGreatWTiles4
import Derived.Laws.CopyOwn
import Derived.MapKept
import Derived.Deep.DeepMust
set_option linter.unusedSimpArgs false
set_option linter.unusedVariables false
set_option maxRecDepth 100000
set_option maxHeartbeats 32000000
namespace Go.Proofs.YtfkonhagjahgnaaGreat
open Go.RowKit
def rdFrom (Z : Nat → Int) (n : Nat) : Nat → Nat → Nat → Option (Nat × Nat)
 | 0,_,_ => none
 | f + 1,i,a =>
  if i < n then
   if (Z i).toNat < 128 then
    if (0 < i ∧ (Z i).toNat = 0) ∨ 1099511627776 < a + (Z i).toNat % 128 * 128 ^ i then none else some (a + (Z i).toNat % 128 * 128 ^ i,i + 1)
   else rdFrom Z n f (i + 1) (a + (Z i).toNat % 128 * 128 ^ i)
  else none
def rd (Z : Nat → Int) (n : Nat) : Option (Nat × Nat) := rdFrom Z n 6 0 0
theorem rdFrom_end (Z : Nat → Int) (n f i a : Nat) (h : ¬ i < n) : rdFrom Z n f i a = none := by
 cases f with
 | zero => rfl
 | succ f => unfold rdFrom; rw [if_neg h]
theorem rdFrom_more {Z : Nat → Int} {n f i a z p : Nat} (h : i < n) (hz : Z i = (z : Int)) (h8 : ¬ z < 128) (hp : z % 128 * 128 ^ i = p) : rdFrom Z n (f + 1) i a = rdFrom Z n f (i + 1) (a + p) := by
 subst hp
 rw [rdFrom,if_pos h,hz,Int.toNat_natCast,if_neg h8]
theorem rdFrom_last {Z : Nat → Int} {n f i a z p : Nat} (h : i < n) (hz : Z i = (z : Int)) (h8 : z < 128) (hp : z % 128 * 128 ^ i = p) : rdFrom Z n (f + 1) i a = if (0 < i ∧ z = 0) ∨ 1099511627776 < a + p then none else some (a + p,i + 1) := by
 subst hp
 rw [rdFrom,if_pos h,hz,Int.toNat_natCast,if_pos h8]
theorem rdFrom_bd {Z : Nat → Int} {n : Nat} : ∀ {f i a : Nat} {x : Nat × Nat},rdFrom Z n f i a = some x → x.1 ≤ 1099511627776 ∧ i < x.2 ∧ x.2 ≤ n ∧ x.2 ≤ i + f
 | 0,i,a,x,h => by simp [rdFrom] at h
 | f + 1,i,a,x,h => by
  unfold rdFrom at h
  split at h
  ·split at h
   ·split at h
    ·cases h
    ·rename_i h1 h2 h3
     injection h with h
     subst h
     simp only [not_or,Nat.not_lt] at h3
     refine ⟨h3.2,?_,?_,?_⟩ <;> simp only <;> omega
   ·have := rdFrom_bd h
    omega
  ·cases h
theorem rd_bd {Z : Nat → Int} {n : Nat} {x : Nat × Nat} (h : rd Z n = some x) : x.1 ≤ 1099511627776 ∧ 0 < x.2 ∧ x.2 ≤ n ∧ x.2 ≤ 6 := by
 have := rdFrom_bd h
 omega
theorem pow_bd {k : Nat} (h : k ≤ 5) : 0 < 128 ^ k ∧ 128 ^ k ≤ 34359738368 := ⟨Nat.pow_pos (by omega),Nat.le_trans (Nat.pow_le_pow_right (by omega) h) (by decide)⟩
theorem part_bd {z U : Nat} (hU : U ≤ 34359738368) : z % 128 * U ≤ 127 * U ∧ z % 128 * U ≤ 4363686772736 := by
 have h1 : z % 128 * U ≤ 127 * U := Nat.mul_le_mul_right _ (by omega)
 omega
theorem pow7 (k : Nat) : (2 : Nat) ^ (k * 7) = 128 ^ k := by rw [Nat.mul_comm,Nat.pow_mul]
theorem or_part {a z k : Nat} (ha : a < 128 ^ k) (hk : k ≤ 5) : bits .or .u64 (a : Int) ((z % 128 * 128 ^ k : Nat) : Int) = ((a + z % 128 * 128 ^ k : Nat) : Int) := by
 obtain ⟨h1,h2⟩ := pow_bd hk
 obtain ⟨h3,h4⟩ := part_bd (z := z) h2
 rw [bits_or_u64_nat _ _ (by omega) (by omega)]
 congr 1
 have h := Nat.two_pow_add_eq_or_of_lt (i := k * 7) (b := a) (by rw [pow7]; exact ha) (z % 128)
 rw [pow7] at h
 rw [Nat.or_comm,Nat.mul_comm (z % 128), ← h,Nat.add_comm]
theorem zz_cons_zero (x : Int) (l : List Int) : zz (x :: l) 0 = x := rfl
theorem zz_cons_succ (x : Int) (l : List Int) (i : Nat) : zz (x :: l) (i + 1) = zz l i := by simp [zz]
theorem rdFrom_put {Z : Nat → Int} {n : Nat} : ∀ (f i a m : Nat),(∀ j,j < (putI m).length → Z (i + j) = zz (putI m) j) → i + (putI m).length ≤ n → (putI m).length ≤ f → (0 < i → 0 < m) → a + m * 128 ^ i ≤ 1099511627776 →
  rdFrom Z n f i a = some (a + m * 128 ^ i,i + (putI m).length)
 | 0,i,a,m,_,_,h,_,_ => absurd h (by have := putI_ne m; omega)
 | f + 1,i,a,m,hZ,hn,hf,hi,hb => by
  by_cases hm : m < 128
  ·rw [putI_small hm] at hZ hn ⊢
   have h0 : Z i = (m : Int) := by have := hZ 0 (by simp); simpa [zz] using this
   simp only [List.length_cons,List.length_nil,Nat.zero_add] at hn ⊢
   rw [rdFrom_last (z := m) (by omega) h0 hm rfl]
   have e : m % 128 = m := Nat.mod_eq_of_lt hm
   rw [e,if_neg]
   intro hc
   rcases hc with ⟨h1,h2⟩ | h1
   ·have := hi h1; omega
   ·omega
  ·have hbig := putI_big hm
   have h0 : Z i = ((m % 128 + 128 : Nat) : Int) := by have := hZ 0 (putI_ne m); rw [hbig] at this; simpa [zz] using this
   have hlen : (putI m).length = (putI (m / 128)).length + 1 := by rw [hbig]; simp
   have e1 : (m % 128 + 128) % 128 = m % 128 := by omega
   rw [rdFrom_more (z := m % 128 + 128) (by omega) h0 (by omega) rfl,e1]
   have e2 : a + m % 128 * 128 ^ i + m / 128 * 128 ^ (i + 1) = a + m * 128 ^ i := by
    have h1 : m / 128 * 128 ^ (i + 1) = m / 128 * 128 * 128 ^ i := by rw [Nat.pow_succ,Nat.mul_comm (128 ^ i),Nat.mul_assoc]
    rw [h1,Nat.add_assoc, ← Nat.add_mul]
    congr 2
    omega
   rw [rdFrom_put f (i + 1) (a + m % 128 * 128 ^ i) (m / 128) (fun j hj => ?_) (by omega) (by omega) (fun _ => by omega) (by omega)]
   ·rw [e2,hlen]
    congr 2
    omega
   ·have := hZ (j + 1) (by omega)
    rw [hbig,zz_cons_succ] at this
    rw [← this]
    congr 1
    omega
theorem rd_put {Z : Nat → Int} {n m : Nat} (hZ : ∀ j,j < (putI m).length → Z j = zz (putI m) j) (hn : (putI m).length ≤ n) (hm : m ≤ 1099511627776) : rd Z n = some (m,(putI m).length) := by
 have := rdFrom_put (Z := Z) (n := n) 6 0 0 m (fun j hj => by rw [Nat.zero_add]; exact hZ j hj) (by omega) (putI_len6 m hm) (fun h => absurd h (by omega)) (by simpa using hm)
 unfold rd
 simpa using this
def RestB (w : World) (B : Nat) (a : Option Addr) (n : Nat) (Z : Nat → Int) : Prop := n = 0 ∨ ∃ b off,a = some ⟨b,off,none⟩ ∧ b < B ∧ BsAt w b off n Z
def UpAt (w : World) (p B n : Nat) (Z : Nat → Int) : Prop :=
 ∃ a cap,w.cell? ⟨p,0,none⟩ = some (.slice a n cap) ∧ w.frozen? ⟨p,0,none⟩ = false ∧ n ≤ cap ∧ RestB w B a n Z
def Pan (e : Ending) : Prop := ∃ (u : TypeId) (pv : Value),e = .panicked [{ v := .iface u pv,recovered := false }]
theorem RestB.keeps {w w' : World} {p B n : Nat} {a : Option Addr} {Z : Nat → Int} (h : RestB w B a n Z) (hk : Keeps p w w') (hB : B ≤ p) (hl : B ≤ w.heap.size) : RestB w' B a n Z := by
 rcases h with h | ⟨b,off,e,hb,hz⟩
 ·exact .inl h
 ·exact .inr ⟨b,off,e,hb,fun i hi => (hk.cell (p := ⟨b,off + i,none⟩) (show b < _ by omega) (show b ≠ p by omega)).trans (hz i hi)⟩
theorem RestB.cut {w : World} {B n cap : Nat} {b off : Nat} {Z : Nat → Int} (c : Nat) (hc : c ≤ n) (hcap : n ≤ cap) (h : b < B ∧ BsAt w b off n Z) :
  RestB w B (if cap = c then some ⟨b,off,none⟩ else some ⟨b,off + c,none⟩) (n - c) (fun i => Z (i + c)) := by
 by_cases e : cap = c
 ·exact .inl (by omega)
 ·rw [if_neg e]
  refine .inr ⟨b,off + c,rfl,h.1,fun i hi => ?_⟩
  have := h.2 (i + c) (by omega)
  rwa [show off + c + i = off + (i + c) by omega]
theorem take_none (p B n c : Nat) (Z : Nat → Int) (w : World) (h : UpAt w p B n Z) (hc : n < c) (hmax : n ≤ 1048576) (hcm : c ≤ 1048576) :
  Calls Tryz.prog 113 #[.pointer (some ⟨p,0,none⟩), .int .u64 (c : Int)] w fun e w' => Pan e ∧ w = w' := by
 obtain ⟨a,cap,h0,h1,h2,h3⟩ := h
 have e1 : IntKind.u64.wrap (n : Int) = (n : Int) := by rw [IntKind.wrap_u64]; omega
 have hlt : (n : Int) < (c : Int) := by omega
 clear h3
 go_enter Tryz.func113,Tryz.ntmps113
 go_wp2
 exact ⟨rfl,⟨_,_,rfl⟩,rfl⟩
theorem take_some (p B n c : Nat) (Z : Nat → Int) (w : World) (h : UpAt w p B n Z) (hB : B ≤ p) (hp : p < w.heap.size) (hc : c ≤ n) (hc0 : 0 < c) (hmax : n ≤ 1048576) :
  Calls Tryz.prog 113 #[.pointer (some ⟨p,0,none⟩), .int .u64 (c : Int)] w fun e w' => ∃ g,e = .returned (.slice (some ⟨g,0,none⟩) c c) ∧ w.heap.size ≤ g ∧ g < w'.heap.size ∧ BsAt w' g 0 c Z ∧ UpAt w' p B (n - c) (fun i => Z (i + c)) ∧ Keeps p w w' := by
 obtain ⟨a,cap,h0,h1,h2,h3⟩ := h
 rcases h3 with h3 | ⟨b,off,rfl,hb,hz⟩
 ·omega
 have e1 : IntKind.u64.wrap (n : Int) = (n : Int) := by rw [IntKind.wrap_u64]; omega
 have hlt : ¬ (n : Int) < (c : Int) := by omega
 have hc' : (c : Int) ≤ (n : Int) := by omega
 have hc0' : (0 : Int) ≤ (c : Int) := by omega
 have hmk : ∀ w : World,(Instr.makeSlice 22 (.int .u64 (c : Int)) (.int .u64 (c : Int))).run Tryz.prog w = .ok (.slice (some ⟨w.heap.size,0,none⟩) c c) (w.alloc (.cells (madeCells #[.int .u8 0] c) 5)) := fun w => by
  obtain ⟨i,hi,hz,hs,hb⟩ := info_parts info_u8
  have hr := run_make (P := Tryz.prog) w 22 5 i _ Tryz.underlying22 hi hz .u64 .u64 (c : Int) (c : Int) (by omega) (Int.le_refl _) (by rw [hb]; omega) (by omega)
  simp only [Int.toNat_natCast,hs,Nat.mul_one] at hr
  exact hr
 have HZ : Hid (BsAt w b off n Z) := hz
 obtain ⟨X,hX⟩ : ∃ X : List Value,X = (List.range c).map fun i => .int .u8 (Z i) := ⟨_,rfl⟩
 have HX : Hid (X = (List.range c).map fun i => .int .u8 (Z i)) := hX
 have hXl : X.length = c := by rw [hX]; simp
 have hsz : (Tryz.prog.info? 5).map (·.size) = some 1 := by kernel_rfl
 have HC : Hid (∀ j v,X[j]? = some v → w.cell? ((⟨b,off,none⟩ : Addr).add j) = some v) := fun j v hj => by
  rw [hX] at hj
  simp at hj
  obtain ⟨j',h1,h2⟩ := hj
  obtain ⟨hj1,rfl⟩ : j < c ∧ j = j' := by
   rw [List.getElem?_eq_some_iff] at h1
   obtain ⟨h3,h4⟩ := h1
   simp at h3 h4
   exact ⟨h3,h4⟩
  subst h2
  have e : (⟨b,off,none⟩ : Addr).add j = ⟨b,off + j,none⟩ := by
   unfold Addr.add
   by_cases h : j = 0 <;> simp [h]
  rw [e]
  exact hz j (by omega)
 have HO : Hid (∀ v ∈ X,v.oneCell' = true) := fun v hv => by
  rw [hX] at hv
  simp at hv
  obtain ⟨i,_,rfl⟩ := hv
  rfl
 obtain ⟨M,hM⟩ : ∃ M : List Value,(madeCells #[.int .u8 0] c).toList = M := ⟨_,rfl⟩
 have hMl : M.length = c := by rw [← hM]; simpa using size_madeCells #[.int .u8 0] c
 have hM2 : madeCells #[.int .u8 0] c = M.toArray := by rw [← hM]
 rw [hM2] at hmk
 clear hz hX hM hM2
 obtain ⟨Wc,hcp,HG,hBc⟩ : ∃ Wc,(Builtin.copy_ #[22,22] 3 #[.slice (some ⟨w.heap.size,0,none⟩) c c, .slice (some ⟨b,off,none⟩) n cap]).run Tryz.prog (w.alloc (.cells M.toArray 5)) = .ok (.int .i64 (c : Int)) Wc ∧ Hid (Wc.heap[w.heap.size]? = some (.cells X.toArray 5 (0,0))) ∧ Below w.heap.size w Wc := by
  have hg : (w.alloc (.cells M.toArray 5)).heap[w.heap.size]? = some (.cells M.toArray 5 (0,0)) := (MapKept.heap_alloc w (.cells M.toArray 5)).1
  have hba : Below w.heap.size w (w.alloc (.cells M.toArray 5)) := by (repeat (first|exact Qr _ _|assumption|refine Qd ?_|refine Qa ?_ _|refine Qt ?_|refine Qs ?_ _|refine Qo ?_ ?_ _ _))
  have hr := run_copy_row (P := Tryz.prog) (w.alloc (.cells M.toArray 5)) 22 22 3 5 w.heap.size 0 c c ⟨b,off,none⟩ n cap M.toArray 5 X Tryz.underlying22 hsz hg (by rw [hXl]; exact (Nat.min_eq_right hc).symm) (fun j v hj => bl_cellB hba (HC.out j v hj)) (by simp [hXl,hMl]) HO.out
  have e : (M.toArray.toList.take 0 ++ X ++ M.toArray.toList.drop (0 + X.length)).toArray = X.toArray := by
   simp only [List.take_zero,List.nil_append,Nat.zero_add]
   rw [List.drop_eq_nil_of_le (by simp [hXl,hMl]),List.append_nil]
  rw [e] at hr
  refine ⟨_,by rw [hr,hXl]; rfl,setRow_heap _ _ _ _ _ _ hg,below_setRow hba (Nat.le_refl _) _⟩
 have hlc : w.heap.size < Wc.heap.size := by
  rcases Nat.lt_or_ge w.heap.size Wc.heap.size with h | h
  ·exact h
  ·have := HG.out; rw [Array.getElem?_eq_none h] at this; cases this
 have k0 : Wc.cell? ⟨p,0,none⟩ = some (.slice (some ⟨b,off,none⟩) n cap) := (hBc.cell (p := ⟨p,0,none⟩) hp).trans h0
 have k1 : Wc.frozen? ⟨p,0,none⟩ = false := (hBc.frozen (p := ⟨p,0,none⟩) hp).trans h1
 have HBc : Hid (Below w.heap.size w Wc) := hBc
 clear hBc HC HO
 go_enter Tryz.func113,Tryz.ntmps113
 have fin : Hid (∀ a' cap',n - c ≤ cap' → RestB Wc B a' (n - c) (fun i => Z (i + c)) → ∃ g,Ending.returned (.slice (some ⟨w.heap.size,0,none⟩) c c) = .returned (.slice (some ⟨g,0,none⟩) c c) ∧ w.heap.size ≤ g ∧ g < (Wc.setCell ⟨p,0,none⟩ (.slice a' (n - c) cap')).heap.size ∧ BsAt (Wc.setCell ⟨p,0,none⟩ (.slice a' (n - c) cap')) g 0 c Z ∧ UpAt (Wc.setCell ⟨p,0,none⟩ (.slice a' (n - c) cap')) p B (n - c) (fun i => Z (i + c)) ∧ Keeps p w (Wc.setCell ⟨p,0,none⟩ (.slice a' (n - c) cap'))) := fun a' cap' hcap' hR => by
  refine ⟨w.heap.size,rfl,Nat.le_refl _,by simpa using hlc,fun i hi => ?_,⟨a',cap',World.cell?_setCell_same _ _ _ k0,by rw [World.frozen?_setCell]; exact k1,hcap',hR.keeps ((Keeps.refl p Wc).set 0 _) hB (by omega)⟩,(Keeps.of_below HBc.out).set 0 _⟩
  rw [World.cell?_setCell_other]
  ·have := HG.out
   simp only [World.cell?,this,Nat.zero_add]
   rw [HX.out]
   simp [hi]
  ·simp <;> omega
 go_wp2
 ·go_ret
  exact fin.out _ _ (by omega) (.inl (by omega))
 ·go_ret
  refine fin.out _ _ (by omega) ?_
  have h3 := RestB.cut (w := Wc) (B := B) (n := n) (cap := cap) (b := b) (off := off) (Z := Z) c hc h2 ⟨hb,HZ.out.below HBc.out (by omega)⟩
  rwa [if_neg (by assumption)] at h3
theorem There.keeps {s r n : Nat} {w w' : World} (h : There w r n) (k : Keeps s w w') (hs : r ≠ s) : There w' r n := fun o ho => by
 obtain ⟨u,hu⟩ := (h o ho).1
 have hl := World.block_lt_of_cell? _ _ hu
 exact ⟨⟨u,(k.cell (p := ⟨r,o,none⟩) hl hs).trans hu⟩,(k.frozen (p := ⟨r,o,none⟩) hl hs).trans (h o ho).2⟩
theorem Src.other {a : Option Addr} {n cap : Nat} {Z : Nat → Int} {s t r : Nat} {w : World} (h : Src a n cap Z s t w) (o : Nat) (v : Value) (hr : s < r) : Src a n cap Z s t (w.setCell ⟨r,o,none⟩ v) := by
 have ne : ∀ k o',k ≤ s → (⟨r,o,none⟩ : Addr) ≠ ⟨k,o',none⟩ := fun k o' hk e => by injection e with e; omega
 refine ⟨?_,?_,?_,?_,h.rng,h.max⟩
 ·rw [World.cell?_setCell_other]
  ·exact h.code
  ·exact ne _ _ (Nat.le_refl _)
 ·rw [World.cell?_setCell_other]
  ·exact h.at'
  ·exact ne _ _ (Nat.le_refl _)
 ·rw [World.frozen?_setCell]; exact h.wr
 ·rcases h.bytes with h0 | ⟨b,off,e,hs,hz⟩
  ·exact .inl h0
  ·refine .inr ⟨b,off,e,hs,fun i hi => ?_⟩
   rw [World.cell?_setCell_other]
   ·exact hz i hi
   ·exact ne _ _ (by omega)
theorem Keeps.own1 {s r : Nat} {w w' : World} (h : Keeps s w w') (hr : w.heap.size ≤ r) (o : Nat) (v : Value) : Keeps s w (w'.setCell ⟨r,o,none⟩ v) := by
 have hb : Below r w' (w'.setCell ⟨r,o,none⟩ v) := (Below.refl r w').setCell (Nat.le_refl _) v
 exact ⟨hb.os.trans h.os,hb.tape.trans h.tape,hb.output.trans h.output,Nat.le_trans h.size hb.size,fun k hk hs => (hb.block k (by omega)).trans (h.block k hk hs)⟩
theorem l1Pick_any (a : Option Addr) (n cap : Nat) (Z : Nat → Int) (s t L k : Nat) (V : Nat → Int) (w : World) (h : Src a n cap Z s t w) (hcap : n ≤ cap) (ht : t ≤ 900) (hk : 0 < k) (hk9 : k ≤ 10)
  (hL : L ≠ s) (hV : ∀ i,i < k → w.cell? ⟨L,i,none⟩ = some (.int .i64 (V i))) :
  Calls Tryz.prog 40 #[.pointer (some ⟨s,0,none⟩), .slice (some ⟨L,0,none⟩) k k] w fun e w' => ∃ x : Int,e = .returned (.int .i64 x) ∧ Src a n cap Z s (t + 1) w' ∧ Keeps s w w' := by
 have HS : Hid (Src a n cap Z s t w) := h
 have HV : Hid (∀ i,i < k → w.cell? ⟨L,i,none⟩ = some (.int .i64 (V i))) := hV
 clear h hV
 go_enter Tryz.func40,Tryz.ntmps40
 go_wp2_with fail
 refine (l1Next_any a n cap Z s t k _ HS.out hcap (by omega) hk (by omega)).mono ?_
 rintro e w1 ⟨v,rfl,hv,hS1,hK1⟩
 have hc := (hK1.cell (p := ⟨L,v,none⟩) (World.block_lt_of_cell? _ _ (HV.out v hv)) hL).trans (HV.out v hv)
 have hvi : (v : Int) < (k : Int) := by omega
 have HS1 : Hid (Src a n cap Z s (t + 1) w1) := hS1
 have HK1 : Hid (Keeps s w w1) := hK1
 clear hS1 hK1
 go_wp2
 go_ret
 exact ⟨_,rfl,HS1.out,HK1.out⟩
theorem l1Pick_new4 (a : Option Addr) (n cap : Nat) (Z : Nat → Int) (s t : Nat) (x0 x1 x2 x3 : Int) (w : World) (T : TypeId) (h : Src a n cap Z s t w) (hcap : n ≤ cap) (ht : t ≤ 900) :
  Calls Tryz.prog 40 #[.pointer (some ⟨s,0,none⟩), .slice (some ⟨w.heap.size,0,none⟩) 4 4] (w.alloc (.cells #[.int .i64 x0, .int .i64 x1, .int .i64 x2, .int .i64 x3] T)) fun e w' => ∃ x : Int,e = .returned (.int .i64 x) ∧ Src a n cap Z s (t + 1) w' ∧ Keeps s w w' := by
 have hsl : s < w.heap.size := World.block_lt_of_cell? _ _ h.code
 have hb : Below w.heap.size w (w.alloc (.cells #[.int .i64 x0, .int .i64 x1, .int .i64 x2, .int .i64 x3] T)) := by (repeat (first|exact Qr _ _|assumption|refine Qd ?_|refine Qa ?_ _|refine Qt ?_|refine Qs ?_ _|refine Qo ?_ ?_ _ _))
 refine (l1Pick_any a n cap Z s t w.heap.size 4 (fun i => if i = 0 then x0 else if i = 1 then x1 else if i = 2 then x2 else x3) _ (h.below hb) hcap ht (by omega) (by omega) (by omega) (fun i hi => ?_)).mono ?_
 ·have hc : i = 0 ∨ i = 1 ∨ i = 2 ∨ i = 3 := by omega
  rcases hc with rfl | rfl | rfl | rfl <;> simp [go_sem]
 ·rintro e w' ⟨x,rfl,hS,hK⟩
  exact ⟨x,rfl,hS,(Keeps.of_below hb).trans hK⟩
theorem l1Draw_any (a : Option Addr) (n cap : Nat) (Z : Nat → Int) (s t : Nat) (w : World) (h : Src a n cap Z s t w) (hcap : n ≤ cap) (ht : t ≤ 800) :
  Calls Tryz.prog 119 #[.pointer (some ⟨s,0,none⟩)] w fun e w' => ∃ x y : Int,e = .returned (.agg #[.int .i64 x, .int .i64 y]) ∧ Src a n cap Z s (t + 6) w' ∧ Keeps s w w' := by
 have hsl : s < w.heap.size := World.block_lt_of_cell? _ _ h.code
 go_enter Tryz.func119,Tryz.ntmps119
 go_wp2_with fail
 generalize hW : (w.alloc _ : World) = W
 have hB0 : Below w.heap.size w W := by subst hW; (repeat (first|exact Qr _ _|assumption|refine Qd ?_|refine Qa ?_ _|refine Qt ?_|refine Qs ?_ _|refine Qo ?_ ?_ _ _))
 have hT0 : There W w.heap.size 2 := fun o ho => by
  subst hW
  have hc : o = 0 ∨ o = 1 := by omega
  rcases hc with rfl | rfl <;> exact ⟨⟨_,by simp [go_sem]; rfl⟩,by simp [go_sem]⟩
 clear hW
 have HS0 : Hid (Src a n cap Z s t W) := h.below hB0
 have HK0 : Hid (Keeps s w W) := Keeps.of_below hB0
 have HT0 : Hid (There W w.heap.size 2) := hT0
 clear h hB0 hT0
 refine (l1Next_any a n cap Z s t 1025 _ HS0.out hcap (by omega) (by omega) (by omega)).mono ?_
 rintro e w1 ⟨v1,rfl,hv1,hS1,hK1⟩
 have HS1 : Hid (Src a n cap Z s (t + 1) w1) := hS1
 have HK1 : Hid (Keeps s w w1) := HK0.out.trans hK1
 have HT1 : Hid (There w1 w.heap.size 2) := HT0.out.keeps hK1 (by omega)
 clear hS1 hK1 HS0 HK0 HT0
 go_wp2_with fail
 refine (l1Next_any a n cap Z s (t + 1) 20 _ HS1.out hcap (by omega) (by omega) (by omega)).mono ?_
 rintro e w2 ⟨v2,rfl,hv2,hS2,hK2⟩
 have HS2 : Hid (Src a n cap Z s (t + 2) w2) := hS2
 have HK2 : Hid (Keeps s w w2) := HK1.out.trans hK2
 have HT2 : Hid (There w2 w.heap.size 2) := HT1.out.keeps hK2 (by omega)
 have hs2 : s < w2.heap.size := World.block_lt_of_cell? _ _ hS2.code
 clear hS2 hK2 HS1 HK1 HT1
 go_wp2_with fail
 refine (l1Pick_new4 a n cap Z s (t + 2) _ _ _ _ _ _ HS2.out hcap (by omega)).mono ?_
 rintro e w3 ⟨x,rfl,hS3,hK3⟩
 have HS3 : Hid (Src a n cap Z s (t + 3) w3) := hS3
 have HK3 : Hid (Keeps s w w3) := HK2.out.trans hK3
 have HT3 : Hid (There w3 w.heap.size 2) := HT2.out.keeps hK3 (by omega)
 clear hS3 hK3 HS2 HK2 HT2
 go_wp2_with fail
 refine (l1Next_any a n cap Z s (t + 3) 1025 _ HS3.out hcap (by omega) (by omega) (by omega)).mono ?_
 rintro e w4 ⟨v4,rfl,hv4,hS4,hK4⟩
 have HS4 : Hid (Src a n cap Z s (t + 4) w4) := hS4
 have HK4 : Hid (Keeps s w w4) := HK3.out.trans hK4
 have HT4 : Hid (There w4 w.heap.size 2) := HT3.out.keeps hK4 (by omega)
 clear hS4 hK4 HS3 HK3 HT3
 go_wp2_with fail
 refine (l1Next_any a n cap Z s (t + 4) 20 _ HS4.out hcap (by omega) (by omega) (by omega)).mono ?_
 rintro e w5 ⟨v5,rfl,hv5,hS5,hK5⟩
 have HS5 : Hid (Src a n cap Z s (t + 5) w5) := hS5
 have HK5 : Hid (Keeps s w w5) := HK4.out.trans hK5
 have HT5 : Hid (There w5 w.heap.size 2) := HT4.out.keeps hK5 (by omega)
 clear hS5 hK5 HS4 HK4 HT4
 go_wp2_with fail
 refine (l1Pick_new4 a n cap Z s (t + 5) _ _ _ _ _ _ HS5.out hcap (by omega)).mono ?_
 rintro e w6 ⟨y,rfl,hS6,hK6⟩
 have HK6 : Hid (Keeps s w w6) := HK5.out.trans hK6
 have hT6 : There w6 w.heap.size 2 := HT5.out.keeps hK6 (by omega)
 have HS6 : Hid (Src a n cap Z s (t + 6) w6) := hS6
 have HT6 : Hid (There w6 w.heap.size 2) := hT6
 have t0 := hT6.cell 0 (by omega)
 have t1 := hT6.cell 1 (by omega)
 have f0 := (hT6 0 (by omega)).2
 have f1 := (hT6 1 (by omega)).2
 clear hS6 hK6 HS5 HK5 HT5 hT6
 go_wp2
 refine bodyPost_ret (v := .agg #[.int .i64 x, .int .i64 y]) (by simp [results,Tryz.results119,go_sem,set2_0 (Option.isSome_iff_exists.2 ⟨_,t0⟩),set2_1 (Option.isSome_iff_exists.2 ⟨_,t1⟩)]) rfl ⟨x,y,rfl,?_,?_⟩
 ·exact (HS6.out.other _ _ hsl).other _ _ hsl
 ·exact (HK6.out.own1 (Nat.le_refl _) _ _).own1 (Nat.le_refl _) _ _
end Go.Proofs.YtfkonhagjahgnaaGreat
