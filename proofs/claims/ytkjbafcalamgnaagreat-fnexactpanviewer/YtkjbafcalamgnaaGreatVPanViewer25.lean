/- Texts. -/
import Derived.Test.YtkjbafcalamgnaaGreatVPanViewer24
import Derived.Test.YtkjbafcalamgnaaGreatVPanViewer23
set_option linter.unusedSimpArgs false
set_option linter.unusedVariables false
set_option maxRecDepth 100000
set_option maxHeartbeats 32000000
namespace Go.Proofs.YtkjbafcalamgnaaGreat
open Go.RowKit
def zTh (z : Int) (s : Shp) : List Value := [.int .i64 s.id, .func (.func (byF s.ki)) #[] #[], .slice (some ⟨s.g, 0, none⟩) s.n s.cg, .int .i64 (yX s.wi z)]
def uX (z : Int) (S : Nat → Shp) : Nat → List Value
 | 0 => []
 | k + 1 => uX z S k ++ zTh z (S k)
theorem zCe (z : Int) (S : Nat → Shp) : ∀ k, (uX z S k).length = k * 4
 | 0 => rfl
 | k + 1 => by rw [uX, List.length_append, zCe z S k]; simp [zTh]; omega
theorem zHj (z : Int) (S : Nat → Shp) : ∀ (k i j : Nat), i < k → j < 4 → (uX z S k)[i * 4 + j]? = (zTh z (S i))[j]?
 | k + 1, i, j, hi, hj => by
  rw [uX]
  by_cases e : i = k
  ·subst e
   rw [List.getElem?_append_right (by rw [zCe]; omega), zCe]
   congr 1
   omega
  ·rw [List.getElem?_append_left (by rw [zCe]; omega)]
   exact zHj z S k i j (by omega) hj
theorem zFb {z : Int} {S S' : Nat → Shp} : ∀ {k : Nat}, (∀ i, i < k → S i = S' i) → uX z S k = uX z S' k
 | 0, _ => rfl
 | k + 1, h => by rw [uX, uX, zFb (fun i hi => h i (by omega)), h k (by omega)]
def zU7 (base : Nat) (w : World) (v : Value) (k : Nat) (z : Int) (S : Nat → Shp) : Prop := w.ownsRow base 254 4 v k (uX z S k)
def zLz (s : Shp) (f : yB) : Prop := s.id = f.id ∧ s.ki = f.ki ∧ s.wi = f.wi ∧ s.n = f.n ∧ s.X = f.X ∧ s.Y = f.Y
theorem zU7.src {base k : Nat} {w : World} {v : Value} {z : Int} {S : Nat → Shp} (h : zU7 base w v k z S) (hk : k = 0 → v = .slice none 0 0) (hP : ∀ i, i < k → zNx w w.heap.size (S i)) : zXh w.heap.size w v k z S := by
 by_cases h0 : k = 0
 ·exact .inl ⟨hk h0, h0⟩
 ·obtain ⟨h1, h2 | ⟨g, cp, cur, hv, hg, hh, hkc, hcm, hcs, htk⟩⟩ := id h
  ·exact absurd h2.2 h0
  ·have hgl : g < w.heap.size := yT hh
   subst hv
   have hrow : w.ownsRow base 254 4 (.slice (some ⟨g, 0, none⟩) k cp) k (uX z S k) := h
   refine .inr ⟨g, cp, rfl, hgl, fun i hi => ⟨?_, hP i hi⟩⟩
   have c : ∀ j, j < 4 → w.cell? ⟨g, i * 4 + j, none⟩ = (zTh z (S i))[j]? := fun j hj => (hrow.cellAt _ (by omega)).trans (zHj z S k i j hi hj)
   exact ⟨c 0 (by omega), c 1 (by omega), c 2 (by omega), c 3 (by omega)⟩
theorem zU7.not_pts {base k n g : Nat} {w : World} {v : Value} {z : Int} {S : Nat → Shp} {X Y : Nat → Int} (h : zU7 base w v k z S) (hk : k = 0 → v = .slice none 0 0) (hp : zL w g 0 n X Y) (hn : 0 < n) : some g ≠ v.ownBlock := by
 intro e
 by_cases h0 : k = 0
 ·rw [hk h0] at e; cases e
 ·obtain ⟨h1, h2 | ⟨g', cp, cur, hv, hg, hh, hkc, hcm, hcs, htk⟩⟩ := id h
  ·exact absurd h2.2 h0
  ·subst hv
   simp [Value.ownBlock] at e
   subst e
   have hrow : w.ownsRow base 254 4 (.slice (some ⟨g, 0, none⟩) k cp) k (uX z S k) := h
   have c1 := (hrow.cellAt 1 (by omega)).trans (zHj z S k 0 1 (by omega) (by omega))
   have c2 := (hp 0 hn).2
   simp only [Nat.zero_mul, Nat.zero_add, Nat.mul_zero] at c2
   rw [c1] at c2
   simp [zTh] at c2
theorem zNd {z cx cy : Int} {S : Nat → Shp} {G : Nat → yB} {n : Nat} (h : ∀ i, i < n → zLz (S i) (G i)) : ∀ {k : Nat}, k ≤ n → vP (zUp z cx cy S) (fun i => (S i).id) k = vP (fun i => zSd z cx cy (G i)) (fun i => (G i).id) k
 | 0, _ => rfl
 | k + 1, hk => by
  obtain ⟨e1, e2, e3, e4, e5, e6⟩ := h k (by omega)
  have ec : zUp z cx cy S k = zSd z cx cy (G k) := by unfold zUp zSd; rw [e2, e3, e4, e5, e6]
  rw [vP, vP, ec, e1, zNd h (by omega)]
theorem zOk (B4 B5 : Nat) (a : Option Addr) (n cap : Nat) (z x y : Int) (S : Nat → Shp) (G : Nat → yB) (w : World) (h4 : w.cell? ⟨B4, 0, none⟩ = some (.int .i64 z)) (h5 : w.cell? ⟨B5, 0, none⟩ = some (.slice a n cap)) (hS : zXh w.heap.size w (.slice a n cap) n z S) (hP : ∀ i, i < n → zNx w w.heap.size (S i)) (hn : n ≤ 12) (hsh : ∀ i, i < n → zLz (S i) (G i)) (hpx : zA8 z x y = true) :
  Calls Tryz.prog 196 #[.int .i64 x, .int .i64 y, .pointer (some ⟨B5, 0, none⟩), .pointer (some ⟨B4, 0, none⟩)] w fun e w' => e = .returned (.int .i64 (yY G n z x y)) ∧ Bw w w' := by
 have hl4 := World.block_lt_of_cell? _ _ h4
 have hl5 := World.block_lt_of_cell? _ _ h5
 have HF : Hid (∀ W, Bw w W → Calls Tryz.prog 197 #[.slice a n cap, .agg #[.int .i64 (yQ z x), .int .i64 (yQ z y)]] W fun e w' => e = .returned (.int .i64 (yY G n z x y)) ∧ Bw W w') := fun W hW => by
  have hS' : zXh W.heap.size W (.slice a n cap) n z S := by
   rcases hS.below hW with h | ⟨p, c, e, h1, h2⟩
   ·exact .inl h
   ·exact .inr ⟨p, c, e, Nat.lt_of_lt_of_le h1 hW.size, fun i hi => ⟨(h2 i hi).1, Nat.lt_of_lt_of_le (h2 i hi).2.1 hW.size, (h2 i hi).2.2⟩⟩
  have hP' : ∀ i, i < n → zNx W W.heap.size (S i) := fun i hi => ⟨Nat.lt_of_lt_of_le (hP i hi).1 hW.size, ((hP i hi).below hW).2⟩
  have := zO8 a n cap z (yQ z x) (yQ z y) S W hS' hP' (by omega)
  rw [zNd hsh (Nat.le_refl n)] at this
  exact this
 have sC := fun w => zEx z x y w
 rw [show zSf z x y = .agg #[.int .i64 0, .int .i64 (yQ z x), .int .i64 (yQ z y)] by simp [zSf, hpx]] at sC
 have c4 : ∀ W', Bw w W' → W'.cell? ⟨B4, 0, none⟩ = some (.int .i64 z) := fun W' h => (h.cell (p := ⟨B4, 0, none⟩) hl4).trans h4
 have c5 : ∀ W', Bw w W' → W'.cell? ⟨B5, 0, none⟩ = some (.slice a n cap) := fun W' h => (h.cell (p := ⟨B5, 0, none⟩) hl5).trans h5
 clear hS hP hsh hpx h4 h5
 generalize yQ z x = cx at *
 generalize yQ z y = cy at *
 generalize yY G n z x y = pf at *
 have f1 : ∀ w, (Instr.field 259 (.agg #[.int .i64 0, .int .i64 cx, .int .i64 cy]) 1).run Tryz.prog w = .ok (.agg #[.int .i64 cx, .int .i64 cy]) w := fun _ => by kernel_rfl
 have hr : Bw w w := Below.refl _ _
 go_enter Tryz.func196, Tryz.ntmps196
 go_wp2_with fail
 go_region_held3 (fun W' => Bw w W') ((repeat (first|exact Qr _ _|assumption|refine Qd ?_|refine Qa ?_ _|refine Qt ?_|refine Qs ?_ _|refine Qo ?_ ?_ _ _)))
  (first
   | (go_at_call 198; refine (sC _).mono ?_; rintro e w1 ⟨rfl, hb⟩)
   | (go_at_call 197; refine (HF.out _ (by assumption)).mono ?_; rintro e w1 ⟨rfl, hb⟩)
   | fail)
 go_wp2
 go_ret
 exact ⟨rfl, by assumption⟩
theorem zUm (args : Array Value) (w : World) : (callFunc 196 args).run Tryz.prog w = .ok (.enter 196 args) w := by
 have h1 : (Tryz.f196).name ≠ "runtime.NumGoroutine" := by
  have : ((Tryz.f196).name == "runtime.NumGoroutine") = false := by kernel_rfl
  simpa using this
 have hb : ∃ c, (Tryz.f196).body = some c := ⟨_, rfl⟩
 obtain ⟨c, hb⟩ := hb
 simp [callFunc, Tryz.func196, h1, hb]
theorem le2 (n:Nat):n≤n+1+1:=by omega
abbrev vwV (z x y wd ht now s:Int)(kv rv:Value)(bad:Int):Value:=.agg #[.int .i64 z,.int .i64 x,.int .i64 y,.int .i64 wd,.int .i64 ht,.int .i64 now,.int .i64 s,kv,rv,.int .i64 bad]
def Blk (w:World)(q:Nat)(l:List Value):Prop:=∀ i v,l[i]?=some v→w.cell? ⟨q,i,none⟩=some v∧w.frozen? ⟨q,i,none⟩=false
theorem Blk.cell {w:World}{q:Nat}{l:List Value}(h:Blk w q l)(i:Nat){v:Value}(hi:l[i]?=some v):w.cell? ⟨q,i,none⟩=some v:=(h i v hi).1
theorem Blk.free {w:World}{q:Nat}{l:List Value}(h:Blk w q l)(i:Nat){v:Value}(hi:l[i]?=some v):w.frozen? ⟨q,i,none⟩=false:=(h i v hi).2
theorem Blk.c3 {w : World} {q : Nat} {a0 a1 a2 : Value} {l : List Value} (h : Blk w q (a0 :: a1 :: a2 :: l)) : w.cell? ⟨q, 0, none⟩ = some a0 ∧ w.cell? ⟨q, 1, none⟩ = some a1 ∧ w.cell? ⟨q, 2, none⟩ = some a2 := ⟨h.cell 0 rfl, h.cell 1 rfl, h.cell 2 rfl⟩
theorem Blk.f3 {w : World} {q : Nat} {a0 a1 a2 : Value} {l : List Value} (h : Blk w q (a0 :: a1 :: a2 :: l)) : w.frozen? ⟨q, 0, none⟩ = false ∧ w.frozen? ⟨q, 1, none⟩ = false ∧ w.frozen? ⟨q, 2, none⟩ = false := ⟨h.free 0 rfl, h.free 1 rfl, h.free 2 rfl⟩
theorem Blk.g5 {b : Nat} {v : World} {q : Nat} {a0 a1 a2 a3 a4 : Value} {l : List Value} (h : ∀ w, Below b v w → Blk w q (a0 :: a1 :: a2 :: a3 :: a4 :: l)) : (∀ w, Below b v w → w.cell? ⟨q, 0, none⟩ = some a0) ∧ (∀ w, Below b v w → w.cell? ⟨q, 1, none⟩ = some a1) ∧ (∀ w, Below b v w → w.cell? ⟨q, 2, none⟩ = some a2) ∧ (∀ w, Below b v w → w.cell? ⟨q, 3, none⟩ = some a3) ∧ (∀ w, Below b v w → w.cell? ⟨q, 4, none⟩ = some a4) := ⟨fun w k => (h w k).cell 0 rfl, fun w k => (h w k).cell 1 rfl, fun w k => (h w k).cell 2 rfl, fun w k => (h w k).cell 3 rfl, fun w k => (h w k).cell 4 rfl⟩
theorem Blk.c6 {w : World} {q : Nat} {a0 a1 a2 a3 a4 a5 : Value} {l : List Value} (h : Blk w q (a0 :: a1 :: a2 :: a3 :: a4 :: a5 :: l)) : w.cell? ⟨q, 0, none⟩ = some a0 ∧ w.cell? ⟨q, 1, none⟩ = some a1 ∧ w.cell? ⟨q, 2, none⟩ = some a2 ∧ w.cell? ⟨q, 3, none⟩ = some a3 ∧ w.cell? ⟨q, 4, none⟩ = some a4 ∧ w.cell? ⟨q, 5, none⟩ = some a5 := ⟨h.cell 0 rfl, h.cell 1 rfl, h.cell 2 rfl, h.cell 3 rfl, h.cell 4 rfl, h.cell 5 rfl⟩
theorem Blk.c10 {w : World} {q : Nat} {a0 a1 a2 a3 a4 a5 a6 a7 a8 a9 : Value} {l : List Value} (h : Blk w q (a0 :: a1 :: a2 :: a3 :: a4 :: a5 :: a6 :: a7 :: a8 :: a9 :: l)) : w.cell? ⟨q, 0, none⟩ = some a0 ∧ w.cell? ⟨q, 1, none⟩ = some a1 ∧ w.cell? ⟨q, 2, none⟩ = some a2 ∧ w.cell? ⟨q, 3, none⟩ = some a3 ∧ w.cell? ⟨q, 4, none⟩ = some a4 ∧ w.cell? ⟨q, 5, none⟩ = some a5 ∧ w.cell? ⟨q, 6, none⟩ = some a6 ∧ w.cell? ⟨q, 7, none⟩ = some a7 ∧ w.cell? ⟨q, 8, none⟩ = some a8 ∧ w.cell? ⟨q, 9, none⟩ = some a9 := ⟨h.cell 0 rfl, h.cell 1 rfl, h.cell 2 rfl, h.cell 3 rfl, h.cell 4 rfl, h.cell 5 rfl, h.cell 6 rfl, h.cell 7 rfl, h.cell 8 rfl, h.cell 9 rfl⟩
theorem Blk.f10 {w : World} {q : Nat} {a0 a1 a2 a3 a4 a5 a6 a7 a8 a9 : Value} {l : List Value} (h : Blk w q (a0 :: a1 :: a2 :: a3 :: a4 :: a5 :: a6 :: a7 :: a8 :: a9 :: l)) : w.frozen? ⟨q, 0, none⟩ = false ∧ w.frozen? ⟨q, 1, none⟩ = false ∧ w.frozen? ⟨q, 2, none⟩ = false ∧ w.frozen? ⟨q, 3, none⟩ = false ∧ w.frozen? ⟨q, 4, none⟩ = false ∧ w.frozen? ⟨q, 5, none⟩ = false ∧ w.frozen? ⟨q, 6, none⟩ = false ∧ w.frozen? ⟨q, 7, none⟩ = false ∧ w.frozen? ⟨q, 8, none⟩ = false ∧ w.frozen? ⟨q, 9, none⟩ = false := ⟨h.free 0 rfl, h.free 1 rfl, h.free 2 rfl, h.free 3 rfl, h.free 4 rfl, h.free 5 rfl, h.free 6 rfl, h.free 7 rfl, h.free 8 rfl, h.free 9 rfl⟩
theorem Blk.g10 {b : Nat} {v : World} {q : Nat} {a0 a1 a2 a3 a4 a5 a6 a7 a8 a9 : Value} {l : List Value} (h : ∀ w, Below b v w → Blk w q (a0 :: a1 :: a2 :: a3 :: a4 :: a5 :: a6 :: a7 :: a8 :: a9 :: l)) : (∀ w, Below b v w → w.cell? ⟨q, 0, none⟩ = some a0) ∧ (∀ w, Below b v w → w.cell? ⟨q, 1, none⟩ = some a1) ∧ (∀ w, Below b v w → w.cell? ⟨q, 2, none⟩ = some a2) ∧ (∀ w, Below b v w → w.cell? ⟨q, 3, none⟩ = some a3) ∧ (∀ w, Below b v w → w.cell? ⟨q, 4, none⟩ = some a4) ∧ (∀ w, Below b v w → w.cell? ⟨q, 5, none⟩ = some a5) ∧ (∀ w, Below b v w → w.cell? ⟨q, 6, none⟩ = some a6) ∧ (∀ w, Below b v w → w.cell? ⟨q, 7, none⟩ = some a7) ∧ (∀ w, Below b v w → w.cell? ⟨q, 8, none⟩ = some a8) ∧ (∀ w, Below b v w → w.cell? ⟨q, 9, none⟩ = some a9) := ⟨fun w k => (h w k).cell 0 rfl, fun w k => (h w k).cell 1 rfl, fun w k => (h w k).cell 2 rfl, fun w k => (h w k).cell 3 rfl, fun w k => (h w k).cell 4 rfl, fun w k => (h w k).cell 5 rfl, fun w k => (h w k).cell 6 rfl, fun w k => (h w k).cell 7 rfl, fun w k => (h w k).cell 8 rfl, fun w k => (h w k).cell 9 rfl⟩
theorem Blk.c13 {w : World} {q : Nat} {a0 a1 a2 a3 a4 a5 a6 a7 a8 a9 a10 a11 a12 : Value} {l : List Value} (h : Blk w q (a0 :: a1 :: a2 :: a3 :: a4 :: a5 :: a6 :: a7 :: a8 :: a9 :: a10 :: a11 :: a12 :: l)) : w.cell? ⟨q, 0, none⟩ = some a0 ∧ w.cell? ⟨q, 1, none⟩ = some a1 ∧ w.cell? ⟨q, 2, none⟩ = some a2 ∧ w.cell? ⟨q, 3, none⟩ = some a3 ∧ w.cell? ⟨q, 4, none⟩ = some a4 ∧ w.cell? ⟨q, 5, none⟩ = some a5 ∧ w.cell? ⟨q, 6, none⟩ = some a6 ∧ w.cell? ⟨q, 7, none⟩ = some a7 ∧ w.cell? ⟨q, 8, none⟩ = some a8 ∧ w.cell? ⟨q, 9, none⟩ = some a9 ∧ w.cell? ⟨q, 10, none⟩ = some a10 ∧ w.cell? ⟨q, 11, none⟩ = some a11 ∧ w.cell? ⟨q, 12, none⟩ = some a12 := ⟨h.cell 0 rfl, h.cell 1 rfl, h.cell 2 rfl, h.cell 3 rfl, h.cell 4 rfl, h.cell 5 rfl, h.cell 6 rfl, h.cell 7 rfl, h.cell 8 rfl, h.cell 9 rfl, h.cell 10 rfl, h.cell 11 rfl, h.cell 12 rfl⟩
theorem Blk.f13 {w : World} {q : Nat} {a0 a1 a2 a3 a4 a5 a6 a7 a8 a9 a10 a11 a12 : Value} {l : List Value} (h : Blk w q (a0 :: a1 :: a2 :: a3 :: a4 :: a5 :: a6 :: a7 :: a8 :: a9 :: a10 :: a11 :: a12 :: l)) : w.frozen? ⟨q, 0, none⟩ = false ∧ w.frozen? ⟨q, 1, none⟩ = false ∧ w.frozen? ⟨q, 2, none⟩ = false ∧ w.frozen? ⟨q, 3, none⟩ = false ∧ w.frozen? ⟨q, 4, none⟩ = false ∧ w.frozen? ⟨q, 5, none⟩ = false ∧ w.frozen? ⟨q, 6, none⟩ = false ∧ w.frozen? ⟨q, 7, none⟩ = false ∧ w.frozen? ⟨q, 8, none⟩ = false ∧ w.frozen? ⟨q, 9, none⟩ = false ∧ w.frozen? ⟨q, 10, none⟩ = false ∧ w.frozen? ⟨q, 11, none⟩ = false ∧ w.frozen? ⟨q, 12, none⟩ = false := ⟨h.free 0 rfl, h.free 1 rfl, h.free 2 rfl, h.free 3 rfl, h.free 4 rfl, h.free 5 rfl, h.free 6 rfl, h.free 7 rfl, h.free 8 rfl, h.free 9 rfl, h.free 10 rfl, h.free 11 rfl, h.free 12 rfl⟩
theorem Blk.g13 {b : Nat} {v : World} {q : Nat} {a0 a1 a2 a3 a4 a5 a6 a7 a8 a9 a10 a11 a12 : Value} {l : List Value} (h : ∀ w, Below b v w → Blk w q (a0 :: a1 :: a2 :: a3 :: a4 :: a5 :: a6 :: a7 :: a8 :: a9 :: a10 :: a11 :: a12 :: l)) : (∀ w, Below b v w → w.cell? ⟨q, 0, none⟩ = some a0) ∧ (∀ w, Below b v w → w.cell? ⟨q, 1, none⟩ = some a1) ∧ (∀ w, Below b v w → w.cell? ⟨q, 2, none⟩ = some a2) ∧ (∀ w, Below b v w → w.cell? ⟨q, 3, none⟩ = some a3) ∧ (∀ w, Below b v w → w.cell? ⟨q, 4, none⟩ = some a4) ∧ (∀ w, Below b v w → w.cell? ⟨q, 5, none⟩ = some a5) ∧ (∀ w, Below b v w → w.cell? ⟨q, 6, none⟩ = some a6) ∧ (∀ w, Below b v w → w.cell? ⟨q, 7, none⟩ = some a7) ∧ (∀ w, Below b v w → w.cell? ⟨q, 8, none⟩ = some a8) ∧ (∀ w, Below b v w → w.cell? ⟨q, 9, none⟩ = some a9) ∧ (∀ w, Below b v w → w.cell? ⟨q, 10, none⟩ = some a10) ∧ (∀ w, Below b v w → w.cell? ⟨q, 11, none⟩ = some a11) ∧ (∀ w, Below b v w → w.cell? ⟨q, 12, none⟩ = some a12) := ⟨fun w k => (h w k).cell 0 rfl, fun w k => (h w k).cell 1 rfl, fun w k => (h w k).cell 2 rfl, fun w k => (h w k).cell 3 rfl, fun w k => (h w k).cell 4 rfl, fun w k => (h w k).cell 5 rfl, fun w k => (h w k).cell 6 rfl, fun w k => (h w k).cell 7 rfl, fun w k => (h w k).cell 8 rfl, fun w k => (h w k).cell 9 rfl, fun w k => (h w k).cell 10 rfl, fun w k => (h w k).cell 11 rfl, fun w k => (h w k).cell 12 rfl⟩
theorem Blk.k13 {b : Nat} {v : World} {q : Nat} {a0 a1 a2 a3 a4 a5 a6 a7 a8 a9 a10 a11 a12 : Value} {l : List Value} (h : ∀ w, Below b v w → Blk w q (a0 :: a1 :: a2 :: a3 :: a4 :: a5 :: a6 :: a7 :: a8 :: a9 :: a10 :: a11 :: a12 :: l)) : (∀ w, Below b v w → w.frozen? ⟨q, 0, none⟩ = false) ∧ (∀ w, Below b v w → w.frozen? ⟨q, 1, none⟩ = false) ∧ (∀ w, Below b v w → w.frozen? ⟨q, 2, none⟩ = false) ∧ (∀ w, Below b v w → w.frozen? ⟨q, 3, none⟩ = false) ∧ (∀ w, Below b v w → w.frozen? ⟨q, 4, none⟩ = false) ∧ (∀ w, Below b v w → w.frozen? ⟨q, 5, none⟩ = false) ∧ (∀ w, Below b v w → w.frozen? ⟨q, 6, none⟩ = false) ∧ (∀ w, Below b v w → w.frozen? ⟨q, 7, none⟩ = false) ∧ (∀ w, Below b v w → w.frozen? ⟨q, 8, none⟩ = false) ∧ (∀ w, Below b v w → w.frozen? ⟨q, 9, none⟩ = false) ∧ (∀ w, Below b v w → w.frozen? ⟨q, 10, none⟩ = false) ∧ (∀ w, Below b v w → w.frozen? ⟨q, 11, none⟩ = false) ∧ (∀ w, Below b v w → w.frozen? ⟨q, 12, none⟩ = false) := ⟨fun w k => (h w k).free 0 rfl, fun w k => (h w k).free 1 rfl, fun w k => (h w k).free 2 rfl, fun w k => (h w k).free 3 rfl, fun w k => (h w k).free 4 rfl, fun w k => (h w k).free 5 rfl, fun w k => (h w k).free 6 rfl, fun w k => (h w k).free 7 rfl, fun w k => (h w k).free 8 rfl, fun w k => (h w k).free 9 rfl, fun w k => (h w k).free 10 rfl, fun w k => (h w k).free 11 rfl, fun w k => (h w k).free 12 rfl⟩
theorem Blk.lt {w:World}{q:Nat}{l:List Value}{v:Value}(h:Blk w q (v :: l)):q<w.heap.size:=World.block_lt_of_cell? _ _ (h 0 v rfl).1
theorem Blk.below {w w':World}{q:Nat}{l:List Value}(h:Blk w q l)(hq:q<w.heap.size)(hb:Below w.heap.size w w'):Blk w' q l:=fun i v hi =>
 ⟨(hb.cell (p:=⟨q,i,none⟩) hq).trans (h i v hi).1,(hb.frozen (p:=⟨q,i,none⟩) hq).trans (h i v hi).2⟩
theorem Blk.set {w:World}{q:Nat}{l:List Value}(h:Blk w q l)(j:Nat)(u:Value):Blk (w.setCell ⟨q,j,none⟩ u) q (l.set j u):=fun i v hi=>by
 rw [List.getElem?_set] at hi
 by_cases e:j=i
 ·subst e
  rw [if_pos rfl] at hi
  by_cases hl:j<l.length
  ·rw [if_pos hl] at hi
   injection hi with hi
   subst hi
   have h0:=h j _ (List.getElem?_eq_getElem hl)
   exact ⟨zE h0.1,(World.frozen?_setCell _ _ _ _).trans h0.2⟩
  ·rw [if_neg hl] at hi;cases hi
 ·rw [if_neg e] at hi
  have h0:=h i v hi
  exact ⟨by rw [zB (fun e'=>e (by injection e'))];exact h0.1,(World.frozen?_setCell _ _ _ _).trans h0.2⟩
theorem Blk.other {w:World}{q r o:Nat}{u:Value}{l:List Value}(h:Blk w q l)(hne:r≠q):Blk (w.setCell ⟨r,o,none⟩ u) q l:=fun i v hi =>
 ⟨by rw [zB (fun e'=>hne (by injection e'))];exact (h i v hi).1,(World.frozen?_setCell _ _ _ _).trans (h i v hi).2⟩
theorem Blk.new (w:World)(l:List Value)(t:TypeId):Blk (w.alloc (.cells l.toArray t)) w.heap.size l:=fun i v hi =>
 ⟨by rw [World.cell?_alloc_at _ _ _ _ rfl];simpa using hi,World.frozen?_alloc_at _ _ _ _ rfl⟩
theorem Blk.alloc {w:World}{q:Nat}{l:List Value}(h:Blk w q l)(hq:q<w.heap.size)(o:Obj):Blk (w.alloc o) q l:=h.below hq (xA (Below.refl _ _) o)
theorem zQ4 (s:Int)(a:Option Addr)(n cap:Nat)(K:Nat→Kp)(w:World)(hk:zFx w a n K)(hc:zB9 n K) :
  Calls Tryz.prog 25 #[caV s (.slice a n cap),.int .i64 1048576] w fun e w'=>(e=.returned (.int .i64 (-1))∨∃ m:Nat,m≤1048576∧zJ n K∧e=.returned (.int .i64 m))∧Bw w w':=by
 have HK:Hid (zFx w a n K):=hk
 have HC:Hid (zB9 n K):=hc
 clear hk hc
 go_enter Tryz.func25,Tryz.ntmps25
 go_wp2_with fail
 generalize hW:(w.alloc _:World)=W
 have hB0:Bw w W:=by subst hW;exact Qb
 clear hW
 refine (zS7 a n cap 1048576 K W (by omega) (HK.out.below hB0) HC.out).mono ?_
 rintro e w1 ⟨rfl | ⟨m,hm,hS,rfl⟩,hb1⟩
 ·go_wp2
  go_ret
  exact ⟨.inl rfl,zA hB0 hb1⟩
 ·have hneg:¬ ((m:Nat):Int)<0:=by omega
  have HS:Hid (zJ n K):=hS
  have HMm:Hid (m≤1048576):=hm
  clear hS
  go_wp2
  go_ret
  exact ⟨.inr ⟨m,HMm.out,HS.out,rfl⟩,zA hB0 hb1⟩
theorem zLw (z x y wd ht now s:Int)(a:Option Addr)(n cap:Nat)(K:Nat→Kp)(ra:Option Addr)(rn rc:Nat)(bad:Int)(w:World)(hk:zFx w a n K)(hc:zB9 n K)(hrm:rn≤maxLen) :
  Calls Tryz.prog 7 #[vwV z x y wd ht now s (.slice a n cap) (.slice ra rn rc) bad,.int .i64 1048576] w fun e w'=>(e=.returned (.int .i64 (-1))∨∃ m:Nat,zJ n K∧rn≤1048576∧e=.returned (.int .i64 m))∧Bw w w':=by
 have HK:Hid (zFx w a n K):=hk
 have HC:Hid (zB9 n K):=hc
 clear hk hc
 go_enter Tryz.func7,Tryz.ntmps7
 go_wp2_with fail
 generalize hW:(w.alloc _:World)=W
 have HB0:Hid (Bw w W):=by show Below _ _ _;subst hW;exact Qb
 have HV:Hid (Blk W w.heap.size [.int .i64 z,.int .i64 x,.int .i64 y,.int .i64 wd,.int .i64 ht,.int .i64 now,.int .i64 s,.slice a n cap,.slice ra rn rc,.int .i64 bad]):=by show Blk _ _ _;subst hW;exact Blk.new _ _ _
 clear hW
 refine (zQ4 s a n cap K W (HK.out.below HB0.out) HC.out).mono ?_
 rintro e w1 ⟨rfl | ⟨m,hm,hS,rfl⟩,hb1⟩
 ·have HB1:Hid (Bw w w1):=zA HB0.out hb1
  clear hb1
  go_wp2
  go_ret
  exact ⟨.inl rfl,HB1.out⟩
 ·have HS:Hid (zJ n K):=hS
  have HB1:Hid (Bw w w1):=zA HB0.out hb1
  have HV1:Hid (Blk w1 w.heap.size [.int .i64 z,.int .i64 x,.int .i64 y,.int .i64 wd,.int .i64 ht,.int .i64 now,.int .i64 s,.slice a n cap,.slice ra rn rc,.int .i64 bad]):=HV.out.below HV.out.lt hb1
  have c8:=HV1.out.cell 8 rfl
  have hneg:¬ ((m:Nat):Int)<0:=by omega
  clear hS hb1
  go_wp2_with fail
  by_cases hr:m<rn
  ·refine (zJ0 ra rn rc m w1 hm hr hrm).mono ?_
   rintro e w2 ⟨rfl,hb2⟩
   have HB2:Hid (Bw w w2):=zA HB1.out hb2
   clear hb2 c8
   go_wp2
   go_ret
   exact ⟨.inl rfl,HB2.out⟩
  ·refine (zJz ra rn rc m w1 hm (by omega)).mono ?_
   rintro e w2 ⟨rfl,hb2⟩
   have HB2:Hid (Bw w w2):=zA HB1.out hb2
   have hneg2:¬ (m:Int) - (rn:Int)<0:=by omega
   have he:(m:Int) - (rn:Int)=((m - rn:Nat):Int):=by omega
   clear hb2 c8
   go_wp2
   go_ret
   exact ⟨.inr ⟨m - rn,HS.out,by omega,rfl⟩,HB2.out⟩
def zLh (w:World)(b n:Nat)(K A:Nat→Kp)(rb rn:Nat)(E:Nat→Req):Prop:=yU w (b+1) b n K A∧rb<w.heap.size∧zAc w rb 0 rn E
theorem zLh.below {w w':World}{b n:Nat}{K A:Nat→Kp}{rb rn:Nat}{E:Nat→Req}(h:zLh w b n K A rb rn E)(hb:Below w.heap.size w w'):zLh w' b n K A rb rn E :=
 ⟨h.1.below hb,Nat.lt_of_lt_of_le h.2.1 hb.size,h.2.2.below hb h.2.1⟩
theorem resTV {T:Array Value}{Wf:World}{r:Nat}{z x y wd ht now s:Int}{kv rv:Value}{bad:Int}(hT:T[2]?.getD undef=.pointer (some ⟨r,0,none⟩))(h:Blk Wf r [.int .i64 z,.int .i64 x,.int .i64 y,.int .i64 wd,.int .i64 ht,.int .i64 now,.int .i64 s,kv,rv,.int .i64 bad]) :
  (results Tryz.f9 T).run Tryz.prog Wf=.ok (vwV z x y wd ht now s kv rv bad) Wf:=by
 obtain ⟨h0,h1,h2,h3,h4,h5,h6,h7,h8,h9⟩:=Blk.c10 h
 simp [results,Tryz.results9,go_sem,hT,h0,h1,h2,h3,h4,h5,h6,h7,h8,h9]
theorem zM8 (z x y wd ht now s:Int)(n rn:Nat)(b b' rb rb':Nat)(K A H:Nat→Kp)(E:Nat→Req)(bad:Int)(w:World)(ha:zLh w b n K A rb rn E)(hh:zLh w b' n K H rb' rn E)(hs:zJ n K)(hrn:rn≤1048576) :
  Calls Tryz.prog 12 #[vwV z x y wd ht now s (.slice (some ⟨b,0,none⟩) n n) (.slice (some ⟨rb,0,none⟩) rn rn) bad,vwV z x y wd ht now s (.slice (some ⟨b',0,none⟩) n n) (.slice (some ⟨rb',0,none⟩) rn rn) bad] w fun e w'=>e=.returned (.bool true)∧Bw w w':=by
 have HA:Hid (zLh w b n K A rb rn E):=ha
 have HH:Hid (zLh w b' n K H rb' rn E):=hh
 have HS:Hid (zJ n K):=hs
 clear ha hh hs
 go_enter Tryz.func12,Tryz.ntmps12
 go_wp2_with fail
 generalize hW:((w.alloc _).alloc _:World)=W
 have HB0:Hid (Bw w W):=by show Below _ _ _;subst hW;exact Qb
 have HV:Hid (Blk W w.heap.size [.int .i64 z,.int .i64 x,.int .i64 y,.int .i64 wd,.int .i64 ht,.int .i64 now,.int .i64 s,.slice (some ⟨b,0,none⟩) n n,.slice (some ⟨rb,0,none⟩) rn rn,.int .i64 bad]):=by
  show Blk _ _ _;subst hW
  exact (Blk.new w _ _).alloc (by simp) _
 have HU:Hid (Blk W (w.heap.size+1) [.int .i64 z,.int .i64 x,.int .i64 y,.int .i64 wd,.int .i64 ht,.int .i64 now,.int .i64 s,.slice (some ⟨b',0,none⟩) n n,.slice (some ⟨rb',0,none⟩) rn rn,.int .i64 bad]):=by
  show Blk _ _ _;subst hW
  have:=Blk.new (w.alloc (.cells #[.int .i64 z,.int .i64 x,.int .i64 y,.int .i64 wd,.int .i64 ht,.int .i64 now,.int .i64 s,.slice (some ⟨b,0,none⟩) n n,.slice (some ⟨rb,0,none⟩) rn rn,.int .i64 bad] 38)) [.int .i64 z,.int .i64 x,.int .i64 y,.int .i64 wd,.int .i64 ht,.int .i64 now,.int .i64 s,.slice (some ⟨b',0,none⟩) n n,.slice (some ⟨rb',0,none⟩) rn rn,.int .i64 bad] 38
  simpa using this
 have hvl:w.heap.size<W.heap.size:=HV.out.lt
 have hul:w.heap.size+1<W.heap.size:=HU.out.lt
 clear hW
 refine (zE7 z x y wd ht W).mono ?_
 rintro e w1 ⟨rfl,hb1⟩
 have HB1:Hid (Bw W w1):=hb1
 have hV1:=HV.out.below hvl hb1
 have hU1:=HU.out.below hul hb1
 obtain ⟨d0,d1,d2,d3,d4,d5,d6,d7,d8,d9⟩:=Blk.c10 hV1
 obtain ⟨e0,e1,e2,e3,e4,e5,e6,e7,e8,e9⟩:=Blk.c10 hU1
 clear hb1 hV1 hU1
 go_wp2_with fail
 refine (zPd s _ _ _ _ n K _ _ w1 (HA.out.1.below (zA HB0.out HB1.out)) (HH.out.1.below (zA HB0.out HB1.out)) HS.out).mono ?_
 rintro e w2 ⟨rfl,hb2⟩
 have HB2:Hid (Bw W w2):=zA HB1.out hb2
 have hV2:=HV.out.below hvl HB2.out
 have hU2:=HU.out.below hul HB2.out
 clear d0 e0 d1 e1 d2 e2 d3 e3 d4 e4 d5 e5 d6 e6 d7 e7 d8 e8 d9 e9
 obtain ⟨d0,d1,d2,d3,d4,d5,d6,d7,d8,d9⟩:=Blk.c10 hV2
 obtain ⟨e0,e1,e2,e3,e4,e5,e6,e7,e8,e9⟩:=Blk.c10 hU2
 clear hb2 hV2 hU2 HB1
 have HA2:=HA.out.below (zA HB0.out HB2.out)
 have HH2:=HH.out.below (zA HB0.out HB2.out)
 have hq1:xS w2 (some ⟨rb,0,none⟩) rn E:=.inr ⟨rb,0,rfl,HA2.2.1,HA2.2.2⟩
 have hq2:xS w2 (some ⟨rb',0,none⟩) rn E:=.inr ⟨rb',0,rfl,HH2.2.1,HH2.2.2⟩
 have HEq:=(show Hid _ from zCo (some ⟨rb,0,none⟩) (some ⟨rb',0,none⟩) rn rn rn E w2 hq1 hq2 hrn)
 clear HA2 HH2 hq1 hq2
 go_wp2_with fail
 refine Calls.mono HEq.out ?_
 rintro e w3 ⟨rfl,hb3⟩
 have HB3:Hid (Bw W w3):=zA HB2.out hb3
 have hV3:=HV.out.below hvl HB3.out
 have hU3:=HU.out.below hul HB3.out
 clear d0 e0 d1 e1 d2 e2 d3 e3 d4 e4 d5 e5 d6 e6 d7 e7 d8 e8 d9 e9
 have d9:=hV3.cell 9 rfl
 have e9:=hU3.cell 9 rfl
 have HB9:Hid (Bw w w3):=zA HB0.out HB3.out
 clear hb3 hV3 hU3
 go_wp2
 go_ret
 exact ⟨rfl,HB9.out⟩

theorem zFw.wide {w:World}{base B:Nat}{v:Value}{n:Nat}{E:Nat→Req}(h:zFw w base v n E)(hB:B≤base):zFw w B v n E:=by
 obtain ⟨a,cap,hv,hc,h0 | ⟨b,ha,hbb,hr⟩⟩:=h
 ·exact ⟨a,cap,hv,hc,.inl h0⟩
 ·exact ⟨a,cap,hv,hc,.inr ⟨b,ha,by omega,hr⟩⟩
theorem zFw.set3 {base B r:Nat}{w:World}{v a b c:Value}{n:Nat}{E:Nat→Req}(h:zFw w B v n E)(hr:r<B)(hB:base≤B):zFw (((w.setCell ⟨r,0,none⟩ a).setCell ⟨r,1,none⟩ b).setCell ⟨r,2,none⟩ c) base v n E :=
 (h.mid ((((zK.refl r (r+1) w).set (Nat.le_refl _) (Nat.lt_succ_self _) 0 a).set (Nat.le_refl _) (Nat.lt_succ_self _) 1 b).set (Nat.le_refl _) (Nat.lt_succ_self _) 2 c) hr).wide hB
theorem zAe.up {w w' : World} {b : Nat} {z x y wd ht : Int} (h : zAe w b z x y wd ht) (hb : Below w.heap.size w w') : zAe w' b z x y wd ht :=
 ⟨zBl hb h.1, zBl hb h.2.1, zBl hb h.2.2.1, zBl hb h.2.2.2.1, zBl hb h.2.2.2.2⟩
def zGp (n : Nat) (E : Nat → Req) (z x y wd ht : Int) : Int := or2 (zO n E) (uK z x y wd ht)
def zBb (n : Nat) (E : Nat → Req) (z x y wd ht : Int) : List Req := if zGp n E z x y wd ht = 0 then zY (fun j => yS z x y wd ht (E j).z (E j).x (E j).y) E n else []
theorem zWw (args : Array Value) (w : World) : (callFunc 171 args).run Tryz.prog w = .ok (.enter 171 args) w := by
 have h1 : (Tryz.f171).name ≠ "runtime.NumGoroutine" := by
  have : ((Tryz.f171).name == "runtime.NumGoroutine") = false := by kernel_rfl
  simpa using this
 have hb : ∃ c, (Tryz.f171).body = some c := ⟨_, rfl⟩
 obtain ⟨c, hb⟩ := hb
 simp [callFunc, Tryz.func171, h1, hb]
theorem zTr (e : Req) (r : Nat) (z x y wd ht : Int) (w : World) (h : zAe w r z x y wd ht) :
  Calls Tryz.prog 171 #[zLj e, .pointer (some ⟨r, 0, none⟩)] w fun q w' => q = .returned (.bool (yS z x y wd ht e.z e.x e.y)) ∧ Bw w w' := by
 obtain ⟨c0, c1, c2, c3, c4⟩ := h.up (w' := w.alloc (.cells #[.int .i64 e.z, .int .i64 e.x, .int .i64 e.y, .int .i64 e.du, .int .i64 e.tr] 106)) (by exact Qb)
 have hl := World.block_lt_of_cell? _ _ h.1
 have sI := fun w => zB2 z x y wd ht e.z e.x e.y w
 generalize yS z x y wd ht e.z e.x e.y = B at *
 clear h
 go_enter Tryz.func171, Tryz.ntmps171
 go_wp2_with (go_at_call 127; refine (sI _).mono ?_; rintro e w' ⟨rfl, hb⟩)
 go_ret
 exact ⟨rfl, by (repeat (first|exact Qr _ _|assumption|refine Qd ?_|refine Qa ?_ _|refine Qt ?_|refine Qs ?_ _|refine Qo ?_ ?_ _ _))⟩
theorem zTm {T : Array Value} {Wf : World} {r : Nat} {c : Int} {v1 v2 : Value} (hT : T[4]?.getD undef = .pointer (some ⟨r, 0, none⟩)) (h0 : Wf.cell? ⟨r, 0, none⟩ = some (.int .i64 c)) (h1 : Wf.cell? ⟨r, 1, none⟩ = some v1) (h2 : Wf.cell? ⟨r, 2, none⟩ = some v2) :
  (results Tryz.f130 T).run Tryz.prog Wf = .ok (rqV c v1 v2) Wf := by
 simp [results, Tryz.results130, go_sem, hT, h0, h1, h2]
theorem zEt (a : Option Addr) (n cap : Nat) (E : Nat → Req) (z x y wd ht : Int) (w : World) (hp : xS w a n E) (hn : n ≤ 1048576) (hcap : n ≤ cap) :
  Calls Tryz.prog 130 #[.slice a n cap, zDi z x y wd ht] w fun e w' => ∃ v2, e = .returned (rqV (zGp n E z x y wd ht) (.slice none 0 0) v2) ∧ ArmV v2 ∧ zFw w' w.heap.size v2 (zBb n E z x y wd ht).length (nw (zBb n E z x y wd ht)) ∧ Bw w w' := by
 have HP : Hid (xS w a n E) := hp
 have HF0 : Hid (∀ W, Bw w W → Calls Tryz.prog 73 #[.slice a n cap] W fun e w' => e = .returned (.int .i64 (zO n E)) ∧ Bw W w') := fun W h => xJ a n cap E W (hp.below h) hn hcap
 have HT : Hid (∀ W, Calls Tryz.prog 69 #[zDi z x y wd ht] W fun e w' => e = .returned (.int .i64 (uK z x y wd ht)) ∧ Bw W w') := fun W => uE z x y wd ht W
 have HPC : Hid (zGp n E z x y wd ht = or2 (zO n E) (uK z x y wd ht)) := rfl
 clear hp
 have hmf : ∀ (fn : Fn) (first cap : Array Value) (w : World), (Instr.makeFunc fn first cap).run Tryz.prog w = .ok (.func fn first cap) w := fun _ _ _ _ => rfl
 generalize zO n E = k1 at *
 generalize uK z x y wd ht = k2 at *
 go_enter Tryz.func130, Tryz.ntmps130
 go_wp2_with fail
 generalize hW : ((w.alloc _).alloc _ : World) = W
 have HB0 : Hid (Bw w W) := by show Below _ _ _; subst hW; exact Qb
 have HSZ : Hid (w.heap.size + 1 < W.heap.size) := by show _ < _; subst hW; simp
 have hCA : zAe W w.heap.size z x y wd ht := by subst hW; exact ⟨by simp [go_sem], by simp [go_sem], by simp [go_sem], by simp [go_sem], by simp [go_sem]⟩
 have c0 : ∀ W', Bw W W' → W'.cell? ⟨w.heap.size, 0, none⟩ = some (.int .i64 z) := fun W' h => (hCA.up h).1
 have c1 : ∀ W', Bw W W' → W'.cell? ⟨w.heap.size, 1, none⟩ = some (.int .i64 x) := fun W' h => (hCA.up h).2.1
 have c2 : ∀ W', Bw W W' → W'.cell? ⟨w.heap.size, 2, none⟩ = some (.int .i64 y) := fun W' h => (hCA.up h).2.2.1
 have c3 : ∀ W', Bw W W' → W'.cell? ⟨w.heap.size, 3, none⟩ = some (.int .i64 wd) := fun W' h => (hCA.up h).2.2.2.1
 have c4 : ∀ W', Bw W W' → W'.cell? ⟨w.heap.size, 4, none⟩ = some (.int .i64 ht) := fun W' h => (hCA.up h).2.2.2.2
 have HCA : Hid (zAe W w.heap.size z x y wd ht) := hCA
 have HTH : Hid (zC W (w.heap.size + 1) 3) := by
  show zC _ _ _
  subst hW
  have := zOb (w.alloc (.cells #[.int .i64 z, .int .i64 x, .int .i64 y, .int .i64 wd, .int .i64 ht] 32)) (.int .i64 0) (.slice none 0 0) (.slice none 0 0) 165
  simpa using this
 clear hW hCA
 have HF : Hid (∀ W', Bw W W' → Calls Tryz.prog 73 #[.slice a n cap] W' fun e w' => e = .returned (.int .i64 k1) ∧ Below W'.heap.size W' w') := fun W' h => HF0.out W' (zA HB0.out h)
 refine wp_region_noPanic ?_
 refine wp_region_held_drew (S := fun W' => Bw W W') (by kernel_rfl) (by exact Qb) (fun hHeld => ?_)
 have hX0 : Bw W W.drew := hHeld
 refine zF (i := 0) (d := some 6) rfl rfl ?_
 try simp only [Act.put, Qx, Qy, Qz]
 refine zF (i := 2) (d := some 8) rfl rfl ?_
 try simp only [Act.put, Qx, Qy, Qz]
 refine zN 1 fun K hK => ?_
 go_simp
 refine Calls.mono (HF.out _ hX0) ?_
 rintro e wo1 ⟨rfl, hbo1⟩
 have hX1 : Bw W wo1 := zA hX0 hbo1
 go_wp2_with fail
 refine hK.out _ _ hX1 (fun hHeld => ?_)
 clear hK K
 try simp only [Act.put, Qx, Qy, Qz]
 refine zN 3 fun K hK => ?_
 go_simp
 refine Calls.mono (HT.out _) ?_
 rintro e wo2 ⟨rfl, hbo2⟩
 have hX2 : Bw W wo2 := zA hX1 hbo2
 go_wp2_with fail
 refine hK.out _ _ hX2 (fun hHeld => ?_)
 clear hK K
 try simp only [Act.put, Qx, Qy, Qz]
 refine zN 4 fun K hK => ?_
 go_simp
 generalize hw4 : (World.alloc _ _ : World) = wo3
 have hb4 : Bw wo2 wo3 := by subst hw4; exact Qb
 have g0 : wo3.cell? ⟨wo2.heap.size, 0, none⟩ = some (.int .i64 k1) := by subst hw4; simp [go_sem]
 have g1 : wo3.cell? ⟨wo2.heap.size, 1, none⟩ = some (.int .i64 k2) := by subst hw4; simp [go_sem]
 have hX3 : Bw W wo3 := zA hX2 hb4
 clear hw4
 refine hK.out _ _ hX3 (fun hHeld => ?_)
 clear hK K hb4
 try simp only [Act.put, Qx, Qy, Qz]
 refine zN 5 fun K hK => ?_
 go_simp
 refine (zEy _ _ k1 k2 _ g0 g1).mono ?_
 rintro e w5 ⟨rfl, rfl⟩
 go_wp2_with fail
 refine hK.out _ _ hX3 (fun hHeld => ?_)
 clear hK K g0 g1
 try simp only [Act.put, Qx, Qy, Qz]
 refine zF (i := 6) (d := some 5) rfl rfl ?_
 try simp only [Act.put, Qx, Qy, Qz]
 refine wpAnyH_done (by kernel_rfl) ?_ _
 refine NoPanic.normal ?_
 simp only [Exit.then]
 refine (by assumption : ∀ (a : Act) (w : World), _ → _) _ _ ?_
 have hB5 : Bw W w5 := hX3
 have HBS : Hid (W.heap.size ≤ w5.heap.size) := hB5.size
 rw [← HPC.out]
 clear hX0 hX1 hX2 hX3 hHeld hbo1 hbo2 HF HF0 HT c0 c1 c2 c3 c4
 have hT5 := HTH.out.below hB5
 have HSZ5 : Hid (w.heap.size + 1 < w5.heap.size) := by have := HBS.out; have := HSZ.out; show _ < _; omega
 by_cases hp0 : zGp n E z x y wd ht = 0
 ·rw [hp0]
  have HC0 : Hid (zGp n E z x y wd ht = 0) := hp0
  have HL : Hid (zBb n E z x y wd ht = zY (fun j => yS z x y wd ht (E j).z (E j).x (E j).y) E n) := by show _ = _; unfold zBb; rw [if_pos hp0]
  have hOT := zKd a n cap 171 #[.pointer (some ⟨w.heap.size, 0, none⟩)] (fun j => yS z x y wd ht (E j).z (E j).x (E j).y) E w5 (HP.out.below (zA HB0.out hB5)) hn zWw (fun i W' hi hb => zTr (E i) w.heap.size z x y wd ht W' ((HCA.out.up hB5).up hb))
  have HOT : Hid (Calls Tryz.prog 170 #[.slice a n cap, .func (.func 171) #[] #[.pointer (some ⟨w.heap.size, 0, none⟩)]] w5 fun e w' => ∃ va vc, e = .returned (.slice va (zY (fun j => yS z x y wd ht (E j).z (E j).x (E j).y) E n).length vc) ∧ ArmV (.slice va (zY (fun j => yS z x y wd ht (E j).z (E j).x (E j).y) E n).length vc) ∧ zFw w' w5.heap.size (.slice va (zY (fun j => yS z x y wd ht (E j).z (E j).x (E j).y) E n).length vc) (zY (fun j => yS z x y wd ht (E j).z (E j).x (E j).y) E n).length (nw (zY (fun j => yS z x y wd ht (E j).z (E j).x (E j).y) E n)) ∧ Bw w5 w') := hOT
  clear hp0 hOT
  generalize zY (fun j => yS z x y wd ht (E j).z (E j).x (E j).y) E n = KL at *
  go_wp2_with fail
  refine Calls.mono HOT.out ?_
  rintro e w6 ⟨va, vc, rfl, hA6, hO6, hb6⟩
  have HA6 : Hid (ArmV (.slice va KL.length vc)) := hA6
  have HO6 : Hid (zFw w6 w5.heap.size (.slice va KL.length vc) KL.length (nw KL)) := hO6
  have HT6 : Hid (zC w6 (w.heap.size + 1) 3) := hT5.below hb6
  have HB6 : Hid (Bw w w6) := zA HB0.out (zA hB5 hb6)
  have t0 := HT6.out.cell 0 (by omega)
  have t1 := HT6.out.cell 1 (by omega)
  have t2 := HT6.out.cell 2 (by omega)
  have f0 := (HT6.out 0 (by omega)).2
  have f1 := (HT6.out 1 (by omega)).2
  have f2 := (HT6.out 2 (by omega)).2
  clear hA6 hO6 hb6 HOT hT5 hB5
  generalize hLL : KL.length = LL at *
  go_wp2_with fail
  obtain ⟨q0, q1, q2⟩ := zBq (a := .int .i64 0) (b := .slice none 0 0) (c := .slice va LL vc) HT6.out
  refine bodyPost_ret (zTm rfl q0 q1 q2) rfl ⟨_, by rw [HC0.out], HA6.out, by rw [HL.out, hLL]; exact HO6.out.set3 HSZ5.out (by have := HSZ5.out; omega), ?_⟩
  exact ((HB6.out.setCell (Nat.le_succ _) _).setCell (Nat.le_succ _) _).setCell (Nat.le_succ _) _
 ·have hp0' : (zGp n E z x y wd ht == 0) = false := by simpa using hp0
  have HL : Hid (zBb n E z x y wd ht = []) := by show _ = _; unfold zBb; rw [if_neg hp0]
  obtain ⟨kk, hkk⟩ : ∃ kk, zGp n E z x y wd ht = kk := ⟨_, rfl⟩
  have HKK : Hid (zGp n E z x y wd ht = kk) := hkk
  rw [hkk] at hp0' ⊢
  have HT6 : Hid (zC w5 (w.heap.size + 1) 3) := hT5
  have HB6 : Hid (Bw w w5) := zA HB0.out hB5
  have t0 := HT6.out.cell 0 (by omega)
  have t1 := HT6.out.cell 1 (by omega)
  have t2 := HT6.out.cell 2 (by omega)
  have f0 := (HT6.out 0 (by omega)).2
  have f1 := (HT6.out 1 (by omega)).2
  have f2 := (HT6.out 2 (by omega)).2
  clear hp0 hkk hT5 hB5
  go_wp2_with fail
  obtain ⟨q0, q1, q2⟩ := zBq (a := .int .i64 kk) (b := .slice none 0 0) (c := .slice none 0 0) HT6.out
  refine bodyPost_ret (zTm rfl q0 q1 q2) rfl ⟨_, by rw [HKK.out], .inl rfl, by rw [HL.out]; exact (yK.no _ _).own, ?_⟩
  exact ((HB6.out.setCell (Nat.le_succ _) _).setCell (Nat.le_succ _) _).setCell (Nat.le_succ _) _
theorem zOz (a : Option Addr) (n cap r : Nat) (E : Nat → Req) (z x y wd ht : Int) (w : World) (hp : xS w a n E) (hc : zAe w r z x y wd ht) (hr : zA6 z x y wd ht = true) (hn : n ≤ 8) :
  Calls Tryz.prog 110 #[.slice a n cap, .pointer (some ⟨r, 0, none⟩)] w fun e w' => ∃ v, e = .returned v ∧ yK w.heap.size w' v (zY (fun j => yS z x y wd ht (E j).z (E j).x (E j).y) E n) ∧ Bw w w' := by
 obtain ⟨i0, hi, hz0, hz1, hz2⟩ := info_parts zBg
 have hm : uM z x y wd ht ≤ 1048576 := by have := zCr z x y wd ht; omega
 have HSN : Hid (∀ (e : Req) (W : World), zAe W r z x y wd ht → Calls Tryz.prog 62 #[.pointer (some ⟨r, 0, none⟩), vN e.z e.x e.y] W fun q w' => q = .returned (.bool (yS z x y wd ht e.z e.x e.y)) ∧ Bw W w') := fun e W h => zI8 r _ _ e.z e.x e.y W hm (fun W' hW => zEr r W' (h.up hW) hr)
 have HP : Hid (xS w a n E) := hp
 have HC : Hid (zAe w r z x y wd ht) := hc
 clear hp hc hr hm
 go_enter Tryz.func110, Tryz.ntmps110
 go_wp2_with fail
 generalize hW : (w.alloc _ : World) = W
 have HB0 : Hid (Bw w W) := by show Below _ _ _; subst hW; exact Qb
 have HR0 : Hid (yK w.heap.size W (.slice (some ⟨w.heap.size, 0, none⟩) 0 0) []) := by
  show World.ownsRow _ _ _ _ _ _ _
  subst hW
  exact World.ownsRow_lit (base := w.heap.size) (size := 5) w #[] 0 (Nat.le_refl _) (Nat.zero_le _) rfl
 clear hW
 go_loopw [5, 6] (fun v i wr => ∃ (k : Nat) (va : Option Addr) (vc : Nat), k ≤ n ∧ i = .int .i64 (k : Int) ∧ v = .slice va (zY (fun j => yS z x y wd ht (E j).z (E j).x (E j).y) E k).length vc ∧ yK w.heap.size wr v (zY (fun j => yS z x y wd ht (E j).z (E j).x (E j).y) E k) ∧ Bw w wr) (fun _ i _ => n - (intOf i).toNat)
 case atStart => exact ⟨0, _, _, by omega, rfl, rfl, HR0.out, HB0.out⟩
 case round =>
  obtain ⟨k, va, vc, hk, rfl, rfl, hR, hB⟩ := hrel
  have HRr : Hid (yK w.heap.size wr (.slice va (zY (fun j => yS z x y wd ht (E j).z (E j).x (E j).y) E k).length vc) (zY (fun j => yS z x y wd ht (E j).z (E j).x (E j).y) E k)) := hR
  have HBr : Hid (Bw w wr) := hB
  by_cases hlt : k < n
  ·rcases HP.out with h0 | ⟨b, off, rfl, hbl, hpt⟩
   ·omega
   obtain ⟨q0, q1, q2, q3, q4⟩ := (hpt.below hB hbl) k hlt
   have hi' : (k : Int) < (n : Int) := by omega
   have hi0 : (0 : Int) ≤ (k : Int) := by omega
   have HLT : Hid (k < n) := hlt
   have HPT : Hid (zAc w b off n E) := hpt
   have hle := zBf (fun j => yS z x y wd ht (E j).z (E j).x (E j).y) E k
   clear hR hB hpt
   go_wp2_with fail
   refine (HSN.out (E k) _ (HC.out.up HBr.out)).mono ?_
   rintro e w2 ⟨rfl, hb2⟩
   have HB2 : Hid (Bw w w2) := zA HBr.out hb2
   have HR2 : Hid (yK w.heap.size w2 (.slice va (zY (fun j => yS z x y wd ht (E j).z (E j).x (E j).y) E k).length vc) (zY (fun j => yS z x y wd ht (E j).z (E j).x (E j).y) E k)) := HRr.out.below hb2
   obtain ⟨p0, p1, p2, p3, p4⟩ := (HPT.out.below HB2.out hbl) k hlt
   clear hb2 q0 q1 q2 q3 q4 HRr HBr
   cases hS : yS z x y wd ht (E k).z (E k).x (E k).y
   ·have HK : Hid (zY (fun j => yS z x y wd ht (E j).z (E j).x (E j).y) E (k + 1) = zY (fun j => yS z x y wd ht (E j).z (E j).x (E j).y) E k) := zP4 hS
    clear hS
    generalize zY (fun j => yS z x y wd ht (E j).z (E j).x (E j).y) E k = KL at *
    go_wp2_with fail
    go_roundw
    case rel => exact ⟨k + 1, va, vc, by have := HLT.out; omega, by go_num, by rw [HK.out], by rw [HK.out]; exact HR2.out, HB2.out⟩
    case measure => have := HLT.out; simp [intOf]; omega
   ·have HK : Hid (zY (fun j => yS z x y wd ht (E j).z (E j).x (E j).y) E (k + 1) = zY (fun j => yS z x y wd ht (E j).z (E j).x (E j).y) E k ++ [E k]) := zMr hS
    clear hS
    generalize zY (fun j => yS z x y wd ht (E j).z (E j).x (E j).y) E k = KL at *
    have HSZ : Hid (w.heap.size ≤ w2.heap.size) := HB2.out.size
    go_wp2_with (first
     | (at_builtin; go_must (refine wpList_append_own _ rfl _ _ 36 rfl w.heap.size 106 i0 (.agg #[.int .i64 0, .int .i64 0, .int .i64 0, .int .i64 0, .int .i64 0]) 5 40 Tryz.underlying36 hi hz0 hz1 hz2 rfl (by decide) (.slice va KL.length vc) KL.length (yH KL) rfl ?r0 ⟨w2.heap.size, 0, none⟩ 1 1 (xC (E k)) rfl rfl ?r1 ?r2 ?r3 ?r4 ?r5 ?_)))
    case r0 => exact World.ownsRow.alloc HR2.out _
    case r1 => exact zGs _ _ _
    case r2 => exact yO _
    case r3 => unfold maxLen; omega
    case r4 => omega
    case r5 => have := HSZ.out; simp; omega
    intro v6 w6 hown6 hg6 hnil6
    have hR6 : yK w.heap.size w6 v6 (KL ++ [E k]) := by unfold yK; rw [xH, xB, List.length_append]; exact hown6
    have hbA : Bw w2 (w2.alloc (.cells #[.int .i64 (E k).z, .int .i64 (E k).x, .int .i64 (E k).y, .int .i64 (E k).du, .int .i64 (E k).tr] 106)) := by exact Qb
    have hb6 : Below w.heap.size (w2.alloc (.cells #[.int .i64 (E k).z, .int .i64 (E k).x, .int .i64 (E k).y, .int .i64 (E k).du, .int .i64 (E k).tr] 106)) w6 := xI hg6 (fun p hp => HR2.out.block p hp) (by have := HSZ.out; simp; omega)
    obtain ⟨va6, vc6, hv6⟩ := hR6.slice
    subst hv6
    have HR6 : Hid (yK w.heap.size w6 (.slice va6 (KL ++ [E k]).length vc6) (KL ++ [E k])) := hR6
    have HB6 : Hid (Bw w w6) := (zA HB2.out hbA).trans hb6
    clear hown6 hg6 hnil6 hR6 hbA hb6 p0 p1 p2 p3 p4
    obtain ⟨SL, hSL⟩ : ∃ SL, (KL ++ [E k]).length = SL := ⟨_, rfl⟩
    have HSL : Hid ((KL ++ [E k]).length = SL) := hSL
    rw [hSL] at HR6 ⊢
    clear hSL
    go_wp2_with fail
    go_roundw
    case rel => exact ⟨k + 1, va6, vc6, by have := HLT.out; omega, by go_num, by rw [HK.out, HSL.out], by rw [HK.out]; exact HR6.out, HB6.out⟩
    case measure => have := HLT.out; simp [intOf]; omega
  ·obtain rfl : n = k := by omega
   go_wp2_with fail
   go_ret
   exact ⟨_, rfl, HRr.out, HBr.out⟩


theorem zE5 {G G':Nat→Bool}:∀ n,(∀ j,j<n→G j=G' j)→uC G n=uC G' n
 | 0,_=>rfl
 | n+1,h=>by rw [uC,uC,zE5 n (fun j hj=>h j (by omega)),h n (by omega)]
section
variable {n:Nat} {E:Nat→Req} {z x y now:Int}
end
section
variable {n:Nat} {E:Nat→Req} {z x y now:Int}
end
end Go.Proofs.YtkjbafcalamgnaaGreat
