/- A feature as the model writes it. -/
import Derived.Test.YtnbhpicdghgniaaDoorTx1
import Derived.Test.YtnbhpicdghgniaaDoorTake
import Derived.Deep.CutRange
namespace Go.Proofs.YtnbhpicdghgniaaDoor
open Go.RowKit
set_option linter.unusedSimpArgs false
set_option linter.unusedVariables false
set_option maxRecDepth 100000

/-- The word of a kind. -/
def kindT (k : Nat) : ByteArray := if k = 0 then ⟨#[]⟩ else if k = 1 then wordP else if k = 2 then wordL else wordA
theorem kindT_size (k : Nat) : (kindT k).size ≤ 5 := by
  unfold kindT
  split
  · decide
  · split
    · decide
    · split <;> decide
def spB : ByteArray := ⟨#[32]⟩
def coB : ByteArray := ⟨#[44]⟩
def daB : ByteArray := ⟨#[32, 45]⟩
def headT (id la : Int) (kk : Nat) (wi pr : Int) (lab : ByteArray) : ByteArray := digB id ++ spB ++ digB la ++ spB ++ kindT kk ++ spB ++ digB wi ++ spB ++ digB pr ++ daB ++ lab
def ptsT (X Y : Nat → Int) (s : ByteArray) : Nat → ByteArray
  | 0 => s
  | k + 1 => ptsT X Y s k ++ spB ++ digB (X k) ++ coB ++ digB (Y k)

theorem ptsT_size (X Y : Nat → Int) (s : ByteArray) : ∀ k, (∀ i, i < k → (digB (X i)).size ≤ 21 ∧ (digB (Y i)).size ≤ 21) → (ptsT X Y s k).size ≤ s.size + 44 * k
  | 0, _ => by simp [ptsT]
  | k + 1, h => by
    have h1 := ptsT_size X Y s k (fun i hi => h i (by omega))
    have h2 := h k (by omega)
    have e1 : spB.size = 1 := rfl
    have e2 : coB.size = 1 := rfl
    simp only [ptsT, ByteArray.size_append, e1, e2]
    omega
theorem headT_size (id la wi pr : Int) (kk : Nat) (lab : ByteArray) (h0 : 0 ≤ id ∧ id ≤ 1048576) (h1 : 0 ≤ la ∧ la ≤ 1048576) (h2 : 0 ≤ wi ∧ wi ≤ 1048576) (h3 : 0 ≤ pr ∧ pr ≤ 1048576) (hl : lab.size ≤ 6) : (headT id la kk wi pr lab).size ≤ 110 := by
  have a0 := digB_size id h0.1 h0.2
  have a1 := digB_size la h1.1 h1.2
  have a2 := digB_size wi h2.1 h2.2
  have a3 := digB_size pr h3.1 h3.2
  have a4 := kindT_size kk
  have e1 : spB.size = 1 := rfl
  have e2 : daB.size = 2 := rfl
  simp only [headT, ByteArray.size_append, e1, e2]
  omega

set_option maxHeartbeats 8000000 in
theorem l2Text_any (p : Nat) (id la wi pr : Int) (kk : Nat) (a : Option Addr) (n cap : Nat) (X Y : Nat → Int) (lab : ByteArray) (w : World)
    (hF : FeatAt w p 0 id la kk wi (.slice a n cap) lab pr) (hpt : IsPts w a n X Y) (hn : n ≤ 12) (hl : lab.size ≤ 6) (hk : kk < 4)
    (hid : 0 ≤ id ∧ id ≤ 999) (hla : 0 ≤ la ∧ la ≤ 9) (hwi : 0 ≤ wi ∧ wi ≤ 3) (hpr : 0 ≤ pr ∧ pr ≤ 9) (hXY : ∀ i, i < n → (0 ≤ X i ∧ X i ≤ 1048576) ∧ 0 ≤ Y i ∧ Y i ≤ 1048576) :
    Calls Tryd.prog 18 #[.pointer (some ⟨p, 0, none⟩)] w fun e w' => e = .returned (.string (ptsT X Y (headT id la kk wi pr lab) n)) ∧ Below w.heap.size w w' := by
  have HF : Hid (∀ W', Below w.heap.size w W' → FeatAt W' p 0 id la kk wi (.slice a n cap) lab pr) := fun W' h => hF.below h (World.block_lt_of_cell? _ _ hF.1)
  have HD : Hid (∀ (n : Int) (W : World), 0 ≤ n → n ≤ 1048576 → Calls Tryd.prog 35 #[.int .i64 n] W fun e w' => e = .returned (.string (digB n)) ∧ Below W.heap.size W w') := fun n W h0 h1 => l1Digits_any (n.toNat + 1) n W h0 (by omega) h1
  have HPT : Hid (∀ W', Below w.heap.size w W' → IsPts W' a n X Y) := fun W' h => hpt.below h
  have hlt : p < w.heap.size := World.block_lt_of_cell? _ _ hF.1
  have HT : Hid (∀ B W' : World, W' = B.alloc (.cells #[.string ⟨#[]⟩, .string ⟨#[112, 111, 105, 110, 116]⟩, .string ⟨#[108, 105, 110, 101]⟩, .string ⟨#[97, 114, 101, 97]⟩] 9) → W'.cell? ⟨B.heap.size, kk, none⟩ = some (.string (kindT kk))) := fun B W' e => by
    subst e
    match kk, hk with
    | 0, _ | 1, _ | 2, _ | 3, _ => simp [go_sem, kindT, wordP, wordL, wordA]
  have z0 : ((digB id).size : Int) ≤ 21 := by have := digB_size id (by omega) (by omega); omega
  have z1 : ((digB la).size : Int) ≤ 21 := by have := digB_size la (by omega) (by omega); omega
  have z2 : ((digB wi).size : Int) ≤ 21 := by have := digB_size wi (by omega) (by omega); omega
  have z3 : ((digB pr).size : Int) ≤ 21 := by have := digB_size pr (by omega) (by omega); omega
  have z4 : ((kindT kk).size : Int) ≤ 5 := by have := kindT_size kk; omega
  have hk0 : (0 : Int) ≤ (kk : Int) := by omega
  have hk1 : (kk : Int) < 4 := by omega
  have hk2 : ¬ (kk : Int) < 0 := by omega
  have hk3 : ¬ 4 ≤ (kk : Int) := by omega
  have hk4 : ¬ 4 ≤ kk := by omega
  obtain ⟨q0, q1, q2, q3, q4, q5, q6⟩ := hF
  simp only [Nat.zero_add] at q0 q1 q2 q3 q4 q5 q6
  have y0 : ∀ W', Below w.heap.size w W' → W'.cell? ⟨p, 0, none⟩ = some (.int .i64 id) := fun W' h => (h.cell (p := ⟨p, 0, none⟩) hlt).trans q0
  have y1 : ∀ W', Below w.heap.size w W' → W'.cell? ⟨p, 1, none⟩ = some (.int .i64 la) := fun W' h => (h.cell (p := ⟨p, 1, none⟩) hlt).trans q1
  have y2 : ∀ W', Below w.heap.size w W' → W'.cell? ⟨p, 2, none⟩ = some (.int .i64 (kk : Int)) := fun W' h => (h.cell (p := ⟨p, 2, none⟩) hlt).trans q2
  have y3 : ∀ W', Below w.heap.size w W' → W'.cell? ⟨p, 3, none⟩ = some (.int .i64 wi) := fun W' h => (h.cell (p := ⟨p, 3, none⟩) hlt).trans q3
  have y4 : ∀ W', Below w.heap.size w W' → W'.cell? ⟨p, 4, none⟩ = some (.slice a n cap) := fun W' h => (h.cell (p := ⟨p, 4, none⟩) hlt).trans q4
  have y5 : ∀ W', Below w.heap.size w W' → W'.cell? ⟨p, 5, none⟩ = some (.string lab) := fun W' h => (h.cell (p := ⟨p, 5, none⟩) hlt).trans q5
  have y6 : ∀ W', Below w.heap.size w W' → W'.cell? ⟨p, 6, none⟩ = some (.int .i64 pr) := fun W' h => (h.cell (p := ⟨p, 6, none⟩) hlt).trans q6
  clear q0 q1 q2 q3 q4 q5 q6 hpt
  go_enter Tryd.func18, Tryd.ntmps18
  go_upto_region 1 with fail
  go_cut [3] from 5 to 45 (fun t wc => t = .string (headT id la kk wi pr lab) ∧ Below w.heap.size w wc)
  case first =>
    refine wp_region_noPanic ?_
    refine wp_region_held_drew (S := fun W' => Below w.heap.size w W') (by kernel_rfl) (by have := Below.refl w.heap.size w; (repeat (first | exact Below.refl _ _ | assumption | refine Below.drew ?_ | refine bl_alloc ?_ _ | refine bl_then ?_ (by assumption) | refine Below.setCell ?_ (by first | omega | (simp; done) | (simp; omega)) _ | refine bl_store ?_ ?_ _ _))) (fun hHeld => ?_)
    have hX0 : Below w.heap.size w w.drew := hHeld
    generalize w.drew = wk0 at *
    refine takeD (i := 0) (d := some 5) (v := ?vt1) rfl rfl (by kernel_rfl) (by kernel_rfl) (by kernel_rfl) (fun _ _ _ h => h) (Or.inl ⟨by rfl, ?hyt1⟩) (by assumption) ?_
    case hyt1 => (intro w hSw; (try dsimp only at hSw); go_simp <;> with_reducible rfl)
    try simp only [Act.put, List.setIfInBounds_toArray, List.set_cons_zero, List.set_cons_succ]
    refine takeD (i := 1) (d := some 6) (v := ?vt2) rfl rfl (by kernel_rfl) (by kernel_rfl) (by kernel_rfl) (fun _ _ _ h => h) (Or.inl ⟨by rfl, ?hyt2⟩) (by assumption) ?_
    case hyt2 => (intro w hSw; (try dsimp only at hSw); go_simp <;> with_reducible rfl)
    try simp only [Act.put, List.setIfInBounds_toArray, List.set_cons_zero, List.set_cons_succ]
    refine takeD (i := 2) (d := some 7) (v := ?vt3) rfl rfl (by kernel_rfl) (by kernel_rfl) (by kernel_rfl) (fun _ _ _ h => h) (Or.inl ⟨by rfl, ?hyt3⟩) (by assumption) ?_
    case hyt3 => (intro w hSw; (try dsimp only at hSw); go_simp <;> with_reducible rfl)
    try simp only [Act.put, List.setIfInBounds_toArray, List.set_cons_zero, List.set_cons_succ]
    refine takeD (i := 3) (d := some 8) (v := ?vt4) rfl rfl (by kernel_rfl) (by kernel_rfl) (by kernel_rfl) (fun _ _ _ h => h) (Or.inl ⟨by rfl, ?hyt4⟩) (by assumption) ?_
    case hyt4 => (intro w hSw; (try dsimp only at hSw); go_simp <;> with_reducible rfl)
    try simp only [Act.put, List.setIfInBounds_toArray, List.set_cons_zero, List.set_cons_succ]
    refine takeD (i := 6) (d := some 11) (v := ?vt5) rfl rfl (by kernel_rfl) (by kernel_rfl) (by kernel_rfl) (fun _ _ _ h => h) (Or.inl ⟨by rfl, ?hyt5⟩) (by assumption) ?_
    case hyt5 => (intro w hSw; (try dsimp only at hSw); go_simp <;> with_reducible rfl)
    try simp only [Act.put, List.setIfInBounds_toArray, List.set_cons_zero, List.set_cons_succ]
    refine takeD (i := 7) (d := some 12) (v := ?vt6) rfl rfl (by kernel_rfl) (by kernel_rfl) (by kernel_rfl) (fun _ _ _ h => h) (Or.inl ⟨by rfl, ?hyt6⟩) (by assumption) ?_
    case hyt6 => (intro w hSw; (try dsimp only at hSw); go_simp <;> with_reducible rfl)
    try simp only [Act.put, List.setIfInBounds_toArray, List.set_cons_zero, List.set_cons_succ]
    refine takeD (i := 8) (d := some 13) (v := ?vt7) rfl rfl (by kernel_rfl) (by kernel_rfl) (by kernel_rfl) (fun _ _ _ h => h) (Or.inl ⟨by rfl, ?hyt7⟩) (by assumption) ?_
    case hyt7 => (intro w hSw; (try dsimp only at hSw); go_simp <;> with_reducible rfl)
    try simp only [Act.put, List.setIfInBounds_toArray, List.set_cons_zero, List.set_cons_succ]
    refine takeD (i := 9) (d := some 14) (v := ?vt8) rfl rfl (by kernel_rfl) (by kernel_rfl) (by kernel_rfl) (fun _ _ _ h => h) (Or.inl ⟨by rfl, ?hyt8⟩) (by assumption) ?_
    case hyt8 => (intro w hSw; (try dsimp only at hSw); go_simp <;> with_reducible rfl)
    try simp only [Act.put, List.setIfInBounds_toArray, List.set_cons_zero, List.set_cons_succ]
    refine takeD (i := 14) (d := some 19) (v := ?vt9) rfl rfl (by kernel_rfl) (by kernel_rfl) (by kernel_rfl) (fun _ _ _ h => h) (Or.inl ⟨by rfl, ?hyt9⟩) (by assumption) ?_
    case hyt9 => (intro w hSw; (try dsimp only at hSw); go_simp <;> with_reducible rfl)
    try simp only [Act.put, List.setIfInBounds_toArray, List.set_cons_zero, List.set_cons_succ]
    refine takeD (i := 15) (d := some 20) (v := ?vt10) rfl rfl (by kernel_rfl) (by kernel_rfl) (by kernel_rfl) (fun _ _ _ h => h) (Or.inl ⟨by rfl, ?hyt10⟩) (by assumption) ?_
    case hyt10 => (intro w hSw; (try dsimp only at hSw); go_simp <;> with_reducible rfl)
    try simp only [Act.put, List.setIfInBounds_toArray, List.set_cons_zero, List.set_cons_succ]
    refine takeD (i := 16) (d := some 21) (v := ?vt11) rfl rfl (by kernel_rfl) (by kernel_rfl) (by kernel_rfl) (fun _ _ _ h => h) (Or.inl ⟨by rfl, ?hyt11⟩) (by assumption) ?_
    case hyt11 => (intro w hSw; (try dsimp only at hSw); go_simp <;> with_reducible rfl)
    try simp only [Act.put, List.setIfInBounds_toArray, List.set_cons_zero, List.set_cons_succ]
    refine takeD (i := 17) (d := some 22) (v := ?vt12) rfl rfl (by kernel_rfl) (by kernel_rfl) (by kernel_rfl) (fun _ _ _ h => h) (Or.inl ⟨by rfl, ?hyt12⟩) (by assumption) ?_
    case hyt12 => (intro w hSw; (try dsimp only at hSw); go_simp <;> with_reducible rfl)
    try simp only [Act.put, List.setIfInBounds_toArray, List.set_cons_zero, List.set_cons_succ]
    refine takeD (i := 22) (d := some 27) (v := ?vt13) rfl rfl (by kernel_rfl) (by kernel_rfl) (by kernel_rfl) (fun _ _ _ h => h) (Or.inl ⟨by rfl, ?hyt13⟩) (by assumption) ?_
    case hyt13 => (intro w hSw; (try dsimp only at hSw); go_simp <;> with_reducible rfl)
    try simp only [Act.put, List.setIfInBounds_toArray, List.set_cons_zero, List.set_cons_succ]
    refine takeD (i := 23) (d := some 28) (v := ?vt14) rfl rfl (by kernel_rfl) (by kernel_rfl) (by kernel_rfl) (fun _ _ _ h => h) (Or.inl ⟨by rfl, ?hyt14⟩) (by assumption) ?_
    case hyt14 => (intro w hSw; (try dsimp only at hSw); go_simp <;> with_reducible rfl)
    try simp only [Act.put, List.setIfInBounds_toArray, List.set_cons_zero, List.set_cons_succ]
    refine takeD (i := 24) (d := some 29) (v := ?vt15) rfl rfl (by kernel_rfl) (by kernel_rfl) (by kernel_rfl) (fun _ _ _ h => h) (Or.inl ⟨by rfl, ?hyt15⟩) (by assumption) ?_
    case hyt15 => (intro w hSw; (try dsimp only at hSw); go_simp <;> with_reducible rfl)
    try simp only [Act.put, List.setIfInBounds_toArray, List.set_cons_zero, List.set_cons_succ]
    refine takeD (i := 25) (d := some 30) (v := ?vt16) rfl rfl (by kernel_rfl) (by kernel_rfl) (by kernel_rfl) (fun _ _ _ h => h) (Or.inl ⟨by rfl, ?hyt16⟩) (by assumption) ?_
    case hyt16 => (intro w hSw; (try dsimp only at hSw); go_simp <;> with_reducible rfl)
    try simp only [Act.put, List.setIfInBounds_toArray, List.set_cons_zero, List.set_cons_succ]
    refine takeD (i := 29) (d := some 34) (v := ?vt17) rfl rfl (by kernel_rfl) (by kernel_rfl) (by kernel_rfl) (fun _ _ _ h => h) (Or.inl ⟨by rfl, ?hyt17⟩) (by assumption) ?_
    case hyt17 => (intro w hSw; (try dsimp only at hSw); go_simp <;> with_reducible rfl)
    try simp only [Act.put, List.setIfInBounds_toArray, List.set_cons_zero, List.set_cons_succ]
    refine takeD (i := 30) (d := some 35) (v := ?vt18) rfl rfl (by kernel_rfl) (by kernel_rfl) (by kernel_rfl) (fun _ _ _ h => h) (Or.inl ⟨by rfl, ?hyt18⟩) (by assumption) ?_
    case hyt18 => (intro w hSw; (try dsimp only at hSw); go_simp <;> with_reducible rfl)
    try simp only [Act.put, List.setIfInBounds_toArray, List.set_cons_zero, List.set_cons_succ]
    refine takeD (i := 31) (d := some 36) (v := ?vt19) rfl rfl (by kernel_rfl) (by kernel_rfl) (by kernel_rfl) (fun _ _ _ h => h) (Or.inl ⟨by rfl, ?hyt19⟩) (by assumption) ?_
    case hyt19 => (intro w hSw; (try dsimp only at hSw); go_simp <;> with_reducible rfl)
    try simp only [Act.put, List.setIfInBounds_toArray, List.set_cons_zero, List.set_cons_succ]
    refine takeD (i := 32) (d := some 37) (v := ?vt20) rfl rfl (by kernel_rfl) (by kernel_rfl) (by kernel_rfl) (fun _ _ _ h => h) (Or.inl ⟨by rfl, ?hyt20⟩) (by assumption) ?_
    case hyt20 => (intro w hSw; (try dsimp only at hSw); go_simp <;> with_reducible rfl)
    try simp only [Act.put, List.setIfInBounds_toArray, List.set_cons_zero, List.set_cons_succ]
    refine takeD (i := 36) (d := some 41) (v := ?vt21) rfl rfl (by kernel_rfl) (by kernel_rfl) (by kernel_rfl) (fun _ _ _ h => h) (Or.inl ⟨by rfl, ?hyt21⟩) (by assumption) ?_
    case hyt21 => (intro w hSw; (try dsimp only at hSw); go_simp <;> with_reducible rfl)
    try simp only [Act.put, List.setIfInBounds_toArray, List.set_cons_zero, List.set_cons_succ]
    refine takeD (i := 37) (d := some 42) (v := ?vt22) rfl rfl (by kernel_rfl) (by kernel_rfl) (by kernel_rfl) (fun _ _ _ h => h) (Or.inl ⟨by rfl, ?hyt22⟩) (by assumption) ?_
    case hyt22 => (intro w hSw; (try dsimp only at hSw); go_simp <;> with_reducible rfl)
    try simp only [Act.put, List.setIfInBounds_toArray, List.set_cons_zero, List.set_cons_succ]
    refine takeD (i := 38) (d := some 43) (v := ?vt23) rfl rfl (by kernel_rfl) (by kernel_rfl) (by kernel_rfl) (fun _ _ _ h => h) (Or.inl ⟨by rfl, ?hyt23⟩) (by assumption) ?_
    case hyt23 => (intro w hSw; (try dsimp only at hSw); go_simp <;> with_reducible rfl)
    try simp only [Act.put, List.setIfInBounds_toArray, List.set_cons_zero, List.set_cons_succ]
    refine takeD (i := 39) (d := some 44) (v := ?vt24) rfl rfl (by kernel_rfl) (by kernel_rfl) (by kernel_rfl) (fun _ _ _ h => h) (Or.inl ⟨by rfl, ?hyt24⟩) (by assumption) ?_
    case hyt24 => (intro w hSw; (try dsimp only at hSw); go_simp <;> with_reducible rfl)
    try simp only [Act.put, List.setIfInBounds_toArray, List.set_cons_zero, List.set_cons_succ]
    refine wpAnyH_ready (rs := [4, 13]) (by kernel_rfl) (by simp) ?_
    refine (AllReadyH.cons rfl (fun K hK => ?_) (AllReadyH.cons rfl (fun K hK => ?_) AllReadyH.nil))
    · rw [if_pos (by rfl)]
      go_simp
      refine Calls.mono (HD.out id wk0 hid.1 (by omega)) ?_
      rintro e wk25 ⟨rfl, hb25⟩
      have hX25 : Below w.heap.size w wk25 := bl_then hX0 hb25
      clear hb25
      go_wp2_with fail
      refine hK.out _ _ hX25 (fun hHeld => ?_)
      clear hK K
      try simp only [Act.put, List.setIfInBounds_toArray, List.set_cons_zero, List.set_cons_succ]
      refine takeD (i := 5) (d := some 10) (v := ?vt26) rfl rfl (by kernel_rfl) (by kernel_rfl) (by kernel_rfl) (fun _ _ _ h => h) (Or.inl ⟨by rfl, ?hyt26⟩) (by assumption) ?_
      case hyt26 => (intro w hSw; (try dsimp only at hSw); go_simp; refine Eq.trans (if_neg (by omega)) ?_; with_reducible rfl)
      try simp only [Act.put, List.setIfInBounds_toArray, List.set_cons_zero, List.set_cons_succ]
      refine wpAnyH_ready (rs := [10, 13]) (by kernel_rfl) (by simp) ?_
      refine (AllReadyH.cons rfl (fun K hK => ?_) (AllReadyH.cons rfl (fun K hK => ?_) AllReadyH.nil))
      · rw [if_pos (by rfl)]
        go_simp
        refine Calls.mono (HD.out la wk25 hla.1 (by omega)) ?_
        rintro e wk27 ⟨rfl, hb27⟩
        have hX27 : Below w.heap.size w wk27 := bl_then hX25 hb27
        clear hb27
        go_wp2_with fail
        refine hK.out _ _ hX27 (fun hHeld => ?_)
        clear hK K
        try simp only [Act.put, List.setIfInBounds_toArray, List.set_cons_zero, List.set_cons_succ]
        refine takeD (i := 11) (d := some 16) (v := ?vt28) rfl rfl (by kernel_rfl) (by kernel_rfl) (by kernel_rfl) (fun _ _ _ h => h) (Or.inl ⟨by rfl, ?hyt28⟩) (by assumption) ?_
        case hyt28 => (intro w hSw; (try dsimp only at hSw); go_simp; refine Eq.trans (if_neg (by omega)) ?_; with_reducible rfl)
        try simp only [Act.put, List.setIfInBounds_toArray, List.set_cons_zero, List.set_cons_succ]
        refine takeD (i := 12) (d := some 17) (v := ?vt29) rfl rfl (by kernel_rfl) (by kernel_rfl) (by kernel_rfl) (fun _ _ _ h => h) (Or.inl ⟨by rfl, ?hyt29⟩) (by assumption) ?_
        case hyt29 => (intro w hSw; (try dsimp only at hSw); go_simp; refine Eq.trans (if_neg (by omega)) ?_; with_reducible rfl)
        try simp only [Act.put, List.setIfInBounds_toArray, List.set_cons_zero, List.set_cons_succ]
        refine wpAnyH_ready (rs := [13, 26]) (by kernel_rfl) (by simp) ?_
        refine (AllReadyH.cons rfl (fun K hK => ?_) (AllReadyH.cons rfl (fun K hK => ?_) AllReadyH.nil))
        · rw [if_pos (by rfl)]
          go_simp
          generalize hwA : (World.alloc _ _ : World) = wk30
          have hT30 : wk30.cell? ⟨wk27.heap.size, kk, none⟩ = some (.string (kindT kk)) := HT.out wk27 wk30 hwA.symm
          have hX30 : Below w.heap.size w wk30 := bl_then hX27 (by subst hwA; (repeat (first | exact Below.refl _ _ | assumption | refine Below.drew ?_ | refine bl_alloc ?_ _ | refine bl_then ?_ (by assumption) | refine Below.setCell ?_ (by first | omega | (simp; done) | (simp; omega)) _ | refine bl_store ?_ ?_ _ _)))
          clear hwA
          refine hK.out _ _ hX30 (fun hHeld => ?_)
          clear hK K
          try simp only [Act.put, List.setIfInBounds_toArray, List.set_cons_zero, List.set_cons_succ]
          refine takeD (i := 18) (d := some 23) (v := ?vt31) rfl rfl (by kernel_rfl) (by kernel_rfl) (by kernel_rfl) (fun _ _ _ h => h) (Or.inl ⟨by rfl, ?hyt31⟩) (by assumption) ?_
          case hyt31 => (intro w hSw; (try dsimp only at hSw); go_simp <;> with_reducible rfl)
          try simp only [Act.put, List.setIfInBounds_toArray, List.set_cons_zero, List.set_cons_succ]
          refine wpAnyH_ready (rs := [19, 26]) (by kernel_rfl) (by simp) ?_
          refine (AllReadyH.cons rfl (fun K hK => ?_) (AllReadyH.cons rfl (fun K hK => ?_) AllReadyH.nil))
          · rw [if_pos (by rfl)]
            go_simp
            refine hK.out _ _ hX30 (fun hHeld => ?_)
            clear hK K
            try simp only [Act.put, List.setIfInBounds_toArray, List.set_cons_zero, List.set_cons_succ]
            refine takeD (i := 20) (d := some 25) (v := ?vt33) rfl rfl (by kernel_rfl) (by kernel_rfl) (by kernel_rfl) (fun _ _ _ h => h) (Or.inl ⟨by rfl, ?hyt33⟩) (by assumption) ?_
            case hyt33 => (intro w hSw; (try dsimp only at hSw); go_simp; refine Eq.trans (if_neg (by omega)) ?_; with_reducible rfl)
            try simp only [Act.put, List.setIfInBounds_toArray, List.set_cons_zero, List.set_cons_succ]
            refine takeD (i := 21) (d := some 26) (v := ?vt34) rfl rfl (by kernel_rfl) (by kernel_rfl) (by kernel_rfl) (fun _ _ _ h => h) (Or.inl ⟨by rfl, ?hyt34⟩) (by assumption) ?_
            case hyt34 => (intro w hSw; (try dsimp only at hSw); go_simp; refine Eq.trans (if_neg (by omega)) ?_; with_reducible rfl)
            try simp only [Act.put, List.setIfInBounds_toArray, List.set_cons_zero, List.set_cons_succ]
            refine wpAnyH_ready (rs := [26]) (by kernel_rfl) (by simp) ?_
            refine (AllReadyH.cons rfl (fun K hK => ?_) AllReadyH.nil)
            rw [if_pos (by rfl)]
            go_simp
            refine Calls.mono (HD.out wi wk30 hwi.1 (by omega)) ?_
            rintro e wk35 ⟨rfl, hb35⟩
            have hX35 : Below w.heap.size w wk35 := bl_then hX30 hb35
            clear hb35
            go_wp2_with fail
            refine hK.out _ _ hX35 (fun hHeld => ?_)
            clear hK K
            try simp only [Act.put, List.setIfInBounds_toArray, List.set_cons_zero, List.set_cons_succ]
            refine takeD (i := 27) (d := some 32) (v := ?vt36) rfl rfl (by kernel_rfl) (by kernel_rfl) (by kernel_rfl) (fun _ _ _ h => h) (Or.inl ⟨by rfl, ?hyt36⟩) (by assumption) ?_
            case hyt36 => (intro w hSw; (try dsimp only at hSw); go_simp; refine Eq.trans (if_neg (by omega)) ?_; with_reducible rfl)
            try simp only [Act.put, List.setIfInBounds_toArray, List.set_cons_zero, List.set_cons_succ]
            refine takeD (i := 28) (d := some 33) (v := ?vt37) rfl rfl (by kernel_rfl) (by kernel_rfl) (by kernel_rfl) (fun _ _ _ h => h) (Or.inl ⟨by rfl, ?hyt37⟩) (by assumption) ?_
            case hyt37 => (intro w hSw; (try dsimp only at hSw); go_simp; refine Eq.trans (if_neg (by omega)) ?_; with_reducible rfl)
            try simp only [Act.put, List.setIfInBounds_toArray, List.set_cons_zero, List.set_cons_succ]
            refine wpAnyH_ready (rs := [33]) (by kernel_rfl) (by simp) ?_
            refine (AllReadyH.cons rfl (fun K hK => ?_) AllReadyH.nil)
            rw [if_pos (by rfl)]
            go_simp
            refine Calls.mono (HD.out pr wk35 hpr.1 (by omega)) ?_
            rintro e wk38 ⟨rfl, hb38⟩
            have hX38 : Below w.heap.size w wk38 := bl_then hX35 hb38
            clear hb38
            go_wp2_with fail
            refine hK.out _ _ hX38 (fun hHeld => ?_)
            clear hK K
            try simp only [Act.put, List.setIfInBounds_toArray, List.set_cons_zero, List.set_cons_succ]
            refine takeD (i := 34) (d := some 39) (v := ?vt39) rfl rfl (by kernel_rfl) (by kernel_rfl) (by kernel_rfl) (fun _ _ _ h => h) (Or.inl ⟨by rfl, ?hyt39⟩) (by assumption) ?_
            case hyt39 => (intro w hSw; (try dsimp only at hSw); go_simp; refine Eq.trans (if_neg (by omega)) ?_; with_reducible rfl)
            try simp only [Act.put, List.setIfInBounds_toArray, List.set_cons_zero, List.set_cons_succ]
            refine takeD (i := 35) (d := some 40) (v := ?vt40) rfl rfl (by kernel_rfl) (by kernel_rfl) (by kernel_rfl) (fun _ _ _ h => h) (Or.inl ⟨by rfl, ?hyt40⟩) (by assumption) ?_
            case hyt40 => (intro w hSw; (try dsimp only at hSw); go_simp; refine Eq.trans (if_neg (by omega)) ?_; with_reducible rfl)
            try simp only [Act.put, List.setIfInBounds_toArray, List.set_cons_zero, List.set_cons_succ]
            refine takeD (i := 40) (d := some 45) (v := ?vt41) rfl rfl (by kernel_rfl) (by kernel_rfl) (by kernel_rfl) (fun _ _ _ h => h) (Or.inl ⟨by rfl, ?hyt41⟩) (by assumption) ?_
            case hyt41 => (intro w hSw; (try dsimp only at hSw); go_simp; refine Eq.trans (if_neg (by omega)) ?_; with_reducible rfl)
            try simp only [Act.put, List.setIfInBounds_toArray, List.set_cons_zero, List.set_cons_succ]
            refine takeD (i := 41) (d := some 3) (v := ?vt42) rfl rfl (by kernel_rfl) (by kernel_rfl) (by kernel_rfl) (fun _ _ _ h => h) (Or.inl ⟨by rfl, ?hyt42⟩) (by assumption) ?_
            case hyt42 => (intro w hSw; (try dsimp only at hSw); go_simp <;> with_reducible rfl)
            try simp only [Act.put, List.setIfInBounds_toArray, List.set_cons_zero, List.set_cons_succ]
            refine wpAnyH_done (by kernel_rfl) ?_ _
            refine NoPanic.normal ?_
            go_wp2_with fail
            go_meet
            case rel => exact ⟨rfl, hX38⟩
          · rw [if_pos (by rfl)]
            go_simp
            refine Calls.mono (HD.out wi wk30 hwi.1 (by omega)) ?_
            rintro e wk43 ⟨rfl, hb43⟩
            have hX43 : Below w.heap.size w wk43 := bl_then hX30 hb43
            have hT43 : wk43.cell? ⟨wk27.heap.size, kk, none⟩ = some (.string (kindT kk)) := (hb43.cell (World.block_lt_of_cell? _ _ hT30)).trans hT30
            clear hb43
            go_wp2_with fail
            refine hK.out _ _ hX43 (fun hHeld => ?_)
            clear hK K
            try simp only [Act.put, List.setIfInBounds_toArray, List.set_cons_zero, List.set_cons_succ]
            refine wpAnyH_ready (rs := [19, 33]) (by kernel_rfl) (by simp) ?_
            refine (AllReadyH.cons rfl (fun K hK => ?_) (AllReadyH.cons rfl (fun K hK => ?_) AllReadyH.nil))
            · rw [if_pos (by rfl)]
              go_simp
              refine hK.out _ _ hX43 (fun hHeld => ?_)
              clear hK K
              try simp only [Act.put, List.setIfInBounds_toArray, List.set_cons_zero, List.set_cons_succ]
              refine takeD (i := 20) (d := some 25) (v := ?vt45) rfl rfl (by kernel_rfl) (by kernel_rfl) (by kernel_rfl) (fun _ _ _ h => h) (Or.inl ⟨by rfl, ?hyt45⟩) (by assumption) ?_
              case hyt45 => (intro w hSw; (try dsimp only at hSw); go_simp; refine Eq.trans (if_neg (by omega)) ?_; with_reducible rfl)
              try simp only [Act.put, List.setIfInBounds_toArray, List.set_cons_zero, List.set_cons_succ]
              refine takeD (i := 21) (d := some 26) (v := ?vt46) rfl rfl (by kernel_rfl) (by kernel_rfl) (by kernel_rfl) (fun _ _ _ h => h) (Or.inl ⟨by rfl, ?hyt46⟩) (by assumption) ?_
              case hyt46 => (intro w hSw; (try dsimp only at hSw); go_simp; refine Eq.trans (if_neg (by omega)) ?_; with_reducible rfl)
              try simp only [Act.put, List.setIfInBounds_toArray, List.set_cons_zero, List.set_cons_succ]
              refine takeD (i := 27) (d := some 32) (v := ?vt47) rfl rfl (by kernel_rfl) (by kernel_rfl) (by kernel_rfl) (fun _ _ _ h => h) (Or.inl ⟨by rfl, ?hyt47⟩) (by assumption) ?_
              case hyt47 => (intro w hSw; (try dsimp only at hSw); go_simp; refine Eq.trans (if_neg (by omega)) ?_; with_reducible rfl)
              try simp only [Act.put, List.setIfInBounds_toArray, List.set_cons_zero, List.set_cons_succ]
              refine takeD (i := 28) (d := some 33) (v := ?vt48) rfl rfl (by kernel_rfl) (by kernel_rfl) (by kernel_rfl) (fun _ _ _ h => h) (Or.inl ⟨by rfl, ?hyt48⟩) (by assumption) ?_
              case hyt48 => (intro w hSw; (try dsimp only at hSw); go_simp; refine Eq.trans (if_neg (by omega)) ?_; with_reducible rfl)
              try simp only [Act.put, List.setIfInBounds_toArray, List.set_cons_zero, List.set_cons_succ]
              refine wpAnyH_ready (rs := [33]) (by kernel_rfl) (by simp) ?_
              refine (AllReadyH.cons rfl (fun K hK => ?_) AllReadyH.nil)
              rw [if_pos (by rfl)]
              go_simp
              refine Calls.mono (HD.out pr wk43 hpr.1 (by omega)) ?_
              rintro e wk49 ⟨rfl, hb49⟩
              have hX49 : Below w.heap.size w wk49 := bl_then hX43 hb49
              clear hb49
              go_wp2_with fail
              refine hK.out _ _ hX49 (fun hHeld => ?_)
              clear hK K
              try simp only [Act.put, List.setIfInBounds_toArray, List.set_cons_zero, List.set_cons_succ]
              refine takeD (i := 34) (d := some 39) (v := ?vt50) rfl rfl (by kernel_rfl) (by kernel_rfl) (by kernel_rfl) (fun _ _ _ h => h) (Or.inl ⟨by rfl, ?hyt50⟩) (by assumption) ?_
              case hyt50 => (intro w hSw; (try dsimp only at hSw); go_simp; refine Eq.trans (if_neg (by omega)) ?_; with_reducible rfl)
              try simp only [Act.put, List.setIfInBounds_toArray, List.set_cons_zero, List.set_cons_succ]
              refine takeD (i := 35) (d := some 40) (v := ?vt51) rfl rfl (by kernel_rfl) (by kernel_rfl) (by kernel_rfl) (fun _ _ _ h => h) (Or.inl ⟨by rfl, ?hyt51⟩) (by assumption) ?_
              case hyt51 => (intro w hSw; (try dsimp only at hSw); go_simp; refine Eq.trans (if_neg (by omega)) ?_; with_reducible rfl)
              try simp only [Act.put, List.setIfInBounds_toArray, List.set_cons_zero, List.set_cons_succ]
              refine takeD (i := 40) (d := some 45) (v := ?vt52) rfl rfl (by kernel_rfl) (by kernel_rfl) (by kernel_rfl) (fun _ _ _ h => h) (Or.inl ⟨by rfl, ?hyt52⟩) (by assumption) ?_
              case hyt52 => (intro w hSw; (try dsimp only at hSw); go_simp; refine Eq.trans (if_neg (by omega)) ?_; with_reducible rfl)
              try simp only [Act.put, List.setIfInBounds_toArray, List.set_cons_zero, List.set_cons_succ]
              refine takeD (i := 41) (d := some 3) (v := ?vt53) rfl rfl (by kernel_rfl) (by kernel_rfl) (by kernel_rfl) (fun _ _ _ h => h) (Or.inl ⟨by rfl, ?hyt53⟩) (by assumption) ?_
              case hyt53 => (intro w hSw; (try dsimp only at hSw); go_simp <;> with_reducible rfl)
              try simp only [Act.put, List.setIfInBounds_toArray, List.set_cons_zero, List.set_cons_succ]
              refine wpAnyH_done (by kernel_rfl) ?_ _
              refine NoPanic.normal ?_
              go_wp2_with fail
              go_meet
              case rel => exact ⟨rfl, hX49⟩
            · rw [if_pos (by rfl)]
              go_simp
              refine Calls.mono (HD.out pr wk43 hpr.1 (by omega)) ?_
              rintro e wk54 ⟨rfl, hb54⟩
              have hX54 : Below w.heap.size w wk54 := bl_then hX43 hb54
              have hT54 : wk54.cell? ⟨wk27.heap.size, kk, none⟩ = some (.string (kindT kk)) := (hb54.cell (World.block_lt_of_cell? _ _ hT43)).trans hT43
              clear hb54
              go_wp2_with fail
              refine hK.out _ _ hX54 (fun hHeld => ?_)
              clear hK K
              try simp only [Act.put, List.setIfInBounds_toArray, List.set_cons_zero, List.set_cons_succ]
              refine wpAnyH_ready (rs := [19]) (by kernel_rfl) (by simp) ?_
              refine (AllReadyH.cons rfl (fun K hK => ?_) AllReadyH.nil)
              rw [if_pos (by rfl)]
              go_simp
              refine hK.out _ _ hX54 (fun hHeld => ?_)
              clear hK K
              try simp only [Act.put, List.setIfInBounds_toArray, List.set_cons_zero, List.set_cons_succ]
              refine takeD (i := 20) (d := some 25) (v := ?vt56) rfl rfl (by kernel_rfl) (by kernel_rfl) (by kernel_rfl) (fun _ _ _ h => h) (Or.inl ⟨by rfl, ?hyt56⟩) (by assumption) ?_
              case hyt56 => (intro w hSw; (try dsimp only at hSw); go_simp; refine Eq.trans (if_neg (by omega)) ?_; with_reducible rfl)
              try simp only [Act.put, List.setIfInBounds_toArray, List.set_cons_zero, List.set_cons_succ]
              refine takeD (i := 21) (d := some 26) (v := ?vt57) rfl rfl (by kernel_rfl) (by kernel_rfl) (by kernel_rfl) (fun _ _ _ h => h) (Or.inl ⟨by rfl, ?hyt57⟩) (by assumption) ?_
              case hyt57 => (intro w hSw; (try dsimp only at hSw); go_simp; refine Eq.trans (if_neg (by omega)) ?_; with_reducible rfl)
              try simp only [Act.put, List.setIfInBounds_toArray, List.set_cons_zero, List.set_cons_succ]
              refine takeD (i := 27) (d := some 32) (v := ?vt58) rfl rfl (by kernel_rfl) (by kernel_rfl) (by kernel_rfl) (fun _ _ _ h => h) (Or.inl ⟨by rfl, ?hyt58⟩) (by assumption) ?_
              case hyt58 => (intro w hSw; (try dsimp only at hSw); go_simp; refine Eq.trans (if_neg (by omega)) ?_; with_reducible rfl)
              try simp only [Act.put, List.setIfInBounds_toArray, List.set_cons_zero, List.set_cons_succ]
              refine takeD (i := 28) (d := some 33) (v := ?vt59) rfl rfl (by kernel_rfl) (by kernel_rfl) (by kernel_rfl) (fun _ _ _ h => h) (Or.inl ⟨by rfl, ?hyt59⟩) (by assumption) ?_
              case hyt59 => (intro w hSw; (try dsimp only at hSw); go_simp; refine Eq.trans (if_neg (by omega)) ?_; with_reducible rfl)
              try simp only [Act.put, List.setIfInBounds_toArray, List.set_cons_zero, List.set_cons_succ]
              refine takeD (i := 34) (d := some 39) (v := ?vt60) rfl rfl (by kernel_rfl) (by kernel_rfl) (by kernel_rfl) (fun _ _ _ h => h) (Or.inl ⟨by rfl, ?hyt60⟩) (by assumption) ?_
              case hyt60 => (intro w hSw; (try dsimp only at hSw); go_simp; refine Eq.trans (if_neg (by omega)) ?_; with_reducible rfl)
              try simp only [Act.put, List.setIfInBounds_toArray, List.set_cons_zero, List.set_cons_succ]
              refine takeD (i := 35) (d := some 40) (v := ?vt61) rfl rfl (by kernel_rfl) (by kernel_rfl) (by kernel_rfl) (fun _ _ _ h => h) (Or.inl ⟨by rfl, ?hyt61⟩) (by assumption) ?_
              case hyt61 => (intro w hSw; (try dsimp only at hSw); go_simp; refine Eq.trans (if_neg (by omega)) ?_; with_reducible rfl)
              try simp only [Act.put, List.setIfInBounds_toArray, List.set_cons_zero, List.set_cons_succ]
              refine takeD (i := 40) (d := some 45) (v := ?vt62) rfl rfl (by kernel_rfl) (by kernel_rfl) (by kernel_rfl) (fun _ _ _ h => h) (Or.inl ⟨by rfl, ?hyt62⟩) (by assumption) ?_
              case hyt62 => (intro w hSw; (try dsimp only at hSw); go_simp; refine Eq.trans (if_neg (by omega)) ?_; with_reducible rfl)
              try simp only [Act.put, List.setIfInBounds_toArray, List.set_cons_zero, List.set_cons_succ]
              refine takeD (i := 41) (d := some 3) (v := ?vt63) rfl rfl (by kernel_rfl) (by kernel_rfl) (by kernel_rfl) (fun _ _ _ h => h) (Or.inl ⟨by rfl, ?hyt63⟩) (by assumption) ?_
              case hyt63 => (intro w hSw; (try dsimp only at hSw); go_simp <;> with_reducible rfl)
              try simp only [Act.put, List.setIfInBounds_toArray, List.set_cons_zero, List.set_cons_succ]
              refine wpAnyH_done (by kernel_rfl) ?_ _
              refine NoPanic.normal ?_
              go_wp2_with fail
              go_meet
              case rel => exact ⟨rfl, hX54⟩
        · rw [if_pos (by rfl)]
          go_simp
          refine Calls.mono (HD.out wi wk27 hwi.1 (by omega)) ?_
          rintro e wk64 ⟨rfl, hb64⟩
          have hX64 : Below w.heap.size w wk64 := bl_then hX27 hb64
          clear hb64
          go_wp2_with fail
          refine hK.out _ _ hX64 (fun hHeld => ?_)
          clear hK K
          try simp only [Act.put, List.setIfInBounds_toArray, List.set_cons_zero, List.set_cons_succ]
          refine wpAnyH_ready (rs := [13, 33]) (by kernel_rfl) (by simp) ?_
          refine (AllReadyH.cons rfl (fun K hK => ?_) (AllReadyH.cons rfl (fun K hK => ?_) AllReadyH.nil))
          · rw [if_pos (by rfl)]
            go_simp
            generalize hwA : (World.alloc _ _ : World) = wk65
            have hT65 : wk65.cell? ⟨wk64.heap.size, kk, none⟩ = some (.string (kindT kk)) := HT.out wk64 wk65 hwA.symm
            have hX65 : Below w.heap.size w wk65 := bl_then hX64 (by subst hwA; (repeat (first | exact Below.refl _ _ | assumption | refine Below.drew ?_ | refine bl_alloc ?_ _ | refine bl_then ?_ (by assumption) | refine Below.setCell ?_ (by first | omega | (simp; done) | (simp; omega)) _ | refine bl_store ?_ ?_ _ _)))
            clear hwA
            refine hK.out _ _ hX65 (fun hHeld => ?_)
            clear hK K
            try simp only [Act.put, List.setIfInBounds_toArray, List.set_cons_zero, List.set_cons_succ]
            refine takeD (i := 18) (d := some 23) (v := ?vt66) rfl rfl (by kernel_rfl) (by kernel_rfl) (by kernel_rfl) (fun _ _ _ h => h) (Or.inl ⟨by rfl, ?hyt66⟩) (by assumption) ?_
            case hyt66 => (intro w hSw; (try dsimp only at hSw); go_simp <;> with_reducible rfl)
            try simp only [Act.put, List.setIfInBounds_toArray, List.set_cons_zero, List.set_cons_succ]
            refine wpAnyH_ready (rs := [19, 33]) (by kernel_rfl) (by simp) ?_
            refine (AllReadyH.cons rfl (fun K hK => ?_) (AllReadyH.cons rfl (fun K hK => ?_) AllReadyH.nil))
            · rw [if_pos (by rfl)]
              go_simp
              refine hK.out _ _ hX65 (fun hHeld => ?_)
              clear hK K
              try simp only [Act.put, List.setIfInBounds_toArray, List.set_cons_zero, List.set_cons_succ]
              refine takeD (i := 20) (d := some 25) (v := ?vt68) rfl rfl (by kernel_rfl) (by kernel_rfl) (by kernel_rfl) (fun _ _ _ h => h) (Or.inl ⟨by rfl, ?hyt68⟩) (by assumption) ?_
              case hyt68 => (intro w hSw; (try dsimp only at hSw); go_simp; refine Eq.trans (if_neg (by omega)) ?_; with_reducible rfl)
              try simp only [Act.put, List.setIfInBounds_toArray, List.set_cons_zero, List.set_cons_succ]
              refine takeD (i := 21) (d := some 26) (v := ?vt69) rfl rfl (by kernel_rfl) (by kernel_rfl) (by kernel_rfl) (fun _ _ _ h => h) (Or.inl ⟨by rfl, ?hyt69⟩) (by assumption) ?_
              case hyt69 => (intro w hSw; (try dsimp only at hSw); go_simp; refine Eq.trans (if_neg (by omega)) ?_; with_reducible rfl)
              try simp only [Act.put, List.setIfInBounds_toArray, List.set_cons_zero, List.set_cons_succ]
              refine takeD (i := 27) (d := some 32) (v := ?vt70) rfl rfl (by kernel_rfl) (by kernel_rfl) (by kernel_rfl) (fun _ _ _ h => h) (Or.inl ⟨by rfl, ?hyt70⟩) (by assumption) ?_
              case hyt70 => (intro w hSw; (try dsimp only at hSw); go_simp; refine Eq.trans (if_neg (by omega)) ?_; with_reducible rfl)
              try simp only [Act.put, List.setIfInBounds_toArray, List.set_cons_zero, List.set_cons_succ]
              refine takeD (i := 28) (d := some 33) (v := ?vt71) rfl rfl (by kernel_rfl) (by kernel_rfl) (by kernel_rfl) (fun _ _ _ h => h) (Or.inl ⟨by rfl, ?hyt71⟩) (by assumption) ?_
              case hyt71 => (intro w hSw; (try dsimp only at hSw); go_simp; refine Eq.trans (if_neg (by omega)) ?_; with_reducible rfl)
              try simp only [Act.put, List.setIfInBounds_toArray, List.set_cons_zero, List.set_cons_succ]
              refine wpAnyH_ready (rs := [33]) (by kernel_rfl) (by simp) ?_
              refine (AllReadyH.cons rfl (fun K hK => ?_) AllReadyH.nil)
              rw [if_pos (by rfl)]
              go_simp
              refine Calls.mono (HD.out pr wk65 hpr.1 (by omega)) ?_
              rintro e wk72 ⟨rfl, hb72⟩
              have hX72 : Below w.heap.size w wk72 := bl_then hX65 hb72
              clear hb72
              go_wp2_with fail
              refine hK.out _ _ hX72 (fun hHeld => ?_)
              clear hK K
              try simp only [Act.put, List.setIfInBounds_toArray, List.set_cons_zero, List.set_cons_succ]
              refine takeD (i := 34) (d := some 39) (v := ?vt73) rfl rfl (by kernel_rfl) (by kernel_rfl) (by kernel_rfl) (fun _ _ _ h => h) (Or.inl ⟨by rfl, ?hyt73⟩) (by assumption) ?_
              case hyt73 => (intro w hSw; (try dsimp only at hSw); go_simp; refine Eq.trans (if_neg (by omega)) ?_; with_reducible rfl)
              try simp only [Act.put, List.setIfInBounds_toArray, List.set_cons_zero, List.set_cons_succ]
              refine takeD (i := 35) (d := some 40) (v := ?vt74) rfl rfl (by kernel_rfl) (by kernel_rfl) (by kernel_rfl) (fun _ _ _ h => h) (Or.inl ⟨by rfl, ?hyt74⟩) (by assumption) ?_
              case hyt74 => (intro w hSw; (try dsimp only at hSw); go_simp; refine Eq.trans (if_neg (by omega)) ?_; with_reducible rfl)
              try simp only [Act.put, List.setIfInBounds_toArray, List.set_cons_zero, List.set_cons_succ]
              refine takeD (i := 40) (d := some 45) (v := ?vt75) rfl rfl (by kernel_rfl) (by kernel_rfl) (by kernel_rfl) (fun _ _ _ h => h) (Or.inl ⟨by rfl, ?hyt75⟩) (by assumption) ?_
              case hyt75 => (intro w hSw; (try dsimp only at hSw); go_simp; refine Eq.trans (if_neg (by omega)) ?_; with_reducible rfl)
              try simp only [Act.put, List.setIfInBounds_toArray, List.set_cons_zero, List.set_cons_succ]
              refine takeD (i := 41) (d := some 3) (v := ?vt76) rfl rfl (by kernel_rfl) (by kernel_rfl) (by kernel_rfl) (fun _ _ _ h => h) (Or.inl ⟨by rfl, ?hyt76⟩) (by assumption) ?_
              case hyt76 => (intro w hSw; (try dsimp only at hSw); go_simp <;> with_reducible rfl)
              try simp only [Act.put, List.setIfInBounds_toArray, List.set_cons_zero, List.set_cons_succ]
              refine wpAnyH_done (by kernel_rfl) ?_ _
              refine NoPanic.normal ?_
              go_wp2_with fail
              go_meet
              case rel => exact ⟨rfl, hX72⟩
            · rw [if_pos (by rfl)]
              go_simp
              refine Calls.mono (HD.out pr wk65 hpr.1 (by omega)) ?_
              rintro e wk77 ⟨rfl, hb77⟩
              have hX77 : Below w.heap.size w wk77 := bl_then hX65 hb77
              have hT77 : wk77.cell? ⟨wk64.heap.size, kk, none⟩ = some (.string (kindT kk)) := (hb77.cell (World.block_lt_of_cell? _ _ hT65)).trans hT65
              clear hb77
              go_wp2_with fail
              refine hK.out _ _ hX77 (fun hHeld => ?_)
              clear hK K
              try simp only [Act.put, List.setIfInBounds_toArray, List.set_cons_zero, List.set_cons_succ]
              refine wpAnyH_ready (rs := [19]) (by kernel_rfl) (by simp) ?_
              refine (AllReadyH.cons rfl (fun K hK => ?_) AllReadyH.nil)
              rw [if_pos (by rfl)]
              go_simp
              refine hK.out _ _ hX77 (fun hHeld => ?_)
              clear hK K
              try simp only [Act.put, List.setIfInBounds_toArray, List.set_cons_zero, List.set_cons_succ]
              refine takeD (i := 20) (d := some 25) (v := ?vt79) rfl rfl (by kernel_rfl) (by kernel_rfl) (by kernel_rfl) (fun _ _ _ h => h) (Or.inl ⟨by rfl, ?hyt79⟩) (by assumption) ?_
              case hyt79 => (intro w hSw; (try dsimp only at hSw); go_simp; refine Eq.trans (if_neg (by omega)) ?_; with_reducible rfl)
              try simp only [Act.put, List.setIfInBounds_toArray, List.set_cons_zero, List.set_cons_succ]
              refine takeD (i := 21) (d := some 26) (v := ?vt80) rfl rfl (by kernel_rfl) (by kernel_rfl) (by kernel_rfl) (fun _ _ _ h => h) (Or.inl ⟨by rfl, ?hyt80⟩) (by assumption) ?_
              case hyt80 => (intro w hSw; (try dsimp only at hSw); go_simp; refine Eq.trans (if_neg (by omega)) ?_; with_reducible rfl)
              try simp only [Act.put, List.setIfInBounds_toArray, List.set_cons_zero, List.set_cons_succ]
              refine takeD (i := 27) (d := some 32) (v := ?vt81) rfl rfl (by kernel_rfl) (by kernel_rfl) (by kernel_rfl) (fun _ _ _ h => h) (Or.inl ⟨by rfl, ?hyt81⟩) (by assumption) ?_
              case hyt81 => (intro w hSw; (try dsimp only at hSw); go_simp; refine Eq.trans (if_neg (by omega)) ?_; with_reducible rfl)
              try simp only [Act.put, List.setIfInBounds_toArray, List.set_cons_zero, List.set_cons_succ]
              refine takeD (i := 28) (d := some 33) (v := ?vt82) rfl rfl (by kernel_rfl) (by kernel_rfl) (by kernel_rfl) (fun _ _ _ h => h) (Or.inl ⟨by rfl, ?hyt82⟩) (by assumption) ?_
              case hyt82 => (intro w hSw; (try dsimp only at hSw); go_simp; refine Eq.trans (if_neg (by omega)) ?_; with_reducible rfl)
              try simp only [Act.put, List.setIfInBounds_toArray, List.set_cons_zero, List.set_cons_succ]
              refine takeD (i := 34) (d := some 39) (v := ?vt83) rfl rfl (by kernel_rfl) (by kernel_rfl) (by kernel_rfl) (fun _ _ _ h => h) (Or.inl ⟨by rfl, ?hyt83⟩) (by assumption) ?_
              case hyt83 => (intro w hSw; (try dsimp only at hSw); go_simp; refine Eq.trans (if_neg (by omega)) ?_; with_reducible rfl)
              try simp only [Act.put, List.setIfInBounds_toArray, List.set_cons_zero, List.set_cons_succ]
              refine takeD (i := 35) (d := some 40) (v := ?vt84) rfl rfl (by kernel_rfl) (by kernel_rfl) (by kernel_rfl) (fun _ _ _ h => h) (Or.inl ⟨by rfl, ?hyt84⟩) (by assumption) ?_
              case hyt84 => (intro w hSw; (try dsimp only at hSw); go_simp; refine Eq.trans (if_neg (by omega)) ?_; with_reducible rfl)
              try simp only [Act.put, List.setIfInBounds_toArray, List.set_cons_zero, List.set_cons_succ]
              refine takeD (i := 40) (d := some 45) (v := ?vt85) rfl rfl (by kernel_rfl) (by kernel_rfl) (by kernel_rfl) (fun _ _ _ h => h) (Or.inl ⟨by rfl, ?hyt85⟩) (by assumption) ?_
              case hyt85 => (intro w hSw; (try dsimp only at hSw); go_simp; refine Eq.trans (if_neg (by omega)) ?_; with_reducible rfl)
              try simp only [Act.put, List.setIfInBounds_toArray, List.set_cons_zero, List.set_cons_succ]
              refine takeD (i := 41) (d := some 3) (v := ?vt86) rfl rfl (by kernel_rfl) (by kernel_rfl) (by kernel_rfl) (fun _ _ _ h => h) (Or.inl ⟨by rfl, ?hyt86⟩) (by assumption) ?_
              case hyt86 => (intro w hSw; (try dsimp only at hSw); go_simp <;> with_reducible rfl)
              try simp only [Act.put, List.setIfInBounds_toArray, List.set_cons_zero, List.set_cons_succ]
              refine wpAnyH_done (by kernel_rfl) ?_ _
              refine NoPanic.normal ?_
              go_wp2_with fail
              go_meet
              case rel => exact ⟨rfl, hX77⟩
          · rw [if_pos (by rfl)]
            go_simp
            refine Calls.mono (HD.out pr wk64 hpr.1 (by omega)) ?_
            rintro e wk87 ⟨rfl, hb87⟩
            have hX87 : Below w.heap.size w wk87 := bl_then hX64 hb87
            clear hb87
            go_wp2_with fail
            refine hK.out _ _ hX87 (fun hHeld => ?_)
            clear hK K
            try simp only [Act.put, List.setIfInBounds_toArray, List.set_cons_zero, List.set_cons_succ]
            refine wpAnyH_ready (rs := [13]) (by kernel_rfl) (by simp) ?_
            refine (AllReadyH.cons rfl (fun K hK => ?_) AllReadyH.nil)
            rw [if_pos (by rfl)]
            go_simp
            generalize hwA : (World.alloc _ _ : World) = wk88
            have hT88 : wk88.cell? ⟨wk87.heap.size, kk, none⟩ = some (.string (kindT kk)) := HT.out wk87 wk88 hwA.symm
            have hX88 : Below w.heap.size w wk88 := bl_then hX87 (by subst hwA; (repeat (first | exact Below.refl _ _ | assumption | refine Below.drew ?_ | refine bl_alloc ?_ _ | refine bl_then ?_ (by assumption) | refine Below.setCell ?_ (by first | omega | (simp; done) | (simp; omega)) _ | refine bl_store ?_ ?_ _ _)))
            clear hwA
            refine hK.out _ _ hX88 (fun hHeld => ?_)
            clear hK K
            try simp only [Act.put, List.setIfInBounds_toArray, List.set_cons_zero, List.set_cons_succ]
            refine takeD (i := 18) (d := some 23) (v := ?vt89) rfl rfl (by kernel_rfl) (by kernel_rfl) (by kernel_rfl) (fun _ _ _ h => h) (Or.inl ⟨by rfl, ?hyt89⟩) (by assumption) ?_
            case hyt89 => (intro w hSw; (try dsimp only at hSw); go_simp <;> with_reducible rfl)
            try simp only [Act.put, List.setIfInBounds_toArray, List.set_cons_zero, List.set_cons_succ]
            refine wpAnyH_ready (rs := [19]) (by kernel_rfl) (by simp) ?_
            refine (AllReadyH.cons rfl (fun K hK => ?_) AllReadyH.nil)
            rw [if_pos (by rfl)]
            go_simp
            refine hK.out _ _ hX88 (fun hHeld => ?_)
            clear hK K
            try simp only [Act.put, List.setIfInBounds_toArray, List.set_cons_zero, List.set_cons_succ]
            refine takeD (i := 20) (d := some 25) (v := ?vt91) rfl rfl (by kernel_rfl) (by kernel_rfl) (by kernel_rfl) (fun _ _ _ h => h) (Or.inl ⟨by rfl, ?hyt91⟩) (by assumption) ?_
            case hyt91 => (intro w hSw; (try dsimp only at hSw); go_simp; refine Eq.trans (if_neg (by omega)) ?_; with_reducible rfl)
            try simp only [Act.put, List.setIfInBounds_toArray, List.set_cons_zero, List.set_cons_succ]
            refine takeD (i := 21) (d := some 26) (v := ?vt92) rfl rfl (by kernel_rfl) (by kernel_rfl) (by kernel_rfl) (fun _ _ _ h => h) (Or.inl ⟨by rfl, ?hyt92⟩) (by assumption) ?_
            case hyt92 => (intro w hSw; (try dsimp only at hSw); go_simp; refine Eq.trans (if_neg (by omega)) ?_; with_reducible rfl)
            try simp only [Act.put, List.setIfInBounds_toArray, List.set_cons_zero, List.set_cons_succ]
            refine takeD (i := 27) (d := some 32) (v := ?vt93) rfl rfl (by kernel_rfl) (by kernel_rfl) (by kernel_rfl) (fun _ _ _ h => h) (Or.inl ⟨by rfl, ?hyt93⟩) (by assumption) ?_
            case hyt93 => (intro w hSw; (try dsimp only at hSw); go_simp; refine Eq.trans (if_neg (by omega)) ?_; with_reducible rfl)
            try simp only [Act.put, List.setIfInBounds_toArray, List.set_cons_zero, List.set_cons_succ]
            refine takeD (i := 28) (d := some 33) (v := ?vt94) rfl rfl (by kernel_rfl) (by kernel_rfl) (by kernel_rfl) (fun _ _ _ h => h) (Or.inl ⟨by rfl, ?hyt94⟩) (by assumption) ?_
            case hyt94 => (intro w hSw; (try dsimp only at hSw); go_simp; refine Eq.trans (if_neg (by omega)) ?_; with_reducible rfl)
            try simp only [Act.put, List.setIfInBounds_toArray, List.set_cons_zero, List.set_cons_succ]
            refine takeD (i := 34) (d := some 39) (v := ?vt95) rfl rfl (by kernel_rfl) (by kernel_rfl) (by kernel_rfl) (fun _ _ _ h => h) (Or.inl ⟨by rfl, ?hyt95⟩) (by assumption) ?_
            case hyt95 => (intro w hSw; (try dsimp only at hSw); go_simp; refine Eq.trans (if_neg (by omega)) ?_; with_reducible rfl)
            try simp only [Act.put, List.setIfInBounds_toArray, List.set_cons_zero, List.set_cons_succ]
            refine takeD (i := 35) (d := some 40) (v := ?vt96) rfl rfl (by kernel_rfl) (by kernel_rfl) (by kernel_rfl) (fun _ _ _ h => h) (Or.inl ⟨by rfl, ?hyt96⟩) (by assumption) ?_
            case hyt96 => (intro w hSw; (try dsimp only at hSw); go_simp; refine Eq.trans (if_neg (by omega)) ?_; with_reducible rfl)
            try simp only [Act.put, List.setIfInBounds_toArray, List.set_cons_zero, List.set_cons_succ]
            refine takeD (i := 40) (d := some 45) (v := ?vt97) rfl rfl (by kernel_rfl) (by kernel_rfl) (by kernel_rfl) (fun _ _ _ h => h) (Or.inl ⟨by rfl, ?hyt97⟩) (by assumption) ?_
            case hyt97 => (intro w hSw; (try dsimp only at hSw); go_simp; refine Eq.trans (if_neg (by omega)) ?_; with_reducible rfl)
            try simp only [Act.put, List.setIfInBounds_toArray, List.set_cons_zero, List.set_cons_succ]
            refine takeD (i := 41) (d := some 3) (v := ?vt98) rfl rfl (by kernel_rfl) (by kernel_rfl) (by kernel_rfl) (fun _ _ _ h => h) (Or.inl ⟨by rfl, ?hyt98⟩) (by assumption) ?_
            case hyt98 => (intro w hSw; (try dsimp only at hSw); go_simp <;> with_reducible rfl)
            try simp only [Act.put, List.setIfInBounds_toArray, List.set_cons_zero, List.set_cons_succ]
            refine wpAnyH_done (by kernel_rfl) ?_ _
            refine NoPanic.normal ?_
            go_wp2_with fail
            go_meet
            case rel => exact ⟨rfl, hX88⟩
      · rw [if_pos (by rfl)]
        go_simp
        generalize hwA : (World.alloc _ _ : World) = wk99
        have hT99 : wk99.cell? ⟨wk25.heap.size, kk, none⟩ = some (.string (kindT kk)) := HT.out wk25 wk99 hwA.symm
        have hX99 : Below w.heap.size w wk99 := bl_then hX25 (by subst hwA; (repeat (first | exact Below.refl _ _ | assumption | refine Below.drew ?_ | refine bl_alloc ?_ _ | refine bl_then ?_ (by assumption) | refine Below.setCell ?_ (by first | omega | (simp; done) | (simp; omega)) _ | refine bl_store ?_ ?_ _ _)))
        clear hwA
        refine hK.out _ _ hX99 (fun hHeld => ?_)
        clear hK K
        try simp only [Act.put, List.setIfInBounds_toArray, List.set_cons_zero, List.set_cons_succ]
        refine takeD (i := 18) (d := some 23) (v := ?vt100) rfl rfl (by kernel_rfl) (by kernel_rfl) (by kernel_rfl) (fun _ _ _ h => h) (Or.inl ⟨by rfl, ?hyt100⟩) (by assumption) ?_
        case hyt100 => (intro w hSw; (try dsimp only at hSw); go_simp <;> with_reducible rfl)
        try simp only [Act.put, List.setIfInBounds_toArray, List.set_cons_zero, List.set_cons_succ]
        refine wpAnyH_ready (rs := [10, 19]) (by kernel_rfl) (by simp) ?_
        refine (AllReadyH.cons rfl (fun K hK => ?_) (AllReadyH.cons rfl (fun K hK => ?_) AllReadyH.nil))
        · rw [if_pos (by rfl)]
          go_simp
          refine Calls.mono (HD.out la wk99 hla.1 (by omega)) ?_
          rintro e wk101 ⟨rfl, hb101⟩
          have hX101 : Below w.heap.size w wk101 := bl_then hX99 hb101
          have hT101 : wk101.cell? ⟨wk25.heap.size, kk, none⟩ = some (.string (kindT kk)) := (hb101.cell (World.block_lt_of_cell? _ _ hT99)).trans hT99
          clear hb101
          go_wp2_with fail
          refine hK.out _ _ hX101 (fun hHeld => ?_)
          clear hK K
          try simp only [Act.put, List.setIfInBounds_toArray, List.set_cons_zero, List.set_cons_succ]
          refine takeD (i := 11) (d := some 16) (v := ?vt102) rfl rfl (by kernel_rfl) (by kernel_rfl) (by kernel_rfl) (fun _ _ _ h => h) (Or.inl ⟨by rfl, ?hyt102⟩) (by assumption) ?_
          case hyt102 => (intro w hSw; (try dsimp only at hSw); go_simp; refine Eq.trans (if_neg (by omega)) ?_; with_reducible rfl)
          try simp only [Act.put, List.setIfInBounds_toArray, List.set_cons_zero, List.set_cons_succ]
          refine takeD (i := 12) (d := some 17) (v := ?vt103) rfl rfl (by kernel_rfl) (by kernel_rfl) (by kernel_rfl) (fun _ _ _ h => h) (Or.inl ⟨by rfl, ?hyt103⟩) (by assumption) ?_
          case hyt103 => (intro w hSw; (try dsimp only at hSw); go_simp; refine Eq.trans (if_neg (by omega)) ?_; with_reducible rfl)
          try simp only [Act.put, List.setIfInBounds_toArray, List.set_cons_zero, List.set_cons_succ]
          refine wpAnyH_ready (rs := [19, 26]) (by kernel_rfl) (by simp) ?_
          refine (AllReadyH.cons rfl (fun K hK => ?_) (AllReadyH.cons rfl (fun K hK => ?_) AllReadyH.nil))
          · rw [if_pos (by rfl)]
            go_simp
            refine hK.out _ _ hX101 (fun hHeld => ?_)
            clear hK K
            try simp only [Act.put, List.setIfInBounds_toArray, List.set_cons_zero, List.set_cons_succ]
            refine takeD (i := 20) (d := some 25) (v := ?vt105) rfl rfl (by kernel_rfl) (by kernel_rfl) (by kernel_rfl) (fun _ _ _ h => h) (Or.inl ⟨by rfl, ?hyt105⟩) (by assumption) ?_
            case hyt105 => (intro w hSw; (try dsimp only at hSw); go_simp; refine Eq.trans (if_neg (by omega)) ?_; with_reducible rfl)
            try simp only [Act.put, List.setIfInBounds_toArray, List.set_cons_zero, List.set_cons_succ]
            refine takeD (i := 21) (d := some 26) (v := ?vt106) rfl rfl (by kernel_rfl) (by kernel_rfl) (by kernel_rfl) (fun _ _ _ h => h) (Or.inl ⟨by rfl, ?hyt106⟩) (by assumption) ?_
            case hyt106 => (intro w hSw; (try dsimp only at hSw); go_simp; refine Eq.trans (if_neg (by omega)) ?_; with_reducible rfl)
            try simp only [Act.put, List.setIfInBounds_toArray, List.set_cons_zero, List.set_cons_succ]
            refine wpAnyH_ready (rs := [26]) (by kernel_rfl) (by simp) ?_
            refine (AllReadyH.cons rfl (fun K hK => ?_) AllReadyH.nil)
            rw [if_pos (by rfl)]
            go_simp
            refine Calls.mono (HD.out wi wk101 hwi.1 (by omega)) ?_
            rintro e wk107 ⟨rfl, hb107⟩
            have hX107 : Below w.heap.size w wk107 := bl_then hX101 hb107
            clear hb107
            go_wp2_with fail
            refine hK.out _ _ hX107 (fun hHeld => ?_)
            clear hK K
            try simp only [Act.put, List.setIfInBounds_toArray, List.set_cons_zero, List.set_cons_succ]
            refine takeD (i := 27) (d := some 32) (v := ?vt108) rfl rfl (by kernel_rfl) (by kernel_rfl) (by kernel_rfl) (fun _ _ _ h => h) (Or.inl ⟨by rfl, ?hyt108⟩) (by assumption) ?_
            case hyt108 => (intro w hSw; (try dsimp only at hSw); go_simp; refine Eq.trans (if_neg (by omega)) ?_; with_reducible rfl)
            try simp only [Act.put, List.setIfInBounds_toArray, List.set_cons_zero, List.set_cons_succ]
            refine takeD (i := 28) (d := some 33) (v := ?vt109) rfl rfl (by kernel_rfl) (by kernel_rfl) (by kernel_rfl) (fun _ _ _ h => h) (Or.inl ⟨by rfl, ?hyt109⟩) (by assumption) ?_
            case hyt109 => (intro w hSw; (try dsimp only at hSw); go_simp; refine Eq.trans (if_neg (by omega)) ?_; with_reducible rfl)
            try simp only [Act.put, List.setIfInBounds_toArray, List.set_cons_zero, List.set_cons_succ]
            refine wpAnyH_ready (rs := [33]) (by kernel_rfl) (by simp) ?_
            refine (AllReadyH.cons rfl (fun K hK => ?_) AllReadyH.nil)
            rw [if_pos (by rfl)]
            go_simp
            refine Calls.mono (HD.out pr wk107 hpr.1 (by omega)) ?_
            rintro e wk110 ⟨rfl, hb110⟩
            have hX110 : Below w.heap.size w wk110 := bl_then hX107 hb110
            clear hb110
            go_wp2_with fail
            refine hK.out _ _ hX110 (fun hHeld => ?_)
            clear hK K
            try simp only [Act.put, List.setIfInBounds_toArray, List.set_cons_zero, List.set_cons_succ]
            refine takeD (i := 34) (d := some 39) (v := ?vt111) rfl rfl (by kernel_rfl) (by kernel_rfl) (by kernel_rfl) (fun _ _ _ h => h) (Or.inl ⟨by rfl, ?hyt111⟩) (by assumption) ?_
            case hyt111 => (intro w hSw; (try dsimp only at hSw); go_simp; refine Eq.trans (if_neg (by omega)) ?_; with_reducible rfl)
            try simp only [Act.put, List.setIfInBounds_toArray, List.set_cons_zero, List.set_cons_succ]
            refine takeD (i := 35) (d := some 40) (v := ?vt112) rfl rfl (by kernel_rfl) (by kernel_rfl) (by kernel_rfl) (fun _ _ _ h => h) (Or.inl ⟨by rfl, ?hyt112⟩) (by assumption) ?_
            case hyt112 => (intro w hSw; (try dsimp only at hSw); go_simp; refine Eq.trans (if_neg (by omega)) ?_; with_reducible rfl)
            try simp only [Act.put, List.setIfInBounds_toArray, List.set_cons_zero, List.set_cons_succ]
            refine takeD (i := 40) (d := some 45) (v := ?vt113) rfl rfl (by kernel_rfl) (by kernel_rfl) (by kernel_rfl) (fun _ _ _ h => h) (Or.inl ⟨by rfl, ?hyt113⟩) (by assumption) ?_
            case hyt113 => (intro w hSw; (try dsimp only at hSw); go_simp; refine Eq.trans (if_neg (by omega)) ?_; with_reducible rfl)
            try simp only [Act.put, List.setIfInBounds_toArray, List.set_cons_zero, List.set_cons_succ]
            refine takeD (i := 41) (d := some 3) (v := ?vt114) rfl rfl (by kernel_rfl) (by kernel_rfl) (by kernel_rfl) (fun _ _ _ h => h) (Or.inl ⟨by rfl, ?hyt114⟩) (by assumption) ?_
            case hyt114 => (intro w hSw; (try dsimp only at hSw); go_simp <;> with_reducible rfl)
            try simp only [Act.put, List.setIfInBounds_toArray, List.set_cons_zero, List.set_cons_succ]
            refine wpAnyH_done (by kernel_rfl) ?_ _
            refine NoPanic.normal ?_
            go_wp2_with fail
            go_meet
            case rel => exact ⟨rfl, hX110⟩
          · rw [if_pos (by rfl)]
            go_simp
            refine Calls.mono (HD.out wi wk101 hwi.1 (by omega)) ?_
            rintro e wk115 ⟨rfl, hb115⟩
            have hX115 : Below w.heap.size w wk115 := bl_then hX101 hb115
            have hT115 : wk115.cell? ⟨wk25.heap.size, kk, none⟩ = some (.string (kindT kk)) := (hb115.cell (World.block_lt_of_cell? _ _ hT101)).trans hT101
            clear hb115
            go_wp2_with fail
            refine hK.out _ _ hX115 (fun hHeld => ?_)
            clear hK K
            try simp only [Act.put, List.setIfInBounds_toArray, List.set_cons_zero, List.set_cons_succ]
            refine wpAnyH_ready (rs := [19, 33]) (by kernel_rfl) (by simp) ?_
            refine (AllReadyH.cons rfl (fun K hK => ?_) (AllReadyH.cons rfl (fun K hK => ?_) AllReadyH.nil))
            · rw [if_pos (by rfl)]
              go_simp
              refine hK.out _ _ hX115 (fun hHeld => ?_)
              clear hK K
              try simp only [Act.put, List.setIfInBounds_toArray, List.set_cons_zero, List.set_cons_succ]
              refine takeD (i := 20) (d := some 25) (v := ?vt117) rfl rfl (by kernel_rfl) (by kernel_rfl) (by kernel_rfl) (fun _ _ _ h => h) (Or.inl ⟨by rfl, ?hyt117⟩) (by assumption) ?_
              case hyt117 => (intro w hSw; (try dsimp only at hSw); go_simp; refine Eq.trans (if_neg (by omega)) ?_; with_reducible rfl)
              try simp only [Act.put, List.setIfInBounds_toArray, List.set_cons_zero, List.set_cons_succ]
              refine takeD (i := 21) (d := some 26) (v := ?vt118) rfl rfl (by kernel_rfl) (by kernel_rfl) (by kernel_rfl) (fun _ _ _ h => h) (Or.inl ⟨by rfl, ?hyt118⟩) (by assumption) ?_
              case hyt118 => (intro w hSw; (try dsimp only at hSw); go_simp; refine Eq.trans (if_neg (by omega)) ?_; with_reducible rfl)
              try simp only [Act.put, List.setIfInBounds_toArray, List.set_cons_zero, List.set_cons_succ]
              refine takeD (i := 27) (d := some 32) (v := ?vt119) rfl rfl (by kernel_rfl) (by kernel_rfl) (by kernel_rfl) (fun _ _ _ h => h) (Or.inl ⟨by rfl, ?hyt119⟩) (by assumption) ?_
              case hyt119 => (intro w hSw; (try dsimp only at hSw); go_simp; refine Eq.trans (if_neg (by omega)) ?_; with_reducible rfl)
              try simp only [Act.put, List.setIfInBounds_toArray, List.set_cons_zero, List.set_cons_succ]
              refine takeD (i := 28) (d := some 33) (v := ?vt120) rfl rfl (by kernel_rfl) (by kernel_rfl) (by kernel_rfl) (fun _ _ _ h => h) (Or.inl ⟨by rfl, ?hyt120⟩) (by assumption) ?_
              case hyt120 => (intro w hSw; (try dsimp only at hSw); go_simp; refine Eq.trans (if_neg (by omega)) ?_; with_reducible rfl)
              try simp only [Act.put, List.setIfInBounds_toArray, List.set_cons_zero, List.set_cons_succ]
              refine wpAnyH_ready (rs := [33]) (by kernel_rfl) (by simp) ?_
              refine (AllReadyH.cons rfl (fun K hK => ?_) AllReadyH.nil)
              rw [if_pos (by rfl)]
              go_simp
              refine Calls.mono (HD.out pr wk115 hpr.1 (by omega)) ?_
              rintro e wk121 ⟨rfl, hb121⟩
              have hX121 : Below w.heap.size w wk121 := bl_then hX115 hb121
              clear hb121
              go_wp2_with fail
              refine hK.out _ _ hX121 (fun hHeld => ?_)
              clear hK K
              try simp only [Act.put, List.setIfInBounds_toArray, List.set_cons_zero, List.set_cons_succ]
              refine takeD (i := 34) (d := some 39) (v := ?vt122) rfl rfl (by kernel_rfl) (by kernel_rfl) (by kernel_rfl) (fun _ _ _ h => h) (Or.inl ⟨by rfl, ?hyt122⟩) (by assumption) ?_
              case hyt122 => (intro w hSw; (try dsimp only at hSw); go_simp; refine Eq.trans (if_neg (by omega)) ?_; with_reducible rfl)
              try simp only [Act.put, List.setIfInBounds_toArray, List.set_cons_zero, List.set_cons_succ]
              refine takeD (i := 35) (d := some 40) (v := ?vt123) rfl rfl (by kernel_rfl) (by kernel_rfl) (by kernel_rfl) (fun _ _ _ h => h) (Or.inl ⟨by rfl, ?hyt123⟩) (by assumption) ?_
              case hyt123 => (intro w hSw; (try dsimp only at hSw); go_simp; refine Eq.trans (if_neg (by omega)) ?_; with_reducible rfl)
              try simp only [Act.put, List.setIfInBounds_toArray, List.set_cons_zero, List.set_cons_succ]
              refine takeD (i := 40) (d := some 45) (v := ?vt124) rfl rfl (by kernel_rfl) (by kernel_rfl) (by kernel_rfl) (fun _ _ _ h => h) (Or.inl ⟨by rfl, ?hyt124⟩) (by assumption) ?_
              case hyt124 => (intro w hSw; (try dsimp only at hSw); go_simp; refine Eq.trans (if_neg (by omega)) ?_; with_reducible rfl)
              try simp only [Act.put, List.setIfInBounds_toArray, List.set_cons_zero, List.set_cons_succ]
              refine takeD (i := 41) (d := some 3) (v := ?vt125) rfl rfl (by kernel_rfl) (by kernel_rfl) (by kernel_rfl) (fun _ _ _ h => h) (Or.inl ⟨by rfl, ?hyt125⟩) (by assumption) ?_
              case hyt125 => (intro w hSw; (try dsimp only at hSw); go_simp <;> with_reducible rfl)
              try simp only [Act.put, List.setIfInBounds_toArray, List.set_cons_zero, List.set_cons_succ]
              refine wpAnyH_done (by kernel_rfl) ?_ _
              refine NoPanic.normal ?_
              go_wp2_with fail
              go_meet
              case rel => exact ⟨rfl, hX121⟩
            · rw [if_pos (by rfl)]
              go_simp
              refine Calls.mono (HD.out pr wk115 hpr.1 (by omega)) ?_
              rintro e wk126 ⟨rfl, hb126⟩
              have hX126 : Below w.heap.size w wk126 := bl_then hX115 hb126
              have hT126 : wk126.cell? ⟨wk25.heap.size, kk, none⟩ = some (.string (kindT kk)) := (hb126.cell (World.block_lt_of_cell? _ _ hT115)).trans hT115
              clear hb126
              go_wp2_with fail
              refine hK.out _ _ hX126 (fun hHeld => ?_)
              clear hK K
              try simp only [Act.put, List.setIfInBounds_toArray, List.set_cons_zero, List.set_cons_succ]
              refine wpAnyH_ready (rs := [19]) (by kernel_rfl) (by simp) ?_
              refine (AllReadyH.cons rfl (fun K hK => ?_) AllReadyH.nil)
              rw [if_pos (by rfl)]
              go_simp
              refine hK.out _ _ hX126 (fun hHeld => ?_)
              clear hK K
              try simp only [Act.put, List.setIfInBounds_toArray, List.set_cons_zero, List.set_cons_succ]
              refine takeD (i := 20) (d := some 25) (v := ?vt128) rfl rfl (by kernel_rfl) (by kernel_rfl) (by kernel_rfl) (fun _ _ _ h => h) (Or.inl ⟨by rfl, ?hyt128⟩) (by assumption) ?_
              case hyt128 => (intro w hSw; (try dsimp only at hSw); go_simp; refine Eq.trans (if_neg (by omega)) ?_; with_reducible rfl)
              try simp only [Act.put, List.setIfInBounds_toArray, List.set_cons_zero, List.set_cons_succ]
              refine takeD (i := 21) (d := some 26) (v := ?vt129) rfl rfl (by kernel_rfl) (by kernel_rfl) (by kernel_rfl) (fun _ _ _ h => h) (Or.inl ⟨by rfl, ?hyt129⟩) (by assumption) ?_
              case hyt129 => (intro w hSw; (try dsimp only at hSw); go_simp; refine Eq.trans (if_neg (by omega)) ?_; with_reducible rfl)
              try simp only [Act.put, List.setIfInBounds_toArray, List.set_cons_zero, List.set_cons_succ]
              refine takeD (i := 27) (d := some 32) (v := ?vt130) rfl rfl (by kernel_rfl) (by kernel_rfl) (by kernel_rfl) (fun _ _ _ h => h) (Or.inl ⟨by rfl, ?hyt130⟩) (by assumption) ?_
              case hyt130 => (intro w hSw; (try dsimp only at hSw); go_simp; refine Eq.trans (if_neg (by omega)) ?_; with_reducible rfl)
              try simp only [Act.put, List.setIfInBounds_toArray, List.set_cons_zero, List.set_cons_succ]
              refine takeD (i := 28) (d := some 33) (v := ?vt131) rfl rfl (by kernel_rfl) (by kernel_rfl) (by kernel_rfl) (fun _ _ _ h => h) (Or.inl ⟨by rfl, ?hyt131⟩) (by assumption) ?_
              case hyt131 => (intro w hSw; (try dsimp only at hSw); go_simp; refine Eq.trans (if_neg (by omega)) ?_; with_reducible rfl)
              try simp only [Act.put, List.setIfInBounds_toArray, List.set_cons_zero, List.set_cons_succ]
              refine takeD (i := 34) (d := some 39) (v := ?vt132) rfl rfl (by kernel_rfl) (by kernel_rfl) (by kernel_rfl) (fun _ _ _ h => h) (Or.inl ⟨by rfl, ?hyt132⟩) (by assumption) ?_
              case hyt132 => (intro w hSw; (try dsimp only at hSw); go_simp; refine Eq.trans (if_neg (by omega)) ?_; with_reducible rfl)
              try simp only [Act.put, List.setIfInBounds_toArray, List.set_cons_zero, List.set_cons_succ]
              refine takeD (i := 35) (d := some 40) (v := ?vt133) rfl rfl (by kernel_rfl) (by kernel_rfl) (by kernel_rfl) (fun _ _ _ h => h) (Or.inl ⟨by rfl, ?hyt133⟩) (by assumption) ?_
              case hyt133 => (intro w hSw; (try dsimp only at hSw); go_simp; refine Eq.trans (if_neg (by omega)) ?_; with_reducible rfl)
              try simp only [Act.put, List.setIfInBounds_toArray, List.set_cons_zero, List.set_cons_succ]
              refine takeD (i := 40) (d := some 45) (v := ?vt134) rfl rfl (by kernel_rfl) (by kernel_rfl) (by kernel_rfl) (fun _ _ _ h => h) (Or.inl ⟨by rfl, ?hyt134⟩) (by assumption) ?_
              case hyt134 => (intro w hSw; (try dsimp only at hSw); go_simp; refine Eq.trans (if_neg (by omega)) ?_; with_reducible rfl)
              try simp only [Act.put, List.setIfInBounds_toArray, List.set_cons_zero, List.set_cons_succ]
              refine takeD (i := 41) (d := some 3) (v := ?vt135) rfl rfl (by kernel_rfl) (by kernel_rfl) (by kernel_rfl) (fun _ _ _ h => h) (Or.inl ⟨by rfl, ?hyt135⟩) (by assumption) ?_
              case hyt135 => (intro w hSw; (try dsimp only at hSw); go_simp <;> with_reducible rfl)
              try simp only [Act.put, List.setIfInBounds_toArray, List.set_cons_zero, List.set_cons_succ]
              refine wpAnyH_done (by kernel_rfl) ?_ _
              refine NoPanic.normal ?_
              go_wp2_with fail
              go_meet
              case rel => exact ⟨rfl, hX126⟩
        · rw [if_pos (by rfl)]
          go_simp
          refine hK.out _ _ hX99 (fun hHeld => ?_)
          clear hK K
          try simp only [Act.put, List.setIfInBounds_toArray, List.set_cons_zero, List.set_cons_succ]
          refine wpAnyH_ready (rs := [10]) (by kernel_rfl) (by simp) ?_
          refine (AllReadyH.cons rfl (fun K hK => ?_) AllReadyH.nil)
          rw [if_pos (by rfl)]
          go_simp
          refine Calls.mono (HD.out la wk99 hla.1 (by omega)) ?_
          rintro e wk137 ⟨rfl, hb137⟩
          have hX137 : Below w.heap.size w wk137 := bl_then hX99 hb137
          clear hb137
          go_wp2_with fail
          refine hK.out _ _ hX137 (fun hHeld => ?_)
          clear hK K
          try simp only [Act.put, List.setIfInBounds_toArray, List.set_cons_zero, List.set_cons_succ]
          refine takeD (i := 11) (d := some 16) (v := ?vt138) rfl rfl (by kernel_rfl) (by kernel_rfl) (by kernel_rfl) (fun _ _ _ h => h) (Or.inl ⟨by rfl, ?hyt138⟩) (by assumption) ?_
          case hyt138 => (intro w hSw; (try dsimp only at hSw); go_simp; refine Eq.trans (if_neg (by omega)) ?_; with_reducible rfl)
          try simp only [Act.put, List.setIfInBounds_toArray, List.set_cons_zero, List.set_cons_succ]
          refine takeD (i := 12) (d := some 17) (v := ?vt139) rfl rfl (by kernel_rfl) (by kernel_rfl) (by kernel_rfl) (fun _ _ _ h => h) (Or.inl ⟨by rfl, ?hyt139⟩) (by assumption) ?_
          case hyt139 => (intro w hSw; (try dsimp only at hSw); go_simp; refine Eq.trans (if_neg (by omega)) ?_; with_reducible rfl)
          try simp only [Act.put, List.setIfInBounds_toArray, List.set_cons_zero, List.set_cons_succ]
          refine takeD (i := 20) (d := some 25) (v := ?vt140) rfl rfl (by kernel_rfl) (by kernel_rfl) (by kernel_rfl) (fun _ _ _ h => h) (Or.inl ⟨by rfl, ?hyt140⟩) (by assumption) ?_
          case hyt140 => (intro w hSw; (try dsimp only at hSw); go_simp; refine Eq.trans (if_neg (by omega)) ?_; with_reducible rfl)
          try simp only [Act.put, List.setIfInBounds_toArray, List.set_cons_zero, List.set_cons_succ]
          refine takeD (i := 21) (d := some 26) (v := ?vt141) rfl rfl (by kernel_rfl) (by kernel_rfl) (by kernel_rfl) (fun _ _ _ h => h) (Or.inl ⟨by rfl, ?hyt141⟩) (by assumption) ?_
          case hyt141 => (intro w hSw; (try dsimp only at hSw); go_simp; refine Eq.trans (if_neg (by omega)) ?_; with_reducible rfl)
          try simp only [Act.put, List.setIfInBounds_toArray, List.set_cons_zero, List.set_cons_succ]
          refine wpAnyH_ready (rs := [26]) (by kernel_rfl) (by simp) ?_
          refine (AllReadyH.cons rfl (fun K hK => ?_) AllReadyH.nil)
          rw [if_pos (by rfl)]
          go_simp
          refine Calls.mono (HD.out wi wk137 hwi.1 (by omega)) ?_
          rintro e wk142 ⟨rfl, hb142⟩
          have hX142 : Below w.heap.size w wk142 := bl_then hX137 hb142
          clear hb142
          go_wp2_with fail
          refine hK.out _ _ hX142 (fun hHeld => ?_)
          clear hK K
          try simp only [Act.put, List.setIfInBounds_toArray, List.set_cons_zero, List.set_cons_succ]
          refine takeD (i := 27) (d := some 32) (v := ?vt143) rfl rfl (by kernel_rfl) (by kernel_rfl) (by kernel_rfl) (fun _ _ _ h => h) (Or.inl ⟨by rfl, ?hyt143⟩) (by assumption) ?_
          case hyt143 => (intro w hSw; (try dsimp only at hSw); go_simp; refine Eq.trans (if_neg (by omega)) ?_; with_reducible rfl)
          try simp only [Act.put, List.setIfInBounds_toArray, List.set_cons_zero, List.set_cons_succ]
          refine takeD (i := 28) (d := some 33) (v := ?vt144) rfl rfl (by kernel_rfl) (by kernel_rfl) (by kernel_rfl) (fun _ _ _ h => h) (Or.inl ⟨by rfl, ?hyt144⟩) (by assumption) ?_
          case hyt144 => (intro w hSw; (try dsimp only at hSw); go_simp; refine Eq.trans (if_neg (by omega)) ?_; with_reducible rfl)
          try simp only [Act.put, List.setIfInBounds_toArray, List.set_cons_zero, List.set_cons_succ]
          refine wpAnyH_ready (rs := [33]) (by kernel_rfl) (by simp) ?_
          refine (AllReadyH.cons rfl (fun K hK => ?_) AllReadyH.nil)
          rw [if_pos (by rfl)]
          go_simp
          refine Calls.mono (HD.out pr wk142 hpr.1 (by omega)) ?_
          rintro e wk145 ⟨rfl, hb145⟩
          have hX145 : Below w.heap.size w wk145 := bl_then hX142 hb145
          clear hb145
          go_wp2_with fail
          refine hK.out _ _ hX145 (fun hHeld => ?_)
          clear hK K
          try simp only [Act.put, List.setIfInBounds_toArray, List.set_cons_zero, List.set_cons_succ]
          refine takeD (i := 34) (d := some 39) (v := ?vt146) rfl rfl (by kernel_rfl) (by kernel_rfl) (by kernel_rfl) (fun _ _ _ h => h) (Or.inl ⟨by rfl, ?hyt146⟩) (by assumption) ?_
          case hyt146 => (intro w hSw; (try dsimp only at hSw); go_simp; refine Eq.trans (if_neg (by omega)) ?_; with_reducible rfl)
          try simp only [Act.put, List.setIfInBounds_toArray, List.set_cons_zero, List.set_cons_succ]
          refine takeD (i := 35) (d := some 40) (v := ?vt147) rfl rfl (by kernel_rfl) (by kernel_rfl) (by kernel_rfl) (fun _ _ _ h => h) (Or.inl ⟨by rfl, ?hyt147⟩) (by assumption) ?_
          case hyt147 => (intro w hSw; (try dsimp only at hSw); go_simp; refine Eq.trans (if_neg (by omega)) ?_; with_reducible rfl)
          try simp only [Act.put, List.setIfInBounds_toArray, List.set_cons_zero, List.set_cons_succ]
          refine takeD (i := 40) (d := some 45) (v := ?vt148) rfl rfl (by kernel_rfl) (by kernel_rfl) (by kernel_rfl) (fun _ _ _ h => h) (Or.inl ⟨by rfl, ?hyt148⟩) (by assumption) ?_
          case hyt148 => (intro w hSw; (try dsimp only at hSw); go_simp; refine Eq.trans (if_neg (by omega)) ?_; with_reducible rfl)
          try simp only [Act.put, List.setIfInBounds_toArray, List.set_cons_zero, List.set_cons_succ]
          refine takeD (i := 41) (d := some 3) (v := ?vt149) rfl rfl (by kernel_rfl) (by kernel_rfl) (by kernel_rfl) (fun _ _ _ h => h) (Or.inl ⟨by rfl, ?hyt149⟩) (by assumption) ?_
          case hyt149 => (intro w hSw; (try dsimp only at hSw); go_simp <;> with_reducible rfl)
          try simp only [Act.put, List.setIfInBounds_toArray, List.set_cons_zero, List.set_cons_succ]
          refine wpAnyH_done (by kernel_rfl) ?_ _
          refine NoPanic.normal ?_
          go_wp2_with fail
          go_meet
          case rel => exact ⟨rfl, hX145⟩
    · rw [if_pos (by rfl)]
      go_simp
      generalize hwA : (World.alloc _ _ : World) = wk150
      have hT150 : wk150.cell? ⟨wk0.heap.size, kk, none⟩ = some (.string (kindT kk)) := HT.out wk0 wk150 hwA.symm
      have hX150 : Below w.heap.size w wk150 := bl_then hX0 (by subst hwA; (repeat (first | exact Below.refl _ _ | assumption | refine Below.drew ?_ | refine bl_alloc ?_ _ | refine bl_then ?_ (by assumption) | refine Below.setCell ?_ (by first | omega | (simp; done) | (simp; omega)) _ | refine bl_store ?_ ?_ _ _)))
      clear hwA
      refine hK.out _ _ hX150 (fun hHeld => ?_)
      clear hK K
      try simp only [Act.put, List.setIfInBounds_toArray, List.set_cons_zero, List.set_cons_succ]
      refine takeD (i := 18) (d := some 23) (v := ?vt151) rfl rfl (by kernel_rfl) (by kernel_rfl) (by kernel_rfl) (fun _ _ _ h => h) (Or.inl ⟨by rfl, ?hyt151⟩) (by assumption) ?_
      case hyt151 => (intro w hSw; (try dsimp only at hSw); go_simp <;> with_reducible rfl)
      try simp only [Act.put, List.setIfInBounds_toArray, List.set_cons_zero, List.set_cons_succ]
      refine wpAnyH_ready (rs := [4, 19]) (by kernel_rfl) (by simp) ?_
      refine (AllReadyH.cons rfl (fun K hK => ?_) (AllReadyH.cons rfl (fun K hK => ?_) AllReadyH.nil))
      · rw [if_pos (by rfl)]
        go_simp
        refine Calls.mono (HD.out id wk150 hid.1 (by omega)) ?_
        rintro e wk152 ⟨rfl, hb152⟩
        have hX152 : Below w.heap.size w wk152 := bl_then hX150 hb152
        have hT152 : wk152.cell? ⟨wk0.heap.size, kk, none⟩ = some (.string (kindT kk)) := (hb152.cell (World.block_lt_of_cell? _ _ hT150)).trans hT150
        clear hb152
        go_wp2_with fail
        refine hK.out _ _ hX152 (fun hHeld => ?_)
        clear hK K
        try simp only [Act.put, List.setIfInBounds_toArray, List.set_cons_zero, List.set_cons_succ]
        refine takeD (i := 5) (d := some 10) (v := ?vt153) rfl rfl (by kernel_rfl) (by kernel_rfl) (by kernel_rfl) (fun _ _ _ h => h) (Or.inl ⟨by rfl, ?hyt153⟩) (by assumption) ?_
        case hyt153 => (intro w hSw; (try dsimp only at hSw); go_simp; refine Eq.trans (if_neg (by omega)) ?_; with_reducible rfl)
        try simp only [Act.put, List.setIfInBounds_toArray, List.set_cons_zero, List.set_cons_succ]
        refine wpAnyH_ready (rs := [10, 19]) (by kernel_rfl) (by simp) ?_
        refine (AllReadyH.cons rfl (fun K hK => ?_) (AllReadyH.cons rfl (fun K hK => ?_) AllReadyH.nil))
        · rw [if_pos (by rfl)]
          go_simp
          refine Calls.mono (HD.out la wk152 hla.1 (by omega)) ?_
          rintro e wk154 ⟨rfl, hb154⟩
          have hX154 : Below w.heap.size w wk154 := bl_then hX152 hb154
          have hT154 : wk154.cell? ⟨wk0.heap.size, kk, none⟩ = some (.string (kindT kk)) := (hb154.cell (World.block_lt_of_cell? _ _ hT152)).trans hT152
          clear hb154
          go_wp2_with fail
          refine hK.out _ _ hX154 (fun hHeld => ?_)
          clear hK K
          try simp only [Act.put, List.setIfInBounds_toArray, List.set_cons_zero, List.set_cons_succ]
          refine takeD (i := 11) (d := some 16) (v := ?vt155) rfl rfl (by kernel_rfl) (by kernel_rfl) (by kernel_rfl) (fun _ _ _ h => h) (Or.inl ⟨by rfl, ?hyt155⟩) (by assumption) ?_
          case hyt155 => (intro w hSw; (try dsimp only at hSw); go_simp; refine Eq.trans (if_neg (by omega)) ?_; with_reducible rfl)
          try simp only [Act.put, List.setIfInBounds_toArray, List.set_cons_zero, List.set_cons_succ]
          refine takeD (i := 12) (d := some 17) (v := ?vt156) rfl rfl (by kernel_rfl) (by kernel_rfl) (by kernel_rfl) (fun _ _ _ h => h) (Or.inl ⟨by rfl, ?hyt156⟩) (by assumption) ?_
          case hyt156 => (intro w hSw; (try dsimp only at hSw); go_simp; refine Eq.trans (if_neg (by omega)) ?_; with_reducible rfl)
          try simp only [Act.put, List.setIfInBounds_toArray, List.set_cons_zero, List.set_cons_succ]
          refine wpAnyH_ready (rs := [19, 26]) (by kernel_rfl) (by simp) ?_
          refine (AllReadyH.cons rfl (fun K hK => ?_) (AllReadyH.cons rfl (fun K hK => ?_) AllReadyH.nil))
          · rw [if_pos (by rfl)]
            go_simp
            refine hK.out _ _ hX154 (fun hHeld => ?_)
            clear hK K
            try simp only [Act.put, List.setIfInBounds_toArray, List.set_cons_zero, List.set_cons_succ]
            refine takeD (i := 20) (d := some 25) (v := ?vt158) rfl rfl (by kernel_rfl) (by kernel_rfl) (by kernel_rfl) (fun _ _ _ h => h) (Or.inl ⟨by rfl, ?hyt158⟩) (by assumption) ?_
            case hyt158 => (intro w hSw; (try dsimp only at hSw); go_simp; refine Eq.trans (if_neg (by omega)) ?_; with_reducible rfl)
            try simp only [Act.put, List.setIfInBounds_toArray, List.set_cons_zero, List.set_cons_succ]
            refine takeD (i := 21) (d := some 26) (v := ?vt159) rfl rfl (by kernel_rfl) (by kernel_rfl) (by kernel_rfl) (fun _ _ _ h => h) (Or.inl ⟨by rfl, ?hyt159⟩) (by assumption) ?_
            case hyt159 => (intro w hSw; (try dsimp only at hSw); go_simp; refine Eq.trans (if_neg (by omega)) ?_; with_reducible rfl)
            try simp only [Act.put, List.setIfInBounds_toArray, List.set_cons_zero, List.set_cons_succ]
            refine wpAnyH_ready (rs := [26]) (by kernel_rfl) (by simp) ?_
            refine (AllReadyH.cons rfl (fun K hK => ?_) AllReadyH.nil)
            rw [if_pos (by rfl)]
            go_simp
            refine Calls.mono (HD.out wi wk154 hwi.1 (by omega)) ?_
            rintro e wk160 ⟨rfl, hb160⟩
            have hX160 : Below w.heap.size w wk160 := bl_then hX154 hb160
            clear hb160
            go_wp2_with fail
            refine hK.out _ _ hX160 (fun hHeld => ?_)
            clear hK K
            try simp only [Act.put, List.setIfInBounds_toArray, List.set_cons_zero, List.set_cons_succ]
            refine takeD (i := 27) (d := some 32) (v := ?vt161) rfl rfl (by kernel_rfl) (by kernel_rfl) (by kernel_rfl) (fun _ _ _ h => h) (Or.inl ⟨by rfl, ?hyt161⟩) (by assumption) ?_
            case hyt161 => (intro w hSw; (try dsimp only at hSw); go_simp; refine Eq.trans (if_neg (by omega)) ?_; with_reducible rfl)
            try simp only [Act.put, List.setIfInBounds_toArray, List.set_cons_zero, List.set_cons_succ]
            refine takeD (i := 28) (d := some 33) (v := ?vt162) rfl rfl (by kernel_rfl) (by kernel_rfl) (by kernel_rfl) (fun _ _ _ h => h) (Or.inl ⟨by rfl, ?hyt162⟩) (by assumption) ?_
            case hyt162 => (intro w hSw; (try dsimp only at hSw); go_simp; refine Eq.trans (if_neg (by omega)) ?_; with_reducible rfl)
            try simp only [Act.put, List.setIfInBounds_toArray, List.set_cons_zero, List.set_cons_succ]
            refine wpAnyH_ready (rs := [33]) (by kernel_rfl) (by simp) ?_
            refine (AllReadyH.cons rfl (fun K hK => ?_) AllReadyH.nil)
            rw [if_pos (by rfl)]
            go_simp
            refine Calls.mono (HD.out pr wk160 hpr.1 (by omega)) ?_
            rintro e wk163 ⟨rfl, hb163⟩
            have hX163 : Below w.heap.size w wk163 := bl_then hX160 hb163
            clear hb163
            go_wp2_with fail
            refine hK.out _ _ hX163 (fun hHeld => ?_)
            clear hK K
            try simp only [Act.put, List.setIfInBounds_toArray, List.set_cons_zero, List.set_cons_succ]
            refine takeD (i := 34) (d := some 39) (v := ?vt164) rfl rfl (by kernel_rfl) (by kernel_rfl) (by kernel_rfl) (fun _ _ _ h => h) (Or.inl ⟨by rfl, ?hyt164⟩) (by assumption) ?_
            case hyt164 => (intro w hSw; (try dsimp only at hSw); go_simp; refine Eq.trans (if_neg (by omega)) ?_; with_reducible rfl)
            try simp only [Act.put, List.setIfInBounds_toArray, List.set_cons_zero, List.set_cons_succ]
            refine takeD (i := 35) (d := some 40) (v := ?vt165) rfl rfl (by kernel_rfl) (by kernel_rfl) (by kernel_rfl) (fun _ _ _ h => h) (Or.inl ⟨by rfl, ?hyt165⟩) (by assumption) ?_
            case hyt165 => (intro w hSw; (try dsimp only at hSw); go_simp; refine Eq.trans (if_neg (by omega)) ?_; with_reducible rfl)
            try simp only [Act.put, List.setIfInBounds_toArray, List.set_cons_zero, List.set_cons_succ]
            refine takeD (i := 40) (d := some 45) (v := ?vt166) rfl rfl (by kernel_rfl) (by kernel_rfl) (by kernel_rfl) (fun _ _ _ h => h) (Or.inl ⟨by rfl, ?hyt166⟩) (by assumption) ?_
            case hyt166 => (intro w hSw; (try dsimp only at hSw); go_simp; refine Eq.trans (if_neg (by omega)) ?_; with_reducible rfl)
            try simp only [Act.put, List.setIfInBounds_toArray, List.set_cons_zero, List.set_cons_succ]
            refine takeD (i := 41) (d := some 3) (v := ?vt167) rfl rfl (by kernel_rfl) (by kernel_rfl) (by kernel_rfl) (fun _ _ _ h => h) (Or.inl ⟨by rfl, ?hyt167⟩) (by assumption) ?_
            case hyt167 => (intro w hSw; (try dsimp only at hSw); go_simp <;> with_reducible rfl)
            try simp only [Act.put, List.setIfInBounds_toArray, List.set_cons_zero, List.set_cons_succ]
            refine wpAnyH_done (by kernel_rfl) ?_ _
            refine NoPanic.normal ?_
            go_wp2_with fail
            go_meet
            case rel => exact ⟨rfl, hX163⟩
          · rw [if_pos (by rfl)]
            go_simp
            refine Calls.mono (HD.out wi wk154 hwi.1 (by omega)) ?_
            rintro e wk168 ⟨rfl, hb168⟩
            have hX168 : Below w.heap.size w wk168 := bl_then hX154 hb168
            have hT168 : wk168.cell? ⟨wk0.heap.size, kk, none⟩ = some (.string (kindT kk)) := (hb168.cell (World.block_lt_of_cell? _ _ hT154)).trans hT154
            clear hb168
            go_wp2_with fail
            refine hK.out _ _ hX168 (fun hHeld => ?_)
            clear hK K
            try simp only [Act.put, List.setIfInBounds_toArray, List.set_cons_zero, List.set_cons_succ]
            refine wpAnyH_ready (rs := [19, 33]) (by kernel_rfl) (by simp) ?_
            refine (AllReadyH.cons rfl (fun K hK => ?_) (AllReadyH.cons rfl (fun K hK => ?_) AllReadyH.nil))
            · rw [if_pos (by rfl)]
              go_simp
              refine hK.out _ _ hX168 (fun hHeld => ?_)
              clear hK K
              try simp only [Act.put, List.setIfInBounds_toArray, List.set_cons_zero, List.set_cons_succ]
              refine takeD (i := 20) (d := some 25) (v := ?vt170) rfl rfl (by kernel_rfl) (by kernel_rfl) (by kernel_rfl) (fun _ _ _ h => h) (Or.inl ⟨by rfl, ?hyt170⟩) (by assumption) ?_
              case hyt170 => (intro w hSw; (try dsimp only at hSw); go_simp; refine Eq.trans (if_neg (by omega)) ?_; with_reducible rfl)
              try simp only [Act.put, List.setIfInBounds_toArray, List.set_cons_zero, List.set_cons_succ]
              refine takeD (i := 21) (d := some 26) (v := ?vt171) rfl rfl (by kernel_rfl) (by kernel_rfl) (by kernel_rfl) (fun _ _ _ h => h) (Or.inl ⟨by rfl, ?hyt171⟩) (by assumption) ?_
              case hyt171 => (intro w hSw; (try dsimp only at hSw); go_simp; refine Eq.trans (if_neg (by omega)) ?_; with_reducible rfl)
              try simp only [Act.put, List.setIfInBounds_toArray, List.set_cons_zero, List.set_cons_succ]
              refine takeD (i := 27) (d := some 32) (v := ?vt172) rfl rfl (by kernel_rfl) (by kernel_rfl) (by kernel_rfl) (fun _ _ _ h => h) (Or.inl ⟨by rfl, ?hyt172⟩) (by assumption) ?_
              case hyt172 => (intro w hSw; (try dsimp only at hSw); go_simp; refine Eq.trans (if_neg (by omega)) ?_; with_reducible rfl)
              try simp only [Act.put, List.setIfInBounds_toArray, List.set_cons_zero, List.set_cons_succ]
              refine takeD (i := 28) (d := some 33) (v := ?vt173) rfl rfl (by kernel_rfl) (by kernel_rfl) (by kernel_rfl) (fun _ _ _ h => h) (Or.inl ⟨by rfl, ?hyt173⟩) (by assumption) ?_
              case hyt173 => (intro w hSw; (try dsimp only at hSw); go_simp; refine Eq.trans (if_neg (by omega)) ?_; with_reducible rfl)
              try simp only [Act.put, List.setIfInBounds_toArray, List.set_cons_zero, List.set_cons_succ]
              refine wpAnyH_ready (rs := [33]) (by kernel_rfl) (by simp) ?_
              refine (AllReadyH.cons rfl (fun K hK => ?_) AllReadyH.nil)
              rw [if_pos (by rfl)]
              go_simp
              refine Calls.mono (HD.out pr wk168 hpr.1 (by omega)) ?_
              rintro e wk174 ⟨rfl, hb174⟩
              have hX174 : Below w.heap.size w wk174 := bl_then hX168 hb174
              clear hb174
              go_wp2_with fail
              refine hK.out _ _ hX174 (fun hHeld => ?_)
              clear hK K
              try simp only [Act.put, List.setIfInBounds_toArray, List.set_cons_zero, List.set_cons_succ]
              refine takeD (i := 34) (d := some 39) (v := ?vt175) rfl rfl (by kernel_rfl) (by kernel_rfl) (by kernel_rfl) (fun _ _ _ h => h) (Or.inl ⟨by rfl, ?hyt175⟩) (by assumption) ?_
              case hyt175 => (intro w hSw; (try dsimp only at hSw); go_simp; refine Eq.trans (if_neg (by omega)) ?_; with_reducible rfl)
              try simp only [Act.put, List.setIfInBounds_toArray, List.set_cons_zero, List.set_cons_succ]
              refine takeD (i := 35) (d := some 40) (v := ?vt176) rfl rfl (by kernel_rfl) (by kernel_rfl) (by kernel_rfl) (fun _ _ _ h => h) (Or.inl ⟨by rfl, ?hyt176⟩) (by assumption) ?_
              case hyt176 => (intro w hSw; (try dsimp only at hSw); go_simp; refine Eq.trans (if_neg (by omega)) ?_; with_reducible rfl)
              try simp only [Act.put, List.setIfInBounds_toArray, List.set_cons_zero, List.set_cons_succ]
              refine takeD (i := 40) (d := some 45) (v := ?vt177) rfl rfl (by kernel_rfl) (by kernel_rfl) (by kernel_rfl) (fun _ _ _ h => h) (Or.inl ⟨by rfl, ?hyt177⟩) (by assumption) ?_
              case hyt177 => (intro w hSw; (try dsimp only at hSw); go_simp; refine Eq.trans (if_neg (by omega)) ?_; with_reducible rfl)
              try simp only [Act.put, List.setIfInBounds_toArray, List.set_cons_zero, List.set_cons_succ]
              refine takeD (i := 41) (d := some 3) (v := ?vt178) rfl rfl (by kernel_rfl) (by kernel_rfl) (by kernel_rfl) (fun _ _ _ h => h) (Or.inl ⟨by rfl, ?hyt178⟩) (by assumption) ?_
              case hyt178 => (intro w hSw; (try dsimp only at hSw); go_simp <;> with_reducible rfl)
              try simp only [Act.put, List.setIfInBounds_toArray, List.set_cons_zero, List.set_cons_succ]
              refine wpAnyH_done (by kernel_rfl) ?_ _
              refine NoPanic.normal ?_
              go_wp2_with fail
              go_meet
              case rel => exact ⟨rfl, hX174⟩
            · rw [if_pos (by rfl)]
              go_simp
              refine Calls.mono (HD.out pr wk168 hpr.1 (by omega)) ?_
              rintro e wk179 ⟨rfl, hb179⟩
              have hX179 : Below w.heap.size w wk179 := bl_then hX168 hb179
              have hT179 : wk179.cell? ⟨wk0.heap.size, kk, none⟩ = some (.string (kindT kk)) := (hb179.cell (World.block_lt_of_cell? _ _ hT168)).trans hT168
              clear hb179
              go_wp2_with fail
              refine hK.out _ _ hX179 (fun hHeld => ?_)
              clear hK K
              try simp only [Act.put, List.setIfInBounds_toArray, List.set_cons_zero, List.set_cons_succ]
              refine wpAnyH_ready (rs := [19]) (by kernel_rfl) (by simp) ?_
              refine (AllReadyH.cons rfl (fun K hK => ?_) AllReadyH.nil)
              rw [if_pos (by rfl)]
              go_simp
              refine hK.out _ _ hX179 (fun hHeld => ?_)
              clear hK K
              try simp only [Act.put, List.setIfInBounds_toArray, List.set_cons_zero, List.set_cons_succ]
              refine takeD (i := 20) (d := some 25) (v := ?vt181) rfl rfl (by kernel_rfl) (by kernel_rfl) (by kernel_rfl) (fun _ _ _ h => h) (Or.inl ⟨by rfl, ?hyt181⟩) (by assumption) ?_
              case hyt181 => (intro w hSw; (try dsimp only at hSw); go_simp; refine Eq.trans (if_neg (by omega)) ?_; with_reducible rfl)
              try simp only [Act.put, List.setIfInBounds_toArray, List.set_cons_zero, List.set_cons_succ]
              refine takeD (i := 21) (d := some 26) (v := ?vt182) rfl rfl (by kernel_rfl) (by kernel_rfl) (by kernel_rfl) (fun _ _ _ h => h) (Or.inl ⟨by rfl, ?hyt182⟩) (by assumption) ?_
              case hyt182 => (intro w hSw; (try dsimp only at hSw); go_simp; refine Eq.trans (if_neg (by omega)) ?_; with_reducible rfl)
              try simp only [Act.put, List.setIfInBounds_toArray, List.set_cons_zero, List.set_cons_succ]
              refine takeD (i := 27) (d := some 32) (v := ?vt183) rfl rfl (by kernel_rfl) (by kernel_rfl) (by kernel_rfl) (fun _ _ _ h => h) (Or.inl ⟨by rfl, ?hyt183⟩) (by assumption) ?_
              case hyt183 => (intro w hSw; (try dsimp only at hSw); go_simp; refine Eq.trans (if_neg (by omega)) ?_; with_reducible rfl)
              try simp only [Act.put, List.setIfInBounds_toArray, List.set_cons_zero, List.set_cons_succ]
              refine takeD (i := 28) (d := some 33) (v := ?vt184) rfl rfl (by kernel_rfl) (by kernel_rfl) (by kernel_rfl) (fun _ _ _ h => h) (Or.inl ⟨by rfl, ?hyt184⟩) (by assumption) ?_
              case hyt184 => (intro w hSw; (try dsimp only at hSw); go_simp; refine Eq.trans (if_neg (by omega)) ?_; with_reducible rfl)
              try simp only [Act.put, List.setIfInBounds_toArray, List.set_cons_zero, List.set_cons_succ]
              refine takeD (i := 34) (d := some 39) (v := ?vt185) rfl rfl (by kernel_rfl) (by kernel_rfl) (by kernel_rfl) (fun _ _ _ h => h) (Or.inl ⟨by rfl, ?hyt185⟩) (by assumption) ?_
              case hyt185 => (intro w hSw; (try dsimp only at hSw); go_simp; refine Eq.trans (if_neg (by omega)) ?_; with_reducible rfl)
              try simp only [Act.put, List.setIfInBounds_toArray, List.set_cons_zero, List.set_cons_succ]
              refine takeD (i := 35) (d := some 40) (v := ?vt186) rfl rfl (by kernel_rfl) (by kernel_rfl) (by kernel_rfl) (fun _ _ _ h => h) (Or.inl ⟨by rfl, ?hyt186⟩) (by assumption) ?_
              case hyt186 => (intro w hSw; (try dsimp only at hSw); go_simp; refine Eq.trans (if_neg (by omega)) ?_; with_reducible rfl)
              try simp only [Act.put, List.setIfInBounds_toArray, List.set_cons_zero, List.set_cons_succ]
              refine takeD (i := 40) (d := some 45) (v := ?vt187) rfl rfl (by kernel_rfl) (by kernel_rfl) (by kernel_rfl) (fun _ _ _ h => h) (Or.inl ⟨by rfl, ?hyt187⟩) (by assumption) ?_
              case hyt187 => (intro w hSw; (try dsimp only at hSw); go_simp; refine Eq.trans (if_neg (by omega)) ?_; with_reducible rfl)
              try simp only [Act.put, List.setIfInBounds_toArray, List.set_cons_zero, List.set_cons_succ]
              refine takeD (i := 41) (d := some 3) (v := ?vt188) rfl rfl (by kernel_rfl) (by kernel_rfl) (by kernel_rfl) (fun _ _ _ h => h) (Or.inl ⟨by rfl, ?hyt188⟩) (by assumption) ?_
              case hyt188 => (intro w hSw; (try dsimp only at hSw); go_simp <;> with_reducible rfl)
              try simp only [Act.put, List.setIfInBounds_toArray, List.set_cons_zero, List.set_cons_succ]
              refine wpAnyH_done (by kernel_rfl) ?_ _
              refine NoPanic.normal ?_
              go_wp2_with fail
              go_meet
              case rel => exact ⟨rfl, hX179⟩
        · rw [if_pos (by rfl)]
          go_simp
          refine hK.out _ _ hX152 (fun hHeld => ?_)
          clear hK K
          try simp only [Act.put, List.setIfInBounds_toArray, List.set_cons_zero, List.set_cons_succ]
          refine wpAnyH_ready (rs := [10]) (by kernel_rfl) (by simp) ?_
          refine (AllReadyH.cons rfl (fun K hK => ?_) AllReadyH.nil)
          rw [if_pos (by rfl)]
          go_simp
          refine Calls.mono (HD.out la wk152 hla.1 (by omega)) ?_
          rintro e wk190 ⟨rfl, hb190⟩
          have hX190 : Below w.heap.size w wk190 := bl_then hX152 hb190
          clear hb190
          go_wp2_with fail
          refine hK.out _ _ hX190 (fun hHeld => ?_)
          clear hK K
          try simp only [Act.put, List.setIfInBounds_toArray, List.set_cons_zero, List.set_cons_succ]
          refine takeD (i := 11) (d := some 16) (v := ?vt191) rfl rfl (by kernel_rfl) (by kernel_rfl) (by kernel_rfl) (fun _ _ _ h => h) (Or.inl ⟨by rfl, ?hyt191⟩) (by assumption) ?_
          case hyt191 => (intro w hSw; (try dsimp only at hSw); go_simp; refine Eq.trans (if_neg (by omega)) ?_; with_reducible rfl)
          try simp only [Act.put, List.setIfInBounds_toArray, List.set_cons_zero, List.set_cons_succ]
          refine takeD (i := 12) (d := some 17) (v := ?vt192) rfl rfl (by kernel_rfl) (by kernel_rfl) (by kernel_rfl) (fun _ _ _ h => h) (Or.inl ⟨by rfl, ?hyt192⟩) (by assumption) ?_
          case hyt192 => (intro w hSw; (try dsimp only at hSw); go_simp; refine Eq.trans (if_neg (by omega)) ?_; with_reducible rfl)
          try simp only [Act.put, List.setIfInBounds_toArray, List.set_cons_zero, List.set_cons_succ]
          refine takeD (i := 20) (d := some 25) (v := ?vt193) rfl rfl (by kernel_rfl) (by kernel_rfl) (by kernel_rfl) (fun _ _ _ h => h) (Or.inl ⟨by rfl, ?hyt193⟩) (by assumption) ?_
          case hyt193 => (intro w hSw; (try dsimp only at hSw); go_simp; refine Eq.trans (if_neg (by omega)) ?_; with_reducible rfl)
          try simp only [Act.put, List.setIfInBounds_toArray, List.set_cons_zero, List.set_cons_succ]
          refine takeD (i := 21) (d := some 26) (v := ?vt194) rfl rfl (by kernel_rfl) (by kernel_rfl) (by kernel_rfl) (fun _ _ _ h => h) (Or.inl ⟨by rfl, ?hyt194⟩) (by assumption) ?_
          case hyt194 => (intro w hSw; (try dsimp only at hSw); go_simp; refine Eq.trans (if_neg (by omega)) ?_; with_reducible rfl)
          try simp only [Act.put, List.setIfInBounds_toArray, List.set_cons_zero, List.set_cons_succ]
          refine wpAnyH_ready (rs := [26]) (by kernel_rfl) (by simp) ?_
          refine (AllReadyH.cons rfl (fun K hK => ?_) AllReadyH.nil)
          rw [if_pos (by rfl)]
          go_simp
          refine Calls.mono (HD.out wi wk190 hwi.1 (by omega)) ?_
          rintro e wk195 ⟨rfl, hb195⟩
          have hX195 : Below w.heap.size w wk195 := bl_then hX190 hb195
          clear hb195
          go_wp2_with fail
          refine hK.out _ _ hX195 (fun hHeld => ?_)
          clear hK K
          try simp only [Act.put, List.setIfInBounds_toArray, List.set_cons_zero, List.set_cons_succ]
          refine takeD (i := 27) (d := some 32) (v := ?vt196) rfl rfl (by kernel_rfl) (by kernel_rfl) (by kernel_rfl) (fun _ _ _ h => h) (Or.inl ⟨by rfl, ?hyt196⟩) (by assumption) ?_
          case hyt196 => (intro w hSw; (try dsimp only at hSw); go_simp; refine Eq.trans (if_neg (by omega)) ?_; with_reducible rfl)
          try simp only [Act.put, List.setIfInBounds_toArray, List.set_cons_zero, List.set_cons_succ]
          refine takeD (i := 28) (d := some 33) (v := ?vt197) rfl rfl (by kernel_rfl) (by kernel_rfl) (by kernel_rfl) (fun _ _ _ h => h) (Or.inl ⟨by rfl, ?hyt197⟩) (by assumption) ?_
          case hyt197 => (intro w hSw; (try dsimp only at hSw); go_simp; refine Eq.trans (if_neg (by omega)) ?_; with_reducible rfl)
          try simp only [Act.put, List.setIfInBounds_toArray, List.set_cons_zero, List.set_cons_succ]
          refine wpAnyH_ready (rs := [33]) (by kernel_rfl) (by simp) ?_
          refine (AllReadyH.cons rfl (fun K hK => ?_) AllReadyH.nil)
          rw [if_pos (by rfl)]
          go_simp
          refine Calls.mono (HD.out pr wk195 hpr.1 (by omega)) ?_
          rintro e wk198 ⟨rfl, hb198⟩
          have hX198 : Below w.heap.size w wk198 := bl_then hX195 hb198
          clear hb198
          go_wp2_with fail
          refine hK.out _ _ hX198 (fun hHeld => ?_)
          clear hK K
          try simp only [Act.put, List.setIfInBounds_toArray, List.set_cons_zero, List.set_cons_succ]
          refine takeD (i := 34) (d := some 39) (v := ?vt199) rfl rfl (by kernel_rfl) (by kernel_rfl) (by kernel_rfl) (fun _ _ _ h => h) (Or.inl ⟨by rfl, ?hyt199⟩) (by assumption) ?_
          case hyt199 => (intro w hSw; (try dsimp only at hSw); go_simp; refine Eq.trans (if_neg (by omega)) ?_; with_reducible rfl)
          try simp only [Act.put, List.setIfInBounds_toArray, List.set_cons_zero, List.set_cons_succ]
          refine takeD (i := 35) (d := some 40) (v := ?vt200) rfl rfl (by kernel_rfl) (by kernel_rfl) (by kernel_rfl) (fun _ _ _ h => h) (Or.inl ⟨by rfl, ?hyt200⟩) (by assumption) ?_
          case hyt200 => (intro w hSw; (try dsimp only at hSw); go_simp; refine Eq.trans (if_neg (by omega)) ?_; with_reducible rfl)
          try simp only [Act.put, List.setIfInBounds_toArray, List.set_cons_zero, List.set_cons_succ]
          refine takeD (i := 40) (d := some 45) (v := ?vt201) rfl rfl (by kernel_rfl) (by kernel_rfl) (by kernel_rfl) (fun _ _ _ h => h) (Or.inl ⟨by rfl, ?hyt201⟩) (by assumption) ?_
          case hyt201 => (intro w hSw; (try dsimp only at hSw); go_simp; refine Eq.trans (if_neg (by omega)) ?_; with_reducible rfl)
          try simp only [Act.put, List.setIfInBounds_toArray, List.set_cons_zero, List.set_cons_succ]
          refine takeD (i := 41) (d := some 3) (v := ?vt202) rfl rfl (by kernel_rfl) (by kernel_rfl) (by kernel_rfl) (fun _ _ _ h => h) (Or.inl ⟨by rfl, ?hyt202⟩) (by assumption) ?_
          case hyt202 => (intro w hSw; (try dsimp only at hSw); go_simp <;> with_reducible rfl)
          try simp only [Act.put, List.setIfInBounds_toArray, List.set_cons_zero, List.set_cons_succ]
          refine wpAnyH_done (by kernel_rfl) ?_ _
          refine NoPanic.normal ?_
          go_wp2_with fail
          go_meet
          case rel => exact ⟨rfl, hX198⟩
      · rw [if_pos (by rfl)]
        go_simp
        refine hK.out _ _ hX150 (fun hHeld => ?_)
        clear hK K
        try simp only [Act.put, List.setIfInBounds_toArray, List.set_cons_zero, List.set_cons_succ]
        refine wpAnyH_ready (rs := [4]) (by kernel_rfl) (by simp) ?_
        refine (AllReadyH.cons rfl (fun K hK => ?_) AllReadyH.nil)
        rw [if_pos (by rfl)]
        go_simp
        refine Calls.mono (HD.out id wk150 hid.1 (by omega)) ?_
        rintro e wk204 ⟨rfl, hb204⟩
        have hX204 : Below w.heap.size w wk204 := bl_then hX150 hb204
        clear hb204
        go_wp2_with fail
        refine hK.out _ _ hX204 (fun hHeld => ?_)
        clear hK K
        try simp only [Act.put, List.setIfInBounds_toArray, List.set_cons_zero, List.set_cons_succ]
        refine takeD (i := 5) (d := some 10) (v := ?vt205) rfl rfl (by kernel_rfl) (by kernel_rfl) (by kernel_rfl) (fun _ _ _ h => h) (Or.inl ⟨by rfl, ?hyt205⟩) (by assumption) ?_
        case hyt205 => (intro w hSw; (try dsimp only at hSw); go_simp; refine Eq.trans (if_neg (by omega)) ?_; with_reducible rfl)
        try simp only [Act.put, List.setIfInBounds_toArray, List.set_cons_zero, List.set_cons_succ]
        refine wpAnyH_ready (rs := [10]) (by kernel_rfl) (by simp) ?_
        refine (AllReadyH.cons rfl (fun K hK => ?_) AllReadyH.nil)
        rw [if_pos (by rfl)]
        go_simp
        refine Calls.mono (HD.out la wk204 hla.1 (by omega)) ?_
        rintro e wk206 ⟨rfl, hb206⟩
        have hX206 : Below w.heap.size w wk206 := bl_then hX204 hb206
        clear hb206
        go_wp2_with fail
        refine hK.out _ _ hX206 (fun hHeld => ?_)
        clear hK K
        try simp only [Act.put, List.setIfInBounds_toArray, List.set_cons_zero, List.set_cons_succ]
        refine takeD (i := 11) (d := some 16) (v := ?vt207) rfl rfl (by kernel_rfl) (by kernel_rfl) (by kernel_rfl) (fun _ _ _ h => h) (Or.inl ⟨by rfl, ?hyt207⟩) (by assumption) ?_
        case hyt207 => (intro w hSw; (try dsimp only at hSw); go_simp; refine Eq.trans (if_neg (by omega)) ?_; with_reducible rfl)
        try simp only [Act.put, List.setIfInBounds_toArray, List.set_cons_zero, List.set_cons_succ]
        refine takeD (i := 12) (d := some 17) (v := ?vt208) rfl rfl (by kernel_rfl) (by kernel_rfl) (by kernel_rfl) (fun _ _ _ h => h) (Or.inl ⟨by rfl, ?hyt208⟩) (by assumption) ?_
        case hyt208 => (intro w hSw; (try dsimp only at hSw); go_simp; refine Eq.trans (if_neg (by omega)) ?_; with_reducible rfl)
        try simp only [Act.put, List.setIfInBounds_toArray, List.set_cons_zero, List.set_cons_succ]
        refine takeD (i := 20) (d := some 25) (v := ?vt209) rfl rfl (by kernel_rfl) (by kernel_rfl) (by kernel_rfl) (fun _ _ _ h => h) (Or.inl ⟨by rfl, ?hyt209⟩) (by assumption) ?_
        case hyt209 => (intro w hSw; (try dsimp only at hSw); go_simp; refine Eq.trans (if_neg (by omega)) ?_; with_reducible rfl)
        try simp only [Act.put, List.setIfInBounds_toArray, List.set_cons_zero, List.set_cons_succ]
        refine takeD (i := 21) (d := some 26) (v := ?vt210) rfl rfl (by kernel_rfl) (by kernel_rfl) (by kernel_rfl) (fun _ _ _ h => h) (Or.inl ⟨by rfl, ?hyt210⟩) (by assumption) ?_
        case hyt210 => (intro w hSw; (try dsimp only at hSw); go_simp; refine Eq.trans (if_neg (by omega)) ?_; with_reducible rfl)
        try simp only [Act.put, List.setIfInBounds_toArray, List.set_cons_zero, List.set_cons_succ]
        refine wpAnyH_ready (rs := [26]) (by kernel_rfl) (by simp) ?_
        refine (AllReadyH.cons rfl (fun K hK => ?_) AllReadyH.nil)
        rw [if_pos (by rfl)]
        go_simp
        refine Calls.mono (HD.out wi wk206 hwi.1 (by omega)) ?_
        rintro e wk211 ⟨rfl, hb211⟩
        have hX211 : Below w.heap.size w wk211 := bl_then hX206 hb211
        clear hb211
        go_wp2_with fail
        refine hK.out _ _ hX211 (fun hHeld => ?_)
        clear hK K
        try simp only [Act.put, List.setIfInBounds_toArray, List.set_cons_zero, List.set_cons_succ]
        refine takeD (i := 27) (d := some 32) (v := ?vt212) rfl rfl (by kernel_rfl) (by kernel_rfl) (by kernel_rfl) (fun _ _ _ h => h) (Or.inl ⟨by rfl, ?hyt212⟩) (by assumption) ?_
        case hyt212 => (intro w hSw; (try dsimp only at hSw); go_simp; refine Eq.trans (if_neg (by omega)) ?_; with_reducible rfl)
        try simp only [Act.put, List.setIfInBounds_toArray, List.set_cons_zero, List.set_cons_succ]
        refine takeD (i := 28) (d := some 33) (v := ?vt213) rfl rfl (by kernel_rfl) (by kernel_rfl) (by kernel_rfl) (fun _ _ _ h => h) (Or.inl ⟨by rfl, ?hyt213⟩) (by assumption) ?_
        case hyt213 => (intro w hSw; (try dsimp only at hSw); go_simp; refine Eq.trans (if_neg (by omega)) ?_; with_reducible rfl)
        try simp only [Act.put, List.setIfInBounds_toArray, List.set_cons_zero, List.set_cons_succ]
        refine wpAnyH_ready (rs := [33]) (by kernel_rfl) (by simp) ?_
        refine (AllReadyH.cons rfl (fun K hK => ?_) AllReadyH.nil)
        rw [if_pos (by rfl)]
        go_simp
        refine Calls.mono (HD.out pr wk211 hpr.1 (by omega)) ?_
        rintro e wk214 ⟨rfl, hb214⟩
        have hX214 : Below w.heap.size w wk214 := bl_then hX211 hb214
        clear hb214
        go_wp2_with fail
        refine hK.out _ _ hX214 (fun hHeld => ?_)
        clear hK K
        try simp only [Act.put, List.setIfInBounds_toArray, List.set_cons_zero, List.set_cons_succ]
        refine takeD (i := 34) (d := some 39) (v := ?vt215) rfl rfl (by kernel_rfl) (by kernel_rfl) (by kernel_rfl) (fun _ _ _ h => h) (Or.inl ⟨by rfl, ?hyt215⟩) (by assumption) ?_
        case hyt215 => (intro w hSw; (try dsimp only at hSw); go_simp; refine Eq.trans (if_neg (by omega)) ?_; with_reducible rfl)
        try simp only [Act.put, List.setIfInBounds_toArray, List.set_cons_zero, List.set_cons_succ]
        refine takeD (i := 35) (d := some 40) (v := ?vt216) rfl rfl (by kernel_rfl) (by kernel_rfl) (by kernel_rfl) (fun _ _ _ h => h) (Or.inl ⟨by rfl, ?hyt216⟩) (by assumption) ?_
        case hyt216 => (intro w hSw; (try dsimp only at hSw); go_simp; refine Eq.trans (if_neg (by omega)) ?_; with_reducible rfl)
        try simp only [Act.put, List.setIfInBounds_toArray, List.set_cons_zero, List.set_cons_succ]
        refine takeD (i := 40) (d := some 45) (v := ?vt217) rfl rfl (by kernel_rfl) (by kernel_rfl) (by kernel_rfl) (fun _ _ _ h => h) (Or.inl ⟨by rfl, ?hyt217⟩) (by assumption) ?_
        case hyt217 => (intro w hSw; (try dsimp only at hSw); go_simp; refine Eq.trans (if_neg (by omega)) ?_; with_reducible rfl)
        try simp only [Act.put, List.setIfInBounds_toArray, List.set_cons_zero, List.set_cons_succ]
        refine takeD (i := 41) (d := some 3) (v := ?vt218) rfl rfl (by kernel_rfl) (by kernel_rfl) (by kernel_rfl) (fun _ _ _ h => h) (Or.inl ⟨by rfl, ?hyt218⟩) (by assumption) ?_
        case hyt218 => (intro w hSw; (try dsimp only at hSw); go_simp <;> with_reducible rfl)
        try simp only [Act.put, List.setIfInBounds_toArray, List.set_cons_zero, List.set_cons_succ]
        refine wpAnyH_done (by kernel_rfl) ?_ _
        refine NoPanic.normal ?_
        go_wp2_with fail
        go_meet
        case rel => exact ⟨rfl, hX214⟩
  obtain ⟨rfl, hBc⟩ := hcut
  have HH : Hid ((headT id la kk wi pr lab).size ≤ 110) := headT_size id la wi pr kk lab (by omega) (by omega) (by omega) (by omega) hl
  have hd : ∀ i, i < n → (digB (X i)).size ≤ 21 ∧ (digB (Y i)).size ≤ 21 := fun i hi => ⟨digB_size _ (hXY i hi).1.1 (hXY i hi).1.2, digB_size _ (hXY i hi).2.1 (hXY i hi).2.2⟩
  have HT2 : Hid (∀ k, k ≤ n → (ptsT X Y (headT id la kk wi pr lab) k).size ≤ 110 + 44 * k) := fun k hk => by
    have := ptsT_size X Y (headT id la kk wi pr lab) k (fun i hi => hd i (by omega))
    have := HH.out
    omega
  have HXY : Hid (∀ i, i < n → (0 ≤ X i ∧ X i ≤ 1048576) ∧ 0 ≤ Y i ∧ Y i ≤ 1048576) := hXY
  have HDS : Hid (∀ i, i < n → (digB (X i)).size ≤ 21 ∧ (digB (Y i)).size ≤ 21) := hd
  generalize hTe : headT id la kk wi pr lab = H at *
  have HTe : Hid (headT id la kk wi pr lab = H) := hTe
  clear HT z0 z1 z2 z3 z4 hk0 hk1 hk2 hk3 hk4 hd hXY HH hTe
  go_wp2_with fail
  go_loopw [3, 4] (fun t i wr => ∃ k : Nat, i = .int .i64 (k : Int) ∧ t = .string (ptsT X Y H k) ∧ k ≤ n ∧ Below w.heap.size w wr) (fun _ i _ => n - (intOf i).toNat)
  case atStart => exact ⟨0, rfl, rfl, Nat.zero_le _, hBc⟩
  case round =>
    obtain ⟨k, rfl, rfl, hkn, hB⟩ := hrel
    have q4 := y4 wr hB
    by_cases hk : k < n
    · have hki : (k : Int) < (n : Int) := by omega
      have hx := (HXY.out k hk).1
      have hy := (HXY.out k hk).2
      have zx : ((digB (X k)).size : Int) ≤ 21 := by have := (HDS.out k hk).1; omega
      have zy : ((digB (Y k)).size : Int) ≤ 21 := by have := (HDS.out k hk).2; omega
      have zt : ((ptsT X Y H k).size : Int) ≤ 1000 := by have := HT2.out k hkn; omega
      have hpt := HPT.out w (Below.refl _ _)
      rcases hpt with h0 | ⟨b, off, rfl, hbl, hp⟩
      · omega
      obtain ⟨g0, g1⟩ := hp k hk
      have p0 : ∀ W', Below w.heap.size w W' → W'.cell? ⟨b, off + k * 2, none⟩ = some (.int .i64 (X k)) := fun W' h => (h.cell (p := ⟨b, off + k * 2, none⟩) hbl).trans g0
      have p1 : ∀ W', Below w.heap.size w W' → W'.cell? ⟨b, off + k * 2 + 1, none⟩ = some (.int .i64 (Y k)) := fun W' h => (h.cell (p := ⟨b, off + k * 2 + 1, none⟩) hbl).trans g1
      clear g0 g1 hp HPT HXY HDS HT2
      go_upto_region 5 with fail
      refine wp_region_noPanic ?_
      refine wp_region_held_drew (S := fun W' => Below w.heap.size w W') (by kernel_rfl) (by (repeat (first | exact Below.refl _ _ | assumption | refine Below.drew ?_ | refine bl_alloc ?_ _ | refine bl_then ?_ (by assumption) | refine Below.setCell ?_ (by first | omega | (simp; done) | (simp; omega)) _ | refine bl_store ?_ ?_ _ _))) (fun hHeld => ?_)
      have hXa : Below w.heap.size w wr.drew := hHeld
      generalize wr.drew = wa at *
      refine takeD (i := 0) (d := some 55) (v := ?vr0) rfl rfl (by kernel_rfl) (by kernel_rfl) (by kernel_rfl) (fun _ _ _ h => h) (Or.inl ⟨by rfl, ?hyr0⟩) (by assumption) ?_
      case hyr0 => (intro w hSw; (try dsimp only at hSw); go_simp <;> with_reducible rfl)
      try simp only [Act.put, List.setIfInBounds_toArray, List.set_cons_zero, List.set_cons_succ]
      refine takeD (i := 1) (d := some 56) (v := ?vr1) rfl rfl (by kernel_rfl) (by kernel_rfl) (by kernel_rfl) (fun _ _ _ h => h) (Or.inl ⟨by rfl, ?hyr1⟩) (by assumption) ?_
      case hyr1 => (intro w hSw; (try dsimp only at hSw); go_simp; refine Eq.trans (if_neg (by omega)) ?_; with_reducible rfl)
      try simp only [Act.put, List.setIfInBounds_toArray, List.set_cons_zero, List.set_cons_succ]
      refine takeD (i := 2) (d := some 57) (v := ?vr2) rfl rfl (by kernel_rfl) (by kernel_rfl) (by kernel_rfl) (fun _ _ _ h => h) (Or.inl ⟨by rfl, ?hyr2⟩) (by assumption) ?_
      case hyr2 => (intro w hSw; (try dsimp only at hSw); go_simp <;> with_reducible rfl)
      try simp only [Act.put, List.setIfInBounds_toArray, List.set_cons_zero, List.set_cons_succ]
      refine takeD (i := 3) (d := some 58) (v := ?vr3) rfl rfl (by kernel_rfl) (by kernel_rfl) (by kernel_rfl) (fun _ _ _ h => h) (Or.inl ⟨by rfl, ?hyr3⟩) (by assumption) ?_
      case hyr3 => (intro w hSw; (try dsimp only at hSw); go_simp <;> with_reducible rfl)
      try simp only [Act.put, List.setIfInBounds_toArray, List.set_cons_zero, List.set_cons_succ]
      refine takeD (i := 4) (d := some 59) (v := ?vr4) rfl rfl (by kernel_rfl) (by kernel_rfl) (by kernel_rfl) (fun _ _ _ h => h) (Or.inl ⟨by rfl, ?hyr4⟩) (by assumption) ?_
      case hyr4 => (intro w hSw; (try dsimp only at hSw); go_simp <;> with_reducible rfl)
      try simp only [Act.put, List.setIfInBounds_toArray, List.set_cons_zero, List.set_cons_succ]
      refine takeD (i := 5) (d := some 60) (v := ?vr5) rfl rfl (by kernel_rfl) (by kernel_rfl) (by kernel_rfl) (fun _ _ _ h => h) (Or.inl ⟨by rfl, ?hyr5⟩) (by assumption) ?_
      case hyr5 => (intro w hSw; (try dsimp only at hSw); go_simp <;> with_reducible rfl)
      try simp only [Act.put, List.setIfInBounds_toArray, List.set_cons_zero, List.set_cons_succ]
      refine takeD (i := 6) (d := some 61) (v := ?vr6) rfl rfl (by kernel_rfl) (by kernel_rfl) (by kernel_rfl) (fun _ _ _ h => h) (Or.inl ⟨by rfl, ?hyr6⟩) (by assumption) ?_
      case hyr6 => (intro w hSw; (try dsimp only at hSw); go_simp <;> with_reducible rfl)
      try simp only [Act.put, List.setIfInBounds_toArray, List.set_cons_zero, List.set_cons_succ]
      refine takeD (i := 7) (d := some 62) (v := ?vr7) rfl rfl (by kernel_rfl) (by kernel_rfl) (by kernel_rfl) (fun _ _ _ h => h) (Or.inl ⟨by rfl, ?hyr7⟩) (by assumption) ?_
      case hyr7 => (intro w hSw; (try dsimp only at hSw); go_simp <;> with_reducible rfl)
      try simp only [Act.put, List.setIfInBounds_toArray, List.set_cons_zero, List.set_cons_succ]
      refine takeD (i := 8) (d := some 63) (v := ?vr8) rfl rfl (by kernel_rfl) (by kernel_rfl) (by kernel_rfl) (fun _ _ _ h => h) (Or.inl ⟨by rfl, ?hyr8⟩) (by assumption) ?_
      case hyr8 => (intro w hSw; (try dsimp only at hSw); go_simp <;> with_reducible rfl)
      try simp only [Act.put, List.setIfInBounds_toArray, List.set_cons_zero, List.set_cons_succ]
      refine takeD (i := 9) (d := some 64) (v := ?vr9) rfl rfl (by kernel_rfl) (by kernel_rfl) (by kernel_rfl) (fun _ _ _ h => h) (Or.inl ⟨by rfl, ?hyr9⟩) (by assumption) ?_
      case hyr9 => (intro w hSw; (try dsimp only at hSw); go_simp <;> with_reducible rfl)
      try simp only [Act.put, List.setIfInBounds_toArray, List.set_cons_zero, List.set_cons_succ]
      refine takeD (i := 13) (d := some 68) (v := ?vr13) rfl rfl (by kernel_rfl) (by kernel_rfl) (by kernel_rfl) (fun _ _ _ h => h) (Or.inl ⟨by rfl, ?hyr13⟩) (by assumption) ?_
      case hyr13 => (intro w hSw; (try dsimp only at hSw); go_simp <;> with_reducible rfl)
      try simp only [Act.put, List.setIfInBounds_toArray, List.set_cons_zero, List.set_cons_succ]
      refine takeD (i := 14) (d := some 69) (v := ?vr14) rfl rfl (by kernel_rfl) (by kernel_rfl) (by kernel_rfl) (fun _ _ _ h => h) (Or.inl ⟨by rfl, ?hyr14⟩) (by assumption) ?_
      case hyr14 => (intro w hSw; (try dsimp only at hSw); go_simp <;> with_reducible rfl)
      try simp only [Act.put, List.setIfInBounds_toArray, List.set_cons_zero, List.set_cons_succ]
      refine takeD (i := 15) (d := some 70) (v := ?vr15) rfl rfl (by kernel_rfl) (by kernel_rfl) (by kernel_rfl) (fun _ _ _ h => h) (Or.inl ⟨by rfl, ?hyr15⟩) (by assumption) ?_
      case hyr15 => (intro w hSw; (try dsimp only at hSw); go_simp <;> with_reducible rfl)
      try simp only [Act.put, List.setIfInBounds_toArray, List.set_cons_zero, List.set_cons_succ]
      refine takeD (i := 16) (d := some 71) (v := ?vr16) rfl rfl (by kernel_rfl) (by kernel_rfl) (by kernel_rfl) (fun _ _ _ h => h) (Or.inl ⟨by rfl, ?hyr16⟩) (by assumption) ?_
      case hyr16 => (intro w hSw; (try dsimp only at hSw); go_simp <;> with_reducible rfl)
      try simp only [Act.put, List.setIfInBounds_toArray, List.set_cons_zero, List.set_cons_succ]
      refine takeD (i := 17) (d := some 72) (v := ?vr17) rfl rfl (by kernel_rfl) (by kernel_rfl) (by kernel_rfl) (fun _ _ _ h => h) (Or.inl ⟨by rfl, ?hyr17⟩) (by assumption) ?_
      case hyr17 => (intro w hSw; (try dsimp only at hSw); go_simp <;> with_reducible rfl)
      try simp only [Act.put, List.setIfInBounds_toArray, List.set_cons_zero, List.set_cons_succ]
      refine takeD (i := 18) (d := some 73) (v := ?vr18) rfl rfl (by kernel_rfl) (by kernel_rfl) (by kernel_rfl) (fun _ _ _ h => h) (Or.inl ⟨by rfl, ?hyr18⟩) (by assumption) ?_
      case hyr18 => (intro w hSw; (try dsimp only at hSw); go_simp <;> with_reducible rfl)
      try simp only [Act.put, List.setIfInBounds_toArray, List.set_cons_zero, List.set_cons_succ]
      refine takeD (i := 19) (d := some 74) (v := ?vr19) rfl rfl (by kernel_rfl) (by kernel_rfl) (by kernel_rfl) (fun _ _ _ h => h) (Or.inl ⟨by rfl, ?hyr19⟩) (by assumption) ?_
      case hyr19 => (intro w hSw; (try dsimp only at hSw); go_simp <;> with_reducible rfl)
      try simp only [Act.put, List.setIfInBounds_toArray, List.set_cons_zero, List.set_cons_succ]
      refine takeD (i := 20) (d := some 75) (v := ?vr20) rfl rfl (by kernel_rfl) (by kernel_rfl) (by kernel_rfl) (fun _ _ _ h => h) (Or.inl ⟨by rfl, ?hyr20⟩) (by assumption) ?_
      case hyr20 => (intro w hSw; (try dsimp only at hSw); go_simp <;> with_reducible rfl)
      try simp only [Act.put, List.setIfInBounds_toArray, List.set_cons_zero, List.set_cons_succ]
      refine wpAnyH_ready (rs := [10]) (by kernel_rfl) (by simp) ?_
      refine (AllReadyH.cons rfl (fun K hK => ?_) AllReadyH.nil)
      rw [if_pos (by rfl)]
      go_simp
      refine Calls.mono (HD.out (X k) _ hx.1 hx.2) ?_
      rintro e wb ⟨rfl, hbb⟩
      have hXb : Below w.heap.size w wb := bl_then hXa hbb
      clear hbb
      go_wp2_with fail
      refine hK.out _ _ hXb (fun hHeld => ?_)
      clear hK K
      try simp only [Act.put, List.setIfInBounds_toArray, List.set_cons_zero, List.set_cons_succ]
      refine takeD (i := 11) (d := some 66) (v := ?vr11) rfl rfl (by kernel_rfl) (by kernel_rfl) (by kernel_rfl) (fun _ _ _ h => h) (Or.inl ⟨by rfl, ?hyr11⟩) (by assumption) ?_
      case hyr11 => (intro w hSw; (try dsimp only at hSw); go_simp; refine Eq.trans (if_neg (by omega)) ?_; with_reducible rfl)
      try simp only [Act.put, List.setIfInBounds_toArray, List.set_cons_zero, List.set_cons_succ]
      refine takeD (i := 12) (d := some 67) (v := ?vr12) rfl rfl (by kernel_rfl) (by kernel_rfl) (by kernel_rfl) (fun _ _ _ h => h) (Or.inl ⟨by rfl, ?hyr12⟩) (by assumption) ?_
      case hyr12 => (intro w hSw; (try dsimp only at hSw); go_simp; refine Eq.trans (if_neg (by omega)) ?_; with_reducible rfl)
      try simp only [Act.put, List.setIfInBounds_toArray, List.set_cons_zero, List.set_cons_succ]
      refine wpAnyH_ready (rs := [21]) (by kernel_rfl) (by simp) ?_
      refine (AllReadyH.cons rfl (fun K hK => ?_) AllReadyH.nil)
      rw [if_pos (by rfl)]
      go_simp
      refine Calls.mono (HD.out (Y k) _ hy.1 hy.2) ?_
      rintro e wc ⟨rfl, hbc⟩
      have hXc : Below w.heap.size w wc := bl_then hXb hbc
      clear hbc
      go_wp2_with fail
      refine hK.out _ _ hXc (fun hHeld => ?_)
      clear hK K
      try simp only [Act.put, List.setIfInBounds_toArray, List.set_cons_zero, List.set_cons_succ]
      refine takeD (i := 22) (d := some 77) (v := ?vr22) rfl rfl (by kernel_rfl) (by kernel_rfl) (by kernel_rfl) (fun _ _ _ h => h) (Or.inl ⟨by rfl, ?hyr22⟩) (by assumption) ?_
      case hyr22 => (intro w hSw; (try dsimp only at hSw); go_simp; refine Eq.trans (if_neg (by omega)) ?_; with_reducible rfl)
      try simp only [Act.put, List.setIfInBounds_toArray, List.set_cons_zero, List.set_cons_succ]
      refine takeD (i := 23) (d := some 3) (v := ?vr23) rfl rfl (by kernel_rfl) (by kernel_rfl) (by kernel_rfl) (fun _ _ _ h => h) (Or.inl ⟨by rfl, ?hyr23⟩) (by assumption) ?_
      case hyr23 => (intro w hSw; (try dsimp only at hSw); go_simp <;> with_reducible rfl)
      try simp only [Act.put, List.setIfInBounds_toArray, List.set_cons_zero, List.set_cons_succ]
      refine wpAnyH_done (by kernel_rfl) ?_ _
      refine NoPanic.normal ?_
      go_wp2_with fail
      go_roundw
      case rel => exact ⟨k + 1, by simp, rfl, by omega, hXc⟩
      case measure => simp [intOf]; omega
    · have hkn2 : k = n := by omega
      subst hkn2
      go_wp2_with fail
      go_ret
      exact ⟨by rw [HTe.out]; rfl, hB⟩
end Go.Proofs.YtnbhpicdghgniaaDoor
