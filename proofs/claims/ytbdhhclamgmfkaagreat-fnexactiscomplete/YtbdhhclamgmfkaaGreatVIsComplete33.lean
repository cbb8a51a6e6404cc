/- The fault of requests, and which one is of a ref: the program and the model. -/
import Derived.Test.YtbdhhclamgmfkaaGreatVIsComplete28
import Derived.Test.YtbdhhclamgmfkaaGreatVIsComplete26
import Derived.Test.YtbdhhclamgmfkaaGreatVIsComplete19
import Derived.BigQuiet
namespace Go.Proofs.YtbdhhclamgmfkaaGreat
open Go.RowKit
set_option linter.unusedSimpArgs false
set_option linter.unusedVariables false
set_option maxRecDepth 100000

/-- A request is of this ref. -/
def isR (e : Req) (z x y : Int) : Bool := (e.z == z) && ((e.x == x) && (e.y == y))
/-- A request without a fault of its own. -/
def reqB (e : Req) : Bool := refB e.z e.x e.y && (inB e.du 0 9999 && inB e.tr 1 99)
def reqC (e : Req) : Int := if reqB e = true then 0 else 3
/-- The place of the request of a ref. -/
def atW (n : Nat) (E : Nat → Req) (z x y : Int) : Int := firstI (fun i => isR (E i) z x y) n
def rCode (E : Nat → Req) (i : Nat) : Int := if reqB (E i) = true then (if 0 ≤ atW i E (E i).z (E i).x (E i).y then 6 else 0) else 3
/-- What is not right of requests. -/
def reqsC (n : Nat) (E : Nat → Req) : Int := if 8 < n then 2 else scanC (rCode E) 0 n
theorem rCode_bad {E : Nat → Req} {i : Nat} (h : reqB (E i) = false) : rCode E i = 3 := by simp [rCode, h]
theorem rCode_ok {E : Nat → Req} {i : Nat} (h : reqB (E i) = true) (h2 : atW i E (E i).z (E i).x (E i).y = -1) : rCode E i = 0 := by simp [rCode, h, h2]
theorem rCode_taken {E : Nat → Req} {i : Nat} (h : reqB (E i) = true) (h2 : 0 ≤ atW i E (E i).z (E i).x (E i).y) : rCode E i = 6 := by simp [rCode, h, h2]
theorem isR_self (e : Req) : isR e e.z e.x e.y = true := by simp [isR]
/-- The cells of a ref. -/
def R3At (w : World) (p : Nat) (z x y : Int) : Prop := w.cell? ⟨p, 0, none⟩ = some (.int .i64 z) ∧ w.cell? ⟨p, 1, none⟩ = some (.int .i64 x) ∧ w.cell? ⟨p, 2, none⟩ = some (.int .i64 y)
theorem R3At.lt {w : World} {p : Nat} {z x y : Int} (h : R3At w p z x y) : p < w.heap.size := World.block_lt_of_cell? _ _ h.1
theorem R3At.below {w w' : World} {p : Nat} {z x y : Int} (h : R3At w p z x y) (hb : Below w.heap.size w w') : R3At w' p z x y :=
  ⟨(hb.cell (p := ⟨p, 0, none⟩) h.lt).trans h.1, (hb.cell (p := ⟨p, 1, none⟩) h.lt).trans h.2.1, (hb.cell (p := ⟨p, 2, none⟩) h.lt).trans h.2.2⟩
theorem enter_rq (args : Array Value) (w : World) : (callFunc 119 args).run Tryz.prog w = .ok (.enter 119 args) w := by
  have h1 : (Tryz.f119).name ≠ "runtime.NumGoroutine" := by
    have : ((Tryz.f119).name == "runtime.NumGoroutine") = false := by kernel_rfl
    simpa using this
  have hb : ∃ c, (Tryz.f119).body = some c := ⟨_, rfl⟩
  obtain ⟨c, hb⟩ := hb
  simp [callFunc, Tryz.func119, h1, hb]
set_option maxHeartbeats 2000000 in
theorem requestOf1_any (e : Req) (r : Nat) (z x y : Int) (w : World) (h : R3At w r z x y) :
    Calls Tryz.prog 119 #[reqV e, .pointer (some ⟨r, 0, none⟩)] w fun q w' => q = .returned (.bool (isR e z x y)) ∧ Below w.heap.size w w' := by
  have hl := h.lt
  have c0 : (w.alloc (.cells #[.int .i64 e.z, .int .i64 e.x, .int .i64 e.y, .int .i64 e.du, .int .i64 e.tr] 89)).cell? ⟨r, 0, none⟩ = some (.int .i64 z) := by rw [World.cell?_alloc_lt _ _ _ hl]; exact h.1
  have c1 : (w.alloc (.cells #[.int .i64 e.z, .int .i64 e.x, .int .i64 e.y, .int .i64 e.du, .int .i64 e.tr] 89)).cell? ⟨r, 1, none⟩ = some (.int .i64 x) := by rw [World.cell?_alloc_lt _ _ _ hl]; exact h.2.1
  have c2 : (w.alloc (.cells #[.int .i64 e.z, .int .i64 e.x, .int .i64 e.y, .int .i64 e.du, .int .i64 e.tr] 89)).cell? ⟨r, 2, none⟩ = some (.int .i64 y) := by rw [World.cell?_alloc_lt _ _ _ hl]; exact h.2.2
  have heq := fun w => eql_ref e.z e.x e.y z x y w
  clear h hl
  go_enter Tryz.func119, Tryz.ntmps119
  go_wp2
  go_ret
  exact ⟨rfl, by (repeat (first | exact Below.refl _ _ | assumption | refine Below.drew ?_ | refine bl_alloc ?_ _ | refine bl_then ?_ (by assumption) | refine Below.setCell ?_ (by first | omega | (simp; done) | (simp; omega)) _ | refine bl_store ?_ ?_ _ _))⟩
set_option maxHeartbeats 4000000 in
theorem indexW_any (a : Option Addr) (n cap : Nat) (E : Nat → Req) (r : Nat) (z x y : Int) (w : World) (hp : IsWs w a n E) (hr : R3At w r z x y) (hn : n ≤ 1048576) :
    Calls Tryz.prog 118 #[.slice a n cap, .func (.func 119) #[] #[.pointer (some ⟨r, 0, none⟩)]] w fun e w' => e = .returned (.int .i64 (atW n E z x y)) ∧ Below w.heap.size w w' := by
  have HP : Hid (IsWs w a n E) := hp
  have HR : Hid (R3At w r z x y) := hr
  have hce := enter_rq
  clear hp hr
  go_enter Tryz.func118, Tryz.ntmps118
  go_wp2_with fail
  go_loopw [8] (fun i wr => ∃ k : Nat, k ≤ n ∧ i = .int .i64 (k : Int) ∧ (∀ j, j < k → isR (E j) z x y = false) ∧ Below w.heap.size w wr) (fun i _ => n - (intOf i).toNat)
  case atStart => exact ⟨0, by omega, rfl, fun j hj => absurd hj (Nat.not_lt_zero _), Below.refl _ _⟩
  case round =>
    obtain ⟨k, hk, rfl, hno, hB⟩ := hrel
    have HN : Hid (∀ j, j < k → isR (E j) z x y = false) := hno
    have HB : Hid (Below w.heap.size w wr) := hB
    by_cases hlt : k < n
    · rcases HP.out with h0 | ⟨b, off, rfl, hb, hpt⟩
      · omega
      obtain ⟨q0, q1, q2, q3, q4⟩ := (hpt.below hB hb) k hlt
      have hi : (k : Int) < (n : Int) := by omega
      have hi0 : (0 : Int) ≤ (k : Int) := by omega
      have sO : Calls Tryz.prog 119 #[reqV (E k), .pointer (some ⟨r, 0, none⟩)] wr fun q w' => q = .returned (.bool (isR (E k) z x y)) ∧ Below wr.heap.size wr w' := requestOf1_any (E k) r z x y wr (HR.out.below hB)
      clear hno hB hpt
      cases hE : isR (E k) z x y
      · rw [hE] at sO
        have HN2 : Hid (∀ j, j < k + 1 → isR (E j) z x y = false) := fun j hj => by
          by_cases e : j = k
          · rw [e]; exact hE
          · exact HN.out j (by omega)
        clear hE
        go_wp2_with fail
        refine sO.mono ?_
        rintro e w1 ⟨rfl, hb1⟩
        go_wp2_with fail
        exact ⟨⟨k + 1, by omega, by simp, HN2.out, bl_then HB.out hb1⟩, by simp [intOf]; omega⟩
      · rw [hE] at sO
        have HY : Hid (atW n E z x y = (k : Int)) := firstI_yes (G := fun i => isR (E i) z x y) hlt hE HN.out
        clear hE
        go_wp2_with fail
        refine sO.mono ?_
        rintro e w1 ⟨rfl, hb1⟩
        go_wp2
        go_ret
        exact ⟨ret_int HY.out.symm, bl_then HB.out hb1⟩
    · obtain rfl : n = k := by omega
      have HY : Hid (atW n E z x y = -1) := firstI_no (G := fun i => isR (E i) z x y) HN.out
      go_wp2
      go_ret
      exact ⟨ret_int HY.out.symm, HB.out⟩
set_option maxHeartbeats 2000000 in
theorem requestOf_any (a : Option Addr) (n cap : Nat) (E : Nat → Req) (z x y : Int) (w : World) (hp : IsWs w a n E) (hn : n ≤ 1048576) :
    Calls Tryz.prog 93 #[.slice a n cap, refV z x y] w fun e w' => e = .returned (.int .i64 (atW n E z x y)) ∧ Below w.heap.size w w' := by
  have HI : Hid (∀ W, Below w.heap.size w W → R3At W w.heap.size z x y → Calls Tryz.prog 118 #[.slice a n cap, .func (.func 119) #[] #[.pointer (some ⟨w.heap.size, 0, none⟩)]] W fun e w' => e = .returned (.int .i64 (atW n E z x y)) ∧ Below W.heap.size W w') := fun W h h2 => indexW_any a n cap E w.heap.size z x y W (hp.below h) h2 hn
  clear hp
  have hmf : ∀ (fn : Fn) (first cap : Array Value) (w : World), (Instr.makeFunc fn first cap).run Tryz.prog w = .ok (.func fn first cap) w := fun _ _ _ _ => rfl
  generalize atW n E z x y = r at *
  go_enter Tryz.func93, Tryz.ntmps93
  go_wp2_with fail
  generalize hW : (w.alloc _ : World) = W
  have HB0 : Below w.heap.size w W := by subst hW; (repeat (first | exact Below.refl _ _ | assumption | refine Below.drew ?_ | refine bl_alloc ?_ _ | refine bl_then ?_ (by assumption) | refine Below.setCell ?_ (by first | omega | (simp; done) | (simp; omega)) _ | refine bl_store ?_ ?_ _ _))
  have HR : R3At W w.heap.size z x y := by subst hW; exact ⟨by simp [go_sem], by simp [go_sem], by simp [go_sem]⟩
  clear hW
  refine (HI.out _ HB0 HR).mono ?_
  rintro e w1 ⟨rfl, hb1⟩
  go_wp2
  go_ret
  exact ⟨rfl, bl_then HB0 hb1⟩
set_option maxHeartbeats 2000000 in
theorem requestFault_any (e : Req) (w : World) : Calls Tryz.prog 92 #[reqV e] w fun r w' => r = .returned (.int .i64 (reqC e)) ∧ Below w.heap.size w w' := by
  rcases refC_cases e.z e.x e.y with ⟨h1, h2⟩ | ⟨h1, h2⟩
  · cases h3 : inB e.du 0 9999 <;> cases h4 : inB e.tr 1 99
    all_goals
      have hk : Hid (reqC e = if (inB e.du 0 9999 && inB e.tr 1 99) = true then 0 else 3) := by show _ = _; simp [reqC, reqB, h2]
      rw [h3, h4] at hk
      have HF : Hid (∀ w, Calls Tryz.prog 117 #[refV e.z e.x e.y] w fun r w' => r = .returned (.int .i64 0) ∧ Below w.heap.size w w') := fun w => by have h := refFault_any e.z e.x e.y w; rw [h1] at h; exact h
      clear h1 h2
      go_enter Tryz.func92, Tryz.ntmps92
      go_wp2_with fail
      generalize hW : (w.alloc _ : World) = W
      have HB0 : Below w.heap.size w W := by subst hW; (repeat (first | exact Below.refl _ _ | assumption | refine Below.drew ?_ | refine bl_alloc ?_ _ | refine bl_then ?_ (by assumption) | refine Below.setCell ?_ (by first | omega | (simp; done) | (simp; omega)) _ | refine bl_store ?_ ?_ _ _))
      have c3 : ∀ W', Below W.heap.size W W' → W'.cell? ⟨w.heap.size, 3, none⟩ = some (.int .i64 e.du) := fun W' h => by rw [h.cell (by subst hW; simp)]; subst hW; simp [go_sem]
      have c4 : ∀ W', Below W.heap.size W W' → W'.cell? ⟨w.heap.size, 4, none⟩ = some (.int .i64 e.tr) := fun W' h => by rw [h.cell (by subst hW; simp)]; subst hW; simp [go_sem]
      clear hW
      refine (HF.out _).mono ?_
      rintro r w1 ⟨rfl, hb1⟩
      have k3 := c3 w1 hb1
      have k4 := c4 w1 hb1
      have HB1 : Hid (Below w.heap.size w w1) := bl_then HB0 hb1
      clear c3 c4 hb1 HB0
      go_wp2_with (go_at_call 87; refine (isWithin_any _ _ _ _).mono ?_; rintro e w' ⟨rfl, rfl⟩)
      all_goals (go_ret; exact ⟨ret_int (by rw [hk.out]; rfl), HB1.out⟩)
  · have hk : Hid (reqC e = 3) := by show _ = _; simp [reqC, reqB, h2]
    have HF : Hid (∀ w, Calls Tryz.prog 117 #[refV e.z e.x e.y] w fun r w' => r = .returned (.int .i64 3) ∧ Below w.heap.size w w') := fun w => by have h := refFault_any e.z e.x e.y w; rw [h1] at h; exact h
    clear h1 h2
    go_enter Tryz.func92, Tryz.ntmps92
    go_wp2_with (go_at_call 117; refine (HF.out _).mono ?_; rintro e w' ⟨rfl, hb⟩)
    go_ret
    exact ⟨ret_int hk.out.symm, by (repeat (first | exact Below.refl _ _ | assumption | refine Below.drew ?_ | refine bl_alloc ?_ _ | refine bl_then ?_ (by assumption) | refine Below.setCell ?_ (by first | omega | (simp; done) | (simp; omega)) _ | refine bl_store ?_ ?_ _ _))⟩
set_option maxHeartbeats 4000000 in
theorem l12At_any (a : Option Addr) (n cap : Nat) (E : Nat → Req) (z x y : Int) (w : World) (hp : IsWs w a n E) (hn : n ≤ 1048576) :
    Calls Tryz.prog 79 #[.slice a n cap, refV z x y] w fun e w' => e = .returned (.int .i64 (atW n E z x y)) ∧ Below w.heap.size w w' := by
  have HP : Hid (IsWs w a n E) := hp
  clear hp
  go_enter Tryz.func79, Tryz.ntmps79
  go_wp2_with fail
  generalize hW : (w.alloc _ : World) = W
  have HB0 : Hid (Below w.heap.size w W) := by show Below _ _ _; subst hW; (repeat (first | exact Below.refl _ _ | assumption | refine Below.drew ?_ | refine bl_alloc ?_ _ | refine bl_then ?_ (by assumption) | refine Below.setCell ?_ (by first | omega | (simp; done) | (simp; omega)) _ | refine bl_store ?_ ?_ _ _))
  have HR : Hid (R3At W w.heap.size z x y) := by show R3At _ _ _ _ _; subst hW; exact ⟨by simp [go_sem], by simp [go_sem], by simp [go_sem]⟩
  clear hW
  go_loopw [5] (fun i wr => ∃ k : Nat, k ≤ n ∧ i = .int .i64 (k : Int) ∧ (∀ j, j < k → isR (E j) z x y = false) ∧ Below W.heap.size W wr) (fun i _ => n - (intOf i).toNat)
  case atStart => exact ⟨0, by omega, rfl, fun j hj => absurd hj (Nat.not_lt_zero _), Below.refl _ _⟩
  case round =>
    obtain ⟨k, hk, rfl, hno, hB⟩ := hrel
    have HN : Hid (∀ j, j < k → isR (E j) z x y = false) := hno
    have HB : Hid (Below W.heap.size W wr) := hB
    by_cases hlt : k < n
    · rcases HP.out with h0 | ⟨b, off, rfl, hb, hpt⟩
      · omega
      obtain ⟨q0, q1, q2, q3, q4⟩ := (hpt.below (bl_then HB0.out hB) hb) k hlt
      obtain ⟨p0, p1, p2⟩ := HR.out.below hB
      have hi : (k : Int) < (n : Int) := by omega
      have hi0 : (0 : Int) ≤ (k : Int) := by omega
      have heq := fun w => eql_ref (E k).z (E k).x (E k).y z x y w
      clear hno hB hpt
      have hE0 : ((E k).z == z && ((E k).x == x && (E k).y == y)) = isR (E k) z x y := rfl
      simp only [hE0] at heq
      clear hE0
      cases hE : isR (E k) z x y
      · simp only [hE] at heq
        have HN2 : Hid (∀ j, j < k + 1 → isR (E j) z x y = false) := fun j hj => by
          by_cases e : j = k
          · rw [e]; exact hE
          · exact HN.out j (by omega)
        clear hE
        generalize (E k).z = rz at *
        generalize (E k).x = rx at *
        generalize (E k).y = ry at *
        go_wp2_with fail
        go_quiet (fail)
        go_wp2_with fail
        exact ⟨⟨k + 1, by omega, by simp, HN2.out, below_drewN HB.out _⟩, by simp [intOf]; omega⟩
      · simp only [hE] at heq
        have HY : Hid (atW n E z x y = (k : Int)) := firstI_yes (G := fun i => isR (E i) z x y) hlt hE HN.out
        clear hE
        generalize (E k).z = rz at *
        generalize (E k).x = rx at *
        generalize (E k).y = ry at *
        go_wp2_with fail
        go_quiet (fail)
        go_wp2
        go_ret
        exact ⟨ret_int HY.out.symm, below_drewN (bl_then HB0.out HB.out) _⟩
    · obtain rfl : n = k := by omega
      have HY : Hid (atW n E z x y = -1) := firstI_no (G := fun i => isR (E i) z x y) HN.out
      go_wp2
      go_ret
      exact ⟨ret_int HY.out.symm, bl_then HB0.out HB.out⟩
end Go.Proofs.YtbdhhclamgmfkaaGreat
