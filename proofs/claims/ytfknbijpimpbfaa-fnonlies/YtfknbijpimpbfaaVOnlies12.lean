/- Several texts in one. -/
import Derived.Test.YtfknbijpimpbfaaVOnlies8
import Derived.Deep.RegionLawGrows
import Derived.OwnWalk

/- Answers with a code and a list of requests: they are compared, marked, and the marks are found again. -/

namespace Go.Proofs.Ytfknbijpimpbfaa
open Go.RowKit
set_option linter.unusedSimpArgs false
set_option linter.unusedVariables false
set_option maxRecDepth 100000

/-- The marks from k0 on. -/
def mkW (k0 : Nat) (i : Nat) : Req := ⟨((k0 + 5 * i : Nat) : Int), ((k0 + 5 * i + 1 : Nat) : Int), ((k0 + 5 * i + 2 : Nat) : Int), ((k0 + 5 * i + 3 : Nat) : Int), ((k0 + 5 * i + 4 : Nat) : Int)⟩
set_option maxHeartbeats 2000000 in
theorem markRequestS_mk (g n cap k0 : Nat) (w : World) (hT : There w g (n * 5)) (hn : n ≤ 1048576) (hk0 : k0 ≤ 1125899906842624) :
    Calls Try.prog 18 #[.slice (some ⟨g, 0, none⟩) n cap, .int .i64 (k0 : Int)] w fun e w' => e = .returned (.int .i64 ((k0 + 5 * n : Nat) : Int)) ∧ w.grownBy w' (some g) ∧ There w' g (n * 5) ∧ WsAt w' g 0 n (mkW k0) := by
  have HT0 : Hid (There w g (n * 5)) := hT
  clear hT
  go_enter Try.func18, Try.ntmps18
  go_wp2_with fail
  go_loopw [1, 5] (fun kk i wr => ∃ j K : Nat, j ≤ n ∧ Hid (K = k0 + 5 * j) ∧ kk = .int .i64 (K : Int) ∧ i = .int .i64 (j : Int) ∧ w.grownBy wr (some g) ∧ There wr g (n * 5) ∧ WsAt wr g 0 j (mkW k0)) (fun _ i _ => n - (intOf i).toNat)
  case atStart => exact ⟨0, k0, by omega, rfl, rfl, rfl, grown_reflR _ _, HT0.out, fun i hi => by omega⟩
  case round =>
    obtain ⟨j, K, hj, HK, rfl, rfl, hG, hT', hP⟩ := hrel
    by_cases hlt : j < n
    · have hKb : K ≤ 1125899913134080 := by have := HK.out; omega
      have t0 := hT'.cell (j * 5 + 0) (by omega)
      have t1 := hT'.cell (j * 5 + 1) (by omega)
      have t2 := hT'.cell (j * 5 + 2) (by omega)
      have t3 := hT'.cell (j * 5 + 3) (by omega)
      have t4 := hT'.cell (j * 5 + 4) (by omega)
      have y0 := (hT' (j * 5 + 0) (by omega)).2
      have y1 := (hT' (j * 5 + 1) (by omega)).2
      have y2 := (hT' (j * 5 + 2) (by omega)).2
      have y3 := (hT' (j * 5 + 3) (by omega)).2
      have y4 := (hT' (j * 5 + 4) (by omega)).2
      simp only [Nat.add_zero] at t0 y0
      have HG : Hid (w.grownBy wr (some g)) := hG
      have HT : Hid (There wr g (n * 5)) := hT'
      have HP : Hid (WsAt wr g 0 j (mkW k0)) := hP
      clear hT' hG hP
      have hi : (j : Int) < (n : Int) := by omega
      have hi0 : (0 : Int) ≤ (j : Int) := by omega
      go_wp2
      go_roundw
      case rel =>
        have hfs := HP.out.lay HT.out hlt
        have he : mkW k0 j = ⟨(K : Int), (K : Int) + 1, (K : Int) + 1 + 1, (K : Int) + 1 + 1 + 1, (K : Int) + 1 + 1 + 1 + 1⟩ := by
          have := HK.out
          unfold mkW
          congr 1 <;> omega
        rw [he] at hfs
        exact ⟨j + 1, K + 5, by omega, by have := HK.out; show _ = _; omega, by go_num, by go_num, grown_setR (grown_setR (grown_setR (grown_setR (grown_setR HG.out _ _) _ _) _ _) _ _) _ _, ((((HT.out.set _ _).set _ _).set _ _).set _ _).set _ _, hfs⟩
      case measure => simp [intOf]; omega
    · go_wp2
      go_ret
      have hjn : j = n := by omega
      subst hjn
      exact ⟨ret_int (by have := HK.out; omega), hG, hT', hP⟩
theorem markRequestS_none (a : Option Addr) (cap : Nat) (k : Int) (w : World) : Calls Try.prog 18 #[.slice a 0 cap, .int .i64 k] w fun e w' => e = .returned (.int .i64 k) ∧ w = w' := by
  go_enter Try.func18, Try.ntmps18
  go_wp2_with fail
  go_loopw [1, 5] (fun kk i wr => kk = .int .i64 k ∧ i = .int .i64 0 ∧ w = wr) (fun _ _ _ => 0)
  case atStart => exact ⟨rfl, rfl, rfl⟩
  case round =>
    obtain ⟨rfl, rfl, rfl⟩ := hrel
    go_wp2
    go_ret
    exact ⟨rfl, rfl⟩
set_option maxHeartbeats 2000000 in
theorem heldRequestS_any (a : Option Addr) (n cap k0 : Nat) (w : World) (hp : IsWs w a n (mkW k0)) (hmax : n ≤ 1048576) (hk0 : k0 ≤ 1125899906842624) :
    Calls Try.prog 41 #[.slice a n cap, .int .i64 (k0 : Int)] w fun e w' => e = .returned (.int .i64 ((k0 + 5 * n : Nat) : Int)) ∧ Below w.heap.size w w' := by
  have HP : Hid (IsWs w a n (mkW k0)) := hp
  clear hp
  go_enter Try.func41, Try.ntmps41
  go_wp2_with fail
  go_loopw [1, 5] (fun kk i wr => ∃ j K : Nat, j ≤ n ∧ Hid (K = k0 + 5 * j) ∧ kk = .int .i64 (K : Int) ∧ i = .int .i64 (j : Int) ∧ Below w.heap.size w wr) (fun _ i _ => n - (intOf i).toNat)
  case atStart => exact ⟨0, k0, by omega, rfl, rfl, rfl, Below.refl _ _⟩
  case round =>
    obtain ⟨j, K, hj, HK, rfl, rfl, hB⟩ := hrel
    by_cases hlt : j < n
    · rcases HP.out with h0 | ⟨b, off, rfl, hbl, hpt⟩
      · omega
      have hKb : K ≤ 1125899913134080 := by have := HK.out; omega
      have he : mkW k0 j = ⟨(K : Int), (K : Int) + 1, (K : Int) + 1 + 1, (K : Int) + 1 + 1 + 1, (K : Int) + 1 + 1 + 1 + 1⟩ := by
        have := HK.out
        unfold mkW
        congr 1 <;> omega
      have hat := (hpt.below hB hbl) j hlt
      rw [he] at hat
      obtain ⟨t0, t1, t2, t3, t4⟩ := hat
      dsimp only at t0 t1 t2 t3 t4
      have HB : Hid (Below w.heap.size w wr) := hB
      clear hB hpt he
      have hi : (j : Int) < (n : Int) := by omega
      have hi0 : (0 : Int) ≤ (j : Int) := by omega
      go_wp2
      go_roundw
      case rel => exact ⟨j + 1, K + 5, by omega, by have := HK.out; show _ = _; omega, by go_num, by go_num, HB.out⟩
      case measure => simp [intOf]; omega
    · go_wp2
      go_ret
      have hjn : j = n := by omega
      subst hjn
      exact ⟨ret_int (by have := HK.out; omega), hB⟩
/-- v is a list of n requests in a block from base on. -/
def OwnW (w : World) (base : Nat) (v : Value) (n : Nat) (E : Nat → Req) : Prop :=
  ∃ a cap, v = .slice a n cap ∧ n ≤ cap ∧ (n = 0 ∨ ∃ b, a = some ⟨b, 0, none⟩ ∧ base ≤ b ∧ b < w.heap.size ∧ WsAt w b 0 n E ∧ There w b (n * 5))
theorem OwnW.below {w w' : World} {base : Nat} {v : Value} {n : Nat} {E : Nat → Req} (h : OwnW w base v n E) (hb : Below w.heap.size w w') : OwnW w' base v n E := by
  obtain ⟨a, cap, hv, hc, h0 | ⟨b, ha, hbb, hl, hp, ht⟩⟩ := h
  · exact ⟨a, cap, hv, hc, .inl h0⟩
  · exact ⟨a, cap, hv, hc, .inr ⟨b, ha, hbb, Nat.lt_of_lt_of_le hl hb.size, hp.below hb hl, ht.below hb⟩⟩
theorem OwnW.pts {w : World} {base : Nat} {v : Value} {n : Nat} {E : Nat → Req} (h : OwnW w base v n E) : ∃ a cap, v = .slice a n cap ∧ n ≤ cap ∧ IsWs w a n E := by
  obtain ⟨a, cap, hv, hc, h0 | ⟨b, ha, hb, hl, hp, ht⟩⟩ := h
  · exact ⟨a, cap, hv, hc, .inl h0⟩
  · exact ⟨a, cap, hv, hc, .inr ⟨b, 0, ha, hl, hp⟩⟩
theorem OwnW.is {w : World} {base : Nat} {a : Option Addr} {n cap : Nat} {E : Nat → Req} (h : OwnW w base (.slice a n cap) n E) : IsWs w a n E := by
  obtain ⟨a', cap', hv, hc, hi⟩ := h.pts
  injection hv with h1 h2 h3
  subst h1
  exact hi
/-- Entries that lie below block T. -/
def UnderW (T : Nat) (w : World) (a : Option Addr) (n : Nat) (E : Nat → Req) : Prop := n = 0 ∨ ∃ b off, a = some ⟨b, off, none⟩ ∧ b < T ∧ WsAt w b off n E
theorem UnderW.is {T : Nat} {w : World} {a : Option Addr} {n : Nat} {E : Nat → Req} (h : UnderW T w a n E) (hT : T ≤ w.heap.size) : IsWs w a n E := by
  rcases h with h | ⟨b, off, e, hl, hp⟩
  · exact .inl h
  · exact .inr ⟨b, off, e, by omega, hp⟩
theorem UnderW.below {T B : Nat} {w w' : World} {a : Option Addr} {n : Nat} {E : Nat → Req} (h : UnderW T w a n E) (hb : Below B w w') (hB : T ≤ B) : UnderW T w' a n E := by
  rcases h with h | ⟨b, off, e, hl, hp⟩
  · exact .inl h
  · exact .inr ⟨b, off, e, hl, hp.below hb (by omega)⟩
theorem UnderW.row {T : Nat} {row : Option Nat} {w w' : World} {a : Option Addr} {n : Nat} {E : Nat → Req} (h : UnderW T w a n E) (hg : w.grownBy w' row) (hs : ∀ s, row = some s → T ≤ s) : UnderW T w' a n E := by
  rcases h with h | ⟨b, off, e, hl, hp⟩
  · exact .inl h
  · refine .inr ⟨b, off, e, hl, fun i hi => ?_⟩
    obtain ⟨h0, h1, h2, h3, h4⟩ := hp i hi
    have hne : ∀ s, row = some s → b ≠ s := fun s e => by have := hs s e; omega
    exact ⟨ro_cellR hg h0 hne, ro_cellR hg h1 hne, ro_cellR hg h2 hne, ro_cellR hg h3 hne, ro_cellR hg h4 hne⟩
end Go.Proofs.Ytfknbijpimpbfaa
/- An append to a row of the call's own, as one step of a region that draws its order. -/

namespace Go.Proofs.Ytfknbijpimpbfaa
open Go

theorem step_append_own {P : Program} {ops : Array Oper} {o : Oper} {a : Act} {w : World} {K : Act → World → Prop} {Q : Exit → Act → World → Prop} {E : Prop}
    (hg : o.guard = none) (s x : Operand) (t : TypeId) (hop : o.op = Op.call { callee := Callee.builtin Builtin.append, args := #[s, x], argTypes := #[t, t] })
    (base : Nat) (e : TypeId) (i : TypeInfo) (z : Value) (size bytes : Nat) (h1 : P.underlying t = some (.slice e)) (h2 : P.info? e = some i) (h3 : i.zero = some z) (h4 : i.size = size) (h5 : i.bytes = bytes) (h6 : z.cells.size = size) (h7 : 0 < size)
    (v : Value) (n : Nat) (xs : List Value) (hs : a.eval s = v) (hown : w.ownsRow base e size v n xs)
    (ad : Addr) (m c : Nat) (news : List Value) (hx : a.eval x = .slice (some ad) m c) (hn : news.length = m * size) (hc : ∀ j u, news[j]? = some u → w.cell? (ad.add j) = some u) (h1c : ∀ u ∈ news, u.oneCell' = true)
    (b1 : n + m ≤ maxLen) (b2 : (n + m) * bytes ≤ 140737488355328) (hbase : base ≤ w.heap.size)
    (hK : ∀ v' w', w'.ownsRow base e size v' (n + m) (xs ++ news) → w.grownBy w' v.ownBlock → (v' = .slice none 0 0 ↔ v = .slice none 0 0 ∧ m = 0) → K (a.put o.dst v') w') :
    if Region.wanted o (yielded ops a.tmps) = true then Oper.wp P o a w K Q else E := by
  have hw : Region.wanted o (yielded ops a.tmps) = true := by simp [Region.wanted, hg]
  rw [if_pos hw]
  obtain ⟨v', w', hrun, r1, r2, r3⟩ := run_append_own (P := P) w base t o.type e i z size bytes h1 h2 h3 h4 h5 h6 h7 v n xs hown ad m c news hn hc h1c b1 b2 hbase
  unfold Oper.wp
  simp [execOp, hop, resolve, invoke, builtin, hs, hx, hrun, Result.andThen]
  exact hK v' w' r1 r2 r3
end Go.Proofs.Ytfknbijpimpbfaa
