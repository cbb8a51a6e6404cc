/- Answers with a code, refs that were sent and requests: they are compared, marked, and the marks are found again. -/
import Derived.Test.YtfknbijpimpbfaaVOnlies12
import Derived.Test.YtfknbijpimpbfaaVOnlies15
namespace Go.Proofs.Ytfknbijpimpbfaa
open Go.RowKit
set_option linter.unusedSimpArgs false
set_option linter.unusedVariables false
set_option maxRecDepth 100000

/-- An answer with requests. -/
abbrev rqV (c : Int) (v1 v2 : Value) : Value := .agg #[.int .i64 c, v1, v2]
/-- Both lists may be read. -/
def IsA (m : Nat) (R : Rfs) (n : Nat) (E : Nat → Req) (w : World) (v1 v2 : Value) : Prop := ∃ a1 c1 a2 c2, v1 = .slice a1 m c1 ∧ v2 = .slice a2 n c2 ∧ IsRs w a1 m R ∧ IsWs w a2 n E
/-- Both lie below block T. -/
def UnA (T m : Nat) (R : Rfs) (n : Nat) (E : Nat → Req) (w : World) (v1 v2 : Value) : Prop := ∃ a1 c1 a2 c2, v1 = .slice a1 m c1 ∧ v2 = .slice a2 n c2 ∧ UnderT T w a1 m R ∧ UnderW T w a2 n E
def Apart2 (m n : Nat) (v1 v2 : Value) : Prop := ∀ p c p' c', v1 = .slice (some p) m c → v2 = .slice (some p') n c' → p.block ≠ p'.block
/-- Both are of their own, from block base on. -/
def OwA (base m : Nat) (R : Rfs) (n : Nat) (E : Nat → Req) (w : World) (v1 v2 : Value) : Prop := OwnT w base v1 m R ∧ OwnW w base v2 n E ∧ Apart2 m n v1 v2
def MkA (base m n : Nat) (w : World) (v1 v2 : Value) : Prop := OwnT w base v1 m (mkR 1) ∧ OwnW w base v2 n (mkW (1 + 3 * m))
section
variable {m n T B base lo hi : Nat} {R : Rfs} {E : Nat → Req} {w w' : World} {v1 v2 : Value}
theorem IsA.below (h : IsA m R n E w v1 v2) (hb : Below w.heap.size w w') : IsA m R n E w' v1 v2 := by
  obtain ⟨a1, c1, a2, c2, e1, e2, h1, h2⟩ := h
  exact ⟨a1, c1, a2, c2, e1, e2, h1.below hb, h2.below hb⟩
theorem UnA.below (h : UnA T m R n E w v1 v2) (hb : Below B w w') (hB : T ≤ B) : UnA T m R n E w' v1 v2 := by
  obtain ⟨a1, c1, a2, c2, e1, e2, h1, h2⟩ := h
  exact ⟨a1, c1, a2, c2, e1, e2, h1.below hb hB, h2.below hb hB⟩
theorem UnA.is (h : UnA T m R n E w v1 v2) (hT : T ≤ w.heap.size) : IsA m R n E w v1 v2 := by
  obtain ⟨a1, c1, a2, c2, e1, e2, h1, h2⟩ := h
  exact ⟨a1, c1, a2, c2, e1, e2, h1.is hT, h2.is hT⟩
theorem IsA.un (h : IsA m R n E w v1 v2) : UnA w.heap.size m R n E w v1 v2 := h
theorem OwA.below (h : OwA base m R n E w v1 v2) (hb : Below w.heap.size w w') : OwA base m R n E w' v1 v2 := ⟨h.1.below hb, h.2.1.below hb, h.2.2⟩
theorem MkA.below (h : MkA base m n w v1 v2) (hb : Below w.heap.size w w') : MkA base m n w' v1 v2 := ⟨h.1.below hb, h.2.below hb⟩
theorem OwA.is (h : OwA base m R n E w v1 v2) : IsA m R n E w v1 v2 := by
  obtain ⟨a1, c1, e1, _, i1⟩ := h.1.pts
  obtain ⟨a2, c2, e2, _, i2⟩ := h.2.1.pts
  exact ⟨a1, c1, a2, c2, e1, e2, i1, i2⟩
theorem RsAt.mid {b off : Nat} (h : RsAt w b off m R) (hM : MidB lo hi w w') (ho : b < lo ∨ hi ≤ b) : RsAt w' b off m R := fun i hi => by
  obtain ⟨h0, h1, h2⟩ := h i hi
  exact ⟨hM.cell h0 ho, hM.cell h1 ho, hM.cell h2 ho⟩
theorem WsAt.mid {b off : Nat} (h : WsAt w b off n E) (hM : MidB lo hi w w') (ho : b < lo ∨ hi ≤ b) : WsAt w' b off n E := fun i hi => by
  obtain ⟨h0, h1, h2, h3, h4⟩ := h i hi
  exact ⟨hM.cell h0 ho, hM.cell h1 ho, hM.cell h2 ho, hM.cell h3 ho, hM.cell h4 ho⟩
theorem OwnT.mid {v : Value} (h : OwnT w base v m R) (hM : MidB lo hi w w') (hh : hi ≤ base) : OwnT w' base v m R := by
  obtain ⟨a, cap, hv, hc, h0 | ⟨b, ha, hbb, hl, hp, ht⟩⟩ := h
  · exact ⟨a, cap, hv, hc, .inl h0⟩
  · exact ⟨a, cap, hv, hc, .inr ⟨b, ha, hbb, Nat.lt_of_lt_of_le hl hM.size, hp.mid hM (.inr (by omega)), hM.there ht (.inr (by omega))⟩⟩
theorem OwnW.mid {v : Value} (h : OwnW w base v n E) (hM : MidB lo hi w w') (hh : hi ≤ base) : OwnW w' base v n E := by
  obtain ⟨a, cap, hv, hc, h0 | ⟨b, ha, hbb, hl, hp, ht⟩⟩ := h
  · exact ⟨a, cap, hv, hc, .inl h0⟩
  · exact ⟨a, cap, hv, hc, .inr ⟨b, ha, hbb, Nat.lt_of_lt_of_le hl hM.size, hp.mid hM (.inr (by omega)), hM.there ht (.inr (by omega))⟩⟩
theorem OwA.mid (h : OwA base m R n E w v1 v2) (hM : MidB lo hi w w') (hh : hi ≤ base) : OwA base m R n E w' v1 v2 := ⟨h.1.mid hM hh, h.2.1.mid hM hh, h.2.2⟩
theorem UnA.mid (h : UnA T m R n E w v1 v2) (hM : MidB lo hi w w') (hT : T ≤ lo) : UnA T m R n E w' v1 v2 := by
  obtain ⟨a1, c1, a2, c2, e1, e2, h1, h2⟩ := h
  refine ⟨a1, c1, a2, c2, e1, e2, ?_, ?_⟩
  · rcases h1 with h | ⟨b, off, e, hl, hp⟩
    · exact .inl h
    · exact .inr ⟨b, off, e, hl, hp.mid hM (.inl (by omega))⟩
  · rcases h2 with h | ⟨b, off, e, hl, hp⟩
    · exact .inl h
    · exact .inr ⟨b, off, e, hl, hp.mid hM (.inl (by omega))⟩
theorem there_heap {p k : Nat} (h : There w p k) (he : w'.heap[p]? = w.heap[p]?) : There w' p k := fun o ho => by
  obtain ⟨v, hv⟩ := (h o ho).1
  exact ⟨⟨v, (World.cell?_of_block (a := ⟨p, o, none⟩) he).trans hv⟩, (World.frozen?_of_block (a := ⟨p, o, none⟩) he).trans (h o ho).2⟩
theorem OwnT.kept {v : Value} (h : OwnT w base v m R) (hs : w.heap.size ≤ w'.heap.size) (hk : ∀ b c, 0 < m → v = .slice (some ⟨b, 0, none⟩) m c → b < w.heap.size → w'.heap[b]? = w.heap[b]?) : OwnT w' base v m R := by
  obtain ⟨a, cap, hv, hc, h0 | ⟨b, ha, hbb, hl, hp, ht⟩⟩ := h
  · exact ⟨a, cap, hv, hc, .inl h0⟩
  · by_cases hm0 : m = 0
    · exact ⟨a, cap, hv, hc, .inl hm0⟩
    · have he := hk b cap (by omega) (by rw [hv, ha]) hl
      exact ⟨a, cap, hv, hc, .inr ⟨b, ha, hbb, by omega, fun i hi => by
        obtain ⟨h0, h1, h2⟩ := hp i hi
        exact ⟨(World.cell?_of_block (a := ⟨b, _, none⟩) he).trans h0, (World.cell?_of_block (a := ⟨b, _, none⟩) he).trans h1, (World.cell?_of_block (a := ⟨b, _, none⟩) he).trans h2⟩, there_heap ht he⟩⟩
theorem OwnW.kept {v : Value} (h : OwnW w base v n E) (hs : w.heap.size ≤ w'.heap.size) (hk : ∀ b c, 0 < n → v = .slice (some ⟨b, 0, none⟩) n c → b < w.heap.size → w'.heap[b]? = w.heap[b]?) : OwnW w' base v n E := by
  obtain ⟨a, cap, hv, hc, h0 | ⟨b, ha, hbb, hl, hp, ht⟩⟩ := h
  · exact ⟨a, cap, hv, hc, .inl h0⟩
  · by_cases hm0 : n = 0
    · exact ⟨a, cap, hv, hc, .inl hm0⟩
    · have he := hk b cap (by omega) (by rw [hv, ha]) hl
      exact ⟨a, cap, hv, hc, .inr ⟨b, ha, hbb, by omega, fun i hi => by
        obtain ⟨h0, h1, h2, h3, h4⟩ := hp i hi
        exact ⟨(World.cell?_of_block (a := ⟨b, _, none⟩) he).trans h0, (World.cell?_of_block (a := ⟨b, _, none⟩) he).trans h1, (World.cell?_of_block (a := ⟨b, _, none⟩) he).trans h2, (World.cell?_of_block (a := ⟨b, _, none⟩) he).trans h3, (World.cell?_of_block (a := ⟨b, _, none⟩) he).trans h4⟩, there_heap ht he⟩⟩
end
set_option maxHeartbeats 1000000 in
theorem eqA (c : Int) (m : Nat) (R : Rfs) (n : Nat) (E : Nat → Req) (v1 v2 u1 u2 : Value) (w : World) (h : IsA m R n E w v1 v2) (k : IsA m R n E w u1 u2) (hm : m ≤ 1048576) (hn : n ≤ 1048576) :
    Calls Try.prog 16 #[rqV c v1 v2, rqV c u1 u2] w fun e w' => e = .returned (.bool true) ∧ Below w.heap.size w w' := by
  obtain ⟨a1, c1, a2, c2, rfl, rfl, h1, h2⟩ := h
  obtain ⟨a1', c1', a2', c2', rfl, rfl, k1, k2⟩ := k
  have H1 : Hid (IsRs w a1 m R) := h1
  have H2 : Hid (IsWs w a2 n E) := h2
  have K1 : Hid (IsRs w a1' m R) := k1
  have K2 : Hid (IsWs w a2' n E) := k2
  clear h1 h2 k1 k2
  go_enter Try.func16, Try.ntmps16
  go_wp2_with fail
  generalize hW : ((w.alloc _).alloc _ : World) = W
  have HB : Below w.heap.size w W := by subst hW; (repeat (first | exact Below.refl _ _ | assumption | refine Below.drew ?_ | refine bl_alloc ?_ _ | refine bl_then ?_ (by assumption) | refine Below.setCell ?_ (by first | omega | (simp; done) | (simp; omega)) _ | refine bl_store ?_ ?_ _ _))
  have e2 : ∀ W', Below W.heap.size W W' → W'.cell? ⟨w.heap.size, 2, none⟩ = some (.slice a2 n c2) := fun W' h => by rw [h.cell (by subst hW; simp; omega)]; subst hW; simp [go_sem]
  have f2 : ∀ W', Below W.heap.size W W' → W'.cell? ⟨w.heap.size + 1, 2, none⟩ = some (.slice a2' n c2') := fun W' h => by rw [h.cell (by subst hW; simp)]; subst hW; simp [go_sem]
  clear hW
  refine (eqRefS_any _ _ _ _ _ R _ (H1.out.below HB) (K1.out.below HB) hm).mono ?_
  rintro e w1 ⟨rfl, hb⟩
  have g2 := e2 w1 hb
  have l2 := f2 w1 hb
  have HB1 : Below w.heap.size w w1 := bl_then HB hb
  clear e2 f2 hb HB
  go_wp2_with fail
  refine (eqRequestS_any _ _ _ _ _ E _ (H2.out.below HB1) (K2.out.below HB1) hn).mono ?_
  rintro e w2 ⟨rfl, hb⟩
  have HB2 : Hid (Below w.heap.size w w2) := bl_then HB1 hb
  clear hb
  go_wp2
  go_ret
  exact ⟨rfl, HB2.out⟩
/-- A list of refs is marked: only its own block is written. -/
theorem markT_own (k0 base T m cap : Nat) (a : Option Addr) (R R0 : Rfs) (w w0 : World) (h : OwnT w base (.slice a m cap) m R) (hU : UnderT T w0 a m R0) (hm : m ≤ 1048576) (hk : k0 ≤ 1125899906842624) :
    Calls Try.prog 39 #[.slice a m cap, .int .i64 (k0 : Int)] w fun e w' => e = .returned (.int .i64 ((k0 + 3 * m : Nat) : Int)) ∧ MidB base T w w' ∧ (∀ b, (0 < m → ∀ p, a = some p → p.block ≠ b) → b < w.heap.size → w'.heap[b]? = w.heap[b]?) ∧ OwnT w' base (.slice a m cap) m (mkR k0) := by
  obtain ⟨a', cap', hv, hc, h0 | ⟨b, ha, hbb, hl, hp, ht⟩⟩ := h
  · subst h0
    exact (markRefS_none a cap k0 w).mono fun e w' ⟨he, hb⟩ => by subst hb; exact ⟨he, MidB.refl _ _ _, fun _ _ _ => rfl, a', cap', hv, hc, .inl rfl⟩
  · injection hv with h1 h2 h3
    subst h1 h3 ha
    rcases hU with h' | ⟨b', off', e', hl', _⟩
    · subst h'
      exact (markRefS_none _ cap k0 w).mono fun e w' ⟨he, hb⟩ => by subst hb; exact ⟨he, MidB.refl _ _ _, fun _ _ _ => rfl, _, cap, rfl, hc, .inl rfl⟩
    · injection e' with e'
      injection e' with e1 e2
      subst e1
      by_cases hm0 : m = 0
      · subst hm0
        exact (markRefS_none _ cap k0 w).mono fun e w' ⟨he, hb⟩ => by subst hb; exact ⟨he, MidB.refl _ _ _, fun _ _ _ => rfl, _, cap, rfl, hc, .inl rfl⟩
      exact (markRefS_any b m cap k0 w ht hl hm hk).mono fun e w' ⟨he, hg, ht', hp'⟩ => ⟨he, MidB.of_grown hg hbb hl', fun k hne hk => hg.block k hk (fun e => by injection e with e; exact hne (by omega) _ rfl e.symm), _, cap, rfl, hc, .inr ⟨b, rfl, hbb, Nat.lt_of_lt_of_le hl hg.size, hp', ht'⟩⟩
theorem markW_own (k0 base T m cap : Nat) (a : Option Addr) (E E0 : Nat → Req) (w w0 : World) (h : OwnW w base (.slice a m cap) m E) (hU : UnderW T w0 a m E0) (hm : m ≤ 1048576) (hk : k0 ≤ 1125899906842624) :
    Calls Try.prog 18 #[.slice a m cap, .int .i64 (k0 : Int)] w fun e w' => e = .returned (.int .i64 ((k0 + 5 * m : Nat) : Int)) ∧ MidB base T w w' ∧ (∀ b, (0 < m → ∀ p, a = some p → p.block ≠ b) → b < w.heap.size → w'.heap[b]? = w.heap[b]?) ∧ OwnW w' base (.slice a m cap) m (mkW k0) := by
  obtain ⟨a', cap', hv, hc, h0 | ⟨b, ha, hbb, hl, hp, ht⟩⟩ := h
  · subst h0
    exact (markRequestS_none a cap k0 w).mono fun e w' ⟨he, hb⟩ => by subst hb; exact ⟨he, MidB.refl _ _ _, fun _ _ _ => rfl, a', cap', hv, hc, .inl rfl⟩
  · injection hv with h1 h2 h3
    subst h1 h3 ha
    rcases hU with h' | ⟨b', off', e', hl', _⟩
    · subst h'
      exact (markRequestS_none _ cap k0 w).mono fun e w' ⟨he, hb⟩ => by subst hb; exact ⟨he, MidB.refl _ _ _, fun _ _ _ => rfl, _, cap, rfl, hc, .inl rfl⟩
    · injection e' with e'
      injection e' with e1 e2
      subst e1
      by_cases hm0 : m = 0
      · subst hm0
        exact (markRequestS_none _ cap k0 w).mono fun e w' ⟨he, hb⟩ => by subst hb; exact ⟨he, MidB.refl _ _ _, fun _ _ _ => rfl, _, cap, rfl, hc, .inl rfl⟩
      exact (markRequestS_mk b m cap k0 w ht hm hk).mono fun e w' ⟨he, hg, ht', hp'⟩ => ⟨he, MidB.of_grown hg hbb hl', fun k hne hk => hg.block k hk (fun e => by injection e with e; exact hne (by omega) _ rfl e.symm), _, cap, rfl, hc, .inr ⟨b, rfl, hbb, Nat.lt_of_lt_of_le hl hg.size, hp', ht'⟩⟩
set_option maxHeartbeats 1000000 in
theorem markA (c : Int) (base T m : Nat) (R : Rfs) (n : Nat) (E : Nat → Req) (v1 v2 : Value) (w w0 : World) (h : OwA base m R n E w v1 v2) (hU : UnA T m R n E w0 v1 v2) (hm : m ≤ 1048576) (hn : n ≤ 1048576) :
    Calls Try.prog 19 #[rqV c v1 v2, .int .i64 1] w fun e w' => e = .returned (.int .i64 ((1 + 3 * m + 5 * n : Nat) : Int)) ∧ MidB base T w w' ∧ MkA base m n w' v1 v2 := by
  obtain ⟨a1, c1, a2, c2, rfl, rfl, u1, u2⟩ := hU
  obtain ⟨h1, h2, hap⟩ := h
  have H1 : Hid (OwnT w base (.slice a1 m c1) m R) := h1
  have H2 : Hid (OwnW w base (.slice a2 n c2) n E) := h2
  have U1 : Hid (UnderT T w0 a1 m R) := u1
  have U2 : Hid (UnderW T w0 a2 n E) := u2
  have HAP : Hid (Apart2 m n (.slice a1 m c1) (.slice a2 n c2)) := hap
  clear h1 h2 u1 u2 hap
  go_enter Try.func19, Try.ntmps19
  go_wp2_with fail
  generalize hW : (w.alloc _ : World) = W
  have HB : Below w.heap.size w W := by subst hW; (repeat (first | exact Below.refl _ _ | assumption | refine Below.drew ?_ | refine bl_alloc ?_ _ | refine bl_then ?_ (by assumption) | refine Below.setCell ?_ (by first | omega | (simp; done) | (simp; omega)) _ | refine bl_store ?_ ?_ _ _))
  have e2 : W.cell? ⟨w.heap.size, 2, none⟩ = some (.slice a2 n c2) := by subst hW; simp [go_sem]
  clear hW
  have hsz : w.heap.size < W.heap.size := World.block_lt_of_cell? _ _ e2
  have HM0 : Hid (Calls Try.prog 39 #[.slice a1 m c1, .int .i64 1] W fun e w' => e = .returned (.int .i64 ((1 + 3 * m : Nat) : Int)) ∧ MidB base T W w' ∧ (∀ b, (0 < m → ∀ p, a1 = some p → p.block ≠ b) → b < W.heap.size → w'.heap[b]? = W.heap[b]?) ∧ OwnT w' base (.slice a1 m c1) m (mkR 1)) := markT_own 1 base T m c1 a1 R R W w0 (H1.out.below HB) U1.out hm (by omega)
  have HD1 : Hid (0 < m → ∀ p, a1 = some p → p.block < w.heap.size) := fun h0 p hp => by
    obtain ⟨a', cap', hv, _, h | ⟨b, ha, _, hl, _⟩⟩ := H1.out
    · omega
    · injection hv with hv
      rw [← hv, hp] at ha
      injection ha with ha
      subst ha
      exact hl
  have HD2 : Hid (0 < n → ∀ p, a2 = some p → p.block < w.heap.size) := fun h0 p hp => by
    obtain ⟨a', cap', hv, _, h | ⟨b, ha, _, hl, _⟩⟩ := H2.out
    · omega
    · injection hv with hv
      rw [← hv, hp] at ha
      injection ha with ha
      subst ha
      exact hl
  refine Calls.mono HM0.out ?_
  rintro e w1 ⟨rfl, hM1, hK1, hO1⟩
  have hs1 := hM1.size
  have g2 : w1.cell? ⟨w.heap.size, 2, none⟩ = some (.slice a2 n c2) :=
    (World.cell?_of_block (a := ⟨w.heap.size, 2, none⟩) (hK1 w.heap.size (fun h0 p hp he => by have := HD1.out h0 p hp; omega) hsz)).trans e2
  have HO2 : Hid (OwnW w1 base (.slice a2 n c2) n E) := (H2.out.below HB).kept hs1 (fun b c h0 hv hl => hK1 b (fun h0' p hp he => by
    subst hp
    injection hv with hv _ _
    exact HAP.out p c1 ⟨b, 0, none⟩ c2 rfl (by rw [hv]) he) hl)
  have HO1 : Hid (OwnT w1 base (.slice a1 m c1) m (mkR 1)) := hO1
  have HM1 : Hid (MidB base T w w1) := (MidB.of_below HB).trans hM1
  clear hM1 hK1 hO1 HM0 H1 H2 e2
  have HM2 : Hid (Calls Try.prog 18 #[.slice a2 n c2, .int .i64 ((1 + 3 * m : Nat) : Int)] w1 fun e w' => e = .returned (.int .i64 ((1 + 3 * m + 5 * n : Nat) : Int)) ∧ MidB base T w1 w' ∧ (∀ b, (0 < n → ∀ p, a2 = some p → p.block ≠ b) → b < w1.heap.size → w'.heap[b]? = w1.heap[b]?) ∧ OwnW w' base (.slice a2 n c2) n (mkW (1 + 3 * m))) := markW_own (1 + 3 * m) base T n c2 a2 E E w1 w0 HO2.out U2.out hn (by omega)
  generalize ((1 + 3 * m : Nat) : Int) = k1 at *
  go_wp2_with fail
  refine Calls.mono HM2.out ?_
  rintro e w2 ⟨rfl, hM2, hK2, hO2⟩
  have HMF : Hid (MidB base T w w2) := HM1.out.trans hM2
  have HOF : Hid (OwnT w2 base (.slice a1 m c1) m (mkR 1)) := HO1.out.kept hM2.size (fun b c h0 hv hl => hK2 b (fun h0' p hp he => by
    subst hp
    injection hv with hv _ _
    exact HAP.out ⟨b, 0, none⟩ c1 p c2 (by rw [hv]) rfl he.symm) hl)
  have HOW : Hid (OwnW w2 base (.slice a2 n c2) n (mkW (1 + 3 * m))) := hO2
  clear hM2 hK2 hO2
  go_wp2
  go_ret
  exact ⟨rfl, HMF.out, HOF.out, HOW.out⟩
set_option maxHeartbeats 1000000 in
theorem heldA (c : Int) (base m n : Nat) (v1 v2 : Value) (w : World) (h : MkA base m n w v1 v2) (hm : m ≤ 1048576) (hn : n ≤ 1048576) :
    Calls Try.prog 20 #[rqV c v1 v2, .int .i64 1] w fun e w' => e = .returned (.int .i64 ((1 + 3 * m + 5 * n : Nat) : Int)) ∧ Below w.heap.size w w' := by
  obtain ⟨h1, h2⟩ := h
  obtain ⟨a1, c1, rfl, _, i1⟩ := h1.pts
  obtain ⟨a2, c2, rfl, _, i2⟩ := h2.pts
  have H1 : Hid (∀ W, Below w.heap.size w W → Calls Try.prog 40 #[.slice a1 m c1, .int .i64 1] W fun e w' => e = .returned (.int .i64 ((1 + 3 * m : Nat) : Int)) ∧ Below W.heap.size W w') := fun W h => heldRefS_any a1 m c1 1 W (i1.below h) hm (by omega)
  have H2 : Hid (∀ W, Below w.heap.size w W → Calls Try.prog 41 #[.slice a2 n c2, .int .i64 ((1 + 3 * m : Nat) : Int)] W fun e w' => e = .returned (.int .i64 ((1 + 3 * m + 5 * n : Nat) : Int)) ∧ Below W.heap.size W w') := fun W h => heldRequestS_any a2 n c2 (1 + 3 * m) W (i2.below h) hn (by omega)
  clear h1 h2 i1 i2
  have hneg1 : ¬ ((1 + 3 * m : Nat) : Int) < 0 := by omega
  have hneg2 : ¬ ((1 + 3 * m + 5 * n : Nat) : Int) < 0 := by omega
  generalize ((1 + 3 * m + 5 * n : Nat) : Int) = k2 at *
  generalize ((1 + 3 * m : Nat) : Int) = k1 at *
  go_enter Try.func20, Try.ntmps20
  go_wp2_with fail
  generalize hW : (w.alloc _ : World) = W
  have HB : Below w.heap.size w W := by subst hW; (repeat (first | exact Below.refl _ _ | assumption | refine Below.drew ?_ | refine bl_alloc ?_ _ | refine bl_then ?_ (by assumption) | refine Below.setCell ?_ (by first | omega | (simp; done) | (simp; omega)) _ | refine bl_store ?_ ?_ _ _))
  have e2 : ∀ W', Below W.heap.size W W' → W'.cell? ⟨w.heap.size, 2, none⟩ = some (.slice a2 n c2) := fun W' h => by rw [h.cell (by subst hW; simp)]; subst hW; simp [go_sem]
  clear hW
  refine (H1.out _ HB).mono ?_
  rintro e w1 ⟨rfl, hb⟩
  have g2 := e2 w1 hb
  have HB1 : Below w.heap.size w w1 := bl_then HB hb
  clear e2 hb HB
  go_wp2_with fail
  refine (H2.out _ HB1).mono ?_
  rintro e w2 ⟨rfl, hb⟩
  have HB2 : Hid (Below w.heap.size w w2) := bl_then HB1 hb
  clear hb
  go_wp2
  go_ret
  exact ⟨rfl, HB2.out⟩
end Go.Proofs.Ytfknbijpimpbfaa
