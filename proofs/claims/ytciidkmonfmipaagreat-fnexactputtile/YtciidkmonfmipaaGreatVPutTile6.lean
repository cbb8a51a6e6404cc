/- Several texts in one. -/
import Derived.Test.YtciidkmonfmipaaGreatVPutTile5
import Derived.Test.YtciidkmonfmipaaGreatVPutTile2
import Derived.Deep.Slices

/- Lists of features: their size, whether two are the same, their fault. -/

namespace Go.Proofs.YtciidkmonfmipaaGreat
open Go.RowKit
set_option linter.unusedSimpArgs false
set_option linter.unusedVariables false
set_option maxRecDepth 100000

/-- No feature of the list is greater than what may be asked. -/
def SmallFs (n : Nat) (F : Nat → Feat) : Prop := n ≤ 1048576 ∧ ∀ i, i < n → (F i).n ≤ 1048576 ∧ (F i).lab.size ≤ 1048576
/-- What came in: each slice and each text within its bounds. -/
def CameFs (n : Nat) (F : Nat → Feat) : Prop := n ≤ maxLen ∧ ∀ i, i < n → (F i).n ≤ maxLen ∧ (F i).lab.size ≤ maxLen

theorem szF_cases (left n s : Nat) (hl : left ≤ 1048576) : szF left n s = -1 ∨ ∃ m : Nat, szF left n s = (m : Int) ∧ m ≤ left ∧ n ≤ 1048576 ∧ s ≤ 1048576 := by
  unfold szF
  by_cases h : left < n + s
  · left; rw [if_pos h]
  · right; rw [if_neg h]; exact ⟨left - n - s, by omega, by omega, by omega, by omega⟩

set_option maxHeartbeats 4000000 in
theorem szFeatureS_any (a : Option Addr) (n cap : Nat) (F : Nat → Feat) (left : Nat) (w : World) (hl : left ≤ 1048576) (hf : IsFs w a n F) (hc : CameFs n F) :
    Calls Tryz.prog 25 #[.slice a n cap, .int .i64 left] w fun e w' => (e = .returned (.int .i64 (-1)) ∨ ∃ m : Nat, m ≤ left ∧ SmallFs n F ∧ e = .returned (.int .i64 m)) ∧ Below w.heap.size w w' := by
  obtain ⟨hc1, hc2⟩ := hc
  unfold maxLen at hc1
  have HC : Hid (∀ i, i < n → (F i).n ≤ maxLen ∧ (F i).lab.size ≤ maxLen) := hc2
  have HF : Hid (IsFs w a n F) := hf
  clear hc2 hf
  by_cases h0 : left < n
  · have hneg : (left : Int) - (n : Int) < 0 := by omega
    go_enter Tryz.func25, Tryz.ntmps25
    go_wp2
    go_ret
    exact ⟨.inl rfl, by (repeat (first | exact Below.refl _ _ | assumption | refine Below.drew ?_ | refine bl_alloc ?_ _ | refine bl_then ?_ (by assumption) | refine Below.setCell ?_ (by first | omega | (simp; done) | (simp; omega)) _ | refine bl_store ?_ ?_ _ _))⟩
  · have hneg : ¬ (left : Int) - (n : Int) < 0 := by omega
    have hn : n ≤ 1048576 := by omega
    clear hc1
    go_enter Tryz.func25, Tryz.ntmps25
    go_wp2
    go_loopw [1, 5] (fun v i wr => ∃ k m : Nat, k ≤ n ∧ v = .int .i64 m ∧ i = .int .i64 k ∧ m ≤ left ∧ (∀ j, j < k → (F j).n ≤ 1048576 ∧ (F j).lab.size ≤ 1048576) ∧ Below w.heap.size w wr) (fun _ i _ => n - (intOf i).toNat)
    case atStart => exact ⟨0, left - n, by omega, by congr 1; omega, rfl, by omega, by omega, Below.refl _ _⟩
    case round =>
      obtain ⟨k, m, hk, rfl, rfl, hm, hA, hB⟩ := hrel
      by_cases hlt : k < n
      · rcases HF.out with hz | ⟨b, off, rfl, hbl, hpt⟩
        · omega
        · obtain ⟨⟨f0, f1, f2, f3, f4, f5, f6⟩, _⟩ := (hpt.below hB hbl) k hlt
          obtain ⟨g1, g2⟩ := HC.out k hlt
          have HG : Hid ((F k).n ≤ maxLen ∧ (F k).lab.size ≤ maxLen) := ⟨g1, g2⟩
          have HB : Hid (Below w.heap.size w wr) := hB
          have HA : Hid (∀ j, j < k → (F j).n ≤ 1048576 ∧ (F j).lab.size ≤ 1048576) := hA
          clear hB hA hpt g1 g2
          have hi : (k : Int) < (n : Int) := by omega
          have hi0 : (0 : Int) ≤ (k : Int) := by omega
          have hm1 : m ≤ 1048576 := by omega
          go_wp2_with fail
          refine (szFeature_any _ _ _ _ _ _ _ _ _ m _ hm1 HG.out.1 HG.out.2).mono ?_
          rintro e w' ⟨rfl, hb⟩
          have HBn : Hid (Below w.heap.size w w') := bl_then HB.out hb
          clear hb f0 f1 f2 f3 f4 f5 f6
          rcases szF_cases m (F k).n (F k).lab.size hm1 with h | ⟨m', h, h1, h2, h3⟩
          · rw [h]
            go_wp2
            go_ret
            exact ⟨.inl rfl, HBn.out⟩
          · rw [h]
            have hneg' : ¬ ((m' : Nat) : Int) < 0 := by omega
            go_wp2
            go_roundw
            case rel => exact ⟨k + 1, m', by omega, rfl, by go_num, by omega, fun j hj => by
                by_cases e : j = k
                · rw [e]; exact ⟨h2, h3⟩
                · exact HA.out j (by omega), HBn.out⟩
            case measure => simp [intOf]; omega
      · go_wp2
        go_ret
        exact ⟨.inr ⟨m, hm, ⟨hn, fun i hi => hA i (by omega)⟩, rfl⟩, hB⟩

set_option maxHeartbeats 4000000 in
theorem eqFeatureS_any (b d n B C : Nat) (F G H : Nat → Feat) (w : World) (hg : OwnFs w B b n F G) (hh : OwnFs w C d n F H) (hs : SmallFs n F) :
    Calls Tryz.prog 37 #[.slice (some ⟨b, 0, none⟩) n n, .slice (some ⟨d, 0, none⟩) n n] w fun e w' => e = .returned (.bool true) ∧ Below w.heap.size w w' := by
  have HG : Hid (OwnFs w B b n F G) := hg
  have HH : Hid (OwnFs w C d n F H) := hh
  have hbl : b < w.heap.size := hg.2.1
  have hdl : d < w.heap.size := hh.2.1
  have HS : Hid (SmallFs n F) := hs
  clear hg hh hs
  go_enter Tryz.func37, Tryz.ntmps37
  go_wp2
  go_loopw [5] (fun i wr => ∃ k : Nat, k ≤ n ∧ i = .int .i64 k ∧ Below w.heap.size w wr) (fun i _ => n - (intOf i).toNat)
  case atStart => exact ⟨0, by omega, rfl, Below.refl _ _⟩
  case round =>
    obtain ⟨k, hk, rfl, hB⟩ := hrel
    by_cases hlt : k < n
    · have hFG := HG.out.2.2.1
      have hFH := HH.out.2.2.1
      have c0 : ∀ W', Below wr.heap.size wr W' → W'.cell? ⟨b, k * 7, none⟩ = some (.int .i64 (G k).id) := fun W' h => by simpa using ((hFG.below hB hbl).below h (Nat.lt_of_lt_of_le hbl hB.size) k hlt).1.1
      have c1 : ∀ W', Below wr.heap.size wr W' → W'.cell? ⟨b, k * 7 + 1, none⟩ = some (.int .i64 (G k).la) := fun W' h => by simpa using ((hFG.below hB hbl).below h (Nat.lt_of_lt_of_le hbl hB.size) k hlt).1.2.1
      have c2 : ∀ W', Below wr.heap.size wr W' → W'.cell? ⟨b, k * 7 + 2, none⟩ = some (.int .i64 (G k).ki) := fun W' h => by simpa using ((hFG.below hB hbl).below h (Nat.lt_of_lt_of_le hbl hB.size) k hlt).1.2.2.1
      have c3 : ∀ W', Below wr.heap.size wr W' → W'.cell? ⟨b, k * 7 + 3, none⟩ = some (.int .i64 (G k).wi) := fun W' h => by simpa using ((hFG.below hB hbl).below h (Nat.lt_of_lt_of_le hbl hB.size) k hlt).1.2.2.2.1
      have c4 : ∀ W', Below wr.heap.size wr W' → W'.cell? ⟨b, k * 7 + 4, none⟩ = some (.slice (G k).a (G k).n (G k).cap) := fun W' h => by simpa using ((hFG.below hB hbl).below h (Nat.lt_of_lt_of_le hbl hB.size) k hlt).1.2.2.2.2.1
      have c5 : ∀ W', Below wr.heap.size wr W' → W'.cell? ⟨b, k * 7 + 5, none⟩ = some (.string (G k).lab) := fun W' h => by simpa using ((hFG.below hB hbl).below h (Nat.lt_of_lt_of_le hbl hB.size) k hlt).1.2.2.2.2.2.1
      have c6 : ∀ W', Below wr.heap.size wr W' → W'.cell? ⟨b, k * 7 + 6, none⟩ = some (.int .i64 (G k).pr) := fun W' h => by simpa using ((hFG.below hB hbl).below h (Nat.lt_of_lt_of_le hbl hB.size) k hlt).1.2.2.2.2.2.2
      have d0 : ∀ W', Below wr.heap.size wr W' → W'.cell? ⟨d, k * 7, none⟩ = some (.int .i64 (H k).id) := fun W' h => by simpa using ((hFH.below hB hdl).below h (Nat.lt_of_lt_of_le hdl hB.size) k hlt).1.1
      have d1 : ∀ W', Below wr.heap.size wr W' → W'.cell? ⟨d, k * 7 + 1, none⟩ = some (.int .i64 (H k).la) := fun W' h => by simpa using ((hFH.below hB hdl).below h (Nat.lt_of_lt_of_le hdl hB.size) k hlt).1.2.1
      have d2 : ∀ W', Below wr.heap.size wr W' → W'.cell? ⟨d, k * 7 + 2, none⟩ = some (.int .i64 (H k).ki) := fun W' h => by simpa using ((hFH.below hB hdl).below h (Nat.lt_of_lt_of_le hdl hB.size) k hlt).1.2.2.1
      have d3 : ∀ W', Below wr.heap.size wr W' → W'.cell? ⟨d, k * 7 + 3, none⟩ = some (.int .i64 (H k).wi) := fun W' h => by simpa using ((hFH.below hB hdl).below h (Nat.lt_of_lt_of_le hdl hB.size) k hlt).1.2.2.2.1
      have d4 : ∀ W', Below wr.heap.size wr W' → W'.cell? ⟨d, k * 7 + 4, none⟩ = some (.slice (H k).a (H k).n (H k).cap) := fun W' h => by simpa using ((hFH.below hB hdl).below h (Nat.lt_of_lt_of_le hdl hB.size) k hlt).1.2.2.2.2.1
      have d5 : ∀ W', Below wr.heap.size wr W' → W'.cell? ⟨d, k * 7 + 5, none⟩ = some (.string (H k).lab) := fun W' h => by simpa using ((hFH.below hB hdl).below h (Nat.lt_of_lt_of_le hdl hB.size) k hlt).1.2.2.2.2.2.1
      have d6 : ∀ W', Below wr.heap.size wr W' → W'.cell? ⟨d, k * 7 + 6, none⟩ = some (.int .i64 (H k).pr) := fun W' h => by simpa using ((hFH.below hB hdl).below h (Nat.lt_of_lt_of_le hdl hB.size) k hlt).1.2.2.2.2.2.2
      obtain ⟨sg, q, e1, e2, _, _, e5, e6⟩ := HG.out.2.2.2 k hlt
      obtain ⟨sh, r, g1, g2, _, _, g5, g6⟩ := HH.out.2.2.2 k hlt
      obtain ⟨s1, s2, s3, s4, s5, s6, s7, s8, s9⟩ := sg
      obtain ⟨t1, t2, t3, t4, t5, t6, t7, t8, t9⟩ := sh
      rw [s1] at c0; rw [s2] at c1; rw [s3] at c2; rw [s4] at c3; rw [e1, e2, s5] at c4; rw [s8] at c5; rw [s9] at c6
      rw [t1] at d0; rw [t2] at d1; rw [t3] at d2; rw [t4] at d3; rw [g1, g2, t5] at d4; rw [t8] at d5; rw [t9] at d6
      rw [s5, s6, s7] at e6
      rw [t5, t6, t7] at g6
      have KE : Hid (PtsAt wr q 0 (F k).n (F k).X (F k).Y) := e6.below hB e5
      have KG : Hid (PtsAt wr r 0 (F k).n (F k).X (F k).Y) := g6.below hB g5
      have hql : q < wr.heap.size := Nat.lt_of_lt_of_le e5 hB.size
      have hrl : r < wr.heap.size := Nat.lt_of_lt_of_le g5 hB.size
      have HLT : Hid (k < n) := hlt
      have hnn := HS.out.1
      have hnk := (HS.out.2 k hlt).1
      have HB : Hid (Below w.heap.size w wr) := hB
      clear hB hFG hFH s1 s2 s3 s4 s5 s6 s7 s8 s9 t1 t2 t3 t4 t5 t6 t7 t8 t9 e1 e2 e5 e6 g1 g2 g5 g6
      have hi : (k : Int) < (n : Int) := by omega
      have hi0 : (0 : Int) ≤ (k : Int) := by omega
      go_wp2
      go_region_held3 (fun W' => Below wr.heap.size wr W') ((repeat (first | exact Below.refl _ _ | assumption | refine Below.drew ?_ | refine bl_alloc ?_ _ | refine bl_then ?_ (by assumption) | refine Below.setCell ?_ (by first | omega | (simp; done) | (simp; omega)) _ | refine bl_store ?_ ?_ _ _)))
        (first
          | (go_at_call 72; refine (eqFeature_any _ _ _ _ (F k).n (F k).X (F k).Y _ _ q r _ (KE.out.below (by assumption) hql) (KG.out.below (by assumption) hrl) (Nat.lt_of_lt_of_le hql (Below.size (by assumption))) (Nat.lt_of_lt_of_le hrl (Below.size (by assumption))) hnk).mono ?_; rintro e w' ⟨rfl, hb⟩))
      go_wp2
      go_roundw
      case rel => exact ⟨k + 1, by have := HLT.out; omega, by go_num, bl_then HB.out (by assumption)⟩
      case measure => have := HLT.out; simp [intOf]; omega
    · go_wp2
      go_ret
      exact ⟨rfl, hB⟩

set_option maxHeartbeats 4000000 in
theorem l2At_any (b n cap : Nat) (G : Nat → Feat) (i : Nat) (w : World) (hi : i < n) (hg : FsAt w b 0 n G) (hbl : b < w.heap.size) (hn : n ≤ 1048576) :
    Calls Tryz.prog 83 #[.slice (some ⟨b, 0, none⟩) n cap, .int .i64 (G i).id] w fun e w' => (∃ r : Nat, r ≤ i ∧ (G r).id = (G i).id ∧ (∀ j, j < r → (G j).id ≠ (G i).id) ∧ e = .returned (.int .i64 r)) ∧ Below w.heap.size w w' := by
  have HG : Hid (FsAt w b 0 n G) := hg
  clear hg
  have HI : Hid (i < n) := hi
  clear hi
  generalize hid : (G i).id = t
  have HT : Hid ((G i).id = t) := hid
  clear hid
  go_enter Tryz.func83, Tryz.ntmps83
  go_wp2
  go_loopw [5] (fun v wr => ∃ k : Nat, k ≤ i ∧ v = .int .i64 k ∧ (∀ j, j < k → (G j).id ≠ t) ∧ Below w.heap.size w wr) (fun v _ => n - (intOf v).toNat)
  case atStart => exact ⟨0, by omega, rfl, by omega, Below.refl _ _⟩
  case round =>
    obtain ⟨k, hk, rfl, hA, hB⟩ := hrel
    have hlt : k < n := Nat.lt_of_le_of_lt hk HI.out
    have f0 : wr.cell? ⟨b, k * 7, none⟩ = some (.int .i64 (G k).id) := by simpa using ((HG.out.below hB hbl) k hlt).1.1
    have HB : Hid (Below w.heap.size w wr) := hB
    have HA : Hid (∀ j, j < k → (G j).id ≠ t) := hA
    clear hB hA
    have hi : (k : Int) < (n : Int) := by omega
    have hi0 : (0 : Int) ≤ (k : Int) := by omega
    by_cases he : (G k).id = t
    · rw [he] at f0
      go_wp2
      go_ret
      exact ⟨⟨k, hk, he, HA.out, rfl⟩, HB.out⟩
    · have he' : ((G k).id == t) = false := by simpa using he
      have HE : Hid ((G k).id ≠ t) := he
      have hki : k ≠ i := fun e => he (by rw [e]; exact HT.out)
      clear he
      go_wp2
      go_roundw
      case rel => exact ⟨k + 1, by omega, by go_num, fun j hj => by
          by_cases e : j = k
          · rw [e]; exact HE.out
          · exact HA.out j (by omega), HB.out⟩
      case measure => simp [intOf]; omega
set_option maxHeartbeats 4000000 in
theorem hasId_any (b n cap N : Nat) (G : Nat → Feat) (t : Int) (w : World) (hnN : n ≤ N) (hg : FsAt w b 0 N G) (hbl : b < w.heap.size) (hn : n ≤ 1048576) :
    Calls Tryz.prog 92 #[.slice (some ⟨b, 0, none⟩) n cap, .int .i64 t] w fun e w' => ((e = .returned (.bool true) ∧ ∃ j, j < n ∧ (G j).id = t) ∨ (e = .returned (.bool false) ∧ ∀ j, j < n → (G j).id ≠ t)) ∧ Below w.heap.size w w' := by
  have HG : Hid (FsAt w b 0 N G) := hg
  clear hg
  go_enter Tryz.func92, Tryz.ntmps92
  go_wp2
  go_loopw [9] (fun v wr => ∃ k : Nat, k ≤ n ∧ v = .int .i64 k ∧ (∀ j, j < k → (G j).id ≠ t) ∧ Below w.heap.size w wr) (fun v _ => n - (intOf v).toNat)
  case atStart => exact ⟨0, by omega, rfl, by omega, Below.refl _ _⟩
  case round =>
    obtain ⟨k, hk, rfl, hA, hB⟩ := hrel
    have HB : Hid (Below w.heap.size w wr) := hB
    have HA : Hid (∀ j, j < k → (G j).id ≠ t) := hA
    by_cases hlt : k < n
    · obtain ⟨⟨f0, f1, f2, f3, f4, f5, f6⟩, _⟩ := (HG.out.below hB hbl) k (by omega)
      simp only [Nat.zero_add] at f0 f1 f2 f3 f4 f5 f6
      clear hB hA
      have hi : (k : Int) < (n : Int) := by omega
      have hi0 : (0 : Int) ≤ (k : Int) := by omega
      by_cases he : (G k).id = t
      · have he' : ((G k).id == t) = true := by simpa using he
        have HE : Hid ((G k).id = t) := he
        clear he
        go_wp2
        go_ret
        exact ⟨.inl ⟨rfl, k, hlt, HE.out⟩, by have HB' := HB.out; (repeat (first | exact Below.refl _ _ | assumption | refine Below.drew ?_ | refine bl_alloc ?_ _ | refine bl_then ?_ (by assumption) | refine Below.setCell ?_ (by first | omega | (simp; done) | (simp; omega)) _ | refine bl_store ?_ ?_ _ _))⟩
      · have he' : ((G k).id == t) = false := by simpa using he
        have HE : Hid ((G k).id ≠ t) := he
        clear he
        go_wp2
        go_roundw
        case rel => exact ⟨k + 1, by omega, by go_num, fun j hj => by
            by_cases e : j = k
            · rw [e]; exact HE.out
            · exact HA.out j (by omega), by have HB' := HB.out; (repeat (first | exact Below.refl _ _ | assumption | refine Below.drew ?_ | refine bl_alloc ?_ _ | refine bl_then ?_ (by assumption) | refine Below.setCell ?_ (by first | omega | (simp; done) | (simp; omega)) _ | refine bl_store ?_ ?_ _ _))⟩
        case measure => simp [intOf]; omega
    · go_wp2
      go_ret
      exact ⟨.inr ⟨rfl, fun j hj => hA j (by omega)⟩, hB⟩
end Go.Proofs.YtciidkmonfmipaaGreat
/- How a list of features that came in is read. -/

namespace Go.Proofs.YtciidkmonfmipaaGreat
open Go.ChangeShapes Go.WideShapes Go.ChangeAt Go.RowKit Go.Deep
set_option linter.unusedVariables false
set_option maxRecDepth 100000

end Go.Proofs.YtciidkmonfmipaaGreat
/- How a tile that came in is read. -/

namespace Go.Proofs.YtciidkmonfmipaaGreat
open Go.ChangeShapes Go.WideShapes Go.ChangeAt Go.RowKit Go.Deep
set_option linter.unusedVariables false
set_option linter.unusedSimpArgs false
set_option maxRecDepth 100000

theorem trod_feats {H : Type} {enc : TypeId × Value → H} {w : World} {base fuel : Nat} {held : Bool} {cs : List Value} {y : DataW H × List MemPlace}
    (hf : DataW.trod enc Tryz.prog w base (fun _ => true) held fuel 27 cs = some y) :
    ∃ (a : Option Addr) (n cap : Nat) (F : Nat → Feat), cs = [.slice a n cap] ∧ (IsFs w a n F ∧ CameFs n F) := by
  rcases open_slice Tryz.underlying27 hf with ⟨hcs, _⟩ | ⟨x, len, c, m, n, D, Pl, hcs, _, hl, hc, hm, _, hx⟩
  · exact ⟨none, 0, 0, fun _ => ⟨0, 0, 0, 0, none, 0, 0, fun _ => 0, fun _ => 0, ⟨#[]⟩, 0⟩, hcs, .inl rfl, Nat.zero_le _, fun i hi => absurd hi (by omega)⟩
  · simp at hm
    subst hm
    have each : ∀ i, ∃ f : Feat, i < len → (∀ k, k < 7 → w.cell? (x.add (i * 7 + k)) = [Value.int .i64 f.id, .int .i64 f.la, .int .i64 f.ki, .int .i64 f.wi, .slice f.a f.n f.cap, .string f.lab, .int .i64 f.pr][k]?) ∧ IsPts w f.a f.n f.X f.Y ∧ f.n ≤ maxLen ∧ f.lab.size ≤ maxLen := by
      intro i
      by_cases hi : i < len
      · obtain ⟨cs', h1, h2⟩ := hx i (by omega)
        rw [cells_lf] at h1
        obtain ⟨_, hlen, hcell⟩ := World.cells?_some h1
        obtain ⟨id, la, ki, wi, a', n', cap', X, Y, lab, pr, rfl, hp, hn, hcp, hs⟩ := trod_feat h2
        refine ⟨⟨id, la, ki, wi, a', n', cap', X, Y, lab, pr⟩, fun _ => ⟨fun k hk => ?_, hp, Nat.le_trans hn hcp, hs⟩⟩
        have := hcell k hk
        rw [add_add] at this
        exact this
      · exact ⟨⟨0, 0, 0, 0, none, 0, 0, fun _ => 0, fun _ => 0, ⟨#[]⟩, 0⟩, fun h => absurd h hi⟩
    obtain ⟨F, hF⟩ := Classical.skolem.1 each
    refine ⟨some x, len, _, F, hcs, ?_, Nat.le_trans hl hc, fun i hi => (hF i hi).2.2⟩
    by_cases h0 : len = 0
    · exact .inl h0
    · right
      obtain ⟨b, off, spot⟩ := x
      have e0 := (hF 0 (by omega)).1 0 (by omega)
      simp at e0
      have hspot : spot = none := by simpa [Addr.add] using World.cell?_spot e0
      subst hspot
      refine ⟨b, off, rfl, ?_, fun i hi => ?_⟩
      · have := World.block_lt_of_cell? _ _ e0
        simpa [Addr.add] using this
      · obtain ⟨hc7, hp, _, _⟩ := hF i hi
        refine ⟨?_, hp⟩
        have k0 := hc7 0 (by omega)
        have k1 := hc7 1 (by omega)
        have k2 := hc7 2 (by omega)
        have k3 := hc7 3 (by omega)
        have k4 := hc7 4 (by omega)
        have k5 := hc7 5 (by omega)
        have k6 := hc7 6 (by omega)
        rw [add_plain] at k0 k1 k2 k3 k4 k5 k6
        simp only [← Nat.add_assoc, Nat.add_zero] at k0 k1 k2 k3 k4 k5 k6
        exact ⟨k0, k1, k2, k3, k4, k5, k6⟩
theorem cells_lrT : Tryz.prog.cellsOf 26 = 3 := by kernel_rfl
theorem cells_lfs : Tryz.prog.cellsOf 27 = 1 := by kernel_rfl
theorem cells_lt : Tryz.prog.cellsOf 29 = 4 := by kernel_rfl
theorem trod_refT {H : Type} {enc : TypeId × Value → H} {w : World} {base : Nat} {spare : Nat → Bool} {held : Bool} {n : Nat} {cs : List Value} {x : DataW H × List MemPlace}
    (h : DataW.trod enc Tryz.prog w base spare held n 26 cs = some x) : ∃ a b c : Int, cs = [.int .i64 a, .int .i64 b, .int .i64 c] := by
  obtain ⟨xs, m, rfl, hx, hl, hxl, hf⟩ := DataW.trod_struct Tryz.underlying26 h
  rw [cells_lrT] at hl
  have hxl3 : xs.length = 3 := hxl
  match cs, hl with
  | [v0, v1, v2], _ =>
    match xs, hxl3 with
    | [x0, x1, x2], _ =>
      have h0 := hf 0 _ rfl
      have h1 := hf 1 _ rfl
      have h2 := hf 2 _ rfl
      simp [cells_i64] at h0 h1 h2
      obtain ⟨a, e0, _, _⟩ := DataW.trod_int Tryz.underlying2 h0
      obtain ⟨b, e1, _, _⟩ := DataW.trod_int Tryz.underlying2 h1
      obtain ⟨c, e2, _, _⟩ := DataW.trod_int Tryz.underlying2 h2
      simp at e0 e1 e2
      subst e0 e1 e2
      exact ⟨a, b, c, rfl⟩
theorem open_tile {H : Type} {enc : TypeId × Value → H} {w : World} {base b0 : Nat} {held : Bool} {r : Reach} {v : Value} {d : DataW H} {p : List MemPlace}
    (hv : Value.okWide Tryz.prog w r b0 29 v) (h : DataW.Trod enc Tryz.prog w base (fun _ => true) held 29 v d p) :
    ∃ (z x y : Int) (a : Option Addr) (n cap : Nat) (F : Nat → Feat), v = .agg #[.int .i64 z, .int .i64 x, .int .i64 y, .slice a n cap] ∧ (IsFs w a n F ∧ CameFs n F) := by
  obtain ⟨cs, rfl, hsz⟩ := okWide_struct Tryz.underlying29 hv
  obtain ⟨n, h⟩ := h
  obtain ⟨y0, y1, m, hx, hl, h0, h1⟩ := trod_struct2 Tryz.underlying29 h
  simp only [cells_lrT, cells_lfs] at h0 h1
  obtain ⟨z, x, y, e0⟩ := trod_refT h0
  obtain ⟨a, k, cap, F, e1, hF⟩ := trod_feats h1
  refine ⟨z, x, y, a, k, cap, F, ?_, hF⟩
  have hz : cs.size = 4 := by rw [hsz]; exact cells_lt
  have : cs = #[.int .i64 z, .int .i64 x, .int .i64 y, .slice a k cap] := by
    apply Array.toList_inj.1
    simp only [Value.cells] at e0 e1
    have hlen : cs.toList.length = 4 := by simpa using hz
    match hcs : cs.toList, hlen with
    | [v0, v1, v2, v3], _ =>
      rw [hcs] at e0 e1
      simp at e0 e1
      simp [e0, e1]
  rw [this]
end Go.Proofs.YtciidkmonfmipaaGreat
