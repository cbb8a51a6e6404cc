/- Several texts in one. -/
import Derived.Test.YtcbpaockahkakaaVReadTile26
import Derived.Test.YtcbpaockahkakaaVReadTile14

/- A feature is put behind bytes: the program's way. -/

namespace Go.Proofs.Ytcbpaockahkakaa
open Go.RowKit
set_option linter.unusedSimpArgs false
set_option linter.unusedVariables false
set_option maxRecDepth 100000

/-- Numbers one behind the other. -/
def hd (N : List Nat) : List Int := N.flatMap putI
def labL (s : ByteArray) : List Int := s.data.toList.map fun b => (b.toNat : Int)
theorem labL_cells (s : ByteArray) : cellsB (labL s) = Lib.strCells s := by simp [cellsB, labL, Lib.strCells, Function.comp_def]
theorem labL_len (s : ByteArray) : (labL s).length = s.size := by simp [labL]
/-- The bytes of a feature. -/
def featL (id la ki wi pr : Nat) (lab : ByteArray) (n : Nat) (X Y : Nat → Int) : List Int := hd [id, la, ki, wi, pr, lab.size] ++ (labL lab ++ (putI n ++ ptsL X Y n))
theorem hd_len : ∀ (N : List Nat), (∀ x ∈ N, x ≤ 1099511627776) → (hd N).length ≤ 6 * N.length
  | [], _ => by simp [hd]
  | x :: N, h => by
    have h1 := putI_len6 x (h x (by simp))
    have h2 := hd_len N (fun y hy => h y (by simp [hy]))
    simp [hd] at h2 ⊢
    omega
theorem featL_len {id la ki wi pr : Nat} {lab : ByteArray} {n : Nat} {X Y : Nat → Int} (hn : n ≤ 12) (hin : Near n X Y) (hs : lab.size ≤ 6) (h1 : id ≤ 999) (h2 : la ≤ 999) (h3 : ki ≤ 999) (h4 : wi ≤ 999) (h5 : pr ≤ 999) : (featL id la ki wi pr lab n X Y).length ≤ 100 := by
  have e1 := hd_len [id, la, ki, wi, pr, lab.size] (by intro x hx; simp at hx; omega)
  have e2 := labL_len lab
  have e3 := putI_len2 n (by omega)
  have e4 := ptsL_len hin n (Nat.le_refl _)
  simp at e1
  simp [featL]
  omega
theorem OutAt.nb {w w' : World} {O : Nat} {id la ki wi pr : Int} {v : Value} {lab : ByteArray} (h : OutAt w O id la ki wi v lab pr) (hn : NB w w') : OutAt w' O id la ki wi v lab pr := hn _ _ _ _ h (by decide)
theorem OutAt.fresh (w : World) (id la ki wi : Int) (v : Value) (lab : ByteArray) (pr : Int) : OutAt (w.alloc (.cells #[.int .i64 id, .int .i64 la, .int .i64 ki, .int .i64 wi, v, .string lab, .int .i64 pr] 71)) w.heap.size id la ki wi v lab pr := by simp [OutAt, World.alloc, -World.alloc_eq]

set_option maxHeartbeats 8000000 in
theorem putFeature_any (base : Nat) (v : Value) (l : List Int) (id la ki wi pr : Nat) (lab : ByteArray) (b off n cap : Nat) (X Y : Nat → Int) (w : World) (hO : RowB base w v l) (hbase : base ≤ w.heap.size) (hp : PtsAt w b off n X Y) (hbl : b < base) (hn : n ≤ 12) (hin : Near n X Y) (hs : lab.size ≤ 6)
    (h1 : id ≤ 999) (h2 : la ≤ 999) (h3 : ki ≤ 999) (h4 : wi ≤ 999) (h5 : pr ≤ 999) (hl : l.length ≤ 1800) :
    Calls Try.prog 40 #[v, .agg #[.int .i64 (id : Int), .int .i64 (la : Int), .int .i64 (ki : Int), .int .i64 (wi : Int), .slice (some ⟨b, off, none⟩) n cap, .string lab, .int .i64 (pr : Int)]] w fun e w' => ∃ v', e = .returned v' ∧ RowB base w' v' (l ++ featL id la ki wi pr lab n X Y) ∧ Below base w w' ∧ NB w w' := by
  obtain ⟨i0, hi, hz0, hz1, hz2⟩ := info_parts info_u8
  have HO : Hid (RowB base w v l) := hO
  have HP : Hid (PtsAt w b off n X Y) := hp
  have HIN : Hid (Near n X Y) := hin
  have e1 : IntKind.u64.wrap (id : Int) = (id : Int) := by rw [IntKind.wrap_u64]; omega
  have e2 : IntKind.u64.wrap (la : Int) = (la : Int) := by rw [IntKind.wrap_u64]; omega
  have e3 : IntKind.u64.wrap (ki : Int) = (ki : Int) := by rw [IntKind.wrap_u64]; omega
  have e4 : IntKind.u64.wrap (wi : Int) = (wi : Int) := by rw [IntKind.wrap_u64]; omega
  have e5 : IntKind.u64.wrap (pr : Int) = (pr : Int) := by rw [IntKind.wrap_u64]; omega
  have e6 : IntKind.u64.wrap (lab.size : Int) = (lab.size : Int) := by rw [IntKind.wrap_u64]; omega
  clear hO hp hin
  go_enter Try.func40, Try.ntmps40
  go_wp2_with fail
  generalize hW : (w.alloc _ : World) = W
  have hBa : Below w.heap.size w W := by subst hW; (repeat (first | exact Below.refl _ _ | assumption | refine Below.drew ?_ | refine bl_alloc ?_ _ | refine bl_then ?_ (by assumption) | refine Below.setCell ?_ (by first | omega | (simp; done) | (simp; omega)) _ | refine bl_store ?_ ?_ _ _))
  have HF : Hid (OutAt W w.heap.size (id : Int) la ki wi (.slice (some ⟨b, off, none⟩) n cap) lab pr) := by subst hW; exact OutAt.fresh _ _ _ _ _ _ _ _
  have HO1 : Hid (RowB base W v l) := HO.out.below hBa
  have HB : Hid (Below base w W) := hBa.mono hbase
  have HN : Hid (NB w W) := NB.of_below hBa
  obtain ⟨r, hr⟩ : ∃ r, w.heap.size = r := ⟨_, rfl⟩
  rw [hr] at HF hbase
  try rw [hr]
  clear hW HO hBa
  obtain ⟨N, hNN⟩ : ∃ N : List Nat, N = [id, la, ki, wi, pr, lab.size] := ⟨_, rfl⟩
  have HNN : Hid (N = [id, la, ki, wi, pr, lab.size]) := hNN
  clear hNN
  go_loopw [0, 21] (fun u i wr => ∃ (k : Nat) (l' : List Int), k ≤ 6 ∧ i = .int .i64 (k : Int) ∧ l' = l ++ hd (N.take k) ∧ l'.length ≤ 1800 + 6 * k ∧ RowB base wr u l' ∧ OutAt wr r (id : Int) la ki wi (.slice (some ⟨b, off, none⟩) n cap) lab pr ∧ Below base w wr ∧ NB w wr) (fun _ i _ => 6 - (intOf i).toNat)
  case atStart => exact ⟨0, l, by omega, rfl, by simp [hd], by omega, HO1.out, HF.out, HB.out, HN.out⟩
  case round =>
    obtain ⟨k, l', hk, rfl, hl1, hl2, hO, hF, hB, hN⟩ := hrel
    have HL : Hid (l' = l ++ hd (N.take k)) := hl1
    have HOr : Hid (RowB base wr u0 l') := hO
    have HFr : Hid (OutAt wr r (id : Int) la ki wi (.slice (some ⟨b, off, none⟩) n cap) lab pr) := hF
    have HBr : Hid (Below base w wr) := hB
    have HNr : Hid (NB w wr) := hN
    have hbr : base ≤ wr.heap.size := by have := hB.size; omega
    clear hO hF hB hN HO1 HF HB HN hl1
    by_cases hlt : k < 6
    · have hi' : (k : Int) < 6 := by omega
      obtain ⟨x, hat, hx2, hx3⟩ : ∃ x : Nat, (∀ w, (Instr.index 109 (Value.agg #[.int .i64 (id : Int), .int .i64 (la : Int), .int .i64 (ki : Int), .int .i64 (wi : Int), .int .i64 (pr : Int), .int .i64 (lab.size : Int)]) (.int .i64 (k : Int))).run Try.prog w = .ok (.int .i64 (x : Int)) w) ∧ x ≤ 999 ∧ hd (N.take (k + 1)) = hd (N.take k) ++ putI x := by
        rw [HNN.out]
        rcases (by omega : k = 0 ∨ k = 1 ∨ k = 2 ∨ k = 3 ∨ k = 4 ∨ k = 5) with rfl | rfl | rfl | rfl | rfl | rfl
        · exact ⟨id, fun _ => by kernel_rfl, by omega, by simp [hd]⟩
        · exact ⟨la, fun _ => by kernel_rfl, by omega, by simp [hd]⟩
        · exact ⟨ki, fun _ => by kernel_rfl, by omega, by simp [hd]⟩
        · exact ⟨wi, fun _ => by kernel_rfl, by omega, by simp [hd]⟩
        · exact ⟨pr, fun _ => by kernel_rfl, by omega, by simp [hd]⟩
        · exact ⟨lab.size, fun _ => by kernel_rfl, by omega, by simp [hd]⟩
      have HX : Hid (hd (N.take (k + 1)) = hd (N.take k) ++ putI x) := hx3
      have h6 := putI_len6 x (by omega)
      have ex : IntKind.u64.wrap (x : Int) = (x : Int) := by rw [IntKind.wrap_u64]; omega
      clear hx3
      go_wp2_with fail
      refine (putNumber_nb base u0 l' x wr HOr.out hbr (by omega) (by omega)).mono ?_
      rintro e w3 ⟨v3, rfl, hO3, hB3, hN3⟩
      have HO3 : Hid (RowB base w3 v3 (l' ++ putI x)) := hO3
      have HF3 : Hid (OutAt w3 r (id : Int) la ki wi (.slice (some ⟨b, off, none⟩) n cap) lab pr) := HFr.out.nb hN3
      have HB3 : Hid (Below base w w3) := HBr.out.trans hB3
      have HN3 : Hid (NB w w3) := HNr.out.trans hN3
      clear hO3 hB3 hN3 HOr HFr HBr HNr hat
      go_wp2
      go_roundw
      case rel => exact ⟨k + 1, l' ++ putI x, by omega, by first | rfl | go_num | (simp; done) | omega, by rw [HX.out, HL.out]; simp, by simp; omega, HO3.out, HF3.out, HB3.out, HN3.out⟩
      case measure => simp [intOf]; omega
    · have hk6 : k = 6 := by omega
      subst hk6
      have HL' : Hid (l' = l ++ hd [id, la, ki, wi, pr, lab.size]) := by show _ = _; rw [HL.out, HNN.out]; rfl
      obtain ⟨⟨c0, c1, c2, c3, c4, c5, c6⟩, _⟩ := HFr.out.cells
      have hrl := HFr.out.lt
      go_wp2_with (first
        | (at_builtin; go_must (refine Lib.wpList_append_own_string _ rfl _ _ 22 9 rfl base 5 i0 Try.underlying22 Try.underlying9 hi hz0 hz1 hz2 _ l'.length (cellsB l') rfl HOr.out lab rfl ?c3 ?c4 ?c5 ?_)))
      case c3 => unfold maxLen; omega
      case c4 => omega
      case c5 => omega
      intro v3 w3 hown hgrow hnil
      have HO3 : Hid (RowB base w3 v3 (l' ++ labL lab)) := by
        show RowB _ _ _ _
        unfold RowB
        rw [cellsB_add, labL_cells, List.length_append, labL_len]
        exact hown
      have hBg : Below base wr w3 := (Below.refl _ _).grown hgrow hbr (fun k hk => (HOr.out.lt k hk).1)
      have hNg : NB wr w3 := NB.of_grown HOr.out hgrow
      have HF3 : Hid (OutAt w3 r (id : Int) la ki wi (.slice (some ⟨b, off, none⟩) n cap) lab pr) := HFr.out.nb hNg
      have HB3 : Hid (Below base w w3) := HBr.out.trans hBg
      have HN3 : Hid (NB w w3) := HNr.out.trans hNg
      have hs3 : base ≤ w3.heap.size := by have := hBg.size; omega
      clear hown hgrow hnil hBg hNg HOr HFr HBr HNr c0 c1 c2 c3 c4 c5 c6
      obtain ⟨⟨c0, c1, c2, c3, c4, c5, c6⟩, _⟩ := HF3.out.cells
      have hrl3 := HF3.out.lt
      have hll : (l' ++ labL lab).length ≤ 1900 := by rw [List.length_append, labL_len]; omega
      go_wp2_with fail
      refine (putPoints_any base v3 (l' ++ labL lab) b off n cap X Y w3 HO3.out hs3 (HP.out.below HB3.out hbl) hbl hn HIN.out hll).mono ?_
      rintro e w4 ⟨v4, rfl, hO4, hB4, hN4⟩
      have HO4 : Hid (RowB base w4 v4 (l ++ featL id la ki wi pr lab n X Y)) := by
        show RowB _ _ _ _
        rw [HL'.out] at hO4
        simpa [featL] using hO4
      have HB4 : Hid (Below base w w4) := HB3.out.trans hB4
      have HN4 : Hid (NB w w4) := HN3.out.trans hN4
      clear hO4 hB4 hN4 HO3 HF3 HB3 HN3 c0 c1 c2 c3 c4 c5 c6
      go_wp2
      go_ret
      exact ⟨_, rfl, HO4.out, HB4.out, HN4.out⟩
end Go.Proofs.Ytcbpaockahkakaa
/- A feature told as bytes: the program's way. -/

namespace Go.Proofs.Ytcbpaockahkakaa
open Go.RowKit
set_option linter.unusedSimpArgs false
set_option linter.unusedVariables false
set_option maxRecDepth 100000

/-- The bytes of PackFeature; its code is the fault. -/
def pfL (id la ki wi : Int) (n : Nat) (X Y : Nat → Int) (lab : ByteArray) (pr : Int) : List Int :=
  if featC id la ki wi n X Y lab pr = 0 then featL id.toNat la.toNat ki.toNat wi.toNat pr.toNat lab n X Y else []
/-- What a feature without a fault has. -/
theorem feat_ok {id la ki wi : Int} {n : Nat} {X Y : Nat → Int} {lab : ByteArray} {pr : Int} (h : featC id la ki wi n X Y lab pr = 0) :
    ∃ i l k v p : Nat, id = (i : Int) ∧ la = (l : Int) ∧ ki = (k : Int) ∧ wi = (v : Int) ∧ pr = (p : Int) ∧ i ≤ 999 ∧ l ≤ 999 ∧ k ≤ 999 ∧ v ≤ 999 ∧ p ≤ 999 ∧ 0 < n ∧ n ≤ 12 ∧ Near n X Y ∧ lab.size ≤ 6 := by
  unfold featC at h
  split at h
  · rename_i h1
    split at h
    · rename_i h2
      split at h
      · rename_i h3
        split at h
        · rename_i h4
          simp [rngB, inB] at h1
          simp [ptsIn, inW, inB] at h3
          simp [labB] at h4
          have hn : 0 < n ∧ n ≤ 12 := by
            unfold sizeB at h2
            split at h2
            · simp at h2; omega
            · split at h2 <;> (simp [inB] at h2; omega)
          refine ⟨id.toNat, la.toNat, ki.toNat, wi.toNat, pr.toNat, by omega, by omega, by omega, by omega, by omega, by omega, by omega, by omega, by omega, by omega, hn.1, hn.2, fun i hi => ?_, h4.1⟩
          have := h3 i hi
          omega
        · omega
      · omega
    · omega
  · omega

end Go.Proofs.Ytcbpaockahkakaa
