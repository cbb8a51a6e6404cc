/- The model's reader: the next number, where nothing was wrong. -/
import Derived.Test.YtcbpaockahkakaaVReadTile34
namespace Go.Proofs.Ytcbpaockahkakaa
open Go.RowKit
set_option linter.unusedSimpArgs false
set_option linter.unusedVariables false
set_option maxRecDepth 100000

theorem RdAt.drew {w : World} {p b off n cap : Nat} {Z : Nat → Int} {o : Nat} {bad : Bool} (h : RdAt w p b off n cap Z o bad) : RdAt w.drew p b off n cap Z o bad := h
set_option maxHeartbeats 2000000 in
theorem l6Next_some (p b off n cap : Nat) (Z : Nat → Int) (o : Nat) (x : Nat × Nat) (w : World) (h : RdAt w p b off n cap Z o false) (hz : ∀ i, 0 ≤ Z i ∧ Z i ≤ 255) (hn : n ≤ 1048576) (hx : rd (fun i => Z (i + o)) (n - o) = some x) :
    Calls Try.prog 67 #[.pointer (some ⟨p, 0, none⟩)] w fun e w' => e = .returned (.int .i64 (x.1 : Int)) ∧ RdAt w' p b off n cap Z (o + x.2) false ∧ Keeps p w w' := by
  have hbd := rd_bd hx
  obtain ⟨c0, c1, c2, cf⟩ := h.cells
  have HR : Hid (RdAt w p b off n cap Z o false) := h
  obtain ⟨_, hbp, hbl, hB, hcap, hon⟩ := h
  have hl6 : Hid (∀ W', Below w.heap.size w W' → Calls Try.prog 90 #[.slice (some ⟨b, off + o, none⟩) (n - o) (cap - o)] W' fun e w' => e = .returned (.tuple #[.int .i64 (x.1 : Int), .int .i64 (x.2 : Int)]) ∧ W' = w') := fun W' hb => by
    have hI : IsBytes W' (some ⟨b, off + o, none⟩) (n - o) (fun i => Z (i + o)) := .inr ⟨b, off + o, rfl, Nat.lt_of_lt_of_le hbl hb.size, fun i hi => by
      have := (hb.cell (p := ⟨b, off + (i + o), none⟩) hbl).trans (hB (i + o) (by omega))
      rw [show off + o + i = off + (i + o) by omega]
      exact this⟩
    have := l6Read_any _ (n - o) (cap - o) _ W' hI (fun i => hz _) (by omega)
    simpa [rdN, hx] using this
  have d0 : ∀ W', Below w.heap.size w W' → W'.cell? ⟨p, 0, none⟩ = some (.slice (some ⟨b, off, none⟩) n cap) := fun W' hb => bl_cell hb c0
  have d1 : ∀ W', Below w.heap.size w W' → W'.cell? ⟨p, 1, none⟩ = some (.int .i64 (o : Int)) := fun W' hb => bl_cell hb c1
  have hpo : (o : Int) ≤ (n : Int) := by omega
  have hpc : (o : Int) ≤ (cap : Int) := by omega
  have ho0 : (0 : Int) ≤ (o : Int) := by omega
  have hne : cap ≠ o := by omega
  have hu : ((x.2 : Int) == 0) = false := by
    have : (x.2 : Int) ≠ 0 := by omega
    simpa using this
  have f1 := cf 1
  clear hB cf
  go_enter Try.func67, Try.ntmps67
  go_wp2_with fail
  go_region_held3 (fun W' => Below w.heap.size w W') ((repeat (first | exact Below.refl _ _ | assumption | refine Below.drew ?_ | refine bl_alloc ?_ _ | refine bl_then ?_ (by assumption) | refine Below.setCell ?_ (by first | omega | (simp; done) | (simp; omega)) _ | refine bl_store ?_ ?_ _ _)))
    (first
      | (go_at_call 90; refine (hl6.out _ (by assumption)).mono ?_; rintro e w' ⟨rfl, rfl⟩))
  have hd : Below w.heap.size w w.drew := by (repeat (first | exact Below.refl _ _ | assumption | refine Below.drew ?_ | refine bl_alloc ?_ _ | refine bl_then ?_ (by assumption) | refine Below.setCell ?_ (by first | omega | (simp; done) | (simp; omega)) _ | refine bl_store ?_ ?_ _ _))
  have k1 := d1 _ hd
  have HRV : Hid (RdAt w.drew p b off n cap Z o false) := HR.out.drew
  have HKV : Hid (Keeps p w w.drew) := Keeps.drew (Keeps.refl p w)
  have hle : o + x.2 ≤ n := by omega
  have f1' : w.drew.frozen? ⟨p, 1, none⟩ = false := f1
  have hov : (o : Int) + (x.2 : Int) ≤ 4503599627370496 := by omega
  have hov0 : (0 : Int) ≤ (o : Int) + (x.2 : Int) := by omega
  clear d0 d1 hl6 f1 hpo hpc ho0 hne hbd
  generalize hov' : w.drew = V at *
  clear hov'
  go_wp2
  go_ret
  refine ⟨rfl, ?_, HKV.out.set 1 _⟩
  have := RdAt.at HRV.out (o + x.2) hle
  rw [show ((o + x.2 : Nat) : Int) = (o : Int) + (x.2 : Int) by omega] at this
  exact this
set_option maxHeartbeats 2000000 in
theorem l6Next_none (p b off n cap : Nat) (Z : Nat → Int) (o : Nat) (w : World) (h : RdAt w p b off n cap Z o false) (hz : ∀ i, 0 ≤ Z i ∧ Z i ≤ 255) (hn : n ≤ 1048576) (hne : cap ≠ o) (hx : rd (fun i => Z (i + o)) (n - o) = none) :
    Calls Try.prog 67 #[.pointer (some ⟨p, 0, none⟩)] w fun e w' => e = .returned (.int .i64 0) ∧ RdAt w' p b off n cap Z o true ∧ Keeps p w w' := by
  obtain ⟨c0, c1, c2, cf⟩ := h.cells
  have HR : Hid (RdAt w p b off n cap Z o false) := h
  obtain ⟨_, hbp, hbl, hB, hcap, hon⟩ := h
  have hl6 : Hid (∀ W', Below w.heap.size w W' → Calls Try.prog 90 #[.slice (some ⟨b, off + o, none⟩) (n - o) (cap - o)] W' fun e w' => e = .returned (.tuple #[.int .i64 0, .int .i64 0]) ∧ W' = w') := fun W' hb => by
    have hI : IsBytes W' (some ⟨b, off + o, none⟩) (n - o) (fun i => Z (i + o)) := .inr ⟨b, off + o, rfl, Nat.lt_of_lt_of_le hbl hb.size, fun i hi => by
      have := (hb.cell (p := ⟨b, off + (i + o), none⟩) hbl).trans (hB (i + o) (by omega))
      rw [show off + o + i = off + (i + o) by omega]
      exact this⟩
    have := l6Read_any _ (n - o) (cap - o) _ W' hI (fun i => hz _) (by omega)
    simpa [rdN, hx] using this
  have d0 : ∀ W', Below w.heap.size w W' → W'.cell? ⟨p, 0, none⟩ = some (.slice (some ⟨b, off, none⟩) n cap) := fun W' hb => bl_cell hb c0
  have d1 : ∀ W', Below w.heap.size w W' → W'.cell? ⟨p, 1, none⟩ = some (.int .i64 (o : Int)) := fun W' hb => bl_cell hb c1
  have hpo : (o : Int) ≤ (n : Int) := by omega
  have hpc : (o : Int) ≤ (cap : Int) := by omega
  have ho0 : (0 : Int) ≤ (o : Int) := by omega
  have f1 := cf 1
  have f2 := cf 2
  clear hB cf
  go_enter Try.func67, Try.ntmps67
  go_wp2_with fail
  go_region_held3 (fun W' => Below w.heap.size w W') ((repeat (first | exact Below.refl _ _ | assumption | refine Below.drew ?_ | refine bl_alloc ?_ _ | refine bl_then ?_ (by assumption) | refine Below.setCell ?_ (by first | omega | (simp; done) | (simp; omega)) _ | refine bl_store ?_ ?_ _ _)))
    (first
      | (go_at_call 90; refine (hl6.out _ (by assumption)).mono ?_; rintro e w' ⟨rfl, rfl⟩))
  have hd : Below w.heap.size w w.drew := by (repeat (first | exact Below.refl _ _ | assumption | refine Below.drew ?_ | refine bl_alloc ?_ _ | refine bl_then ?_ (by assumption) | refine Below.setCell ?_ (by first | omega | (simp; done) | (simp; omega)) _ | refine bl_store ?_ ?_ _ _))
  have k1 := d1 _ hd
  have k2 : w.drew.cell? ⟨p, 2, none⟩ = some (.bool false) := c2
  have f1' : w.drew.frozen? ⟨p, 1, none⟩ = false := f1
  have f2' : w.drew.frozen? ⟨p, 2, none⟩ = false := f2
  have HRV : Hid (RdAt w.drew p b off n cap Z o false) := HR.out.drew
  have HKV : Hid (Keeps p w w.drew) := Keeps.drew (Keeps.refl p w)
  have hov : (o : Int) ≤ 4503599627370496 := by omega
  clear d0 d1 hl6 f1 f2 hpo hpc hne hx
  generalize hov' : w.drew = V at *
  clear hov'
  go_wp2
  go_ret
  refine ⟨rfl, ?_, (HKV.out.set 2 _).set 1 _⟩
  exact RdAt.at HRV.out.wrong o (by omega)
set_option maxHeartbeats 2000000 in
theorem l6Next_end (p b off n cap : Nat) (Z : Nat → Int) (o : Nat) (w : World) (h : RdAt w p b off n cap Z o false) (hz : ∀ i, 0 ≤ Z i ∧ Z i ≤ 255) (hn : n ≤ 1048576) (he : cap = o) :
    Calls Try.prog 67 #[.pointer (some ⟨p, 0, none⟩)] w fun e w' => e = .returned (.int .i64 0) ∧ RdAt w' p b off n cap Z o true ∧ Keeps p w w' := by
  obtain ⟨c0, c1, c2, cf⟩ := h.cells
  have HR : Hid (RdAt w p b off n cap Z o false) := h
  obtain ⟨_, hbp, hbl, hB, hcap, hon⟩ := h
  have hno : n = o := by omega
  subst hno
  subst he
  have hl6 : Hid (∀ (a : Option Addr) (c : Nat) W', Calls Try.prog 90 #[.slice a 0 c] W' fun e w' => e = .returned (.tuple #[.int .i64 0, .int .i64 0]) ∧ W' = w') := fun a c W' => by
    have := l6Read_any a 0 c (fun _ => 0) W' (.inl rfl) (fun i => by omega) (by omega)
    simpa [rdN, rd, rdFrom] using this
  have d0 : ∀ W', Below w.heap.size w W' → W'.cell? ⟨p, 0, none⟩ = some (.slice (some ⟨b, off, none⟩) cap cap) := fun W' hb => bl_cell hb c0
  have d1 : ∀ W', Below w.heap.size w W' → W'.cell? ⟨p, 1, none⟩ = some (.int .i64 (cap : Int)) := fun W' hb => bl_cell hb c1
  have ho0 : (0 : Int) ≤ (cap : Int) := by omega
  have f1 := cf 1
  have f2 := cf 2
  clear hB cf
  go_enter Try.func67, Try.ntmps67
  go_wp2_with fail
  go_region_held3 (fun W' => Below w.heap.size w W') ((repeat (first | exact Below.refl _ _ | assumption | refine Below.drew ?_ | refine bl_alloc ?_ _ | refine bl_then ?_ (by assumption) | refine Below.setCell ?_ (by first | omega | (simp; done) | (simp; omega)) _ | refine bl_store ?_ ?_ _ _)))
    (first
      | (go_at_call 90; refine (hl6.out _ _ _).mono ?_; rintro e w' ⟨rfl, rfl⟩))
  have hd : Below w.heap.size w w.drew := by (repeat (first | exact Below.refl _ _ | assumption | refine Below.drew ?_ | refine bl_alloc ?_ _ | refine bl_then ?_ (by assumption) | refine Below.setCell ?_ (by first | omega | (simp; done) | (simp; omega)) _ | refine bl_store ?_ ?_ _ _))
  have k1 := d1 _ hd
  have k2 : w.drew.cell? ⟨p, 2, none⟩ = some (.bool false) := c2
  have f1' : w.drew.frozen? ⟨p, 1, none⟩ = false := f1
  have f2' : w.drew.frozen? ⟨p, 2, none⟩ = false := f2
  have HRV : Hid (RdAt w.drew p b off cap cap Z cap false) := HR.out.drew
  have HKV : Hid (Keeps p w w.drew) := Keeps.drew (Keeps.refl p w)
  have hov : (cap : Int) ≤ 4503599627370496 := by omega
  clear d0 d1 hl6 f1 f2
  generalize hov' : w.drew = V at *
  clear hov'
  go_wp2
  go_ret
  refine ⟨rfl, ?_, (HKV.out.set 2 _).set 1 _⟩
  exact RdAt.at HRV.out.wrong cap (by omega)
/-- The next number, whatever was read before. -/
theorem l6Next_any (p b off n cap : Nat) (Z : Nat → Int) (o : Nat) (bad : Bool) (w : World) (h : RdAt w p b off n cap Z o bad) (hz : ∀ i, 0 ≤ Z i ∧ Z i ≤ 255) (hn : n ≤ 1048576) :
    Calls Try.prog 67 #[.pointer (some ⟨p, 0, none⟩)] w fun e w' => ∃ (v o' : Nat) (bad' : Bool), e = .returned (.int .i64 (v : Int)) ∧ RdAt w' p b off n cap Z o' bad' ∧ Keeps p w w' ∧ v ≤ 1099511627776 ∧
      ((bad' = true ∧ v = 0 ∧ o' = o ∧ (bad = true ∨ rd (fun i => Z (i + o)) (n - o) = none)) ∨ (bad = false ∧ bad' = false ∧ rd (fun i => Z (i + o)) (n - o) = some (v, o' - o) ∧ o < o')) := by
  cases bad
  · cases hx : rd (fun i => Z (i + o)) (n - o) with
    | none =>
      have hc : Calls Try.prog 67 #[.pointer (some ⟨p, 0, none⟩)] w fun e w' => e = .returned (.int .i64 0) ∧ RdAt w' p b off n cap Z o true ∧ Keeps p w w' := by
        by_cases hne : cap = o
        · exact l6Next_end p b off n cap Z o w h hz hn hne
        · exact l6Next_none p b off n cap Z o w h hz hn hne hx
      exact hc.mono fun e w' ⟨he, hR, hK⟩ => ⟨0, o, true, he, hR, hK, by omega, .inl ⟨rfl, rfl, rfl, .inr rfl⟩⟩
    | some x =>
      have hb := rd_bd hx
      exact (l6Next_some p b off n cap Z o x w h hz hn hx).mono fun e w' ⟨he, hR, hK⟩ => ⟨x.1, o + x.2, false, he, hR, hK, hb.1, .inr ⟨rfl, rfl, by rw [show o + x.2 - o = x.2 by omega], by omega⟩⟩
  · exact (l6Next_bad p b off n cap Z o w h).mono fun e w' ⟨he, hw⟩ => ⟨0, o, true, he, hw ▸ h, hw ▸ Keeps.refl p w, by omega, .inl ⟨rfl, rfl, rfl, .inl rfl⟩⟩
end Go.Proofs.Ytcbpaockahkakaa
