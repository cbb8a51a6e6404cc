/- Texts. -/
import Derived.Test.YtiephlohemphjaaGreatVTickViewer8
set_option linter.unusedSimpArgs false
set_option linter.unusedVariables false
set_option maxRecDepth 100000
set_option maxHeartbeats 32000000
namespace Go.Proofs.YtiephlohemphjaaGreat
open Go.RowKit
theorem bl_cell {w w' : World} {p : Addr} {v : Value} (hb : Below w.heap.size w w') (h : w.cell? p = some v) : w'.cell? p = some v := (hb.cell (World.block_lt_of_cell? _ _ h)).trans h
theorem gr_cell {w w' : World} {b o s : Nat} {v : Value} (hg : w.grownBy w' (some s)) (h : w.cell? ⟨b,o,none⟩ = some v) (hs : b ≠ s) : w'.cell? ⟨b,o,none⟩ = some v := hg.cell h (fun e => hs (by injection e))
theorem ownsRow_of {w w' : World} {base size n : Nat} {e : TypeId} {v : Value} {xs : List Value} (h : w.ownsRow base e size v n xs) (hk : ∀ g,v.ownBlock = some g → w'.heap[g]? = w.heap[g]?) : w'.ownsRow base e size v n xs := by
 obtain ⟨h1,h2 | ⟨g,cp,cur,hv,hg,hh,hr⟩⟩ := h
 ·exact ⟨h1, .inl h2⟩
 ·refine ⟨h1, .inr ⟨g,cp,cur,hv,hg,?_,hr⟩⟩
  rw [hk g (by rw [hv]; rfl)]
  exact hh
theorem there7 (V : World) (v0 v1 v2 v3 v4 v5 v6 : Value) (t : TypeId) : There (V.alloc (.cells #[v0,v1,v2,v3,v4,v5,v6] t)) V.heap.size 7 := fun o ho => by
 refine ⟨⟨#[v0,v1,v2,v3,v4,v5,v6][o]'(by simpa using ho),?_⟩,World.frozen?_alloc_at _ _ _ _ rfl⟩
 rw [World.cell?_alloc_at _ _ _ _ rfl]
 exact Array.getElem?_eq_getElem _
def OutAt (w : World) (O : Nat) (id la ki wi : Int) (v : Value) (lab : ByteArray) (pr : Int) : Prop := w.heap[O]? = some (Obj.cells #[.int .i64 id, .int .i64 la, .int .i64 ki, .int .i64 wi,v, .string lab, .int .i64 pr] 207 (0,0))
theorem OutAt.cells {w : World} {O : Nat} {id la ki wi pr : Int} {v : Value} {lab : ByteArray} (h : OutAt w O id la ki wi v lab pr) :
  (w.cell? ⟨O,0,none⟩ = some (.int .i64 id) ∧ w.cell? ⟨O,1,none⟩ = some (.int .i64 la) ∧ w.cell? ⟨O,2,none⟩ = some (.int .i64 ki) ∧ w.cell? ⟨O,3,none⟩ = some (.int .i64 wi) ∧ w.cell? ⟨O,4,none⟩ = some v ∧ w.cell? ⟨O,5,none⟩ = some (.string lab) ∧ w.cell? ⟨O,6,none⟩ = some (.int .i64 pr)) ∧ w.frozen? ⟨O,4,none⟩ = false := by
 unfold OutAt at h
 refine ⟨⟨?_,?_,?_,?_,?_,?_,?_⟩,?_⟩ <;> simp [World.cell?,World.frozen?,h]
theorem OutAt.lt {w : World} {O : Nat} {id la ki wi pr : Int} {v : Value} {lab : ByteArray} (h : OutAt w O id la ki wi v lab pr) : O < w.heap.size := lt_of_heap h
theorem There.out {w : World} {O r n : Nat} {x : Value} (h : There w r n) (hne : O ≠ r) : There (w.setCell ⟨O,4,none⟩ x) r n := fun o ho => by
 obtain ⟨u,hu⟩ := (h o ho).1
 exact ⟨⟨u,by rw [set1_other (fun e => hne (by injection e))]; exact hu⟩,by rw [World.frozen?_setCell]; exact (h o ho).2⟩
theorem below7 {B r : Nat} {w W : World} {v0 v1 v2 v3 v4 v5 v6 : Value} (h : Below B w W) (hr : B ≤ r) : Below B w ((((((((W.setCell ⟨r,0,none⟩ v0).setCell ⟨r,1,none⟩ v1).setCell ⟨r,2,none⟩ v2).setCell ⟨r,3,none⟩ v3).setCell ⟨r,4,none⟩ v4).setCell ⟨r,5,none⟩ v5).setCell ⟨r,6,none⟩ v6)) :=
 (((((((h.setCell (p := ⟨r,0,none⟩) hr v0).setCell (p := ⟨r,1,none⟩) hr v1).setCell (p := ⟨r,2,none⟩) hr v2).setCell (p := ⟨r,3,none⟩) hr v3).setCell (p := ⟨r,4,none⟩) hr v4).setCell (p := ⟨r,5,none⟩) hr v5).setCell (p := ⟨r,6,none⟩) hr v6)
theorem Row.no (base : Nat) (w : World) : Row base w (.slice none 0 0) [] := World.ownsRow_nil _ _ _ _
theorem Row.at {base : Nat} {w : World} {v : Value} {l : List (Int × Int)} (h : Row base w v l) (hne : 0 < l.length) :
  ∃ g cap,v = .slice (some ⟨g,0,none⟩) l.length cap ∧ base ≤ g ∧ g < w.heap.size ∧ l.length ≤ cap ∧ PtsAt w g 0 l.length (px l) (py l) := by
 obtain ⟨a,cap,hv,hc,h0 | ⟨b,rfl,hb,hl,hp,ht⟩⟩ := h.own
 ·omega
 ·exact ⟨b,cap,hv,hb,hl,hc,hp⟩
theorem info_pt : (Tryz.prog.info? 230).map (fun i => (i.zero,i.size,i.bytes)) = some (some (.agg #[.int .i64 0, .int .i64 0]),2,16) := by kernel_rfl

def dblL (X Y : Nat → Int) (n : Nat) : List (Int × Int) := (List.range n).map fun i => (2 * X i, 2 * Y i)
theorem dblL_len (X Y : Nat → Int) (n : Nat) : (dblL X Y n).length = n := by simp [dblL]
theorem dblL_add (X Y : Nat → Int) (k : Nat) : dblL X Y (k + 1) = dblL X Y k ++ [(2 * X k, 2 * Y k)] := by simp [dblL, List.range_succ]
theorem dblL_px (X Y : Nat → Int) (n i : Nat) (h : i < n) : px (dblL X Y n) i = 2 * X i ∧ py (dblL X Y n) i = 2 * Y i := by
  simp [px, py, dblL, List.getD_eq_getElem?_getD, h]
theorem l4Doubled_any (b off n cap : Nat) (X Y : Nat → Int) (w : World) (hp : PtsAt w b off n X Y) (hbl : b < w.heap.size) (hn : n ≤ 40) (hin : ∀ i, i < n → inW (X i) (Y i) = true) :
    Calls Tryz.prog 202 #[.slice (some ⟨b, off, none⟩) n cap] w fun e w' => ∃ v, e = .returned v ∧ Row w.heap.size w' v (dblL X Y n) ∧ Below w.heap.size w w' := by
  obtain ⟨i0, hi, hz0, hz1, hz2⟩ := info_parts info_pt
  have HP : Hid (PtsAt w b off n X Y) := hp
  have HIN : Hid (∀ i, i < n → inW (X i) (Y i) = true) := hin
  clear hp hin
  go_enter Tryz.func202, Tryz.ntmps202
  go_wp2_with fail
  generalize hW : (w.alloc _ : World) = W
  have hB0 : Below w.heap.size w W := by subst hW; exact Qb
  have hO0 : W.ownsRow w.heap.size 230 2 (.slice (some ⟨w.heap.size, 0, none⟩) 0 0) 0 [] := by
    subst hW
    exact World.ownsRow_lit (base := w.heap.size) w #[] 0 (Nat.le_refl _) (Nat.zero_le _) rfl
  clear hW
  have HB0 : Hid (Below w.heap.size w W) := hB0
  have HO0 : Hid (Row w.heap.size W (.slice (some ⟨w.heap.size, 0, none⟩) 0 0) []) := hO0
  clear hB0 hO0
  go_loopw [3, 4] (fun v i wr => ∃ k : Nat, k ≤ n ∧ i = .int .i64 (k : Int) ∧ Row w.heap.size wr v (dblL X Y k) ∧ Below w.heap.size w wr) (fun _ i _ => n - (intOf i).toNat)
  case atStart => exact ⟨0, by omega, rfl, HO0.out, HB0.out⟩
  case round =>
    obtain ⟨k, hk, rfl, hO, hB⟩ := hrel
    by_cases hlt : k < n
    · obtain ⟨hx, hy⟩ := (HP.out.below hB hbl) k hlt
      obtain ⟨⟨x0, x1⟩, y0, y1⟩ := inW_bd (HIN.out k hlt)
      have HB : Hid (Below w.heap.size w wr) := hB
      have HO : Hid (Row w.heap.size wr u3 (dblL X Y k)) := hO
      have hbw : b < wr.heap.size := Nat.lt_of_lt_of_le hbl hB.size
      have hszc : w.heap.size ≤ wr.heap.size := hB.size
      have HLEN : Hid ((dblL X Y k).length = k) := dblL_len X Y k
      have HS : Hid (dblL X Y (k + 1) = dblL X Y k ++ [(2 * X k, 2 * Y k)]) := dblL_add X Y k
      clear hO hB
      have hi' : (k : Int) < (n : Int) := by omega
      have wx : IntKind.i64.wrap (2 * X k) = 2 * X k := IntWalk.i64_in _ (by omega)
      have wy : IntKind.i64.wrap (2 * Y k) = 2 * Y k := IntWalk.i64_in _ (by omega)
      go_wp2_with fail
      go_region_law (refine step_append_own rfl (.tmp 12) (.tmp 26) 205 rfl w.heap.size 230 i0 (.agg #[.int .i64 0, .int .i64 0]) 2 16 Tryz.underlying205 hi hz0 hz1 hz2 rfl (by decide) u3 (dblL X Y k).length (cellsL (dblL X Y k)) rfl ?own ⟨wr.heap.size, 0, none⟩ 1 1 [.int .i64 (2 * X k), .int .i64 (2 * Y k)] rfl rfl ?c1 ?c2 ?c3 ?c4 ?c5 ?_
                     case own => exact World.ownsRow.alloc HO.out _
                     case c1 =>
                       intro q u hq
                       match q, hq with
                       | 0, hq => simp at hq; subst hq; simp [Addr.add, go_sem]
                       | 1, hq => simp at hq; subst hq; simp [Addr.add, go_sem]
                       | q + 2, hq => simp at hq
                     case c2 => intro u hu; simp at hu; rcases hu with rfl | rfl <;> rfl
                     case c3 => have := HLEN.out; unfold maxLen; omega
                     case c4 => have := HLEN.out; omega
                     case c5 => first | omega | (simp; omega)
                     intro v' w3 hown' hgrow hnil
                     clear hnil
                     have hBV : Below wr.heap.size wr (World.alloc (World.drew wr) (.cells #[.int .i64 (2 * X k), .int .i64 (2 * Y k)] 230)) := by exact Qb
                     have hBg : Below w.heap.size (World.alloc (World.drew wr) (.cells #[.int .i64 (2 * X k), .int .i64 (2 * Y k)] 230)) w3 := (Below.refl _ _).grown hgrow (by have := hBV.size; omega) (fun k hk => (HO.out.lt k hk).1)
                     have HB3 : Hid (Below w.heap.size w w3) := (HB.out.trans (hBV.mono hszc)).trans hBg
                     have HO3 : Hid (Row w.heap.size w3 v' (dblL X Y (k + 1))) := (by
                       show Row _ _ _ _
                       rw [HS.out]
                       show World.ownsRow _ _ _ _ _ _ _
                       rw [cellsL_add, List.length_append]
                       exact hown')
                     clear hown' hgrow hBg hBV)
      all_goals
        go_wp2_with fail
        go_roundw
        case rel => exact ⟨k + 1, by omega, by go_num, HO3.out, HB3.out⟩
        case measure => simp [intOf]; omega
    · go_wp2
      go_ret
      have hkn : k = n := by omega
      subst hkn
      exact ⟨_, rfl, hO, hB⟩
theorem doubled_any (b off n cap : Nat) (X Y : Nat → Int) (w : World) (hp : PtsAt w b off n X Y) (hbl : b < w.heap.size) (hn : n ≤ 40) (hin : ∀ i, i < n → inW (X i) (Y i) = true) :
    Calls Tryz.prog 212 #[.slice (some ⟨b, off, none⟩) n cap] w fun e w' => ∃ v, e = .returned v ∧ Row w.heap.size w' v (dblL X Y n) ∧ Below w.heap.size w w' := by
  obtain ⟨i0, hi, hz0, hz1, hz2⟩ := info_parts info_pt
  have HP : Hid (PtsAt w b off n X Y) := hp
  have HIN : Hid (∀ i, i < n → inW (X i) (Y i) = true) := hin
  clear hp hin
  go_enter Tryz.func212, Tryz.ntmps212
  go_wp2_with fail
  go_loopw [3, 8] (fun v i wr => ∃ k : Nat, k ≤ n ∧ i = .int .i64 (k : Int) ∧ Row w.heap.size wr v (dblL X Y k) ∧ Below w.heap.size w wr) (fun _ i _ => n - (intOf i).toNat)
  case atStart => exact ⟨0, by omega, rfl, Row.no _ _, Below.refl _ _⟩
  case round =>
    obtain ⟨k, hk, rfl, hO, hB⟩ := hrel
    by_cases hlt : k < n
    · obtain ⟨hx, hy⟩ := (HP.out.below hB hbl) k hlt
      obtain ⟨⟨x0, x1⟩, y0, y1⟩ := inW_bd (HIN.out k hlt)
      have HB : Hid (Below w.heap.size w wr) := hB
      have HO : Hid (Row w.heap.size wr u3 (dblL X Y k)) := hO
      have hbw : b < wr.heap.size := Nat.lt_of_lt_of_le hbl hB.size
      have hszc : w.heap.size ≤ wr.heap.size := hB.size
      have HLEN : Hid ((dblL X Y k).length = k) := dblL_len X Y k
      have HS : Hid (dblL X Y (k + 1) = dblL X Y k ++ [(2 * X k, 2 * Y k)]) := dblL_add X Y k
      clear hO hB
      have hi' : (k : Int) < (n : Int) := by omega
      go_wp2_with (first
        | (at_builtin; go_must (refine wpList_append_own _ rfl _ _ 205 rfl w.heap.size 230 i0 (.agg #[.int .i64 0, .int .i64 0]) 2 16 Tryz.underlying205 hi hz0 hz1 hz2 rfl (by decide) _ (dblL X Y k).length (cellsL (dblL X Y k)) rfl (World.ownsRow.alloc (World.ownsRow.alloc HO.out _) _) ⟨wr.heap.size + 1, 0, none⟩ 1 1 [.int .i64 (2 * X k), .int .i64 (2 * Y k)] rfl rfl ?c1 ?c2 ?c3 ?c4 ?c5 ?_)))
      try (case c1 =>
        intro q u hq
        match q, hq with
        | 0, hq => simp at hq; subst hq; simp [Addr.add, go_sem]
        | 1, hq => simp at hq; subst hq; simp [Addr.add, go_sem]
        | q + 2, hq => simp at hq)
      case c2 => first | (intro u hu; simp at hu; rcases hu with rfl | rfl <;> rfl) | exact ⟨rfl, rfl⟩
      case c3 => have := HLEN.out; unfold maxLen; omega
      case c4 => have := HLEN.out; omega
      case c5 => first | omega | (simp; omega)
      intro v' w3 hown' hgrow hnil
      clear hnil
      generalize hV : ((wr.alloc _).alloc _ : World) = V at hgrow
      have hBV : Below wr.heap.size wr V := by subst hV; exact Qb
      have hBg : Below w.heap.size V w3 := (Below.refl _ _).grown hgrow (by have := hBV.size; omega) (fun k hk => (HO.out.lt k hk).1)
      have HB3 : Hid (Below w.heap.size w w3) := (HB.out.trans (hBV.mono hszc)).trans hBg
      have HO3 : Hid (Row w.heap.size w3 v' (dblL X Y (k + 1))) := by
        show Row _ _ _ _
        rw [HS.out]
        show World.ownsRow _ _ _ _ _ _ _
        rw [cellsL_add, List.length_append]
        exact hown'
      clear hown' hgrow hBg hBV hV
      go_wp2
      go_roundw
      case rel => exact ⟨k + 1, by omega, by go_num, HO3.out, HB3.out⟩
      case measure => simp [intOf]; omega
    · go_wp2
      go_ret
      have hkn : k = n := by omega
      subst hkn
      exact ⟨_, rfl, hO, hB⟩
def insideB (px py : Int) (n : Nat) (X Y : Nat → Int) : Bool := okP px py && (decide (3 ≤ n) && (decide (n ≤ 40) && (allOk n X Y && oddTo (sideAt px py n X Y) n)))
def prevI (n k : Nat) : Nat := if k = 0 then n - 1 else k - 1
def sideTo (px py : Int) (n : Nat) (X Y : Nat → Int) (i : Nat) : Bool := sideB px py (X (prevI n i)) (Y (prevI n i)) (X i) (Y i)
theorem odd_same (px py : Int) (n : Nat) (X Y : Nat → Int) (hn : 0 < n) : oddTo (sideTo px py n X Y) n = oddTo (sideAt px py n X Y) n := by
 refine oddTo_turn _ _ n ?_ (fun i hi => ?_) hn
 ·have e : n - 1 + 1 = n := by omega
  simp [sideTo,sideAt,prevI,e,Nat.mod_self]
 ·simp [sideTo,sideAt,prevI,Nat.mod_eq_of_lt hi]
theorem impl_IsInside_few (px py : Int) (a : Option Addr) (n cap : Nat) (X Y : Nat → Int) (w : World) (hn : n < 3) :
  Calls Tryz.prog 262 #[.agg #[.int .i64 px, .int .i64 py], .slice a n cap] w fun e w' => e = .returned (.bool (insideB px py n X Y)) ∧ Below w.heap.size w w' := by
 have HE : Hid (insideB px py n X Y = false) := by
  show _ = _
  have : ¬ 3 ≤ n := by omega
  simp [insideB,this]
 have hni : (n : Int) < 3 := by omega
 go_enter Tryz.func262,Tryz.ntmps262
 go_wp2
 go_ret
 exact ⟨ret_bool HE.out.symm,by (repeat (first|exact Qr _ _|assumption|refine Qd ?_|refine Qa ?_ _|refine Qt ?_|refine Qs ?_ _|refine Qo ?_ ?_ _ _))⟩
theorem impl_IsInside_many (px py : Int) (a : Option Addr) (n cap : Nat) (X Y : Nat → Int) (w : World) (hn : 40 < n) (hmax : n ≤ 1048576) :
  Calls Tryz.prog 262 #[.agg #[.int .i64 px, .int .i64 py], .slice a n cap] w fun e w' => e = .returned (.bool (insideB px py n X Y)) ∧ Below w.heap.size w w' := by
 have HE : Hid (insideB px py n X Y = false) := by
  show _ = _
  have : ¬ n ≤ 40 := by omega
  simp [insideB,this]
 have hni : (40 : Int) < (n : Int) := by omega
 have hn3 : decide ((n : Int) < 3) = false := by simp; omega
 go_enter Tryz.func262,Tryz.ntmps262
 go_wp2
 go_ret
 exact ⟨ret_bool HE.out.symm,by (repeat (first|exact Qr _ _|assumption|refine Qd ?_|refine Qa ?_ _|refine Qt ?_|refine Qs ?_ _|refine Qo ?_ ?_ _ _))⟩
theorem impl_IsInside_p (px py : Int) (b n cap : Nat) (X Y : Nat → Int) (w : World) (hp : okP px py = false) (h3 : 3 ≤ n) (h40 : n ≤ 40) :
  Calls Tryz.prog 262 #[.agg #[.int .i64 px, .int .i64 py], .slice (some ⟨b,0,none⟩) n cap] w fun e w' => e = .returned (.bool (insideB px py n X Y)) ∧ Below w.heap.size w w' := by
 have HE : Hid (insideB px py n X Y = false) := by show _ = _; simp [insideB,hp]
 have k1 := codeP_no hp
 have hn3 : decide ((n : Int) < 3) = false := by simp; omega
 have hn40 : decide ((40 : Int) < (n : Int)) = false := by simp; omega
 clear hp
 go_enter Tryz.func262,Tryz.ntmps262
 go_wp2_with (go_at_call 270; refine (PointFault_any _ _ _).mono ?_; rintro e w' ⟨rfl,hb⟩)
 go_ret
 exact ⟨ret_bool HE.out.symm,by (repeat (first|exact Qr _ _|assumption|refine Qd ?_|refine Qa ?_ _|refine Qt ?_|refine Qs ?_ _|refine Qo ?_ ?_ _ _))⟩
theorem impl_IsInside_bad (px py : Int) (b n cap : Nat) (X Y : Nat → Int) (w : World) (hp : okP px py = true) (hpt : PtsAt w b 0 n X Y) (hbl : b < w.heap.size) (hcap : n ≤ cap) (h3 : 3 ≤ n) (h40 : n ≤ 40) (hall : allOk n X Y = false) :
  Calls Tryz.prog 262 #[.agg #[.int .i64 px, .int .i64 py], .slice (some ⟨b,0,none⟩) n cap] w fun e w' => e = .returned (.bool (insideB px py n X Y)) ∧ Below w.heap.size w w' := by
 have HE : Hid (insideB px py n X Y = false) := by show _ = _; simp [insideB,hall]
 have hN : codeN n X Y = 3 := by simp [codeN,hall]
 have HQ : Hid (PtsAt w b 0 n X Y) := hpt
 have k1 := codeP_ok hp
 have hn3 : decide ((n : Int) < 3) = false := by simp; omega
 have hn40 : decide ((40 : Int) < (n : Int)) = false := by simp; omega
 clear hp hpt hall
 go_enter Tryz.func262,Tryz.ntmps262
 go_wp2_with fail
 refine (PointFault_any _ _ _).mono ?_
 rintro e w1 ⟨rfl,hb1⟩
 have hB1 : Below w.heap.size w w1 := by exact Qb
 have HQ1 : Hid (PtsAt w1 b 0 n X Y) := HQ.out.below hB1 hbl
 have hbl1 : b < w1.heap.size := Nat.lt_of_lt_of_le hbl hB1.size
 have HB1 : Hid (Below w.heap.size w w1) := hB1
 clear hB1 hb1
 go_wp2_with (go_at_call 271; refine (faultIn_any _ _ _ _ X Y _ HQ1.out hbl1 hcap (by omega)).mono ?_; rintro e w2 ⟨rfl,hb2⟩)
 go_ret
 exact ⟨ret_bool HE.out.symm,bl_then HB1.out hb2⟩
theorem impl_IsInside_ring (px py : Int) (b n cap : Nat) (X Y : Nat → Int) (w : World) (hp : okP px py = true) (hpt : PtsAt w b 0 n X Y) (hbl : b < w.heap.size) (hcap : n ≤ cap) (h3 : 3 ≤ n) (h40 : n ≤ 40) (hall : allOk n X Y = true) :
  Calls Tryz.prog 262 #[.agg #[.int .i64 px, .int .i64 py], .slice (some ⟨b,0,none⟩) n cap] w fun e w' => e = .returned (.bool (insideB px py n X Y)) ∧ Below w.heap.size w w' := by
 have HE : Hid (insideB px py n X Y = oddTo (sideTo px py n X Y) n) := by
  show _ = _
  rw [odd_same px py n X Y (by omega)]
  simp [insideB,hall,hp,h3,h40]
 have hN : codeN n X Y = 0 := by simp [codeN,hall]
 have HP : Hid (okP px py = true) := hp
 have HQ : Hid (PtsAt w b 0 n X Y) := hpt
 have HO : Hid (∀ i,i < n → okP (X i) (Y i) = true) := by
  show ∀ i,i < n → okP (X i) (Y i) = true
  exact of_decide_eq_true hall
 have k1 := codeP_ok hp
 have hn3 : decide ((n : Int) < 3) = false := by simp; omega
 have hn40 : decide ((40 : Int) < (n : Int)) = false := by simp; omega
 clear hp hpt hall
 go_enter Tryz.func262,Tryz.ntmps262
 go_wp2_with fail
 generalize hW : (w.alloc _ : World) = W
 have hB0 : Below w.heap.size w W := by subst hW; exact Qb
 have c00 : ∀ W',Below W.heap.size W W' → W'.cell? ⟨w.heap.size,0,none⟩ = some (.int .i64 px) := fun W' h => by
  rw [h.cell (by subst hW; simp <;> omega)]; subst hW; simp [go_sem]
 have c01 : ∀ W',Below W.heap.size W W' → W'.cell? ⟨w.heap.size,1,none⟩ = some (.int .i64 py) := fun W' h => by
  rw [h.cell (by subst hW; simp <;> omega)]; subst hW; simp [go_sem]
 clear hW
 have HB0 : Hid (Below w.heap.size w W) := hB0
 have HQ1 : Hid (PtsAt W b 0 n X Y) := HQ.out.below hB0 hbl
 have hblW : b < W.heap.size := Nat.lt_of_lt_of_le hbl hB0.size
 clear hB0 HQ hbl
 refine (PointFault_any _ _ _).mono ?_
 rintro e w1 ⟨rfl,hb1⟩
 have HQ2 : Hid (PtsAt w1 b 0 n X Y) := HQ1.out.below hb1 hblW
 have hbl1 : b < w1.heap.size := Nat.lt_of_lt_of_le hblW hb1.size
 go_wp2_with fail
 refine (faultIn_any _ _ _ _ X Y _ HQ2.out hbl1 hcap (by omega)).mono ?_
 rintro e w2 ⟨rfl,hb2⟩
 have hB2 : Below W.heap.size W w2 := bl_then hb1 hb2
 have hwr : IntKind.i64.wrap ((n : Int) - 1) = (n : Int) - 1 := IntWalk.i64_in _ (by omega)
 have hi1 : (0 : Int) ≤ (n : Int) - 1 := by omega
 have hi2 : (n : Int) - 1 < (n : Int) := by omega
 have hti : ((n : Int) - 1).toNat = n - 1 := by omega
 obtain ⟨hx,hy⟩ := (HQ1.out.below hB2 hblW) (n - 1) (by omega)
 simp only [Nat.zero_add] at hx hy
 clear hb1 hb2 HQ2
 go_wp2_with fail
 refine (pairOf_any _ _ _).mono ?_
 rintro e w3 ⟨rfl,hb3⟩
 have hB3 : Below W.heap.size W w3 := bl_then hB2 hb3
 clear hx hy hB2 hb3
 have HQ3 : Hid (PtsAt w3 b 0 n X Y) := HQ1.out.below hB3 hblW
 have hbl3 : b < w3.heap.size := Nat.lt_of_lt_of_le hblW hB3.size
 replace c00 := fun W' (h : Below w3.heap.size w3 W') => c00 W' (bl_then hB3 h)
 replace c01 := fun W' (h : Below w3.heap.size w3 W') => c01 W' (bl_then hB3 h)
 have HB3 : Hid (Below w.heap.size w w3) := bl_then HB0.out hB3
 clear hB3 HB0 HQ1 hblW hbl1 hwr hi1 hi2 hti hN k1
 go_wp2
 go_loopw [5,35] (fun q i wr => ∃ k : Nat,k ≤ n ∧ i = .int .i64 k ∧ q = .bool (oddTo (sideTo px py n X Y) k) ∧ Below w3.heap.size w3 wr ∧ wr.cell? ⟨w3.heap.size,0,none⟩ = some (.int .i64 (X (prevI n k))) ∧ wr.cell? ⟨w3.heap.size,1,none⟩ = some (.int .i64 (Y (prevI n k))) ∧ wr.frozen? ⟨w3.heap.size,0,none⟩ = false ∧ wr.frozen? ⟨w3.heap.size,1,none⟩ = false) (fun _ i _ => n - (intOf i).toNat)
 case atStart => exact ⟨0,by omega,rfl,rfl,by (repeat (first|exact Qr _ _|assumption|refine Qd ?_|refine Qa ?_ _|refine Qt ?_|refine Qs ?_ _|refine Qo ?_ ?_ _ _)),by simp [go_sem,prevI],by simp [go_sem,prevI],by simp [go_sem],by simp [go_sem]⟩
 case round =>
  obtain ⟨k,hk,rfl,rfl,hB,f0,f1,z0,z1⟩ := hrel
  by_cases hlt : k < n
  ·obtain ⟨hx,hy⟩ := (HQ3.out.below hB hbl3) k hlt
   simp only [Nat.zero_add] at hx hy
   have hFl : w3.heap.size < wr.heap.size := World.block_lt_of_cell? _ _ f0
   have HK1 : Hid (okP (X (prevI n k)) (Y (prevI n k)) = true) := HO.out _ (by unfold prevI; split <;> omega)
   have HK2 : Hid (okP (X k) (Y k) = true) := HO.out k hlt
   have hodd : Hid (oddTo (sideTo px py n X Y) (k + 1) = if sideTo px py n X Y k = true then !(oddTo (sideTo px py n X Y) k) else oddTo (sideTo px py n X Y) k) := rfl
   have HS : Hid (sideTo px py n X Y k = sideB px py (X (prevI n k)) (Y (prevI n k)) (X k) (Y k)) := rfl
   have hprev : prevI n (k + 1) = k := by simp [prevI]
   have HV : Hid (prevI n (k + 1) = k) := hprev
   clear hprev
   have hi : (k : Int) < (n : Int) := by omega
   generalize hXp : X (prevI n k) = xp at *
   generalize hYp : Y (prevI n k) = yp at *
   clear hXp hYp
   have F0 : Hid (wr.cell? ⟨w3.heap.size,0,none⟩ = some (.int .i64 xp)) := f0
   have F1 : Hid (wr.cell? ⟨w3.heap.size,1,none⟩ = some (.int .i64 yp)) := f1
   have Z0 : Hid (wr.frozen? ⟨w3.heap.size,0,none⟩ = false) := z0
   have Z1 : Hid (wr.frozen? ⟨w3.heap.size,1,none⟩ = false) := z1
   have HB : Hid (Below w3.heap.size w3 wr) := hB
   clear f0 f1 z0 z1 hB
   go_wp2_with fail
   refine (pairOf_any _ _ _).mono ?_
   rintro e w4 ⟨rfl,hb4⟩
   have hB4 : Below wr.heap.size wr w4 := by exact Qb
   clear hb4 hx hy
   go_wp2
   generalize hV : (w4.alloc _ : World) = V
   have hBV : Below wr.heap.size wr V := by subst hV; exact Qb
   have t0 : ∀ W',Below V.heap.size V W' → W'.cell? ⟨w4.heap.size,0,none⟩ = some (.int .i64 (X k)) := fun W' h => by
    rw [h.cell (by subst hV; simp)]; subst hV; simp [go_sem]
   have t1 : ∀ W',Below V.heap.size V W' → W'.cell? ⟨w4.heap.size,1,none⟩ = some (.int .i64 (Y k)) := fun W' h => by
    rw [h.cell (by subst hV; simp)]; subst hV; simp [go_sem]
   have f0 : ∀ W',Below V.heap.size V W' → W'.cell? ⟨w3.heap.size,0,none⟩ = some (.int .i64 xp) := fun W' h => ((bl_then hBV h).cell (p := ⟨w3.heap.size,0,none⟩) hFl).trans F0.out
   have f1 : ∀ W',Below V.heap.size V W' → W'.cell? ⟨w3.heap.size,1,none⟩ = some (.int .i64 yp) := fun W' h => ((bl_then hBV h).cell (p := ⟨w3.heap.size,1,none⟩) hFl).trans F1.out
   have z0 : ∀ W',Below V.heap.size V W' → W'.frozen? ⟨w3.heap.size,0,none⟩ = false := fun W' h => ((bl_then hBV h).frozen (p := ⟨w3.heap.size,0,none⟩) hFl).trans Z0.out
   have z1 : ∀ W',Below V.heap.size V W' → W'.frozen? ⟨w3.heap.size,1,none⟩ = false := fun W' h => ((bl_then hBV h).frozen (p := ⟨w3.heap.size,1,none⟩) hFl).trans Z1.out
   have hBV3 : Below w3.heap.size w3 V := bl_then HB.out hBV
   replace c00 := fun W' (h : Below V.heap.size V W') => c00 W' (bl_then hBV3 h)
   replace c01 := fun W' (h : Below V.heap.size V W') => c01 W' (bl_then hBV3 h)
   have HBV3 : Hid (Below w3.heap.size w3 V) := hBV3
   clear hV hBV hBV3 hB4
   cases hsv : sideB px py xp yp (X k) (Y k)
   all_goals
    go_region_held3 (fun W' => Below V.heap.size V W') ((repeat (first|exact Qr _ _|assumption|refine Qd ?_|refine Qa ?_ _|refine Qt ?_|refine Qs ?_ _|refine Qo ?_ ?_ _ _)))
     (first
      | (go_at_call 272; refine (pairOf_any _ _ _).mono ?_; rintro e w' ⟨rfl,hb⟩)
      | (go_at_call 273; refine (isCrossed_any _ _ _ _ _ _ _ HP.out HK1.out HK2.out).mono ?_; rintro e w' ⟨rfl,hb⟩))
    rename_i hfin
    go_wp2
    go_roundw
    case rel =>
     refine ⟨k + 1,by omega,by go_num,congrArg Value.bool (by rw [hodd.out,HS.out,hsv]; rfl),?_,?_,?_,?_,?_⟩
     ·have hG := bl_then HBV3.out hfin
      exact (hG.setCell (Nat.le_refl _) _).setCell (Nat.le_refl _) _
     ·rw [HV.out]
      exact set2_0 (Option.isSome_iff_exists.2 ⟨_,f0 _ hfin⟩)
     ·rw [HV.out]
      exact set2_1 (Option.isSome_iff_exists.2 ⟨_,f1 _ hfin⟩)
     ·simp [World.frozen?_setCell,z0 _ hfin]
     ·simp [World.frozen?_setCell,z1 _ hfin]
    case measure => simp [intOf]; omega
  ·go_wp2
   go_ret
   have hkn : k = n := by omega
   subst hkn
   exact ⟨ret_bool HE.out.symm,bl_then HB3.out hB⟩
theorem impl_IsInside_any (px py : Int) (b n cap : Nat) (X Y : Nat → Int) (w : World) (hpt : PtsAt w b 0 n X Y) (hbl : b < w.heap.size) (hcap : n ≤ cap) (hmax : n ≤ 1048576) :
  Calls Tryz.prog 262 #[.agg #[.int .i64 px, .int .i64 py], .slice (some ⟨b,0,none⟩) n cap] w fun e w' => e = .returned (.bool (insideB px py n X Y)) ∧ Below w.heap.size w w' := by
 by_cases h3 : n < 3
 ·exact impl_IsInside_few _ _ _ _ _ _ _ _ h3
 by_cases h40 : 40 < n
 ·exact impl_IsInside_many _ _ _ _ _ _ _ _ h40 hmax
 cases hp : okP px py
 ·exact impl_IsInside_p _ _ _ _ _ _ _ _ hp (by omega) (by omega)
 cases ha : allOk n X Y
 ·exact impl_IsInside_bad _ _ _ _ _ _ _ _ hp hpt hbl hcap (by omega) (by omega) ha
 ·exact impl_IsInside_ring _ _ _ _ _ _ _ _ hp hpt hbl hcap (by omega) (by omega) ha

theorem There.grown {w w' : World} {p n s : Nat} (h : There w p n) (hg : w.grownBy w' (some s)) (hs : p ≠ s) : There w' p n := fun o hn => by
 obtain ⟨v,hv⟩ := (h o hn).1
 refine ⟨⟨v,gr_cell hg hv hs⟩,?_⟩
 have he := hg.block p (World.block_lt_of_cell? _ _ hv) (fun e => hs (by injection e))
 have hz := (h o hn).2
 unfold World.frozen? at hz ⊢
 simp only [he]
 exact hz

theorem eqCamera_any (z x y wd ht : Int) (w : World) : Calls Tryz.prog 41 #[camV z x y wd ht,camV z x y wd ht] w fun e w' => e = .returned (.bool true) ∧ Below w.heap.size w w' := by
 go_enter Tryz.func41,Tryz.ntmps41
 go_wp2
 go_ret
 exact ⟨rfl,by (repeat (first|exact Qr _ _|assumption|refine Qd ?_|refine Qa ?_ _|refine Qt ?_|refine Qs ?_ _|refine Qo ?_ ?_ _ _))⟩

def CamAt (w : World) (b : Nat) (z x y wd ht : Int) : Prop := w.cell? ⟨b,0,none⟩ = some (.int .i64 z) ∧ w.cell? ⟨b,1,none⟩ = some (.int .i64 x) ∧ w.cell? ⟨b,2,none⟩ = some (.int .i64 y) ∧ w.cell? ⟨b,3,none⟩ = some (.int .i64 wd) ∧ w.cell? ⟨b,4,none⟩ = some (.int .i64 ht)
theorem l1In_q (v lo hi : Int) (w : World) : Calls Tryz.prog 30 #[.int .i64 v, .int .i64 lo, .int .i64 hi] w fun e w' => e = .returned (.bool (inB v lo hi)) ∧ ∃ n,w' = w.drewN n :=
 (l1In_any v lo hi w).mono fun e w' ⟨h1,h2⟩ => ⟨h1,0,h2⟩
theorem l9Fault_any (b : Nat) (z x y wd ht : Int) (w : World) (h : CamAt w b z x y wd ht) : Calls Tryz.prog 49 #[.pointer (some ⟨b,0,none⟩)] w fun e w' => e = .returned (.int .i64 (camC z x y wd ht)) ∧ Below w.heap.size w w' := by
 obtain ⟨e0,e1,e2,e3,e4⟩ := h
 have hk : Hid (camC z x y wd ht = if camB z x y wd ht = true then 0 else 3) := rfl
 have hb : Hid (camB z x y wd ht = ((zoomB z && (inB wd 1 8 && inB ht 1 8)) && (inB x 0 (pixI z - wd) && inB y 0 (pixI z - ht)))) := rfl
 cases h1 : zoomB z <;> cases h2 : inB wd 1 8 <;> cases h3 : inB ht 1 8
 case true.true.true =>
  rw [h1,h2,h3] at hb
  have sN := fun w => l4Count_any z w h1
  have hn := pixI_bd h1
  have hw : 1 ≤ wd ∧ wd ≤ 8 := by simpa [inB] using h2
  have hh : 1 ≤ ht ∧ ht ≤ 8 := by simpa [inB] using h3
  generalize pixI z = u at *
  cases h4 : inB x 0 (u - wd) <;> cases h5 : inB y 0 (u - ht)
  all_goals
   rw [h4,h5] at hb
   rw [hb.out] at hk
   go_enter Tryz.func49,Tryz.ntmps49
   go_wp2_with (first
    | (go_at_call 86; refine (l3Zoom_any _ _).mono ?_; rintro e w1 ⟨rfl,rfl⟩)
    | (go_at_call 87; refine (sN _).mono ?_; rintro e w1 ⟨rfl,rfl⟩)
    | (go_at_call 30; refine (l1In_any _ _ _ _).mono ?_; rintro e w1 ⟨rfl,rfl⟩))
   go_quiet (first | (go_at_call 30; exact Calls.quiet_of (l1In_q _ _ _ _)))
   go_wp2
   go_ret
   exact ⟨ret_int (by rw [hk.out]; rfl),below_drewN (Below.refl _ _) _⟩
 all_goals
  rw [h1,h2,h3] at hb
  rw [hb.out] at hk
  go_enter Tryz.func49,Tryz.ntmps49
  go_wp2_with (first
   | (go_at_call 86; refine (l3Zoom_any _ _).mono ?_; rintro e w1 ⟨rfl,rfl⟩)
   | (go_at_call 30; refine (l1In_any _ _ _ _).mono ?_; rintro e w1 ⟨rfl,rfl⟩))
  go_ret
  exact ⟨ret_int (by rw [hk.out]; rfl),by (repeat (first|exact Qr _ _|assumption|refine Qd ?_|refine Qa ?_ _|refine Qt ?_|refine Qs ?_ _|refine Qo ?_ ?_ _ _))⟩
end Go.Proofs.YtiephlohemphjaaGreat
