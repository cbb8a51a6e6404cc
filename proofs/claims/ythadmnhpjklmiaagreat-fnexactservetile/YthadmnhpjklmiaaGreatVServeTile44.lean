/- Features told as bytes, with a sum at their end: the program's way. -/
import Derived.Test.YthadmnhpjklmiaaGreatVServeTile42
import Derived.Test.YthadmnhpjklmiaaGreatVServeTile43
import Derived.Test.YthadmnhpjklmiaaGreatVServeTile10
namespace Go.Proofs.YthadmnhpjklmiaaGreat
open Go.RowKit
set_option linter.unusedSimpArgs false
set_option linter.unusedVariables false
set_option maxRecDepth 100000

/-- The bytes of a feature, of the first features, of a list; with its sum. -/
def fL (f : Feat) : List Int := featL f.id.toNat f.la.toNat f.ki.toNat f.wi.toNat f.pr.toNat f.lab f.n f.X f.Y
def catL (G : Nat → Feat) : Nat → List Int
  | 0 => []
  | k + 1 => catL G k ++ fL (G k)
def datL (n : Nat) (G : Nat → Feat) : List Int := putI n ++ catL G n
def sumL (l : List Int) : Nat := (sumZ (zz l) l.length).toNat
def endL (l : List Int) : List Int := l ++ [((sumL l / 256 : Nat) : Int), ((sumL l % 256 : Nat) : Int)]
/-- No fault. -/
def Okf (f : Feat) : Prop := featC f.id f.la f.ki f.wi f.n f.X f.Y f.lab f.pr = 0
noncomputable def plC (n : Nat) (G : Nat → Feat) : Int := if featsC n G = 0 then (if ordS n G = true then (if 900 < (datL n G).length + 2 then 2 else 0) else 1) else featsC n G
noncomputable def plL (n : Nat) (G : Nat → Feat) : List Int := if plC n G = 0 then endL (datL n G) else []
def Byt (l : List Int) : Prop := ∀ x ∈ l, 0 ≤ x ∧ x ≤ 255
theorem Byt.app {l m : List Int} (h : Byt l) (k : Byt m) : Byt (l ++ m) := fun x hx => (List.mem_append.1 hx).elim (h x) (k x)
theorem putI_byt (n : Nat) : Byt (putI n) := by
  induction n using Nat.strongRecOn with
  | ind n ih =>
    by_cases h : n < 128
    · rw [putI_small h]; intro x hx; simp at hx; omega
    · rw [putI_big h]
      intro x hx
      rcases List.mem_cons.1 hx with rfl | hx
      · omega
      · exact ih (n / 128) (by omega) x hx
theorem hd_byt (N : List Nat) : Byt (hd N) := fun x hx => by
  unfold hd at hx
  obtain ⟨y, _, hy⟩ := List.mem_flatMap.1 hx
  exact putI_byt y x hy
theorem labL_byt (s : ByteArray) : Byt (labL s) := fun x hx => by
  unfold labL at hx
  obtain ⟨y, _, rfl⟩ := List.mem_map.1 hx
  have := y.toNat_lt
  omega
theorem ptsL_byt (X Y : Nat → Int) : ∀ k, Byt (ptsL X Y k)
  | 0 => fun x hx => by simp [ptsL] at hx
  | k + 1 => (ptsL_byt X Y k).app ((putI_byt _).app (putI_byt _))
theorem fL_byt (f : Feat) : Byt (fL f) := (hd_byt _).app ((labL_byt _).app ((putI_byt _).app (ptsL_byt _ _ _)))
theorem catL_byt (G : Nat → Feat) : ∀ k, Byt (catL G k)
  | 0 => fun x hx => by simp [catL] at hx
  | k + 1 => (catL_byt G k).app (fL_byt _)
theorem datL_byt (n : Nat) (G : Nat → Feat) : Byt (datL n G) := (putI_byt _).app (catL_byt _ _)
theorem zz_byt {l : List Int} (h : Byt l) (i : Nat) : 0 ≤ zz l i ∧ zz l i ≤ 255 := by
  unfold zz
  rw [List.getD_eq_getElem?_getD]
  cases hx : l[i]? with
  | none => simp
  | some x => exact h x (List.mem_of_getElem? hx)
theorem fL_len {f : Feat} (h : Okf f) : (fL f).length ≤ 100 := by
  obtain ⟨i, l, k, v, p, e1, e2, e3, e4, e5, g1, g2, g3, g4, g5, gn, gn', hin, hs⟩ := feat_ok h
  exact featL_len gn' hin hs (by omega) (by omega) (by omega) (by omega) (by omega)
theorem catL_len {n : Nat} {G : Nat → Feat} (h : ∀ i, i < n → Okf (G i)) : ∀ k, k ≤ n → (catL G k).length ≤ 100 * k
  | 0, _ => by simp [catL]
  | k + 1, hk => by
    have h1 := catL_len h k (by omega)
    have h2 := fL_len (h k (by omega))
    simp [catL]
    omega
theorem datL_len {n : Nat} {G : Nat → Feat} (h : ∀ i, i < n → Okf (G i)) (hn : n ≤ 12) : (datL n G).length ≤ 1202 := by
  have h1 := catL_len h n (Nat.le_refl _)
  have h2 := putI_len2 n (by omega)
  simp [datL]
  omega
theorem sumL_lt (l : List Int) : sumL l < 65521 := by have := sumZ_bd (zz l) l.length; unfold sumL; omega
theorem sumL_eq (l : List Int) : sumZ (zz l) l.length = (sumL l : Int) := by have := sumZ_bd (zz l) l.length; unfold sumL; omega

theorem putFeature_f (base : Nat) (v : Value) (l : List Int) (f : Feat) (b off : Nat) (w : World) (hf : Okf f) (ha : f.a = some ⟨b, off, none⟩) (hO : RowB base w v l) (hbase : base ≤ w.heap.size) (hp : PtsAt w b off f.n f.X f.Y) (hbl : b < base) (hl : l.length ≤ 1800) :
    Calls Tryz.prog 68 #[v, .agg #[.int .i64 f.id, .int .i64 f.la, .int .i64 f.ki, .int .i64 f.wi, .slice f.a f.n f.cap, .string f.lab, .int .i64 f.pr]] w fun e w' => ∃ v', e = .returned v' ∧ RowB base w' v' (l ++ fL f) ∧ Below base w w' ∧ NB w w' := by
  obtain ⟨i, la, k, u, p, e1, e2, e3, e4, e5, g1, g2, g3, g4, g5, gn, gn', hin, hs⟩ := feat_ok hf
  have h := putFeature_any base v l i la k u p f.lab b off f.n f.cap f.X f.Y w hO hbase hp hbl gn' hin hs g1 g2 g3 g4 g5 hl
  unfold fL
  rw [e1, e2, e3, e4, e5, ha]
  simpa using h
set_option maxHeartbeats 8000000 in
theorem impl_PackList_any (b n cap : Nat) (G : Nat → Feat) (w : World) (hg : FsAt w b 0 n G) (hbl : b < w.heap.size) (hs : SmallFs n G) (hcap : n ≤ cap) :
    Calls Tryz.prog 37 #[.slice (some ⟨b, 0, none⟩) n cap] w fun e w' => ∃ v, e = .returned (.agg #[.int .i64 (plC n G), v]) ∧ RowB w.heap.size w' v (plL n G) ∧ Below w.heap.size w w' := by
  have HG : Hid (FsAt w b 0 n G) := hg
  have HS : Hid (SmallFs n G) := hs
  have hn := hs.1
  clear hg hs
  go_enter Tryz.func37, Tryz.ntmps37
  go_wp2_with fail
  generalize hW : (w.alloc _ : World) = W
  have hB0 : Below w.heap.size w W := by subst hW; (repeat (first | exact Below.refl _ _ | assumption | refine Below.drew ?_ | refine bl_alloc ?_ _ | refine bl_then ?_ (by assumption) | refine Below.setCell ?_ (by first | omega | (simp; done) | (simp; omega)) _ | refine bl_store ?_ ?_ _ _))
  have t0 : There W w.heap.size 2 := fun o ho => by
    subst hW
    match o, ho with
    | 0, _ => exact ⟨⟨_, by simp [go_sem]; rfl⟩, by simp [go_sem]⟩
    | 1, _ => exact ⟨⟨_, by simp [go_sem]; rfl⟩, by simp [go_sem]⟩
  have hlt : w.heap.size < W.heap.size := by subst hW; simp
  have HT : Hid (There W w.heap.size 2) := t0
  clear hW t0
  refine (FeaturesFault_any b n cap G W (HG.out.below hB0 hbl) (by omega) HS.out hcap).mono ?_
  rintro e w1 ⟨rfl, hb1⟩
  have HT1 : Hid (There w1 w.heap.size 2) := HT.out.below hb1
  have HB1 : Hid (Below w.heap.size w w1) := bl_then hB0 hb1
  have hlt1 : w.heap.size < w1.heap.size := by have := hb1.size; omega
  obtain ⟨r, hr⟩ : ∃ r, w.heap.size = r := ⟨_, rfl⟩
  have hwr : w.heap.size ≤ r := by omega
  rw [hr] at HT1 hlt1
  try rw [hr]
  clear HT hB0 hb1 hlt
  have HEND : Hid (∀ (c : Int) (Wq : World), There Wq r 2 → Below w.heap.size w Wq → plC n G = c → plL n G = [] → r < Wq.heap.size → ∃ v, (Ending.returned (.agg #[.int .i64 c, .slice none 0 0]) : Ending) = .returned (.agg #[.int .i64 (plC n G), v]) ∧ RowB w.heap.size ((Wq.setCell ⟨r, 0, none⟩ (.int .i64 c)).setCell ⟨r, 1, none⟩ (.slice none 0 0)) v (plL n G) ∧ Below w.heap.size w ((Wq.setCell ⟨r, 0, none⟩ (.int .i64 c)).setCell ⟨r, 1, none⟩ (.slice none 0 0))) := by
    intro c Wq _ hB hc hl _
    exact ⟨_, by rw [hc], by rw [hl]; exact RowB.no _ _, (hB.setCell (p := ⟨r, 0, none⟩) hwr _).setCell (p := ⟨r, 1, none⟩) hwr _⟩
  by_cases h0 : featsC n G = 0
  · obtain ⟨hn12, hap, hok⟩ := featsC_ok h0
    have HOK : Hid (∀ i, i < n → Okf (G i)) := hok
    have HAP : Hid (apartK (fun i => (G i).id) n) := hap
    have HC0 : Hid (featsC n G = 0) := h0
    rw [h0]
    clear h0 hap hok
    go_wp2_with fail
    refine (areInOrder_any b n cap G w1 (HG.out.below HB1.out hbl) (by omega) hn).mono ?_
    rintro e w2 ⟨rfl, hb2⟩
    rw [ord_same HAP.out]
    have HT2 : Hid (There w2 r 2) := HT1.out.below hb2
    have HB2 : Hid (Below w.heap.size w w2) := bl_then HB1.out hb2
    have hlt2 : r < w2.heap.size := by have := hb2.size; omega
    clear HT1 HB1 hb2 hlt1
    cases ho : ordS n G with
    | false =>
      have hc : plC n G = 1 := by simp [plC, HC0.out, ho]
      have hl : plL n G = [] := by simp [plL, hc]
      obtain ⟨v, q1, q2, q3⟩ := HEND.out 1 w2 HT2.out HB2.out hc hl hlt2
      have x0 := HT2.out.cell 0 (by omega)
      have x1 := HT2.out.cell 1 (by omega)
      have f0 := (HT2.out 0 (by omega)).2
      have f1 := (HT2.out 1 (by omega)).2
      have HQ := (show Hid (_ ∧ _ ∧ _) from ⟨q1, q2, q3⟩)
      clear q1 q2 q3 hc hl ho HEND
      go_wp2
      have s0 : ((w2.setCell ⟨r, 0, none⟩ (.int .i64 1)).setCell ⟨r, 1, none⟩ (.slice none 0 0)).cell? ⟨r, 0, none⟩ = some (.int .i64 1) := set2_0 (by rw [x0]; rfl)
      have s1 : ((w2.setCell ⟨r, 0, none⟩ (.int .i64 1)).setCell ⟨r, 1, none⟩ (.slice none 0 0)).cell? ⟨r, 1, none⟩ = some (.slice none 0 0) := set2_1 (by rw [x1]; rfl)
      have hq := HQ.out
      first
        | exact bodyPost_ret (v := .agg #[.int .i64 1, .slice none 0 0]) (by simp [results, Tryz.results37, go_sem, s0, s1]) rfl ⟨v, hq⟩
        | (rw [hr] at hq; exact bodyPost_ret (v := .agg #[.int .i64 1, .slice none 0 0]) (by simp [results, Tryz.results37, go_sem, s0, s1]) rfl ⟨v, hq⟩)
    | true =>
      have HO : Hid (ordS n G = true) := ho
      clear ho
      have e1 : IntKind.u64.wrap (n : Int) = (n : Int) := by rw [IntKind.wrap_u64]; omega
      have HPC : Hid (plC n G = if 900 < (datL n G).length + 2 then 2 else 0) := by show _ = _; simp [plC, HC0.out, HO.out]
      obtain ⟨i0, hi, hz0, hz1, hz2⟩ := info_parts info_u8
      have l7 := putI_len2 n (by omega)
      have hw2 := HB2.out.size
      go_wp2_with fail
      refine (putNumber_nb w2.heap.size (.slice none 0 0) [] n w2 (RowB.no _ _) (Nat.le_refl _) (by omega) (by simp)).mono ?_
      rintro e w3 ⟨v3, rfl, hO3, hB3, hN3⟩
      have HO3 : Hid (RowB w2.heap.size w3 v3 (putI n)) := by show RowB _ _ _ _; simpa using hO3
      have HB3 : Hid (Below w2.heap.size w2 w3) := hB3
      clear hO3 hB3 hN3
      go_wp2_with fail
      go_loopw [4, 24] (fun u i wr => ∃ k : Nat, k ≤ n ∧ i = .int .i64 (k : Int) ∧ RowB w2.heap.size wr u (putI n ++ catL G k) ∧ Below w2.heap.size w2 wr) (fun _ i _ => n - (intOf i).toNat)
      case atStart => exact ⟨0, by omega, rfl, by simpa [catL] using HO3.out, HB3.out⟩
      case round =>
        obtain ⟨k, hk, rfl, hO, hB⟩ := hrel
        have HOr : Hid (RowB w2.heap.size wr u4 (putI n ++ catL G k)) := hO
        have HBr : Hid (Below w2.heap.size w2 wr) := hB
        have hbr : w2.heap.size ≤ wr.heap.size := hB.size
        have HBw : Hid (Below w.heap.size w wr) := HB2.out.trans (hB.mono HB2.out.size)
        clear hO hB HO3 HB3
        by_cases hlt : k < n
        · obtain ⟨⟨a0, a1, a2, a3, a4, a5, a6⟩, _⟩ := (HG.out.below HBw.out hbl) k hlt
          simp only [Nat.zero_add] at a0 a1 a2 a3 a4 a5 a6
          obtain ⟨b', off, ha, hb', hpt⟩ : ∃ b' off, (G k).a = some ⟨b', off, none⟩ ∧ b' < w.heap.size ∧ PtsAt w b' off (G k).n (G k).X (G k).Y := by
            obtain ⟨_, _, _, _, _, _, _, _, _, _, _, _, _, _, _, gn, _⟩ := feat_ok (HOK.out k hlt)
            rcases (HG.out k hlt).2 with h | ⟨b', off, e, hl, hp⟩
            · omega
            · exact ⟨b', off, e, hl, hp⟩
          have HPT : Hid (PtsAt w b' off (G k).n (G k).X (G k).Y) := hpt
          have HA : Hid ((G k).a = some ⟨b', off, none⟩) := ha
          have hcl := catL_len HOK.out k (by omega)
          have hbw : b < wr.heap.size := by omega
          have hi' : (k : Int) < (n : Int) := by omega
          clear hpt ha
          go_wp2_with fail
          generalize hV : (wr.alloc _ : World) = V
          have hbV : Below wr.heap.size wr V := by subst hV; (repeat (first | exact Below.refl _ _ | assumption | refine Below.drew ?_ | refine bl_alloc ?_ _ | refine bl_then ?_ (by assumption) | refine Below.setCell ?_ (by first | omega | (simp; done) | (simp; omega)) _ | refine bl_store ?_ ?_ _ _))
          clear hV
          refine (putFeature_f w2.heap.size u4 _ (G k) b' off V (HOK.out k hlt) HA.out (HOr.out.below hbV) (by have := hbV.size; omega) (HPT.out.below (bl_then HBw.out hbV) hb') (by omega) (by simp; omega)).mono ?_
          rintro e w5 ⟨v5, rfl, hO5, hB5, hN5⟩
          have HO5 : Hid (RowB w2.heap.size w5 v5 (putI n ++ catL G (k + 1))) := by show RowB _ _ _ _; simpa [catL] using hO5
          have HB5 : Hid (Below w2.heap.size w2 w5) := (HBr.out.trans (hbV.mono hbr)).trans hB5
          clear hO5 hB5 hN5 hbV HOr HBr HBw a0 a1 a2 a3 a4 a5 a6
          go_wp2
          go_roundw
          case rel => exact ⟨k + 1, by omega, by first | rfl | go_num | (simp; done) | omega, HO5.out, HB5.out⟩
          case measure => simp [intOf]; omega
        · have hkn : k = n := by omega
          subst hkn
          have hi' : ¬ (k : Int) < (k : Int) := by omega
          obtain ⟨L, hL⟩ : ∃ L, datL k G = L := ⟨_, rfl⟩
          have HOL : Hid (RowB w2.heap.size wr u4 L) := by show RowB _ _ _ _; rw [← hL]; exact HOr.out
          have hlen : L.length ≤ 1202 := by rw [← hL]; exact datL_len HOK.out hn12
          have HBY : Hid (∀ i, 0 ≤ zz L i ∧ zz L i ≤ 255) := by show ∀ i, _; rw [← hL]; exact zz_byt (datL_byt k G)
          have hpos : 0 < L.length := by rw [← hL]; have := putI_ne k; simp [datL]; omega
          rw [hL] at HPC
          have HPL : Hid (plC k G = 0 → plL k G = endL L) := by intro h; simp [plL, h, hL]
          have HPN : Hid (plC k G ≠ 0 → plL k G = []) := by intro h; simp [plL, h]
          clear hL HOr
          obtain ⟨g, c, rfl, hg1, hg2, hgc, hbs⟩ := HOL.out.at hpos
          have HBS : Hid (BsAt wr g 0 L.length (zz L)) := hbs
          have HTr : Hid (There wr r 2) := HT2.out.belowB' HBr.out hlt2
          have hltr : r < wr.heap.size := by omega
          clear hbs
          by_cases hbig : 900 < L.length + 2
          · have hpc : plC k G = 2 := by rw [HPC.out, if_pos hbig]
            have hpl : plL k G = [] := HPN.out (by rw [hpc]; decide)
            have e9 : (900 : Int) < (L.length : Int) + 2 := by omega
            obtain ⟨v, q1, q2, q3⟩ := HEND.out 2 wr HTr.out HBw.out hpc hpl hltr
            have x0 := HTr.out.cell 0 (by omega)
            have x1 := HTr.out.cell 1 (by omega)
            have f0 := (HTr.out 0 (by omega)).2
            have f1 := (HTr.out 1 (by omega)).2
            have HQ := (show Hid (_ ∧ _ ∧ _) from ⟨q1, q2, q3⟩)
            clear q1 q2 q3 hpc hpl HEND
            go_wp2
            have s0 : ((wr.setCell ⟨r, 0, none⟩ (.int .i64 2)).setCell ⟨r, 1, none⟩ (.slice none 0 0)).cell? ⟨r, 0, none⟩ = some (.int .i64 2) := set2_0 (by rw [x0]; rfl)
            have s1 : ((wr.setCell ⟨r, 0, none⟩ (.int .i64 2)).setCell ⟨r, 1, none⟩ (.slice none 0 0)).cell? ⟨r, 1, none⟩ = some (.slice none 0 0) := set2_1 (by rw [x1]; rfl)
            have hq := HQ.out
            first
              | exact bodyPost_ret (v := .agg #[.int .i64 2, .slice none 0 0]) (by simp [results, Tryz.results37, go_sem, s0, s1]) rfl ⟨v, hq⟩
              | (rw [hr] at hq; exact bodyPost_ret (v := .agg #[.int .i64 2, .slice none 0 0]) (by simp [results, Tryz.results37, go_sem, s0, s1]) rfl ⟨v, hq⟩)
          · have HC : Hid (plC k G = 0) := by show _ = _; rw [HPC.out, if_neg hbig]
            have e9 : ¬ (900 : Int) < (L.length : Int) + 2 := by omega
            obtain ⟨t, ht⟩ : ∃ t, sumL L = t := ⟨_, rfl⟩
            have htl : t < 65521 := by rw [← ht]; exact sumL_lt L
            obtain ⟨q, hq⟩ : ∃ q, t / 256 = q := ⟨_, rfl⟩
            obtain ⟨m, hm⟩ : ∃ m, t % 256 = m := ⟨_, rfl⟩
            have HL : Hid (plL k G = L ++ [(q : Int), (m : Int)]) := by show _ = _; rw [HPL.out HC.out]; unfold endL; rw [ht, hq, hm]
            have HSM : Hid (sumZ (zz L) L.length = (t : Int)) := by show _ = _; rw [sumL_eq, ht]
            have e6 : (t : Int).fdiv (2 ^ min (Int.toNat 8) IntKind.u64.bits) = (q : Int) := by
              rw [show (2 : Int) ^ min (Int.toNat 8) IntKind.u64.bits = 256 from rfl, Int.fdiv_eq_ediv_of_nonneg _ (by omega)]; omega
            have e5 : (t : Int) / 256 = (q : Int) := by omega
            have e7 : IntKind.u8.wrap (q : Int) = (q : Int) := by rw [IntKind.wrap_u8]; omega
            have e8 : IntKind.u8.wrap (t : Int) = (m : Int) := by rw [IntKind.wrap_u8]; omega
            clear ht hq hm HEND HPL HPN HPC
            go_wp2_with fail
            refine (sumOf_any (some ⟨g, 0, none⟩) L.length c (zz L) wr (.inr ⟨g, 0, rfl, hg2, HBS.out⟩) HBY.out (by omega)).mono ?_
            rintro e w6 ⟨rfl, rfl⟩
            rw [HSM.out]
            go_wp2_with (first
              | (at_builtin; go_must (refine wpList_append_own _ rfl _ _ 40 rfl w2.heap.size 5 i0 (.int .u8 0) 1 1 Tryz.underlying40 hi hz0 hz1 hz2 rfl (by decide) _ L.length (cellsB L) rfl (HOL.out.alloc _) ⟨wr.heap.size, 0, none⟩ 2 2 [.int .u8 (q : Int), .int .u8 (m : Int)] rfl rfl ?d1 ?d2 ?d3 ?d4 ?d5 ?_)))
            case d1 =>
              intro j u hj
              match j, hj with
              | 0, hj => simp at hj; subst hj; simp [Addr.add, go_sem]
              | 1, hj => simp at hj; subst hj; simp [Addr.add, go_sem]
              | j + 2, hj => simp at hj
            case d2 => intro u hu; simp at hu; rcases hu with rfl | rfl <;> rfl
            case d3 => unfold maxLen; omega
            case d4 => omega
            case d5 => first | (simp; omega) | omega
            intro v7 w7 hown hgrow hnil
            have hBa : Below wr.heap.size wr (wr.alloc (.cells #[.int .u8 (q : Int), .int .u8 (m : Int)] 5)) := (Below.refl _ _).alloc (Nat.le_refl _) _
            have hBg : Below w2.heap.size (wr.alloc (.cells #[.int .u8 (q : Int), .int .u8 (m : Int)] 5)) w7 := (Below.refl _ _).grown hgrow (by simp; omega) (fun k hk => (HOL.out.lt k hk).1)
            have hB7 : Below w2.heap.size w2 w7 := (HBr.out.trans (hBa.mono hbr)).trans hBg
            have hR7 : RowB w2.heap.size w7 v7 (L ++ [(q : Int), (m : Int)]) := by
              unfold RowB
              rw [cellsB_add]
              simpa [cellsB] using hown
            obtain ⟨g7, c7, rfl, _, _, _, _⟩ := hR7.at (by simp)
            have HR7 : Hid (RowB w2.heap.size w7 (.slice (some ⟨g7, 0, none⟩) (L ++ [(q : Int), (m : Int)]).length c7) (L ++ [(q : Int), (m : Int)])) := hR7
            generalize (L ++ [(q : Int), (m : Int)]).length = LL at *
            have HT7 : Hid (There w7 r 2) := HT2.out.belowB' hB7 hlt2
            have HB7 : Hid (Below w.heap.size w w7) := HB2.out.trans (hB7.mono HB2.out.size)
            have x0 := HT7.out.cell 0 (by omega)
            have x1 := HT7.out.cell 1 (by omega)
            have f0 := (HT7.out 0 (by omega)).2
            have f1 := (HT7.out 1 (by omega)).2
            clear hown hgrow hnil hBa hBg hB7 hR7 HOL HBr HBw HBS HTr
            go_wp2
            have s0 : ((w7.setCell ⟨r, 0, none⟩ (.int .i64 0)).setCell ⟨r, 1, none⟩ (.slice (some ⟨g7, 0, none⟩) LL c7)).cell? ⟨r, 0, none⟩ = some (.int .i64 0) := set2_0 (by rw [x0]; rfl)
            have s1 : ((w7.setCell ⟨r, 0, none⟩ (.int .i64 0)).setCell ⟨r, 1, none⟩ (.slice (some ⟨g7, 0, none⟩) LL c7)).cell? ⟨r, 1, none⟩ = some (.slice (some ⟨g7, 0, none⟩) LL c7) := set2_1 (by rw [x1]; rfl)
            have hBf : Below w.heap.size w ((w7.setCell ⟨r, 0, none⟩ (.int .i64 0)).setCell ⟨r, 1, none⟩ (.slice (some ⟨g7, 0, none⟩) LL c7)) := (HB7.out.setCell (p := ⟨r, 0, none⟩) hwr _).setCell (p := ⟨r, 1, none⟩) hwr _
            have hRf : RowB w.heap.size ((w7.setCell ⟨r, 0, none⟩ (.int .i64 0)).setCell ⟨r, 1, none⟩ (.slice (some ⟨g7, 0, none⟩) LL c7)) (.slice (some ⟨g7, 0, none⟩) LL c7) (L ++ [(q : Int), (m : Int)]) := (RowB.other (RowB.other HR7.out hlt2) hlt2).wide (by omega)
            generalize ((w7.setCell ⟨r, 0, none⟩ (.int .i64 0)).setCell ⟨r, 1, none⟩ (.slice (some ⟨g7, 0, none⟩) LL c7)) = Wf at *
            first
              | exact bodyPost_ret (v := .agg #[.int .i64 0, .slice (some ⟨g7, 0, none⟩) LL c7]) (by simp [results, Tryz.results37, go_sem, s0, s1]) rfl ⟨_, by rw [HC.out], by rw [HL.out]; exact hRf, hBf⟩
              | (rw [hr] at hRf hBf; exact bodyPost_ret (v := .agg #[.int .i64 0, .slice (some ⟨g7, 0, none⟩) LL c7]) (by simp [results, Tryz.results37, go_sem, s0, s1]) rfl ⟨_, by rw [HC.out], by rw [HL.out]; exact hRf, hBf⟩)
  · obtain ⟨c, hc⟩ : ∃ c, featsC n G = c := ⟨_, rfl⟩
    rw [hc] at h0
    have hpc : plC n G = c := by simp [plC, hc, h0]
    have hpl : plL n G = [] := by simp [plL, hpc, h0]
    try rw [hc]
    clear hc
    have h0' : (c == 0) = false := by simpa using h0
    obtain ⟨v, q1, q2, q3⟩ := HEND.out c w1 HT1.out HB1.out hpc hpl hlt1
    have x0 := HT1.out.cell 0 (by omega)
    have x1 := HT1.out.cell 1 (by omega)
    have f0 := (HT1.out 0 (by omega)).2
    have f1 := (HT1.out 1 (by omega)).2
    have HQ := (show Hid (_ ∧ _ ∧ _) from ⟨q1, q2, q3⟩)
    clear q1 q2 q3 hpc hpl HEND
    go_wp2
    have s0 : ((w1.setCell ⟨r, 0, none⟩ (.int .i64 c)).setCell ⟨r, 1, none⟩ (.slice none 0 0)).cell? ⟨r, 0, none⟩ = some (.int .i64 c) := set2_0 (by rw [x0]; rfl)
    have s1 : ((w1.setCell ⟨r, 0, none⟩ (.int .i64 c)).setCell ⟨r, 1, none⟩ (.slice none 0 0)).cell? ⟨r, 1, none⟩ = some (.slice none 0 0) := set2_1 (by rw [x1]; rfl)
    have hq := HQ.out
    first
      | exact bodyPost_ret (v := .agg #[.int .i64 c, .slice none 0 0]) (by simp [results, Tryz.results37, go_sem, s0, s1]) rfl ⟨v, hq⟩
      | (rw [hr] at hq; exact bodyPost_ret (v := .agg #[.int .i64 c, .slice none 0 0]) (by simp [results, Tryz.results37, go_sem, s0, s1]) rfl ⟨v, hq⟩)
end Go.Proofs.YthadmnhpjklmiaaGreat
