/- Texts. -/
import Derived.Test.YtiephlohemphjaaGreatVTickViewer19
set_option linter.unusedSimpArgs false
set_option linter.unusedVariables false
set_option maxRecDepth 100000
set_option maxHeartbeats 32000000
namespace Go.Proofs.YtiephlohemphjaaGreat
open Go.RowKit
structure Feat where
 id : Int
 la : Int
 ki : Int
 wi : Int
 a : Option Addr
 n : Nat
 cap : Nat
 X : Nat → Int
 Y : Nat → Int
 lab : ByteArray
 pr : Int
def FsAt (w : World) (b off n : Nat) (F : Nat → Feat) : Prop :=
 ∀ i,i < n → FeatAt w b (off + i * 7) (F i).id (F i).la (F i).ki (F i).wi (.slice (F i).a (F i).n (F i).cap) (F i).lab (F i).pr ∧ IsPts w (F i).a (F i).n (F i).X (F i).Y
theorem FsAt.below {w w' : World} {b off n : Nat} {F : Nat → Feat} (h : FsAt w b off n F) (hb : Below w.heap.size w w') (hl : b < w.heap.size) : FsAt w' b off n F := fun i hi =>
 ⟨(h i hi).1.below hb hl,(h i hi).2.below hb⟩
def IsFs (w : World) (a : Option Addr) (n : Nat) (F : Nat → Feat) : Prop := n = 0 ∨ ∃ b off,a = some ⟨b,off,none⟩ ∧ b < w.heap.size ∧ FsAt w b off n F
theorem IsFs.below {w w' : World} {a : Option Addr} {n : Nat} {F : Nat → Feat} (h : IsFs w a n F) (hb : Below w.heap.size w w') : IsFs w' a n F := by
 rcases h with h | ⟨b,off,e,hl,hp⟩
 ·exact .inl h
 ·exact .inr ⟨b,off,e,Nat.lt_of_lt_of_le hl hb.size,hp.below hb hl⟩
def Feat.same (f g : Feat) : Prop := f.id = g.id ∧ f.la = g.la ∧ f.ki = g.ki ∧ f.wi = g.wi ∧ f.n = g.n ∧ f.X = g.X ∧ f.Y = g.Y ∧ f.lab = g.lab ∧ f.pr = g.pr
def OwnFs (w : World) (B b n : Nat) (F G : Nat → Feat) : Prop :=
 B ≤ b ∧ b < w.heap.size ∧ FsAt w b 0 n G ∧ ∀ i,i < n → (G i).same (F i) ∧ ∃ q,(G i).a = some ⟨q,0,none⟩ ∧ (G i).cap = (G i).n ∧ q ≠ b ∧ B ≤ q ∧ q < w.heap.size ∧ PtsAt w q 0 (G i).n (G i).X (G i).Y
theorem OwnFs.below {w w' : World} {B b n : Nat} {F G : Nat → Feat} (h : OwnFs w B b n F G) (hb : Below w.heap.size w w') : OwnFs w' B b n F G := by
 obtain ⟨h1,h2,h3,h4⟩ := h
 refine ⟨h1,Nat.lt_of_lt_of_le h2 hb.size,h3.below hb h2,fun i hi => ?_⟩
 obtain ⟨e,q,e1,e2,e3,e4,e5,e6⟩ := h4 i hi
 exact ⟨e,q,e1,e2,e3,e4,Nat.lt_of_lt_of_le e5 hb.size,e6.below hb e5⟩
def lay7 (W : World) (B o : Nat) (f : Feat) : World := (((((((W.setCell ⟨B,o,none⟩ (.int .i64 f.id)).setCell ⟨B,o + 1,none⟩ (.int .i64 f.la)).setCell ⟨B,o + 2,none⟩ (.int .i64 f.ki)).setCell ⟨B,o + 3,none⟩ (.int .i64 f.wi)).setCell ⟨B,o + 4,none⟩ (.slice f.a f.n f.cap)).setCell ⟨B,o + 5,none⟩ (.string f.lab)).setCell ⟨B,o + 6,none⟩ (.int .i64 f.pr))
theorem lay7_other {W : World} {B o : Nat} {f : Feat} {p : Addr} (h : p.block ≠ B ∨ p.off < o ∨ o + 6 < p.off) : (lay7 W B o f).cell? p = W.cell? p := by
 have ne : ∀ k : Nat,k ≤ 6 → (⟨B,o + k,none⟩ : Addr) ≠ p := fun k hk e => by subst e; simp at h; omega
 have ne0 : (⟨B,o,none⟩ : Addr) ≠ p := ne 0 (by omega)
 unfold lay7
 rw [set1_other (ne 6 (by omega)),set1_other (ne 5 (by omega)),set1_other (ne 4 (by omega)),set1_other (ne 3 (by omega)),set1_other (ne 2 (by omega)),set1_other (ne 1 (by omega)),set1_other ne0]
theorem lay7_there {W : World} {B o m : Nat} {f : Feat} (h : There W B m) : There (lay7 W B o f) B m := by
 unfold lay7
 exact ((((((h.set _ _).set _ _).set _ _).set _ _).set _ _).set _ _).set _ _
theorem lay7_at {W : World} {B o m : Nat} {f : Feat} (h : There W B m) (ho : o + 6 < m) : FeatAt (lay7 W B o f) B o f.id f.la f.ki f.wi (.slice f.a f.n f.cap) f.lab f.pr := by
 have ne : ∀ i j : Nat,i ≠ j → (⟨B,i,none⟩ : Addr) ≠ ⟨B,j,none⟩ := fun i j hij h => hij (by injection h)
 obtain ⟨u0,g0⟩ := (h (o) (by omega)).1
 obtain ⟨u1,g1⟩ := ((h.set (o) (.int .i64 f.id)) (o + 1) (by omega)).1
 obtain ⟨u2,g2⟩ := (((h.set (o) (.int .i64 f.id)).set (o + 1) (.int .i64 f.la)) (o + 2) (by omega)).1
 obtain ⟨u3,g3⟩ := ((((h.set (o) (.int .i64 f.id)).set (o + 1) (.int .i64 f.la)).set (o + 2) (.int .i64 f.ki)) (o + 3) (by omega)).1
 obtain ⟨u4,g4⟩ := (((((h.set (o) (.int .i64 f.id)).set (o + 1) (.int .i64 f.la)).set (o + 2) (.int .i64 f.ki)).set (o + 3) (.int .i64 f.wi)) (o + 4) (by omega)).1
 obtain ⟨u5,g5⟩ := ((((((h.set (o) (.int .i64 f.id)).set (o + 1) (.int .i64 f.la)).set (o + 2) (.int .i64 f.ki)).set (o + 3) (.int .i64 f.wi)).set (o + 4) (.slice f.a f.n f.cap)) (o + 5) (by omega)).1
 obtain ⟨u6,g6⟩ := (((((((h.set (o) (.int .i64 f.id)).set (o + 1) (.int .i64 f.la)).set (o + 2) (.int .i64 f.ki)).set (o + 3) (.int .i64 f.wi)).set (o + 4) (.slice f.a f.n f.cap)).set (o + 5) (.string f.lab)) (o + 6) (by omega)).1
 unfold lay7
 refine ⟨?_,?_,?_,?_,?_,?_,?_⟩
 ·rw [set1_other (ne _ _ (by omega)),set1_other (ne _ _ (by omega)),set1_other (ne _ _ (by omega)),set1_other (ne _ _ (by omega)),set1_other (ne _ _ (by omega)),set1_other (ne _ _ (by omega))]; exact set1_same g0
 ·rw [set1_other (ne _ _ (by omega)),set1_other (ne _ _ (by omega)),set1_other (ne _ _ (by omega)),set1_other (ne _ _ (by omega)),set1_other (ne _ _ (by omega))]; exact set1_same g1
 ·rw [set1_other (ne _ _ (by omega)),set1_other (ne _ _ (by omega)),set1_other (ne _ _ (by omega)),set1_other (ne _ _ (by omega))]; exact set1_same g2
 ·rw [set1_other (ne _ _ (by omega)),set1_other (ne _ _ (by omega)),set1_other (ne _ _ (by omega))]; exact set1_same g3
 ·rw [set1_other (ne _ _ (by omega)),set1_other (ne _ _ (by omega))]; exact set1_same g4
 ·rw [set1_other (ne _ _ (by omega))]; exact set1_same g5
 ·exact set1_same g6
theorem lay7_size (W : World) (B o : Nat) (f : Feat) : (lay7 W B o f).heap.size = W.heap.size := by unfold lay7; simp
theorem lay7_below {V W : World} {n B o : Nat} {f : Feat} (h : Below n V W) (hB : n ≤ B) : Below n V (lay7 W B o f) := by
 unfold lay7
 exact ((((((h.setCell hB _).setCell hB _).setCell hB _).setCell hB _).setCell hB _).setCell hB _).setCell hB _
theorem PtsAt.lay {W : World} {b off n : Nat} {X Y : Nat → Int} (h : PtsAt W b off n X Y) {B o : Nat} {f : Feat} (hne : B ≠ b) : PtsAt (lay7 W B o f) b off n X Y := by
 unfold lay7
 exact ((((((h.store hne).store hne).store hne).store hne).store hne).store hne).store hne
theorem info_if : (Tryz.prog.info? 207).map (fun i => (i.zero,i.size,i.bytes)) = some (some (.agg #[.int .i64 0, .int .i64 0, .int .i64 0, .int .i64 0, .slice none 0 0, .string ⟨#[]⟩, .int .i64 0]),7,80) := by kernel_rfl
abbrev zeroF : Array Value := #[.int .i64 0, .int .i64 0, .int .i64 0, .int .i64 0, .slice none 0 0, .string ⟨#[]⟩, .int .i64 0]
theorem make_feats (n : Nat) (h : n ≤ 1048576) (w : World) :
  (Instr.makeSlice 145 (.int .i64 (n : Int)) (.int .i64 (n : Int))).run Tryz.prog w = .ok (.slice (some ⟨w.heap.size,0,none⟩) n n) (w.alloc (.cells (madeCells zeroF (n * 7)) 207)) := by
 obtain ⟨i,hi,hz,hs,hb⟩ := info_parts info_if
 have hr := run_make (P := Tryz.prog) w 145 207 i _ Tryz.underlying145 hi hz .i64 .i64 (n : Int) (n : Int) (by omega) (Int.le_refl _) (by rw [hb]; omega) (by omega)
 simp only [Int.toNat_natCast,hs] at hr
 exact hr
theorem there_madeF (n : Nat) (w : World) (t : TypeId) : There (w.alloc (.cells (madeCells zeroF n) t)) w.heap.size n := fun o ho => by
 have hz := size_madeCells zeroF n
 refine ⟨⟨(madeCells zeroF n)[o]'(by rw [hz]; exact ho),?_⟩,World.frozen?_alloc_at _ _ _ _ rfl⟩
 rw [World.cell?_alloc_at _ _ _ _ rfl]
 exact Array.getElem?_eq_getElem _
theorem own_lay {W : World} {B n k q : Nat} {F G : Nat → Feat} (h : OwnFs W B B k F G) (hT : There W B (n * 7)) (hk : k < n) (hqB : B ≤ q) (hq : q < W.heap.size) (hp : PtsAt W q 0 (F k).n (F k).X (F k).Y) (hne : q ≠ B) :
  OwnFs (lay7 W B (k * 7) { F k with a := some ⟨q,0,none⟩,cap := (F k).n }) B B (k + 1) F (fun i => if i = k then { F k with a := some ⟨q,0,none⟩,cap := (F k).n } else G i) := by
 obtain ⟨h1,h2,h3,h4⟩ := h
 refine ⟨h1,by rw [lay7_size]; exact h2,fun i hi => ?_,fun i hi => ?_⟩
 ·by_cases e : i = k
  ·subst e
   simp only [if_pos,Nat.zero_add]
   refine ⟨lay7_at hT (by omega), .inr ⟨q,0,rfl,by rw [lay7_size]; exact hq,hp.lay (fun h => hne h.symm)⟩⟩
  ·simp only [if_neg e]
   obtain ⟨c,ip⟩ := h3 i (by omega)
   obtain ⟨_,q',e1,e2,e3,e4,e5,e6⟩ := h4 i (by omega)
   refine ⟨?_,?_⟩
   ·obtain ⟨c0,c1,c2,c3,c4,c5,c6⟩ := c
    refine ⟨?_,?_,?_,?_,?_,?_,?_⟩ <;> (rw [lay7_other (by right; left; simp; omega)]; assumption)
   ·exact .inr ⟨q',0,e1,by rw [lay7_size]; exact e5,e6.lay (fun h => e3 h.symm)⟩
 ·by_cases e : i = k
  ·subst e
   simp only [if_pos]
   exact ⟨⟨rfl,rfl,rfl,rfl,rfl,rfl,rfl,rfl,rfl⟩,q,by first | rfl | trivial,by first | trivial | rfl,hne,hqB,by rw [lay7_size]; exact hq,hp.lay (fun h => hne h.symm)⟩
  ·simp only [if_neg e]
   obtain ⟨sm,q',e1,e2,e3,e4,e5,e6⟩ := h4 i (by omega)
   exact ⟨sm,q',e1,e2,e3,e4,by rw [lay7_size]; exact e5,e6.lay (fun h => e3 h.symm)⟩
theorem eqFeatureI_any (id la ki wi : Int) (a a' : Option Addr) (n cap cap' : Nat) (X Y : Nat → Int) (lab : ByteArray) (pr : Int) (w : World) (hp : IsPts w a n X Y) (hq : IsPts w a' n X Y) (hmax : n ≤ 1048576) :
  Calls Tryz.prog 224 #[.agg #[.int .i64 id, .int .i64 la, .int .i64 ki, .int .i64 wi, .slice a n cap, .string lab, .int .i64 pr], .agg #[.int .i64 id, .int .i64 la, .int .i64 ki, .int .i64 wi, .slice a' n cap', .string lab, .int .i64 pr]] w fun e w' => e = .returned (.bool true) ∧ Below w.heap.size w w' := by
 have HP : Hid (IsPts w a n X Y) := hp
 have HQ : Hid (IsPts w a' n X Y) := hq
 clear hp hq
 go_enter Tryz.func224,Tryz.ntmps224
 go_wp2_with fail
 generalize hW : ((w.alloc _).alloc _ : World) = W
 have hB0 : Below w.heap.size w W := by subst hW; exact Qb
 have hsz : W.heap.size = w.heap.size + 1 + 1 := by subst hW; simp
 have c5 : W.cell? ⟨w.heap.size,5,none⟩ = some (.string lab) := by subst hW; simp [go_sem]
 have c6 : W.cell? ⟨w.heap.size,6,none⟩ = some (.int .i64 pr) := by subst hW; simp [go_sem]
 have o5 : W.cell? ⟨w.heap.size + 1,5,none⟩ = some (.string lab) := by subst hW; simp [go_sem]
 have o6 : W.cell? ⟨w.heap.size + 1,6,none⟩ = some (.int .i64 pr) := by subst hW; simp [go_sem]
 clear hW
 refine (eqPts_any a a' n cap cap' X Y W (HP.out.below hB0) (HQ.out.below hB0) hmax).mono ?_
 rintro e w1 ⟨rfl,hb1⟩
 have d5 := (hb1.cell (p := ⟨w.heap.size,5,none⟩) (show w.heap.size < _ by omega)).trans c5
 have d6 := (hb1.cell (p := ⟨w.heap.size,6,none⟩) (show w.heap.size < _ by omega)).trans c6
 have e5 := (hb1.cell (p := ⟨w.heap.size + 1,5,none⟩) (show w.heap.size + 1 < _ by omega)).trans o5
 have e6 := (hb1.cell (p := ⟨w.heap.size + 1,6,none⟩) (show w.heap.size + 1 < _ by omega)).trans o6
 have HB1 : Hid (Below w.heap.size w w1) := bl_then hB0 hb1
 clear c5 c6 o5 o6 hb1 hB0 hsz
 go_wp2
 go_ret
 exact ⟨rfl,HB1.out⟩
theorem resC (T : Array Value) (Wf : World) (r : Nat) (v0 v1 v2 v3 v4 v5 v6 : Value) (hT : T[2]?.getD undef = .pointer (some ⟨r, 0, none⟩)) (h0 : Wf.cell? ⟨r, 0, none⟩ = some v0) (h1 : Wf.cell? ⟨r, 1, none⟩ = some v1) (h2 : Wf.cell? ⟨r, 2, none⟩ = some v2) (h3 : Wf.cell? ⟨r, 3, none⟩ = some v3) (h4 : Wf.cell? ⟨r, 4, none⟩ = some v4) (h5 : Wf.cell? ⟨r, 5, none⟩ = some v5) (h6 : Wf.cell? ⟨r, 6, none⟩ = some v6) :
    (results Tryz.f178 T).run Tryz.prog Wf = .ok (.agg #[v0, v1, v2, v3, v4, v5, v6]) Wf := by
  simp [results, Tryz.results178, go_sem, hT, h0, h1, h2, h3, h4, h5, h6]
set_option maxRecDepth 8000 in
theorem l2CopyOne_row {off : Nat} (id la ki wi : Int) (b n cap : Nat) (X Y : Nat → Int) (lab : ByteArray) (pr : Int) (w : World) (hp : PtsAt w b off n X Y) (hbl : b < w.heap.size) (hn : n ≤ 1048576) :
    Calls Tryz.prog 178 #[.agg #[.int .i64 id, .int .i64 la, .int .i64 ki, .int .i64 wi, .slice (some ⟨b, off, none⟩) n cap, .string lab, .int .i64 pr]] w fun e w' => ∃ a c, e = .returned (.agg #[.int .i64 id, .int .i64 la, .int .i64 ki, .int .i64 wi, .slice a n c, .string lab, .int .i64 pr]) ∧ Row (w.heap.size + 1 + 1) w' (.slice a n c) (ptsOf X Y (List.range n)) ∧ Below w.heap.size w w' := by
  obtain ⟨i0, hi, hz0, hz1, hz2⟩ := info_parts (show (Tryz.prog.info? 230).map (fun i => (i.zero, i.size, i.bytes)) = some (some (.agg #[.int .i64 0, .int .i64 0]), 2, 16) by kernel_rfl)
  have HP : Hid (PtsAt w b off n X Y) := hp
  have HLEN : Hid ((ptsOf X Y (List.range n)).length = n) := by show _ = _; simp [ptsOf]
  clear hp
  obtain ⟨W, hWd⟩ : ∃ W, W = (((w.alloc (.cells #[.int .i64 id, .int .i64 la, .int .i64 ki, .int .i64 wi, .slice (some ⟨b, off, none⟩) n cap, .string lab, .int .i64 pr] 207)).alloc (.cells #[.int .i64 0, .int .i64 0, .int .i64 0, .int .i64 0, .slice none 0 0, .string ⟨#[]⟩, .int .i64 0] 207)) : World) := ⟨_, rfl⟩
  have hB0 : Below w.heap.size w W := by subst hWd; exact Qb
  have hO : OutAt W w.heap.size id la ki wi (.slice (some ⟨b, off, none⟩) n cap) lab pr := by
    subst hWd
    unfold OutAt
    rw [Below.heap_alloc _ _ _ (by simp)]
    exact heap_alloc_new w _
  have hT : There W (w.heap.size + 1) 7 := by
    subst hWd
    have := there7 (w.alloc (.cells #[.int .i64 id, .int .i64 la, .int .i64 ki, .int .i64 wi, .slice (some ⟨b, off, none⟩) n cap, .string lab, .int .i64 pr] 207)) (.int .i64 0) (.int .i64 0) (.int .i64 0) (.int .i64 0) (.slice none 0 0) (.string ⟨#[]⟩) (.int .i64 0) 207
    simpa using this
  have hsW : W.heap.size = w.heap.size + 2 := by subst hWd; simp
  have HB0 := (show Hid _ from hB0)
  have HO := (show Hid _ from hO)
  have HT : Hid (There W (w.heap.size + 1) 7) := hT
  have HSW := (show Hid _ from hsW)
  have HWD := (show Hid _ from hWd)
  clear hB0 hO hT hsW hWd
  go_enter Tryz.func178, Tryz.ntmps178
  go_wp2_with (first
    | (at_builtin; go_must (refine wpList_append_own _ rfl _ _ 205 rfl (w.heap.size + 1 + 1) 230 i0 (.agg #[.int .i64 0, .int .i64 0]) 2 16 Tryz.underlying205 hi hz0 hz1 hz2 rfl (by decide) (.slice (some ⟨w.heap.size + 1 + 1, 0, none⟩) 0 0) 0 [] rfl ?c6 ⟨b, off, none⟩ n cap (cellsL (ptsOf X Y (List.range n))) rfl ?c0 ?c1 ?c2 ?c3 ?c4 ?c5 ?_)))
  case c6 =>
    have := World.ownsRow_lit (base := w.heap.size + 1 + 1) (e := 230) (size := 2) W #[] 0 (by rw [HSW.out]; exact Nat.le_refl _) (Nat.zero_le _) rfl
    rw [HSW.out, HWD.out] at this
    exact this
  case c0 => rw [cellsL_len, HLEN.out]
  case c1 =>
    intro q u hq
    have hb : Below w.heap.size w (W.alloc (.cells #[] 230)) := bl_alloc HB0.out _
    rw [HWD.out] at hb
    have h1 := pts_cellsO (HP.out.below hb hbl) q u hq
    by_cases hq0 : q = 0
    · subst hq0; simpa [Addr.add] using h1
    · simpa [Addr.add, hq0] using h1
  case c2 =>
    intro u hu
    unfold cellsL at hu
    rw [List.mem_flatMap] at hu
    obtain ⟨p, _, hp⟩ := hu
    simp at hp
    rcases hp with rfl | rfl <;> rfl
  case c3 => unfold maxLen; omega
  case c4 => omega
  case c5 => first | omega | (simp; done) | (simp; omega)
  intro v' w2 hown' hgrow hnil
  clear hnil
  obtain ⟨a', c', hv'⟩ : ∃ a' c', v' = .slice a' n c' := by
    obtain ⟨_, h2 | ⟨g, cp, cur, hv, _⟩⟩ := hown'
    · exact ⟨none, 0, by have e := h2.2; have e2 : n = 0 := by omega
                         subst e2; exact h2.1⟩
    · exact ⟨_, cp, by rw [hv]⟩
  have HOWN : Hid (Row (w.heap.size + 1 + 1) w2 v' (ptsOf X Y (List.range n))) := by
    show Row _ _ _ _
    unfold Row
    rw [HLEN.out]
    simpa using hown'
  have hgb : Below (w.heap.size + 1 + 1) (W.alloc (.cells #[] 230)) w2 := by
    rw [HWD.out]
    exact (Below.refl _ _).grown hgrow (by simp) (fun k hk => by simp [Value.ownBlock] at hk; omega)
  have hWa : Below W.heap.size W (W.alloc (.cells #[] 230)) := (Below.refl _ _).alloc (Nat.le_refl _) _
  have hW2 : Below (w.heap.size + 2) W w2 := (hWa.mono (by rw [HSW.out]; exact Nat.le_refl _)).trans hgb
  have hO2 : OutAt w2 w.heap.size id la ki wi (.slice (some ⟨b, off, none⟩) n cap) lab pr := (hW2.block _ (by omega)).trans HO.out
  have hT2 : There w2 (w.heap.size + 1) 7 := There.belowB' HT.out hW2 (by omega)
  have hB2 : Below w.heap.size w w2 := HB0.out.trans (hW2.mono (by omega))
  have hs2 : w.heap.size + 2 < w2.heap.size ∨ True := .inr trivial
  obtain ⟨⟨u0, u1, u2, u3, u4, u5, u6⟩, f4⟩ := hO2.cells
  have hlw := hO2.lt
  have t0 := hT2.cell 0 (by omega)
  have t1 := hT2.cell 1 (by omega)
  have t2 := hT2.cell 2 (by omega)
  have t3 := hT2.cell 3 (by omega)
  have t4 := hT2.cell 4 (by omega)
  have t5 := hT2.cell 5 (by omega)
  have t6 := hT2.cell 6 (by omega)
  have z0 := (hT2 0 (by omega)).2
  have z1 := (hT2 1 (by omega)).2
  have z2 := (hT2 2 (by omega)).2
  have z3 := (hT2 3 (by omega)).2
  have z4 := (hT2 4 (by omega)).2
  have z5 := (hT2 5 (by omega)).2
  have z6 := (hT2 6 (by omega)).2
  have HT9 : Hid (There (w2.setCell ⟨w.heap.size, 4, none⟩ v') (w.heap.size + 1) 7) := There.out hT2 (by omega)
  have HB9 : Hid (Below w.heap.size w w2) := hB2
  subst hv'
  clear hown' hgrow hgb hWa hW2 hO2 hT2 hB2 hs2
  go_wp2_with fail
  obtain ⟨y0, y1, y2, y3, y4, y5, y6⟩ := set7_at (v0 := .int .i64 id) (v1 := .int .i64 la) (v2 := .int .i64 ki) (v3 := .int .i64 wi) (v4 := .slice a' n c') (v5 := .string lab) (v6 := .int .i64 pr) HT9.out
  exact bodyPost_ret (resC _ _ (w.heap.size + 1) _ _ _ _ _ _ _ rfl y0 y1 y2 y3 y4 y5 y6) rfl ⟨a', c', rfl, ((((((((HOWN.out.setB (by omega)).setB (by omega)).setB (by omega)).setB (by omega)).setB (by omega)).setB (by omega)).setB (by omega)).setB (by omega)), below7 (HB9.out.setCell (Nat.le_refl _) _) (Nat.le_succ _)⟩
end Go.Proofs.YtiephlohemphjaaGreat
