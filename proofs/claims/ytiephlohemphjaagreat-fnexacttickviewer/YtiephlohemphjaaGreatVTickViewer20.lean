/- Texts. -/
import Derived.Test.YtiephlohemphjaaGreatVTickViewer15
import Derived.Test.YtiephlohemphjaaGreatVTickViewer18
import Derived.Test.YtiephlohemphjaaGreatVTickViewer19
set_option linter.unusedSimpArgs false
set_option linter.unusedVariables false
set_option maxRecDepth 100000
set_option maxHeartbeats 32000000
namespace Go.Proofs.YtiephlohemphjaaGreat
open Go.RowKit
theorem l9Refs_any {z x y wd ht : Int} (b : Nat) (w : World) (hA : CamAt w b z x y wd ht) (hr : camB z x y wd ht = true) : Calls Tryz.prog 89 #[.pointer (some ⟨b,0,none⟩)] w fun e w' => ∃ v,e = .returned v ∧ RowT w.heap.size w' v (visM z x y wd ht) (visR z x y wd) ∧ Below w.heap.size w w' := by
 have e2 : visM z x y wd ht = visN y ht * visN x wd := by unfold visM; rw [if_pos hr]
 have hin := camB_in hr
 have nx := visN_bd (x := x) hin.1.1
 have ny := visN_bd (x := y) hin.1.2
 rw [e2]
 exact l9Refs_ok b w hA hr rfl rfl rfl rfl rfl rfl ⟨⟨nx.1,nx.2.1⟩,by omega⟩ ⟨⟨ny.1,ny.2.1⟩,by omega⟩ rfl
def seenB (z x y wd ht rz rx ry : Int) : Bool := hasR (visR z x y wd) rz rx ry (visM z x y wd ht)
theorem impl_IsSeen_any (z x y wd ht rz rx ry : Int) (w : World) : Calls Tryz.prog 125 #[camV z x y wd ht,refV rz rx ry] w fun e w' => e = .returned (.bool (seenB z x y wd ht rz rx ry)) ∧ Below w.heap.size w w' := by
 have sV : ∀ w,Calls Tryz.prog 93 #[camV z x y wd ht] w fun e w' => ∃ a cap,e = .returned (.agg #[.int .i64 (camC z x y wd ht), .slice a (visM z x y wd ht) cap]) ∧ IsRs w' a (visM z x y wd ht) (visR z x y wd) ∧ Below w.heap.size w w' := fun w => (impl_VisibleRefs_any z x y wd ht w).mono fun e w' ⟨v,h1,h2,h3⟩ => by
  obtain ⟨a,cap,rfl,_,hI⟩ := h2.pts
  exact ⟨a,cap,h1,hI,h3⟩
 have hm : visM z x y wd ht ≤ 1048576 := by have := visM_le z x y wd ht; omega
 have HC : Hid (∀ a cap w,IsRs w a (visM z x y wd ht) (visR z x y wd) → Calls Tryz.prog 158 #[.slice a (visM z x y wd ht) cap,refV rz rx ry] w fun e w' => e = .returned (.bool (seenB z x y wd ht rz rx ry)) ∧ Below w.heap.size w w') := fun a cap w h => containsR_any a _ cap _ rz rx ry w h hm
 clear hm
 generalize seenB z x y wd ht rz rx ry = B at *
 generalize visM z x y wd ht = m at *
 generalize visR z x y wd = R at *
 generalize camC z x y wd ht = c at *
 have i1 : ∀ (a : Option Addr) (cap : Nat) w,(Instr.field 126 (.agg #[.int .i64 c, .slice a m cap]) 1).run Tryz.prog w = .ok (.slice a m cap) w := fun _ _ _ => by kernel_rfl
 go_enter Tryz.func125,Tryz.ntmps125
 go_wp2_with fail
 generalize hW : ((w.alloc _).alloc _ : World) = W
 have HB0 : Hid (Below w.heap.size w W) := by show Below _ _ _; subst hW; exact Qb
 have c00 : ∀ W',Below W.heap.size W W' → W'.cell? ⟨w.heap.size,0,none⟩ = some (.int .i64 z) := fun W' h => by
  rw [h.cell (by subst hW; simp <;> omega)]; subst hW; simp [go_sem]
 have c01 : ∀ W',Below W.heap.size W W' → W'.cell? ⟨w.heap.size,1,none⟩ = some (.int .i64 x) := fun W' h => by
  rw [h.cell (by subst hW; simp <;> omega)]; subst hW; simp [go_sem]
 have c02 : ∀ W',Below W.heap.size W W' → W'.cell? ⟨w.heap.size,2,none⟩ = some (.int .i64 y) := fun W' h => by
  rw [h.cell (by subst hW; simp <;> omega)]; subst hW; simp [go_sem]
 have c03 : ∀ W',Below W.heap.size W W' → W'.cell? ⟨w.heap.size,3,none⟩ = some (.int .i64 wd) := fun W' h => by
  rw [h.cell (by subst hW; simp <;> omega)]; subst hW; simp [go_sem]
 have c04 : ∀ W',Below W.heap.size W W' → W'.cell? ⟨w.heap.size,4,none⟩ = some (.int .i64 ht) := fun W' h => by
  rw [h.cell (by subst hW; simp <;> omega)]; subst hW; simp [go_sem]
 have c10 : ∀ W',Below W.heap.size W W' → W'.cell? ⟨w.heap.size + 1,0,none⟩ = some (.int .i64 rz) := fun W' h => by
  rw [h.cell (by subst hW; simp <;> omega)]; subst hW; simp [go_sem]
 have c11 : ∀ W',Below W.heap.size W W' → W'.cell? ⟨w.heap.size + 1,1,none⟩ = some (.int .i64 rx) := fun W' h => by
  rw [h.cell (by subst hW; simp <;> omega)]; subst hW; simp [go_sem]
 have c12 : ∀ W',Below W.heap.size W W' → W'.cell? ⟨w.heap.size + 1,2,none⟩ = some (.int .i64 ry) := fun W' h => by
  rw [h.cell (by subst hW; simp <;> omega)]; subst hW; simp [go_sem]
 clear hW
 have hr : Below W.heap.size W W := Below.refl _ _
 go_region_held3 (fun W' => Below W.heap.size W W') ((repeat (first|exact Qr _ _|assumption|refine Qd ?_|refine Qa ?_ _|refine Qt ?_|refine Qs ?_ _|refine Qo ?_ ?_ _ _)))
  (first
   | (go_at_call 93; refine (sV _).mono ?_; rintro e w1 ⟨a,cap,rfl,hI,hb⟩; have HI : Hid (IsRs w1 a m R) := hI; clear hI)
   | (go_at_call 158; refine (HC.out _ _ _ HI.out).mono ?_; rintro e w2 ⟨rfl,hb⟩)
   | fail)
 go_wp2
 go_ret
 exact ⟨rfl,bl_then HB0.out (by assumption)⟩
theorem reqsC_le {n : Nat} {E : Nat → Req} (h : reqsC n E = 0) : n ≤ 8 := by
 unfold reqsC at h
 by_cases h8 : 8 < n
 ·rw [if_pos h8] at h; cases h
 ·omega
theorem run_iminq (ts : Array TypeId) (t : TypeId) (a b : Int) (w : World) : (Builtin.min_ ts t #[.int .i64 a, .int .i64 b]).run Tryz.prog w = .ok (.int .i64 (min a b)) w := by
 simp only [Builtin.min_,Builtin.min2,List.foldlM]
 by_cases h : b < a
 ·have e : min a b = b := by omega
  simp [h,e]
 ·have e : min a b = a := by omega
  simp [h,e]
theorem there3q (V : World) (a b c : Value) (t : TypeId) : There (V.alloc (.cells #[a,b,c] t)) V.heap.size 3 := there3r V a b c t
theorem there5q (V : World) (a b c d e : Value) (t : TypeId) : There (V.alloc (.cells #[a,b,c,d,e] t)) V.heap.size 5 := fun o ho => by
 have hc : o = 0 ∨ o = 1 ∨ o = 2 ∨ o = 3 ∨ o = 4 := by omega
 rcases hc with rfl | rfl | rfl | rfl | rfl <;> exact ⟨⟨_,by simp [go_sem]; rfl⟩,by simp [go_sem]⟩
theorem set3q {W : World} {r : Nat} {a b c : Value} (hT : There W r 3) :
  (((W.setCell ⟨r,0,none⟩ a).setCell ⟨r,1,none⟩ b).setCell ⟨r,2,none⟩ c).cell? ⟨r,0,none⟩ = some a ∧
  (((W.setCell ⟨r,0,none⟩ a).setCell ⟨r,1,none⟩ b).setCell ⟨r,2,none⟩ c).cell? ⟨r,1,none⟩ = some b ∧
  (((W.setCell ⟨r,0,none⟩ a).setCell ⟨r,1,none⟩ b).setCell ⟨r,2,none⟩ c).cell? ⟨r,2,none⟩ = some c := by
 obtain ⟨x0,h0⟩ := (hT 0 (by omega)).1
 obtain ⟨x1,h1⟩ := (hT 1 (by omega)).1
 obtain ⟨x2,h2⟩ := (hT 2 (by omega)).1
 have ne : ∀ i j : Nat,i ≠ j → (⟨r,i,none⟩ : Addr) ≠ ⟨r,j,none⟩ := fun i j hij h => hij (by injection h)
 refine ⟨?_,?_,?_⟩
 ·rw [set1_other (ne 2 0 (by omega)),set1_other (ne 1 0 (by omega))]; exact set1_same h0
 ·rw [set1_other (ne 2 1 (by omega))]; exact set1_same (by rw [set1_other (ne 0 1 (by omega))]; exact h1)
 ·exact set1_same (by rw [set1_other (ne 1 2 (by omega)),set1_other (ne 0 2 (by omega))]; exact h2)
theorem lit_cells (w : World) (cs : Array Value) (t : TypeId) : ∀ j u,cs.toList[j]? = some u → (w.alloc (.cells cs t)).cell? ((⟨w.heap.size,0,none⟩ : Addr).add j) = some u := fun j u h => by
 have h1 : (w.alloc (.cells cs t)).cell? ⟨w.heap.size,j,none⟩ = some u := by
  rw [World.cell?_alloc_at _ _ _ _ rfl]
  simpa using h
 by_cases hj : j = 0
 ·subst hj; simpa [Addr.add] using h1
 ·simpa [Addr.add,hj] using h1
theorem reqCells_one (e : Req) : ∀ u ∈ reqCells e,u.oneCell' = true := fun u hu => cellsW_cell [e] u (by rw [cellsW_one]; exact hu)
theorem RowW.slice {base : Nat} {w : World} {v : Value} {l : List Req} (h : RowW base w v l) : ∃ a c,v = .slice a l.length c := by
 obtain ⟨a,c,hv,_⟩ := h.own
 exact ⟨a,c,hv⟩
theorem RowS.slice {base : Nat} {w : World} {v : Value} {l : List Req} (h : RowS base w v l) : ∃ a c,v = .slice a l.length c := by
 obtain ⟨a,c,hv,_⟩ := h.own
 exact ⟨a,c,hv⟩
theorem RowW.block {base : Nat} {w : World} {v : Value} {l : List Req} (h : RowW base w v l) : ∀ s,v.ownBlock = some s → base ≤ s := fun s hs => by
 obtain ⟨_,h2 | ⟨g,cp,cur,hv,hg,_⟩⟩ := h
 ·rw [h2.1] at hs; cases hs
 ·rw [hv] at hs
  simp [Value.ownBlock] at hs
  omega
theorem RowS.block {base : Nat} {w : World} {v : Value} {l : List Req} (h : RowS base w v l) : ∀ s,v.ownBlock = some s → base ≤ s := fun s hs => by
 obtain ⟨_,h2 | ⟨g,cp,cur,hv,hg,_⟩⟩ := h
 ·rw [h2.1] at hs; cases hs
 ·rw [hv] at hs
  simp [Value.ownBlock] at hs
  omega
theorem RowW.set3 {base B r : Nat} {w : World} {v a b c : Value} {l : List Req} (h : RowW B w v l) (hr : r < B) (hB : base ≤ B) : RowW base (((w.setCell ⟨r,0,none⟩ a).setCell ⟨r,1,none⟩ b).setCell ⟨r,2,none⟩ c) v l :=
 ownsRow_wideW (ownsRow_setW (ownsRow_setW (ownsRow_setW h hr) hr) hr) hB
theorem RowS.set3 {base B r : Nat} {w : World} {v a b c : Value} {l : List Req} (h : RowS B w v l) (hr : r < B) (hB : base ≤ B) : RowS base (((w.setCell ⟨r,0,none⟩ a).setCell ⟨r,1,none⟩ b).setCell ⟨r,2,none⟩ c) v l :=
 ownsRow_wideW (ownsRow_setW (ownsRow_setW (ownsRow_setW h hr) hr) hr) hB
theorem sentAt_any (e : Req) (now : Int) (w : World) (hn : 0 ≤ now ∧ now ≤ 9000) (ht : 0 ≤ e.tr ∧ e.tr ≤ 99) : Calls Tryz.prog 126 #[reqV e, .int .i64 now] w fun r w' => r = .returned (reqV ⟨e.z,e.x,e.y,now + 3,min (e.tr + 1) 99⟩) ∧ Below w.heap.size w w' := by
 obtain ⟨n0,n1⟩ := hn
 obtain ⟨t0,t1⟩ := ht
 have hmin := run_iminq
 go_enter Tryz.func126,Tryz.ntmps126
 go_wp2
 exact bodyPost_ret (v := reqV ⟨e.z,e.x,e.y,now + 3,min (e.tr + 1) 99⟩) (by simp [results,Tryz.results126,go_sem]) rfl ⟨rfl,by (repeat (first|exact Qr _ _|assumption|refine Qd ?_|refine Qa ?_ _|refine Qt ?_|refine Qs ?_ _|refine Qo ?_ ?_ _ _))⟩
theorem RowS.grown {base base' : Nat} {w w' : World} {v v' : Value} {l l' : List Req} (h : RowS base w v l) (h' : RowW base' w v' l') (hg : w.grownBy w' v'.ownBlock) : RowS base w' v l := by
 have hap := rows_apart h h' (by decide)
 obtain ⟨h1,h2 | ⟨g,cp,cur,hv,hg',hh,hk⟩⟩ := h
 ·exact ⟨h1, .inl h2⟩
 ·refine ⟨h1, .inr ⟨g,cp,cur,hv,hg',?_,hk⟩⟩
  have hgl : g < w.heap.size := by
   rcases Nat.lt_or_ge g w.heap.size with h' | h'
   ·exact h'
   ·rw [Array.getElem?_eq_none h'] at hh; cases hh
  rw [hg.block g hgl (fun e => ?_)]
  ·exact hh
  ·obtain ⟨a',c',hv'⟩ := h'.slice
   cases a' with
   | none => rw [hv'] at e; simp [Value.ownBlock] at e
   | some p =>
    rw [hv'] at e
    simp [Value.ownBlock] at e
    exact hap ⟨g,0,none⟩ _ cp p _ c' hv hv' e
theorem RowW.grown {base base' : Nat} {w w' : World} {v v' : Value} {l l' : List Req} (h : RowW base w v l) (h' : RowS base' w v' l') (hg : w.grownBy w' v'.ownBlock) : RowW base w' v l := by
 have hap := rows_apart h h' (by decide)
 obtain ⟨h1,h2 | ⟨g,cp,cur,hv,hg',hh,hk⟩⟩ := h
 ·exact ⟨h1, .inl h2⟩
 ·refine ⟨h1, .inr ⟨g,cp,cur,hv,hg',?_,hk⟩⟩
  have hgl : g < w.heap.size := by
   rcases Nat.lt_or_ge g w.heap.size with h' | h'
   ·exact h'
   ·rw [Array.getElem?_eq_none h'] at hh; cases hh
  rw [hg.block g hgl (fun e => ?_)]
  ·exact hh
  ·obtain ⟨a',c',hv'⟩ := h'.slice
   cases a' with
   | none => rw [hv'] at e; simp [Value.ownBlock] at e
   | some p =>
    rw [hv'] at e
    simp [Value.ownBlock] at e
    exact hap ⟨g,0,none⟩ _ cp p _ c' hv hv' e
def keptL (G : Nat → Bool) (E : Nat → Req) : Nat → List Req
 | 0 => []
 | k + 1 => if G k = true then keptL G E k ++ [E k] else keptL G E k
theorem keptL_le (G : Nat → Bool) (E : Nat → Req) : ∀ k,(keptL G E k).length ≤ k
 | 0 => by simp [keptL]
 | k + 1 => by
  have := keptL_le G E k
  unfold keptL
  split
  ·simp; omega
  ·omega
theorem keptL_yes {G : Nat → Bool} {E : Nat → Req} {k : Nat} (h : G k = true) : keptL G E (k + 1) = keptL G E k ++ [E k] := by rw [keptL,if_pos h]
theorem keptL_no {G : Nat → Bool} {E : Nat → Req} {k : Nat} (h : G k = false) : keptL G E (k + 1) = keptL G E k := by rw [keptL,if_neg (by simp [h])]
theorem WsAt.same {w : World} {b off n : Nat} {E E' : Nat → Req} (h : WsAt w b off n E) (he : ∀ i,i < n → E i = E' i) : WsAt w b off n E' := fun i hi => by rw [← he i hi]; exact h i hi
def eqR (e f : Req) : Bool := isR e f.z f.x f.y && ((e.du == f.du) && (e.tr == f.tr))
theorem eqR_self (e : Req) : eqR e e = true := by simp [eqR,isR]
theorem equalIn_req (n : Nat) (e f : Req) (w : World) : (Op.equalIn (n + 3) 99 (reqV e) (reqV f)).run Tryz.prog w = .ok (eqR e f) w := by
 have hr := fun (a b c a' b' c' : Int) (w : World) => equalIn_ref n a b c a' b' c' w
 have hp0 : ∀ (a b c d e : Int) (w : World),(part 97 #[.int .i64 a, .int .i64 b, .int .i64 c, .int .i64 d, .int .i64 e] 0).run Tryz.prog w = .ok (.agg #[.int .i64 a, .int .i64 b, .int .i64 c]) w := fun _ _ _ _ _ _ => by kernel_rfl
 have hp3 : ∀ (a b c d e : Int) (w : World),(part 2 #[.int .i64 a, .int .i64 b, .int .i64 c, .int .i64 d, .int .i64 e] 3).run Tryz.prog w = .ok (.int .i64 d) w := fun _ _ _ _ _ _ => by kernel_rfl
 have hp4 : ∀ (a b c d e : Int) (w : World),(part 2 #[.int .i64 a, .int .i64 b, .int .i64 c, .int .i64 d, .int .i64 e] 4).run Tryz.prog w = .ok (.int .i64 e) w := fun _ _ _ _ _ _ => by kernel_rfl
 have hi := fun (a b : Int) (w : World) => run_equalIn_int (P := Tryz.prog) w (n + 1) 2 .i64 .i64 a b Tryz.underlying2
 rw [run_equalIn_struct w (n + 2) 99 _ _ (by kernel_rfl) (by kernel_rfl)]
 simp [Op.eqFields,Program.fieldsOf,Tryz.underlying99,hp0,hp3,hp4,hi,hr]
 unfold eqR isR
 by_cases h1 : e.z = f.z <;> by_cases h2 : e.x = f.x <;> by_cases h3 : e.y = f.y <;> by_cases h4 : e.du = f.du <;> by_cases h5 : e.tr = f.tr <;> simp [h1,h2,h3,h4,h5]
theorem neq_req (e f : Req) (w : World) : (binOp .neq 99 (reqV e) (reqV f)).run Tryz.prog w = .ok (.bool (!eqR e f)) w := by
 rw [run_neq_struct,equalIn_req 9997]
 rfl

theorem ReqAt.up {w w' : World} {p o : Nat} {e : Req} (h : ReqAt w p o e) (hb : Below w.heap.size w w') : ReqAt w' p o e := h.below hb (World.block_lt_of_cell? _ _ h.1)
def retE (now : Int) (e : Req) : Req := if e.du ≤ now then ⟨e.z,e.x,e.y,now + 3,min (e.tr + 1) 99⟩ else e
def sentL (now : Int) (E : Nat → Req) (k : Nat) : List Req := keptL (fun j => decide ((E j).du ≤ now)) E k
def retL (now : Int) (E : Nat → Req) (k : Nat) : List Req := listW k (fun j => retE now (E j))
theorem retL_succ (now : Int) (E : Nat → Req) (k : Nat) : retL now E (k + 1) = retL now E k ++ [retE now (E k)] := listW_succ _ _
theorem sentL_yes {now : Int} {E : Nat → Req} {k : Nat} (h : (E k).du ≤ now) : sentL now E (k + 1) = sentL now E k ++ [E k] := keptL_yes (by simpa using h)
theorem sentL_no {now : Int} {E : Nat → Req} {k : Nat} (h : ¬ (E k).du ≤ now) : sentL now E (k + 1) = sentL now E k := keptL_no (by simpa using h)
theorem ret_differs (now : Int) (e : Req) : (!eqR (retE now e) e) = decide (e.du ≤ now) := by
 by_cases h : e.du ≤ now
 ·have : ¬ now + 3 = e.du := by omega
  simp [retE,h,eqR,isR,this]
 ·simp [retE,h,eqR_self]
def retC (n : Nat) (E : Nat → Req) (now : Int) : Int := or2 (reqsC n E) (timC now)
theorem retC_zero {n : Nat} {E : Nat → Req} {now : Int} (h : retC n E now = 0) : reqsC n E = 0 ∧ timC now = 0 := by
 unfold retC or2 at h
 by_cases h1 : reqsC n E = 0
 ·rw [if_pos h1] at h
  exact ⟨h1,h⟩
 ·rw [if_neg h1] at h
  exact absurd h h1
theorem reqs_tries {n : Nat} {E : Nat → Req} (h : reqsC n E = 0) {j : Nat} (hj : j < n) : (0 ≤ (E j).tr ∧ (E j).tr ≤ 99) ∧ (0 ≤ (E j).du ∧ (E j).du ≤ 9999) := by
 have h8 := reqsC_le h
 unfold reqsC at h
 rw [if_neg (by omega)] at h
 have h0 := scan_zero (rCode E) n 0 h j (by omega) (by omega)
 unfold rCode at h0
 by_cases hb : reqB (E j) = true
 ·simp [reqB,inB] at hb
  omega
 ·rw [if_neg hb] at h0; cases h0
def retP (n : Nat) (E : Nat → Req) (now : Int) : List Req := if retC n E now = 0 then sentL now E n else []
def retQ (n : Nat) (E : Nat → Req) (now : Int) : List Req := if retC n E now = 0 then retL now E n else []
def RtqS (base r : Nat) (w : World) (v1 v2 : Value) (s l : List Req) : Prop :=
 w.cell? ⟨r,0,none⟩ = some (.int .i64 0) ∧ w.cell? ⟨r,1,none⟩ = some v1 ∧ w.cell? ⟨r,2,none⟩ = some v2 ∧ There w r 3 ∧ RowS base w v1 s ∧ RowW base w v2 l
theorem RtqS.below {base r : Nat} {w w' : World} {v1 v2 : Value} {s l : List Req} (h : RtqS base r w v1 v2 s l) (hb : Below w.heap.size w w') : RtqS base r w' v1 v2 s l :=
 ⟨bl_cellR hb h.1,bl_cellR hb h.2.1,bl_cellR hb h.2.2.1,h.2.2.2.1.below hb,h.2.2.2.2.1.below hb,h.2.2.2.2.2.below hb⟩
theorem RowS.lt {base : Nat} {w : World} {v : Value} {l : List Req} (h : RowS base w v l) : ∀ s,v.ownBlock = some s → s < w.heap.size := fun s hs => by
 obtain ⟨_,h2 | ⟨g,cp,cur,hv,_,hh,_⟩⟩ := h
 ·rw [h2.1] at hs; cases hs
 ·rw [hv] at hs
  simp [Value.ownBlock] at hs
  subst hs
  rcases Nat.lt_or_ge g w.heap.size with h' | h'
  ·exact h'
  ·rw [Array.getElem?_eq_none h'] at hh; cases hh
theorem set1_there {w : World} {r m o : Nat} {u : Value} (h : There w r m) : There (w.setCell ⟨r,o,none⟩ u) r m := h.setR o u
theorem RtqS.sent {base r : Nat} {w w' : World} {v1 v2 v1' : Value} {s l s' : List Req} (h : RtqS base r w v1 v2 s l) (hr : r < base) (hg : w.grownBy w' v1.ownBlock) (hs : RowS base w' v1' s') : RtqS base r (w'.setCell ⟨r,1,none⟩ v1') v1' v2 s' l := by
 obtain ⟨h0,h1,h2,hT,hS,hW⟩ := h
 have hrl : r < w.heap.size := World.block_lt_of_cell? _ _ h0
 have hne : some r ≠ v1.ownBlock := fun e => by have := hS.block r e.symm; omega
 have hb := hg.block r hrl hne
 have hT' : There w' r 3 := fun o ho => ⟨by obtain ⟨u,hu⟩ := (hT o ho).1; exact ⟨u,(World.cell?_of_block (a := ⟨r,o,none⟩) hb).trans hu⟩,(World.frozen?_of_block (a := ⟨r,o,none⟩) hb).trans (hT o ho).2⟩
 refine ⟨?_,?_,?_,set1_there hT',ownsRow_setW hs hr,ownsRow_setW (RowW.grown hW hS hg) hr⟩
 ·rw [set1_other (by simp)]; exact (World.cell?_of_block (a := ⟨r,0,none⟩) hb).trans h0
 ·exact set1_same ((World.cell?_of_block (a := ⟨r,1,none⟩) hb).trans h1)
 ·rw [set1_other (by simp)]; exact (World.cell?_of_block (a := ⟨r,2,none⟩) hb).trans h2
theorem RtqS.reqs {base r : Nat} {w w' : World} {v1 v2 v2' : Value} {s l l' : List Req} (h : RtqS base r w v1 v2 s l) (hr : r < base) (hg : w.grownBy w' v2.ownBlock) (hs : RowW base w' v2' l') : RtqS base r (w'.setCell ⟨r,2,none⟩ v2') v1 v2' s l' := by
 obtain ⟨h0,h1,h2,hT,hS,hW⟩ := h
 have hrl : r < w.heap.size := World.block_lt_of_cell? _ _ h0
 have hne : some r ≠ v2.ownBlock := fun e => by have := hW.block r e.symm; omega
 have hb := hg.block r hrl hne
 have hT' : There w' r 3 := fun o ho => ⟨by obtain ⟨u,hu⟩ := (hT o ho).1; exact ⟨u,(World.cell?_of_block (a := ⟨r,o,none⟩) hb).trans hu⟩,(World.frozen?_of_block (a := ⟨r,o,none⟩) hb).trans (hT o ho).2⟩
 refine ⟨?_,?_,?_,set1_there hT',ownsRow_setW (RowS.grown hS hW hg) hr,ownsRow_setW hs hr⟩
 ·rw [set1_other (by simp)]; exact (World.cell?_of_block (a := ⟨r,0,none⟩) hb).trans h0
 ·rw [set1_other (by simp)]; exact (World.cell?_of_block (a := ⟨r,1,none⟩) hb).trans h1
 ·exact set1_same ((World.cell?_of_block (a := ⟨r,2,none⟩) hb).trans h2)
theorem retriedAt_any (e : Req) (now : Int) (w : World) (hn : 0 ≤ now ∧ now ≤ 9000) (ht : 0 ≤ e.tr ∧ e.tr ≤ 99) : Calls Tryz.prog 78 #[reqV e, .int .i64 now] w fun r w' => r = .returned (reqV (retE now e)) ∧ Below w.heap.size w w' := by
 by_cases hd : e.du ≤ now
 ·have hk : Hid (retE now e = ⟨e.z,e.x,e.y,now + 3,min (e.tr + 1) 99⟩) := by show _ = _; unfold retE; rw [if_pos hd]
  have hd' : ¬ now < e.du := by omega
  go_enter Tryz.func78,Tryz.ntmps78
  go_wp2_with fail
  generalize hW : ((w.alloc _).alloc _ : World) = W
  have hB0 : Below w.heap.size w W := by subst hW; exact Qb
  have HT : There W (w.heap.size + 1) 5 := by
   subst hW
   have := there5q (w.alloc (.cells #[.int .i64 e.z, .int .i64 e.x, .int .i64 e.y, .int .i64 e.du, .int .i64 e.tr] 99)) (.int .i64 0) (.int .i64 0) (.int .i64 0) (.int .i64 0) (.int .i64 0) 99
   simpa using this
  clear hW
  refine (sentAt_any e now _ hn ht).mono ?_
  rintro r w1 ⟨rfl,hb1⟩
  have HT1 : Hid (There w1 (w.heap.size + 1) 5) := HT.below hb1
  have HB1 : Hid (Below w.heap.size w w1) := bl_then hB0 hb1
  have t0 := HT1.out.cell 0 (by omega)
  have t1 := HT1.out.cell 1 (by omega)
  have t2 := HT1.out.cell 2 (by omega)
  have t3 := HT1.out.cell 3 (by omega)
  have t4 := HT1.out.cell 4 (by omega)
  have f0 := (HT1.out 0 (by omega)).2
  have f1 := (HT1.out 1 (by omega)).2
  have f2 := (HT1.out 2 (by omega)).2
  have f3 := (HT1.out 3 (by omega)).2
  have f4 := (HT1.out 4 (by omega)).2
  clear hb1 hB0 HT
  go_wp2_with fail
  have key : ∀ (T : Array Value) (Wf : World) (e : Req),T[4]?.getD undef = .pointer (some ⟨w.heap.size + 1,0,none⟩) → ReqAt Wf (w.heap.size + 1) 0 e → (results Tryz.f78 T).run Tryz.prog Wf = .ok (reqV e) Wf := fun T Wf e hT ⟨h0,h1,h2,h3,h4⟩ => by
   simp only [Nat.zero_add] at h0 h1 h2 h3 h4
   simp [results,Tryz.results78,go_sem,hT,h0,h1,h2,h3,h4]
  have hat := lay5w_at (W := w1) (B := w.heap.size + 1) (o := 0) (e := ⟨e.z,e.x,e.y,now + 3,min (e.tr + 1) 99⟩) HT1.out (by omega)
  have hbl := lay5w_below (B := w.heap.size + 1) (o := 0) (e := ⟨e.z,e.x,e.y,now + 3,min (e.tr + 1) 99⟩) HB1.out (by omega)
  simp only [lay5w,Nat.zero_add] at hat hbl
  exact bodyPost_ret (key _ _ ⟨e.z,e.x,e.y,now + 3,min (e.tr + 1) 99⟩ rfl hat) rfl ⟨by rw [hk.out],hbl⟩
 ·have hk : Hid (retE now e = e) := by show _ = _; unfold retE; rw [if_neg hd]
  have hd' : now < e.du := by omega
  clear hd
  go_enter Tryz.func78,Tryz.ntmps78
  go_wp2
  exact bodyPost_ret (v := reqV e) (by simp [results,Tryz.results78,go_sem]) rfl ⟨by rw [hk.out],by (repeat (first|exact Qr _ _|assumption|refine Qd ?_|refine Qa ?_ _|refine Qt ?_|refine Qs ?_ _|refine Qo ?_ ?_ _ _))⟩
theorem resRetry {T : Array Value} {Wf : World} {r : Nat} {c : Int} {v1 v2 : Value} (hT : T[4]?.getD undef = .pointer (some ⟨r,0,none⟩)) (h0 : Wf.cell? ⟨r,0,none⟩ = some (.int .i64 c)) (h1 : Wf.cell? ⟨r,1,none⟩ = some v1) (h2 : Wf.cell? ⟨r,2,none⟩ = some v2) :
  (results Tryz.f38 T).run Tryz.prog Wf = .ok (rqV c v1 v2) Wf := by
 simp [results,Tryz.results38,go_sem,hT,h0,h1,h2]
theorem impl_RetryAll_any (a : Option Addr) (n cap : Nat) (E : Nat → Req) (now : Int) (w : World) (hp : IsWs w a n E) (hn : n ≤ 1048576) (hcap : n ≤ cap) :
  Calls Tryz.prog 38 #[.slice a n cap, .int .i64 now] w fun e w' => ∃ v1 v2,e = .returned (rqV (retC n E now) v1 v2) ∧ RowS w.heap.size w' v1 (retP n E now) ∧ RowW w.heap.size w' v2 (retQ n E now) ∧ Below w.heap.size w w' := by
 obtain ⟨i0,hi,hz0,hz1,hz2⟩ := info_parts info_req
 obtain ⟨i1,ri,rz0,rz1,rz2⟩ := info_parts info_rf
 have HP : Hid (IsWs w a n E) := hp
 have HF : Hid (∀ W,Below w.heap.size w W → Calls Tryz.prog 75 #[.slice a n cap] W fun e w' => e = .returned (.int .i64 (reqsC n E)) ∧ Below W.heap.size W w') := fun W h => impl_RequestsFault_any a n cap E W (hp.below h) hn hcap
 have HRC : Hid (retC n E now = or2 (reqsC n E) (timC now)) := rfl
 have HTF : Hid (∀ W,Calls Tryz.prog 77 #[.int .i64 now] W fun e w' => e = .returned (.int .i64 (timC now)) ∧ Below W.heap.size W w') := fun W => timeFault_any now W
 clear hp
 go_enter Tryz.func38,Tryz.ntmps38
 go_wp2_with fail
 generalize hW : (w.alloc _ : World) = W
 have HB0 : Hid (Below w.heap.size w W) := by show Below _ _ _; subst hW; exact Qb
 have HSZ : Hid (w.heap.size < W.heap.size) := by show _ < _; subst hW; simp
 have HTH : Hid (There W w.heap.size 3) := by show There _ _ _; subst hW; exact there3q w _ _ _ _
 clear hW
 refine (HF.out _ HB0.out).mono ?_
 rintro e w1 ⟨rfl,hb1⟩
 generalize reqsC n E = k1 at *
 go_wp2_with fail
 refine (HTF.out _).mono ?_
 rintro e w2 ⟨rfl,hb2⟩
 generalize timC now = k2 at *
 have hB2 : Below W.heap.size W w2 := bl_then hb1 hb2
 clear hb1 hb2 HF HTF
 go_wp2_with fail
 generalize hw3 : (World.alloc _ _ : World) = w3
 have hb3 : Below w2.heap.size w2 w3 := by subst hw3; exact Qb
 have g0 : w3.cell? ⟨w2.heap.size,0,none⟩ = some (.int .i64 k1) := by subst hw3; simp [go_sem]
 have g1 : w3.cell? ⟨w2.heap.size,1,none⟩ = some (.int .i64 k2) := by subst hw3; simp [go_sem]
 clear hw3
 have hB3 : Below W.heap.size W w3 := bl_then hB2 hb3
 refine (cmpOr2_any _ _ k1 k2 _ g0 g1).mono ?_
 rintro e w4 ⟨rfl,rfl⟩
 rw [← HRC.out]
 clear g0 g1 hb3 hB2
 have hS4 : W.heap.size ≤ w4.heap.size := hB3.size
 by_cases hp0 : retC n E now = 0
 ·rw [hp0]
  have HS : Hid (retP n E now = sentL now E n) := by show _ = _; unfold retP; rw [if_pos hp0]
  have HL : Hid (retQ n E now = retL now E n) := by show _ = _; unfold retQ; rw [if_pos hp0]
  have HR0 : Hid (retC n E now = 0) := hp0
  have HQ0 : Hid (reqsC n E = 0) := (retC_zero hp0).1
  obtain ⟨n0,n1⟩ := timC_in (retC_zero hp0).2
  have hn8 := reqsC_le HQ0.out
  clear hp0
  go_wp2_with fail
  generalize hw5 : (w4.alloc _ : World) = w5
  have hb5 : Below w4.heap.size w4 w5 := by subst hw5; exact Qb
  have HST : Hid (RtqS (w4.heap.size + 1) w4.heap.size w5 (.slice none 0 0) (.slice none 0 0) [] []) := by
   show RtqS _ _ _ _ _ _ _
   subst hw5
   exact ⟨by simp [go_sem],by simp [go_sem],by simp [go_sem],there3q w4 _ _ _ _,RowS.no _ _,RowW.no _ _⟩
  have hs5 : w4.heap.size + 1 ≤ w5.heap.size := by subst hw5; simp
  clear hw5
  have HB5 : Hid (Below w4.heap.size w4 w5) := hb5
  have HBW : Hid (Below w.heap.size w w4) := bl_then HB0.out hB3
  have HT4 : Hid (There w4 w.heap.size 3) := HTH.out.below hB3
  have hS4' : w.heap.size < w4.heap.size := by have := HSZ.out; omega
  clear hb5 hB3
  go_loopw [22] (fun i wr => ∃ (k : Nat) (v1 v2 : Value),k ≤ n ∧ i = .int .i64 (k : Int) ∧ RtqS (w4.heap.size + 1) w4.heap.size wr v1 v2 (sentL now E k) (retL now E k) ∧ Below w4.heap.size w4 wr ∧ w4.heap.size + 1 ≤ wr.heap.size) (fun i _ => n - (intOf i).toNat)
  case atStart => exact ⟨0,_,_,by omega,rfl,HST.out,HB5.out,hs5⟩
  case round =>
   obtain ⟨k,v1,v2,hk,rfl,hst,hB,hsr⟩ := hrel
   by_cases hlt : k < n
   ·rcases HP.out with h0 | ⟨b,off,rfl,hbl,hpt⟩
    ·omega
    obtain ⟨q0,q1,q2,q3,q4⟩ := (hpt.below (bl_then HBW.out hB) hbl) k hlt
    have htr := (reqs_tries HQ0.out hlt).1
    have HLT : Hid (k < n) := hlt
    have HB : Hid (Below w4.heap.size w4 wr) := hB
    have HS1 : Hid (RtqS (w4.heap.size + 1) w4.heap.size wr v1 v2 (sentL now E k) (retL now E k)) := hst
    have hi' : (k : Int) < (n : Int) := by omega
    have hi0 : (0 : Int) ≤ (k : Int) := by omega
    have HRT : Hid (∀ W,Calls Tryz.prog 78 #[reqV (E k), .int .i64 now] W fun r w' => r = .returned (reqV (retE now (E k))) ∧ Below W.heap.size W w') := fun W => retriedAt_any (E k) now W ⟨n0,n1⟩ htr
    have HNE : Hid (∀ w,(binOp .neq 99 (reqV (retE now (E k))) (reqV (E k))).run Tryz.prog w = .ok (.bool (decide ((E k).du ≤ now))) w) := fun w => by have h := neq_req (retE now (E k)) (E k) w; rw [ret_differs] at h; exact h
    have HSL : Hid (sentL now E (k + 1) = if (E k).du ≤ now then sentL now E k ++ [E k] else sentL now E k) := by
     show _ = _
     by_cases h : (E k).du ≤ now
     ·rw [if_pos h,sentL_yes h]
     ·rw [if_neg h,sentL_no h]
    have HRL : Hid (retL now E (k + 1) = retL now E k ++ [retE now (E k)]) := retL_succ now E k
    have HLS : Hid ((sentL now E k).length ≤ k) := keptL_le _ _ _
    have HLR : Hid ((retL now E k).length = k) := listW_len _ _
    clear hB hst hpt htr
    generalize E k = e at *
    generalize retE now e = e' at *
    generalize sentL now E k = s at *
    generalize retL now E k = l at *
    go_wp2_with fail
    generalize hV : (wr.alloc _ : World) = V
    have hBV : Below wr.heap.size wr V := by subst hV; exact Qb
    have hRV : ReqAt V wr.heap.size 0 e := by subst hV; exact ⟨by simp [go_sem],by simp [go_sem],by simp [go_sem],by simp [go_sem],by simp [go_sem]⟩
    clear hV q0 q1 q2 q3 q4
    refine (HRT.out V).mono ?_
    rintro r w6 ⟨rfl,hb6⟩
    have hRV6 := hRV.up hb6
    obtain ⟨m0,m1,m2,m3,m4⟩ := hRV6
    simp only [Nat.zero_add] at m0 m1 m2 m3 m4
    have hlt6 : wr.heap.size < w6.heap.size := World.block_lt_of_cell? _ _ m0
    have heq := HNE.out
    simp only [reqV] at heq
    have hst6 := (HS1.out.below hBV).below hb6
    have hB6 : Below w4.heap.size w4 w6 := HB.out.trans ((bl_then hBV hb6).mono HB.out.size)
    have hr6 : w4.heap.size < w6.heap.size := World.block_lt_of_cell? _ _ hst6.1
    have HS6 : Hid (RtqS (w4.heap.size + 1) w4.heap.size w6 v1 v2 s l) := hst6
    have HW6 : Hid (wr.heap.size ≤ w6.heap.size) := (bl_then hBV hb6).size
    have HRV6 : Hid (ReqAt w6 wr.heap.size 0 e) := hRV.up hb6
    have HB6 : Hid (Below w4.heap.size w4 w6) := hB6
    clear hst6 hBV hb6 hRV hB6 HS1 HB HRT HNE
    by_cases hd : e.du ≤ now
    ·have HD : Hid (e.du ≤ now) := hd
     have hdd : decide (e.du ≤ now) = true := by simpa using hd
     rw [hdd] at heq
     clear hd hdd
     go_upto_region 10 with fail
     generalize hV7 : (w6.alloc _ : World) = w7
     have hb7 : Below w6.heap.size w6 w7 := by subst hV7; exact Qb
     have hA7 : ReqAt w7 w6.heap.size 0 e' := by subst hV7; exact ⟨by simp [go_sem],by simp [go_sem],by simp [go_sem],by simp [go_sem],by simp [go_sem]⟩
     have hst7 := HS6.out.below hb7
     have HS7 : Hid (RtqS (w4.heap.size + 1) w4.heap.size w7 v1 v2 s l) := hst7
     obtain ⟨q0,q1,q2,_,_⟩ := HRV6.out.up hb7
     simp only [Nat.zero_add] at q0 q1 q2
     have r1 := hst7.2.1
     have hB7 : Below w4.heap.size w4 w7 := HB6.out.trans (hb7.mono (by omega))
     have HW7 : Hid (wr.heap.size ≤ w7.heap.size) := Nat.le_trans HW6.out hb7.size
     have HA7 : Hid (ReqAt w7 w6.heap.size 0 e') := hA7
     have hr7 : w4.heap.size < w7.heap.size := World.block_lt_of_cell? _ _ r1
     have h67 : w6.heap.size < w7.heap.size := World.block_lt_of_cell? _ _ hA7.1
     clear hV7 hb7 hA7 hst7 m0 m1 m2 m3 m4
     go_wp2_with (first
      | (at_builtin; go_must (refine wpList_append_own _ rfl _ _ 31 rfl (w4.heap.size + 1) 97 i1 (.agg #[.int .i64 0, .int .i64 0, .int .i64 0]) 3 24 Tryz.underlying31 ri rz0 rz1 rz2 rfl (by decide) v1 s.length (cellsR (rfsOf s) s.length) rfl ?c0 ⟨w7.heap.size,0,none⟩ 1 1 [.int .i64 e.z, .int .i64 e.x, .int .i64 e.y] rfl rfl ?c1 ?c2 ?c3 ?c4 ?c5 ?_)))
     case c0 => exact World.ownsRow.alloc HS7.out.2.2.2.2.1 _
     case c1 => exact lit_cells _ _ _
     case c2 => intro u hu; simp at hu; rcases hu with rfl | rfl | rfl <;> rfl
     case c3 => unfold maxLen; have := HLS.out; omega
     case c4 => have := HLS.out; omega
     case c5 => simp; omega
     intro v3 w9 hown3 hgrow3 hnil3
     have hst8 := HS7.out.below (w' := w7.alloc (.cells #[.int .i64 e.z, .int .i64 e.x, .int .i64 e.y] 97)) (by exact Qb)
     have hrow3 : RowS (w4.heap.size + 1) w9 v3 (s ++ [e]) := by
      unfold RowS
      rw [List.length_append]
      show World.ownsRow _ _ _ _ _ (s.length + 1) (cellsR (rfsOf (s ++ [e])) (s.length + 1))
      rw [cellsR_app]
      exact hown3
     obtain ⟨va3,vc3,hv3⟩ := hrow3.slice
     subst hv3
     have hst9 := hst8.sent (Nat.lt_succ_self _) hgrow3 hrow3
     have hb9 : Below w4.heap.size w4 w9 := (Below.alloc hB7 (by omega) _).trans (below_rowR hgrow3 (fun s hs => by have := hst8.2.2.2.2.1.block s hs; omega) (by simp; omega))
     have u1 : w9.cell? ⟨w4.heap.size,1,none⟩ = some v1 := ro_cellR hgrow3 hst8.2.1 (fun s hs => by have := hst8.2.2.2.2.1.block s hs; omega)
     have y1 : w9.frozen? ⟨w4.heap.size,1,none⟩ = false := (World.frozen?_of_block (a := ⟨w4.heap.size,1,none⟩) (hgrow3.block w4.heap.size (World.block_lt_of_cell? _ _ hst8.1) (fun e => by have := hst8.2.2.2.2.1.block _ e.symm; omega))).trans (hst8.2.2.2.1 1 (by omega)).2
     have hA9 : ReqAt w9 w6.heap.size 0 e' := by
      obtain ⟨a0,a1,a2,a3,a4⟩ := HA7.out.up (w' := w7.alloc (.cells #[.int .i64 e.z, .int .i64 e.x, .int .i64 e.y] 97)) (by exact Qb)
      have hne : ∀ s,v1.ownBlock = some s → w6.heap.size ≠ s := fun s hs he => by have := HS6.out.2.2.2.2.1.lt s hs; omega
      exact ⟨ro_cellR hgrow3 a0 hne,ro_cellR hgrow3 a1 hne,ro_cellR hgrow3 a2 hne,ro_cellR hgrow3 a3 hne,ro_cellR hgrow3 a4 hne⟩
     have hs9 := hgrow3.size
     generalize hLL : (s ++ [e]).length = SL at *
     go_upto_region 11 with fail
     generalize hX : (w9.setCell _ _ : World) = X
     have hstX : RtqS (w4.heap.size + 1) w4.heap.size X (.slice va3 SL vc3) v2 (s ++ [e]) l := by subst hX; exact hst9
     have hAX : ReqAt X w6.heap.size 0 e' := by
      obtain ⟨a0,a1,a2,a3,a4⟩ := hA9
      subst hX
      exact ⟨(set1_other (by simp <;> omega)).trans a0,(set1_other (by simp <;> omega)).trans a1,(set1_other (by simp <;> omega)).trans a2,(set1_other (by simp <;> omega)).trans a3,(set1_other (by simp <;> omega)).trans a4⟩
     have hBX : Below w4.heap.size w4 X := by subst hX; exact hb9.setCell (Nat.le_refl _) _
     have HWX : Hid (wr.heap.size ≤ X.heap.size) := by show _ ≤ _; have := HW7.out; subst hX; simp at hs9 ⊢; omega
     clear hX hst9 hA9 hb9 u1 y1 hown3 hgrow3 hnil3 hst8 hrow3 q0 q1 q2 r1 hB7 hs9
     have hR2 := hstX.2.2.1
     have hTX := hstX.2.2.2.1
     obtain ⟨p0,p1,p2,p3,p4⟩ := hAX
     simp only [Nat.zero_add] at p0 p1 p2 p3 p4
     have HSTX : Hid (RtqS (w4.heap.size + 1) w4.heap.size X (.slice va3 SL vc3) v2 (s ++ [e]) l) := hstX
     have hsX : w4.heap.size + 1 ≤ X.heap.size := Nat.le_trans hsr HWX.out
     have HBX : Hid (Below w4.heap.size w4 X) := hBX
     clear hstX hBX hTX
     go_wp2_with (first
      | (at_builtin; go_must (refine wpList_append_own _ rfl _ _ 36 rfl (w4.heap.size + 1) 99 i0 (.agg #[.int .i64 0, .int .i64 0, .int .i64 0, .int .i64 0, .int .i64 0]) 5 40 Tryz.underlying36 hi hz0 hz1 hz2 rfl (by decide) v2 l.length (cellsW l) rfl ?r0 ⟨X.heap.size,0,none⟩ 1 1 (reqCells e') rfl rfl ?r1 ?r2 ?r3 ?r4 ?r5 ?_)))
     case r0 => exact World.ownsRow.alloc HSTX.out.2.2.2.2.2 _
     case r1 => exact lit_cells _ _ _
     case r2 => exact reqCells_one _
     case r3 => unfold maxLen; have := HLR.out; omega
     case r4 => have := HLR.out; omega
     case r5 => simp; omega
     intro v4 w11 hown4 hgrow4 hnil4
     have hst4 := HSTX.out.below (w' := X.alloc (.cells #[.int .i64 e'.z, .int .i64 e'.x, .int .i64 e'.y, .int .i64 e'.du, .int .i64 e'.tr] 99)) (by exact Qb)
     have hrow4 : RowW (w4.heap.size + 1) w11 v4 (l ++ [e']) := by
      unfold RowW
      rw [cellsW_app,cellsW_one,List.length_append]
      exact hown4
     obtain ⟨va4,vc4,hv4⟩ := hrow4.slice
     subst hv4
     have hfin := hst4.reqs (Nat.lt_succ_self _) hgrow4 hrow4
     have hb11 : Below w4.heap.size w4 w11 := (Below.alloc HBX.out (by omega) _).trans (below_rowR hgrow4 (fun s hs => by have := hst4.2.2.2.2.2.block s hs; omega) (by simp; omega))
     have hs11 : w4.heap.size + 1 ≤ w11.heap.size := by have := hgrow4.size; simp at this; omega
     have u2 : w11.cell? ⟨w4.heap.size,2,none⟩ = some v2 := ro_cellR hgrow4 hst4.2.2.1 (fun s hs => by have := hst4.2.2.2.2.2.block s hs; omega)
     have y2 : w11.frozen? ⟨w4.heap.size,2,none⟩ = false := (World.frozen?_of_block (a := ⟨w4.heap.size,2,none⟩) (hgrow4.block w4.heap.size (World.block_lt_of_cell? _ _ hst4.1) (fun e => by have := hst4.2.2.2.2.2.block _ e.symm; omega))).trans (hst4.2.2.2.1 2 (by omega)).2
     have HFIN : Hid (RtqS (w4.heap.size + 1) w4.heap.size (w11.setCell ⟨w4.heap.size,2,none⟩ (.slice va4 (l ++ [e']).length vc4)) (.slice va3 SL vc3) (.slice va4 (l ++ [e']).length vc4) (s ++ [e]) (l ++ [e'])) := hfin
     have HB11 : Hid (Below w4.heap.size w4 w11) := hb11
     clear hown4 hgrow4 hnil4 hst4 hrow4 hfin hb11
     generalize (l ++ [e']).length = LL at *
     go_wp2_with fail
     go_roundw
     case rel => exact ⟨k + 1,_,_,by have := HLT.out; omega,by go_num,by rw [HSL.out,HRL.out,if_pos (by have := HD.out; omega)]; exact HFIN.out,HB11.out.setCell (Nat.le_refl _) _,by simp; omega⟩
     case measure => have := HLT.out; simp [intOf]; omega
    ·have HD : Hid (¬ e.du ≤ now) := hd
     have hdd : decide (e.du ≤ now) = false := by simpa using hd
     rw [hdd] at heq
     clear hd hdd
     go_upto_region 11 with fail
     generalize hX : (w6.alloc _ : World) = X
     have hb7 : Below w6.heap.size w6 X := by subst hX; exact Qb
     have hAX : ReqAt X w6.heap.size 0 e' := by subst hX; exact ⟨by simp [go_sem],by simp [go_sem],by simp [go_sem],by simp [go_sem],by simp [go_sem]⟩
     have hstX := HS6.out.below hb7
     have hBX : Below w4.heap.size w4 X := HB6.out.trans (hb7.mono (by omega))
     have HWX : Hid (wr.heap.size ≤ X.heap.size) := Nat.le_trans HW6.out hb7.size
     clear hX hb7 m0 m1 m2 m3 m4
     have hR2 := hstX.2.2.1
     have hTX := hstX.2.2.2.1
     obtain ⟨p0,p1,p2,p3,p4⟩ := hAX
     simp only [Nat.zero_add] at p0 p1 p2 p3 p4
     have HSTX : Hid (RtqS (w4.heap.size + 1) w4.heap.size X v1 v2 s l) := hstX
     have hsX : w4.heap.size + 1 ≤ X.heap.size := Nat.le_trans hsr HWX.out
     have HBX : Hid (Below w4.heap.size w4 X) := hBX
     clear hstX hBX hTX
     go_wp2_with (first
      | (at_builtin; go_must (refine wpList_append_own _ rfl _ _ 36 rfl (w4.heap.size + 1) 99 i0 (.agg #[.int .i64 0, .int .i64 0, .int .i64 0, .int .i64 0, .int .i64 0]) 5 40 Tryz.underlying36 hi hz0 hz1 hz2 rfl (by decide) v2 l.length (cellsW l) rfl ?r0 ⟨X.heap.size,0,none⟩ 1 1 (reqCells e') rfl rfl ?r1 ?r2 ?r3 ?r4 ?r5 ?_)))
     case r0 => exact World.ownsRow.alloc HSTX.out.2.2.2.2.2 _
     case r1 => exact lit_cells _ _ _
     case r2 => exact reqCells_one _
     case r3 => unfold maxLen; have := HLR.out; omega
     case r4 => have := HLR.out; omega
     case r5 => simp; omega
     intro v4 w11 hown4 hgrow4 hnil4
     have hst4 := HSTX.out.below (w' := X.alloc (.cells #[.int .i64 e'.z, .int .i64 e'.x, .int .i64 e'.y, .int .i64 e'.du, .int .i64 e'.tr] 99)) (by exact Qb)
     have hrow4 : RowW (w4.heap.size + 1) w11 v4 (l ++ [e']) := by
      unfold RowW
      rw [cellsW_app,cellsW_one,List.length_append]
      exact hown4
     obtain ⟨va4,vc4,hv4⟩ := hrow4.slice
     subst hv4
     have hfin := hst4.reqs (Nat.lt_succ_self _) hgrow4 hrow4
     have hb11 : Below w4.heap.size w4 w11 := (Below.alloc HBX.out (by omega) _).trans (below_rowR hgrow4 (fun s hs => by have := hst4.2.2.2.2.2.block s hs; omega) (by simp; omega))
     have hs11 : w4.heap.size + 1 ≤ w11.heap.size := by have := hgrow4.size; simp at this; omega
     have u2 : w11.cell? ⟨w4.heap.size,2,none⟩ = some v2 := ro_cellR hgrow4 hst4.2.2.1 (fun s hs => by have := hst4.2.2.2.2.2.block s hs; omega)
     have y2 : w11.frozen? ⟨w4.heap.size,2,none⟩ = false := (World.frozen?_of_block (a := ⟨w4.heap.size,2,none⟩) (hgrow4.block w4.heap.size (World.block_lt_of_cell? _ _ hst4.1) (fun e => by have := hst4.2.2.2.2.2.block _ e.symm; omega))).trans (hst4.2.2.2.1 2 (by omega)).2
     have HFIN : Hid (RtqS (w4.heap.size + 1) w4.heap.size (w11.setCell ⟨w4.heap.size,2,none⟩ (.slice va4 (l ++ [e']).length vc4)) v1 (.slice va4 (l ++ [e']).length vc4) s (l ++ [e'])) := hfin
     have HB11 : Hid (Below w4.heap.size w4 w11) := hb11
     clear hown4 hgrow4 hnil4 hst4 hrow4 hfin hb11
     generalize (l ++ [e']).length = LL at *
     go_wp2_with fail
     go_roundw
     case rel => exact ⟨k + 1,_,_,by have := HLT.out; omega,by go_num,by rw [HSL.out,HRL.out,if_neg (by have := HD.out; omega)]; exact HFIN.out,HB11.out.setCell (Nat.le_refl _) _,by simp; omega⟩
     case measure => have := HLT.out; simp [intOf]; omega
   ·obtain rfl : n = k := by omega
    have HST2 : Hid (RtqS (w4.heap.size + 1) w4.heap.size wr v1 v2 (sentL now E n) (retL now E n)) := hst
    obtain ⟨va1,vc1,hv1⟩ := hst.2.2.2.2.1.slice
    obtain ⟨va2,vc2,hv2⟩ := hst.2.2.2.2.2.slice
    generalize hS1 : (sentL now E n).length = S1 at *
    generalize hS2 : (retL now E n).length = S2 at *
    subst hv1 hv2
    have HBr : Hid (Below w.heap.size w wr) := bl_then HBW.out hB
    have HTr : Hid (There wr w.heap.size 3) := HT4.out.below hB
    have g0 := hst.1
    have g1 := hst.2.1
    have g2 := hst.2.2.1
    have t0 := HTr.out.cell 0 (by omega)
    have t1 := HTr.out.cell 1 (by omega)
    have t2 := HTr.out.cell 2 (by omega)
    have f0 := (HTr.out 0 (by omega)).2
    have f1 := (HTr.out 1 (by omega)).2
    have f2 := (HTr.out 2 (by omega)).2
    clear hst hB
    go_wp2_with fail
    obtain ⟨q0,q1,q2⟩ := set3q (a := .int .i64 0) (b := .slice va1 S1 vc1) (c := .slice va2 S2 vc2) HTr.out
    refine bodyPost_ret (resRetry rfl q0 q1 q2) rfl ⟨_,_,by rw [HR0.out],?_,?_,?_⟩
    ·rw [HS.out]; exact HST2.out.2.2.2.2.1.set3 (by omega) (by omega)
    ·rw [HL.out]; exact HST2.out.2.2.2.2.2.set3 (by omega) (by omega)
    ·exact ((HBr.out.setCell (Nat.le_refl _) _).setCell (Nat.le_refl _) _).setCell (Nat.le_refl _) _
 ·have hp0' : (retC n E now == 0) = false := by simpa using hp0
  have HS : Hid (retP n E now = []) := by show _ = _; unfold retP; rw [if_neg hp0]
  have HL : Hid (retQ n E now = []) := by show _ = _; unfold retQ; rw [if_neg hp0]
  have HT4 : Hid (There w4 w.heap.size 3) := HTH.out.below hB3
  have HB4 : Hid (Below w.heap.size w w4) := bl_then HB0.out hB3
  have t0 := HT4.out.cell 0 (by omega)
  have t1 := HT4.out.cell 1 (by omega)
  have t2 := HT4.out.cell 2 (by omega)
  have f0 := (HT4.out 0 (by omega)).2
  have f1 := (HT4.out 1 (by omega)).2
  have f2 := (HT4.out 2 (by omega)).2
  obtain ⟨kk,hkk⟩ : ∃ kk,retC n E now = kk := ⟨_,rfl⟩
  have HKK : Hid (retC n E now = kk) := hkk
  rw [hkk] at hp0' ⊢
  clear hp0 hB3 hkk
  go_wp2_with fail
  obtain ⟨q0,q1,q2⟩ := set3q (a := .int .i64 kk) (b := .slice none 0 0) (c := .slice none 0 0) HT4.out
  refine bodyPost_ret (resRetry rfl q0 q1 q2) rfl ⟨_,_,by rw [HKK.out],by rw [HS.out]; exact RowS.no _ _,by rw [HL.out]; exact RowW.no _ _,?_⟩
  exact ((HB4.out.setCell (Nat.le_refl _) _).setCell (Nat.le_refl _) _).setCell (Nat.le_refl _) _
end Go.Proofs.YtiephlohemphjaaGreat
