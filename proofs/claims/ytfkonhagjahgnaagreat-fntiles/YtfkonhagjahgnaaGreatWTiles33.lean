/- Texts. -/
import Derived.Test.YtfkonhagjahgnaaGreatWTiles8
import Derived.Test.YtfkonhagjahgnaaGreatWTiles30
import Derived.Test.YtfkonhagjahgnaaGreatWTiles28
import Derived.Test.YtfkonhagjahgnaaGreatWTiles13
import Derived.Tactics
import Derived.Tactics2
import Derived.Defers
import Derived.Recover
import Derived.Laws.Pointers
import Derived.Test.YtfkonhagjahgnaaGreatWTiles22
import Derived.Test.YtfkonhagjahgnaaGreatWTiles29
import Derived.Test.YtfkonhagjahgnaaGreatWTiles27
import Derived.Test.YtfkonhagjahgnaaGreatWTiles24
set_option linter.unusedSimpArgs false
set_option linter.unusedVariables false
set_option maxRecDepth 100000
set_option maxHeartbeats 32000000
namespace Go.Proofs.YtfkonhagjahgnaaGreat
open Go.RowKit
def Stands (Z : Nat → Int) (o : Nat) (l : List Int) : Prop := ∀ j,j < l.length → Z (j + o) = zz l j
theorem zz_app_left {l m : List Int} {j : Nat} (h : j < l.length) : zz (l ++ m) j = zz l j := by simp [zz,List.getD,List.getElem?_append_left h]
theorem zz_app_right {l m : List Int} {j : Nat} : zz (l ++ m) (l.length + j) = zz m j := by simp [zz,List.getD,List.getElem?_append_right]
theorem stands_app {Z : Nat → Int} {o : Nat} {l m : List Int} : Stands Z o (l ++ m) ↔ Stands Z o l ∧ Stands Z (o + l.length) m := by
 constructor
 ·intro h
  refine ⟨fun j hj => ?_,fun j hj => ?_⟩
  ·have := h j (by simp; omega)
   rwa [zz_app_left hj] at this
  ·have := h (l.length + j) (by simp; omega)
   rw [zz_app_right] at this
   rw [← this]
   congr 1
   omega
 ·rintro ⟨h1,h2⟩ j hj
  rcases Nat.lt_or_ge j l.length with h | h
  ·rw [zz_app_left h]; exact h1 j h
  ·obtain ⟨k,rfl⟩ : ∃ k,j = l.length + k := ⟨j - l.length,by omega⟩
   rw [zz_app_right, ← h2 k (by simp at hj; omega)]
   congr 1
   omega
theorem rd_stands {Z : Nat → Int} {o n m : Nat} (h : Stands Z o (putI m)) (hn : o + (putI m).length ≤ n) (hm : m ≤ 1099511627776) : rd (fun i => Z (i + o)) (n - o) = some (m,(putI m).length) :=
 rd_put (fun j hj => h j hj) (by omega) hm
theorem hd_cons (x : Nat) (l : List Nat) : hd (x :: l) = putI x ++ hd l := by simp [hd]
def stpL : Int → Int → List (Int × Int) → List Int
 | _,_, [] => []
 | x,y,(a,b) :: l => putI (foldI (a - x)).toNat ++ (putI (foldI (b - y)).toNat ++ stpL a b l)
def lastP : Int × Int → List (Int × Int) → Int × Int
 | p, [] => p
 | _,q :: l => lastP q l
theorem lastP_snoc : ∀ (p : Int × Int) (l : List (Int × Int)) (q : Int × Int),lastP p (l ++ [q]) = q
 | _, [],_ => rfl
 | _,r :: l,q => lastP_snoc r l q
theorem stpL_snoc : ∀ (x y : Int) (l : List (Int × Int)) (a b : Int),stpL x y (l ++ [(a,b)]) = stpL x y l ++ (putI (foldI (a - (lastP (x,y) l).1)).toNat ++ putI (foldI (b - (lastP (x,y) l).2)).toNat)
 | x,y, [],a,b => by simp [stpL,lastP]
 | x,y,(c,d) :: l,a,b => by
  have := stpL_snoc c d l a b
  simp only [List.cons_append,stpL,this,lastP,List.append_assoc]
theorem ptsL_to {X Y X' Y' : Nat → Int} : ∀ (k : Nat),(∀ i,i < k → X i = X' i ∧ Y i = Y' i) → ptsL X Y k = ptsL X' Y' k
 | 0,_ => rfl
 | k + 1,h => by
  have e1 : ahX X k = ahX X' k := by unfold ahX; split; rfl; exact (h _ (by omega)).1
  have e2 : ahX Y k = ahX Y' k := by unfold ahX; split; rfl; exact (h _ (by omega)).2
  simp only [ptsL,stepL,ptsL_to k (fun i hi => h i (by omega)),(h k (by omega)).1,(h k (by omega)).2,e1,e2]
theorem px_snoc {l : List (Int × Int)} {q : Int × Int} : (∀ i,i < l.length → px (l ++ [q]) i = px l i ∧ py (l ++ [q]) i = py l i) ∧ px (l ++ [q]) l.length = q.1 ∧ py (l ++ [q]) l.length = q.2 := by
 refine ⟨fun i hi => ?_,?_,?_⟩
 ·simp [px,py,List.getD,List.getElem?_append_left hi]
 ·simp [px,List.getD]
 ·simp [py,List.getD]
theorem lastP_px (l : List (Int × Int)) : (lastP (0,0) l).1 = ahX (px l) l.length ∧ (lastP (0,0) l).2 = ahX (py l) l.length := by
 rcases List.eq_nil_or_concat l with rfl | ⟨m,q,rfl⟩
 ·exact ⟨rfl,rfl⟩
 ·rw [List.concat_eq_append,lastP_snoc]
  have h := @px_snoc m q
  have e : (m ++ [q]).length = m.length + 1 := by simp
  rw [e]
  simp only [ahX,Nat.add_sub_cancel]
  exact ⟨by rw [if_neg (by omega),h.2.1],by rw [if_neg (by omega),h.2.2]⟩
theorem stpL_pts : ∀ (k : Nat) (l : List (Int × Int)),l.length = k → stpL 0 0 l = ptsL (px l) (py l) k
 | 0,l,h => by
  have := List.length_eq_zero_iff.1 h
  subst this
  rfl
 | k + 1,l,h => by
  rcases List.eq_nil_or_concat l with rfl | ⟨m,q,rfl⟩
  ·simp at h
  ·have hm : m.length = k := by simpa using h
   obtain ⟨a,b⟩ := q
   rw [List.concat_eq_append,stpL_snoc,stpL_pts k m hm,(lastP_px m).1,(lastP_px m).2,hm]
   have hx := @px_snoc m (a,b)
   rw [hm] at hx
   simp only [ptsL,stepL,hx.2.1,hx.2.2]
   rw [ptsL_to k (fun i hi => hx.1 i hi)]
   have e1 : ahX (px (m ++ [(a,b)])) k = ahX (px m) k := by unfold ahX; split; rfl; exact (hx.1 _ (by omega)).1
   have e2 : ahX (py (m ++ [(a,b)])) k = ahX (py m) k := by unfold ahX; split; rfl; exact (hx.1 _ (by omega)).2
   rw [e1,e2]
theorem stands_shift {Z : Nat → Int} {o q : Nat} {l : List Int} : Stands (fun i => Z (i + o)) q l ↔ Stands Z (o + q) l := by
 unfold Stands
 refine forall_congr' fun j => forall_congr' fun hj => ?_
 show Z (j + q + o) = _ ↔ Z (j + (o + q)) = _
 rw [show j + q + o = j + (o + q) by omega]
theorem labL_nums {l : List Int} (h : ∀ x ∈ l,0 ≤ x ∧ x ≤ 255) : labL (strOfNums l) = l := by
 unfold labL
 rw [strOfNums_data,List.map_map]
 conv => rhs; rw [← List.map_id l]
 apply List.map_congr_left
 intro x hx
 have := h x hx
 simp [Function.comp]
 omega
theorem hd_app (l m : List Nat) : hd (l ++ m) = hd l ++ hd m := by simp [hd]
theorem five {l : List Nat} (h : l.length = 5) : l = [l.getD 0 0,l.getD 1 0,l.getD 2 0,l.getD 3 0,l.getD 4 0] := by
 match l,h with
 | [a,b,c,d,e],_ => rfl
theorem fL_fx {f : Fx} (h : f.ns.length = 5) : fL (fxFeat f none 0) = hd f.ns ++ (putI f.lab.size ++ (labL f.lab ++ (putI f.pts.length ++ ptsL (px f.pts) (py f.pts) f.pts.length))) := by
 have e := five h
 generalize f.ns.getD 0 0 = a at e
 have e2 : fL (fxFeat f none 0) = featL (f.ns.getD 0 0) (f.ns.getD 1 0) (f.ns.getD 2 0) (f.ns.getD 3 0) (f.ns.getD 4 0) f.lab f.pts.length (px f.pts) (py f.pts) := by
  simp [fL,fxFeat]
 rw [e2]
 unfold featL
 rw [show hd [f.ns.getD 0 0,f.ns.getD 1 0,f.ns.getD 2 0,f.ns.getD 3 0,f.ns.getD 4 0,f.lab.size] = hd ([f.ns.getD 0 0,f.ns.getD 1 0,f.ns.getD 2 0,f.ns.getD 3 0,f.ns.getD 4 0] ++ [f.lab.size]) from rfl, ← five h,hd_app]
 simp [hd,List.append_assoc]
open Classical in
noncomputable def upG (Z : Nat → Int) (n : Nat) : Option (List Fx) :=
 if sumOk Z n then (rdList Z (n - 2)).bind fun x => if n - 2 ≤ x.2 ∧ fxC x.1 = 0 ∧ fxO x.1 = true then some x.1 else none else none
def UnP (Z : Nat → Int) (n : Nat) (w : World) (e : Ending) (w' : World) : Prop :=
 (if 900 < n then e = .returned (.agg #[.int .i64 2, .slice none 0 0]) else
  match upG Z n with
  | none => e = .returned (.agg #[.int .i64 5, .slice none 0 0])
  | some fs => ∃ v H,e = .returned (.agg #[.int .i64 0,v]) ∧ FxRow w.heap.size w' v fs H) ∧ Below w.heap.size w w'
theorem UnP.none {Z : Nat → Int} {n : Nat} {w w' : World} (hn : ¬ 900 < n) (h : upG Z n = none) (hb : Below w.heap.size w w') : UnP Z n w (.returned (.agg #[.int .i64 5, .slice none 0 0])) w' := by
 unfold UnP
 rw [if_neg hn,h]
 exact ⟨rfl,hb⟩
theorem UnP.some {Z : Nat → Int} {n : Nat} {w w' : World} {fs : List Fx} {v : Value} {H : Nat → Feat} (hn : ¬ 900 < n) (h : upG Z n = some fs) (hx : FxRow w.heap.size w' v fs H) (hb : Below w.heap.size w w') : UnP Z n w (.returned (.agg #[.int .i64 0,v])) w' := by
 unfold UnP
 rw [if_neg hn,h]
 exact ⟨⟨v,H,rfl,hx⟩,hb⟩
theorem unpackCatch_panicking (r : Nat) (u : TypeId) (pv : Value) (older : List PanicEntry) (w : World) (ht : There w r 2) :
  CallsD Tryz.prog 76 #[.pointer (some ⟨r,0,none⟩)] (.panicking ({ v := .iface u pv,recovered := false } :: older)) w fun e u' w' =>
   e = .returned (.tuple #[]) ∧ u' = .panicking ({ v := .iface u pv,recovered := true } :: older) ∧ (w.setCell ⟨r,0,none⟩ (.int .i64 5)).setCell ⟨r,1,none⟩ (.slice none 0 0) = w' := by
 have c0 := ht.cell 0 (by omega)
 have c1 := ht.cell 1 (by omega)
 have f0 := (ht 0 (by omega)).2
 have f1 := (ht 1 (by omega)).2
 refine callsD_of_wpS Tryz.func76 rfl fun a₀ cs hu => ?_
 apply wpS_seq
 apply wpS_region
 simp [wpOpsS,go_sem,recoverD,hu,Tryz.ntmps76,Exit.thenS]
 refine wpS_cond (t := true) (by simp [Act.eval,Array.replicate]) ?_
 simp only [if_true]
 apply wpS_region
 simp [wpOpsS,go_sem,c0,c1,f0,f1,bodyPostS,results,Tryz.results76]
theorem unpackCatch_idle (p : Addr) (w : World) :
  CallsD Tryz.prog 76 #[.pointer (some p)] .returning w fun e u' w' => e = .returned (.tuple #[]) ∧ u' = .returning ∧ w = w' := by
 refine callsD_of_wpS Tryz.func76 rfl fun a₀ cs hu => ?_
 apply wpS_seq
 apply wpS_region
 simp [wpOpsS,go_sem,recoverD,hu,Tryz.ntmps76,Exit.thenS]
 refine wpS_cond (t := false) (by simp [Act.eval,Array.replicate]) ?_
 simp only [Bool.false_eq_true,if_false]
 refine wpS_of_wp (wp_skip ?_)
 cases a₀
 simp_all [bodyPostS,results,Tryz.results76]
open Classical in
theorem checkSum_any (p B n : Nat) (Z : Nat → Int) (w : World) (h : UpAt w p B n Z) (hB : B ≤ p) (hp : p < w.heap.size) (hr : ∀ i,0 ≤ Z i ∧ Z i ≤ 255) (hmax : n ≤ 1048576) :
  Calls Tryz.prog 77 #[.pointer (some ⟨p,0,none⟩)] w fun e w' => if sumOk Z n then e = .returned (.tuple #[]) ∧ UpAt w' p B (n - 2) Z ∧ Keeps p w w' else Pan e ∧ Keeps p w w' := by
 by_cases hn : n < 2
 ·refine (checkSum_short p B n Z w h hn).mono ?_
  intro e w' hq
  rw [if_neg (fun hs => by have := hs.1; omega)]
  exact hq
 ·refine (checkSum_long p B n Z w h hB hp hr (by omega) hmax).mono ?_
  intro e w' hq
  by_cases hs : Z (n - 2) * 256 + Z (n - 1) = sumZ Z (n - 2)
  ·rw [if_pos hs] at hq
   rw [if_pos (show sumOk Z n from ⟨by omega,hs⟩)]
   exact hq
  ·rw [if_neg hs] at hq
   rw [if_neg (fun h' => hs h'.2)]
   exact hq
def fsL (fs : List Fx) : List Int := fs.flatMap fun f => fL (fxFeat f none 0)
theorem fsL_cons (f : Fx) (fs : List Fx) : fsL (f :: fs) = fL (fxFeat f none 0) ++ fsL fs := by simp [fsL]
theorem fsL_snoc (f : Fx) (fs : List Fx) : fsL (fs ++ [f]) = fsL fs ++ fL (fxFeat f none 0) := by simp [fsL]
theorem catL_to {G H : Nat → Feat} : ∀ (k : Nat),(∀ i,i < k → G i = H i) → catL G k = catL H k
 | 0,_ => rfl
 | k + 1,h => by simp only [catL,catL_to k (fun i hi => h i (by omega)),h k (by omega)]
theorem fsL_cat : ∀ (k : Nat) (fs : List Fx),fs.length = k → fsL fs = catL (fxG fs) k
 | 0,fs,h => by
  have := List.length_eq_zero_iff.1 h
  subst this
  rfl
 | k + 1,fs,h => by
  rcases List.eq_nil_or_concat fs with rfl | ⟨m,q,rfl⟩
  ·simp at h
  ·have hm : m.length = k := by simpa using h
   rw [List.concat_eq_append,fsL_snoc,fsL_cat k m hm]
   have e : ∀ i,i < k + 1 → fxG (m ++ [q]) i = if i = k then fxFeat q none 0 else fxG m i := fun i hi => by
    unfold fxG
    rw [fxAt_app (by omega),hm]
    split <;> rfl
   simp only [catL]
   rw [e k (by omega),if_pos rfl,catL_to (G := fxG (m ++ [q])) (H := fxG m) k (fun i hi => by rw [e i (by omega),if_neg (by omega)])]


theorem sumZ_far {Z Y : Nat → Int} : ∀ (k : Nat),(∀ i,i < k → Z i = Y i) → sumZ Z k = sumZ Y k
 | 0,_ => rfl
 | k + 1,h => by simp only [sumZ,sumZ_far k (fun i hi => h i (by omega)),h k (by omega)]
def Whole (Z : Nat → Int) (n : Nat) (l : List Int) : Prop := l.length = n ∧ Stands Z 0 l
theorem endL_len (l : List Int) : (endL l).length = l.length + 2 := by simp [endL]
theorem whole_end {Z : Nat → Int} {n : Nat} {l : List Int} (hz : ∀ i,0 ≤ Z i ∧ Z i ≤ 255) : Whole Z n (endL l) ↔ (sumOk Z n ∧ l.length = n - 2 ∧ Stands Z 0 l) := by
 unfold Whole sumOk
 rw [endL_len]
 unfold endL
 rw [stands_app,Nat.zero_add]
 constructor
 ·rintro ⟨hn,hl,ht⟩
  have h0 := ht 0 (by simp)
  have h1 := ht 1 (by simp)
  rw [Nat.zero_add,zz_cons_zero] at h0
  rw [show (1 : Nat) = 0 + 1 from rfl,zz_cons_succ,zz_cons_zero] at h1
  have e2 : n - 2 = l.length := by omega
  have e1 : n - 1 = 0 + 1 + l.length := by omega
  refine ⟨⟨by omega,?_⟩,by omega,hl⟩
  rw [e1,e2,h0,h1,sumZ_far (Z := Z) (Y := zz l) l.length (fun i hi => hl i hi),sumL_eq]
  omega
 ·rintro ⟨⟨hn,hs⟩,hl,hst⟩
  refine ⟨by omega,hst,?_⟩
  have e1 : n - 1 = l.length + 1 := by omega
  rw [← hl,e1,sumZ_far (Z := Z) (Y := zz l) l.length (fun i hi => hst i hi),sumL_eq] at hs
  have hb := hz (l.length + 1)
  have hb0 := hz l.length
  intro j hj
  have hj' : j = 0 ∨ j = 1 := by simp at hj; omega
  rcases hj' with rfl | rfl
  ·rw [Nat.zero_add,zz_cons_zero]
   omega
  ·rw [show (1 : Nat) = 0 + 1 from rfl,zz_cons_succ,zz_cons_zero,show 0 + 1 + l.length = l.length + 1 by omega]
   omega
theorem fL_fx2 {f g : Feat} (h : f.same g) : fL f = fL g := by
 obtain ⟨h1,h2,h3,h4,h5,h6,h7,h8,h9⟩ := h
 unfold fL
 rw [h1,h2,h3,h4,h5,h6,h7,h8,h9]
theorem catL_fx2 {G H : Nat → Feat} {n : Nat} (h : ∀ i,i < n → (G i).same (H i)) : ∀ k,k ≤ n → catL G k = catL H k
 | 0,_ => rfl
 | k + 1,hk => by rw [catL,catL,catL_fx2 h k (by omega),fL_fx2 (h k (by omega))]
theorem rdNs_put {Z : Nat → Int} {n : Nat} : ∀ (N : List Nat) (o : Nat),(∀ x ∈ N,x ≤ 1099511627776) → Stands Z o (hd N) → o + (hd N).length ≤ n → rdNs Z N.length n o = some (N,o + (hd N).length)
 | [],o,_,_,_ => by simp [rdNs,hd]
 | x :: N,o,hx,hs,hn => by
  rw [hd_cons] at hs hn ⊢
  rw [List.length_append] at hn ⊢
  obtain ⟨h1,h2⟩ := stands_app.1 hs
  have hr := rd_stands (n := n) h1 (by omega) (hx x (List.mem_cons_self ..))
  rw [List.length_cons,rdNs_some hr,rdNs_put N _ (fun y hy => hx y (List.mem_cons_of_mem _ hy)) h2 (by omega),Option.map_some,Nat.add_assoc]
theorem rdUp_put {Z : Nat → Int} {o n m most : Nat} (h : Stands Z o (putI m)) (hn : o + (putI m).length ≤ n) (hm : m ≤ most) (hb : m ≤ 1099511627776) : rdUp most (fun i => Z (i + o)) (n - o) = some (m,(putI m).length) := by
 unfold rdUp
 rw [rd_stands h hn hb,Option.bind_some,if_neg (by show ¬ most < m; omega)]
theorem rdLab_put {Z : Nat → Int} {n o : Nat} (s : ByteArray) (hs : s.size ≤ 6) (h1 : Stands Z o (putI s.size)) (h2 : Stands Z (o + (putI s.size).length) (labL s)) (hn : o + (putI s.size).length + s.size ≤ n) :
  rdLab Z n o = some (labL s,o + (putI s.size).length + s.size) := by
 unfold rdLab
 rw [rdUp_put h1 (by omega) hs (by omega),Option.bind_some,if_neg (by show ¬ n - (o + (putI s.size).length) < s.size; omega)]
 have e : (List.range s.size).map (fun i => Z (i + (o + (putI s.size).length))) = labL s := by
  apply List.ext_getElem
  ·simp [labL_len]
  ·intro i hi1 hi2
   have := h2 i hi2
   simp only [List.getElem_map,List.getElem_range]
   rw [this]
   unfold zz
   simp [List.getD_eq_getElem?_getD,hi2]
 rw [e]
theorem nums_labL (s : ByteArray) : strOfNums (labL s) = s := by
 have hb : ∀ x ∈ labL s,0 ≤ x ∧ x ≤ 255 := labL_byt s
 have h := labL_nums hb
 have hinj : ∀ a b : ByteArray,labL a = labL b → a = b := fun a b hab => by
  unfold labL at hab
  have : a.data.toList = b.data.toList := by
   refine List.map_inj_right (f := fun x : UInt8 => (x.toNat : Int)) (fun x y hxy => ?_) |>.1 hab
   have h' : (x.toNat : Int) = (y.toNat : Int) := hxy
   exact UInt8.toNat_inj.1 (by omega)
  cases a; cases b
  simp at this
  rw [this]
 exact hinj _ _ h
theorem rdStep_put {Z : Nat → Int} {o n : Nat} (d : Int) (hb : -1024 ≤ d ∧ d ≤ 1024) (h : Stands Z o (putI (foldI d).toNat)) (hn : o + (putI (foldI d).toNat).length ≤ n) : rdStep (fun i => Z (i + o)) (n - o) = some (d,(putI (foldI d).toNat).length) := by
 have h0 : 0 ≤ foldI d ∧ foldI d ≤ 2049 := by unfold foldI; split <;> omega
 unfold rdStep
 rw [rdUp_put h hn (by omega) (by omega),Option.map_some]
 have e : ((foldI d).toNat : Int) = foldI d := by omega
 simp only [e,unfold_fold]
theorem rdPts_put {Z : Nat → Int} {n : Nat} : ∀ (l : List (Int × Int)) (o : Nat) (x y : Int),(0 ≤ x ∧ x ≤ 1024) → (0 ≤ y ∧ y ≤ 1024) → (∀ q ∈ l,(0 ≤ q.1 ∧ q.1 ≤ 1024) ∧ (0 ≤ q.2 ∧ q.2 ≤ 1024)) → Stands Z o (stpL x y l) → o + (stpL x y l).length ≤ n →
  rdPts Z l.length n o x y = some (l,o + (stpL x y l).length)
 | [],o,x,y,_,_,_,_,_ => by simp [rdPts,stpL]
 | (a,b) :: l,o,x,y,hx,hy,hl,hs,hn => by
  have hq := hl (a,b) (List.mem_cons_self ..)
  simp only at hq
  unfold stpL at hs hn ⊢
  simp only [List.length_append] at hn ⊢
  obtain ⟨h1,h2⟩ := stands_app.1 hs
  obtain ⟨h3,h4⟩ := stands_app.1 h2
  have r1 := rdStep_put (n := n) (a - x) (by omega) h1 (by omega)
  have r2 := rdStep_put (n := n) (b - y) (by omega) h3 (by omega)
  have r3 := rdPts_put (n := n) l (o + (putI (foldI (a - x)).toNat).length + (putI (foldI (b - y)).toNat).length) a b hq.1 hq.2 (fun q hq' => hl q (List.mem_cons_of_mem _ hq')) h4 (by omega)
  have e1 : x + (a - x) = a := by omega
  have e2 : y + (b - y) = b := by omega
  simp only [List.length_cons,rdPts,r1,r2,Option.bind_some,e1,e2,r3,Option.map_some]
  congr 2
  omega
theorem rdAll_put {Z : Nat → Int} {o n : Nat} (l : List (Int × Int)) (h12 : l.length ≤ 12) (hl : ∀ q ∈ l,(0 ≤ q.1 ∧ q.1 ≤ 1024) ∧ (0 ≤ q.2 ∧ q.2 ≤ 1024)) (hs : Stands Z o (putI l.length ++ ptsL (px l) (py l) l.length)) (hn : o + (putI l.length ++ ptsL (px l) (py l) l.length).length ≤ n) :
  rdAll (fun i => Z (i + o)) (n - o) = some (l,(putI l.length ++ ptsL (px l) (py l) l.length).length) := by
 rw [List.length_append] at hn ⊢
 obtain ⟨h1,h2⟩ := stands_app.1 hs
 rw [← stpL_pts l.length l rfl] at h2 hn ⊢
 unfold rdAll
 rw [rdUp_put h1 (by omega) h12 (by omega),Option.bind_some]
 exact rdPts_put (Z := fun i => Z (i + o)) (n := n - o) l _ 0 0 (by omega) (by omega) hl (stands_shift.2 h2) (by simp only; omega)
structure FxOk (f : Fx) : Prop where
 five : f.ns.length = 5
 small : ∀ x ∈ f.ns,x ≤ 999
 lab : f.lab.size ≤ 6
 pts : f.pts.length ≤ 12
 near : ∀ q ∈ f.pts,(0 ≤ q.1 ∧ q.1 ≤ 1024) ∧ (0 ≤ q.2 ∧ q.2 ≤ 1024)
theorem rdFeat_put {Z : Nat → Int} {o n : Nat} (f : Fx) (hf : FxOk f) (hs : Stands Z o (fL (fxFeat f none 0))) (hn : o + (fL (fxFeat f none 0)).length ≤ n) : rdFeat (fun i => Z (i + o)) (n - o) = some (f,(fL (fxFeat f none 0)).length) := by
 rw [fL_fx hf.five] at hs hn ⊢
 simp only [List.length_append,labL_len] at hn ⊢
 obtain ⟨h1,h2⟩ := stands_app.1 hs
 obtain ⟨h3,h4⟩ := stands_app.1 h2
 obtain ⟨h5,h6⟩ := stands_app.1 h4
 rw [labL_len] at h6
 have r1 := rdNs_put (Z := fun i => Z (i + o)) (n := n - o) f.ns 0 (fun x hx => by have := hf.small x hx; omega) (stands_shift.2 h1) (by omega)
 rw [hf.five,Nat.zero_add] at r1
 have r2 := rdLab_put (Z := fun i => Z (i + o)) (n := n - o) (o := (hd f.ns).length) f.lab hf.lab (stands_shift.2 h3) (stands_shift.2 (by rw [← Nat.add_assoc]; exact h5)) (by omega)
 have r3 := rdAll_put (Z := Z) (n := n) (o := o + (hd f.ns).length + (putI f.lab.size).length + f.lab.size) f.pts hf.pts hf.near h6 (by rw [List.length_append]; omega)
 unfold rdFeat
 rw [r1,Option.bind_some]
 simp only
 rw [r2,Option.bind_some]
 simp only
 have e1 : (fun i => (fun i => Z (i + o)) (i + ((hd f.ns).length + (putI f.lab.size).length + f.lab.size))) = fun i => Z (i + (o + (hd f.ns).length + (putI f.lab.size).length + f.lab.size)) := by
  funext i
  simp only
  congr 1
  omega
 have e2 : n - o - ((hd f.ns).length + (putI f.lab.size).length + f.lab.size) = n - (o + (hd f.ns).length + (putI f.lab.size).length + f.lab.size) := by omega
 rw [e1,e2,r3,Option.map_some,nums_labL,List.length_append]
 congr 2
 omega
theorem rdFs_put {Z : Nat → Int} {n : Nat} : ∀ (fs : List Fx) (o : Nat),(∀ f ∈ fs,FxOk f) → Stands Z o (fsL fs) → o + (fsL fs).length ≤ n → rdFs Z fs.length n o = some (fs,o + (fsL fs).length)
 | [],o,_,_,_ => by simp [rdFs,fsL]
 | f :: fs,o,hf,hs,hn => by
  rw [fsL_cons] at hs hn ⊢
  rw [List.length_append] at hn ⊢
  obtain ⟨h1,h2⟩ := stands_app.1 hs
  have r1 := rdFeat_put (n := n) f (hf f (List.mem_cons_self ..)) h1 (by omega)
  rw [List.length_cons,rdFs_some r1,rdFs_put fs _ (fun g hg => hf g (List.mem_cons_of_mem _ hg)) h2 (by omega),Option.map_some,Nat.add_assoc]
theorem rdList_put {Z : Nat → Int} {n : Nat} (fs : List Fx) (h12 : fs.length ≤ 12) (hf : ∀ f ∈ fs,FxOk f) (hs : Stands Z 0 (datL fs.length (fxG fs))) (hn : (datL fs.length (fxG fs)).length ≤ n) : rdList Z n = some (fs,(datL fs.length (fxG fs)).length) := by
 unfold datL at hs hn ⊢
 rw [← fsL_cat fs.length fs rfl] at hs hn ⊢
 rw [List.length_append] at hn ⊢
 obtain ⟨h1,h2⟩ := stands_app.1 hs
 rw [Nat.zero_add] at h2
 unfold rdList
 have r := rdUp_put (Z := Z) (o := 0) (n := n) (m := fs.length) (most := 12) h1 (by omega) h12 (by omega)
 simp only [Nat.add_zero,Nat.sub_zero] at r
 rw [r,Option.bind_some]
 exact rdFs_put fs _ hf h2 hn
theorem upG_pack {Z : Nat → Int} {n : Nat} (hz : ∀ i,0 ≤ Z i ∧ Z i ≤ 255) (fs : List Fx) (hf : ∀ f ∈ fs,FxOk f) (hc : fxC fs = 0) (ho : fxO fs = true) (hw : Whole Z n (endL (datL fs.length (fxG fs)))) : upG Z n = some fs := by
 obtain ⟨hs,hl,hst⟩ := (whole_end hz).1 hw
 have h12 := (featsC_ok hc).1
 have r := rdList_put (Z := Z) (n := n - 2) fs h12 hf hst (by omega)
 unfold upG
 rw [if_pos hs,r,Option.bind_some,if_pos ⟨by show n - 2 ≤ _; omega,hc,ho⟩]
def fxOf (f : Feat) (l : List (Int × Int)) : Fx := ⟨[f.id.toNat,f.la.toNat,f.ki.toNat,f.wi.toNat,f.pr.toNat],f.lab,l⟩
theorem fxOf_same {f : Feat} {l : List (Int × Int)} (hf : Okf f) (hn : f.n = l.length) (hX : f.X = px l) (hY : f.Y = py l) (a : Option Addr) (c : Nat) : f.same (fxFeat (fxOf f l) a c) := by
 obtain ⟨i,la,k,u,p,e1,e2,e3,e4,e5,_⟩ := feat_ok hf
 refine ⟨?_,?_,?_,?_,hn,hX,hY,rfl,?_⟩
 ·show f.id = ((f.id.toNat : Nat) : Int); omega
 ·show f.la = ((f.la.toNat : Nat) : Int); omega
 ·show f.ki = ((f.ki.toNat : Nat) : Int); omega
 ·show f.wi = ((f.wi.toNat : Nat) : Int); omega
 ·show f.pr = ((f.pr.toNat : Nat) : Int); omega
theorem fxOf_ok {f : Feat} {l : List (Int × Int)} (hf : Okf f) (hn : f.n = l.length) (hX : f.X = px l) (hY : f.Y = py l) : FxOk (fxOf f l) := by
 obtain ⟨i,la,k,u,p,e1,e2,e3,e4,e5,g1,g2,g3,g4,g5,gn,gn',hin,hs⟩ := feat_ok hf
 refine ⟨rfl,fun x hx => ?_,hs,by show l.length ≤ 12; omega,fun q hq => ?_⟩
 ·simp [fxOf] at hx
  omega
 ·obtain ⟨j,hj,rfl⟩ := List.getElem_of_mem hq
  have h := hin j (by rw [hn]; exact hj)
  rw [hX,hY] at h
  have hj' : j < l.length := hj
  have e1 : px l j = (l[j]).1 := by simp [px,List.getD_eq_getElem?_getD,List.getElem?_eq_getElem hj']
  have e2 : py l j = (l[j]).2 := by simp [py,List.getD_eq_getElem?_getD,List.getElem?_eq_getElem hj']
  rw [e1,e2] at h
  exact h
theorem SameFeatures_none (a a' : Option Addr) (cap cap' : Nat) (w : World) : Calls Tryz.prog 12 #[.slice a 0 cap, .slice a' 0 cap'] w fun e w' => e = .returned (.bool true) ∧ Below w.heap.size w w' := by
 have HX : Hid (Calls Tryz.prog 32 #[.slice a 0 cap, .slice a' 0 cap', .func (.func 33) #[] #[]] w fun e w' => e = .returned (.bool true) ∧ Below w.heap.size w w') := by
  show Calls _ _ _ _ _
  go_enter Tryz.func32,Tryz.ntmps32
  go_wp2
  go_loopw [17] (fun v wr => v = .int .i64 0 ∧ Below w.heap.size w wr) (fun _ _ => 0)
  case atStart => exact ⟨rfl,Below.refl _ _⟩
  case round =>
   obtain ⟨rfl,hB⟩ := hrel
   go_wp2
   go_ret
   exact ⟨rfl,hB⟩
 go_enter Tryz.func12,Tryz.ntmps12
 go_wp2_with (go_at_call 32; refine (HX.out).mono ?_; rintro e w' ⟨rfl,hb⟩)
 go_ret
 exact ⟨rfl,by (repeat (first|exact Qr _ _|assumption|refine Qd ?_|refine Qa ?_ _|refine Qt ?_|refine Qs ?_ _|refine Qo ?_ ?_ _ _))⟩
def FsZ (w : World) (a : Option Addr) (n : Nat) (T : Nat → Feat) : Prop := IsFs w a n T ∧ (n = 0 ∨ ∃ g,a = some ⟨g,0,none⟩) ∧ Pts0 w n T
theorem FsZ.below {w w' : World} {a : Option Addr} {n : Nat} {T : Nat → Feat} (h : FsZ w a n T) (hb : Below w.heap.size w w') : FsZ w' a n T := ⟨h.1.below hb,h.2.1,h.2.2.below hb⟩
theorem sameFs_any (a a' : Option Addr) (n c c' : Nat) (G H : Nat → Feat) (w : World) (hg : FsZ w a n G) (hh : FsZ w a' n H) (hs : ∀ i,i < n → (G i).same (H i)) (hsh : SmallFs n H) :
  Calls Tryz.prog 12 #[.slice a n c, .slice a' n c'] w fun e w' => e = .returned (.bool true) ∧ Below w.heap.size w w' := by
 obtain ⟨h1,h2,h3⟩ := hg
 obtain ⟨k1,k2,k3⟩ := hh
 by_cases h0 : n = 0
 ·subst h0
  exact SameFeatures_none a a' c c' w
 ·obtain ⟨g,rfl⟩ := h2.resolve_left h0
  obtain ⟨g',rfl⟩ := k2.resolve_left h0
  obtain ⟨b,off,e1,hb,hF⟩ := h1.resolve_left h0
  obtain ⟨b',off',e2,hb',hF'⟩ := k1.resolve_left h0
  injection e1 with e1
  injection e1 with x1 x2
  injection e2 with e2
  injection e2 with y1 y2
  subst x1 x2 y1 y2
  have hsg : SmallFs n G := ⟨hsh.1,fun i hi => by obtain ⟨_,_,_,_,s5,_,_,s8,_⟩ := hs i hi; rw [s5,s8]; exact hsh.2 i hi⟩
  have hL : sameL n G n H = true := sameL_ok (fun i hi => by
   rw [sameF_same (hs i hi) (f' := H i) (g' := H i) ⟨rfl,rfl,rfl,rfl,rfl,rfl,rfl,rfl,rfl⟩]
   simp [sameF,ptsEq,sameB])
  have := impl_SameFeatures_any g g' n n c c' G H w hF hF' hb hb' h3 k3 hsg hsh
  rw [hL] at this
  exact this
theorem featsC_zero {n : Nat} {G : Nat → Feat} (h1 : n ≤ 12) (h2 : apartK (fun i => (G i).id) n) (h3 : ∀ i,i < n → featC (G i).id (G i).la (G i).ki (G i).wi (G i).n (G i).X (G i).Y (G i).lab (G i).pr = 0) : featsC n G = 0 := by
 unfold featsC
 rw [if_neg (by omega)]
 refine scan_none _ _ _ (fun j _ hj => codeAt_ok (h3 j (by omega)) ?_)
 rintro ⟨i,hi,e⟩
 have := h2 i j (by omega) (by omega) e
 omega
theorem FxRow.setLow {base r o : Nat} {w : World} {v u : Value} {fs : List Fx} {H : Nat → Feat} (h : FxRow base w v fs H) (hr : r < base) : FxRow base (w.setCell ⟨r,o,none⟩ u) v fs H :=
 ⟨ownsRow_of h.1 fun g hg => Below.heap_setCell _ _ _ _ (by have := (World.ownsRow.lt h.1 g hg).1; show g ≠ r; omega),fun i hi => ⟨(h.2.1 i hi).1,(h.2.1 i hi).2.setLow hr⟩,h.2.2⟩
theorem FxRow.wide {base B : Nat} {w : World} {v : Value} {fs : List Fx} {H : Nat → Feat} (h : FxRow base w v fs H) (hB : B ≤ base) : FxRow B w v fs H := by
 refine ⟨?_,fun i hi => ⟨(h.2.1 i hi).1,(h.2.1 i hi).2.wide hB⟩,h.2.2⟩
 obtain ⟨h1,h2 | ⟨g,cp,cur,hv,hg,hrest⟩⟩ := h.1
 ·exact ⟨h1, .inl h2⟩
 ·exact ⟨h1, .inr ⟨g,cp,cur,hv,by omega,hrest⟩⟩
open Classical in
theorem impl_UnpackList_any (a : Option Addr) (n cap : Nat) (Z : Nat → Int) (w : World) (hp : IsBytes w a n Z) (hr : ∀ i,0 ≤ Z i ∧ Z i ≤ 255) (hmax : n ≤ 1048576) (hcap : n ≤ cap) :
  Calls Tryz.prog 30 #[.slice a n cap] w fun e w' => UnP Z n w e w' := by
 have hmf : ∀ (fn : Fn) (first cap : Array Value) (w : World),(Instr.makeFunc fn first cap).run Tryz.prog w = .ok (.func fn first cap) w := fun _ _ _ _ => rfl
 have HP : Hid (IsBytes w a n Z) := hp
 have HR : Hid (∀ i,0 ≤ Z i ∧ Z i ≤ 255) := hr
 clear hp hr
 by_cases h9 : 900 < n
 ·have h9' : (900 : Int) < (n : Int) := by omega
  have HE : Hid (∀ w',Below w.heap.size w w' → UnP Z n w (.returned (.agg #[.int .i64 2, .slice none 0 0])) w') := fun w' hb => by unfold UnP; rw [if_pos h9]; exact ⟨rfl,hb⟩
  go_enter_defers Tryz.func30,Tryz.ntmps30
  go_wp2_with fail
  have HE2 := HE.out _ (bl_alloc (Below.refl w.heap.size w) (.cells #[.int .i64 2, .slice none 0 0] 54))
  simp [bodyPostD,Leaves,settle,results,Tryz.results30,go_sem]
  exact HE2
 ·have h9' : ¬ (900 : Int) < (n : Int) := by omega
  go_enter_defers Tryz.func30,Tryz.ntmps30
  go_wp2_with fail
  generalize hW : ((w.alloc _).alloc _ : World) = W
  have hB0 : Below w.heap.size w W := by subst hW; (repeat (first|exact Qr _ _|assumption|refine Qd ?_|refine Qa ?_ _|refine Qt ?_|refine Qs ?_ _|refine Qo ?_ ?_ _ _))
  have hT0 : There W w.heap.size 2 := fun o ho => by
   subst hW
   match o,ho with
   | 0,_ => exact ⟨⟨_,by simp [go_sem]; rfl⟩,by simp [go_sem]⟩
   | 1,_ => exact ⟨⟨_,by simp [go_sem]; rfl⟩,by simp [go_sem]⟩
  have hU0 : UpAt W (w.heap.size + 1) w.heap.size n Z := by
   refine ⟨a,cap,by subst hW; simp [go_sem],by subst hW; simp [go_sem],hcap,?_⟩
   rcases HP.out with h | ⟨b,off,e,hb,hz⟩
   ·exact .inl h
   ·exact .inr ⟨b,off,e,hb,fun i hi => (hB0.cell (p := ⟨b,off + i,none⟩) hb).trans (hz i hi)⟩
  have hlW : w.heap.size + 1 < W.heap.size := by subst hW; simp
  clear hW
  refine (checkSum_any (w.heap.size + 1) w.heap.size n Z W hU0 (by omega) hlW HR.out hmax).mono ?_
  rintro e w1 hN
  by_cases hs : sumOk Z n
  ·rw [if_pos hs] at hN
   obtain ⟨rfl,hU1,hK1⟩ := hN
   have HS : Hid (sumOk Z n) := hs
   have HT1 : Hid (There w1 w.heap.size 2) := hT0.keepsU hK1 (by omega) (by omega)
   have HB1 : Hid (Below w.heap.size w w1) := hB0.trans (hK1.below (by omega) (by omega))
   have HU1 : Hid (UpAt w1 (w.heap.size + 1) w.heap.size (n - 2) Z) := hU1
   have hl1 : w.heap.size + 1 < w1.heap.size := Nat.lt_of_lt_of_le hlW hK1.size
   clear hs hU1 hK1 hU0 hT0 hB0
   go_wp2_with fail
   refine (features_any (w.heap.size + 1) w.heap.size (n - 2) Z w1 HU1.out (by omega) hl1 HR.out (by omega)).mono ?_
   rintro e w2 hN
   cases hrd : rdList Z (n - 2) with
   | none =>
    rw [hrd] at hN
    obtain ⟨⟨u,pv,rfl⟩,hK⟩ := hN
    have HV : Hid (upG Z n = none) := by show _ = _; unfold upG; rw [if_pos HS.out,hrd]; rfl
    have hT2 : There w2 w.heap.size 2 := HT1.out.keepsU hK (by omega) (by omega)
    have hB2 : Below w.heap.size w w2 := HB1.out.trans (hK.below (by omega) (by omega))
    simp only [Exit.then]
    refine leaves_cons (f := 76) (args := #[.pointer (some ⟨w.heap.size,0,none⟩)]) (by simp) (by simp [go_sem]) ?_
    refine (unpackCatch_panicking w.heap.size u pv [] _ hT2).mono ?_
    rintro e u' w3 ⟨rfl,rfl,rfl⟩
    obtain ⟨s0,s1⟩ := set2_at (r := w.heap.size) (W := w2) (i := 0) (j := 1) (u := .int .i64 5) (v := .slice none 0 0) (by omega) (by rw [hT2.cell 0 (by omega)]; rfl) (by rw [hT2.cell 1 (by omega)]; rfl)
    have HBf : Below w.heap.size w ((w2.setCell ⟨w.heap.size,0,none⟩ (.int .i64 5)).setCell ⟨w.heap.size,1,none⟩ (.slice none 0 0)) := (hB2.setCell (p := ⟨w.heap.size,0,none⟩) (Nat.le_refl _) _).setCell (p := ⟨w.heap.size,1,none⟩) (Nat.le_refl _) _
    generalize ((w2.setCell ⟨w.heap.size,0,none⟩ (.int .i64 5)).setCell ⟨w.heap.size,1,none⟩ (.slice none 0 0)) = Wf at *
    have HE := UnP.none h9 HV.out HBf
    simp [Leaves,settle,results,Tryz.results30,go_sem,s0,s1]
    exact HE
   | some x =>
    rw [hrd] at hN
    unfold FsP at hN
    simp only at hN
    by_cases hg : n - 2 ≤ x.2 ∧ fxC x.1 = 0 ∧ fxO x.1 = true
    ·rw [if_pos hg] at hN
     obtain ⟨v,H,rfl,hX,hK⟩ := hN
     have HV : Hid (upG Z n = some x.1) := by show _ = _; unfold upG; rw [if_pos HS.out,hrd,Option.bind_some,if_pos hg]
     have hT2 : There w2 w.heap.size 2 := HT1.out.keepsU hK (by omega) (by omega)
     have HT2 : Hid (There w2 w.heap.size 2) := hT2
     have HB2 : Hid (Below w.heap.size w w2) := HB1.out.trans (hK.below (by omega) (by omega))
     have HX2 : Hid (FxRow w1.heap.size w2 v x.1 H) := hX
     obtain ⟨a6,c6,hv6,_,_⟩ := hX.is
     have c0 := hT2.cell 0 (by omega)
     have c1 := hT2.cell 1 (by omega)
     have f0 := (hT2 0 (by omega)).2
     have f1 := (hT2 1 (by omega)).2
     clear hX hK hT2 hrd
     generalize x.1.length = L6 at hv6
     subst hv6
     go_wp2
     refine leaves_cons (f := 76) (args := #[.pointer (some ⟨w.heap.size,0,none⟩)]) (by simp) (by simp [go_sem]) ?_
     refine (unpackCatch_idle _ _).mono ?_
     rintro e u' w3 ⟨rfl,rfl,rfl⟩
     obtain ⟨s0,s1⟩ := set2_at (r := w.heap.size) (W := w2) (i := 0) (j := 1) (u := .int .i64 0) (v := .slice a6 L6 c6) (by omega) (by rw [c0]; rfl) (by rw [c1]; rfl)
     have HBf : Below w.heap.size w ((w2.setCell ⟨w.heap.size,0,none⟩ (.int .i64 0)).setCell ⟨w.heap.size,1,none⟩ (.slice a6 L6 c6)) := (HB2.out.setCell (p := ⟨w.heap.size,0,none⟩) (Nat.le_refl _) _).setCell (p := ⟨w.heap.size,1,none⟩) (Nat.le_refl _) _
     have HXf : FxRow w.heap.size ((w2.setCell ⟨w.heap.size,0,none⟩ (.int .i64 0)).setCell ⟨w.heap.size,1,none⟩ (.slice a6 L6 c6)) (.slice a6 L6 c6) x.1 H := ((HX2.out.setLow (by omega)).setLow (by omega)).wide (by omega)
     generalize ((w2.setCell ⟨w.heap.size,0,none⟩ (.int .i64 0)).setCell ⟨w.heap.size,1,none⟩ (.slice a6 L6 c6)) = Wf at *
     have HE := UnP.some h9 HV.out HXf HBf
     simp [Leaves,settle,results,Tryz.results30,go_sem,s0,s1]
     exact HE
    ·rw [if_neg hg] at hN
     obtain ⟨⟨u,pv,rfl⟩,hK⟩ := hN
     have HV : Hid (upG Z n = none) := by show _ = _; unfold upG; rw [if_pos HS.out,hrd,Option.bind_some,if_neg hg]
     have hT2 : There w2 w.heap.size 2 := HT1.out.keepsU hK (by omega) (by omega)
     have hB2 : Below w.heap.size w w2 := HB1.out.trans (hK.below (by omega) (by omega))
     simp only [Exit.then]
     refine leaves_cons (f := 76) (args := #[.pointer (some ⟨w.heap.size,0,none⟩)]) (by simp) (by simp [go_sem]) ?_
     refine (unpackCatch_panicking w.heap.size u pv [] _ hT2).mono ?_
     rintro e u' w3 ⟨rfl,rfl,rfl⟩
     obtain ⟨s0,s1⟩ := set2_at (r := w.heap.size) (W := w2) (i := 0) (j := 1) (u := .int .i64 5) (v := .slice none 0 0) (by omega) (by rw [hT2.cell 0 (by omega)]; rfl) (by rw [hT2.cell 1 (by omega)]; rfl)
     have HBf : Below w.heap.size w ((w2.setCell ⟨w.heap.size,0,none⟩ (.int .i64 5)).setCell ⟨w.heap.size,1,none⟩ (.slice none 0 0)) := (hB2.setCell (p := ⟨w.heap.size,0,none⟩) (Nat.le_refl _) _).setCell (p := ⟨w.heap.size,1,none⟩) (Nat.le_refl _) _
     generalize ((w2.setCell ⟨w.heap.size,0,none⟩ (.int .i64 5)).setCell ⟨w.heap.size,1,none⟩ (.slice none 0 0)) = Wf at *
     have HE := UnP.none h9 HV.out HBf
     simp [Leaves,settle,results,Tryz.results30,go_sem,s0,s1]
     exact HE
  ·rw [if_neg hs] at hN
   obtain ⟨⟨u,pv,rfl⟩,hK⟩ := hN
   have HV : Hid (upG Z n = none) := by show _ = _; unfold upG; rw [if_neg hs]
   have hT2 : There w1 w.heap.size 2 := hT0.keepsU hK (by omega) (by omega)
   have hB2 : Below w.heap.size w w1 := hB0.trans (hK.below (by omega) (by omega))
   simp only [Exit.then]
   refine leaves_cons (f := 76) (args := #[.pointer (some ⟨w.heap.size,0,none⟩)]) (by simp) (by simp [go_sem]) ?_
   refine (unpackCatch_panicking w.heap.size u pv [] _ hT2).mono ?_
   rintro e u' w3 ⟨rfl,rfl,rfl⟩
   obtain ⟨s0,s1⟩ := set2_at (r := w.heap.size) (W := w1) (i := 0) (j := 1) (u := .int .i64 5) (v := .slice none 0 0) (by omega) (by rw [hT2.cell 0 (by omega)]; rfl) (by rw [hT2.cell 1 (by omega)]; rfl)
   have HBf : Below w.heap.size w ((w1.setCell ⟨w.heap.size,0,none⟩ (.int .i64 5)).setCell ⟨w.heap.size,1,none⟩ (.slice none 0 0)) := (hB2.setCell (p := ⟨w.heap.size,0,none⟩) (Nat.le_refl _) _).setCell (p := ⟨w.heap.size,1,none⟩) (Nat.le_refl _) _
   generalize ((w1.setCell ⟨w.heap.size,0,none⟩ (.int .i64 5)).setCell ⟨w.heap.size,1,none⟩ (.slice none 0 0)) = Wf at *
   have HE := UnP.none h9 HV.out HBf
   simp [Leaves,settle,results,Tryz.results30,go_sem,s0,s1]
   exact HE
end Go.Proofs.YtfkonhagjahgnaaGreat
