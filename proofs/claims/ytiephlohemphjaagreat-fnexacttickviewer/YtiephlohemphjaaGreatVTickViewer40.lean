/- Texts. -/
import Derived.Test.YtiephlohemphjaaGreatVTickViewer39
set_option linter.unusedSimpArgs false
set_option linter.unusedVariables false
set_option maxRecDepth 100000
set_option maxHeartbeats 32000000
namespace Go.Proofs.YtiephlohemphjaaGreat
open Go.RowKit
end Go.Proofs.YtiephlohemphjaaGreat
namespace Go.Proofs.YtiephlohemphjaaGreat
open Go.RowKit Go.Sort Go.Shelf Go.Maps
def kpCs (a : Ag) : List Value := [.int .i64 a.z, .int .i64 a.x, .int .i64 a.y, .slice a.fa a.fn a.fc, .slice a.ia a.m a.ic]
def kpsCs (l : List Ag) : List Value := l.flatMap kpCs
theorem kpCs_len (e : Ag) : (kpCs e).length = 5 := rfl
theorem kpCs_one (e : Ag) : ∀ v ∈ kpCs e,v.oneCell' = true := by simp [kpCs,Value.oneCell']
theorem kpsCs_cons (e : Ag) (l : List Ag) : kpsCs (e :: l) = kpCs e ++ kpsCs l := rfl
theorem kpsCs_app (l k : List Ag) : kpsCs (l ++ k) = kpsCs l ++ kpsCs k := by simp [kpsCs]
theorem kpsCs_get : ∀ (l : List Ag) (i k : Nat) (e : Ag),l[i]? = some e → k < 5 → (kpsCs l)[i * 5 + k]? = (kpCs e)[k]?
 | [],i,k,e,h,_ => by simp at h
 | a :: l,0,k,e,h,hk => by
  simp at h
  subst h
  rw [kpsCs_cons,Nat.zero_mul,Nat.zero_add,List.getElem?_append_left (by rw [kpCs_len]; exact hk)]
 | a :: l,i + 1,k,e,h,hk => by
  have h' : l[i]? = some e := by simpa using h
  rw [kpsCs_cons,List.getElem?_append_right (by rw [kpCs_len]; omega),kpCs_len, ← kpsCs_get l i k e h' hk]
  congr 1
  omega
def KRow (base : Nat) (w : World) (v : Value) (L : List Ag) : Prop := w.ownsRow base 149 5 v L.length (kpsCs L)
theorem ownsRow_wideK {base B s n : Nat} {t : TypeId} {w : World} {v : Value} {xs : List Value} (h : w.ownsRow base t s v n xs) (hB : B ≤ base) : w.ownsRow B t s v n xs := by
 obtain ⟨h1,h2 | ⟨g,cp,cur,hv,hg,h3⟩⟩ := h
 ·exact ⟨h1, .inl h2⟩
 ·exact ⟨h1, .inr ⟨g,cp,cur,hv,Nat.le_trans hB hg,h3⟩⟩
theorem inOrder_any (p mb nn : Nat) (s t : Int) (D : DataW Value) (L : List Ag) (w : World) (hp : ShA w p s t mb) (hm : w.ownsMap Tryz.prog 97 RV mb nn D) (hR : Rep D L) (hL : L.length ≤ 1000) (hD : Maps.size D ≤ 1000) :
  Calls Tryz.prog 127 #[.pointer (some ⟨p,0,none⟩)] w fun e w' => ∃ v,e = .returned v ∧ KRow w.heap.size w' v L ∧ Below w.heap.size w w' := by
 obtain ⟨i0,hi,hz0,hz1,hz2⟩ := info_parts info_kp
 have HM : Hid (w.ownsMap Tryz.prog 97 RV mb nn D) := hm
 have HR : Hid (Rep D L) := hR
 have c2 := hp.2.2
 clear hp hm hR
 go_enter Tryz.func127,Tryz.ntmps127
 go_wp2_with fail
 refine (mapsValues_any mb w).mono ?_
 rintro e w1 ⟨rfl,hw1⟩
 have HB1 : Hid (Below w.heap.size w w1) := by show Below _ _ _; subst hw1; exact bl_alloc (Below.refl _ _) _
 have h1 : w1.cell? ⟨w.heap.size,0,none⟩ = some (.map (some mb)) := by subst hw1; simp [go_sem]
 clear hw1 c2
 have HS := (show Hid _ from sortedA_any w.heap.size mb nn D L w1 (World.block_lt_of_cell? _ _ h1) h1 (ownsMap_below HM.out HB1.out) HR.out (by omega) (by omega))
 clear h1
 go_wp2_with fail
 refine Calls.mono HS.out ?_
 rintro e W ⟨v,rfl,hA,hb2⟩
 have HA : Hid (IsAgs W v L) := hA
 have HBW : Hid (Below w.heap.size w W) := bl_then HB1.out hb2
 obtain ⟨va,vc,hv⟩ : ∃ a c,v = .slice a L.length c := by
  rcases hA with ⟨h0,a,c,hv⟩ | ⟨g,c,hv,_⟩
  ·exact ⟨a,c,by rw [hv,h0]; rfl⟩
  ·exact ⟨_,c,hv⟩
 subst hv
 clear hA hb2 HS HB1 HM HR
 go_wp2_with fail
 go_loopw [3,13] (fun u i wr => ∃ k : Nat,k ≤ L.length ∧ i = .int .i64 (k : Int) ∧ KRow W.heap.size wr u (L.take k) ∧ Below W.heap.size W wr) (fun _ i _ => L.length - (intOf i).toNat)
 case atStart => exact ⟨0,by omega,rfl,by rw [List.take_zero]; exact World.ownsRow_nil _ _ _ _,Below.refl _ _⟩
 case round =>
  obtain ⟨k,hk,rfl,hO,hB⟩ := hrel
  have HO : Hid (KRow W.heap.size wr u3 (L.take k)) := hO
  have HB : Hid (Below W.heap.size W wr) := hB
  by_cases hlt : k < L.length
  ·obtain ⟨ag,hag⟩ : ∃ ag,L[k]? = some ag := ⟨_,List.getElem?_eq_getElem hlt⟩
   rcases HA.out with ⟨h0,_⟩ | ⟨g,c,hv,hgl,hcs⟩
   ·rw [h0] at hlt; simp at hlt
   injection hv with e1 _ e3
   subst e1 e3
   obtain ⟨f0,f1,f2,f3,f4,f5⟩ := (hcs.below hgl hB) k ag hag
   have HLT : Hid (k < L.length) := hlt
   have hi' : (k : Int) < (L.length : Int) := by omega
   have hi0 : (0 : Int) ≤ (k : Int) := by omega
   have hlen : (L.take k).length = k := by rw [List.length_take]; omega
   have hszr := hB.size
   clear hO hB hcs
   go_wp2_with (first
    | (at_builtin; go_must (refine wpList_append_own _ rfl _ _ 33 rfl W.heap.size 149 i0 (.agg zeroKp) 5 72 Tryz.underlying33 hi hz0 hz1 hz2 rfl (by decide) u3 k (kpsCs (L.take k)) rfl ?c6 ⟨wr.heap.size + 1,0,none⟩ 1 1 (kpCs ag) rfl ?c0 ?c1 ?c2 ?c3 ?c4 ?c5 ?_)))
   case c6 =>
    have := (HO.out.alloc (.cells #[.int .i64 ag.z, .int .i64 ag.x, .int .i64 ag.y, .slice ag.fa ag.fn ag.fc, .slice ag.ia ag.m ag.ic, .int .i64 ag.t] 178)).alloc (.cells #[.int .i64 ag.z, .int .i64 ag.x, .int .i64 ag.y, .slice ag.fa ag.fn ag.fc, .slice ag.ia ag.m ag.ic] 149)
    rw [hlen] at this
    exact this
   case c0 => rfl
   case c1 =>
    intro q u hq
    have hq5 : q < 5 := (List.getElem?_eq_some_iff.1 hq).1
    have hc : q = 0 ∨ q = 1 ∨ q = 2 ∨ q = 3 ∨ q = 4 := by omega
    rcases hc with rfl | rfl | rfl | rfl | rfl <;> (simp [kpCs] at hq; subst hq; simp [Addr.add,go_sem])
   case c2 => exact kpCs_one _
   case c3 => unfold maxLen; omega
   case c4 => omega
   case c5 => first | omega | (show _ ≤ wr.heap.size + 1; omega) | (simp; omega)
   intro v' w3 hown' hgrow hnil
   have HF : Hid (KRow W.heap.size w3 v' (L.take (k + 1))) := by
    show KRow _ _ _ _
    unfold KRow
    have e1 : L.take (k + 1) = L.take k ++ [ag] := by rw [List.take_add_one,hag]; rfl
    rw [e1,kpsCs_app,List.length_append,hlen]
    exact hown'
   have HB3 : Hid (Below W.heap.size W w3) := by
    show Below _ _ _
    have hb2 : Below W.heap.size W ((wr.alloc (.cells #[.int .i64 ag.z, .int .i64 ag.x, .int .i64 ag.y, .slice ag.fa ag.fn ag.fc, .slice ag.ia ag.m ag.ic, .int .i64 ag.t] 178)).alloc (.cells #[.int .i64 ag.z, .int .i64 ag.x, .int .i64 ag.y, .slice ag.fa ag.fn ag.fc, .slice ag.ia ag.m ag.ic] 149)) := (HB.out.alloc hszr _).alloc (by simp; omega) _
    refine hb2.grown hgrow hb2.size (fun j e => ?_)
    have e' : u3.ownBlock = some j := e
    rcases HO.out.2 with ⟨e2,_⟩ | ⟨g',c',cur,e2,hg',_⟩
    ·rw [e2] at e'; cases e'
    ·rw [e2] at e'
     have : g' = j := by simpa [Value.ownBlock] using e'
     omega
   clear hnil hown' hgrow f0 f1 f2 f3 f4 f5 HO HB
   go_wp2_with fail
   go_roundw
   case rel => exact ⟨k + 1,by have := HLT.out; omega,by go_num,HF.out,HB3.out⟩
   case measure => have := HLT.out; simp [intOf]; omega
  ·obtain rfl : k = L.length := by omega
   rw [List.take_length] at HO
   have HBe : Hid (Below w.heap.size w wr) := bl_then HBW.out HB.out
   have hWs := HBW.out.size
   have HOw : Hid (KRow w.heap.size wr u3 L) := by
    show KRow _ _ _ _
    exact ownsRow_wideK HO.out hWs
   clear hO hB
   go_wp2
   go_ret
   exact ⟨u3,rfl,HOw.out,HBe.out⟩
end Go.Proofs.YtiephlohemphjaaGreat
namespace Go.Proofs.YtiephlohemphjaaGreat
open Go.RowKit
end Go.Proofs.YtiephlohemphjaaGreat
namespace Go.Proofs.YtiephlohemphjaaGreat
open Go.RowKit Go.Sort Go.Shelf Go.Maps
def isA (a : Ag) (z x y : Int) : Bool := (a.z == z) && ((a.x == x) && (a.y == y))
theorem isA_iff {a : Ag} {z x y : Int} : isA a z x y = true ↔ a.z = z ∧ a.x = x ∧ a.y = y := by simp [isA]
theorem isA_key {a : Ag} {z x y : Int} (ha : I64 a.z ∧ I64 a.x ∧ I64 a.y) (hr : I64 z ∧ I64 x ∧ I64 y) : keyA a = keyL z x y ↔ isA a z x y = true := by
 rw [isA_iff]
 exact ⟨fun e => key_inj ha.1 ha.2.1 ha.2.2 hr.1 hr.2.1 hr.2.2 e,fun ⟨h1,h2,h3⟩ => by unfold keyA; rw [h1,h2,h3]⟩
def lessL (L : List Ag) (z x y : Int) : List Ag := L.filter (fun b => !isA b z x y)
theorem mem_lessL {L : List Ag} {z x y : Int} {a : Ag} : a ∈ lessL L z x y ↔ a ∈ L ∧ isA a z x y = false := by simp [lessL]
theorem lessL_none {L : List Ag} {z x y : Int} (h : ∀ a ∈ L,isA a z x y = false) : lessL L z x y = L := by
 unfold lessL
 exact List.filter_eq_self.2 (fun a ha => by rw [h a ha]; rfl)
theorem lessL_len : ∀ {L : List Ag} {z x y : Int},L.Pairwise (fun a b => keyA a ≠ keyA b) → (∃ a ∈ L,isA a z x y = true) → (lessL L z x y).length + 1 = L.length
 | [],_,_,_,_,⟨a,ha,_⟩ => by simp at ha
 | b :: L,z,x,y,hk,⟨a,ha,hA⟩ => by
  obtain ⟨h1,h2⟩ := List.pairwise_cons.1 hk
  cases hb : isA b z x y
  ·have ha' : a ∈ L := (List.mem_cons.1 ha).resolve_left (fun e => by rw [e,hb] at hA; cases hA)
   have ih := lessL_len h2 ⟨a,ha',hA⟩
   unfold lessL at *
   rw [List.filter_cons_of_pos (by rw [hb]; rfl)]
   simp only [List.length_cons]
   omega
  ·have hno : ∀ c ∈ L,isA c z x y = false := fun c hc => by
    cases hcA : isA c z x y
    ·rfl
    ·exfalso
     obtain ⟨e1,e2,e3⟩ := isA_iff.1 hb
     obtain ⟨d1,d2,d3⟩ := isA_iff.1 hcA
     exact h1 c hc (by unfold keyA; rw [e1,e2,e3,d1,d2,d3])
   have := lessL_none hno
   unfold lessL at *
   rw [List.filter_cons_of_neg (by rw [hb]; decide),this]
   rfl
theorem Rep.hasR {D : DataW Value} {L : List Ag} (h : Rep D L) {z x y : Int} (hr : I64 z ∧ I64 x ∧ I64 y) : Maps.has D (keyL z x y) = true ↔ ∃ a ∈ L,isA a z x y = true := by
 obtain ⟨k,hk⟩ : ∃ k,keyL z x y = .string k := ⟨_,rfl⟩
 rw [hk,h.has k]
 exact ⟨fun ⟨a,ha,e⟩ => ⟨a,ha,(isA_key (h.ints a ha) hr).1 (e.trans hk.symm)⟩,fun ⟨a,ha,e⟩ => ⟨a,ha,((isA_key (h.ints a ha) hr).2 e).trans hk⟩⟩
theorem Rep.nil : Rep (.map []) [] := ⟨Maps.tidy_empty,rfl,by simp,fun x => by simp [Maps.has],by simp,List.Pairwise.nil,List.Pairwise.nil⟩
theorem Rep.put {D : DataW Value} {L : List Ag} (h : Rep D L) (a : Ag) (hr : I64 a.z ∧ I64 a.x ∧ I64 a.y) (ht : ∀ b ∈ L,b.t < a.t) : Rep (D.put (keyA a) (.held (agW a))) (lessL L a.z a.x a.y ++ [a]) := by
 have hne : ∀ b ∈ lessL L a.z a.x a.y,keyA b ≠ keyA a := fun b hb e => by
  obtain ⟨hb1,hb2⟩ := mem_lessL.1 hb
  have := (isA_key (h.ints b hb1) hr).1 e
  rw [hb2] at this; cases this
 refine ⟨h.tidy.put (keyL_is _ _ _) _,?_,fun b hb => ?_,fun q => ?_,fun b hb zd => ?_,?_,?_⟩
 ·rw [Maps.size_put h.tidy,List.length_append]
  by_cases hh : ∃ b ∈ L,isA b a.z a.x a.y = true
  ·rw [if_pos ((h.hasR hr).2 hh),h.size, ← lessL_len h.keys hh]; rfl
  ·rw [if_neg (fun e => hh ((h.hasR hr).1 e)),h.size]
   have hno : ∀ b ∈ L,isA b a.z a.x a.y = false := fun b hb => by
    cases e : isA b a.z a.x a.y
    ·rfl
    ·exact absurd ⟨b,hb,e⟩ hh
   rw [lessL_none hno]; rfl
 ·rcases List.mem_append.1 hb with hb | hb
  ·exact h.ints b (mem_lessL.1 hb).1
  ·simp at hb; rw [hb]; exact hr
 ·by_cases e : (.string q : Lit) = keyA a
  ·rw [e,Maps.has_put_same h.tidy.isMap (keyL_is _ _ _)]
   exact ⟨fun _ => ⟨a,List.mem_append_right _ (by simp),rfl⟩,fun _ => rfl⟩
  ·rw [Maps.has_put_other e,h.has q]
   constructor
   ·rintro ⟨b,hb,hkb⟩
    refine ⟨b,List.mem_append_left _ (mem_lessL.2 ⟨hb,?_⟩),hkb⟩
    cases hA : isA b a.z a.x a.y
    ·rfl
    ·exact absurd (hkb.symm.trans ((isA_key (h.ints b hb) hr).2 hA)) e
   ·rintro ⟨b,hb,hkb⟩
    rcases List.mem_append.1 hb with hb | hb
    ·exact ⟨b,(mem_lessL.1 hb).1,hkb⟩
    ·simp at hb; subst hb; exact absurd hkb.symm e
 ·rcases List.mem_append.1 hb with hb | hb
  ·rw [Maps.atKey_put_other (hne b hb)]
   exact h.at_ b (mem_lessL.1 hb).1 zd
  ·simp at hb; subst hb
   exact Maps.atKey_put_same h.tidy.isMap (keyL_is _ _ _) _ _
 ·refine List.pairwise_append.2 ⟨h.keys.filter _,by simp,fun b hb c hc => ?_⟩
  simp at hc; subst hc
  exact hne b hb
 ·refine List.pairwise_append.2 ⟨h.turns.filter _,by simp,fun b hb c hc => ?_⟩
  simp at hc; subst hc
  exact ht b (mem_lessL.1 hb).1
def agK (k : Kp) (t : Int) : Ag := ⟨k.z,k.x,k.y,k.fa,k.fn,k.fc,k.ia,k.m,k.ic,t⟩
def agL (A : Nat → Kp) : Nat → List Ag
 | 0 => []
 | k + 1 => agL A k ++ [agK (A k) ((k : Int) + 1)]
theorem agL_len (A : Nat → Kp) : ∀ k,(agL A k).length = k
 | 0 => rfl
 | k + 1 => by simp [agL,agL_len A k]
theorem agL_mem {A : Nat → Kp} {a : Ag} : ∀ {k : Nat},a ∈ agL A k ↔ ∃ i,i < k ∧ a = agK (A i) ((i : Int) + 1)
 | 0 => by simp [agL]
 | k + 1 => by
  rw [agL,List.mem_append,agL_mem]
  constructor
  ·rintro (⟨i,hi,e⟩ | h)
   ·exact ⟨i,by omega,e⟩
   ·simp at h; exact ⟨k,by omega,h⟩
  ·rintro ⟨i,hi,e⟩
   by_cases hk : i = k
   ·subst hk; exact .inr (by simp [e])
   ·exact .inl ⟨i,by omega,e⟩
theorem shD_rep {A : Nat → Kp} : ∀ k,(∀ j,j < k → kC A j = 0) → Rep (shD A k) (agL A k)
 | 0,_ => Rep.nil
 | k + 1,h => by
  have ih := shD_rep k (fun j hj => h j (by omega))
  obtain ⟨h0,h1⟩ := kC_zero (h k (by omega))
  have hI := tC_I64 h0
  have hp := ih.put (agK (A k) ((k : Int) + 1)) hI (fun b hb => by
   obtain ⟨i,hi,rfl⟩ := agL_mem.1 hb
   show (i : Int) + 1 < (k : Int) + 1
   omega)
  rw [lessL_none (fun b hb => ?_)] at hp
  ·exact hp
  ·obtain ⟨i,hi,rfl⟩ := agL_mem.1 hb
   cases e : isA (agK (A i) ((i : Int) + 1)) (agK (A k) ((k : Int) + 1)).z (agK (A k) ((k : Int) + 1)).x (agK (A k) ((k : Int) + 1)).y
   ·rfl
   ·exfalso
    obtain ⟨e1,e2,e3⟩ := isA_iff.1 e
    exact h1 (atK_pos.2 ⟨i,hi,isK_iff.2 ⟨e1,e2,e3⟩⟩)
end Go.Proofs.YtiephlohemphjaaGreat
namespace Go.Proofs.YtiephlohemphjaaGreat
open Go.RowKit

theorem viewC_zero {z x y wd ht now s : Int} {n : Nat} {K : Nat → Kp} {rn : Nat} {E : Nat → Req} {bad : Int} (h : viewC z x y wd ht now s n K rn E bad = 0) : camB z x y wd ht = true ∧ cacheC s n K = 0 := by
 have h1 : or2 (camC z x y wd ht) (cntC now bad) = 0 := by
  by_cases e : or2 (camC z x y wd ht) (cntC now bad) = 0
  ·exact e
  ·rw [viewC_first e] at h; exact h
 have h2 : or3 (cacheC s n K) (if s < 4 then 3 else 0) (reqsC rn E) = 0 := by
  by_cases e : or3 (cacheC s n K) (if s < 4 then 3 else 0) (reqsC rn E) = 0
  ·exact e
  ·rw [viewC_second h1 e] at h; exact h
 refine ⟨?_,(or3_zero h2).1⟩
 have h3 := (or2_zero h1).1
 unfold camC at h3
 by_cases e : camB z x y wd ht = true
 ·exact e
 ·rw [if_neg e] at h3; cases h3
theorem OwnKs.viewC {w : World} {B b n : Nat} {K A : Nat → Kp} (h : OwnKs w B b n K A) (z x y wd ht now s : Int) (rn : Nat) (E : Nat → Req) (bad : Int) : Go.Proofs.YtiephlohemphjaaGreat.viewC z x y wd ht now s n A rn E bad = Go.Proofs.YtiephlohemphjaaGreat.viewC z x y wd ht now s n K rn E bad := by
 have e : strC z x y wd ht n A E = strC z x y wd ht n K E := by
  funext i
  unfold strC
  rw [h.atK _ _ _ n (Nat.le_refl _)]
 unfold Go.Proofs.YtiephlohemphjaaGreat.viewC
 rw [h.cacheC,e]
end Go.Proofs.YtiephlohemphjaaGreat
