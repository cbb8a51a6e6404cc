/- The model's EntriesIn. -/
import Derived.Test.YtjnhaigmfjndhaaVEntriesIn31
import Derived.Test.YtjnhaigmfjndhaaVEntriesIn32
import Derived.Test.YtjnhaigmfjndhaaVEntriesIn35
import Derived.Test.YtjnhaigmfjndhaaVEntriesIn37
import Derived.Test.YtjnhaigmfjndhaaVEntriesIn38
import Derived.Test.YtjnhaigmfjndhaaVEntriesIn33
namespace Go.Proofs.Ytjnhaigmfjndhaa
open Go.RowKit
set_option linter.unusedSimpArgs false
set_option linter.unusedVariables false
set_option maxRecDepth 100000

theorem entsCs_add (es : List Ent) (e : Ent) : entsCs (es ++ [e]) = entsCs es ++ [.int .i64 e.id, .int .i64 e.a, .int .i64 e.b, .int .i64 e.c, .int .i64 e.d] := by simp [entsCs, entCs]
theorem rowE_own {base : Nat} {w : World} {v : Value} {es : List Ent} (h : w.ownsRow base 69 5 v es.length (entsCs es)) : OwnE w base v es.length (entAt es) := by
  obtain ⟨h1, h2 | ⟨g, cp, cur, hv, hg, hh, hkc, hcm, hcs, htk⟩⟩ := id h
  · obtain ⟨rfl, h0⟩ := h2
    exact ⟨none, 0, by rw [h0], by omega, .inl h0⟩
  · have hgl : g < w.heap.size := by
      rcases Nat.lt_or_ge g w.heap.size with h' | h'
      · exact h'
      · rw [Array.getElem?_eq_none h'] at hh; cases hh
    subst hv
    refine ⟨some ⟨g, 0, none⟩, cp, rfl, hkc, .inr ⟨g, rfl, hg, hgl, esAt_row h, fun o ho => ⟨?_, h.frozenAt o⟩⟩⟩
    rw [h.cellAt o ho]
    have hlt : o < (entsCs es).length := by rw [entsCs_length]; exact ho
    exact ⟨(entsCs es)[o], List.getElem?_eq_getElem hlt⟩
theorem rowE_set {base r o : Nat} {w : World} {v u : Value} {k : Nat} {xs : List Value} (h : w.ownsRow base 69 5 v k xs) (hr : r < base) : (w.setCell ⟨r, o, none⟩ u).ownsRow base 69 5 v k xs := by
  obtain ⟨h1, h2 | ⟨g, cp, cur, hv, hg, hh, hr'⟩⟩ := h
  · exact ⟨h1, .inl h2⟩
  · refine ⟨h1, .inr ⟨g, cp, cur, hv, hg, ?_, hr'⟩⟩
    rw [Below.heap_setCell _ _ _ _ (by simp; omega)]
    exact hh
set_option maxHeartbeats 4000000 in
theorem spec_EntriesIn_any (p off n cap : Nat) (Q : Nat → Qd) (w : World) (hQ : QsAt w w.heap.size p off n Q) (hn : n ≤ 1048576) (hS : ∀ i, i < n → ∃ b o, (Q i).ea = some ⟨b, o, none⟩ ∧ b < w.heap.size ∧ EsAt w b o (Q i).en (Q i).E) (hen : ∀ i, i < n → (Q i).en ≤ 1048576) (hall : (allE Q n).length ≤ 1048576) :
    Calls Try.prog 15 #[.slice (some ⟨p, off, none⟩) n cap] w fun e w' => ∃ v, e = .returned (.agg #[.int .i64 (quadsC Q n), v]) ∧ OwnE w' w.heap.size v (eiN Q n) (eiE Q n) ∧ Below w.heap.size w w' := by
  obtain ⟨i0, hi, hz0, hz1, hz2⟩ := info_parts info_ie
  have HSb : Hid (∀ w', Below w.heap.size w w' → ∀ i, i < n → ∃ b o, (Q i).ea = some ⟨b, o, none⟩ ∧ b < w'.heap.size ∧ EsAt w' b o (Q i).en (Q i).E) := fun w' hb i hi => by
    obtain ⟨b, o, e, hl, hE⟩ := hS i hi
    exact ⟨b, o, e, Nat.lt_of_lt_of_le hl hb.size, hE.below hb hl⟩
  have HQ : Hid (QsAt w w.heap.size p off n Q) := hQ
  have HE : Hid (∀ i, i < n → (Q i).en ≤ 1048576) := hen
  have HA : Hid ((allE Q n).length ≤ 1048576) := hall
  clear hQ hS hen hall
  go_enter Try.func15, Try.ntmps15
  go_wp2_with fail
  generalize hW : (w.alloc _ : World) = W
  have hB0 : Below w.heap.size w W := by subst hW; (repeat (first | exact Below.refl _ _ | assumption | refine Below.drew ?_ | refine bl_alloc ?_ _ | refine bl_then ?_ (by assumption) | refine Below.setCell ?_ (by first | omega | (simp; done) | (simp; omega)) _ | refine bl_store ?_ ?_ _ _))
  have HT : Hid (There W w.heap.size 2) := by
    show There _ _ _
    subst hW
    exact there2e w (.int .i64 0) (.slice none 0 0) 45
  have hsz : w.heap.size < W.heap.size := by subst hW; simp
  clear hW
  refine (l5Quads_any p off n cap Q W (HQ.out.now hB0) hn (HSb.out W hB0) HE.out HA.out).mono ?_
  rintro e w1 ⟨rfl, hb1⟩
  have HB1 : Hid (Below w.heap.size w w1) := bl_then hB0 hb1
  have HT1 : Hid (There w1 w.heap.size 2) := HT.out.below hb1
  have hsz1 : w.heap.size < w1.heap.size := Nat.lt_of_lt_of_le hsz hb1.size
  clear hB0 hb1 HT hsz
  by_cases hc : quadsC Q n = 0
  · obtain ⟨h24, hap, hin⟩ := ents_ok hc
    have HN : Hid (eiN Q n = (esOf Q n).length) := by show _ = _; simp [eiN, hc]
    have hlen : (allE Q n).length = (esOf Q n).length := by simp [esOf]
    have HX : Hid (∀ i, eiE Q n i = entAt (esOf Q n) ((scanI (fun i => (entAt (esOf Q n) i).id) (esOf Q n).length 999).getD i 0)) := fun i => by
      rw [scanI_srt _ _ 999 hap hin]
      rfl
    have HL : Hid ((scanI (fun i => (entAt (esOf Q n) i).id) (esOf Q n).length 999).length = (esOf Q n).length) := by
      show _ = _
      rw [scanI_srt _ _ 999 hap hin, srtK_len]
    have HLe : Hid (∀ k, k ≤ 999 → (scanI (fun i => (entAt (esOf Q n) i).id) (esOf Q n).length k).length ≤ (esOf Q n).length) := fun k hk => scanI_len _ _ hap k
    have HAP : Hid (apartK (fun i => (entAt (esOf Q n) i).id) (esOf Q n).length) := hap
    have HC : Hid (quadsC Q n = 0) := hc
    rw [hc]
    clear hap hin hc
    go_wp2_with fail
    refine (l5All_any p off n cap Q w1 (HQ.out.now HB1.out) (HSb.out w1 HB1.out) hn HA.out).mono ?_
    rintro e w2 ⟨v, rfl, hR2, hb2⟩
    have hO2 : OwnE w2 w1.heap.size v (esOf Q n).length (entAt (esOf Q n)) := rowE_own (by rw [← hlen]; exact hR2)
    obtain ⟨av, cv, rfl, hcv, hIv⟩ := hO2.pts
    have HI2 : Hid (IsEs w2 av (esOf Q n).length (entAt (esOf Q n))) := hIv
    have HB2 : Hid (Below w.heap.size w w2) := bl_then HB1.out hb2
    have HT2 : Hid (There w2 w.heap.size 2) := HT1.out.below hb2
    have hsz2 : w.heap.size < w2.heap.size := Nat.lt_of_lt_of_le hsz1 hb2.size
    clear hR2 hO2 hIv hb2 hlen HB1 HT1 HA HE HQ HSb
    generalize entAt (esOf Q n) = E at *
    generalize (esOf Q n).length = m at *
    go_wp2_with fail
    generalize hW3 : (w2.alloc _ : World) = w3
    have hb3 : Below w2.heap.size w2 w3 := by subst hW3; (repeat (first | exact Below.refl _ _ | assumption | refine Below.drew ?_ | refine bl_alloc ?_ _ | refine bl_then ?_ (by assumption) | refine Below.setCell ?_ (by first | omega | (simp; done) | (simp; omega)) _ | refine bl_store ?_ ?_ _ _))
    have g0 : w3.cell? ⟨w2.heap.size, 0, none⟩ = some (.int .i64 0) := by subst hW3; simp [go_sem]
    have g1 : w3.cell? ⟨w2.heap.size, 1, none⟩ = some (.slice none 0 0) := by subst hW3; simp [go_sem]
    have HU3 : Hid (There w3 w2.heap.size 2) := by
      show There _ _ _
      subst hW3
      exact there2e w2 (.int .i64 0) (.slice none 0 0) 45
    have hs3 : w2.heap.size < w3.heap.size := by subst hW3; simp
    clear hW3
    go_loopw [6] (fun id wr => ∃ (k : Nat) (v : Value), k ≤ 999 ∧ id = .int .i64 ((k : Int) + 1) ∧ wr.ownsRow w3.heap.size 69 5 v (scanI (fun i => (E i).id) m k).length (entsCs ((scanI (fun i => (E i).id) m k).map E)) ∧ wr.cell? ⟨w2.heap.size, 0, none⟩ = some (.int .i64 0) ∧ wr.cell? ⟨w2.heap.size, 1, none⟩ = some v ∧ There wr w2.heap.size 2 ∧ Below w2.heap.size w2 wr ∧ w3.heap.size ≤ wr.heap.size) (fun id _ => 1000 - (intOf id).toNat)
    case atStart => exact ⟨0, .slice none 0 0, by omega, rfl, World.ownsRow_nil _ _ _ _, g0, g1, HU3.out, hb3, Nat.le_refl _⟩
    case round =>
      obtain ⟨k, v, hk, rfl, hO, h0, h1, hU, hB, hszr⟩ := hrel
      have HO : Hid (wr.ownsRow w3.heap.size 69 5 v (scanI (fun i => (E i).id) m k).length (entsCs ((scanI (fun i => (E i).id) m k).map E))) := hO
      have HB : Hid (Below w2.heap.size w2 wr) := hB
      have HU : Hid (There wr w2.heap.size 2) := hU
      clear hO hB hU g0 g1 hb3 HU3
      by_cases hlt : k < 999
      · have hki : (k : Int) + 1 ≤ 999 := by omega
        have hnn : scanI (fun i => (E i).id) m k ++ (List.range 0).filter (fun i => decide ((E i).id = ((k + 1 : Nat) : Int))) = scanI (fun i => (E i).id) m k := by simp
        go_wp2_with fail
        go_loopw [7] (fun i wr => ∃ (j : Nat) (v : Value), j ≤ m ∧ i = .int .i64 (j : Int) ∧ wr.ownsRow w3.heap.size 69 5 v (scanI (fun i => (E i).id) m k ++ (List.range j).filter (fun i => decide ((E i).id = ((k + 1 : Nat) : Int)))).length (entsCs ((scanI (fun i => (E i).id) m k ++ (List.range j).filter (fun i => decide ((E i).id = ((k + 1 : Nat) : Int)))).map E)) ∧ wr.cell? ⟨w2.heap.size, 0, none⟩ = some (.int .i64 0) ∧ wr.cell? ⟨w2.heap.size, 1, none⟩ = some v ∧ There wr w2.heap.size 2 ∧ Below w2.heap.size w2 wr ∧ w3.heap.size ≤ wr.heap.size) (fun i _ => m - (intOf i).toNat)
        case atStart => exact ⟨0, v, by omega, rfl, by rw [hnn]; exact HO.out, h0, h1, HU.out, HB.out, hszr⟩
        case round =>
          obtain ⟨j, v, hj, rfl, hO, h0, h1, hU, hB, hszr⟩ := hrel
          have HO' : Hid (wr.ownsRow w3.heap.size 69 5 v (scanI (fun i => (E i).id) m k ++ (List.range j).filter (fun i => decide ((E i).id = ((k + 1 : Nat) : Int)))).length (entsCs ((scanI (fun i => (E i).id) m k ++ (List.range j).filter (fun i => decide ((E i).id = ((k + 1 : Nat) : Int)))).map E))) := hO
          have HB' : Hid (Below w2.heap.size w2 wr) := hB
          have HU' : Hid (There wr w2.heap.size 2) := hU
          clear hO hB hU HO HB HU hnn
          by_cases hjm : j < m
          · rcases HI2.out with hz | ⟨g, o, rfl, hgl, hat⟩
            · omega
            have hji : (j : Int) < (m : Int) := by omega
            have hj0 : (0 : Int) ≤ (j : Int) := by omega
            have hatj := (hat.below HB'.out hgl) j hjm
            have hgw : g < wr.heap.size := Nat.lt_of_lt_of_le hgl HB'.out.size
            have c0 := hatj.1
            by_cases hid : (E j).id = ((k + 1 : Nat) : Int)
            · have hid' : (E j).id = (k : Int) + 1 := by omega
              have HS : Hid ((List.range (j + 1)).filter (fun i => decide ((E i).id = ((k + 1 : Nat) : Int))) = (List.range j).filter (fun i => decide ((E i).id = ((k + 1 : Nat) : Int))) ++ [j]) := by
                show _ = _
                rw [List.range_succ, List.filter_append]
                simp [hid]
              obtain ⟨c0, c1, c2, c3, c4⟩ := hatj
              have hLL : (scanI (fun i => (E i).id) m k ++ (List.range j).filter (fun i => decide ((E i).id = ((k + 1 : Nat) : Int)))).length ≤ 48 := by
                have h1 := HLe.out k hk
                have h2 := List.length_filter_le (fun i => decide ((E i).id = ((k + 1 : Nat) : Int))) (List.range j)
                rw [List.length_range] at h2
                rw [List.length_append]
                omega
              have HMap : Hid (∀ L : List Nat, entsCs ((L ++ [j]).map E) = entsCs (L.map E) ++ [.int .i64 (E j).id, .int .i64 (E j).a, .int .i64 (E j).b, .int .i64 (E j).c, .int .i64 (E j).d]) := fun L => by rw [List.map_append]; exact entsCs_add _ _
              have HApp : Hid (∀ L : List Nat, L ++ ((List.range j).filter (fun i => decide ((E i).id = ((k + 1 : Nat) : Int))) ++ [j]) = (L ++ (List.range j).filter (fun i => decide ((E i).id = ((k + 1 : Nat) : Int)))) ++ [j]) := fun L => by rw [List.append_assoc]
              have HRel : Hid (∀ (w' : World) (v' : Value), w'.ownsRow w3.heap.size 69 5 v' ((scanI (fun i => (E i).id) m k ++ (List.range j).filter (fun i => decide ((E i).id = ((k + 1 : Nat) : Int)))).length + 1) (entsCs ((scanI (fun i => (E i).id) m k ++ (List.range j).filter (fun i => decide ((E i).id = ((k + 1 : Nat) : Int)))).map E) ++ [.int .i64 (E j).id, .int .i64 (E j).a, .int .i64 (E j).b, .int .i64 (E j).c, .int .i64 (E j).d]) → w'.ownsRow w3.heap.size 69 5 v' (scanI (fun i => (E i).id) m k ++ (List.range (j + 1)).filter (fun i => decide ((E i).id = ((k + 1 : Nat) : Int)))).length (entsCs ((scanI (fun i => (E i).id) m k ++ (List.range (j + 1)).filter (fun i => decide ((E i).id = ((k + 1 : Nat) : Int)))).map E))) := fun w' v' h => by
                rw [HS.out, HApp.out, HMap.out, List.length_append]
                exact h
              clear HMap HApp HS
              generalize scanI (fun i => (E i).id) m k ++ (List.range j).filter (fun i => decide ((E i).id = ((k + 1 : Nat) : Int))) = LL at *
              obtain ⟨va, vn, vc, hvs⟩ : ∃ a k c, v = .slice a k c := by
                obtain ⟨_, h2 | ⟨g, c, cur, hv, _⟩⟩ := HO'.out
                · exact ⟨_, _, _, h2.1⟩
                · exact ⟨_, _, _, hv⟩
              subst hvs
              have u1 := (HU'.out 1 (by omega)).2
              have hbs : ∀ b, (Value.slice va vn vc).ownBlock = some b → w3.heap.size ≤ b := fun b hb => (HO'.out.lt b hb).1
              go_wp2_with fail
              clear hid' hid
              generalize (E j).id = eid at HRel c0
              generalize (E j).a = ea at HRel c1
              generalize (E j).b = eb at HRel c2
              generalize (E j).c = ec at HRel c3
              generalize (E j).d = ed at HRel c4
              refine wp_region_noPanic ?_
              refine wp_region_L (S := fun W' => W'.cell? ⟨w2.heap.size, 1, none⟩ = some (.slice va vn vc) ∧ W'.cell? ⟨g, o + j * 5, none⟩ = some (.int .i64 eid) ∧ W'.cell? ⟨g, o + j * 5 + 1, none⟩ = some (.int .i64 ea) ∧ W'.cell? ⟨g, o + j * 5 + 2, none⟩ = some (.int .i64 eb) ∧ W'.cell? ⟨g, o + j * 5 + 3, none⟩ = some (.int .i64 ec) ∧ W'.cell? ⟨g, o + j * 5 + 4, none⟩ = some (.int .i64 ed)) (z := 9) (by kernel_rfl) ?_
              have hSd : (fun W' : World => W'.cell? ⟨w2.heap.size, 1, none⟩ = some (.slice va vn vc) ∧ W'.cell? ⟨g, o + j * 5, none⟩ = some (.int .i64 eid) ∧ W'.cell? ⟨g, o + j * 5 + 1, none⟩ = some (.int .i64 ea) ∧ W'.cell? ⟨g, o + j * 5 + 2, none⟩ = some (.int .i64 eb) ∧ W'.cell? ⟨g, o + j * 5 + 3, none⟩ = some (.int .i64 ec) ∧ W'.cell? ⟨g, o + j * 5 + 4, none⟩ = some (.int .i64 ed)) wr.drew := ⟨h1, c0, c1, c2, c3, c4⟩
              refine wpAnyL_take (i := 0) (v := ?w0) rfl (by kernel_rfl) (by kernel_rfl) (by kernel_rfl) (by kernel_rfl) (fun _ _ _ h => h) (Or.inl ⟨by rfl, ?hw0⟩) hSd ?_
              case hw0 => (intro w hSw; obtain ⟨s0, s1, s2, s3, s4, s5⟩ := hSw; go_simp <;> with_reducible rfl)
              try simp only [Act.put, List.setIfInBounds_toArray, List.set_cons_zero, List.set_cons_succ]
              refine wpAnyL_take (i := 1) (v := ?w1) rfl (by kernel_rfl) (by kernel_rfl) (by kernel_rfl) (by kernel_rfl) (fun _ _ _ h => h) (Or.inl ⟨by rfl, ?hw1⟩) hSd ?_
              case hw1 => (intro w hSw; obtain ⟨s0, s1, s2, s3, s4, s5⟩ := hSw; go_simp <;> with_reducible rfl)
              try simp only [Act.put, List.setIfInBounds_toArray, List.set_cons_zero, List.set_cons_succ]
              refine wpAnyL_take (i := 2) (v := ?w2) rfl (by kernel_rfl) (by kernel_rfl) (by kernel_rfl) (by kernel_rfl) (fun _ _ _ h => h) (Or.inl ⟨by rfl, ?hw2⟩) hSd ?_
              case hw2 => (intro w hSw; obtain ⟨s0, s1, s2, s3, s4, s5⟩ := hSw; go_simp <;> with_reducible rfl)
              try simp only [Act.put, List.setIfInBounds_toArray, List.set_cons_zero, List.set_cons_succ]
              refine wpAnyL_take (i := 3) (v := ?w3) rfl (by kernel_rfl) (by kernel_rfl) (by kernel_rfl) (by kernel_rfl) (fun _ _ _ h => h) (Or.inl ⟨by rfl, ?hw3⟩) hSd ?_
              case hw3 => (intro w hSw; obtain ⟨s0, s1, s2, s3, s4, s5⟩ := hSw; go_simp <;> with_reducible rfl)
              try simp only [Act.put, List.setIfInBounds_toArray, List.set_cons_zero, List.set_cons_succ]
              refine wpAnyL_take (i := 4) (v := ?w4) rfl (by kernel_rfl) (by kernel_rfl) (by kernel_rfl) (by kernel_rfl) (fun _ _ _ h => h) (Or.inl ⟨by rfl, ?hw4⟩) hSd ?_
              case hw4 => (intro w hSw; obtain ⟨s0, s1, s2, s3, s4, s5⟩ := hSw; go_simp <;> with_reducible rfl)
              try simp only [Act.put, List.setIfInBounds_toArray, List.set_cons_zero, List.set_cons_succ]
              refine wpAnyL_take (i := 5) (v := ?w5) rfl (by kernel_rfl) (by kernel_rfl) (by kernel_rfl) (by kernel_rfl) (fun _ _ _ h => h) (Or.inl ⟨by rfl, ?hw5⟩) hSd ?_
              case hw5 => (intro w hSw; obtain ⟨s0, s1, s2, s3, s4, s5⟩ := hSw; go_simp <;> with_reducible rfl)
              try simp only [Act.put, List.setIfInBounds_toArray, List.set_cons_zero, List.set_cons_succ]
              refine wpAnyL_one (i := 6) (by kernel_rfl) rfl (fun K hK => ?_)
              go_simp
              generalize hwA : (World.alloc _ _ : World) = wA
              have hbA : Below wr.heap.size wr wA := by subst hwA; (repeat (first | exact Below.refl _ _ | assumption | refine Below.drew ?_ | refine bl_alloc ?_ _ | refine bl_then ?_ (by assumption) | refine Below.setCell ?_ (by first | omega | (simp; done) | (simp; omega)) _ | refine bl_store ?_ ?_ _ _))
              have a0 : wA.drew.cell? ⟨wr.heap.size, 0, none⟩ = some (.int .i64 eid) := by subst hwA; simp [go_sem]
              have a1 : wA.drew.cell? ⟨wr.heap.size, 1, none⟩ = some (.int .i64 ea) := by subst hwA; simp [go_sem]
              have a2 : wA.drew.cell? ⟨wr.heap.size, 2, none⟩ = some (.int .i64 eb) := by subst hwA; simp [go_sem]
              have a3 : wA.drew.cell? ⟨wr.heap.size, 3, none⟩ = some (.int .i64 ec) := by subst hwA; simp [go_sem]
              have a4 : wA.drew.cell? ⟨wr.heap.size, 4, none⟩ = some (.int .i64 ed) := by subst hwA; simp [go_sem]
              have hszA : wA.drew.heap.size = wr.heap.size + 1 := by subst hwA; simp
              have HOA : Hid (wA.drew.ownsRow w3.heap.size 69 5 (.slice va vn vc) LL.length (entsCs (LL.map E))) := by subst hwA; exact World.ownsRow.alloc HO'.out _
              have hbA' : Below wr.heap.size wr wA.drew := hbA.drew
              have hSa : (fun W' : World => W'.cell? ⟨w2.heap.size, 1, none⟩ = some (.slice va vn vc) ∧ W'.cell? ⟨g, o + j * 5, none⟩ = some (.int .i64 eid) ∧ W'.cell? ⟨g, o + j * 5 + 1, none⟩ = some (.int .i64 ea) ∧ W'.cell? ⟨g, o + j * 5 + 2, none⟩ = some (.int .i64 eb) ∧ W'.cell? ⟨g, o + j * 5 + 3, none⟩ = some (.int .i64 ec) ∧ W'.cell? ⟨g, o + j * 5 + 4, none⟩ = some (.int .i64 ed)) wA.drew := ⟨bl_cell hbA' h1, bl_cell hbA' c0, bl_cell hbA' c1, bl_cell hbA' c2, bl_cell hbA' c3, bl_cell hbA' c4⟩
              clear hwA
              refine hK.out _ _ (fun _ => hSa) ?_
              clear hK K
              try simp only [Act.put, List.setIfInBounds_toArray, List.set_cons_zero, List.set_cons_succ]
              refine wpAnyL_one (i := 7) (by kernel_rfl) rfl (fun K hK => ?_)
              refine step_append_own rfl (.tmp 35) (.tmp 40) 43 rfl w3.heap.size 69 i0 (.agg zeroE) 5 40 Try.underlying43 hi hz0 hz1 hz2 rfl (by decide) (.slice va vn vc) LL.length (entsCs (LL.map E)) rfl HOA.out ⟨wr.heap.size, 0, none⟩ 1 1 [.int .i64 eid, .int .i64 ea, .int .i64 eb, .int .i64 ec, .int .i64 ed] rfl rfl ?c1 ?c2 ?c3 ?c4 ?c5 ?_
              case c1 =>
                intro q u hq
                match q, hq with
                | 0, hq => exact (Option.some.inj hq) ▸ a0
                | 1, hq => exact (Option.some.inj hq) ▸ a1
                | 2, hq => exact (Option.some.inj hq) ▸ a2
                | 3, hq => exact (Option.some.inj hq) ▸ a3
                | 4, hq => exact (Option.some.inj hq) ▸ a4
                | q + 5, hq => cases hq
              case c2 => intro u hu; simp at hu; rcases hu with rfl | rfl | rfl | rfl | rfl <;> rfl
              case c3 => unfold maxLen; omega
              case c4 => omega
              case c5 => first | omega | (simp; omega)
              intro v' w3' hown' hgrow hnil
              clear hnil
              have hBg : Below w3.heap.size wA.drew w3' := (Below.refl _ _).grown hgrow (by omega) (fun b hb => hbs b hb)
              have hB3 : Below w3.heap.size wr w3' := (hbA'.mono hszr).trans hBg
              have hgw3 : g < w3.heap.size := by omega
              have n0 : w3'.cell? ⟨w2.heap.size, 0, none⟩ = some (.int .i64 0) := (hB3.cell (p := ⟨w2.heap.size, 0, none⟩) hs3).trans h0
              have n1 : w3'.cell? ⟨w2.heap.size, 1, none⟩ = some (.slice va vn vc) := (hB3.cell (p := ⟨w2.heap.size, 1, none⟩) hs3).trans h1
              have hSb : (fun W' : World => W'.cell? ⟨w2.heap.size, 1, none⟩ = some (.slice va vn vc) ∧ W'.cell? ⟨g, o + j * 5, none⟩ = some (.int .i64 eid) ∧ W'.cell? ⟨g, o + j * 5 + 1, none⟩ = some (.int .i64 ea) ∧ W'.cell? ⟨g, o + j * 5 + 2, none⟩ = some (.int .i64 eb) ∧ W'.cell? ⟨g, o + j * 5 + 3, none⟩ = some (.int .i64 ec) ∧ W'.cell? ⟨g, o + j * 5 + 4, none⟩ = some (.int .i64 ed)) w3' :=
                ⟨n1, (hB3.cell (p := ⟨g, o + j * 5, none⟩) hgw3).trans c0, (hB3.cell (p := ⟨g, o + j * 5 + 1, none⟩) hgw3).trans c1, (hB3.cell (p := ⟨g, o + j * 5 + 2, none⟩) hgw3).trans c2, (hB3.cell (p := ⟨g, o + j * 5 + 3, none⟩) hgw3).trans c3, (hB3.cell (p := ⟨g, o + j * 5 + 4, none⟩) hgw3).trans c4⟩
              have HU4 : Hid (There w3' w2.heap.size 2) := HU'.out.belowE hB3 hs3
              have u1' := (HU4.out 1 (by omega)).2
              have HB4 : Hid (Below w2.heap.size w2 w3') := HB'.out.trans (hB3.mono (by omega))
              have hsz4 : w3.heap.size ≤ w3'.heap.size := Nat.le_trans hszr hB3.size
              have HO4 : Hid (w3'.ownsRow w3.heap.size 69 5 v' (LL.length + 1) (entsCs (LL.map E) ++ [.int .i64 eid, .int .i64 ea, .int .i64 eb, .int .i64 ec, .int .i64 ed])) := hown'
              obtain ⟨ga, gc, rfl⟩ := ownsRow_succ hown'
              show K (Act.put _ (some 41) _) w3'
              refine hK.out _ _ (fun _ => hSb) ?_
              clear hK K hown' hgrow hBg
              try simp only [Act.put, List.setIfInBounds_toArray, List.set_cons_zero, List.set_cons_succ]
              refine wpAnyL_take (i := 8) (v := ?w8) rfl (by kernel_rfl) (by kernel_rfl) (by kernel_rfl) (by kernel_rfl) (fun _ _ _ h => h) (Or.inl ⟨by rfl, ?hw8⟩) hSb ?_
              case hw8 => (intro w hSw; obtain ⟨s0, s1, s2, s3, s4, s5⟩ := hSw; go_simp <;> with_reducible rfl)
              try simp only [Act.put, List.setIfInBounds_toArray, List.set_cons_zero, List.set_cons_succ]
              refine wpAnyL_one (i := 9) (by kernel_rfl) rfl (fun K hK => ?_)
              go_simp
              refine hK.out _ _ (fun h => absurd rfl h) ?_
              clear hK K
              try simp only [Act.put, List.setIfInBounds_toArray, List.set_cons_zero, List.set_cons_succ]
              refine wpAnyL_done (by kernel_rfl) ?_ _
              refine NoPanic.normal ?_
              clear hSb hSa hSd hB3 hbA hbA' a0 a1 a2 a3 a4 hszA HOA
              go_wp2_with fail
              go_roundw
              case rel =>
                refine ⟨j + 1, _, by omega, by go_num, HRel.out _ _ (rowE_set HO4.out hs3), ?_, set1_same n1, HU4.out.set _ _, HB4.out.setCell (Nat.le_refl _) _, by simpa [World.setCell] using hsz4⟩
                rw [set1_other (fun e => by injection e with _ e; omega)]; exact n0
              case measure => simp [intOf]; omega
            · have hid' : ¬ (E j).id = (k : Int) + 1 := by omega
              have HS : Hid ((List.range (j + 1)).filter (fun i => decide ((E i).id = ((k + 1 : Nat) : Int))) = (List.range j).filter (fun i => decide ((E i).id = ((k + 1 : Nat) : Int)))) := by
                show _ = _
                rw [List.range_succ, List.filter_append]
                simp
                exact hid
              have hq1 : ((E j).id == (k : Int) + 1) = false := by simpa using hid'
              clear hat hatj hid hid'
              generalize (E j).id = eid at c0 hq1
              go_wp2_with fail
              go_roundw
              case rel => exact ⟨j + 1, v, by omega, by go_num, by rw [HS.out]; exact HO'.out, h0, h1, HU'.out, HB'.out, hszr⟩
              case measure => simp [intOf]; omega
          · have hje : j = m := by omega
            subst hje
            have HS : Hid (scanI (fun i => (E i).id) j (k + 1) = scanI (fun i => (E i).id) j k ++ (List.range j).filter (fun i => decide ((E i).id = ((k + 1 : Nat) : Int)))) := rfl
            go_wp2_with fail
            go_roundw
            case rel => exact ⟨k + 1, v, by omega, by go_num, by rw [HS.out]; exact HO'.out, h0, h1, HU'.out, HB'.out, hszr⟩
            case measure => simp [intOf]; omega
      · have hke : k = 999 := by omega
        subst hke
        have hO9 : OwnE wr w3.heap.size v m (eiE Q n) := by
          have h := rowE_own (es := (scanI (fun i => (E i).id) m 999).map E) (by rw [List.length_map]; exact HO.out)
          rw [List.length_map, HL.out] at h
          have hee : ∀ i, i < m → entAt ((scanI (fun i => (E i).id) m 999).map E) i = eiE Q n i := fun i hi => by
            have hl := HL.out
            rw [HX.out i]
            have hi' : i < (scanI (fun i => (E i).id) m 999).length := by omega
            simp [entAt, hi', List.getD_eq_getElem?_getD]
          obtain ⟨a, c, hv, hc, h0 | ⟨b, ha, hb, hbl, hat, hT⟩⟩ := h
          · exact ⟨a, c, hv, hc, .inl h0⟩
          · exact ⟨a, c, hv, hc, .inr ⟨b, ha, hb, hbl, fun i hi => by rw [← hee i hi]; exact hat i hi, hT⟩⟩
        obtain ⟨va, vc, hvs, _, _⟩ := hO9.pts
        subst hvs
        have HO9 : Hid (OwnE wr w3.heap.size (.slice va m vc) m (eiE Q n)) := hO9
        have hT' := HT2.out.belowE HB.out hsz2
        have t0 := hT'.cell 0 (by omega)
        have t1 := hT'.cell 1 (by omega)
        have f0 := (hT' 0 (by omega)).2
        have f1 := (hT' 1 (by omega)).2
        have HBw : Hid (Below w.heap.size w wr) := HB2.out.trans (HB.out.mono (by omega))
        have hbw := HB.out.size
        clear hT' hO9 HL HX HLe HAP
        go_wp2_with fail
        obtain ⟨q0, q1⟩ := set2_at (u := .int .i64 0) (v := .slice va m vc) (show (0 : Nat) ≠ 1 by omega) (by rw [t0]; rfl) (by rw [t1]; rfl)
        refine bodyPost_ret (v := .agg #[.int .i64 0, .slice va m vc]) (by simp [results, Try.results15, go_sem, q0, q1]) rfl ⟨_, by rw [HC.out], by rw [HN.out]; exact (HO9.out.set (by omega) (Nat.le_refl _)).set (by omega) (by omega), ?_⟩
        have HB' := HBw.out
        (repeat (first | exact Below.refl _ _ | assumption | refine Below.drew ?_ | refine bl_alloc ?_ _ | refine bl_then ?_ (by assumption) | refine Below.setCell ?_ (by first | omega | (simp; done) | (simp; omega)) _ | refine bl_store ?_ ?_ _ _))
  · have HN : Hid (eiN Q n = 0) := by show _ = _; simp [eiN, hc]
    obtain ⟨qc, hqc⟩ : ∃ qc, quadsC Q n = qc := ⟨_, rfl⟩
    have HC : Hid (quadsC Q n = qc) := hqc
    rw [hqc] at hc ⊢
    clear hqc
    have hT' := HT1.out
    have t0 := hT'.cell 0 (by omega)
    have t1 := hT'.cell 1 (by omega)
    have f0 := (hT' 0 (by omega)).2
    have f1 := (hT' 1 (by omega)).2
    clear hT'
    go_wp2_with fail
    obtain ⟨q0, q1⟩ := set2_at (u := .int .i64 qc) (v := .slice none 0 0) (show (0 : Nat) ≠ 1 by omega) (by rw [t0]; rfl) (by rw [t1]; rfl)
    refine bodyPost_ret (v := .agg #[.int .i64 qc, .slice none 0 0]) (by simp [results, Try.results15, go_sem, q0, q1]) rfl ⟨_, by rw [HC.out], by rw [HN.out]; exact ⟨none, 0, rfl, Nat.le_refl _, .inl rfl⟩, ?_⟩
    have HB := HB1.out
    (repeat (first | exact Below.refl _ _ | assumption | refine Below.drew ?_ | refine bl_alloc ?_ _ | refine bl_then ?_ (by assumption) | refine Below.setCell ?_ (by first | omega | (simp; done) | (simp; omega)) _ | refine bl_store ?_ ?_ _ _))
end Go.Proofs.Ytjnhaigmfjndhaa
