/- Several texts in one. -/
import Derived.Test.YtncaibchkaadbaaVLabelBox5
import Derived.Test.YtncaibchkaadbaaVLabelBox20
import Derived.Test.YtncaibchkaadbaaVLabelBox40

/- A row that is not empty. -/

namespace Go.Proofs.Ytncaibchkaadbaa
open Go.RowKit
set_option linter.unusedVariables false
end Go.Proofs.Ytncaibchkaadbaa
/- SimpleAt with and without a fault. -/

namespace Go.Proofs.Ytncaibchkaadbaa
open Go.RowKit
set_option linter.unusedVariables false
theorem simple_ok {off : Nat} (id la ki wi z : Int) (b n cap : Nat) (X Y : Nat → Int) (lab : ByteArray) (pr : Int) (L : List Nat) (w : World) (hp : PtsAt w b off n X Y) (hbl : b < w.heap.size) (hn : n ≤ 1048576) (hcap : n ≤ cap) (hl : lab.size ≤ 1048576)
    (hL : 3 ≤ (snapL X Y z n).length → Thin (px (snapL X Y z n)) (py (snapL X Y z n)) (gridI z) 0 ((snapL X Y z n).length - 1) L) (hC : 0 = simpC z (featC id la ki wi n X Y lab pr)) (hR0 : 0 < (simpR 0 ki z n X Y L).length) :
    Calls Try.prog 22 #[.agg #[.int .i64 id, .int .i64 la, .int .i64 ki, .int .i64 wi, .slice (some ⟨b, off, none⟩) n cap, .string lab, .int .i64 pr], .int .i64 z] w fun e w' => ∃ g cg, e = .returned (.agg #[.int .i64 0, .int .i64 id, .int .i64 la, .int .i64 ki, .int .i64 wi, .slice (some ⟨g, 0, none⟩) (simpR 0 ki z n X Y L).length cg, .string lab, .int .i64 pr]) ∧ g < w'.heap.size ∧ (simpR 0 ki z n X Y L).length ≤ cg ∧ PtsAt w' g 0 (simpR 0 ki z n X Y L).length (px (simpR 0 ki z n X Y L)) (py (simpR 0 ki z n X Y L)) ∧ Below w.heap.size w w' :=
  (impl_SimpleAt_any id la ki wi z b n cap X Y lab pr L w hp hbl hn hcap hl hL 0 hC).mono fun e w' ⟨v, he, hR, hb⟩ => by
    obtain ⟨g, cg, hv, h1, h2, h3, h4⟩ := hR.at hR0
    refine ⟨g, cg, ?_, h2, h3, h4, hb⟩
    rw [he, hv]
    simp [zI, zS]
theorem simple_no {off : Nat} (id la ki wi z : Int) (b n cap : Nat) (X Y : Nat → Int) (lab : ByteArray) (pr : Int) (L : List Nat) (w : World) (hp : PtsAt w b off n X Y) (hbl : b < w.heap.size) (hn : n ≤ 1048576) (hcap : n ≤ cap) (hl : lab.size ≤ 1048576)
    (hL : 3 ≤ (snapL X Y z n).length → Thin (px (snapL X Y z n)) (py (snapL X Y z n)) (gridI z) 0 ((snapL X Y z n).length - 1) L) (C : Int) (hC : C = simpC z (featC id la ki wi n X Y lab pr)) (hC0 : C ≠ 0) :
    Calls Try.prog 22 #[.agg #[.int .i64 id, .int .i64 la, .int .i64 ki, .int .i64 wi, .slice (some ⟨b, off, none⟩) n cap, .string lab, .int .i64 pr], .int .i64 z] w fun e w' => ∃ a c, e = .returned (.agg #[.int .i64 C, .int .i64 0, .int .i64 0, .int .i64 0, .int .i64 0, .slice a 0 c, .string ⟨#[]⟩, .int .i64 0]) ∧ Below w.heap.size w w' :=
  (impl_SimpleAt_any id la ki wi z b n cap X Y lab pr L w hp hbl hn hcap hl hL C hC).mono fun e w' ⟨v, he, hR, hb⟩ => by
    rw [simpR, if_neg hC0] at hR
    obtain ⟨a, c, hv, _⟩ := hR.own
    refine ⟨a, c, ?_, hb⟩
    rw [he, hv]
    simp [zI, zS, hC0]
end Go.Proofs.Ytncaibchkaadbaa
