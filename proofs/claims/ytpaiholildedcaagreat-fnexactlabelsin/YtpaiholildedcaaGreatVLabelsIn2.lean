/- Texts. -/
import Derived.Test.YtpaiholildedcaaGreatVLabelsIn1
import Derived.Shelf.SlSortCmp.NoneTotal
set_option linter.unusedSimpArgs false
set_option linter.unusedVariables false
set_option maxRecDepth 100000
set_option maxHeartbeats 32000000
namespace Go.Proofs.YtpaiholildedcaaGreat
open Go.RowKit
end Go.Proofs.YtpaiholildedcaaGreat
namespace Go.Proofs.YtpaiholildedcaaGreat
open Go.RowKit Go.Sort Go.Shelf
theorem Gro.grow {V W':World}(h:Gro V W'):∃ q os',W'=Go.Sort.grow (V.drewN q) os':=by
 obtain ⟨hb,hd⟩:=h
 refine ⟨W'.drawn - V.drawn,W'.heap.extract V.heap.size W'.heap.size,?_⟩
 obtain ⟨hp,tp,dr,os,ou⟩:=W'
 obtain ⟨h1,h2,h3,h4,h5⟩:=hb
 simp only at h1 h2 h3 h4 h5 hd
 subst h1 h2 h3
 have e1:V.drawn+(dr - V.drawn)=dr:=by omega
 have e2:V.heap ++ hp.extract V.heap.size hp.size=hp:=by
  apply Array.ext
  ·simp;omega
  ·intro i hi hi'
   by_cases h:i<V.heap.size
   ·rw [Array.getElem_append_left h]
    have:=h5 i h
    rw [Array.getElem?_eq_getElem hi',Array.getElem?_eq_getElem h] at this
    injection this with this
    exact this.symm
   ·rw [Array.getElem_append_right (by omega)]
    simp only [Array.getElem_extract]
    congr 1
    omega
 simp only [Go.Sort.grow,World.drewN,e1,e2]
theorem zQt (x y:Int):zH3 x y<0 ↔ x<y:=by
 unfold zH3
 by_cases h1:x<y
 ·rw [if_pos h1];simp [h1]
 ·rw [if_neg h1]
  by_cases h2:y<x
  ·rw [if_pos h2];simp [h1]
  ·rw [if_neg h2];simp [h1]
theorem zJu (x y:Int):zH3 x y=0 ↔ x=y:=by
 unfold zH3
 by_cases h1:x<y
 ·rw [if_pos h1];simp;omega
 ·rw [if_neg h1]
  by_cases h2:y<x
  ·rw [if_pos h2];simp;omega
  ·rw [if_neg h2];simp;omega
theorem zLf (enc:Nat→List Value)(k:Nat)(w:World)(g off m:Nat)(d:Array Nat)(os:Array Obj):w.grownBy (sortWorldK enc k w g off m d os) (some g):=by
 refine ⟨rfl,rfl,rfl,size_sortWorldK_c _ _ _ _ _ _ _ _,fun j hj hne=>?_⟩
 have hne':g≠j:=fun e=>hne (by rw [e])
 show ((putRowK enc k (Sort.ahead w m) g off d).heap ++ os)[j]?=_
 have hs:(putRowK enc k (Sort.ahead w m) g off d).heap.size=w.heap.size:=by
  show (putRow id (Sort.ahead w m) g off (flatK enc k d)).heap.size=_
  rw [size_putRow];rfl
 rw [Array.getElem?_append_left (by rw [hs];exact hj)]
 show (w.heap.modify g _)[j]?=_
 rw [Array.getElem?_modify,if_neg hne']
end Go.Proofs.YtpaiholildedcaaGreat
namespace Go.Proofs.YtpaiholildedcaaGreat
open Go.RowKit
end Go.Proofs.YtpaiholildedcaaGreat
