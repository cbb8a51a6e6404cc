/- The laws of CrossOf and DistanceOf return true at every argument. -/
import Derived.Test.YtlkjdbigpjpgeabCrossLaw
import Derived.Test.YtlkjdbigpjpgeabCrossSpec
import Derived.Test.YtlkjdbigpjpgeabCrossImpl
namespace Go.Proofs.Ytlkjdbigpjpgeab
open Go.RowKit

theorem FnExactCrossOf_walk (mx my nx ny ox oy : Int) (w : World) :
    Calls Try.prog 3 #[.agg #[.int .i64 mx, .int .i64 my], .agg #[.int .i64 nx, .int .i64 ny], .agg #[.int .i64 ox, .int .i64 oy]] w fun e w' => e = .returned (.bool true) ∧ Below w.heap.size w w' := by
  cases h0 : okP mx my
  · exact FnExactCrossOf_law mx my nx ny ox oy 3 0 w (fun w => spec_CrossOf_0 _ _ _ _ _ _ w h0) (fun w => impl_CrossOf_0 _ _ _ _ _ _ w h0)
  cases h1 : okP nx ny
  · exact FnExactCrossOf_law mx my nx ny ox oy 3 0 w (fun w => spec_CrossOf_1 _ _ _ _ _ _ w h0 h1) (fun w => impl_CrossOf_1 _ _ _ _ _ _ w h1)
  cases h2 : okP ox oy
  · exact FnExactCrossOf_law mx my nx ny ox oy 3 0 w (fun w => spec_CrossOf_2 _ _ _ _ _ _ w h0 h1 h2) (fun w => impl_CrossOf_2 _ _ _ _ _ _ w h2)
  exact FnExactCrossOf_law mx my nx ny ox oy 0 _ w (fun w => spec_CrossOf_3 _ _ _ _ _ _ w h0 h1 h2) (fun w => impl_CrossOf_3 _ _ _ _ _ _ w h0 h1 h2)

theorem FnExactDistanceOf_walk (mx my nx ny : Int) (w : World) :
    Calls Try.prog 4 #[.agg #[.int .i64 mx, .int .i64 my], .agg #[.int .i64 nx, .int .i64 ny]] w fun e w' => e = .returned (.bool true) ∧ Below w.heap.size w w' := by
  cases h0 : okP mx my
  · exact FnExactDistanceOf_law mx my nx ny 3 0 w (fun w => spec_DistanceOf_0 _ _ _ _ w h0) (fun w => impl_DistanceOf_0 _ _ _ _ w h0)
  cases h1 : okP nx ny
  · exact FnExactDistanceOf_law mx my nx ny 3 0 w (fun w => spec_DistanceOf_1 _ _ _ _ w h0 h1) (fun w => impl_DistanceOf_1 _ _ _ _ w h1)
  exact FnExactDistanceOf_law mx my nx ny 0 _ w (fun w => spec_DistanceOf_2 _ _ _ _ w h0 h1) (fun w => impl_DistanceOf_2 _ _ _ _ w h0 h1)
end Go.Proofs.Ytlkjdbigpjpgeab
