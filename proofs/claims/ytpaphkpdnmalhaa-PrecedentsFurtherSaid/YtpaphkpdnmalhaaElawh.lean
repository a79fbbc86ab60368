/- DERIVED. The law of further factors and cases. -/
import Derived.Test.YtpaphkpdnmalhaaElawh1
import Derived.Test.YtpaphkpdnmalhaaElawh2
import Derived.Test.YtpaphkpdnmalhaaElawh3
namespace Go.Proofs.Ytpaphkpdnmalhaa
open Go.Dx Go.RowKit
theorem PrecedentsFurther_any (v0 v1 v3 : Value) (b : Int) (w : World) (hG : Glb tb w) (g0 : BookA w v0) (g1 : ∃ d, cellA w ints (.sl none 0 d) v1) (hb : 0 ≤ b ∧ b ≤ 255) (g3 : CaseA w v3) :
    Calls Try.prog 8 #[v0, v1, .int .u8 b, v3] w fun e w' => e = .returned (.bool true) ∧ Below w.heap.size w w' := by
  obtain ⟨S, C, c0, rfl, h0⟩ := g0
  obtain ⟨f, h1⟩ := g1
  obtain ⟨no, yr, g, F, R, c3, rfl, h3⟩ := g3
  by_cases hfew : FewP (.sl none 0 S) (moreC C no yr g (.sl none 0 F) (.sl none 0 R))
  · by_cases hX : chkF (.sl none 0 S) (moreC C no yr g (.sl none 0 F) (.sl none 0 R)) = 0
    · exact further1 v1 b w hG S C f F R no yr g c0 c3 h0 h1 hb h3 hfew hX
    · exact further2 v1 b w hG S C f F R no yr g c0 c3 h0 h1 hb h3 hfew hX
  · exact further3 v1 b w hG S C f F R no yr g c0 c3 h0 h1 hb h3 hfew
end Go.Proofs.Ytpaphkpdnmalhaa
