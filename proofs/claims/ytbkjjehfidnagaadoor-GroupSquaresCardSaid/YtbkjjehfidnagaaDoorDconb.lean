/- DERIVED. What loops of the laws keep. -/
import Derived.Test.YtbkjjehfidnagaaDoorDcon
namespace Go.Proofs.YtbkjjehfidnagaaDoor
open Go.Dx
abbrev aM : ASh := .c (.int .i32 (-2147483648) 2147483647)
end Go.Proofs.YtbkjjehfidnagaaDoor
