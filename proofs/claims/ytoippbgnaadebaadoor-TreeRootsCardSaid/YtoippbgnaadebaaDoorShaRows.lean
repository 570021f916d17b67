/- Plain: the chapter's rows of the hash. -/
import Derived.Test.YtoippbgnaadebaaDoorShaPlain
namespace Go.Proofs.YtoippbgnaadebaaDoor
theorem sha_none : (shaL []).take 4 = [227, 176, 196, 66] := by decide +kernel
theorem sha_abc : (shaL [97, 98, 99]).take 4 = [186, 120, 22, 191] := by decide +kernel
end Go.Proofs.YtoippbgnaadebaaDoor
