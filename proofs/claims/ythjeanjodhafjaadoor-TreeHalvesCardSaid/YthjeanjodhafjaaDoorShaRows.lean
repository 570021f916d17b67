/- Plain: the chapter's rows of the hash. -/
import Derived.Test.YthjeanjodhafjaaDoorShaPlain
namespace Go.Proofs.YthjeanjodhafjaaDoor
theorem sha_none : (shaL []).take 4 = [227, 176, 196, 66] := by decide +kernel
theorem sha_abc : (shaL [97, 98, 99]).take 4 = [186, 120, 22, 191] := by decide +kernel
end Go.Proofs.YthjeanjodhafjaaDoor
