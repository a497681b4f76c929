/- The example: a public key that is not nought, a digest: by the kernel. -/
import Derived.Test.YtlpidcgnipgkoaaDoorOnce
namespace Go.Proofs.YtlpidcgnipgkoaaDoor
def f1 (j : Nat) : BitVec 8 := if j = 0 then 1 else 0
set_option maxRecDepth 100000 in
theorem pub_known : (O.pub f1 3 0 == 176) = true := by decide +kernel
set_option maxRecDepth 100000 in
theorem dig_known : O.dig [97, 98, 99] = 3128432319 := by decide +kernel
end Go.Proofs.YtlpidcgnipgkoaaDoor
