/- The places that parts of 255 ask for, of 1 to 25 numbers; reckoned by the kernel. -/
import Derived.Test.YtmkpihagfbohdaaRk0
namespace Go.Proofs.Ytmkpihagfbohdaa
namespace F
set_option maxRecDepth 5000 in
theorem chk_a : (List.range 25).all (fun i => chk (i + 1)) = true := by kernel_rfl
end F
end Go.Proofs.Ytmkpihagfbohdaa
