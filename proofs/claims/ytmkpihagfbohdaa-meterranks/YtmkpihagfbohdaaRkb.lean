/- The places that parts of 255 ask for, of 26 to 50 numbers; reckoned by the kernel. -/
import Derived.Test.YtmkpihagfbohdaaRk0
namespace Go.Proofs.Ytmkpihagfbohdaa
namespace F
set_option maxRecDepth 5000 in
theorem chk_b : (List.range 25).all (fun i => chk (i + 26)) = true := by kernel_rfl
end F
end Go.Proofs.Ytmkpihagfbohdaa
