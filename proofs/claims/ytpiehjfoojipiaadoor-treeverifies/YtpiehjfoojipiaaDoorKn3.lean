/- The example: the public key of the leaf 2 of the seed 5: by the kernel. -/
import Derived.Test.YtpiehjfoojipiaaDoorTre
namespace Go.Proofs.YtpiehjfoojipiaaDoor
set_option maxRecDepth 100000 in
theorem pub5_2 : O.lst (O.pub (fun j => if j = 0 then 5 else 0) 2) = [79, 5, 188, 211, 82, 73, 10, 153] := by decide +kernel
end Go.Proofs.YtpiehjfoojipiaaDoor

/- The example: the public key of the leaf 3 of the seed 5: by the kernel. -/
namespace Go.Proofs.YtpiehjfoojipiaaDoor
set_option maxRecDepth 100000 in
theorem pub5_3 : O.lst (O.pub (fun j => if j = 0 then 5 else 0) 3) = [3, 5, 147, 174, 16, 102, 48, 120] := by decide +kernel
end Go.Proofs.YtpiehjfoojipiaaDoor
