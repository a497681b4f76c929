/- The example: the public key of the leaf 0 of the seed 5: by the kernel. -/
import Derived.Test.YtpiehjfoojipiaaDoorTre
namespace Go.Proofs.YtpiehjfoojipiaaDoor
set_option maxRecDepth 100000 in
theorem pub5_0 : O.lst (O.pub (fun j => if j = 0 then 5 else 0) 0) = [188, 236, 230, 86, 15, 197, 228, 61] := by decide +kernel
end Go.Proofs.YtpiehjfoojipiaaDoor

/- The example: the public key of the leaf 1 of the seed 5: by the kernel. -/
namespace Go.Proofs.YtpiehjfoojipiaaDoor
set_option maxRecDepth 100000 in
theorem pub5_1 : O.lst (O.pub (fun j => if j = 0 then 5 else 0) 1) = [12, 51, 161, 96, 101, 167, 128, 248] := by decide +kernel
end Go.Proofs.YtpiehjfoojipiaaDoor
