/- The example: two digests; what the signature of one message opens to with the other: by the kernel. -/
import Derived.Test.YtpiehjfoojipiaaDoorTre
namespace Go.Proofs.YtpiehjfoojipiaaDoor
set_option maxRecDepth 100000 in
theorem dig_hi : O.dig [104, 105] = 2403550022 := by decide +kernel
set_option maxRecDepth 100000 in
theorem dig_ha : O.dig [104, 97] = 2257815356 := by decide +kernel
set_option maxRecDepth 100000 in
theorem open5 : O.lst (O.opened 2257815356 (O.sigL (fun j => if j = 0 then 5 else 0) 1 2403550022 32)) = [120, 137, 14, 80, 231, 79, 61, 224] := by decide +kernel
end Go.Proofs.YtpiehjfoojipiaaDoor
