/-
  The roots of the seeds that the ninth layer's laws take, reckoned.
-/
import Derived.Test.YtfneopmgckejdaaDoorF5
namespace Go.Proofs.YtfneopmgckejdaaDoor
open Go.RowKit
theorem qr3_0 : qpub [113, 3, 0, 0, 0, 0, 0, 0] 0 = [182, 48, 41, 251, 133, 212, 111, 146] := by kernel_rfl
theorem qr3_1 : qpub [113, 3, 0, 0, 0, 0, 0, 0] 1 = [28, 215, 189, 152, 184, 170, 93, 23] := by kernel_rfl
theorem qr3_2 : qpub [113, 3, 0, 0, 0, 0, 0, 0] 2 = [222, 93, 104, 164, 237, 40, 177, 39] := by kernel_rfl
theorem qr3_3 : qpub [113, 3, 0, 0, 0, 0, 0, 0] 3 = [114, 174, 237, 126, 127, 154, 95, 13] := by kernel_rfl
theorem qr3_4 : qpub [113, 3, 0, 0, 0, 0, 0, 0] 4 = [250, 33, 139, 169, 149, 112, 36, 11] := by kernel_rfl
theorem qr3_5 : qpub [113, 3, 0, 0, 0, 0, 0, 0] 5 = [222, 186, 198, 248, 81, 63, 99, 241] := by kernel_rfl
theorem qr3_6 : qpub [113, 3, 0, 0, 0, 0, 0, 0] 6 = [250, 68, 62, 251, 63, 177, 251, 6] := by kernel_rfl
theorem qr3_7 : qpub [113, 3, 0, 0, 0, 0, 0, 0] 7 = [132, 78, 115, 60, 112, 212, 148, 101] := by kernel_rfl
theorem qr3 : rootL (up [113, 3, 0, 0, 0, 0, 0, 0]) = up [136, 180, 213, 230, 174, 33, 93, 175] := by
  rw [root_q _ (bytN_lit (by decide)), qr3_0, qr3_1, qr3_2, qr3_3, qr3_4, qr3_5, qr3_6, qr3_7]
  exact congrArg up (by kernel_rfl)
theorem qr4_0 : qpub [113, 4, 0, 0, 0, 0, 0, 0] 0 = [26, 13, 74, 223, 213, 17, 205, 178] := by kernel_rfl
theorem qr4_1 : qpub [113, 4, 0, 0, 0, 0, 0, 0] 1 = [206, 77, 153, 109, 184, 7, 236, 61] := by kernel_rfl
theorem qr4_2 : qpub [113, 4, 0, 0, 0, 0, 0, 0] 2 = [102, 118, 219, 136, 58, 68, 221, 111] := by kernel_rfl
theorem qr4_3 : qpub [113, 4, 0, 0, 0, 0, 0, 0] 3 = [125, 23, 41, 204, 118, 3, 84, 245] := by kernel_rfl
theorem qr4_4 : qpub [113, 4, 0, 0, 0, 0, 0, 0] 4 = [52, 51, 253, 160, 16, 137, 106, 151] := by kernel_rfl
theorem qr4_5 : qpub [113, 4, 0, 0, 0, 0, 0, 0] 5 = [186, 227, 98, 81, 84, 139, 190, 34] := by kernel_rfl
theorem qr4_6 : qpub [113, 4, 0, 0, 0, 0, 0, 0] 6 = [47, 234, 64, 164, 171, 138, 247, 138] := by kernel_rfl
theorem qr4_7 : qpub [113, 4, 0, 0, 0, 0, 0, 0] 7 = [225, 14, 240, 141, 128, 213, 197, 13] := by kernel_rfl
theorem qr4 : rootL (up [113, 4, 0, 0, 0, 0, 0, 0]) = up [170, 223, 126, 121, 129, 128, 94, 198] := by
  rw [root_q _ (bytN_lit (by decide)), qr4_0, qr4_1, qr4_2, qr4_3, qr4_4, qr4_5, qr4_6, qr4_7]
  exact congrArg up (by kernel_rfl)
end Go.Proofs.YtfneopmgckejdaaDoor
