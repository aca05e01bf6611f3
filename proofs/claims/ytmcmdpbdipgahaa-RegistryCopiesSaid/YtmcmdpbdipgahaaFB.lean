/-
  The roots of the seeds that the ninth layer's laws take, reckoned.
-/
import Derived.Test.YtmcmdpbdipgahaaFA
namespace Go.Proofs.Ytmcmdpbdipgahaa
open Go.RowKit
theorem qr0_0 : qpub [113, 0, 0, 0, 0, 0, 0, 0] 0 = [255, 106, 171, 30, 0, 1, 99, 59] := by kernel_rfl
theorem qr0_1 : qpub [113, 0, 0, 0, 0, 0, 0, 0] 1 = [106, 245, 50, 117, 138, 20, 162, 202] := by kernel_rfl
theorem qr0_2 : qpub [113, 0, 0, 0, 0, 0, 0, 0] 2 = [234, 21, 117, 53, 147, 136, 25, 49] := by kernel_rfl
theorem qr0_3 : qpub [113, 0, 0, 0, 0, 0, 0, 0] 3 = [122, 192, 39, 3, 116, 185, 173, 155] := by kernel_rfl
theorem qr0_4 : qpub [113, 0, 0, 0, 0, 0, 0, 0] 4 = [163, 196, 91, 208, 17, 10, 174, 107] := by kernel_rfl
theorem qr0_5 : qpub [113, 0, 0, 0, 0, 0, 0, 0] 5 = [39, 62, 226, 115, 218, 223, 114, 112] := by kernel_rfl
theorem qr0_6 : qpub [113, 0, 0, 0, 0, 0, 0, 0] 6 = [198, 101, 244, 187, 35, 6, 155, 28] := by kernel_rfl
theorem qr0_7 : qpub [113, 0, 0, 0, 0, 0, 0, 0] 7 = [83, 125, 202, 234, 100, 14, 204, 230] := by kernel_rfl
theorem qr0 : rootL (up [113, 0, 0, 0, 0, 0, 0, 0]) = up [42, 27, 56, 72, 149, 84, 97, 106] := by
  rw [root_q _ (bytN_lit (by decide)), qr0_0, qr0_1, qr0_2, qr0_3, qr0_4, qr0_5, qr0_6, qr0_7]
  exact congrArg up (by kernel_rfl)
theorem qr1_0 : qpub [113, 1, 0, 0, 0, 0, 0, 0] 0 = [24, 103, 56, 166, 213, 68, 131, 201] := by kernel_rfl
theorem qr1_1 : qpub [113, 1, 0, 0, 0, 0, 0, 0] 1 = [162, 216, 153, 28, 237, 215, 27, 138] := by kernel_rfl
theorem qr1_2 : qpub [113, 1, 0, 0, 0, 0, 0, 0] 2 = [130, 180, 169, 244, 28, 86, 199, 75] := by kernel_rfl
theorem qr1_3 : qpub [113, 1, 0, 0, 0, 0, 0, 0] 3 = [241, 30, 197, 19, 210, 185, 195, 3] := by kernel_rfl
theorem qr1_4 : qpub [113, 1, 0, 0, 0, 0, 0, 0] 4 = [244, 17, 179, 74, 1, 202, 203, 54] := by kernel_rfl
theorem qr1_5 : qpub [113, 1, 0, 0, 0, 0, 0, 0] 5 = [106, 101, 98, 80, 42, 75, 89, 22] := by kernel_rfl
theorem qr1_6 : qpub [113, 1, 0, 0, 0, 0, 0, 0] 6 = [177, 218, 208, 155, 150, 1, 121, 172] := by kernel_rfl
theorem qr1_7 : qpub [113, 1, 0, 0, 0, 0, 0, 0] 7 = [208, 246, 89, 60, 132, 47, 8, 163] := by kernel_rfl
theorem qr1 : rootL (up [113, 1, 0, 0, 0, 0, 0, 0]) = up [198, 66, 121, 243, 225, 231, 225, 136] := by
  rw [root_q _ (bytN_lit (by decide)), qr1_0, qr1_1, qr1_2, qr1_3, qr1_4, qr1_5, qr1_6, qr1_7]
  exact congrArg up (by kernel_rfl)
theorem qr2_0 : qpub [113, 2, 0, 0, 0, 0, 0, 0] 0 = [33, 255, 187, 84, 137, 93, 191, 196] := by kernel_rfl
theorem qr2_1 : qpub [113, 2, 0, 0, 0, 0, 0, 0] 1 = [14, 162, 189, 31, 23, 195, 101, 25] := by kernel_rfl
theorem qr2_2 : qpub [113, 2, 0, 0, 0, 0, 0, 0] 2 = [166, 93, 144, 216, 28, 32, 191, 0] := by kernel_rfl
theorem qr2_3 : qpub [113, 2, 0, 0, 0, 0, 0, 0] 3 = [171, 99, 17, 185, 16, 73, 246, 151] := by kernel_rfl
theorem qr2_4 : qpub [113, 2, 0, 0, 0, 0, 0, 0] 4 = [251, 167, 119, 251, 87, 129, 253, 47] := by kernel_rfl
theorem qr2_5 : qpub [113, 2, 0, 0, 0, 0, 0, 0] 5 = [58, 35, 103, 254, 209, 157, 229, 217] := by kernel_rfl
theorem qr2_6 : qpub [113, 2, 0, 0, 0, 0, 0, 0] 6 = [110, 242, 228, 153, 203, 74, 94, 94] := by kernel_rfl
theorem qr2_7 : qpub [113, 2, 0, 0, 0, 0, 0, 0] 7 = [177, 148, 97, 173, 185, 47, 203, 92] := by kernel_rfl
theorem qr2 : rootL (up [113, 2, 0, 0, 0, 0, 0, 0]) = up [103, 242, 72, 14, 141, 212, 250, 235] := by
  rw [root_q _ (bytN_lit (by decide)), qr2_0, qr2_1, qr2_2, qr2_3, qr2_4, qr2_5, qr2_6, qr2_7]
  exact congrArg up (by kernel_rfl)
end Go.Proofs.Ytmcmdpbdipgahaa

/-
  The roots of the seeds that the ninth layer's laws take, reckoned.
-/
namespace Go.Proofs.Ytmcmdpbdipgahaa
open Go.RowKit
theorem qr3_0 : qpub [113, 3, 0, 0, 0, 0, 0, 0] 0 = [182, 48, 41, 251, 133, 212, 111, 146] := by kernel_rfl
theorem qr3_1 : qpub [113, 3, 0, 0, 0, 0, 0, 0] 1 = [28, 215, 189, 152, 184, 170, 93, 23] := by kernel_rfl
theorem qr3_2 : qpub [113, 3, 0, 0, 0, 0, 0, 0] 2 = [222, 93, 104, 164, 237, 40, 177, 39] := by kernel_rfl
theorem qr3_3 : qpub [113, 3, 0, 0, 0, 0, 0, 0] 3 = [114, 174, 237, 126, 127, 154, 95, 13] := by kernel_rfl
theorem qr3_4 : qpub [113, 3, 0, 0, 0, 0, 0, 0] 4 = [250, 33, 139, 169, 149, 112, 36, 11] := by kernel_rfl
theorem qr3_5 : qpub [113, 3, 0, 0, 0, 0, 0, 0] 5 = [222, 186, 198, 248, 81, 63, 99, 241] := by kernel_rfl
theorem qr3_6 : qpub [113, 3, 0, 0, 0, 0, 0, 0] 6 = [250, 68, 62, 251, 63, 177, 251, 6] := by kernel_rfl
theorem qr3_7 : qpub [113, 3, 0, 0, 0, 0, 0, 0] 7 = [132, 78, 115, 60, 112, 212, 148, 101] := by kernel_rfl
theorem qr3 : rootL (up [113, 3, 0, 0, 0, 0, 0, 0]) = up [136, 180, 213, 230, 174, 33, 93, 175] := by
  rw [root_q _ (bytN_lit (by decide)), qr3_0, qr3_1, qr3_2, qr3_3, qr3_4, qr3_5, qr3_6, qr3_7]
  exact congrArg up (by kernel_rfl)
theorem qr4_0 : qpub [113, 4, 0, 0, 0, 0, 0, 0] 0 = [26, 13, 74, 223, 213, 17, 205, 178] := by kernel_rfl
theorem qr4_1 : qpub [113, 4, 0, 0, 0, 0, 0, 0] 1 = [206, 77, 153, 109, 184, 7, 236, 61] := by kernel_rfl
theorem qr4_2 : qpub [113, 4, 0, 0, 0, 0, 0, 0] 2 = [102, 118, 219, 136, 58, 68, 221, 111] := by kernel_rfl
theorem qr4_3 : qpub [113, 4, 0, 0, 0, 0, 0, 0] 3 = [125, 23, 41, 204, 118, 3, 84, 245] := by kernel_rfl
theorem qr4_4 : qpub [113, 4, 0, 0, 0, 0, 0, 0] 4 = [52, 51, 253, 160, 16, 137, 106, 151] := by kernel_rfl
theorem qr4_5 : qpub [113, 4, 0, 0, 0, 0, 0, 0] 5 = [186, 227, 98, 81, 84, 139, 190, 34] := by kernel_rfl
theorem qr4_6 : qpub [113, 4, 0, 0, 0, 0, 0, 0] 6 = [47, 234, 64, 164, 171, 138, 247, 138] := by kernel_rfl
theorem qr4_7 : qpub [113, 4, 0, 0, 0, 0, 0, 0] 7 = [225, 14, 240, 141, 128, 213, 197, 13] := by kernel_rfl
theorem qr4 : rootL (up [113, 4, 0, 0, 0, 0, 0, 0]) = up [170, 223, 126, 121, 129, 128, 94, 198] := by
  rw [root_q _ (bytN_lit (by decide)), qr4_0, qr4_1, qr4_2, qr4_3, qr4_4, qr4_5, qr4_6, qr4_7]
  exact congrArg up (by kernel_rfl)
end Go.Proofs.Ytmcmdpbdipgahaa
