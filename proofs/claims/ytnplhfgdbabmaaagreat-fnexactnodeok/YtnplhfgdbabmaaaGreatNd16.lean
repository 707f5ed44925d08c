/- Nodes, the model's way: doubts. -/
import Derived.Test.YtnplhfgdbabmaaaGreatNd10
import Derived.Test.YtnplhfgdbabmaaaGreatNd14
import Derived.Test.YtnplhfgdbabmaaaGreatMsk
namespace Go.Proofs.YtnplhfgdbabmaaaGreat
open Go.ChangeShapes Go.WideShapes Go.ChangeAt Go.RowKit
attribute [local go_sem ↓] Go.wp_at_zero Go.wp_at_succ
def o40_6 : Array Oper := #[{ dst := some 26, op := .move (.tmp 3), type := 3, pos := "l21_node.go:65", after := #[], guard := none }, { dst := some 27, op := .binOp .gtr 3 (.tmp 26) (.const (.int .i64 0)) 3, type := 4, pos := "l21_node.go:65", after := #[{ on := 0, ground := .data }], guard := none }, { dst := some 28, op := .move (.tmp 27), type := 4, pos := "l21_node.go:65", after := #[{ on := 1, ground := .data }], guard := none }, { dst := some 29, op := .fieldAddr 43 (.tmp 1) 11, type := 0, pos := "l21_node.go:65", after := #[{ on := 2, ground := .guard }], guard := some (2, true) }, { dst := some 30, op := .load 38 (.tmp 29), type := 38, pos := "l21_node.go:65", after := #[{ on := 3, ground := .data }, { on := 2, ground := .guard }], guard := some (2, true) }, { dst := some 31, op := .move (.tmp 3), type := 3, pos := "l21_node.go:65", after := #[{ on := 2, ground := .guard }], guard := some (2, true) }, { dst := some 32, op := .binOp .sub 3 (.tmp 31) (.const (.int .i64 1)) 3, type := 3, pos := "l21_node.go:65", after := #[{ on := 5, ground := .data }, { on := 2, ground := .guard }], guard := some (2, true) }, { dst := some 33, op := .indexAddr 38 (.tmp 30) (.tmp 32), type := 0, pos := "l21_node.go:65", after := #[{ on := 4, ground := .data }, { on := 6, ground := .data }, { on := 2, ground := .guard }], guard := some (2, true) }, { dst := some 34, op := .fieldAddr 105 (.tmp 33) 0, type := 0, pos := "l21_node.go:65", after := #[{ on := 7, ground := .data }, { on := 2, ground := .guard }], guard := some (2, true) }, { dst := some 35, op := .load 3 (.tmp 34), type := 3, pos := "l21_node.go:65", after := #[{ on := 8, ground := .data }, { on := 2, ground := .guard }], guard := some (2, true) }, { dst := some 36, op := .fieldAddr 105 (.tmp 4) 0, type := 0, pos := "l21_node.go:65", after := #[{ on := 2, ground := .guard }], guard := some (2, true) }, { dst := some 37, op := .load 3 (.tmp 36), type := 3, pos := "l21_node.go:65", after := #[{ on := 10, ground := .data }, { on := 2, ground := .guard }], guard := some (2, true) }, { dst := some 38, op := .binOp .geq 3 (.tmp 35) (.tmp 37) 3, type := 4, pos := "l21_node.go:65", after := #[{ on := 9, ground := .data }, { on := 11, ground := .data }, { on := 2, ground := .guard }], guard := some (2, true) }, { dst := some 39, op := .pick (.tmp 28) (.tmp 38) (.const (.bool false)), type := 4, pos := "l21_node.go:65", after := #[{ on := 2, ground := .data }, { on := 12, ground := .data }], guard := none }, { dst := some 40, op := .move (.tmp 39), type := 4, pos := "l21_node.go:65", after := #[{ on := 13, ground := .data }, { on := 2, ground := .chain }], guard := none }, { dst := some 41, op := .move (.tmp 5), type := 3, pos := "l21_node.go:65", after := #[{ on := 14, ground := .guard }], guard := some (14, false) }, { dst := some 42, op := .binOp .lss 3 (.tmp 41) (.const (.int .i64 0)) 3, type := 4, pos := "l21_node.go:65", after := #[{ on := 15, ground := .data }, { on := 14, ground := .guard }], guard := some (14, false) }, { dst := some 43, op := .pick (.tmp 40) (.const (.bool true)) (.tmp 42), type := 4, pos := "l21_node.go:65", after := #[{ on := 14, ground := .data }, { on := 16, ground := .data }], guard := none }, { dst := some 44, op := .move (.tmp 43), type := 4, pos := "l21_node.go:65", after := #[{ on := 17, ground := .data }, { on := 14, ground := .chain }], guard := none }, { dst := some 45, op := .fieldAddr 43 (.tmp 1) 8, type := 0, pos := "l21_node.go:65", after := #[{ on := 18, ground := .guard }], guard := some (18, false) }, { dst := some 46, op := .load 35 (.tmp 45), type := 35, pos := "l21_node.go:65", after := #[{ on := 19, ground := .data }, { on := 18, ground := .guard }], guard := some (18, false) }, { dst := some 47, op := .move (.tmp 5), type := 3, pos := "l21_node.go:65", after := #[{ on := 18, ground := .guard }], guard := some (18, false) }, { dst := some 48, op := .indexAddr 35 (.tmp 46) (.tmp 47), type := 0, pos := "l21_node.go:65", after := #[{ on := 20, ground := .data }, { on := 21, ground := .data }, { on := 18, ground := .guard }], guard := some (18, false) }, { dst := some 49, op := .fieldAddr 119 (.tmp 48) 2, type := 0, pos := "l21_node.go:65", after := #[{ on := 22, ground := .data }, { on := 18, ground := .guard }], guard := some (18, false) }, { dst := some 50, op := .load 3 (.tmp 49), type := 3, pos := "l21_node.go:65", after := #[{ on := 23, ground := .data }, { on := 18, ground := .guard }], guard := some (18, false) }, { dst := some 51, op := .binOp .neq 3 (.tmp 50) (.const (.int .i64 2)) 3, type := 4, pos := "l21_node.go:65", after := #[{ on := 24, ground := .data }, { on := 18, ground := .guard }], guard := some (18, false) }, { dst := some 52, op := .pick (.tmp 44) (.const (.bool true)) (.tmp 51), type := 4, pos := "l21_node.go:65", after := #[{ on := 18, ground := .data }, { on := 25, ground := .data }], guard := none }, { dst := some 53, op := .move (.tmp 52), type := 4, pos := "l21_node.go:65", after := #[{ on := 26, ground := .data }, { on := 18, ground := .chain }], guard := none }, { dst := some 54, op := .fieldAddr 43 (.tmp 1) 8, type := 0, pos := "l21_node.go:65", after := #[{ on := 27, ground := .guard }], guard := some (27, false) }, { dst := some 55, op := .load 35 (.tmp 54), type := 35, pos := "l21_node.go:65", after := #[{ on := 28, ground := .data }, { on := 27, ground := .guard }], guard := some (27, false) }, { dst := some 56, op := .move (.tmp 5), type := 3, pos := "l21_node.go:65", after := #[{ on := 27, ground := .guard }], guard := some (27, false) }, { dst := some 57, op := .indexAddr 35 (.tmp 55) (.tmp 56), type := 0, pos := "l21_node.go:65", after := #[{ on := 29, ground := .data }, { on := 30, ground := .data }, { on := 27, ground := .guard }], guard := some (27, false) }, { dst := some 58, op := .fieldAddr 119 (.tmp 57) 1, type := 0, pos := "l21_node.go:65", after := #[{ on := 31, ground := .data }, { on := 27, ground := .guard }], guard := some (27, false) }, { dst := some 59, op := .load 3 (.tmp 58), type := 3, pos := "l21_node.go:65", after := #[{ on := 32, ground := .data }, { on := 27, ground := .guard }], guard := some (27, false) }, { dst := some 60, op := .fieldAddr 105 (.tmp 4) 1, type := 0, pos := "l21_node.go:65", after := #[{ on := 27, ground := .guard }], guard := some (27, false) }, { dst := some 61, op := .load 3 (.tmp 60), type := 3, pos := "l21_node.go:65", after := #[{ on := 34, ground := .data }, { on := 27, ground := .guard }], guard := some (27, false) }, { dst := some 62, op := .binOp .neq 3 (.tmp 59) (.tmp 61) 3, type := 4, pos := "l21_node.go:65", after := #[{ on := 33, ground := .data }, { on := 35, ground := .data }, { on := 27, ground := .guard }], guard := some (27, false) }, { dst := some 63, op := .pick (.tmp 53) (.const (.bool true)) (.tmp 62), type := 4, pos := "l21_node.go:65", after := #[{ on := 27, ground := .data }, { on := 36, ground := .data }], guard := none }, { dst := some 64, op := .move (.tmp 63), type := 4, pos := "l21_node.go:65", after := #[{ on := 37, ground := .data }, { on := 27, ground := .chain }], guard := none }, { dst := some 65, op := .fieldAddr 105 (.tmp 4) 2, type := 0, pos := "l21_node.go:65", after := #[{ on := 38, ground := .guard }], guard := some (38, false) }, { dst := some 66, op := .load 3 (.tmp 65), type := 3, pos := "l21_node.go:65", after := #[{ on := 39, ground := .data }, { on := 38, ground := .guard }], guard := some (38, false) }, { dst := some 67, op := .fieldAddr 43 (.tmp 1) 5, type := 0, pos := "l21_node.go:65", after := #[{ on := 38, ground := .guard }], guard := some (38, false) }, { dst := some 68, op := .load 3 (.tmp 67), type := 3, pos := "l21_node.go:65", after := #[{ on := 41, ground := .data }, { on := 38, ground := .guard }], guard := some (38, false) }, { dst := some 69, op := .call { callee := .value (.func 33), args := #[.tmp 66, .const (.int .i64 0), .tmp 68], argTypes := #[3, 3, 3] }, type := 4, pos := "l21_node.go:65", after := #[{ on := 40, ground := .data }, { on := 42, ground := .data }, { on := 38, ground := .chain }, { on := 38, ground := .guard }], guard := some (38, false) }, { dst := some 70, op := .unOp .not 4 (.tmp 69), type := 4, pos := "l21_node.go:65", after := #[{ on := 43, ground := .data }, { on := 38, ground := .guard }], guard := some (38, false) }, { dst := some 71, op := .pick (.tmp 64) (.const (.bool true)) (.tmp 70), type := 4, pos := "l21_node.go:65", after := #[{ on := 38, ground := .data }, { on := 44, ground := .data }], guard := none }, { dst := some 72, op := .move (.tmp 71), type := 4, pos := "l21_node.go:65", after := #[{ on := 45, ground := .data }, { on := 43, ground := .chain }], guard := none }, { dst := some 73, op := .fieldAddr 105 (.tmp 4) 3, type := 0, pos := "l21_node.go:65", after := #[{ on := 46, ground := .guard }], guard := some (46, false) }, { dst := some 74, op := .load 59 (.tmp 73), type := 59, pos := "l21_node.go:65", after := #[{ on := 47, ground := .data }, { on := 46, ground := .guard }], guard := some (46, false) }, { dst := some 75, op := .call { callee := .builtin .len, args := #[.tmp 74], argTypes := #[59] }, type := 3, pos := "l21_node.go:65", after := #[{ on := 48, ground := .data }, { on := 46, ground := .guard }], guard := some (46, false) }, { dst := some 76, op := .binOp .eql 3 (.tmp 75) (.const (.int .i64 0)) 3, type := 4, pos := "l21_node.go:65", after := #[{ on := 49, ground := .data }, { on := 46, ground := .guard }], guard := some (46, false) }, { dst := some 77, op := .pick (.tmp 72) (.const (.bool true)) (.tmp 76), type := 4, pos := "l21_node.go:65", after := #[{ on := 46, ground := .data }, { on := 50, ground := .data }], guard := none }]
theorem fo40_6 : FreeN .any o40_6 52 := ⟨⟨by kernel_rfl⟩, by kernel_rfl⟩
theorem o40_6_0 : o40_6[0]? = some { dst := some 26, op := .move (.tmp 3), type := 3, pos := "l21_node.go:65", after := #[], guard := none } := rfl
theorem o40_6_1 : o40_6[1]? = some { dst := some 27, op := .binOp .gtr 3 (.tmp 26) (.const (.int .i64 0)) 3, type := 4, pos := "l21_node.go:65", after := #[{ on := 0, ground := .data }], guard := none } := rfl
theorem o40_6_2 : o40_6[2]? = some { dst := some 28, op := .move (.tmp 27), type := 4, pos := "l21_node.go:65", after := #[{ on := 1, ground := .data }], guard := none } := rfl
theorem o40_6_3 : o40_6[3]? = some { dst := some 29, op := .fieldAddr 43 (.tmp 1) 11, type := 0, pos := "l21_node.go:65", after := #[{ on := 2, ground := .guard }], guard := some (2, true) } := rfl
theorem o40_6_4 : o40_6[4]? = some { dst := some 30, op := .load 38 (.tmp 29), type := 38, pos := "l21_node.go:65", after := #[{ on := 3, ground := .data }, { on := 2, ground := .guard }], guard := some (2, true) } := rfl
theorem o40_6_5 : o40_6[5]? = some { dst := some 31, op := .move (.tmp 3), type := 3, pos := "l21_node.go:65", after := #[{ on := 2, ground := .guard }], guard := some (2, true) } := rfl
theorem o40_6_6 : o40_6[6]? = some { dst := some 32, op := .binOp .sub 3 (.tmp 31) (.const (.int .i64 1)) 3, type := 3, pos := "l21_node.go:65", after := #[{ on := 5, ground := .data }, { on := 2, ground := .guard }], guard := some (2, true) } := rfl
theorem o40_6_7 : o40_6[7]? = some { dst := some 33, op := .indexAddr 38 (.tmp 30) (.tmp 32), type := 0, pos := "l21_node.go:65", after := #[{ on := 4, ground := .data }, { on := 6, ground := .data }, { on := 2, ground := .guard }], guard := some (2, true) } := rfl
theorem o40_6_8 : o40_6[8]? = some { dst := some 34, op := .fieldAddr 105 (.tmp 33) 0, type := 0, pos := "l21_node.go:65", after := #[{ on := 7, ground := .data }, { on := 2, ground := .guard }], guard := some (2, true) } := rfl
theorem o40_6_9 : o40_6[9]? = some { dst := some 35, op := .load 3 (.tmp 34), type := 3, pos := "l21_node.go:65", after := #[{ on := 8, ground := .data }, { on := 2, ground := .guard }], guard := some (2, true) } := rfl
theorem o40_6_10 : o40_6[10]? = some { dst := some 36, op := .fieldAddr 105 (.tmp 4) 0, type := 0, pos := "l21_node.go:65", after := #[{ on := 2, ground := .guard }], guard := some (2, true) } := rfl
theorem o40_6_11 : o40_6[11]? = some { dst := some 37, op := .load 3 (.tmp 36), type := 3, pos := "l21_node.go:65", after := #[{ on := 10, ground := .data }, { on := 2, ground := .guard }], guard := some (2, true) } := rfl
theorem o40_6_12 : o40_6[12]? = some { dst := some 38, op := .binOp .geq 3 (.tmp 35) (.tmp 37) 3, type := 4, pos := "l21_node.go:65", after := #[{ on := 9, ground := .data }, { on := 11, ground := .data }, { on := 2, ground := .guard }], guard := some (2, true) } := rfl
theorem o40_6_13 : o40_6[13]? = some { dst := some 39, op := .pick (.tmp 28) (.tmp 38) (.const (.bool false)), type := 4, pos := "l21_node.go:65", after := #[{ on := 2, ground := .data }, { on := 12, ground := .data }], guard := none } := rfl
theorem o40_6_14 : o40_6[14]? = some { dst := some 40, op := .move (.tmp 39), type := 4, pos := "l21_node.go:65", after := #[{ on := 13, ground := .data }, { on := 2, ground := .chain }], guard := none } := rfl
theorem o40_6_15 : o40_6[15]? = some { dst := some 41, op := .move (.tmp 5), type := 3, pos := "l21_node.go:65", after := #[{ on := 14, ground := .guard }], guard := some (14, false) } := rfl
theorem o40_6_16 : o40_6[16]? = some { dst := some 42, op := .binOp .lss 3 (.tmp 41) (.const (.int .i64 0)) 3, type := 4, pos := "l21_node.go:65", after := #[{ on := 15, ground := .data }, { on := 14, ground := .guard }], guard := some (14, false) } := rfl
theorem o40_6_17 : o40_6[17]? = some { dst := some 43, op := .pick (.tmp 40) (.const (.bool true)) (.tmp 42), type := 4, pos := "l21_node.go:65", after := #[{ on := 14, ground := .data }, { on := 16, ground := .data }], guard := none } := rfl
theorem o40_6_18 : o40_6[18]? = some { dst := some 44, op := .move (.tmp 43), type := 4, pos := "l21_node.go:65", after := #[{ on := 17, ground := .data }, { on := 14, ground := .chain }], guard := none } := rfl
theorem o40_6_19 : o40_6[19]? = some { dst := some 45, op := .fieldAddr 43 (.tmp 1) 8, type := 0, pos := "l21_node.go:65", after := #[{ on := 18, ground := .guard }], guard := some (18, false) } := rfl
theorem o40_6_20 : o40_6[20]? = some { dst := some 46, op := .load 35 (.tmp 45), type := 35, pos := "l21_node.go:65", after := #[{ on := 19, ground := .data }, { on := 18, ground := .guard }], guard := some (18, false) } := rfl
theorem o40_6_21 : o40_6[21]? = some { dst := some 47, op := .move (.tmp 5), type := 3, pos := "l21_node.go:65", after := #[{ on := 18, ground := .guard }], guard := some (18, false) } := rfl
theorem o40_6_22 : o40_6[22]? = some { dst := some 48, op := .indexAddr 35 (.tmp 46) (.tmp 47), type := 0, pos := "l21_node.go:65", after := #[{ on := 20, ground := .data }, { on := 21, ground := .data }, { on := 18, ground := .guard }], guard := some (18, false) } := rfl
theorem o40_6_23 : o40_6[23]? = some { dst := some 49, op := .fieldAddr 119 (.tmp 48) 2, type := 0, pos := "l21_node.go:65", after := #[{ on := 22, ground := .data }, { on := 18, ground := .guard }], guard := some (18, false) } := rfl
theorem o40_6_24 : o40_6[24]? = some { dst := some 50, op := .load 3 (.tmp 49), type := 3, pos := "l21_node.go:65", after := #[{ on := 23, ground := .data }, { on := 18, ground := .guard }], guard := some (18, false) } := rfl
theorem o40_6_25 : o40_6[25]? = some { dst := some 51, op := .binOp .neq 3 (.tmp 50) (.const (.int .i64 2)) 3, type := 4, pos := "l21_node.go:65", after := #[{ on := 24, ground := .data }, { on := 18, ground := .guard }], guard := some (18, false) } := rfl
theorem o40_6_26 : o40_6[26]? = some { dst := some 52, op := .pick (.tmp 44) (.const (.bool true)) (.tmp 51), type := 4, pos := "l21_node.go:65", after := #[{ on := 18, ground := .data }, { on := 25, ground := .data }], guard := none } := rfl
theorem o40_6_27 : o40_6[27]? = some { dst := some 53, op := .move (.tmp 52), type := 4, pos := "l21_node.go:65", after := #[{ on := 26, ground := .data }, { on := 18, ground := .chain }], guard := none } := rfl
theorem o40_6_28 : o40_6[28]? = some { dst := some 54, op := .fieldAddr 43 (.tmp 1) 8, type := 0, pos := "l21_node.go:65", after := #[{ on := 27, ground := .guard }], guard := some (27, false) } := rfl
theorem o40_6_29 : o40_6[29]? = some { dst := some 55, op := .load 35 (.tmp 54), type := 35, pos := "l21_node.go:65", after := #[{ on := 28, ground := .data }, { on := 27, ground := .guard }], guard := some (27, false) } := rfl
theorem o40_6_30 : o40_6[30]? = some { dst := some 56, op := .move (.tmp 5), type := 3, pos := "l21_node.go:65", after := #[{ on := 27, ground := .guard }], guard := some (27, false) } := rfl
theorem o40_6_31 : o40_6[31]? = some { dst := some 57, op := .indexAddr 35 (.tmp 55) (.tmp 56), type := 0, pos := "l21_node.go:65", after := #[{ on := 29, ground := .data }, { on := 30, ground := .data }, { on := 27, ground := .guard }], guard := some (27, false) } := rfl
theorem o40_6_32 : o40_6[32]? = some { dst := some 58, op := .fieldAddr 119 (.tmp 57) 1, type := 0, pos := "l21_node.go:65", after := #[{ on := 31, ground := .data }, { on := 27, ground := .guard }], guard := some (27, false) } := rfl
theorem o40_6_33 : o40_6[33]? = some { dst := some 59, op := .load 3 (.tmp 58), type := 3, pos := "l21_node.go:65", after := #[{ on := 32, ground := .data }, { on := 27, ground := .guard }], guard := some (27, false) } := rfl
theorem o40_6_34 : o40_6[34]? = some { dst := some 60, op := .fieldAddr 105 (.tmp 4) 1, type := 0, pos := "l21_node.go:65", after := #[{ on := 27, ground := .guard }], guard := some (27, false) } := rfl
theorem o40_6_35 : o40_6[35]? = some { dst := some 61, op := .load 3 (.tmp 60), type := 3, pos := "l21_node.go:65", after := #[{ on := 34, ground := .data }, { on := 27, ground := .guard }], guard := some (27, false) } := rfl
theorem o40_6_36 : o40_6[36]? = some { dst := some 62, op := .binOp .neq 3 (.tmp 59) (.tmp 61) 3, type := 4, pos := "l21_node.go:65", after := #[{ on := 33, ground := .data }, { on := 35, ground := .data }, { on := 27, ground := .guard }], guard := some (27, false) } := rfl
theorem o40_6_37 : o40_6[37]? = some { dst := some 63, op := .pick (.tmp 53) (.const (.bool true)) (.tmp 62), type := 4, pos := "l21_node.go:65", after := #[{ on := 27, ground := .data }, { on := 36, ground := .data }], guard := none } := rfl
theorem o40_6_38 : o40_6[38]? = some { dst := some 64, op := .move (.tmp 63), type := 4, pos := "l21_node.go:65", after := #[{ on := 37, ground := .data }, { on := 27, ground := .chain }], guard := none } := rfl
theorem o40_6_39 : o40_6[39]? = some { dst := some 65, op := .fieldAddr 105 (.tmp 4) 2, type := 0, pos := "l21_node.go:65", after := #[{ on := 38, ground := .guard }], guard := some (38, false) } := rfl
theorem o40_6_40 : o40_6[40]? = some { dst := some 66, op := .load 3 (.tmp 65), type := 3, pos := "l21_node.go:65", after := #[{ on := 39, ground := .data }, { on := 38, ground := .guard }], guard := some (38, false) } := rfl
theorem o40_6_41 : o40_6[41]? = some { dst := some 67, op := .fieldAddr 43 (.tmp 1) 5, type := 0, pos := "l21_node.go:65", after := #[{ on := 38, ground := .guard }], guard := some (38, false) } := rfl
theorem o40_6_42 : o40_6[42]? = some { dst := some 68, op := .load 3 (.tmp 67), type := 3, pos := "l21_node.go:65", after := #[{ on := 41, ground := .data }, { on := 38, ground := .guard }], guard := some (38, false) } := rfl
theorem o40_6_43 : o40_6[43]? = some { dst := some 69, op := .call { callee := .value (.func 33), args := #[.tmp 66, .const (.int .i64 0), .tmp 68], argTypes := #[3, 3, 3] }, type := 4, pos := "l21_node.go:65", after := #[{ on := 40, ground := .data }, { on := 42, ground := .data }, { on := 38, ground := .chain }, { on := 38, ground := .guard }], guard := some (38, false) } := rfl
theorem o40_6_44 : o40_6[44]? = some { dst := some 70, op := .unOp .not 4 (.tmp 69), type := 4, pos := "l21_node.go:65", after := #[{ on := 43, ground := .data }, { on := 38, ground := .guard }], guard := some (38, false) } := rfl
theorem o40_6_45 : o40_6[45]? = some { dst := some 71, op := .pick (.tmp 64) (.const (.bool true)) (.tmp 70), type := 4, pos := "l21_node.go:65", after := #[{ on := 38, ground := .data }, { on := 44, ground := .data }], guard := none } := rfl
theorem o40_6_46 : o40_6[46]? = some { dst := some 72, op := .move (.tmp 71), type := 4, pos := "l21_node.go:65", after := #[{ on := 45, ground := .data }, { on := 43, ground := .chain }], guard := none } := rfl
theorem o40_6_47 : o40_6[47]? = some { dst := some 73, op := .fieldAddr 105 (.tmp 4) 3, type := 0, pos := "l21_node.go:65", after := #[{ on := 46, ground := .guard }], guard := some (46, false) } := rfl
theorem o40_6_48 : o40_6[48]? = some { dst := some 74, op := .load 59 (.tmp 73), type := 59, pos := "l21_node.go:65", after := #[{ on := 47, ground := .data }, { on := 46, ground := .guard }], guard := some (46, false) } := rfl
theorem o40_6_49 : o40_6[49]? = some { dst := some 75, op := .call { callee := .builtin .len, args := #[.tmp 74], argTypes := #[59] }, type := 3, pos := "l21_node.go:65", after := #[{ on := 48, ground := .data }, { on := 46, ground := .guard }], guard := some (46, false) } := rfl
theorem o40_6_50 : o40_6[50]? = some { dst := some 76, op := .binOp .eql 3 (.tmp 75) (.const (.int .i64 0)) 3, type := 4, pos := "l21_node.go:65", after := #[{ on := 49, ground := .data }, { on := 46, ground := .guard }], guard := some (46, false) } := rfl
theorem o40_6_51 : o40_6[51]? = some { dst := some 77, op := .pick (.tmp 72) (.const (.bool true)) (.tmp 76), type := 4, pos := "l21_node.go:65", after := #[{ on := 46, ground := .data }, { on := 50, ground := .data }], guard := none } := rfl
def o40_11 : Array Oper := #[{ dst := some 85, op := .fieldAddr 105 (.tmp 4) 3, type := 0, pos := "l21_node.go:69", after := #[], guard := none }, { dst := some 86, op := .load 59 (.tmp 85), type := 59, pos := "l21_node.go:69", after := #[{ on := 0, ground := .data }], guard := none }, { dst := some 87, op := .move (.tmp 6), type := 3, pos := "l21_node.go:69", after := #[], guard := none }, { dst := some 88, op := .indexAddr 59 (.tmp 86) (.tmp 87), type := 0, pos := "l21_node.go:69", after := #[{ on := 1, ground := .data }, { on := 2, ground := .data }], guard := none }, { dst := some 89, op := .load 3 (.tmp 88), type := 3, pos := "l21_node.go:69", after := #[{ on := 3, ground := .data }], guard := none }, { dst := some 90, op := .call { callee := .value (.func 33), args := #[.tmp 89, .const (.int .i64 0), .const (.int .i64 7)], argTypes := #[3, 3, 3] }, type := 4, pos := "l21_node.go:69", after := #[{ on := 4, ground := .data }], guard := none }, { dst := some 91, op := .unOp .not 4 (.tmp 90), type := 4, pos := "l21_node.go:69", after := #[{ on := 5, ground := .data }], guard := none }, { dst := some 92, op := .move (.tmp 91), type := 4, pos := "l21_node.go:69", after := #[{ on := 6, ground := .data }, { on := 5, ground := .chain }], guard := none }, { dst := some 93, op := .fieldAddr 105 (.tmp 4) 3, type := 0, pos := "l21_node.go:69", after := #[{ on := 7, ground := .guard }], guard := some (7, false) }, { dst := some 94, op := .load 59 (.tmp 93), type := 59, pos := "l21_node.go:69", after := #[{ on := 8, ground := .data }, { on := 7, ground := .guard }], guard := some (7, false) }, { dst := some 95, op := .move (.tmp 6), type := 3, pos := "l21_node.go:69", after := #[{ on := 7, ground := .guard }], guard := some (7, false) }, { dst := some 96, op := .indexAddr 59 (.tmp 94) (.tmp 95), type := 0, pos := "l21_node.go:69", after := #[{ on := 9, ground := .data }, { on := 10, ground := .data }, { on := 7, ground := .guard }], guard := some (7, false) }, { dst := some 97, op := .load 3 (.tmp 96), type := 3, pos := "l21_node.go:69", after := #[{ on := 11, ground := .data }, { on := 7, ground := .guard }], guard := some (7, false) }, { dst := some 98, op := .call { callee := .value (.func 36), args := #[.tmp 97], argTypes := #[3] }, type := 3, pos := "l21_node.go:69", after := #[{ on := 12, ground := .data }, { on := 7, ground := .chain }, { on := 7, ground := .guard }], guard := some (7, false) }, { dst := some 99, op := .fieldAddr 43 (.tmp 1) 0, type := 0, pos := "l21_node.go:69", after := #[{ on := 7, ground := .guard }], guard := some (7, false) }, { dst := some 100, op := .load 3 (.tmp 99), type := 3, pos := "l21_node.go:69", after := #[{ on := 14, ground := .data }, { on := 7, ground := .guard }], guard := some (7, false) }, { dst := some 101, op := .call { callee := .value (.func 36), args := #[.tmp 100], argTypes := #[3] }, type := 3, pos := "l21_node.go:69", after := #[{ on := 15, ground := .data }, { on := 13, ground := .chain }, { on := 7, ground := .guard }], guard := some (7, false) }, { dst := some 102, op := .binOp .neq 3 (.tmp 98) (.tmp 101) 3, type := 4, pos := "l21_node.go:69", after := #[{ on := 13, ground := .data }, { on := 16, ground := .data }, { on := 7, ground := .guard }], guard := some (7, false) }, { dst := some 103, op := .pick (.tmp 92) (.const (.bool true)) (.tmp 102), type := 4, pos := "l21_node.go:69", after := #[{ on := 7, ground := .data }, { on := 17, ground := .data }], guard := none }, { dst := some 104, op := .move (.tmp 103), type := 4, pos := "l21_node.go:69", after := #[{ on := 18, ground := .data }, { on := 16, ground := .chain }], guard := none }, { dst := some 105, op := .move (.tmp 6), type := 3, pos := "l21_node.go:69", after := #[{ on := 19, ground := .guard }], guard := some (19, false) }, { dst := some 106, op := .binOp .gtr 3 (.tmp 105) (.const (.int .i64 0)) 3, type := 4, pos := "l21_node.go:69", after := #[{ on := 20, ground := .data }, { on := 19, ground := .guard }], guard := some (19, false) }, { dst := some 107, op := .move (.tmp 106), type := 4, pos := "l21_node.go:69", after := #[{ on := 21, ground := .data }, { on := 19, ground := .chain }, { on := 19, ground := .guard }], guard := some (19, false) }, { dst := some 108, op := .fieldAddr 105 (.tmp 4) 3, type := 0, pos := "l21_node.go:69", after := #[{ on := 22, ground := .guard }], guard := some (22, true) }, { dst := some 109, op := .load 59 (.tmp 108), type := 59, pos := "l21_node.go:69", after := #[{ on := 23, ground := .data }, { on := 22, ground := .guard }], guard := some (22, true) }, { dst := some 110, op := .move (.tmp 6), type := 3, pos := "l21_node.go:69", after := #[{ on := 22, ground := .guard }], guard := some (22, true) }, { dst := some 111, op := .binOp .sub 3 (.tmp 110) (.const (.int .i64 1)) 3, type := 3, pos := "l21_node.go:69", after := #[{ on := 25, ground := .data }, { on := 22, ground := .guard }], guard := some (22, true) }, { dst := some 112, op := .indexAddr 59 (.tmp 109) (.tmp 111), type := 0, pos := "l21_node.go:69", after := #[{ on := 24, ground := .data }, { on := 26, ground := .data }, { on := 22, ground := .guard }], guard := some (22, true) }, { dst := some 113, op := .load 3 (.tmp 112), type := 3, pos := "l21_node.go:69", after := #[{ on := 27, ground := .data }, { on := 22, ground := .guard }], guard := some (22, true) }, { dst := some 114, op := .fieldAddr 105 (.tmp 4) 3, type := 0, pos := "l21_node.go:69", after := #[{ on := 22, ground := .guard }], guard := some (22, true) }, { dst := some 115, op := .load 59 (.tmp 114), type := 59, pos := "l21_node.go:69", after := #[{ on := 29, ground := .data }, { on := 22, ground := .guard }], guard := some (22, true) }, { dst := some 116, op := .move (.tmp 6), type := 3, pos := "l21_node.go:69", after := #[{ on := 22, ground := .guard }], guard := some (22, true) }, { dst := some 117, op := .indexAddr 59 (.tmp 115) (.tmp 116), type := 0, pos := "l21_node.go:69", after := #[{ on := 30, ground := .data }, { on := 31, ground := .data }, { on := 22, ground := .guard }], guard := some (22, true) }, { dst := some 118, op := .load 3 (.tmp 117), type := 3, pos := "l21_node.go:69", after := #[{ on := 32, ground := .data }, { on := 22, ground := .guard }], guard := some (22, true) }, { dst := some 119, op := .binOp .geq 3 (.tmp 113) (.tmp 118) 3, type := 4, pos := "l21_node.go:69", after := #[{ on := 28, ground := .data }, { on := 33, ground := .data }, { on := 22, ground := .guard }], guard := some (22, true) }, { dst := some 120, op := .pick (.tmp 107) (.tmp 119) (.const (.bool false)), type := 4, pos := "l21_node.go:69", after := #[{ on := 22, ground := .data }, { on := 34, ground := .data }, { on := 19, ground := .guard }], guard := some (19, false) }, { dst := some 121, op := .pick (.tmp 104) (.const (.bool true)) (.tmp 120), type := 4, pos := "l21_node.go:69", after := #[{ on := 19, ground := .data }, { on := 35, ground := .data }], guard := none }]
theorem fo40_11 : FreeN .any o40_11 37 := ⟨⟨by kernel_rfl⟩, by kernel_rfl⟩
theorem o40_11_0 : o40_11[0]? = some { dst := some 85, op := .fieldAddr 105 (.tmp 4) 3, type := 0, pos := "l21_node.go:69", after := #[], guard := none } := rfl
theorem o40_11_1 : o40_11[1]? = some { dst := some 86, op := .load 59 (.tmp 85), type := 59, pos := "l21_node.go:69", after := #[{ on := 0, ground := .data }], guard := none } := rfl
theorem o40_11_2 : o40_11[2]? = some { dst := some 87, op := .move (.tmp 6), type := 3, pos := "l21_node.go:69", after := #[], guard := none } := rfl
theorem o40_11_3 : o40_11[3]? = some { dst := some 88, op := .indexAddr 59 (.tmp 86) (.tmp 87), type := 0, pos := "l21_node.go:69", after := #[{ on := 1, ground := .data }, { on := 2, ground := .data }], guard := none } := rfl
theorem o40_11_4 : o40_11[4]? = some { dst := some 89, op := .load 3 (.tmp 88), type := 3, pos := "l21_node.go:69", after := #[{ on := 3, ground := .data }], guard := none } := rfl
theorem o40_11_5 : o40_11[5]? = some { dst := some 90, op := .call { callee := .value (.func 33), args := #[.tmp 89, .const (.int .i64 0), .const (.int .i64 7)], argTypes := #[3, 3, 3] }, type := 4, pos := "l21_node.go:69", after := #[{ on := 4, ground := .data }], guard := none } := rfl
theorem o40_11_6 : o40_11[6]? = some { dst := some 91, op := .unOp .not 4 (.tmp 90), type := 4, pos := "l21_node.go:69", after := #[{ on := 5, ground := .data }], guard := none } := rfl
theorem o40_11_7 : o40_11[7]? = some { dst := some 92, op := .move (.tmp 91), type := 4, pos := "l21_node.go:69", after := #[{ on := 6, ground := .data }, { on := 5, ground := .chain }], guard := none } := rfl
theorem o40_11_8 : o40_11[8]? = some { dst := some 93, op := .fieldAddr 105 (.tmp 4) 3, type := 0, pos := "l21_node.go:69", after := #[{ on := 7, ground := .guard }], guard := some (7, false) } := rfl
theorem o40_11_9 : o40_11[9]? = some { dst := some 94, op := .load 59 (.tmp 93), type := 59, pos := "l21_node.go:69", after := #[{ on := 8, ground := .data }, { on := 7, ground := .guard }], guard := some (7, false) } := rfl
theorem o40_11_10 : o40_11[10]? = some { dst := some 95, op := .move (.tmp 6), type := 3, pos := "l21_node.go:69", after := #[{ on := 7, ground := .guard }], guard := some (7, false) } := rfl
theorem o40_11_11 : o40_11[11]? = some { dst := some 96, op := .indexAddr 59 (.tmp 94) (.tmp 95), type := 0, pos := "l21_node.go:69", after := #[{ on := 9, ground := .data }, { on := 10, ground := .data }, { on := 7, ground := .guard }], guard := some (7, false) } := rfl
theorem o40_11_12 : o40_11[12]? = some { dst := some 97, op := .load 3 (.tmp 96), type := 3, pos := "l21_node.go:69", after := #[{ on := 11, ground := .data }, { on := 7, ground := .guard }], guard := some (7, false) } := rfl
theorem o40_11_13 : o40_11[13]? = some { dst := some 98, op := .call { callee := .value (.func 36), args := #[.tmp 97], argTypes := #[3] }, type := 3, pos := "l21_node.go:69", after := #[{ on := 12, ground := .data }, { on := 7, ground := .chain }, { on := 7, ground := .guard }], guard := some (7, false) } := rfl
theorem o40_11_14 : o40_11[14]? = some { dst := some 99, op := .fieldAddr 43 (.tmp 1) 0, type := 0, pos := "l21_node.go:69", after := #[{ on := 7, ground := .guard }], guard := some (7, false) } := rfl
theorem o40_11_15 : o40_11[15]? = some { dst := some 100, op := .load 3 (.tmp 99), type := 3, pos := "l21_node.go:69", after := #[{ on := 14, ground := .data }, { on := 7, ground := .guard }], guard := some (7, false) } := rfl
theorem o40_11_16 : o40_11[16]? = some { dst := some 101, op := .call { callee := .value (.func 36), args := #[.tmp 100], argTypes := #[3] }, type := 3, pos := "l21_node.go:69", after := #[{ on := 15, ground := .data }, { on := 13, ground := .chain }, { on := 7, ground := .guard }], guard := some (7, false) } := rfl
theorem o40_11_17 : o40_11[17]? = some { dst := some 102, op := .binOp .neq 3 (.tmp 98) (.tmp 101) 3, type := 4, pos := "l21_node.go:69", after := #[{ on := 13, ground := .data }, { on := 16, ground := .data }, { on := 7, ground := .guard }], guard := some (7, false) } := rfl
theorem o40_11_18 : o40_11[18]? = some { dst := some 103, op := .pick (.tmp 92) (.const (.bool true)) (.tmp 102), type := 4, pos := "l21_node.go:69", after := #[{ on := 7, ground := .data }, { on := 17, ground := .data }], guard := none } := rfl
theorem o40_11_19 : o40_11[19]? = some { dst := some 104, op := .move (.tmp 103), type := 4, pos := "l21_node.go:69", after := #[{ on := 18, ground := .data }, { on := 16, ground := .chain }], guard := none } := rfl
theorem o40_11_20 : o40_11[20]? = some { dst := some 105, op := .move (.tmp 6), type := 3, pos := "l21_node.go:69", after := #[{ on := 19, ground := .guard }], guard := some (19, false) } := rfl
theorem o40_11_21 : o40_11[21]? = some { dst := some 106, op := .binOp .gtr 3 (.tmp 105) (.const (.int .i64 0)) 3, type := 4, pos := "l21_node.go:69", after := #[{ on := 20, ground := .data }, { on := 19, ground := .guard }], guard := some (19, false) } := rfl
theorem o40_11_22 : o40_11[22]? = some { dst := some 107, op := .move (.tmp 106), type := 4, pos := "l21_node.go:69", after := #[{ on := 21, ground := .data }, { on := 19, ground := .chain }, { on := 19, ground := .guard }], guard := some (19, false) } := rfl
theorem o40_11_23 : o40_11[23]? = some { dst := some 108, op := .fieldAddr 105 (.tmp 4) 3, type := 0, pos := "l21_node.go:69", after := #[{ on := 22, ground := .guard }], guard := some (22, true) } := rfl
theorem o40_11_24 : o40_11[24]? = some { dst := some 109, op := .load 59 (.tmp 108), type := 59, pos := "l21_node.go:69", after := #[{ on := 23, ground := .data }, { on := 22, ground := .guard }], guard := some (22, true) } := rfl
theorem o40_11_25 : o40_11[25]? = some { dst := some 110, op := .move (.tmp 6), type := 3, pos := "l21_node.go:69", after := #[{ on := 22, ground := .guard }], guard := some (22, true) } := rfl
theorem o40_11_26 : o40_11[26]? = some { dst := some 111, op := .binOp .sub 3 (.tmp 110) (.const (.int .i64 1)) 3, type := 3, pos := "l21_node.go:69", after := #[{ on := 25, ground := .data }, { on := 22, ground := .guard }], guard := some (22, true) } := rfl
theorem o40_11_27 : o40_11[27]? = some { dst := some 112, op := .indexAddr 59 (.tmp 109) (.tmp 111), type := 0, pos := "l21_node.go:69", after := #[{ on := 24, ground := .data }, { on := 26, ground := .data }, { on := 22, ground := .guard }], guard := some (22, true) } := rfl
theorem o40_11_28 : o40_11[28]? = some { dst := some 113, op := .load 3 (.tmp 112), type := 3, pos := "l21_node.go:69", after := #[{ on := 27, ground := .data }, { on := 22, ground := .guard }], guard := some (22, true) } := rfl
theorem o40_11_29 : o40_11[29]? = some { dst := some 114, op := .fieldAddr 105 (.tmp 4) 3, type := 0, pos := "l21_node.go:69", after := #[{ on := 22, ground := .guard }], guard := some (22, true) } := rfl
theorem o40_11_30 : o40_11[30]? = some { dst := some 115, op := .load 59 (.tmp 114), type := 59, pos := "l21_node.go:69", after := #[{ on := 29, ground := .data }, { on := 22, ground := .guard }], guard := some (22, true) } := rfl
theorem o40_11_31 : o40_11[31]? = some { dst := some 116, op := .move (.tmp 6), type := 3, pos := "l21_node.go:69", after := #[{ on := 22, ground := .guard }], guard := some (22, true) } := rfl
theorem o40_11_32 : o40_11[32]? = some { dst := some 117, op := .indexAddr 59 (.tmp 115) (.tmp 116), type := 0, pos := "l21_node.go:69", after := #[{ on := 30, ground := .data }, { on := 31, ground := .data }, { on := 22, ground := .guard }], guard := some (22, true) } := rfl
theorem o40_11_33 : o40_11[33]? = some { dst := some 118, op := .load 3 (.tmp 117), type := 3, pos := "l21_node.go:69", after := #[{ on := 32, ground := .data }, { on := 22, ground := .guard }], guard := some (22, true) } := rfl
theorem o40_11_34 : o40_11[34]? = some { dst := some 119, op := .binOp .geq 3 (.tmp 113) (.tmp 118) 3, type := 4, pos := "l21_node.go:69", after := #[{ on := 28, ground := .data }, { on := 33, ground := .data }, { on := 22, ground := .guard }], guard := some (22, true) } := rfl
theorem o40_11_35 : o40_11[35]? = some { dst := some 120, op := .pick (.tmp 107) (.tmp 119) (.const (.bool false)), type := 4, pos := "l21_node.go:69", after := #[{ on := 22, ground := .data }, { on := 34, ground := .data }, { on := 19, ground := .guard }], guard := some (19, false) } := rfl
theorem o40_11_36 : o40_11[36]? = some { dst := some 121, op := .pick (.tmp 104) (.const (.bool true)) (.tmp 120), type := 4, pos := "l21_node.go:69", after := #[{ on := 19, ground := .data }, { on := 35, ground := .data }], guard := none } := rfl
/-- doubts are ok, the model's way -/
def sdbsB (me now : Int) (tl : Nat) (F : Nat → Fc) (len : Nat) (G : Nat → Dt) : Bool := Dtasc len G && dbA me now tl F len G && ((cntN F 2 tl : Int) == (len : Int))
theorem dbs_no {me now : Int} {tl : Nat} {F : Nat → Fc} {len : Nat} {G : Nat → Dt} {k : Nat} (hk : k < len) (h : dbtB me now tl F (G k).n (G k).i (G k).s (G k).bl (G k).bf = false ∨ (0 < k ∧ ¬ (G (k - 1)).n < (G k).n)) : sdbsB me now tl F len G = false := by
  unfold sdbsB Dtasc risB dbA
  rw [Bool.and_eq_false_iff, Bool.and_eq_false_iff]
  rcases h with h | ⟨h0, h⟩
  · exact .inl (.inr (decide_eq_false fun q => by have := q k hk; rw [h] at this; cases this))
  · exact .inl (.inl (decide_eq_false fun q => h (q k hk h0)))
theorem by_no {me : Int} {len : Nat} {f : Nat → Int} {k : Nat} (hk : k < len) (h : ofB me (f k) = false ∨ (0 < k ∧ ¬ f (k - 1) < f k)) : (risB len f && obA me len f) = false := by
  unfold risB obA
  rw [Bool.and_eq_false_iff]
  rcases h with h | ⟨h0, h⟩
  · exact .inr (decide_eq_false fun q => by have := q k hk; rw [h] at this; cases this)
  · exact .inl (decide_eq_false fun q => h (q k hk h0))
set_option maxRecDepth 20000 in
set_option maxHeartbeats 16000000 in
set_option linter.unusedSimpArgs false in
theorem sdbs_any (me : Int) (up gone gate : Bool) (inc now sq turn : Int) (ta : Option Addr) (tl tc : Nat) (ca : Option Addr) (cl cc : Nat) (pn ps pq : Int) (pa : Bool) (da : Option Addr) (dl dc : Nat) (cx cy ch ce : Int) (pla : Option Addr) (pll plc : Nat) (oa : Option Addr) (ol oc : Nat) (F : Nat → Fc) (G : Nat → Dt) (w : World) (h : FSl w ta tl F) (hl : tl ≤ 1048576) (hG : DtSl w da dl G) (hm : dl ≤ 1048576) (hB : DtB w dl G) :
    Calls Tryz.prog 40 #[.agg #[.int .i64 me, .bool up, .bool gone, .bool gate, .int .i64 inc, .int .i64 now, .int .i64 sq, .int .i64 turn, .slice ta tl tc, .slice ca cl cc, .int .i64 pn, .int .i64 ps, .int .i64 pq, .bool pa, .slice da dl dc, .int .i64 cx, .int .i64 cy, .int .i64 ch, .int .i64 ce, .slice pla pll plc, .slice oa ol oc]] w fun r w' => r = .returned (.bool (sdbsB me now tl F dl G)) ∧ Below w.heap.size w w' := by
  have b0 := balloc (.cells #[.int .i64 me, .bool up, .bool gone, .bool gate, .int .i64 inc, .int .i64 now, .int .i64 sq, .int .i64 turn, .slice ta tl tc, .slice ca cl cc, .int .i64 pn, .int .i64 ps, .int .i64 pq, .bool pa, .slice da dl dc, .int .i64 cx, .int .i64 cy, .int .i64 ch, .int .i64 ce, .slice pla pll plc, .slice oa ol oc] 43) (Below.refl w.heap.size w)
  have X := Ws.box (w := w) #[.int .i64 me, .bool up, .bool gone, .bool gate, .int .i64 inc, .int .i64 now, .int .i64 sq, .int .i64 turn, .slice ta tl tc, .slice ca cl cc, .int .i64 pn, .int .i64 ps, .int .i64 pq, .bool pa, .slice da dl dc, .int .i64 cx, .int .i64 cy, .int .i64 ch, .int .i64 ce, .slice pla pll plc, .slice oa ol oc] 43
  go_enter Tryz.func40, Tryz.ntmps40
  go_upto_region 1 with fail
  generalize w.alloc (.cells #[.int .i64 me, .bool up, .bool gone, .bool gate, .int .i64 inc, .int .i64 now, .int .i64 sq, .int .i64 turn, .slice ta tl tc, .slice ca cl cc, .int .i64 pn, .int .i64 ps, .int .i64 pq, .bool pa, .slice da dl dc, .int .i64 cx, .int .i64 cy, .int .i64 ch, .int .i64 ce, .slice pla pll plc, .slice oa ol oc] 43) = u at *
  have hG' := hG.below b0
  have hB' := hB.below b0
  have hF' := h.below b0
  have d0 := X.c 0 (.int .i64 me) rfl
  have d5 := X.c 5 (.int .i64 now) rfl
  have d8 := X.c 8 (.slice ta tl tc) rfl
  have d14 := X.c 14 (.slice da dl dc) rfl
  clear X hG hB h
  obtain ⟨sm, hsm⟩ : ∃ sm, Hid (ste me = sm) := ⟨_, rfl⟩
  go_wp2
  go_loopw [3, 5, 6] (fun i _ _ wr => ∃ k : Nat, k ≤ dl ∧ i = .int .i64 k ∧ Below u.heap.size u wr ∧ (∀ j, j < k → dbtB me now tl F (G j).n (G j).i (G j).s (G j).bl (G j).bf = true) ∧ (∀ j, j < k → 0 < j → (G (j - 1)).n < (G j).n)) (fun i _ _ _ => dl - (intOf i).toNat)
  case atStart => exact ⟨0, by omega, rfl, Below.refl _ _, fun j h1 => by omega, fun j h1 => by omega⟩
  case round =>
    obtain ⟨k, hk, rfl, hb, hall, hasc⟩ := hrel
    have f0 := keep_below hb d0
    have f5 := keep_below hb d5
    have f8 := keep_below hb d8
    have f14 := keep_below hb d14
    have hF := hF'.below hb
    by_cases hlt : k < dl
    · obtain ⟨b, off, rfl, hbl, hf⟩ := hG' (by omega)
      obtain ⟨c0, c1, c2, c3⟩ := (hf.below hb hbl) k hlt
      have hS := (hB' k hlt).1.below hb
      have hbl' := (hB' k hlt).2
      have i0 : (0 : Int) ≤ (k : Int) := by omega
      have i1 : (k : Int) < (dl : Int) := by omega
      rcases Nat.eq_zero_or_pos k with h0 | h0
      · subst h0
        simp only [Nat.zero_mul, Nat.add_zero] at c0 c1 c2 c3
        have hso : Hid (dbtB me now tl F (G 0).n (G 0).i (G 0).s (G 0).bl (G 0).bf = (decide ((fo F (fnd tl F (G 0).n)).s = 2) && decide ((fo F (fnd tl F (G 0).n)).i = (G 0).i) && inb (G 0).s 0 now && decide (0 < (G 0).bl) && risB (G 0).bl (G 0).bf && obA me (G 0).bl (G 0).bf)) := rfl
        have hno : Hid (dbtB me now tl F (G 0).n (G 0).i (G 0).s (G 0).bl (G 0).bf = false ∨ (0 < 0 ∧ ¬ (G (0 - 1)).n < (G 0).n) → sdbsB me now tl F dl G = false) := dbs_no hlt
        have hyes : Hid (dbtB me now tl F (G 0).n (G 0).i (G 0).s (G 0).bl (G 0).bf = true → ∀ j, j < 0 + 1 → dbtB me now tl F (G j).n (G j).i (G j).s (G j).bl (G j).bf = true) := fun e j hj => by
          by_cases ej : j = 0
          · subst ej; exact e
          · exact hall j (by omega)
        have hyes2 : Hid ((0 < 0 → (G (0 - 1)).n < (G 0).n) → ∀ j, j < 0 + 1 → 0 < j → (G (j - 1)).n < (G j).n) := fun e j hj h0 => by
          by_cases ej : j = 0
          · subst ej; exact e h0
          · exact hasc j (by omega) h0
        clear hall hasc
        generalize G 0 = gx at *
        obtain ⟨n, i, s, ba, bl, bc, bf⟩ := gx
        dsimp only at c0 c1 c2 c3 hS hbl' hso hno hyes hyes2
        have b2 := balloc (.cells #[.int .i64 n, .int .i64 i, .int .i64 s, .slice ba bl bc] 105) hb
        have Y := Ws.box (w := wr) #[.int .i64 n, .int .i64 i, .int .i64 s, .slice ba bl bc] 105
        have l0 := keep_alloc (.cells #[.int .i64 n, .int .i64 i, .int .i64 s, .slice ba bl bc] 105) f0
        have l5 := keep_alloc (.cells #[.int .i64 n, .int .i64 i, .int .i64 s, .slice ba bl bc] 105) f5
        have l8 := keep_alloc (.cells #[.int .i64 n, .int .i64 i, .int .i64 s, .slice ba bl bc] 105) f8
        have l14 := keep_alloc (.cells #[.int .i64 n, .int .i64 i, .int .i64 s, .slice ba bl bc] 105) f14
        have l3 := hS.below (balloc (.cells #[.int .i64 n, .int .i64 i, .int .i64 s, .slice ba bl bc] 105) (Below.refl wr.heap.size wr))
        have lF := hF.below (balloc (.cells #[.int .i64 n, .int .i64 i, .int .i64 s, .slice ba bl bc] 105) (Below.refl wr.heap.size wr))
        go_upto_region 5 with fail
        generalize wr.alloc (.cells #[.int .i64 n, .int .i64 i, .int .i64 s, .slice ba bl bc] 105) = v at *
        generalize wr.heap.size = K2 at *
        have q10 := Y.c 0 (.int .i64 n) rfl
        go_wp2_with fail
        cases ef : fnd tl F n with
        | none =>
          have y0 : Hid (fnd tl F n = none) := ef
          clear ef
          refine (sfind_none ta tl tc F n y0.out _ lF hl).mono ?_
          rintro r w2 ⟨rfl, k3⟩
          have g0 := keep_below k3 l0
          have g5 := keep_below k3 l5
          have g8 := keep_below k3 l8
          have g14 := keep_below k3 l14
          have q3 := l3.below k3
          have qF := lF.below k3
          have b3 := btrans b2 k3
          have r10 := (Y.below k3).c 0 (.int .i64 n) rfl
          have r11 := (Y.below k3).c 1 (.int .i64 i) rfl
          have r12 := (Y.below k3).c 2 (.int .i64 s) rfl
          have r13 := (Y.below k3).c 3 (.slice ba bl bc) rfl
          clear Y c0 c1 c2 c3 f0 f5 f8 f14 hS l0 l5 l8 l14 l3 lF k3 q10 hF
          go_upto_region 6 with fail
          as_aux_lemma =>
            refine wp_region_m (S := (fun w' => w'.cell? ⟨w.heap.size, 0, none⟩ = some (.int .i64 me) ∧ w'.cell? ⟨w.heap.size, 5, none⟩ = some (.int .i64 now) ∧ w'.cell? ⟨w.heap.size, 8, none⟩ = some (.slice ta tl tc) ∧ w'.cell? ⟨w.heap.size, 14, none⟩ = some (.slice (some ⟨b, off, none⟩) dl dc) ∧ w'.cell? ⟨K2, 0, none⟩ = some (.int .i64 n) ∧ w'.cell? ⟨K2, 1, none⟩ = some (.int .i64 i) ∧ w'.cell? ⟨K2, 2, none⟩ = some (.int .i64 s) ∧ w'.cell? ⟨K2, 3, none⟩ = some (.slice ba bl bc) ∧ ISl w' ba bl bf ∧ Below u.heap.size u w')) o40_6 52 fo40_6 ?_ (fun hHeld => ?_)
            · (try dsimp only); exact ⟨keep_drew g0, keep_drew g5, keep_drew g8, keep_drew g14, keep_drew r10, keep_drew r11, keep_drew r12, keep_drew r13, q3.below (Below.refl _ _).drew, b3.drew⟩
            refine stY fo40_6 o40_6_0 1 ?_; try simp only [putQ]
            refine stV (.bool false) fo40_6 o40_6_1 3 ?_ ?_
            · (intro w hSw; (try dsimp only at hSw); go_simp; all_goals (first | with_reducible rfl |  assumption | (simp; done) | (simp; omega)))
            (try simp only [putQ]); refine stY fo40_6 o40_6_2 7 ?_; try simp only [putQ]; refine stN fo40_6 o40_6_3 15 ?_; try simp only [putQ]; refine stN fo40_6 o40_6_4 31 ?_; try simp only [putQ]; refine stN fo40_6 o40_6_5 63 ?_; try simp only [putQ]; refine stN fo40_6 o40_6_6 127 ?_; try simp only [putQ]; refine stN fo40_6 o40_6_7 255 ?_; try simp only [putQ]; refine stN fo40_6 o40_6_8 511 ?_; try simp only [putQ]; refine stN fo40_6 o40_6_9 1023 ?_; try simp only [putQ]; refine stN fo40_6 o40_6_10 2047 ?_; try simp only [putQ]; refine stN fo40_6 o40_6_11 4095 ?_; try simp only [putQ]; refine stN fo40_6 o40_6_12 8191 ?_; try simp only [putQ]; refine stY fo40_6 o40_6_13 16383 ?_; try simp only [putQ]; refine stY fo40_6 o40_6_14 32767 ?_; try simp only [putQ]; refine stY fo40_6 o40_6_15 65535 ?_; try simp only [putQ]
            refine stV (.bool true) fo40_6 o40_6_16 131071 ?_ ?_
            · (intro w hSw; (try dsimp only at hSw); go_simp; all_goals (first | with_reducible rfl |  assumption | (simp; done) | (simp; omega)))
            (try simp only [putQ]); refine stY fo40_6 o40_6_17 262143 ?_; try simp only [putQ]; refine stY fo40_6 o40_6_18 524287 ?_; try simp only [putQ]; refine stN fo40_6 o40_6_19 1048575 ?_; try simp only [putQ]; refine stN fo40_6 o40_6_20 2097151 ?_; try simp only [putQ]; refine stN fo40_6 o40_6_21 4194303 ?_; try simp only [putQ]; refine stN fo40_6 o40_6_22 8388607 ?_; try simp only [putQ]; refine stN fo40_6 o40_6_23 16777215 ?_; try simp only [putQ]; refine stN fo40_6 o40_6_24 33554431 ?_; try simp only [putQ]; refine stN fo40_6 o40_6_25 67108863 ?_; try simp only [putQ]; refine stY fo40_6 o40_6_26 134217727 ?_; try simp only [putQ]; refine stY fo40_6 o40_6_27 268435455 ?_; try simp only [putQ]; refine stN fo40_6 o40_6_28 536870911 ?_; try simp only [putQ]; refine stN fo40_6 o40_6_29 1073741823 ?_; try simp only [putQ]; refine stN fo40_6 o40_6_30 2147483647 ?_; try simp only [putQ]; refine stN fo40_6 o40_6_31 4294967295 ?_; try simp only [putQ]; refine stN fo40_6 o40_6_32 8589934591 ?_; try simp only [putQ]; refine stN fo40_6 o40_6_33 17179869183 ?_; try simp only [putQ]; refine stN fo40_6 o40_6_34 34359738367 ?_; try simp only [putQ]; refine stN fo40_6 o40_6_35 68719476735 ?_; try simp only [putQ]; refine stN fo40_6 o40_6_36 137438953471 ?_; try simp only [putQ]; refine stY fo40_6 o40_6_37 274877906943 ?_; try simp only [putQ]; refine stY fo40_6 o40_6_38 549755813887 ?_; try simp only [putQ]; refine stN fo40_6 o40_6_39 1099511627775 ?_; try simp only [putQ]; refine stN fo40_6 o40_6_40 2199023255551 ?_; try simp only [putQ]; refine stN fo40_6 o40_6_41 4398046511103 ?_; try simp only [putQ]; refine stN fo40_6 o40_6_42 8796093022207 ?_; try simp only [putQ]; refine stN fo40_6 o40_6_43 17592186044415 ?_; try simp only [putQ]; refine stN fo40_6 o40_6_44 35184372088831 ?_; try simp only [putQ]; refine stY fo40_6 o40_6_45 70368744177663 ?_; try simp only [putQ]; refine stY fo40_6 o40_6_46 140737488355327 ?_; try simp only [putQ]; refine stN fo40_6 o40_6_47 281474976710655 ?_; try simp only [putQ]; refine stN fo40_6 o40_6_48 562949953421311 ?_; try simp only [putQ]; refine stN fo40_6 o40_6_49 1125899906842623 ?_; try simp only [putQ]; refine stN fo40_6 o40_6_50 2251799813685247 ?_; try simp only [putQ]; refine stY fo40_6 o40_6_51 4503599627370495 ?_; try simp only [putQ]
            refine wpAnyH_done (by kernel_rfl) ?_ _
            go_wp2
            go_ret
            exact ⟨ret_bool (hno.out (.inl (by rw [hso.out, y0.out]; simp [fo]))).symm, btrans b0 hHeld.2.2.2.2.2.2.2.2.2⟩
        | some k2 =>
          have y0 : Hid (fnd tl F n = some k2) := ef
          have hk2 := fnd_lt ef
          clear ef
          refine (sfind_some ta tl tc F n k2 y0.out _ lF hl).mono ?_
          rintro r w2 ⟨rfl, k3⟩
          have g0 := keep_below k3 l0
          have g5 := keep_below k3 l5
          have g8 := keep_below k3 l8
          have g14 := keep_below k3 l14
          have q3 := l3.below k3
          have qF := lF.below k3
          have b3 := btrans b2 k3
          have r10 := (Y.below k3).c 0 (.int .i64 n) rfl
          have r11 := (Y.below k3).c 1 (.int .i64 i) rfl
          have r12 := (Y.below k3).c 2 (.int .i64 s) rfl
          have r13 := (Y.below k3).c 3 (.slice ba bl bc) rfl
          clear Y c0 c1 c2 c3 f0 f5 f8 f14 hS l0 l5 l8 l14 l3 lF k3 q10 hF
          go_upto_region 6 with fail
          obtain ⟨bt, ot, rfl, hbt, hft⟩ := qF (by omega)
          obtain ⟨t0, t1, t2, t3⟩ := hft k2 hk2
          have j0 : (0 : Int) ≤ (k2 : Int) := by omega
          have j1 : (k2 : Int) < (tl : Int) := by omega
          have j2 : ¬ (k2 : Int) < 0 := by omega
          have hso2 : Hid (dbtB me now tl F n i s bl bf = (decide ((F k2).s = 2) && decide ((F k2).i = i) && inb s 0 now && decide (0 < bl) && risB bl bf && obA me bl bf)) := by
            rw [Hid, hso.out, y0.out]; rfl
          clear hso hft qF
          generalize F k2 = f at *
          obtain ⟨fn, fi, fs, fg⟩ := f
          dsimp only at t0 t1 t2 t3 hso2
          by_cases e4 : fs = 2
          · have y2 : Hid (fs = 2) := e4
            clear e4
            by_cases e5 : fi = i
            · have y3 : Hid (fi = i) := e5
              clear e5
              cases z4 : inb s 0 now
              · have y4 : Hid (inb s 0 now = false) := z4
                clear z4
                as_aux_lemma =>
                  refine wp_region_m (S := (fun w' => w'.cell? ⟨w.heap.size, 0, none⟩ = some (.int .i64 me) ∧ w'.cell? ⟨w.heap.size, 5, none⟩ = some (.int .i64 now) ∧ w'.cell? ⟨w.heap.size, 8, none⟩ = some (.slice (some ⟨bt, ot, none⟩) tl tc) ∧ w'.cell? ⟨w.heap.size, 14, none⟩ = some (.slice (some ⟨b, off, none⟩) dl dc) ∧ w'.cell? ⟨K2, 0, none⟩ = some (.int .i64 n) ∧ w'.cell? ⟨K2, 1, none⟩ = some (.int .i64 i) ∧ w'.cell? ⟨K2, 2, none⟩ = some (.int .i64 s) ∧ w'.cell? ⟨K2, 3, none⟩ = some (.slice ba bl bc) ∧ ISl w' ba bl bf ∧ w'.cell? ⟨bt, ot + k2 * 4 + 1, none⟩ = some (.int .i64 fi) ∧ w'.cell? ⟨bt, ot + k2 * 4 + 2, none⟩ = some (.int .i64 fs) ∧ Below u.heap.size u w')) o40_6 52 fo40_6 ?_ (fun hHeld => ?_)
                  · (try dsimp only); exact ⟨keep_drew g0, keep_drew g5, keep_drew g8, keep_drew g14, keep_drew r10, keep_drew r11, keep_drew r12, keep_drew r13, q3.below (Below.refl _ _).drew, keep_drew t1, keep_drew t2, b3.drew⟩
                  refine stY fo40_6 o40_6_0 1 ?_; try simp only [putQ]
                  refine stV (.bool false) fo40_6 o40_6_1 3 ?_ ?_
                  · (intro w hSw; (try dsimp only at hSw); go_simp; all_goals (first | with_reducible rfl |  assumption | (simp; done) | (simp; omega)))
                  (try simp only [putQ]); refine stY fo40_6 o40_6_2 7 ?_; try simp only [putQ]; refine stN fo40_6 o40_6_3 15 ?_; try simp only [putQ]; refine stN fo40_6 o40_6_4 31 ?_; try simp only [putQ]; refine stN fo40_6 o40_6_5 63 ?_; try simp only [putQ]; refine stN fo40_6 o40_6_6 127 ?_; try simp only [putQ]; refine stN fo40_6 o40_6_7 255 ?_; try simp only [putQ]; refine stN fo40_6 o40_6_8 511 ?_; try simp only [putQ]; refine stN fo40_6 o40_6_9 1023 ?_; try simp only [putQ]; refine stN fo40_6 o40_6_10 2047 ?_; try simp only [putQ]; refine stN fo40_6 o40_6_11 4095 ?_; try simp only [putQ]; refine stN fo40_6 o40_6_12 8191 ?_; try simp only [putQ]; refine stY fo40_6 o40_6_13 16383 ?_; try simp only [putQ]; refine stY fo40_6 o40_6_14 32767 ?_; try simp only [putQ]; refine stY fo40_6 o40_6_15 65535 ?_; try simp only [putQ]
                  refine stV (.bool false) fo40_6 o40_6_16 131071 ?_ ?_
                  · (intro w hSw; (try dsimp only at hSw); go_simp; all_goals (first | with_reducible rfl |  assumption | (simp; done) | (simp; omega)))
                  (try simp only [putQ]); refine stY fo40_6 o40_6_17 262143 ?_; try simp only [putQ]; refine stY fo40_6 o40_6_18 524287 ?_; try simp only [putQ]; refine stY fo40_6 o40_6_19 1048575 ?_; try simp only [putQ]; refine stY fo40_6 o40_6_20 2097151 ?_; try simp only [putQ]; refine stY fo40_6 o40_6_21 4194303 ?_; try simp only [putQ]; refine stY fo40_6 o40_6_22 8388607 ?_; try simp only [putQ]; refine stY fo40_6 o40_6_23 16777215 ?_; try simp only [putQ]; refine stY fo40_6 o40_6_24 33554431 ?_; try simp only [putQ]
                  refine stV (.bool false) fo40_6 o40_6_25 67108863 ?_ ?_
                  · (intro w hSw; (try dsimp only at hSw); go_simp; all_goals (first | with_reducible rfl | (simp [y2.out]; done) | assumption | (simp; done) | (simp; omega)))
                  (try simp only [putQ]); refine stY fo40_6 o40_6_26 134217727 ?_; try simp only [putQ]; refine stY fo40_6 o40_6_27 268435455 ?_; try simp only [putQ]; refine stY fo40_6 o40_6_28 536870911 ?_; try simp only [putQ]; refine stY fo40_6 o40_6_29 1073741823 ?_; try simp only [putQ]; refine stY fo40_6 o40_6_30 2147483647 ?_; try simp only [putQ]; refine stY fo40_6 o40_6_31 4294967295 ?_; try simp only [putQ]; refine stY fo40_6 o40_6_32 8589934591 ?_; try simp only [putQ]; refine stY fo40_6 o40_6_33 17179869183 ?_; try simp only [putQ]; refine stY fo40_6 o40_6_34 34359738367 ?_; try simp only [putQ]; refine stY fo40_6 o40_6_35 68719476735 ?_; try simp only [putQ]
                  refine stV (.bool false) fo40_6 o40_6_36 137438953471 ?_ ?_
                  · (intro w hSw; (try dsimp only at hSw); go_simp; all_goals (first | with_reducible rfl | (simp [y3.out]; done) | assumption | (simp; done) | (simp; omega)))
                  (try simp only [putQ]); refine stY fo40_6 o40_6_37 274877906943 ?_; try simp only [putQ]; refine stY fo40_6 o40_6_38 549755813887 ?_; try simp only [putQ]; refine stY fo40_6 o40_6_39 1099511627775 ?_; try simp only [putQ]; refine stY fo40_6 o40_6_40 2199023255551 ?_; try simp only [putQ]; refine stY fo40_6 o40_6_41 4398046511103 ?_; try simp only [putQ]; refine stY fo40_6 o40_6_42 8796093022207 ?_; try simp only [putQ]
                  refine stC fo40_6 o40_6_43 17592186044415 (fun K hK => ?_)
                  go_simp
                  refine (lin_lit s 0 now false y4.out _).mono ?_; rintro r w5 ⟨rfl, hw⟩; obtain rfl := hw.symm; clear hw
                  go_wp2_with fail
                  refine hK.out _ _ ?_ (fun hHeld => ?_)
                  · (try dsimp only); exact hHeld
                  clear hK K
                  (try simp only [putQ]); refine stY fo40_6 o40_6_44 35184372088831 ?_; try simp only [putQ]; refine stY fo40_6 o40_6_45 70368744177663 ?_; try simp only [putQ]; refine stY fo40_6 o40_6_46 140737488355327 ?_; try simp only [putQ]; refine stN fo40_6 o40_6_47 281474976710655 ?_; try simp only [putQ]; refine stN fo40_6 o40_6_48 562949953421311 ?_; try simp only [putQ]; refine stN fo40_6 o40_6_49 1125899906842623 ?_; try simp only [putQ]; refine stN fo40_6 o40_6_50 2251799813685247 ?_; try simp only [putQ]; refine stY fo40_6 o40_6_51 4503599627370495 ?_; try simp only [putQ]
                  refine wpAnyH_done (by kernel_rfl) ?_ _
                  go_wp2
                  go_ret
                  exact ⟨ret_bool (hno.out (.inl (by rw [hso2.out, y4.out]; simp))).symm, btrans b0 hHeld.2.2.2.2.2.2.2.2.2.2.2⟩
              · have y4 : Hid (inb s 0 now = true) := z4
                clear z4
                by_cases e6 : bl = 0
                · have y5 : Hid (bl = 0) := e6
                  clear e6
                  as_aux_lemma =>
                    refine wp_region_m (S := (fun w' => w'.cell? ⟨w.heap.size, 0, none⟩ = some (.int .i64 me) ∧ w'.cell? ⟨w.heap.size, 5, none⟩ = some (.int .i64 now) ∧ w'.cell? ⟨w.heap.size, 8, none⟩ = some (.slice (some ⟨bt, ot, none⟩) tl tc) ∧ w'.cell? ⟨w.heap.size, 14, none⟩ = some (.slice (some ⟨b, off, none⟩) dl dc) ∧ w'.cell? ⟨K2, 0, none⟩ = some (.int .i64 n) ∧ w'.cell? ⟨K2, 1, none⟩ = some (.int .i64 i) ∧ w'.cell? ⟨K2, 2, none⟩ = some (.int .i64 s) ∧ w'.cell? ⟨K2, 3, none⟩ = some (.slice ba bl bc) ∧ ISl w' ba bl bf ∧ w'.cell? ⟨bt, ot + k2 * 4 + 1, none⟩ = some (.int .i64 fi) ∧ w'.cell? ⟨bt, ot + k2 * 4 + 2, none⟩ = some (.int .i64 fs) ∧ Below u.heap.size u w')) o40_6 52 fo40_6 ?_ (fun hHeld => ?_)
                    · (try dsimp only); exact ⟨keep_drew g0, keep_drew g5, keep_drew g8, keep_drew g14, keep_drew r10, keep_drew r11, keep_drew r12, keep_drew r13, q3.below (Below.refl _ _).drew, keep_drew t1, keep_drew t2, b3.drew⟩
                    refine stY fo40_6 o40_6_0 1 ?_; try simp only [putQ]
                    refine stV (.bool false) fo40_6 o40_6_1 3 ?_ ?_
                    · (intro w hSw; (try dsimp only at hSw); go_simp; all_goals (first | with_reducible rfl |  assumption | (simp; done) | (simp; omega)))
                    (try simp only [putQ]); refine stY fo40_6 o40_6_2 7 ?_; try simp only [putQ]; refine stN fo40_6 o40_6_3 15 ?_; try simp only [putQ]; refine stN fo40_6 o40_6_4 31 ?_; try simp only [putQ]; refine stN fo40_6 o40_6_5 63 ?_; try simp only [putQ]; refine stN fo40_6 o40_6_6 127 ?_; try simp only [putQ]; refine stN fo40_6 o40_6_7 255 ?_; try simp only [putQ]; refine stN fo40_6 o40_6_8 511 ?_; try simp only [putQ]; refine stN fo40_6 o40_6_9 1023 ?_; try simp only [putQ]; refine stN fo40_6 o40_6_10 2047 ?_; try simp only [putQ]; refine stN fo40_6 o40_6_11 4095 ?_; try simp only [putQ]; refine stN fo40_6 o40_6_12 8191 ?_; try simp only [putQ]; refine stY fo40_6 o40_6_13 16383 ?_; try simp only [putQ]; refine stY fo40_6 o40_6_14 32767 ?_; try simp only [putQ]; refine stY fo40_6 o40_6_15 65535 ?_; try simp only [putQ]
                    refine stV (.bool false) fo40_6 o40_6_16 131071 ?_ ?_
                    · (intro w hSw; (try dsimp only at hSw); go_simp; all_goals (first | with_reducible rfl |  assumption | (simp; done) | (simp; omega)))
                    (try simp only [putQ]); refine stY fo40_6 o40_6_17 262143 ?_; try simp only [putQ]; refine stY fo40_6 o40_6_18 524287 ?_; try simp only [putQ]; refine stY fo40_6 o40_6_19 1048575 ?_; try simp only [putQ]; refine stY fo40_6 o40_6_20 2097151 ?_; try simp only [putQ]; refine stY fo40_6 o40_6_21 4194303 ?_; try simp only [putQ]; refine stY fo40_6 o40_6_22 8388607 ?_; try simp only [putQ]; refine stY fo40_6 o40_6_23 16777215 ?_; try simp only [putQ]; refine stY fo40_6 o40_6_24 33554431 ?_; try simp only [putQ]
                    refine stV (.bool false) fo40_6 o40_6_25 67108863 ?_ ?_
                    · (intro w hSw; (try dsimp only at hSw); go_simp; all_goals (first | with_reducible rfl | (simp [y2.out]; done) | assumption | (simp; done) | (simp; omega)))
                    (try simp only [putQ]); refine stY fo40_6 o40_6_26 134217727 ?_; try simp only [putQ]; refine stY fo40_6 o40_6_27 268435455 ?_; try simp only [putQ]; refine stY fo40_6 o40_6_28 536870911 ?_; try simp only [putQ]; refine stY fo40_6 o40_6_29 1073741823 ?_; try simp only [putQ]; refine stY fo40_6 o40_6_30 2147483647 ?_; try simp only [putQ]; refine stY fo40_6 o40_6_31 4294967295 ?_; try simp only [putQ]; refine stY fo40_6 o40_6_32 8589934591 ?_; try simp only [putQ]; refine stY fo40_6 o40_6_33 17179869183 ?_; try simp only [putQ]; refine stY fo40_6 o40_6_34 34359738367 ?_; try simp only [putQ]; refine stY fo40_6 o40_6_35 68719476735 ?_; try simp only [putQ]
                    refine stV (.bool false) fo40_6 o40_6_36 137438953471 ?_ ?_
                    · (intro w hSw; (try dsimp only at hSw); go_simp; all_goals (first | with_reducible rfl | (simp [y3.out]; done) | assumption | (simp; done) | (simp; omega)))
                    (try simp only [putQ]); refine stY fo40_6 o40_6_37 274877906943 ?_; try simp only [putQ]; refine stY fo40_6 o40_6_38 549755813887 ?_; try simp only [putQ]; refine stY fo40_6 o40_6_39 1099511627775 ?_; try simp only [putQ]; refine stY fo40_6 o40_6_40 2199023255551 ?_; try simp only [putQ]; refine stY fo40_6 o40_6_41 4398046511103 ?_; try simp only [putQ]; refine stY fo40_6 o40_6_42 8796093022207 ?_; try simp only [putQ]
                    refine stC fo40_6 o40_6_43 17592186044415 (fun K hK => ?_)
                    go_simp
                    refine (lin_lit s 0 now true y4.out _).mono ?_; rintro r w5 ⟨rfl, hw⟩; obtain rfl := hw.symm; clear hw
                    go_wp2_with fail
                    refine hK.out _ _ ?_ (fun hHeld => ?_)
                    · (try dsimp only); exact hHeld
                    clear hK K
                    (try simp only [putQ]); refine stY fo40_6 o40_6_44 35184372088831 ?_; try simp only [putQ]; refine stY fo40_6 o40_6_45 70368744177663 ?_; try simp only [putQ]; refine stY fo40_6 o40_6_46 140737488355327 ?_; try simp only [putQ]; refine stY fo40_6 o40_6_47 281474976710655 ?_; try simp only [putQ]; refine stY fo40_6 o40_6_48 562949953421311 ?_; try simp only [putQ]; refine stY fo40_6 o40_6_49 1125899906842623 ?_; try simp only [putQ]
                    refine stV (.bool true) fo40_6 o40_6_50 2251799813685247 ?_ ?_
                    · (intro w hSw; (try dsimp only at hSw); go_simp; all_goals (first | with_reducible rfl | (simp [y5.out]; done) | assumption | (simp; done) | (simp; omega)))
                    (try simp only [putQ]); refine stY fo40_6 o40_6_51 4503599627370495 ?_; try simp only [putQ]
                    refine wpAnyH_done (by kernel_rfl) ?_ _
                    go_wp2
                    go_ret
                    exact ⟨ret_bool (hno.out (.inl (by rw [hso2.out, y5.out]; simp))).symm, btrans b0 hHeld.2.2.2.2.2.2.2.2.2.2.2⟩
                · skip
                  refine wp_region_m (S := (fun w' => w'.cell? ⟨w.heap.size, 0, none⟩ = some (.int .i64 me) ∧ w'.cell? ⟨w.heap.size, 5, none⟩ = some (.int .i64 now) ∧ w'.cell? ⟨w.heap.size, 8, none⟩ = some (.slice (some ⟨bt, ot, none⟩) tl tc) ∧ w'.cell? ⟨w.heap.size, 14, none⟩ = some (.slice (some ⟨b, off, none⟩) dl dc) ∧ w'.cell? ⟨K2, 0, none⟩ = some (.int .i64 n) ∧ w'.cell? ⟨K2, 1, none⟩ = some (.int .i64 i) ∧ w'.cell? ⟨K2, 2, none⟩ = some (.int .i64 s) ∧ w'.cell? ⟨K2, 3, none⟩ = some (.slice ba bl bc) ∧ ISl w' ba bl bf ∧ w'.cell? ⟨bt, ot + k2 * 4 + 1, none⟩ = some (.int .i64 fi) ∧ w'.cell? ⟨bt, ot + k2 * 4 + 2, none⟩ = some (.int .i64 fs) ∧ Below u.heap.size u w')) o40_6 52 fo40_6 ?_ (fun hHeld => ?_)
                  · (try dsimp only); exact ⟨keep_drew g0, keep_drew g5, keep_drew g8, keep_drew g14, keep_drew r10, keep_drew r11, keep_drew r12, keep_drew r13, q3.below (Below.refl _ _).drew, keep_drew t1, keep_drew t2, b3.drew⟩
                  refine stY fo40_6 o40_6_0 1 ?_; try simp only [putQ]
                  refine stV (.bool false) fo40_6 o40_6_1 3 ?_ ?_
                  · (intro w hSw; (try dsimp only at hSw); go_simp; all_goals (first | with_reducible rfl |  assumption | (simp; done) | (simp; omega)))
                  (try simp only [putQ]); refine stY fo40_6 o40_6_2 7 ?_; try simp only [putQ]; refine stN fo40_6 o40_6_3 15 ?_; try simp only [putQ]; refine stN fo40_6 o40_6_4 31 ?_; try simp only [putQ]; refine stN fo40_6 o40_6_5 63 ?_; try simp only [putQ]; refine stN fo40_6 o40_6_6 127 ?_; try simp only [putQ]; refine stN fo40_6 o40_6_7 255 ?_; try simp only [putQ]; refine stN fo40_6 o40_6_8 511 ?_; try simp only [putQ]; refine stN fo40_6 o40_6_9 1023 ?_; try simp only [putQ]; refine stN fo40_6 o40_6_10 2047 ?_; try simp only [putQ]; refine stN fo40_6 o40_6_11 4095 ?_; try simp only [putQ]; refine stN fo40_6 o40_6_12 8191 ?_; try simp only [putQ]; refine stY fo40_6 o40_6_13 16383 ?_; try simp only [putQ]; refine stY fo40_6 o40_6_14 32767 ?_; try simp only [putQ]; refine stY fo40_6 o40_6_15 65535 ?_; try simp only [putQ]
                  refine stV (.bool false) fo40_6 o40_6_16 131071 ?_ ?_
                  · (intro w hSw; (try dsimp only at hSw); go_simp; all_goals (first | with_reducible rfl |  assumption | (simp; done) | (simp; omega)))
                  (try simp only [putQ]); refine stY fo40_6 o40_6_17 262143 ?_; try simp only [putQ]; refine stY fo40_6 o40_6_18 524287 ?_; try simp only [putQ]; refine stY fo40_6 o40_6_19 1048575 ?_; try simp only [putQ]; refine stY fo40_6 o40_6_20 2097151 ?_; try simp only [putQ]; refine stY fo40_6 o40_6_21 4194303 ?_; try simp only [putQ]; refine stY fo40_6 o40_6_22 8388607 ?_; try simp only [putQ]; refine stY fo40_6 o40_6_23 16777215 ?_; try simp only [putQ]; refine stY fo40_6 o40_6_24 33554431 ?_; try simp only [putQ]
                  refine stV (.bool false) fo40_6 o40_6_25 67108863 ?_ ?_
                  · (intro w hSw; (try dsimp only at hSw); go_simp; all_goals (first | with_reducible rfl | (simp [y2.out]; done) | assumption | (simp; done) | (simp; omega)))
                  (try simp only [putQ]); refine stY fo40_6 o40_6_26 134217727 ?_; try simp only [putQ]; refine stY fo40_6 o40_6_27 268435455 ?_; try simp only [putQ]; refine stY fo40_6 o40_6_28 536870911 ?_; try simp only [putQ]; refine stY fo40_6 o40_6_29 1073741823 ?_; try simp only [putQ]; refine stY fo40_6 o40_6_30 2147483647 ?_; try simp only [putQ]; refine stY fo40_6 o40_6_31 4294967295 ?_; try simp only [putQ]; refine stY fo40_6 o40_6_32 8589934591 ?_; try simp only [putQ]; refine stY fo40_6 o40_6_33 17179869183 ?_; try simp only [putQ]; refine stY fo40_6 o40_6_34 34359738367 ?_; try simp only [putQ]; refine stY fo40_6 o40_6_35 68719476735 ?_; try simp only [putQ]
                  refine stV (.bool false) fo40_6 o40_6_36 137438953471 ?_ ?_
                  · (intro w hSw; (try dsimp only at hSw); go_simp; all_goals (first | with_reducible rfl | (simp [y3.out]; done) | assumption | (simp; done) | (simp; omega)))
                  (try simp only [putQ]); refine stY fo40_6 o40_6_37 274877906943 ?_; try simp only [putQ]; refine stY fo40_6 o40_6_38 549755813887 ?_; try simp only [putQ]; refine stY fo40_6 o40_6_39 1099511627775 ?_; try simp only [putQ]; refine stY fo40_6 o40_6_40 2199023255551 ?_; try simp only [putQ]; refine stY fo40_6 o40_6_41 4398046511103 ?_; try simp only [putQ]; refine stY fo40_6 o40_6_42 8796093022207 ?_; try simp only [putQ]
                  refine stC fo40_6 o40_6_43 17592186044415 (fun K hK => ?_)
                  go_simp
                  refine (lin_lit s 0 now true y4.out _).mono ?_; rintro r w5 ⟨rfl, hw⟩; obtain rfl := hw.symm; clear hw
                  go_wp2_with fail
                  refine hK.out _ _ ?_ (fun hHeld => ?_)
                  · (try dsimp only); exact hHeld
                  clear hK K
                  (try simp only [putQ]); refine stY fo40_6 o40_6_44 35184372088831 ?_; try simp only [putQ]; refine stY fo40_6 o40_6_45 70368744177663 ?_; try simp only [putQ]; refine stY fo40_6 o40_6_46 140737488355327 ?_; try simp only [putQ]; refine stY fo40_6 o40_6_47 281474976710655 ?_; try simp only [putQ]; refine stY fo40_6 o40_6_48 562949953421311 ?_; try simp only [putQ]; refine stY fo40_6 o40_6_49 1125899906842623 ?_; try simp only [putQ]
                  refine stV (.bool false) fo40_6 o40_6_50 2251799813685247 ?_ ?_
                  · (intro w hSw; (try dsimp only at hSw); go_simp; all_goals (first | with_reducible rfl |  assumption | (simp; done) | (simp; omega)))
                  (try simp only [putQ]); refine stY fo40_6 o40_6_51 4503599627370495 ?_; try simp only [putQ]
                  refine wpAnyH_done (by kernel_rfl) ?_ _
                  have hso3 : Hid (dbtB me now tl F n i s bl bf = (risB bl bf && obA me bl bf)) := by
                    have e6' : 0 < bl := by omega
                    rw [Hid, hso2.out, y2.out, y3.out, y4.out]; simp [e6']
                  have hc3 := hHeld.2.2.2.2.2.2.2.1
                  have hme := hHeld.1
                  have hI := hHeld.2.2.2.2.2.2.2.2.1
                  have hBe := hHeld.2.2.2.2.2.2.2.2.2.2.2
                  clear hHeld hso2 y2 y3 y4 t0 t1 t2 t3
                  go_wp2_with fail
                  go_loopw [6] (fun i wt => ∃ t : Nat, t ≤ bl ∧ i = .int .i64 t ∧ Below w2.drew.heap.size w2.drew wt ∧ (∀ j, j < t → ofB me (bf j) = true) ∧ (∀ j, j < t → 0 < j → bf (j - 1) < bf j)) (fun i _ => bl - (intOf i).toNat)
                  case atStart => exact ⟨0, by omega, rfl, Below.refl _ _, fun j h1 => by omega, fun j h1 => by omega⟩
                  case round =>
                    obtain ⟨t, ht, rfl, hbt2, hallt, hasct⟩ := hrel
                    have m3 := keep_below hbt2 hc3
                    have m0 := keep_below hbt2 hme
                    have hBf := btrans hBe hbt2
                    by_cases hlt2 : t < bl
                    · obtain ⟨bb, ob, rfl, hbb, hff⟩ := hI (by omega)
                      have hff2 := hff.below hbt2 hbb
                      have ct := hff2 t hlt2
                      have j3 : (0 : Int) ≤ (t : Int) := by omega
                      have j4 : (t : Int) < (bl : Int) := by omega
                      rcases Nat.eq_zero_or_pos t with g | g
                      · subst g
                        simp only [Nat.add_zero] at ct
                        have hnt : Hid (ofB me (bf 0) = false ∨ (0 < 0 ∧ ¬ bf (0 - 1) < bf 0) → (risB bl bf && obA me bl bf) = false) := by_no hlt2
                        have hyt : Hid (ofB me (bf 0) = true → ∀ j, j < 0 + 1 → ofB me (bf j) = true) := fun e j hj => by
                          by_cases ej : j = 0
                          · subst ej; exact e
                          · exact hallt j (by omega)
                        have hyt2 : Hid ((0 < 0 → bf (0 - 1) < bf 0) → ∀ j, j < 0 + 1 → 0 < j → bf (j - 1) < bf j) := fun e j hj h0 => by
                          by_cases ej : j = 0
                          · subst ej; exact e h0
                          · exact hasct j (by omega) h0
                        clear hallt hasct
                        generalize bf 0 = z at *
                        obtain ⟨sz, hsz⟩ : ∃ sz, Hid (ste z = sz) := ⟨_, rfl⟩
                        go_upto_region 11 with fail
                        cases z6 : inb z 0 7
                        · have y6 : Hid (inb z 0 7 = false) := z6
                          clear z6
                          as_aux_lemma =>
                            refine wp_region_m (S := (fun w' => w'.cell? ⟨w.heap.size, 0, none⟩ = some (.int .i64 me) ∧ w'.cell? ⟨K2, 3, none⟩ = some (.slice (some ⟨bb, ob, none⟩) bl bc) ∧ w'.cell? ⟨bb, ob, none⟩ = some (.int .i64 z) ∧ Below u.heap.size u w' ∧ Below w2.drew.heap.size w2.drew w')) o40_11 37 fo40_11 ?_ (fun hHeld => ?_)
                            · (try dsimp only); exact ⟨keep_drew m0, keep_drew m3, keep_drew ct, hBf.drew, hbt2.drew⟩
                            refine stY fo40_11 o40_11_0 1 ?_; try simp only [putQ]; refine stY fo40_11 o40_11_1 3 ?_; try simp only [putQ]; refine stY fo40_11 o40_11_2 7 ?_; try simp only [putQ]; refine stY fo40_11 o40_11_3 15 ?_; try simp only [putQ]; refine stY fo40_11 o40_11_4 31 ?_; try simp only [putQ]
                            refine stC fo40_11 o40_11_5 63 (fun K hK => ?_)
                            go_simp
                            refine (lin_lit z 0 7 false y6.out _).mono ?_; rintro r w5 ⟨rfl, hw⟩; obtain rfl := hw.symm; clear hw
                            go_wp2_with fail
                            refine hK.out _ _ ?_ (fun hHeld => ?_)
                            · (try dsimp only); exact hHeld
                            clear hK K
                            (try simp only [putQ]); refine stY fo40_11 o40_11_6 127 ?_; try simp only [putQ]; refine stY fo40_11 o40_11_7 255 ?_; try simp only [putQ]; refine stN fo40_11 o40_11_8 511 ?_; try simp only [putQ]; refine stN fo40_11 o40_11_9 1023 ?_; try simp only [putQ]; refine stN fo40_11 o40_11_10 2047 ?_; try simp only [putQ]; refine stN fo40_11 o40_11_11 4095 ?_; try simp only [putQ]; refine stN fo40_11 o40_11_12 8191 ?_; try simp only [putQ]; refine stN fo40_11 o40_11_13 16383 ?_; try simp only [putQ]; refine stN fo40_11 o40_11_14 32767 ?_; try simp only [putQ]; refine stN fo40_11 o40_11_15 65535 ?_; try simp only [putQ]; refine stN fo40_11 o40_11_16 131071 ?_; try simp only [putQ]; refine stN fo40_11 o40_11_17 262143 ?_; try simp only [putQ]; refine stY fo40_11 o40_11_18 524287 ?_; try simp only [putQ]; refine stY fo40_11 o40_11_19 1048575 ?_; try simp only [putQ]; refine stN fo40_11 o40_11_20 2097151 ?_; try simp only [putQ]; refine stN fo40_11 o40_11_21 4194303 ?_; try simp only [putQ]; refine stN fo40_11 o40_11_22 8388607 ?_; try simp only [putQ]; refine stN fo40_11 o40_11_23 16777215 ?_; try simp only [putQ]; refine stN fo40_11 o40_11_24 33554431 ?_; try simp only [putQ]; refine stN fo40_11 o40_11_25 67108863 ?_; try simp only [putQ]; refine stN fo40_11 o40_11_26 134217727 ?_; try simp only [putQ]; refine stN fo40_11 o40_11_27 268435455 ?_; try simp only [putQ]; refine stN fo40_11 o40_11_28 536870911 ?_; try simp only [putQ]; refine stN fo40_11 o40_11_29 1073741823 ?_; try simp only [putQ]; refine stN fo40_11 o40_11_30 2147483647 ?_; try simp only [putQ]; refine stN fo40_11 o40_11_31 4294967295 ?_; try simp only [putQ]; refine stN fo40_11 o40_11_32 8589934591 ?_; try simp only [putQ]; refine stN fo40_11 o40_11_33 17179869183 ?_; try simp only [putQ]; refine stN fo40_11 o40_11_34 34359738367 ?_; try simp only [putQ]; refine stN fo40_11 o40_11_35 68719476735 ?_; try simp only [putQ]; refine stY fo40_11 o40_11_36 137438953471 ?_; try simp only [putQ]
                            refine wpAnyH_done (by kernel_rfl) ?_ _
                            go_wp2
                            go_ret
                            exact ⟨ret_bool (hno.out (.inl (by rw [hso3.out]; exact hnt.out (.inl (by simp [ofB, y6.out]))))).symm, btrans b0 hHeld.2.2.2.1⟩
                        · have y6 : Hid (inb z 0 7 = true) := z6
                          clear z6
                          by_cases e7 : sz = sm
                          · have y7 : Hid (sz = sm) := e7
                            clear e7
                            refine wp_region_m (S := (fun w' => w'.cell? ⟨w.heap.size, 0, none⟩ = some (.int .i64 me) ∧ w'.cell? ⟨K2, 3, none⟩ = some (.slice (some ⟨bb, ob, none⟩) bl bc) ∧ w'.cell? ⟨bb, ob, none⟩ = some (.int .i64 z) ∧ Below u.heap.size u w' ∧ Below w2.drew.heap.size w2.drew w')) o40_11 37 fo40_11 ?_ (fun hHeld => ?_)
                            · (try dsimp only); exact ⟨keep_drew m0, keep_drew m3, keep_drew ct, hBf.drew, hbt2.drew⟩
                            refine stY fo40_11 o40_11_0 1 ?_; try simp only [putQ]; refine stY fo40_11 o40_11_1 3 ?_; try simp only [putQ]; refine stY fo40_11 o40_11_2 7 ?_; try simp only [putQ]; refine stY fo40_11 o40_11_3 15 ?_; try simp only [putQ]; refine stY fo40_11 o40_11_4 31 ?_; try simp only [putQ]
                            refine stC fo40_11 o40_11_5 63 (fun K hK => ?_)
                            go_simp
                            refine (lin_lit z 0 7 true y6.out _).mono ?_; rintro r w5 ⟨rfl, hw⟩; obtain rfl := hw.symm; clear hw
                            go_wp2_with fail
                            refine hK.out _ _ ?_ (fun hHeld => ?_)
                            · (try dsimp only); exact hHeld
                            clear hK K
                            (try simp only [putQ]); refine stY fo40_11 o40_11_6 127 ?_; try simp only [putQ]; refine stY fo40_11 o40_11_7 255 ?_; try simp only [putQ]; refine stY fo40_11 o40_11_8 511 ?_; try simp only [putQ]; refine stY fo40_11 o40_11_9 1023 ?_; try simp only [putQ]; refine stY fo40_11 o40_11_10 2047 ?_; try simp only [putQ]; refine stY fo40_11 o40_11_11 4095 ?_; try simp only [putQ]; refine stY fo40_11 o40_11_12 8191 ?_; try simp only [putQ]; refine stY fo40_11 o40_11_14 24575 ?_; try simp only [putQ]; refine stY fo40_11 o40_11_15 57343 ?_; try simp only [putQ]
                            refine stC fo40_11 o40_11_13 65535 (fun K hK => ?_)
                            go_simp
                            refine (lsite_any z _).mono ?_; rintro r w5 ⟨rfl, hw⟩; obtain rfl := hw.symm; clear hw; rw [hsz.out]
                            go_wp2_with fail
                            refine hK.out _ _ ?_ (fun hHeld => ?_)
                            · (try dsimp only); exact hHeld
                            clear hK K
                            (try simp only [putQ])
                            refine stC fo40_11 o40_11_16 131071 (fun K hK => ?_)
                            go_simp
                            refine (lsite_any me _).mono ?_; rintro r w5 ⟨rfl, hw⟩; obtain rfl := hw.symm; clear hw; rw [hsm.out]
                            go_wp2_with fail
                            refine hK.out _ _ ?_ (fun hHeld => ?_)
                            · (try dsimp only); exact hHeld
                            clear hK K
                            (try simp only [putQ])
                            refine stV (.bool false) fo40_11 o40_11_17 262143 ?_ ?_
                            · (intro w hSw; (try dsimp only at hSw); go_simp; all_goals (first | with_reducible rfl | (simp [y7.out]; done) | assumption | (simp; done) | (simp; omega)))
                            (try simp only [putQ]); refine stY fo40_11 o40_11_18 524287 ?_; try simp only [putQ]; refine stY fo40_11 o40_11_19 1048575 ?_; try simp only [putQ]; refine stY fo40_11 o40_11_20 2097151 ?_; try simp only [putQ]
                            refine stV (.bool false) fo40_11 o40_11_21 4194303 ?_ ?_
                            · (intro w hSw; (try dsimp only at hSw); go_simp; all_goals (first | with_reducible rfl |  assumption | (simp; done) | (simp; omega)))
                            (try simp only [putQ]); refine stY fo40_11 o40_11_22 8388607 ?_; try simp only [putQ]; refine stN fo40_11 o40_11_23 16777215 ?_; try simp only [putQ]; refine stN fo40_11 o40_11_24 33554431 ?_; try simp only [putQ]; refine stN fo40_11 o40_11_25 67108863 ?_; try simp only [putQ]; refine stN fo40_11 o40_11_26 134217727 ?_; try simp only [putQ]; refine stN fo40_11 o40_11_27 268435455 ?_; try simp only [putQ]; refine stN fo40_11 o40_11_28 536870911 ?_; try simp only [putQ]; refine stN fo40_11 o40_11_29 1073741823 ?_; try simp only [putQ]; refine stN fo40_11 o40_11_30 2147483647 ?_; try simp only [putQ]; refine stN fo40_11 o40_11_31 4294967295 ?_; try simp only [putQ]; refine stN fo40_11 o40_11_32 8589934591 ?_; try simp only [putQ]; refine stN fo40_11 o40_11_33 17179869183 ?_; try simp only [putQ]; refine stN fo40_11 o40_11_34 34359738367 ?_; try simp only [putQ]; refine stY fo40_11 o40_11_35 68719476735 ?_; try simp only [putQ]; refine stY fo40_11 o40_11_36 137438953471 ?_; try simp only [putQ]
                            refine wpAnyH_done (by kernel_rfl) ?_ _
                            go_wp2
                            go_roundw
                            case rel => exact ⟨0 + 1, by omega, by go_num, hHeld.2.2.2.2, hyt.out (by simp [ofB, y6.out, hsz.out, hsm.out, y7.out]), hyt2.out (fun h => by omega)⟩
                            case measure => simp [intOf]; omega
                          · skip
                            as_aux_lemma =>
                              refine wp_region_m (S := (fun w' => w'.cell? ⟨w.heap.size, 0, none⟩ = some (.int .i64 me) ∧ w'.cell? ⟨K2, 3, none⟩ = some (.slice (some ⟨bb, ob, none⟩) bl bc) ∧ w'.cell? ⟨bb, ob, none⟩ = some (.int .i64 z) ∧ Below u.heap.size u w' ∧ Below w2.drew.heap.size w2.drew w')) o40_11 37 fo40_11 ?_ (fun hHeld => ?_)
                              · (try dsimp only); exact ⟨keep_drew m0, keep_drew m3, keep_drew ct, hBf.drew, hbt2.drew⟩
                              refine stY fo40_11 o40_11_0 1 ?_; try simp only [putQ]; refine stY fo40_11 o40_11_1 3 ?_; try simp only [putQ]; refine stY fo40_11 o40_11_2 7 ?_; try simp only [putQ]; refine stY fo40_11 o40_11_3 15 ?_; try simp only [putQ]; refine stY fo40_11 o40_11_4 31 ?_; try simp only [putQ]
                              refine stC fo40_11 o40_11_5 63 (fun K hK => ?_)
                              go_simp
                              refine (lin_lit z 0 7 true y6.out _).mono ?_; rintro r w5 ⟨rfl, hw⟩; obtain rfl := hw.symm; clear hw
                              go_wp2_with fail
                              refine hK.out _ _ ?_ (fun hHeld => ?_)
                              · (try dsimp only); exact hHeld
                              clear hK K
                              (try simp only [putQ]); refine stY fo40_11 o40_11_6 127 ?_; try simp only [putQ]; refine stY fo40_11 o40_11_7 255 ?_; try simp only [putQ]; refine stY fo40_11 o40_11_8 511 ?_; try simp only [putQ]; refine stY fo40_11 o40_11_9 1023 ?_; try simp only [putQ]; refine stY fo40_11 o40_11_10 2047 ?_; try simp only [putQ]; refine stY fo40_11 o40_11_11 4095 ?_; try simp only [putQ]; refine stY fo40_11 o40_11_12 8191 ?_; try simp only [putQ]; refine stY fo40_11 o40_11_14 24575 ?_; try simp only [putQ]; refine stY fo40_11 o40_11_15 57343 ?_; try simp only [putQ]
                              refine stC fo40_11 o40_11_13 65535 (fun K hK => ?_)
                              go_simp
                              refine (lsite_any z _).mono ?_; rintro r w5 ⟨rfl, hw⟩; obtain rfl := hw.symm; clear hw; rw [hsz.out]
                              go_wp2_with fail
                              refine hK.out _ _ ?_ (fun hHeld => ?_)
                              · (try dsimp only); exact hHeld
                              clear hK K
                              (try simp only [putQ])
                              refine stC fo40_11 o40_11_16 131071 (fun K hK => ?_)
                              go_simp
                              refine (lsite_any me _).mono ?_; rintro r w5 ⟨rfl, hw⟩; obtain rfl := hw.symm; clear hw; rw [hsm.out]
                              go_wp2_with fail
                              refine hK.out _ _ ?_ (fun hHeld => ?_)
                              · (try dsimp only); exact hHeld
                              clear hK K
                              (try simp only [putQ])
                              refine stV (.bool true) fo40_11 o40_11_17 262143 ?_ ?_
                              · (intro w hSw; (try dsimp only at hSw); go_simp; all_goals (first | with_reducible rfl |  assumption | (simp; done) | (simp; omega)))
                              (try simp only [putQ]); refine stY fo40_11 o40_11_18 524287 ?_; try simp only [putQ]; refine stY fo40_11 o40_11_19 1048575 ?_; try simp only [putQ]; refine stN fo40_11 o40_11_20 2097151 ?_; try simp only [putQ]; refine stN fo40_11 o40_11_21 4194303 ?_; try simp only [putQ]; refine stN fo40_11 o40_11_22 8388607 ?_; try simp only [putQ]; refine stN fo40_11 o40_11_23 16777215 ?_; try simp only [putQ]; refine stN fo40_11 o40_11_24 33554431 ?_; try simp only [putQ]; refine stN fo40_11 o40_11_25 67108863 ?_; try simp only [putQ]; refine stN fo40_11 o40_11_26 134217727 ?_; try simp only [putQ]; refine stN fo40_11 o40_11_27 268435455 ?_; try simp only [putQ]; refine stN fo40_11 o40_11_28 536870911 ?_; try simp only [putQ]; refine stN fo40_11 o40_11_29 1073741823 ?_; try simp only [putQ]; refine stN fo40_11 o40_11_30 2147483647 ?_; try simp only [putQ]; refine stN fo40_11 o40_11_31 4294967295 ?_; try simp only [putQ]; refine stN fo40_11 o40_11_32 8589934591 ?_; try simp only [putQ]; refine stN fo40_11 o40_11_33 17179869183 ?_; try simp only [putQ]; refine stN fo40_11 o40_11_34 34359738367 ?_; try simp only [putQ]; refine stN fo40_11 o40_11_35 68719476735 ?_; try simp only [putQ]; refine stY fo40_11 o40_11_36 137438953471 ?_; try simp only [putQ]
                              refine wpAnyH_done (by kernel_rfl) ?_ _
                              go_wp2
                              go_ret
                              exact ⟨ret_bool (hno.out (.inl (by rw [hso3.out]; exact hnt.out (.inl (by simp [ofB, hsz.out, hsm.out, e7]))))).symm, btrans b0 hHeld.2.2.2.1⟩
                      · obtain ⟨t2, rfl⟩ : ∃ t2, t = t2 + 1 := ⟨t - 1, by omega⟩
                        have hnt : Hid (ofB me (bf (t2 + 1)) = false ∨ (0 < (t2 + 1) ∧ ¬ bf ((t2 + 1) - 1) < bf (t2 + 1)) → (risB bl bf && obA me bl bf) = false) := by_no hlt2
                        have hyt : Hid (ofB me (bf (t2 + 1)) = true → ∀ j, j < (t2 + 1) + 1 → ofB me (bf j) = true) := fun e j hj => by
                          by_cases ej : j = (t2 + 1)
                          · subst ej; exact e
                          · exact hallt j (by omega)
                        have hyt2 : Hid ((0 < (t2 + 1) → bf ((t2 + 1) - 1) < bf (t2 + 1)) → ∀ j, j < (t2 + 1) + 1 → 0 < j → bf (j - 1) < bf j) := fun e j hj h0 => by
                          by_cases ej : j = (t2 + 1)
                          · subst ej; exact e h0
                          · exact hasct j (by omega) h0
                        clear hallt hasct
                        generalize bf (t2 + 1) = z at *
                        have cp := hff2 t2 (by omega)
                        obtain ⟨zp, hzp⟩ : ∃ zp, Hid (bf t2 = zp) := ⟨_, rfl⟩
                        rw [hzp.out] at cp
                        have x2 : (0 : Int) ≤ (t2 : Int) := by omega
                        have x3 : (t2 : Int) + 1 < (bl : Int) := by omega
                        have x4 : (t2 : Int) < (bl : Int) := by omega
                        have x5 : (0 : Int) ≤ (t2 : Int) + 1 := by omega
                        have x6 : (0 : Int) < (t2 : Int) + 1 := by omega
                        have x7 : IntKind.i64.wrap (t2 : Int) = (t2 : Int) := by rw [IntKind.wrap_i64]; omega
                        have x8 : IntKind.i64.wrap ((t2 : Int) + 1 - 1) = (t2 : Int) := by rw [IntKind.wrap_i64]; omega
                        have x9 : ((t2 + 1 : Nat) : Int) = (t2 : Int) + 1 := by omega
                        clear j3 j4
                        rw [x9]
                        obtain ⟨sz, hsz⟩ : ∃ sz, Hid (ste z = sz) := ⟨_, rfl⟩
                        go_upto_region 11 with fail
                        cases z6 : inb z 0 7
                        · have y6 : Hid (inb z 0 7 = false) := z6
                          clear z6
                          as_aux_lemma =>
                            refine wp_region_m (S := (fun w' => w'.cell? ⟨w.heap.size, 0, none⟩ = some (.int .i64 me) ∧ w'.cell? ⟨K2, 3, none⟩ = some (.slice (some ⟨bb, ob, none⟩) bl bc) ∧ w'.cell? ⟨bb, ob + (t2 + 1), none⟩ = some (.int .i64 z) ∧ w'.cell? ⟨bb, ob + t2, none⟩ = some (.int .i64 zp) ∧ Below u.heap.size u w' ∧ Below w2.drew.heap.size w2.drew w')) o40_11 37 fo40_11 ?_ (fun hHeld => ?_)
                            · (try dsimp only); exact ⟨keep_drew m0, keep_drew m3, keep_drew ct, keep_drew cp, hBf.drew, hbt2.drew⟩
                            refine stY fo40_11 o40_11_0 1 ?_; try simp only [putQ]; refine stY fo40_11 o40_11_1 3 ?_; try simp only [putQ]; refine stY fo40_11 o40_11_2 7 ?_; try simp only [putQ]; refine stY fo40_11 o40_11_3 15 ?_; try simp only [putQ]; refine stY fo40_11 o40_11_4 31 ?_; try simp only [putQ]
                            refine stC fo40_11 o40_11_5 63 (fun K hK => ?_)
                            go_simp
                            refine (lin_lit z 0 7 false y6.out _).mono ?_; rintro r w5 ⟨rfl, hw⟩; obtain rfl := hw.symm; clear hw
                            go_wp2_with fail
                            refine hK.out _ _ ?_ (fun hHeld => ?_)
                            · (try dsimp only); exact hHeld
                            clear hK K
                            (try simp only [putQ]); refine stY fo40_11 o40_11_6 127 ?_; try simp only [putQ]; refine stY fo40_11 o40_11_7 255 ?_; try simp only [putQ]; refine stN fo40_11 o40_11_8 511 ?_; try simp only [putQ]; refine stN fo40_11 o40_11_9 1023 ?_; try simp only [putQ]; refine stN fo40_11 o40_11_10 2047 ?_; try simp only [putQ]; refine stN fo40_11 o40_11_11 4095 ?_; try simp only [putQ]; refine stN fo40_11 o40_11_12 8191 ?_; try simp only [putQ]; refine stN fo40_11 o40_11_13 16383 ?_; try simp only [putQ]; refine stN fo40_11 o40_11_14 32767 ?_; try simp only [putQ]; refine stN fo40_11 o40_11_15 65535 ?_; try simp only [putQ]; refine stN fo40_11 o40_11_16 131071 ?_; try simp only [putQ]; refine stN fo40_11 o40_11_17 262143 ?_; try simp only [putQ]; refine stY fo40_11 o40_11_18 524287 ?_; try simp only [putQ]; refine stY fo40_11 o40_11_19 1048575 ?_; try simp only [putQ]; refine stN fo40_11 o40_11_20 2097151 ?_; try simp only [putQ]; refine stN fo40_11 o40_11_21 4194303 ?_; try simp only [putQ]; refine stN fo40_11 o40_11_22 8388607 ?_; try simp only [putQ]; refine stN fo40_11 o40_11_23 16777215 ?_; try simp only [putQ]; refine stN fo40_11 o40_11_24 33554431 ?_; try simp only [putQ]; refine stN fo40_11 o40_11_25 67108863 ?_; try simp only [putQ]; refine stN fo40_11 o40_11_26 134217727 ?_; try simp only [putQ]; refine stN fo40_11 o40_11_27 268435455 ?_; try simp only [putQ]; refine stN fo40_11 o40_11_28 536870911 ?_; try simp only [putQ]; refine stN fo40_11 o40_11_29 1073741823 ?_; try simp only [putQ]; refine stN fo40_11 o40_11_30 2147483647 ?_; try simp only [putQ]; refine stN fo40_11 o40_11_31 4294967295 ?_; try simp only [putQ]; refine stN fo40_11 o40_11_32 8589934591 ?_; try simp only [putQ]; refine stN fo40_11 o40_11_33 17179869183 ?_; try simp only [putQ]; refine stN fo40_11 o40_11_34 34359738367 ?_; try simp only [putQ]; refine stN fo40_11 o40_11_35 68719476735 ?_; try simp only [putQ]; refine stY fo40_11 o40_11_36 137438953471 ?_; try simp only [putQ]
                            refine wpAnyH_done (by kernel_rfl) ?_ _
                            go_wp2
                            go_ret
                            exact ⟨ret_bool (hno.out (.inl (by rw [hso3.out]; exact hnt.out (.inl (by simp [ofB, y6.out]))))).symm, btrans b0 hHeld.2.2.2.2.1⟩
                        · have y6 : Hid (inb z 0 7 = true) := z6
                          clear z6
                          by_cases e7 : sz = sm
                          · have y7 : Hid (sz = sm) := e7
                            clear e7
                            by_cases e8 : z ≤ zp
                            · skip
                              as_aux_lemma =>
                                refine wp_region_m (S := (fun w' => w'.cell? ⟨w.heap.size, 0, none⟩ = some (.int .i64 me) ∧ w'.cell? ⟨K2, 3, none⟩ = some (.slice (some ⟨bb, ob, none⟩) bl bc) ∧ w'.cell? ⟨bb, ob + (t2 + 1), none⟩ = some (.int .i64 z) ∧ w'.cell? ⟨bb, ob + t2, none⟩ = some (.int .i64 zp) ∧ Below u.heap.size u w' ∧ Below w2.drew.heap.size w2.drew w')) o40_11 37 fo40_11 ?_ (fun hHeld => ?_)
                                · (try dsimp only); exact ⟨keep_drew m0, keep_drew m3, keep_drew ct, keep_drew cp, hBf.drew, hbt2.drew⟩
                                refine stY fo40_11 o40_11_0 1 ?_; try simp only [putQ]; refine stY fo40_11 o40_11_1 3 ?_; try simp only [putQ]; refine stY fo40_11 o40_11_2 7 ?_; try simp only [putQ]; refine stY fo40_11 o40_11_3 15 ?_; try simp only [putQ]; refine stY fo40_11 o40_11_4 31 ?_; try simp only [putQ]
                                refine stC fo40_11 o40_11_5 63 (fun K hK => ?_)
                                go_simp
                                refine (lin_lit z 0 7 true y6.out _).mono ?_; rintro r w5 ⟨rfl, hw⟩; obtain rfl := hw.symm; clear hw
                                go_wp2_with fail
                                refine hK.out _ _ ?_ (fun hHeld => ?_)
                                · (try dsimp only); exact hHeld
                                clear hK K
                                (try simp only [putQ]); refine stY fo40_11 o40_11_6 127 ?_; try simp only [putQ]; refine stY fo40_11 o40_11_7 255 ?_; try simp only [putQ]; refine stY fo40_11 o40_11_8 511 ?_; try simp only [putQ]; refine stY fo40_11 o40_11_9 1023 ?_; try simp only [putQ]; refine stY fo40_11 o40_11_10 2047 ?_; try simp only [putQ]; refine stY fo40_11 o40_11_11 4095 ?_; try simp only [putQ]; refine stY fo40_11 o40_11_12 8191 ?_; try simp only [putQ]; refine stY fo40_11 o40_11_14 24575 ?_; try simp only [putQ]; refine stY fo40_11 o40_11_15 57343 ?_; try simp only [putQ]
                                refine stC fo40_11 o40_11_13 65535 (fun K hK => ?_)
                                go_simp
                                refine (lsite_any z _).mono ?_; rintro r w5 ⟨rfl, hw⟩; obtain rfl := hw.symm; clear hw; rw [hsz.out]
                                go_wp2_with fail
                                refine hK.out _ _ ?_ (fun hHeld => ?_)
                                · (try dsimp only); exact hHeld
                                clear hK K
                                (try simp only [putQ])
                                refine stC fo40_11 o40_11_16 131071 (fun K hK => ?_)
                                go_simp
                                refine (lsite_any me _).mono ?_; rintro r w5 ⟨rfl, hw⟩; obtain rfl := hw.symm; clear hw; rw [hsm.out]
                                go_wp2_with fail
                                refine hK.out _ _ ?_ (fun hHeld => ?_)
                                · (try dsimp only); exact hHeld
                                clear hK K
                                (try simp only [putQ])
                                refine stV (.bool false) fo40_11 o40_11_17 262143 ?_ ?_
                                · (intro w hSw; (try dsimp only at hSw); go_simp; all_goals (first | with_reducible rfl | (simp [y7.out]; done) | assumption | (simp; done) | (simp; omega)))
                                (try simp only [putQ]); refine stY fo40_11 o40_11_18 524287 ?_; try simp only [putQ]; refine stY fo40_11 o40_11_19 1048575 ?_; try simp only [putQ]; refine stY fo40_11 o40_11_20 2097151 ?_; try simp only [putQ]
                                refine stV (.bool true) fo40_11 o40_11_21 4194303 ?_ ?_
                                · (intro w hSw; (try dsimp only at hSw); go_simp; all_goals (first | with_reducible rfl |  assumption | (simp; done) | (simp; omega)))
                                (try simp only [putQ]); refine stY fo40_11 o40_11_22 8388607 ?_; try simp only [putQ]; refine stY fo40_11 o40_11_23 16777215 ?_; try simp only [putQ]; refine stY fo40_11 o40_11_24 33554431 ?_; try simp only [putQ]; refine stY fo40_11 o40_11_25 67108863 ?_; try simp only [putQ]; refine stY fo40_11 o40_11_26 134217727 ?_; try simp only [putQ]; refine stY fo40_11 o40_11_27 268435455 ?_; try simp only [putQ]; refine stY fo40_11 o40_11_28 536870911 ?_; try simp only [putQ]; refine stY fo40_11 o40_11_29 1073741823 ?_; try simp only [putQ]; refine stY fo40_11 o40_11_30 2147483647 ?_; try simp only [putQ]; refine stY fo40_11 o40_11_31 4294967295 ?_; try simp only [putQ]; refine stY fo40_11 o40_11_32 8589934591 ?_; try simp only [putQ]; refine stY fo40_11 o40_11_33 17179869183 ?_; try simp only [putQ]
                                refine stV (.bool true) fo40_11 o40_11_34 34359738367 ?_ ?_
                                · (intro w hSw; (try dsimp only at hSw); go_simp; all_goals (first | with_reducible rfl |  assumption | (simp; done) | (simp; omega)))
                                (try simp only [putQ]); refine stY fo40_11 o40_11_35 68719476735 ?_; try simp only [putQ]; refine stY fo40_11 o40_11_36 137438953471 ?_; try simp only [putQ]
                                refine wpAnyH_done (by kernel_rfl) ?_ _
                                go_wp2
                                go_ret
                                exact ⟨ret_bool (hno.out (.inl (by rw [hso3.out]; exact hnt.out (.inr ⟨by omega, by rw [Nat.add_sub_cancel, hzp.out]; omega⟩)))).symm, btrans b0 hHeld.2.2.2.2.1⟩
                            · skip
                              refine wp_region_m (S := (fun w' => w'.cell? ⟨w.heap.size, 0, none⟩ = some (.int .i64 me) ∧ w'.cell? ⟨K2, 3, none⟩ = some (.slice (some ⟨bb, ob, none⟩) bl bc) ∧ w'.cell? ⟨bb, ob + (t2 + 1), none⟩ = some (.int .i64 z) ∧ w'.cell? ⟨bb, ob + t2, none⟩ = some (.int .i64 zp) ∧ Below u.heap.size u w' ∧ Below w2.drew.heap.size w2.drew w')) o40_11 37 fo40_11 ?_ (fun hHeld => ?_)
                              · (try dsimp only); exact ⟨keep_drew m0, keep_drew m3, keep_drew ct, keep_drew cp, hBf.drew, hbt2.drew⟩
                              refine stY fo40_11 o40_11_0 1 ?_; try simp only [putQ]; refine stY fo40_11 o40_11_1 3 ?_; try simp only [putQ]; refine stY fo40_11 o40_11_2 7 ?_; try simp only [putQ]; refine stY fo40_11 o40_11_3 15 ?_; try simp only [putQ]; refine stY fo40_11 o40_11_4 31 ?_; try simp only [putQ]
                              refine stC fo40_11 o40_11_5 63 (fun K hK => ?_)
                              go_simp
                              refine (lin_lit z 0 7 true y6.out _).mono ?_; rintro r w5 ⟨rfl, hw⟩; obtain rfl := hw.symm; clear hw
                              go_wp2_with fail
                              refine hK.out _ _ ?_ (fun hHeld => ?_)
                              · (try dsimp only); exact hHeld
                              clear hK K
                              (try simp only [putQ]); refine stY fo40_11 o40_11_6 127 ?_; try simp only [putQ]; refine stY fo40_11 o40_11_7 255 ?_; try simp only [putQ]; refine stY fo40_11 o40_11_8 511 ?_; try simp only [putQ]; refine stY fo40_11 o40_11_9 1023 ?_; try simp only [putQ]; refine stY fo40_11 o40_11_10 2047 ?_; try simp only [putQ]; refine stY fo40_11 o40_11_11 4095 ?_; try simp only [putQ]; refine stY fo40_11 o40_11_12 8191 ?_; try simp only [putQ]; refine stY fo40_11 o40_11_14 24575 ?_; try simp only [putQ]; refine stY fo40_11 o40_11_15 57343 ?_; try simp only [putQ]
                              refine stC fo40_11 o40_11_13 65535 (fun K hK => ?_)
                              go_simp
                              refine (lsite_any z _).mono ?_; rintro r w5 ⟨rfl, hw⟩; obtain rfl := hw.symm; clear hw; rw [hsz.out]
                              go_wp2_with fail
                              refine hK.out _ _ ?_ (fun hHeld => ?_)
                              · (try dsimp only); exact hHeld
                              clear hK K
                              (try simp only [putQ])
                              refine stC fo40_11 o40_11_16 131071 (fun K hK => ?_)
                              go_simp
                              refine (lsite_any me _).mono ?_; rintro r w5 ⟨rfl, hw⟩; obtain rfl := hw.symm; clear hw; rw [hsm.out]
                              go_wp2_with fail
                              refine hK.out _ _ ?_ (fun hHeld => ?_)
                              · (try dsimp only); exact hHeld
                              clear hK K
                              (try simp only [putQ])
                              refine stV (.bool false) fo40_11 o40_11_17 262143 ?_ ?_
                              · (intro w hSw; (try dsimp only at hSw); go_simp; all_goals (first | with_reducible rfl | (simp [y7.out]; done) | assumption | (simp; done) | (simp; omega)))
                              (try simp only [putQ]); refine stY fo40_11 o40_11_18 524287 ?_; try simp only [putQ]; refine stY fo40_11 o40_11_19 1048575 ?_; try simp only [putQ]; refine stY fo40_11 o40_11_20 2097151 ?_; try simp only [putQ]
                              refine stV (.bool true) fo40_11 o40_11_21 4194303 ?_ ?_
                              · (intro w hSw; (try dsimp only at hSw); go_simp; all_goals (first | with_reducible rfl |  assumption | (simp; done) | (simp; omega)))
                              (try simp only [putQ]); refine stY fo40_11 o40_11_22 8388607 ?_; try simp only [putQ]; refine stY fo40_11 o40_11_23 16777215 ?_; try simp only [putQ]; refine stY fo40_11 o40_11_24 33554431 ?_; try simp only [putQ]; refine stY fo40_11 o40_11_25 67108863 ?_; try simp only [putQ]; refine stY fo40_11 o40_11_26 134217727 ?_; try simp only [putQ]; refine stY fo40_11 o40_11_27 268435455 ?_; try simp only [putQ]; refine stY fo40_11 o40_11_28 536870911 ?_; try simp only [putQ]; refine stY fo40_11 o40_11_29 1073741823 ?_; try simp only [putQ]; refine stY fo40_11 o40_11_30 2147483647 ?_; try simp only [putQ]; refine stY fo40_11 o40_11_31 4294967295 ?_; try simp only [putQ]; refine stY fo40_11 o40_11_32 8589934591 ?_; try simp only [putQ]; refine stY fo40_11 o40_11_33 17179869183 ?_; try simp only [putQ]
                              refine stV (.bool false) fo40_11 o40_11_34 34359738367 ?_ ?_
                              · (intro w hSw; (try dsimp only at hSw); go_simp; all_goals (first | with_reducible rfl |  assumption | (simp; done) | (simp; omega)))
                              (try simp only [putQ]); refine stY fo40_11 o40_11_35 68719476735 ?_; try simp only [putQ]; refine stY fo40_11 o40_11_36 137438953471 ?_; try simp only [putQ]
                              refine wpAnyH_done (by kernel_rfl) ?_ _
                              go_wp2
                              go_roundw
                              case rel => exact ⟨(t2 + 1) + 1, by omega, by go_num, hHeld.2.2.2.2.2, hyt.out (by simp [ofB, y6.out, hsz.out, hsm.out, y7.out]), hyt2.out (fun _ => by rw [Nat.add_sub_cancel, hzp.out]; omega)⟩
                              case measure => simp [intOf]; omega
                          · skip
                            as_aux_lemma =>
                              refine wp_region_m (S := (fun w' => w'.cell? ⟨w.heap.size, 0, none⟩ = some (.int .i64 me) ∧ w'.cell? ⟨K2, 3, none⟩ = some (.slice (some ⟨bb, ob, none⟩) bl bc) ∧ w'.cell? ⟨bb, ob + (t2 + 1), none⟩ = some (.int .i64 z) ∧ w'.cell? ⟨bb, ob + t2, none⟩ = some (.int .i64 zp) ∧ Below u.heap.size u w' ∧ Below w2.drew.heap.size w2.drew w')) o40_11 37 fo40_11 ?_ (fun hHeld => ?_)
                              · (try dsimp only); exact ⟨keep_drew m0, keep_drew m3, keep_drew ct, keep_drew cp, hBf.drew, hbt2.drew⟩
                              refine stY fo40_11 o40_11_0 1 ?_; try simp only [putQ]; refine stY fo40_11 o40_11_1 3 ?_; try simp only [putQ]; refine stY fo40_11 o40_11_2 7 ?_; try simp only [putQ]; refine stY fo40_11 o40_11_3 15 ?_; try simp only [putQ]; refine stY fo40_11 o40_11_4 31 ?_; try simp only [putQ]
                              refine stC fo40_11 o40_11_5 63 (fun K hK => ?_)
                              go_simp
                              refine (lin_lit z 0 7 true y6.out _).mono ?_; rintro r w5 ⟨rfl, hw⟩; obtain rfl := hw.symm; clear hw
                              go_wp2_with fail
                              refine hK.out _ _ ?_ (fun hHeld => ?_)
                              · (try dsimp only); exact hHeld
                              clear hK K
                              (try simp only [putQ]); refine stY fo40_11 o40_11_6 127 ?_; try simp only [putQ]; refine stY fo40_11 o40_11_7 255 ?_; try simp only [putQ]; refine stY fo40_11 o40_11_8 511 ?_; try simp only [putQ]; refine stY fo40_11 o40_11_9 1023 ?_; try simp only [putQ]; refine stY fo40_11 o40_11_10 2047 ?_; try simp only [putQ]; refine stY fo40_11 o40_11_11 4095 ?_; try simp only [putQ]; refine stY fo40_11 o40_11_12 8191 ?_; try simp only [putQ]; refine stY fo40_11 o40_11_14 24575 ?_; try simp only [putQ]; refine stY fo40_11 o40_11_15 57343 ?_; try simp only [putQ]
                              refine stC fo40_11 o40_11_13 65535 (fun K hK => ?_)
                              go_simp
                              refine (lsite_any z _).mono ?_; rintro r w5 ⟨rfl, hw⟩; obtain rfl := hw.symm; clear hw; rw [hsz.out]
                              go_wp2_with fail
                              refine hK.out _ _ ?_ (fun hHeld => ?_)
                              · (try dsimp only); exact hHeld
                              clear hK K
                              (try simp only [putQ])
                              refine stC fo40_11 o40_11_16 131071 (fun K hK => ?_)
                              go_simp
                              refine (lsite_any me _).mono ?_; rintro r w5 ⟨rfl, hw⟩; obtain rfl := hw.symm; clear hw; rw [hsm.out]
                              go_wp2_with fail
                              refine hK.out _ _ ?_ (fun hHeld => ?_)
                              · (try dsimp only); exact hHeld
                              clear hK K
                              (try simp only [putQ])
                              refine stV (.bool true) fo40_11 o40_11_17 262143 ?_ ?_
                              · (intro w hSw; (try dsimp only at hSw); go_simp; all_goals (first | with_reducible rfl |  assumption | (simp; done) | (simp; omega)))
                              (try simp only [putQ]); refine stY fo40_11 o40_11_18 524287 ?_; try simp only [putQ]; refine stY fo40_11 o40_11_19 1048575 ?_; try simp only [putQ]; refine stN fo40_11 o40_11_20 2097151 ?_; try simp only [putQ]; refine stN fo40_11 o40_11_21 4194303 ?_; try simp only [putQ]; refine stN fo40_11 o40_11_22 8388607 ?_; try simp only [putQ]; refine stN fo40_11 o40_11_23 16777215 ?_; try simp only [putQ]; refine stN fo40_11 o40_11_24 33554431 ?_; try simp only [putQ]; refine stN fo40_11 o40_11_25 67108863 ?_; try simp only [putQ]; refine stN fo40_11 o40_11_26 134217727 ?_; try simp only [putQ]; refine stN fo40_11 o40_11_27 268435455 ?_; try simp only [putQ]; refine stN fo40_11 o40_11_28 536870911 ?_; try simp only [putQ]; refine stN fo40_11 o40_11_29 1073741823 ?_; try simp only [putQ]; refine stN fo40_11 o40_11_30 2147483647 ?_; try simp only [putQ]; refine stN fo40_11 o40_11_31 4294967295 ?_; try simp only [putQ]; refine stN fo40_11 o40_11_32 8589934591 ?_; try simp only [putQ]; refine stN fo40_11 o40_11_33 17179869183 ?_; try simp only [putQ]; refine stN fo40_11 o40_11_34 34359738367 ?_; try simp only [putQ]; refine stN fo40_11 o40_11_35 68719476735 ?_; try simp only [putQ]; refine stY fo40_11 o40_11_36 137438953471 ?_; try simp only [putQ]
                              refine wpAnyH_done (by kernel_rfl) ?_ _
                              go_wp2
                              go_ret
                              exact ⟨ret_bool (hno.out (.inl (by rw [hso3.out]; exact hnt.out (.inl (by simp [ofB, hsz.out, hsm.out, e7]))))).symm, btrans b0 hHeld.2.2.2.2.1⟩
                    · have hy : Hid ((risB bl bf && obA me bl bf) = true) := by
                        rw [Hid]; unfold risB obA; rw [decide_eq_true fun j hj h0 => hasct j (by omega) h0, decide_eq_true fun j hj => hallt j (by omega)]; rfl
                      clear hallt hasct
                      go_wp2
                      go_roundw
                      case rel => exact ⟨0 + 1, by omega, by go_num, hBf, hyes.out (by rw [hso3.out]; exact hy.out), hyes2.out (fun h => by omega)⟩
                      case measure => simp [intOf]; omega
            · skip
              as_aux_lemma =>
                refine wp_region_m (S := (fun w' => w'.cell? ⟨w.heap.size, 0, none⟩ = some (.int .i64 me) ∧ w'.cell? ⟨w.heap.size, 5, none⟩ = some (.int .i64 now) ∧ w'.cell? ⟨w.heap.size, 8, none⟩ = some (.slice (some ⟨bt, ot, none⟩) tl tc) ∧ w'.cell? ⟨w.heap.size, 14, none⟩ = some (.slice (some ⟨b, off, none⟩) dl dc) ∧ w'.cell? ⟨K2, 0, none⟩ = some (.int .i64 n) ∧ w'.cell? ⟨K2, 1, none⟩ = some (.int .i64 i) ∧ w'.cell? ⟨K2, 2, none⟩ = some (.int .i64 s) ∧ w'.cell? ⟨K2, 3, none⟩ = some (.slice ba bl bc) ∧ ISl w' ba bl bf ∧ w'.cell? ⟨bt, ot + k2 * 4 + 1, none⟩ = some (.int .i64 fi) ∧ w'.cell? ⟨bt, ot + k2 * 4 + 2, none⟩ = some (.int .i64 fs) ∧ Below u.heap.size u w')) o40_6 52 fo40_6 ?_ (fun hHeld => ?_)
                · (try dsimp only); exact ⟨keep_drew g0, keep_drew g5, keep_drew g8, keep_drew g14, keep_drew r10, keep_drew r11, keep_drew r12, keep_drew r13, q3.below (Below.refl _ _).drew, keep_drew t1, keep_drew t2, b3.drew⟩
                refine stY fo40_6 o40_6_0 1 ?_; try simp only [putQ]
                refine stV (.bool false) fo40_6 o40_6_1 3 ?_ ?_
                · (intro w hSw; (try dsimp only at hSw); go_simp; all_goals (first | with_reducible rfl |  assumption | (simp; done) | (simp; omega)))
                (try simp only [putQ]); refine stY fo40_6 o40_6_2 7 ?_; try simp only [putQ]; refine stN fo40_6 o40_6_3 15 ?_; try simp only [putQ]; refine stN fo40_6 o40_6_4 31 ?_; try simp only [putQ]; refine stN fo40_6 o40_6_5 63 ?_; try simp only [putQ]; refine stN fo40_6 o40_6_6 127 ?_; try simp only [putQ]; refine stN fo40_6 o40_6_7 255 ?_; try simp only [putQ]; refine stN fo40_6 o40_6_8 511 ?_; try simp only [putQ]; refine stN fo40_6 o40_6_9 1023 ?_; try simp only [putQ]; refine stN fo40_6 o40_6_10 2047 ?_; try simp only [putQ]; refine stN fo40_6 o40_6_11 4095 ?_; try simp only [putQ]; refine stN fo40_6 o40_6_12 8191 ?_; try simp only [putQ]; refine stY fo40_6 o40_6_13 16383 ?_; try simp only [putQ]; refine stY fo40_6 o40_6_14 32767 ?_; try simp only [putQ]; refine stY fo40_6 o40_6_15 65535 ?_; try simp only [putQ]
                refine stV (.bool false) fo40_6 o40_6_16 131071 ?_ ?_
                · (intro w hSw; (try dsimp only at hSw); go_simp; all_goals (first | with_reducible rfl |  assumption | (simp; done) | (simp; omega)))
                (try simp only [putQ]); refine stY fo40_6 o40_6_17 262143 ?_; try simp only [putQ]; refine stY fo40_6 o40_6_18 524287 ?_; try simp only [putQ]; refine stY fo40_6 o40_6_19 1048575 ?_; try simp only [putQ]; refine stY fo40_6 o40_6_20 2097151 ?_; try simp only [putQ]; refine stY fo40_6 o40_6_21 4194303 ?_; try simp only [putQ]; refine stY fo40_6 o40_6_22 8388607 ?_; try simp only [putQ]; refine stY fo40_6 o40_6_23 16777215 ?_; try simp only [putQ]; refine stY fo40_6 o40_6_24 33554431 ?_; try simp only [putQ]
                refine stV (.bool false) fo40_6 o40_6_25 67108863 ?_ ?_
                · (intro w hSw; (try dsimp only at hSw); go_simp; all_goals (first | with_reducible rfl | (simp [y2.out]; done) | assumption | (simp; done) | (simp; omega)))
                (try simp only [putQ]); refine stY fo40_6 o40_6_26 134217727 ?_; try simp only [putQ]; refine stY fo40_6 o40_6_27 268435455 ?_; try simp only [putQ]; refine stY fo40_6 o40_6_28 536870911 ?_; try simp only [putQ]; refine stY fo40_6 o40_6_29 1073741823 ?_; try simp only [putQ]; refine stY fo40_6 o40_6_30 2147483647 ?_; try simp only [putQ]; refine stY fo40_6 o40_6_31 4294967295 ?_; try simp only [putQ]; refine stY fo40_6 o40_6_32 8589934591 ?_; try simp only [putQ]; refine stY fo40_6 o40_6_33 17179869183 ?_; try simp only [putQ]; refine stY fo40_6 o40_6_34 34359738367 ?_; try simp only [putQ]; refine stY fo40_6 o40_6_35 68719476735 ?_; try simp only [putQ]
                refine stV (.bool true) fo40_6 o40_6_36 137438953471 ?_ ?_
                · (intro w hSw; (try dsimp only at hSw); go_simp; all_goals (first | with_reducible rfl |  assumption | (simp; done) | (simp; omega)))
                (try simp only [putQ]); refine stY fo40_6 o40_6_37 274877906943 ?_; try simp only [putQ]; refine stY fo40_6 o40_6_38 549755813887 ?_; try simp only [putQ]; refine stN fo40_6 o40_6_39 1099511627775 ?_; try simp only [putQ]; refine stN fo40_6 o40_6_40 2199023255551 ?_; try simp only [putQ]; refine stN fo40_6 o40_6_41 4398046511103 ?_; try simp only [putQ]; refine stN fo40_6 o40_6_42 8796093022207 ?_; try simp only [putQ]; refine stN fo40_6 o40_6_43 17592186044415 ?_; try simp only [putQ]; refine stN fo40_6 o40_6_44 35184372088831 ?_; try simp only [putQ]; refine stY fo40_6 o40_6_45 70368744177663 ?_; try simp only [putQ]; refine stY fo40_6 o40_6_46 140737488355327 ?_; try simp only [putQ]; refine stN fo40_6 o40_6_47 281474976710655 ?_; try simp only [putQ]; refine stN fo40_6 o40_6_48 562949953421311 ?_; try simp only [putQ]; refine stN fo40_6 o40_6_49 1125899906842623 ?_; try simp only [putQ]; refine stN fo40_6 o40_6_50 2251799813685247 ?_; try simp only [putQ]; refine stY fo40_6 o40_6_51 4503599627370495 ?_; try simp only [putQ]
                refine wpAnyH_done (by kernel_rfl) ?_ _
                go_wp2
                go_ret
                exact ⟨ret_bool (hno.out (.inl (by rw [hso2.out]; simp [e5]))).symm, btrans b0 hHeld.2.2.2.2.2.2.2.2.2.2.2⟩
          · skip
            as_aux_lemma =>
              refine wp_region_m (S := (fun w' => w'.cell? ⟨w.heap.size, 0, none⟩ = some (.int .i64 me) ∧ w'.cell? ⟨w.heap.size, 5, none⟩ = some (.int .i64 now) ∧ w'.cell? ⟨w.heap.size, 8, none⟩ = some (.slice (some ⟨bt, ot, none⟩) tl tc) ∧ w'.cell? ⟨w.heap.size, 14, none⟩ = some (.slice (some ⟨b, off, none⟩) dl dc) ∧ w'.cell? ⟨K2, 0, none⟩ = some (.int .i64 n) ∧ w'.cell? ⟨K2, 1, none⟩ = some (.int .i64 i) ∧ w'.cell? ⟨K2, 2, none⟩ = some (.int .i64 s) ∧ w'.cell? ⟨K2, 3, none⟩ = some (.slice ba bl bc) ∧ ISl w' ba bl bf ∧ w'.cell? ⟨bt, ot + k2 * 4 + 1, none⟩ = some (.int .i64 fi) ∧ w'.cell? ⟨bt, ot + k2 * 4 + 2, none⟩ = some (.int .i64 fs) ∧ Below u.heap.size u w')) o40_6 52 fo40_6 ?_ (fun hHeld => ?_)
              · (try dsimp only); exact ⟨keep_drew g0, keep_drew g5, keep_drew g8, keep_drew g14, keep_drew r10, keep_drew r11, keep_drew r12, keep_drew r13, q3.below (Below.refl _ _).drew, keep_drew t1, keep_drew t2, b3.drew⟩
              refine stY fo40_6 o40_6_0 1 ?_; try simp only [putQ]
              refine stV (.bool false) fo40_6 o40_6_1 3 ?_ ?_
              · (intro w hSw; (try dsimp only at hSw); go_simp; all_goals (first | with_reducible rfl |  assumption | (simp; done) | (simp; omega)))
              (try simp only [putQ]); refine stY fo40_6 o40_6_2 7 ?_; try simp only [putQ]; refine stN fo40_6 o40_6_3 15 ?_; try simp only [putQ]; refine stN fo40_6 o40_6_4 31 ?_; try simp only [putQ]; refine stN fo40_6 o40_6_5 63 ?_; try simp only [putQ]; refine stN fo40_6 o40_6_6 127 ?_; try simp only [putQ]; refine stN fo40_6 o40_6_7 255 ?_; try simp only [putQ]; refine stN fo40_6 o40_6_8 511 ?_; try simp only [putQ]; refine stN fo40_6 o40_6_9 1023 ?_; try simp only [putQ]; refine stN fo40_6 o40_6_10 2047 ?_; try simp only [putQ]; refine stN fo40_6 o40_6_11 4095 ?_; try simp only [putQ]; refine stN fo40_6 o40_6_12 8191 ?_; try simp only [putQ]; refine stY fo40_6 o40_6_13 16383 ?_; try simp only [putQ]; refine stY fo40_6 o40_6_14 32767 ?_; try simp only [putQ]; refine stY fo40_6 o40_6_15 65535 ?_; try simp only [putQ]
              refine stV (.bool false) fo40_6 o40_6_16 131071 ?_ ?_
              · (intro w hSw; (try dsimp only at hSw); go_simp; all_goals (first | with_reducible rfl |  assumption | (simp; done) | (simp; omega)))
              (try simp only [putQ]); refine stY fo40_6 o40_6_17 262143 ?_; try simp only [putQ]; refine stY fo40_6 o40_6_18 524287 ?_; try simp only [putQ]; refine stY fo40_6 o40_6_19 1048575 ?_; try simp only [putQ]; refine stY fo40_6 o40_6_20 2097151 ?_; try simp only [putQ]; refine stY fo40_6 o40_6_21 4194303 ?_; try simp only [putQ]; refine stY fo40_6 o40_6_22 8388607 ?_; try simp only [putQ]; refine stY fo40_6 o40_6_23 16777215 ?_; try simp only [putQ]; refine stY fo40_6 o40_6_24 33554431 ?_; try simp only [putQ]
              refine stV (.bool true) fo40_6 o40_6_25 67108863 ?_ ?_
              · (intro w hSw; (try dsimp only at hSw); go_simp; all_goals (first | with_reducible rfl |  assumption | (simp; done) | (simp; omega)))
              (try simp only [putQ]); refine stY fo40_6 o40_6_26 134217727 ?_; try simp only [putQ]; refine stY fo40_6 o40_6_27 268435455 ?_; try simp only [putQ]; refine stN fo40_6 o40_6_28 536870911 ?_; try simp only [putQ]; refine stN fo40_6 o40_6_29 1073741823 ?_; try simp only [putQ]; refine stN fo40_6 o40_6_30 2147483647 ?_; try simp only [putQ]; refine stN fo40_6 o40_6_31 4294967295 ?_; try simp only [putQ]; refine stN fo40_6 o40_6_32 8589934591 ?_; try simp only [putQ]; refine stN fo40_6 o40_6_33 17179869183 ?_; try simp only [putQ]; refine stN fo40_6 o40_6_34 34359738367 ?_; try simp only [putQ]; refine stN fo40_6 o40_6_35 68719476735 ?_; try simp only [putQ]; refine stN fo40_6 o40_6_36 137438953471 ?_; try simp only [putQ]; refine stY fo40_6 o40_6_37 274877906943 ?_; try simp only [putQ]; refine stY fo40_6 o40_6_38 549755813887 ?_; try simp only [putQ]; refine stN fo40_6 o40_6_39 1099511627775 ?_; try simp only [putQ]; refine stN fo40_6 o40_6_40 2199023255551 ?_; try simp only [putQ]; refine stN fo40_6 o40_6_41 4398046511103 ?_; try simp only [putQ]; refine stN fo40_6 o40_6_42 8796093022207 ?_; try simp only [putQ]; refine stN fo40_6 o40_6_43 17592186044415 ?_; try simp only [putQ]; refine stN fo40_6 o40_6_44 35184372088831 ?_; try simp only [putQ]; refine stY fo40_6 o40_6_45 70368744177663 ?_; try simp only [putQ]; refine stY fo40_6 o40_6_46 140737488355327 ?_; try simp only [putQ]; refine stN fo40_6 o40_6_47 281474976710655 ?_; try simp only [putQ]; refine stN fo40_6 o40_6_48 562949953421311 ?_; try simp only [putQ]; refine stN fo40_6 o40_6_49 1125899906842623 ?_; try simp only [putQ]; refine stN fo40_6 o40_6_50 2251799813685247 ?_; try simp only [putQ]; refine stY fo40_6 o40_6_51 4503599627370495 ?_; try simp only [putQ]
              refine wpAnyH_done (by kernel_rfl) ?_ _
              go_wp2
              go_ret
              exact ⟨ret_bool (hno.out (.inl (by rw [hso2.out]; simp [e4]))).symm, btrans b0 hHeld.2.2.2.2.2.2.2.2.2.2.2⟩
      · obtain ⟨m, rfl⟩ : ∃ m, k = m + 1 := ⟨k - 1, by omega⟩
        have hso : Hid (dbtB me now tl F (G (m + 1)).n (G (m + 1)).i (G (m + 1)).s (G (m + 1)).bl (G (m + 1)).bf = (decide ((fo F (fnd tl F (G (m + 1)).n)).s = 2) && decide ((fo F (fnd tl F (G (m + 1)).n)).i = (G (m + 1)).i) && inb (G (m + 1)).s 0 now && decide (0 < (G (m + 1)).bl) && risB (G (m + 1)).bl (G (m + 1)).bf && obA me (G (m + 1)).bl (G (m + 1)).bf)) := rfl
        have hno : Hid (dbtB me now tl F (G (m + 1)).n (G (m + 1)).i (G (m + 1)).s (G (m + 1)).bl (G (m + 1)).bf = false ∨ (0 < (m + 1) ∧ ¬ (G ((m + 1) - 1)).n < (G (m + 1)).n) → sdbsB me now tl F dl G = false) := dbs_no hlt
        have hyes : Hid (dbtB me now tl F (G (m + 1)).n (G (m + 1)).i (G (m + 1)).s (G (m + 1)).bl (G (m + 1)).bf = true → ∀ j, j < (m + 1) + 1 → dbtB me now tl F (G j).n (G j).i (G j).s (G j).bl (G j).bf = true) := fun e j hj => by
          by_cases ej : j = (m + 1)
          · subst ej; exact e
          · exact hall j (by omega)
        have hyes2 : Hid ((0 < (m + 1) → (G ((m + 1) - 1)).n < (G (m + 1)).n) → ∀ j, j < (m + 1) + 1 → 0 < j → (G (j - 1)).n < (G j).n) := fun e j hj h0 => by
          by_cases ej : j = (m + 1)
          · subst ej; exact e h0
          · exact hasc j (by omega) h0
        clear hall hasc
        generalize G (m + 1) = gx at *
        obtain ⟨n, i, s, ba, bl, bc, bf⟩ := gx
        dsimp only at c0 c1 c2 c3 hS hbl' hso hno hyes hyes2
        have b2 := balloc (.cells #[.int .i64 n, .int .i64 i, .int .i64 s, .slice ba bl bc] 105) hb
        have Y := Ws.box (w := wr) #[.int .i64 n, .int .i64 i, .int .i64 s, .slice ba bl bc] 105
        have l0 := keep_alloc (.cells #[.int .i64 n, .int .i64 i, .int .i64 s, .slice ba bl bc] 105) f0
        have l5 := keep_alloc (.cells #[.int .i64 n, .int .i64 i, .int .i64 s, .slice ba bl bc] 105) f5
        have l8 := keep_alloc (.cells #[.int .i64 n, .int .i64 i, .int .i64 s, .slice ba bl bc] 105) f8
        have l14 := keep_alloc (.cells #[.int .i64 n, .int .i64 i, .int .i64 s, .slice ba bl bc] 105) f14
        have l3 := hS.below (balloc (.cells #[.int .i64 n, .int .i64 i, .int .i64 s, .slice ba bl bc] 105) (Below.refl wr.heap.size wr))
        have lF := hF.below (balloc (.cells #[.int .i64 n, .int .i64 i, .int .i64 s, .slice ba bl bc] 105) (Below.refl wr.heap.size wr))
        obtain ⟨o0, _⟩ := (hf.below b2 hbl) m (by omega)
        obtain ⟨n0, hn0⟩ : ∃ n0, Hid ((G m).n = n0) := ⟨_, rfl⟩
        rw [hn0.out] at o0
        have i2 : (0 : Int) ≤ (m : Int) := by omega
        have i3 : (m : Int) + 1 < (dl : Int) := by omega
        have i4 : (m : Int) < (dl : Int) := by omega
        have i5 : (0 : Int) ≤ (m : Int) + 1 := by omega
        have i6 : (0 : Int) < (m : Int) + 1 := by omega
        have i7 : IntKind.i64.wrap (m : Int) = (m : Int) := by rw [IntKind.wrap_i64]; omega
        have i8 : IntKind.i64.wrap ((m : Int) + 1 - 1) = (m : Int) := by rw [IntKind.wrap_i64]; omega
        have i9 : ((m + 1 : Nat) : Int) = (m : Int) + 1 := by omega
        clear i0 i1
        rw [i9]
        go_upto_region 5 with fail
        generalize wr.alloc (.cells #[.int .i64 n, .int .i64 i, .int .i64 s, .slice ba bl bc] 105) = v at *
        generalize wr.heap.size = K2 at *
        have q10 := Y.c 0 (.int .i64 n) rfl
        go_wp2_with fail
        cases ef : fnd tl F n with
        | none =>
          have y0 : Hid (fnd tl F n = none) := ef
          clear ef
          refine (sfind_none ta tl tc F n y0.out _ lF hl).mono ?_
          rintro r w2 ⟨rfl, k3⟩
          have g0 := keep_below k3 l0
          have g5 := keep_below k3 l5
          have g8 := keep_below k3 l8
          have g14 := keep_below k3 l14
          have q3 := l3.below k3
          have qF := lF.below k3
          have b3 := btrans b2 k3
          have r10 := (Y.below k3).c 0 (.int .i64 n) rfl
          have r11 := (Y.below k3).c 1 (.int .i64 i) rfl
          have r12 := (Y.below k3).c 2 (.int .i64 s) rfl
          have r13 := (Y.below k3).c 3 (.slice ba bl bc) rfl
          have p0 := keep_below k3 o0
          clear o0
          clear Y c0 c1 c2 c3 f0 f5 f8 f14 hS l0 l5 l8 l14 l3 lF k3 q10 hF
          go_upto_region 6 with fail
          by_cases e3 : n ≤ n0
          · skip
            as_aux_lemma =>
              refine wp_region_m (S := (fun w' => w'.cell? ⟨w.heap.size, 0, none⟩ = some (.int .i64 me) ∧ w'.cell? ⟨w.heap.size, 5, none⟩ = some (.int .i64 now) ∧ w'.cell? ⟨w.heap.size, 8, none⟩ = some (.slice ta tl tc) ∧ w'.cell? ⟨w.heap.size, 14, none⟩ = some (.slice (some ⟨b, off, none⟩) dl dc) ∧ w'.cell? ⟨K2, 0, none⟩ = some (.int .i64 n) ∧ w'.cell? ⟨K2, 1, none⟩ = some (.int .i64 i) ∧ w'.cell? ⟨K2, 2, none⟩ = some (.int .i64 s) ∧ w'.cell? ⟨K2, 3, none⟩ = some (.slice ba bl bc) ∧ ISl w' ba bl bf ∧ w'.cell? ⟨b, off + m * 4, none⟩ = some (.int .i64 n0) ∧ Below u.heap.size u w')) o40_6 52 fo40_6 ?_ (fun hHeld => ?_)
              · (try dsimp only); exact ⟨keep_drew g0, keep_drew g5, keep_drew g8, keep_drew g14, keep_drew r10, keep_drew r11, keep_drew r12, keep_drew r13, q3.below (Below.refl _ _).drew, keep_drew p0, b3.drew⟩
              refine stY fo40_6 o40_6_0 1 ?_; try simp only [putQ]
              refine stV (.bool true) fo40_6 o40_6_1 3 ?_ ?_
              · (intro w hSw; (try dsimp only at hSw); go_simp; all_goals (first | with_reducible rfl |  assumption | (simp; done) | (simp; omega)))
              (try simp only [putQ]); refine stY fo40_6 o40_6_2 7 ?_; try simp only [putQ]; refine stY fo40_6 o40_6_3 15 ?_; try simp only [putQ]; refine stY fo40_6 o40_6_4 31 ?_; try simp only [putQ]; refine stY fo40_6 o40_6_5 63 ?_; try simp only [putQ]; refine stY fo40_6 o40_6_6 127 ?_; try simp only [putQ]; refine stY fo40_6 o40_6_7 255 ?_; try simp only [putQ]; refine stY fo40_6 o40_6_8 511 ?_; try simp only [putQ]; refine stY fo40_6 o40_6_9 1023 ?_; try simp only [putQ]; refine stY fo40_6 o40_6_10 2047 ?_; try simp only [putQ]; refine stY fo40_6 o40_6_11 4095 ?_; try simp only [putQ]
              refine stV (.bool true) fo40_6 o40_6_12 8191 ?_ ?_
              · (intro w hSw; (try dsimp only at hSw); go_simp; all_goals (first | with_reducible rfl |  assumption | (simp; done) | (simp; omega)))
              (try simp only [putQ]); refine stY fo40_6 o40_6_13 16383 ?_; try simp only [putQ]; refine stY fo40_6 o40_6_14 32767 ?_; try simp only [putQ]; refine stN fo40_6 o40_6_15 65535 ?_; try simp only [putQ]; refine stN fo40_6 o40_6_16 131071 ?_; try simp only [putQ]; refine stY fo40_6 o40_6_17 262143 ?_; try simp only [putQ]; refine stY fo40_6 o40_6_18 524287 ?_; try simp only [putQ]; refine stN fo40_6 o40_6_19 1048575 ?_; try simp only [putQ]; refine stN fo40_6 o40_6_20 2097151 ?_; try simp only [putQ]; refine stN fo40_6 o40_6_21 4194303 ?_; try simp only [putQ]; refine stN fo40_6 o40_6_22 8388607 ?_; try simp only [putQ]; refine stN fo40_6 o40_6_23 16777215 ?_; try simp only [putQ]; refine stN fo40_6 o40_6_24 33554431 ?_; try simp only [putQ]; refine stN fo40_6 o40_6_25 67108863 ?_; try simp only [putQ]; refine stY fo40_6 o40_6_26 134217727 ?_; try simp only [putQ]; refine stY fo40_6 o40_6_27 268435455 ?_; try simp only [putQ]; refine stN fo40_6 o40_6_28 536870911 ?_; try simp only [putQ]; refine stN fo40_6 o40_6_29 1073741823 ?_; try simp only [putQ]; refine stN fo40_6 o40_6_30 2147483647 ?_; try simp only [putQ]; refine stN fo40_6 o40_6_31 4294967295 ?_; try simp only [putQ]; refine stN fo40_6 o40_6_32 8589934591 ?_; try simp only [putQ]; refine stN fo40_6 o40_6_33 17179869183 ?_; try simp only [putQ]; refine stN fo40_6 o40_6_34 34359738367 ?_; try simp only [putQ]; refine stN fo40_6 o40_6_35 68719476735 ?_; try simp only [putQ]; refine stN fo40_6 o40_6_36 137438953471 ?_; try simp only [putQ]; refine stY fo40_6 o40_6_37 274877906943 ?_; try simp only [putQ]; refine stY fo40_6 o40_6_38 549755813887 ?_; try simp only [putQ]; refine stN fo40_6 o40_6_39 1099511627775 ?_; try simp only [putQ]; refine stN fo40_6 o40_6_40 2199023255551 ?_; try simp only [putQ]; refine stN fo40_6 o40_6_41 4398046511103 ?_; try simp only [putQ]; refine stN fo40_6 o40_6_42 8796093022207 ?_; try simp only [putQ]; refine stN fo40_6 o40_6_43 17592186044415 ?_; try simp only [putQ]; refine stN fo40_6 o40_6_44 35184372088831 ?_; try simp only [putQ]; refine stY fo40_6 o40_6_45 70368744177663 ?_; try simp only [putQ]; refine stY fo40_6 o40_6_46 140737488355327 ?_; try simp only [putQ]; refine stN fo40_6 o40_6_47 281474976710655 ?_; try simp only [putQ]; refine stN fo40_6 o40_6_48 562949953421311 ?_; try simp only [putQ]; refine stN fo40_6 o40_6_49 1125899906842623 ?_; try simp only [putQ]; refine stN fo40_6 o40_6_50 2251799813685247 ?_; try simp only [putQ]; refine stY fo40_6 o40_6_51 4503599627370495 ?_; try simp only [putQ]
              refine wpAnyH_done (by kernel_rfl) ?_ _
              go_wp2
              go_ret
              exact ⟨ret_bool (hno.out (.inr ⟨by omega, by rw [Nat.add_sub_cancel, hn0.out]; omega⟩)).symm, btrans b0 hHeld.2.2.2.2.2.2.2.2.2.2⟩
          · skip
            as_aux_lemma =>
              refine wp_region_m (S := (fun w' => w'.cell? ⟨w.heap.size, 0, none⟩ = some (.int .i64 me) ∧ w'.cell? ⟨w.heap.size, 5, none⟩ = some (.int .i64 now) ∧ w'.cell? ⟨w.heap.size, 8, none⟩ = some (.slice ta tl tc) ∧ w'.cell? ⟨w.heap.size, 14, none⟩ = some (.slice (some ⟨b, off, none⟩) dl dc) ∧ w'.cell? ⟨K2, 0, none⟩ = some (.int .i64 n) ∧ w'.cell? ⟨K2, 1, none⟩ = some (.int .i64 i) ∧ w'.cell? ⟨K2, 2, none⟩ = some (.int .i64 s) ∧ w'.cell? ⟨K2, 3, none⟩ = some (.slice ba bl bc) ∧ ISl w' ba bl bf ∧ w'.cell? ⟨b, off + m * 4, none⟩ = some (.int .i64 n0) ∧ Below u.heap.size u w')) o40_6 52 fo40_6 ?_ (fun hHeld => ?_)
              · (try dsimp only); exact ⟨keep_drew g0, keep_drew g5, keep_drew g8, keep_drew g14, keep_drew r10, keep_drew r11, keep_drew r12, keep_drew r13, q3.below (Below.refl _ _).drew, keep_drew p0, b3.drew⟩
              refine stY fo40_6 o40_6_0 1 ?_; try simp only [putQ]
              refine stV (.bool true) fo40_6 o40_6_1 3 ?_ ?_
              · (intro w hSw; (try dsimp only at hSw); go_simp; all_goals (first | with_reducible rfl |  assumption | (simp; done) | (simp; omega)))
              (try simp only [putQ]); refine stY fo40_6 o40_6_2 7 ?_; try simp only [putQ]; refine stY fo40_6 o40_6_3 15 ?_; try simp only [putQ]; refine stY fo40_6 o40_6_4 31 ?_; try simp only [putQ]; refine stY fo40_6 o40_6_5 63 ?_; try simp only [putQ]; refine stY fo40_6 o40_6_6 127 ?_; try simp only [putQ]; refine stY fo40_6 o40_6_7 255 ?_; try simp only [putQ]; refine stY fo40_6 o40_6_8 511 ?_; try simp only [putQ]; refine stY fo40_6 o40_6_9 1023 ?_; try simp only [putQ]; refine stY fo40_6 o40_6_10 2047 ?_; try simp only [putQ]; refine stY fo40_6 o40_6_11 4095 ?_; try simp only [putQ]
              refine stV (.bool false) fo40_6 o40_6_12 8191 ?_ ?_
              · (intro w hSw; (try dsimp only at hSw); go_simp; all_goals (first | with_reducible rfl |  assumption | (simp; done) | (simp; omega)))
              (try simp only [putQ]); refine stY fo40_6 o40_6_13 16383 ?_; try simp only [putQ]; refine stY fo40_6 o40_6_14 32767 ?_; try simp only [putQ]; refine stY fo40_6 o40_6_15 65535 ?_; try simp only [putQ]
              refine stV (.bool true) fo40_6 o40_6_16 131071 ?_ ?_
              · (intro w hSw; (try dsimp only at hSw); go_simp; all_goals (first | with_reducible rfl |  assumption | (simp; done) | (simp; omega)))
              (try simp only [putQ]); refine stY fo40_6 o40_6_17 262143 ?_; try simp only [putQ]; refine stY fo40_6 o40_6_18 524287 ?_; try simp only [putQ]; refine stN fo40_6 o40_6_19 1048575 ?_; try simp only [putQ]; refine stN fo40_6 o40_6_20 2097151 ?_; try simp only [putQ]; refine stN fo40_6 o40_6_21 4194303 ?_; try simp only [putQ]; refine stN fo40_6 o40_6_22 8388607 ?_; try simp only [putQ]; refine stN fo40_6 o40_6_23 16777215 ?_; try simp only [putQ]; refine stN fo40_6 o40_6_24 33554431 ?_; try simp only [putQ]; refine stN fo40_6 o40_6_25 67108863 ?_; try simp only [putQ]; refine stY fo40_6 o40_6_26 134217727 ?_; try simp only [putQ]; refine stY fo40_6 o40_6_27 268435455 ?_; try simp only [putQ]; refine stN fo40_6 o40_6_28 536870911 ?_; try simp only [putQ]; refine stN fo40_6 o40_6_29 1073741823 ?_; try simp only [putQ]; refine stN fo40_6 o40_6_30 2147483647 ?_; try simp only [putQ]; refine stN fo40_6 o40_6_31 4294967295 ?_; try simp only [putQ]; refine stN fo40_6 o40_6_32 8589934591 ?_; try simp only [putQ]; refine stN fo40_6 o40_6_33 17179869183 ?_; try simp only [putQ]; refine stN fo40_6 o40_6_34 34359738367 ?_; try simp only [putQ]; refine stN fo40_6 o40_6_35 68719476735 ?_; try simp only [putQ]; refine stN fo40_6 o40_6_36 137438953471 ?_; try simp only [putQ]; refine stY fo40_6 o40_6_37 274877906943 ?_; try simp only [putQ]; refine stY fo40_6 o40_6_38 549755813887 ?_; try simp only [putQ]; refine stN fo40_6 o40_6_39 1099511627775 ?_; try simp only [putQ]; refine stN fo40_6 o40_6_40 2199023255551 ?_; try simp only [putQ]; refine stN fo40_6 o40_6_41 4398046511103 ?_; try simp only [putQ]; refine stN fo40_6 o40_6_42 8796093022207 ?_; try simp only [putQ]; refine stN fo40_6 o40_6_43 17592186044415 ?_; try simp only [putQ]; refine stN fo40_6 o40_6_44 35184372088831 ?_; try simp only [putQ]; refine stY fo40_6 o40_6_45 70368744177663 ?_; try simp only [putQ]; refine stY fo40_6 o40_6_46 140737488355327 ?_; try simp only [putQ]; refine stN fo40_6 o40_6_47 281474976710655 ?_; try simp only [putQ]; refine stN fo40_6 o40_6_48 562949953421311 ?_; try simp only [putQ]; refine stN fo40_6 o40_6_49 1125899906842623 ?_; try simp only [putQ]; refine stN fo40_6 o40_6_50 2251799813685247 ?_; try simp only [putQ]; refine stY fo40_6 o40_6_51 4503599627370495 ?_; try simp only [putQ]
              refine wpAnyH_done (by kernel_rfl) ?_ _
              go_wp2
              go_ret
              exact ⟨ret_bool (hno.out (.inl (by rw [hso.out, y0.out]; simp [fo]))).symm, btrans b0 hHeld.2.2.2.2.2.2.2.2.2.2⟩
        | some k2 =>
          have y0 : Hid (fnd tl F n = some k2) := ef
          have hk2 := fnd_lt ef
          clear ef
          refine (sfind_some ta tl tc F n k2 y0.out _ lF hl).mono ?_
          rintro r w2 ⟨rfl, k3⟩
          have g0 := keep_below k3 l0
          have g5 := keep_below k3 l5
          have g8 := keep_below k3 l8
          have g14 := keep_below k3 l14
          have q3 := l3.below k3
          have qF := lF.below k3
          have b3 := btrans b2 k3
          have r10 := (Y.below k3).c 0 (.int .i64 n) rfl
          have r11 := (Y.below k3).c 1 (.int .i64 i) rfl
          have r12 := (Y.below k3).c 2 (.int .i64 s) rfl
          have r13 := (Y.below k3).c 3 (.slice ba bl bc) rfl
          have p0 := keep_below k3 o0
          clear o0
          clear Y c0 c1 c2 c3 f0 f5 f8 f14 hS l0 l5 l8 l14 l3 lF k3 q10 hF
          go_upto_region 6 with fail
          obtain ⟨bt, ot, rfl, hbt, hft⟩ := qF (by omega)
          obtain ⟨t0, t1, t2, t3⟩ := hft k2 hk2
          have j0 : (0 : Int) ≤ (k2 : Int) := by omega
          have j1 : (k2 : Int) < (tl : Int) := by omega
          have j2 : ¬ (k2 : Int) < 0 := by omega
          have hso2 : Hid (dbtB me now tl F n i s bl bf = (decide ((F k2).s = 2) && decide ((F k2).i = i) && inb s 0 now && decide (0 < bl) && risB bl bf && obA me bl bf)) := by
            rw [Hid, hso.out, y0.out]; rfl
          clear hso hft qF
          generalize F k2 = f at *
          obtain ⟨fn, fi, fs, fg⟩ := f
          dsimp only at t0 t1 t2 t3 hso2
          by_cases e3 : n ≤ n0
          · skip
            as_aux_lemma =>
              refine wp_region_m (S := (fun w' => w'.cell? ⟨w.heap.size, 0, none⟩ = some (.int .i64 me) ∧ w'.cell? ⟨w.heap.size, 5, none⟩ = some (.int .i64 now) ∧ w'.cell? ⟨w.heap.size, 8, none⟩ = some (.slice (some ⟨bt, ot, none⟩) tl tc) ∧ w'.cell? ⟨w.heap.size, 14, none⟩ = some (.slice (some ⟨b, off, none⟩) dl dc) ∧ w'.cell? ⟨K2, 0, none⟩ = some (.int .i64 n) ∧ w'.cell? ⟨K2, 1, none⟩ = some (.int .i64 i) ∧ w'.cell? ⟨K2, 2, none⟩ = some (.int .i64 s) ∧ w'.cell? ⟨K2, 3, none⟩ = some (.slice ba bl bc) ∧ ISl w' ba bl bf ∧ w'.cell? ⟨bt, ot + k2 * 4 + 1, none⟩ = some (.int .i64 fi) ∧ w'.cell? ⟨bt, ot + k2 * 4 + 2, none⟩ = some (.int .i64 fs) ∧ w'.cell? ⟨b, off + m * 4, none⟩ = some (.int .i64 n0) ∧ Below u.heap.size u w')) o40_6 52 fo40_6 ?_ (fun hHeld => ?_)
              · (try dsimp only); exact ⟨keep_drew g0, keep_drew g5, keep_drew g8, keep_drew g14, keep_drew r10, keep_drew r11, keep_drew r12, keep_drew r13, q3.below (Below.refl _ _).drew, keep_drew t1, keep_drew t2, keep_drew p0, b3.drew⟩
              refine stY fo40_6 o40_6_0 1 ?_; try simp only [putQ]
              refine stV (.bool true) fo40_6 o40_6_1 3 ?_ ?_
              · (intro w hSw; (try dsimp only at hSw); go_simp; all_goals (first | with_reducible rfl |  assumption | (simp; done) | (simp; omega)))
              (try simp only [putQ]); refine stY fo40_6 o40_6_2 7 ?_; try simp only [putQ]; refine stY fo40_6 o40_6_3 15 ?_; try simp only [putQ]; refine stY fo40_6 o40_6_4 31 ?_; try simp only [putQ]; refine stY fo40_6 o40_6_5 63 ?_; try simp only [putQ]; refine stY fo40_6 o40_6_6 127 ?_; try simp only [putQ]; refine stY fo40_6 o40_6_7 255 ?_; try simp only [putQ]; refine stY fo40_6 o40_6_8 511 ?_; try simp only [putQ]; refine stY fo40_6 o40_6_9 1023 ?_; try simp only [putQ]; refine stY fo40_6 o40_6_10 2047 ?_; try simp only [putQ]; refine stY fo40_6 o40_6_11 4095 ?_; try simp only [putQ]
              refine stV (.bool true) fo40_6 o40_6_12 8191 ?_ ?_
              · (intro w hSw; (try dsimp only at hSw); go_simp; all_goals (first | with_reducible rfl |  assumption | (simp; done) | (simp; omega)))
              (try simp only [putQ]); refine stY fo40_6 o40_6_13 16383 ?_; try simp only [putQ]; refine stY fo40_6 o40_6_14 32767 ?_; try simp only [putQ]; refine stN fo40_6 o40_6_15 65535 ?_; try simp only [putQ]; refine stN fo40_6 o40_6_16 131071 ?_; try simp only [putQ]; refine stY fo40_6 o40_6_17 262143 ?_; try simp only [putQ]; refine stY fo40_6 o40_6_18 524287 ?_; try simp only [putQ]; refine stN fo40_6 o40_6_19 1048575 ?_; try simp only [putQ]; refine stN fo40_6 o40_6_20 2097151 ?_; try simp only [putQ]; refine stN fo40_6 o40_6_21 4194303 ?_; try simp only [putQ]; refine stN fo40_6 o40_6_22 8388607 ?_; try simp only [putQ]; refine stN fo40_6 o40_6_23 16777215 ?_; try simp only [putQ]; refine stN fo40_6 o40_6_24 33554431 ?_; try simp only [putQ]; refine stN fo40_6 o40_6_25 67108863 ?_; try simp only [putQ]; refine stY fo40_6 o40_6_26 134217727 ?_; try simp only [putQ]; refine stY fo40_6 o40_6_27 268435455 ?_; try simp only [putQ]; refine stN fo40_6 o40_6_28 536870911 ?_; try simp only [putQ]; refine stN fo40_6 o40_6_29 1073741823 ?_; try simp only [putQ]; refine stN fo40_6 o40_6_30 2147483647 ?_; try simp only [putQ]; refine stN fo40_6 o40_6_31 4294967295 ?_; try simp only [putQ]; refine stN fo40_6 o40_6_32 8589934591 ?_; try simp only [putQ]; refine stN fo40_6 o40_6_33 17179869183 ?_; try simp only [putQ]; refine stN fo40_6 o40_6_34 34359738367 ?_; try simp only [putQ]; refine stN fo40_6 o40_6_35 68719476735 ?_; try simp only [putQ]; refine stN fo40_6 o40_6_36 137438953471 ?_; try simp only [putQ]; refine stY fo40_6 o40_6_37 274877906943 ?_; try simp only [putQ]; refine stY fo40_6 o40_6_38 549755813887 ?_; try simp only [putQ]; refine stN fo40_6 o40_6_39 1099511627775 ?_; try simp only [putQ]; refine stN fo40_6 o40_6_40 2199023255551 ?_; try simp only [putQ]; refine stN fo40_6 o40_6_41 4398046511103 ?_; try simp only [putQ]; refine stN fo40_6 o40_6_42 8796093022207 ?_; try simp only [putQ]; refine stN fo40_6 o40_6_43 17592186044415 ?_; try simp only [putQ]; refine stN fo40_6 o40_6_44 35184372088831 ?_; try simp only [putQ]; refine stY fo40_6 o40_6_45 70368744177663 ?_; try simp only [putQ]; refine stY fo40_6 o40_6_46 140737488355327 ?_; try simp only [putQ]; refine stN fo40_6 o40_6_47 281474976710655 ?_; try simp only [putQ]; refine stN fo40_6 o40_6_48 562949953421311 ?_; try simp only [putQ]; refine stN fo40_6 o40_6_49 1125899906842623 ?_; try simp only [putQ]; refine stN fo40_6 o40_6_50 2251799813685247 ?_; try simp only [putQ]; refine stY fo40_6 o40_6_51 4503599627370495 ?_; try simp only [putQ]
              refine wpAnyH_done (by kernel_rfl) ?_ _
              go_wp2
              go_ret
              exact ⟨ret_bool (hno.out (.inr ⟨by omega, by rw [Nat.add_sub_cancel, hn0.out]; omega⟩)).symm, btrans b0 hHeld.2.2.2.2.2.2.2.2.2.2.2.2⟩
          · skip
            by_cases e4 : fs = 2
            · have y2 : Hid (fs = 2) := e4
              clear e4
              by_cases e5 : fi = i
              · have y3 : Hid (fi = i) := e5
                clear e5
                cases z4 : inb s 0 now
                · have y4 : Hid (inb s 0 now = false) := z4
                  clear z4
                  as_aux_lemma =>
                    refine wp_region_m (S := (fun w' => w'.cell? ⟨w.heap.size, 0, none⟩ = some (.int .i64 me) ∧ w'.cell? ⟨w.heap.size, 5, none⟩ = some (.int .i64 now) ∧ w'.cell? ⟨w.heap.size, 8, none⟩ = some (.slice (some ⟨bt, ot, none⟩) tl tc) ∧ w'.cell? ⟨w.heap.size, 14, none⟩ = some (.slice (some ⟨b, off, none⟩) dl dc) ∧ w'.cell? ⟨K2, 0, none⟩ = some (.int .i64 n) ∧ w'.cell? ⟨K2, 1, none⟩ = some (.int .i64 i) ∧ w'.cell? ⟨K2, 2, none⟩ = some (.int .i64 s) ∧ w'.cell? ⟨K2, 3, none⟩ = some (.slice ba bl bc) ∧ ISl w' ba bl bf ∧ w'.cell? ⟨bt, ot + k2 * 4 + 1, none⟩ = some (.int .i64 fi) ∧ w'.cell? ⟨bt, ot + k2 * 4 + 2, none⟩ = some (.int .i64 fs) ∧ w'.cell? ⟨b, off + m * 4, none⟩ = some (.int .i64 n0) ∧ Below u.heap.size u w')) o40_6 52 fo40_6 ?_ (fun hHeld => ?_)
                    · (try dsimp only); exact ⟨keep_drew g0, keep_drew g5, keep_drew g8, keep_drew g14, keep_drew r10, keep_drew r11, keep_drew r12, keep_drew r13, q3.below (Below.refl _ _).drew, keep_drew t1, keep_drew t2, keep_drew p0, b3.drew⟩
                    refine stY fo40_6 o40_6_0 1 ?_; try simp only [putQ]
                    refine stV (.bool true) fo40_6 o40_6_1 3 ?_ ?_
                    · (intro w hSw; (try dsimp only at hSw); go_simp; all_goals (first | with_reducible rfl |  assumption | (simp; done) | (simp; omega)))
                    (try simp only [putQ]); refine stY fo40_6 o40_6_2 7 ?_; try simp only [putQ]; refine stY fo40_6 o40_6_3 15 ?_; try simp only [putQ]; refine stY fo40_6 o40_6_4 31 ?_; try simp only [putQ]; refine stY fo40_6 o40_6_5 63 ?_; try simp only [putQ]; refine stY fo40_6 o40_6_6 127 ?_; try simp only [putQ]; refine stY fo40_6 o40_6_7 255 ?_; try simp only [putQ]; refine stY fo40_6 o40_6_8 511 ?_; try simp only [putQ]; refine stY fo40_6 o40_6_9 1023 ?_; try simp only [putQ]; refine stY fo40_6 o40_6_10 2047 ?_; try simp only [putQ]; refine stY fo40_6 o40_6_11 4095 ?_; try simp only [putQ]
                    refine stV (.bool false) fo40_6 o40_6_12 8191 ?_ ?_
                    · (intro w hSw; (try dsimp only at hSw); go_simp; all_goals (first | with_reducible rfl |  assumption | (simp; done) | (simp; omega)))
                    (try simp only [putQ]); refine stY fo40_6 o40_6_13 16383 ?_; try simp only [putQ]; refine stY fo40_6 o40_6_14 32767 ?_; try simp only [putQ]; refine stY fo40_6 o40_6_15 65535 ?_; try simp only [putQ]
                    refine stV (.bool false) fo40_6 o40_6_16 131071 ?_ ?_
                    · (intro w hSw; (try dsimp only at hSw); go_simp; all_goals (first | with_reducible rfl |  assumption | (simp; done) | (simp; omega)))
                    (try simp only [putQ]); refine stY fo40_6 o40_6_17 262143 ?_; try simp only [putQ]; refine stY fo40_6 o40_6_18 524287 ?_; try simp only [putQ]; refine stY fo40_6 o40_6_19 1048575 ?_; try simp only [putQ]; refine stY fo40_6 o40_6_20 2097151 ?_; try simp only [putQ]; refine stY fo40_6 o40_6_21 4194303 ?_; try simp only [putQ]; refine stY fo40_6 o40_6_22 8388607 ?_; try simp only [putQ]; refine stY fo40_6 o40_6_23 16777215 ?_; try simp only [putQ]; refine stY fo40_6 o40_6_24 33554431 ?_; try simp only [putQ]
                    refine stV (.bool false) fo40_6 o40_6_25 67108863 ?_ ?_
                    · (intro w hSw; (try dsimp only at hSw); go_simp; all_goals (first | with_reducible rfl | (simp [y2.out]; done) | assumption | (simp; done) | (simp; omega)))
                    (try simp only [putQ]); refine stY fo40_6 o40_6_26 134217727 ?_; try simp only [putQ]; refine stY fo40_6 o40_6_27 268435455 ?_; try simp only [putQ]; refine stY fo40_6 o40_6_28 536870911 ?_; try simp only [putQ]; refine stY fo40_6 o40_6_29 1073741823 ?_; try simp only [putQ]; refine stY fo40_6 o40_6_30 2147483647 ?_; try simp only [putQ]; refine stY fo40_6 o40_6_31 4294967295 ?_; try simp only [putQ]; refine stY fo40_6 o40_6_32 8589934591 ?_; try simp only [putQ]; refine stY fo40_6 o40_6_33 17179869183 ?_; try simp only [putQ]; refine stY fo40_6 o40_6_34 34359738367 ?_; try simp only [putQ]; refine stY fo40_6 o40_6_35 68719476735 ?_; try simp only [putQ]
                    refine stV (.bool false) fo40_6 o40_6_36 137438953471 ?_ ?_
                    · (intro w hSw; (try dsimp only at hSw); go_simp; all_goals (first | with_reducible rfl | (simp [y3.out]; done) | assumption | (simp; done) | (simp; omega)))
                    (try simp only [putQ]); refine stY fo40_6 o40_6_37 274877906943 ?_; try simp only [putQ]; refine stY fo40_6 o40_6_38 549755813887 ?_; try simp only [putQ]; refine stY fo40_6 o40_6_39 1099511627775 ?_; try simp only [putQ]; refine stY fo40_6 o40_6_40 2199023255551 ?_; try simp only [putQ]; refine stY fo40_6 o40_6_41 4398046511103 ?_; try simp only [putQ]; refine stY fo40_6 o40_6_42 8796093022207 ?_; try simp only [putQ]
                    refine stC fo40_6 o40_6_43 17592186044415 (fun K hK => ?_)
                    go_simp
                    refine (lin_lit s 0 now false y4.out _).mono ?_; rintro r w5 ⟨rfl, hw⟩; obtain rfl := hw.symm; clear hw
                    go_wp2_with fail
                    refine hK.out _ _ ?_ (fun hHeld => ?_)
                    · (try dsimp only); exact hHeld
                    clear hK K
                    (try simp only [putQ]); refine stY fo40_6 o40_6_44 35184372088831 ?_; try simp only [putQ]; refine stY fo40_6 o40_6_45 70368744177663 ?_; try simp only [putQ]; refine stY fo40_6 o40_6_46 140737488355327 ?_; try simp only [putQ]; refine stN fo40_6 o40_6_47 281474976710655 ?_; try simp only [putQ]; refine stN fo40_6 o40_6_48 562949953421311 ?_; try simp only [putQ]; refine stN fo40_6 o40_6_49 1125899906842623 ?_; try simp only [putQ]; refine stN fo40_6 o40_6_50 2251799813685247 ?_; try simp only [putQ]; refine stY fo40_6 o40_6_51 4503599627370495 ?_; try simp only [putQ]
                    refine wpAnyH_done (by kernel_rfl) ?_ _
                    go_wp2
                    go_ret
                    exact ⟨ret_bool (hno.out (.inl (by rw [hso2.out, y4.out]; simp))).symm, btrans b0 hHeld.2.2.2.2.2.2.2.2.2.2.2.2⟩
                · have y4 : Hid (inb s 0 now = true) := z4
                  clear z4
                  by_cases e6 : bl = 0
                  · have y5 : Hid (bl = 0) := e6
                    clear e6
                    as_aux_lemma =>
                      refine wp_region_m (S := (fun w' => w'.cell? ⟨w.heap.size, 0, none⟩ = some (.int .i64 me) ∧ w'.cell? ⟨w.heap.size, 5, none⟩ = some (.int .i64 now) ∧ w'.cell? ⟨w.heap.size, 8, none⟩ = some (.slice (some ⟨bt, ot, none⟩) tl tc) ∧ w'.cell? ⟨w.heap.size, 14, none⟩ = some (.slice (some ⟨b, off, none⟩) dl dc) ∧ w'.cell? ⟨K2, 0, none⟩ = some (.int .i64 n) ∧ w'.cell? ⟨K2, 1, none⟩ = some (.int .i64 i) ∧ w'.cell? ⟨K2, 2, none⟩ = some (.int .i64 s) ∧ w'.cell? ⟨K2, 3, none⟩ = some (.slice ba bl bc) ∧ ISl w' ba bl bf ∧ w'.cell? ⟨bt, ot + k2 * 4 + 1, none⟩ = some (.int .i64 fi) ∧ w'.cell? ⟨bt, ot + k2 * 4 + 2, none⟩ = some (.int .i64 fs) ∧ w'.cell? ⟨b, off + m * 4, none⟩ = some (.int .i64 n0) ∧ Below u.heap.size u w')) o40_6 52 fo40_6 ?_ (fun hHeld => ?_)
                      · (try dsimp only); exact ⟨keep_drew g0, keep_drew g5, keep_drew g8, keep_drew g14, keep_drew r10, keep_drew r11, keep_drew r12, keep_drew r13, q3.below (Below.refl _ _).drew, keep_drew t1, keep_drew t2, keep_drew p0, b3.drew⟩
                      refine stY fo40_6 o40_6_0 1 ?_; try simp only [putQ]
                      refine stV (.bool true) fo40_6 o40_6_1 3 ?_ ?_
                      · (intro w hSw; (try dsimp only at hSw); go_simp; all_goals (first | with_reducible rfl |  assumption | (simp; done) | (simp; omega)))
                      (try simp only [putQ]); refine stY fo40_6 o40_6_2 7 ?_; try simp only [putQ]; refine stY fo40_6 o40_6_3 15 ?_; try simp only [putQ]; refine stY fo40_6 o40_6_4 31 ?_; try simp only [putQ]; refine stY fo40_6 o40_6_5 63 ?_; try simp only [putQ]; refine stY fo40_6 o40_6_6 127 ?_; try simp only [putQ]; refine stY fo40_6 o40_6_7 255 ?_; try simp only [putQ]; refine stY fo40_6 o40_6_8 511 ?_; try simp only [putQ]; refine stY fo40_6 o40_6_9 1023 ?_; try simp only [putQ]; refine stY fo40_6 o40_6_10 2047 ?_; try simp only [putQ]; refine stY fo40_6 o40_6_11 4095 ?_; try simp only [putQ]
                      refine stV (.bool false) fo40_6 o40_6_12 8191 ?_ ?_
                      · (intro w hSw; (try dsimp only at hSw); go_simp; all_goals (first | with_reducible rfl |  assumption | (simp; done) | (simp; omega)))
                      (try simp only [putQ]); refine stY fo40_6 o40_6_13 16383 ?_; try simp only [putQ]; refine stY fo40_6 o40_6_14 32767 ?_; try simp only [putQ]; refine stY fo40_6 o40_6_15 65535 ?_; try simp only [putQ]
                      refine stV (.bool false) fo40_6 o40_6_16 131071 ?_ ?_
                      · (intro w hSw; (try dsimp only at hSw); go_simp; all_goals (first | with_reducible rfl |  assumption | (simp; done) | (simp; omega)))
                      (try simp only [putQ]); refine stY fo40_6 o40_6_17 262143 ?_; try simp only [putQ]; refine stY fo40_6 o40_6_18 524287 ?_; try simp only [putQ]; refine stY fo40_6 o40_6_19 1048575 ?_; try simp only [putQ]; refine stY fo40_6 o40_6_20 2097151 ?_; try simp only [putQ]; refine stY fo40_6 o40_6_21 4194303 ?_; try simp only [putQ]; refine stY fo40_6 o40_6_22 8388607 ?_; try simp only [putQ]; refine stY fo40_6 o40_6_23 16777215 ?_; try simp only [putQ]; refine stY fo40_6 o40_6_24 33554431 ?_; try simp only [putQ]
                      refine stV (.bool false) fo40_6 o40_6_25 67108863 ?_ ?_
                      · (intro w hSw; (try dsimp only at hSw); go_simp; all_goals (first | with_reducible rfl | (simp [y2.out]; done) | assumption | (simp; done) | (simp; omega)))
                      (try simp only [putQ]); refine stY fo40_6 o40_6_26 134217727 ?_; try simp only [putQ]; refine stY fo40_6 o40_6_27 268435455 ?_; try simp only [putQ]; refine stY fo40_6 o40_6_28 536870911 ?_; try simp only [putQ]; refine stY fo40_6 o40_6_29 1073741823 ?_; try simp only [putQ]; refine stY fo40_6 o40_6_30 2147483647 ?_; try simp only [putQ]; refine stY fo40_6 o40_6_31 4294967295 ?_; try simp only [putQ]; refine stY fo40_6 o40_6_32 8589934591 ?_; try simp only [putQ]; refine stY fo40_6 o40_6_33 17179869183 ?_; try simp only [putQ]; refine stY fo40_6 o40_6_34 34359738367 ?_; try simp only [putQ]; refine stY fo40_6 o40_6_35 68719476735 ?_; try simp only [putQ]
                      refine stV (.bool false) fo40_6 o40_6_36 137438953471 ?_ ?_
                      · (intro w hSw; (try dsimp only at hSw); go_simp; all_goals (first | with_reducible rfl | (simp [y3.out]; done) | assumption | (simp; done) | (simp; omega)))
                      (try simp only [putQ]); refine stY fo40_6 o40_6_37 274877906943 ?_; try simp only [putQ]; refine stY fo40_6 o40_6_38 549755813887 ?_; try simp only [putQ]; refine stY fo40_6 o40_6_39 1099511627775 ?_; try simp only [putQ]; refine stY fo40_6 o40_6_40 2199023255551 ?_; try simp only [putQ]; refine stY fo40_6 o40_6_41 4398046511103 ?_; try simp only [putQ]; refine stY fo40_6 o40_6_42 8796093022207 ?_; try simp only [putQ]
                      refine stC fo40_6 o40_6_43 17592186044415 (fun K hK => ?_)
                      go_simp
                      refine (lin_lit s 0 now true y4.out _).mono ?_; rintro r w5 ⟨rfl, hw⟩; obtain rfl := hw.symm; clear hw
                      go_wp2_with fail
                      refine hK.out _ _ ?_ (fun hHeld => ?_)
                      · (try dsimp only); exact hHeld
                      clear hK K
                      (try simp only [putQ]); refine stY fo40_6 o40_6_44 35184372088831 ?_; try simp only [putQ]; refine stY fo40_6 o40_6_45 70368744177663 ?_; try simp only [putQ]; refine stY fo40_6 o40_6_46 140737488355327 ?_; try simp only [putQ]; refine stY fo40_6 o40_6_47 281474976710655 ?_; try simp only [putQ]; refine stY fo40_6 o40_6_48 562949953421311 ?_; try simp only [putQ]; refine stY fo40_6 o40_6_49 1125899906842623 ?_; try simp only [putQ]
                      refine stV (.bool true) fo40_6 o40_6_50 2251799813685247 ?_ ?_
                      · (intro w hSw; (try dsimp only at hSw); go_simp; all_goals (first | with_reducible rfl | (simp [y5.out]; done) | assumption | (simp; done) | (simp; omega)))
                      (try simp only [putQ]); refine stY fo40_6 o40_6_51 4503599627370495 ?_; try simp only [putQ]
                      refine wpAnyH_done (by kernel_rfl) ?_ _
                      go_wp2
                      go_ret
                      exact ⟨ret_bool (hno.out (.inl (by rw [hso2.out, y5.out]; simp))).symm, btrans b0 hHeld.2.2.2.2.2.2.2.2.2.2.2.2⟩
                  · skip
                    refine wp_region_m (S := (fun w' => w'.cell? ⟨w.heap.size, 0, none⟩ = some (.int .i64 me) ∧ w'.cell? ⟨w.heap.size, 5, none⟩ = some (.int .i64 now) ∧ w'.cell? ⟨w.heap.size, 8, none⟩ = some (.slice (some ⟨bt, ot, none⟩) tl tc) ∧ w'.cell? ⟨w.heap.size, 14, none⟩ = some (.slice (some ⟨b, off, none⟩) dl dc) ∧ w'.cell? ⟨K2, 0, none⟩ = some (.int .i64 n) ∧ w'.cell? ⟨K2, 1, none⟩ = some (.int .i64 i) ∧ w'.cell? ⟨K2, 2, none⟩ = some (.int .i64 s) ∧ w'.cell? ⟨K2, 3, none⟩ = some (.slice ba bl bc) ∧ ISl w' ba bl bf ∧ w'.cell? ⟨bt, ot + k2 * 4 + 1, none⟩ = some (.int .i64 fi) ∧ w'.cell? ⟨bt, ot + k2 * 4 + 2, none⟩ = some (.int .i64 fs) ∧ w'.cell? ⟨b, off + m * 4, none⟩ = some (.int .i64 n0) ∧ Below u.heap.size u w')) o40_6 52 fo40_6 ?_ (fun hHeld => ?_)
                    · (try dsimp only); exact ⟨keep_drew g0, keep_drew g5, keep_drew g8, keep_drew g14, keep_drew r10, keep_drew r11, keep_drew r12, keep_drew r13, q3.below (Below.refl _ _).drew, keep_drew t1, keep_drew t2, keep_drew p0, b3.drew⟩
                    refine stY fo40_6 o40_6_0 1 ?_; try simp only [putQ]
                    refine stV (.bool true) fo40_6 o40_6_1 3 ?_ ?_
                    · (intro w hSw; (try dsimp only at hSw); go_simp; all_goals (first | with_reducible rfl |  assumption | (simp; done) | (simp; omega)))
                    (try simp only [putQ]); refine stY fo40_6 o40_6_2 7 ?_; try simp only [putQ]; refine stY fo40_6 o40_6_3 15 ?_; try simp only [putQ]; refine stY fo40_6 o40_6_4 31 ?_; try simp only [putQ]; refine stY fo40_6 o40_6_5 63 ?_; try simp only [putQ]; refine stY fo40_6 o40_6_6 127 ?_; try simp only [putQ]; refine stY fo40_6 o40_6_7 255 ?_; try simp only [putQ]; refine stY fo40_6 o40_6_8 511 ?_; try simp only [putQ]; refine stY fo40_6 o40_6_9 1023 ?_; try simp only [putQ]; refine stY fo40_6 o40_6_10 2047 ?_; try simp only [putQ]; refine stY fo40_6 o40_6_11 4095 ?_; try simp only [putQ]
                    refine stV (.bool false) fo40_6 o40_6_12 8191 ?_ ?_
                    · (intro w hSw; (try dsimp only at hSw); go_simp; all_goals (first | with_reducible rfl |  assumption | (simp; done) | (simp; omega)))
                    (try simp only [putQ]); refine stY fo40_6 o40_6_13 16383 ?_; try simp only [putQ]; refine stY fo40_6 o40_6_14 32767 ?_; try simp only [putQ]; refine stY fo40_6 o40_6_15 65535 ?_; try simp only [putQ]
                    refine stV (.bool false) fo40_6 o40_6_16 131071 ?_ ?_
                    · (intro w hSw; (try dsimp only at hSw); go_simp; all_goals (first | with_reducible rfl |  assumption | (simp; done) | (simp; omega)))
                    (try simp only [putQ]); refine stY fo40_6 o40_6_17 262143 ?_; try simp only [putQ]; refine stY fo40_6 o40_6_18 524287 ?_; try simp only [putQ]; refine stY fo40_6 o40_6_19 1048575 ?_; try simp only [putQ]; refine stY fo40_6 o40_6_20 2097151 ?_; try simp only [putQ]; refine stY fo40_6 o40_6_21 4194303 ?_; try simp only [putQ]; refine stY fo40_6 o40_6_22 8388607 ?_; try simp only [putQ]; refine stY fo40_6 o40_6_23 16777215 ?_; try simp only [putQ]; refine stY fo40_6 o40_6_24 33554431 ?_; try simp only [putQ]
                    refine stV (.bool false) fo40_6 o40_6_25 67108863 ?_ ?_
                    · (intro w hSw; (try dsimp only at hSw); go_simp; all_goals (first | with_reducible rfl | (simp [y2.out]; done) | assumption | (simp; done) | (simp; omega)))
                    (try simp only [putQ]); refine stY fo40_6 o40_6_26 134217727 ?_; try simp only [putQ]; refine stY fo40_6 o40_6_27 268435455 ?_; try simp only [putQ]; refine stY fo40_6 o40_6_28 536870911 ?_; try simp only [putQ]; refine stY fo40_6 o40_6_29 1073741823 ?_; try simp only [putQ]; refine stY fo40_6 o40_6_30 2147483647 ?_; try simp only [putQ]; refine stY fo40_6 o40_6_31 4294967295 ?_; try simp only [putQ]; refine stY fo40_6 o40_6_32 8589934591 ?_; try simp only [putQ]; refine stY fo40_6 o40_6_33 17179869183 ?_; try simp only [putQ]; refine stY fo40_6 o40_6_34 34359738367 ?_; try simp only [putQ]; refine stY fo40_6 o40_6_35 68719476735 ?_; try simp only [putQ]
                    refine stV (.bool false) fo40_6 o40_6_36 137438953471 ?_ ?_
                    · (intro w hSw; (try dsimp only at hSw); go_simp; all_goals (first | with_reducible rfl | (simp [y3.out]; done) | assumption | (simp; done) | (simp; omega)))
                    (try simp only [putQ]); refine stY fo40_6 o40_6_37 274877906943 ?_; try simp only [putQ]; refine stY fo40_6 o40_6_38 549755813887 ?_; try simp only [putQ]; refine stY fo40_6 o40_6_39 1099511627775 ?_; try simp only [putQ]; refine stY fo40_6 o40_6_40 2199023255551 ?_; try simp only [putQ]; refine stY fo40_6 o40_6_41 4398046511103 ?_; try simp only [putQ]; refine stY fo40_6 o40_6_42 8796093022207 ?_; try simp only [putQ]
                    refine stC fo40_6 o40_6_43 17592186044415 (fun K hK => ?_)
                    go_simp
                    refine (lin_lit s 0 now true y4.out _).mono ?_; rintro r w5 ⟨rfl, hw⟩; obtain rfl := hw.symm; clear hw
                    go_wp2_with fail
                    refine hK.out _ _ ?_ (fun hHeld => ?_)
                    · (try dsimp only); exact hHeld
                    clear hK K
                    (try simp only [putQ]); refine stY fo40_6 o40_6_44 35184372088831 ?_; try simp only [putQ]; refine stY fo40_6 o40_6_45 70368744177663 ?_; try simp only [putQ]; refine stY fo40_6 o40_6_46 140737488355327 ?_; try simp only [putQ]; refine stY fo40_6 o40_6_47 281474976710655 ?_; try simp only [putQ]; refine stY fo40_6 o40_6_48 562949953421311 ?_; try simp only [putQ]; refine stY fo40_6 o40_6_49 1125899906842623 ?_; try simp only [putQ]
                    refine stV (.bool false) fo40_6 o40_6_50 2251799813685247 ?_ ?_
                    · (intro w hSw; (try dsimp only at hSw); go_simp; all_goals (first | with_reducible rfl |  assumption | (simp; done) | (simp; omega)))
                    (try simp only [putQ]); refine stY fo40_6 o40_6_51 4503599627370495 ?_; try simp only [putQ]
                    refine wpAnyH_done (by kernel_rfl) ?_ _
                    have hso3 : Hid (dbtB me now tl F n i s bl bf = (risB bl bf && obA me bl bf)) := by
                      have e6' : 0 < bl := by omega
                      rw [Hid, hso2.out, y2.out, y3.out, y4.out]; simp [e6']
                    have hc3 := hHeld.2.2.2.2.2.2.2.1
                    have hme := hHeld.1
                    have hI := hHeld.2.2.2.2.2.2.2.2.1
                    have hBe := hHeld.2.2.2.2.2.2.2.2.2.2.2.2
                    clear hHeld hso2 y2 y3 y4 t0 t1 t2 t3
                    go_wp2_with fail
                    go_loopw [6] (fun i wt => ∃ t : Nat, t ≤ bl ∧ i = .int .i64 t ∧ Below w2.drew.heap.size w2.drew wt ∧ (∀ j, j < t → ofB me (bf j) = true) ∧ (∀ j, j < t → 0 < j → bf (j - 1) < bf j)) (fun i _ => bl - (intOf i).toNat)
                    case atStart => exact ⟨0, by omega, rfl, Below.refl _ _, fun j h1 => by omega, fun j h1 => by omega⟩
                    case round =>
                      obtain ⟨t, ht, rfl, hbt2, hallt, hasct⟩ := hrel
                      have m3 := keep_below hbt2 hc3
                      have m0 := keep_below hbt2 hme
                      have hBf := btrans hBe hbt2
                      by_cases hlt2 : t < bl
                      · obtain ⟨bb, ob, rfl, hbb, hff⟩ := hI (by omega)
                        have hff2 := hff.below hbt2 hbb
                        have ct := hff2 t hlt2
                        have j3 : (0 : Int) ≤ (t : Int) := by omega
                        have j4 : (t : Int) < (bl : Int) := by omega
                        rcases Nat.eq_zero_or_pos t with g | g
                        · subst g
                          simp only [Nat.add_zero] at ct
                          have hnt : Hid (ofB me (bf 0) = false ∨ (0 < 0 ∧ ¬ bf (0 - 1) < bf 0) → (risB bl bf && obA me bl bf) = false) := by_no hlt2
                          have hyt : Hid (ofB me (bf 0) = true → ∀ j, j < 0 + 1 → ofB me (bf j) = true) := fun e j hj => by
                            by_cases ej : j = 0
                            · subst ej; exact e
                            · exact hallt j (by omega)
                          have hyt2 : Hid ((0 < 0 → bf (0 - 1) < bf 0) → ∀ j, j < 0 + 1 → 0 < j → bf (j - 1) < bf j) := fun e j hj h0 => by
                            by_cases ej : j = 0
                            · subst ej; exact e h0
                            · exact hasct j (by omega) h0
                          clear hallt hasct
                          generalize bf 0 = z at *
                          obtain ⟨sz, hsz⟩ : ∃ sz, Hid (ste z = sz) := ⟨_, rfl⟩
                          go_upto_region 11 with fail
                          cases z6 : inb z 0 7
                          · have y6 : Hid (inb z 0 7 = false) := z6
                            clear z6
                            as_aux_lemma =>
                              refine wp_region_m (S := (fun w' => w'.cell? ⟨w.heap.size, 0, none⟩ = some (.int .i64 me) ∧ w'.cell? ⟨K2, 3, none⟩ = some (.slice (some ⟨bb, ob, none⟩) bl bc) ∧ w'.cell? ⟨bb, ob, none⟩ = some (.int .i64 z) ∧ Below u.heap.size u w' ∧ Below w2.drew.heap.size w2.drew w')) o40_11 37 fo40_11 ?_ (fun hHeld => ?_)
                              · (try dsimp only); exact ⟨keep_drew m0, keep_drew m3, keep_drew ct, hBf.drew, hbt2.drew⟩
                              refine stY fo40_11 o40_11_0 1 ?_; try simp only [putQ]; refine stY fo40_11 o40_11_1 3 ?_; try simp only [putQ]; refine stY fo40_11 o40_11_2 7 ?_; try simp only [putQ]; refine stY fo40_11 o40_11_3 15 ?_; try simp only [putQ]; refine stY fo40_11 o40_11_4 31 ?_; try simp only [putQ]
                              refine stC fo40_11 o40_11_5 63 (fun K hK => ?_)
                              go_simp
                              refine (lin_lit z 0 7 false y6.out _).mono ?_; rintro r w5 ⟨rfl, hw⟩; obtain rfl := hw.symm; clear hw
                              go_wp2_with fail
                              refine hK.out _ _ ?_ (fun hHeld => ?_)
                              · (try dsimp only); exact hHeld
                              clear hK K
                              (try simp only [putQ]); refine stY fo40_11 o40_11_6 127 ?_; try simp only [putQ]; refine stY fo40_11 o40_11_7 255 ?_; try simp only [putQ]; refine stN fo40_11 o40_11_8 511 ?_; try simp only [putQ]; refine stN fo40_11 o40_11_9 1023 ?_; try simp only [putQ]; refine stN fo40_11 o40_11_10 2047 ?_; try simp only [putQ]; refine stN fo40_11 o40_11_11 4095 ?_; try simp only [putQ]; refine stN fo40_11 o40_11_12 8191 ?_; try simp only [putQ]; refine stN fo40_11 o40_11_13 16383 ?_; try simp only [putQ]; refine stN fo40_11 o40_11_14 32767 ?_; try simp only [putQ]; refine stN fo40_11 o40_11_15 65535 ?_; try simp only [putQ]; refine stN fo40_11 o40_11_16 131071 ?_; try simp only [putQ]; refine stN fo40_11 o40_11_17 262143 ?_; try simp only [putQ]; refine stY fo40_11 o40_11_18 524287 ?_; try simp only [putQ]; refine stY fo40_11 o40_11_19 1048575 ?_; try simp only [putQ]; refine stN fo40_11 o40_11_20 2097151 ?_; try simp only [putQ]; refine stN fo40_11 o40_11_21 4194303 ?_; try simp only [putQ]; refine stN fo40_11 o40_11_22 8388607 ?_; try simp only [putQ]; refine stN fo40_11 o40_11_23 16777215 ?_; try simp only [putQ]; refine stN fo40_11 o40_11_24 33554431 ?_; try simp only [putQ]; refine stN fo40_11 o40_11_25 67108863 ?_; try simp only [putQ]; refine stN fo40_11 o40_11_26 134217727 ?_; try simp only [putQ]; refine stN fo40_11 o40_11_27 268435455 ?_; try simp only [putQ]; refine stN fo40_11 o40_11_28 536870911 ?_; try simp only [putQ]; refine stN fo40_11 o40_11_29 1073741823 ?_; try simp only [putQ]; refine stN fo40_11 o40_11_30 2147483647 ?_; try simp only [putQ]; refine stN fo40_11 o40_11_31 4294967295 ?_; try simp only [putQ]; refine stN fo40_11 o40_11_32 8589934591 ?_; try simp only [putQ]; refine stN fo40_11 o40_11_33 17179869183 ?_; try simp only [putQ]; refine stN fo40_11 o40_11_34 34359738367 ?_; try simp only [putQ]; refine stN fo40_11 o40_11_35 68719476735 ?_; try simp only [putQ]; refine stY fo40_11 o40_11_36 137438953471 ?_; try simp only [putQ]
                              refine wpAnyH_done (by kernel_rfl) ?_ _
                              go_wp2
                              go_ret
                              exact ⟨ret_bool (hno.out (.inl (by rw [hso3.out]; exact hnt.out (.inl (by simp [ofB, y6.out]))))).symm, btrans b0 hHeld.2.2.2.1⟩
                          · have y6 : Hid (inb z 0 7 = true) := z6
                            clear z6
                            by_cases e7 : sz = sm
                            · have y7 : Hid (sz = sm) := e7
                              clear e7
                              refine wp_region_m (S := (fun w' => w'.cell? ⟨w.heap.size, 0, none⟩ = some (.int .i64 me) ∧ w'.cell? ⟨K2, 3, none⟩ = some (.slice (some ⟨bb, ob, none⟩) bl bc) ∧ w'.cell? ⟨bb, ob, none⟩ = some (.int .i64 z) ∧ Below u.heap.size u w' ∧ Below w2.drew.heap.size w2.drew w')) o40_11 37 fo40_11 ?_ (fun hHeld => ?_)
                              · (try dsimp only); exact ⟨keep_drew m0, keep_drew m3, keep_drew ct, hBf.drew, hbt2.drew⟩
                              refine stY fo40_11 o40_11_0 1 ?_; try simp only [putQ]; refine stY fo40_11 o40_11_1 3 ?_; try simp only [putQ]; refine stY fo40_11 o40_11_2 7 ?_; try simp only [putQ]; refine stY fo40_11 o40_11_3 15 ?_; try simp only [putQ]; refine stY fo40_11 o40_11_4 31 ?_; try simp only [putQ]
                              refine stC fo40_11 o40_11_5 63 (fun K hK => ?_)
                              go_simp
                              refine (lin_lit z 0 7 true y6.out _).mono ?_; rintro r w5 ⟨rfl, hw⟩; obtain rfl := hw.symm; clear hw
                              go_wp2_with fail
                              refine hK.out _ _ ?_ (fun hHeld => ?_)
                              · (try dsimp only); exact hHeld
                              clear hK K
                              (try simp only [putQ]); refine stY fo40_11 o40_11_6 127 ?_; try simp only [putQ]; refine stY fo40_11 o40_11_7 255 ?_; try simp only [putQ]; refine stY fo40_11 o40_11_8 511 ?_; try simp only [putQ]; refine stY fo40_11 o40_11_9 1023 ?_; try simp only [putQ]; refine stY fo40_11 o40_11_10 2047 ?_; try simp only [putQ]; refine stY fo40_11 o40_11_11 4095 ?_; try simp only [putQ]; refine stY fo40_11 o40_11_12 8191 ?_; try simp only [putQ]; refine stY fo40_11 o40_11_14 24575 ?_; try simp only [putQ]; refine stY fo40_11 o40_11_15 57343 ?_; try simp only [putQ]
                              refine stC fo40_11 o40_11_13 65535 (fun K hK => ?_)
                              go_simp
                              refine (lsite_any z _).mono ?_; rintro r w5 ⟨rfl, hw⟩; obtain rfl := hw.symm; clear hw; rw [hsz.out]
                              go_wp2_with fail
                              refine hK.out _ _ ?_ (fun hHeld => ?_)
                              · (try dsimp only); exact hHeld
                              clear hK K
                              (try simp only [putQ])
                              refine stC fo40_11 o40_11_16 131071 (fun K hK => ?_)
                              go_simp
                              refine (lsite_any me _).mono ?_; rintro r w5 ⟨rfl, hw⟩; obtain rfl := hw.symm; clear hw; rw [hsm.out]
                              go_wp2_with fail
                              refine hK.out _ _ ?_ (fun hHeld => ?_)
                              · (try dsimp only); exact hHeld
                              clear hK K
                              (try simp only [putQ])
                              refine stV (.bool false) fo40_11 o40_11_17 262143 ?_ ?_
                              · (intro w hSw; (try dsimp only at hSw); go_simp; all_goals (first | with_reducible rfl | (simp [y7.out]; done) | assumption | (simp; done) | (simp; omega)))
                              (try simp only [putQ]); refine stY fo40_11 o40_11_18 524287 ?_; try simp only [putQ]; refine stY fo40_11 o40_11_19 1048575 ?_; try simp only [putQ]; refine stY fo40_11 o40_11_20 2097151 ?_; try simp only [putQ]
                              refine stV (.bool false) fo40_11 o40_11_21 4194303 ?_ ?_
                              · (intro w hSw; (try dsimp only at hSw); go_simp; all_goals (first | with_reducible rfl |  assumption | (simp; done) | (simp; omega)))
                              (try simp only [putQ]); refine stY fo40_11 o40_11_22 8388607 ?_; try simp only [putQ]; refine stN fo40_11 o40_11_23 16777215 ?_; try simp only [putQ]; refine stN fo40_11 o40_11_24 33554431 ?_; try simp only [putQ]; refine stN fo40_11 o40_11_25 67108863 ?_; try simp only [putQ]; refine stN fo40_11 o40_11_26 134217727 ?_; try simp only [putQ]; refine stN fo40_11 o40_11_27 268435455 ?_; try simp only [putQ]; refine stN fo40_11 o40_11_28 536870911 ?_; try simp only [putQ]; refine stN fo40_11 o40_11_29 1073741823 ?_; try simp only [putQ]; refine stN fo40_11 o40_11_30 2147483647 ?_; try simp only [putQ]; refine stN fo40_11 o40_11_31 4294967295 ?_; try simp only [putQ]; refine stN fo40_11 o40_11_32 8589934591 ?_; try simp only [putQ]; refine stN fo40_11 o40_11_33 17179869183 ?_; try simp only [putQ]; refine stN fo40_11 o40_11_34 34359738367 ?_; try simp only [putQ]; refine stY fo40_11 o40_11_35 68719476735 ?_; try simp only [putQ]; refine stY fo40_11 o40_11_36 137438953471 ?_; try simp only [putQ]
                              refine wpAnyH_done (by kernel_rfl) ?_ _
                              go_wp2
                              go_roundw
                              case rel => exact ⟨0 + 1, by omega, by go_num, hHeld.2.2.2.2, hyt.out (by simp [ofB, y6.out, hsz.out, hsm.out, y7.out]), hyt2.out (fun h => by omega)⟩
                              case measure => simp [intOf]; omega
                            · skip
                              as_aux_lemma =>
                                refine wp_region_m (S := (fun w' => w'.cell? ⟨w.heap.size, 0, none⟩ = some (.int .i64 me) ∧ w'.cell? ⟨K2, 3, none⟩ = some (.slice (some ⟨bb, ob, none⟩) bl bc) ∧ w'.cell? ⟨bb, ob, none⟩ = some (.int .i64 z) ∧ Below u.heap.size u w' ∧ Below w2.drew.heap.size w2.drew w')) o40_11 37 fo40_11 ?_ (fun hHeld => ?_)
                                · (try dsimp only); exact ⟨keep_drew m0, keep_drew m3, keep_drew ct, hBf.drew, hbt2.drew⟩
                                refine stY fo40_11 o40_11_0 1 ?_; try simp only [putQ]; refine stY fo40_11 o40_11_1 3 ?_; try simp only [putQ]; refine stY fo40_11 o40_11_2 7 ?_; try simp only [putQ]; refine stY fo40_11 o40_11_3 15 ?_; try simp only [putQ]; refine stY fo40_11 o40_11_4 31 ?_; try simp only [putQ]
                                refine stC fo40_11 o40_11_5 63 (fun K hK => ?_)
                                go_simp
                                refine (lin_lit z 0 7 true y6.out _).mono ?_; rintro r w5 ⟨rfl, hw⟩; obtain rfl := hw.symm; clear hw
                                go_wp2_with fail
                                refine hK.out _ _ ?_ (fun hHeld => ?_)
                                · (try dsimp only); exact hHeld
                                clear hK K
                                (try simp only [putQ]); refine stY fo40_11 o40_11_6 127 ?_; try simp only [putQ]; refine stY fo40_11 o40_11_7 255 ?_; try simp only [putQ]; refine stY fo40_11 o40_11_8 511 ?_; try simp only [putQ]; refine stY fo40_11 o40_11_9 1023 ?_; try simp only [putQ]; refine stY fo40_11 o40_11_10 2047 ?_; try simp only [putQ]; refine stY fo40_11 o40_11_11 4095 ?_; try simp only [putQ]; refine stY fo40_11 o40_11_12 8191 ?_; try simp only [putQ]; refine stY fo40_11 o40_11_14 24575 ?_; try simp only [putQ]; refine stY fo40_11 o40_11_15 57343 ?_; try simp only [putQ]
                                refine stC fo40_11 o40_11_13 65535 (fun K hK => ?_)
                                go_simp
                                refine (lsite_any z _).mono ?_; rintro r w5 ⟨rfl, hw⟩; obtain rfl := hw.symm; clear hw; rw [hsz.out]
                                go_wp2_with fail
                                refine hK.out _ _ ?_ (fun hHeld => ?_)
                                · (try dsimp only); exact hHeld
                                clear hK K
                                (try simp only [putQ])
                                refine stC fo40_11 o40_11_16 131071 (fun K hK => ?_)
                                go_simp
                                refine (lsite_any me _).mono ?_; rintro r w5 ⟨rfl, hw⟩; obtain rfl := hw.symm; clear hw; rw [hsm.out]
                                go_wp2_with fail
                                refine hK.out _ _ ?_ (fun hHeld => ?_)
                                · (try dsimp only); exact hHeld
                                clear hK K
                                (try simp only [putQ])
                                refine stV (.bool true) fo40_11 o40_11_17 262143 ?_ ?_
                                · (intro w hSw; (try dsimp only at hSw); go_simp; all_goals (first | with_reducible rfl |  assumption | (simp; done) | (simp; omega)))
                                (try simp only [putQ]); refine stY fo40_11 o40_11_18 524287 ?_; try simp only [putQ]; refine stY fo40_11 o40_11_19 1048575 ?_; try simp only [putQ]; refine stN fo40_11 o40_11_20 2097151 ?_; try simp only [putQ]; refine stN fo40_11 o40_11_21 4194303 ?_; try simp only [putQ]; refine stN fo40_11 o40_11_22 8388607 ?_; try simp only [putQ]; refine stN fo40_11 o40_11_23 16777215 ?_; try simp only [putQ]; refine stN fo40_11 o40_11_24 33554431 ?_; try simp only [putQ]; refine stN fo40_11 o40_11_25 67108863 ?_; try simp only [putQ]; refine stN fo40_11 o40_11_26 134217727 ?_; try simp only [putQ]; refine stN fo40_11 o40_11_27 268435455 ?_; try simp only [putQ]; refine stN fo40_11 o40_11_28 536870911 ?_; try simp only [putQ]; refine stN fo40_11 o40_11_29 1073741823 ?_; try simp only [putQ]; refine stN fo40_11 o40_11_30 2147483647 ?_; try simp only [putQ]; refine stN fo40_11 o40_11_31 4294967295 ?_; try simp only [putQ]; refine stN fo40_11 o40_11_32 8589934591 ?_; try simp only [putQ]; refine stN fo40_11 o40_11_33 17179869183 ?_; try simp only [putQ]; refine stN fo40_11 o40_11_34 34359738367 ?_; try simp only [putQ]; refine stN fo40_11 o40_11_35 68719476735 ?_; try simp only [putQ]; refine stY fo40_11 o40_11_36 137438953471 ?_; try simp only [putQ]
                                refine wpAnyH_done (by kernel_rfl) ?_ _
                                go_wp2
                                go_ret
                                exact ⟨ret_bool (hno.out (.inl (by rw [hso3.out]; exact hnt.out (.inl (by simp [ofB, hsz.out, hsm.out, e7]))))).symm, btrans b0 hHeld.2.2.2.1⟩
                        · obtain ⟨t2, rfl⟩ : ∃ t2, t = t2 + 1 := ⟨t - 1, by omega⟩
                          have hnt : Hid (ofB me (bf (t2 + 1)) = false ∨ (0 < (t2 + 1) ∧ ¬ bf ((t2 + 1) - 1) < bf (t2 + 1)) → (risB bl bf && obA me bl bf) = false) := by_no hlt2
                          have hyt : Hid (ofB me (bf (t2 + 1)) = true → ∀ j, j < (t2 + 1) + 1 → ofB me (bf j) = true) := fun e j hj => by
                            by_cases ej : j = (t2 + 1)
                            · subst ej; exact e
                            · exact hallt j (by omega)
                          have hyt2 : Hid ((0 < (t2 + 1) → bf ((t2 + 1) - 1) < bf (t2 + 1)) → ∀ j, j < (t2 + 1) + 1 → 0 < j → bf (j - 1) < bf j) := fun e j hj h0 => by
                            by_cases ej : j = (t2 + 1)
                            · subst ej; exact e h0
                            · exact hasct j (by omega) h0
                          clear hallt hasct
                          generalize bf (t2 + 1) = z at *
                          have cp := hff2 t2 (by omega)
                          obtain ⟨zp, hzp⟩ : ∃ zp, Hid (bf t2 = zp) := ⟨_, rfl⟩
                          rw [hzp.out] at cp
                          have x2 : (0 : Int) ≤ (t2 : Int) := by omega
                          have x3 : (t2 : Int) + 1 < (bl : Int) := by omega
                          have x4 : (t2 : Int) < (bl : Int) := by omega
                          have x5 : (0 : Int) ≤ (t2 : Int) + 1 := by omega
                          have x6 : (0 : Int) < (t2 : Int) + 1 := by omega
                          have x7 : IntKind.i64.wrap (t2 : Int) = (t2 : Int) := by rw [IntKind.wrap_i64]; omega
                          have x8 : IntKind.i64.wrap ((t2 : Int) + 1 - 1) = (t2 : Int) := by rw [IntKind.wrap_i64]; omega
                          have x9 : ((t2 + 1 : Nat) : Int) = (t2 : Int) + 1 := by omega
                          clear j3 j4
                          rw [x9]
                          obtain ⟨sz, hsz⟩ : ∃ sz, Hid (ste z = sz) := ⟨_, rfl⟩
                          go_upto_region 11 with fail
                          cases z6 : inb z 0 7
                          · have y6 : Hid (inb z 0 7 = false) := z6
                            clear z6
                            as_aux_lemma =>
                              refine wp_region_m (S := (fun w' => w'.cell? ⟨w.heap.size, 0, none⟩ = some (.int .i64 me) ∧ w'.cell? ⟨K2, 3, none⟩ = some (.slice (some ⟨bb, ob, none⟩) bl bc) ∧ w'.cell? ⟨bb, ob + (t2 + 1), none⟩ = some (.int .i64 z) ∧ w'.cell? ⟨bb, ob + t2, none⟩ = some (.int .i64 zp) ∧ Below u.heap.size u w' ∧ Below w2.drew.heap.size w2.drew w')) o40_11 37 fo40_11 ?_ (fun hHeld => ?_)
                              · (try dsimp only); exact ⟨keep_drew m0, keep_drew m3, keep_drew ct, keep_drew cp, hBf.drew, hbt2.drew⟩
                              refine stY fo40_11 o40_11_0 1 ?_; try simp only [putQ]; refine stY fo40_11 o40_11_1 3 ?_; try simp only [putQ]; refine stY fo40_11 o40_11_2 7 ?_; try simp only [putQ]; refine stY fo40_11 o40_11_3 15 ?_; try simp only [putQ]; refine stY fo40_11 o40_11_4 31 ?_; try simp only [putQ]
                              refine stC fo40_11 o40_11_5 63 (fun K hK => ?_)
                              go_simp
                              refine (lin_lit z 0 7 false y6.out _).mono ?_; rintro r w5 ⟨rfl, hw⟩; obtain rfl := hw.symm; clear hw
                              go_wp2_with fail
                              refine hK.out _ _ ?_ (fun hHeld => ?_)
                              · (try dsimp only); exact hHeld
                              clear hK K
                              (try simp only [putQ]); refine stY fo40_11 o40_11_6 127 ?_; try simp only [putQ]; refine stY fo40_11 o40_11_7 255 ?_; try simp only [putQ]; refine stN fo40_11 o40_11_8 511 ?_; try simp only [putQ]; refine stN fo40_11 o40_11_9 1023 ?_; try simp only [putQ]; refine stN fo40_11 o40_11_10 2047 ?_; try simp only [putQ]; refine stN fo40_11 o40_11_11 4095 ?_; try simp only [putQ]; refine stN fo40_11 o40_11_12 8191 ?_; try simp only [putQ]; refine stN fo40_11 o40_11_13 16383 ?_; try simp only [putQ]; refine stN fo40_11 o40_11_14 32767 ?_; try simp only [putQ]; refine stN fo40_11 o40_11_15 65535 ?_; try simp only [putQ]; refine stN fo40_11 o40_11_16 131071 ?_; try simp only [putQ]; refine stN fo40_11 o40_11_17 262143 ?_; try simp only [putQ]; refine stY fo40_11 o40_11_18 524287 ?_; try simp only [putQ]; refine stY fo40_11 o40_11_19 1048575 ?_; try simp only [putQ]; refine stN fo40_11 o40_11_20 2097151 ?_; try simp only [putQ]; refine stN fo40_11 o40_11_21 4194303 ?_; try simp only [putQ]; refine stN fo40_11 o40_11_22 8388607 ?_; try simp only [putQ]; refine stN fo40_11 o40_11_23 16777215 ?_; try simp only [putQ]; refine stN fo40_11 o40_11_24 33554431 ?_; try simp only [putQ]; refine stN fo40_11 o40_11_25 67108863 ?_; try simp only [putQ]; refine stN fo40_11 o40_11_26 134217727 ?_; try simp only [putQ]; refine stN fo40_11 o40_11_27 268435455 ?_; try simp only [putQ]; refine stN fo40_11 o40_11_28 536870911 ?_; try simp only [putQ]; refine stN fo40_11 o40_11_29 1073741823 ?_; try simp only [putQ]; refine stN fo40_11 o40_11_30 2147483647 ?_; try simp only [putQ]; refine stN fo40_11 o40_11_31 4294967295 ?_; try simp only [putQ]; refine stN fo40_11 o40_11_32 8589934591 ?_; try simp only [putQ]; refine stN fo40_11 o40_11_33 17179869183 ?_; try simp only [putQ]; refine stN fo40_11 o40_11_34 34359738367 ?_; try simp only [putQ]; refine stN fo40_11 o40_11_35 68719476735 ?_; try simp only [putQ]; refine stY fo40_11 o40_11_36 137438953471 ?_; try simp only [putQ]
                              refine wpAnyH_done (by kernel_rfl) ?_ _
                              go_wp2
                              go_ret
                              exact ⟨ret_bool (hno.out (.inl (by rw [hso3.out]; exact hnt.out (.inl (by simp [ofB, y6.out]))))).symm, btrans b0 hHeld.2.2.2.2.1⟩
                          · have y6 : Hid (inb z 0 7 = true) := z6
                            clear z6
                            by_cases e7 : sz = sm
                            · have y7 : Hid (sz = sm) := e7
                              clear e7
                              by_cases e8 : z ≤ zp
                              · skip
                                as_aux_lemma =>
                                  refine wp_region_m (S := (fun w' => w'.cell? ⟨w.heap.size, 0, none⟩ = some (.int .i64 me) ∧ w'.cell? ⟨K2, 3, none⟩ = some (.slice (some ⟨bb, ob, none⟩) bl bc) ∧ w'.cell? ⟨bb, ob + (t2 + 1), none⟩ = some (.int .i64 z) ∧ w'.cell? ⟨bb, ob + t2, none⟩ = some (.int .i64 zp) ∧ Below u.heap.size u w' ∧ Below w2.drew.heap.size w2.drew w')) o40_11 37 fo40_11 ?_ (fun hHeld => ?_)
                                  · (try dsimp only); exact ⟨keep_drew m0, keep_drew m3, keep_drew ct, keep_drew cp, hBf.drew, hbt2.drew⟩
                                  refine stY fo40_11 o40_11_0 1 ?_; try simp only [putQ]; refine stY fo40_11 o40_11_1 3 ?_; try simp only [putQ]; refine stY fo40_11 o40_11_2 7 ?_; try simp only [putQ]; refine stY fo40_11 o40_11_3 15 ?_; try simp only [putQ]; refine stY fo40_11 o40_11_4 31 ?_; try simp only [putQ]
                                  refine stC fo40_11 o40_11_5 63 (fun K hK => ?_)
                                  go_simp
                                  refine (lin_lit z 0 7 true y6.out _).mono ?_; rintro r w5 ⟨rfl, hw⟩; obtain rfl := hw.symm; clear hw
                                  go_wp2_with fail
                                  refine hK.out _ _ ?_ (fun hHeld => ?_)
                                  · (try dsimp only); exact hHeld
                                  clear hK K
                                  (try simp only [putQ]); refine stY fo40_11 o40_11_6 127 ?_; try simp only [putQ]; refine stY fo40_11 o40_11_7 255 ?_; try simp only [putQ]; refine stY fo40_11 o40_11_8 511 ?_; try simp only [putQ]; refine stY fo40_11 o40_11_9 1023 ?_; try simp only [putQ]; refine stY fo40_11 o40_11_10 2047 ?_; try simp only [putQ]; refine stY fo40_11 o40_11_11 4095 ?_; try simp only [putQ]; refine stY fo40_11 o40_11_12 8191 ?_; try simp only [putQ]; refine stY fo40_11 o40_11_14 24575 ?_; try simp only [putQ]; refine stY fo40_11 o40_11_15 57343 ?_; try simp only [putQ]
                                  refine stC fo40_11 o40_11_13 65535 (fun K hK => ?_)
                                  go_simp
                                  refine (lsite_any z _).mono ?_; rintro r w5 ⟨rfl, hw⟩; obtain rfl := hw.symm; clear hw; rw [hsz.out]
                                  go_wp2_with fail
                                  refine hK.out _ _ ?_ (fun hHeld => ?_)
                                  · (try dsimp only); exact hHeld
                                  clear hK K
                                  (try simp only [putQ])
                                  refine stC fo40_11 o40_11_16 131071 (fun K hK => ?_)
                                  go_simp
                                  refine (lsite_any me _).mono ?_; rintro r w5 ⟨rfl, hw⟩; obtain rfl := hw.symm; clear hw; rw [hsm.out]
                                  go_wp2_with fail
                                  refine hK.out _ _ ?_ (fun hHeld => ?_)
                                  · (try dsimp only); exact hHeld
                                  clear hK K
                                  (try simp only [putQ])
                                  refine stV (.bool false) fo40_11 o40_11_17 262143 ?_ ?_
                                  · (intro w hSw; (try dsimp only at hSw); go_simp; all_goals (first | with_reducible rfl | (simp [y7.out]; done) | assumption | (simp; done) | (simp; omega)))
                                  (try simp only [putQ]); refine stY fo40_11 o40_11_18 524287 ?_; try simp only [putQ]; refine stY fo40_11 o40_11_19 1048575 ?_; try simp only [putQ]; refine stY fo40_11 o40_11_20 2097151 ?_; try simp only [putQ]
                                  refine stV (.bool true) fo40_11 o40_11_21 4194303 ?_ ?_
                                  · (intro w hSw; (try dsimp only at hSw); go_simp; all_goals (first | with_reducible rfl |  assumption | (simp; done) | (simp; omega)))
                                  (try simp only [putQ]); refine stY fo40_11 o40_11_22 8388607 ?_; try simp only [putQ]; refine stY fo40_11 o40_11_23 16777215 ?_; try simp only [putQ]; refine stY fo40_11 o40_11_24 33554431 ?_; try simp only [putQ]; refine stY fo40_11 o40_11_25 67108863 ?_; try simp only [putQ]; refine stY fo40_11 o40_11_26 134217727 ?_; try simp only [putQ]; refine stY fo40_11 o40_11_27 268435455 ?_; try simp only [putQ]; refine stY fo40_11 o40_11_28 536870911 ?_; try simp only [putQ]; refine stY fo40_11 o40_11_29 1073741823 ?_; try simp only [putQ]; refine stY fo40_11 o40_11_30 2147483647 ?_; try simp only [putQ]; refine stY fo40_11 o40_11_31 4294967295 ?_; try simp only [putQ]; refine stY fo40_11 o40_11_32 8589934591 ?_; try simp only [putQ]; refine stY fo40_11 o40_11_33 17179869183 ?_; try simp only [putQ]
                                  refine stV (.bool true) fo40_11 o40_11_34 34359738367 ?_ ?_
                                  · (intro w hSw; (try dsimp only at hSw); go_simp; all_goals (first | with_reducible rfl |  assumption | (simp; done) | (simp; omega)))
                                  (try simp only [putQ]); refine stY fo40_11 o40_11_35 68719476735 ?_; try simp only [putQ]; refine stY fo40_11 o40_11_36 137438953471 ?_; try simp only [putQ]
                                  refine wpAnyH_done (by kernel_rfl) ?_ _
                                  go_wp2
                                  go_ret
                                  exact ⟨ret_bool (hno.out (.inl (by rw [hso3.out]; exact hnt.out (.inr ⟨by omega, by rw [Nat.add_sub_cancel, hzp.out]; omega⟩)))).symm, btrans b0 hHeld.2.2.2.2.1⟩
                              · skip
                                refine wp_region_m (S := (fun w' => w'.cell? ⟨w.heap.size, 0, none⟩ = some (.int .i64 me) ∧ w'.cell? ⟨K2, 3, none⟩ = some (.slice (some ⟨bb, ob, none⟩) bl bc) ∧ w'.cell? ⟨bb, ob + (t2 + 1), none⟩ = some (.int .i64 z) ∧ w'.cell? ⟨bb, ob + t2, none⟩ = some (.int .i64 zp) ∧ Below u.heap.size u w' ∧ Below w2.drew.heap.size w2.drew w')) o40_11 37 fo40_11 ?_ (fun hHeld => ?_)
                                · (try dsimp only); exact ⟨keep_drew m0, keep_drew m3, keep_drew ct, keep_drew cp, hBf.drew, hbt2.drew⟩
                                refine stY fo40_11 o40_11_0 1 ?_; try simp only [putQ]; refine stY fo40_11 o40_11_1 3 ?_; try simp only [putQ]; refine stY fo40_11 o40_11_2 7 ?_; try simp only [putQ]; refine stY fo40_11 o40_11_3 15 ?_; try simp only [putQ]; refine stY fo40_11 o40_11_4 31 ?_; try simp only [putQ]
                                refine stC fo40_11 o40_11_5 63 (fun K hK => ?_)
                                go_simp
                                refine (lin_lit z 0 7 true y6.out _).mono ?_; rintro r w5 ⟨rfl, hw⟩; obtain rfl := hw.symm; clear hw
                                go_wp2_with fail
                                refine hK.out _ _ ?_ (fun hHeld => ?_)
                                · (try dsimp only); exact hHeld
                                clear hK K
                                (try simp only [putQ]); refine stY fo40_11 o40_11_6 127 ?_; try simp only [putQ]; refine stY fo40_11 o40_11_7 255 ?_; try simp only [putQ]; refine stY fo40_11 o40_11_8 511 ?_; try simp only [putQ]; refine stY fo40_11 o40_11_9 1023 ?_; try simp only [putQ]; refine stY fo40_11 o40_11_10 2047 ?_; try simp only [putQ]; refine stY fo40_11 o40_11_11 4095 ?_; try simp only [putQ]; refine stY fo40_11 o40_11_12 8191 ?_; try simp only [putQ]; refine stY fo40_11 o40_11_14 24575 ?_; try simp only [putQ]; refine stY fo40_11 o40_11_15 57343 ?_; try simp only [putQ]
                                refine stC fo40_11 o40_11_13 65535 (fun K hK => ?_)
                                go_simp
                                refine (lsite_any z _).mono ?_; rintro r w5 ⟨rfl, hw⟩; obtain rfl := hw.symm; clear hw; rw [hsz.out]
                                go_wp2_with fail
                                refine hK.out _ _ ?_ (fun hHeld => ?_)
                                · (try dsimp only); exact hHeld
                                clear hK K
                                (try simp only [putQ])
                                refine stC fo40_11 o40_11_16 131071 (fun K hK => ?_)
                                go_simp
                                refine (lsite_any me _).mono ?_; rintro r w5 ⟨rfl, hw⟩; obtain rfl := hw.symm; clear hw; rw [hsm.out]
                                go_wp2_with fail
                                refine hK.out _ _ ?_ (fun hHeld => ?_)
                                · (try dsimp only); exact hHeld
                                clear hK K
                                (try simp only [putQ])
                                refine stV (.bool false) fo40_11 o40_11_17 262143 ?_ ?_
                                · (intro w hSw; (try dsimp only at hSw); go_simp; all_goals (first | with_reducible rfl | (simp [y7.out]; done) | assumption | (simp; done) | (simp; omega)))
                                (try simp only [putQ]); refine stY fo40_11 o40_11_18 524287 ?_; try simp only [putQ]; refine stY fo40_11 o40_11_19 1048575 ?_; try simp only [putQ]; refine stY fo40_11 o40_11_20 2097151 ?_; try simp only [putQ]
                                refine stV (.bool true) fo40_11 o40_11_21 4194303 ?_ ?_
                                · (intro w hSw; (try dsimp only at hSw); go_simp; all_goals (first | with_reducible rfl |  assumption | (simp; done) | (simp; omega)))
                                (try simp only [putQ]); refine stY fo40_11 o40_11_22 8388607 ?_; try simp only [putQ]; refine stY fo40_11 o40_11_23 16777215 ?_; try simp only [putQ]; refine stY fo40_11 o40_11_24 33554431 ?_; try simp only [putQ]; refine stY fo40_11 o40_11_25 67108863 ?_; try simp only [putQ]; refine stY fo40_11 o40_11_26 134217727 ?_; try simp only [putQ]; refine stY fo40_11 o40_11_27 268435455 ?_; try simp only [putQ]; refine stY fo40_11 o40_11_28 536870911 ?_; try simp only [putQ]; refine stY fo40_11 o40_11_29 1073741823 ?_; try simp only [putQ]; refine stY fo40_11 o40_11_30 2147483647 ?_; try simp only [putQ]; refine stY fo40_11 o40_11_31 4294967295 ?_; try simp only [putQ]; refine stY fo40_11 o40_11_32 8589934591 ?_; try simp only [putQ]; refine stY fo40_11 o40_11_33 17179869183 ?_; try simp only [putQ]
                                refine stV (.bool false) fo40_11 o40_11_34 34359738367 ?_ ?_
                                · (intro w hSw; (try dsimp only at hSw); go_simp; all_goals (first | with_reducible rfl |  assumption | (simp; done) | (simp; omega)))
                                (try simp only [putQ]); refine stY fo40_11 o40_11_35 68719476735 ?_; try simp only [putQ]; refine stY fo40_11 o40_11_36 137438953471 ?_; try simp only [putQ]
                                refine wpAnyH_done (by kernel_rfl) ?_ _
                                go_wp2
                                go_roundw
                                case rel => exact ⟨(t2 + 1) + 1, by omega, by go_num, hHeld.2.2.2.2.2, hyt.out (by simp [ofB, y6.out, hsz.out, hsm.out, y7.out]), hyt2.out (fun _ => by rw [Nat.add_sub_cancel, hzp.out]; omega)⟩
                                case measure => simp [intOf]; omega
                            · skip
                              as_aux_lemma =>
                                refine wp_region_m (S := (fun w' => w'.cell? ⟨w.heap.size, 0, none⟩ = some (.int .i64 me) ∧ w'.cell? ⟨K2, 3, none⟩ = some (.slice (some ⟨bb, ob, none⟩) bl bc) ∧ w'.cell? ⟨bb, ob + (t2 + 1), none⟩ = some (.int .i64 z) ∧ w'.cell? ⟨bb, ob + t2, none⟩ = some (.int .i64 zp) ∧ Below u.heap.size u w' ∧ Below w2.drew.heap.size w2.drew w')) o40_11 37 fo40_11 ?_ (fun hHeld => ?_)
                                · (try dsimp only); exact ⟨keep_drew m0, keep_drew m3, keep_drew ct, keep_drew cp, hBf.drew, hbt2.drew⟩
                                refine stY fo40_11 o40_11_0 1 ?_; try simp only [putQ]; refine stY fo40_11 o40_11_1 3 ?_; try simp only [putQ]; refine stY fo40_11 o40_11_2 7 ?_; try simp only [putQ]; refine stY fo40_11 o40_11_3 15 ?_; try simp only [putQ]; refine stY fo40_11 o40_11_4 31 ?_; try simp only [putQ]
                                refine stC fo40_11 o40_11_5 63 (fun K hK => ?_)
                                go_simp
                                refine (lin_lit z 0 7 true y6.out _).mono ?_; rintro r w5 ⟨rfl, hw⟩; obtain rfl := hw.symm; clear hw
                                go_wp2_with fail
                                refine hK.out _ _ ?_ (fun hHeld => ?_)
                                · (try dsimp only); exact hHeld
                                clear hK K
                                (try simp only [putQ]); refine stY fo40_11 o40_11_6 127 ?_; try simp only [putQ]; refine stY fo40_11 o40_11_7 255 ?_; try simp only [putQ]; refine stY fo40_11 o40_11_8 511 ?_; try simp only [putQ]; refine stY fo40_11 o40_11_9 1023 ?_; try simp only [putQ]; refine stY fo40_11 o40_11_10 2047 ?_; try simp only [putQ]; refine stY fo40_11 o40_11_11 4095 ?_; try simp only [putQ]; refine stY fo40_11 o40_11_12 8191 ?_; try simp only [putQ]; refine stY fo40_11 o40_11_14 24575 ?_; try simp only [putQ]; refine stY fo40_11 o40_11_15 57343 ?_; try simp only [putQ]
                                refine stC fo40_11 o40_11_13 65535 (fun K hK => ?_)
                                go_simp
                                refine (lsite_any z _).mono ?_; rintro r w5 ⟨rfl, hw⟩; obtain rfl := hw.symm; clear hw; rw [hsz.out]
                                go_wp2_with fail
                                refine hK.out _ _ ?_ (fun hHeld => ?_)
                                · (try dsimp only); exact hHeld
                                clear hK K
                                (try simp only [putQ])
                                refine stC fo40_11 o40_11_16 131071 (fun K hK => ?_)
                                go_simp
                                refine (lsite_any me _).mono ?_; rintro r w5 ⟨rfl, hw⟩; obtain rfl := hw.symm; clear hw; rw [hsm.out]
                                go_wp2_with fail
                                refine hK.out _ _ ?_ (fun hHeld => ?_)
                                · (try dsimp only); exact hHeld
                                clear hK K
                                (try simp only [putQ])
                                refine stV (.bool true) fo40_11 o40_11_17 262143 ?_ ?_
                                · (intro w hSw; (try dsimp only at hSw); go_simp; all_goals (first | with_reducible rfl |  assumption | (simp; done) | (simp; omega)))
                                (try simp only [putQ]); refine stY fo40_11 o40_11_18 524287 ?_; try simp only [putQ]; refine stY fo40_11 o40_11_19 1048575 ?_; try simp only [putQ]; refine stN fo40_11 o40_11_20 2097151 ?_; try simp only [putQ]; refine stN fo40_11 o40_11_21 4194303 ?_; try simp only [putQ]; refine stN fo40_11 o40_11_22 8388607 ?_; try simp only [putQ]; refine stN fo40_11 o40_11_23 16777215 ?_; try simp only [putQ]; refine stN fo40_11 o40_11_24 33554431 ?_; try simp only [putQ]; refine stN fo40_11 o40_11_25 67108863 ?_; try simp only [putQ]; refine stN fo40_11 o40_11_26 134217727 ?_; try simp only [putQ]; refine stN fo40_11 o40_11_27 268435455 ?_; try simp only [putQ]; refine stN fo40_11 o40_11_28 536870911 ?_; try simp only [putQ]; refine stN fo40_11 o40_11_29 1073741823 ?_; try simp only [putQ]; refine stN fo40_11 o40_11_30 2147483647 ?_; try simp only [putQ]; refine stN fo40_11 o40_11_31 4294967295 ?_; try simp only [putQ]; refine stN fo40_11 o40_11_32 8589934591 ?_; try simp only [putQ]; refine stN fo40_11 o40_11_33 17179869183 ?_; try simp only [putQ]; refine stN fo40_11 o40_11_34 34359738367 ?_; try simp only [putQ]; refine stN fo40_11 o40_11_35 68719476735 ?_; try simp only [putQ]; refine stY fo40_11 o40_11_36 137438953471 ?_; try simp only [putQ]
                                refine wpAnyH_done (by kernel_rfl) ?_ _
                                go_wp2
                                go_ret
                                exact ⟨ret_bool (hno.out (.inl (by rw [hso3.out]; exact hnt.out (.inl (by simp [ofB, hsz.out, hsm.out, e7]))))).symm, btrans b0 hHeld.2.2.2.2.1⟩
                      · have hy : Hid ((risB bl bf && obA me bl bf) = true) := by
                          rw [Hid]; unfold risB obA; rw [decide_eq_true fun j hj h0 => hasct j (by omega) h0, decide_eq_true fun j hj => hallt j (by omega)]; rfl
                        clear hallt hasct
                        go_wp2
                        go_roundw
                        case rel => exact ⟨(m + 1) + 1, by omega, by go_num, hBf, hyes.out (by rw [hso3.out]; exact hy.out), hyes2.out (fun _ => by rw [Nat.add_sub_cancel, hn0.out]; omega)⟩
                        case measure => simp [intOf]; omega
              · skip
                as_aux_lemma =>
                  refine wp_region_m (S := (fun w' => w'.cell? ⟨w.heap.size, 0, none⟩ = some (.int .i64 me) ∧ w'.cell? ⟨w.heap.size, 5, none⟩ = some (.int .i64 now) ∧ w'.cell? ⟨w.heap.size, 8, none⟩ = some (.slice (some ⟨bt, ot, none⟩) tl tc) ∧ w'.cell? ⟨w.heap.size, 14, none⟩ = some (.slice (some ⟨b, off, none⟩) dl dc) ∧ w'.cell? ⟨K2, 0, none⟩ = some (.int .i64 n) ∧ w'.cell? ⟨K2, 1, none⟩ = some (.int .i64 i) ∧ w'.cell? ⟨K2, 2, none⟩ = some (.int .i64 s) ∧ w'.cell? ⟨K2, 3, none⟩ = some (.slice ba bl bc) ∧ ISl w' ba bl bf ∧ w'.cell? ⟨bt, ot + k2 * 4 + 1, none⟩ = some (.int .i64 fi) ∧ w'.cell? ⟨bt, ot + k2 * 4 + 2, none⟩ = some (.int .i64 fs) ∧ w'.cell? ⟨b, off + m * 4, none⟩ = some (.int .i64 n0) ∧ Below u.heap.size u w')) o40_6 52 fo40_6 ?_ (fun hHeld => ?_)
                  · (try dsimp only); exact ⟨keep_drew g0, keep_drew g5, keep_drew g8, keep_drew g14, keep_drew r10, keep_drew r11, keep_drew r12, keep_drew r13, q3.below (Below.refl _ _).drew, keep_drew t1, keep_drew t2, keep_drew p0, b3.drew⟩
                  refine stY fo40_6 o40_6_0 1 ?_; try simp only [putQ]
                  refine stV (.bool true) fo40_6 o40_6_1 3 ?_ ?_
                  · (intro w hSw; (try dsimp only at hSw); go_simp; all_goals (first | with_reducible rfl |  assumption | (simp; done) | (simp; omega)))
                  (try simp only [putQ]); refine stY fo40_6 o40_6_2 7 ?_; try simp only [putQ]; refine stY fo40_6 o40_6_3 15 ?_; try simp only [putQ]; refine stY fo40_6 o40_6_4 31 ?_; try simp only [putQ]; refine stY fo40_6 o40_6_5 63 ?_; try simp only [putQ]; refine stY fo40_6 o40_6_6 127 ?_; try simp only [putQ]; refine stY fo40_6 o40_6_7 255 ?_; try simp only [putQ]; refine stY fo40_6 o40_6_8 511 ?_; try simp only [putQ]; refine stY fo40_6 o40_6_9 1023 ?_; try simp only [putQ]; refine stY fo40_6 o40_6_10 2047 ?_; try simp only [putQ]; refine stY fo40_6 o40_6_11 4095 ?_; try simp only [putQ]
                  refine stV (.bool false) fo40_6 o40_6_12 8191 ?_ ?_
                  · (intro w hSw; (try dsimp only at hSw); go_simp; all_goals (first | with_reducible rfl |  assumption | (simp; done) | (simp; omega)))
                  (try simp only [putQ]); refine stY fo40_6 o40_6_13 16383 ?_; try simp only [putQ]; refine stY fo40_6 o40_6_14 32767 ?_; try simp only [putQ]; refine stY fo40_6 o40_6_15 65535 ?_; try simp only [putQ]
                  refine stV (.bool false) fo40_6 o40_6_16 131071 ?_ ?_
                  · (intro w hSw; (try dsimp only at hSw); go_simp; all_goals (first | with_reducible rfl |  assumption | (simp; done) | (simp; omega)))
                  (try simp only [putQ]); refine stY fo40_6 o40_6_17 262143 ?_; try simp only [putQ]; refine stY fo40_6 o40_6_18 524287 ?_; try simp only [putQ]; refine stY fo40_6 o40_6_19 1048575 ?_; try simp only [putQ]; refine stY fo40_6 o40_6_20 2097151 ?_; try simp only [putQ]; refine stY fo40_6 o40_6_21 4194303 ?_; try simp only [putQ]; refine stY fo40_6 o40_6_22 8388607 ?_; try simp only [putQ]; refine stY fo40_6 o40_6_23 16777215 ?_; try simp only [putQ]; refine stY fo40_6 o40_6_24 33554431 ?_; try simp only [putQ]
                  refine stV (.bool false) fo40_6 o40_6_25 67108863 ?_ ?_
                  · (intro w hSw; (try dsimp only at hSw); go_simp; all_goals (first | with_reducible rfl | (simp [y2.out]; done) | assumption | (simp; done) | (simp; omega)))
                  (try simp only [putQ]); refine stY fo40_6 o40_6_26 134217727 ?_; try simp only [putQ]; refine stY fo40_6 o40_6_27 268435455 ?_; try simp only [putQ]; refine stY fo40_6 o40_6_28 536870911 ?_; try simp only [putQ]; refine stY fo40_6 o40_6_29 1073741823 ?_; try simp only [putQ]; refine stY fo40_6 o40_6_30 2147483647 ?_; try simp only [putQ]; refine stY fo40_6 o40_6_31 4294967295 ?_; try simp only [putQ]; refine stY fo40_6 o40_6_32 8589934591 ?_; try simp only [putQ]; refine stY fo40_6 o40_6_33 17179869183 ?_; try simp only [putQ]; refine stY fo40_6 o40_6_34 34359738367 ?_; try simp only [putQ]; refine stY fo40_6 o40_6_35 68719476735 ?_; try simp only [putQ]
                  refine stV (.bool true) fo40_6 o40_6_36 137438953471 ?_ ?_
                  · (intro w hSw; (try dsimp only at hSw); go_simp; all_goals (first | with_reducible rfl |  assumption | (simp; done) | (simp; omega)))
                  (try simp only [putQ]); refine stY fo40_6 o40_6_37 274877906943 ?_; try simp only [putQ]; refine stY fo40_6 o40_6_38 549755813887 ?_; try simp only [putQ]; refine stN fo40_6 o40_6_39 1099511627775 ?_; try simp only [putQ]; refine stN fo40_6 o40_6_40 2199023255551 ?_; try simp only [putQ]; refine stN fo40_6 o40_6_41 4398046511103 ?_; try simp only [putQ]; refine stN fo40_6 o40_6_42 8796093022207 ?_; try simp only [putQ]; refine stN fo40_6 o40_6_43 17592186044415 ?_; try simp only [putQ]; refine stN fo40_6 o40_6_44 35184372088831 ?_; try simp only [putQ]; refine stY fo40_6 o40_6_45 70368744177663 ?_; try simp only [putQ]; refine stY fo40_6 o40_6_46 140737488355327 ?_; try simp only [putQ]; refine stN fo40_6 o40_6_47 281474976710655 ?_; try simp only [putQ]; refine stN fo40_6 o40_6_48 562949953421311 ?_; try simp only [putQ]; refine stN fo40_6 o40_6_49 1125899906842623 ?_; try simp only [putQ]; refine stN fo40_6 o40_6_50 2251799813685247 ?_; try simp only [putQ]; refine stY fo40_6 o40_6_51 4503599627370495 ?_; try simp only [putQ]
                  refine wpAnyH_done (by kernel_rfl) ?_ _
                  go_wp2
                  go_ret
                  exact ⟨ret_bool (hno.out (.inl (by rw [hso2.out]; simp [e5]))).symm, btrans b0 hHeld.2.2.2.2.2.2.2.2.2.2.2.2⟩
            · skip
              as_aux_lemma =>
                refine wp_region_m (S := (fun w' => w'.cell? ⟨w.heap.size, 0, none⟩ = some (.int .i64 me) ∧ w'.cell? ⟨w.heap.size, 5, none⟩ = some (.int .i64 now) ∧ w'.cell? ⟨w.heap.size, 8, none⟩ = some (.slice (some ⟨bt, ot, none⟩) tl tc) ∧ w'.cell? ⟨w.heap.size, 14, none⟩ = some (.slice (some ⟨b, off, none⟩) dl dc) ∧ w'.cell? ⟨K2, 0, none⟩ = some (.int .i64 n) ∧ w'.cell? ⟨K2, 1, none⟩ = some (.int .i64 i) ∧ w'.cell? ⟨K2, 2, none⟩ = some (.int .i64 s) ∧ w'.cell? ⟨K2, 3, none⟩ = some (.slice ba bl bc) ∧ ISl w' ba bl bf ∧ w'.cell? ⟨bt, ot + k2 * 4 + 1, none⟩ = some (.int .i64 fi) ∧ w'.cell? ⟨bt, ot + k2 * 4 + 2, none⟩ = some (.int .i64 fs) ∧ w'.cell? ⟨b, off + m * 4, none⟩ = some (.int .i64 n0) ∧ Below u.heap.size u w')) o40_6 52 fo40_6 ?_ (fun hHeld => ?_)
                · (try dsimp only); exact ⟨keep_drew g0, keep_drew g5, keep_drew g8, keep_drew g14, keep_drew r10, keep_drew r11, keep_drew r12, keep_drew r13, q3.below (Below.refl _ _).drew, keep_drew t1, keep_drew t2, keep_drew p0, b3.drew⟩
                refine stY fo40_6 o40_6_0 1 ?_; try simp only [putQ]
                refine stV (.bool true) fo40_6 o40_6_1 3 ?_ ?_
                · (intro w hSw; (try dsimp only at hSw); go_simp; all_goals (first | with_reducible rfl |  assumption | (simp; done) | (simp; omega)))
                (try simp only [putQ]); refine stY fo40_6 o40_6_2 7 ?_; try simp only [putQ]; refine stY fo40_6 o40_6_3 15 ?_; try simp only [putQ]; refine stY fo40_6 o40_6_4 31 ?_; try simp only [putQ]; refine stY fo40_6 o40_6_5 63 ?_; try simp only [putQ]; refine stY fo40_6 o40_6_6 127 ?_; try simp only [putQ]; refine stY fo40_6 o40_6_7 255 ?_; try simp only [putQ]; refine stY fo40_6 o40_6_8 511 ?_; try simp only [putQ]; refine stY fo40_6 o40_6_9 1023 ?_; try simp only [putQ]; refine stY fo40_6 o40_6_10 2047 ?_; try simp only [putQ]; refine stY fo40_6 o40_6_11 4095 ?_; try simp only [putQ]
                refine stV (.bool false) fo40_6 o40_6_12 8191 ?_ ?_
                · (intro w hSw; (try dsimp only at hSw); go_simp; all_goals (first | with_reducible rfl |  assumption | (simp; done) | (simp; omega)))
                (try simp only [putQ]); refine stY fo40_6 o40_6_13 16383 ?_; try simp only [putQ]; refine stY fo40_6 o40_6_14 32767 ?_; try simp only [putQ]; refine stY fo40_6 o40_6_15 65535 ?_; try simp only [putQ]
                refine stV (.bool false) fo40_6 o40_6_16 131071 ?_ ?_
                · (intro w hSw; (try dsimp only at hSw); go_simp; all_goals (first | with_reducible rfl |  assumption | (simp; done) | (simp; omega)))
                (try simp only [putQ]); refine stY fo40_6 o40_6_17 262143 ?_; try simp only [putQ]; refine stY fo40_6 o40_6_18 524287 ?_; try simp only [putQ]; refine stY fo40_6 o40_6_19 1048575 ?_; try simp only [putQ]; refine stY fo40_6 o40_6_20 2097151 ?_; try simp only [putQ]; refine stY fo40_6 o40_6_21 4194303 ?_; try simp only [putQ]; refine stY fo40_6 o40_6_22 8388607 ?_; try simp only [putQ]; refine stY fo40_6 o40_6_23 16777215 ?_; try simp only [putQ]; refine stY fo40_6 o40_6_24 33554431 ?_; try simp only [putQ]
                refine stV (.bool true) fo40_6 o40_6_25 67108863 ?_ ?_
                · (intro w hSw; (try dsimp only at hSw); go_simp; all_goals (first | with_reducible rfl |  assumption | (simp; done) | (simp; omega)))
                (try simp only [putQ]); refine stY fo40_6 o40_6_26 134217727 ?_; try simp only [putQ]; refine stY fo40_6 o40_6_27 268435455 ?_; try simp only [putQ]; refine stN fo40_6 o40_6_28 536870911 ?_; try simp only [putQ]; refine stN fo40_6 o40_6_29 1073741823 ?_; try simp only [putQ]; refine stN fo40_6 o40_6_30 2147483647 ?_; try simp only [putQ]; refine stN fo40_6 o40_6_31 4294967295 ?_; try simp only [putQ]; refine stN fo40_6 o40_6_32 8589934591 ?_; try simp only [putQ]; refine stN fo40_6 o40_6_33 17179869183 ?_; try simp only [putQ]; refine stN fo40_6 o40_6_34 34359738367 ?_; try simp only [putQ]; refine stN fo40_6 o40_6_35 68719476735 ?_; try simp only [putQ]; refine stN fo40_6 o40_6_36 137438953471 ?_; try simp only [putQ]; refine stY fo40_6 o40_6_37 274877906943 ?_; try simp only [putQ]; refine stY fo40_6 o40_6_38 549755813887 ?_; try simp only [putQ]; refine stN fo40_6 o40_6_39 1099511627775 ?_; try simp only [putQ]; refine stN fo40_6 o40_6_40 2199023255551 ?_; try simp only [putQ]; refine stN fo40_6 o40_6_41 4398046511103 ?_; try simp only [putQ]; refine stN fo40_6 o40_6_42 8796093022207 ?_; try simp only [putQ]; refine stN fo40_6 o40_6_43 17592186044415 ?_; try simp only [putQ]; refine stN fo40_6 o40_6_44 35184372088831 ?_; try simp only [putQ]; refine stY fo40_6 o40_6_45 70368744177663 ?_; try simp only [putQ]; refine stY fo40_6 o40_6_46 140737488355327 ?_; try simp only [putQ]; refine stN fo40_6 o40_6_47 281474976710655 ?_; try simp only [putQ]; refine stN fo40_6 o40_6_48 562949953421311 ?_; try simp only [putQ]; refine stN fo40_6 o40_6_49 1125899906842623 ?_; try simp only [putQ]; refine stN fo40_6 o40_6_50 2251799813685247 ?_; try simp only [putQ]; refine stY fo40_6 o40_6_51 4503599627370495 ?_; try simp only [putQ]
                refine wpAnyH_done (by kernel_rfl) ?_ _
                go_wp2
                go_ret
                exact ⟨ret_bool (hno.out (.inl (by rw [hso2.out]; simp [e4]))).symm, btrans b0 hHeld.2.2.2.2.2.2.2.2.2.2.2.2⟩
    · have hyA : Hid ((Dtasc dl G && dbA me now tl F dl G) = true) := by
        rw [Hid]; unfold Dtasc risB dbA; rw [decide_eq_true fun j hj h0 => hasc j (by omega) h0, decide_eq_true fun j hj => hall j (by omega)]; rfl
      clear hall hasc
      go_wp2_with fail
      go_loopw [7, 8] (fun c i wt => ∃ t : Nat, t ≤ tl ∧ i = .int .i64 t ∧ c = .int .i64 (cntN F 2 t : Int) ∧ Below wr.heap.size wr wt) (fun _ i _ => tl - (intOf i).toNat)
      case atStart => exact ⟨0, by omega, rfl, rfl, Below.refl _ _⟩
      case round =>
        obtain ⟨t, ht, rfl, rfl, hbt⟩ := hrel
        have m8 := keep_below hbt f8
        have m14 := keep_below hbt f14
        have hc := cnt_le F 2 t
        by_cases hlt2 : t < tl
        · obtain ⟨bt, ot, rfl, hbb, hft⟩ := hF (by omega)
          obtain ⟨t0, t1, t2, t3⟩ := (hft.below hbt hbb) t hlt2
          have j3 : (0 : Int) ≤ (t : Int) := by omega
          have j4 : (t : Int) < (tl : Int) := by omega
          by_cases hs : (F t).s = 2
          · have g3 : Hid (cntN F 2 (t + 1) = cntN F 2 t + 1) := by unfold Hid; rw [cntN, if_pos hs]
            generalize cntN F 2 t = c at *
            go_wp2
            go_roundw
            case rel => exact ⟨t + 1, by omega, by go_num, by rw [g3.out]; go_num, hbt⟩
            case measure => simp [intOf]; omega
          · have g3 : Hid (cntN F 2 (t + 1) = cntN F 2 t) := by unfold Hid; rw [cntN, if_neg hs]
            generalize cntN F 2 t = c at *
            go_wp2
            go_roundw
            case rel => exact ⟨t + 1, by omega, by go_num, by rw [g3.out], hbt⟩
            case measure => simp [intOf]; omega
        · have e : t = tl := by omega
          subst e
          have hz : Hid (sdbsB me now t F dl G = ((cntN F 2 t : Int) == (dl : Int))) := by
            rw [Hid]; unfold sdbsB; rw [hyA.out, Bool.true_and]
          generalize cntN F 2 t = c at *
          go_wp2
          go_ret
          exact ⟨ret_bool (by rw [hz.out]), btrans b0 (btrans hb hbt)⟩
end Go.Proofs.YtnplhfgdbabmaaaGreat
