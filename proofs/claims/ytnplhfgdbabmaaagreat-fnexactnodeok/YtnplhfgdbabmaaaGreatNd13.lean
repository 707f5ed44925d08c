/- Nodes, the model's way: what is known of other sites. -/
import Derived.Test.YtnplhfgdbabmaaaGreatNd11
import Derived.Test.YtnplhfgdbabmaaaGreatNd12
import Derived.Test.YtnplhfgdbabmaaaGreatMsk
namespace Go.Proofs.YtnplhfgdbabmaaaGreat
open Go.ChangeShapes Go.WideShapes Go.ChangeAt Go.RowKit
attribute [local go_sem ↓] Go.wp_at_zero Go.wp_at_succ
def o43_5 : Array Oper := #[{ dst := some 17, op := .fieldAddr 97 (.tmp 4) 0, type := 0, pos := "l21_node.go:103", after := #[], guard := none }, { dst := some 18, op := .load 3 (.tmp 17), type := 3, pos := "l21_node.go:103", after := #[{ on := 0, ground := .data }], guard := none }, { dst := some 19, op := .call { callee := .value (.func 33), args := #[.tmp 18, .const (.int .i64 0), .const (.int .i64 1)], argTypes := #[3, 3, 3] }, type := 4, pos := "l21_node.go:103", after := #[{ on := 1, ground := .data }], guard := none }, { dst := some 20, op := .unOp .not 4 (.tmp 19), type := 4, pos := "l21_node.go:103", after := #[{ on := 2, ground := .data }], guard := none }, { dst := some 21, op := .move (.tmp 20), type := 4, pos := "l21_node.go:103", after := #[{ on := 3, ground := .data }, { on := 2, ground := .chain }], guard := none }, { dst := some 22, op := .fieldAddr 97 (.tmp 4) 0, type := 0, pos := "l21_node.go:103", after := #[{ on := 4, ground := .guard }], guard := some (4, false) }, { dst := some 23, op := .load 3 (.tmp 22), type := 3, pos := "l21_node.go:103", after := #[{ on := 5, ground := .data }, { on := 4, ground := .guard }], guard := some (4, false) }, { dst := some 24, op := .fieldAddr 43 (.tmp 1) 0, type := 0, pos := "l21_node.go:103", after := #[{ on := 4, ground := .guard }], guard := some (4, false) }, { dst := some 25, op := .load 3 (.tmp 24), type := 3, pos := "l21_node.go:103", after := #[{ on := 7, ground := .data }, { on := 4, ground := .guard }], guard := some (4, false) }, { dst := some 26, op := .call { callee := .value (.func 36), args := #[.tmp 25], argTypes := #[3] }, type := 3, pos := "l21_node.go:103", after := #[{ on := 8, ground := .data }, { on := 4, ground := .chain }, { on := 4, ground := .guard }], guard := some (4, false) }, { dst := some 27, op := .binOp .eql 3 (.tmp 23) (.tmp 26) 3, type := 4, pos := "l21_node.go:103", after := #[{ on := 6, ground := .data }, { on := 9, ground := .data }, { on := 4, ground := .guard }], guard := some (4, false) }, { dst := some 28, op := .pick (.tmp 21) (.const (.bool true)) (.tmp 27), type := 4, pos := "l21_node.go:103", after := #[{ on := 4, ground := .data }, { on := 10, ground := .data }], guard := none }, { dst := some 29, op := .move (.tmp 28), type := 4, pos := "l21_node.go:103", after := #[{ on := 11, ground := .data }, { on := 9, ground := .chain }], guard := none }, { dst := some 30, op := .move (.tmp 3), type := 3, pos := "l21_node.go:103", after := #[{ on := 12, ground := .guard }], guard := some (12, false) }, { dst := some 31, op := .binOp .gtr 3 (.tmp 30) (.const (.int .i64 0)) 3, type := 4, pos := "l21_node.go:103", after := #[{ on := 13, ground := .data }, { on := 12, ground := .guard }], guard := some (12, false) }, { dst := some 32, op := .move (.tmp 31), type := 4, pos := "l21_node.go:103", after := #[{ on := 14, ground := .data }, { on := 12, ground := .chain }, { on := 12, ground := .guard }], guard := some (12, false) }, { dst := some 33, op := .fieldAddr 43 (.tmp 1) 14, type := 0, pos := "l21_node.go:103", after := #[{ on := 15, ground := .guard }], guard := some (15, true) }, { dst := some 34, op := .load 41 (.tmp 33), type := 41, pos := "l21_node.go:103", after := #[{ on := 16, ground := .data }, { on := 15, ground := .guard }], guard := some (15, true) }, { dst := some 35, op := .move (.tmp 3), type := 3, pos := "l21_node.go:103", after := #[{ on := 15, ground := .guard }], guard := some (15, true) }, { dst := some 36, op := .binOp .sub 3 (.tmp 35) (.const (.int .i64 1)) 3, type := 3, pos := "l21_node.go:103", after := #[{ on := 18, ground := .data }, { on := 15, ground := .guard }], guard := some (15, true) }, { dst := some 37, op := .indexAddr 41 (.tmp 34) (.tmp 36), type := 0, pos := "l21_node.go:103", after := #[{ on := 17, ground := .data }, { on := 19, ground := .data }, { on := 15, ground := .guard }], guard := some (15, true) }, { dst := some 38, op := .fieldAddr 97 (.tmp 37) 0, type := 0, pos := "l21_node.go:103", after := #[{ on := 20, ground := .data }, { on := 15, ground := .guard }], guard := some (15, true) }, { dst := some 39, op := .load 3 (.tmp 38), type := 3, pos := "l21_node.go:103", after := #[{ on := 21, ground := .data }, { on := 15, ground := .guard }], guard := some (15, true) }, { dst := some 40, op := .fieldAddr 97 (.tmp 4) 0, type := 0, pos := "l21_node.go:103", after := #[{ on := 15, ground := .guard }], guard := some (15, true) }, { dst := some 41, op := .load 3 (.tmp 40), type := 3, pos := "l21_node.go:103", after := #[{ on := 23, ground := .data }, { on := 15, ground := .guard }], guard := some (15, true) }, { dst := some 42, op := .binOp .geq 3 (.tmp 39) (.tmp 41) 3, type := 4, pos := "l21_node.go:103", after := #[{ on := 22, ground := .data }, { on := 24, ground := .data }, { on := 15, ground := .guard }], guard := some (15, true) }, { dst := some 43, op := .pick (.tmp 32) (.tmp 42) (.const (.bool false)), type := 4, pos := "l21_node.go:103", after := #[{ on := 15, ground := .data }, { on := 25, ground := .data }, { on := 12, ground := .guard }], guard := some (12, false) }, { dst := some 44, op := .pick (.tmp 29) (.const (.bool true)) (.tmp 43), type := 4, pos := "l21_node.go:103", after := #[{ on := 12, ground := .data }, { on := 26, ground := .data }], guard := none }, { dst := some 45, op := .move (.tmp 44), type := 4, pos := "l21_node.go:103", after := #[{ on := 27, ground := .data }, { on := 15, ground := .chain }], guard := none }, { dst := some 46, op := .fieldAddr 97 (.tmp 4) 1, type := 0, pos := "l21_node.go:103", after := #[{ on := 28, ground := .guard }], guard := some (28, false) }, { dst := some 47, op := .load 35 (.tmp 46), type := 35, pos := "l21_node.go:103", after := #[{ on := 29, ground := .data }, { on := 28, ground := .guard }], guard := some (28, false) }, { dst := some 48, op := .call { callee := .builtin .len, args := #[.tmp 47], argTypes := #[35] }, type := 3, pos := "l21_node.go:103", after := #[{ on := 30, ground := .data }, { on := 28, ground := .guard }], guard := some (28, false) }, { dst := some 49, op := .binOp .eql 3 (.tmp 48) (.const (.int .i64 0)) 3, type := 4, pos := "l21_node.go:103", after := #[{ on := 31, ground := .data }, { on := 28, ground := .guard }], guard := some (28, false) }, { dst := some 50, op := .pick (.tmp 45) (.const (.bool true)) (.tmp 49), type := 4, pos := "l21_node.go:103", after := #[{ on := 28, ground := .data }, { on := 32, ground := .data }], guard := none }, { dst := some 51, op := .move (.tmp 50), type := 4, pos := "l21_node.go:103", after := #[{ on := 33, ground := .data }, { on := 28, ground := .chain }], guard := none }, { dst := some 52, op := .fieldAddr 97 (.tmp 4) 1, type := 0, pos := "l21_node.go:103", after := #[{ on := 34, ground := .guard }], guard := some (34, false) }, { dst := some 53, op := .load 35 (.tmp 52), type := 35, pos := "l21_node.go:103", after := #[{ on := 35, ground := .data }, { on := 34, ground := .guard }], guard := some (34, false) }, { dst := some 54, op := .call { callee := .value (.func 34), args := #[.tmp 53], argTypes := #[35] }, type := 4, pos := "l21_node.go:103", after := #[{ on := 36, ground := .data }, { on := 34, ground := .chain }, { on := 34, ground := .guard }], guard := some (34, false) }, { dst := some 55, op := .unOp .not 4 (.tmp 54), type := 4, pos := "l21_node.go:103", after := #[{ on := 37, ground := .data }, { on := 34, ground := .guard }], guard := some (34, false) }, { dst := some 56, op := .pick (.tmp 51) (.const (.bool true)) (.tmp 55), type := 4, pos := "l21_node.go:103", after := #[{ on := 34, ground := .data }, { on := 38, ground := .data }], guard := none }, { dst := some 57, op := .move (.tmp 56), type := 4, pos := "l21_node.go:103", after := #[{ on := 39, ground := .data }, { on := 37, ground := .chain }], guard := none }, { dst := some 58, op := .fieldAddr 97 (.tmp 4) 1, type := 0, pos := "l21_node.go:103", after := #[{ on := 40, ground := .guard }], guard := some (40, false) }, { dst := some 59, op := .load 35 (.tmp 58), type := 35, pos := "l21_node.go:103", after := #[{ on := 41, ground := .data }, { on := 40, ground := .guard }], guard := some (40, false) }, { dst := some 60, op := .fieldAddr 97 (.tmp 4) 0, type := 0, pos := "l21_node.go:103", after := #[{ on := 40, ground := .guard }], guard := some (40, false) }, { dst := some 61, op := .load 3 (.tmp 60), type := 3, pos := "l21_node.go:103", after := #[{ on := 43, ground := .data }, { on := 40, ground := .guard }], guard := some (40, false) }, { dst := some 62, op := .call { callee := .value (.func 35), args := #[.tmp 59, .tmp 61], argTypes := #[35, 3] }, type := 4, pos := "l21_node.go:103", after := #[{ on := 42, ground := .data }, { on := 44, ground := .data }, { on := 40, ground := .chain }, { on := 40, ground := .guard }], guard := some (40, false) }, { dst := some 63, op := .unOp .not 4 (.tmp 62), type := 4, pos := "l21_node.go:103", after := #[{ on := 45, ground := .data }, { on := 40, ground := .guard }], guard := some (40, false) }, { dst := some 64, op := .pick (.tmp 57) (.const (.bool true)) (.tmp 63), type := 4, pos := "l21_node.go:103", after := #[{ on := 40, ground := .data }, { on := 46, ground := .data }], guard := none }]
theorem fo43_5 : FreeN .any o43_5 48 := ⟨⟨by kernel_rfl⟩, by kernel_rfl⟩
theorem o43_5_0 : o43_5[0]? = some { dst := some 17, op := .fieldAddr 97 (.tmp 4) 0, type := 0, pos := "l21_node.go:103", after := #[], guard := none } := rfl
theorem o43_5_1 : o43_5[1]? = some { dst := some 18, op := .load 3 (.tmp 17), type := 3, pos := "l21_node.go:103", after := #[{ on := 0, ground := .data }], guard := none } := rfl
theorem o43_5_2 : o43_5[2]? = some { dst := some 19, op := .call { callee := .value (.func 33), args := #[.tmp 18, .const (.int .i64 0), .const (.int .i64 1)], argTypes := #[3, 3, 3] }, type := 4, pos := "l21_node.go:103", after := #[{ on := 1, ground := .data }], guard := none } := rfl
theorem o43_5_3 : o43_5[3]? = some { dst := some 20, op := .unOp .not 4 (.tmp 19), type := 4, pos := "l21_node.go:103", after := #[{ on := 2, ground := .data }], guard := none } := rfl
theorem o43_5_4 : o43_5[4]? = some { dst := some 21, op := .move (.tmp 20), type := 4, pos := "l21_node.go:103", after := #[{ on := 3, ground := .data }, { on := 2, ground := .chain }], guard := none } := rfl
theorem o43_5_5 : o43_5[5]? = some { dst := some 22, op := .fieldAddr 97 (.tmp 4) 0, type := 0, pos := "l21_node.go:103", after := #[{ on := 4, ground := .guard }], guard := some (4, false) } := rfl
theorem o43_5_6 : o43_5[6]? = some { dst := some 23, op := .load 3 (.tmp 22), type := 3, pos := "l21_node.go:103", after := #[{ on := 5, ground := .data }, { on := 4, ground := .guard }], guard := some (4, false) } := rfl
theorem o43_5_7 : o43_5[7]? = some { dst := some 24, op := .fieldAddr 43 (.tmp 1) 0, type := 0, pos := "l21_node.go:103", after := #[{ on := 4, ground := .guard }], guard := some (4, false) } := rfl
theorem o43_5_8 : o43_5[8]? = some { dst := some 25, op := .load 3 (.tmp 24), type := 3, pos := "l21_node.go:103", after := #[{ on := 7, ground := .data }, { on := 4, ground := .guard }], guard := some (4, false) } := rfl
theorem o43_5_9 : o43_5[9]? = some { dst := some 26, op := .call { callee := .value (.func 36), args := #[.tmp 25], argTypes := #[3] }, type := 3, pos := "l21_node.go:103", after := #[{ on := 8, ground := .data }, { on := 4, ground := .chain }, { on := 4, ground := .guard }], guard := some (4, false) } := rfl
theorem o43_5_10 : o43_5[10]? = some { dst := some 27, op := .binOp .eql 3 (.tmp 23) (.tmp 26) 3, type := 4, pos := "l21_node.go:103", after := #[{ on := 6, ground := .data }, { on := 9, ground := .data }, { on := 4, ground := .guard }], guard := some (4, false) } := rfl
theorem o43_5_11 : o43_5[11]? = some { dst := some 28, op := .pick (.tmp 21) (.const (.bool true)) (.tmp 27), type := 4, pos := "l21_node.go:103", after := #[{ on := 4, ground := .data }, { on := 10, ground := .data }], guard := none } := rfl
theorem o43_5_12 : o43_5[12]? = some { dst := some 29, op := .move (.tmp 28), type := 4, pos := "l21_node.go:103", after := #[{ on := 11, ground := .data }, { on := 9, ground := .chain }], guard := none } := rfl
theorem o43_5_13 : o43_5[13]? = some { dst := some 30, op := .move (.tmp 3), type := 3, pos := "l21_node.go:103", after := #[{ on := 12, ground := .guard }], guard := some (12, false) } := rfl
theorem o43_5_14 : o43_5[14]? = some { dst := some 31, op := .binOp .gtr 3 (.tmp 30) (.const (.int .i64 0)) 3, type := 4, pos := "l21_node.go:103", after := #[{ on := 13, ground := .data }, { on := 12, ground := .guard }], guard := some (12, false) } := rfl
theorem o43_5_15 : o43_5[15]? = some { dst := some 32, op := .move (.tmp 31), type := 4, pos := "l21_node.go:103", after := #[{ on := 14, ground := .data }, { on := 12, ground := .chain }, { on := 12, ground := .guard }], guard := some (12, false) } := rfl
theorem o43_5_16 : o43_5[16]? = some { dst := some 33, op := .fieldAddr 43 (.tmp 1) 14, type := 0, pos := "l21_node.go:103", after := #[{ on := 15, ground := .guard }], guard := some (15, true) } := rfl
theorem o43_5_17 : o43_5[17]? = some { dst := some 34, op := .load 41 (.tmp 33), type := 41, pos := "l21_node.go:103", after := #[{ on := 16, ground := .data }, { on := 15, ground := .guard }], guard := some (15, true) } := rfl
theorem o43_5_18 : o43_5[18]? = some { dst := some 35, op := .move (.tmp 3), type := 3, pos := "l21_node.go:103", after := #[{ on := 15, ground := .guard }], guard := some (15, true) } := rfl
theorem o43_5_19 : o43_5[19]? = some { dst := some 36, op := .binOp .sub 3 (.tmp 35) (.const (.int .i64 1)) 3, type := 3, pos := "l21_node.go:103", after := #[{ on := 18, ground := .data }, { on := 15, ground := .guard }], guard := some (15, true) } := rfl
theorem o43_5_20 : o43_5[20]? = some { dst := some 37, op := .indexAddr 41 (.tmp 34) (.tmp 36), type := 0, pos := "l21_node.go:103", after := #[{ on := 17, ground := .data }, { on := 19, ground := .data }, { on := 15, ground := .guard }], guard := some (15, true) } := rfl
theorem o43_5_21 : o43_5[21]? = some { dst := some 38, op := .fieldAddr 97 (.tmp 37) 0, type := 0, pos := "l21_node.go:103", after := #[{ on := 20, ground := .data }, { on := 15, ground := .guard }], guard := some (15, true) } := rfl
theorem o43_5_22 : o43_5[22]? = some { dst := some 39, op := .load 3 (.tmp 38), type := 3, pos := "l21_node.go:103", after := #[{ on := 21, ground := .data }, { on := 15, ground := .guard }], guard := some (15, true) } := rfl
theorem o43_5_23 : o43_5[23]? = some { dst := some 40, op := .fieldAddr 97 (.tmp 4) 0, type := 0, pos := "l21_node.go:103", after := #[{ on := 15, ground := .guard }], guard := some (15, true) } := rfl
theorem o43_5_24 : o43_5[24]? = some { dst := some 41, op := .load 3 (.tmp 40), type := 3, pos := "l21_node.go:103", after := #[{ on := 23, ground := .data }, { on := 15, ground := .guard }], guard := some (15, true) } := rfl
theorem o43_5_25 : o43_5[25]? = some { dst := some 42, op := .binOp .geq 3 (.tmp 39) (.tmp 41) 3, type := 4, pos := "l21_node.go:103", after := #[{ on := 22, ground := .data }, { on := 24, ground := .data }, { on := 15, ground := .guard }], guard := some (15, true) } := rfl
theorem o43_5_26 : o43_5[26]? = some { dst := some 43, op := .pick (.tmp 32) (.tmp 42) (.const (.bool false)), type := 4, pos := "l21_node.go:103", after := #[{ on := 15, ground := .data }, { on := 25, ground := .data }, { on := 12, ground := .guard }], guard := some (12, false) } := rfl
theorem o43_5_27 : o43_5[27]? = some { dst := some 44, op := .pick (.tmp 29) (.const (.bool true)) (.tmp 43), type := 4, pos := "l21_node.go:103", after := #[{ on := 12, ground := .data }, { on := 26, ground := .data }], guard := none } := rfl
theorem o43_5_28 : o43_5[28]? = some { dst := some 45, op := .move (.tmp 44), type := 4, pos := "l21_node.go:103", after := #[{ on := 27, ground := .data }, { on := 15, ground := .chain }], guard := none } := rfl
theorem o43_5_29 : o43_5[29]? = some { dst := some 46, op := .fieldAddr 97 (.tmp 4) 1, type := 0, pos := "l21_node.go:103", after := #[{ on := 28, ground := .guard }], guard := some (28, false) } := rfl
theorem o43_5_30 : o43_5[30]? = some { dst := some 47, op := .load 35 (.tmp 46), type := 35, pos := "l21_node.go:103", after := #[{ on := 29, ground := .data }, { on := 28, ground := .guard }], guard := some (28, false) } := rfl
theorem o43_5_31 : o43_5[31]? = some { dst := some 48, op := .call { callee := .builtin .len, args := #[.tmp 47], argTypes := #[35] }, type := 3, pos := "l21_node.go:103", after := #[{ on := 30, ground := .data }, { on := 28, ground := .guard }], guard := some (28, false) } := rfl
theorem o43_5_32 : o43_5[32]? = some { dst := some 49, op := .binOp .eql 3 (.tmp 48) (.const (.int .i64 0)) 3, type := 4, pos := "l21_node.go:103", after := #[{ on := 31, ground := .data }, { on := 28, ground := .guard }], guard := some (28, false) } := rfl
theorem o43_5_33 : o43_5[33]? = some { dst := some 50, op := .pick (.tmp 45) (.const (.bool true)) (.tmp 49), type := 4, pos := "l21_node.go:103", after := #[{ on := 28, ground := .data }, { on := 32, ground := .data }], guard := none } := rfl
theorem o43_5_34 : o43_5[34]? = some { dst := some 51, op := .move (.tmp 50), type := 4, pos := "l21_node.go:103", after := #[{ on := 33, ground := .data }, { on := 28, ground := .chain }], guard := none } := rfl
theorem o43_5_35 : o43_5[35]? = some { dst := some 52, op := .fieldAddr 97 (.tmp 4) 1, type := 0, pos := "l21_node.go:103", after := #[{ on := 34, ground := .guard }], guard := some (34, false) } := rfl
theorem o43_5_36 : o43_5[36]? = some { dst := some 53, op := .load 35 (.tmp 52), type := 35, pos := "l21_node.go:103", after := #[{ on := 35, ground := .data }, { on := 34, ground := .guard }], guard := some (34, false) } := rfl
theorem o43_5_37 : o43_5[37]? = some { dst := some 54, op := .call { callee := .value (.func 34), args := #[.tmp 53], argTypes := #[35] }, type := 4, pos := "l21_node.go:103", after := #[{ on := 36, ground := .data }, { on := 34, ground := .chain }, { on := 34, ground := .guard }], guard := some (34, false) } := rfl
theorem o43_5_38 : o43_5[38]? = some { dst := some 55, op := .unOp .not 4 (.tmp 54), type := 4, pos := "l21_node.go:103", after := #[{ on := 37, ground := .data }, { on := 34, ground := .guard }], guard := some (34, false) } := rfl
theorem o43_5_39 : o43_5[39]? = some { dst := some 56, op := .pick (.tmp 51) (.const (.bool true)) (.tmp 55), type := 4, pos := "l21_node.go:103", after := #[{ on := 34, ground := .data }, { on := 38, ground := .data }], guard := none } := rfl
theorem o43_5_40 : o43_5[40]? = some { dst := some 57, op := .move (.tmp 56), type := 4, pos := "l21_node.go:103", after := #[{ on := 39, ground := .data }, { on := 37, ground := .chain }], guard := none } := rfl
theorem o43_5_41 : o43_5[41]? = some { dst := some 58, op := .fieldAddr 97 (.tmp 4) 1, type := 0, pos := "l21_node.go:103", after := #[{ on := 40, ground := .guard }], guard := some (40, false) } := rfl
theorem o43_5_42 : o43_5[42]? = some { dst := some 59, op := .load 35 (.tmp 58), type := 35, pos := "l21_node.go:103", after := #[{ on := 41, ground := .data }, { on := 40, ground := .guard }], guard := some (40, false) } := rfl
theorem o43_5_43 : o43_5[43]? = some { dst := some 60, op := .fieldAddr 97 (.tmp 4) 0, type := 0, pos := "l21_node.go:103", after := #[{ on := 40, ground := .guard }], guard := some (40, false) } := rfl
theorem o43_5_44 : o43_5[44]? = some { dst := some 61, op := .load 3 (.tmp 60), type := 3, pos := "l21_node.go:103", after := #[{ on := 43, ground := .data }, { on := 40, ground := .guard }], guard := some (40, false) } := rfl
theorem o43_5_45 : o43_5[45]? = some { dst := some 62, op := .call { callee := .value (.func 35), args := #[.tmp 59, .tmp 61], argTypes := #[35, 3] }, type := 4, pos := "l21_node.go:103", after := #[{ on := 42, ground := .data }, { on := 44, ground := .data }, { on := 40, ground := .chain }, { on := 40, ground := .guard }], guard := some (40, false) } := rfl
theorem o43_5_46 : o43_5[46]? = some { dst := some 63, op := .unOp .not 4 (.tmp 62), type := 4, pos := "l21_node.go:103", after := #[{ on := 45, ground := .data }, { on := 40, ground := .guard }], guard := some (40, false) } := rfl
theorem o43_5_47 : o43_5[47]? = some { dst := some 64, op := .pick (.tmp 57) (.const (.bool true)) (.tmp 63), type := 4, pos := "l21_node.go:103", after := #[{ on := 40, ground := .data }, { on := 46, ground := .data }], guard := none } := rfl
theorem oths_no {me : Int} {len : Nat} {G : Nat → Fg} {k : Nat} (hk : k < len) (h : othB me (G k).n (G k).bl (G k).bf = false ∨ (0 < k ∧ ¬ (G (k - 1)).n < (G k).n)) : othsB me len G = false := by
  unfold othsB Fgasc risB otA
  rw [Bool.and_eq_false_iff]
  rcases h with h | ⟨h0, h⟩
  · exact .inr (decide_eq_false fun q => by have := q k hk; rw [h] at this; cases this)
  · exact .inl (decide_eq_false fun q => h (q k hk h0))
set_option maxRecDepth 20000 in
set_option maxHeartbeats 8000000 in
theorem soths_any (me : Int) (up gone gate : Bool) (inc now sq turn : Int) (ta : Option Addr) (tl tc : Nat) (ca : Option Addr) (cl cc : Nat) (pn ps pq : Int) (pa : Bool) (da : Option Addr) (dl dc : Nat) (cx cy ch ce : Int) (pla : Option Addr) (pll plc : Nat) (oa : Option Addr) (ol oc : Nat) (G : Nat → Fg) (w : World) (hG : FgSl w oa ol G) (hm : ol ≤ 1048576) (hB : FgB w ol G) :
    Calls Tryz.prog 43 #[.agg #[.int .i64 me, .bool up, .bool gone, .bool gate, .int .i64 inc, .int .i64 now, .int .i64 sq, .int .i64 turn, .slice ta tl tc, .slice ca cl cc, .int .i64 pn, .int .i64 ps, .int .i64 pq, .bool pa, .slice da dl dc, .int .i64 cx, .int .i64 cy, .int .i64 ch, .int .i64 ce, .slice pla pll plc, .slice oa ol oc]] w fun r w' => r = .returned (.bool (othsB me ol G)) ∧ Below w.heap.size w w' := by
  have b0 := balloc (.cells #[.int .i64 me, .bool up, .bool gone, .bool gate, .int .i64 inc, .int .i64 now, .int .i64 sq, .int .i64 turn, .slice ta tl tc, .slice ca cl cc, .int .i64 pn, .int .i64 ps, .int .i64 pq, .bool pa, .slice da dl dc, .int .i64 cx, .int .i64 cy, .int .i64 ch, .int .i64 ce, .slice pla pll plc, .slice oa ol oc] 43) (Below.refl w.heap.size w)
  have X := Ws.box (w := w) #[.int .i64 me, .bool up, .bool gone, .bool gate, .int .i64 inc, .int .i64 now, .int .i64 sq, .int .i64 turn, .slice ta tl tc, .slice ca cl cc, .int .i64 pn, .int .i64 ps, .int .i64 pq, .bool pa, .slice da dl dc, .int .i64 cx, .int .i64 cy, .int .i64 ch, .int .i64 ce, .slice pla pll plc, .slice oa ol oc] 43
  go_enter Tryz.func43, Tryz.ntmps43
  go_upto_region 1 with fail
  generalize w.alloc (.cells #[.int .i64 me, .bool up, .bool gone, .bool gate, .int .i64 inc, .int .i64 now, .int .i64 sq, .int .i64 turn, .slice ta tl tc, .slice ca cl cc, .int .i64 pn, .int .i64 ps, .int .i64 pq, .bool pa, .slice da dl dc, .int .i64 cx, .int .i64 cy, .int .i64 ch, .int .i64 ce, .slice pla pll plc, .slice oa ol oc] 43) = u at *
  have hG' := hG.below b0
  have hB' := hB.below b0
  have d0 := X.c 0 (.int .i64 me) rfl
  have d20 := X.c 20 (.slice oa ol oc) rfl
  clear X hG hB
  obtain ⟨sm, hsm⟩ : ∃ sm, Hid (ste me = sm) := ⟨_, rfl⟩
  go_wp2
  go_loopw [3] (fun i wr => ∃ k : Nat, k ≤ ol ∧ i = .int .i64 k ∧ Below u.heap.size u wr ∧ (∀ j, j < k → othB me (G j).n (G j).bl (G j).bf = true) ∧ (∀ j, j < k → 0 < j → (G (j - 1)).n < (G j).n)) (fun i _ => ol - (intOf i).toNat)
  case atStart => exact ⟨0, by omega, rfl, Below.refl _ _, fun j h1 => by omega, fun j h1 => by omega⟩
  case round =>
    obtain ⟨k, hk, rfl, hb, hall, hasc⟩ := hrel
    have f0 := keep_below hb d0
    have f20 := keep_below hb d20
    by_cases hlt : k < ol
    · obtain ⟨b, off, rfl, hbl, hf⟩ := hG' (by omega)
      obtain ⟨c0, c1⟩ := (hf.below hb hbl) k hlt
      have hS := (hB' k hlt).1.below hb
      have hbl' := (hB' k hlt).2
      have hso : Hid (othB me (G k).n (G k).bl (G k).bf = (inb (G k).n 0 1 && decide ((G k).n ≠ ste me) && decide (0 < (G k).bl) && tokB (G k).bl (G k).bf && sitB (G k).bl (G k).bf (G k).n)) := rfl
      obtain ⟨n, hn⟩ : ∃ n, Hid ((G k).n = n) := ⟨_, rfl⟩
      obtain ⟨ba, hba⟩ : ∃ n, Hid ((G k).ba = n) := ⟨_, rfl⟩
      obtain ⟨bl, hbl2⟩ : ∃ n, Hid ((G k).bl = n) := ⟨_, rfl⟩
      obtain ⟨bc, hbc⟩ : ∃ n, Hid ((G k).bc = n) := ⟨_, rfl⟩
      obtain ⟨bf, hbf⟩ : ∃ n, Hid ((G k).bf = n) := ⟨_, rfl⟩
      rw [hn.out, hbl2.out, hbf.out] at hso
      rw [hn.out] at c0
      rw [hba.out, hbl2.out, hbc.out] at c1
      rw [hba.out, hbl2.out, hbf.out] at hS
      rw [hbl2.out] at hbl'
      have i0 : (0 : Int) ≤ (k : Int) := by omega
      have i1 : (k : Int) < (ol : Int) := by omega
      have b2 := balloc (.cells #[.int .i64 n, .slice ba bl bc] 97) hb
      have Y := Ws.box (w := wr) #[.int .i64 n, .slice ba bl bc] 97
      have g0 := keep_alloc (.cells #[.int .i64 n, .slice ba bl bc] 97) f0
      have g20 := keep_alloc (.cells #[.int .i64 n, .slice ba bl bc] 97) f20
      have q3 := hS.below (balloc (.cells #[.int .i64 n, .slice ba bl bc] 97) (Below.refl wr.heap.size wr))
      rcases Nat.eq_zero_or_pos k with h0 | h0
      · subst h0
        simp only [Nat.zero_mul, Nat.add_zero] at c0 c1
        go_upto_region 5 with fail
        generalize wr.alloc (.cells #[.int .i64 n, .slice ba bl bc] 97) = v at *
        generalize wr.heap.size = K2 at *
        have q1 := Y.c 0 (.int .i64 n) rfl
        have q2 := Y.c 1 (.slice ba bl bc) rfl
        clear Y c0 c1 f0 f20 hS
        cases z1 : inb n 0 1
        · have y1 : Hid (inb n 0 1 = false) := z1
          clear z1
          refine wp_region_m (S := (fun w' => w'.cell? ⟨w.heap.size, 0, none⟩ = some (.int .i64 me) ∧ w'.cell? ⟨w.heap.size, 20, none⟩ = some (.slice (some ⟨b, off, none⟩) ol oc) ∧ w'.cell? ⟨K2, 0, none⟩ = some (.int .i64 n) ∧ w'.cell? ⟨K2, 1, none⟩ = some (.slice ba bl bc) ∧ FSl w' ba bl bf ∧ Below u.heap.size u w')) o43_5 48 fo43_5 ?_ (fun hHeld => ?_)
          · (try dsimp only); exact ⟨keep_drew g0, keep_drew g20, keep_drew q1, keep_drew q2, q3.below (Below.refl _ _).drew, b2.drew⟩
          refine stY fo43_5 o43_5_0 1 ?_; try simp only [putQ]; refine stY fo43_5 o43_5_1 3 ?_; try simp only [putQ]
          refine stC fo43_5 o43_5_2 7 (fun K hK => ?_)
          go_simp
          refine (lin_lit n 0 1 false y1.out _).mono ?_; rintro r w2 ⟨rfl, hw⟩; obtain rfl := hw.symm; clear hw
          go_wp2_with fail
          refine hK.out _ _ ?_ (fun hHeld => ?_)
          · (try dsimp only); exact hHeld
          clear hK K
          (try simp only [putQ]); refine stY fo43_5 o43_5_3 15 ?_; try simp only [putQ]; refine stY fo43_5 o43_5_4 31 ?_; try simp only [putQ]; refine stN fo43_5 o43_5_5 63 ?_; try simp only [putQ]; refine stN fo43_5 o43_5_6 127 ?_; try simp only [putQ]; refine stN fo43_5 o43_5_7 255 ?_; try simp only [putQ]; refine stN fo43_5 o43_5_8 511 ?_; try simp only [putQ]; refine stN fo43_5 o43_5_9 1023 ?_; try simp only [putQ]; refine stN fo43_5 o43_5_10 2047 ?_; try simp only [putQ]; refine stY fo43_5 o43_5_11 4095 ?_; try simp only [putQ]; refine stY fo43_5 o43_5_12 8191 ?_; try simp only [putQ]; refine stN fo43_5 o43_5_13 16383 ?_; try simp only [putQ]; refine stN fo43_5 o43_5_14 32767 ?_; try simp only [putQ]; refine stN fo43_5 o43_5_15 65535 ?_; try simp only [putQ]; refine stN fo43_5 o43_5_16 131071 ?_; try simp only [putQ]; refine stN fo43_5 o43_5_17 262143 ?_; try simp only [putQ]; refine stN fo43_5 o43_5_18 524287 ?_; try simp only [putQ]; refine stN fo43_5 o43_5_19 1048575 ?_; try simp only [putQ]; refine stN fo43_5 o43_5_20 2097151 ?_; try simp only [putQ]; refine stN fo43_5 o43_5_21 4194303 ?_; try simp only [putQ]; refine stN fo43_5 o43_5_22 8388607 ?_; try simp only [putQ]; refine stN fo43_5 o43_5_23 16777215 ?_; try simp only [putQ]; refine stN fo43_5 o43_5_24 33554431 ?_; try simp only [putQ]; refine stN fo43_5 o43_5_25 67108863 ?_; try simp only [putQ]; refine stN fo43_5 o43_5_26 134217727 ?_; try simp only [putQ]; refine stY fo43_5 o43_5_27 268435455 ?_; try simp only [putQ]; refine stY fo43_5 o43_5_28 536870911 ?_; try simp only [putQ]; refine stN fo43_5 o43_5_29 1073741823 ?_; try simp only [putQ]; refine stN fo43_5 o43_5_30 2147483647 ?_; try simp only [putQ]; refine stN fo43_5 o43_5_31 4294967295 ?_; try simp only [putQ]; refine stN fo43_5 o43_5_32 8589934591 ?_; try simp only [putQ]; refine stY fo43_5 o43_5_33 17179869183 ?_; try simp only [putQ]; refine stY fo43_5 o43_5_34 34359738367 ?_; try simp only [putQ]; refine stN fo43_5 o43_5_35 68719476735 ?_; try simp only [putQ]; refine stN fo43_5 o43_5_36 137438953471 ?_; try simp only [putQ]; refine stN fo43_5 o43_5_37 274877906943 ?_; try simp only [putQ]; refine stN fo43_5 o43_5_38 549755813887 ?_; try simp only [putQ]; refine stY fo43_5 o43_5_39 1099511627775 ?_; try simp only [putQ]; refine stY fo43_5 o43_5_40 2199023255551 ?_; try simp only [putQ]; refine stN fo43_5 o43_5_41 4398046511103 ?_; try simp only [putQ]; refine stN fo43_5 o43_5_42 8796093022207 ?_; try simp only [putQ]; refine stN fo43_5 o43_5_43 17592186044415 ?_; try simp only [putQ]; refine stN fo43_5 o43_5_44 35184372088831 ?_; try simp only [putQ]; refine stN fo43_5 o43_5_45 70368744177663 ?_; try simp only [putQ]; refine stN fo43_5 o43_5_46 140737488355327 ?_; try simp only [putQ]; refine stY fo43_5 o43_5_47 281474976710655 ?_; try simp only [putQ]
          refine wpAnyH_done (by kernel_rfl) ?_ _
          go_wp2
          go_ret
          exact ⟨ret_bool (oths_no hlt (.inl (by rw [hn.out, hbl2.out, hbf.out, hso.out, y1.out]; rfl))).symm, btrans b0 hHeld.2.2.2.2.2⟩
        · have y1 : Hid (inb n 0 1 = true) := z1
          clear z1
          by_cases e0 : n = sm
          · subst e0
            refine wp_region_m (S := (fun w' => w'.cell? ⟨w.heap.size, 0, none⟩ = some (.int .i64 me) ∧ w'.cell? ⟨w.heap.size, 20, none⟩ = some (.slice (some ⟨b, off, none⟩) ol oc) ∧ w'.cell? ⟨K2, 0, none⟩ = some (.int .i64 n) ∧ w'.cell? ⟨K2, 1, none⟩ = some (.slice ba bl bc) ∧ FSl w' ba bl bf ∧ Below u.heap.size u w')) o43_5 48 fo43_5 ?_ (fun hHeld => ?_)
            · (try dsimp only); exact ⟨keep_drew g0, keep_drew g20, keep_drew q1, keep_drew q2, q3.below (Below.refl _ _).drew, b2.drew⟩
            refine stY fo43_5 o43_5_0 1 ?_; try simp only [putQ]; refine stY fo43_5 o43_5_1 3 ?_; try simp only [putQ]
            refine stC fo43_5 o43_5_2 7 (fun K hK => ?_)
            go_simp
            refine (lin_lit n 0 1 true y1.out _).mono ?_; rintro r w2 ⟨rfl, hw⟩; obtain rfl := hw.symm; clear hw
            go_wp2_with fail
            refine hK.out _ _ ?_ (fun hHeld => ?_)
            · (try dsimp only); exact hHeld
            clear hK K
            (try simp only [putQ]); refine stY fo43_5 o43_5_3 15 ?_; try simp only [putQ]; refine stY fo43_5 o43_5_4 31 ?_; try simp only [putQ]; refine stY fo43_5 o43_5_5 63 ?_; try simp only [putQ]; refine stY fo43_5 o43_5_6 127 ?_; try simp only [putQ]; refine stY fo43_5 o43_5_7 255 ?_; try simp only [putQ]; refine stY fo43_5 o43_5_8 511 ?_; try simp only [putQ]
            refine stC fo43_5 o43_5_9 1023 (fun K hK => ?_)
            go_simp
            refine (lsite_any me _).mono ?_; rintro r w3 ⟨rfl, hw⟩; obtain rfl := hw.symm; clear hw; rw [hsm.out]
            go_wp2_with fail
            refine hK.out _ _ ?_ (fun hHeld => ?_)
            · (try dsimp only); exact hHeld
            clear hK K
            (try simp only [putQ])
            refine stV (.bool true) fo43_5 o43_5_10 2047 ?_ ?_
            · (intro w hSw; (try dsimp only at hSw); go_simp; all_goals (first | with_reducible rfl |  assumption | (simp; done) | (simp; omega)))
            (try simp only [putQ]); refine stY fo43_5 o43_5_11 4095 ?_; try simp only [putQ]; refine stY fo43_5 o43_5_12 8191 ?_; try simp only [putQ]; refine stN fo43_5 o43_5_13 16383 ?_; try simp only [putQ]; refine stN fo43_5 o43_5_14 32767 ?_; try simp only [putQ]; refine stN fo43_5 o43_5_15 65535 ?_; try simp only [putQ]; refine stN fo43_5 o43_5_16 131071 ?_; try simp only [putQ]; refine stN fo43_5 o43_5_17 262143 ?_; try simp only [putQ]; refine stN fo43_5 o43_5_18 524287 ?_; try simp only [putQ]; refine stN fo43_5 o43_5_19 1048575 ?_; try simp only [putQ]; refine stN fo43_5 o43_5_20 2097151 ?_; try simp only [putQ]; refine stN fo43_5 o43_5_21 4194303 ?_; try simp only [putQ]; refine stN fo43_5 o43_5_22 8388607 ?_; try simp only [putQ]; refine stN fo43_5 o43_5_23 16777215 ?_; try simp only [putQ]; refine stN fo43_5 o43_5_24 33554431 ?_; try simp only [putQ]; refine stN fo43_5 o43_5_25 67108863 ?_; try simp only [putQ]; refine stN fo43_5 o43_5_26 134217727 ?_; try simp only [putQ]; refine stY fo43_5 o43_5_27 268435455 ?_; try simp only [putQ]; refine stY fo43_5 o43_5_28 536870911 ?_; try simp only [putQ]; refine stN fo43_5 o43_5_29 1073741823 ?_; try simp only [putQ]; refine stN fo43_5 o43_5_30 2147483647 ?_; try simp only [putQ]; refine stN fo43_5 o43_5_31 4294967295 ?_; try simp only [putQ]; refine stN fo43_5 o43_5_32 8589934591 ?_; try simp only [putQ]; refine stY fo43_5 o43_5_33 17179869183 ?_; try simp only [putQ]; refine stY fo43_5 o43_5_34 34359738367 ?_; try simp only [putQ]; refine stN fo43_5 o43_5_35 68719476735 ?_; try simp only [putQ]; refine stN fo43_5 o43_5_36 137438953471 ?_; try simp only [putQ]; refine stN fo43_5 o43_5_37 274877906943 ?_; try simp only [putQ]; refine stN fo43_5 o43_5_38 549755813887 ?_; try simp only [putQ]; refine stY fo43_5 o43_5_39 1099511627775 ?_; try simp only [putQ]; refine stY fo43_5 o43_5_40 2199023255551 ?_; try simp only [putQ]; refine stN fo43_5 o43_5_41 4398046511103 ?_; try simp only [putQ]; refine stN fo43_5 o43_5_42 8796093022207 ?_; try simp only [putQ]; refine stN fo43_5 o43_5_43 17592186044415 ?_; try simp only [putQ]; refine stN fo43_5 o43_5_44 35184372088831 ?_; try simp only [putQ]; refine stN fo43_5 o43_5_45 70368744177663 ?_; try simp only [putQ]; refine stN fo43_5 o43_5_46 140737488355327 ?_; try simp only [putQ]; refine stY fo43_5 o43_5_47 281474976710655 ?_; try simp only [putQ]
            refine wpAnyH_done (by kernel_rfl) ?_ _
            go_wp2
            go_ret
            exact ⟨ret_bool (oths_no hlt (.inl (by rw [hn.out, hbl2.out, hbf.out, hso.out, hsm.out]; simp))).symm, btrans b0 hHeld.2.2.2.2.2⟩
          · have e0' : (n == sm) = false := by simpa using e0
            by_cases e3 : bl = 0
            · have y3 : Hid (bl = 0) := e3
              clear e3
              refine wp_region_m (S := (fun w' => w'.cell? ⟨w.heap.size, 0, none⟩ = some (.int .i64 me) ∧ w'.cell? ⟨w.heap.size, 20, none⟩ = some (.slice (some ⟨b, off, none⟩) ol oc) ∧ w'.cell? ⟨K2, 0, none⟩ = some (.int .i64 n) ∧ w'.cell? ⟨K2, 1, none⟩ = some (.slice ba bl bc) ∧ FSl w' ba bl bf ∧ Below u.heap.size u w')) o43_5 48 fo43_5 ?_ (fun hHeld => ?_)
              · (try dsimp only); exact ⟨keep_drew g0, keep_drew g20, keep_drew q1, keep_drew q2, q3.below (Below.refl _ _).drew, b2.drew⟩
              refine stY fo43_5 o43_5_0 1 ?_; try simp only [putQ]; refine stY fo43_5 o43_5_1 3 ?_; try simp only [putQ]
              refine stC fo43_5 o43_5_2 7 (fun K hK => ?_)
              go_simp
              refine (lin_lit n 0 1 true y1.out _).mono ?_; rintro r w2 ⟨rfl, hw⟩; obtain rfl := hw.symm; clear hw
              go_wp2_with fail
              refine hK.out _ _ ?_ (fun hHeld => ?_)
              · (try dsimp only); exact hHeld
              clear hK K
              (try simp only [putQ]); refine stY fo43_5 o43_5_3 15 ?_; try simp only [putQ]; refine stY fo43_5 o43_5_4 31 ?_; try simp only [putQ]; refine stY fo43_5 o43_5_5 63 ?_; try simp only [putQ]; refine stY fo43_5 o43_5_6 127 ?_; try simp only [putQ]; refine stY fo43_5 o43_5_7 255 ?_; try simp only [putQ]; refine stY fo43_5 o43_5_8 511 ?_; try simp only [putQ]
              refine stC fo43_5 o43_5_9 1023 (fun K hK => ?_)
              go_simp
              refine (lsite_any me _).mono ?_; rintro r w3 ⟨rfl, hw⟩; obtain rfl := hw.symm; clear hw; rw [hsm.out]
              go_wp2_with fail
              refine hK.out _ _ ?_ (fun hHeld => ?_)
              · (try dsimp only); exact hHeld
              clear hK K
              (try simp only [putQ])
              refine stV (.bool false) fo43_5 o43_5_10 2047 ?_ ?_
              · (intro w hSw; (try dsimp only at hSw); go_simp; all_goals (first | with_reducible rfl |  assumption | (simp; done) | (simp; omega)))
              (try simp only [putQ]); refine stY fo43_5 o43_5_11 4095 ?_; try simp only [putQ]; refine stY fo43_5 o43_5_12 8191 ?_; try simp only [putQ]; refine stY fo43_5 o43_5_13 16383 ?_; try simp only [putQ]
              refine stV (.bool false) fo43_5 o43_5_14 32767 ?_ ?_
              · (intro w hSw; (try dsimp only at hSw); go_simp; all_goals (first | with_reducible rfl |  assumption | (simp; done) | (simp; omega)))
              (try simp only [putQ]); refine stY fo43_5 o43_5_15 65535 ?_; try simp only [putQ]; refine stN fo43_5 o43_5_16 131071 ?_; try simp only [putQ]; refine stN fo43_5 o43_5_17 262143 ?_; try simp only [putQ]; refine stN fo43_5 o43_5_18 524287 ?_; try simp only [putQ]; refine stN fo43_5 o43_5_19 1048575 ?_; try simp only [putQ]; refine stN fo43_5 o43_5_20 2097151 ?_; try simp only [putQ]; refine stN fo43_5 o43_5_21 4194303 ?_; try simp only [putQ]; refine stN fo43_5 o43_5_22 8388607 ?_; try simp only [putQ]; refine stN fo43_5 o43_5_23 16777215 ?_; try simp only [putQ]; refine stN fo43_5 o43_5_24 33554431 ?_; try simp only [putQ]; refine stN fo43_5 o43_5_25 67108863 ?_; try simp only [putQ]; refine stY fo43_5 o43_5_26 134217727 ?_; try simp only [putQ]; refine stY fo43_5 o43_5_27 268435455 ?_; try simp only [putQ]; refine stY fo43_5 o43_5_28 536870911 ?_; try simp only [putQ]; refine stY fo43_5 o43_5_29 1073741823 ?_; try simp only [putQ]; refine stY fo43_5 o43_5_30 2147483647 ?_; try simp only [putQ]; refine stY fo43_5 o43_5_31 4294967295 ?_; try simp only [putQ]
              refine stV (.bool true) fo43_5 o43_5_32 8589934591 ?_ ?_
              · (intro w hSw; (try dsimp only at hSw); go_simp; all_goals (first | with_reducible rfl | (simp [y3.out]; done) | assumption | (simp; done) | (simp; omega)))
              (try simp only [putQ]); refine stY fo43_5 o43_5_33 17179869183 ?_; try simp only [putQ]; refine stY fo43_5 o43_5_34 34359738367 ?_; try simp only [putQ]; refine stN fo43_5 o43_5_35 68719476735 ?_; try simp only [putQ]; refine stN fo43_5 o43_5_36 137438953471 ?_; try simp only [putQ]; refine stN fo43_5 o43_5_37 274877906943 ?_; try simp only [putQ]; refine stN fo43_5 o43_5_38 549755813887 ?_; try simp only [putQ]; refine stY fo43_5 o43_5_39 1099511627775 ?_; try simp only [putQ]; refine stY fo43_5 o43_5_40 2199023255551 ?_; try simp only [putQ]; refine stN fo43_5 o43_5_41 4398046511103 ?_; try simp only [putQ]; refine stN fo43_5 o43_5_42 8796093022207 ?_; try simp only [putQ]; refine stN fo43_5 o43_5_43 17592186044415 ?_; try simp only [putQ]; refine stN fo43_5 o43_5_44 35184372088831 ?_; try simp only [putQ]; refine stN fo43_5 o43_5_45 70368744177663 ?_; try simp only [putQ]; refine stN fo43_5 o43_5_46 140737488355327 ?_; try simp only [putQ]; refine stY fo43_5 o43_5_47 281474976710655 ?_; try simp only [putQ]
              refine wpAnyH_done (by kernel_rfl) ?_ _
              go_wp2
              go_ret
              exact ⟨ret_bool (oths_no hlt (.inl (by rw [hn.out, hbl2.out, hbf.out, hso.out, y3.out]; simp))).symm, btrans b0 hHeld.2.2.2.2.2⟩
            · skip
              cases z4 : tokB bl bf
              · have y4 : Hid (tokB bl bf = false) := z4
                clear z4
                refine wp_region_m (S := (fun w' => w'.cell? ⟨w.heap.size, 0, none⟩ = some (.int .i64 me) ∧ w'.cell? ⟨w.heap.size, 20, none⟩ = some (.slice (some ⟨b, off, none⟩) ol oc) ∧ w'.cell? ⟨K2, 0, none⟩ = some (.int .i64 n) ∧ w'.cell? ⟨K2, 1, none⟩ = some (.slice ba bl bc) ∧ FSl w' ba bl bf ∧ Below u.heap.size u w')) o43_5 48 fo43_5 ?_ (fun hHeld => ?_)
                · (try dsimp only); exact ⟨keep_drew g0, keep_drew g20, keep_drew q1, keep_drew q2, q3.below (Below.refl _ _).drew, b2.drew⟩
                refine stY fo43_5 o43_5_0 1 ?_; try simp only [putQ]; refine stY fo43_5 o43_5_1 3 ?_; try simp only [putQ]
                refine stC fo43_5 o43_5_2 7 (fun K hK => ?_)
                go_simp
                refine (lin_lit n 0 1 true y1.out _).mono ?_; rintro r w2 ⟨rfl, hw⟩; obtain rfl := hw.symm; clear hw
                go_wp2_with fail
                refine hK.out _ _ ?_ (fun hHeld => ?_)
                · (try dsimp only); exact hHeld
                clear hK K
                (try simp only [putQ]); refine stY fo43_5 o43_5_3 15 ?_; try simp only [putQ]; refine stY fo43_5 o43_5_4 31 ?_; try simp only [putQ]; refine stY fo43_5 o43_5_5 63 ?_; try simp only [putQ]; refine stY fo43_5 o43_5_6 127 ?_; try simp only [putQ]; refine stY fo43_5 o43_5_7 255 ?_; try simp only [putQ]; refine stY fo43_5 o43_5_8 511 ?_; try simp only [putQ]
                refine stC fo43_5 o43_5_9 1023 (fun K hK => ?_)
                go_simp
                refine (lsite_any me _).mono ?_; rintro r w3 ⟨rfl, hw⟩; obtain rfl := hw.symm; clear hw; rw [hsm.out]
                go_wp2_with fail
                refine hK.out _ _ ?_ (fun hHeld => ?_)
                · (try dsimp only); exact hHeld
                clear hK K
                (try simp only [putQ])
                refine stV (.bool false) fo43_5 o43_5_10 2047 ?_ ?_
                · (intro w hSw; (try dsimp only at hSw); go_simp; all_goals (first | with_reducible rfl |  assumption | (simp; done) | (simp; omega)))
                (try simp only [putQ]); refine stY fo43_5 o43_5_11 4095 ?_; try simp only [putQ]; refine stY fo43_5 o43_5_12 8191 ?_; try simp only [putQ]; refine stY fo43_5 o43_5_13 16383 ?_; try simp only [putQ]
                refine stV (.bool false) fo43_5 o43_5_14 32767 ?_ ?_
                · (intro w hSw; (try dsimp only at hSw); go_simp; all_goals (first | with_reducible rfl |  assumption | (simp; done) | (simp; omega)))
                (try simp only [putQ]); refine stY fo43_5 o43_5_15 65535 ?_; try simp only [putQ]; refine stN fo43_5 o43_5_16 131071 ?_; try simp only [putQ]; refine stN fo43_5 o43_5_17 262143 ?_; try simp only [putQ]; refine stN fo43_5 o43_5_18 524287 ?_; try simp only [putQ]; refine stN fo43_5 o43_5_19 1048575 ?_; try simp only [putQ]; refine stN fo43_5 o43_5_20 2097151 ?_; try simp only [putQ]; refine stN fo43_5 o43_5_21 4194303 ?_; try simp only [putQ]; refine stN fo43_5 o43_5_22 8388607 ?_; try simp only [putQ]; refine stN fo43_5 o43_5_23 16777215 ?_; try simp only [putQ]; refine stN fo43_5 o43_5_24 33554431 ?_; try simp only [putQ]; refine stN fo43_5 o43_5_25 67108863 ?_; try simp only [putQ]; refine stY fo43_5 o43_5_26 134217727 ?_; try simp only [putQ]; refine stY fo43_5 o43_5_27 268435455 ?_; try simp only [putQ]; refine stY fo43_5 o43_5_28 536870911 ?_; try simp only [putQ]; refine stY fo43_5 o43_5_29 1073741823 ?_; try simp only [putQ]; refine stY fo43_5 o43_5_30 2147483647 ?_; try simp only [putQ]; refine stY fo43_5 o43_5_31 4294967295 ?_; try simp only [putQ]
                refine stV (.bool false) fo43_5 o43_5_32 8589934591 ?_ ?_
                · (intro w hSw; (try dsimp only at hSw); go_simp; all_goals (first | with_reducible rfl |  assumption | (simp; done) | (simp; omega)))
                (try simp only [putQ]); refine stY fo43_5 o43_5_33 17179869183 ?_; try simp only [putQ]; refine stY fo43_5 o43_5_34 34359738367 ?_; try simp only [putQ]; refine stY fo43_5 o43_5_35 68719476735 ?_; try simp only [putQ]; refine stY fo43_5 o43_5_36 137438953471 ?_; try simp only [putQ]
                refine stC fo43_5 o43_5_37 274877906943 (fun K hK => ?_)
                go_simp
                refine (stok_lit ba bl bc bf false _ hHeld.2.2.2.2.1 hbl' y4.out).mono ?_; rintro r w4 ⟨rfl, k4⟩
                go_wp2_with fail
                refine hK.out _ _ ?_ (fun hHeld => ?_)
                · (try dsimp only); exact ⟨keep_below k4 hHeld.1, keep_below k4 hHeld.2.1, keep_below k4 hHeld.2.2.1, keep_below k4 hHeld.2.2.2.1, hHeld.2.2.2.2.1.below k4, btrans hHeld.2.2.2.2.2 k4⟩
                clear hK K
                (try simp only [putQ]); refine stY fo43_5 o43_5_38 549755813887 ?_; try simp only [putQ]; refine stY fo43_5 o43_5_39 1099511627775 ?_; try simp only [putQ]; refine stY fo43_5 o43_5_40 2199023255551 ?_; try simp only [putQ]; refine stN fo43_5 o43_5_41 4398046511103 ?_; try simp only [putQ]; refine stN fo43_5 o43_5_42 8796093022207 ?_; try simp only [putQ]; refine stN fo43_5 o43_5_43 17592186044415 ?_; try simp only [putQ]; refine stN fo43_5 o43_5_44 35184372088831 ?_; try simp only [putQ]; refine stN fo43_5 o43_5_45 70368744177663 ?_; try simp only [putQ]; refine stN fo43_5 o43_5_46 140737488355327 ?_; try simp only [putQ]; refine stY fo43_5 o43_5_47 281474976710655 ?_; try simp only [putQ]
                refine wpAnyH_done (by kernel_rfl) ?_ _
                go_wp2
                go_ret
                exact ⟨ret_bool (oths_no hlt (.inl (by rw [hn.out, hbl2.out, hbf.out, hso.out, y4.out]; simp))).symm, btrans b0 hHeld.2.2.2.2.2⟩
              · have y4 : Hid (tokB bl bf = true) := z4
                clear z4
                cases z5 : sitB bl bf n
                · have y5 : Hid (sitB bl bf n = false) := z5
                  clear z5
                  refine wp_region_m (S := (fun w' => w'.cell? ⟨w.heap.size, 0, none⟩ = some (.int .i64 me) ∧ w'.cell? ⟨w.heap.size, 20, none⟩ = some (.slice (some ⟨b, off, none⟩) ol oc) ∧ w'.cell? ⟨K2, 0, none⟩ = some (.int .i64 n) ∧ w'.cell? ⟨K2, 1, none⟩ = some (.slice ba bl bc) ∧ FSl w' ba bl bf ∧ Below u.heap.size u w')) o43_5 48 fo43_5 ?_ (fun hHeld => ?_)
                  · (try dsimp only); exact ⟨keep_drew g0, keep_drew g20, keep_drew q1, keep_drew q2, q3.below (Below.refl _ _).drew, b2.drew⟩
                  refine stY fo43_5 o43_5_0 1 ?_; try simp only [putQ]; refine stY fo43_5 o43_5_1 3 ?_; try simp only [putQ]
                  refine stC fo43_5 o43_5_2 7 (fun K hK => ?_)
                  go_simp
                  refine (lin_lit n 0 1 true y1.out _).mono ?_; rintro r w2 ⟨rfl, hw⟩; obtain rfl := hw.symm; clear hw
                  go_wp2_with fail
                  refine hK.out _ _ ?_ (fun hHeld => ?_)
                  · (try dsimp only); exact hHeld
                  clear hK K
                  (try simp only [putQ]); refine stY fo43_5 o43_5_3 15 ?_; try simp only [putQ]; refine stY fo43_5 o43_5_4 31 ?_; try simp only [putQ]; refine stY fo43_5 o43_5_5 63 ?_; try simp only [putQ]; refine stY fo43_5 o43_5_6 127 ?_; try simp only [putQ]; refine stY fo43_5 o43_5_7 255 ?_; try simp only [putQ]; refine stY fo43_5 o43_5_8 511 ?_; try simp only [putQ]
                  refine stC fo43_5 o43_5_9 1023 (fun K hK => ?_)
                  go_simp
                  refine (lsite_any me _).mono ?_; rintro r w3 ⟨rfl, hw⟩; obtain rfl := hw.symm; clear hw; rw [hsm.out]
                  go_wp2_with fail
                  refine hK.out _ _ ?_ (fun hHeld => ?_)
                  · (try dsimp only); exact hHeld
                  clear hK K
                  (try simp only [putQ])
                  refine stV (.bool false) fo43_5 o43_5_10 2047 ?_ ?_
                  · (intro w hSw; (try dsimp only at hSw); go_simp; all_goals (first | with_reducible rfl |  assumption | (simp; done) | (simp; omega)))
                  (try simp only [putQ]); refine stY fo43_5 o43_5_11 4095 ?_; try simp only [putQ]; refine stY fo43_5 o43_5_12 8191 ?_; try simp only [putQ]; refine stY fo43_5 o43_5_13 16383 ?_; try simp only [putQ]
                  refine stV (.bool false) fo43_5 o43_5_14 32767 ?_ ?_
                  · (intro w hSw; (try dsimp only at hSw); go_simp; all_goals (first | with_reducible rfl |  assumption | (simp; done) | (simp; omega)))
                  (try simp only [putQ]); refine stY fo43_5 o43_5_15 65535 ?_; try simp only [putQ]; refine stN fo43_5 o43_5_16 131071 ?_; try simp only [putQ]; refine stN fo43_5 o43_5_17 262143 ?_; try simp only [putQ]; refine stN fo43_5 o43_5_18 524287 ?_; try simp only [putQ]; refine stN fo43_5 o43_5_19 1048575 ?_; try simp only [putQ]; refine stN fo43_5 o43_5_20 2097151 ?_; try simp only [putQ]; refine stN fo43_5 o43_5_21 4194303 ?_; try simp only [putQ]; refine stN fo43_5 o43_5_22 8388607 ?_; try simp only [putQ]; refine stN fo43_5 o43_5_23 16777215 ?_; try simp only [putQ]; refine stN fo43_5 o43_5_24 33554431 ?_; try simp only [putQ]; refine stN fo43_5 o43_5_25 67108863 ?_; try simp only [putQ]; refine stY fo43_5 o43_5_26 134217727 ?_; try simp only [putQ]; refine stY fo43_5 o43_5_27 268435455 ?_; try simp only [putQ]; refine stY fo43_5 o43_5_28 536870911 ?_; try simp only [putQ]; refine stY fo43_5 o43_5_29 1073741823 ?_; try simp only [putQ]; refine stY fo43_5 o43_5_30 2147483647 ?_; try simp only [putQ]; refine stY fo43_5 o43_5_31 4294967295 ?_; try simp only [putQ]
                  refine stV (.bool false) fo43_5 o43_5_32 8589934591 ?_ ?_
                  · (intro w hSw; (try dsimp only at hSw); go_simp; all_goals (first | with_reducible rfl |  assumption | (simp; done) | (simp; omega)))
                  (try simp only [putQ]); refine stY fo43_5 o43_5_33 17179869183 ?_; try simp only [putQ]; refine stY fo43_5 o43_5_34 34359738367 ?_; try simp only [putQ]; refine stY fo43_5 o43_5_35 68719476735 ?_; try simp only [putQ]; refine stY fo43_5 o43_5_36 137438953471 ?_; try simp only [putQ]
                  refine stC fo43_5 o43_5_37 274877906943 (fun K hK => ?_)
                  go_simp
                  refine (stok_lit ba bl bc bf true _ hHeld.2.2.2.2.1 hbl' y4.out).mono ?_; rintro r w4 ⟨rfl, k4⟩
                  go_wp2_with fail
                  refine hK.out _ _ ?_ (fun hHeld => ?_)
                  · (try dsimp only); exact ⟨keep_below k4 hHeld.1, keep_below k4 hHeld.2.1, keep_below k4 hHeld.2.2.1, keep_below k4 hHeld.2.2.2.1, hHeld.2.2.2.2.1.below k4, btrans hHeld.2.2.2.2.2 k4⟩
                  clear hK K
                  (try simp only [putQ]); refine stY fo43_5 o43_5_38 549755813887 ?_; try simp only [putQ]; refine stY fo43_5 o43_5_39 1099511627775 ?_; try simp only [putQ]; refine stY fo43_5 o43_5_40 2199023255551 ?_; try simp only [putQ]; refine stY fo43_5 o43_5_41 4398046511103 ?_; try simp only [putQ]; refine stY fo43_5 o43_5_42 8796093022207 ?_; try simp only [putQ]; refine stY fo43_5 o43_5_43 17592186044415 ?_; try simp only [putQ]; refine stY fo43_5 o43_5_44 35184372088831 ?_; try simp only [putQ]
                  refine stC fo43_5 o43_5_45 70368744177663 (fun K hK => ?_)
                  go_simp
                  refine (ssite_lit ba bl bc bf n false y5.out _ hHeld.2.2.2.2.1 hbl').mono ?_; rintro r w5 ⟨rfl, k5⟩
                  go_wp2_with fail
                  refine hK.out _ _ ?_ (fun hHeld => ?_)
                  · (try dsimp only); exact ⟨keep_below k5 hHeld.1, keep_below k5 hHeld.2.1, keep_below k5 hHeld.2.2.1, keep_below k5 hHeld.2.2.2.1, hHeld.2.2.2.2.1.below k5, btrans hHeld.2.2.2.2.2 k5⟩
                  clear hK K
                  (try simp only [putQ]); refine stY fo43_5 o43_5_46 140737488355327 ?_; try simp only [putQ]; refine stY fo43_5 o43_5_47 281474976710655 ?_; try simp only [putQ]
                  refine wpAnyH_done (by kernel_rfl) ?_ _
                  go_wp2
                  go_ret
                  exact ⟨ret_bool (oths_no hlt (.inl (by rw [hn.out, hbl2.out, hbf.out, hso.out, y5.out]; simp))).symm, btrans b0 hHeld.2.2.2.2.2⟩
                · have y5 : Hid (sitB bl bf n = true) := z5
                  clear z5
                  refine wp_region_m (S := (fun w' => w'.cell? ⟨w.heap.size, 0, none⟩ = some (.int .i64 me) ∧ w'.cell? ⟨w.heap.size, 20, none⟩ = some (.slice (some ⟨b, off, none⟩) ol oc) ∧ w'.cell? ⟨K2, 0, none⟩ = some (.int .i64 n) ∧ w'.cell? ⟨K2, 1, none⟩ = some (.slice ba bl bc) ∧ FSl w' ba bl bf ∧ Below u.heap.size u w')) o43_5 48 fo43_5 ?_ (fun hHeld => ?_)
                  · (try dsimp only); exact ⟨keep_drew g0, keep_drew g20, keep_drew q1, keep_drew q2, q3.below (Below.refl _ _).drew, b2.drew⟩
                  refine stY fo43_5 o43_5_0 1 ?_; try simp only [putQ]; refine stY fo43_5 o43_5_1 3 ?_; try simp only [putQ]
                  refine stC fo43_5 o43_5_2 7 (fun K hK => ?_)
                  go_simp
                  refine (lin_lit n 0 1 true y1.out _).mono ?_; rintro r w2 ⟨rfl, hw⟩; obtain rfl := hw.symm; clear hw
                  go_wp2_with fail
                  refine hK.out _ _ ?_ (fun hHeld => ?_)
                  · (try dsimp only); exact hHeld
                  clear hK K
                  (try simp only [putQ]); refine stY fo43_5 o43_5_3 15 ?_; try simp only [putQ]; refine stY fo43_5 o43_5_4 31 ?_; try simp only [putQ]; refine stY fo43_5 o43_5_5 63 ?_; try simp only [putQ]; refine stY fo43_5 o43_5_6 127 ?_; try simp only [putQ]; refine stY fo43_5 o43_5_7 255 ?_; try simp only [putQ]; refine stY fo43_5 o43_5_8 511 ?_; try simp only [putQ]
                  refine stC fo43_5 o43_5_9 1023 (fun K hK => ?_)
                  go_simp
                  refine (lsite_any me _).mono ?_; rintro r w3 ⟨rfl, hw⟩; obtain rfl := hw.symm; clear hw; rw [hsm.out]
                  go_wp2_with fail
                  refine hK.out _ _ ?_ (fun hHeld => ?_)
                  · (try dsimp only); exact hHeld
                  clear hK K
                  (try simp only [putQ])
                  refine stV (.bool false) fo43_5 o43_5_10 2047 ?_ ?_
                  · (intro w hSw; (try dsimp only at hSw); go_simp; all_goals (first | with_reducible rfl |  assumption | (simp; done) | (simp; omega)))
                  (try simp only [putQ]); refine stY fo43_5 o43_5_11 4095 ?_; try simp only [putQ]; refine stY fo43_5 o43_5_12 8191 ?_; try simp only [putQ]; refine stY fo43_5 o43_5_13 16383 ?_; try simp only [putQ]
                  refine stV (.bool false) fo43_5 o43_5_14 32767 ?_ ?_
                  · (intro w hSw; (try dsimp only at hSw); go_simp; all_goals (first | with_reducible rfl |  assumption | (simp; done) | (simp; omega)))
                  (try simp only [putQ]); refine stY fo43_5 o43_5_15 65535 ?_; try simp only [putQ]; refine stN fo43_5 o43_5_16 131071 ?_; try simp only [putQ]; refine stN fo43_5 o43_5_17 262143 ?_; try simp only [putQ]; refine stN fo43_5 o43_5_18 524287 ?_; try simp only [putQ]; refine stN fo43_5 o43_5_19 1048575 ?_; try simp only [putQ]; refine stN fo43_5 o43_5_20 2097151 ?_; try simp only [putQ]; refine stN fo43_5 o43_5_21 4194303 ?_; try simp only [putQ]; refine stN fo43_5 o43_5_22 8388607 ?_; try simp only [putQ]; refine stN fo43_5 o43_5_23 16777215 ?_; try simp only [putQ]; refine stN fo43_5 o43_5_24 33554431 ?_; try simp only [putQ]; refine stN fo43_5 o43_5_25 67108863 ?_; try simp only [putQ]; refine stY fo43_5 o43_5_26 134217727 ?_; try simp only [putQ]; refine stY fo43_5 o43_5_27 268435455 ?_; try simp only [putQ]; refine stY fo43_5 o43_5_28 536870911 ?_; try simp only [putQ]; refine stY fo43_5 o43_5_29 1073741823 ?_; try simp only [putQ]; refine stY fo43_5 o43_5_30 2147483647 ?_; try simp only [putQ]; refine stY fo43_5 o43_5_31 4294967295 ?_; try simp only [putQ]
                  refine stV (.bool false) fo43_5 o43_5_32 8589934591 ?_ ?_
                  · (intro w hSw; (try dsimp only at hSw); go_simp; all_goals (first | with_reducible rfl |  assumption | (simp; done) | (simp; omega)))
                  (try simp only [putQ]); refine stY fo43_5 o43_5_33 17179869183 ?_; try simp only [putQ]; refine stY fo43_5 o43_5_34 34359738367 ?_; try simp only [putQ]; refine stY fo43_5 o43_5_35 68719476735 ?_; try simp only [putQ]; refine stY fo43_5 o43_5_36 137438953471 ?_; try simp only [putQ]
                  refine stC fo43_5 o43_5_37 274877906943 (fun K hK => ?_)
                  go_simp
                  refine (stok_lit ba bl bc bf true _ hHeld.2.2.2.2.1 hbl' y4.out).mono ?_; rintro r w4 ⟨rfl, k4⟩
                  go_wp2_with fail
                  refine hK.out _ _ ?_ (fun hHeld => ?_)
                  · (try dsimp only); exact ⟨keep_below k4 hHeld.1, keep_below k4 hHeld.2.1, keep_below k4 hHeld.2.2.1, keep_below k4 hHeld.2.2.2.1, hHeld.2.2.2.2.1.below k4, btrans hHeld.2.2.2.2.2 k4⟩
                  clear hK K
                  (try simp only [putQ]); refine stY fo43_5 o43_5_38 549755813887 ?_; try simp only [putQ]; refine stY fo43_5 o43_5_39 1099511627775 ?_; try simp only [putQ]; refine stY fo43_5 o43_5_40 2199023255551 ?_; try simp only [putQ]; refine stY fo43_5 o43_5_41 4398046511103 ?_; try simp only [putQ]; refine stY fo43_5 o43_5_42 8796093022207 ?_; try simp only [putQ]; refine stY fo43_5 o43_5_43 17592186044415 ?_; try simp only [putQ]; refine stY fo43_5 o43_5_44 35184372088831 ?_; try simp only [putQ]
                  refine stC fo43_5 o43_5_45 70368744177663 (fun K hK => ?_)
                  go_simp
                  refine (ssite_lit ba bl bc bf n true y5.out _ hHeld.2.2.2.2.1 hbl').mono ?_; rintro r w5 ⟨rfl, k5⟩
                  go_wp2_with fail
                  refine hK.out _ _ ?_ (fun hHeld => ?_)
                  · (try dsimp only); exact ⟨keep_below k5 hHeld.1, keep_below k5 hHeld.2.1, keep_below k5 hHeld.2.2.1, keep_below k5 hHeld.2.2.2.1, hHeld.2.2.2.2.1.below k5, btrans hHeld.2.2.2.2.2 k5⟩
                  clear hK K
                  (try simp only [putQ]); refine stY fo43_5 o43_5_46 140737488355327 ?_; try simp only [putQ]; refine stY fo43_5 o43_5_47 281474976710655 ?_; try simp only [putQ]
                  refine wpAnyH_done (by kernel_rfl) ?_ _
                  go_wp2
                  go_roundw
                  case rel => exact ⟨0 + 1, by omega, by go_num, hHeld.2.2.2.2.2, fun j hj => by
                      by_cases e : j = 0
                      · subst e; rw [hn.out, hbl2.out, hbf.out, hso.out, y1.out, y4.out, y5.out, hsm.out]; simp [e0]; omega
                      · exact hall j (by omega), fun j hj h0 => by
                      by_cases e : j = 0
                      · omega
                      · exact hasc j (by omega) h0⟩
                  case measure => simp [intOf]; omega
      · obtain ⟨m, rfl⟩ : ∃ m, k = m + 1 := ⟨k - 1, by omega⟩
        obtain ⟨p0, _⟩ := (hf.below b2 hbl) m (by omega)
        obtain ⟨n0, hn0⟩ : ∃ n0, Hid ((G m).n = n0) := ⟨_, rfl⟩
        rw [hn0.out] at p0
        have i2 : (0 : Int) ≤ (m : Int) := by omega
        have i3 : (m : Int) + 1 < (ol : Int) := by omega
        have i4 : (m : Int) < (ol : Int) := by omega
        have i5 : (0 : Int) ≤ (m : Int) + 1 := by omega
        have i6 : (0 : Int) < (m : Int) + 1 := by omega
        have i7 : IntKind.i64.wrap (m : Int) = (m : Int) := by rw [IntKind.wrap_i64]; omega
        have i8 : IntKind.i64.wrap ((m : Int) + 1 - 1) = (m : Int) := by rw [IntKind.wrap_i64]; omega
        have e1 : ((m + 1 : Nat) : Int) = (m : Int) + 1 := by omega
        clear i0 i1
        rw [e1]
        go_upto_region 5 with fail
        generalize wr.alloc (.cells #[.int .i64 n, .slice ba bl bc] 97) = v at *
        generalize wr.heap.size = K2 at *
        have q1 := Y.c 0 (.int .i64 n) rfl
        have q2 := Y.c 1 (.slice ba bl bc) rfl
        clear Y c0 c1 f0 f20 hS
        cases z1 : inb n 0 1
        · have y1 : Hid (inb n 0 1 = false) := z1
          clear z1
          refine wp_region_m (S := (fun w' => w'.cell? ⟨w.heap.size, 0, none⟩ = some (.int .i64 me) ∧ w'.cell? ⟨w.heap.size, 20, none⟩ = some (.slice (some ⟨b, off, none⟩) ol oc) ∧ w'.cell? ⟨K2, 0, none⟩ = some (.int .i64 n) ∧ w'.cell? ⟨K2, 1, none⟩ = some (.slice ba bl bc) ∧ FSl w' ba bl bf ∧ w'.cell? ⟨b, off + m * 2, none⟩ = some (.int .i64 n0) ∧ Below u.heap.size u w')) o43_5 48 fo43_5 ?_ (fun hHeld => ?_)
          · (try dsimp only); exact ⟨keep_drew g0, keep_drew g20, keep_drew q1, keep_drew q2, q3.below (Below.refl _ _).drew, keep_drew p0, b2.drew⟩
          refine stY fo43_5 o43_5_0 1 ?_; try simp only [putQ]; refine stY fo43_5 o43_5_1 3 ?_; try simp only [putQ]
          refine stC fo43_5 o43_5_2 7 (fun K hK => ?_)
          go_simp
          refine (lin_lit n 0 1 false y1.out _).mono ?_; rintro r w2 ⟨rfl, hw⟩; obtain rfl := hw.symm; clear hw
          go_wp2_with fail
          refine hK.out _ _ ?_ (fun hHeld => ?_)
          · (try dsimp only); exact hHeld
          clear hK K
          (try simp only [putQ]); refine stY fo43_5 o43_5_3 15 ?_; try simp only [putQ]; refine stY fo43_5 o43_5_4 31 ?_; try simp only [putQ]; refine stN fo43_5 o43_5_5 63 ?_; try simp only [putQ]; refine stN fo43_5 o43_5_6 127 ?_; try simp only [putQ]; refine stN fo43_5 o43_5_7 255 ?_; try simp only [putQ]; refine stN fo43_5 o43_5_8 511 ?_; try simp only [putQ]; refine stN fo43_5 o43_5_9 1023 ?_; try simp only [putQ]; refine stN fo43_5 o43_5_10 2047 ?_; try simp only [putQ]; refine stY fo43_5 o43_5_11 4095 ?_; try simp only [putQ]; refine stY fo43_5 o43_5_12 8191 ?_; try simp only [putQ]; refine stN fo43_5 o43_5_13 16383 ?_; try simp only [putQ]; refine stN fo43_5 o43_5_14 32767 ?_; try simp only [putQ]; refine stN fo43_5 o43_5_15 65535 ?_; try simp only [putQ]; refine stN fo43_5 o43_5_16 131071 ?_; try simp only [putQ]; refine stN fo43_5 o43_5_17 262143 ?_; try simp only [putQ]; refine stN fo43_5 o43_5_18 524287 ?_; try simp only [putQ]; refine stN fo43_5 o43_5_19 1048575 ?_; try simp only [putQ]; refine stN fo43_5 o43_5_20 2097151 ?_; try simp only [putQ]; refine stN fo43_5 o43_5_21 4194303 ?_; try simp only [putQ]; refine stN fo43_5 o43_5_22 8388607 ?_; try simp only [putQ]; refine stN fo43_5 o43_5_23 16777215 ?_; try simp only [putQ]; refine stN fo43_5 o43_5_24 33554431 ?_; try simp only [putQ]; refine stN fo43_5 o43_5_25 67108863 ?_; try simp only [putQ]; refine stN fo43_5 o43_5_26 134217727 ?_; try simp only [putQ]; refine stY fo43_5 o43_5_27 268435455 ?_; try simp only [putQ]; refine stY fo43_5 o43_5_28 536870911 ?_; try simp only [putQ]; refine stN fo43_5 o43_5_29 1073741823 ?_; try simp only [putQ]; refine stN fo43_5 o43_5_30 2147483647 ?_; try simp only [putQ]; refine stN fo43_5 o43_5_31 4294967295 ?_; try simp only [putQ]; refine stN fo43_5 o43_5_32 8589934591 ?_; try simp only [putQ]; refine stY fo43_5 o43_5_33 17179869183 ?_; try simp only [putQ]; refine stY fo43_5 o43_5_34 34359738367 ?_; try simp only [putQ]; refine stN fo43_5 o43_5_35 68719476735 ?_; try simp only [putQ]; refine stN fo43_5 o43_5_36 137438953471 ?_; try simp only [putQ]; refine stN fo43_5 o43_5_37 274877906943 ?_; try simp only [putQ]; refine stN fo43_5 o43_5_38 549755813887 ?_; try simp only [putQ]; refine stY fo43_5 o43_5_39 1099511627775 ?_; try simp only [putQ]; refine stY fo43_5 o43_5_40 2199023255551 ?_; try simp only [putQ]; refine stN fo43_5 o43_5_41 4398046511103 ?_; try simp only [putQ]; refine stN fo43_5 o43_5_42 8796093022207 ?_; try simp only [putQ]; refine stN fo43_5 o43_5_43 17592186044415 ?_; try simp only [putQ]; refine stN fo43_5 o43_5_44 35184372088831 ?_; try simp only [putQ]; refine stN fo43_5 o43_5_45 70368744177663 ?_; try simp only [putQ]; refine stN fo43_5 o43_5_46 140737488355327 ?_; try simp only [putQ]; refine stY fo43_5 o43_5_47 281474976710655 ?_; try simp only [putQ]
          refine wpAnyH_done (by kernel_rfl) ?_ _
          go_wp2
          go_ret
          exact ⟨ret_bool (oths_no hlt (.inl (by rw [hn.out, hbl2.out, hbf.out, hso.out, y1.out]; rfl))).symm, btrans b0 hHeld.2.2.2.2.2.2⟩
        · have y1 : Hid (inb n 0 1 = true) := z1
          clear z1
          by_cases e0 : n = sm
          · subst e0
            refine wp_region_m (S := (fun w' => w'.cell? ⟨w.heap.size, 0, none⟩ = some (.int .i64 me) ∧ w'.cell? ⟨w.heap.size, 20, none⟩ = some (.slice (some ⟨b, off, none⟩) ol oc) ∧ w'.cell? ⟨K2, 0, none⟩ = some (.int .i64 n) ∧ w'.cell? ⟨K2, 1, none⟩ = some (.slice ba bl bc) ∧ FSl w' ba bl bf ∧ w'.cell? ⟨b, off + m * 2, none⟩ = some (.int .i64 n0) ∧ Below u.heap.size u w')) o43_5 48 fo43_5 ?_ (fun hHeld => ?_)
            · (try dsimp only); exact ⟨keep_drew g0, keep_drew g20, keep_drew q1, keep_drew q2, q3.below (Below.refl _ _).drew, keep_drew p0, b2.drew⟩
            refine stY fo43_5 o43_5_0 1 ?_; try simp only [putQ]; refine stY fo43_5 o43_5_1 3 ?_; try simp only [putQ]
            refine stC fo43_5 o43_5_2 7 (fun K hK => ?_)
            go_simp
            refine (lin_lit n 0 1 true y1.out _).mono ?_; rintro r w2 ⟨rfl, hw⟩; obtain rfl := hw.symm; clear hw
            go_wp2_with fail
            refine hK.out _ _ ?_ (fun hHeld => ?_)
            · (try dsimp only); exact hHeld
            clear hK K
            (try simp only [putQ]); refine stY fo43_5 o43_5_3 15 ?_; try simp only [putQ]; refine stY fo43_5 o43_5_4 31 ?_; try simp only [putQ]; refine stY fo43_5 o43_5_5 63 ?_; try simp only [putQ]; refine stY fo43_5 o43_5_6 127 ?_; try simp only [putQ]; refine stY fo43_5 o43_5_7 255 ?_; try simp only [putQ]; refine stY fo43_5 o43_5_8 511 ?_; try simp only [putQ]
            refine stC fo43_5 o43_5_9 1023 (fun K hK => ?_)
            go_simp
            refine (lsite_any me _).mono ?_; rintro r w3 ⟨rfl, hw⟩; obtain rfl := hw.symm; clear hw; rw [hsm.out]
            go_wp2_with fail
            refine hK.out _ _ ?_ (fun hHeld => ?_)
            · (try dsimp only); exact hHeld
            clear hK K
            (try simp only [putQ])
            refine stV (.bool true) fo43_5 o43_5_10 2047 ?_ ?_
            · (intro w hSw; (try dsimp only at hSw); go_simp; all_goals (first | with_reducible rfl |  assumption | (simp; done) | (simp; omega)))
            (try simp only [putQ]); refine stY fo43_5 o43_5_11 4095 ?_; try simp only [putQ]; refine stY fo43_5 o43_5_12 8191 ?_; try simp only [putQ]; refine stN fo43_5 o43_5_13 16383 ?_; try simp only [putQ]; refine stN fo43_5 o43_5_14 32767 ?_; try simp only [putQ]; refine stN fo43_5 o43_5_15 65535 ?_; try simp only [putQ]; refine stN fo43_5 o43_5_16 131071 ?_; try simp only [putQ]; refine stN fo43_5 o43_5_17 262143 ?_; try simp only [putQ]; refine stN fo43_5 o43_5_18 524287 ?_; try simp only [putQ]; refine stN fo43_5 o43_5_19 1048575 ?_; try simp only [putQ]; refine stN fo43_5 o43_5_20 2097151 ?_; try simp only [putQ]; refine stN fo43_5 o43_5_21 4194303 ?_; try simp only [putQ]; refine stN fo43_5 o43_5_22 8388607 ?_; try simp only [putQ]; refine stN fo43_5 o43_5_23 16777215 ?_; try simp only [putQ]; refine stN fo43_5 o43_5_24 33554431 ?_; try simp only [putQ]; refine stN fo43_5 o43_5_25 67108863 ?_; try simp only [putQ]; refine stN fo43_5 o43_5_26 134217727 ?_; try simp only [putQ]; refine stY fo43_5 o43_5_27 268435455 ?_; try simp only [putQ]; refine stY fo43_5 o43_5_28 536870911 ?_; try simp only [putQ]; refine stN fo43_5 o43_5_29 1073741823 ?_; try simp only [putQ]; refine stN fo43_5 o43_5_30 2147483647 ?_; try simp only [putQ]; refine stN fo43_5 o43_5_31 4294967295 ?_; try simp only [putQ]; refine stN fo43_5 o43_5_32 8589934591 ?_; try simp only [putQ]; refine stY fo43_5 o43_5_33 17179869183 ?_; try simp only [putQ]; refine stY fo43_5 o43_5_34 34359738367 ?_; try simp only [putQ]; refine stN fo43_5 o43_5_35 68719476735 ?_; try simp only [putQ]; refine stN fo43_5 o43_5_36 137438953471 ?_; try simp only [putQ]; refine stN fo43_5 o43_5_37 274877906943 ?_; try simp only [putQ]; refine stN fo43_5 o43_5_38 549755813887 ?_; try simp only [putQ]; refine stY fo43_5 o43_5_39 1099511627775 ?_; try simp only [putQ]; refine stY fo43_5 o43_5_40 2199023255551 ?_; try simp only [putQ]; refine stN fo43_5 o43_5_41 4398046511103 ?_; try simp only [putQ]; refine stN fo43_5 o43_5_42 8796093022207 ?_; try simp only [putQ]; refine stN fo43_5 o43_5_43 17592186044415 ?_; try simp only [putQ]; refine stN fo43_5 o43_5_44 35184372088831 ?_; try simp only [putQ]; refine stN fo43_5 o43_5_45 70368744177663 ?_; try simp only [putQ]; refine stN fo43_5 o43_5_46 140737488355327 ?_; try simp only [putQ]; refine stY fo43_5 o43_5_47 281474976710655 ?_; try simp only [putQ]
            refine wpAnyH_done (by kernel_rfl) ?_ _
            go_wp2
            go_ret
            exact ⟨ret_bool (oths_no hlt (.inl (by rw [hn.out, hbl2.out, hbf.out, hso.out, hsm.out]; simp))).symm, btrans b0 hHeld.2.2.2.2.2.2⟩
          · have e0' : (n == sm) = false := by simpa using e0
            by_cases e2 : n ≤ n0
            · skip
              refine wp_region_m (S := (fun w' => w'.cell? ⟨w.heap.size, 0, none⟩ = some (.int .i64 me) ∧ w'.cell? ⟨w.heap.size, 20, none⟩ = some (.slice (some ⟨b, off, none⟩) ol oc) ∧ w'.cell? ⟨K2, 0, none⟩ = some (.int .i64 n) ∧ w'.cell? ⟨K2, 1, none⟩ = some (.slice ba bl bc) ∧ FSl w' ba bl bf ∧ w'.cell? ⟨b, off + m * 2, none⟩ = some (.int .i64 n0) ∧ Below u.heap.size u w')) o43_5 48 fo43_5 ?_ (fun hHeld => ?_)
              · (try dsimp only); exact ⟨keep_drew g0, keep_drew g20, keep_drew q1, keep_drew q2, q3.below (Below.refl _ _).drew, keep_drew p0, b2.drew⟩
              refine stY fo43_5 o43_5_0 1 ?_; try simp only [putQ]; refine stY fo43_5 o43_5_1 3 ?_; try simp only [putQ]
              refine stC fo43_5 o43_5_2 7 (fun K hK => ?_)
              go_simp
              refine (lin_lit n 0 1 true y1.out _).mono ?_; rintro r w2 ⟨rfl, hw⟩; obtain rfl := hw.symm; clear hw
              go_wp2_with fail
              refine hK.out _ _ ?_ (fun hHeld => ?_)
              · (try dsimp only); exact hHeld
              clear hK K
              (try simp only [putQ]); refine stY fo43_5 o43_5_3 15 ?_; try simp only [putQ]; refine stY fo43_5 o43_5_4 31 ?_; try simp only [putQ]; refine stY fo43_5 o43_5_5 63 ?_; try simp only [putQ]; refine stY fo43_5 o43_5_6 127 ?_; try simp only [putQ]; refine stY fo43_5 o43_5_7 255 ?_; try simp only [putQ]; refine stY fo43_5 o43_5_8 511 ?_; try simp only [putQ]
              refine stC fo43_5 o43_5_9 1023 (fun K hK => ?_)
              go_simp
              refine (lsite_any me _).mono ?_; rintro r w3 ⟨rfl, hw⟩; obtain rfl := hw.symm; clear hw; rw [hsm.out]
              go_wp2_with fail
              refine hK.out _ _ ?_ (fun hHeld => ?_)
              · (try dsimp only); exact hHeld
              clear hK K
              (try simp only [putQ])
              refine stV (.bool false) fo43_5 o43_5_10 2047 ?_ ?_
              · (intro w hSw; (try dsimp only at hSw); go_simp; all_goals (first | with_reducible rfl |  assumption | (simp; done) | (simp; omega)))
              (try simp only [putQ]); refine stY fo43_5 o43_5_11 4095 ?_; try simp only [putQ]; refine stY fo43_5 o43_5_12 8191 ?_; try simp only [putQ]; refine stY fo43_5 o43_5_13 16383 ?_; try simp only [putQ]
              refine stV (.bool true) fo43_5 o43_5_14 32767 ?_ ?_
              · (intro w hSw; (try dsimp only at hSw); go_simp; all_goals (first | with_reducible rfl |  assumption | (simp; done) | (simp; omega)))
              (try simp only [putQ]); refine stY fo43_5 o43_5_15 65535 ?_; try simp only [putQ]; refine stY fo43_5 o43_5_16 131071 ?_; try simp only [putQ]; refine stY fo43_5 o43_5_17 262143 ?_; try simp only [putQ]; refine stY fo43_5 o43_5_18 524287 ?_; try simp only [putQ]; refine stY fo43_5 o43_5_19 1048575 ?_; try simp only [putQ]; refine stY fo43_5 o43_5_20 2097151 ?_; try simp only [putQ]; refine stY fo43_5 o43_5_21 4194303 ?_; try simp only [putQ]; refine stY fo43_5 o43_5_22 8388607 ?_; try simp only [putQ]; refine stY fo43_5 o43_5_23 16777215 ?_; try simp only [putQ]; refine stY fo43_5 o43_5_24 33554431 ?_; try simp only [putQ]
              refine stV (.bool true) fo43_5 o43_5_25 67108863 ?_ ?_
              · (intro w hSw; (try dsimp only at hSw); go_simp; all_goals (first | with_reducible rfl |  assumption | (simp; done) | (simp; omega)))
              (try simp only [putQ]); refine stY fo43_5 o43_5_26 134217727 ?_; try simp only [putQ]; refine stY fo43_5 o43_5_27 268435455 ?_; try simp only [putQ]; refine stY fo43_5 o43_5_28 536870911 ?_; try simp only [putQ]; refine stN fo43_5 o43_5_29 1073741823 ?_; try simp only [putQ]; refine stN fo43_5 o43_5_30 2147483647 ?_; try simp only [putQ]; refine stN fo43_5 o43_5_31 4294967295 ?_; try simp only [putQ]; refine stN fo43_5 o43_5_32 8589934591 ?_; try simp only [putQ]; refine stY fo43_5 o43_5_33 17179869183 ?_; try simp only [putQ]; refine stY fo43_5 o43_5_34 34359738367 ?_; try simp only [putQ]; refine stN fo43_5 o43_5_35 68719476735 ?_; try simp only [putQ]; refine stN fo43_5 o43_5_36 137438953471 ?_; try simp only [putQ]; refine stN fo43_5 o43_5_37 274877906943 ?_; try simp only [putQ]; refine stN fo43_5 o43_5_38 549755813887 ?_; try simp only [putQ]; refine stY fo43_5 o43_5_39 1099511627775 ?_; try simp only [putQ]; refine stY fo43_5 o43_5_40 2199023255551 ?_; try simp only [putQ]; refine stN fo43_5 o43_5_41 4398046511103 ?_; try simp only [putQ]; refine stN fo43_5 o43_5_42 8796093022207 ?_; try simp only [putQ]; refine stN fo43_5 o43_5_43 17592186044415 ?_; try simp only [putQ]; refine stN fo43_5 o43_5_44 35184372088831 ?_; try simp only [putQ]; refine stN fo43_5 o43_5_45 70368744177663 ?_; try simp only [putQ]; refine stN fo43_5 o43_5_46 140737488355327 ?_; try simp only [putQ]; refine stY fo43_5 o43_5_47 281474976710655 ?_; try simp only [putQ]
              refine wpAnyH_done (by kernel_rfl) ?_ _
              go_wp2
              go_ret
              exact ⟨ret_bool (oths_no hlt (.inr ⟨by omega, by rw [hn.out, Nat.add_sub_cancel, hn0.out]; omega⟩)).symm, btrans b0 hHeld.2.2.2.2.2.2⟩
            · skip
              by_cases e3 : bl = 0
              · have y3 : Hid (bl = 0) := e3
                clear e3
                refine wp_region_m (S := (fun w' => w'.cell? ⟨w.heap.size, 0, none⟩ = some (.int .i64 me) ∧ w'.cell? ⟨w.heap.size, 20, none⟩ = some (.slice (some ⟨b, off, none⟩) ol oc) ∧ w'.cell? ⟨K2, 0, none⟩ = some (.int .i64 n) ∧ w'.cell? ⟨K2, 1, none⟩ = some (.slice ba bl bc) ∧ FSl w' ba bl bf ∧ w'.cell? ⟨b, off + m * 2, none⟩ = some (.int .i64 n0) ∧ Below u.heap.size u w')) o43_5 48 fo43_5 ?_ (fun hHeld => ?_)
                · (try dsimp only); exact ⟨keep_drew g0, keep_drew g20, keep_drew q1, keep_drew q2, q3.below (Below.refl _ _).drew, keep_drew p0, b2.drew⟩
                refine stY fo43_5 o43_5_0 1 ?_; try simp only [putQ]; refine stY fo43_5 o43_5_1 3 ?_; try simp only [putQ]
                refine stC fo43_5 o43_5_2 7 (fun K hK => ?_)
                go_simp
                refine (lin_lit n 0 1 true y1.out _).mono ?_; rintro r w2 ⟨rfl, hw⟩; obtain rfl := hw.symm; clear hw
                go_wp2_with fail
                refine hK.out _ _ ?_ (fun hHeld => ?_)
                · (try dsimp only); exact hHeld
                clear hK K
                (try simp only [putQ]); refine stY fo43_5 o43_5_3 15 ?_; try simp only [putQ]; refine stY fo43_5 o43_5_4 31 ?_; try simp only [putQ]; refine stY fo43_5 o43_5_5 63 ?_; try simp only [putQ]; refine stY fo43_5 o43_5_6 127 ?_; try simp only [putQ]; refine stY fo43_5 o43_5_7 255 ?_; try simp only [putQ]; refine stY fo43_5 o43_5_8 511 ?_; try simp only [putQ]
                refine stC fo43_5 o43_5_9 1023 (fun K hK => ?_)
                go_simp
                refine (lsite_any me _).mono ?_; rintro r w3 ⟨rfl, hw⟩; obtain rfl := hw.symm; clear hw; rw [hsm.out]
                go_wp2_with fail
                refine hK.out _ _ ?_ (fun hHeld => ?_)
                · (try dsimp only); exact hHeld
                clear hK K
                (try simp only [putQ])
                refine stV (.bool false) fo43_5 o43_5_10 2047 ?_ ?_
                · (intro w hSw; (try dsimp only at hSw); go_simp; all_goals (first | with_reducible rfl |  assumption | (simp; done) | (simp; omega)))
                (try simp only [putQ]); refine stY fo43_5 o43_5_11 4095 ?_; try simp only [putQ]; refine stY fo43_5 o43_5_12 8191 ?_; try simp only [putQ]; refine stY fo43_5 o43_5_13 16383 ?_; try simp only [putQ]
                refine stV (.bool true) fo43_5 o43_5_14 32767 ?_ ?_
                · (intro w hSw; (try dsimp only at hSw); go_simp; all_goals (first | with_reducible rfl |  assumption | (simp; done) | (simp; omega)))
                (try simp only [putQ]); refine stY fo43_5 o43_5_15 65535 ?_; try simp only [putQ]; refine stY fo43_5 o43_5_16 131071 ?_; try simp only [putQ]; refine stY fo43_5 o43_5_17 262143 ?_; try simp only [putQ]; refine stY fo43_5 o43_5_18 524287 ?_; try simp only [putQ]; refine stY fo43_5 o43_5_19 1048575 ?_; try simp only [putQ]; refine stY fo43_5 o43_5_20 2097151 ?_; try simp only [putQ]; refine stY fo43_5 o43_5_21 4194303 ?_; try simp only [putQ]; refine stY fo43_5 o43_5_22 8388607 ?_; try simp only [putQ]; refine stY fo43_5 o43_5_23 16777215 ?_; try simp only [putQ]; refine stY fo43_5 o43_5_24 33554431 ?_; try simp only [putQ]
                refine stV (.bool false) fo43_5 o43_5_25 67108863 ?_ ?_
                · (intro w hSw; (try dsimp only at hSw); go_simp; all_goals (first | with_reducible rfl |  assumption | (simp; done) | (simp; omega)))
                (try simp only [putQ]); refine stY fo43_5 o43_5_26 134217727 ?_; try simp only [putQ]; refine stY fo43_5 o43_5_27 268435455 ?_; try simp only [putQ]; refine stY fo43_5 o43_5_28 536870911 ?_; try simp only [putQ]; refine stY fo43_5 o43_5_29 1073741823 ?_; try simp only [putQ]; refine stY fo43_5 o43_5_30 2147483647 ?_; try simp only [putQ]; refine stY fo43_5 o43_5_31 4294967295 ?_; try simp only [putQ]
                refine stV (.bool true) fo43_5 o43_5_32 8589934591 ?_ ?_
                · (intro w hSw; (try dsimp only at hSw); go_simp; all_goals (first | with_reducible rfl | (simp [y3.out]; done) | assumption | (simp; done) | (simp; omega)))
                (try simp only [putQ]); refine stY fo43_5 o43_5_33 17179869183 ?_; try simp only [putQ]; refine stY fo43_5 o43_5_34 34359738367 ?_; try simp only [putQ]; refine stN fo43_5 o43_5_35 68719476735 ?_; try simp only [putQ]; refine stN fo43_5 o43_5_36 137438953471 ?_; try simp only [putQ]; refine stN fo43_5 o43_5_37 274877906943 ?_; try simp only [putQ]; refine stN fo43_5 o43_5_38 549755813887 ?_; try simp only [putQ]; refine stY fo43_5 o43_5_39 1099511627775 ?_; try simp only [putQ]; refine stY fo43_5 o43_5_40 2199023255551 ?_; try simp only [putQ]; refine stN fo43_5 o43_5_41 4398046511103 ?_; try simp only [putQ]; refine stN fo43_5 o43_5_42 8796093022207 ?_; try simp only [putQ]; refine stN fo43_5 o43_5_43 17592186044415 ?_; try simp only [putQ]; refine stN fo43_5 o43_5_44 35184372088831 ?_; try simp only [putQ]; refine stN fo43_5 o43_5_45 70368744177663 ?_; try simp only [putQ]; refine stN fo43_5 o43_5_46 140737488355327 ?_; try simp only [putQ]; refine stY fo43_5 o43_5_47 281474976710655 ?_; try simp only [putQ]
                refine wpAnyH_done (by kernel_rfl) ?_ _
                go_wp2
                go_ret
                exact ⟨ret_bool (oths_no hlt (.inl (by rw [hn.out, hbl2.out, hbf.out, hso.out, y3.out]; simp))).symm, btrans b0 hHeld.2.2.2.2.2.2⟩
              · skip
                cases z4 : tokB bl bf
                · have y4 : Hid (tokB bl bf = false) := z4
                  clear z4
                  refine wp_region_m (S := (fun w' => w'.cell? ⟨w.heap.size, 0, none⟩ = some (.int .i64 me) ∧ w'.cell? ⟨w.heap.size, 20, none⟩ = some (.slice (some ⟨b, off, none⟩) ol oc) ∧ w'.cell? ⟨K2, 0, none⟩ = some (.int .i64 n) ∧ w'.cell? ⟨K2, 1, none⟩ = some (.slice ba bl bc) ∧ FSl w' ba bl bf ∧ w'.cell? ⟨b, off + m * 2, none⟩ = some (.int .i64 n0) ∧ Below u.heap.size u w')) o43_5 48 fo43_5 ?_ (fun hHeld => ?_)
                  · (try dsimp only); exact ⟨keep_drew g0, keep_drew g20, keep_drew q1, keep_drew q2, q3.below (Below.refl _ _).drew, keep_drew p0, b2.drew⟩
                  refine stY fo43_5 o43_5_0 1 ?_; try simp only [putQ]; refine stY fo43_5 o43_5_1 3 ?_; try simp only [putQ]
                  refine stC fo43_5 o43_5_2 7 (fun K hK => ?_)
                  go_simp
                  refine (lin_lit n 0 1 true y1.out _).mono ?_; rintro r w2 ⟨rfl, hw⟩; obtain rfl := hw.symm; clear hw
                  go_wp2_with fail
                  refine hK.out _ _ ?_ (fun hHeld => ?_)
                  · (try dsimp only); exact hHeld
                  clear hK K
                  (try simp only [putQ]); refine stY fo43_5 o43_5_3 15 ?_; try simp only [putQ]; refine stY fo43_5 o43_5_4 31 ?_; try simp only [putQ]; refine stY fo43_5 o43_5_5 63 ?_; try simp only [putQ]; refine stY fo43_5 o43_5_6 127 ?_; try simp only [putQ]; refine stY fo43_5 o43_5_7 255 ?_; try simp only [putQ]; refine stY fo43_5 o43_5_8 511 ?_; try simp only [putQ]
                  refine stC fo43_5 o43_5_9 1023 (fun K hK => ?_)
                  go_simp
                  refine (lsite_any me _).mono ?_; rintro r w3 ⟨rfl, hw⟩; obtain rfl := hw.symm; clear hw; rw [hsm.out]
                  go_wp2_with fail
                  refine hK.out _ _ ?_ (fun hHeld => ?_)
                  · (try dsimp only); exact hHeld
                  clear hK K
                  (try simp only [putQ])
                  refine stV (.bool false) fo43_5 o43_5_10 2047 ?_ ?_
                  · (intro w hSw; (try dsimp only at hSw); go_simp; all_goals (first | with_reducible rfl |  assumption | (simp; done) | (simp; omega)))
                  (try simp only [putQ]); refine stY fo43_5 o43_5_11 4095 ?_; try simp only [putQ]; refine stY fo43_5 o43_5_12 8191 ?_; try simp only [putQ]; refine stY fo43_5 o43_5_13 16383 ?_; try simp only [putQ]
                  refine stV (.bool true) fo43_5 o43_5_14 32767 ?_ ?_
                  · (intro w hSw; (try dsimp only at hSw); go_simp; all_goals (first | with_reducible rfl |  assumption | (simp; done) | (simp; omega)))
                  (try simp only [putQ]); refine stY fo43_5 o43_5_15 65535 ?_; try simp only [putQ]; refine stY fo43_5 o43_5_16 131071 ?_; try simp only [putQ]; refine stY fo43_5 o43_5_17 262143 ?_; try simp only [putQ]; refine stY fo43_5 o43_5_18 524287 ?_; try simp only [putQ]; refine stY fo43_5 o43_5_19 1048575 ?_; try simp only [putQ]; refine stY fo43_5 o43_5_20 2097151 ?_; try simp only [putQ]; refine stY fo43_5 o43_5_21 4194303 ?_; try simp only [putQ]; refine stY fo43_5 o43_5_22 8388607 ?_; try simp only [putQ]; refine stY fo43_5 o43_5_23 16777215 ?_; try simp only [putQ]; refine stY fo43_5 o43_5_24 33554431 ?_; try simp only [putQ]
                  refine stV (.bool false) fo43_5 o43_5_25 67108863 ?_ ?_
                  · (intro w hSw; (try dsimp only at hSw); go_simp; all_goals (first | with_reducible rfl |  assumption | (simp; done) | (simp; omega)))
                  (try simp only [putQ]); refine stY fo43_5 o43_5_26 134217727 ?_; try simp only [putQ]; refine stY fo43_5 o43_5_27 268435455 ?_; try simp only [putQ]; refine stY fo43_5 o43_5_28 536870911 ?_; try simp only [putQ]; refine stY fo43_5 o43_5_29 1073741823 ?_; try simp only [putQ]; refine stY fo43_5 o43_5_30 2147483647 ?_; try simp only [putQ]; refine stY fo43_5 o43_5_31 4294967295 ?_; try simp only [putQ]
                  refine stV (.bool false) fo43_5 o43_5_32 8589934591 ?_ ?_
                  · (intro w hSw; (try dsimp only at hSw); go_simp; all_goals (first | with_reducible rfl |  assumption | (simp; done) | (simp; omega)))
                  (try simp only [putQ]); refine stY fo43_5 o43_5_33 17179869183 ?_; try simp only [putQ]; refine stY fo43_5 o43_5_34 34359738367 ?_; try simp only [putQ]; refine stY fo43_5 o43_5_35 68719476735 ?_; try simp only [putQ]; refine stY fo43_5 o43_5_36 137438953471 ?_; try simp only [putQ]
                  refine stC fo43_5 o43_5_37 274877906943 (fun K hK => ?_)
                  go_simp
                  refine (stok_lit ba bl bc bf false _ hHeld.2.2.2.2.1 hbl' y4.out).mono ?_; rintro r w4 ⟨rfl, k4⟩
                  go_wp2_with fail
                  refine hK.out _ _ ?_ (fun hHeld => ?_)
                  · (try dsimp only); exact ⟨keep_below k4 hHeld.1, keep_below k4 hHeld.2.1, keep_below k4 hHeld.2.2.1, keep_below k4 hHeld.2.2.2.1, hHeld.2.2.2.2.1.below k4, keep_below k4 hHeld.2.2.2.2.2.1, btrans hHeld.2.2.2.2.2.2 k4⟩
                  clear hK K
                  (try simp only [putQ]); refine stY fo43_5 o43_5_38 549755813887 ?_; try simp only [putQ]; refine stY fo43_5 o43_5_39 1099511627775 ?_; try simp only [putQ]; refine stY fo43_5 o43_5_40 2199023255551 ?_; try simp only [putQ]; refine stN fo43_5 o43_5_41 4398046511103 ?_; try simp only [putQ]; refine stN fo43_5 o43_5_42 8796093022207 ?_; try simp only [putQ]; refine stN fo43_5 o43_5_43 17592186044415 ?_; try simp only [putQ]; refine stN fo43_5 o43_5_44 35184372088831 ?_; try simp only [putQ]; refine stN fo43_5 o43_5_45 70368744177663 ?_; try simp only [putQ]; refine stN fo43_5 o43_5_46 140737488355327 ?_; try simp only [putQ]; refine stY fo43_5 o43_5_47 281474976710655 ?_; try simp only [putQ]
                  refine wpAnyH_done (by kernel_rfl) ?_ _
                  go_wp2
                  go_ret
                  exact ⟨ret_bool (oths_no hlt (.inl (by rw [hn.out, hbl2.out, hbf.out, hso.out, y4.out]; simp))).symm, btrans b0 hHeld.2.2.2.2.2.2⟩
                · have y4 : Hid (tokB bl bf = true) := z4
                  clear z4
                  cases z5 : sitB bl bf n
                  · have y5 : Hid (sitB bl bf n = false) := z5
                    clear z5
                    refine wp_region_m (S := (fun w' => w'.cell? ⟨w.heap.size, 0, none⟩ = some (.int .i64 me) ∧ w'.cell? ⟨w.heap.size, 20, none⟩ = some (.slice (some ⟨b, off, none⟩) ol oc) ∧ w'.cell? ⟨K2, 0, none⟩ = some (.int .i64 n) ∧ w'.cell? ⟨K2, 1, none⟩ = some (.slice ba bl bc) ∧ FSl w' ba bl bf ∧ w'.cell? ⟨b, off + m * 2, none⟩ = some (.int .i64 n0) ∧ Below u.heap.size u w')) o43_5 48 fo43_5 ?_ (fun hHeld => ?_)
                    · (try dsimp only); exact ⟨keep_drew g0, keep_drew g20, keep_drew q1, keep_drew q2, q3.below (Below.refl _ _).drew, keep_drew p0, b2.drew⟩
                    refine stY fo43_5 o43_5_0 1 ?_; try simp only [putQ]; refine stY fo43_5 o43_5_1 3 ?_; try simp only [putQ]
                    refine stC fo43_5 o43_5_2 7 (fun K hK => ?_)
                    go_simp
                    refine (lin_lit n 0 1 true y1.out _).mono ?_; rintro r w2 ⟨rfl, hw⟩; obtain rfl := hw.symm; clear hw
                    go_wp2_with fail
                    refine hK.out _ _ ?_ (fun hHeld => ?_)
                    · (try dsimp only); exact hHeld
                    clear hK K
                    (try simp only [putQ]); refine stY fo43_5 o43_5_3 15 ?_; try simp only [putQ]; refine stY fo43_5 o43_5_4 31 ?_; try simp only [putQ]; refine stY fo43_5 o43_5_5 63 ?_; try simp only [putQ]; refine stY fo43_5 o43_5_6 127 ?_; try simp only [putQ]; refine stY fo43_5 o43_5_7 255 ?_; try simp only [putQ]; refine stY fo43_5 o43_5_8 511 ?_; try simp only [putQ]
                    refine stC fo43_5 o43_5_9 1023 (fun K hK => ?_)
                    go_simp
                    refine (lsite_any me _).mono ?_; rintro r w3 ⟨rfl, hw⟩; obtain rfl := hw.symm; clear hw; rw [hsm.out]
                    go_wp2_with fail
                    refine hK.out _ _ ?_ (fun hHeld => ?_)
                    · (try dsimp only); exact hHeld
                    clear hK K
                    (try simp only [putQ])
                    refine stV (.bool false) fo43_5 o43_5_10 2047 ?_ ?_
                    · (intro w hSw; (try dsimp only at hSw); go_simp; all_goals (first | with_reducible rfl |  assumption | (simp; done) | (simp; omega)))
                    (try simp only [putQ]); refine stY fo43_5 o43_5_11 4095 ?_; try simp only [putQ]; refine stY fo43_5 o43_5_12 8191 ?_; try simp only [putQ]; refine stY fo43_5 o43_5_13 16383 ?_; try simp only [putQ]
                    refine stV (.bool true) fo43_5 o43_5_14 32767 ?_ ?_
                    · (intro w hSw; (try dsimp only at hSw); go_simp; all_goals (first | with_reducible rfl |  assumption | (simp; done) | (simp; omega)))
                    (try simp only [putQ]); refine stY fo43_5 o43_5_15 65535 ?_; try simp only [putQ]; refine stY fo43_5 o43_5_16 131071 ?_; try simp only [putQ]; refine stY fo43_5 o43_5_17 262143 ?_; try simp only [putQ]; refine stY fo43_5 o43_5_18 524287 ?_; try simp only [putQ]; refine stY fo43_5 o43_5_19 1048575 ?_; try simp only [putQ]; refine stY fo43_5 o43_5_20 2097151 ?_; try simp only [putQ]; refine stY fo43_5 o43_5_21 4194303 ?_; try simp only [putQ]; refine stY fo43_5 o43_5_22 8388607 ?_; try simp only [putQ]; refine stY fo43_5 o43_5_23 16777215 ?_; try simp only [putQ]; refine stY fo43_5 o43_5_24 33554431 ?_; try simp only [putQ]
                    refine stV (.bool false) fo43_5 o43_5_25 67108863 ?_ ?_
                    · (intro w hSw; (try dsimp only at hSw); go_simp; all_goals (first | with_reducible rfl |  assumption | (simp; done) | (simp; omega)))
                    (try simp only [putQ]); refine stY fo43_5 o43_5_26 134217727 ?_; try simp only [putQ]; refine stY fo43_5 o43_5_27 268435455 ?_; try simp only [putQ]; refine stY fo43_5 o43_5_28 536870911 ?_; try simp only [putQ]; refine stY fo43_5 o43_5_29 1073741823 ?_; try simp only [putQ]; refine stY fo43_5 o43_5_30 2147483647 ?_; try simp only [putQ]; refine stY fo43_5 o43_5_31 4294967295 ?_; try simp only [putQ]
                    refine stV (.bool false) fo43_5 o43_5_32 8589934591 ?_ ?_
                    · (intro w hSw; (try dsimp only at hSw); go_simp; all_goals (first | with_reducible rfl |  assumption | (simp; done) | (simp; omega)))
                    (try simp only [putQ]); refine stY fo43_5 o43_5_33 17179869183 ?_; try simp only [putQ]; refine stY fo43_5 o43_5_34 34359738367 ?_; try simp only [putQ]; refine stY fo43_5 o43_5_35 68719476735 ?_; try simp only [putQ]; refine stY fo43_5 o43_5_36 137438953471 ?_; try simp only [putQ]
                    refine stC fo43_5 o43_5_37 274877906943 (fun K hK => ?_)
                    go_simp
                    refine (stok_lit ba bl bc bf true _ hHeld.2.2.2.2.1 hbl' y4.out).mono ?_; rintro r w4 ⟨rfl, k4⟩
                    go_wp2_with fail
                    refine hK.out _ _ ?_ (fun hHeld => ?_)
                    · (try dsimp only); exact ⟨keep_below k4 hHeld.1, keep_below k4 hHeld.2.1, keep_below k4 hHeld.2.2.1, keep_below k4 hHeld.2.2.2.1, hHeld.2.2.2.2.1.below k4, keep_below k4 hHeld.2.2.2.2.2.1, btrans hHeld.2.2.2.2.2.2 k4⟩
                    clear hK K
                    (try simp only [putQ]); refine stY fo43_5 o43_5_38 549755813887 ?_; try simp only [putQ]; refine stY fo43_5 o43_5_39 1099511627775 ?_; try simp only [putQ]; refine stY fo43_5 o43_5_40 2199023255551 ?_; try simp only [putQ]; refine stY fo43_5 o43_5_41 4398046511103 ?_; try simp only [putQ]; refine stY fo43_5 o43_5_42 8796093022207 ?_; try simp only [putQ]; refine stY fo43_5 o43_5_43 17592186044415 ?_; try simp only [putQ]; refine stY fo43_5 o43_5_44 35184372088831 ?_; try simp only [putQ]
                    refine stC fo43_5 o43_5_45 70368744177663 (fun K hK => ?_)
                    go_simp
                    refine (ssite_lit ba bl bc bf n false y5.out _ hHeld.2.2.2.2.1 hbl').mono ?_; rintro r w5 ⟨rfl, k5⟩
                    go_wp2_with fail
                    refine hK.out _ _ ?_ (fun hHeld => ?_)
                    · (try dsimp only); exact ⟨keep_below k5 hHeld.1, keep_below k5 hHeld.2.1, keep_below k5 hHeld.2.2.1, keep_below k5 hHeld.2.2.2.1, hHeld.2.2.2.2.1.below k5, keep_below k5 hHeld.2.2.2.2.2.1, btrans hHeld.2.2.2.2.2.2 k5⟩
                    clear hK K
                    (try simp only [putQ]); refine stY fo43_5 o43_5_46 140737488355327 ?_; try simp only [putQ]; refine stY fo43_5 o43_5_47 281474976710655 ?_; try simp only [putQ]
                    refine wpAnyH_done (by kernel_rfl) ?_ _
                    go_wp2
                    go_ret
                    exact ⟨ret_bool (oths_no hlt (.inl (by rw [hn.out, hbl2.out, hbf.out, hso.out, y5.out]; simp))).symm, btrans b0 hHeld.2.2.2.2.2.2⟩
                  · have y5 : Hid (sitB bl bf n = true) := z5
                    clear z5
                    refine wp_region_m (S := (fun w' => w'.cell? ⟨w.heap.size, 0, none⟩ = some (.int .i64 me) ∧ w'.cell? ⟨w.heap.size, 20, none⟩ = some (.slice (some ⟨b, off, none⟩) ol oc) ∧ w'.cell? ⟨K2, 0, none⟩ = some (.int .i64 n) ∧ w'.cell? ⟨K2, 1, none⟩ = some (.slice ba bl bc) ∧ FSl w' ba bl bf ∧ w'.cell? ⟨b, off + m * 2, none⟩ = some (.int .i64 n0) ∧ Below u.heap.size u w')) o43_5 48 fo43_5 ?_ (fun hHeld => ?_)
                    · (try dsimp only); exact ⟨keep_drew g0, keep_drew g20, keep_drew q1, keep_drew q2, q3.below (Below.refl _ _).drew, keep_drew p0, b2.drew⟩
                    refine stY fo43_5 o43_5_0 1 ?_; try simp only [putQ]; refine stY fo43_5 o43_5_1 3 ?_; try simp only [putQ]
                    refine stC fo43_5 o43_5_2 7 (fun K hK => ?_)
                    go_simp
                    refine (lin_lit n 0 1 true y1.out _).mono ?_; rintro r w2 ⟨rfl, hw⟩; obtain rfl := hw.symm; clear hw
                    go_wp2_with fail
                    refine hK.out _ _ ?_ (fun hHeld => ?_)
                    · (try dsimp only); exact hHeld
                    clear hK K
                    (try simp only [putQ]); refine stY fo43_5 o43_5_3 15 ?_; try simp only [putQ]; refine stY fo43_5 o43_5_4 31 ?_; try simp only [putQ]; refine stY fo43_5 o43_5_5 63 ?_; try simp only [putQ]; refine stY fo43_5 o43_5_6 127 ?_; try simp only [putQ]; refine stY fo43_5 o43_5_7 255 ?_; try simp only [putQ]; refine stY fo43_5 o43_5_8 511 ?_; try simp only [putQ]
                    refine stC fo43_5 o43_5_9 1023 (fun K hK => ?_)
                    go_simp
                    refine (lsite_any me _).mono ?_; rintro r w3 ⟨rfl, hw⟩; obtain rfl := hw.symm; clear hw; rw [hsm.out]
                    go_wp2_with fail
                    refine hK.out _ _ ?_ (fun hHeld => ?_)
                    · (try dsimp only); exact hHeld
                    clear hK K
                    (try simp only [putQ])
                    refine stV (.bool false) fo43_5 o43_5_10 2047 ?_ ?_
                    · (intro w hSw; (try dsimp only at hSw); go_simp; all_goals (first | with_reducible rfl |  assumption | (simp; done) | (simp; omega)))
                    (try simp only [putQ]); refine stY fo43_5 o43_5_11 4095 ?_; try simp only [putQ]; refine stY fo43_5 o43_5_12 8191 ?_; try simp only [putQ]; refine stY fo43_5 o43_5_13 16383 ?_; try simp only [putQ]
                    refine stV (.bool true) fo43_5 o43_5_14 32767 ?_ ?_
                    · (intro w hSw; (try dsimp only at hSw); go_simp; all_goals (first | with_reducible rfl |  assumption | (simp; done) | (simp; omega)))
                    (try simp only [putQ]); refine stY fo43_5 o43_5_15 65535 ?_; try simp only [putQ]; refine stY fo43_5 o43_5_16 131071 ?_; try simp only [putQ]; refine stY fo43_5 o43_5_17 262143 ?_; try simp only [putQ]; refine stY fo43_5 o43_5_18 524287 ?_; try simp only [putQ]; refine stY fo43_5 o43_5_19 1048575 ?_; try simp only [putQ]; refine stY fo43_5 o43_5_20 2097151 ?_; try simp only [putQ]; refine stY fo43_5 o43_5_21 4194303 ?_; try simp only [putQ]; refine stY fo43_5 o43_5_22 8388607 ?_; try simp only [putQ]; refine stY fo43_5 o43_5_23 16777215 ?_; try simp only [putQ]; refine stY fo43_5 o43_5_24 33554431 ?_; try simp only [putQ]
                    refine stV (.bool false) fo43_5 o43_5_25 67108863 ?_ ?_
                    · (intro w hSw; (try dsimp only at hSw); go_simp; all_goals (first | with_reducible rfl |  assumption | (simp; done) | (simp; omega)))
                    (try simp only [putQ]); refine stY fo43_5 o43_5_26 134217727 ?_; try simp only [putQ]; refine stY fo43_5 o43_5_27 268435455 ?_; try simp only [putQ]; refine stY fo43_5 o43_5_28 536870911 ?_; try simp only [putQ]; refine stY fo43_5 o43_5_29 1073741823 ?_; try simp only [putQ]; refine stY fo43_5 o43_5_30 2147483647 ?_; try simp only [putQ]; refine stY fo43_5 o43_5_31 4294967295 ?_; try simp only [putQ]
                    refine stV (.bool false) fo43_5 o43_5_32 8589934591 ?_ ?_
                    · (intro w hSw; (try dsimp only at hSw); go_simp; all_goals (first | with_reducible rfl |  assumption | (simp; done) | (simp; omega)))
                    (try simp only [putQ]); refine stY fo43_5 o43_5_33 17179869183 ?_; try simp only [putQ]; refine stY fo43_5 o43_5_34 34359738367 ?_; try simp only [putQ]; refine stY fo43_5 o43_5_35 68719476735 ?_; try simp only [putQ]; refine stY fo43_5 o43_5_36 137438953471 ?_; try simp only [putQ]
                    refine stC fo43_5 o43_5_37 274877906943 (fun K hK => ?_)
                    go_simp
                    refine (stok_lit ba bl bc bf true _ hHeld.2.2.2.2.1 hbl' y4.out).mono ?_; rintro r w4 ⟨rfl, k4⟩
                    go_wp2_with fail
                    refine hK.out _ _ ?_ (fun hHeld => ?_)
                    · (try dsimp only); exact ⟨keep_below k4 hHeld.1, keep_below k4 hHeld.2.1, keep_below k4 hHeld.2.2.1, keep_below k4 hHeld.2.2.2.1, hHeld.2.2.2.2.1.below k4, keep_below k4 hHeld.2.2.2.2.2.1, btrans hHeld.2.2.2.2.2.2 k4⟩
                    clear hK K
                    (try simp only [putQ]); refine stY fo43_5 o43_5_38 549755813887 ?_; try simp only [putQ]; refine stY fo43_5 o43_5_39 1099511627775 ?_; try simp only [putQ]; refine stY fo43_5 o43_5_40 2199023255551 ?_; try simp only [putQ]; refine stY fo43_5 o43_5_41 4398046511103 ?_; try simp only [putQ]; refine stY fo43_5 o43_5_42 8796093022207 ?_; try simp only [putQ]; refine stY fo43_5 o43_5_43 17592186044415 ?_; try simp only [putQ]; refine stY fo43_5 o43_5_44 35184372088831 ?_; try simp only [putQ]
                    refine stC fo43_5 o43_5_45 70368744177663 (fun K hK => ?_)
                    go_simp
                    refine (ssite_lit ba bl bc bf n true y5.out _ hHeld.2.2.2.2.1 hbl').mono ?_; rintro r w5 ⟨rfl, k5⟩
                    go_wp2_with fail
                    refine hK.out _ _ ?_ (fun hHeld => ?_)
                    · (try dsimp only); exact ⟨keep_below k5 hHeld.1, keep_below k5 hHeld.2.1, keep_below k5 hHeld.2.2.1, keep_below k5 hHeld.2.2.2.1, hHeld.2.2.2.2.1.below k5, keep_below k5 hHeld.2.2.2.2.2.1, btrans hHeld.2.2.2.2.2.2 k5⟩
                    clear hK K
                    (try simp only [putQ]); refine stY fo43_5 o43_5_46 140737488355327 ?_; try simp only [putQ]; refine stY fo43_5 o43_5_47 281474976710655 ?_; try simp only [putQ]
                    refine wpAnyH_done (by kernel_rfl) ?_ _
                    go_wp2
                    go_roundw
                    case rel => exact ⟨(m + 1) + 1, by omega, by go_num, hHeld.2.2.2.2.2.2, fun j hj => by
                        by_cases e : j = (m + 1)
                        · subst e; rw [hn.out, hbl2.out, hbf.out, hso.out, y1.out, y4.out, y5.out, hsm.out]; simp [e0]; omega
                        · exact hall j (by omega), fun j hj h0 => by
                        by_cases e : j = (m + 1)
                        · subst e; rw [Nat.add_sub_cancel, hn.out, hn0.out]; omega
                        · exact hasc j (by omega) h0⟩
                    case measure => simp [intOf]; omega
    · go_wp2
      go_ret
      refine ⟨ret_bool ?_, btrans b0 hb⟩
      unfold othsB Fgasc risB otA
      rw [decide_eq_true fun j hj => hall j (by omega), decide_eq_true fun j hj h0 => hasc j (by omega) h0]
      rfl
end Go.Proofs.YtnplhfgdbabmaaaGreat
