/- Nodes, the model's way: places. -/
import Derived.Test.YtnplhfgdbabmaaaGreatNd9
import Derived.Test.YtnplhfgdbabmaaaGreatNd12
import Derived.Test.YtnplhfgdbabmaaaGreatMsk
namespace Go.Proofs.YtnplhfgdbabmaaaGreat
open Go.ChangeShapes Go.WideShapes Go.ChangeAt Go.RowKit
attribute [local go_sem ↓] Go.wp_at_zero Go.wp_at_succ
def o42_5 : Array Oper := #[{ dst := some 18, op := .fieldAddr 91 (.tmp 4) 0, type := 0, pos := "l21_node.go:87", after := #[], guard := none }, { dst := some 19, op := .load 3 (.tmp 18), type := 3, pos := "l21_node.go:87", after := #[{ on := 0, ground := .data }], guard := none }, { dst := some 20, op := .call { callee := .value (.func 33), args := #[.tmp 19, .const (.int .i64 0), .const (.int .i64 7)], argTypes := #[3, 3, 3] }, type := 4, pos := "l21_node.go:87", after := #[{ on := 1, ground := .data }], guard := none }, { dst := some 21, op := .unOp .not 4 (.tmp 20), type := 4, pos := "l21_node.go:87", after := #[{ on := 2, ground := .data }], guard := none }, { dst := some 22, op := .move (.tmp 21), type := 4, pos := "l21_node.go:87", after := #[{ on := 3, ground := .data }, { on := 2, ground := .chain }], guard := none }, { dst := some 23, op := .fieldAddr 91 (.tmp 4) 0, type := 0, pos := "l21_node.go:87", after := #[{ on := 4, ground := .guard }], guard := some (4, false) }, { dst := some 24, op := .load 3 (.tmp 23), type := 3, pos := "l21_node.go:87", after := #[{ on := 5, ground := .data }, { on := 4, ground := .guard }], guard := some (4, false) }, { dst := some 25, op := .call { callee := .value (.func 36), args := #[.tmp 24], argTypes := #[3] }, type := 3, pos := "l21_node.go:87", after := #[{ on := 6, ground := .data }, { on := 4, ground := .chain }, { on := 4, ground := .guard }], guard := some (4, false) }, { dst := some 26, op := .fieldAddr 43 (.tmp 1) 0, type := 0, pos := "l21_node.go:87", after := #[{ on := 4, ground := .guard }], guard := some (4, false) }, { dst := some 27, op := .load 3 (.tmp 26), type := 3, pos := "l21_node.go:87", after := #[{ on := 8, ground := .data }, { on := 4, ground := .guard }], guard := some (4, false) }, { dst := some 28, op := .call { callee := .value (.func 36), args := #[.tmp 27], argTypes := #[3] }, type := 3, pos := "l21_node.go:87", after := #[{ on := 9, ground := .data }, { on := 7, ground := .chain }, { on := 4, ground := .guard }], guard := some (4, false) }, { dst := some 29, op := .binOp .neq 3 (.tmp 25) (.tmp 28) 3, type := 4, pos := "l21_node.go:87", after := #[{ on := 7, ground := .data }, { on := 10, ground := .data }, { on := 4, ground := .guard }], guard := some (4, false) }, { dst := some 30, op := .pick (.tmp 22) (.const (.bool true)) (.tmp 29), type := 4, pos := "l21_node.go:87", after := #[{ on := 4, ground := .data }, { on := 11, ground := .data }], guard := none }, { dst := some 31, op := .move (.tmp 30), type := 4, pos := "l21_node.go:87", after := #[{ on := 12, ground := .data }, { on := 10, ground := .chain }], guard := none }, { dst := some 32, op := .fieldAddr 91 (.tmp 4) 0, type := 0, pos := "l21_node.go:87", after := #[{ on := 13, ground := .guard }], guard := some (13, false) }, { dst := some 33, op := .load 3 (.tmp 32), type := 3, pos := "l21_node.go:87", after := #[{ on := 14, ground := .data }, { on := 13, ground := .guard }], guard := some (13, false) }, { dst := some 34, op := .fieldAddr 43 (.tmp 1) 0, type := 0, pos := "l21_node.go:87", after := #[{ on := 13, ground := .guard }], guard := some (13, false) }, { dst := some 35, op := .load 3 (.tmp 34), type := 3, pos := "l21_node.go:87", after := #[{ on := 16, ground := .data }, { on := 13, ground := .guard }], guard := some (13, false) }, { dst := some 36, op := .binOp .eql 3 (.tmp 33) (.tmp 35) 3, type := 4, pos := "l21_node.go:87", after := #[{ on := 15, ground := .data }, { on := 17, ground := .data }, { on := 13, ground := .guard }], guard := some (13, false) }, { dst := some 37, op := .pick (.tmp 31) (.const (.bool true)) (.tmp 36), type := 4, pos := "l21_node.go:87", after := #[{ on := 13, ground := .data }, { on := 18, ground := .data }], guard := none }, { dst := some 38, op := .move (.tmp 37), type := 4, pos := "l21_node.go:87", after := #[{ on := 19, ground := .data }, { on := 13, ground := .chain }], guard := none }, { dst := some 39, op := .move (.tmp 3), type := 3, pos := "l21_node.go:87", after := #[{ on := 20, ground := .guard }], guard := some (20, false) }, { dst := some 40, op := .binOp .gtr 3 (.tmp 39) (.const (.int .i64 0)) 3, type := 4, pos := "l21_node.go:87", after := #[{ on := 21, ground := .data }, { on := 20, ground := .guard }], guard := some (20, false) }, { dst := some 41, op := .move (.tmp 40), type := 4, pos := "l21_node.go:87", after := #[{ on := 22, ground := .data }, { on := 20, ground := .chain }, { on := 20, ground := .guard }], guard := some (20, false) }, { dst := some 42, op := .fieldAddr 43 (.tmp 1) 13, type := 0, pos := "l21_node.go:87", after := #[{ on := 23, ground := .guard }], guard := some (23, true) }, { dst := some 43, op := .load 40 (.tmp 42), type := 40, pos := "l21_node.go:87", after := #[{ on := 24, ground := .data }, { on := 23, ground := .guard }], guard := some (23, true) }, { dst := some 44, op := .move (.tmp 3), type := 3, pos := "l21_node.go:87", after := #[{ on := 23, ground := .guard }], guard := some (23, true) }, { dst := some 45, op := .binOp .sub 3 (.tmp 44) (.const (.int .i64 1)) 3, type := 3, pos := "l21_node.go:87", after := #[{ on := 26, ground := .data }, { on := 23, ground := .guard }], guard := some (23, true) }, { dst := some 46, op := .indexAddr 40 (.tmp 43) (.tmp 45), type := 0, pos := "l21_node.go:87", after := #[{ on := 25, ground := .data }, { on := 27, ground := .data }, { on := 23, ground := .guard }], guard := some (23, true) }, { dst := some 47, op := .fieldAddr 91 (.tmp 46) 0, type := 0, pos := "l21_node.go:87", after := #[{ on := 28, ground := .data }, { on := 23, ground := .guard }], guard := some (23, true) }, { dst := some 48, op := .load 3 (.tmp 47), type := 3, pos := "l21_node.go:87", after := #[{ on := 29, ground := .data }, { on := 23, ground := .guard }], guard := some (23, true) }, { dst := some 49, op := .fieldAddr 91 (.tmp 4) 0, type := 0, pos := "l21_node.go:87", after := #[{ on := 23, ground := .guard }], guard := some (23, true) }, { dst := some 50, op := .load 3 (.tmp 49), type := 3, pos := "l21_node.go:87", after := #[{ on := 31, ground := .data }, { on := 23, ground := .guard }], guard := some (23, true) }, { dst := some 51, op := .binOp .geq 3 (.tmp 48) (.tmp 50) 3, type := 4, pos := "l21_node.go:87", after := #[{ on := 30, ground := .data }, { on := 32, ground := .data }, { on := 23, ground := .guard }], guard := some (23, true) }, { dst := some 52, op := .pick (.tmp 41) (.tmp 51) (.const (.bool false)), type := 4, pos := "l21_node.go:87", after := #[{ on := 23, ground := .data }, { on := 33, ground := .data }, { on := 20, ground := .guard }], guard := some (20, false) }, { dst := some 53, op := .pick (.tmp 38) (.const (.bool true)) (.tmp 52), type := 4, pos := "l21_node.go:87", after := #[{ on := 20, ground := .data }, { on := 34, ground := .data }], guard := none }, { dst := some 54, op := .move (.tmp 53), type := 4, pos := "l21_node.go:87", after := #[{ on := 35, ground := .data }, { on := 23, ground := .chain }], guard := none }, { dst := some 55, op := .fieldAddr 91 (.tmp 4) 1, type := 0, pos := "l21_node.go:87", after := #[{ on := 36, ground := .guard }], guard := some (36, false) }, { dst := some 56, op := .load 39 (.tmp 55), type := 39, pos := "l21_node.go:87", after := #[{ on := 37, ground := .data }, { on := 36, ground := .guard }], guard := some (36, false) }, { dst := some 57, op := .call { callee := .value (.func 41), args := #[.tmp 56], argTypes := #[39] }, type := 4, pos := "l21_node.go:87", after := #[{ on := 38, ground := .data }, { on := 36, ground := .chain }, { on := 36, ground := .guard }], guard := some (36, false) }, { dst := some 58, op := .unOp .not 4 (.tmp 57), type := 4, pos := "l21_node.go:87", after := #[{ on := 39, ground := .data }, { on := 36, ground := .guard }], guard := some (36, false) }, { dst := some 59, op := .pick (.tmp 54) (.const (.bool true)) (.tmp 58), type := 4, pos := "l21_node.go:87", after := #[{ on := 36, ground := .data }, { on := 40, ground := .data }], guard := none }, { dst := some 60, op := .move (.tmp 59), type := 4, pos := "l21_node.go:87", after := #[{ on := 41, ground := .data }, { on := 39, ground := .chain }], guard := none }, { dst := some 61, op := .fieldAddr 91 (.tmp 4) 2, type := 0, pos := "l21_node.go:87", after := #[{ on := 42, ground := .guard }], guard := some (42, false) }, { dst := some 62, op := .load 59 (.tmp 61), type := 59, pos := "l21_node.go:87", after := #[{ on := 43, ground := .data }, { on := 42, ground := .guard }], guard := some (42, false) }, { dst := some 63, op := .call { callee := .builtin .len, args := #[.tmp 62], argTypes := #[59] }, type := 3, pos := "l21_node.go:87", after := #[{ on := 44, ground := .data }, { on := 42, ground := .guard }], guard := some (42, false) }, { dst := some 64, op := .call { callee := .value (.func 33), args := #[.tmp 63, .const (.int .i64 1), .const (.int .i64 3)], argTypes := #[3, 3, 3] }, type := 4, pos := "l21_node.go:87", after := #[{ on := 45, ground := .data }, { on := 42, ground := .chain }, { on := 42, ground := .guard }], guard := some (42, false) }, { dst := some 65, op := .unOp .not 4 (.tmp 64), type := 4, pos := "l21_node.go:87", after := #[{ on := 46, ground := .data }, { on := 42, ground := .guard }], guard := some (42, false) }, { dst := some 66, op := .pick (.tmp 60) (.const (.bool true)) (.tmp 65), type := 4, pos := "l21_node.go:87", after := #[{ on := 42, ground := .data }, { on := 47, ground := .data }], guard := none }]
theorem fo42_5 : FreeN .any o42_5 49 := ⟨⟨by kernel_rfl⟩, by kernel_rfl⟩
theorem o42_5_0 : o42_5[0]? = some { dst := some 18, op := .fieldAddr 91 (.tmp 4) 0, type := 0, pos := "l21_node.go:87", after := #[], guard := none } := rfl
theorem o42_5_1 : o42_5[1]? = some { dst := some 19, op := .load 3 (.tmp 18), type := 3, pos := "l21_node.go:87", after := #[{ on := 0, ground := .data }], guard := none } := rfl
theorem o42_5_2 : o42_5[2]? = some { dst := some 20, op := .call { callee := .value (.func 33), args := #[.tmp 19, .const (.int .i64 0), .const (.int .i64 7)], argTypes := #[3, 3, 3] }, type := 4, pos := "l21_node.go:87", after := #[{ on := 1, ground := .data }], guard := none } := rfl
theorem o42_5_3 : o42_5[3]? = some { dst := some 21, op := .unOp .not 4 (.tmp 20), type := 4, pos := "l21_node.go:87", after := #[{ on := 2, ground := .data }], guard := none } := rfl
theorem o42_5_4 : o42_5[4]? = some { dst := some 22, op := .move (.tmp 21), type := 4, pos := "l21_node.go:87", after := #[{ on := 3, ground := .data }, { on := 2, ground := .chain }], guard := none } := rfl
theorem o42_5_5 : o42_5[5]? = some { dst := some 23, op := .fieldAddr 91 (.tmp 4) 0, type := 0, pos := "l21_node.go:87", after := #[{ on := 4, ground := .guard }], guard := some (4, false) } := rfl
theorem o42_5_6 : o42_5[6]? = some { dst := some 24, op := .load 3 (.tmp 23), type := 3, pos := "l21_node.go:87", after := #[{ on := 5, ground := .data }, { on := 4, ground := .guard }], guard := some (4, false) } := rfl
theorem o42_5_7 : o42_5[7]? = some { dst := some 25, op := .call { callee := .value (.func 36), args := #[.tmp 24], argTypes := #[3] }, type := 3, pos := "l21_node.go:87", after := #[{ on := 6, ground := .data }, { on := 4, ground := .chain }, { on := 4, ground := .guard }], guard := some (4, false) } := rfl
theorem o42_5_8 : o42_5[8]? = some { dst := some 26, op := .fieldAddr 43 (.tmp 1) 0, type := 0, pos := "l21_node.go:87", after := #[{ on := 4, ground := .guard }], guard := some (4, false) } := rfl
theorem o42_5_9 : o42_5[9]? = some { dst := some 27, op := .load 3 (.tmp 26), type := 3, pos := "l21_node.go:87", after := #[{ on := 8, ground := .data }, { on := 4, ground := .guard }], guard := some (4, false) } := rfl
theorem o42_5_10 : o42_5[10]? = some { dst := some 28, op := .call { callee := .value (.func 36), args := #[.tmp 27], argTypes := #[3] }, type := 3, pos := "l21_node.go:87", after := #[{ on := 9, ground := .data }, { on := 7, ground := .chain }, { on := 4, ground := .guard }], guard := some (4, false) } := rfl
theorem o42_5_11 : o42_5[11]? = some { dst := some 29, op := .binOp .neq 3 (.tmp 25) (.tmp 28) 3, type := 4, pos := "l21_node.go:87", after := #[{ on := 7, ground := .data }, { on := 10, ground := .data }, { on := 4, ground := .guard }], guard := some (4, false) } := rfl
theorem o42_5_12 : o42_5[12]? = some { dst := some 30, op := .pick (.tmp 22) (.const (.bool true)) (.tmp 29), type := 4, pos := "l21_node.go:87", after := #[{ on := 4, ground := .data }, { on := 11, ground := .data }], guard := none } := rfl
theorem o42_5_13 : o42_5[13]? = some { dst := some 31, op := .move (.tmp 30), type := 4, pos := "l21_node.go:87", after := #[{ on := 12, ground := .data }, { on := 10, ground := .chain }], guard := none } := rfl
theorem o42_5_14 : o42_5[14]? = some { dst := some 32, op := .fieldAddr 91 (.tmp 4) 0, type := 0, pos := "l21_node.go:87", after := #[{ on := 13, ground := .guard }], guard := some (13, false) } := rfl
theorem o42_5_15 : o42_5[15]? = some { dst := some 33, op := .load 3 (.tmp 32), type := 3, pos := "l21_node.go:87", after := #[{ on := 14, ground := .data }, { on := 13, ground := .guard }], guard := some (13, false) } := rfl
theorem o42_5_16 : o42_5[16]? = some { dst := some 34, op := .fieldAddr 43 (.tmp 1) 0, type := 0, pos := "l21_node.go:87", after := #[{ on := 13, ground := .guard }], guard := some (13, false) } := rfl
theorem o42_5_17 : o42_5[17]? = some { dst := some 35, op := .load 3 (.tmp 34), type := 3, pos := "l21_node.go:87", after := #[{ on := 16, ground := .data }, { on := 13, ground := .guard }], guard := some (13, false) } := rfl
theorem o42_5_18 : o42_5[18]? = some { dst := some 36, op := .binOp .eql 3 (.tmp 33) (.tmp 35) 3, type := 4, pos := "l21_node.go:87", after := #[{ on := 15, ground := .data }, { on := 17, ground := .data }, { on := 13, ground := .guard }], guard := some (13, false) } := rfl
theorem o42_5_19 : o42_5[19]? = some { dst := some 37, op := .pick (.tmp 31) (.const (.bool true)) (.tmp 36), type := 4, pos := "l21_node.go:87", after := #[{ on := 13, ground := .data }, { on := 18, ground := .data }], guard := none } := rfl
theorem o42_5_20 : o42_5[20]? = some { dst := some 38, op := .move (.tmp 37), type := 4, pos := "l21_node.go:87", after := #[{ on := 19, ground := .data }, { on := 13, ground := .chain }], guard := none } := rfl
theorem o42_5_21 : o42_5[21]? = some { dst := some 39, op := .move (.tmp 3), type := 3, pos := "l21_node.go:87", after := #[{ on := 20, ground := .guard }], guard := some (20, false) } := rfl
theorem o42_5_22 : o42_5[22]? = some { dst := some 40, op := .binOp .gtr 3 (.tmp 39) (.const (.int .i64 0)) 3, type := 4, pos := "l21_node.go:87", after := #[{ on := 21, ground := .data }, { on := 20, ground := .guard }], guard := some (20, false) } := rfl
theorem o42_5_23 : o42_5[23]? = some { dst := some 41, op := .move (.tmp 40), type := 4, pos := "l21_node.go:87", after := #[{ on := 22, ground := .data }, { on := 20, ground := .chain }, { on := 20, ground := .guard }], guard := some (20, false) } := rfl
theorem o42_5_24 : o42_5[24]? = some { dst := some 42, op := .fieldAddr 43 (.tmp 1) 13, type := 0, pos := "l21_node.go:87", after := #[{ on := 23, ground := .guard }], guard := some (23, true) } := rfl
theorem o42_5_25 : o42_5[25]? = some { dst := some 43, op := .load 40 (.tmp 42), type := 40, pos := "l21_node.go:87", after := #[{ on := 24, ground := .data }, { on := 23, ground := .guard }], guard := some (23, true) } := rfl
theorem o42_5_26 : o42_5[26]? = some { dst := some 44, op := .move (.tmp 3), type := 3, pos := "l21_node.go:87", after := #[{ on := 23, ground := .guard }], guard := some (23, true) } := rfl
theorem o42_5_27 : o42_5[27]? = some { dst := some 45, op := .binOp .sub 3 (.tmp 44) (.const (.int .i64 1)) 3, type := 3, pos := "l21_node.go:87", after := #[{ on := 26, ground := .data }, { on := 23, ground := .guard }], guard := some (23, true) } := rfl
theorem o42_5_28 : o42_5[28]? = some { dst := some 46, op := .indexAddr 40 (.tmp 43) (.tmp 45), type := 0, pos := "l21_node.go:87", after := #[{ on := 25, ground := .data }, { on := 27, ground := .data }, { on := 23, ground := .guard }], guard := some (23, true) } := rfl
theorem o42_5_29 : o42_5[29]? = some { dst := some 47, op := .fieldAddr 91 (.tmp 46) 0, type := 0, pos := "l21_node.go:87", after := #[{ on := 28, ground := .data }, { on := 23, ground := .guard }], guard := some (23, true) } := rfl
theorem o42_5_30 : o42_5[30]? = some { dst := some 48, op := .load 3 (.tmp 47), type := 3, pos := "l21_node.go:87", after := #[{ on := 29, ground := .data }, { on := 23, ground := .guard }], guard := some (23, true) } := rfl
theorem o42_5_31 : o42_5[31]? = some { dst := some 49, op := .fieldAddr 91 (.tmp 4) 0, type := 0, pos := "l21_node.go:87", after := #[{ on := 23, ground := .guard }], guard := some (23, true) } := rfl
theorem o42_5_32 : o42_5[32]? = some { dst := some 50, op := .load 3 (.tmp 49), type := 3, pos := "l21_node.go:87", after := #[{ on := 31, ground := .data }, { on := 23, ground := .guard }], guard := some (23, true) } := rfl
theorem o42_5_33 : o42_5[33]? = some { dst := some 51, op := .binOp .geq 3 (.tmp 48) (.tmp 50) 3, type := 4, pos := "l21_node.go:87", after := #[{ on := 30, ground := .data }, { on := 32, ground := .data }, { on := 23, ground := .guard }], guard := some (23, true) } := rfl
theorem o42_5_34 : o42_5[34]? = some { dst := some 52, op := .pick (.tmp 41) (.tmp 51) (.const (.bool false)), type := 4, pos := "l21_node.go:87", after := #[{ on := 23, ground := .data }, { on := 33, ground := .data }, { on := 20, ground := .guard }], guard := some (20, false) } := rfl
theorem o42_5_35 : o42_5[35]? = some { dst := some 53, op := .pick (.tmp 38) (.const (.bool true)) (.tmp 52), type := 4, pos := "l21_node.go:87", after := #[{ on := 20, ground := .data }, { on := 34, ground := .data }], guard := none } := rfl
theorem o42_5_36 : o42_5[36]? = some { dst := some 54, op := .move (.tmp 53), type := 4, pos := "l21_node.go:87", after := #[{ on := 35, ground := .data }, { on := 23, ground := .chain }], guard := none } := rfl
theorem o42_5_37 : o42_5[37]? = some { dst := some 55, op := .fieldAddr 91 (.tmp 4) 1, type := 0, pos := "l21_node.go:87", after := #[{ on := 36, ground := .guard }], guard := some (36, false) } := rfl
theorem o42_5_38 : o42_5[38]? = some { dst := some 56, op := .load 39 (.tmp 55), type := 39, pos := "l21_node.go:87", after := #[{ on := 37, ground := .data }, { on := 36, ground := .guard }], guard := some (36, false) } := rfl
theorem o42_5_39 : o42_5[39]? = some { dst := some 57, op := .call { callee := .value (.func 41), args := #[.tmp 56], argTypes := #[39] }, type := 4, pos := "l21_node.go:87", after := #[{ on := 38, ground := .data }, { on := 36, ground := .chain }, { on := 36, ground := .guard }], guard := some (36, false) } := rfl
theorem o42_5_40 : o42_5[40]? = some { dst := some 58, op := .unOp .not 4 (.tmp 57), type := 4, pos := "l21_node.go:87", after := #[{ on := 39, ground := .data }, { on := 36, ground := .guard }], guard := some (36, false) } := rfl
theorem o42_5_41 : o42_5[41]? = some { dst := some 59, op := .pick (.tmp 54) (.const (.bool true)) (.tmp 58), type := 4, pos := "l21_node.go:87", after := #[{ on := 36, ground := .data }, { on := 40, ground := .data }], guard := none } := rfl
theorem o42_5_42 : o42_5[42]? = some { dst := some 60, op := .move (.tmp 59), type := 4, pos := "l21_node.go:87", after := #[{ on := 41, ground := .data }, { on := 39, ground := .chain }], guard := none } := rfl
theorem o42_5_43 : o42_5[43]? = some { dst := some 61, op := .fieldAddr 91 (.tmp 4) 2, type := 0, pos := "l21_node.go:87", after := #[{ on := 42, ground := .guard }], guard := some (42, false) } := rfl
theorem o42_5_44 : o42_5[44]? = some { dst := some 62, op := .load 59 (.tmp 61), type := 59, pos := "l21_node.go:87", after := #[{ on := 43, ground := .data }, { on := 42, ground := .guard }], guard := some (42, false) } := rfl
theorem o42_5_45 : o42_5[45]? = some { dst := some 63, op := .call { callee := .builtin .len, args := #[.tmp 62], argTypes := #[59] }, type := 3, pos := "l21_node.go:87", after := #[{ on := 44, ground := .data }, { on := 42, ground := .guard }], guard := some (42, false) } := rfl
theorem o42_5_46 : o42_5[46]? = some { dst := some 64, op := .call { callee := .value (.func 33), args := #[.tmp 63, .const (.int .i64 1), .const (.int .i64 3)], argTypes := #[3, 3, 3] }, type := 4, pos := "l21_node.go:87", after := #[{ on := 45, ground := .data }, { on := 42, ground := .chain }, { on := 42, ground := .guard }], guard := some (42, false) } := rfl
theorem o42_5_47 : o42_5[47]? = some { dst := some 65, op := .unOp .not 4 (.tmp 64), type := 4, pos := "l21_node.go:87", after := #[{ on := 46, ground := .data }, { on := 42, ground := .guard }], guard := some (42, false) } := rfl
theorem o42_5_48 : o42_5[48]? = some { dst := some 66, op := .pick (.tmp 60) (.const (.bool true)) (.tmp 65), type := 4, pos := "l21_node.go:87", after := #[{ on := 42, ground := .data }, { on := 47, ground := .data }], guard := none } := rfl
theorem plcs_no {me : Int} {len : Nat} {G : Nat → Pl} {k : Nat} (hk : k < len) (h : plcB me (G k).n (G k).x (G k).y (G k).h (G k).e (G k).bl (G k).bf = false ∨ (0 < k ∧ ¬ (G (k - 1)).n < (G k).n)) : plsB me len G = false := by
  unfold plsB Plasc risB plA
  rw [Bool.and_eq_false_iff]
  rcases h with h | ⟨h0, h⟩
  · exact .inr (decide_eq_false fun q => by have := q k hk; rw [h] at this; cases this)
  · exact .inl (decide_eq_false fun q => h (q k hk h0))
theorem tr_no {len : Nat} {f : Nat → Int} {k : Nat} (hk : k < len) (h : inb (f k) 1 60000 = false) : trA len f = false := by
  unfold trA
  exact decide_eq_false fun q => by have := q k hk; rw [h] at this; cases this
set_option maxRecDepth 20000 in
set_option maxHeartbeats 8000000 in
theorem splcs_any (me : Int) (up gone gate : Bool) (inc now sq turn : Int) (ta : Option Addr) (tl tc : Nat) (ca : Option Addr) (cl cc : Nat) (pn ps pq : Int) (pa : Bool) (da : Option Addr) (dl dc : Nat) (cx cy ch ce : Int) (pla : Option Addr) (pll plc : Nat) (oa : Option Addr) (ol oc : Nat) (G : Nat → Pl) (w : World) (hG : PlSl w pla pll G) (hm : pll ≤ 1048576) (hB : PlB w pll G) :
    Calls Tryz.prog 42 #[.agg #[.int .i64 me, .bool up, .bool gone, .bool gate, .int .i64 inc, .int .i64 now, .int .i64 sq, .int .i64 turn, .slice ta tl tc, .slice ca cl cc, .int .i64 pn, .int .i64 ps, .int .i64 pq, .bool pa, .slice da dl dc, .int .i64 cx, .int .i64 cy, .int .i64 ch, .int .i64 ce, .slice pla pll plc, .slice oa ol oc]] w fun r w' => r = .returned (.bool (plsB me pll G)) ∧ Below w.heap.size w w' := by
  have b0 := balloc (.cells #[.int .i64 me, .bool up, .bool gone, .bool gate, .int .i64 inc, .int .i64 now, .int .i64 sq, .int .i64 turn, .slice ta tl tc, .slice ca cl cc, .int .i64 pn, .int .i64 ps, .int .i64 pq, .bool pa, .slice da dl dc, .int .i64 cx, .int .i64 cy, .int .i64 ch, .int .i64 ce, .slice pla pll plc, .slice oa ol oc] 43) (Below.refl w.heap.size w)
  have X := Ws.box (w := w) #[.int .i64 me, .bool up, .bool gone, .bool gate, .int .i64 inc, .int .i64 now, .int .i64 sq, .int .i64 turn, .slice ta tl tc, .slice ca cl cc, .int .i64 pn, .int .i64 ps, .int .i64 pq, .bool pa, .slice da dl dc, .int .i64 cx, .int .i64 cy, .int .i64 ch, .int .i64 ce, .slice pla pll plc, .slice oa ol oc] 43
  go_enter Tryz.func42, Tryz.ntmps42
  go_upto_region 1 with fail
  generalize w.alloc (.cells #[.int .i64 me, .bool up, .bool gone, .bool gate, .int .i64 inc, .int .i64 now, .int .i64 sq, .int .i64 turn, .slice ta tl tc, .slice ca cl cc, .int .i64 pn, .int .i64 ps, .int .i64 pq, .bool pa, .slice da dl dc, .int .i64 cx, .int .i64 cy, .int .i64 ch, .int .i64 ce, .slice pla pll plc, .slice oa ol oc] 43) = u at *
  have hG' := hG.below b0
  have hB' := hB.below b0
  have d0 := X.c 0 (.int .i64 me) rfl
  have d19 := X.c 19 (.slice pla pll plc) rfl
  clear X hG hB
  obtain ⟨sm, hsm⟩ : ∃ sm, Hid (ste me = sm) := ⟨_, rfl⟩
  go_wp2
  go_loopw [3, 5] (fun i _ wr => ∃ k : Nat, k ≤ pll ∧ i = .int .i64 k ∧ Below u.heap.size u wr ∧ (∀ j, j < k → plcB me (G j).n (G j).x (G j).y (G j).h (G j).e (G j).bl (G j).bf = true) ∧ (∀ j, j < k → 0 < j → (G (j - 1)).n < (G j).n)) (fun i _ _ => pll - (intOf i).toNat)
  case atStart => exact ⟨0, by omega, rfl, Below.refl _ _, fun j h1 => by omega, fun j h1 => by omega⟩
  case round =>
    obtain ⟨k, hk, rfl, hb, hall, hasc⟩ := hrel
    have f0 := keep_below hb d0
    have f19 := keep_below hb d19
    by_cases hlt : k < pll
    · obtain ⟨b, off, rfl, hbl, hf⟩ := hG' (by omega)
      obtain ⟨c0, c1, c2, c3, c4, c5⟩ := (hf.below hb hbl) k hlt
      have hS := (hB' k hlt).1.below hb
      have hbl' := (hB' k hlt).2
      have i0 : (0 : Int) ≤ (k : Int) := by omega
      have i1 : (k : Int) < (pll : Int) := by omega
      rcases Nat.eq_zero_or_pos k with h0 | h0
      · subst h0
        simp only [Nat.zero_mul, Nat.add_zero] at c0 c1 c2 c3 c4 c5
        have hso : Hid (plcB me (G 0).n (G 0).x (G 0).y (G 0).h (G 0).e (G 0).bl (G 0).bf = (mateB me (G 0).n && cok (G 0).x (G 0).y (G 0).h (G 0).e && inb (G 0).bl 1 3 && trA (G 0).bl (G 0).bf)) := rfl
        have hno : Hid (plcB me (G 0).n (G 0).x (G 0).y (G 0).h (G 0).e (G 0).bl (G 0).bf = false ∨ (0 < 0 ∧ ¬ (G (0 - 1)).n < (G 0).n) → plsB me pll G = false) := plcs_no hlt
        have hyes : Hid (plcB me (G 0).n (G 0).x (G 0).y (G 0).h (G 0).e (G 0).bl (G 0).bf = true → ∀ j, j < 0 + 1 → plcB me (G j).n (G j).x (G j).y (G j).h (G j).e (G j).bl (G j).bf = true) := fun e j hj => by
          by_cases ej : j = 0
          · subst ej; exact e
          · exact hall j (by omega)
        have hyes2 : Hid ((0 < 0 → (G (0 - 1)).n < (G 0).n) → ∀ j, j < 0 + 1 → 0 < j → (G (j - 1)).n < (G j).n) := fun e j hj h0 => by
          by_cases ej : j = 0
          · subst ej; exact e h0
          · exact hasc j (by omega) h0
        clear hall hasc
        generalize G 0 = gx at *
        obtain ⟨n, x, y, h, e, ba, bl, bc, bf⟩ := gx
        dsimp only at c0 c1 c2 c3 c4 c5 hS hbl' hso hno hyes hyes2
        have b2 := balloc (.cells #[.int .i64 n, .int .i64 x, .int .i64 y, .int .i64 h, .int .i64 e, .slice ba bl bc] 91) hb
        have Y := Ws.box (w := wr) #[.int .i64 n, .int .i64 x, .int .i64 y, .int .i64 h, .int .i64 e, .slice ba bl bc] 91
        have g0 := keep_alloc (.cells #[.int .i64 n, .int .i64 x, .int .i64 y, .int .i64 h, .int .i64 e, .slice ba bl bc] 91) f0
        have g19 := keep_alloc (.cells #[.int .i64 n, .int .i64 x, .int .i64 y, .int .i64 h, .int .i64 e, .slice ba bl bc] 91) f19
        have q3 := hS.below (balloc (.cells #[.int .i64 n, .int .i64 x, .int .i64 y, .int .i64 h, .int .i64 e, .slice ba bl bc] 91) (Below.refl wr.heap.size wr))
        go_upto_region 5 with fail
        generalize wr.alloc (.cells #[.int .i64 n, .int .i64 x, .int .i64 y, .int .i64 h, .int .i64 e, .slice ba bl bc] 91) = v at *
        generalize wr.heap.size = K2 at *
        have q10 := Y.c 0 (.int .i64 n) rfl
        have q11 := Y.c 1 (.int .i64 x) rfl
        have q12 := Y.c 2 (.int .i64 y) rfl
        have q13 := Y.c 3 (.int .i64 h) rfl
        have q14 := Y.c 4 (.int .i64 e) rfl
        have q15 := Y.c 5 (.slice ba bl bc) rfl
        clear Y c0 c1 c2 c3 c4 c5 f0 f19 hS
        obtain ⟨sn, hsn⟩ : ∃ sn, Hid (ste n = sn) := ⟨_, rfl⟩
        cases z1 : inb n 0 7
        · have y1 : Hid (inb n 0 7 = false) := z1
          clear z1
          refine wp_region_m (S := (fun w' => w'.cell? ⟨w.heap.size, 0, none⟩ = some (.int .i64 me) ∧ w'.cell? ⟨w.heap.size, 19, none⟩ = some (.slice (some ⟨b, off, none⟩) pll plc) ∧ w'.cell? ⟨K2, 0, none⟩ = some (.int .i64 n) ∧ w'.cell? ⟨K2, 1, none⟩ = some (.int .i64 x) ∧ w'.cell? ⟨K2, 2, none⟩ = some (.int .i64 y) ∧ w'.cell? ⟨K2, 3, none⟩ = some (.int .i64 h) ∧ w'.cell? ⟨K2, 4, none⟩ = some (.int .i64 e) ∧ w'.cell? ⟨K2, 5, none⟩ = some (.slice ba bl bc) ∧ ISl w' ba bl bf ∧ Below u.heap.size u w')) o42_5 49 fo42_5 ?_ (fun hHeld => ?_)
          · (try dsimp only); exact ⟨keep_drew g0, keep_drew g19, keep_drew q10, keep_drew q11, keep_drew q12, keep_drew q13, keep_drew q14, keep_drew q15, q3.below (Below.refl _ _).drew, b2.drew⟩
          refine stY fo42_5 o42_5_0 1 ?_; try simp only [putQ]; refine stY fo42_5 o42_5_1 3 ?_; try simp only [putQ]
          refine stC fo42_5 o42_5_2 7 (fun K hK => ?_)
          go_simp
          refine (lin_lit n 0 7 false y1.out _).mono ?_; rintro r w2 ⟨rfl, hw⟩; obtain rfl := hw.symm; clear hw
          go_wp2_with fail
          refine hK.out _ _ ?_ (fun hHeld => ?_)
          · (try dsimp only); exact hHeld
          clear hK K
          (try simp only [putQ]); refine stY fo42_5 o42_5_3 15 ?_; try simp only [putQ]; refine stY fo42_5 o42_5_4 31 ?_; try simp only [putQ]; refine stN fo42_5 o42_5_5 63 ?_; try simp only [putQ]; refine stN fo42_5 o42_5_6 127 ?_; try simp only [putQ]; refine stN fo42_5 o42_5_7 255 ?_; try simp only [putQ]; refine stN fo42_5 o42_5_8 511 ?_; try simp only [putQ]; refine stN fo42_5 o42_5_9 1023 ?_; try simp only [putQ]; refine stN fo42_5 o42_5_10 2047 ?_; try simp only [putQ]; refine stN fo42_5 o42_5_11 4095 ?_; try simp only [putQ]; refine stY fo42_5 o42_5_12 8191 ?_; try simp only [putQ]; refine stY fo42_5 o42_5_13 16383 ?_; try simp only [putQ]; refine stN fo42_5 o42_5_14 32767 ?_; try simp only [putQ]; refine stN fo42_5 o42_5_15 65535 ?_; try simp only [putQ]; refine stN fo42_5 o42_5_16 131071 ?_; try simp only [putQ]; refine stN fo42_5 o42_5_17 262143 ?_; try simp only [putQ]; refine stN fo42_5 o42_5_18 524287 ?_; try simp only [putQ]; refine stY fo42_5 o42_5_19 1048575 ?_; try simp only [putQ]; refine stY fo42_5 o42_5_20 2097151 ?_; try simp only [putQ]; refine stN fo42_5 o42_5_21 4194303 ?_; try simp only [putQ]; refine stN fo42_5 o42_5_22 8388607 ?_; try simp only [putQ]; refine stN fo42_5 o42_5_23 16777215 ?_; try simp only [putQ]; refine stN fo42_5 o42_5_24 33554431 ?_; try simp only [putQ]; refine stN fo42_5 o42_5_25 67108863 ?_; try simp only [putQ]; refine stN fo42_5 o42_5_26 134217727 ?_; try simp only [putQ]; refine stN fo42_5 o42_5_27 268435455 ?_; try simp only [putQ]; refine stN fo42_5 o42_5_28 536870911 ?_; try simp only [putQ]; refine stN fo42_5 o42_5_29 1073741823 ?_; try simp only [putQ]; refine stN fo42_5 o42_5_30 2147483647 ?_; try simp only [putQ]; refine stN fo42_5 o42_5_31 4294967295 ?_; try simp only [putQ]; refine stN fo42_5 o42_5_32 8589934591 ?_; try simp only [putQ]; refine stN fo42_5 o42_5_33 17179869183 ?_; try simp only [putQ]; refine stN fo42_5 o42_5_34 34359738367 ?_; try simp only [putQ]; refine stY fo42_5 o42_5_35 68719476735 ?_; try simp only [putQ]; refine stY fo42_5 o42_5_36 137438953471 ?_; try simp only [putQ]; refine stN fo42_5 o42_5_37 274877906943 ?_; try simp only [putQ]; refine stN fo42_5 o42_5_38 549755813887 ?_; try simp only [putQ]; refine stN fo42_5 o42_5_39 1099511627775 ?_; try simp only [putQ]; refine stN fo42_5 o42_5_40 2199023255551 ?_; try simp only [putQ]; refine stY fo42_5 o42_5_41 4398046511103 ?_; try simp only [putQ]; refine stY fo42_5 o42_5_42 8796093022207 ?_; try simp only [putQ]; refine stN fo42_5 o42_5_43 17592186044415 ?_; try simp only [putQ]; refine stN fo42_5 o42_5_44 35184372088831 ?_; try simp only [putQ]; refine stN fo42_5 o42_5_45 70368744177663 ?_; try simp only [putQ]; refine stN fo42_5 o42_5_46 140737488355327 ?_; try simp only [putQ]; refine stN fo42_5 o42_5_47 281474976710655 ?_; try simp only [putQ]; refine stY fo42_5 o42_5_48 562949953421311 ?_; try simp only [putQ]
          refine wpAnyH_done (by kernel_rfl) ?_ _
          go_wp2
          go_ret
          exact ⟨ret_bool (hno.out (.inl (by rw [hso.out]; simp [mateB, ofB, y1.out]))).symm, btrans b0 hHeld.2.2.2.2.2.2.2.2.2⟩
        · have y1 : Hid (inb n 0 7 = true) := z1
          clear z1
          by_cases e0 : sn = sm
          · subst e0
            by_cases e2 : n = me
            · subst e2
              refine wp_region_m (S := (fun w' => w'.cell? ⟨w.heap.size, 0, none⟩ = some (.int .i64 n) ∧ w'.cell? ⟨w.heap.size, 19, none⟩ = some (.slice (some ⟨b, off, none⟩) pll plc) ∧ w'.cell? ⟨K2, 0, none⟩ = some (.int .i64 n) ∧ w'.cell? ⟨K2, 1, none⟩ = some (.int .i64 x) ∧ w'.cell? ⟨K2, 2, none⟩ = some (.int .i64 y) ∧ w'.cell? ⟨K2, 3, none⟩ = some (.int .i64 h) ∧ w'.cell? ⟨K2, 4, none⟩ = some (.int .i64 e) ∧ w'.cell? ⟨K2, 5, none⟩ = some (.slice ba bl bc) ∧ ISl w' ba bl bf ∧ Below u.heap.size u w')) o42_5 49 fo42_5 ?_ (fun hHeld => ?_)
              · (try dsimp only); exact ⟨keep_drew g0, keep_drew g19, keep_drew q10, keep_drew q11, keep_drew q12, keep_drew q13, keep_drew q14, keep_drew q15, q3.below (Below.refl _ _).drew, b2.drew⟩
              refine stY fo42_5 o42_5_0 1 ?_; try simp only [putQ]; refine stY fo42_5 o42_5_1 3 ?_; try simp only [putQ]
              refine stC fo42_5 o42_5_2 7 (fun K hK => ?_)
              go_simp
              refine (lin_lit n 0 7 true y1.out _).mono ?_; rintro r w2 ⟨rfl, hw⟩; obtain rfl := hw.symm; clear hw
              go_wp2_with fail
              refine hK.out _ _ ?_ (fun hHeld => ?_)
              · (try dsimp only); exact hHeld
              clear hK K
              (try simp only [putQ]); refine stY fo42_5 o42_5_3 15 ?_; try simp only [putQ]; refine stY fo42_5 o42_5_4 31 ?_; try simp only [putQ]; refine stY fo42_5 o42_5_5 63 ?_; try simp only [putQ]; refine stY fo42_5 o42_5_6 127 ?_; try simp only [putQ]; refine stY fo42_5 o42_5_8 383 ?_; try simp only [putQ]; refine stY fo42_5 o42_5_9 895 ?_; try simp only [putQ]
              refine stC fo42_5 o42_5_7 1023 (fun K hK => ?_)
              go_simp
              refine (lsite_any n _).mono ?_; rintro r w3 ⟨rfl, hw⟩; obtain rfl := hw.symm; clear hw; rw [hsn.out]
              go_wp2_with fail
              refine hK.out _ _ ?_ (fun hHeld => ?_)
              · (try dsimp only); exact hHeld
              clear hK K
              (try simp only [putQ])
              refine stC fo42_5 o42_5_10 2047 (fun K hK => ?_)
              go_simp
              refine (lsite_any n _).mono ?_; rintro r w3 ⟨rfl, hw⟩; obtain rfl := hw.symm; clear hw; rw [hsm.out]
              go_wp2_with fail
              refine hK.out _ _ ?_ (fun hHeld => ?_)
              · (try dsimp only); exact hHeld
              clear hK K
              (try simp only [putQ])
              refine stV (.bool false) fo42_5 o42_5_11 4095 ?_ ?_
              · (intro w hSw; (try dsimp only at hSw); go_simp; all_goals (first | with_reducible rfl |  assumption | (simp; done) | (simp; omega)))
              (try simp only [putQ]); refine stY fo42_5 o42_5_12 8191 ?_; try simp only [putQ]; refine stY fo42_5 o42_5_13 16383 ?_; try simp only [putQ]; refine stY fo42_5 o42_5_14 32767 ?_; try simp only [putQ]; refine stY fo42_5 o42_5_15 65535 ?_; try simp only [putQ]; refine stY fo42_5 o42_5_16 131071 ?_; try simp only [putQ]; refine stY fo42_5 o42_5_17 262143 ?_; try simp only [putQ]
              refine stV (.bool true) fo42_5 o42_5_18 524287 ?_ ?_
              · (intro w hSw; (try dsimp only at hSw); go_simp; all_goals (first | with_reducible rfl |  assumption | (simp; done) | (simp; omega)))
              (try simp only [putQ]); refine stY fo42_5 o42_5_19 1048575 ?_; try simp only [putQ]; refine stY fo42_5 o42_5_20 2097151 ?_; try simp only [putQ]; refine stN fo42_5 o42_5_21 4194303 ?_; try simp only [putQ]; refine stN fo42_5 o42_5_22 8388607 ?_; try simp only [putQ]; refine stN fo42_5 o42_5_23 16777215 ?_; try simp only [putQ]; refine stN fo42_5 o42_5_24 33554431 ?_; try simp only [putQ]; refine stN fo42_5 o42_5_25 67108863 ?_; try simp only [putQ]; refine stN fo42_5 o42_5_26 134217727 ?_; try simp only [putQ]; refine stN fo42_5 o42_5_27 268435455 ?_; try simp only [putQ]; refine stN fo42_5 o42_5_28 536870911 ?_; try simp only [putQ]; refine stN fo42_5 o42_5_29 1073741823 ?_; try simp only [putQ]; refine stN fo42_5 o42_5_30 2147483647 ?_; try simp only [putQ]; refine stN fo42_5 o42_5_31 4294967295 ?_; try simp only [putQ]; refine stN fo42_5 o42_5_32 8589934591 ?_; try simp only [putQ]; refine stN fo42_5 o42_5_33 17179869183 ?_; try simp only [putQ]; refine stN fo42_5 o42_5_34 34359738367 ?_; try simp only [putQ]; refine stY fo42_5 o42_5_35 68719476735 ?_; try simp only [putQ]; refine stY fo42_5 o42_5_36 137438953471 ?_; try simp only [putQ]; refine stN fo42_5 o42_5_37 274877906943 ?_; try simp only [putQ]; refine stN fo42_5 o42_5_38 549755813887 ?_; try simp only [putQ]; refine stN fo42_5 o42_5_39 1099511627775 ?_; try simp only [putQ]; refine stN fo42_5 o42_5_40 2199023255551 ?_; try simp only [putQ]; refine stY fo42_5 o42_5_41 4398046511103 ?_; try simp only [putQ]; refine stY fo42_5 o42_5_42 8796093022207 ?_; try simp only [putQ]; refine stN fo42_5 o42_5_43 17592186044415 ?_; try simp only [putQ]; refine stN fo42_5 o42_5_44 35184372088831 ?_; try simp only [putQ]; refine stN fo42_5 o42_5_45 70368744177663 ?_; try simp only [putQ]; refine stN fo42_5 o42_5_46 140737488355327 ?_; try simp only [putQ]; refine stN fo42_5 o42_5_47 281474976710655 ?_; try simp only [putQ]; refine stY fo42_5 o42_5_48 562949953421311 ?_; try simp only [putQ]
              refine wpAnyH_done (by kernel_rfl) ?_ _
              go_wp2
              go_ret
              exact ⟨ret_bool (hno.out (.inl (by rw [hso.out]; simp [mateB, ofB]))).symm, btrans b0 hHeld.2.2.2.2.2.2.2.2.2⟩
            · have e2' : (n == me) = false := by simpa using e2
              cases z4 : cok x y h e
              · have y4 : Hid (cok x y h e = false) := z4
                clear z4
                refine wp_region_m (S := (fun w' => w'.cell? ⟨w.heap.size, 0, none⟩ = some (.int .i64 me) ∧ w'.cell? ⟨w.heap.size, 19, none⟩ = some (.slice (some ⟨b, off, none⟩) pll plc) ∧ w'.cell? ⟨K2, 0, none⟩ = some (.int .i64 n) ∧ w'.cell? ⟨K2, 1, none⟩ = some (.int .i64 x) ∧ w'.cell? ⟨K2, 2, none⟩ = some (.int .i64 y) ∧ w'.cell? ⟨K2, 3, none⟩ = some (.int .i64 h) ∧ w'.cell? ⟨K2, 4, none⟩ = some (.int .i64 e) ∧ w'.cell? ⟨K2, 5, none⟩ = some (.slice ba bl bc) ∧ ISl w' ba bl bf ∧ Below u.heap.size u w')) o42_5 49 fo42_5 ?_ (fun hHeld => ?_)
                · (try dsimp only); exact ⟨keep_drew g0, keep_drew g19, keep_drew q10, keep_drew q11, keep_drew q12, keep_drew q13, keep_drew q14, keep_drew q15, q3.below (Below.refl _ _).drew, b2.drew⟩
                refine stY fo42_5 o42_5_0 1 ?_; try simp only [putQ]; refine stY fo42_5 o42_5_1 3 ?_; try simp only [putQ]
                refine stC fo42_5 o42_5_2 7 (fun K hK => ?_)
                go_simp
                refine (lin_lit n 0 7 true y1.out _).mono ?_; rintro r w2 ⟨rfl, hw⟩; obtain rfl := hw.symm; clear hw
                go_wp2_with fail
                refine hK.out _ _ ?_ (fun hHeld => ?_)
                · (try dsimp only); exact hHeld
                clear hK K
                (try simp only [putQ]); refine stY fo42_5 o42_5_3 15 ?_; try simp only [putQ]; refine stY fo42_5 o42_5_4 31 ?_; try simp only [putQ]; refine stY fo42_5 o42_5_5 63 ?_; try simp only [putQ]; refine stY fo42_5 o42_5_6 127 ?_; try simp only [putQ]; refine stY fo42_5 o42_5_8 383 ?_; try simp only [putQ]; refine stY fo42_5 o42_5_9 895 ?_; try simp only [putQ]
                refine stC fo42_5 o42_5_7 1023 (fun K hK => ?_)
                go_simp
                refine (lsite_any n _).mono ?_; rintro r w3 ⟨rfl, hw⟩; obtain rfl := hw.symm; clear hw; rw [hsn.out]
                go_wp2_with fail
                refine hK.out _ _ ?_ (fun hHeld => ?_)
                · (try dsimp only); exact hHeld
                clear hK K
                (try simp only [putQ])
                refine stC fo42_5 o42_5_10 2047 (fun K hK => ?_)
                go_simp
                refine (lsite_any me _).mono ?_; rintro r w3 ⟨rfl, hw⟩; obtain rfl := hw.symm; clear hw; rw [hsm.out]
                go_wp2_with fail
                refine hK.out _ _ ?_ (fun hHeld => ?_)
                · (try dsimp only); exact hHeld
                clear hK K
                (try simp only [putQ])
                refine stV (.bool false) fo42_5 o42_5_11 4095 ?_ ?_
                · (intro w hSw; (try dsimp only at hSw); go_simp; all_goals (first | with_reducible rfl |  assumption | (simp; done) | (simp; omega)))
                (try simp only [putQ]); refine stY fo42_5 o42_5_12 8191 ?_; try simp only [putQ]; refine stY fo42_5 o42_5_13 16383 ?_; try simp only [putQ]; refine stY fo42_5 o42_5_14 32767 ?_; try simp only [putQ]; refine stY fo42_5 o42_5_15 65535 ?_; try simp only [putQ]; refine stY fo42_5 o42_5_16 131071 ?_; try simp only [putQ]; refine stY fo42_5 o42_5_17 262143 ?_; try simp only [putQ]
                refine stV (.bool false) fo42_5 o42_5_18 524287 ?_ ?_
                · (intro w hSw; (try dsimp only at hSw); go_simp; all_goals (first | with_reducible rfl |  assumption | (simp; done) | (simp; omega)))
                (try simp only [putQ]); refine stY fo42_5 o42_5_19 1048575 ?_; try simp only [putQ]; refine stY fo42_5 o42_5_20 2097151 ?_; try simp only [putQ]; refine stY fo42_5 o42_5_21 4194303 ?_; try simp only [putQ]
                refine stV (.bool false) fo42_5 o42_5_22 8388607 ?_ ?_
                · (intro w hSw; (try dsimp only at hSw); go_simp; all_goals (first | with_reducible rfl |  assumption | (simp; done) | (simp; omega)))
                (try simp only [putQ]); refine stY fo42_5 o42_5_23 16777215 ?_; try simp only [putQ]; refine stN fo42_5 o42_5_24 33554431 ?_; try simp only [putQ]; refine stN fo42_5 o42_5_25 67108863 ?_; try simp only [putQ]; refine stN fo42_5 o42_5_26 134217727 ?_; try simp only [putQ]; refine stN fo42_5 o42_5_27 268435455 ?_; try simp only [putQ]; refine stN fo42_5 o42_5_28 536870911 ?_; try simp only [putQ]; refine stN fo42_5 o42_5_29 1073741823 ?_; try simp only [putQ]; refine stN fo42_5 o42_5_30 2147483647 ?_; try simp only [putQ]; refine stN fo42_5 o42_5_31 4294967295 ?_; try simp only [putQ]; refine stN fo42_5 o42_5_32 8589934591 ?_; try simp only [putQ]; refine stN fo42_5 o42_5_33 17179869183 ?_; try simp only [putQ]; refine stY fo42_5 o42_5_34 34359738367 ?_; try simp only [putQ]; refine stY fo42_5 o42_5_35 68719476735 ?_; try simp only [putQ]; refine stY fo42_5 o42_5_36 137438953471 ?_; try simp only [putQ]; refine stY fo42_5 o42_5_37 274877906943 ?_; try simp only [putQ]; refine stY fo42_5 o42_5_38 549755813887 ?_; try simp only [putQ]
                refine stC fo42_5 o42_5_39 1099511627775 (fun K hK => ?_)
                go_simp
                refine (scoord_lit x y h e false y4.out _).mono ?_; rintro r w4 ⟨rfl, k4⟩
                go_wp2_with fail
                refine hK.out _ _ ?_ (fun hHeld => ?_)
                · (try dsimp only); exact ⟨keep_below k4 hHeld.1, keep_below k4 hHeld.2.1, keep_below k4 hHeld.2.2.1, keep_below k4 hHeld.2.2.2.1, keep_below k4 hHeld.2.2.2.2.1, keep_below k4 hHeld.2.2.2.2.2.1, keep_below k4 hHeld.2.2.2.2.2.2.1, keep_below k4 hHeld.2.2.2.2.2.2.2.1, hHeld.2.2.2.2.2.2.2.2.1.below k4, btrans hHeld.2.2.2.2.2.2.2.2.2 k4⟩
                clear hK K
                (try simp only [putQ]); refine stY fo42_5 o42_5_40 2199023255551 ?_; try simp only [putQ]; refine stY fo42_5 o42_5_41 4398046511103 ?_; try simp only [putQ]; refine stY fo42_5 o42_5_42 8796093022207 ?_; try simp only [putQ]; refine stN fo42_5 o42_5_43 17592186044415 ?_; try simp only [putQ]; refine stN fo42_5 o42_5_44 35184372088831 ?_; try simp only [putQ]; refine stN fo42_5 o42_5_45 70368744177663 ?_; try simp only [putQ]; refine stN fo42_5 o42_5_46 140737488355327 ?_; try simp only [putQ]; refine stN fo42_5 o42_5_47 281474976710655 ?_; try simp only [putQ]; refine stY fo42_5 o42_5_48 562949953421311 ?_; try simp only [putQ]
                refine wpAnyH_done (by kernel_rfl) ?_ _
                go_wp2
                go_ret
                exact ⟨ret_bool (hno.out (.inl (by rw [hso.out, y4.out]; simp))).symm, btrans b0 hHeld.2.2.2.2.2.2.2.2.2⟩
              · have y4 : Hid (cok x y h e = true) := z4
                clear z4
                cases z5 : inb bl 1 3
                · have y5 : Hid (inb bl 1 3 = false) := z5
                  clear z5
                  refine wp_region_m (S := (fun w' => w'.cell? ⟨w.heap.size, 0, none⟩ = some (.int .i64 me) ∧ w'.cell? ⟨w.heap.size, 19, none⟩ = some (.slice (some ⟨b, off, none⟩) pll plc) ∧ w'.cell? ⟨K2, 0, none⟩ = some (.int .i64 n) ∧ w'.cell? ⟨K2, 1, none⟩ = some (.int .i64 x) ∧ w'.cell? ⟨K2, 2, none⟩ = some (.int .i64 y) ∧ w'.cell? ⟨K2, 3, none⟩ = some (.int .i64 h) ∧ w'.cell? ⟨K2, 4, none⟩ = some (.int .i64 e) ∧ w'.cell? ⟨K2, 5, none⟩ = some (.slice ba bl bc) ∧ ISl w' ba bl bf ∧ Below u.heap.size u w')) o42_5 49 fo42_5 ?_ (fun hHeld => ?_)
                  · (try dsimp only); exact ⟨keep_drew g0, keep_drew g19, keep_drew q10, keep_drew q11, keep_drew q12, keep_drew q13, keep_drew q14, keep_drew q15, q3.below (Below.refl _ _).drew, b2.drew⟩
                  refine stY fo42_5 o42_5_0 1 ?_; try simp only [putQ]; refine stY fo42_5 o42_5_1 3 ?_; try simp only [putQ]
                  refine stC fo42_5 o42_5_2 7 (fun K hK => ?_)
                  go_simp
                  refine (lin_lit n 0 7 true y1.out _).mono ?_; rintro r w2 ⟨rfl, hw⟩; obtain rfl := hw.symm; clear hw
                  go_wp2_with fail
                  refine hK.out _ _ ?_ (fun hHeld => ?_)
                  · (try dsimp only); exact hHeld
                  clear hK K
                  (try simp only [putQ]); refine stY fo42_5 o42_5_3 15 ?_; try simp only [putQ]; refine stY fo42_5 o42_5_4 31 ?_; try simp only [putQ]; refine stY fo42_5 o42_5_5 63 ?_; try simp only [putQ]; refine stY fo42_5 o42_5_6 127 ?_; try simp only [putQ]; refine stY fo42_5 o42_5_8 383 ?_; try simp only [putQ]; refine stY fo42_5 o42_5_9 895 ?_; try simp only [putQ]
                  refine stC fo42_5 o42_5_7 1023 (fun K hK => ?_)
                  go_simp
                  refine (lsite_any n _).mono ?_; rintro r w3 ⟨rfl, hw⟩; obtain rfl := hw.symm; clear hw; rw [hsn.out]
                  go_wp2_with fail
                  refine hK.out _ _ ?_ (fun hHeld => ?_)
                  · (try dsimp only); exact hHeld
                  clear hK K
                  (try simp only [putQ])
                  refine stC fo42_5 o42_5_10 2047 (fun K hK => ?_)
                  go_simp
                  refine (lsite_any me _).mono ?_; rintro r w3 ⟨rfl, hw⟩; obtain rfl := hw.symm; clear hw; rw [hsm.out]
                  go_wp2_with fail
                  refine hK.out _ _ ?_ (fun hHeld => ?_)
                  · (try dsimp only); exact hHeld
                  clear hK K
                  (try simp only [putQ])
                  refine stV (.bool false) fo42_5 o42_5_11 4095 ?_ ?_
                  · (intro w hSw; (try dsimp only at hSw); go_simp; all_goals (first | with_reducible rfl |  assumption | (simp; done) | (simp; omega)))
                  (try simp only [putQ]); refine stY fo42_5 o42_5_12 8191 ?_; try simp only [putQ]; refine stY fo42_5 o42_5_13 16383 ?_; try simp only [putQ]; refine stY fo42_5 o42_5_14 32767 ?_; try simp only [putQ]; refine stY fo42_5 o42_5_15 65535 ?_; try simp only [putQ]; refine stY fo42_5 o42_5_16 131071 ?_; try simp only [putQ]; refine stY fo42_5 o42_5_17 262143 ?_; try simp only [putQ]
                  refine stV (.bool false) fo42_5 o42_5_18 524287 ?_ ?_
                  · (intro w hSw; (try dsimp only at hSw); go_simp; all_goals (first | with_reducible rfl |  assumption | (simp; done) | (simp; omega)))
                  (try simp only [putQ]); refine stY fo42_5 o42_5_19 1048575 ?_; try simp only [putQ]; refine stY fo42_5 o42_5_20 2097151 ?_; try simp only [putQ]; refine stY fo42_5 o42_5_21 4194303 ?_; try simp only [putQ]
                  refine stV (.bool false) fo42_5 o42_5_22 8388607 ?_ ?_
                  · (intro w hSw; (try dsimp only at hSw); go_simp; all_goals (first | with_reducible rfl |  assumption | (simp; done) | (simp; omega)))
                  (try simp only [putQ]); refine stY fo42_5 o42_5_23 16777215 ?_; try simp only [putQ]; refine stN fo42_5 o42_5_24 33554431 ?_; try simp only [putQ]; refine stN fo42_5 o42_5_25 67108863 ?_; try simp only [putQ]; refine stN fo42_5 o42_5_26 134217727 ?_; try simp only [putQ]; refine stN fo42_5 o42_5_27 268435455 ?_; try simp only [putQ]; refine stN fo42_5 o42_5_28 536870911 ?_; try simp only [putQ]; refine stN fo42_5 o42_5_29 1073741823 ?_; try simp only [putQ]; refine stN fo42_5 o42_5_30 2147483647 ?_; try simp only [putQ]; refine stN fo42_5 o42_5_31 4294967295 ?_; try simp only [putQ]; refine stN fo42_5 o42_5_32 8589934591 ?_; try simp only [putQ]; refine stN fo42_5 o42_5_33 17179869183 ?_; try simp only [putQ]; refine stY fo42_5 o42_5_34 34359738367 ?_; try simp only [putQ]; refine stY fo42_5 o42_5_35 68719476735 ?_; try simp only [putQ]; refine stY fo42_5 o42_5_36 137438953471 ?_; try simp only [putQ]; refine stY fo42_5 o42_5_37 274877906943 ?_; try simp only [putQ]; refine stY fo42_5 o42_5_38 549755813887 ?_; try simp only [putQ]
                  refine stC fo42_5 o42_5_39 1099511627775 (fun K hK => ?_)
                  go_simp
                  refine (scoord_lit x y h e true y4.out _).mono ?_; rintro r w4 ⟨rfl, k4⟩
                  go_wp2_with fail
                  refine hK.out _ _ ?_ (fun hHeld => ?_)
                  · (try dsimp only); exact ⟨keep_below k4 hHeld.1, keep_below k4 hHeld.2.1, keep_below k4 hHeld.2.2.1, keep_below k4 hHeld.2.2.2.1, keep_below k4 hHeld.2.2.2.2.1, keep_below k4 hHeld.2.2.2.2.2.1, keep_below k4 hHeld.2.2.2.2.2.2.1, keep_below k4 hHeld.2.2.2.2.2.2.2.1, hHeld.2.2.2.2.2.2.2.2.1.below k4, btrans hHeld.2.2.2.2.2.2.2.2.2 k4⟩
                  clear hK K
                  (try simp only [putQ]); refine stY fo42_5 o42_5_40 2199023255551 ?_; try simp only [putQ]; refine stY fo42_5 o42_5_41 4398046511103 ?_; try simp only [putQ]; refine stY fo42_5 o42_5_42 8796093022207 ?_; try simp only [putQ]; refine stY fo42_5 o42_5_43 17592186044415 ?_; try simp only [putQ]; refine stY fo42_5 o42_5_44 35184372088831 ?_; try simp only [putQ]; refine stY fo42_5 o42_5_45 70368744177663 ?_; try simp only [putQ]
                  refine stC fo42_5 o42_5_46 140737488355327 (fun K hK => ?_)
                  go_simp
                  refine (lin_lit bl 1 3 false y5.out _).mono ?_; rintro r w2 ⟨rfl, hw⟩; obtain rfl := hw.symm; clear hw
                  go_wp2_with fail
                  refine hK.out _ _ ?_ (fun hHeld => ?_)
                  · (try dsimp only); exact hHeld
                  clear hK K
                  (try simp only [putQ]); refine stY fo42_5 o42_5_47 281474976710655 ?_; try simp only [putQ]; refine stY fo42_5 o42_5_48 562949953421311 ?_; try simp only [putQ]
                  refine wpAnyH_done (by kernel_rfl) ?_ _
                  go_wp2
                  go_ret
                  exact ⟨ret_bool (hno.out (.inl (by rw [hso.out, y5.out]; simp))).symm, btrans b0 hHeld.2.2.2.2.2.2.2.2.2⟩
                · have y5 : Hid (inb bl 1 3 = true) := z5
                  clear z5
                  refine wp_region_m (S := (fun w' => w'.cell? ⟨w.heap.size, 0, none⟩ = some (.int .i64 me) ∧ w'.cell? ⟨w.heap.size, 19, none⟩ = some (.slice (some ⟨b, off, none⟩) pll plc) ∧ w'.cell? ⟨K2, 0, none⟩ = some (.int .i64 n) ∧ w'.cell? ⟨K2, 1, none⟩ = some (.int .i64 x) ∧ w'.cell? ⟨K2, 2, none⟩ = some (.int .i64 y) ∧ w'.cell? ⟨K2, 3, none⟩ = some (.int .i64 h) ∧ w'.cell? ⟨K2, 4, none⟩ = some (.int .i64 e) ∧ w'.cell? ⟨K2, 5, none⟩ = some (.slice ba bl bc) ∧ ISl w' ba bl bf ∧ Below u.heap.size u w')) o42_5 49 fo42_5 ?_ (fun hHeld => ?_)
                  · (try dsimp only); exact ⟨keep_drew g0, keep_drew g19, keep_drew q10, keep_drew q11, keep_drew q12, keep_drew q13, keep_drew q14, keep_drew q15, q3.below (Below.refl _ _).drew, b2.drew⟩
                  refine stY fo42_5 o42_5_0 1 ?_; try simp only [putQ]; refine stY fo42_5 o42_5_1 3 ?_; try simp only [putQ]
                  refine stC fo42_5 o42_5_2 7 (fun K hK => ?_)
                  go_simp
                  refine (lin_lit n 0 7 true y1.out _).mono ?_; rintro r w2 ⟨rfl, hw⟩; obtain rfl := hw.symm; clear hw
                  go_wp2_with fail
                  refine hK.out _ _ ?_ (fun hHeld => ?_)
                  · (try dsimp only); exact hHeld
                  clear hK K
                  (try simp only [putQ]); refine stY fo42_5 o42_5_3 15 ?_; try simp only [putQ]; refine stY fo42_5 o42_5_4 31 ?_; try simp only [putQ]; refine stY fo42_5 o42_5_5 63 ?_; try simp only [putQ]; refine stY fo42_5 o42_5_6 127 ?_; try simp only [putQ]; refine stY fo42_5 o42_5_8 383 ?_; try simp only [putQ]; refine stY fo42_5 o42_5_9 895 ?_; try simp only [putQ]
                  refine stC fo42_5 o42_5_7 1023 (fun K hK => ?_)
                  go_simp
                  refine (lsite_any n _).mono ?_; rintro r w3 ⟨rfl, hw⟩; obtain rfl := hw.symm; clear hw; rw [hsn.out]
                  go_wp2_with fail
                  refine hK.out _ _ ?_ (fun hHeld => ?_)
                  · (try dsimp only); exact hHeld
                  clear hK K
                  (try simp only [putQ])
                  refine stC fo42_5 o42_5_10 2047 (fun K hK => ?_)
                  go_simp
                  refine (lsite_any me _).mono ?_; rintro r w3 ⟨rfl, hw⟩; obtain rfl := hw.symm; clear hw; rw [hsm.out]
                  go_wp2_with fail
                  refine hK.out _ _ ?_ (fun hHeld => ?_)
                  · (try dsimp only); exact hHeld
                  clear hK K
                  (try simp only [putQ])
                  refine stV (.bool false) fo42_5 o42_5_11 4095 ?_ ?_
                  · (intro w hSw; (try dsimp only at hSw); go_simp; all_goals (first | with_reducible rfl |  assumption | (simp; done) | (simp; omega)))
                  (try simp only [putQ]); refine stY fo42_5 o42_5_12 8191 ?_; try simp only [putQ]; refine stY fo42_5 o42_5_13 16383 ?_; try simp only [putQ]; refine stY fo42_5 o42_5_14 32767 ?_; try simp only [putQ]; refine stY fo42_5 o42_5_15 65535 ?_; try simp only [putQ]; refine stY fo42_5 o42_5_16 131071 ?_; try simp only [putQ]; refine stY fo42_5 o42_5_17 262143 ?_; try simp only [putQ]
                  refine stV (.bool false) fo42_5 o42_5_18 524287 ?_ ?_
                  · (intro w hSw; (try dsimp only at hSw); go_simp; all_goals (first | with_reducible rfl |  assumption | (simp; done) | (simp; omega)))
                  (try simp only [putQ]); refine stY fo42_5 o42_5_19 1048575 ?_; try simp only [putQ]; refine stY fo42_5 o42_5_20 2097151 ?_; try simp only [putQ]; refine stY fo42_5 o42_5_21 4194303 ?_; try simp only [putQ]
                  refine stV (.bool false) fo42_5 o42_5_22 8388607 ?_ ?_
                  · (intro w hSw; (try dsimp only at hSw); go_simp; all_goals (first | with_reducible rfl |  assumption | (simp; done) | (simp; omega)))
                  (try simp only [putQ]); refine stY fo42_5 o42_5_23 16777215 ?_; try simp only [putQ]; refine stN fo42_5 o42_5_24 33554431 ?_; try simp only [putQ]; refine stN fo42_5 o42_5_25 67108863 ?_; try simp only [putQ]; refine stN fo42_5 o42_5_26 134217727 ?_; try simp only [putQ]; refine stN fo42_5 o42_5_27 268435455 ?_; try simp only [putQ]; refine stN fo42_5 o42_5_28 536870911 ?_; try simp only [putQ]; refine stN fo42_5 o42_5_29 1073741823 ?_; try simp only [putQ]; refine stN fo42_5 o42_5_30 2147483647 ?_; try simp only [putQ]; refine stN fo42_5 o42_5_31 4294967295 ?_; try simp only [putQ]; refine stN fo42_5 o42_5_32 8589934591 ?_; try simp only [putQ]; refine stN fo42_5 o42_5_33 17179869183 ?_; try simp only [putQ]; refine stY fo42_5 o42_5_34 34359738367 ?_; try simp only [putQ]; refine stY fo42_5 o42_5_35 68719476735 ?_; try simp only [putQ]; refine stY fo42_5 o42_5_36 137438953471 ?_; try simp only [putQ]; refine stY fo42_5 o42_5_37 274877906943 ?_; try simp only [putQ]; refine stY fo42_5 o42_5_38 549755813887 ?_; try simp only [putQ]
                  refine stC fo42_5 o42_5_39 1099511627775 (fun K hK => ?_)
                  go_simp
                  refine (scoord_lit x y h e true y4.out _).mono ?_; rintro r w4 ⟨rfl, k4⟩
                  go_wp2_with fail
                  refine hK.out _ _ ?_ (fun hHeld => ?_)
                  · (try dsimp only); exact ⟨keep_below k4 hHeld.1, keep_below k4 hHeld.2.1, keep_below k4 hHeld.2.2.1, keep_below k4 hHeld.2.2.2.1, keep_below k4 hHeld.2.2.2.2.1, keep_below k4 hHeld.2.2.2.2.2.1, keep_below k4 hHeld.2.2.2.2.2.2.1, keep_below k4 hHeld.2.2.2.2.2.2.2.1, hHeld.2.2.2.2.2.2.2.2.1.below k4, btrans hHeld.2.2.2.2.2.2.2.2.2 k4⟩
                  clear hK K
                  (try simp only [putQ]); refine stY fo42_5 o42_5_40 2199023255551 ?_; try simp only [putQ]; refine stY fo42_5 o42_5_41 4398046511103 ?_; try simp only [putQ]; refine stY fo42_5 o42_5_42 8796093022207 ?_; try simp only [putQ]; refine stY fo42_5 o42_5_43 17592186044415 ?_; try simp only [putQ]; refine stY fo42_5 o42_5_44 35184372088831 ?_; try simp only [putQ]; refine stY fo42_5 o42_5_45 70368744177663 ?_; try simp only [putQ]
                  refine stC fo42_5 o42_5_46 140737488355327 (fun K hK => ?_)
                  go_simp
                  refine (lin_lit bl 1 3 true y5.out _).mono ?_; rintro r w2 ⟨rfl, hw⟩; obtain rfl := hw.symm; clear hw
                  go_wp2_with fail
                  refine hK.out _ _ ?_ (fun hHeld => ?_)
                  · (try dsimp only); exact hHeld
                  clear hK K
                  (try simp only [putQ]); refine stY fo42_5 o42_5_47 281474976710655 ?_; try simp only [putQ]; refine stY fo42_5 o42_5_48 562949953421311 ?_; try simp only [putQ]
                  refine wpAnyH_done (by kernel_rfl) ?_ _
                  have hso2 : Hid (plcB me n x y h e bl bf = trA bl bf) := by
                    rw [Hid, hso.out, y4.out, y5.out]; simp [mateB, ofB, y1.out, hsn.out, hsm.out, e2]
                  have hB5 := hHeld.2.2.2.2.2.2.2.1
                  have hI := hHeld.2.2.2.2.2.2.2.2.1
                  have hBe := hHeld.2.2.2.2.2.2.2.2.2
                  clear hHeld hso
                  go_wp2_with fail
                  go_loopw [5] (fun i wt => ∃ t : Nat, t ≤ bl ∧ i = .int .i64 t ∧ Below w4.heap.size w4 wt ∧ (∀ j, j < t → inb (bf j) 1 60000 = true)) (fun i _ => bl - (intOf i).toNat)
                  case atStart => exact ⟨0, by omega, rfl, Below.refl _ _, fun j h1 => by omega⟩
                  case round =>
                    obtain ⟨t, ht, rfl, hbt, hallt⟩ := hrel
                    have hc5 := keep_below hbt hB5
                    by_cases hlt2 : t < bl
                    · obtain ⟨bb, ob, rfl, hbb, hff⟩ := hI (by omega)
                      have ct := (hff.below hbt hbb) t hlt2
                      have j0 : (0 : Int) ≤ (t : Int) := by omega
                      have j1 : (t : Int) < (bl : Int) := by omega
                      have hnt : Hid (inb (bf t) 1 60000 = false → trA bl bf = false) := tr_no hlt2
                      have hyt : Hid (inb (bf t) 1 60000 = true → ∀ j, j < t + 1 → inb (bf j) 1 60000 = true) := fun e j hj => by
                        by_cases ej : j = t
                        · subst ej; exact e
                        · exact hallt j (by omega)
                      clear hallt
                      generalize bf t = z at *
                      go_wp2_with fail
                      cases z6 : inb z 1 60000
                      · have y6 : Hid (inb z 1 60000 = false) := z6
                        clear z6
                        refine (lin_lit z 1 60000 false y6.out _).mono ?_
                        rintro r w3 ⟨rfl, hw⟩
                        obtain rfl := hw.symm
                        clear hw
                        go_wp2
                        go_ret
                        exact ⟨ret_bool (hno.out (.inl (by rw [hso2.out]; exact hnt.out y6.out))).symm, btrans b0 (btrans hBe hbt)⟩
                      · have y6 : Hid (inb z 1 60000 = true) := z6
                        clear z6
                        refine (lin_lit z 1 60000 true y6.out _).mono ?_
                        rintro r w3 ⟨rfl, hw⟩
                        obtain rfl := hw.symm
                        clear hw
                        go_wp2
                        go_roundw
                        case rel => exact ⟨t + 1, by omega, by go_num, hbt, hyt.out y6.out⟩
                        case measure => simp [intOf]; omega
                    · have hy : Hid (trA bl bf = true) := by
                        rw [Hid]; unfold trA; exact decide_eq_true fun j hj => hallt j (by omega)
                      clear hallt
                      go_wp2
                      go_roundw
                      case rel => exact ⟨0 + 1, by omega, by go_num, btrans hBe hbt, hyes.out (by rw [hso2.out]; exact hy.out), hyes2.out (fun h => by omega)⟩
                      case measure => simp [intOf]; omega
          · have e0' : (sn != sm) = true := by simpa using e0
            refine wp_region_m (S := (fun w' => w'.cell? ⟨w.heap.size, 0, none⟩ = some (.int .i64 me) ∧ w'.cell? ⟨w.heap.size, 19, none⟩ = some (.slice (some ⟨b, off, none⟩) pll plc) ∧ w'.cell? ⟨K2, 0, none⟩ = some (.int .i64 n) ∧ w'.cell? ⟨K2, 1, none⟩ = some (.int .i64 x) ∧ w'.cell? ⟨K2, 2, none⟩ = some (.int .i64 y) ∧ w'.cell? ⟨K2, 3, none⟩ = some (.int .i64 h) ∧ w'.cell? ⟨K2, 4, none⟩ = some (.int .i64 e) ∧ w'.cell? ⟨K2, 5, none⟩ = some (.slice ba bl bc) ∧ ISl w' ba bl bf ∧ Below u.heap.size u w')) o42_5 49 fo42_5 ?_ (fun hHeld => ?_)
            · (try dsimp only); exact ⟨keep_drew g0, keep_drew g19, keep_drew q10, keep_drew q11, keep_drew q12, keep_drew q13, keep_drew q14, keep_drew q15, q3.below (Below.refl _ _).drew, b2.drew⟩
            refine stY fo42_5 o42_5_0 1 ?_; try simp only [putQ]; refine stY fo42_5 o42_5_1 3 ?_; try simp only [putQ]
            refine stC fo42_5 o42_5_2 7 (fun K hK => ?_)
            go_simp
            refine (lin_lit n 0 7 true y1.out _).mono ?_; rintro r w2 ⟨rfl, hw⟩; obtain rfl := hw.symm; clear hw
            go_wp2_with fail
            refine hK.out _ _ ?_ (fun hHeld => ?_)
            · (try dsimp only); exact hHeld
            clear hK K
            (try simp only [putQ]); refine stY fo42_5 o42_5_3 15 ?_; try simp only [putQ]; refine stY fo42_5 o42_5_4 31 ?_; try simp only [putQ]; refine stY fo42_5 o42_5_5 63 ?_; try simp only [putQ]; refine stY fo42_5 o42_5_6 127 ?_; try simp only [putQ]; refine stY fo42_5 o42_5_8 383 ?_; try simp only [putQ]; refine stY fo42_5 o42_5_9 895 ?_; try simp only [putQ]
            refine stC fo42_5 o42_5_7 1023 (fun K hK => ?_)
            go_simp
            refine (lsite_any n _).mono ?_; rintro r w3 ⟨rfl, hw⟩; obtain rfl := hw.symm; clear hw; rw [hsn.out]
            go_wp2_with fail
            refine hK.out _ _ ?_ (fun hHeld => ?_)
            · (try dsimp only); exact hHeld
            clear hK K
            (try simp only [putQ])
            refine stC fo42_5 o42_5_10 2047 (fun K hK => ?_)
            go_simp
            refine (lsite_any me _).mono ?_; rintro r w3 ⟨rfl, hw⟩; obtain rfl := hw.symm; clear hw; rw [hsm.out]
            go_wp2_with fail
            refine hK.out _ _ ?_ (fun hHeld => ?_)
            · (try dsimp only); exact hHeld
            clear hK K
            (try simp only [putQ])
            refine stV (.bool true) fo42_5 o42_5_11 4095 ?_ ?_
            · (intro w hSw; (try dsimp only at hSw); go_simp; all_goals (first | with_reducible rfl |  assumption | (simp; done) | (simp; omega)))
            (try simp only [putQ]); refine stY fo42_5 o42_5_12 8191 ?_; try simp only [putQ]; refine stY fo42_5 o42_5_13 16383 ?_; try simp only [putQ]; refine stN fo42_5 o42_5_14 32767 ?_; try simp only [putQ]; refine stN fo42_5 o42_5_15 65535 ?_; try simp only [putQ]; refine stN fo42_5 o42_5_16 131071 ?_; try simp only [putQ]; refine stN fo42_5 o42_5_17 262143 ?_; try simp only [putQ]; refine stN fo42_5 o42_5_18 524287 ?_; try simp only [putQ]; refine stY fo42_5 o42_5_19 1048575 ?_; try simp only [putQ]; refine stY fo42_5 o42_5_20 2097151 ?_; try simp only [putQ]; refine stN fo42_5 o42_5_21 4194303 ?_; try simp only [putQ]; refine stN fo42_5 o42_5_22 8388607 ?_; try simp only [putQ]; refine stN fo42_5 o42_5_23 16777215 ?_; try simp only [putQ]; refine stN fo42_5 o42_5_24 33554431 ?_; try simp only [putQ]; refine stN fo42_5 o42_5_25 67108863 ?_; try simp only [putQ]; refine stN fo42_5 o42_5_26 134217727 ?_; try simp only [putQ]; refine stN fo42_5 o42_5_27 268435455 ?_; try simp only [putQ]; refine stN fo42_5 o42_5_28 536870911 ?_; try simp only [putQ]; refine stN fo42_5 o42_5_29 1073741823 ?_; try simp only [putQ]; refine stN fo42_5 o42_5_30 2147483647 ?_; try simp only [putQ]; refine stN fo42_5 o42_5_31 4294967295 ?_; try simp only [putQ]; refine stN fo42_5 o42_5_32 8589934591 ?_; try simp only [putQ]; refine stN fo42_5 o42_5_33 17179869183 ?_; try simp only [putQ]; refine stN fo42_5 o42_5_34 34359738367 ?_; try simp only [putQ]; refine stY fo42_5 o42_5_35 68719476735 ?_; try simp only [putQ]; refine stY fo42_5 o42_5_36 137438953471 ?_; try simp only [putQ]; refine stN fo42_5 o42_5_37 274877906943 ?_; try simp only [putQ]; refine stN fo42_5 o42_5_38 549755813887 ?_; try simp only [putQ]; refine stN fo42_5 o42_5_39 1099511627775 ?_; try simp only [putQ]; refine stN fo42_5 o42_5_40 2199023255551 ?_; try simp only [putQ]; refine stY fo42_5 o42_5_41 4398046511103 ?_; try simp only [putQ]; refine stY fo42_5 o42_5_42 8796093022207 ?_; try simp only [putQ]; refine stN fo42_5 o42_5_43 17592186044415 ?_; try simp only [putQ]; refine stN fo42_5 o42_5_44 35184372088831 ?_; try simp only [putQ]; refine stN fo42_5 o42_5_45 70368744177663 ?_; try simp only [putQ]; refine stN fo42_5 o42_5_46 140737488355327 ?_; try simp only [putQ]; refine stN fo42_5 o42_5_47 281474976710655 ?_; try simp only [putQ]; refine stY fo42_5 o42_5_48 562949953421311 ?_; try simp only [putQ]
            refine wpAnyH_done (by kernel_rfl) ?_ _
            go_wp2
            go_ret
            exact ⟨ret_bool (hno.out (.inl (by rw [hso.out]; simp [mateB, ofB, hsn.out, hsm.out, e0]))).symm, btrans b0 hHeld.2.2.2.2.2.2.2.2.2⟩
      · obtain ⟨m, rfl⟩ : ∃ m, k = m + 1 := ⟨k - 1, by omega⟩
        have hso : Hid (plcB me (G (m + 1)).n (G (m + 1)).x (G (m + 1)).y (G (m + 1)).h (G (m + 1)).e (G (m + 1)).bl (G (m + 1)).bf = (mateB me (G (m + 1)).n && cok (G (m + 1)).x (G (m + 1)).y (G (m + 1)).h (G (m + 1)).e && inb (G (m + 1)).bl 1 3 && trA (G (m + 1)).bl (G (m + 1)).bf)) := rfl
        have hno : Hid (plcB me (G (m + 1)).n (G (m + 1)).x (G (m + 1)).y (G (m + 1)).h (G (m + 1)).e (G (m + 1)).bl (G (m + 1)).bf = false ∨ (0 < (m + 1) ∧ ¬ (G ((m + 1) - 1)).n < (G (m + 1)).n) → plsB me pll G = false) := plcs_no hlt
        have hyes : Hid (plcB me (G (m + 1)).n (G (m + 1)).x (G (m + 1)).y (G (m + 1)).h (G (m + 1)).e (G (m + 1)).bl (G (m + 1)).bf = true → ∀ j, j < (m + 1) + 1 → plcB me (G j).n (G j).x (G j).y (G j).h (G j).e (G j).bl (G j).bf = true) := fun e j hj => by
          by_cases ej : j = (m + 1)
          · subst ej; exact e
          · exact hall j (by omega)
        have hyes2 : Hid ((0 < (m + 1) → (G ((m + 1) - 1)).n < (G (m + 1)).n) → ∀ j, j < (m + 1) + 1 → 0 < j → (G (j - 1)).n < (G j).n) := fun e j hj h0 => by
          by_cases ej : j = (m + 1)
          · subst ej; exact e h0
          · exact hasc j (by omega) h0
        clear hall hasc
        generalize G (m + 1) = gx at *
        obtain ⟨n, x, y, h, e, ba, bl, bc, bf⟩ := gx
        dsimp only at c0 c1 c2 c3 c4 c5 hS hbl' hso hno hyes hyes2
        have b2 := balloc (.cells #[.int .i64 n, .int .i64 x, .int .i64 y, .int .i64 h, .int .i64 e, .slice ba bl bc] 91) hb
        have Y := Ws.box (w := wr) #[.int .i64 n, .int .i64 x, .int .i64 y, .int .i64 h, .int .i64 e, .slice ba bl bc] 91
        have g0 := keep_alloc (.cells #[.int .i64 n, .int .i64 x, .int .i64 y, .int .i64 h, .int .i64 e, .slice ba bl bc] 91) f0
        have g19 := keep_alloc (.cells #[.int .i64 n, .int .i64 x, .int .i64 y, .int .i64 h, .int .i64 e, .slice ba bl bc] 91) f19
        have q3 := hS.below (balloc (.cells #[.int .i64 n, .int .i64 x, .int .i64 y, .int .i64 h, .int .i64 e, .slice ba bl bc] 91) (Below.refl wr.heap.size wr))
        obtain ⟨p0, _⟩ := (hf.below b2 hbl) m (by omega)
        obtain ⟨n0, hn0⟩ : ∃ n0, Hid ((G m).n = n0) := ⟨_, rfl⟩
        rw [hn0.out] at p0
        have i2 : (0 : Int) ≤ (m : Int) := by omega
        have i3 : (m : Int) + 1 < (pll : Int) := by omega
        have i4 : (m : Int) < (pll : Int) := by omega
        have i5 : (0 : Int) ≤ (m : Int) + 1 := by omega
        have i6 : (0 : Int) < (m : Int) + 1 := by omega
        have i7 : IntKind.i64.wrap (m : Int) = (m : Int) := by rw [IntKind.wrap_i64]; omega
        have i8 : IntKind.i64.wrap ((m : Int) + 1 - 1) = (m : Int) := by rw [IntKind.wrap_i64]; omega
        have e1 : ((m + 1 : Nat) : Int) = (m : Int) + 1 := by omega
        clear i0 i1
        rw [e1]
        go_upto_region 5 with fail
        generalize wr.alloc (.cells #[.int .i64 n, .int .i64 x, .int .i64 y, .int .i64 h, .int .i64 e, .slice ba bl bc] 91) = v at *
        generalize wr.heap.size = K2 at *
        have q10 := Y.c 0 (.int .i64 n) rfl
        have q11 := Y.c 1 (.int .i64 x) rfl
        have q12 := Y.c 2 (.int .i64 y) rfl
        have q13 := Y.c 3 (.int .i64 h) rfl
        have q14 := Y.c 4 (.int .i64 e) rfl
        have q15 := Y.c 5 (.slice ba bl bc) rfl
        clear Y c0 c1 c2 c3 c4 c5 f0 f19 hS
        obtain ⟨sn, hsn⟩ : ∃ sn, Hid (ste n = sn) := ⟨_, rfl⟩
        cases z1 : inb n 0 7
        · have y1 : Hid (inb n 0 7 = false) := z1
          clear z1
          refine wp_region_m (S := (fun w' => w'.cell? ⟨w.heap.size, 0, none⟩ = some (.int .i64 me) ∧ w'.cell? ⟨w.heap.size, 19, none⟩ = some (.slice (some ⟨b, off, none⟩) pll plc) ∧ w'.cell? ⟨K2, 0, none⟩ = some (.int .i64 n) ∧ w'.cell? ⟨K2, 1, none⟩ = some (.int .i64 x) ∧ w'.cell? ⟨K2, 2, none⟩ = some (.int .i64 y) ∧ w'.cell? ⟨K2, 3, none⟩ = some (.int .i64 h) ∧ w'.cell? ⟨K2, 4, none⟩ = some (.int .i64 e) ∧ w'.cell? ⟨K2, 5, none⟩ = some (.slice ba bl bc) ∧ ISl w' ba bl bf ∧ w'.cell? ⟨b, off + m * 6, none⟩ = some (.int .i64 n0) ∧ Below u.heap.size u w')) o42_5 49 fo42_5 ?_ (fun hHeld => ?_)
          · (try dsimp only); exact ⟨keep_drew g0, keep_drew g19, keep_drew q10, keep_drew q11, keep_drew q12, keep_drew q13, keep_drew q14, keep_drew q15, q3.below (Below.refl _ _).drew, keep_drew p0, b2.drew⟩
          refine stY fo42_5 o42_5_0 1 ?_; try simp only [putQ]; refine stY fo42_5 o42_5_1 3 ?_; try simp only [putQ]
          refine stC fo42_5 o42_5_2 7 (fun K hK => ?_)
          go_simp
          refine (lin_lit n 0 7 false y1.out _).mono ?_; rintro r w2 ⟨rfl, hw⟩; obtain rfl := hw.symm; clear hw
          go_wp2_with fail
          refine hK.out _ _ ?_ (fun hHeld => ?_)
          · (try dsimp only); exact hHeld
          clear hK K
          (try simp only [putQ]); refine stY fo42_5 o42_5_3 15 ?_; try simp only [putQ]; refine stY fo42_5 o42_5_4 31 ?_; try simp only [putQ]; refine stN fo42_5 o42_5_5 63 ?_; try simp only [putQ]; refine stN fo42_5 o42_5_6 127 ?_; try simp only [putQ]; refine stN fo42_5 o42_5_7 255 ?_; try simp only [putQ]; refine stN fo42_5 o42_5_8 511 ?_; try simp only [putQ]; refine stN fo42_5 o42_5_9 1023 ?_; try simp only [putQ]; refine stN fo42_5 o42_5_10 2047 ?_; try simp only [putQ]; refine stN fo42_5 o42_5_11 4095 ?_; try simp only [putQ]; refine stY fo42_5 o42_5_12 8191 ?_; try simp only [putQ]; refine stY fo42_5 o42_5_13 16383 ?_; try simp only [putQ]; refine stN fo42_5 o42_5_14 32767 ?_; try simp only [putQ]; refine stN fo42_5 o42_5_15 65535 ?_; try simp only [putQ]; refine stN fo42_5 o42_5_16 131071 ?_; try simp only [putQ]; refine stN fo42_5 o42_5_17 262143 ?_; try simp only [putQ]; refine stN fo42_5 o42_5_18 524287 ?_; try simp only [putQ]; refine stY fo42_5 o42_5_19 1048575 ?_; try simp only [putQ]; refine stY fo42_5 o42_5_20 2097151 ?_; try simp only [putQ]; refine stN fo42_5 o42_5_21 4194303 ?_; try simp only [putQ]; refine stN fo42_5 o42_5_22 8388607 ?_; try simp only [putQ]; refine stN fo42_5 o42_5_23 16777215 ?_; try simp only [putQ]; refine stN fo42_5 o42_5_24 33554431 ?_; try simp only [putQ]; refine stN fo42_5 o42_5_25 67108863 ?_; try simp only [putQ]; refine stN fo42_5 o42_5_26 134217727 ?_; try simp only [putQ]; refine stN fo42_5 o42_5_27 268435455 ?_; try simp only [putQ]; refine stN fo42_5 o42_5_28 536870911 ?_; try simp only [putQ]; refine stN fo42_5 o42_5_29 1073741823 ?_; try simp only [putQ]; refine stN fo42_5 o42_5_30 2147483647 ?_; try simp only [putQ]; refine stN fo42_5 o42_5_31 4294967295 ?_; try simp only [putQ]; refine stN fo42_5 o42_5_32 8589934591 ?_; try simp only [putQ]; refine stN fo42_5 o42_5_33 17179869183 ?_; try simp only [putQ]; refine stN fo42_5 o42_5_34 34359738367 ?_; try simp only [putQ]; refine stY fo42_5 o42_5_35 68719476735 ?_; try simp only [putQ]; refine stY fo42_5 o42_5_36 137438953471 ?_; try simp only [putQ]; refine stN fo42_5 o42_5_37 274877906943 ?_; try simp only [putQ]; refine stN fo42_5 o42_5_38 549755813887 ?_; try simp only [putQ]; refine stN fo42_5 o42_5_39 1099511627775 ?_; try simp only [putQ]; refine stN fo42_5 o42_5_40 2199023255551 ?_; try simp only [putQ]; refine stY fo42_5 o42_5_41 4398046511103 ?_; try simp only [putQ]; refine stY fo42_5 o42_5_42 8796093022207 ?_; try simp only [putQ]; refine stN fo42_5 o42_5_43 17592186044415 ?_; try simp only [putQ]; refine stN fo42_5 o42_5_44 35184372088831 ?_; try simp only [putQ]; refine stN fo42_5 o42_5_45 70368744177663 ?_; try simp only [putQ]; refine stN fo42_5 o42_5_46 140737488355327 ?_; try simp only [putQ]; refine stN fo42_5 o42_5_47 281474976710655 ?_; try simp only [putQ]; refine stY fo42_5 o42_5_48 562949953421311 ?_; try simp only [putQ]
          refine wpAnyH_done (by kernel_rfl) ?_ _
          go_wp2
          go_ret
          exact ⟨ret_bool (hno.out (.inl (by rw [hso.out]; simp [mateB, ofB, y1.out]))).symm, btrans b0 hHeld.2.2.2.2.2.2.2.2.2.2⟩
        · have y1 : Hid (inb n 0 7 = true) := z1
          clear z1
          by_cases e0 : sn = sm
          · subst e0
            by_cases e2 : n = me
            · subst e2
              refine wp_region_m (S := (fun w' => w'.cell? ⟨w.heap.size, 0, none⟩ = some (.int .i64 n) ∧ w'.cell? ⟨w.heap.size, 19, none⟩ = some (.slice (some ⟨b, off, none⟩) pll plc) ∧ w'.cell? ⟨K2, 0, none⟩ = some (.int .i64 n) ∧ w'.cell? ⟨K2, 1, none⟩ = some (.int .i64 x) ∧ w'.cell? ⟨K2, 2, none⟩ = some (.int .i64 y) ∧ w'.cell? ⟨K2, 3, none⟩ = some (.int .i64 h) ∧ w'.cell? ⟨K2, 4, none⟩ = some (.int .i64 e) ∧ w'.cell? ⟨K2, 5, none⟩ = some (.slice ba bl bc) ∧ ISl w' ba bl bf ∧ w'.cell? ⟨b, off + m * 6, none⟩ = some (.int .i64 n0) ∧ Below u.heap.size u w')) o42_5 49 fo42_5 ?_ (fun hHeld => ?_)
              · (try dsimp only); exact ⟨keep_drew g0, keep_drew g19, keep_drew q10, keep_drew q11, keep_drew q12, keep_drew q13, keep_drew q14, keep_drew q15, q3.below (Below.refl _ _).drew, keep_drew p0, b2.drew⟩
              refine stY fo42_5 o42_5_0 1 ?_; try simp only [putQ]; refine stY fo42_5 o42_5_1 3 ?_; try simp only [putQ]
              refine stC fo42_5 o42_5_2 7 (fun K hK => ?_)
              go_simp
              refine (lin_lit n 0 7 true y1.out _).mono ?_; rintro r w2 ⟨rfl, hw⟩; obtain rfl := hw.symm; clear hw
              go_wp2_with fail
              refine hK.out _ _ ?_ (fun hHeld => ?_)
              · (try dsimp only); exact hHeld
              clear hK K
              (try simp only [putQ]); refine stY fo42_5 o42_5_3 15 ?_; try simp only [putQ]; refine stY fo42_5 o42_5_4 31 ?_; try simp only [putQ]; refine stY fo42_5 o42_5_5 63 ?_; try simp only [putQ]; refine stY fo42_5 o42_5_6 127 ?_; try simp only [putQ]; refine stY fo42_5 o42_5_8 383 ?_; try simp only [putQ]; refine stY fo42_5 o42_5_9 895 ?_; try simp only [putQ]
              refine stC fo42_5 o42_5_7 1023 (fun K hK => ?_)
              go_simp
              refine (lsite_any n _).mono ?_; rintro r w3 ⟨rfl, hw⟩; obtain rfl := hw.symm; clear hw; rw [hsn.out]
              go_wp2_with fail
              refine hK.out _ _ ?_ (fun hHeld => ?_)
              · (try dsimp only); exact hHeld
              clear hK K
              (try simp only [putQ])
              refine stC fo42_5 o42_5_10 2047 (fun K hK => ?_)
              go_simp
              refine (lsite_any n _).mono ?_; rintro r w3 ⟨rfl, hw⟩; obtain rfl := hw.symm; clear hw; rw [hsm.out]
              go_wp2_with fail
              refine hK.out _ _ ?_ (fun hHeld => ?_)
              · (try dsimp only); exact hHeld
              clear hK K
              (try simp only [putQ])
              refine stV (.bool false) fo42_5 o42_5_11 4095 ?_ ?_
              · (intro w hSw; (try dsimp only at hSw); go_simp; all_goals (first | with_reducible rfl |  assumption | (simp; done) | (simp; omega)))
              (try simp only [putQ]); refine stY fo42_5 o42_5_12 8191 ?_; try simp only [putQ]; refine stY fo42_5 o42_5_13 16383 ?_; try simp only [putQ]; refine stY fo42_5 o42_5_14 32767 ?_; try simp only [putQ]; refine stY fo42_5 o42_5_15 65535 ?_; try simp only [putQ]; refine stY fo42_5 o42_5_16 131071 ?_; try simp only [putQ]; refine stY fo42_5 o42_5_17 262143 ?_; try simp only [putQ]
              refine stV (.bool true) fo42_5 o42_5_18 524287 ?_ ?_
              · (intro w hSw; (try dsimp only at hSw); go_simp; all_goals (first | with_reducible rfl |  assumption | (simp; done) | (simp; omega)))
              (try simp only [putQ]); refine stY fo42_5 o42_5_19 1048575 ?_; try simp only [putQ]; refine stY fo42_5 o42_5_20 2097151 ?_; try simp only [putQ]; refine stN fo42_5 o42_5_21 4194303 ?_; try simp only [putQ]; refine stN fo42_5 o42_5_22 8388607 ?_; try simp only [putQ]; refine stN fo42_5 o42_5_23 16777215 ?_; try simp only [putQ]; refine stN fo42_5 o42_5_24 33554431 ?_; try simp only [putQ]; refine stN fo42_5 o42_5_25 67108863 ?_; try simp only [putQ]; refine stN fo42_5 o42_5_26 134217727 ?_; try simp only [putQ]; refine stN fo42_5 o42_5_27 268435455 ?_; try simp only [putQ]; refine stN fo42_5 o42_5_28 536870911 ?_; try simp only [putQ]; refine stN fo42_5 o42_5_29 1073741823 ?_; try simp only [putQ]; refine stN fo42_5 o42_5_30 2147483647 ?_; try simp only [putQ]; refine stN fo42_5 o42_5_31 4294967295 ?_; try simp only [putQ]; refine stN fo42_5 o42_5_32 8589934591 ?_; try simp only [putQ]; refine stN fo42_5 o42_5_33 17179869183 ?_; try simp only [putQ]; refine stN fo42_5 o42_5_34 34359738367 ?_; try simp only [putQ]; refine stY fo42_5 o42_5_35 68719476735 ?_; try simp only [putQ]; refine stY fo42_5 o42_5_36 137438953471 ?_; try simp only [putQ]; refine stN fo42_5 o42_5_37 274877906943 ?_; try simp only [putQ]; refine stN fo42_5 o42_5_38 549755813887 ?_; try simp only [putQ]; refine stN fo42_5 o42_5_39 1099511627775 ?_; try simp only [putQ]; refine stN fo42_5 o42_5_40 2199023255551 ?_; try simp only [putQ]; refine stY fo42_5 o42_5_41 4398046511103 ?_; try simp only [putQ]; refine stY fo42_5 o42_5_42 8796093022207 ?_; try simp only [putQ]; refine stN fo42_5 o42_5_43 17592186044415 ?_; try simp only [putQ]; refine stN fo42_5 o42_5_44 35184372088831 ?_; try simp only [putQ]; refine stN fo42_5 o42_5_45 70368744177663 ?_; try simp only [putQ]; refine stN fo42_5 o42_5_46 140737488355327 ?_; try simp only [putQ]; refine stN fo42_5 o42_5_47 281474976710655 ?_; try simp only [putQ]; refine stY fo42_5 o42_5_48 562949953421311 ?_; try simp only [putQ]
              refine wpAnyH_done (by kernel_rfl) ?_ _
              go_wp2
              go_ret
              exact ⟨ret_bool (hno.out (.inl (by rw [hso.out]; simp [mateB, ofB]))).symm, btrans b0 hHeld.2.2.2.2.2.2.2.2.2.2⟩
            · have e2' : (n == me) = false := by simpa using e2
              by_cases e3 : n ≤ n0
              · skip
                refine wp_region_m (S := (fun w' => w'.cell? ⟨w.heap.size, 0, none⟩ = some (.int .i64 me) ∧ w'.cell? ⟨w.heap.size, 19, none⟩ = some (.slice (some ⟨b, off, none⟩) pll plc) ∧ w'.cell? ⟨K2, 0, none⟩ = some (.int .i64 n) ∧ w'.cell? ⟨K2, 1, none⟩ = some (.int .i64 x) ∧ w'.cell? ⟨K2, 2, none⟩ = some (.int .i64 y) ∧ w'.cell? ⟨K2, 3, none⟩ = some (.int .i64 h) ∧ w'.cell? ⟨K2, 4, none⟩ = some (.int .i64 e) ∧ w'.cell? ⟨K2, 5, none⟩ = some (.slice ba bl bc) ∧ ISl w' ba bl bf ∧ w'.cell? ⟨b, off + m * 6, none⟩ = some (.int .i64 n0) ∧ Below u.heap.size u w')) o42_5 49 fo42_5 ?_ (fun hHeld => ?_)
                · (try dsimp only); exact ⟨keep_drew g0, keep_drew g19, keep_drew q10, keep_drew q11, keep_drew q12, keep_drew q13, keep_drew q14, keep_drew q15, q3.below (Below.refl _ _).drew, keep_drew p0, b2.drew⟩
                refine stY fo42_5 o42_5_0 1 ?_; try simp only [putQ]; refine stY fo42_5 o42_5_1 3 ?_; try simp only [putQ]
                refine stC fo42_5 o42_5_2 7 (fun K hK => ?_)
                go_simp
                refine (lin_lit n 0 7 true y1.out _).mono ?_; rintro r w2 ⟨rfl, hw⟩; obtain rfl := hw.symm; clear hw
                go_wp2_with fail
                refine hK.out _ _ ?_ (fun hHeld => ?_)
                · (try dsimp only); exact hHeld
                clear hK K
                (try simp only [putQ]); refine stY fo42_5 o42_5_3 15 ?_; try simp only [putQ]; refine stY fo42_5 o42_5_4 31 ?_; try simp only [putQ]; refine stY fo42_5 o42_5_5 63 ?_; try simp only [putQ]; refine stY fo42_5 o42_5_6 127 ?_; try simp only [putQ]; refine stY fo42_5 o42_5_8 383 ?_; try simp only [putQ]; refine stY fo42_5 o42_5_9 895 ?_; try simp only [putQ]
                refine stC fo42_5 o42_5_7 1023 (fun K hK => ?_)
                go_simp
                refine (lsite_any n _).mono ?_; rintro r w3 ⟨rfl, hw⟩; obtain rfl := hw.symm; clear hw; rw [hsn.out]
                go_wp2_with fail
                refine hK.out _ _ ?_ (fun hHeld => ?_)
                · (try dsimp only); exact hHeld
                clear hK K
                (try simp only [putQ])
                refine stC fo42_5 o42_5_10 2047 (fun K hK => ?_)
                go_simp
                refine (lsite_any me _).mono ?_; rintro r w3 ⟨rfl, hw⟩; obtain rfl := hw.symm; clear hw; rw [hsm.out]
                go_wp2_with fail
                refine hK.out _ _ ?_ (fun hHeld => ?_)
                · (try dsimp only); exact hHeld
                clear hK K
                (try simp only [putQ])
                refine stV (.bool false) fo42_5 o42_5_11 4095 ?_ ?_
                · (intro w hSw; (try dsimp only at hSw); go_simp; all_goals (first | with_reducible rfl |  assumption | (simp; done) | (simp; omega)))
                (try simp only [putQ]); refine stY fo42_5 o42_5_12 8191 ?_; try simp only [putQ]; refine stY fo42_5 o42_5_13 16383 ?_; try simp only [putQ]; refine stY fo42_5 o42_5_14 32767 ?_; try simp only [putQ]; refine stY fo42_5 o42_5_15 65535 ?_; try simp only [putQ]; refine stY fo42_5 o42_5_16 131071 ?_; try simp only [putQ]; refine stY fo42_5 o42_5_17 262143 ?_; try simp only [putQ]
                refine stV (.bool false) fo42_5 o42_5_18 524287 ?_ ?_
                · (intro w hSw; (try dsimp only at hSw); go_simp; all_goals (first | with_reducible rfl |  assumption | (simp; done) | (simp; omega)))
                (try simp only [putQ]); refine stY fo42_5 o42_5_19 1048575 ?_; try simp only [putQ]; refine stY fo42_5 o42_5_20 2097151 ?_; try simp only [putQ]; refine stY fo42_5 o42_5_21 4194303 ?_; try simp only [putQ]
                refine stV (.bool true) fo42_5 o42_5_22 8388607 ?_ ?_
                · (intro w hSw; (try dsimp only at hSw); go_simp; all_goals (first | with_reducible rfl |  assumption | (simp; done) | (simp; omega)))
                (try simp only [putQ]); refine stY fo42_5 o42_5_23 16777215 ?_; try simp only [putQ]; refine stY fo42_5 o42_5_24 33554431 ?_; try simp only [putQ]; refine stY fo42_5 o42_5_25 67108863 ?_; try simp only [putQ]; refine stY fo42_5 o42_5_26 134217727 ?_; try simp only [putQ]; refine stY fo42_5 o42_5_27 268435455 ?_; try simp only [putQ]; refine stY fo42_5 o42_5_28 536870911 ?_; try simp only [putQ]; refine stY fo42_5 o42_5_29 1073741823 ?_; try simp only [putQ]; refine stY fo42_5 o42_5_30 2147483647 ?_; try simp only [putQ]; refine stY fo42_5 o42_5_31 4294967295 ?_; try simp only [putQ]; refine stY fo42_5 o42_5_32 8589934591 ?_; try simp only [putQ]
                refine stV (.bool true) fo42_5 o42_5_33 17179869183 ?_ ?_
                · (intro w hSw; (try dsimp only at hSw); go_simp; all_goals (first | with_reducible rfl |  assumption | (simp; done) | (simp; omega)))
                (try simp only [putQ]); refine stY fo42_5 o42_5_34 34359738367 ?_; try simp only [putQ]; refine stY fo42_5 o42_5_35 68719476735 ?_; try simp only [putQ]; refine stY fo42_5 o42_5_36 137438953471 ?_; try simp only [putQ]; refine stN fo42_5 o42_5_37 274877906943 ?_; try simp only [putQ]; refine stN fo42_5 o42_5_38 549755813887 ?_; try simp only [putQ]; refine stN fo42_5 o42_5_39 1099511627775 ?_; try simp only [putQ]; refine stN fo42_5 o42_5_40 2199023255551 ?_; try simp only [putQ]; refine stY fo42_5 o42_5_41 4398046511103 ?_; try simp only [putQ]; refine stY fo42_5 o42_5_42 8796093022207 ?_; try simp only [putQ]; refine stN fo42_5 o42_5_43 17592186044415 ?_; try simp only [putQ]; refine stN fo42_5 o42_5_44 35184372088831 ?_; try simp only [putQ]; refine stN fo42_5 o42_5_45 70368744177663 ?_; try simp only [putQ]; refine stN fo42_5 o42_5_46 140737488355327 ?_; try simp only [putQ]; refine stN fo42_5 o42_5_47 281474976710655 ?_; try simp only [putQ]; refine stY fo42_5 o42_5_48 562949953421311 ?_; try simp only [putQ]
                refine wpAnyH_done (by kernel_rfl) ?_ _
                go_wp2
                go_ret
                exact ⟨ret_bool (hno.out (.inr ⟨by omega, by rw [Nat.add_sub_cancel, hn0.out]; omega⟩)).symm, btrans b0 hHeld.2.2.2.2.2.2.2.2.2.2⟩
              · skip
                cases z4 : cok x y h e
                · have y4 : Hid (cok x y h e = false) := z4
                  clear z4
                  refine wp_region_m (S := (fun w' => w'.cell? ⟨w.heap.size, 0, none⟩ = some (.int .i64 me) ∧ w'.cell? ⟨w.heap.size, 19, none⟩ = some (.slice (some ⟨b, off, none⟩) pll plc) ∧ w'.cell? ⟨K2, 0, none⟩ = some (.int .i64 n) ∧ w'.cell? ⟨K2, 1, none⟩ = some (.int .i64 x) ∧ w'.cell? ⟨K2, 2, none⟩ = some (.int .i64 y) ∧ w'.cell? ⟨K2, 3, none⟩ = some (.int .i64 h) ∧ w'.cell? ⟨K2, 4, none⟩ = some (.int .i64 e) ∧ w'.cell? ⟨K2, 5, none⟩ = some (.slice ba bl bc) ∧ ISl w' ba bl bf ∧ w'.cell? ⟨b, off + m * 6, none⟩ = some (.int .i64 n0) ∧ Below u.heap.size u w')) o42_5 49 fo42_5 ?_ (fun hHeld => ?_)
                  · (try dsimp only); exact ⟨keep_drew g0, keep_drew g19, keep_drew q10, keep_drew q11, keep_drew q12, keep_drew q13, keep_drew q14, keep_drew q15, q3.below (Below.refl _ _).drew, keep_drew p0, b2.drew⟩
                  refine stY fo42_5 o42_5_0 1 ?_; try simp only [putQ]; refine stY fo42_5 o42_5_1 3 ?_; try simp only [putQ]
                  refine stC fo42_5 o42_5_2 7 (fun K hK => ?_)
                  go_simp
                  refine (lin_lit n 0 7 true y1.out _).mono ?_; rintro r w2 ⟨rfl, hw⟩; obtain rfl := hw.symm; clear hw
                  go_wp2_with fail
                  refine hK.out _ _ ?_ (fun hHeld => ?_)
                  · (try dsimp only); exact hHeld
                  clear hK K
                  (try simp only [putQ]); refine stY fo42_5 o42_5_3 15 ?_; try simp only [putQ]; refine stY fo42_5 o42_5_4 31 ?_; try simp only [putQ]; refine stY fo42_5 o42_5_5 63 ?_; try simp only [putQ]; refine stY fo42_5 o42_5_6 127 ?_; try simp only [putQ]; refine stY fo42_5 o42_5_8 383 ?_; try simp only [putQ]; refine stY fo42_5 o42_5_9 895 ?_; try simp only [putQ]
                  refine stC fo42_5 o42_5_7 1023 (fun K hK => ?_)
                  go_simp
                  refine (lsite_any n _).mono ?_; rintro r w3 ⟨rfl, hw⟩; obtain rfl := hw.symm; clear hw; rw [hsn.out]
                  go_wp2_with fail
                  refine hK.out _ _ ?_ (fun hHeld => ?_)
                  · (try dsimp only); exact hHeld
                  clear hK K
                  (try simp only [putQ])
                  refine stC fo42_5 o42_5_10 2047 (fun K hK => ?_)
                  go_simp
                  refine (lsite_any me _).mono ?_; rintro r w3 ⟨rfl, hw⟩; obtain rfl := hw.symm; clear hw; rw [hsm.out]
                  go_wp2_with fail
                  refine hK.out _ _ ?_ (fun hHeld => ?_)
                  · (try dsimp only); exact hHeld
                  clear hK K
                  (try simp only [putQ])
                  refine stV (.bool false) fo42_5 o42_5_11 4095 ?_ ?_
                  · (intro w hSw; (try dsimp only at hSw); go_simp; all_goals (first | with_reducible rfl |  assumption | (simp; done) | (simp; omega)))
                  (try simp only [putQ]); refine stY fo42_5 o42_5_12 8191 ?_; try simp only [putQ]; refine stY fo42_5 o42_5_13 16383 ?_; try simp only [putQ]; refine stY fo42_5 o42_5_14 32767 ?_; try simp only [putQ]; refine stY fo42_5 o42_5_15 65535 ?_; try simp only [putQ]; refine stY fo42_5 o42_5_16 131071 ?_; try simp only [putQ]; refine stY fo42_5 o42_5_17 262143 ?_; try simp only [putQ]
                  refine stV (.bool false) fo42_5 o42_5_18 524287 ?_ ?_
                  · (intro w hSw; (try dsimp only at hSw); go_simp; all_goals (first | with_reducible rfl |  assumption | (simp; done) | (simp; omega)))
                  (try simp only [putQ]); refine stY fo42_5 o42_5_19 1048575 ?_; try simp only [putQ]; refine stY fo42_5 o42_5_20 2097151 ?_; try simp only [putQ]; refine stY fo42_5 o42_5_21 4194303 ?_; try simp only [putQ]
                  refine stV (.bool true) fo42_5 o42_5_22 8388607 ?_ ?_
                  · (intro w hSw; (try dsimp only at hSw); go_simp; all_goals (first | with_reducible rfl |  assumption | (simp; done) | (simp; omega)))
                  (try simp only [putQ]); refine stY fo42_5 o42_5_23 16777215 ?_; try simp only [putQ]; refine stY fo42_5 o42_5_24 33554431 ?_; try simp only [putQ]; refine stY fo42_5 o42_5_25 67108863 ?_; try simp only [putQ]; refine stY fo42_5 o42_5_26 134217727 ?_; try simp only [putQ]; refine stY fo42_5 o42_5_27 268435455 ?_; try simp only [putQ]; refine stY fo42_5 o42_5_28 536870911 ?_; try simp only [putQ]; refine stY fo42_5 o42_5_29 1073741823 ?_; try simp only [putQ]; refine stY fo42_5 o42_5_30 2147483647 ?_; try simp only [putQ]; refine stY fo42_5 o42_5_31 4294967295 ?_; try simp only [putQ]; refine stY fo42_5 o42_5_32 8589934591 ?_; try simp only [putQ]
                  refine stV (.bool false) fo42_5 o42_5_33 17179869183 ?_ ?_
                  · (intro w hSw; (try dsimp only at hSw); go_simp; all_goals (first | with_reducible rfl |  assumption | (simp; done) | (simp; omega)))
                  (try simp only [putQ]); refine stY fo42_5 o42_5_34 34359738367 ?_; try simp only [putQ]; refine stY fo42_5 o42_5_35 68719476735 ?_; try simp only [putQ]; refine stY fo42_5 o42_5_36 137438953471 ?_; try simp only [putQ]; refine stY fo42_5 o42_5_37 274877906943 ?_; try simp only [putQ]; refine stY fo42_5 o42_5_38 549755813887 ?_; try simp only [putQ]
                  refine stC fo42_5 o42_5_39 1099511627775 (fun K hK => ?_)
                  go_simp
                  refine (scoord_lit x y h e false y4.out _).mono ?_; rintro r w4 ⟨rfl, k4⟩
                  go_wp2_with fail
                  refine hK.out _ _ ?_ (fun hHeld => ?_)
                  · (try dsimp only); exact ⟨keep_below k4 hHeld.1, keep_below k4 hHeld.2.1, keep_below k4 hHeld.2.2.1, keep_below k4 hHeld.2.2.2.1, keep_below k4 hHeld.2.2.2.2.1, keep_below k4 hHeld.2.2.2.2.2.1, keep_below k4 hHeld.2.2.2.2.2.2.1, keep_below k4 hHeld.2.2.2.2.2.2.2.1, hHeld.2.2.2.2.2.2.2.2.1.below k4, keep_below k4 hHeld.2.2.2.2.2.2.2.2.2.1, btrans hHeld.2.2.2.2.2.2.2.2.2.2 k4⟩
                  clear hK K
                  (try simp only [putQ]); refine stY fo42_5 o42_5_40 2199023255551 ?_; try simp only [putQ]; refine stY fo42_5 o42_5_41 4398046511103 ?_; try simp only [putQ]; refine stY fo42_5 o42_5_42 8796093022207 ?_; try simp only [putQ]; refine stN fo42_5 o42_5_43 17592186044415 ?_; try simp only [putQ]; refine stN fo42_5 o42_5_44 35184372088831 ?_; try simp only [putQ]; refine stN fo42_5 o42_5_45 70368744177663 ?_; try simp only [putQ]; refine stN fo42_5 o42_5_46 140737488355327 ?_; try simp only [putQ]; refine stN fo42_5 o42_5_47 281474976710655 ?_; try simp only [putQ]; refine stY fo42_5 o42_5_48 562949953421311 ?_; try simp only [putQ]
                  refine wpAnyH_done (by kernel_rfl) ?_ _
                  go_wp2
                  go_ret
                  exact ⟨ret_bool (hno.out (.inl (by rw [hso.out, y4.out]; simp))).symm, btrans b0 hHeld.2.2.2.2.2.2.2.2.2.2⟩
                · have y4 : Hid (cok x y h e = true) := z4
                  clear z4
                  cases z5 : inb bl 1 3
                  · have y5 : Hid (inb bl 1 3 = false) := z5
                    clear z5
                    refine wp_region_m (S := (fun w' => w'.cell? ⟨w.heap.size, 0, none⟩ = some (.int .i64 me) ∧ w'.cell? ⟨w.heap.size, 19, none⟩ = some (.slice (some ⟨b, off, none⟩) pll plc) ∧ w'.cell? ⟨K2, 0, none⟩ = some (.int .i64 n) ∧ w'.cell? ⟨K2, 1, none⟩ = some (.int .i64 x) ∧ w'.cell? ⟨K2, 2, none⟩ = some (.int .i64 y) ∧ w'.cell? ⟨K2, 3, none⟩ = some (.int .i64 h) ∧ w'.cell? ⟨K2, 4, none⟩ = some (.int .i64 e) ∧ w'.cell? ⟨K2, 5, none⟩ = some (.slice ba bl bc) ∧ ISl w' ba bl bf ∧ w'.cell? ⟨b, off + m * 6, none⟩ = some (.int .i64 n0) ∧ Below u.heap.size u w')) o42_5 49 fo42_5 ?_ (fun hHeld => ?_)
                    · (try dsimp only); exact ⟨keep_drew g0, keep_drew g19, keep_drew q10, keep_drew q11, keep_drew q12, keep_drew q13, keep_drew q14, keep_drew q15, q3.below (Below.refl _ _).drew, keep_drew p0, b2.drew⟩
                    refine stY fo42_5 o42_5_0 1 ?_; try simp only [putQ]; refine stY fo42_5 o42_5_1 3 ?_; try simp only [putQ]
                    refine stC fo42_5 o42_5_2 7 (fun K hK => ?_)
                    go_simp
                    refine (lin_lit n 0 7 true y1.out _).mono ?_; rintro r w2 ⟨rfl, hw⟩; obtain rfl := hw.symm; clear hw
                    go_wp2_with fail
                    refine hK.out _ _ ?_ (fun hHeld => ?_)
                    · (try dsimp only); exact hHeld
                    clear hK K
                    (try simp only [putQ]); refine stY fo42_5 o42_5_3 15 ?_; try simp only [putQ]; refine stY fo42_5 o42_5_4 31 ?_; try simp only [putQ]; refine stY fo42_5 o42_5_5 63 ?_; try simp only [putQ]; refine stY fo42_5 o42_5_6 127 ?_; try simp only [putQ]; refine stY fo42_5 o42_5_8 383 ?_; try simp only [putQ]; refine stY fo42_5 o42_5_9 895 ?_; try simp only [putQ]
                    refine stC fo42_5 o42_5_7 1023 (fun K hK => ?_)
                    go_simp
                    refine (lsite_any n _).mono ?_; rintro r w3 ⟨rfl, hw⟩; obtain rfl := hw.symm; clear hw; rw [hsn.out]
                    go_wp2_with fail
                    refine hK.out _ _ ?_ (fun hHeld => ?_)
                    · (try dsimp only); exact hHeld
                    clear hK K
                    (try simp only [putQ])
                    refine stC fo42_5 o42_5_10 2047 (fun K hK => ?_)
                    go_simp
                    refine (lsite_any me _).mono ?_; rintro r w3 ⟨rfl, hw⟩; obtain rfl := hw.symm; clear hw; rw [hsm.out]
                    go_wp2_with fail
                    refine hK.out _ _ ?_ (fun hHeld => ?_)
                    · (try dsimp only); exact hHeld
                    clear hK K
                    (try simp only [putQ])
                    refine stV (.bool false) fo42_5 o42_5_11 4095 ?_ ?_
                    · (intro w hSw; (try dsimp only at hSw); go_simp; all_goals (first | with_reducible rfl |  assumption | (simp; done) | (simp; omega)))
                    (try simp only [putQ]); refine stY fo42_5 o42_5_12 8191 ?_; try simp only [putQ]; refine stY fo42_5 o42_5_13 16383 ?_; try simp only [putQ]; refine stY fo42_5 o42_5_14 32767 ?_; try simp only [putQ]; refine stY fo42_5 o42_5_15 65535 ?_; try simp only [putQ]; refine stY fo42_5 o42_5_16 131071 ?_; try simp only [putQ]; refine stY fo42_5 o42_5_17 262143 ?_; try simp only [putQ]
                    refine stV (.bool false) fo42_5 o42_5_18 524287 ?_ ?_
                    · (intro w hSw; (try dsimp only at hSw); go_simp; all_goals (first | with_reducible rfl |  assumption | (simp; done) | (simp; omega)))
                    (try simp only [putQ]); refine stY fo42_5 o42_5_19 1048575 ?_; try simp only [putQ]; refine stY fo42_5 o42_5_20 2097151 ?_; try simp only [putQ]; refine stY fo42_5 o42_5_21 4194303 ?_; try simp only [putQ]
                    refine stV (.bool true) fo42_5 o42_5_22 8388607 ?_ ?_
                    · (intro w hSw; (try dsimp only at hSw); go_simp; all_goals (first | with_reducible rfl |  assumption | (simp; done) | (simp; omega)))
                    (try simp only [putQ]); refine stY fo42_5 o42_5_23 16777215 ?_; try simp only [putQ]; refine stY fo42_5 o42_5_24 33554431 ?_; try simp only [putQ]; refine stY fo42_5 o42_5_25 67108863 ?_; try simp only [putQ]; refine stY fo42_5 o42_5_26 134217727 ?_; try simp only [putQ]; refine stY fo42_5 o42_5_27 268435455 ?_; try simp only [putQ]; refine stY fo42_5 o42_5_28 536870911 ?_; try simp only [putQ]; refine stY fo42_5 o42_5_29 1073741823 ?_; try simp only [putQ]; refine stY fo42_5 o42_5_30 2147483647 ?_; try simp only [putQ]; refine stY fo42_5 o42_5_31 4294967295 ?_; try simp only [putQ]; refine stY fo42_5 o42_5_32 8589934591 ?_; try simp only [putQ]
                    refine stV (.bool false) fo42_5 o42_5_33 17179869183 ?_ ?_
                    · (intro w hSw; (try dsimp only at hSw); go_simp; all_goals (first | with_reducible rfl |  assumption | (simp; done) | (simp; omega)))
                    (try simp only [putQ]); refine stY fo42_5 o42_5_34 34359738367 ?_; try simp only [putQ]; refine stY fo42_5 o42_5_35 68719476735 ?_; try simp only [putQ]; refine stY fo42_5 o42_5_36 137438953471 ?_; try simp only [putQ]; refine stY fo42_5 o42_5_37 274877906943 ?_; try simp only [putQ]; refine stY fo42_5 o42_5_38 549755813887 ?_; try simp only [putQ]
                    refine stC fo42_5 o42_5_39 1099511627775 (fun K hK => ?_)
                    go_simp
                    refine (scoord_lit x y h e true y4.out _).mono ?_; rintro r w4 ⟨rfl, k4⟩
                    go_wp2_with fail
                    refine hK.out _ _ ?_ (fun hHeld => ?_)
                    · (try dsimp only); exact ⟨keep_below k4 hHeld.1, keep_below k4 hHeld.2.1, keep_below k4 hHeld.2.2.1, keep_below k4 hHeld.2.2.2.1, keep_below k4 hHeld.2.2.2.2.1, keep_below k4 hHeld.2.2.2.2.2.1, keep_below k4 hHeld.2.2.2.2.2.2.1, keep_below k4 hHeld.2.2.2.2.2.2.2.1, hHeld.2.2.2.2.2.2.2.2.1.below k4, keep_below k4 hHeld.2.2.2.2.2.2.2.2.2.1, btrans hHeld.2.2.2.2.2.2.2.2.2.2 k4⟩
                    clear hK K
                    (try simp only [putQ]); refine stY fo42_5 o42_5_40 2199023255551 ?_; try simp only [putQ]; refine stY fo42_5 o42_5_41 4398046511103 ?_; try simp only [putQ]; refine stY fo42_5 o42_5_42 8796093022207 ?_; try simp only [putQ]; refine stY fo42_5 o42_5_43 17592186044415 ?_; try simp only [putQ]; refine stY fo42_5 o42_5_44 35184372088831 ?_; try simp only [putQ]; refine stY fo42_5 o42_5_45 70368744177663 ?_; try simp only [putQ]
                    refine stC fo42_5 o42_5_46 140737488355327 (fun K hK => ?_)
                    go_simp
                    refine (lin_lit bl 1 3 false y5.out _).mono ?_; rintro r w2 ⟨rfl, hw⟩; obtain rfl := hw.symm; clear hw
                    go_wp2_with fail
                    refine hK.out _ _ ?_ (fun hHeld => ?_)
                    · (try dsimp only); exact hHeld
                    clear hK K
                    (try simp only [putQ]); refine stY fo42_5 o42_5_47 281474976710655 ?_; try simp only [putQ]; refine stY fo42_5 o42_5_48 562949953421311 ?_; try simp only [putQ]
                    refine wpAnyH_done (by kernel_rfl) ?_ _
                    go_wp2
                    go_ret
                    exact ⟨ret_bool (hno.out (.inl (by rw [hso.out, y5.out]; simp))).symm, btrans b0 hHeld.2.2.2.2.2.2.2.2.2.2⟩
                  · have y5 : Hid (inb bl 1 3 = true) := z5
                    clear z5
                    refine wp_region_m (S := (fun w' => w'.cell? ⟨w.heap.size, 0, none⟩ = some (.int .i64 me) ∧ w'.cell? ⟨w.heap.size, 19, none⟩ = some (.slice (some ⟨b, off, none⟩) pll plc) ∧ w'.cell? ⟨K2, 0, none⟩ = some (.int .i64 n) ∧ w'.cell? ⟨K2, 1, none⟩ = some (.int .i64 x) ∧ w'.cell? ⟨K2, 2, none⟩ = some (.int .i64 y) ∧ w'.cell? ⟨K2, 3, none⟩ = some (.int .i64 h) ∧ w'.cell? ⟨K2, 4, none⟩ = some (.int .i64 e) ∧ w'.cell? ⟨K2, 5, none⟩ = some (.slice ba bl bc) ∧ ISl w' ba bl bf ∧ w'.cell? ⟨b, off + m * 6, none⟩ = some (.int .i64 n0) ∧ Below u.heap.size u w')) o42_5 49 fo42_5 ?_ (fun hHeld => ?_)
                    · (try dsimp only); exact ⟨keep_drew g0, keep_drew g19, keep_drew q10, keep_drew q11, keep_drew q12, keep_drew q13, keep_drew q14, keep_drew q15, q3.below (Below.refl _ _).drew, keep_drew p0, b2.drew⟩
                    refine stY fo42_5 o42_5_0 1 ?_; try simp only [putQ]; refine stY fo42_5 o42_5_1 3 ?_; try simp only [putQ]
                    refine stC fo42_5 o42_5_2 7 (fun K hK => ?_)
                    go_simp
                    refine (lin_lit n 0 7 true y1.out _).mono ?_; rintro r w2 ⟨rfl, hw⟩; obtain rfl := hw.symm; clear hw
                    go_wp2_with fail
                    refine hK.out _ _ ?_ (fun hHeld => ?_)
                    · (try dsimp only); exact hHeld
                    clear hK K
                    (try simp only [putQ]); refine stY fo42_5 o42_5_3 15 ?_; try simp only [putQ]; refine stY fo42_5 o42_5_4 31 ?_; try simp only [putQ]; refine stY fo42_5 o42_5_5 63 ?_; try simp only [putQ]; refine stY fo42_5 o42_5_6 127 ?_; try simp only [putQ]; refine stY fo42_5 o42_5_8 383 ?_; try simp only [putQ]; refine stY fo42_5 o42_5_9 895 ?_; try simp only [putQ]
                    refine stC fo42_5 o42_5_7 1023 (fun K hK => ?_)
                    go_simp
                    refine (lsite_any n _).mono ?_; rintro r w3 ⟨rfl, hw⟩; obtain rfl := hw.symm; clear hw; rw [hsn.out]
                    go_wp2_with fail
                    refine hK.out _ _ ?_ (fun hHeld => ?_)
                    · (try dsimp only); exact hHeld
                    clear hK K
                    (try simp only [putQ])
                    refine stC fo42_5 o42_5_10 2047 (fun K hK => ?_)
                    go_simp
                    refine (lsite_any me _).mono ?_; rintro r w3 ⟨rfl, hw⟩; obtain rfl := hw.symm; clear hw; rw [hsm.out]
                    go_wp2_with fail
                    refine hK.out _ _ ?_ (fun hHeld => ?_)
                    · (try dsimp only); exact hHeld
                    clear hK K
                    (try simp only [putQ])
                    refine stV (.bool false) fo42_5 o42_5_11 4095 ?_ ?_
                    · (intro w hSw; (try dsimp only at hSw); go_simp; all_goals (first | with_reducible rfl |  assumption | (simp; done) | (simp; omega)))
                    (try simp only [putQ]); refine stY fo42_5 o42_5_12 8191 ?_; try simp only [putQ]; refine stY fo42_5 o42_5_13 16383 ?_; try simp only [putQ]; refine stY fo42_5 o42_5_14 32767 ?_; try simp only [putQ]; refine stY fo42_5 o42_5_15 65535 ?_; try simp only [putQ]; refine stY fo42_5 o42_5_16 131071 ?_; try simp only [putQ]; refine stY fo42_5 o42_5_17 262143 ?_; try simp only [putQ]
                    refine stV (.bool false) fo42_5 o42_5_18 524287 ?_ ?_
                    · (intro w hSw; (try dsimp only at hSw); go_simp; all_goals (first | with_reducible rfl |  assumption | (simp; done) | (simp; omega)))
                    (try simp only [putQ]); refine stY fo42_5 o42_5_19 1048575 ?_; try simp only [putQ]; refine stY fo42_5 o42_5_20 2097151 ?_; try simp only [putQ]; refine stY fo42_5 o42_5_21 4194303 ?_; try simp only [putQ]
                    refine stV (.bool true) fo42_5 o42_5_22 8388607 ?_ ?_
                    · (intro w hSw; (try dsimp only at hSw); go_simp; all_goals (first | with_reducible rfl |  assumption | (simp; done) | (simp; omega)))
                    (try simp only [putQ]); refine stY fo42_5 o42_5_23 16777215 ?_; try simp only [putQ]; refine stY fo42_5 o42_5_24 33554431 ?_; try simp only [putQ]; refine stY fo42_5 o42_5_25 67108863 ?_; try simp only [putQ]; refine stY fo42_5 o42_5_26 134217727 ?_; try simp only [putQ]; refine stY fo42_5 o42_5_27 268435455 ?_; try simp only [putQ]; refine stY fo42_5 o42_5_28 536870911 ?_; try simp only [putQ]; refine stY fo42_5 o42_5_29 1073741823 ?_; try simp only [putQ]; refine stY fo42_5 o42_5_30 2147483647 ?_; try simp only [putQ]; refine stY fo42_5 o42_5_31 4294967295 ?_; try simp only [putQ]; refine stY fo42_5 o42_5_32 8589934591 ?_; try simp only [putQ]
                    refine stV (.bool false) fo42_5 o42_5_33 17179869183 ?_ ?_
                    · (intro w hSw; (try dsimp only at hSw); go_simp; all_goals (first | with_reducible rfl |  assumption | (simp; done) | (simp; omega)))
                    (try simp only [putQ]); refine stY fo42_5 o42_5_34 34359738367 ?_; try simp only [putQ]; refine stY fo42_5 o42_5_35 68719476735 ?_; try simp only [putQ]; refine stY fo42_5 o42_5_36 137438953471 ?_; try simp only [putQ]; refine stY fo42_5 o42_5_37 274877906943 ?_; try simp only [putQ]; refine stY fo42_5 o42_5_38 549755813887 ?_; try simp only [putQ]
                    refine stC fo42_5 o42_5_39 1099511627775 (fun K hK => ?_)
                    go_simp
                    refine (scoord_lit x y h e true y4.out _).mono ?_; rintro r w4 ⟨rfl, k4⟩
                    go_wp2_with fail
                    refine hK.out _ _ ?_ (fun hHeld => ?_)
                    · (try dsimp only); exact ⟨keep_below k4 hHeld.1, keep_below k4 hHeld.2.1, keep_below k4 hHeld.2.2.1, keep_below k4 hHeld.2.2.2.1, keep_below k4 hHeld.2.2.2.2.1, keep_below k4 hHeld.2.2.2.2.2.1, keep_below k4 hHeld.2.2.2.2.2.2.1, keep_below k4 hHeld.2.2.2.2.2.2.2.1, hHeld.2.2.2.2.2.2.2.2.1.below k4, keep_below k4 hHeld.2.2.2.2.2.2.2.2.2.1, btrans hHeld.2.2.2.2.2.2.2.2.2.2 k4⟩
                    clear hK K
                    (try simp only [putQ]); refine stY fo42_5 o42_5_40 2199023255551 ?_; try simp only [putQ]; refine stY fo42_5 o42_5_41 4398046511103 ?_; try simp only [putQ]; refine stY fo42_5 o42_5_42 8796093022207 ?_; try simp only [putQ]; refine stY fo42_5 o42_5_43 17592186044415 ?_; try simp only [putQ]; refine stY fo42_5 o42_5_44 35184372088831 ?_; try simp only [putQ]; refine stY fo42_5 o42_5_45 70368744177663 ?_; try simp only [putQ]
                    refine stC fo42_5 o42_5_46 140737488355327 (fun K hK => ?_)
                    go_simp
                    refine (lin_lit bl 1 3 true y5.out _).mono ?_; rintro r w2 ⟨rfl, hw⟩; obtain rfl := hw.symm; clear hw
                    go_wp2_with fail
                    refine hK.out _ _ ?_ (fun hHeld => ?_)
                    · (try dsimp only); exact hHeld
                    clear hK K
                    (try simp only [putQ]); refine stY fo42_5 o42_5_47 281474976710655 ?_; try simp only [putQ]; refine stY fo42_5 o42_5_48 562949953421311 ?_; try simp only [putQ]
                    refine wpAnyH_done (by kernel_rfl) ?_ _
                    have hso2 : Hid (plcB me n x y h e bl bf = trA bl bf) := by
                      rw [Hid, hso.out, y4.out, y5.out]; simp [mateB, ofB, y1.out, hsn.out, hsm.out, e2]
                    have hB5 := hHeld.2.2.2.2.2.2.2.1
                    have hI := hHeld.2.2.2.2.2.2.2.2.1
                    have hBe := hHeld.2.2.2.2.2.2.2.2.2.2
                    clear hHeld hso
                    go_wp2_with fail
                    go_loopw [5] (fun i wt => ∃ t : Nat, t ≤ bl ∧ i = .int .i64 t ∧ Below w4.heap.size w4 wt ∧ (∀ j, j < t → inb (bf j) 1 60000 = true)) (fun i _ => bl - (intOf i).toNat)
                    case atStart => exact ⟨0, by omega, rfl, Below.refl _ _, fun j h1 => by omega⟩
                    case round =>
                      obtain ⟨t, ht, rfl, hbt, hallt⟩ := hrel
                      have hc5 := keep_below hbt hB5
                      by_cases hlt2 : t < bl
                      · obtain ⟨bb, ob, rfl, hbb, hff⟩ := hI (by omega)
                        have ct := (hff.below hbt hbb) t hlt2
                        have j0 : (0 : Int) ≤ (t : Int) := by omega
                        have j1 : (t : Int) < (bl : Int) := by omega
                        have hnt : Hid (inb (bf t) 1 60000 = false → trA bl bf = false) := tr_no hlt2
                        have hyt : Hid (inb (bf t) 1 60000 = true → ∀ j, j < t + 1 → inb (bf j) 1 60000 = true) := fun e j hj => by
                          by_cases ej : j = t
                          · subst ej; exact e
                          · exact hallt j (by omega)
                        clear hallt
                        generalize bf t = z at *
                        go_wp2_with fail
                        cases z6 : inb z 1 60000
                        · have y6 : Hid (inb z 1 60000 = false) := z6
                          clear z6
                          refine (lin_lit z 1 60000 false y6.out _).mono ?_
                          rintro r w3 ⟨rfl, hw⟩
                          obtain rfl := hw.symm
                          clear hw
                          go_wp2
                          go_ret
                          exact ⟨ret_bool (hno.out (.inl (by rw [hso2.out]; exact hnt.out y6.out))).symm, btrans b0 (btrans hBe hbt)⟩
                        · have y6 : Hid (inb z 1 60000 = true) := z6
                          clear z6
                          refine (lin_lit z 1 60000 true y6.out _).mono ?_
                          rintro r w3 ⟨rfl, hw⟩
                          obtain rfl := hw.symm
                          clear hw
                          go_wp2
                          go_roundw
                          case rel => exact ⟨t + 1, by omega, by go_num, hbt, hyt.out y6.out⟩
                          case measure => simp [intOf]; omega
                      · have hy : Hid (trA bl bf = true) := by
                          rw [Hid]; unfold trA; exact decide_eq_true fun j hj => hallt j (by omega)
                        clear hallt
                        go_wp2
                        go_roundw
                        case rel => exact ⟨(m + 1) + 1, by omega, by go_num, btrans hBe hbt, hyes.out (by rw [hso2.out]; exact hy.out), hyes2.out (fun _ => by rw [Nat.add_sub_cancel, hn0.out]; omega)⟩
                        case measure => simp [intOf]; omega
          · have e0' : (sn != sm) = true := by simpa using e0
            refine wp_region_m (S := (fun w' => w'.cell? ⟨w.heap.size, 0, none⟩ = some (.int .i64 me) ∧ w'.cell? ⟨w.heap.size, 19, none⟩ = some (.slice (some ⟨b, off, none⟩) pll plc) ∧ w'.cell? ⟨K2, 0, none⟩ = some (.int .i64 n) ∧ w'.cell? ⟨K2, 1, none⟩ = some (.int .i64 x) ∧ w'.cell? ⟨K2, 2, none⟩ = some (.int .i64 y) ∧ w'.cell? ⟨K2, 3, none⟩ = some (.int .i64 h) ∧ w'.cell? ⟨K2, 4, none⟩ = some (.int .i64 e) ∧ w'.cell? ⟨K2, 5, none⟩ = some (.slice ba bl bc) ∧ ISl w' ba bl bf ∧ w'.cell? ⟨b, off + m * 6, none⟩ = some (.int .i64 n0) ∧ Below u.heap.size u w')) o42_5 49 fo42_5 ?_ (fun hHeld => ?_)
            · (try dsimp only); exact ⟨keep_drew g0, keep_drew g19, keep_drew q10, keep_drew q11, keep_drew q12, keep_drew q13, keep_drew q14, keep_drew q15, q3.below (Below.refl _ _).drew, keep_drew p0, b2.drew⟩
            refine stY fo42_5 o42_5_0 1 ?_; try simp only [putQ]; refine stY fo42_5 o42_5_1 3 ?_; try simp only [putQ]
            refine stC fo42_5 o42_5_2 7 (fun K hK => ?_)
            go_simp
            refine (lin_lit n 0 7 true y1.out _).mono ?_; rintro r w2 ⟨rfl, hw⟩; obtain rfl := hw.symm; clear hw
            go_wp2_with fail
            refine hK.out _ _ ?_ (fun hHeld => ?_)
            · (try dsimp only); exact hHeld
            clear hK K
            (try simp only [putQ]); refine stY fo42_5 o42_5_3 15 ?_; try simp only [putQ]; refine stY fo42_5 o42_5_4 31 ?_; try simp only [putQ]; refine stY fo42_5 o42_5_5 63 ?_; try simp only [putQ]; refine stY fo42_5 o42_5_6 127 ?_; try simp only [putQ]; refine stY fo42_5 o42_5_8 383 ?_; try simp only [putQ]; refine stY fo42_5 o42_5_9 895 ?_; try simp only [putQ]
            refine stC fo42_5 o42_5_7 1023 (fun K hK => ?_)
            go_simp
            refine (lsite_any n _).mono ?_; rintro r w3 ⟨rfl, hw⟩; obtain rfl := hw.symm; clear hw; rw [hsn.out]
            go_wp2_with fail
            refine hK.out _ _ ?_ (fun hHeld => ?_)
            · (try dsimp only); exact hHeld
            clear hK K
            (try simp only [putQ])
            refine stC fo42_5 o42_5_10 2047 (fun K hK => ?_)
            go_simp
            refine (lsite_any me _).mono ?_; rintro r w3 ⟨rfl, hw⟩; obtain rfl := hw.symm; clear hw; rw [hsm.out]
            go_wp2_with fail
            refine hK.out _ _ ?_ (fun hHeld => ?_)
            · (try dsimp only); exact hHeld
            clear hK K
            (try simp only [putQ])
            refine stV (.bool true) fo42_5 o42_5_11 4095 ?_ ?_
            · (intro w hSw; (try dsimp only at hSw); go_simp; all_goals (first | with_reducible rfl |  assumption | (simp; done) | (simp; omega)))
            (try simp only [putQ]); refine stY fo42_5 o42_5_12 8191 ?_; try simp only [putQ]; refine stY fo42_5 o42_5_13 16383 ?_; try simp only [putQ]; refine stN fo42_5 o42_5_14 32767 ?_; try simp only [putQ]; refine stN fo42_5 o42_5_15 65535 ?_; try simp only [putQ]; refine stN fo42_5 o42_5_16 131071 ?_; try simp only [putQ]; refine stN fo42_5 o42_5_17 262143 ?_; try simp only [putQ]; refine stN fo42_5 o42_5_18 524287 ?_; try simp only [putQ]; refine stY fo42_5 o42_5_19 1048575 ?_; try simp only [putQ]; refine stY fo42_5 o42_5_20 2097151 ?_; try simp only [putQ]; refine stN fo42_5 o42_5_21 4194303 ?_; try simp only [putQ]; refine stN fo42_5 o42_5_22 8388607 ?_; try simp only [putQ]; refine stN fo42_5 o42_5_23 16777215 ?_; try simp only [putQ]; refine stN fo42_5 o42_5_24 33554431 ?_; try simp only [putQ]; refine stN fo42_5 o42_5_25 67108863 ?_; try simp only [putQ]; refine stN fo42_5 o42_5_26 134217727 ?_; try simp only [putQ]; refine stN fo42_5 o42_5_27 268435455 ?_; try simp only [putQ]; refine stN fo42_5 o42_5_28 536870911 ?_; try simp only [putQ]; refine stN fo42_5 o42_5_29 1073741823 ?_; try simp only [putQ]; refine stN fo42_5 o42_5_30 2147483647 ?_; try simp only [putQ]; refine stN fo42_5 o42_5_31 4294967295 ?_; try simp only [putQ]; refine stN fo42_5 o42_5_32 8589934591 ?_; try simp only [putQ]; refine stN fo42_5 o42_5_33 17179869183 ?_; try simp only [putQ]; refine stN fo42_5 o42_5_34 34359738367 ?_; try simp only [putQ]; refine stY fo42_5 o42_5_35 68719476735 ?_; try simp only [putQ]; refine stY fo42_5 o42_5_36 137438953471 ?_; try simp only [putQ]; refine stN fo42_5 o42_5_37 274877906943 ?_; try simp only [putQ]; refine stN fo42_5 o42_5_38 549755813887 ?_; try simp only [putQ]; refine stN fo42_5 o42_5_39 1099511627775 ?_; try simp only [putQ]; refine stN fo42_5 o42_5_40 2199023255551 ?_; try simp only [putQ]; refine stY fo42_5 o42_5_41 4398046511103 ?_; try simp only [putQ]; refine stY fo42_5 o42_5_42 8796093022207 ?_; try simp only [putQ]; refine stN fo42_5 o42_5_43 17592186044415 ?_; try simp only [putQ]; refine stN fo42_5 o42_5_44 35184372088831 ?_; try simp only [putQ]; refine stN fo42_5 o42_5_45 70368744177663 ?_; try simp only [putQ]; refine stN fo42_5 o42_5_46 140737488355327 ?_; try simp only [putQ]; refine stN fo42_5 o42_5_47 281474976710655 ?_; try simp only [putQ]; refine stY fo42_5 o42_5_48 562949953421311 ?_; try simp only [putQ]
            refine wpAnyH_done (by kernel_rfl) ?_ _
            go_wp2
            go_ret
            exact ⟨ret_bool (hno.out (.inl (by rw [hso.out]; simp [mateB, ofB, hsn.out, hsm.out, e0]))).symm, btrans b0 hHeld.2.2.2.2.2.2.2.2.2.2⟩
    · go_wp2
      go_ret
      refine ⟨ret_bool ?_, btrans b0 hb⟩
      unfold plsB Plasc risB plA
      rw [decide_eq_true fun j hj => hall j (by omega), decide_eq_true fun j hj h0 => hasc j (by omega) h0]
      rfl
end Go.Proofs.YtnplhfgdbabmaaaGreat
