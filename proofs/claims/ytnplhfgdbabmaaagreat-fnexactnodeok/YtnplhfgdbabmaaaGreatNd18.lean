/- Nodes, the model's way: who is ok. -/
import Derived.Test.YtnplhfgdbabmaaaGreatNd13
import Derived.Test.YtnplhfgdbabmaaaGreatNd15
import Derived.Test.YtnplhfgdbabmaaaGreatNd16
import Derived.Test.YtnplhfgdbabmaaaGreatNd17
import Derived.Test.YtnplhfgdbabmaaaGreatMsk
namespace Go.Proofs.YtnplhfgdbabmaaaGreat
open Go.ChangeShapes Go.WideShapes Go.ChangeAt Go.RowKit
attribute [local go_sem ↓] Go.wp_at_zero Go.wp_at_succ
def o9_5 : Array Oper := #[{ dst := some 127, op := .fieldAddr 43 (.tmp 1) 8, type := 0, pos := "l21_node.go:118", after := #[], guard := none }, { dst := some 128, op := .load 35 (.tmp 127), type := 35, pos := "l21_node.go:118", after := #[{ on := 0, ground := .data }], guard := none }, { dst := some 129, op := .call { callee := .value (.func 34), args := #[.tmp 128], argTypes := #[35] }, type := 4, pos := "l21_node.go:118", after := #[{ on := 1, ground := .data }], guard := none }, { dst := some 130, op := .move (.tmp 129), type := 4, pos := "l21_node.go:118", after := #[{ on := 2, ground := .data }, { on := 2, ground := .chain }], guard := none }, { dst := some 131, op := .fieldAddr 43 (.tmp 1) 8, type := 0, pos := "l21_node.go:118", after := #[{ on := 3, ground := .guard }], guard := some (3, true) }, { dst := some 132, op := .load 35 (.tmp 131), type := 35, pos := "l21_node.go:118", after := #[{ on := 4, ground := .data }, { on := 3, ground := .guard }], guard := some (3, true) }, { dst := some 133, op := .fieldAddr 43 (.tmp 1) 0, type := 0, pos := "l21_node.go:118", after := #[{ on := 3, ground := .guard }], guard := some (3, true) }, { dst := some 134, op := .load 3 (.tmp 133), type := 3, pos := "l21_node.go:118", after := #[{ on := 6, ground := .data }, { on := 3, ground := .guard }], guard := some (3, true) }, { dst := some 135, op := .call { callee := .value (.func 36), args := #[.tmp 134], argTypes := #[3] }, type := 3, pos := "l21_node.go:118", after := #[{ on := 7, ground := .data }, { on := 3, ground := .chain }, { on := 3, ground := .guard }], guard := some (3, true) }, { dst := some 136, op := .call { callee := .value (.func 35), args := #[.tmp 132, .tmp 135], argTypes := #[35, 3] }, type := 4, pos := "l21_node.go:118", after := #[{ on := 5, ground := .data }, { on := 8, ground := .data }, { on := 8, ground := .chain }, { on := 3, ground := .guard }], guard := some (3, true) }, { dst := some 137, op := .pick (.tmp 130) (.tmp 136) (.const (.bool false)), type := 4, pos := "l21_node.go:118", after := #[{ on := 3, ground := .data }, { on := 9, ground := .data }], guard := none }, { dst := some 138, op := .move (.tmp 137), type := 4, pos := "l21_node.go:118", after := #[{ on := 10, ground := .data }, { on := 9, ground := .chain }], guard := none }, { dst := some 139, op := .load 43 (.tmp 1), type := 43, pos := "l21_node.go:118", after := #[{ on := 11, ground := .guard }], guard := some (11, true) }, { dst := some 140, op := .call { callee := .value (.func 37), args := #[.tmp 139], argTypes := #[43] }, type := 4, pos := "l21_node.go:118", after := #[{ on := 12, ground := .data }, { on := 11, ground := .chain }, { on := 11, ground := .guard }], guard := some (11, true) }, { dst := some 141, op := .pick (.tmp 138) (.tmp 140) (.const (.bool false)), type := 4, pos := "l21_node.go:118", after := #[{ on := 11, ground := .data }, { on := 13, ground := .data }], guard := none }, { dst := some 142, op := .move (.tmp 141), type := 4, pos := "l21_node.go:118", after := #[{ on := 14, ground := .data }, { on := 13, ground := .chain }], guard := none }, { dst := some 143, op := .load 43 (.tmp 1), type := 43, pos := "l21_node.go:118", after := #[{ on := 15, ground := .guard }], guard := some (15, true) }, { dst := some 144, op := .call { callee := .value (.func 38), args := #[.tmp 143], argTypes := #[43] }, type := 4, pos := "l21_node.go:118", after := #[{ on := 16, ground := .data }, { on := 15, ground := .chain }, { on := 15, ground := .guard }], guard := some (15, true) }, { dst := some 145, op := .pick (.tmp 142) (.tmp 144) (.const (.bool false)), type := 4, pos := "l21_node.go:118", after := #[{ on := 15, ground := .data }, { on := 17, ground := .data }], guard := none }, { dst := some 146, op := .move (.tmp 145), type := 4, pos := "l21_node.go:118", after := #[{ on := 18, ground := .data }, { on := 17, ground := .chain }], guard := none }, { dst := some 147, op := .load 43 (.tmp 1), type := 43, pos := "l21_node.go:118", after := #[{ on := 19, ground := .guard }], guard := some (19, true) }, { dst := some 148, op := .call { callee := .value (.func 39), args := #[.tmp 147], argTypes := #[43] }, type := 4, pos := "l21_node.go:118", after := #[{ on := 20, ground := .data }, { on := 19, ground := .chain }, { on := 19, ground := .guard }], guard := some (19, true) }, { dst := some 149, op := .pick (.tmp 146) (.tmp 148) (.const (.bool false)), type := 4, pos := "l21_node.go:118", after := #[{ on := 19, ground := .data }, { on := 21, ground := .data }], guard := none }, { dst := some 150, op := .move (.tmp 149), type := 4, pos := "l21_node.go:118", after := #[{ on := 22, ground := .data }, { on := 21, ground := .chain }], guard := none }, { dst := some 151, op := .load 43 (.tmp 1), type := 43, pos := "l21_node.go:118", after := #[{ on := 23, ground := .guard }], guard := some (23, true) }, { dst := some 152, op := .call { callee := .value (.func 40), args := #[.tmp 151], argTypes := #[43] }, type := 4, pos := "l21_node.go:118", after := #[{ on := 24, ground := .data }, { on := 23, ground := .chain }, { on := 23, ground := .guard }], guard := some (23, true) }, { dst := some 153, op := .pick (.tmp 150) (.tmp 152) (.const (.bool false)), type := 4, pos := "l21_node.go:118", after := #[{ on := 23, ground := .data }, { on := 25, ground := .data }], guard := none }, { dst := some 154, op := .move (.tmp 153), type := 4, pos := "l21_node.go:118", after := #[{ on := 26, ground := .data }, { on := 25, ground := .chain }], guard := none }, { dst := some 155, op := .fieldAddr 43 (.tmp 1) 12, type := 0, pos := "l21_node.go:118", after := #[{ on := 27, ground := .guard }], guard := some (27, true) }, { dst := some 156, op := .load 39 (.tmp 155), type := 39, pos := "l21_node.go:118", after := #[{ on := 28, ground := .data }, { on := 27, ground := .guard }], guard := some (27, true) }, { dst := some 157, op := .call { callee := .value (.func 41), args := #[.tmp 156], argTypes := #[39] }, type := 4, pos := "l21_node.go:118", after := #[{ on := 29, ground := .data }, { on := 27, ground := .chain }, { on := 27, ground := .guard }], guard := some (27, true) }, { dst := some 158, op := .pick (.tmp 154) (.tmp 157) (.const (.bool false)), type := 4, pos := "l21_node.go:118", after := #[{ on := 27, ground := .data }, { on := 30, ground := .data }], guard := none }, { dst := some 159, op := .move (.tmp 158), type := 4, pos := "l21_node.go:118", after := #[{ on := 31, ground := .data }, { on := 30, ground := .chain }], guard := none }, { dst := some 160, op := .load 43 (.tmp 1), type := 43, pos := "l21_node.go:118", after := #[{ on := 32, ground := .guard }], guard := some (32, true) }, { dst := some 161, op := .call { callee := .value (.func 42), args := #[.tmp 160], argTypes := #[43] }, type := 4, pos := "l21_node.go:118", after := #[{ on := 33, ground := .data }, { on := 32, ground := .chain }, { on := 32, ground := .guard }], guard := some (32, true) }, { dst := some 162, op := .pick (.tmp 159) (.tmp 161) (.const (.bool false)), type := 4, pos := "l21_node.go:118", after := #[{ on := 32, ground := .data }, { on := 34, ground := .data }], guard := none }, { dst := some 163, op := .move (.tmp 162), type := 4, pos := "l21_node.go:118", after := #[{ on := 35, ground := .data }, { on := 34, ground := .chain }], guard := none }, { dst := some 164, op := .load 43 (.tmp 1), type := 43, pos := "l21_node.go:118", after := #[{ on := 36, ground := .guard }], guard := some (36, true) }, { dst := some 165, op := .call { callee := .value (.func 43), args := #[.tmp 164], argTypes := #[43] }, type := 4, pos := "l21_node.go:118", after := #[{ on := 37, ground := .data }, { on := 36, ground := .chain }, { on := 36, ground := .guard }], guard := some (36, true) }, { dst := some 166, op := .pick (.tmp 163) (.tmp 165) (.const (.bool false)), type := 4, pos := "l21_node.go:118", after := #[{ on := 36, ground := .data }, { on := 38, ground := .data }], guard := none }, { dst := some 2, op := .assign (.tmp 166), type := 4, pos := "l21_node.go:118", after := #[{ on := 39, ground := .data }, { on := 38, ground := .chain }, { on := 0, ground := .phase }, { on := 1, ground := .phase }, { on := 2, ground := .phase }, { on := 3, ground := .phase }, { on := 4, ground := .phase }, { on := 5, ground := .phase }, { on := 6, ground := .phase }, { on := 7, ground := .phase }, { on := 8, ground := .phase }, { on := 9, ground := .phase }, { on := 10, ground := .phase }, { on := 11, ground := .phase }, { on := 12, ground := .phase }, { on := 13, ground := .phase }, { on := 14, ground := .phase }, { on := 15, ground := .phase }, { on := 16, ground := .phase }, { on := 17, ground := .phase }, { on := 18, ground := .phase }, { on := 19, ground := .phase }, { on := 20, ground := .phase }, { on := 21, ground := .phase }, { on := 22, ground := .phase }, { on := 23, ground := .phase }, { on := 24, ground := .phase }, { on := 25, ground := .phase }, { on := 26, ground := .phase }, { on := 27, ground := .phase }, { on := 28, ground := .phase }, { on := 29, ground := .phase }, { on := 30, ground := .phase }, { on := 31, ground := .phase }, { on := 32, ground := .phase }, { on := 33, ground := .phase }, { on := 34, ground := .phase }, { on := 35, ground := .phase }, { on := 36, ground := .phase }, { on := 37, ground := .phase }, { on := 38, ground := .phase }, { on := 39, ground := .phase }], guard := none }]
theorem fo9_5 : FreeN .any o9_5 41 := ⟨⟨by kernel_rfl⟩, by kernel_rfl⟩
theorem o9_5_0 : o9_5[0]? = some { dst := some 127, op := .fieldAddr 43 (.tmp 1) 8, type := 0, pos := "l21_node.go:118", after := #[], guard := none } := rfl
theorem o9_5_1 : o9_5[1]? = some { dst := some 128, op := .load 35 (.tmp 127), type := 35, pos := "l21_node.go:118", after := #[{ on := 0, ground := .data }], guard := none } := rfl
theorem o9_5_2 : o9_5[2]? = some { dst := some 129, op := .call { callee := .value (.func 34), args := #[.tmp 128], argTypes := #[35] }, type := 4, pos := "l21_node.go:118", after := #[{ on := 1, ground := .data }], guard := none } := rfl
theorem o9_5_3 : o9_5[3]? = some { dst := some 130, op := .move (.tmp 129), type := 4, pos := "l21_node.go:118", after := #[{ on := 2, ground := .data }, { on := 2, ground := .chain }], guard := none } := rfl
theorem o9_5_4 : o9_5[4]? = some { dst := some 131, op := .fieldAddr 43 (.tmp 1) 8, type := 0, pos := "l21_node.go:118", after := #[{ on := 3, ground := .guard }], guard := some (3, true) } := rfl
theorem o9_5_5 : o9_5[5]? = some { dst := some 132, op := .load 35 (.tmp 131), type := 35, pos := "l21_node.go:118", after := #[{ on := 4, ground := .data }, { on := 3, ground := .guard }], guard := some (3, true) } := rfl
theorem o9_5_6 : o9_5[6]? = some { dst := some 133, op := .fieldAddr 43 (.tmp 1) 0, type := 0, pos := "l21_node.go:118", after := #[{ on := 3, ground := .guard }], guard := some (3, true) } := rfl
theorem o9_5_7 : o9_5[7]? = some { dst := some 134, op := .load 3 (.tmp 133), type := 3, pos := "l21_node.go:118", after := #[{ on := 6, ground := .data }, { on := 3, ground := .guard }], guard := some (3, true) } := rfl
theorem o9_5_8 : o9_5[8]? = some { dst := some 135, op := .call { callee := .value (.func 36), args := #[.tmp 134], argTypes := #[3] }, type := 3, pos := "l21_node.go:118", after := #[{ on := 7, ground := .data }, { on := 3, ground := .chain }, { on := 3, ground := .guard }], guard := some (3, true) } := rfl
theorem o9_5_9 : o9_5[9]? = some { dst := some 136, op := .call { callee := .value (.func 35), args := #[.tmp 132, .tmp 135], argTypes := #[35, 3] }, type := 4, pos := "l21_node.go:118", after := #[{ on := 5, ground := .data }, { on := 8, ground := .data }, { on := 8, ground := .chain }, { on := 3, ground := .guard }], guard := some (3, true) } := rfl
theorem o9_5_10 : o9_5[10]? = some { dst := some 137, op := .pick (.tmp 130) (.tmp 136) (.const (.bool false)), type := 4, pos := "l21_node.go:118", after := #[{ on := 3, ground := .data }, { on := 9, ground := .data }], guard := none } := rfl
theorem o9_5_11 : o9_5[11]? = some { dst := some 138, op := .move (.tmp 137), type := 4, pos := "l21_node.go:118", after := #[{ on := 10, ground := .data }, { on := 9, ground := .chain }], guard := none } := rfl
theorem o9_5_12 : o9_5[12]? = some { dst := some 139, op := .load 43 (.tmp 1), type := 43, pos := "l21_node.go:118", after := #[{ on := 11, ground := .guard }], guard := some (11, true) } := rfl
theorem o9_5_13 : o9_5[13]? = some { dst := some 140, op := .call { callee := .value (.func 37), args := #[.tmp 139], argTypes := #[43] }, type := 4, pos := "l21_node.go:118", after := #[{ on := 12, ground := .data }, { on := 11, ground := .chain }, { on := 11, ground := .guard }], guard := some (11, true) } := rfl
theorem o9_5_14 : o9_5[14]? = some { dst := some 141, op := .pick (.tmp 138) (.tmp 140) (.const (.bool false)), type := 4, pos := "l21_node.go:118", after := #[{ on := 11, ground := .data }, { on := 13, ground := .data }], guard := none } := rfl
theorem o9_5_15 : o9_5[15]? = some { dst := some 142, op := .move (.tmp 141), type := 4, pos := "l21_node.go:118", after := #[{ on := 14, ground := .data }, { on := 13, ground := .chain }], guard := none } := rfl
theorem o9_5_16 : o9_5[16]? = some { dst := some 143, op := .load 43 (.tmp 1), type := 43, pos := "l21_node.go:118", after := #[{ on := 15, ground := .guard }], guard := some (15, true) } := rfl
theorem o9_5_17 : o9_5[17]? = some { dst := some 144, op := .call { callee := .value (.func 38), args := #[.tmp 143], argTypes := #[43] }, type := 4, pos := "l21_node.go:118", after := #[{ on := 16, ground := .data }, { on := 15, ground := .chain }, { on := 15, ground := .guard }], guard := some (15, true) } := rfl
theorem o9_5_18 : o9_5[18]? = some { dst := some 145, op := .pick (.tmp 142) (.tmp 144) (.const (.bool false)), type := 4, pos := "l21_node.go:118", after := #[{ on := 15, ground := .data }, { on := 17, ground := .data }], guard := none } := rfl
theorem o9_5_19 : o9_5[19]? = some { dst := some 146, op := .move (.tmp 145), type := 4, pos := "l21_node.go:118", after := #[{ on := 18, ground := .data }, { on := 17, ground := .chain }], guard := none } := rfl
theorem o9_5_20 : o9_5[20]? = some { dst := some 147, op := .load 43 (.tmp 1), type := 43, pos := "l21_node.go:118", after := #[{ on := 19, ground := .guard }], guard := some (19, true) } := rfl
theorem o9_5_21 : o9_5[21]? = some { dst := some 148, op := .call { callee := .value (.func 39), args := #[.tmp 147], argTypes := #[43] }, type := 4, pos := "l21_node.go:118", after := #[{ on := 20, ground := .data }, { on := 19, ground := .chain }, { on := 19, ground := .guard }], guard := some (19, true) } := rfl
theorem o9_5_22 : o9_5[22]? = some { dst := some 149, op := .pick (.tmp 146) (.tmp 148) (.const (.bool false)), type := 4, pos := "l21_node.go:118", after := #[{ on := 19, ground := .data }, { on := 21, ground := .data }], guard := none } := rfl
theorem o9_5_23 : o9_5[23]? = some { dst := some 150, op := .move (.tmp 149), type := 4, pos := "l21_node.go:118", after := #[{ on := 22, ground := .data }, { on := 21, ground := .chain }], guard := none } := rfl
theorem o9_5_24 : o9_5[24]? = some { dst := some 151, op := .load 43 (.tmp 1), type := 43, pos := "l21_node.go:118", after := #[{ on := 23, ground := .guard }], guard := some (23, true) } := rfl
theorem o9_5_25 : o9_5[25]? = some { dst := some 152, op := .call { callee := .value (.func 40), args := #[.tmp 151], argTypes := #[43] }, type := 4, pos := "l21_node.go:118", after := #[{ on := 24, ground := .data }, { on := 23, ground := .chain }, { on := 23, ground := .guard }], guard := some (23, true) } := rfl
theorem o9_5_26 : o9_5[26]? = some { dst := some 153, op := .pick (.tmp 150) (.tmp 152) (.const (.bool false)), type := 4, pos := "l21_node.go:118", after := #[{ on := 23, ground := .data }, { on := 25, ground := .data }], guard := none } := rfl
theorem o9_5_27 : o9_5[27]? = some { dst := some 154, op := .move (.tmp 153), type := 4, pos := "l21_node.go:118", after := #[{ on := 26, ground := .data }, { on := 25, ground := .chain }], guard := none } := rfl
theorem o9_5_28 : o9_5[28]? = some { dst := some 155, op := .fieldAddr 43 (.tmp 1) 12, type := 0, pos := "l21_node.go:118", after := #[{ on := 27, ground := .guard }], guard := some (27, true) } := rfl
theorem o9_5_29 : o9_5[29]? = some { dst := some 156, op := .load 39 (.tmp 155), type := 39, pos := "l21_node.go:118", after := #[{ on := 28, ground := .data }, { on := 27, ground := .guard }], guard := some (27, true) } := rfl
theorem o9_5_30 : o9_5[30]? = some { dst := some 157, op := .call { callee := .value (.func 41), args := #[.tmp 156], argTypes := #[39] }, type := 4, pos := "l21_node.go:118", after := #[{ on := 29, ground := .data }, { on := 27, ground := .chain }, { on := 27, ground := .guard }], guard := some (27, true) } := rfl
theorem o9_5_31 : o9_5[31]? = some { dst := some 158, op := .pick (.tmp 154) (.tmp 157) (.const (.bool false)), type := 4, pos := "l21_node.go:118", after := #[{ on := 27, ground := .data }, { on := 30, ground := .data }], guard := none } := rfl
theorem o9_5_32 : o9_5[32]? = some { dst := some 159, op := .move (.tmp 158), type := 4, pos := "l21_node.go:118", after := #[{ on := 31, ground := .data }, { on := 30, ground := .chain }], guard := none } := rfl
theorem o9_5_33 : o9_5[33]? = some { dst := some 160, op := .load 43 (.tmp 1), type := 43, pos := "l21_node.go:118", after := #[{ on := 32, ground := .guard }], guard := some (32, true) } := rfl
theorem o9_5_34 : o9_5[34]? = some { dst := some 161, op := .call { callee := .value (.func 42), args := #[.tmp 160], argTypes := #[43] }, type := 4, pos := "l21_node.go:118", after := #[{ on := 33, ground := .data }, { on := 32, ground := .chain }, { on := 32, ground := .guard }], guard := some (32, true) } := rfl
theorem o9_5_35 : o9_5[35]? = some { dst := some 162, op := .pick (.tmp 159) (.tmp 161) (.const (.bool false)), type := 4, pos := "l21_node.go:118", after := #[{ on := 32, ground := .data }, { on := 34, ground := .data }], guard := none } := rfl
theorem o9_5_36 : o9_5[36]? = some { dst := some 163, op := .move (.tmp 162), type := 4, pos := "l21_node.go:118", after := #[{ on := 35, ground := .data }, { on := 34, ground := .chain }], guard := none } := rfl
theorem o9_5_37 : o9_5[37]? = some { dst := some 164, op := .load 43 (.tmp 1), type := 43, pos := "l21_node.go:118", after := #[{ on := 36, ground := .guard }], guard := some (36, true) } := rfl
theorem o9_5_38 : o9_5[38]? = some { dst := some 165, op := .call { callee := .value (.func 43), args := #[.tmp 164], argTypes := #[43] }, type := 4, pos := "l21_node.go:118", after := #[{ on := 37, ground := .data }, { on := 36, ground := .chain }, { on := 36, ground := .guard }], guard := some (36, true) } := rfl
theorem o9_5_39 : o9_5[39]? = some { dst := some 166, op := .pick (.tmp 163) (.tmp 165) (.const (.bool false)), type := 4, pos := "l21_node.go:118", after := #[{ on := 36, ground := .data }, { on := 38, ground := .data }], guard := none } := rfl
theorem o9_5_40 : o9_5[40]? = some { dst := some 2, op := .assign (.tmp 166), type := 4, pos := "l21_node.go:118", after := #[{ on := 39, ground := .data }, { on := 38, ground := .chain }, { on := 0, ground := .phase }, { on := 1, ground := .phase }, { on := 2, ground := .phase }, { on := 3, ground := .phase }, { on := 4, ground := .phase }, { on := 5, ground := .phase }, { on := 6, ground := .phase }, { on := 7, ground := .phase }, { on := 8, ground := .phase }, { on := 9, ground := .phase }, { on := 10, ground := .phase }, { on := 11, ground := .phase }, { on := 12, ground := .phase }, { on := 13, ground := .phase }, { on := 14, ground := .phase }, { on := 15, ground := .phase }, { on := 16, ground := .phase }, { on := 17, ground := .phase }, { on := 18, ground := .phase }, { on := 19, ground := .phase }, { on := 20, ground := .phase }, { on := 21, ground := .phase }, { on := 22, ground := .phase }, { on := 23, ground := .phase }, { on := 24, ground := .phase }, { on := 25, ground := .phase }, { on := 26, ground := .phase }, { on := 27, ground := .phase }, { on := 28, ground := .phase }, { on := 29, ground := .phase }, { on := 30, ground := .phase }, { on := 31, ground := .phase }, { on := 32, ground := .phase }, { on := 33, ground := .phase }, { on := 34, ground := .phase }, { on := 35, ground := .phase }, { on := 36, ground := .phase }, { on := 37, ground := .phase }, { on := 38, ground := .phase }, { on := 39, ground := .phase }], guard := none } := rfl
section
set_option linter.unusedVariables false
theorem sself_lit (me : Int) (up gone gate : Bool) (inc now sq turn : Int) (ta : Option Addr) (tl tc : Nat) (ca : Option Addr) (cl cc : Nat) (pn ps pq : Int) (pa : Bool) (da : Option Addr) (dl dc : Nat) (cx cy ch ce : Int) (pla : Option Addr) (pll plc : Nat) (oa : Option Addr) (ol oc : Nat) (F : Nat → Fc) (GI : Nat → It) (GD : Nat → Dt) (GP : Nat → Pl) (GO : Nat → Fg) (b : Bool) (hb : sslfB me gone gate inc tl F = b) (w : World) (h : NdIn w ta tl F ca cl GI da dl GD pla pll GP oa ol GO) :
    Calls Tryz.prog 37 #[.agg #[.int .i64 me, .bool up, .bool gone, .bool gate, .int .i64 inc, .int .i64 now, .int .i64 sq, .int .i64 turn, .slice ta tl tc, .slice ca cl cc, .int .i64 pn, .int .i64 ps, .int .i64 pq, .bool pa, .slice da dl dc, .int .i64 cx, .int .i64 cy, .int .i64 ch, .int .i64 ce, .slice pla pll plc, .slice oa ol oc]] w fun r w' => r = .returned (.bool b) ∧ Below w.heap.size w w' := hb ▸ sself_any me up gone gate inc now sq turn ta tl tc ca cl cc pn ps pq pa da dl dc cx cy ch ce pla pll plc oa ol oc F w h.f h.hf
theorem scast_lit (me : Int) (up gone gate : Bool) (inc now sq turn : Int) (ta : Option Addr) (tl tc : Nat) (ca : Option Addr) (cl cc : Nat) (pn ps pq : Int) (pa : Bool) (da : Option Addr) (dl dc : Nat) (cx cy ch ce : Int) (pla : Option Addr) (pll plc : Nat) (oa : Option Addr) (ol oc : Nat) (F : Nat → Fc) (GI : Nat → It) (GD : Nat → Dt) (GP : Nat → Pl) (GO : Nat → Fg) (b : Bool) (hb : scastB tl F cl GI = b) (w : World) (h : NdIn w ta tl F ca cl GI da dl GD pla pll GP oa ol GO) :
    Calls Tryz.prog 38 #[.agg #[.int .i64 me, .bool up, .bool gone, .bool gate, .int .i64 inc, .int .i64 now, .int .i64 sq, .int .i64 turn, .slice ta tl tc, .slice ca cl cc, .int .i64 pn, .int .i64 ps, .int .i64 pq, .bool pa, .slice da dl dc, .int .i64 cx, .int .i64 cy, .int .i64 ch, .int .i64 ce, .slice pla pll plc, .slice oa ol oc]] w fun r w' => r = .returned (.bool b) ∧ Below w.heap.size w w' := hb ▸ scast_any me up gone gate inc now sq turn ta tl tc ca cl cc pn ps pq pa da dl dc cx cy ch ce pla pll plc oa ol oc F GI w h.f h.hf h.i h.hi
theorem sprobe_lit (me : Int) (up gone gate : Bool) (inc now sq turn : Int) (ta : Option Addr) (tl tc : Nat) (ca : Option Addr) (cl cc : Nat) (pn ps pq : Int) (pa : Bool) (da : Option Addr) (dl dc : Nat) (cx cy ch ce : Int) (pla : Option Addr) (pll plc : Nat) (oa : Option Addr) (ol oc : Nat) (F : Nat → Fc) (GI : Nat → It) (GD : Nat → Dt) (GP : Nat → Pl) (GO : Nat → Fg) (b : Bool) (hb : sprbB me now sq tl F pn ps pq pa = b) (w : World) (h : NdIn w ta tl F ca cl GI da dl GD pla pll GP oa ol GO) :
    Calls Tryz.prog 39 #[.agg #[.int .i64 me, .bool up, .bool gone, .bool gate, .int .i64 inc, .int .i64 now, .int .i64 sq, .int .i64 turn, .slice ta tl tc, .slice ca cl cc, .int .i64 pn, .int .i64 ps, .int .i64 pq, .bool pa, .slice da dl dc, .int .i64 cx, .int .i64 cy, .int .i64 ch, .int .i64 ce, .slice pla pll plc, .slice oa ol oc]] w fun r w' => r = .returned (.bool b) ∧ Below w.heap.size w w' := hb ▸ sprobe_any me up gone gate inc now sq turn ta tl tc ca cl cc pn ps pq pa da dl dc cx cy ch ce pla pll plc oa ol oc F w h.f h.hf
theorem sdbs_lit (me : Int) (up gone gate : Bool) (inc now sq turn : Int) (ta : Option Addr) (tl tc : Nat) (ca : Option Addr) (cl cc : Nat) (pn ps pq : Int) (pa : Bool) (da : Option Addr) (dl dc : Nat) (cx cy ch ce : Int) (pla : Option Addr) (pll plc : Nat) (oa : Option Addr) (ol oc : Nat) (F : Nat → Fc) (GI : Nat → It) (GD : Nat → Dt) (GP : Nat → Pl) (GO : Nat → Fg) (b : Bool) (hb : sdbsB me now tl F dl GD = b) (w : World) (h : NdIn w ta tl F ca cl GI da dl GD pla pll GP oa ol GO) :
    Calls Tryz.prog 40 #[.agg #[.int .i64 me, .bool up, .bool gone, .bool gate, .int .i64 inc, .int .i64 now, .int .i64 sq, .int .i64 turn, .slice ta tl tc, .slice ca cl cc, .int .i64 pn, .int .i64 ps, .int .i64 pq, .bool pa, .slice da dl dc, .int .i64 cx, .int .i64 cy, .int .i64 ch, .int .i64 ce, .slice pla pll plc, .slice oa ol oc]] w fun r w' => r = .returned (.bool b) ∧ Below w.heap.size w w' := hb ▸ sdbs_any me up gone gate inc now sq turn ta tl tc ca cl cc pn ps pq pa da dl dc cx cy ch ce pla pll plc oa ol oc F GD w h.f h.hf h.d h.hd h.db
theorem splcs_lit (me : Int) (up gone gate : Bool) (inc now sq turn : Int) (ta : Option Addr) (tl tc : Nat) (ca : Option Addr) (cl cc : Nat) (pn ps pq : Int) (pa : Bool) (da : Option Addr) (dl dc : Nat) (cx cy ch ce : Int) (pla : Option Addr) (pll plc : Nat) (oa : Option Addr) (ol oc : Nat) (F : Nat → Fc) (GI : Nat → It) (GD : Nat → Dt) (GP : Nat → Pl) (GO : Nat → Fg) (b : Bool) (hb : plsB me pll GP = b) (w : World) (h : NdIn w ta tl F ca cl GI da dl GD pla pll GP oa ol GO) :
    Calls Tryz.prog 42 #[.agg #[.int .i64 me, .bool up, .bool gone, .bool gate, .int .i64 inc, .int .i64 now, .int .i64 sq, .int .i64 turn, .slice ta tl tc, .slice ca cl cc, .int .i64 pn, .int .i64 ps, .int .i64 pq, .bool pa, .slice da dl dc, .int .i64 cx, .int .i64 cy, .int .i64 ch, .int .i64 ce, .slice pla pll plc, .slice oa ol oc]] w fun r w' => r = .returned (.bool b) ∧ Below w.heap.size w w' := hb ▸ splcs_any me up gone gate inc now sq turn ta tl tc ca cl cc pn ps pq pa da dl dc cx cy ch ce pla pll plc oa ol oc GP w h.p h.hp h.pb
theorem soths_lit (me : Int) (up gone gate : Bool) (inc now sq turn : Int) (ta : Option Addr) (tl tc : Nat) (ca : Option Addr) (cl cc : Nat) (pn ps pq : Int) (pa : Bool) (da : Option Addr) (dl dc : Nat) (cx cy ch ce : Int) (pla : Option Addr) (pll plc : Nat) (oa : Option Addr) (ol oc : Nat) (F : Nat → Fc) (GI : Nat → It) (GD : Nat → Dt) (GP : Nat → Pl) (GO : Nat → Fg) (b : Bool) (hb : othsB me ol GO = b) (w : World) (h : NdIn w ta tl F ca cl GI da dl GD pla pll GP oa ol GO) :
    Calls Tryz.prog 43 #[.agg #[.int .i64 me, .bool up, .bool gone, .bool gate, .int .i64 inc, .int .i64 now, .int .i64 sq, .int .i64 turn, .slice ta tl tc, .slice ca cl cc, .int .i64 pn, .int .i64 ps, .int .i64 pq, .bool pa, .slice da dl dc, .int .i64 cx, .int .i64 cy, .int .i64 ch, .int .i64 ce, .slice pla pll plc, .slice oa ol oc]] w fun r w' => r = .returned (.bool b) ∧ Below w.heap.size w w' := hb ▸ soths_any me up gone gate inc now sq turn ta tl tc ca cl cc pn ps pq pa da dl dc cx cy ch ce pla pll plc oa ol oc GO w h.o h.ho h.ob
end
/-- a node is ok, the model's way -/
def snodB (me : Int) (up gone gate : Bool) (inc now sq turn : Int) (tl : Nat) (F : Nat → Fc) (cl : Nat) (GI : Nat → It) (pn ps pq : Int) (pa : Bool) (dl : Nat) (GD : Nat → Dt) (cx cy ch ce : Int) (pll : Nat) (GP : Nat → Pl) (ol : Nat) (GO : Nat → Fg) : Bool :=
  numB me now sq turn inc && (if up then tokB tl F && sitB tl F (ste me) && sslfB me gone gate inc tl F && scastB tl F cl GI && sprbB me now sq tl F pn ps pq pa && sdbsB me now tl F dl GD && cok cx cy ch ce && plsB me pll GP && othsB me ol GO else dwn false gone inc now sq turn tl cl dl pll ol pn ps pq pa cx cy ch ce)
set_option maxRecDepth 20000 in
set_option maxHeartbeats 8000000 in
set_option linter.unusedSimpArgs false in
theorem nodeOk9_up (me : Int) (gone gate : Bool) (inc now sq turn : Int) (ta : Option Addr) (tl tc : Nat) (ca : Option Addr) (cl cc : Nat) (pn ps pq : Int) (pa : Bool) (da : Option Addr) (dl dc : Nat) (cx cy ch ce : Int) (pla : Option Addr) (pll plc : Nat) (oa : Option Addr) (ol oc : Nat) (F : Nat → Fc) (GI : Nat → It) (GD : Nat → Dt) (GP : Nat → Pl) (GO : Nat → Fg) (w : World) (h : NdIn w ta tl F ca cl GI da dl GD pla pll GP oa ol GO) :
    Calls Tryz.prog 9 #[.agg #[.int .i64 me, .bool true, .bool gone, .bool gate, .int .i64 inc, .int .i64 now, .int .i64 sq, .int .i64 turn, .slice ta tl tc, .slice ca cl cc, .int .i64 pn, .int .i64 ps, .int .i64 pq, .bool pa, .slice da dl dc, .int .i64 cx, .int .i64 cy, .int .i64 ch, .int .i64 ce, .slice pla pll plc, .slice oa ol oc]] w fun r w' => r = .returned (.bool (snodB me true gone gate inc now sq turn tl F cl GI pn ps pq pa dl GD cx cy ch ce pll GP ol GO)) ∧ Below w.heap.size w w' := by
  have hbf : Hid (tl ≤ 1048576 ∧ cl ≤ 1048576 ∧ dl ≤ 1048576 ∧ pll ≤ 1048576 ∧ ol ≤ 1048576) := ⟨h.hf, h.hi, h.hd, h.hp, h.ho⟩
  have b0 := balloc (.cells #[.int .i64 me, .bool true, .bool gone, .bool gate, .int .i64 inc, .int .i64 now, .int .i64 sq, .int .i64 turn, .slice ta tl tc, .slice ca cl cc, .int .i64 pn, .int .i64 ps, .int .i64 pq, .bool pa, .slice da dl dc, .int .i64 cx, .int .i64 cy, .int .i64 ch, .int .i64 ce, .slice pla pll plc, .slice oa ol oc] 43) (Below.refl w.heap.size w)
  have X := Ws.box (w := w) #[.int .i64 me, .bool true, .bool gone, .bool gate, .int .i64 inc, .int .i64 now, .int .i64 sq, .int .i64 turn, .slice ta tl tc, .slice ca cl cc, .int .i64 pn, .int .i64 ps, .int .i64 pq, .bool pa, .slice da dl dc, .int .i64 cx, .int .i64 cy, .int .i64 ch, .int .i64 ce, .slice pla pll plc, .slice oa ol oc] 43
  go_enter Tryz.func9, Tryz.ntmps9
  go_upto_region 1 with fail
  generalize w.alloc (.cells #[.int .i64 me, .bool true, .bool gone, .bool gate, .int .i64 inc, .int .i64 now, .int .i64 sq, .int .i64 turn, .slice ta tl tc, .slice ca cl cc, .int .i64 pn, .int .i64 ps, .int .i64 pq, .bool pa, .slice da dl dc, .int .i64 cx, .int .i64 cy, .int .i64 ch, .int .i64 ce, .slice pla pll plc, .slice oa ol oc] 43) = u at *
  have h0 := h.below b0
  clear h
  have d0 := X.c 0 (.int .i64 me) rfl
  have d4 := X.c 4 (.int .i64 inc) rfl
  have d5 := X.c 5 (.int .i64 now) rfl
  have d6 := X.c 6 (.int .i64 sq) rfl
  have d7 := X.c 7 (.int .i64 turn) rfl
  have hst : Hid (snodB me true gone gate inc now sq turn tl F cl GI pn ps pq pa dl GD cx cy ch ce pll GP ol GO = (inb me 0 7 && inb now 0 999999 && inb sq 0 999999 && inb turn 0 8 && inb inc 0 999 && (tokB tl F && sitB tl F (ste me) && sslfB me gone gate inc tl F && scastB tl F cl GI && sprbB me now sq tl F pn ps pq pa && sdbsB me now tl F dl GD && cok cx cy ch ce && plsB me pll GP && othsB me ol GO))) := rfl
  go_wp2_with fail
  refine (lin_any me 0 7 _).mono ?_
  rintro r w1 ⟨rfl, hw⟩
  obtain rfl := hw.symm
  clear hw
  generalize inb me 0 7 = q0 at *
  cases q0
  · clear X h0
    go_wp2
    go_ret
    exact ⟨ret_bool (by rw [hst.out]; simp), b0⟩
  go_wp2_with fail
  refine (lin_any now 0 999999 _).mono ?_
  rintro r w1 ⟨rfl, hw⟩
  obtain rfl := hw.symm
  clear hw
  generalize inb now 0 999999 = q1 at *
  cases q1
  · clear X h0
    go_wp2
    go_ret
    exact ⟨ret_bool (by rw [hst.out]; simp), b0⟩
  go_wp2_with fail
  refine (lin_any sq 0 999999 _).mono ?_
  rintro r w1 ⟨rfl, hw⟩
  obtain rfl := hw.symm
  clear hw
  generalize inb sq 0 999999 = q2 at *
  cases q2
  · clear X h0
    go_wp2
    go_ret
    exact ⟨ret_bool (by rw [hst.out]; simp), b0⟩
  go_wp2_with fail
  refine (lin_any turn 0 8 _).mono ?_
  rintro r w1 ⟨rfl, hw⟩
  obtain rfl := hw.symm
  clear hw
  generalize inb turn 0 8 = q3 at *
  cases q3
  · clear X h0
    go_wp2
    go_ret
    exact ⟨ret_bool (by rw [hst.out]; simp), b0⟩
  go_wp2_with fail
  refine (lin_any inc 0 999 _).mono ?_
  rintro r w1 ⟨rfl, hw⟩
  obtain rfl := hw.symm
  clear hw
  generalize inb inc 0 999 = q4 at *
  cases q4
  · clear X h0
    go_wp2
    go_ret
    exact ⟨ret_bool (by rw [hst.out]; simp), b0⟩
  clear d0 d4 d5 d6 d7
  have d0 := X.c 0 (.int .i64 me) rfl
  have d1 := X.c 1 (.bool true) rfl
  have d2 := X.c 2 (.bool gone) rfl
  have d3 := X.c 3 (.bool gate) rfl
  have d4 := X.c 4 (.int .i64 inc) rfl
  have d5 := X.c 5 (.int .i64 now) rfl
  have d6 := X.c 6 (.int .i64 sq) rfl
  have d7 := X.c 7 (.int .i64 turn) rfl
  have d8 := X.c 8 (.slice ta tl tc) rfl
  have d9 := X.c 9 (.slice ca cl cc) rfl
  have d10 := X.c 10 (.int .i64 pn) rfl
  have d11 := X.c 11 (.int .i64 ps) rfl
  have d12 := X.c 12 (.int .i64 pq) rfl
  have d13 := X.c 13 (.bool pa) rfl
  have d14 := X.c 14 (.slice da dl dc) rfl
  have d15 := X.c 15 (.int .i64 cx) rfl
  have d16 := X.c 16 (.int .i64 cy) rfl
  have d17 := X.c 17 (.int .i64 ch) rfl
  have d18 := X.c 18 (.int .i64 ce) rfl
  have d19 := X.c 19 (.slice pla pll plc) rfl
  have d20 := X.c 20 (.slice oa ol oc) rfl
  have r0 := X.range
  clear X hbf d2 d3 d4 d5 d6 d7 d9 d10 d11 d12 d13 d14 d19 d20
  go_upto_region 5 with fail
  clear d1
  obtain ⟨sm, hsm⟩ : ∃ sm, Hid (ste me = sm) := ⟨_, rfl⟩
  rw [hsm.out] at hst
  cases z : tokB tl F
  · have y2 : Hid (tokB tl F = false) := z
    clear z
    refine wp_region_m (S := (fun w' => w'.rangeAt w.heap.size 0 [.int .i64 me, .bool true, .bool gone, .bool gate, .int .i64 inc, .int .i64 now, .int .i64 sq, .int .i64 turn, .slice ta tl tc, .slice ca cl cc, .int .i64 pn, .int .i64 ps, .int .i64 pq, .bool pa, .slice da dl dc, .int .i64 cx, .int .i64 cy, .int .i64 ch, .int .i64 ce, .slice pla pll plc, .slice oa ol oc] ∧ w'.cell? ⟨w.heap.size, 0, none⟩ = some (.int .i64 me) ∧ w'.cell? ⟨w.heap.size, 8, none⟩ = some (.slice ta tl tc) ∧ w'.cell? ⟨w.heap.size, 15, none⟩ = some (.int .i64 cx) ∧ w'.cell? ⟨w.heap.size, 16, none⟩ = some (.int .i64 cy) ∧ w'.cell? ⟨w.heap.size, 17, none⟩ = some (.int .i64 ch) ∧ w'.cell? ⟨w.heap.size, 18, none⟩ = some (.int .i64 ce) ∧ NdIn w' ta tl F ca cl GI da dl GD pla pll GP oa ol GO ∧ Below w.heap.size w w')) o9_5 41 fo9_5 ?_ (fun hHeld => ?_)
    · (try dsimp only); exact ⟨range_drew r0, keep_drew d0, keep_drew d8, keep_drew d15, keep_drew d16, keep_drew d17, keep_drew d18, h0.below (Below.refl _ _).drew, b0.drew⟩
    refine stY fo9_5 o9_5_0 1 ?_; try simp only [putQ]; refine stY fo9_5 o9_5_1 3 ?_; try simp only [putQ]
    refine stC fo9_5 o9_5_2 7 (fun K hK => ?_)
    go_simp
    refine (stok_lit ta tl tc F false _ hHeld.2.2.2.2.2.2.2.1.f hHeld.2.2.2.2.2.2.2.1.hf y2.out).mono ?_; rintro r w2 ⟨rfl, k2⟩
    go_wp2_with fail
    refine hK.out _ _ ?_ (fun hHeld => ?_)
    · (try dsimp only); exact ⟨range_below' hHeld.1 k2, keep_below k2 hHeld.2.1, keep_below k2 hHeld.2.2.1, keep_below k2 hHeld.2.2.2.1, keep_below k2 hHeld.2.2.2.2.1, keep_below k2 hHeld.2.2.2.2.2.1, keep_below k2 hHeld.2.2.2.2.2.2.1, hHeld.2.2.2.2.2.2.2.1.below k2, btrans hHeld.2.2.2.2.2.2.2.2 k2⟩
    clear hK K
    (try simp only [putQ]); refine stY fo9_5 o9_5_3 15 ?_; try simp only [putQ]; refine stN fo9_5 o9_5_4 31 ?_; try simp only [putQ]; refine stN fo9_5 o9_5_5 63 ?_; try simp only [putQ]; refine stN fo9_5 o9_5_6 127 ?_; try simp only [putQ]; refine stN fo9_5 o9_5_7 255 ?_; try simp only [putQ]; refine stN fo9_5 o9_5_8 511 ?_; try simp only [putQ]; refine stN fo9_5 o9_5_9 1023 ?_; try simp only [putQ]; refine stY fo9_5 o9_5_10 2047 ?_; try simp only [putQ]; refine stY fo9_5 o9_5_11 4095 ?_; try simp only [putQ]; refine stN fo9_5 o9_5_12 8191 ?_; try simp only [putQ]; refine stN fo9_5 o9_5_13 16383 ?_; try simp only [putQ]; refine stY fo9_5 o9_5_14 32767 ?_; try simp only [putQ]; refine stY fo9_5 o9_5_15 65535 ?_; try simp only [putQ]; refine stN fo9_5 o9_5_16 131071 ?_; try simp only [putQ]; refine stN fo9_5 o9_5_17 262143 ?_; try simp only [putQ]; refine stY fo9_5 o9_5_18 524287 ?_; try simp only [putQ]; refine stY fo9_5 o9_5_19 1048575 ?_; try simp only [putQ]; refine stN fo9_5 o9_5_20 2097151 ?_; try simp only [putQ]; refine stN fo9_5 o9_5_21 4194303 ?_; try simp only [putQ]; refine stY fo9_5 o9_5_22 8388607 ?_; try simp only [putQ]; refine stY fo9_5 o9_5_23 16777215 ?_; try simp only [putQ]; refine stN fo9_5 o9_5_24 33554431 ?_; try simp only [putQ]; refine stN fo9_5 o9_5_25 67108863 ?_; try simp only [putQ]; refine stY fo9_5 o9_5_26 134217727 ?_; try simp only [putQ]; refine stY fo9_5 o9_5_27 268435455 ?_; try simp only [putQ]; refine stN fo9_5 o9_5_28 536870911 ?_; try simp only [putQ]; refine stN fo9_5 o9_5_29 1073741823 ?_; try simp only [putQ]; refine stN fo9_5 o9_5_30 2147483647 ?_; try simp only [putQ]; refine stY fo9_5 o9_5_31 4294967295 ?_; try simp only [putQ]; refine stY fo9_5 o9_5_32 8589934591 ?_; try simp only [putQ]; refine stN fo9_5 o9_5_33 17179869183 ?_; try simp only [putQ]; refine stN fo9_5 o9_5_34 34359738367 ?_; try simp only [putQ]; refine stY fo9_5 o9_5_35 68719476735 ?_; try simp only [putQ]; refine stY fo9_5 o9_5_36 137438953471 ?_; try simp only [putQ]; refine stN fo9_5 o9_5_37 274877906943 ?_; try simp only [putQ]; refine stN fo9_5 o9_5_38 549755813887 ?_; try simp only [putQ]; refine stY fo9_5 o9_5_39 1099511627775 ?_; try simp only [putQ]; refine stY fo9_5 o9_5_40 2199023255551 ?_; try simp only [putQ]
    refine wpAnyH_done (by kernel_rfl) ?_ _
    go_wp2
    go_ret
    exact ⟨ret_bool (by rw [hst.out]; simp [y2.out]), hHeld.2.2.2.2.2.2.2.2⟩
  · have y2 : Hid (tokB tl F = true) := z
    clear z
    cases z : sitB tl F sm
    · have y9 : Hid (sitB tl F sm = false) := z
      clear z
      refine wp_region_m (S := (fun w' => w'.rangeAt w.heap.size 0 [.int .i64 me, .bool true, .bool gone, .bool gate, .int .i64 inc, .int .i64 now, .int .i64 sq, .int .i64 turn, .slice ta tl tc, .slice ca cl cc, .int .i64 pn, .int .i64 ps, .int .i64 pq, .bool pa, .slice da dl dc, .int .i64 cx, .int .i64 cy, .int .i64 ch, .int .i64 ce, .slice pla pll plc, .slice oa ol oc] ∧ w'.cell? ⟨w.heap.size, 0, none⟩ = some (.int .i64 me) ∧ w'.cell? ⟨w.heap.size, 8, none⟩ = some (.slice ta tl tc) ∧ w'.cell? ⟨w.heap.size, 15, none⟩ = some (.int .i64 cx) ∧ w'.cell? ⟨w.heap.size, 16, none⟩ = some (.int .i64 cy) ∧ w'.cell? ⟨w.heap.size, 17, none⟩ = some (.int .i64 ch) ∧ w'.cell? ⟨w.heap.size, 18, none⟩ = some (.int .i64 ce) ∧ NdIn w' ta tl F ca cl GI da dl GD pla pll GP oa ol GO ∧ Below w.heap.size w w')) o9_5 41 fo9_5 ?_ (fun hHeld => ?_)
      · (try dsimp only); exact ⟨range_drew r0, keep_drew d0, keep_drew d8, keep_drew d15, keep_drew d16, keep_drew d17, keep_drew d18, h0.below (Below.refl _ _).drew, b0.drew⟩
      refine stY fo9_5 o9_5_0 1 ?_; try simp only [putQ]; refine stY fo9_5 o9_5_1 3 ?_; try simp only [putQ]
      refine stC fo9_5 o9_5_2 7 (fun K hK => ?_)
      go_simp
      refine (stok_lit ta tl tc F true _ hHeld.2.2.2.2.2.2.2.1.f hHeld.2.2.2.2.2.2.2.1.hf y2.out).mono ?_; rintro r w2 ⟨rfl, k2⟩
      go_wp2_with fail
      refine hK.out _ _ ?_ (fun hHeld => ?_)
      · (try dsimp only); exact ⟨range_below' hHeld.1 k2, keep_below k2 hHeld.2.1, keep_below k2 hHeld.2.2.1, keep_below k2 hHeld.2.2.2.1, keep_below k2 hHeld.2.2.2.2.1, keep_below k2 hHeld.2.2.2.2.2.1, keep_below k2 hHeld.2.2.2.2.2.2.1, hHeld.2.2.2.2.2.2.2.1.below k2, btrans hHeld.2.2.2.2.2.2.2.2 k2⟩
      clear hK K
      (try simp only [putQ]); refine stY fo9_5 o9_5_3 15 ?_; try simp only [putQ]; refine stY fo9_5 o9_5_4 31 ?_; try simp only [putQ]; refine stY fo9_5 o9_5_5 63 ?_; try simp only [putQ]; refine stY fo9_5 o9_5_6 127 ?_; try simp only [putQ]; refine stY fo9_5 o9_5_7 255 ?_; try simp only [putQ]
      refine stC fo9_5 o9_5_8 511 (fun K hK => ?_)
      go_simp
      refine (lsite_any me _).mono ?_; rintro r w3 ⟨rfl, hw⟩; obtain rfl := hw.symm; clear hw; rw [hsm.out]
      go_wp2_with fail
      refine hK.out _ _ ?_ (fun hHeld => ?_)
      · (try dsimp only); exact hHeld
      clear hK K
      (try simp only [putQ])
      refine stC fo9_5 o9_5_9 1023 (fun K hK => ?_)
      go_simp
      refine (ssite_lit ta tl tc F sm false y9.out _ hHeld.2.2.2.2.2.2.2.1.f hHeld.2.2.2.2.2.2.2.1.hf).mono ?_; rintro r w3 ⟨rfl, k3⟩
      go_wp2_with fail
      refine hK.out _ _ ?_ (fun hHeld => ?_)
      · (try dsimp only); exact ⟨range_below' hHeld.1 k3, keep_below k3 hHeld.2.1, keep_below k3 hHeld.2.2.1, keep_below k3 hHeld.2.2.2.1, keep_below k3 hHeld.2.2.2.2.1, keep_below k3 hHeld.2.2.2.2.2.1, keep_below k3 hHeld.2.2.2.2.2.2.1, hHeld.2.2.2.2.2.2.2.1.below k3, btrans hHeld.2.2.2.2.2.2.2.2 k3⟩
      clear hK K
      (try simp only [putQ]); refine stY fo9_5 o9_5_10 2047 ?_; try simp only [putQ]; refine stY fo9_5 o9_5_11 4095 ?_; try simp only [putQ]; refine stN fo9_5 o9_5_12 8191 ?_; try simp only [putQ]; refine stN fo9_5 o9_5_13 16383 ?_; try simp only [putQ]; refine stY fo9_5 o9_5_14 32767 ?_; try simp only [putQ]; refine stY fo9_5 o9_5_15 65535 ?_; try simp only [putQ]; refine stN fo9_5 o9_5_16 131071 ?_; try simp only [putQ]; refine stN fo9_5 o9_5_17 262143 ?_; try simp only [putQ]; refine stY fo9_5 o9_5_18 524287 ?_; try simp only [putQ]; refine stY fo9_5 o9_5_19 1048575 ?_; try simp only [putQ]; refine stN fo9_5 o9_5_20 2097151 ?_; try simp only [putQ]; refine stN fo9_5 o9_5_21 4194303 ?_; try simp only [putQ]; refine stY fo9_5 o9_5_22 8388607 ?_; try simp only [putQ]; refine stY fo9_5 o9_5_23 16777215 ?_; try simp only [putQ]; refine stN fo9_5 o9_5_24 33554431 ?_; try simp only [putQ]; refine stN fo9_5 o9_5_25 67108863 ?_; try simp only [putQ]; refine stY fo9_5 o9_5_26 134217727 ?_; try simp only [putQ]; refine stY fo9_5 o9_5_27 268435455 ?_; try simp only [putQ]; refine stN fo9_5 o9_5_28 536870911 ?_; try simp only [putQ]; refine stN fo9_5 o9_5_29 1073741823 ?_; try simp only [putQ]; refine stN fo9_5 o9_5_30 2147483647 ?_; try simp only [putQ]; refine stY fo9_5 o9_5_31 4294967295 ?_; try simp only [putQ]; refine stY fo9_5 o9_5_32 8589934591 ?_; try simp only [putQ]; refine stN fo9_5 o9_5_33 17179869183 ?_; try simp only [putQ]; refine stN fo9_5 o9_5_34 34359738367 ?_; try simp only [putQ]; refine stY fo9_5 o9_5_35 68719476735 ?_; try simp only [putQ]; refine stY fo9_5 o9_5_36 137438953471 ?_; try simp only [putQ]; refine stN fo9_5 o9_5_37 274877906943 ?_; try simp only [putQ]; refine stN fo9_5 o9_5_38 549755813887 ?_; try simp only [putQ]; refine stY fo9_5 o9_5_39 1099511627775 ?_; try simp only [putQ]; refine stY fo9_5 o9_5_40 2199023255551 ?_; try simp only [putQ]
      refine wpAnyH_done (by kernel_rfl) ?_ _
      go_wp2
      go_ret
      exact ⟨ret_bool (by rw [hst.out]; simp [y9.out]), hHeld.2.2.2.2.2.2.2.2⟩
    · have y9 : Hid (sitB tl F sm = true) := z
      clear z
      cases z : sslfB me gone gate inc tl F
      · have y13 : Hid (sslfB me gone gate inc tl F = false) := z
        clear z
        refine wp_region_m (S := (fun w' => w'.rangeAt w.heap.size 0 [.int .i64 me, .bool true, .bool gone, .bool gate, .int .i64 inc, .int .i64 now, .int .i64 sq, .int .i64 turn, .slice ta tl tc, .slice ca cl cc, .int .i64 pn, .int .i64 ps, .int .i64 pq, .bool pa, .slice da dl dc, .int .i64 cx, .int .i64 cy, .int .i64 ch, .int .i64 ce, .slice pla pll plc, .slice oa ol oc] ∧ w'.cell? ⟨w.heap.size, 0, none⟩ = some (.int .i64 me) ∧ w'.cell? ⟨w.heap.size, 8, none⟩ = some (.slice ta tl tc) ∧ w'.cell? ⟨w.heap.size, 15, none⟩ = some (.int .i64 cx) ∧ w'.cell? ⟨w.heap.size, 16, none⟩ = some (.int .i64 cy) ∧ w'.cell? ⟨w.heap.size, 17, none⟩ = some (.int .i64 ch) ∧ w'.cell? ⟨w.heap.size, 18, none⟩ = some (.int .i64 ce) ∧ NdIn w' ta tl F ca cl GI da dl GD pla pll GP oa ol GO ∧ Below w.heap.size w w')) o9_5 41 fo9_5 ?_ (fun hHeld => ?_)
        · (try dsimp only); exact ⟨range_drew r0, keep_drew d0, keep_drew d8, keep_drew d15, keep_drew d16, keep_drew d17, keep_drew d18, h0.below (Below.refl _ _).drew, b0.drew⟩
        refine stY fo9_5 o9_5_0 1 ?_; try simp only [putQ]; refine stY fo9_5 o9_5_1 3 ?_; try simp only [putQ]
        refine stC fo9_5 o9_5_2 7 (fun K hK => ?_)
        go_simp
        refine (stok_lit ta tl tc F true _ hHeld.2.2.2.2.2.2.2.1.f hHeld.2.2.2.2.2.2.2.1.hf y2.out).mono ?_; rintro r w2 ⟨rfl, k2⟩
        go_wp2_with fail
        refine hK.out _ _ ?_ (fun hHeld => ?_)
        · (try dsimp only); exact ⟨range_below' hHeld.1 k2, keep_below k2 hHeld.2.1, keep_below k2 hHeld.2.2.1, keep_below k2 hHeld.2.2.2.1, keep_below k2 hHeld.2.2.2.2.1, keep_below k2 hHeld.2.2.2.2.2.1, keep_below k2 hHeld.2.2.2.2.2.2.1, hHeld.2.2.2.2.2.2.2.1.below k2, btrans hHeld.2.2.2.2.2.2.2.2 k2⟩
        clear hK K
        (try simp only [putQ]); refine stY fo9_5 o9_5_3 15 ?_; try simp only [putQ]; refine stY fo9_5 o9_5_4 31 ?_; try simp only [putQ]; refine stY fo9_5 o9_5_5 63 ?_; try simp only [putQ]; refine stY fo9_5 o9_5_6 127 ?_; try simp only [putQ]; refine stY fo9_5 o9_5_7 255 ?_; try simp only [putQ]
        refine stC fo9_5 o9_5_8 511 (fun K hK => ?_)
        go_simp
        refine (lsite_any me _).mono ?_; rintro r w3 ⟨rfl, hw⟩; obtain rfl := hw.symm; clear hw; rw [hsm.out]
        go_wp2_with fail
        refine hK.out _ _ ?_ (fun hHeld => ?_)
        · (try dsimp only); exact hHeld
        clear hK K
        (try simp only [putQ])
        refine stC fo9_5 o9_5_9 1023 (fun K hK => ?_)
        go_simp
        refine (ssite_lit ta tl tc F sm true y9.out _ hHeld.2.2.2.2.2.2.2.1.f hHeld.2.2.2.2.2.2.2.1.hf).mono ?_; rintro r w3 ⟨rfl, k3⟩
        go_wp2_with fail
        refine hK.out _ _ ?_ (fun hHeld => ?_)
        · (try dsimp only); exact ⟨range_below' hHeld.1 k3, keep_below k3 hHeld.2.1, keep_below k3 hHeld.2.2.1, keep_below k3 hHeld.2.2.2.1, keep_below k3 hHeld.2.2.2.2.1, keep_below k3 hHeld.2.2.2.2.2.1, keep_below k3 hHeld.2.2.2.2.2.2.1, hHeld.2.2.2.2.2.2.2.1.below k3, btrans hHeld.2.2.2.2.2.2.2.2 k3⟩
        clear hK K
        (try simp only [putQ]); refine stY fo9_5 o9_5_10 2047 ?_; try simp only [putQ]; refine stY fo9_5 o9_5_11 4095 ?_; try simp only [putQ]
        refine stW (.agg #[.int .i64 me, .bool true, .bool gone, .bool gate, .int .i64 inc, .int .i64 now, .int .i64 sq, .int .i64 turn, .slice ta tl tc, .slice ca cl cc, .int .i64 pn, .int .i64 ps, .int .i64 pq, .bool pa, .slice da dl dc, .int .i64 cx, .int .i64 cy, .int .i64 ch, .int .i64 ce, .slice pla pll plc, .slice oa ol oc]) fo9_5 o9_5_12 8191 (load43 (by rfl) (.tmp 1) rfl w.heap.size rfl [.int .i64 me, .bool true, .bool gone, .bool gate, .int .i64 inc, .int .i64 now, .int .i64 sq, .int .i64 turn, .slice ta tl tc, .slice ca cl cc, .int .i64 pn, .int .i64 ps, .int .i64 pq, .bool pa, .slice da dl dc, .int .i64 cx, .int .i64 cy, .int .i64 ch, .int .i64 ce, .slice pla pll plc, .slice oa ol oc] (fun w hSw => hSw.1) rfl) ?_
        (try simp only [putQ])
        refine stC fo9_5 o9_5_13 16383 (fun K hK => ?_)
        go_simp
        refine (sself_lit me true gone gate inc now sq turn ta tl tc ca cl cc pn ps pq pa da dl dc cx cy ch ce pla pll plc oa ol oc F GI GD GP GO false y13.out _ hHeld.2.2.2.2.2.2.2.1).mono ?_; rintro r w5 ⟨rfl, k5⟩
        go_wp2_with fail
        refine hK.out _ _ ?_ (fun hHeld => ?_)
        · (try dsimp only); exact ⟨range_below' hHeld.1 k5, keep_below k5 hHeld.2.1, keep_below k5 hHeld.2.2.1, keep_below k5 hHeld.2.2.2.1, keep_below k5 hHeld.2.2.2.2.1, keep_below k5 hHeld.2.2.2.2.2.1, keep_below k5 hHeld.2.2.2.2.2.2.1, hHeld.2.2.2.2.2.2.2.1.below k5, btrans hHeld.2.2.2.2.2.2.2.2 k5⟩
        clear hK K
        (try simp only [putQ]); refine stY fo9_5 o9_5_14 32767 ?_; try simp only [putQ]; refine stY fo9_5 o9_5_15 65535 ?_; try simp only [putQ]; refine stN fo9_5 o9_5_16 131071 ?_; try simp only [putQ]; refine stN fo9_5 o9_5_17 262143 ?_; try simp only [putQ]; refine stY fo9_5 o9_5_18 524287 ?_; try simp only [putQ]; refine stY fo9_5 o9_5_19 1048575 ?_; try simp only [putQ]; refine stN fo9_5 o9_5_20 2097151 ?_; try simp only [putQ]; refine stN fo9_5 o9_5_21 4194303 ?_; try simp only [putQ]; refine stY fo9_5 o9_5_22 8388607 ?_; try simp only [putQ]; refine stY fo9_5 o9_5_23 16777215 ?_; try simp only [putQ]; refine stN fo9_5 o9_5_24 33554431 ?_; try simp only [putQ]; refine stN fo9_5 o9_5_25 67108863 ?_; try simp only [putQ]; refine stY fo9_5 o9_5_26 134217727 ?_; try simp only [putQ]; refine stY fo9_5 o9_5_27 268435455 ?_; try simp only [putQ]; refine stN fo9_5 o9_5_28 536870911 ?_; try simp only [putQ]; refine stN fo9_5 o9_5_29 1073741823 ?_; try simp only [putQ]; refine stN fo9_5 o9_5_30 2147483647 ?_; try simp only [putQ]; refine stY fo9_5 o9_5_31 4294967295 ?_; try simp only [putQ]; refine stY fo9_5 o9_5_32 8589934591 ?_; try simp only [putQ]; refine stN fo9_5 o9_5_33 17179869183 ?_; try simp only [putQ]; refine stN fo9_5 o9_5_34 34359738367 ?_; try simp only [putQ]; refine stY fo9_5 o9_5_35 68719476735 ?_; try simp only [putQ]; refine stY fo9_5 o9_5_36 137438953471 ?_; try simp only [putQ]; refine stN fo9_5 o9_5_37 274877906943 ?_; try simp only [putQ]; refine stN fo9_5 o9_5_38 549755813887 ?_; try simp only [putQ]; refine stY fo9_5 o9_5_39 1099511627775 ?_; try simp only [putQ]; refine stY fo9_5 o9_5_40 2199023255551 ?_; try simp only [putQ]
        refine wpAnyH_done (by kernel_rfl) ?_ _
        go_wp2
        go_ret
        exact ⟨ret_bool (by rw [hst.out]; simp [y13.out]), hHeld.2.2.2.2.2.2.2.2⟩
      · have y13 : Hid (sslfB me gone gate inc tl F = true) := z
        clear z
        cases z : scastB tl F cl GI
        · have y17 : Hid (scastB tl F cl GI = false) := z
          clear z
          refine wp_region_m (S := (fun w' => w'.rangeAt w.heap.size 0 [.int .i64 me, .bool true, .bool gone, .bool gate, .int .i64 inc, .int .i64 now, .int .i64 sq, .int .i64 turn, .slice ta tl tc, .slice ca cl cc, .int .i64 pn, .int .i64 ps, .int .i64 pq, .bool pa, .slice da dl dc, .int .i64 cx, .int .i64 cy, .int .i64 ch, .int .i64 ce, .slice pla pll plc, .slice oa ol oc] ∧ w'.cell? ⟨w.heap.size, 0, none⟩ = some (.int .i64 me) ∧ w'.cell? ⟨w.heap.size, 8, none⟩ = some (.slice ta tl tc) ∧ w'.cell? ⟨w.heap.size, 15, none⟩ = some (.int .i64 cx) ∧ w'.cell? ⟨w.heap.size, 16, none⟩ = some (.int .i64 cy) ∧ w'.cell? ⟨w.heap.size, 17, none⟩ = some (.int .i64 ch) ∧ w'.cell? ⟨w.heap.size, 18, none⟩ = some (.int .i64 ce) ∧ NdIn w' ta tl F ca cl GI da dl GD pla pll GP oa ol GO ∧ Below w.heap.size w w')) o9_5 41 fo9_5 ?_ (fun hHeld => ?_)
          · (try dsimp only); exact ⟨range_drew r0, keep_drew d0, keep_drew d8, keep_drew d15, keep_drew d16, keep_drew d17, keep_drew d18, h0.below (Below.refl _ _).drew, b0.drew⟩
          refine stY fo9_5 o9_5_0 1 ?_; try simp only [putQ]; refine stY fo9_5 o9_5_1 3 ?_; try simp only [putQ]
          refine stC fo9_5 o9_5_2 7 (fun K hK => ?_)
          go_simp
          refine (stok_lit ta tl tc F true _ hHeld.2.2.2.2.2.2.2.1.f hHeld.2.2.2.2.2.2.2.1.hf y2.out).mono ?_; rintro r w2 ⟨rfl, k2⟩
          go_wp2_with fail
          refine hK.out _ _ ?_ (fun hHeld => ?_)
          · (try dsimp only); exact ⟨range_below' hHeld.1 k2, keep_below k2 hHeld.2.1, keep_below k2 hHeld.2.2.1, keep_below k2 hHeld.2.2.2.1, keep_below k2 hHeld.2.2.2.2.1, keep_below k2 hHeld.2.2.2.2.2.1, keep_below k2 hHeld.2.2.2.2.2.2.1, hHeld.2.2.2.2.2.2.2.1.below k2, btrans hHeld.2.2.2.2.2.2.2.2 k2⟩
          clear hK K
          (try simp only [putQ]); refine stY fo9_5 o9_5_3 15 ?_; try simp only [putQ]; refine stY fo9_5 o9_5_4 31 ?_; try simp only [putQ]; refine stY fo9_5 o9_5_5 63 ?_; try simp only [putQ]; refine stY fo9_5 o9_5_6 127 ?_; try simp only [putQ]; refine stY fo9_5 o9_5_7 255 ?_; try simp only [putQ]
          refine stC fo9_5 o9_5_8 511 (fun K hK => ?_)
          go_simp
          refine (lsite_any me _).mono ?_; rintro r w3 ⟨rfl, hw⟩; obtain rfl := hw.symm; clear hw; rw [hsm.out]
          go_wp2_with fail
          refine hK.out _ _ ?_ (fun hHeld => ?_)
          · (try dsimp only); exact hHeld
          clear hK K
          (try simp only [putQ])
          refine stC fo9_5 o9_5_9 1023 (fun K hK => ?_)
          go_simp
          refine (ssite_lit ta tl tc F sm true y9.out _ hHeld.2.2.2.2.2.2.2.1.f hHeld.2.2.2.2.2.2.2.1.hf).mono ?_; rintro r w3 ⟨rfl, k3⟩
          go_wp2_with fail
          refine hK.out _ _ ?_ (fun hHeld => ?_)
          · (try dsimp only); exact ⟨range_below' hHeld.1 k3, keep_below k3 hHeld.2.1, keep_below k3 hHeld.2.2.1, keep_below k3 hHeld.2.2.2.1, keep_below k3 hHeld.2.2.2.2.1, keep_below k3 hHeld.2.2.2.2.2.1, keep_below k3 hHeld.2.2.2.2.2.2.1, hHeld.2.2.2.2.2.2.2.1.below k3, btrans hHeld.2.2.2.2.2.2.2.2 k3⟩
          clear hK K
          (try simp only [putQ]); refine stY fo9_5 o9_5_10 2047 ?_; try simp only [putQ]; refine stY fo9_5 o9_5_11 4095 ?_; try simp only [putQ]
          refine stW (.agg #[.int .i64 me, .bool true, .bool gone, .bool gate, .int .i64 inc, .int .i64 now, .int .i64 sq, .int .i64 turn, .slice ta tl tc, .slice ca cl cc, .int .i64 pn, .int .i64 ps, .int .i64 pq, .bool pa, .slice da dl dc, .int .i64 cx, .int .i64 cy, .int .i64 ch, .int .i64 ce, .slice pla pll plc, .slice oa ol oc]) fo9_5 o9_5_12 8191 (load43 (by rfl) (.tmp 1) rfl w.heap.size rfl [.int .i64 me, .bool true, .bool gone, .bool gate, .int .i64 inc, .int .i64 now, .int .i64 sq, .int .i64 turn, .slice ta tl tc, .slice ca cl cc, .int .i64 pn, .int .i64 ps, .int .i64 pq, .bool pa, .slice da dl dc, .int .i64 cx, .int .i64 cy, .int .i64 ch, .int .i64 ce, .slice pla pll plc, .slice oa ol oc] (fun w hSw => hSw.1) rfl) ?_
          (try simp only [putQ])
          refine stC fo9_5 o9_5_13 16383 (fun K hK => ?_)
          go_simp
          refine (sself_lit me true gone gate inc now sq turn ta tl tc ca cl cc pn ps pq pa da dl dc cx cy ch ce pla pll plc oa ol oc F GI GD GP GO true y13.out _ hHeld.2.2.2.2.2.2.2.1).mono ?_; rintro r w5 ⟨rfl, k5⟩
          go_wp2_with fail
          refine hK.out _ _ ?_ (fun hHeld => ?_)
          · (try dsimp only); exact ⟨range_below' hHeld.1 k5, keep_below k5 hHeld.2.1, keep_below k5 hHeld.2.2.1, keep_below k5 hHeld.2.2.2.1, keep_below k5 hHeld.2.2.2.2.1, keep_below k5 hHeld.2.2.2.2.2.1, keep_below k5 hHeld.2.2.2.2.2.2.1, hHeld.2.2.2.2.2.2.2.1.below k5, btrans hHeld.2.2.2.2.2.2.2.2 k5⟩
          clear hK K
          (try simp only [putQ]); refine stY fo9_5 o9_5_14 32767 ?_; try simp only [putQ]; refine stY fo9_5 o9_5_15 65535 ?_; try simp only [putQ]
          refine stW (.agg #[.int .i64 me, .bool true, .bool gone, .bool gate, .int .i64 inc, .int .i64 now, .int .i64 sq, .int .i64 turn, .slice ta tl tc, .slice ca cl cc, .int .i64 pn, .int .i64 ps, .int .i64 pq, .bool pa, .slice da dl dc, .int .i64 cx, .int .i64 cy, .int .i64 ch, .int .i64 ce, .slice pla pll plc, .slice oa ol oc]) fo9_5 o9_5_16 131071 (load43 (by rfl) (.tmp 1) rfl w.heap.size rfl [.int .i64 me, .bool true, .bool gone, .bool gate, .int .i64 inc, .int .i64 now, .int .i64 sq, .int .i64 turn, .slice ta tl tc, .slice ca cl cc, .int .i64 pn, .int .i64 ps, .int .i64 pq, .bool pa, .slice da dl dc, .int .i64 cx, .int .i64 cy, .int .i64 ch, .int .i64 ce, .slice pla pll plc, .slice oa ol oc] (fun w hSw => hSw.1) rfl) ?_
          (try simp only [putQ])
          refine stC fo9_5 o9_5_17 262143 (fun K hK => ?_)
          go_simp
          refine (scast_lit me true gone gate inc now sq turn ta tl tc ca cl cc pn ps pq pa da dl dc cx cy ch ce pla pll plc oa ol oc F GI GD GP GO false y17.out _ hHeld.2.2.2.2.2.2.2.1).mono ?_; rintro r w5 ⟨rfl, k5⟩
          go_wp2_with fail
          refine hK.out _ _ ?_ (fun hHeld => ?_)
          · (try dsimp only); exact ⟨range_below' hHeld.1 k5, keep_below k5 hHeld.2.1, keep_below k5 hHeld.2.2.1, keep_below k5 hHeld.2.2.2.1, keep_below k5 hHeld.2.2.2.2.1, keep_below k5 hHeld.2.2.2.2.2.1, keep_below k5 hHeld.2.2.2.2.2.2.1, hHeld.2.2.2.2.2.2.2.1.below k5, btrans hHeld.2.2.2.2.2.2.2.2 k5⟩
          clear hK K
          (try simp only [putQ]); refine stY fo9_5 o9_5_18 524287 ?_; try simp only [putQ]; refine stY fo9_5 o9_5_19 1048575 ?_; try simp only [putQ]; refine stN fo9_5 o9_5_20 2097151 ?_; try simp only [putQ]; refine stN fo9_5 o9_5_21 4194303 ?_; try simp only [putQ]; refine stY fo9_5 o9_5_22 8388607 ?_; try simp only [putQ]; refine stY fo9_5 o9_5_23 16777215 ?_; try simp only [putQ]; refine stN fo9_5 o9_5_24 33554431 ?_; try simp only [putQ]; refine stN fo9_5 o9_5_25 67108863 ?_; try simp only [putQ]; refine stY fo9_5 o9_5_26 134217727 ?_; try simp only [putQ]; refine stY fo9_5 o9_5_27 268435455 ?_; try simp only [putQ]; refine stN fo9_5 o9_5_28 536870911 ?_; try simp only [putQ]; refine stN fo9_5 o9_5_29 1073741823 ?_; try simp only [putQ]; refine stN fo9_5 o9_5_30 2147483647 ?_; try simp only [putQ]; refine stY fo9_5 o9_5_31 4294967295 ?_; try simp only [putQ]; refine stY fo9_5 o9_5_32 8589934591 ?_; try simp only [putQ]; refine stN fo9_5 o9_5_33 17179869183 ?_; try simp only [putQ]; refine stN fo9_5 o9_5_34 34359738367 ?_; try simp only [putQ]; refine stY fo9_5 o9_5_35 68719476735 ?_; try simp only [putQ]; refine stY fo9_5 o9_5_36 137438953471 ?_; try simp only [putQ]; refine stN fo9_5 o9_5_37 274877906943 ?_; try simp only [putQ]; refine stN fo9_5 o9_5_38 549755813887 ?_; try simp only [putQ]; refine stY fo9_5 o9_5_39 1099511627775 ?_; try simp only [putQ]; refine stY fo9_5 o9_5_40 2199023255551 ?_; try simp only [putQ]
          refine wpAnyH_done (by kernel_rfl) ?_ _
          go_wp2
          go_ret
          exact ⟨ret_bool (by rw [hst.out]; simp [y17.out]), hHeld.2.2.2.2.2.2.2.2⟩
        · have y17 : Hid (scastB tl F cl GI = true) := z
          clear z
          cases z : sprbB me now sq tl F pn ps pq pa
          · have y21 : Hid (sprbB me now sq tl F pn ps pq pa = false) := z
            clear z
            refine wp_region_m (S := (fun w' => w'.rangeAt w.heap.size 0 [.int .i64 me, .bool true, .bool gone, .bool gate, .int .i64 inc, .int .i64 now, .int .i64 sq, .int .i64 turn, .slice ta tl tc, .slice ca cl cc, .int .i64 pn, .int .i64 ps, .int .i64 pq, .bool pa, .slice da dl dc, .int .i64 cx, .int .i64 cy, .int .i64 ch, .int .i64 ce, .slice pla pll plc, .slice oa ol oc] ∧ w'.cell? ⟨w.heap.size, 0, none⟩ = some (.int .i64 me) ∧ w'.cell? ⟨w.heap.size, 8, none⟩ = some (.slice ta tl tc) ∧ w'.cell? ⟨w.heap.size, 15, none⟩ = some (.int .i64 cx) ∧ w'.cell? ⟨w.heap.size, 16, none⟩ = some (.int .i64 cy) ∧ w'.cell? ⟨w.heap.size, 17, none⟩ = some (.int .i64 ch) ∧ w'.cell? ⟨w.heap.size, 18, none⟩ = some (.int .i64 ce) ∧ NdIn w' ta tl F ca cl GI da dl GD pla pll GP oa ol GO ∧ Below w.heap.size w w')) o9_5 41 fo9_5 ?_ (fun hHeld => ?_)
            · (try dsimp only); exact ⟨range_drew r0, keep_drew d0, keep_drew d8, keep_drew d15, keep_drew d16, keep_drew d17, keep_drew d18, h0.below (Below.refl _ _).drew, b0.drew⟩
            refine stY fo9_5 o9_5_0 1 ?_; try simp only [putQ]; refine stY fo9_5 o9_5_1 3 ?_; try simp only [putQ]
            refine stC fo9_5 o9_5_2 7 (fun K hK => ?_)
            go_simp
            refine (stok_lit ta tl tc F true _ hHeld.2.2.2.2.2.2.2.1.f hHeld.2.2.2.2.2.2.2.1.hf y2.out).mono ?_; rintro r w2 ⟨rfl, k2⟩
            go_wp2_with fail
            refine hK.out _ _ ?_ (fun hHeld => ?_)
            · (try dsimp only); exact ⟨range_below' hHeld.1 k2, keep_below k2 hHeld.2.1, keep_below k2 hHeld.2.2.1, keep_below k2 hHeld.2.2.2.1, keep_below k2 hHeld.2.2.2.2.1, keep_below k2 hHeld.2.2.2.2.2.1, keep_below k2 hHeld.2.2.2.2.2.2.1, hHeld.2.2.2.2.2.2.2.1.below k2, btrans hHeld.2.2.2.2.2.2.2.2 k2⟩
            clear hK K
            (try simp only [putQ]); refine stY fo9_5 o9_5_3 15 ?_; try simp only [putQ]; refine stY fo9_5 o9_5_4 31 ?_; try simp only [putQ]; refine stY fo9_5 o9_5_5 63 ?_; try simp only [putQ]; refine stY fo9_5 o9_5_6 127 ?_; try simp only [putQ]; refine stY fo9_5 o9_5_7 255 ?_; try simp only [putQ]
            refine stC fo9_5 o9_5_8 511 (fun K hK => ?_)
            go_simp
            refine (lsite_any me _).mono ?_; rintro r w3 ⟨rfl, hw⟩; obtain rfl := hw.symm; clear hw; rw [hsm.out]
            go_wp2_with fail
            refine hK.out _ _ ?_ (fun hHeld => ?_)
            · (try dsimp only); exact hHeld
            clear hK K
            (try simp only [putQ])
            refine stC fo9_5 o9_5_9 1023 (fun K hK => ?_)
            go_simp
            refine (ssite_lit ta tl tc F sm true y9.out _ hHeld.2.2.2.2.2.2.2.1.f hHeld.2.2.2.2.2.2.2.1.hf).mono ?_; rintro r w3 ⟨rfl, k3⟩
            go_wp2_with fail
            refine hK.out _ _ ?_ (fun hHeld => ?_)
            · (try dsimp only); exact ⟨range_below' hHeld.1 k3, keep_below k3 hHeld.2.1, keep_below k3 hHeld.2.2.1, keep_below k3 hHeld.2.2.2.1, keep_below k3 hHeld.2.2.2.2.1, keep_below k3 hHeld.2.2.2.2.2.1, keep_below k3 hHeld.2.2.2.2.2.2.1, hHeld.2.2.2.2.2.2.2.1.below k3, btrans hHeld.2.2.2.2.2.2.2.2 k3⟩
            clear hK K
            (try simp only [putQ]); refine stY fo9_5 o9_5_10 2047 ?_; try simp only [putQ]; refine stY fo9_5 o9_5_11 4095 ?_; try simp only [putQ]
            refine stW (.agg #[.int .i64 me, .bool true, .bool gone, .bool gate, .int .i64 inc, .int .i64 now, .int .i64 sq, .int .i64 turn, .slice ta tl tc, .slice ca cl cc, .int .i64 pn, .int .i64 ps, .int .i64 pq, .bool pa, .slice da dl dc, .int .i64 cx, .int .i64 cy, .int .i64 ch, .int .i64 ce, .slice pla pll plc, .slice oa ol oc]) fo9_5 o9_5_12 8191 (load43 (by rfl) (.tmp 1) rfl w.heap.size rfl [.int .i64 me, .bool true, .bool gone, .bool gate, .int .i64 inc, .int .i64 now, .int .i64 sq, .int .i64 turn, .slice ta tl tc, .slice ca cl cc, .int .i64 pn, .int .i64 ps, .int .i64 pq, .bool pa, .slice da dl dc, .int .i64 cx, .int .i64 cy, .int .i64 ch, .int .i64 ce, .slice pla pll plc, .slice oa ol oc] (fun w hSw => hSw.1) rfl) ?_
            (try simp only [putQ])
            refine stC fo9_5 o9_5_13 16383 (fun K hK => ?_)
            go_simp
            refine (sself_lit me true gone gate inc now sq turn ta tl tc ca cl cc pn ps pq pa da dl dc cx cy ch ce pla pll plc oa ol oc F GI GD GP GO true y13.out _ hHeld.2.2.2.2.2.2.2.1).mono ?_; rintro r w5 ⟨rfl, k5⟩
            go_wp2_with fail
            refine hK.out _ _ ?_ (fun hHeld => ?_)
            · (try dsimp only); exact ⟨range_below' hHeld.1 k5, keep_below k5 hHeld.2.1, keep_below k5 hHeld.2.2.1, keep_below k5 hHeld.2.2.2.1, keep_below k5 hHeld.2.2.2.2.1, keep_below k5 hHeld.2.2.2.2.2.1, keep_below k5 hHeld.2.2.2.2.2.2.1, hHeld.2.2.2.2.2.2.2.1.below k5, btrans hHeld.2.2.2.2.2.2.2.2 k5⟩
            clear hK K
            (try simp only [putQ]); refine stY fo9_5 o9_5_14 32767 ?_; try simp only [putQ]; refine stY fo9_5 o9_5_15 65535 ?_; try simp only [putQ]
            refine stW (.agg #[.int .i64 me, .bool true, .bool gone, .bool gate, .int .i64 inc, .int .i64 now, .int .i64 sq, .int .i64 turn, .slice ta tl tc, .slice ca cl cc, .int .i64 pn, .int .i64 ps, .int .i64 pq, .bool pa, .slice da dl dc, .int .i64 cx, .int .i64 cy, .int .i64 ch, .int .i64 ce, .slice pla pll plc, .slice oa ol oc]) fo9_5 o9_5_16 131071 (load43 (by rfl) (.tmp 1) rfl w.heap.size rfl [.int .i64 me, .bool true, .bool gone, .bool gate, .int .i64 inc, .int .i64 now, .int .i64 sq, .int .i64 turn, .slice ta tl tc, .slice ca cl cc, .int .i64 pn, .int .i64 ps, .int .i64 pq, .bool pa, .slice da dl dc, .int .i64 cx, .int .i64 cy, .int .i64 ch, .int .i64 ce, .slice pla pll plc, .slice oa ol oc] (fun w hSw => hSw.1) rfl) ?_
            (try simp only [putQ])
            refine stC fo9_5 o9_5_17 262143 (fun K hK => ?_)
            go_simp
            refine (scast_lit me true gone gate inc now sq turn ta tl tc ca cl cc pn ps pq pa da dl dc cx cy ch ce pla pll plc oa ol oc F GI GD GP GO true y17.out _ hHeld.2.2.2.2.2.2.2.1).mono ?_; rintro r w5 ⟨rfl, k5⟩
            go_wp2_with fail
            refine hK.out _ _ ?_ (fun hHeld => ?_)
            · (try dsimp only); exact ⟨range_below' hHeld.1 k5, keep_below k5 hHeld.2.1, keep_below k5 hHeld.2.2.1, keep_below k5 hHeld.2.2.2.1, keep_below k5 hHeld.2.2.2.2.1, keep_below k5 hHeld.2.2.2.2.2.1, keep_below k5 hHeld.2.2.2.2.2.2.1, hHeld.2.2.2.2.2.2.2.1.below k5, btrans hHeld.2.2.2.2.2.2.2.2 k5⟩
            clear hK K
            (try simp only [putQ]); refine stY fo9_5 o9_5_18 524287 ?_; try simp only [putQ]; refine stY fo9_5 o9_5_19 1048575 ?_; try simp only [putQ]
            refine stW (.agg #[.int .i64 me, .bool true, .bool gone, .bool gate, .int .i64 inc, .int .i64 now, .int .i64 sq, .int .i64 turn, .slice ta tl tc, .slice ca cl cc, .int .i64 pn, .int .i64 ps, .int .i64 pq, .bool pa, .slice da dl dc, .int .i64 cx, .int .i64 cy, .int .i64 ch, .int .i64 ce, .slice pla pll plc, .slice oa ol oc]) fo9_5 o9_5_20 2097151 (load43 (by rfl) (.tmp 1) rfl w.heap.size rfl [.int .i64 me, .bool true, .bool gone, .bool gate, .int .i64 inc, .int .i64 now, .int .i64 sq, .int .i64 turn, .slice ta tl tc, .slice ca cl cc, .int .i64 pn, .int .i64 ps, .int .i64 pq, .bool pa, .slice da dl dc, .int .i64 cx, .int .i64 cy, .int .i64 ch, .int .i64 ce, .slice pla pll plc, .slice oa ol oc] (fun w hSw => hSw.1) rfl) ?_
            (try simp only [putQ])
            refine stC fo9_5 o9_5_21 4194303 (fun K hK => ?_)
            go_simp
            refine (sprobe_lit me true gone gate inc now sq turn ta tl tc ca cl cc pn ps pq pa da dl dc cx cy ch ce pla pll plc oa ol oc F GI GD GP GO false y21.out _ hHeld.2.2.2.2.2.2.2.1).mono ?_; rintro r w5 ⟨rfl, k5⟩
            go_wp2_with fail
            refine hK.out _ _ ?_ (fun hHeld => ?_)
            · (try dsimp only); exact ⟨range_below' hHeld.1 k5, keep_below k5 hHeld.2.1, keep_below k5 hHeld.2.2.1, keep_below k5 hHeld.2.2.2.1, keep_below k5 hHeld.2.2.2.2.1, keep_below k5 hHeld.2.2.2.2.2.1, keep_below k5 hHeld.2.2.2.2.2.2.1, hHeld.2.2.2.2.2.2.2.1.below k5, btrans hHeld.2.2.2.2.2.2.2.2 k5⟩
            clear hK K
            (try simp only [putQ]); refine stY fo9_5 o9_5_22 8388607 ?_; try simp only [putQ]; refine stY fo9_5 o9_5_23 16777215 ?_; try simp only [putQ]; refine stN fo9_5 o9_5_24 33554431 ?_; try simp only [putQ]; refine stN fo9_5 o9_5_25 67108863 ?_; try simp only [putQ]; refine stY fo9_5 o9_5_26 134217727 ?_; try simp only [putQ]; refine stY fo9_5 o9_5_27 268435455 ?_; try simp only [putQ]; refine stN fo9_5 o9_5_28 536870911 ?_; try simp only [putQ]; refine stN fo9_5 o9_5_29 1073741823 ?_; try simp only [putQ]; refine stN fo9_5 o9_5_30 2147483647 ?_; try simp only [putQ]; refine stY fo9_5 o9_5_31 4294967295 ?_; try simp only [putQ]; refine stY fo9_5 o9_5_32 8589934591 ?_; try simp only [putQ]; refine stN fo9_5 o9_5_33 17179869183 ?_; try simp only [putQ]; refine stN fo9_5 o9_5_34 34359738367 ?_; try simp only [putQ]; refine stY fo9_5 o9_5_35 68719476735 ?_; try simp only [putQ]; refine stY fo9_5 o9_5_36 137438953471 ?_; try simp only [putQ]; refine stN fo9_5 o9_5_37 274877906943 ?_; try simp only [putQ]; refine stN fo9_5 o9_5_38 549755813887 ?_; try simp only [putQ]; refine stY fo9_5 o9_5_39 1099511627775 ?_; try simp only [putQ]; refine stY fo9_5 o9_5_40 2199023255551 ?_; try simp only [putQ]
            refine wpAnyH_done (by kernel_rfl) ?_ _
            go_wp2
            go_ret
            exact ⟨ret_bool (by rw [hst.out]; simp [y21.out]), hHeld.2.2.2.2.2.2.2.2⟩
          · have y21 : Hid (sprbB me now sq tl F pn ps pq pa = true) := z
            clear z
            cases z : sdbsB me now tl F dl GD
            · have y25 : Hid (sdbsB me now tl F dl GD = false) := z
              clear z
              refine wp_region_m (S := (fun w' => w'.rangeAt w.heap.size 0 [.int .i64 me, .bool true, .bool gone, .bool gate, .int .i64 inc, .int .i64 now, .int .i64 sq, .int .i64 turn, .slice ta tl tc, .slice ca cl cc, .int .i64 pn, .int .i64 ps, .int .i64 pq, .bool pa, .slice da dl dc, .int .i64 cx, .int .i64 cy, .int .i64 ch, .int .i64 ce, .slice pla pll plc, .slice oa ol oc] ∧ w'.cell? ⟨w.heap.size, 0, none⟩ = some (.int .i64 me) ∧ w'.cell? ⟨w.heap.size, 8, none⟩ = some (.slice ta tl tc) ∧ w'.cell? ⟨w.heap.size, 15, none⟩ = some (.int .i64 cx) ∧ w'.cell? ⟨w.heap.size, 16, none⟩ = some (.int .i64 cy) ∧ w'.cell? ⟨w.heap.size, 17, none⟩ = some (.int .i64 ch) ∧ w'.cell? ⟨w.heap.size, 18, none⟩ = some (.int .i64 ce) ∧ NdIn w' ta tl F ca cl GI da dl GD pla pll GP oa ol GO ∧ Below w.heap.size w w')) o9_5 41 fo9_5 ?_ (fun hHeld => ?_)
              · (try dsimp only); exact ⟨range_drew r0, keep_drew d0, keep_drew d8, keep_drew d15, keep_drew d16, keep_drew d17, keep_drew d18, h0.below (Below.refl _ _).drew, b0.drew⟩
              refine stY fo9_5 o9_5_0 1 ?_; try simp only [putQ]; refine stY fo9_5 o9_5_1 3 ?_; try simp only [putQ]
              refine stC fo9_5 o9_5_2 7 (fun K hK => ?_)
              go_simp
              refine (stok_lit ta tl tc F true _ hHeld.2.2.2.2.2.2.2.1.f hHeld.2.2.2.2.2.2.2.1.hf y2.out).mono ?_; rintro r w2 ⟨rfl, k2⟩
              go_wp2_with fail
              refine hK.out _ _ ?_ (fun hHeld => ?_)
              · (try dsimp only); exact ⟨range_below' hHeld.1 k2, keep_below k2 hHeld.2.1, keep_below k2 hHeld.2.2.1, keep_below k2 hHeld.2.2.2.1, keep_below k2 hHeld.2.2.2.2.1, keep_below k2 hHeld.2.2.2.2.2.1, keep_below k2 hHeld.2.2.2.2.2.2.1, hHeld.2.2.2.2.2.2.2.1.below k2, btrans hHeld.2.2.2.2.2.2.2.2 k2⟩
              clear hK K
              (try simp only [putQ]); refine stY fo9_5 o9_5_3 15 ?_; try simp only [putQ]; refine stY fo9_5 o9_5_4 31 ?_; try simp only [putQ]; refine stY fo9_5 o9_5_5 63 ?_; try simp only [putQ]; refine stY fo9_5 o9_5_6 127 ?_; try simp only [putQ]; refine stY fo9_5 o9_5_7 255 ?_; try simp only [putQ]
              refine stC fo9_5 o9_5_8 511 (fun K hK => ?_)
              go_simp
              refine (lsite_any me _).mono ?_; rintro r w3 ⟨rfl, hw⟩; obtain rfl := hw.symm; clear hw; rw [hsm.out]
              go_wp2_with fail
              refine hK.out _ _ ?_ (fun hHeld => ?_)
              · (try dsimp only); exact hHeld
              clear hK K
              (try simp only [putQ])
              refine stC fo9_5 o9_5_9 1023 (fun K hK => ?_)
              go_simp
              refine (ssite_lit ta tl tc F sm true y9.out _ hHeld.2.2.2.2.2.2.2.1.f hHeld.2.2.2.2.2.2.2.1.hf).mono ?_; rintro r w3 ⟨rfl, k3⟩
              go_wp2_with fail
              refine hK.out _ _ ?_ (fun hHeld => ?_)
              · (try dsimp only); exact ⟨range_below' hHeld.1 k3, keep_below k3 hHeld.2.1, keep_below k3 hHeld.2.2.1, keep_below k3 hHeld.2.2.2.1, keep_below k3 hHeld.2.2.2.2.1, keep_below k3 hHeld.2.2.2.2.2.1, keep_below k3 hHeld.2.2.2.2.2.2.1, hHeld.2.2.2.2.2.2.2.1.below k3, btrans hHeld.2.2.2.2.2.2.2.2 k3⟩
              clear hK K
              (try simp only [putQ]); refine stY fo9_5 o9_5_10 2047 ?_; try simp only [putQ]; refine stY fo9_5 o9_5_11 4095 ?_; try simp only [putQ]
              refine stW (.agg #[.int .i64 me, .bool true, .bool gone, .bool gate, .int .i64 inc, .int .i64 now, .int .i64 sq, .int .i64 turn, .slice ta tl tc, .slice ca cl cc, .int .i64 pn, .int .i64 ps, .int .i64 pq, .bool pa, .slice da dl dc, .int .i64 cx, .int .i64 cy, .int .i64 ch, .int .i64 ce, .slice pla pll plc, .slice oa ol oc]) fo9_5 o9_5_12 8191 (load43 (by rfl) (.tmp 1) rfl w.heap.size rfl [.int .i64 me, .bool true, .bool gone, .bool gate, .int .i64 inc, .int .i64 now, .int .i64 sq, .int .i64 turn, .slice ta tl tc, .slice ca cl cc, .int .i64 pn, .int .i64 ps, .int .i64 pq, .bool pa, .slice da dl dc, .int .i64 cx, .int .i64 cy, .int .i64 ch, .int .i64 ce, .slice pla pll plc, .slice oa ol oc] (fun w hSw => hSw.1) rfl) ?_
              (try simp only [putQ])
              refine stC fo9_5 o9_5_13 16383 (fun K hK => ?_)
              go_simp
              refine (sself_lit me true gone gate inc now sq turn ta tl tc ca cl cc pn ps pq pa da dl dc cx cy ch ce pla pll plc oa ol oc F GI GD GP GO true y13.out _ hHeld.2.2.2.2.2.2.2.1).mono ?_; rintro r w5 ⟨rfl, k5⟩
              go_wp2_with fail
              refine hK.out _ _ ?_ (fun hHeld => ?_)
              · (try dsimp only); exact ⟨range_below' hHeld.1 k5, keep_below k5 hHeld.2.1, keep_below k5 hHeld.2.2.1, keep_below k5 hHeld.2.2.2.1, keep_below k5 hHeld.2.2.2.2.1, keep_below k5 hHeld.2.2.2.2.2.1, keep_below k5 hHeld.2.2.2.2.2.2.1, hHeld.2.2.2.2.2.2.2.1.below k5, btrans hHeld.2.2.2.2.2.2.2.2 k5⟩
              clear hK K
              (try simp only [putQ]); refine stY fo9_5 o9_5_14 32767 ?_; try simp only [putQ]; refine stY fo9_5 o9_5_15 65535 ?_; try simp only [putQ]
              refine stW (.agg #[.int .i64 me, .bool true, .bool gone, .bool gate, .int .i64 inc, .int .i64 now, .int .i64 sq, .int .i64 turn, .slice ta tl tc, .slice ca cl cc, .int .i64 pn, .int .i64 ps, .int .i64 pq, .bool pa, .slice da dl dc, .int .i64 cx, .int .i64 cy, .int .i64 ch, .int .i64 ce, .slice pla pll plc, .slice oa ol oc]) fo9_5 o9_5_16 131071 (load43 (by rfl) (.tmp 1) rfl w.heap.size rfl [.int .i64 me, .bool true, .bool gone, .bool gate, .int .i64 inc, .int .i64 now, .int .i64 sq, .int .i64 turn, .slice ta tl tc, .slice ca cl cc, .int .i64 pn, .int .i64 ps, .int .i64 pq, .bool pa, .slice da dl dc, .int .i64 cx, .int .i64 cy, .int .i64 ch, .int .i64 ce, .slice pla pll plc, .slice oa ol oc] (fun w hSw => hSw.1) rfl) ?_
              (try simp only [putQ])
              refine stC fo9_5 o9_5_17 262143 (fun K hK => ?_)
              go_simp
              refine (scast_lit me true gone gate inc now sq turn ta tl tc ca cl cc pn ps pq pa da dl dc cx cy ch ce pla pll plc oa ol oc F GI GD GP GO true y17.out _ hHeld.2.2.2.2.2.2.2.1).mono ?_; rintro r w5 ⟨rfl, k5⟩
              go_wp2_with fail
              refine hK.out _ _ ?_ (fun hHeld => ?_)
              · (try dsimp only); exact ⟨range_below' hHeld.1 k5, keep_below k5 hHeld.2.1, keep_below k5 hHeld.2.2.1, keep_below k5 hHeld.2.2.2.1, keep_below k5 hHeld.2.2.2.2.1, keep_below k5 hHeld.2.2.2.2.2.1, keep_below k5 hHeld.2.2.2.2.2.2.1, hHeld.2.2.2.2.2.2.2.1.below k5, btrans hHeld.2.2.2.2.2.2.2.2 k5⟩
              clear hK K
              (try simp only [putQ]); refine stY fo9_5 o9_5_18 524287 ?_; try simp only [putQ]; refine stY fo9_5 o9_5_19 1048575 ?_; try simp only [putQ]
              refine stW (.agg #[.int .i64 me, .bool true, .bool gone, .bool gate, .int .i64 inc, .int .i64 now, .int .i64 sq, .int .i64 turn, .slice ta tl tc, .slice ca cl cc, .int .i64 pn, .int .i64 ps, .int .i64 pq, .bool pa, .slice da dl dc, .int .i64 cx, .int .i64 cy, .int .i64 ch, .int .i64 ce, .slice pla pll plc, .slice oa ol oc]) fo9_5 o9_5_20 2097151 (load43 (by rfl) (.tmp 1) rfl w.heap.size rfl [.int .i64 me, .bool true, .bool gone, .bool gate, .int .i64 inc, .int .i64 now, .int .i64 sq, .int .i64 turn, .slice ta tl tc, .slice ca cl cc, .int .i64 pn, .int .i64 ps, .int .i64 pq, .bool pa, .slice da dl dc, .int .i64 cx, .int .i64 cy, .int .i64 ch, .int .i64 ce, .slice pla pll plc, .slice oa ol oc] (fun w hSw => hSw.1) rfl) ?_
              (try simp only [putQ])
              refine stC fo9_5 o9_5_21 4194303 (fun K hK => ?_)
              go_simp
              refine (sprobe_lit me true gone gate inc now sq turn ta tl tc ca cl cc pn ps pq pa da dl dc cx cy ch ce pla pll plc oa ol oc F GI GD GP GO true y21.out _ hHeld.2.2.2.2.2.2.2.1).mono ?_; rintro r w5 ⟨rfl, k5⟩
              go_wp2_with fail
              refine hK.out _ _ ?_ (fun hHeld => ?_)
              · (try dsimp only); exact ⟨range_below' hHeld.1 k5, keep_below k5 hHeld.2.1, keep_below k5 hHeld.2.2.1, keep_below k5 hHeld.2.2.2.1, keep_below k5 hHeld.2.2.2.2.1, keep_below k5 hHeld.2.2.2.2.2.1, keep_below k5 hHeld.2.2.2.2.2.2.1, hHeld.2.2.2.2.2.2.2.1.below k5, btrans hHeld.2.2.2.2.2.2.2.2 k5⟩
              clear hK K
              (try simp only [putQ]); refine stY fo9_5 o9_5_22 8388607 ?_; try simp only [putQ]; refine stY fo9_5 o9_5_23 16777215 ?_; try simp only [putQ]
              refine stW (.agg #[.int .i64 me, .bool true, .bool gone, .bool gate, .int .i64 inc, .int .i64 now, .int .i64 sq, .int .i64 turn, .slice ta tl tc, .slice ca cl cc, .int .i64 pn, .int .i64 ps, .int .i64 pq, .bool pa, .slice da dl dc, .int .i64 cx, .int .i64 cy, .int .i64 ch, .int .i64 ce, .slice pla pll plc, .slice oa ol oc]) fo9_5 o9_5_24 33554431 (load43 (by rfl) (.tmp 1) rfl w.heap.size rfl [.int .i64 me, .bool true, .bool gone, .bool gate, .int .i64 inc, .int .i64 now, .int .i64 sq, .int .i64 turn, .slice ta tl tc, .slice ca cl cc, .int .i64 pn, .int .i64 ps, .int .i64 pq, .bool pa, .slice da dl dc, .int .i64 cx, .int .i64 cy, .int .i64 ch, .int .i64 ce, .slice pla pll plc, .slice oa ol oc] (fun w hSw => hSw.1) rfl) ?_
              (try simp only [putQ])
              refine stC fo9_5 o9_5_25 67108863 (fun K hK => ?_)
              go_simp
              refine (sdbs_lit me true gone gate inc now sq turn ta tl tc ca cl cc pn ps pq pa da dl dc cx cy ch ce pla pll plc oa ol oc F GI GD GP GO false y25.out _ hHeld.2.2.2.2.2.2.2.1).mono ?_; rintro r w5 ⟨rfl, k5⟩
              go_wp2_with fail
              refine hK.out _ _ ?_ (fun hHeld => ?_)
              · (try dsimp only); exact ⟨range_below' hHeld.1 k5, keep_below k5 hHeld.2.1, keep_below k5 hHeld.2.2.1, keep_below k5 hHeld.2.2.2.1, keep_below k5 hHeld.2.2.2.2.1, keep_below k5 hHeld.2.2.2.2.2.1, keep_below k5 hHeld.2.2.2.2.2.2.1, hHeld.2.2.2.2.2.2.2.1.below k5, btrans hHeld.2.2.2.2.2.2.2.2 k5⟩
              clear hK K
              (try simp only [putQ]); refine stY fo9_5 o9_5_26 134217727 ?_; try simp only [putQ]; refine stY fo9_5 o9_5_27 268435455 ?_; try simp only [putQ]; refine stN fo9_5 o9_5_28 536870911 ?_; try simp only [putQ]; refine stN fo9_5 o9_5_29 1073741823 ?_; try simp only [putQ]; refine stN fo9_5 o9_5_30 2147483647 ?_; try simp only [putQ]; refine stY fo9_5 o9_5_31 4294967295 ?_; try simp only [putQ]; refine stY fo9_5 o9_5_32 8589934591 ?_; try simp only [putQ]; refine stN fo9_5 o9_5_33 17179869183 ?_; try simp only [putQ]; refine stN fo9_5 o9_5_34 34359738367 ?_; try simp only [putQ]; refine stY fo9_5 o9_5_35 68719476735 ?_; try simp only [putQ]; refine stY fo9_5 o9_5_36 137438953471 ?_; try simp only [putQ]; refine stN fo9_5 o9_5_37 274877906943 ?_; try simp only [putQ]; refine stN fo9_5 o9_5_38 549755813887 ?_; try simp only [putQ]; refine stY fo9_5 o9_5_39 1099511627775 ?_; try simp only [putQ]; refine stY fo9_5 o9_5_40 2199023255551 ?_; try simp only [putQ]
              refine wpAnyH_done (by kernel_rfl) ?_ _
              go_wp2
              go_ret
              exact ⟨ret_bool (by rw [hst.out]; simp [y25.out]), hHeld.2.2.2.2.2.2.2.2⟩
            · have y25 : Hid (sdbsB me now tl F dl GD = true) := z
              clear z
              cases z : cok cx cy ch ce
              · have y30 : Hid (cok cx cy ch ce = false) := z
                clear z
                refine wp_region_m (S := (fun w' => w'.rangeAt w.heap.size 0 [.int .i64 me, .bool true, .bool gone, .bool gate, .int .i64 inc, .int .i64 now, .int .i64 sq, .int .i64 turn, .slice ta tl tc, .slice ca cl cc, .int .i64 pn, .int .i64 ps, .int .i64 pq, .bool pa, .slice da dl dc, .int .i64 cx, .int .i64 cy, .int .i64 ch, .int .i64 ce, .slice pla pll plc, .slice oa ol oc] ∧ w'.cell? ⟨w.heap.size, 0, none⟩ = some (.int .i64 me) ∧ w'.cell? ⟨w.heap.size, 8, none⟩ = some (.slice ta tl tc) ∧ w'.cell? ⟨w.heap.size, 15, none⟩ = some (.int .i64 cx) ∧ w'.cell? ⟨w.heap.size, 16, none⟩ = some (.int .i64 cy) ∧ w'.cell? ⟨w.heap.size, 17, none⟩ = some (.int .i64 ch) ∧ w'.cell? ⟨w.heap.size, 18, none⟩ = some (.int .i64 ce) ∧ NdIn w' ta tl F ca cl GI da dl GD pla pll GP oa ol GO ∧ Below w.heap.size w w')) o9_5 41 fo9_5 ?_ (fun hHeld => ?_)
                · (try dsimp only); exact ⟨range_drew r0, keep_drew d0, keep_drew d8, keep_drew d15, keep_drew d16, keep_drew d17, keep_drew d18, h0.below (Below.refl _ _).drew, b0.drew⟩
                refine stY fo9_5 o9_5_0 1 ?_; try simp only [putQ]; refine stY fo9_5 o9_5_1 3 ?_; try simp only [putQ]
                refine stC fo9_5 o9_5_2 7 (fun K hK => ?_)
                go_simp
                refine (stok_lit ta tl tc F true _ hHeld.2.2.2.2.2.2.2.1.f hHeld.2.2.2.2.2.2.2.1.hf y2.out).mono ?_; rintro r w2 ⟨rfl, k2⟩
                go_wp2_with fail
                refine hK.out _ _ ?_ (fun hHeld => ?_)
                · (try dsimp only); exact ⟨range_below' hHeld.1 k2, keep_below k2 hHeld.2.1, keep_below k2 hHeld.2.2.1, keep_below k2 hHeld.2.2.2.1, keep_below k2 hHeld.2.2.2.2.1, keep_below k2 hHeld.2.2.2.2.2.1, keep_below k2 hHeld.2.2.2.2.2.2.1, hHeld.2.2.2.2.2.2.2.1.below k2, btrans hHeld.2.2.2.2.2.2.2.2 k2⟩
                clear hK K
                (try simp only [putQ]); refine stY fo9_5 o9_5_3 15 ?_; try simp only [putQ]; refine stY fo9_5 o9_5_4 31 ?_; try simp only [putQ]; refine stY fo9_5 o9_5_5 63 ?_; try simp only [putQ]; refine stY fo9_5 o9_5_6 127 ?_; try simp only [putQ]; refine stY fo9_5 o9_5_7 255 ?_; try simp only [putQ]
                refine stC fo9_5 o9_5_8 511 (fun K hK => ?_)
                go_simp
                refine (lsite_any me _).mono ?_; rintro r w3 ⟨rfl, hw⟩; obtain rfl := hw.symm; clear hw; rw [hsm.out]
                go_wp2_with fail
                refine hK.out _ _ ?_ (fun hHeld => ?_)
                · (try dsimp only); exact hHeld
                clear hK K
                (try simp only [putQ])
                refine stC fo9_5 o9_5_9 1023 (fun K hK => ?_)
                go_simp
                refine (ssite_lit ta tl tc F sm true y9.out _ hHeld.2.2.2.2.2.2.2.1.f hHeld.2.2.2.2.2.2.2.1.hf).mono ?_; rintro r w3 ⟨rfl, k3⟩
                go_wp2_with fail
                refine hK.out _ _ ?_ (fun hHeld => ?_)
                · (try dsimp only); exact ⟨range_below' hHeld.1 k3, keep_below k3 hHeld.2.1, keep_below k3 hHeld.2.2.1, keep_below k3 hHeld.2.2.2.1, keep_below k3 hHeld.2.2.2.2.1, keep_below k3 hHeld.2.2.2.2.2.1, keep_below k3 hHeld.2.2.2.2.2.2.1, hHeld.2.2.2.2.2.2.2.1.below k3, btrans hHeld.2.2.2.2.2.2.2.2 k3⟩
                clear hK K
                (try simp only [putQ]); refine stY fo9_5 o9_5_10 2047 ?_; try simp only [putQ]; refine stY fo9_5 o9_5_11 4095 ?_; try simp only [putQ]
                refine stW (.agg #[.int .i64 me, .bool true, .bool gone, .bool gate, .int .i64 inc, .int .i64 now, .int .i64 sq, .int .i64 turn, .slice ta tl tc, .slice ca cl cc, .int .i64 pn, .int .i64 ps, .int .i64 pq, .bool pa, .slice da dl dc, .int .i64 cx, .int .i64 cy, .int .i64 ch, .int .i64 ce, .slice pla pll plc, .slice oa ol oc]) fo9_5 o9_5_12 8191 (load43 (by rfl) (.tmp 1) rfl w.heap.size rfl [.int .i64 me, .bool true, .bool gone, .bool gate, .int .i64 inc, .int .i64 now, .int .i64 sq, .int .i64 turn, .slice ta tl tc, .slice ca cl cc, .int .i64 pn, .int .i64 ps, .int .i64 pq, .bool pa, .slice da dl dc, .int .i64 cx, .int .i64 cy, .int .i64 ch, .int .i64 ce, .slice pla pll plc, .slice oa ol oc] (fun w hSw => hSw.1) rfl) ?_
                (try simp only [putQ])
                refine stC fo9_5 o9_5_13 16383 (fun K hK => ?_)
                go_simp
                refine (sself_lit me true gone gate inc now sq turn ta tl tc ca cl cc pn ps pq pa da dl dc cx cy ch ce pla pll plc oa ol oc F GI GD GP GO true y13.out _ hHeld.2.2.2.2.2.2.2.1).mono ?_; rintro r w5 ⟨rfl, k5⟩
                go_wp2_with fail
                refine hK.out _ _ ?_ (fun hHeld => ?_)
                · (try dsimp only); exact ⟨range_below' hHeld.1 k5, keep_below k5 hHeld.2.1, keep_below k5 hHeld.2.2.1, keep_below k5 hHeld.2.2.2.1, keep_below k5 hHeld.2.2.2.2.1, keep_below k5 hHeld.2.2.2.2.2.1, keep_below k5 hHeld.2.2.2.2.2.2.1, hHeld.2.2.2.2.2.2.2.1.below k5, btrans hHeld.2.2.2.2.2.2.2.2 k5⟩
                clear hK K
                (try simp only [putQ]); refine stY fo9_5 o9_5_14 32767 ?_; try simp only [putQ]; refine stY fo9_5 o9_5_15 65535 ?_; try simp only [putQ]
                refine stW (.agg #[.int .i64 me, .bool true, .bool gone, .bool gate, .int .i64 inc, .int .i64 now, .int .i64 sq, .int .i64 turn, .slice ta tl tc, .slice ca cl cc, .int .i64 pn, .int .i64 ps, .int .i64 pq, .bool pa, .slice da dl dc, .int .i64 cx, .int .i64 cy, .int .i64 ch, .int .i64 ce, .slice pla pll plc, .slice oa ol oc]) fo9_5 o9_5_16 131071 (load43 (by rfl) (.tmp 1) rfl w.heap.size rfl [.int .i64 me, .bool true, .bool gone, .bool gate, .int .i64 inc, .int .i64 now, .int .i64 sq, .int .i64 turn, .slice ta tl tc, .slice ca cl cc, .int .i64 pn, .int .i64 ps, .int .i64 pq, .bool pa, .slice da dl dc, .int .i64 cx, .int .i64 cy, .int .i64 ch, .int .i64 ce, .slice pla pll plc, .slice oa ol oc] (fun w hSw => hSw.1) rfl) ?_
                (try simp only [putQ])
                refine stC fo9_5 o9_5_17 262143 (fun K hK => ?_)
                go_simp
                refine (scast_lit me true gone gate inc now sq turn ta tl tc ca cl cc pn ps pq pa da dl dc cx cy ch ce pla pll plc oa ol oc F GI GD GP GO true y17.out _ hHeld.2.2.2.2.2.2.2.1).mono ?_; rintro r w5 ⟨rfl, k5⟩
                go_wp2_with fail
                refine hK.out _ _ ?_ (fun hHeld => ?_)
                · (try dsimp only); exact ⟨range_below' hHeld.1 k5, keep_below k5 hHeld.2.1, keep_below k5 hHeld.2.2.1, keep_below k5 hHeld.2.2.2.1, keep_below k5 hHeld.2.2.2.2.1, keep_below k5 hHeld.2.2.2.2.2.1, keep_below k5 hHeld.2.2.2.2.2.2.1, hHeld.2.2.2.2.2.2.2.1.below k5, btrans hHeld.2.2.2.2.2.2.2.2 k5⟩
                clear hK K
                (try simp only [putQ]); refine stY fo9_5 o9_5_18 524287 ?_; try simp only [putQ]; refine stY fo9_5 o9_5_19 1048575 ?_; try simp only [putQ]
                refine stW (.agg #[.int .i64 me, .bool true, .bool gone, .bool gate, .int .i64 inc, .int .i64 now, .int .i64 sq, .int .i64 turn, .slice ta tl tc, .slice ca cl cc, .int .i64 pn, .int .i64 ps, .int .i64 pq, .bool pa, .slice da dl dc, .int .i64 cx, .int .i64 cy, .int .i64 ch, .int .i64 ce, .slice pla pll plc, .slice oa ol oc]) fo9_5 o9_5_20 2097151 (load43 (by rfl) (.tmp 1) rfl w.heap.size rfl [.int .i64 me, .bool true, .bool gone, .bool gate, .int .i64 inc, .int .i64 now, .int .i64 sq, .int .i64 turn, .slice ta tl tc, .slice ca cl cc, .int .i64 pn, .int .i64 ps, .int .i64 pq, .bool pa, .slice da dl dc, .int .i64 cx, .int .i64 cy, .int .i64 ch, .int .i64 ce, .slice pla pll plc, .slice oa ol oc] (fun w hSw => hSw.1) rfl) ?_
                (try simp only [putQ])
                refine stC fo9_5 o9_5_21 4194303 (fun K hK => ?_)
                go_simp
                refine (sprobe_lit me true gone gate inc now sq turn ta tl tc ca cl cc pn ps pq pa da dl dc cx cy ch ce pla pll plc oa ol oc F GI GD GP GO true y21.out _ hHeld.2.2.2.2.2.2.2.1).mono ?_; rintro r w5 ⟨rfl, k5⟩
                go_wp2_with fail
                refine hK.out _ _ ?_ (fun hHeld => ?_)
                · (try dsimp only); exact ⟨range_below' hHeld.1 k5, keep_below k5 hHeld.2.1, keep_below k5 hHeld.2.2.1, keep_below k5 hHeld.2.2.2.1, keep_below k5 hHeld.2.2.2.2.1, keep_below k5 hHeld.2.2.2.2.2.1, keep_below k5 hHeld.2.2.2.2.2.2.1, hHeld.2.2.2.2.2.2.2.1.below k5, btrans hHeld.2.2.2.2.2.2.2.2 k5⟩
                clear hK K
                (try simp only [putQ]); refine stY fo9_5 o9_5_22 8388607 ?_; try simp only [putQ]; refine stY fo9_5 o9_5_23 16777215 ?_; try simp only [putQ]
                refine stW (.agg #[.int .i64 me, .bool true, .bool gone, .bool gate, .int .i64 inc, .int .i64 now, .int .i64 sq, .int .i64 turn, .slice ta tl tc, .slice ca cl cc, .int .i64 pn, .int .i64 ps, .int .i64 pq, .bool pa, .slice da dl dc, .int .i64 cx, .int .i64 cy, .int .i64 ch, .int .i64 ce, .slice pla pll plc, .slice oa ol oc]) fo9_5 o9_5_24 33554431 (load43 (by rfl) (.tmp 1) rfl w.heap.size rfl [.int .i64 me, .bool true, .bool gone, .bool gate, .int .i64 inc, .int .i64 now, .int .i64 sq, .int .i64 turn, .slice ta tl tc, .slice ca cl cc, .int .i64 pn, .int .i64 ps, .int .i64 pq, .bool pa, .slice da dl dc, .int .i64 cx, .int .i64 cy, .int .i64 ch, .int .i64 ce, .slice pla pll plc, .slice oa ol oc] (fun w hSw => hSw.1) rfl) ?_
                (try simp only [putQ])
                refine stC fo9_5 o9_5_25 67108863 (fun K hK => ?_)
                go_simp
                refine (sdbs_lit me true gone gate inc now sq turn ta tl tc ca cl cc pn ps pq pa da dl dc cx cy ch ce pla pll plc oa ol oc F GI GD GP GO true y25.out _ hHeld.2.2.2.2.2.2.2.1).mono ?_; rintro r w5 ⟨rfl, k5⟩
                go_wp2_with fail
                refine hK.out _ _ ?_ (fun hHeld => ?_)
                · (try dsimp only); exact ⟨range_below' hHeld.1 k5, keep_below k5 hHeld.2.1, keep_below k5 hHeld.2.2.1, keep_below k5 hHeld.2.2.2.1, keep_below k5 hHeld.2.2.2.2.1, keep_below k5 hHeld.2.2.2.2.2.1, keep_below k5 hHeld.2.2.2.2.2.2.1, hHeld.2.2.2.2.2.2.2.1.below k5, btrans hHeld.2.2.2.2.2.2.2.2 k5⟩
                clear hK K
                (try simp only [putQ]); refine stY fo9_5 o9_5_26 134217727 ?_; try simp only [putQ]; refine stY fo9_5 o9_5_27 268435455 ?_; try simp only [putQ]; refine stY fo9_5 o9_5_28 536870911 ?_; try simp only [putQ]; refine stY fo9_5 o9_5_29 1073741823 ?_; try simp only [putQ]
                refine stC fo9_5 o9_5_30 2147483647 (fun K hK => ?_)
                go_simp
                refine (scoord_lit cx cy ch ce false y30.out _).mono ?_; rintro r w4 ⟨rfl, k4⟩
                go_wp2_with fail
                refine hK.out _ _ ?_ (fun hHeld => ?_)
                · (try dsimp only); exact ⟨range_below' hHeld.1 k4, keep_below k4 hHeld.2.1, keep_below k4 hHeld.2.2.1, keep_below k4 hHeld.2.2.2.1, keep_below k4 hHeld.2.2.2.2.1, keep_below k4 hHeld.2.2.2.2.2.1, keep_below k4 hHeld.2.2.2.2.2.2.1, hHeld.2.2.2.2.2.2.2.1.below k4, btrans hHeld.2.2.2.2.2.2.2.2 k4⟩
                clear hK K
                (try simp only [putQ]); refine stY fo9_5 o9_5_31 4294967295 ?_; try simp only [putQ]; refine stY fo9_5 o9_5_32 8589934591 ?_; try simp only [putQ]; refine stN fo9_5 o9_5_33 17179869183 ?_; try simp only [putQ]; refine stN fo9_5 o9_5_34 34359738367 ?_; try simp only [putQ]; refine stY fo9_5 o9_5_35 68719476735 ?_; try simp only [putQ]; refine stY fo9_5 o9_5_36 137438953471 ?_; try simp only [putQ]; refine stN fo9_5 o9_5_37 274877906943 ?_; try simp only [putQ]; refine stN fo9_5 o9_5_38 549755813887 ?_; try simp only [putQ]; refine stY fo9_5 o9_5_39 1099511627775 ?_; try simp only [putQ]; refine stY fo9_5 o9_5_40 2199023255551 ?_; try simp only [putQ]
                refine wpAnyH_done (by kernel_rfl) ?_ _
                go_wp2
                go_ret
                exact ⟨ret_bool (by rw [hst.out]; simp [y30.out]), hHeld.2.2.2.2.2.2.2.2⟩
              · have y30 : Hid (cok cx cy ch ce = true) := z
                clear z
                cases z : plsB me pll GP
                · have y34 : Hid (plsB me pll GP = false) := z
                  clear z
                  refine wp_region_m (S := (fun w' => w'.rangeAt w.heap.size 0 [.int .i64 me, .bool true, .bool gone, .bool gate, .int .i64 inc, .int .i64 now, .int .i64 sq, .int .i64 turn, .slice ta tl tc, .slice ca cl cc, .int .i64 pn, .int .i64 ps, .int .i64 pq, .bool pa, .slice da dl dc, .int .i64 cx, .int .i64 cy, .int .i64 ch, .int .i64 ce, .slice pla pll plc, .slice oa ol oc] ∧ w'.cell? ⟨w.heap.size, 0, none⟩ = some (.int .i64 me) ∧ w'.cell? ⟨w.heap.size, 8, none⟩ = some (.slice ta tl tc) ∧ w'.cell? ⟨w.heap.size, 15, none⟩ = some (.int .i64 cx) ∧ w'.cell? ⟨w.heap.size, 16, none⟩ = some (.int .i64 cy) ∧ w'.cell? ⟨w.heap.size, 17, none⟩ = some (.int .i64 ch) ∧ w'.cell? ⟨w.heap.size, 18, none⟩ = some (.int .i64 ce) ∧ NdIn w' ta tl F ca cl GI da dl GD pla pll GP oa ol GO ∧ Below w.heap.size w w')) o9_5 41 fo9_5 ?_ (fun hHeld => ?_)
                  · (try dsimp only); exact ⟨range_drew r0, keep_drew d0, keep_drew d8, keep_drew d15, keep_drew d16, keep_drew d17, keep_drew d18, h0.below (Below.refl _ _).drew, b0.drew⟩
                  refine stY fo9_5 o9_5_0 1 ?_; try simp only [putQ]; refine stY fo9_5 o9_5_1 3 ?_; try simp only [putQ]
                  refine stC fo9_5 o9_5_2 7 (fun K hK => ?_)
                  go_simp
                  refine (stok_lit ta tl tc F true _ hHeld.2.2.2.2.2.2.2.1.f hHeld.2.2.2.2.2.2.2.1.hf y2.out).mono ?_; rintro r w2 ⟨rfl, k2⟩
                  go_wp2_with fail
                  refine hK.out _ _ ?_ (fun hHeld => ?_)
                  · (try dsimp only); exact ⟨range_below' hHeld.1 k2, keep_below k2 hHeld.2.1, keep_below k2 hHeld.2.2.1, keep_below k2 hHeld.2.2.2.1, keep_below k2 hHeld.2.2.2.2.1, keep_below k2 hHeld.2.2.2.2.2.1, keep_below k2 hHeld.2.2.2.2.2.2.1, hHeld.2.2.2.2.2.2.2.1.below k2, btrans hHeld.2.2.2.2.2.2.2.2 k2⟩
                  clear hK K
                  (try simp only [putQ]); refine stY fo9_5 o9_5_3 15 ?_; try simp only [putQ]; refine stY fo9_5 o9_5_4 31 ?_; try simp only [putQ]; refine stY fo9_5 o9_5_5 63 ?_; try simp only [putQ]; refine stY fo9_5 o9_5_6 127 ?_; try simp only [putQ]; refine stY fo9_5 o9_5_7 255 ?_; try simp only [putQ]
                  refine stC fo9_5 o9_5_8 511 (fun K hK => ?_)
                  go_simp
                  refine (lsite_any me _).mono ?_; rintro r w3 ⟨rfl, hw⟩; obtain rfl := hw.symm; clear hw; rw [hsm.out]
                  go_wp2_with fail
                  refine hK.out _ _ ?_ (fun hHeld => ?_)
                  · (try dsimp only); exact hHeld
                  clear hK K
                  (try simp only [putQ])
                  refine stC fo9_5 o9_5_9 1023 (fun K hK => ?_)
                  go_simp
                  refine (ssite_lit ta tl tc F sm true y9.out _ hHeld.2.2.2.2.2.2.2.1.f hHeld.2.2.2.2.2.2.2.1.hf).mono ?_; rintro r w3 ⟨rfl, k3⟩
                  go_wp2_with fail
                  refine hK.out _ _ ?_ (fun hHeld => ?_)
                  · (try dsimp only); exact ⟨range_below' hHeld.1 k3, keep_below k3 hHeld.2.1, keep_below k3 hHeld.2.2.1, keep_below k3 hHeld.2.2.2.1, keep_below k3 hHeld.2.2.2.2.1, keep_below k3 hHeld.2.2.2.2.2.1, keep_below k3 hHeld.2.2.2.2.2.2.1, hHeld.2.2.2.2.2.2.2.1.below k3, btrans hHeld.2.2.2.2.2.2.2.2 k3⟩
                  clear hK K
                  (try simp only [putQ]); refine stY fo9_5 o9_5_10 2047 ?_; try simp only [putQ]; refine stY fo9_5 o9_5_11 4095 ?_; try simp only [putQ]
                  refine stW (.agg #[.int .i64 me, .bool true, .bool gone, .bool gate, .int .i64 inc, .int .i64 now, .int .i64 sq, .int .i64 turn, .slice ta tl tc, .slice ca cl cc, .int .i64 pn, .int .i64 ps, .int .i64 pq, .bool pa, .slice da dl dc, .int .i64 cx, .int .i64 cy, .int .i64 ch, .int .i64 ce, .slice pla pll plc, .slice oa ol oc]) fo9_5 o9_5_12 8191 (load43 (by rfl) (.tmp 1) rfl w.heap.size rfl [.int .i64 me, .bool true, .bool gone, .bool gate, .int .i64 inc, .int .i64 now, .int .i64 sq, .int .i64 turn, .slice ta tl tc, .slice ca cl cc, .int .i64 pn, .int .i64 ps, .int .i64 pq, .bool pa, .slice da dl dc, .int .i64 cx, .int .i64 cy, .int .i64 ch, .int .i64 ce, .slice pla pll plc, .slice oa ol oc] (fun w hSw => hSw.1) rfl) ?_
                  (try simp only [putQ])
                  refine stC fo9_5 o9_5_13 16383 (fun K hK => ?_)
                  go_simp
                  refine (sself_lit me true gone gate inc now sq turn ta tl tc ca cl cc pn ps pq pa da dl dc cx cy ch ce pla pll plc oa ol oc F GI GD GP GO true y13.out _ hHeld.2.2.2.2.2.2.2.1).mono ?_; rintro r w5 ⟨rfl, k5⟩
                  go_wp2_with fail
                  refine hK.out _ _ ?_ (fun hHeld => ?_)
                  · (try dsimp only); exact ⟨range_below' hHeld.1 k5, keep_below k5 hHeld.2.1, keep_below k5 hHeld.2.2.1, keep_below k5 hHeld.2.2.2.1, keep_below k5 hHeld.2.2.2.2.1, keep_below k5 hHeld.2.2.2.2.2.1, keep_below k5 hHeld.2.2.2.2.2.2.1, hHeld.2.2.2.2.2.2.2.1.below k5, btrans hHeld.2.2.2.2.2.2.2.2 k5⟩
                  clear hK K
                  (try simp only [putQ]); refine stY fo9_5 o9_5_14 32767 ?_; try simp only [putQ]; refine stY fo9_5 o9_5_15 65535 ?_; try simp only [putQ]
                  refine stW (.agg #[.int .i64 me, .bool true, .bool gone, .bool gate, .int .i64 inc, .int .i64 now, .int .i64 sq, .int .i64 turn, .slice ta tl tc, .slice ca cl cc, .int .i64 pn, .int .i64 ps, .int .i64 pq, .bool pa, .slice da dl dc, .int .i64 cx, .int .i64 cy, .int .i64 ch, .int .i64 ce, .slice pla pll plc, .slice oa ol oc]) fo9_5 o9_5_16 131071 (load43 (by rfl) (.tmp 1) rfl w.heap.size rfl [.int .i64 me, .bool true, .bool gone, .bool gate, .int .i64 inc, .int .i64 now, .int .i64 sq, .int .i64 turn, .slice ta tl tc, .slice ca cl cc, .int .i64 pn, .int .i64 ps, .int .i64 pq, .bool pa, .slice da dl dc, .int .i64 cx, .int .i64 cy, .int .i64 ch, .int .i64 ce, .slice pla pll plc, .slice oa ol oc] (fun w hSw => hSw.1) rfl) ?_
                  (try simp only [putQ])
                  refine stC fo9_5 o9_5_17 262143 (fun K hK => ?_)
                  go_simp
                  refine (scast_lit me true gone gate inc now sq turn ta tl tc ca cl cc pn ps pq pa da dl dc cx cy ch ce pla pll plc oa ol oc F GI GD GP GO true y17.out _ hHeld.2.2.2.2.2.2.2.1).mono ?_; rintro r w5 ⟨rfl, k5⟩
                  go_wp2_with fail
                  refine hK.out _ _ ?_ (fun hHeld => ?_)
                  · (try dsimp only); exact ⟨range_below' hHeld.1 k5, keep_below k5 hHeld.2.1, keep_below k5 hHeld.2.2.1, keep_below k5 hHeld.2.2.2.1, keep_below k5 hHeld.2.2.2.2.1, keep_below k5 hHeld.2.2.2.2.2.1, keep_below k5 hHeld.2.2.2.2.2.2.1, hHeld.2.2.2.2.2.2.2.1.below k5, btrans hHeld.2.2.2.2.2.2.2.2 k5⟩
                  clear hK K
                  (try simp only [putQ]); refine stY fo9_5 o9_5_18 524287 ?_; try simp only [putQ]; refine stY fo9_5 o9_5_19 1048575 ?_; try simp only [putQ]
                  refine stW (.agg #[.int .i64 me, .bool true, .bool gone, .bool gate, .int .i64 inc, .int .i64 now, .int .i64 sq, .int .i64 turn, .slice ta tl tc, .slice ca cl cc, .int .i64 pn, .int .i64 ps, .int .i64 pq, .bool pa, .slice da dl dc, .int .i64 cx, .int .i64 cy, .int .i64 ch, .int .i64 ce, .slice pla pll plc, .slice oa ol oc]) fo9_5 o9_5_20 2097151 (load43 (by rfl) (.tmp 1) rfl w.heap.size rfl [.int .i64 me, .bool true, .bool gone, .bool gate, .int .i64 inc, .int .i64 now, .int .i64 sq, .int .i64 turn, .slice ta tl tc, .slice ca cl cc, .int .i64 pn, .int .i64 ps, .int .i64 pq, .bool pa, .slice da dl dc, .int .i64 cx, .int .i64 cy, .int .i64 ch, .int .i64 ce, .slice pla pll plc, .slice oa ol oc] (fun w hSw => hSw.1) rfl) ?_
                  (try simp only [putQ])
                  refine stC fo9_5 o9_5_21 4194303 (fun K hK => ?_)
                  go_simp
                  refine (sprobe_lit me true gone gate inc now sq turn ta tl tc ca cl cc pn ps pq pa da dl dc cx cy ch ce pla pll plc oa ol oc F GI GD GP GO true y21.out _ hHeld.2.2.2.2.2.2.2.1).mono ?_; rintro r w5 ⟨rfl, k5⟩
                  go_wp2_with fail
                  refine hK.out _ _ ?_ (fun hHeld => ?_)
                  · (try dsimp only); exact ⟨range_below' hHeld.1 k5, keep_below k5 hHeld.2.1, keep_below k5 hHeld.2.2.1, keep_below k5 hHeld.2.2.2.1, keep_below k5 hHeld.2.2.2.2.1, keep_below k5 hHeld.2.2.2.2.2.1, keep_below k5 hHeld.2.2.2.2.2.2.1, hHeld.2.2.2.2.2.2.2.1.below k5, btrans hHeld.2.2.2.2.2.2.2.2 k5⟩
                  clear hK K
                  (try simp only [putQ]); refine stY fo9_5 o9_5_22 8388607 ?_; try simp only [putQ]; refine stY fo9_5 o9_5_23 16777215 ?_; try simp only [putQ]
                  refine stW (.agg #[.int .i64 me, .bool true, .bool gone, .bool gate, .int .i64 inc, .int .i64 now, .int .i64 sq, .int .i64 turn, .slice ta tl tc, .slice ca cl cc, .int .i64 pn, .int .i64 ps, .int .i64 pq, .bool pa, .slice da dl dc, .int .i64 cx, .int .i64 cy, .int .i64 ch, .int .i64 ce, .slice pla pll plc, .slice oa ol oc]) fo9_5 o9_5_24 33554431 (load43 (by rfl) (.tmp 1) rfl w.heap.size rfl [.int .i64 me, .bool true, .bool gone, .bool gate, .int .i64 inc, .int .i64 now, .int .i64 sq, .int .i64 turn, .slice ta tl tc, .slice ca cl cc, .int .i64 pn, .int .i64 ps, .int .i64 pq, .bool pa, .slice da dl dc, .int .i64 cx, .int .i64 cy, .int .i64 ch, .int .i64 ce, .slice pla pll plc, .slice oa ol oc] (fun w hSw => hSw.1) rfl) ?_
                  (try simp only [putQ])
                  refine stC fo9_5 o9_5_25 67108863 (fun K hK => ?_)
                  go_simp
                  refine (sdbs_lit me true gone gate inc now sq turn ta tl tc ca cl cc pn ps pq pa da dl dc cx cy ch ce pla pll plc oa ol oc F GI GD GP GO true y25.out _ hHeld.2.2.2.2.2.2.2.1).mono ?_; rintro r w5 ⟨rfl, k5⟩
                  go_wp2_with fail
                  refine hK.out _ _ ?_ (fun hHeld => ?_)
                  · (try dsimp only); exact ⟨range_below' hHeld.1 k5, keep_below k5 hHeld.2.1, keep_below k5 hHeld.2.2.1, keep_below k5 hHeld.2.2.2.1, keep_below k5 hHeld.2.2.2.2.1, keep_below k5 hHeld.2.2.2.2.2.1, keep_below k5 hHeld.2.2.2.2.2.2.1, hHeld.2.2.2.2.2.2.2.1.below k5, btrans hHeld.2.2.2.2.2.2.2.2 k5⟩
                  clear hK K
                  (try simp only [putQ]); refine stY fo9_5 o9_5_26 134217727 ?_; try simp only [putQ]; refine stY fo9_5 o9_5_27 268435455 ?_; try simp only [putQ]; refine stY fo9_5 o9_5_28 536870911 ?_; try simp only [putQ]; refine stY fo9_5 o9_5_29 1073741823 ?_; try simp only [putQ]
                  refine stC fo9_5 o9_5_30 2147483647 (fun K hK => ?_)
                  go_simp
                  refine (scoord_lit cx cy ch ce true y30.out _).mono ?_; rintro r w4 ⟨rfl, k4⟩
                  go_wp2_with fail
                  refine hK.out _ _ ?_ (fun hHeld => ?_)
                  · (try dsimp only); exact ⟨range_below' hHeld.1 k4, keep_below k4 hHeld.2.1, keep_below k4 hHeld.2.2.1, keep_below k4 hHeld.2.2.2.1, keep_below k4 hHeld.2.2.2.2.1, keep_below k4 hHeld.2.2.2.2.2.1, keep_below k4 hHeld.2.2.2.2.2.2.1, hHeld.2.2.2.2.2.2.2.1.below k4, btrans hHeld.2.2.2.2.2.2.2.2 k4⟩
                  clear hK K
                  (try simp only [putQ]); refine stY fo9_5 o9_5_31 4294967295 ?_; try simp only [putQ]; refine stY fo9_5 o9_5_32 8589934591 ?_; try simp only [putQ]
                  refine stW (.agg #[.int .i64 me, .bool true, .bool gone, .bool gate, .int .i64 inc, .int .i64 now, .int .i64 sq, .int .i64 turn, .slice ta tl tc, .slice ca cl cc, .int .i64 pn, .int .i64 ps, .int .i64 pq, .bool pa, .slice da dl dc, .int .i64 cx, .int .i64 cy, .int .i64 ch, .int .i64 ce, .slice pla pll plc, .slice oa ol oc]) fo9_5 o9_5_33 17179869183 (load43 (by rfl) (.tmp 1) rfl w.heap.size rfl [.int .i64 me, .bool true, .bool gone, .bool gate, .int .i64 inc, .int .i64 now, .int .i64 sq, .int .i64 turn, .slice ta tl tc, .slice ca cl cc, .int .i64 pn, .int .i64 ps, .int .i64 pq, .bool pa, .slice da dl dc, .int .i64 cx, .int .i64 cy, .int .i64 ch, .int .i64 ce, .slice pla pll plc, .slice oa ol oc] (fun w hSw => hSw.1) rfl) ?_
                  (try simp only [putQ])
                  refine stC fo9_5 o9_5_34 34359738367 (fun K hK => ?_)
                  go_simp
                  refine (splcs_lit me true gone gate inc now sq turn ta tl tc ca cl cc pn ps pq pa da dl dc cx cy ch ce pla pll plc oa ol oc F GI GD GP GO false y34.out _ hHeld.2.2.2.2.2.2.2.1).mono ?_; rintro r w5 ⟨rfl, k5⟩
                  go_wp2_with fail
                  refine hK.out _ _ ?_ (fun hHeld => ?_)
                  · (try dsimp only); exact ⟨range_below' hHeld.1 k5, keep_below k5 hHeld.2.1, keep_below k5 hHeld.2.2.1, keep_below k5 hHeld.2.2.2.1, keep_below k5 hHeld.2.2.2.2.1, keep_below k5 hHeld.2.2.2.2.2.1, keep_below k5 hHeld.2.2.2.2.2.2.1, hHeld.2.2.2.2.2.2.2.1.below k5, btrans hHeld.2.2.2.2.2.2.2.2 k5⟩
                  clear hK K
                  (try simp only [putQ]); refine stY fo9_5 o9_5_35 68719476735 ?_; try simp only [putQ]; refine stY fo9_5 o9_5_36 137438953471 ?_; try simp only [putQ]; refine stN fo9_5 o9_5_37 274877906943 ?_; try simp only [putQ]; refine stN fo9_5 o9_5_38 549755813887 ?_; try simp only [putQ]; refine stY fo9_5 o9_5_39 1099511627775 ?_; try simp only [putQ]; refine stY fo9_5 o9_5_40 2199023255551 ?_; try simp only [putQ]
                  refine wpAnyH_done (by kernel_rfl) ?_ _
                  go_wp2
                  go_ret
                  exact ⟨ret_bool (by rw [hst.out]; simp [y34.out]), hHeld.2.2.2.2.2.2.2.2⟩
                · have y34 : Hid (plsB me pll GP = true) := z
                  clear z
                  cases z : othsB me ol GO
                  · have y38 : Hid (othsB me ol GO = false) := z
                    clear z
                    refine wp_region_m (S := (fun w' => w'.rangeAt w.heap.size 0 [.int .i64 me, .bool true, .bool gone, .bool gate, .int .i64 inc, .int .i64 now, .int .i64 sq, .int .i64 turn, .slice ta tl tc, .slice ca cl cc, .int .i64 pn, .int .i64 ps, .int .i64 pq, .bool pa, .slice da dl dc, .int .i64 cx, .int .i64 cy, .int .i64 ch, .int .i64 ce, .slice pla pll plc, .slice oa ol oc] ∧ w'.cell? ⟨w.heap.size, 0, none⟩ = some (.int .i64 me) ∧ w'.cell? ⟨w.heap.size, 8, none⟩ = some (.slice ta tl tc) ∧ w'.cell? ⟨w.heap.size, 15, none⟩ = some (.int .i64 cx) ∧ w'.cell? ⟨w.heap.size, 16, none⟩ = some (.int .i64 cy) ∧ w'.cell? ⟨w.heap.size, 17, none⟩ = some (.int .i64 ch) ∧ w'.cell? ⟨w.heap.size, 18, none⟩ = some (.int .i64 ce) ∧ NdIn w' ta tl F ca cl GI da dl GD pla pll GP oa ol GO ∧ Below w.heap.size w w')) o9_5 41 fo9_5 ?_ (fun hHeld => ?_)
                    · (try dsimp only); exact ⟨range_drew r0, keep_drew d0, keep_drew d8, keep_drew d15, keep_drew d16, keep_drew d17, keep_drew d18, h0.below (Below.refl _ _).drew, b0.drew⟩
                    refine stY fo9_5 o9_5_0 1 ?_; try simp only [putQ]; refine stY fo9_5 o9_5_1 3 ?_; try simp only [putQ]
                    refine stC fo9_5 o9_5_2 7 (fun K hK => ?_)
                    go_simp
                    refine (stok_lit ta tl tc F true _ hHeld.2.2.2.2.2.2.2.1.f hHeld.2.2.2.2.2.2.2.1.hf y2.out).mono ?_; rintro r w2 ⟨rfl, k2⟩
                    go_wp2_with fail
                    refine hK.out _ _ ?_ (fun hHeld => ?_)
                    · (try dsimp only); exact ⟨range_below' hHeld.1 k2, keep_below k2 hHeld.2.1, keep_below k2 hHeld.2.2.1, keep_below k2 hHeld.2.2.2.1, keep_below k2 hHeld.2.2.2.2.1, keep_below k2 hHeld.2.2.2.2.2.1, keep_below k2 hHeld.2.2.2.2.2.2.1, hHeld.2.2.2.2.2.2.2.1.below k2, btrans hHeld.2.2.2.2.2.2.2.2 k2⟩
                    clear hK K
                    (try simp only [putQ]); refine stY fo9_5 o9_5_3 15 ?_; try simp only [putQ]; refine stY fo9_5 o9_5_4 31 ?_; try simp only [putQ]; refine stY fo9_5 o9_5_5 63 ?_; try simp only [putQ]; refine stY fo9_5 o9_5_6 127 ?_; try simp only [putQ]; refine stY fo9_5 o9_5_7 255 ?_; try simp only [putQ]
                    refine stC fo9_5 o9_5_8 511 (fun K hK => ?_)
                    go_simp
                    refine (lsite_any me _).mono ?_; rintro r w3 ⟨rfl, hw⟩; obtain rfl := hw.symm; clear hw; rw [hsm.out]
                    go_wp2_with fail
                    refine hK.out _ _ ?_ (fun hHeld => ?_)
                    · (try dsimp only); exact hHeld
                    clear hK K
                    (try simp only [putQ])
                    refine stC fo9_5 o9_5_9 1023 (fun K hK => ?_)
                    go_simp
                    refine (ssite_lit ta tl tc F sm true y9.out _ hHeld.2.2.2.2.2.2.2.1.f hHeld.2.2.2.2.2.2.2.1.hf).mono ?_; rintro r w3 ⟨rfl, k3⟩
                    go_wp2_with fail
                    refine hK.out _ _ ?_ (fun hHeld => ?_)
                    · (try dsimp only); exact ⟨range_below' hHeld.1 k3, keep_below k3 hHeld.2.1, keep_below k3 hHeld.2.2.1, keep_below k3 hHeld.2.2.2.1, keep_below k3 hHeld.2.2.2.2.1, keep_below k3 hHeld.2.2.2.2.2.1, keep_below k3 hHeld.2.2.2.2.2.2.1, hHeld.2.2.2.2.2.2.2.1.below k3, btrans hHeld.2.2.2.2.2.2.2.2 k3⟩
                    clear hK K
                    (try simp only [putQ]); refine stY fo9_5 o9_5_10 2047 ?_; try simp only [putQ]; refine stY fo9_5 o9_5_11 4095 ?_; try simp only [putQ]
                    refine stW (.agg #[.int .i64 me, .bool true, .bool gone, .bool gate, .int .i64 inc, .int .i64 now, .int .i64 sq, .int .i64 turn, .slice ta tl tc, .slice ca cl cc, .int .i64 pn, .int .i64 ps, .int .i64 pq, .bool pa, .slice da dl dc, .int .i64 cx, .int .i64 cy, .int .i64 ch, .int .i64 ce, .slice pla pll plc, .slice oa ol oc]) fo9_5 o9_5_12 8191 (load43 (by rfl) (.tmp 1) rfl w.heap.size rfl [.int .i64 me, .bool true, .bool gone, .bool gate, .int .i64 inc, .int .i64 now, .int .i64 sq, .int .i64 turn, .slice ta tl tc, .slice ca cl cc, .int .i64 pn, .int .i64 ps, .int .i64 pq, .bool pa, .slice da dl dc, .int .i64 cx, .int .i64 cy, .int .i64 ch, .int .i64 ce, .slice pla pll plc, .slice oa ol oc] (fun w hSw => hSw.1) rfl) ?_
                    (try simp only [putQ])
                    refine stC fo9_5 o9_5_13 16383 (fun K hK => ?_)
                    go_simp
                    refine (sself_lit me true gone gate inc now sq turn ta tl tc ca cl cc pn ps pq pa da dl dc cx cy ch ce pla pll plc oa ol oc F GI GD GP GO true y13.out _ hHeld.2.2.2.2.2.2.2.1).mono ?_; rintro r w5 ⟨rfl, k5⟩
                    go_wp2_with fail
                    refine hK.out _ _ ?_ (fun hHeld => ?_)
                    · (try dsimp only); exact ⟨range_below' hHeld.1 k5, keep_below k5 hHeld.2.1, keep_below k5 hHeld.2.2.1, keep_below k5 hHeld.2.2.2.1, keep_below k5 hHeld.2.2.2.2.1, keep_below k5 hHeld.2.2.2.2.2.1, keep_below k5 hHeld.2.2.2.2.2.2.1, hHeld.2.2.2.2.2.2.2.1.below k5, btrans hHeld.2.2.2.2.2.2.2.2 k5⟩
                    clear hK K
                    (try simp only [putQ]); refine stY fo9_5 o9_5_14 32767 ?_; try simp only [putQ]; refine stY fo9_5 o9_5_15 65535 ?_; try simp only [putQ]
                    refine stW (.agg #[.int .i64 me, .bool true, .bool gone, .bool gate, .int .i64 inc, .int .i64 now, .int .i64 sq, .int .i64 turn, .slice ta tl tc, .slice ca cl cc, .int .i64 pn, .int .i64 ps, .int .i64 pq, .bool pa, .slice da dl dc, .int .i64 cx, .int .i64 cy, .int .i64 ch, .int .i64 ce, .slice pla pll plc, .slice oa ol oc]) fo9_5 o9_5_16 131071 (load43 (by rfl) (.tmp 1) rfl w.heap.size rfl [.int .i64 me, .bool true, .bool gone, .bool gate, .int .i64 inc, .int .i64 now, .int .i64 sq, .int .i64 turn, .slice ta tl tc, .slice ca cl cc, .int .i64 pn, .int .i64 ps, .int .i64 pq, .bool pa, .slice da dl dc, .int .i64 cx, .int .i64 cy, .int .i64 ch, .int .i64 ce, .slice pla pll plc, .slice oa ol oc] (fun w hSw => hSw.1) rfl) ?_
                    (try simp only [putQ])
                    refine stC fo9_5 o9_5_17 262143 (fun K hK => ?_)
                    go_simp
                    refine (scast_lit me true gone gate inc now sq turn ta tl tc ca cl cc pn ps pq pa da dl dc cx cy ch ce pla pll plc oa ol oc F GI GD GP GO true y17.out _ hHeld.2.2.2.2.2.2.2.1).mono ?_; rintro r w5 ⟨rfl, k5⟩
                    go_wp2_with fail
                    refine hK.out _ _ ?_ (fun hHeld => ?_)
                    · (try dsimp only); exact ⟨range_below' hHeld.1 k5, keep_below k5 hHeld.2.1, keep_below k5 hHeld.2.2.1, keep_below k5 hHeld.2.2.2.1, keep_below k5 hHeld.2.2.2.2.1, keep_below k5 hHeld.2.2.2.2.2.1, keep_below k5 hHeld.2.2.2.2.2.2.1, hHeld.2.2.2.2.2.2.2.1.below k5, btrans hHeld.2.2.2.2.2.2.2.2 k5⟩
                    clear hK K
                    (try simp only [putQ]); refine stY fo9_5 o9_5_18 524287 ?_; try simp only [putQ]; refine stY fo9_5 o9_5_19 1048575 ?_; try simp only [putQ]
                    refine stW (.agg #[.int .i64 me, .bool true, .bool gone, .bool gate, .int .i64 inc, .int .i64 now, .int .i64 sq, .int .i64 turn, .slice ta tl tc, .slice ca cl cc, .int .i64 pn, .int .i64 ps, .int .i64 pq, .bool pa, .slice da dl dc, .int .i64 cx, .int .i64 cy, .int .i64 ch, .int .i64 ce, .slice pla pll plc, .slice oa ol oc]) fo9_5 o9_5_20 2097151 (load43 (by rfl) (.tmp 1) rfl w.heap.size rfl [.int .i64 me, .bool true, .bool gone, .bool gate, .int .i64 inc, .int .i64 now, .int .i64 sq, .int .i64 turn, .slice ta tl tc, .slice ca cl cc, .int .i64 pn, .int .i64 ps, .int .i64 pq, .bool pa, .slice da dl dc, .int .i64 cx, .int .i64 cy, .int .i64 ch, .int .i64 ce, .slice pla pll plc, .slice oa ol oc] (fun w hSw => hSw.1) rfl) ?_
                    (try simp only [putQ])
                    refine stC fo9_5 o9_5_21 4194303 (fun K hK => ?_)
                    go_simp
                    refine (sprobe_lit me true gone gate inc now sq turn ta tl tc ca cl cc pn ps pq pa da dl dc cx cy ch ce pla pll plc oa ol oc F GI GD GP GO true y21.out _ hHeld.2.2.2.2.2.2.2.1).mono ?_; rintro r w5 ⟨rfl, k5⟩
                    go_wp2_with fail
                    refine hK.out _ _ ?_ (fun hHeld => ?_)
                    · (try dsimp only); exact ⟨range_below' hHeld.1 k5, keep_below k5 hHeld.2.1, keep_below k5 hHeld.2.2.1, keep_below k5 hHeld.2.2.2.1, keep_below k5 hHeld.2.2.2.2.1, keep_below k5 hHeld.2.2.2.2.2.1, keep_below k5 hHeld.2.2.2.2.2.2.1, hHeld.2.2.2.2.2.2.2.1.below k5, btrans hHeld.2.2.2.2.2.2.2.2 k5⟩
                    clear hK K
                    (try simp only [putQ]); refine stY fo9_5 o9_5_22 8388607 ?_; try simp only [putQ]; refine stY fo9_5 o9_5_23 16777215 ?_; try simp only [putQ]
                    refine stW (.agg #[.int .i64 me, .bool true, .bool gone, .bool gate, .int .i64 inc, .int .i64 now, .int .i64 sq, .int .i64 turn, .slice ta tl tc, .slice ca cl cc, .int .i64 pn, .int .i64 ps, .int .i64 pq, .bool pa, .slice da dl dc, .int .i64 cx, .int .i64 cy, .int .i64 ch, .int .i64 ce, .slice pla pll plc, .slice oa ol oc]) fo9_5 o9_5_24 33554431 (load43 (by rfl) (.tmp 1) rfl w.heap.size rfl [.int .i64 me, .bool true, .bool gone, .bool gate, .int .i64 inc, .int .i64 now, .int .i64 sq, .int .i64 turn, .slice ta tl tc, .slice ca cl cc, .int .i64 pn, .int .i64 ps, .int .i64 pq, .bool pa, .slice da dl dc, .int .i64 cx, .int .i64 cy, .int .i64 ch, .int .i64 ce, .slice pla pll plc, .slice oa ol oc] (fun w hSw => hSw.1) rfl) ?_
                    (try simp only [putQ])
                    refine stC fo9_5 o9_5_25 67108863 (fun K hK => ?_)
                    go_simp
                    refine (sdbs_lit me true gone gate inc now sq turn ta tl tc ca cl cc pn ps pq pa da dl dc cx cy ch ce pla pll plc oa ol oc F GI GD GP GO true y25.out _ hHeld.2.2.2.2.2.2.2.1).mono ?_; rintro r w5 ⟨rfl, k5⟩
                    go_wp2_with fail
                    refine hK.out _ _ ?_ (fun hHeld => ?_)
                    · (try dsimp only); exact ⟨range_below' hHeld.1 k5, keep_below k5 hHeld.2.1, keep_below k5 hHeld.2.2.1, keep_below k5 hHeld.2.2.2.1, keep_below k5 hHeld.2.2.2.2.1, keep_below k5 hHeld.2.2.2.2.2.1, keep_below k5 hHeld.2.2.2.2.2.2.1, hHeld.2.2.2.2.2.2.2.1.below k5, btrans hHeld.2.2.2.2.2.2.2.2 k5⟩
                    clear hK K
                    (try simp only [putQ]); refine stY fo9_5 o9_5_26 134217727 ?_; try simp only [putQ]; refine stY fo9_5 o9_5_27 268435455 ?_; try simp only [putQ]; refine stY fo9_5 o9_5_28 536870911 ?_; try simp only [putQ]; refine stY fo9_5 o9_5_29 1073741823 ?_; try simp only [putQ]
                    refine stC fo9_5 o9_5_30 2147483647 (fun K hK => ?_)
                    go_simp
                    refine (scoord_lit cx cy ch ce true y30.out _).mono ?_; rintro r w4 ⟨rfl, k4⟩
                    go_wp2_with fail
                    refine hK.out _ _ ?_ (fun hHeld => ?_)
                    · (try dsimp only); exact ⟨range_below' hHeld.1 k4, keep_below k4 hHeld.2.1, keep_below k4 hHeld.2.2.1, keep_below k4 hHeld.2.2.2.1, keep_below k4 hHeld.2.2.2.2.1, keep_below k4 hHeld.2.2.2.2.2.1, keep_below k4 hHeld.2.2.2.2.2.2.1, hHeld.2.2.2.2.2.2.2.1.below k4, btrans hHeld.2.2.2.2.2.2.2.2 k4⟩
                    clear hK K
                    (try simp only [putQ]); refine stY fo9_5 o9_5_31 4294967295 ?_; try simp only [putQ]; refine stY fo9_5 o9_5_32 8589934591 ?_; try simp only [putQ]
                    refine stW (.agg #[.int .i64 me, .bool true, .bool gone, .bool gate, .int .i64 inc, .int .i64 now, .int .i64 sq, .int .i64 turn, .slice ta tl tc, .slice ca cl cc, .int .i64 pn, .int .i64 ps, .int .i64 pq, .bool pa, .slice da dl dc, .int .i64 cx, .int .i64 cy, .int .i64 ch, .int .i64 ce, .slice pla pll plc, .slice oa ol oc]) fo9_5 o9_5_33 17179869183 (load43 (by rfl) (.tmp 1) rfl w.heap.size rfl [.int .i64 me, .bool true, .bool gone, .bool gate, .int .i64 inc, .int .i64 now, .int .i64 sq, .int .i64 turn, .slice ta tl tc, .slice ca cl cc, .int .i64 pn, .int .i64 ps, .int .i64 pq, .bool pa, .slice da dl dc, .int .i64 cx, .int .i64 cy, .int .i64 ch, .int .i64 ce, .slice pla pll plc, .slice oa ol oc] (fun w hSw => hSw.1) rfl) ?_
                    (try simp only [putQ])
                    refine stC fo9_5 o9_5_34 34359738367 (fun K hK => ?_)
                    go_simp
                    refine (splcs_lit me true gone gate inc now sq turn ta tl tc ca cl cc pn ps pq pa da dl dc cx cy ch ce pla pll plc oa ol oc F GI GD GP GO true y34.out _ hHeld.2.2.2.2.2.2.2.1).mono ?_; rintro r w5 ⟨rfl, k5⟩
                    go_wp2_with fail
                    refine hK.out _ _ ?_ (fun hHeld => ?_)
                    · (try dsimp only); exact ⟨range_below' hHeld.1 k5, keep_below k5 hHeld.2.1, keep_below k5 hHeld.2.2.1, keep_below k5 hHeld.2.2.2.1, keep_below k5 hHeld.2.2.2.2.1, keep_below k5 hHeld.2.2.2.2.2.1, keep_below k5 hHeld.2.2.2.2.2.2.1, hHeld.2.2.2.2.2.2.2.1.below k5, btrans hHeld.2.2.2.2.2.2.2.2 k5⟩
                    clear hK K
                    (try simp only [putQ]); refine stY fo9_5 o9_5_35 68719476735 ?_; try simp only [putQ]; refine stY fo9_5 o9_5_36 137438953471 ?_; try simp only [putQ]
                    refine stW (.agg #[.int .i64 me, .bool true, .bool gone, .bool gate, .int .i64 inc, .int .i64 now, .int .i64 sq, .int .i64 turn, .slice ta tl tc, .slice ca cl cc, .int .i64 pn, .int .i64 ps, .int .i64 pq, .bool pa, .slice da dl dc, .int .i64 cx, .int .i64 cy, .int .i64 ch, .int .i64 ce, .slice pla pll plc, .slice oa ol oc]) fo9_5 o9_5_37 274877906943 (load43 (by rfl) (.tmp 1) rfl w.heap.size rfl [.int .i64 me, .bool true, .bool gone, .bool gate, .int .i64 inc, .int .i64 now, .int .i64 sq, .int .i64 turn, .slice ta tl tc, .slice ca cl cc, .int .i64 pn, .int .i64 ps, .int .i64 pq, .bool pa, .slice da dl dc, .int .i64 cx, .int .i64 cy, .int .i64 ch, .int .i64 ce, .slice pla pll plc, .slice oa ol oc] (fun w hSw => hSw.1) rfl) ?_
                    (try simp only [putQ])
                    refine stC fo9_5 o9_5_38 549755813887 (fun K hK => ?_)
                    go_simp
                    refine (soths_lit me true gone gate inc now sq turn ta tl tc ca cl cc pn ps pq pa da dl dc cx cy ch ce pla pll plc oa ol oc F GI GD GP GO false y38.out _ hHeld.2.2.2.2.2.2.2.1).mono ?_; rintro r w5 ⟨rfl, k5⟩
                    go_wp2_with fail
                    refine hK.out _ _ ?_ (fun hHeld => ?_)
                    · (try dsimp only); exact ⟨range_below' hHeld.1 k5, keep_below k5 hHeld.2.1, keep_below k5 hHeld.2.2.1, keep_below k5 hHeld.2.2.2.1, keep_below k5 hHeld.2.2.2.2.1, keep_below k5 hHeld.2.2.2.2.2.1, keep_below k5 hHeld.2.2.2.2.2.2.1, hHeld.2.2.2.2.2.2.2.1.below k5, btrans hHeld.2.2.2.2.2.2.2.2 k5⟩
                    clear hK K
                    (try simp only [putQ]); refine stY fo9_5 o9_5_39 1099511627775 ?_; try simp only [putQ]; refine stY fo9_5 o9_5_40 2199023255551 ?_; try simp only [putQ]
                    refine wpAnyH_done (by kernel_rfl) ?_ _
                    go_wp2
                    go_ret
                    exact ⟨ret_bool (by rw [hst.out]; simp [y38.out]), hHeld.2.2.2.2.2.2.2.2⟩
                  · have y38 : Hid (othsB me ol GO = true) := z
                    clear z
                    refine wp_region_m (S := (fun w' => w'.rangeAt w.heap.size 0 [.int .i64 me, .bool true, .bool gone, .bool gate, .int .i64 inc, .int .i64 now, .int .i64 sq, .int .i64 turn, .slice ta tl tc, .slice ca cl cc, .int .i64 pn, .int .i64 ps, .int .i64 pq, .bool pa, .slice da dl dc, .int .i64 cx, .int .i64 cy, .int .i64 ch, .int .i64 ce, .slice pla pll plc, .slice oa ol oc] ∧ w'.cell? ⟨w.heap.size, 0, none⟩ = some (.int .i64 me) ∧ w'.cell? ⟨w.heap.size, 8, none⟩ = some (.slice ta tl tc) ∧ w'.cell? ⟨w.heap.size, 15, none⟩ = some (.int .i64 cx) ∧ w'.cell? ⟨w.heap.size, 16, none⟩ = some (.int .i64 cy) ∧ w'.cell? ⟨w.heap.size, 17, none⟩ = some (.int .i64 ch) ∧ w'.cell? ⟨w.heap.size, 18, none⟩ = some (.int .i64 ce) ∧ NdIn w' ta tl F ca cl GI da dl GD pla pll GP oa ol GO ∧ Below w.heap.size w w')) o9_5 41 fo9_5 ?_ (fun hHeld => ?_)
                    · (try dsimp only); exact ⟨range_drew r0, keep_drew d0, keep_drew d8, keep_drew d15, keep_drew d16, keep_drew d17, keep_drew d18, h0.below (Below.refl _ _).drew, b0.drew⟩
                    refine stY fo9_5 o9_5_0 1 ?_; try simp only [putQ]; refine stY fo9_5 o9_5_1 3 ?_; try simp only [putQ]
                    refine stC fo9_5 o9_5_2 7 (fun K hK => ?_)
                    go_simp
                    refine (stok_lit ta tl tc F true _ hHeld.2.2.2.2.2.2.2.1.f hHeld.2.2.2.2.2.2.2.1.hf y2.out).mono ?_; rintro r w2 ⟨rfl, k2⟩
                    go_wp2_with fail
                    refine hK.out _ _ ?_ (fun hHeld => ?_)
                    · (try dsimp only); exact ⟨range_below' hHeld.1 k2, keep_below k2 hHeld.2.1, keep_below k2 hHeld.2.2.1, keep_below k2 hHeld.2.2.2.1, keep_below k2 hHeld.2.2.2.2.1, keep_below k2 hHeld.2.2.2.2.2.1, keep_below k2 hHeld.2.2.2.2.2.2.1, hHeld.2.2.2.2.2.2.2.1.below k2, btrans hHeld.2.2.2.2.2.2.2.2 k2⟩
                    clear hK K
                    (try simp only [putQ]); refine stY fo9_5 o9_5_3 15 ?_; try simp only [putQ]; refine stY fo9_5 o9_5_4 31 ?_; try simp only [putQ]; refine stY fo9_5 o9_5_5 63 ?_; try simp only [putQ]; refine stY fo9_5 o9_5_6 127 ?_; try simp only [putQ]; refine stY fo9_5 o9_5_7 255 ?_; try simp only [putQ]
                    refine stC fo9_5 o9_5_8 511 (fun K hK => ?_)
                    go_simp
                    refine (lsite_any me _).mono ?_; rintro r w3 ⟨rfl, hw⟩; obtain rfl := hw.symm; clear hw; rw [hsm.out]
                    go_wp2_with fail
                    refine hK.out _ _ ?_ (fun hHeld => ?_)
                    · (try dsimp only); exact hHeld
                    clear hK K
                    (try simp only [putQ])
                    refine stC fo9_5 o9_5_9 1023 (fun K hK => ?_)
                    go_simp
                    refine (ssite_lit ta tl tc F sm true y9.out _ hHeld.2.2.2.2.2.2.2.1.f hHeld.2.2.2.2.2.2.2.1.hf).mono ?_; rintro r w3 ⟨rfl, k3⟩
                    go_wp2_with fail
                    refine hK.out _ _ ?_ (fun hHeld => ?_)
                    · (try dsimp only); exact ⟨range_below' hHeld.1 k3, keep_below k3 hHeld.2.1, keep_below k3 hHeld.2.2.1, keep_below k3 hHeld.2.2.2.1, keep_below k3 hHeld.2.2.2.2.1, keep_below k3 hHeld.2.2.2.2.2.1, keep_below k3 hHeld.2.2.2.2.2.2.1, hHeld.2.2.2.2.2.2.2.1.below k3, btrans hHeld.2.2.2.2.2.2.2.2 k3⟩
                    clear hK K
                    (try simp only [putQ]); refine stY fo9_5 o9_5_10 2047 ?_; try simp only [putQ]; refine stY fo9_5 o9_5_11 4095 ?_; try simp only [putQ]
                    refine stW (.agg #[.int .i64 me, .bool true, .bool gone, .bool gate, .int .i64 inc, .int .i64 now, .int .i64 sq, .int .i64 turn, .slice ta tl tc, .slice ca cl cc, .int .i64 pn, .int .i64 ps, .int .i64 pq, .bool pa, .slice da dl dc, .int .i64 cx, .int .i64 cy, .int .i64 ch, .int .i64 ce, .slice pla pll plc, .slice oa ol oc]) fo9_5 o9_5_12 8191 (load43 (by rfl) (.tmp 1) rfl w.heap.size rfl [.int .i64 me, .bool true, .bool gone, .bool gate, .int .i64 inc, .int .i64 now, .int .i64 sq, .int .i64 turn, .slice ta tl tc, .slice ca cl cc, .int .i64 pn, .int .i64 ps, .int .i64 pq, .bool pa, .slice da dl dc, .int .i64 cx, .int .i64 cy, .int .i64 ch, .int .i64 ce, .slice pla pll plc, .slice oa ol oc] (fun w hSw => hSw.1) rfl) ?_
                    (try simp only [putQ])
                    refine stC fo9_5 o9_5_13 16383 (fun K hK => ?_)
                    go_simp
                    refine (sself_lit me true gone gate inc now sq turn ta tl tc ca cl cc pn ps pq pa da dl dc cx cy ch ce pla pll plc oa ol oc F GI GD GP GO true y13.out _ hHeld.2.2.2.2.2.2.2.1).mono ?_; rintro r w5 ⟨rfl, k5⟩
                    go_wp2_with fail
                    refine hK.out _ _ ?_ (fun hHeld => ?_)
                    · (try dsimp only); exact ⟨range_below' hHeld.1 k5, keep_below k5 hHeld.2.1, keep_below k5 hHeld.2.2.1, keep_below k5 hHeld.2.2.2.1, keep_below k5 hHeld.2.2.2.2.1, keep_below k5 hHeld.2.2.2.2.2.1, keep_below k5 hHeld.2.2.2.2.2.2.1, hHeld.2.2.2.2.2.2.2.1.below k5, btrans hHeld.2.2.2.2.2.2.2.2 k5⟩
                    clear hK K
                    (try simp only [putQ]); refine stY fo9_5 o9_5_14 32767 ?_; try simp only [putQ]; refine stY fo9_5 o9_5_15 65535 ?_; try simp only [putQ]
                    refine stW (.agg #[.int .i64 me, .bool true, .bool gone, .bool gate, .int .i64 inc, .int .i64 now, .int .i64 sq, .int .i64 turn, .slice ta tl tc, .slice ca cl cc, .int .i64 pn, .int .i64 ps, .int .i64 pq, .bool pa, .slice da dl dc, .int .i64 cx, .int .i64 cy, .int .i64 ch, .int .i64 ce, .slice pla pll plc, .slice oa ol oc]) fo9_5 o9_5_16 131071 (load43 (by rfl) (.tmp 1) rfl w.heap.size rfl [.int .i64 me, .bool true, .bool gone, .bool gate, .int .i64 inc, .int .i64 now, .int .i64 sq, .int .i64 turn, .slice ta tl tc, .slice ca cl cc, .int .i64 pn, .int .i64 ps, .int .i64 pq, .bool pa, .slice da dl dc, .int .i64 cx, .int .i64 cy, .int .i64 ch, .int .i64 ce, .slice pla pll plc, .slice oa ol oc] (fun w hSw => hSw.1) rfl) ?_
                    (try simp only [putQ])
                    refine stC fo9_5 o9_5_17 262143 (fun K hK => ?_)
                    go_simp
                    refine (scast_lit me true gone gate inc now sq turn ta tl tc ca cl cc pn ps pq pa da dl dc cx cy ch ce pla pll plc oa ol oc F GI GD GP GO true y17.out _ hHeld.2.2.2.2.2.2.2.1).mono ?_; rintro r w5 ⟨rfl, k5⟩
                    go_wp2_with fail
                    refine hK.out _ _ ?_ (fun hHeld => ?_)
                    · (try dsimp only); exact ⟨range_below' hHeld.1 k5, keep_below k5 hHeld.2.1, keep_below k5 hHeld.2.2.1, keep_below k5 hHeld.2.2.2.1, keep_below k5 hHeld.2.2.2.2.1, keep_below k5 hHeld.2.2.2.2.2.1, keep_below k5 hHeld.2.2.2.2.2.2.1, hHeld.2.2.2.2.2.2.2.1.below k5, btrans hHeld.2.2.2.2.2.2.2.2 k5⟩
                    clear hK K
                    (try simp only [putQ]); refine stY fo9_5 o9_5_18 524287 ?_; try simp only [putQ]; refine stY fo9_5 o9_5_19 1048575 ?_; try simp only [putQ]
                    refine stW (.agg #[.int .i64 me, .bool true, .bool gone, .bool gate, .int .i64 inc, .int .i64 now, .int .i64 sq, .int .i64 turn, .slice ta tl tc, .slice ca cl cc, .int .i64 pn, .int .i64 ps, .int .i64 pq, .bool pa, .slice da dl dc, .int .i64 cx, .int .i64 cy, .int .i64 ch, .int .i64 ce, .slice pla pll plc, .slice oa ol oc]) fo9_5 o9_5_20 2097151 (load43 (by rfl) (.tmp 1) rfl w.heap.size rfl [.int .i64 me, .bool true, .bool gone, .bool gate, .int .i64 inc, .int .i64 now, .int .i64 sq, .int .i64 turn, .slice ta tl tc, .slice ca cl cc, .int .i64 pn, .int .i64 ps, .int .i64 pq, .bool pa, .slice da dl dc, .int .i64 cx, .int .i64 cy, .int .i64 ch, .int .i64 ce, .slice pla pll plc, .slice oa ol oc] (fun w hSw => hSw.1) rfl) ?_
                    (try simp only [putQ])
                    refine stC fo9_5 o9_5_21 4194303 (fun K hK => ?_)
                    go_simp
                    refine (sprobe_lit me true gone gate inc now sq turn ta tl tc ca cl cc pn ps pq pa da dl dc cx cy ch ce pla pll plc oa ol oc F GI GD GP GO true y21.out _ hHeld.2.2.2.2.2.2.2.1).mono ?_; rintro r w5 ⟨rfl, k5⟩
                    go_wp2_with fail
                    refine hK.out _ _ ?_ (fun hHeld => ?_)
                    · (try dsimp only); exact ⟨range_below' hHeld.1 k5, keep_below k5 hHeld.2.1, keep_below k5 hHeld.2.2.1, keep_below k5 hHeld.2.2.2.1, keep_below k5 hHeld.2.2.2.2.1, keep_below k5 hHeld.2.2.2.2.2.1, keep_below k5 hHeld.2.2.2.2.2.2.1, hHeld.2.2.2.2.2.2.2.1.below k5, btrans hHeld.2.2.2.2.2.2.2.2 k5⟩
                    clear hK K
                    (try simp only [putQ]); refine stY fo9_5 o9_5_22 8388607 ?_; try simp only [putQ]; refine stY fo9_5 o9_5_23 16777215 ?_; try simp only [putQ]
                    refine stW (.agg #[.int .i64 me, .bool true, .bool gone, .bool gate, .int .i64 inc, .int .i64 now, .int .i64 sq, .int .i64 turn, .slice ta tl tc, .slice ca cl cc, .int .i64 pn, .int .i64 ps, .int .i64 pq, .bool pa, .slice da dl dc, .int .i64 cx, .int .i64 cy, .int .i64 ch, .int .i64 ce, .slice pla pll plc, .slice oa ol oc]) fo9_5 o9_5_24 33554431 (load43 (by rfl) (.tmp 1) rfl w.heap.size rfl [.int .i64 me, .bool true, .bool gone, .bool gate, .int .i64 inc, .int .i64 now, .int .i64 sq, .int .i64 turn, .slice ta tl tc, .slice ca cl cc, .int .i64 pn, .int .i64 ps, .int .i64 pq, .bool pa, .slice da dl dc, .int .i64 cx, .int .i64 cy, .int .i64 ch, .int .i64 ce, .slice pla pll plc, .slice oa ol oc] (fun w hSw => hSw.1) rfl) ?_
                    (try simp only [putQ])
                    refine stC fo9_5 o9_5_25 67108863 (fun K hK => ?_)
                    go_simp
                    refine (sdbs_lit me true gone gate inc now sq turn ta tl tc ca cl cc pn ps pq pa da dl dc cx cy ch ce pla pll plc oa ol oc F GI GD GP GO true y25.out _ hHeld.2.2.2.2.2.2.2.1).mono ?_; rintro r w5 ⟨rfl, k5⟩
                    go_wp2_with fail
                    refine hK.out _ _ ?_ (fun hHeld => ?_)
                    · (try dsimp only); exact ⟨range_below' hHeld.1 k5, keep_below k5 hHeld.2.1, keep_below k5 hHeld.2.2.1, keep_below k5 hHeld.2.2.2.1, keep_below k5 hHeld.2.2.2.2.1, keep_below k5 hHeld.2.2.2.2.2.1, keep_below k5 hHeld.2.2.2.2.2.2.1, hHeld.2.2.2.2.2.2.2.1.below k5, btrans hHeld.2.2.2.2.2.2.2.2 k5⟩
                    clear hK K
                    (try simp only [putQ]); refine stY fo9_5 o9_5_26 134217727 ?_; try simp only [putQ]; refine stY fo9_5 o9_5_27 268435455 ?_; try simp only [putQ]; refine stY fo9_5 o9_5_28 536870911 ?_; try simp only [putQ]; refine stY fo9_5 o9_5_29 1073741823 ?_; try simp only [putQ]
                    refine stC fo9_5 o9_5_30 2147483647 (fun K hK => ?_)
                    go_simp
                    refine (scoord_lit cx cy ch ce true y30.out _).mono ?_; rintro r w4 ⟨rfl, k4⟩
                    go_wp2_with fail
                    refine hK.out _ _ ?_ (fun hHeld => ?_)
                    · (try dsimp only); exact ⟨range_below' hHeld.1 k4, keep_below k4 hHeld.2.1, keep_below k4 hHeld.2.2.1, keep_below k4 hHeld.2.2.2.1, keep_below k4 hHeld.2.2.2.2.1, keep_below k4 hHeld.2.2.2.2.2.1, keep_below k4 hHeld.2.2.2.2.2.2.1, hHeld.2.2.2.2.2.2.2.1.below k4, btrans hHeld.2.2.2.2.2.2.2.2 k4⟩
                    clear hK K
                    (try simp only [putQ]); refine stY fo9_5 o9_5_31 4294967295 ?_; try simp only [putQ]; refine stY fo9_5 o9_5_32 8589934591 ?_; try simp only [putQ]
                    refine stW (.agg #[.int .i64 me, .bool true, .bool gone, .bool gate, .int .i64 inc, .int .i64 now, .int .i64 sq, .int .i64 turn, .slice ta tl tc, .slice ca cl cc, .int .i64 pn, .int .i64 ps, .int .i64 pq, .bool pa, .slice da dl dc, .int .i64 cx, .int .i64 cy, .int .i64 ch, .int .i64 ce, .slice pla pll plc, .slice oa ol oc]) fo9_5 o9_5_33 17179869183 (load43 (by rfl) (.tmp 1) rfl w.heap.size rfl [.int .i64 me, .bool true, .bool gone, .bool gate, .int .i64 inc, .int .i64 now, .int .i64 sq, .int .i64 turn, .slice ta tl tc, .slice ca cl cc, .int .i64 pn, .int .i64 ps, .int .i64 pq, .bool pa, .slice da dl dc, .int .i64 cx, .int .i64 cy, .int .i64 ch, .int .i64 ce, .slice pla pll plc, .slice oa ol oc] (fun w hSw => hSw.1) rfl) ?_
                    (try simp only [putQ])
                    refine stC fo9_5 o9_5_34 34359738367 (fun K hK => ?_)
                    go_simp
                    refine (splcs_lit me true gone gate inc now sq turn ta tl tc ca cl cc pn ps pq pa da dl dc cx cy ch ce pla pll plc oa ol oc F GI GD GP GO true y34.out _ hHeld.2.2.2.2.2.2.2.1).mono ?_; rintro r w5 ⟨rfl, k5⟩
                    go_wp2_with fail
                    refine hK.out _ _ ?_ (fun hHeld => ?_)
                    · (try dsimp only); exact ⟨range_below' hHeld.1 k5, keep_below k5 hHeld.2.1, keep_below k5 hHeld.2.2.1, keep_below k5 hHeld.2.2.2.1, keep_below k5 hHeld.2.2.2.2.1, keep_below k5 hHeld.2.2.2.2.2.1, keep_below k5 hHeld.2.2.2.2.2.2.1, hHeld.2.2.2.2.2.2.2.1.below k5, btrans hHeld.2.2.2.2.2.2.2.2 k5⟩
                    clear hK K
                    (try simp only [putQ]); refine stY fo9_5 o9_5_35 68719476735 ?_; try simp only [putQ]; refine stY fo9_5 o9_5_36 137438953471 ?_; try simp only [putQ]
                    refine stW (.agg #[.int .i64 me, .bool true, .bool gone, .bool gate, .int .i64 inc, .int .i64 now, .int .i64 sq, .int .i64 turn, .slice ta tl tc, .slice ca cl cc, .int .i64 pn, .int .i64 ps, .int .i64 pq, .bool pa, .slice da dl dc, .int .i64 cx, .int .i64 cy, .int .i64 ch, .int .i64 ce, .slice pla pll plc, .slice oa ol oc]) fo9_5 o9_5_37 274877906943 (load43 (by rfl) (.tmp 1) rfl w.heap.size rfl [.int .i64 me, .bool true, .bool gone, .bool gate, .int .i64 inc, .int .i64 now, .int .i64 sq, .int .i64 turn, .slice ta tl tc, .slice ca cl cc, .int .i64 pn, .int .i64 ps, .int .i64 pq, .bool pa, .slice da dl dc, .int .i64 cx, .int .i64 cy, .int .i64 ch, .int .i64 ce, .slice pla pll plc, .slice oa ol oc] (fun w hSw => hSw.1) rfl) ?_
                    (try simp only [putQ])
                    refine stC fo9_5 o9_5_38 549755813887 (fun K hK => ?_)
                    go_simp
                    refine (soths_lit me true gone gate inc now sq turn ta tl tc ca cl cc pn ps pq pa da dl dc cx cy ch ce pla pll plc oa ol oc F GI GD GP GO true y38.out _ hHeld.2.2.2.2.2.2.2.1).mono ?_; rintro r w5 ⟨rfl, k5⟩
                    go_wp2_with fail
                    refine hK.out _ _ ?_ (fun hHeld => ?_)
                    · (try dsimp only); exact ⟨range_below' hHeld.1 k5, keep_below k5 hHeld.2.1, keep_below k5 hHeld.2.2.1, keep_below k5 hHeld.2.2.2.1, keep_below k5 hHeld.2.2.2.2.1, keep_below k5 hHeld.2.2.2.2.2.1, keep_below k5 hHeld.2.2.2.2.2.2.1, hHeld.2.2.2.2.2.2.2.1.below k5, btrans hHeld.2.2.2.2.2.2.2.2 k5⟩
                    clear hK K
                    (try simp only [putQ]); refine stY fo9_5 o9_5_39 1099511627775 ?_; try simp only [putQ]; refine stY fo9_5 o9_5_40 2199023255551 ?_; try simp only [putQ]
                    refine wpAnyH_done (by kernel_rfl) ?_ _
                    go_wp2
                    go_ret
                    exact ⟨ret_bool (by rw [hst.out]; simp [y2.out, y9.out, y13.out, y17.out, y21.out, y25.out, y30.out, y34.out, y38.out]), hHeld.2.2.2.2.2.2.2.2⟩
end Go.Proofs.YtnplhfgdbabmaaaGreat
