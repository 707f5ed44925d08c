/- The words for pools and kinds. -/
import Derived.Test.YtibnojbhoepcdaaDoorTxt3
namespace Go.Proofs.YtibnojbhoepcdaaDoor
open Go.ChangeShapes Go.WideShapes Go.ChangeAt Go.RowKit
attribute [local go_sem ↓] Go.wp_at_zero Go.wp_at_succ
def pool1 : List UInt8 := [108, 97, 110]
def pool2 : List UInt8 := [119, 97, 110]
def poolL (s : Int) : List UInt8 := if s = 1 then pool1 else pool2
def poolT : List UInt8 := [108, 97, 110, 32, 119, 97, 110]
theorem pool_ascii : ∀ b ∈ poolT, b.toNat < 128 := by decide
theorem pool_fields : Lib.fields poolT = [pool1, pool2] := by decide
theorem pools_any (w : World) (ht : Tabs w) :
    Calls Tryd.prog 44 #[.string (bs [108, 97, 110, 32, 119, 97, 110])] w fun e w' => e = .returned (.slice (some ⟨w.heap.size, 0, none⟩) 2 2) ∧ w' = w.alloc (.cells #[.string (bs pool1), .string (bs pool2)] 9) := by
  have hf := Tryd.strings_Fields (bs poolT) w (by decide) (fun j b hb => pool_ascii b (List.mem_of_getElem? hb)) ht.s
  have e1 : Lib.fields (bs poolT).data.toList = [pool1, pool2] := pool_fields
  rw [e1] at hf
  go_enter Tryd.func44, Tryd.ntmps44
  go_wp2_with fail
  refine hf.mono ?_
  rintro e w' ⟨rfl, rfl⟩
  go_wp2
  go_ret
  exact ⟨rfl, rfl⟩
theorem pool_of (s : Int) (h1 : 1 ≤ s) (h4 : s ≤ 2) (w : World) (ht : Tabs w) :
    Calls Tryd.prog 18 #[.string (bs [108, 97, 110, 32, 119, 97, 110]), .int .i64 s] w fun e w' => e = .returned (.string (bs (poolL s))) ∧ Below w.heap.size w w' := by
  have b1 : Below w.heap.size w (w.alloc (.cells #[.string (bs pool1), .string (bs pool2)] 9)) := balloc _ (Below.refl _ _)
  have p1 : (w.alloc (.cells #[.string (bs pool1), .string (bs pool2)] 9)).heap[w.heap.size]? = some (.cells #[.string (bs pool1), .string (bs pool2)] 9 (0, 0)) := heap_alloc_new _ _
  have c0 := cell_block (o := 0) (v := .string (bs pool1)) p1 rfl
  have c1 := cell_block (o := 1) (v := .string (bs pool2)) p1 rfl
  have hs : s = 1 ∨ s = 2 := by omega
  clear h1 h4
  rcases hs with rfl | rfl
  all_goals
    go_enter Tryd.func18, Tryd.ntmps18
    go_wp2_with fail
    refine (pools_any w ht).mono ?_
    rintro e w' ⟨rfl, rfl⟩
    go_wp2
    go_ret
    exact ⟨rfl, b1⟩
def kind1 : List UInt8 := [112, 105, 110, 103]
def kind2 : List UInt8 := [97, 99, 107]
def kind3 : List UInt8 := [97, 115, 107]
def kind4 : List UInt8 := [115, 121, 110, 99]
def kind5 : List UInt8 := [98, 97, 99, 107]
def kind6 : List UInt8 := [115, 117, 109]
def kindL (s : Int) : List UInt8 := if s = 1 then kind1 else if s = 2 then kind2 else if s = 3 then kind3 else if s = 4 then kind4 else if s = 5 then kind5 else kind6
def kindT : List UInt8 := [112, 105, 110, 103, 32, 97, 99, 107, 32, 97, 115, 107, 32, 115, 121, 110, 99, 32, 98, 97, 99, 107, 32, 115, 117, 109]
theorem kind_ascii : ∀ b ∈ kindT, b.toNat < 128 := by decide
theorem kind_fields : Lib.fields kindT = [kind1, kind2, kind3, kind4, kind5, kind6] := by decide
theorem kinds_any (w : World) (ht : Tabs w) :
    Calls Tryd.prog 44 #[.string (bs [112, 105, 110, 103, 32, 97, 99, 107, 32, 97, 115, 107, 32, 115, 121, 110, 99, 32, 98, 97, 99, 107, 32, 115, 117, 109])] w fun e w' => e = .returned (.slice (some ⟨w.heap.size, 0, none⟩) 6 6) ∧ w' = w.alloc (.cells #[.string (bs kind1), .string (bs kind2), .string (bs kind3), .string (bs kind4), .string (bs kind5), .string (bs kind6)] 9) := by
  have hf := Tryd.strings_Fields (bs kindT) w (by decide) (fun j b hb => kind_ascii b (List.mem_of_getElem? hb)) ht.s
  have e1 : Lib.fields (bs kindT).data.toList = [kind1, kind2, kind3, kind4, kind5, kind6] := kind_fields
  rw [e1] at hf
  go_enter Tryd.func44, Tryd.ntmps44
  go_wp2_with fail
  refine hf.mono ?_
  rintro e w' ⟨rfl, rfl⟩
  go_wp2
  go_ret
  exact ⟨rfl, rfl⟩
theorem kind_of (s : Int) (h1 : 1 ≤ s) (h4 : s ≤ 6) (w : World) (ht : Tabs w) :
    Calls Tryd.prog 18 #[.string (bs [112, 105, 110, 103, 32, 97, 99, 107, 32, 97, 115, 107, 32, 115, 121, 110, 99, 32, 98, 97, 99, 107, 32, 115, 117, 109]), .int .i64 s] w fun e w' => e = .returned (.string (bs (kindL s))) ∧ Below w.heap.size w w' := by
  have b1 : Below w.heap.size w (w.alloc (.cells #[.string (bs kind1), .string (bs kind2), .string (bs kind3), .string (bs kind4), .string (bs kind5), .string (bs kind6)] 9)) := balloc _ (Below.refl _ _)
  have p1 : (w.alloc (.cells #[.string (bs kind1), .string (bs kind2), .string (bs kind3), .string (bs kind4), .string (bs kind5), .string (bs kind6)] 9)).heap[w.heap.size]? = some (.cells #[.string (bs kind1), .string (bs kind2), .string (bs kind3), .string (bs kind4), .string (bs kind5), .string (bs kind6)] 9 (0, 0)) := heap_alloc_new _ _
  have c0 := cell_block (o := 0) (v := .string (bs kind1)) p1 rfl
  have c1 := cell_block (o := 1) (v := .string (bs kind2)) p1 rfl
  have c2 := cell_block (o := 2) (v := .string (bs kind3)) p1 rfl
  have c3 := cell_block (o := 3) (v := .string (bs kind4)) p1 rfl
  have c4 := cell_block (o := 4) (v := .string (bs kind5)) p1 rfl
  have c5 := cell_block (o := 5) (v := .string (bs kind6)) p1 rfl
  have hs : s = 1 ∨ s = 2 ∨ s = 3 ∨ s = 4 ∨ s = 5 ∨ s = 6 := by omega
  clear h1 h4
  rcases hs with rfl | rfl | rfl | rfl | rfl | rfl
  all_goals
    go_enter Tryd.func18, Tryd.ntmps18
    go_wp2_with fail
    refine (kinds_any w ht).mono ?_
    rintro e w' ⟨rfl, rfl⟩
    go_wp2
    go_ret
    exact ⟨rfl, b1⟩
theorem lkind_any (s : Int) (h1 : 1 ≤ s) (h4 : s ≤ 6) (w : World) :
    Calls Tryd.prog 30 #[.int .i64 s] w fun e w' => e = .returned (.string (bs (kindL s))) ∧ Below w.heap.size w w' := by
  have b1 : Below w.heap.size w (w.alloc (.cells #[.string ⟨#[]⟩, .string ⟨#[112, 105, 110, 103]⟩, .string ⟨#[97, 99, 107]⟩, .string ⟨#[97, 115, 107]⟩, .string ⟨#[115, 121, 110, 99]⟩, .string ⟨#[98, 97, 99, 107]⟩, .string ⟨#[115, 117, 109]⟩] 9)) := balloc _ (Below.refl _ _)
  have hs : s = 1 ∨ s = 2 ∨ s = 3 ∨ s = 4 ∨ s = 5 ∨ s = 6 := by omega
  clear h1 h4
  rcases hs with rfl | rfl | rfl | rfl | rfl | rfl
  all_goals
    go_enter Tryd.func30, Tryd.ntmps30
    go_wp2
    go_ret
    exact ⟨rfl, b1⟩
end Go.Proofs.YtibnojbhoepcdaaDoor
