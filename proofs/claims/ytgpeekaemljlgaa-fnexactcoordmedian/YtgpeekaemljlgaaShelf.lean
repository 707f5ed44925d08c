/- The contracts of slices.Clone and slices.Sort at []int, laid at this program. -/
import Derived.Shelf.Sort.Plain
import Derived.Ground.Names2Prog
import Derived.Shelf.Slices.Clone
import Derived.Test.YtgpeekaemljlgaaProg
namespace Go.Proofs
open Go.Shelf
def Try.lays189_ren : Go.Shelf.Ren := ⟨fun | 189 => 9 | 125 => 11 | 257 => 10 | 128 => 21 | 129 => 22 | 294 => 12 | 295 => 13 | 296 => 14 | 297 => 15 | 298 => 16 | 299 => 17 | 216 => 18 | 300 => 19 | 301 => 20 | 328 => 23 | 329 => 24 | 330 => 25 | 331 => 26 | 332 => 27 | 215 => 28 | 343 => 29 | n => n, fun | 28 => 22 | 3 => 3 | 46 => 30 | 0 => 0 | 51 => 41 | 53 => 43 | 4 => 4 | 183 => 33 | 182 => 32 | 131 => 38 | 5 => 5 | 9 => 9 | 218 => 44 | 222 => 48 | 228 => 51 | 229 => 52 | n => n, fun | n => n⟩
theorem Try.lays189 : Go.Proofs.Lays.n189 Try.prog Try.lays189_ren := {
  mixed := by kernel_rfl
  f125 := Try.func11.trans (congrArg some (by kernel_rfl))
  f128 := Try.func21.trans (congrArg some (by kernel_rfl))
  f129 := Try.func22.trans (congrArg some (by kernel_rfl))
  f189 := Try.func9.trans (congrArg some (by kernel_rfl))
  f215 := Try.func28.trans (congrArg some (by kernel_rfl))
  f216 := Try.func18.trans (congrArg some (by kernel_rfl))
  f257 := Try.func10.trans (congrArg some (by kernel_rfl))
  f294 := Try.func12.trans (congrArg some (by kernel_rfl))
  f295 := Try.func13.trans (congrArg some (by kernel_rfl))
  f296 := Try.func14.trans (congrArg some (by kernel_rfl))
  f297 := Try.func15.trans (congrArg some (by kernel_rfl))
  f298 := Try.func16.trans (congrArg some (by kernel_rfl))
  f299 := Try.func17.trans (congrArg some (by kernel_rfl))
  f300 := Try.func19.trans (congrArg some (by kernel_rfl))
  f301 := Try.func20.trans (congrArg some (by kernel_rfl))
  f328 := Try.func23.trans (congrArg some (by kernel_rfl))
  f329 := Try.func24.trans (congrArg some (by kernel_rfl))
  f330 := Try.func25.trans (congrArg some (by kernel_rfl))
  f331 := Try.func26.trans (congrArg some (by kernel_rfl))
  f332 := Try.func27.trans (congrArg some (by kernel_rfl))
  f343 := Try.func29.trans (congrArg some (by kernel_rfl))
  t0 := Try.underlying0
  a0 := Try.isAgg0
  z0 := Try.sizeOf0
  v0 := Try.zeroValue0
  t3 := Try.underlying3
  a3 := Try.isAgg3
  z3 := Try.sizeOf3
  v3 := Try.zeroValue3
  t4 := Try.underlying4
  a4 := Try.isAgg4
  z4 := Try.sizeOf4
  v4 := Try.zeroValue4
  t5 := Try.underlying5
  a5 := Try.isAgg5
  z5 := Try.sizeOf5
  v5 := Try.zeroValue5
  t9 := Try.underlying9
  a9 := Try.isAgg9
  z9 := Try.sizeOf9
  v9 := Try.zeroValue9
  t28 := Try.underlying22
  a28 := Try.isAgg22
  z28 := Try.sizeOf22
  v28 := Try.zeroValue22
  t46 := Try.underlying30
  a46 := Try.isAgg30
  z46 := Try.sizeOf30
  v46 := Try.zeroValue30
  t51 := Try.underlying41
  a51 := Try.isAgg41
  z51 := Try.sizeOf41
  v51 := Try.zeroValue41
  t53 := Try.underlying43
  a53 := Try.isAgg43
  z53 := Try.sizeOf43
  v53 := Try.zeroValue43
  t131 := Try.underlying38
  a131 := Try.isAgg38
  z131 := Try.sizeOf38
  v131 := Try.zeroValue38
  t182 := Try.underlying32
  a182 := Try.isAgg32
  z182 := Try.sizeOf32
  v182 := Try.zeroValue32
  t183 := Try.underlying33
  a183 := Try.isAgg33
  z183 := Try.sizeOf33
  v183 := Try.zeroValue33
  t218 := Try.underlying44
  a218 := Try.isAgg44
  z218 := Try.sizeOf44
  v218 := Try.zeroValue44
  t222 := Try.underlying48
  a222 := Try.isAgg48
  z222 := Try.sizeOf48
  v222 := Try.zeroValue48
  t228 := Try.underlying51
  a228 := Try.isAgg51
  z228 := Try.sizeOf51
  v228 := Try.zeroValue51
  t229 := Try.underlying52
  a229 := Try.isAgg52
  z229 := Try.sizeOf52
  v229 := Try.zeroValue52 }
open Go.Sort Go.RowKit in
theorem Try.slices_Sort_int (blk off cap : Nat) (zs : List Int) (w : World) (hH : Holds (Value.int .i64) w blk off zs.toArray) (hblk : blk < w.heap.size) (hsz : zs.length < 4611686018427387904) :
    Calls Try.prog 9 #[.slice (some ⟨blk, off, none⟩) zs.length cap] w fun e w' =>
      e = .returned (.tuple #[]) ∧ ∃ n os, w' = grow (putRow (Value.int .i64) (Sort.ahead w n) blk off (zs.mergeSort fun x y => decide (x ≤ y)).toArray) os := Any.slices_Sort_int Try.lays189 blk off cap zs w hH hblk hsz
def Try.laysNm215_ren : Go.Shelf.Ren := ⟨fun | 15 => 8 | n => n, fun | 22 => 22 | 3 => 3 | 4 => 4 | n => n, fun | n => n⟩
theorem Try.laysNm215 : Go.Proofs.Lays2.n15 Try.prog Try.laysNm215_ren := {
  mixed := by kernel_rfl
  f15 := Try.func8.trans (congrArg some (by kernel_rfl))
  t3 := Try.underlying3
  a3 := Try.isAgg3
  z3 := Try.sizeOf3
  v3 := Try.zeroValue3
  t4 := Try.underlying4
  a4 := Try.isAgg4
  z4 := Try.sizeOf4
  v4 := Try.zeroValue4
  t22 := Try.underlying22
  a22 := Try.isAgg22
  z22 := Try.sizeOf22
  v22 := Try.zeroValue22
  i3 := by kernel_rfl }
open Go.RowKit Go.Lib in
theorem Try.slices_Clone_int (b off n c : Nat) (zs : List Int) (w : World) (hz : n ≤ zs.length) (hbig : n * 8 ≤ 140737488355328) (hc : ∀ j, j < zs.length → w.cell? ⟨b, off + j, none⟩ = some (.int .i64 (zs.getD j 0))) :
    Calls Try.prog 8 #[.slice (some ⟨b, off, none⟩) n c] w fun e w' => ∃ v', e = .returned v' ∧ w'.ownsRow w.heap.size 3 1 v' n ((zs.take n).map (Value.int .i64)) ∧ v' ≠ .slice none 0 0 ∧ Below w.heap.size w w' := Any.slices_Clone_int Try.laysNm215 b off n c zs w hz hbig hc
end Go.Proofs
