/- The contracts of slices.Clone and slices.Sort at []int, laid at this program. -/
import Derived.Shelf.Sort.Plain
import Derived.Ground.Names2Prog
import Derived.Shelf.Slices.Clone
import Derived.Test.YtgjnpkfbbgpmaaaProg
namespace Go.Proofs
open Go.Shelf
def Try.lays189_ren : Go.Shelf.Ren := ⟨fun | 189 => 10 | 125 => 12 | 257 => 11 | 128 => 22 | 129 => 23 | 294 => 13 | 295 => 14 | 296 => 15 | 297 => 16 | 298 => 17 | 299 => 18 | 216 => 19 | 300 => 20 | 301 => 21 | 328 => 24 | 329 => 25 | 330 => 26 | 331 => 27 | 332 => 28 | 215 => 29 | 343 => 30 | n => n, fun | 28 => 23 | 3 => 3 | 46 => 36 | 0 => 0 | 51 => 47 | 53 => 49 | 4 => 4 | 183 => 39 | 182 => 38 | 131 => 44 | 5 => 5 | 9 => 9 | 218 => 50 | 222 => 54 | 228 => 57 | 229 => 58 | n => n, fun | n => n⟩
theorem Try.lays189 : Go.Proofs.Lays.n189 Try.prog Try.lays189_ren := {
  mixed := by kernel_rfl
  f125 := Try.func12.trans (congrArg some (by kernel_rfl))
  f128 := Try.func22.trans (congrArg some (by kernel_rfl))
  f129 := Try.func23.trans (congrArg some (by kernel_rfl))
  f189 := Try.func10.trans (congrArg some (by kernel_rfl))
  f215 := Try.func29.trans (congrArg some (by kernel_rfl))
  f216 := Try.func19.trans (congrArg some (by kernel_rfl))
  f257 := Try.func11.trans (congrArg some (by kernel_rfl))
  f294 := Try.func13.trans (congrArg some (by kernel_rfl))
  f295 := Try.func14.trans (congrArg some (by kernel_rfl))
  f296 := Try.func15.trans (congrArg some (by kernel_rfl))
  f297 := Try.func16.trans (congrArg some (by kernel_rfl))
  f298 := Try.func17.trans (congrArg some (by kernel_rfl))
  f299 := Try.func18.trans (congrArg some (by kernel_rfl))
  f300 := Try.func20.trans (congrArg some (by kernel_rfl))
  f301 := Try.func21.trans (congrArg some (by kernel_rfl))
  f328 := Try.func24.trans (congrArg some (by kernel_rfl))
  f329 := Try.func25.trans (congrArg some (by kernel_rfl))
  f330 := Try.func26.trans (congrArg some (by kernel_rfl))
  f331 := Try.func27.trans (congrArg some (by kernel_rfl))
  f332 := Try.func28.trans (congrArg some (by kernel_rfl))
  f343 := Try.func30.trans (congrArg some (by kernel_rfl))
  t0 := Try.underlying0
  a0 := Try.isAgg0
  z0 := Try.sizeOf0
  v0 := Try.zeroValue0
  t3 := Try.underlying3
  a3 := Try.isAgg3
  z3 := Try.sizeOf3
  v3 := Try.zeroValue3
  t4 := Try.underlying4
  a4 := Try.isAgg4
  z4 := Try.sizeOf4
  v4 := Try.zeroValue4
  t5 := Try.underlying5
  a5 := Try.isAgg5
  z5 := Try.sizeOf5
  v5 := Try.zeroValue5
  t9 := Try.underlying9
  a9 := Try.isAgg9
  z9 := Try.sizeOf9
  v9 := Try.zeroValue9
  t28 := Try.underlying23
  a28 := Try.isAgg23
  z28 := Try.sizeOf23
  v28 := Try.zeroValue23
  t46 := Try.underlying36
  a46 := Try.isAgg36
  z46 := Try.sizeOf36
  v46 := Try.zeroValue36
  t51 := Try.underlying47
  a51 := Try.isAgg47
  z51 := Try.sizeOf47
  v51 := Try.zeroValue47
  t53 := Try.underlying49
  a53 := Try.isAgg49
  z53 := Try.sizeOf49
  v53 := Try.zeroValue49
  t131 := Try.underlying44
  a131 := Try.isAgg44
  z131 := Try.sizeOf44
  v131 := Try.zeroValue44
  t182 := Try.underlying38
  a182 := Try.isAgg38
  z182 := Try.sizeOf38
  v182 := Try.zeroValue38
  t183 := Try.underlying39
  a183 := Try.isAgg39
  z183 := Try.sizeOf39
  v183 := Try.zeroValue39
  t218 := Try.underlying50
  a218 := Try.isAgg50
  z218 := Try.sizeOf50
  v218 := Try.zeroValue50
  t222 := Try.underlying54
  a222 := Try.isAgg54
  z222 := Try.sizeOf54
  v222 := Try.zeroValue54
  t228 := Try.underlying57
  a228 := Try.isAgg57
  z228 := Try.sizeOf57
  v228 := Try.zeroValue57
  t229 := Try.underlying58
  a229 := Try.isAgg58
  z229 := Try.sizeOf58
  v229 := Try.zeroValue58 }
open Go.Sort Go.RowKit in
theorem Try.slices_Sort_int (blk off cap : Nat) (zs : List Int) (w : World) (hH : Holds (Value.int .i64) w blk off zs.toArray) (hblk : blk < w.heap.size) (hsz : zs.length < 4611686018427387904) :
    Calls Try.prog 10 #[.slice (some ⟨blk, off, none⟩) zs.length cap] w fun e w' =>
      e = .returned (.tuple #[]) ∧ ∃ n os, w' = grow (putRow (Value.int .i64) (Sort.ahead w n) blk off (zs.mergeSort fun x y => decide (x ≤ y)).toArray) os := Any.slices_Sort_int Try.lays189 blk off cap zs w hH hblk hsz
def Try.laysNm215_ren : Go.Shelf.Ren := ⟨fun | 15 => 9 | n => n, fun | 22 => 23 | 3 => 3 | 4 => 4 | n => n, fun | n => n⟩
theorem Try.laysNm215 : Go.Proofs.Lays2.n15 Try.prog Try.laysNm215_ren := {
  mixed := by kernel_rfl
  f15 := Try.func9.trans (congrArg some (by kernel_rfl))
  t3 := Try.underlying3
  a3 := Try.isAgg3
  z3 := Try.sizeOf3
  v3 := Try.zeroValue3
  t4 := Try.underlying4
  a4 := Try.isAgg4
  z4 := Try.sizeOf4
  v4 := Try.zeroValue4
  t22 := Try.underlying23
  a22 := Try.isAgg23
  z22 := Try.sizeOf23
  v22 := Try.zeroValue23
  i3 := by kernel_rfl }
open Go.RowKit Go.Lib in
theorem Try.slices_Clone_int (b off n c : Nat) (zs : List Int) (w : World) (hz : n ≤ zs.length) (hbig : n * 8 ≤ 140737488355328) (hc : ∀ j, j < zs.length → w.cell? ⟨b, off + j, none⟩ = some (.int .i64 (zs.getD j 0))) :
    Calls Try.prog 9 #[.slice (some ⟨b, off, none⟩) n c] w fun e w' => ∃ v', e = .returned v' ∧ w'.ownsRow w.heap.size 3 1 v' n ((zs.take n).map (Value.int .i64)) ∧ v' ≠ .slice none 0 0 ∧ Below w.heap.size w w' := Any.slices_Clone_int Try.laysNm215 b off n c zs w hz hbig hc
end Go.Proofs
