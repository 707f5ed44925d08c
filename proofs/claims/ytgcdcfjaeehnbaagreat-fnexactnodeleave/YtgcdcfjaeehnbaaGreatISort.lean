/- The library's sort at the register's order. -/
import Derived.Test.YtgcdcfjaeehnbaaGreatIReg
namespace Go.Proofs.YtgcdcfjaeehnbaaGreat.I
open Go.ChangeShapes Go.WideShapes Go.ChangeAt Go.RowKit
set_option maxRecDepth 20000
set_option maxHeartbeats 2000000
attribute [local go_sem ↓] Go.wp_at_zero Go.wp_at_succ
open Go.Shelf Go.Lib Go.Sort
theorem siT : ∃ i, Tryz.prog.info? 54 = some i ∧ i.desc = .slice 3 := ⟨(Tryz.prog.info? 54).get (by kernel_rfl), by kernel_rfl, by kernel_rfl⟩
theorem siE : ∃ i, Tryz.prog.info? 3 = some i ∧ i.size = 1 ∧ i.hasPointers = false ∧ i.bytes = 8 := ⟨(Tryz.prog.info? 3).get (by kernel_rfl), by kernel_rfl, by kernel_rfl, by kernel_rfl, by kernel_rfl⟩
theorem less_any (bx rb blk c size : Nat) (W : World) (G : Nat → Int) (hb : W.cell? ⟨bx, 0, none⟩ = some (.pointer (some ⟨rb, 0, none⟩))) (hs : W.cell? ⟨rb, 0, none⟩ = some (.slice (some ⟨blk, 0, none⟩) size c))
  (hc : ∀ t, t < size → W.cell? ⟨blk, t, none⟩ = some (.int .i64 (G t))) (i j : Nat) (hi : i < size) (hj : j < size) :
  Calls Tryz.prog 267 #[.int .i64 i, .int .i64 j, .pointer (some ⟨bx, 0, none⟩)] W fun e w' => e = .returned (.bool (decide (G i < G j))) ∧ ∃ q, w' = W.drewN q := by
 have ci := hc i hi
 have cj := hc j hj
 go_enter Tryz.func267, Tryz.ntmps267
 go_wp2
 go_quiet (fail)
 go_wp2
 go_ret
 exact ⟨rfl, nq, rfl⟩
theorem sort_two (bx rb g cap base : Nat) (L : List Int) (mv : Value) (w : World) (h2 : 2 ≤ L.length) (h12 : L.length ≤ 12) (hrb : w.heap[rb]? = some (.cells #[.slice (some ⟨g, 0, none⟩) L.length cap, mv] 252 (0, 0))) (hbx : w.heap[bx]? = some (.cells #[.pointer (some ⟨rb, 0, none⟩)] 230 (0, 0)))
  (hown : w.ownsRow base 3 1 (.slice (some ⟨g, 0, none⟩) L.length cap) L.length (lv L)) :
  Calls Tryz.prog 203 #[.iface 54 (.slice (some ⟨g, 0, none⟩) L.length cap), .func (.func 267) #[] #[.pointer (some ⟨bx, 0, none⟩)]] w fun e w' => e = .returned (.tuple #[]) ∧
   w'.ownsRow base 3 1 (.slice (some ⟨g, 0, none⟩) L.length cap) L.length (lv (L.mergeSort fun x y => decide (x ≤ y))) ∧ w.grownBy w' (some g) := by
 obtain ⟨iT, hiT, hdT⟩ := siT
 obtain ⟨iE, hiE, hsz, hpt, hby⟩ := siE
 have hK : Lib.swapperK L.toArray.size iE 2 = 5 := by
  have c : (L.length == 0) = false := by rw [beq_eq_false_iff_ne]; omega
  have d : (L.length == 1) = false := by rw [beq_eq_false_iff_ne]; omega
  simp [Lib.swapperK, hpt, hby, c, d]
 rcases hown.2 with ⟨h0, _⟩ | ⟨g1, cap1, cur, hv, hbase, hb, h1, h2', h3, h4⟩
 ·cases h0
 cases hv
 have hH : Holds (Value.int .i64) w g 0 L.toArray := holds_of_blockI hb (by simpa [lv] using h4)
 have hgl : g < w.heap.size := lt_of_block hb
 have n1 : rb ≠ g := fun e => by subst e; rw [hrb] at hb; simp at hb
 have n2 : bx ≠ g := fun e => by subst e; rw [hbx] at hb; simp at hb
 have hless : LessReads Tryz.prog 267 #[.pointer (some ⟨bx, 0, none⟩)] (Value.int .i64) ltInt g 0 L.toArray.size w := by
  intro m os dk hs i j hi hj
  have e : sortWorld (Value.int .i64) w g 0 m dk os = putRow (Value.int .i64) (grow (Sort.ahead w m) os) g 0 dk := by
   unfold sortWorld; rw [putRow_grow _ (Sort.ahead w m) _ g 0 _ hgl]
  have hHg : Holds (Value.int .i64) (grow (Sort.ahead w m) os) g 0 L.toArray := holds_grow _ _ _ g 0 _ hgl (holds_ahead _ _ _ _ _ _ hH)
  refine less_any bx rb g cap L.toArray.size _ (fun t => dk[t]!) ?_ ?_ (fun t ht => ?_) i j hi hj
  ·rw [e, cell?_putRow_other _ _ g 0 dk _ (Or.inl (by show bx ≠ g; omega)), cell?_grow _ _ _ (lt_of_block hbx)]
   show w.cell? _ = _
   simp [World.cell?, hbx]
  ·rw [e, cell?_putRow_other _ _ g 0 dk _ (Or.inl (by show rb ≠ g; omega)), cell?_grow _ _ _ (lt_of_block hrb)]
   show w.cell? _ = _
   simp [World.cell?, hrb]
  ·rw [e]
   have := cell?_putRow _ _ g 0 _ dk hHg hs t (by omega)
   rw [Nat.zero_add] at this
   exact this
 have hS := Any.sort_Slice_small_sorted Tryz.laysGg6 54 3 iT iE hiT hdT (by kernel_rfl) hiE 2 (fun _ => by kernel_rfl) hsz (fun _ => by kernel_rfl) (Value.int .i64) (fun _ => rfl) ltInt swo_ltInt 267 _
  (enters_of Tryz.func267 (by kernel_rfl) rfl) g 0 cap L.toArray (by simpa using h2) (by simpa using h12) 249 (by rw [hK]; kernel_rfl) true
  (fun args W => run_callFunc_extern Tryz.func249 (by kernel_rfl) (by kernel_rfl) (by kernel_rfl) (e := Extern.ReflectliteSwapper.swap true) (by kernel_rfl) args W) w hless hH hgl
 change Calls Tryz.prog 203 _ _ _ at hS
 refine hS.mono ?_
 rintro e w' ⟨rfl, d', n, os, hp, hso, rfl⟩
 have hd : d' = (L.mergeSort fun x y => decide (x ≤ y)).toArray := by
  have h := sorted_unique_holds (lt := ltInt) swo_ltInt (fun x y h1 h2 => by simp only [ltInt, decide_eq_false_iff_not] at h1 h2; omega) L.toArray d' hp hso
  have e : (fun x y : Int => !ltInt y x) = fun x y => decide (x ≤ y) := by
   funext x y
   simp only [ltInt]
   by_cases h : x ≤ y
   ·first | (simp [h]; done) | (simp [h]; omega)
   ·first | (simp [h]; done) | (simp [h]; omega)
  rw [e] at h
  rw [← h]
 subst hd
 exact ⟨rfl, ownsRow_sortedI (by simp [List.length_mergeSort]) hbase hb h1 h2' h3, grownBy_sortedI _⟩
theorem sort_one (bx g cap base : Nat) (x : Int) (w : World) (hown : w.ownsRow base 3 1 (.slice (some ⟨g, 0, none⟩) 1 cap) 1 (lv [x])) :
  Calls Tryz.prog 203 #[.iface 54 (.slice (some ⟨g, 0, none⟩) 1 cap), .func (.func 267) #[] #[.pointer (some ⟨bx, 0, none⟩)]] w fun e w' => e = .returned (.tuple #[]) ∧
   w'.ownsRow base 3 1 (.slice (some ⟨g, 0, none⟩) 1 cap) 1 (lv [x]) ∧ w.grownBy w' (some g) := by
 obtain ⟨iT, hiT, hdT⟩ := siT
 obtain ⟨iE, hiE, _, _, _⟩ := siE
 have hK : Lib.swapperK 1 iE 2 = 2 := by simp [Lib.swapperK]
 have hS := Any.sort_Slice_tiny Tryz.laysGg6 54 3 iT iE hiT hdT (by kernel_rfl) hiE 2 (fun _ => by kernel_rfl) (some ⟨g, 0, none⟩) 1 cap (by omega) 246 (by rw [hK]; kernel_rfl) (.func 267) #[] #[.pointer (some ⟨bx, 0, none⟩)] w
 change Calls Tryz.prog 203 _ _ _ at hS
 refine hS.mono ?_
 rintro e w' ⟨rfl, os, rfl⟩
 have hg : w.grownBy (grow w os) (some g) := ⟨rfl, rfl, rfl, by simp, fun k hk _ => heap_grow_old _ _ hk⟩
 exact ⟨rfl, hown.kept (row := none) ⟨rfl, rfl, rfl, by simp, fun k hk _ => heap_grow_old _ _ hk⟩ (.inr (by simp [Value.ownBlock])), hg⟩
theorem sort_any (bx rb cap base n : Nat) (a : Option Addr) (L : List Int) (mv : Value) (w : World) (h1 : 1 ≤ n) (h12 : n ≤ 12) (hrb : w.heap[rb]? = some (.cells #[.slice a n cap, mv] 252 (0, 0))) (hbx : w.heap[bx]? = some (.cells #[.pointer (some ⟨rb, 0, none⟩)] 230 (0, 0)))
  (hown : w.ownsRow base 3 1 (.slice a n cap) n (lv L)) :
  Calls Tryz.prog 203 #[.iface 54 (.slice a n cap), .func (.func 267) #[] #[.pointer (some ⟨bx, 0, none⟩)]] w fun e w' => e = .returned (.tuple #[]) ∧
   w'.ownsRow base 3 1 (.slice a n cap) n (lv (L.mergeSort fun x y => decide (x ≤ y))) ∧ w.grownBy w' (Value.slice a n cap).ownBlock := by
 have hl : L.length = n := by have := hown.1; simp [lv] at this; omega
 rcases own_shape hown with ⟨e, h0⟩ | ⟨g, c, e, _⟩
 ·omega
 ·simp only [Value.slice.injEq, true_and] at e
  obtain ⟨rfl, rfl⟩ := e
  subst hl
  match L, h1, hrb, h12, hown with
  | [x], _, _, _, hown =>
   have := sort_one bx g cap base x w hown
   simpa [Value.ownBlock] using this
  | x :: y :: r, _, hrb, h12, hown => exact sort_two bx rb g cap base (x :: y :: r) mv w (by simp) h12 hrb hbx hown
end Go.Proofs.YtgcdcfjaeehnbaaGreat.I
