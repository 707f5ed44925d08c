/- The parts of a move: shares, pushes, heights: what the program's inner functions come to. -/
import Derived.Test.YtajcjanfllpcgaaDoorSdist
import Derived.LoopTactic
import Derived.WalkKit
import Derived.ProofKit
import Derived.WalkLawsBesides
import Derived.Deep.QuietTactic
import Derived.BigQuiet
import Derived.Deep.RegionHeld3
import Derived.Deep.DrawnRows
import Derived.Deep.DeepCutAuto
import Derived.Laws.BitsLemmas
namespace Go.Proofs.YtajcjanfllpcgaaDoor
open Go.ChangeShapes Go.WideShapes Go.ChangeAt Go.RowKit
attribute [local go_sem ↓] Go.wp_at_zero Go.wp_at_succ
theorem and3 (n : Int) : bits .and .i64 n 3 = n % 4 := by
  have h3 : (BitVec.ofInt 64 3).toNat = 2 ^ 2 - 1 := by decide
  have key : (BitVec.ofInt 64 n &&& BitVec.ofInt 64 3).toNat = (n % ((2 ^ 64 : Nat) : Int)).toNat % 2 ^ 2 := by
    rw [BitVec.toNat_and, BitVec.toNat_ofInt, h3, Nat.and_two_pow_sub_one_eq_mod]
  show IntKind.i64.wrap ((BitVec.ofInt 64 n &&& BitVec.ofInt 64 3).toNat : Nat) = n % 4
  rw [key, IntKind.wrap_i64]
  omega
/-- the four turns -/
def tx (k : Int) : Int := if k = 0 then 1 else if k = 2 then -1 else 0
def ty (k : Int) : Int := if k = 1 then 1 else if k = 3 then -1 else 0
/-- how long the way counts, how strong the push is, and along which way -/
def pl (n : Int) : Int := if n = 0 then 1 else n
def pf (n fr : Int) : Int := if n = 0 then fr else if fr < -n then -n else fr
def px (n x fr k : Int) : Int := if n = 0 then (if fr < 0 then 0 else tx k) else x
def py (n y fr k : Int) : Int := if n = 0 then (if fr < 0 then 0 else ty k) else y
/-- the table of the turns lies at block 0 -/
def Turns (w : World) : Prop := w.cell? ⟨0, 0, none⟩ = some (.int .i64 1) ∧ w.cell? ⟨0, 1, none⟩ = some (.int .i64 0) ∧ w.cell? ⟨0, 2, none⟩ = some (.int .i64 0) ∧ w.cell? ⟨0, 3, none⟩ = some (.int .i64 1) ∧ w.cell? ⟨0, 4, none⟩ = some (.int .i64 (-1)) ∧ w.cell? ⟨0, 5, none⟩ = some (.int .i64 0) ∧ w.cell? ⟨0, 6, none⟩ = some (.int .i64 0) ∧ w.cell? ⟨0, 7, none⟩ = some (.int .i64 (-1))
theorem bounded_any (n lo hi : Int) (w : World) (h : lo ≤ hi) :
    Calls Tryd.prog 31 #[.int .i64 n, .int .i64 lo, .int .i64 hi] w fun e w' => e = .returned (.int .i64 (M.box n lo hi)) ∧ w' = w := by
  go_enter Tryd.func31, Tryd.ntmps31
  go_wp2
  all_goals (go_ret; exact ⟨ret_int (by unfold M.box; omega), rfl⟩)
theorem share_any (x y h e am x' y' h' e' : Int) (w : World) (h1 : 1 ≤ e ∧ e ≤ 1500) (h2 : 1 ≤ e' ∧ e' ≤ 1500) (h3 : -1000000 ≤ am ∧ am ≤ 1000000) :
    Calls Tryd.prog 28 #[.agg #[.int .i64 x, .int .i64 y, .int .i64 h, .int .i64 e], .int .i64 am, .agg #[.int .i64 x', .int .i64 y', .int .i64 h', .int .i64 e']] w fun r w' => r = .returned (.int .i64 (M.fo am e (e + e'))) ∧ ∃ o1 o2, w' = (w.alloc o1).alloc o2 := by
  have hm := M.mul_bd (a := am) (b := e) (A := 1000000) (B := 1500) (by omega) (by omega) (by omega) (by omega)
  have hq := M.tdiv_abs (a := am * e) (b := e + e') (A := 1500000000) (by omega) (by omega) (by omega)
  have hz : ¬ e + e' = 0 := by omega
  go_enter Tryd.func28, Tryd.ntmps28
  go_wp2
  go_ret
  exact ⟨rfl, _, _, rfl⟩
theorem lifted_any (h p1 p2 p3 f : Int) (w : World) (h1 : 0 ≤ h ∧ h ≤ 100000) (h2 : -10000000 ≤ f ∧ f ≤ 10000000) :
    Calls Tryd.prog 30 #[.agg #[.int .i64 h], .agg #[.int .i64 p1, .int .i64 p2, .int .i64 p3, .int .i64 f]] w fun r w' => r = .returned (.agg #[.int .i64 (M.box (h + f.tdiv 4) 0 100000)]) ∧ ∃ o1 o2 o3, w' = ((w.alloc o1).alloc o2).alloc o3 := by
  have hq := M.tdiv_abs (a := f) (b := 4) (A := 10000000) (by omega) (by omega) (by omega)
  go_enter Tryd.func30, Tryd.ntmps30
  go_wp2_with (go_at_call 31; refine (bounded_any _ _ _ _ (by omega)).mono ?_; rintro e w' ⟨rfl, rfl⟩)
  exact bodyPost_ret (v := .agg #[.int .i64 (M.box (h + f.tdiv 4) 0 100000)]) (by simp [results, Tryd.results30, go_sem]) rfl ⟨rfl, _, _, _, rfl⟩
theorem pushed_any (x y p q n f : Int) (w : World) (h1 : -100000 ≤ x ∧ x ≤ 100000) (h2 : -100000 ≤ y ∧ y ≤ 100000) (h3 : -200000 ≤ p ∧ p ≤ 200000) (h4 : -200000 ≤ q ∧ q ≤ 200000) (hn : 1 ≤ n) (hf : -10000000 ≤ f ∧ f ≤ 10000000) :
    Calls Tryd.prog 29 #[.agg #[.int .i64 x, .int .i64 y], .agg #[.int .i64 p, .int .i64 q, .int .i64 n, .int .i64 f]] w fun r w' => r = .returned (.agg #[.int .i64 (M.box (x + (f * p).tdiv n) (-100000) 100000), .int .i64 (M.box (y + (f * q).tdiv n) (-100000) 100000)]) ∧ ∃ o1 o2 o3, w' = (((w.alloc o1).alloc o2).alloc o3).drew := by
  have hm1 := M.mul_bd (a := f) (b := p) (A := 10000000) (B := 200000) (by omega) (by omega) (by omega) (by omega)
  have hm2 := M.mul_bd (a := f) (b := q) (A := 10000000) (B := 200000) (by omega) (by omega) (by omega) (by omega)
  have hq1 := M.tdiv_abs (a := f * p) (b := n) (A := 2000000000000) (by omega) (by omega) (by omega)
  have hq2 := M.tdiv_abs (a := f * q) (b := n) (A := 2000000000000) (by omega) (by omega) (by omega)
  have hz : ¬ n = 0 := by omega
  go_enter Tryd.func29, Tryd.ntmps29
  go_wp2_with fail
  go_region_held3 (fun w' => w'.cell? ⟨w.heap.size, 0, none⟩ = some (.int .i64 x) ∧ w'.cell? ⟨w.heap.size, 1, none⟩ = some (.int .i64 y) ∧ w'.cell? ⟨w.heap.size + 1, 0, none⟩ = some (.int .i64 p) ∧ w'.cell? ⟨w.heap.size + 1, 1, none⟩ = some (.int .i64 q) ∧ w'.cell? ⟨w.heap.size + 1, 2, none⟩ = some (.int .i64 n) ∧ w'.cell? ⟨w.heap.size + 1, 3, none⟩ = some (.int .i64 f)) (simp [go_sem]) (first | (go_at_call 31; refine (bounded_any _ _ _ _ (by omega)).mono ?_; rintro e w' ⟨rfl, rfl⟩))
  go_wp2
  refine bodyPost_ret (v := .agg #[.int .i64 (M.box (IntKind.i64.wrap (x + IntKind.i64.wrap ((IntKind.i64.wrap (f * p)).tdiv n))) (-100000) 100000), .int .i64 (M.box (IntKind.i64.wrap (y + IntKind.i64.wrap ((IntKind.i64.wrap (f * q)).tdiv n))) (-100000) 100000)]) (by simp [results, Tryd.results29, go_sem]) rfl ⟨?_, _, _, _, rfl⟩
  rw [wrap_id (n := f * p) (by omega) (by omega), wrap_id (n := f * q) (by omega) (by omega), wrap_id (n := (f * p).tdiv n) (by omega) (by omega), wrap_id (n := (f * q).tdiv n) (by omega) (by omega), wrap_id (n := x + (f * p).tdiv n) (by omega) (by omega), wrap_id (n := y + (f * q).tdiv n) (by omega) (by omega)]
theorem along_any (x y fr turn : Int) (w : World) (ht : Turns w) (h1 : -200000 ≤ x ∧ x ≤ 200000) (h2 : -200000 ≤ y ∧ y ≤ 200000) :
    Calls Tryd.prog 26 #[.agg #[.int .i64 x, .int .i64 y], .int .i64 fr, .int .i64 turn] w fun r w' => r = .returned (.agg #[.int .i64 (px (M.isq (x * x + y * y)) x fr (turn % 4)), .int .i64 (py (M.isq (x * x + y * y)) y fr (turn % 4)), .int .i64 (pl (M.isq (x * x + y * y))), .int .i64 (pf (M.isq (x * x + y * y)) fr)]) ∧ ∃ o1 o2 o3 o4, w' = (((w.alloc o1).alloc o2).alloc o3).alloc o4 := by
  have hn := nm_eq x y h1.1 h1.2 h2.1 h2.2
  obtain ⟨N, hN⟩ : ∃ N, M.isq (x * x + y * y) = N := ⟨_, rfl⟩
  rw [hN] at hn ⊢
  obtain ⟨e0, n0, n1⟩ := hn
  have E0 : Hid (M.cl (M.isq (M.cl x * M.cl x + M.cl y * M.cl y)) = N) := e0
  clear e0 hN
  have a3 := and3 turn
  by_cases hz : N = 0
  · subst hz
    by_cases hf : fr < 0
    · have v : px 0 x fr (turn % 4) = 0 ∧ py 0 y fr (turn % 4) = 0 ∧ pl 0 = 1 ∧ pf 0 fr = fr := by simp [px, py, pl, pf, hf]
      rw [v.1, v.2.1, v.2.2.1, v.2.2.2]
      clear v
      go_enter Tryd.func26, Tryd.ntmps26
      go_wp2_with fail
      refine (len_any _ _ _).mono ?_
      rintro r w1 ⟨rfl, o1, o2, rfl⟩
      rw [E0.out]
      go_wp2
      exact bodyPost_ret (v := .agg #[.int .i64 0, .int .i64 0, .int .i64 1, .int .i64 fr]) (by simp [results, Tryd.results26, go_sem]) rfl ⟨rfl, _, _, _, _, rfl⟩
    · obtain ⟨t0, t1, t2, t3, t4, t5, t6, t7⟩ := ht
      have k4 : ∀ (i : Nat) (v : Value), w.cell? ⟨0, i, none⟩ = some v → ∀ o1 o2 o3 o4, ((((w.alloc o1).alloc o2).alloc o3).alloc o4).cell? ⟨0, i, none⟩ = some v := fun i v hv o1 o2 o3 o4 => keep_alloc _ (keep_alloc _ (keep_alloc _ (keep_alloc _ hv)))
      have g0 := k4 _ _ t0
      have g1 := k4 _ _ t1
      have g2 := k4 _ _ t2
      have g3 := k4 _ _ t3
      have g4 := k4 _ _ t4
      have g5 := k4 _ _ t5
      have g6 := k4 _ _ t6
      have g7 := k4 _ _ t7
      clear k4 t0 t1 t2 t3 t4 t5 t6 t7
      have hk : turn % 4 = 0 ∨ turn % 4 = 1 ∨ turn % 4 = 2 ∨ turn % 4 = 3 := by omega
      rcases hk with hk | hk | hk | hk
      all_goals rw [hk] at a3 ⊢
      all_goals clear hk
      · have v : px 0 x fr 0 = 1 ∧ py 0 y fr 0 = 0 ∧ pl 0 = 1 ∧ pf 0 fr = fr := by simp [px, py, pl, pf, hf, tx, ty]
        rw [v.1, v.2.1, v.2.2.1, v.2.2.2]
        clear v
        go_enter Tryd.func26, Tryd.ntmps26
        go_wp2_with fail
        refine (len_any _ _ _).mono ?_
        rintro r w1 ⟨rfl, o1, o2, rfl⟩
        rw [E0.out]
        go_wp2
        exact bodyPost_ret (v := .agg #[.int .i64 1, .int .i64 0, .int .i64 1, .int .i64 fr]) (by simp [results, Tryd.results26, go_sem]) rfl ⟨rfl, _, _, _, _, rfl⟩
      · have v : px 0 x fr 1 = 0 ∧ py 0 y fr 1 = 1 ∧ pl 0 = 1 ∧ pf 0 fr = fr := by simp [px, py, pl, pf, hf, tx, ty]
        rw [v.1, v.2.1, v.2.2.1, v.2.2.2]
        clear v
        go_enter Tryd.func26, Tryd.ntmps26
        go_wp2_with fail
        refine (len_any _ _ _).mono ?_
        rintro r w1 ⟨rfl, o1, o2, rfl⟩
        rw [E0.out]
        go_wp2
        exact bodyPost_ret (v := .agg #[.int .i64 0, .int .i64 1, .int .i64 1, .int .i64 fr]) (by simp [results, Tryd.results26, go_sem]) rfl ⟨rfl, _, _, _, _, rfl⟩
      · have v : px 0 x fr 2 = -1 ∧ py 0 y fr 2 = 0 ∧ pl 0 = 1 ∧ pf 0 fr = fr := by simp [px, py, pl, pf, hf, tx, ty]
        rw [v.1, v.2.1, v.2.2.1, v.2.2.2]
        clear v
        go_enter Tryd.func26, Tryd.ntmps26
        go_wp2_with fail
        refine (len_any _ _ _).mono ?_
        rintro r w1 ⟨rfl, o1, o2, rfl⟩
        rw [E0.out]
        go_wp2
        exact bodyPost_ret (v := .agg #[.int .i64 (-1), .int .i64 0, .int .i64 1, .int .i64 fr]) (by simp [results, Tryd.results26, go_sem]) rfl ⟨rfl, _, _, _, _, rfl⟩
      · have v : px 0 x fr 3 = 0 ∧ py 0 y fr 3 = -1 ∧ pl 0 = 1 ∧ pf 0 fr = fr := by simp [px, py, pl, pf, hf, tx, ty]
        rw [v.1, v.2.1, v.2.2.1, v.2.2.2]
        clear v
        go_enter Tryd.func26, Tryd.ntmps26
        go_wp2_with fail
        refine (len_any _ _ _).mono ?_
        rintro r w1 ⟨rfl, o1, o2, rfl⟩
        rw [E0.out]
        go_wp2
        exact bodyPost_ret (v := .agg #[.int .i64 0, .int .i64 (-1), .int .i64 1, .int .i64 fr]) (by simp [results, Tryd.results26, go_sem]) rfl ⟨rfl, _, _, _, _, rfl⟩
  · have hz' : (N != 0) = true := by simp [hz]
    have v : px N x fr (turn % 4) = x ∧ py N y fr (turn % 4) = y ∧ pl N = N ∧ pf N fr = (if fr < -N then -N else fr) := by simp [px, py, pl, pf, hz]
    rw [v.1, v.2.1, v.2.2.1, v.2.2.2]
    clear v
    by_cases hf : fr < -N
    · rw [if_pos hf]
      go_enter Tryd.func26, Tryd.ntmps26
      go_wp2_with fail
      refine (len_any _ _ _).mono ?_
      rintro r w1 ⟨rfl, o1, o2, rfl⟩
      rw [E0.out]
      go_wp2
      exact bodyPost_ret (v := .agg #[.int .i64 x, .int .i64 y, .int .i64 N, .int .i64 (-N)]) (by simp [results, Tryd.results26, go_sem]) rfl ⟨rfl, _, _, _, _, rfl⟩
    · rw [if_neg hf]
      go_enter Tryd.func26, Tryd.ntmps26
      go_wp2_with fail
      refine (len_any _ _ _).mono ?_
      rintro r w1 ⟨rfl, o1, o2, rfl⟩
      rw [E0.out]
      go_wp2
      exact bodyPost_ret (v := .agg #[.int .i64 x, .int .i64 y, .int .i64 N, .int .i64 fr]) (by simp [results, Tryd.results26, go_sem]) rfl ⟨rfl, _, _, _, _, rfl⟩
end Go.Proofs.YtajcjanfllpcgaaDoor
