/- Behind a trip one is not more wrong than before: the law, walked. -/
import Derived.Test.YtajcjanfllpcgaaDoorDrawMove
import Derived.Test.YtajcjanfllpcgaaDoorExMove
import Derived.Test.YtajcjanfllpcgaaDoorMoves
namespace Go.Proofs.YtajcjanfllpcgaaDoor
open Go.ChangeShapes Go.WideShapes Go.ChangeAt Go.RowKit
attribute [local go_sem ↓] Go.wp_at_zero Go.wp_at_succ
theorem lhin_lit (n lo hi : Int) (b : Bool) (hb : inb n lo hi = b) (w : World) :
    Calls Tryd.prog 15 #[.int .i64 n, .int .i64 lo, .int .i64 hi] w fun e w' => e = .returned (.bool b) ∧ w' = w := by
  subst hb
  go_enter Tryd.func15, Tryd.ntmps15
  go_wp2
  all_goals (go_ret; exact ⟨ret_bool (by unfold inb; by_cases h1 : lo ≤ n <;> by_cases h2 : n ≤ hi <;> simp [h1, h2] <;> omega), rfl⟩)
theorem lhabs_any (n : Int) (w : World) (h1 : -4000000000000000000 ≤ n) (_h2 : n ≤ 4000000000000000000) :
    Calls Tryd.prog 16 #[.int .i64 n] w fun e w' => e = .returned (.int .i64 (M.ab n)) ∧ w' = w := by
  have n1 : IntKind.i64.wrap (-n) = -n := by rw [IntKind.wrap_i64]; omega
  go_enter Tryd.func16, Tryd.ntmps16
  go_wp2
  all_goals (go_ret; exact ⟨ret_int (by unfold M.ab; split <;> omega), rfl⟩)
theorem ab_bd {n B : Int} (h1 : -B ≤ n) (h2 : n ≤ B) : 0 ≤ M.ab n ∧ M.ab n ≤ B := by unfold M.ab; split <;> omega
theorem dist_bd {ax ay ah ae bx b_y bh be : Int} (ka : cok ax ay ah ae = true) (kb : cok bx b_y bh be = true) : 0 ≤ M.isq ((ax - bx) * (ax - bx) + (ay - b_y) * (ay - b_y)) + ah + bh ∧ M.isq ((ax - bx) * (ax - bx) + (ay - b_y) * (ay - b_y)) + ah + bh ≤ 600000 := by
  have ha := cok_bd ka
  have hb := cok_bd kb
  have h0 := M.isq_nonneg ((ax - bx) * (ax - bx) + (ay - b_y) * (ay - b_y))
  have h1 := M.isq_le_abs (u := ax - bx) (v := ay - b_y) (f := 200000) (by omega) (by omega) (by omega) (by omega)
  omega
theorem box_step {a s F : Int} (ha : -100000 ≤ a ∧ a ≤ 100000) (h1 : -F ≤ s) (h2 : s ≤ F) : -F ≤ M.box (a + s) (-100000) 100000 - a ∧ M.box (a + s) (-100000) 100000 - a ≤ F := by
  unfold M.box
  split <;> (try split) <;> omega
theorem side_up {a b s : Int} (ha : -100000 ≤ a ∧ a ≤ 100000) (h1 : 0 ≤ a - b → 0 ≤ s) (h2 : a - b ≤ 0 → s ≤ 0) : (a - b) * (a - b) ≤ (M.box (a + s) (-100000) 100000 - b) * (M.box (a + s) (-100000) 100000 - b) := by
  by_cases h : 0 ≤ a - b
  · have := h1 h
    exact M.sq_le h (by unfold M.box; split <;> (try split) <;> omega)
  · have := h2 (by omega)
    have := M.sq_le (a := -(a - b)) (b := -(M.box (a + s) (-100000) 100000 - b)) (by omega) (by unfold M.box; split <;> (try split) <;> omega)
    rw [Int.neg_mul_neg, Int.neg_mul_neg] at this
    exact this
theorem side_down {a b s : Int} (ha : -100000 ≤ a ∧ a ≤ 100000) (hb : -100000 ≤ b ∧ b ≤ 100000) (h1 : 0 ≤ a - b → -(a - b) ≤ s ∧ s ≤ 0) (h2 : a - b ≤ 0 → 0 ≤ s ∧ s ≤ -(a - b)) : (M.box (a + s) (-100000) 100000 - b) * (M.box (a + s) (-100000) 100000 - b) ≤ (a - b) * (a - b) := by
  refine M.sq_abs_le ⟨fun h => ?_, fun h => ?_⟩
  · have := h1 h
    unfold M.box; split <;> (try split) <;> omega
  · have := h2 h
    unfold M.box; split <;> (try split) <;> omega
theorem le_norm {x y : Int} : -M.isq (x * x + y * y) ≤ x ∧ x ≤ M.isq (x * x + y * y) := by
  have hy := M.sq_nonneg y
  by_cases h : 0 ≤ x
  · have := M.le_isq (n := x * x + y * y) (b := x) (by omega) h
    omega
  · have := M.le_isq (n := x * x + y * y) (b := -x) (by rw [Int.neg_mul_neg]; omega) (by omega)
    omega
/-- one side of the step: the force g along x, of a way n -/
theorem one_side (n x g k tk : Int) (hn : 0 ≤ n) (hx : -n ≤ x ∧ x ≤ n) (htk : -1 ≤ tk ∧ tk ≤ 1) (hk : k = if n = 0 then (if g < 0 then 0 else tk) else x) (hg : n = 0 ∨ -n ≤ g) :
    (0 ≤ g → (-g ≤ (g * k).tdiv (pl n) ∧ (g * k).tdiv (pl n) ≤ g) ∧ (0 ≤ x → 0 < n → 0 ≤ (g * k).tdiv (pl n)) ∧ (x ≤ 0 → 0 < n → (g * k).tdiv (pl n) ≤ 0)) ∧
    (g ≤ 0 → (g ≤ (g * k).tdiv (pl n) ∧ (g * k).tdiv (pl n) ≤ -g) ∧ (0 ≤ x → -x ≤ (g * k).tdiv (pl n) ∧ (g * k).tdiv (pl n) ≤ 0) ∧ (x ≤ 0 → 0 ≤ (g * k).tdiv (pl n) ∧ (g * k).tdiv (pl n) ≤ -x)) := by
  by_cases h0 : n = 0
  · have hpl : pl n = 1 := by unfold pl; rw [if_pos h0]
    rw [hpl, Int.tdiv_one]
    rw [if_pos h0] at hk
    have hx0 : x = 0 := by omega
    constructor
    · intro h
      rw [if_neg (by omega)] at hk
      have e : k = -1 ∨ k = 0 ∨ k = 1 := by omega
      refine ⟨?_, fun _ _ => by omega, fun _ _ => by omega⟩
      clear hk
      rcases e with rfl | rfl | rfl <;> omega
    · intro h
      have hz : g * k = 0 := by
        by_cases hg0 : g < 0
        · rw [if_pos hg0] at hk; subst hk; exact Int.mul_zero _
        · obtain rfl : g = 0 := by omega
          exact Int.zero_mul _
      rw [hz]
      omega
  · have hpl : pl n = n := by unfold pl; rw [if_neg h0]
    rw [hpl]
    rw [if_neg h0] at hk
    subst hk
    have hn' : 0 < n := by omega
    have hA := M.step_abs (f := g) (x := k) hn' hx.1 hx.2
    constructor
    · intro h
      have hB := M.step_away (f := g) (x := k) hn' h
      exact ⟨hA.1 h, fun h1 _ => hB.1 h1, fun h1 _ => hB.2 h1⟩
    · intro h
      have hB := M.step_near (f := g) (x := k) hn' h (by omega)
      exact ⟨hA.2 h, hB.1, hB.2⟩
theorem pf_parts (n f : Int) (hn : 0 ≤ n) : (0 ≤ f → pf n f = f) ∧ (f ≤ 0 → pf n f ≤ 0 ∧ f ≤ pf n f) ∧ (n = 0 ∨ -n ≤ pf n f) ∧ (n = 0 → pf n f = f) := by
  unfold pf
  by_cases h0 : n = 0
  · simp [h0]
  · rw [if_neg h0]
    split <;> omega
theorem near_move (ax ay ah ae bx b_y bh be trip turn : Int) (ka : cok ax ay ah ae = true) (kb : cok bx b_y bh be = true) :
    M.ab (trip - (M.isq ((mX ax ay ah ae bx b_y bh be trip turn - bx) * (mX ax ay ah ae bx b_y bh be trip turn - bx) + (mY ax ay ah ae bx b_y bh be trip turn - b_y) * (mY ax ay ah ae bx b_y bh be trip turn - b_y)) + mH ax ay ah ae bx b_y bh be trip + bh)) ≤
      M.ab (trip - (M.isq ((ax - bx) * (ax - bx) + (ay - b_y) * (ay - b_y)) + ah + bh)) + 2 := by
  have ha := cok_bd ka
  have hb := cok_bd kb
  have hn : 0 ≤ mN ax ay bx b_y := M.isq_nonneg _
  have hx : -mN ax ay bx b_y ≤ ax - bx ∧ ax - bx ≤ mN ax ay bx b_y := le_norm
  have hy : -mN ax ay bx b_y ≤ ay - b_y ∧ ay - b_y ≤ mN ax ay bx b_y := by
    unfold mN
    rw [Int.add_comm]
    exact le_norm
  have hz : mN ax ay bx b_y = 0 → (ax - bx) * (ax - bx) = 0 ∧ (ay - b_y) * (ay - b_y) = 0 := fun h => by
    have e1 : ax - bx = 0 := by omega
    have e2 : ay - b_y = 0 := by omega
    rw [e1, e2]
    exact ⟨rfl, rfl⟩
  have hw : mW ax ay ah bx b_y bh trip = trip - (M.isq ((ax - bx) * (ax - bx) + (ay - b_y) * (ay - b_y)) + ah + bh) := rfl
  have hfp : 0 ≤ mW ax ay ah bx b_y bh trip → 0 ≤ mF ax ay ah ae bx b_y bh be trip ∧ 4 * mF ax ay ah ae bx b_y bh be trip ≤ mW ax ay ah bx b_y bh trip := fun h => M.fo_pos h (by omega) (by omega)
  have hfn : mW ax ay ah bx b_y bh trip ≤ 0 → mF ax ay ah ae bx b_y bh be trip ≤ 0 ∧ mW ax ay ah bx b_y bh trip ≤ 4 * mF ax ay ah ae bx b_y bh be trip := fun h => M.fo_neg h (by omega) (by omega)
  have hp := pf_parts (mN ax ay bx b_y) (mF ax ay ah ae bx b_y bh be trip) hn
  have kx : px (mN ax ay bx b_y) (ax - bx) (mF ax ay ah ae bx b_y bh be trip) (turn % 4) = if mN ax ay bx b_y = 0 then (if pf (mN ax ay bx b_y) (mF ax ay ah ae bx b_y bh be trip) < 0 then 0 else tx (turn % 4)) else ax - bx := by
    unfold px
    by_cases h : mN ax ay bx b_y = 0
    · rw [if_pos h, if_pos h, hp.2.2.2 h]
    · rw [if_neg h, if_neg h]
  have ky : py (mN ax ay bx b_y) (ay - b_y) (mF ax ay ah ae bx b_y bh be trip) (turn % 4) = if mN ax ay bx b_y = 0 then (if pf (mN ax ay bx b_y) (mF ax ay ah ae bx b_y bh be trip) < 0 then 0 else ty (turn % 4)) else ay - b_y := by
    unfold py
    by_cases h : mN ax ay bx b_y = 0
    · rw [if_pos h, if_pos h, hp.2.2.2 h]
    · rw [if_neg h, if_neg h]
  have sx := one_side _ _ (pf (mN ax ay bx b_y) (mF ax ay ah ae bx b_y bh be trip)) _ _ hn hx (tx_bd (turn % 4)) kx hp.2.2.1
  have sy := one_side _ _ (pf (mN ax ay bx b_y) (mF ax ay ah ae bx b_y bh be trip)) _ _ hn hy (ty_bd (turn % 4)) ky hp.2.2.1
  unfold mX mY mH
  generalize (pf (mN ax ay bx b_y) (mF ax ay ah ae bx b_y bh be trip) * px (mN ax ay bx b_y) (ax - bx) (mF ax ay ah ae bx b_y bh be trip) (turn % 4)).tdiv (pl (mN ax ay bx b_y)) = u at *
  generalize (pf (mN ax ay bx b_y) (mF ax ay ah ae bx b_y bh be trip) * py (mN ax ay bx b_y) (ay - b_y) (mF ax ay ah ae bx b_y bh be trip) (turn % 4)).tdiv (pl (mN ax ay bx b_y)) = v at *
  generalize hgg : pf (mN ax ay bx b_y) (mF ax ay ah ae bx b_y bh be trip) = g at *
  generalize mF ax ay ah ae bx b_y bh be trip = f at *
  generalize mN ax ay bx b_y = n at *
  generalize mW ax ay ah bx b_y bh trip = W at *
  clear kx ky hgg
  have hq : (0 ≤ g → 0 ≤ g.tdiv 4 ∧ g.tdiv 4 ≤ g) ∧ (g ≤ 0 → g ≤ g.tdiv 4 ∧ g.tdiv 4 ≤ 0) := by
    constructor
    · intro h; rw [M.tdiv_nn h (by omega)]; omega
    · intro h; rw [M.tdiv_np h (by omega)]; omega
  generalize g.tdiv 4 = t at *
  obtain ⟨p1, p2, -, -⟩ := hp
  have key := M.near (x := ax - bx) (y := ay - b_y) (x' := M.box (ax + u) (-100000) 100000 - bx) (y' := M.box (ay + v) (-100000) 100000 - b_y) (aH := ah) (H' := M.box (ah + t) 0 100000) (bH := bh) (F := M.ab g) (wrong := W) (trip := trip) hw (M.ab_nonneg g)
  have hab : (0 ≤ g → M.ab g = g) ∧ (g ≤ 0 → M.ab g = -g) := by unfold M.ab; split <;> omega
  have hgu : -M.ab g ≤ u ∧ u ≤ M.ab g ∧ -M.ab g ≤ v ∧ v ≤ M.ab g ∧ -M.ab g ≤ t ∧ t ≤ M.ab g := by
    by_cases h : 0 ≤ g
    · have := (sx.1 h).1; have := (sy.1 h).1; have := hq.1 h; have := hab.1 h; omega
    · have := (sx.2 (by omega)).1; have := (sy.2 (by omega)).1; have := hq.2 (by omega); have := hab.2 (by omega); omega
  have bxs := box_step (a := ax) (s := u) (F := M.ab g) (by omega) hgu.1 hgu.2.1
  have bys := box_step (a := ay) (s := v) (F := M.ab g) (by omega) hgu.2.2.1 hgu.2.2.2.1
  have bh1 : -M.ab g ≤ M.box (ah + t) 0 100000 - ah ∧ M.box (ah + t) 0 100000 - ah ≤ M.ab g := by unfold M.box; split <;> (try split) <;> omega
  have key2 := key
    (fun h => by have := hfp h; have := p1 this.1; have := hab.1 (by omega); omega)
    (fun h => by have := hfn h; have := p2 this.1; have := hab.2 (by omega); omega)
    (by omega) (by omega) (by omega) (by omega) (by omega) (by omega)
    (fun h => by
      have hf := hfp h
      have hg : 0 ≤ g := by have := p1 hf.1; omega
      have s1 := sx.1 hg
      have s2 := sy.1 hg
      have q := hq.1 hg
      by_cases hn0 : n = 0
      · have e := hz hn0
        refine ⟨by rw [e.1]; exact M.sq_nonneg _, by rw [e.2]; exact M.sq_nonneg _, ?_⟩
        unfold M.box; split <;> (try split) <;> omega
      · refine ⟨side_up (by omega) (fun h => s1.2.1 h (by omega)) (fun h => s1.2.2 h (by omega)), side_up (by omega) (fun h => s2.2.1 h (by omega)) (fun h => s2.2.2 h (by omega)), ?_⟩
        unfold M.box; split <;> (try split) <;> omega)
    (fun h => by
      have hf := hfn h
      have hg : g ≤ 0 := (p2 hf.1).1
      have s1 := sx.2 hg
      have s2 := sy.2 hg
      have q := hq.2 hg
      refine ⟨side_down (by omega) (by omega) s1.2.1 s1.2.2, side_down (by omega) (by omega) s2.2.1 s2.2.2, ?_⟩
      unfold M.box; split <;> (try split) <;> omega)
  rw [← hw]
  generalize trip - (M.isq ((M.box (ax + u) (-100000) 100000 - bx) * (M.box (ax + u) (-100000) 100000 - bx) + (M.box (ay + v) (-100000) 100000 - b_y) * (M.box (ay + v) (-100000) 100000 - b_y)) + M.box (ah + t) 0 100000 + bh) = Z at *
  clear key
  by_cases h : 0 ≤ W
  · have := key2.1 h
    unfold M.ab
    split <;> split <;> omega
  · have := key2.2 (by omega)
    unfold M.ab
    split <;> split <;> omega
theorem moves4 (ax ay ah ae bx b_y bh be trip turn : Int) : ∃ X Y H E : Int, SMove ax ay ah ae bx b_y bh be trip turn X Y H E ∧ FMove ax ay ah ae bx b_y bh be trip turn X Y H E ∧
    (cok ax ay ah ae = true → cok bx b_y bh be = true → inb trip 1 60000 = true → cok X Y H E = true ∧ M.ab (trip - (M.isq ((X - bx) * (X - bx) + (Y - b_y) * (Y - b_y)) + H + bh)) ≤ M.ab (trip - (M.isq ((ax - bx) * (ax - bx) + (ay - b_y) * (ay - b_y)) + ah + bh)) + 2) := by
  by_cases ka : cok ax ay ah ae = true
  · by_cases kb : (cok bx b_y bh be && inb trip 1 60000) = true
    · have k2 : cok bx b_y bh be = true ∧ inb trip 1 60000 = true := by simpa using kb
      exact ⟨_, _, _, _, fun w => smove_yes _ _ _ _ _ _ _ _ _ _ w ka k2.1 k2.2, fun w ht => fmove_yes _ _ _ _ _ _ _ _ _ _ w ht ka k2.1 k2.2, fun _ _ _ => ⟨cok_moved _ _ _ _ _ _ _ _ _ _, near_move _ _ _ _ _ _ _ _ _ _ ka k2.1⟩⟩
    · have k2 : (cok bx b_y bh be && inb trip 1 60000) = false := by simpa using kb
      exact ⟨ax, ay, ah, ae, fun w => smove_stay _ _ _ _ _ _ _ _ _ _ w ka k2, fun w _ => fmove_stay _ _ _ _ _ _ _ _ _ _ w ka k2, fun _ h1 h2 => by rw [h1, h2] at k2; simp at k2⟩
  · have k2 : cok ax ay ah ae = false := by simpa using ka
    exact ⟨0, 0, 0, 0, fun w => smove_bad _ _ _ _ _ _ _ _ _ _ w k2, fun w _ => fmove_bad _ _ _ _ _ _ _ _ _ _ w k2, fun h => by rw [k2] at h; cases h⟩
set_option maxRecDepth 10000 in
set_option maxHeartbeats 8000000 in
theorem near_walk (a : Option Addr) (len cap : Nat) (w : World) (h : Bytes w.heap.size w a len) (hl : len ≤ cap) (hm : len ≤ maxLen) (ht : Turns w) :
    Calls Tryd.prog 5 #[.slice a len cap] w fun e w' => e = .returned (.bool true) ∧ Below w.heap.size w w' := by
  unfold maxLen at hm
  by_cases hlen : 1048576 < len
  · go_enter Tryd.func5, Tryd.ntmps5
    go_wp2
    go_ret
    exact ⟨rfl, Below.refl _ _⟩
  go_enter Tryd.func5, Tryd.ntmps5
  go_wp2_with fail
  refine (drawMove_any a len cap _ h hl).mono ?_
  rintro r w1 ⟨ax, ay, ah, ae, bx, b_y, bh, be, trip, turn, rfl, htrip, hturn, b1⟩
  have b2 := balloc (.cells #[.int .i64 bx, .int .i64 b_y, .int .i64 bh, .int .i64 be] 24) (balloc (.cells #[.int .i64 ax, .int .i64 ay, .int .i64 ah, .int .i64 ae] 24) b1)
  go_wp2_with fail
  have P0 : ((w1.alloc (.cells #[.int .i64 ax, .int .i64 ay, .int .i64 ah, .int .i64 ae] 24)).alloc (.cells #[.int .i64 bx, .int .i64 b_y, .int .i64 bh, .int .i64 be] 24)).cell? ⟨w1.heap.size, 0, none⟩ = some (.int .i64 ax) := by simp [go_sem]
  have P1 : ((w1.alloc (.cells #[.int .i64 ax, .int .i64 ay, .int .i64 ah, .int .i64 ae] 24)).alloc (.cells #[.int .i64 bx, .int .i64 b_y, .int .i64 bh, .int .i64 be] 24)).cell? ⟨w1.heap.size, 1, none⟩ = some (.int .i64 ay) := by simp [go_sem]
  have P2 : ((w1.alloc (.cells #[.int .i64 ax, .int .i64 ay, .int .i64 ah, .int .i64 ae] 24)).alloc (.cells #[.int .i64 bx, .int .i64 b_y, .int .i64 bh, .int .i64 be] 24)).cell? ⟨w1.heap.size, 2, none⟩ = some (.int .i64 ah) := by simp [go_sem]
  have P3 : ((w1.alloc (.cells #[.int .i64 ax, .int .i64 ay, .int .i64 ah, .int .i64 ae] 24)).alloc (.cells #[.int .i64 bx, .int .i64 b_y, .int .i64 bh, .int .i64 be] 24)).cell? ⟨w1.heap.size, 3, none⟩ = some (.int .i64 ae) := by simp [go_sem]
  have Q0 : ((w1.alloc (.cells #[.int .i64 ax, .int .i64 ay, .int .i64 ah, .int .i64 ae] 24)).alloc (.cells #[.int .i64 bx, .int .i64 b_y, .int .i64 bh, .int .i64 be] 24)).cell? ⟨w1.heap.size + 1, 0, none⟩ = some (.int .i64 bx) := by simp [go_sem]
  have Q1 : ((w1.alloc (.cells #[.int .i64 ax, .int .i64 ay, .int .i64 ah, .int .i64 ae] 24)).alloc (.cells #[.int .i64 bx, .int .i64 b_y, .int .i64 bh, .int .i64 be] 24)).cell? ⟨w1.heap.size + 1, 1, none⟩ = some (.int .i64 b_y) := by simp [go_sem]
  have Q2 : ((w1.alloc (.cells #[.int .i64 ax, .int .i64 ay, .int .i64 ah, .int .i64 ae] 24)).alloc (.cells #[.int .i64 bx, .int .i64 b_y, .int .i64 bh, .int .i64 be] 24)).cell? ⟨w1.heap.size + 1, 2, none⟩ = some (.int .i64 bh) := by simp [go_sem]
  have Q3 : ((w1.alloc (.cells #[.int .i64 ax, .int .i64 ay, .int .i64 ah, .int .i64 ae] 24)).alloc (.cells #[.int .i64 bx, .int .i64 b_y, .int .i64 bh, .int .i64 be] 24)).cell? ⟨w1.heap.size + 1, 3, none⟩ = some (.int .i64 be) := by simp [go_sem]
  generalize ((w1.alloc (.cells #[.int .i64 ax, .int .i64 ay, .int .i64 ah, .int .i64 ae] 24)).alloc (.cells #[.int .i64 bx, .int .i64 b_y, .int .i64 bh, .int .i64 be] 24)) = W at *
  generalize w1.heap.size + 1 = KB at *
  generalize w1.heap.size = KA at *
  have T1 := turns_below ht b2
  clear b1
  obtain ⟨X, Y, H, E, hS, hF, hN⟩ := moves4 ax ay ah ae bx b_y bh be trip turn
  refine (hF _ T1).mono ?_
  rintro r w2 ⟨rfl, b3⟩
  replace P0 := keep_below b3 (P0)
  replace P1 := keep_below b3 (P1)
  replace P2 := keep_below b3 (P2)
  replace P3 := keep_below b3 (P3)
  replace Q0 := keep_below b3 (Q0)
  replace Q1 := keep_below b3 (Q1)
  replace Q2 := keep_below b3 (Q2)
  replace Q3 := keep_below b3 (Q3)
  replace P0 := keep_alloc (.cells #[.int .i64 X, .int .i64 Y, .int .i64 H, .int .i64 E] 24) P0
  replace P1 := keep_alloc (.cells #[.int .i64 X, .int .i64 Y, .int .i64 H, .int .i64 E] 24) P1
  replace P2 := keep_alloc (.cells #[.int .i64 X, .int .i64 Y, .int .i64 H, .int .i64 E] 24) P2
  replace P3 := keep_alloc (.cells #[.int .i64 X, .int .i64 Y, .int .i64 H, .int .i64 E] 24) P3
  replace Q0 := keep_alloc (.cells #[.int .i64 X, .int .i64 Y, .int .i64 H, .int .i64 E] 24) Q0
  replace Q1 := keep_alloc (.cells #[.int .i64 X, .int .i64 Y, .int .i64 H, .int .i64 E] 24) Q1
  replace Q2 := keep_alloc (.cells #[.int .i64 X, .int .i64 Y, .int .i64 H, .int .i64 E] 24) Q2
  replace Q3 := keep_alloc (.cells #[.int .i64 X, .int .i64 Y, .int .i64 H, .int .i64 E] 24) Q3
  have B3 := balloc (.cells #[.int .i64 X, .int .i64 Y, .int .i64 H, .int .i64 E] 24) (btrans b2 b3)
  have T2 := turns_below ht B3
  go_wp2_with fail
  have R0 : (w2.alloc (.cells #[.int .i64 X, .int .i64 Y, .int .i64 H, .int .i64 E] 24)).cell? ⟨w2.heap.size, 0, none⟩ = some (.int .i64 X) := by simp [go_sem]
  have R1 : (w2.alloc (.cells #[.int .i64 X, .int .i64 Y, .int .i64 H, .int .i64 E] 24)).cell? ⟨w2.heap.size, 1, none⟩ = some (.int .i64 Y) := by simp [go_sem]
  have R2 : (w2.alloc (.cells #[.int .i64 X, .int .i64 Y, .int .i64 H, .int .i64 E] 24)).cell? ⟨w2.heap.size, 2, none⟩ = some (.int .i64 H) := by simp [go_sem]
  have R3 : (w2.alloc (.cells #[.int .i64 X, .int .i64 Y, .int .i64 H, .int .i64 E] 24)).cell? ⟨w2.heap.size, 3, none⟩ = some (.int .i64 E) := by simp [go_sem]
  generalize (w2.alloc (.cells #[.int .i64 X, .int .i64 Y, .int .i64 H, .int .i64 E] 24)) = W2 at *
  generalize w2.heap.size = KC at *
  clear b2 b3 T1
  obtain ⟨cc, hcc0⟩ : ∃ b, cok ax ay ah ae = b := ⟨_, rfl⟩
  have hcc : Hid (cok ax ay ah ae = cc) := hcc0
  clear hcc0 hF T2
  obtain ⟨cb, hcb0⟩ : ∃ b, cok bx b_y bh be = b := ⟨_, rfl⟩
  have hcb : Hid (cok bx b_y bh be = cb) := hcb0
  obtain ⟨ct, hct0⟩ : ∃ b, inb trip 1 60000 = b := ⟨_, rfl⟩
  have hct : Hid (inb trip 1 60000 = ct) := hct0
  clear hcb0 hct0
  cases cc
  · skip
    refine wp_region_held_drew (S := (fun w' => w'.cell? ⟨KA, 0, none⟩ = some (.int .i64 ax) ∧ w'.cell? ⟨KA, 1, none⟩ = some (.int .i64 ay) ∧ w'.cell? ⟨KA, 2, none⟩ = some (.int .i64 ah) ∧ w'.cell? ⟨KA, 3, none⟩ = some (.int .i64 ae) ∧ w'.cell? ⟨KB, 0, none⟩ = some (.int .i64 bx) ∧ w'.cell? ⟨KB, 1, none⟩ = some (.int .i64 b_y) ∧ w'.cell? ⟨KB, 2, none⟩ = some (.int .i64 bh) ∧ w'.cell? ⟨KB, 3, none⟩ = some (.int .i64 be) ∧ w'.cell? ⟨KC, 0, none⟩ = some (.int .i64 X) ∧ w'.cell? ⟨KC, 1, none⟩ = some (.int .i64 Y) ∧ w'.cell? ⟨KC, 2, none⟩ = some (.int .i64 H) ∧ w'.cell? ⟨KC, 3, none⟩ = some (.int .i64 E))) (by kernel_rfl) ?_ (fun hHeld => ?_)
    · (try dsimp only); (refine ⟨?_, ?_, ?_, ?_, ?_, ?_, ?_, ?_, ?_, ?_, ?_, ?_⟩ <;> (repeat (first | with_reducible assumption | with_reducible refine keep_drew ?_ | with_reducible refine keep_below (by assumption) ?_)))
    refine wpAnyH_take (i := 0) (oi := { dst := some 25, op := Go.Op.load 24 (Go.Operand.tmp 7), type := 24, pos := "laws.go:164", after := #[], guard := none }) (v := ?_) rfl (by kernel_rfl) (by kernel_rfl) (by kernel_rfl) (fun _ _ _ h => h) (Or.inl ⟨by rfl, ?_⟩) (by assumption) ?_
    rotate_left 1
    · (intro w hSw; (try dsimp only at hSw); go_simp; try with_reducible rfl)
    (try simp only [Act.put, List.setIfInBounds_toArray, List.set_cons_zero, List.set_cons_succ])
    refine wpAnyH_take (i := 1) (oi := { dst := some 26, op := Go.Op.load 24 (Go.Operand.tmp 3), type := 24, pos := "laws.go:164", after := #[], guard := none }) (v := ?_) rfl (by kernel_rfl) (by kernel_rfl) (by kernel_rfl) (fun _ _ _ h => h) (Or.inl ⟨by rfl, ?_⟩) (by assumption) ?_
    rotate_left 1
    · (intro w hSw; (try dsimp only at hSw); go_simp; try with_reducible rfl)
    (try simp only [Act.put, List.setIfInBounds_toArray, List.set_cons_zero, List.set_cons_succ])
    refine wpAnyH_take (i := 2) (oi := { dst := some 27, op := Go.Op.load 24 (Go.Operand.tmp 4), type := 24, pos := "laws.go:164", after := #[], guard := none }) (v := ?_) rfl (by kernel_rfl) (by kernel_rfl) (by kernel_rfl) (fun _ _ _ h => h) (Or.inl ⟨by rfl, ?_⟩) (by assumption) ?_
    rotate_left 1
    · (intro w hSw; (try dsimp only at hSw); go_simp; try with_reducible rfl)
    (try simp only [Act.put, List.setIfInBounds_toArray, List.set_cons_zero, List.set_cons_succ])
    refine wpAnyH_take (i := 3) (oi := { dst := some 28, op := Go.Op.move (Go.Operand.tmp 5), type := 3, pos := "laws.go:164", after := #[], guard := none }) (v := ?_) rfl (by kernel_rfl) (by kernel_rfl) (by kernel_rfl) (fun _ _ _ h => h) (Or.inl ⟨by rfl, ?_⟩) (by assumption) ?_
    rotate_left 1
    · (intro w hSw; (try dsimp only at hSw); go_simp; try with_reducible rfl)
    (try simp only [Act.put, List.setIfInBounds_toArray, List.set_cons_zero, List.set_cons_succ])
    refine wpAnyH_take (i := 4) (oi := { dst := some 29, op := Go.Op.move (Go.Operand.tmp 6), type := 3, pos := "laws.go:164", after := #[], guard := none }) (v := ?_) rfl (by kernel_rfl) (by kernel_rfl) (by kernel_rfl) (fun _ _ _ h => h) (Or.inl ⟨by rfl, ?_⟩) (by assumption) ?_
    rotate_left 1
    · (intro w hSw; (try dsimp only at hSw); go_simp; try with_reducible rfl)
    (try simp only [Act.put, List.setIfInBounds_toArray, List.set_cons_zero, List.set_cons_succ])
    refine wpAnyH_ready (rs := [5]) (by kernel_rfl) (by simp) ?_
    refine AllReadyH.cons (o := { dst := some 30, op := Go.Op.call { callee := Go.Callee.value (Go.Operand.func 11), args := #[Go.Operand.tmp 26, Go.Operand.tmp 27, Go.Operand.tmp 28, Go.Operand.tmp 29], argTypes := #[24, 24, 3, 3] }, type := 24, pos := "laws.go:164", after := #[{ on := 1, ground := Go.Ground.data }, { on := 2, ground := Go.Ground.data }, { on := 3, ground := Go.Ground.data }, { on := 4, ground := Go.Ground.data }], guard := none }) rfl (fun K hK => ?_) AllReadyH.nil
    go_simp
    (refine (hS _).mono ?_; rintro e w11 ⟨rfl, b11⟩)
    go_wp2_with fail
    refine hK.out _ _ ?_ (fun hHeld => ?_)
    · (try dsimp only); (refine ⟨?_, ?_, ?_, ?_, ?_, ?_, ?_, ?_, ?_, ?_, ?_, ?_⟩ <;> (repeat (first | with_reducible assumption | with_reducible refine keep_drew ?_ | with_reducible refine keep_below (by assumption) ?_)))
    clear hK K
    (try simp only [Act.put, List.setIfInBounds_toArray, List.set_cons_zero, List.set_cons_succ])
    refine wpAnyH_take (i := 6) (oi := { dst := some 31, op := Go.Op.binOp Go.BinOp.neq 24 (Go.Operand.tmp 25) (Go.Operand.tmp 30) 24, type := 4, pos := "laws.go:164", after := #[{ on := 0, ground := Go.Ground.data }, { on := 5, ground := Go.Ground.data }], guard := none }) (v := ?_) rfl (by kernel_rfl) (by kernel_rfl) (by kernel_rfl) (fun _ _ _ h => h) (Or.inl ⟨by rfl, ?_⟩) (by assumption) ?_
    rotate_left 1
    · (intro w hSw; (try dsimp only at hSw); go_simp; try with_reducible rfl)
    (try simp only [Act.put, List.setIfInBounds_toArray, List.set_cons_zero, List.set_cons_succ])
    refine wpAnyH_take (i := 7) (oi := { dst := some 32, op := Go.Op.move (Go.Operand.tmp 31), type := 4, pos := "laws.go:164", after := #[{ on := 6, ground := Go.Ground.data }, { on := 5, ground := Go.Ground.chain }], guard := none }) (v := ?_) rfl (by kernel_rfl) (by kernel_rfl) (by kernel_rfl) (fun _ _ _ h => h) (Or.inl ⟨by rfl, ?_⟩) (by assumption) ?_
    rotate_left 1
    · (intro w hSw; (try dsimp only at hSw); go_simp; try with_reducible rfl)
    (try simp only [Act.put, List.setIfInBounds_toArray, List.set_cons_zero, List.set_cons_succ])
    refine wpAnyH_take (i := 8) (oi := { dst := some 33, op := Go.Op.load 24 (Go.Operand.tmp 3), type := 24, pos := "laws.go:164", after := #[{ on := 7, ground := Go.Ground.guard }], guard := some (7, false) }) (v := ?_) rfl (by kernel_rfl) (by kernel_rfl) (by kernel_rfl) (fun _ _ _ h => h) (Or.inl ⟨by rfl, ?_⟩) (by assumption) ?_
    rotate_left 1
    · (intro w hSw; (try dsimp only at hSw); go_simp; try with_reducible rfl)
    (try simp only [Act.put, List.setIfInBounds_toArray, List.set_cons_zero, List.set_cons_succ])
    refine wpAnyH_ready (rs := [9]) (by kernel_rfl) (by simp) ?_
    refine AllReadyH.cons (o := { dst := some 34, op := Go.Op.call { callee := Go.Callee.value (Go.Operand.func 13), args := #[Go.Operand.tmp 33], argTypes := #[24] }, type := 4, pos := "laws.go:164", after := #[{ on := 8, ground := Go.Ground.data }, { on := 7, ground := Go.Ground.chain }, { on := 7, ground := Go.Ground.guard }], guard := some (7, false) }) rfl (fun K hK => ?_) AllReadyH.nil
    go_simp
    (refine (sok_lit ax ay ah ae false hcc.out _).mono ?_; rintro e w12 ⟨rfl, b12⟩)
    go_wp2_with fail
    refine hK.out _ _ ?_ (fun hHeld => ?_)
    · (try dsimp only); (refine ⟨?_, ?_, ?_, ?_, ?_, ?_, ?_, ?_, ?_, ?_, ?_, ?_⟩ <;> (repeat (first | with_reducible assumption | with_reducible refine keep_drew ?_ | with_reducible refine keep_below (by assumption) ?_)))
    clear hK K
    (try simp only [Act.put, List.setIfInBounds_toArray, List.set_cons_zero, List.set_cons_succ])
    refine wpAnyH_take (i := 10) (oi := { dst := some 35, op := Go.Op.unOp Go.UnOp.not 4 (Go.Operand.tmp 34), type := 4, pos := "laws.go:164", after := #[{ on := 9, ground := Go.Ground.data }, { on := 7, ground := Go.Ground.guard }], guard := some (7, false) }) (v := ?_) rfl (by kernel_rfl) (by kernel_rfl) (by kernel_rfl) (fun _ _ _ h => h) (Or.inl ⟨by rfl, ?_⟩) (by assumption) ?_
    rotate_left 1
    · (intro w hSw; (try dsimp only at hSw); go_simp; try with_reducible rfl)
    (try simp only [Act.put, List.setIfInBounds_toArray, List.set_cons_zero, List.set_cons_succ])
    refine wpAnyH_take (i := 11) (oi := { dst := some 36, op := Go.Op.pick (Go.Operand.tmp 32) (Go.Operand.const (Go.Value.bool true)) (Go.Operand.tmp 35), type := 4, pos := "laws.go:164", after := #[{ on := 7, ground := Go.Ground.data }, { on := 10, ground := Go.Ground.data }], guard := none }) (v := ?_) rfl (by kernel_rfl) (by kernel_rfl) (by kernel_rfl) (fun _ _ _ h => h) (Or.inl ⟨by rfl, ?_⟩) (by assumption) ?_
    rotate_left 1
    · (intro w hSw; (try dsimp only at hSw); go_simp; try with_reducible rfl)
    (try simp only [Act.put, List.setIfInBounds_toArray, List.set_cons_zero, List.set_cons_succ])
    refine wpAnyH_take (i := 12) (oi := { dst := some 37, op := Go.Op.move (Go.Operand.tmp 36), type := 4, pos := "laws.go:164", after := #[{ on := 11, ground := Go.Ground.data }, { on := 9, ground := Go.Ground.chain }], guard := none }) (v := ?_) rfl (by kernel_rfl) (by kernel_rfl) (by kernel_rfl) (fun _ _ _ h => h) (Or.inl ⟨by rfl, ?_⟩) (by assumption) ?_
    rotate_left 1
    · (intro w hSw; (try dsimp only at hSw); go_simp; try with_reducible rfl)
    (try simp only [Act.put, List.setIfInBounds_toArray, List.set_cons_zero, List.set_cons_succ])
    refine wpAnyH_take (i := 13) (oi := { dst := some 38, op := Go.Op.load 24 (Go.Operand.tmp 4), type := 24, pos := "laws.go:164", after := #[{ on := 12, ground := Go.Ground.guard }], guard := some (12, false) }) (v := undef) rfl (by kernel_rfl) (by kernel_rfl) (by kernel_rfl) (fun _ _ _ h => h) (Or.inr ⟨by rfl, rfl⟩) (by assumption) ?_
    (try simp only [Act.put, List.setIfInBounds_toArray, List.set_cons_zero, List.set_cons_succ])
    refine wpAnyH_take (i := 14) (oi := { dst := some 39, op := Go.Op.call { callee := Go.Callee.value (Go.Operand.func 13), args := #[Go.Operand.tmp 38], argTypes := #[24] }, type := 4, pos := "laws.go:164", after := #[{ on := 13, ground := Go.Ground.data }, { on := 12, ground := Go.Ground.chain }, { on := 12, ground := Go.Ground.guard }], guard := some (12, false) }) (v := undef) rfl (by kernel_rfl) (by kernel_rfl) (by kernel_rfl) (fun _ _ _ h => h) (Or.inr ⟨by rfl, rfl⟩) (by assumption) ?_
    (try simp only [Act.put, List.setIfInBounds_toArray, List.set_cons_zero, List.set_cons_succ])
    refine wpAnyH_take (i := 15) (oi := { dst := some 40, op := Go.Op.unOp Go.UnOp.not 4 (Go.Operand.tmp 39), type := 4, pos := "laws.go:164", after := #[{ on := 14, ground := Go.Ground.data }, { on := 12, ground := Go.Ground.guard }], guard := some (12, false) }) (v := undef) rfl (by kernel_rfl) (by kernel_rfl) (by kernel_rfl) (fun _ _ _ h => h) (Or.inr ⟨by rfl, rfl⟩) (by assumption) ?_
    (try simp only [Act.put, List.setIfInBounds_toArray, List.set_cons_zero, List.set_cons_succ])
    refine wpAnyH_take (i := 16) (oi := { dst := some 41, op := Go.Op.pick (Go.Operand.tmp 37) (Go.Operand.const (Go.Value.bool true)) (Go.Operand.tmp 40), type := 4, pos := "laws.go:164", after := #[{ on := 12, ground := Go.Ground.data }, { on := 15, ground := Go.Ground.data }], guard := none }) (v := ?_) rfl (by kernel_rfl) (by kernel_rfl) (by kernel_rfl) (fun _ _ _ h => h) (Or.inl ⟨by rfl, ?_⟩) (by assumption) ?_
    rotate_left 1
    · (intro w hSw; (try dsimp only at hSw); go_simp; try with_reducible rfl)
    (try simp only [Act.put, List.setIfInBounds_toArray, List.set_cons_zero, List.set_cons_succ])
    refine wpAnyH_take (i := 17) (oi := { dst := some 42, op := Go.Op.move (Go.Operand.tmp 41), type := 4, pos := "laws.go:164", after := #[{ on := 16, ground := Go.Ground.data }, { on := 14, ground := Go.Ground.chain }], guard := none }) (v := ?_) rfl (by kernel_rfl) (by kernel_rfl) (by kernel_rfl) (fun _ _ _ h => h) (Or.inl ⟨by rfl, ?_⟩) (by assumption) ?_
    rotate_left 1
    · (intro w hSw; (try dsimp only at hSw); go_simp; try with_reducible rfl)
    (try simp only [Act.put, List.setIfInBounds_toArray, List.set_cons_zero, List.set_cons_succ])
    refine wpAnyH_take (i := 18) (oi := { dst := some 43, op := Go.Op.move (Go.Operand.tmp 5), type := 3, pos := "laws.go:164", after := #[{ on := 17, ground := Go.Ground.guard }], guard := some (17, false) }) (v := undef) rfl (by kernel_rfl) (by kernel_rfl) (by kernel_rfl) (fun _ _ _ h => h) (Or.inr ⟨by rfl, rfl⟩) (by assumption) ?_
    (try simp only [Act.put, List.setIfInBounds_toArray, List.set_cons_zero, List.set_cons_succ])
    refine wpAnyH_take (i := 19) (oi := { dst := some 44, op := Go.Op.call { callee := Go.Callee.value (Go.Operand.func 15), args := #[Go.Operand.tmp 43, Go.Operand.const (Go.Value.int Go.IntKind.i64 1), Go.Operand.const (Go.Value.int Go.IntKind.i64 60000)], argTypes := #[3, 3, 3] }, type := 4, pos := "laws.go:164", after := #[{ on := 18, ground := Go.Ground.data }, { on := 17, ground := Go.Ground.chain }, { on := 17, ground := Go.Ground.guard }], guard := some (17, false) }) (v := undef) rfl (by kernel_rfl) (by kernel_rfl) (by kernel_rfl) (fun _ _ _ h => h) (Or.inr ⟨by rfl, rfl⟩) (by assumption) ?_
    (try simp only [Act.put, List.setIfInBounds_toArray, List.set_cons_zero, List.set_cons_succ])
    refine wpAnyH_take (i := 20) (oi := { dst := some 45, op := Go.Op.unOp Go.UnOp.not 4 (Go.Operand.tmp 44), type := 4, pos := "laws.go:164", after := #[{ on := 19, ground := Go.Ground.data }, { on := 17, ground := Go.Ground.guard }], guard := some (17, false) }) (v := undef) rfl (by kernel_rfl) (by kernel_rfl) (by kernel_rfl) (fun _ _ _ h => h) (Or.inr ⟨by rfl, rfl⟩) (by assumption) ?_
    (try simp only [Act.put, List.setIfInBounds_toArray, List.set_cons_zero, List.set_cons_succ])
    refine wpAnyH_take (i := 21) (oi := { dst := some 46, op := Go.Op.pick (Go.Operand.tmp 42) (Go.Operand.const (Go.Value.bool true)) (Go.Operand.tmp 45), type := 4, pos := "laws.go:164", after := #[{ on := 17, ground := Go.Ground.data }, { on := 20, ground := Go.Ground.data }], guard := none }) (v := ?_) rfl (by kernel_rfl) (by kernel_rfl) (by kernel_rfl) (fun _ _ _ h => h) (Or.inl ⟨by rfl, ?_⟩) (by assumption) ?_
    rotate_left 1
    · (intro w hSw; (try dsimp only at hSw); go_simp; try with_reducible rfl)
    (try simp only [Act.put, List.setIfInBounds_toArray, List.set_cons_zero, List.set_cons_succ])
    refine wpAnyH_done (by kernel_rfl) ?_ _
    replace P0 := keep_below b12 (keep_below b11 (keep_drew (P0)))
    replace P1 := keep_below b12 (keep_below b11 (keep_drew (P1)))
    replace P2 := keep_below b12 (keep_below b11 (keep_drew (P2)))
    replace P3 := keep_below b12 (keep_below b11 (keep_drew (P3)))
    replace Q0 := keep_below b12 (keep_below b11 (keep_drew (Q0)))
    replace Q1 := keep_below b12 (keep_below b11 (keep_drew (Q1)))
    replace Q2 := keep_below b12 (keep_below b11 (keep_drew (Q2)))
    replace Q3 := keep_below b12 (keep_below b11 (keep_drew (Q3)))
    replace R0 := keep_below b12 (keep_below b11 (keep_drew (R0)))
    replace R1 := keep_below b12 (keep_below b11 (keep_drew (R1)))
    replace R2 := keep_below b12 (keep_below b11 (keep_drew (R2)))
    replace R3 := keep_below b12 (keep_below b11 (keep_drew (R3)))
    have B4 := btrans (btrans (B3.drew) b11) b12
    clear b11 b12 B3 hHeld
    go_wp2_with fail
    refine wp_region_held_drew (S := (fun w' => w'.cell? ⟨KA, 0, none⟩ = some (.int .i64 ax) ∧ w'.cell? ⟨KA, 1, none⟩ = some (.int .i64 ay) ∧ w'.cell? ⟨KA, 2, none⟩ = some (.int .i64 ah) ∧ w'.cell? ⟨KA, 3, none⟩ = some (.int .i64 ae) ∧ w'.cell? ⟨KB, 0, none⟩ = some (.int .i64 bx) ∧ w'.cell? ⟨KB, 1, none⟩ = some (.int .i64 b_y) ∧ w'.cell? ⟨KB, 2, none⟩ = some (.int .i64 bh) ∧ w'.cell? ⟨KB, 3, none⟩ = some (.int .i64 be) ∧ w'.cell? ⟨KC, 0, none⟩ = some (.int .i64 X) ∧ w'.cell? ⟨KC, 1, none⟩ = some (.int .i64 Y) ∧ w'.cell? ⟨KC, 2, none⟩ = some (.int .i64 H) ∧ w'.cell? ⟨KC, 3, none⟩ = some (.int .i64 E))) (by kernel_rfl) ?_ (fun hHeld => ?_)
    · (try dsimp only); (refine ⟨?_, ?_, ?_, ?_, ?_, ?_, ?_, ?_, ?_, ?_, ?_, ?_⟩ <;> (repeat (first | with_reducible assumption | with_reducible refine keep_drew ?_ | with_reducible refine keep_below (by assumption) ?_)))
    refine wpAnyH_take (i := 0) (oi := { dst := some 47, op := Go.Op.load 24 (Go.Operand.tmp 7), type := 24, pos := "laws.go:165", after := #[], guard := none }) (v := ?_) rfl (by kernel_rfl) (by kernel_rfl) (by kernel_rfl) (fun _ _ _ h => h) (Or.inl ⟨by rfl, ?_⟩) (by assumption) ?_
    rotate_left 1
    · (intro w hSw; (try dsimp only at hSw); go_simp; try with_reducible rfl)
    (try simp only [Act.put, List.setIfInBounds_toArray, List.set_cons_zero, List.set_cons_succ])
    refine wpAnyH_take (i := 1) (oi := { dst := some 48, op := Go.Op.load 24 (Go.Operand.tmp 3), type := 24, pos := "laws.go:165", after := #[], guard := none }) (v := ?_) rfl (by kernel_rfl) (by kernel_rfl) (by kernel_rfl) (fun _ _ _ h => h) (Or.inl ⟨by rfl, ?_⟩) (by assumption) ?_
    rotate_left 1
    · (intro w hSw; (try dsimp only at hSw); go_simp; try with_reducible rfl)
    (try simp only [Act.put, List.setIfInBounds_toArray, List.set_cons_zero, List.set_cons_succ])
    refine wpAnyH_take (i := 2) (oi := { dst := some 49, op := Go.Op.load 24 (Go.Operand.tmp 4), type := 24, pos := "laws.go:165", after := #[], guard := none }) (v := ?_) rfl (by kernel_rfl) (by kernel_rfl) (by kernel_rfl) (fun _ _ _ h => h) (Or.inl ⟨by rfl, ?_⟩) (by assumption) ?_
    rotate_left 1
    · (intro w hSw; (try dsimp only at hSw); go_simp; try with_reducible rfl)
    (try simp only [Act.put, List.setIfInBounds_toArray, List.set_cons_zero, List.set_cons_succ])
    refine wpAnyH_take (i := 3) (oi := { dst := some 50, op := Go.Op.move (Go.Operand.tmp 5), type := 3, pos := "laws.go:165", after := #[], guard := none }) (v := ?_) rfl (by kernel_rfl) (by kernel_rfl) (by kernel_rfl) (fun _ _ _ h => h) (Or.inl ⟨by rfl, ?_⟩) (by assumption) ?_
    rotate_left 1
    · (intro w hSw; (try dsimp only at hSw); go_simp; try with_reducible rfl)
    (try simp only [Act.put, List.setIfInBounds_toArray, List.set_cons_zero, List.set_cons_succ])
    refine wpAnyH_take (i := 4) (oi := { dst := some 51, op := Go.Op.move (Go.Operand.tmp 6), type := 3, pos := "laws.go:165", after := #[], guard := none }) (v := ?_) rfl (by kernel_rfl) (by kernel_rfl) (by kernel_rfl) (fun _ _ _ h => h) (Or.inl ⟨by rfl, ?_⟩) (by assumption) ?_
    rotate_left 1
    · (intro w hSw; (try dsimp only at hSw); go_simp; try with_reducible rfl)
    (try simp only [Act.put, List.setIfInBounds_toArray, List.set_cons_zero, List.set_cons_succ])
    refine wpAnyH_ready (rs := [5]) (by kernel_rfl) (by simp) ?_
    refine AllReadyH.cons (o := { dst := some 52, op := Go.Op.call { callee := Go.Callee.value (Go.Operand.func 11), args := #[Go.Operand.tmp 48, Go.Operand.tmp 49, Go.Operand.tmp 50, Go.Operand.tmp 51], argTypes := #[24, 24, 3, 3] }, type := 24, pos := "laws.go:165", after := #[{ on := 1, ground := Go.Ground.data }, { on := 2, ground := Go.Ground.data }, { on := 3, ground := Go.Ground.data }, { on := 4, ground := Go.Ground.data }], guard := none }) rfl (fun K hK => ?_) AllReadyH.nil
    go_simp
    (refine (hS _).mono ?_; rintro e w21 ⟨rfl, b21⟩)
    go_wp2_with fail
    refine hK.out _ _ ?_ (fun hHeld => ?_)
    · (try dsimp only); (refine ⟨?_, ?_, ?_, ?_, ?_, ?_, ?_, ?_, ?_, ?_, ?_, ?_⟩ <;> (repeat (first | with_reducible assumption | with_reducible refine keep_drew ?_ | with_reducible refine keep_below (by assumption) ?_)))
    clear hK K
    (try simp only [Act.put, List.setIfInBounds_toArray, List.set_cons_zero, List.set_cons_succ])
    refine wpAnyH_take (i := 6) (oi := { dst := some 53, op := Go.Op.binOp Go.BinOp.eql 24 (Go.Operand.tmp 47) (Go.Operand.tmp 52) 24, type := 4, pos := "laws.go:165", after := #[{ on := 0, ground := Go.Ground.data }, { on := 5, ground := Go.Ground.data }], guard := none }) (v := ?_) rfl (by kernel_rfl) (by kernel_rfl) (by kernel_rfl) (fun _ _ _ h => h) (Or.inl ⟨by rfl, ?_⟩) (by assumption) ?_
    rotate_left 1
    · (intro w hSw; (try dsimp only at hSw); go_simp; try with_reducible rfl)
    (try simp only [Act.put, List.setIfInBounds_toArray, List.set_cons_zero, List.set_cons_succ])
    refine wpAnyH_take (i := 7) (oi := { dst := some 2, op := Go.Op.assign (Go.Operand.tmp 53), type := 4, pos := "laws.go:165", after := #[{ on := 6, ground := Go.Ground.data }, { on := 5, ground := Go.Ground.chain }, { on := 0, ground := Go.Ground.phase }, { on := 1, ground := Go.Ground.phase }, { on := 2, ground := Go.Ground.phase }, { on := 3, ground := Go.Ground.phase }, { on := 4, ground := Go.Ground.phase }, { on := 5, ground := Go.Ground.phase }, { on := 6, ground := Go.Ground.phase }], guard := none }) (v := ?_) rfl (by kernel_rfl) (by kernel_rfl) (by kernel_rfl) (fun _ _ _ h => h) (Or.inl ⟨by rfl, ?_⟩) (by assumption) ?_
    rotate_left 1
    · (intro w hSw; (try dsimp only at hSw); go_simp; try with_reducible rfl)
    (try simp only [Act.put, List.setIfInBounds_toArray, List.set_cons_zero, List.set_cons_succ])
    refine wpAnyH_done (by kernel_rfl) ?_ _
    go_wp2
    go_ret
    exact ⟨rfl, btrans B4.drew b21⟩
  · cases cb
    · skip
      refine wp_region_held_drew (S := (fun w' => w'.cell? ⟨KA, 0, none⟩ = some (.int .i64 ax) ∧ w'.cell? ⟨KA, 1, none⟩ = some (.int .i64 ay) ∧ w'.cell? ⟨KA, 2, none⟩ = some (.int .i64 ah) ∧ w'.cell? ⟨KA, 3, none⟩ = some (.int .i64 ae) ∧ w'.cell? ⟨KB, 0, none⟩ = some (.int .i64 bx) ∧ w'.cell? ⟨KB, 1, none⟩ = some (.int .i64 b_y) ∧ w'.cell? ⟨KB, 2, none⟩ = some (.int .i64 bh) ∧ w'.cell? ⟨KB, 3, none⟩ = some (.int .i64 be) ∧ w'.cell? ⟨KC, 0, none⟩ = some (.int .i64 X) ∧ w'.cell? ⟨KC, 1, none⟩ = some (.int .i64 Y) ∧ w'.cell? ⟨KC, 2, none⟩ = some (.int .i64 H) ∧ w'.cell? ⟨KC, 3, none⟩ = some (.int .i64 E))) (by kernel_rfl) ?_ (fun hHeld => ?_)
      · (try dsimp only); (refine ⟨?_, ?_, ?_, ?_, ?_, ?_, ?_, ?_, ?_, ?_, ?_, ?_⟩ <;> (repeat (first | with_reducible assumption | with_reducible refine keep_drew ?_ | with_reducible refine keep_below (by assumption) ?_)))
      refine wpAnyH_take (i := 0) (oi := { dst := some 25, op := Go.Op.load 24 (Go.Operand.tmp 7), type := 24, pos := "laws.go:164", after := #[], guard := none }) (v := ?_) rfl (by kernel_rfl) (by kernel_rfl) (by kernel_rfl) (fun _ _ _ h => h) (Or.inl ⟨by rfl, ?_⟩) (by assumption) ?_
      rotate_left 1
      · (intro w hSw; (try dsimp only at hSw); go_simp; try with_reducible rfl)
      (try simp only [Act.put, List.setIfInBounds_toArray, List.set_cons_zero, List.set_cons_succ])
      refine wpAnyH_take (i := 1) (oi := { dst := some 26, op := Go.Op.load 24 (Go.Operand.tmp 3), type := 24, pos := "laws.go:164", after := #[], guard := none }) (v := ?_) rfl (by kernel_rfl) (by kernel_rfl) (by kernel_rfl) (fun _ _ _ h => h) (Or.inl ⟨by rfl, ?_⟩) (by assumption) ?_
      rotate_left 1
      · (intro w hSw; (try dsimp only at hSw); go_simp; try with_reducible rfl)
      (try simp only [Act.put, List.setIfInBounds_toArray, List.set_cons_zero, List.set_cons_succ])
      refine wpAnyH_take (i := 2) (oi := { dst := some 27, op := Go.Op.load 24 (Go.Operand.tmp 4), type := 24, pos := "laws.go:164", after := #[], guard := none }) (v := ?_) rfl (by kernel_rfl) (by kernel_rfl) (by kernel_rfl) (fun _ _ _ h => h) (Or.inl ⟨by rfl, ?_⟩) (by assumption) ?_
      rotate_left 1
      · (intro w hSw; (try dsimp only at hSw); go_simp; try with_reducible rfl)
      (try simp only [Act.put, List.setIfInBounds_toArray, List.set_cons_zero, List.set_cons_succ])
      refine wpAnyH_take (i := 3) (oi := { dst := some 28, op := Go.Op.move (Go.Operand.tmp 5), type := 3, pos := "laws.go:164", after := #[], guard := none }) (v := ?_) rfl (by kernel_rfl) (by kernel_rfl) (by kernel_rfl) (fun _ _ _ h => h) (Or.inl ⟨by rfl, ?_⟩) (by assumption) ?_
      rotate_left 1
      · (intro w hSw; (try dsimp only at hSw); go_simp; try with_reducible rfl)
      (try simp only [Act.put, List.setIfInBounds_toArray, List.set_cons_zero, List.set_cons_succ])
      refine wpAnyH_take (i := 4) (oi := { dst := some 29, op := Go.Op.move (Go.Operand.tmp 6), type := 3, pos := "laws.go:164", after := #[], guard := none }) (v := ?_) rfl (by kernel_rfl) (by kernel_rfl) (by kernel_rfl) (fun _ _ _ h => h) (Or.inl ⟨by rfl, ?_⟩) (by assumption) ?_
      rotate_left 1
      · (intro w hSw; (try dsimp only at hSw); go_simp; try with_reducible rfl)
      (try simp only [Act.put, List.setIfInBounds_toArray, List.set_cons_zero, List.set_cons_succ])
      refine wpAnyH_ready (rs := [5]) (by kernel_rfl) (by simp) ?_
      refine AllReadyH.cons (o := { dst := some 30, op := Go.Op.call { callee := Go.Callee.value (Go.Operand.func 11), args := #[Go.Operand.tmp 26, Go.Operand.tmp 27, Go.Operand.tmp 28, Go.Operand.tmp 29], argTypes := #[24, 24, 3, 3] }, type := 24, pos := "laws.go:164", after := #[{ on := 1, ground := Go.Ground.data }, { on := 2, ground := Go.Ground.data }, { on := 3, ground := Go.Ground.data }, { on := 4, ground := Go.Ground.data }], guard := none }) rfl (fun K hK => ?_) AllReadyH.nil
      go_simp
      (refine (hS _).mono ?_; rintro e w11 ⟨rfl, b11⟩)
      go_wp2_with fail
      refine hK.out _ _ ?_ (fun hHeld => ?_)
      · (try dsimp only); (refine ⟨?_, ?_, ?_, ?_, ?_, ?_, ?_, ?_, ?_, ?_, ?_, ?_⟩ <;> (repeat (first | with_reducible assumption | with_reducible refine keep_drew ?_ | with_reducible refine keep_below (by assumption) ?_)))
      clear hK K
      (try simp only [Act.put, List.setIfInBounds_toArray, List.set_cons_zero, List.set_cons_succ])
      refine wpAnyH_take (i := 6) (oi := { dst := some 31, op := Go.Op.binOp Go.BinOp.neq 24 (Go.Operand.tmp 25) (Go.Operand.tmp 30) 24, type := 4, pos := "laws.go:164", after := #[{ on := 0, ground := Go.Ground.data }, { on := 5, ground := Go.Ground.data }], guard := none }) (v := ?_) rfl (by kernel_rfl) (by kernel_rfl) (by kernel_rfl) (fun _ _ _ h => h) (Or.inl ⟨by rfl, ?_⟩) (by assumption) ?_
      rotate_left 1
      · (intro w hSw; (try dsimp only at hSw); go_simp; try with_reducible rfl)
      (try simp only [Act.put, List.setIfInBounds_toArray, List.set_cons_zero, List.set_cons_succ])
      refine wpAnyH_take (i := 7) (oi := { dst := some 32, op := Go.Op.move (Go.Operand.tmp 31), type := 4, pos := "laws.go:164", after := #[{ on := 6, ground := Go.Ground.data }, { on := 5, ground := Go.Ground.chain }], guard := none }) (v := ?_) rfl (by kernel_rfl) (by kernel_rfl) (by kernel_rfl) (fun _ _ _ h => h) (Or.inl ⟨by rfl, ?_⟩) (by assumption) ?_
      rotate_left 1
      · (intro w hSw; (try dsimp only at hSw); go_simp; try with_reducible rfl)
      (try simp only [Act.put, List.setIfInBounds_toArray, List.set_cons_zero, List.set_cons_succ])
      refine wpAnyH_take (i := 8) (oi := { dst := some 33, op := Go.Op.load 24 (Go.Operand.tmp 3), type := 24, pos := "laws.go:164", after := #[{ on := 7, ground := Go.Ground.guard }], guard := some (7, false) }) (v := ?_) rfl (by kernel_rfl) (by kernel_rfl) (by kernel_rfl) (fun _ _ _ h => h) (Or.inl ⟨by rfl, ?_⟩) (by assumption) ?_
      rotate_left 1
      · (intro w hSw; (try dsimp only at hSw); go_simp; try with_reducible rfl)
      (try simp only [Act.put, List.setIfInBounds_toArray, List.set_cons_zero, List.set_cons_succ])
      refine wpAnyH_ready (rs := [9]) (by kernel_rfl) (by simp) ?_
      refine AllReadyH.cons (o := { dst := some 34, op := Go.Op.call { callee := Go.Callee.value (Go.Operand.func 13), args := #[Go.Operand.tmp 33], argTypes := #[24] }, type := 4, pos := "laws.go:164", after := #[{ on := 8, ground := Go.Ground.data }, { on := 7, ground := Go.Ground.chain }, { on := 7, ground := Go.Ground.guard }], guard := some (7, false) }) rfl (fun K hK => ?_) AllReadyH.nil
      go_simp
      (refine (sok_lit ax ay ah ae true hcc.out _).mono ?_; rintro e w12 ⟨rfl, b12⟩)
      go_wp2_with fail
      refine hK.out _ _ ?_ (fun hHeld => ?_)
      · (try dsimp only); (refine ⟨?_, ?_, ?_, ?_, ?_, ?_, ?_, ?_, ?_, ?_, ?_, ?_⟩ <;> (repeat (first | with_reducible assumption | with_reducible refine keep_drew ?_ | with_reducible refine keep_below (by assumption) ?_)))
      clear hK K
      (try simp only [Act.put, List.setIfInBounds_toArray, List.set_cons_zero, List.set_cons_succ])
      refine wpAnyH_take (i := 10) (oi := { dst := some 35, op := Go.Op.unOp Go.UnOp.not 4 (Go.Operand.tmp 34), type := 4, pos := "laws.go:164", after := #[{ on := 9, ground := Go.Ground.data }, { on := 7, ground := Go.Ground.guard }], guard := some (7, false) }) (v := ?_) rfl (by kernel_rfl) (by kernel_rfl) (by kernel_rfl) (fun _ _ _ h => h) (Or.inl ⟨by rfl, ?_⟩) (by assumption) ?_
      rotate_left 1
      · (intro w hSw; (try dsimp only at hSw); go_simp; try with_reducible rfl)
      (try simp only [Act.put, List.setIfInBounds_toArray, List.set_cons_zero, List.set_cons_succ])
      refine wpAnyH_take (i := 11) (oi := { dst := some 36, op := Go.Op.pick (Go.Operand.tmp 32) (Go.Operand.const (Go.Value.bool true)) (Go.Operand.tmp 35), type := 4, pos := "laws.go:164", after := #[{ on := 7, ground := Go.Ground.data }, { on := 10, ground := Go.Ground.data }], guard := none }) (v := ?_) rfl (by kernel_rfl) (by kernel_rfl) (by kernel_rfl) (fun _ _ _ h => h) (Or.inl ⟨by rfl, ?_⟩) (by assumption) ?_
      rotate_left 1
      · (intro w hSw; (try dsimp only at hSw); go_simp; try with_reducible rfl)
      (try simp only [Act.put, List.setIfInBounds_toArray, List.set_cons_zero, List.set_cons_succ])
      refine wpAnyH_take (i := 12) (oi := { dst := some 37, op := Go.Op.move (Go.Operand.tmp 36), type := 4, pos := "laws.go:164", after := #[{ on := 11, ground := Go.Ground.data }, { on := 9, ground := Go.Ground.chain }], guard := none }) (v := ?_) rfl (by kernel_rfl) (by kernel_rfl) (by kernel_rfl) (fun _ _ _ h => h) (Or.inl ⟨by rfl, ?_⟩) (by assumption) ?_
      rotate_left 1
      · (intro w hSw; (try dsimp only at hSw); go_simp; try with_reducible rfl)
      (try simp only [Act.put, List.setIfInBounds_toArray, List.set_cons_zero, List.set_cons_succ])
      refine wpAnyH_take (i := 13) (oi := { dst := some 38, op := Go.Op.load 24 (Go.Operand.tmp 4), type := 24, pos := "laws.go:164", after := #[{ on := 12, ground := Go.Ground.guard }], guard := some (12, false) }) (v := ?_) rfl (by kernel_rfl) (by kernel_rfl) (by kernel_rfl) (fun _ _ _ h => h) (Or.inl ⟨by rfl, ?_⟩) (by assumption) ?_
      rotate_left 1
      · (intro w hSw; (try dsimp only at hSw); go_simp; try with_reducible rfl)
      (try simp only [Act.put, List.setIfInBounds_toArray, List.set_cons_zero, List.set_cons_succ])
      refine wpAnyH_ready (rs := [14]) (by kernel_rfl) (by simp) ?_
      refine AllReadyH.cons (o := { dst := some 39, op := Go.Op.call { callee := Go.Callee.value (Go.Operand.func 13), args := #[Go.Operand.tmp 38], argTypes := #[24] }, type := 4, pos := "laws.go:164", after := #[{ on := 13, ground := Go.Ground.data }, { on := 12, ground := Go.Ground.chain }, { on := 12, ground := Go.Ground.guard }], guard := some (12, false) }) rfl (fun K hK => ?_) AllReadyH.nil
      go_simp
      (refine (sok_lit bx b_y bh be false hcb.out _).mono ?_; rintro e w13 ⟨rfl, b13⟩)
      go_wp2_with fail
      refine hK.out _ _ ?_ (fun hHeld => ?_)
      · (try dsimp only); (refine ⟨?_, ?_, ?_, ?_, ?_, ?_, ?_, ?_, ?_, ?_, ?_, ?_⟩ <;> (repeat (first | with_reducible assumption | with_reducible refine keep_drew ?_ | with_reducible refine keep_below (by assumption) ?_)))
      clear hK K
      (try simp only [Act.put, List.setIfInBounds_toArray, List.set_cons_zero, List.set_cons_succ])
      refine wpAnyH_take (i := 15) (oi := { dst := some 40, op := Go.Op.unOp Go.UnOp.not 4 (Go.Operand.tmp 39), type := 4, pos := "laws.go:164", after := #[{ on := 14, ground := Go.Ground.data }, { on := 12, ground := Go.Ground.guard }], guard := some (12, false) }) (v := ?_) rfl (by kernel_rfl) (by kernel_rfl) (by kernel_rfl) (fun _ _ _ h => h) (Or.inl ⟨by rfl, ?_⟩) (by assumption) ?_
      rotate_left 1
      · (intro w hSw; (try dsimp only at hSw); go_simp; try with_reducible rfl)
      (try simp only [Act.put, List.setIfInBounds_toArray, List.set_cons_zero, List.set_cons_succ])
      refine wpAnyH_take (i := 16) (oi := { dst := some 41, op := Go.Op.pick (Go.Operand.tmp 37) (Go.Operand.const (Go.Value.bool true)) (Go.Operand.tmp 40), type := 4, pos := "laws.go:164", after := #[{ on := 12, ground := Go.Ground.data }, { on := 15, ground := Go.Ground.data }], guard := none }) (v := ?_) rfl (by kernel_rfl) (by kernel_rfl) (by kernel_rfl) (fun _ _ _ h => h) (Or.inl ⟨by rfl, ?_⟩) (by assumption) ?_
      rotate_left 1
      · (intro w hSw; (try dsimp only at hSw); go_simp; try with_reducible rfl)
      (try simp only [Act.put, List.setIfInBounds_toArray, List.set_cons_zero, List.set_cons_succ])
      refine wpAnyH_take (i := 17) (oi := { dst := some 42, op := Go.Op.move (Go.Operand.tmp 41), type := 4, pos := "laws.go:164", after := #[{ on := 16, ground := Go.Ground.data }, { on := 14, ground := Go.Ground.chain }], guard := none }) (v := ?_) rfl (by kernel_rfl) (by kernel_rfl) (by kernel_rfl) (fun _ _ _ h => h) (Or.inl ⟨by rfl, ?_⟩) (by assumption) ?_
      rotate_left 1
      · (intro w hSw; (try dsimp only at hSw); go_simp; try with_reducible rfl)
      (try simp only [Act.put, List.setIfInBounds_toArray, List.set_cons_zero, List.set_cons_succ])
      refine wpAnyH_take (i := 18) (oi := { dst := some 43, op := Go.Op.move (Go.Operand.tmp 5), type := 3, pos := "laws.go:164", after := #[{ on := 17, ground := Go.Ground.guard }], guard := some (17, false) }) (v := undef) rfl (by kernel_rfl) (by kernel_rfl) (by kernel_rfl) (fun _ _ _ h => h) (Or.inr ⟨by rfl, rfl⟩) (by assumption) ?_
      (try simp only [Act.put, List.setIfInBounds_toArray, List.set_cons_zero, List.set_cons_succ])
      refine wpAnyH_take (i := 19) (oi := { dst := some 44, op := Go.Op.call { callee := Go.Callee.value (Go.Operand.func 15), args := #[Go.Operand.tmp 43, Go.Operand.const (Go.Value.int Go.IntKind.i64 1), Go.Operand.const (Go.Value.int Go.IntKind.i64 60000)], argTypes := #[3, 3, 3] }, type := 4, pos := "laws.go:164", after := #[{ on := 18, ground := Go.Ground.data }, { on := 17, ground := Go.Ground.chain }, { on := 17, ground := Go.Ground.guard }], guard := some (17, false) }) (v := undef) rfl (by kernel_rfl) (by kernel_rfl) (by kernel_rfl) (fun _ _ _ h => h) (Or.inr ⟨by rfl, rfl⟩) (by assumption) ?_
      (try simp only [Act.put, List.setIfInBounds_toArray, List.set_cons_zero, List.set_cons_succ])
      refine wpAnyH_take (i := 20) (oi := { dst := some 45, op := Go.Op.unOp Go.UnOp.not 4 (Go.Operand.tmp 44), type := 4, pos := "laws.go:164", after := #[{ on := 19, ground := Go.Ground.data }, { on := 17, ground := Go.Ground.guard }], guard := some (17, false) }) (v := undef) rfl (by kernel_rfl) (by kernel_rfl) (by kernel_rfl) (fun _ _ _ h => h) (Or.inr ⟨by rfl, rfl⟩) (by assumption) ?_
      (try simp only [Act.put, List.setIfInBounds_toArray, List.set_cons_zero, List.set_cons_succ])
      refine wpAnyH_take (i := 21) (oi := { dst := some 46, op := Go.Op.pick (Go.Operand.tmp 42) (Go.Operand.const (Go.Value.bool true)) (Go.Operand.tmp 45), type := 4, pos := "laws.go:164", after := #[{ on := 17, ground := Go.Ground.data }, { on := 20, ground := Go.Ground.data }], guard := none }) (v := ?_) rfl (by kernel_rfl) (by kernel_rfl) (by kernel_rfl) (fun _ _ _ h => h) (Or.inl ⟨by rfl, ?_⟩) (by assumption) ?_
      rotate_left 1
      · (intro w hSw; (try dsimp only at hSw); go_simp; try with_reducible rfl)
      (try simp only [Act.put, List.setIfInBounds_toArray, List.set_cons_zero, List.set_cons_succ])
      refine wpAnyH_done (by kernel_rfl) ?_ _
      replace P0 := keep_below b13 (keep_below b12 (keep_below b11 (keep_drew (P0))))
      replace P1 := keep_below b13 (keep_below b12 (keep_below b11 (keep_drew (P1))))
      replace P2 := keep_below b13 (keep_below b12 (keep_below b11 (keep_drew (P2))))
      replace P3 := keep_below b13 (keep_below b12 (keep_below b11 (keep_drew (P3))))
      replace Q0 := keep_below b13 (keep_below b12 (keep_below b11 (keep_drew (Q0))))
      replace Q1 := keep_below b13 (keep_below b12 (keep_below b11 (keep_drew (Q1))))
      replace Q2 := keep_below b13 (keep_below b12 (keep_below b11 (keep_drew (Q2))))
      replace Q3 := keep_below b13 (keep_below b12 (keep_below b11 (keep_drew (Q3))))
      replace R0 := keep_below b13 (keep_below b12 (keep_below b11 (keep_drew (R0))))
      replace R1 := keep_below b13 (keep_below b12 (keep_below b11 (keep_drew (R1))))
      replace R2 := keep_below b13 (keep_below b12 (keep_below b11 (keep_drew (R2))))
      replace R3 := keep_below b13 (keep_below b12 (keep_below b11 (keep_drew (R3))))
      have B4 := btrans (btrans (btrans (B3.drew) b11) b12) b13
      clear b11 b12 b13 B3 hHeld
      go_wp2_with fail
      refine wp_region_held_drew (S := (fun w' => w'.cell? ⟨KA, 0, none⟩ = some (.int .i64 ax) ∧ w'.cell? ⟨KA, 1, none⟩ = some (.int .i64 ay) ∧ w'.cell? ⟨KA, 2, none⟩ = some (.int .i64 ah) ∧ w'.cell? ⟨KA, 3, none⟩ = some (.int .i64 ae) ∧ w'.cell? ⟨KB, 0, none⟩ = some (.int .i64 bx) ∧ w'.cell? ⟨KB, 1, none⟩ = some (.int .i64 b_y) ∧ w'.cell? ⟨KB, 2, none⟩ = some (.int .i64 bh) ∧ w'.cell? ⟨KB, 3, none⟩ = some (.int .i64 be) ∧ w'.cell? ⟨KC, 0, none⟩ = some (.int .i64 X) ∧ w'.cell? ⟨KC, 1, none⟩ = some (.int .i64 Y) ∧ w'.cell? ⟨KC, 2, none⟩ = some (.int .i64 H) ∧ w'.cell? ⟨KC, 3, none⟩ = some (.int .i64 E))) (by kernel_rfl) ?_ (fun hHeld => ?_)
      · (try dsimp only); (refine ⟨?_, ?_, ?_, ?_, ?_, ?_, ?_, ?_, ?_, ?_, ?_, ?_⟩ <;> (repeat (first | with_reducible assumption | with_reducible refine keep_drew ?_ | with_reducible refine keep_below (by assumption) ?_)))
      refine wpAnyH_take (i := 0) (oi := { dst := some 47, op := Go.Op.load 24 (Go.Operand.tmp 7), type := 24, pos := "laws.go:165", after := #[], guard := none }) (v := ?_) rfl (by kernel_rfl) (by kernel_rfl) (by kernel_rfl) (fun _ _ _ h => h) (Or.inl ⟨by rfl, ?_⟩) (by assumption) ?_
      rotate_left 1
      · (intro w hSw; (try dsimp only at hSw); go_simp; try with_reducible rfl)
      (try simp only [Act.put, List.setIfInBounds_toArray, List.set_cons_zero, List.set_cons_succ])
      refine wpAnyH_take (i := 1) (oi := { dst := some 48, op := Go.Op.load 24 (Go.Operand.tmp 3), type := 24, pos := "laws.go:165", after := #[], guard := none }) (v := ?_) rfl (by kernel_rfl) (by kernel_rfl) (by kernel_rfl) (fun _ _ _ h => h) (Or.inl ⟨by rfl, ?_⟩) (by assumption) ?_
      rotate_left 1
      · (intro w hSw; (try dsimp only at hSw); go_simp; try with_reducible rfl)
      (try simp only [Act.put, List.setIfInBounds_toArray, List.set_cons_zero, List.set_cons_succ])
      refine wpAnyH_take (i := 2) (oi := { dst := some 49, op := Go.Op.load 24 (Go.Operand.tmp 4), type := 24, pos := "laws.go:165", after := #[], guard := none }) (v := ?_) rfl (by kernel_rfl) (by kernel_rfl) (by kernel_rfl) (fun _ _ _ h => h) (Or.inl ⟨by rfl, ?_⟩) (by assumption) ?_
      rotate_left 1
      · (intro w hSw; (try dsimp only at hSw); go_simp; try with_reducible rfl)
      (try simp only [Act.put, List.setIfInBounds_toArray, List.set_cons_zero, List.set_cons_succ])
      refine wpAnyH_take (i := 3) (oi := { dst := some 50, op := Go.Op.move (Go.Operand.tmp 5), type := 3, pos := "laws.go:165", after := #[], guard := none }) (v := ?_) rfl (by kernel_rfl) (by kernel_rfl) (by kernel_rfl) (fun _ _ _ h => h) (Or.inl ⟨by rfl, ?_⟩) (by assumption) ?_
      rotate_left 1
      · (intro w hSw; (try dsimp only at hSw); go_simp; try with_reducible rfl)
      (try simp only [Act.put, List.setIfInBounds_toArray, List.set_cons_zero, List.set_cons_succ])
      refine wpAnyH_take (i := 4) (oi := { dst := some 51, op := Go.Op.move (Go.Operand.tmp 6), type := 3, pos := "laws.go:165", after := #[], guard := none }) (v := ?_) rfl (by kernel_rfl) (by kernel_rfl) (by kernel_rfl) (fun _ _ _ h => h) (Or.inl ⟨by rfl, ?_⟩) (by assumption) ?_
      rotate_left 1
      · (intro w hSw; (try dsimp only at hSw); go_simp; try with_reducible rfl)
      (try simp only [Act.put, List.setIfInBounds_toArray, List.set_cons_zero, List.set_cons_succ])
      refine wpAnyH_ready (rs := [5]) (by kernel_rfl) (by simp) ?_
      refine AllReadyH.cons (o := { dst := some 52, op := Go.Op.call { callee := Go.Callee.value (Go.Operand.func 11), args := #[Go.Operand.tmp 48, Go.Operand.tmp 49, Go.Operand.tmp 50, Go.Operand.tmp 51], argTypes := #[24, 24, 3, 3] }, type := 24, pos := "laws.go:165", after := #[{ on := 1, ground := Go.Ground.data }, { on := 2, ground := Go.Ground.data }, { on := 3, ground := Go.Ground.data }, { on := 4, ground := Go.Ground.data }], guard := none }) rfl (fun K hK => ?_) AllReadyH.nil
      go_simp
      (refine (hS _).mono ?_; rintro e w21 ⟨rfl, b21⟩)
      go_wp2_with fail
      refine hK.out _ _ ?_ (fun hHeld => ?_)
      · (try dsimp only); (refine ⟨?_, ?_, ?_, ?_, ?_, ?_, ?_, ?_, ?_, ?_, ?_, ?_⟩ <;> (repeat (first | with_reducible assumption | with_reducible refine keep_drew ?_ | with_reducible refine keep_below (by assumption) ?_)))
      clear hK K
      (try simp only [Act.put, List.setIfInBounds_toArray, List.set_cons_zero, List.set_cons_succ])
      refine wpAnyH_take (i := 6) (oi := { dst := some 53, op := Go.Op.binOp Go.BinOp.eql 24 (Go.Operand.tmp 47) (Go.Operand.tmp 52) 24, type := 4, pos := "laws.go:165", after := #[{ on := 0, ground := Go.Ground.data }, { on := 5, ground := Go.Ground.data }], guard := none }) (v := ?_) rfl (by kernel_rfl) (by kernel_rfl) (by kernel_rfl) (fun _ _ _ h => h) (Or.inl ⟨by rfl, ?_⟩) (by assumption) ?_
      rotate_left 1
      · (intro w hSw; (try dsimp only at hSw); go_simp; try with_reducible rfl)
      (try simp only [Act.put, List.setIfInBounds_toArray, List.set_cons_zero, List.set_cons_succ])
      refine wpAnyH_take (i := 7) (oi := { dst := some 2, op := Go.Op.assign (Go.Operand.tmp 53), type := 4, pos := "laws.go:165", after := #[{ on := 6, ground := Go.Ground.data }, { on := 5, ground := Go.Ground.chain }, { on := 0, ground := Go.Ground.phase }, { on := 1, ground := Go.Ground.phase }, { on := 2, ground := Go.Ground.phase }, { on := 3, ground := Go.Ground.phase }, { on := 4, ground := Go.Ground.phase }, { on := 5, ground := Go.Ground.phase }, { on := 6, ground := Go.Ground.phase }], guard := none }) (v := ?_) rfl (by kernel_rfl) (by kernel_rfl) (by kernel_rfl) (fun _ _ _ h => h) (Or.inl ⟨by rfl, ?_⟩) (by assumption) ?_
      rotate_left 1
      · (intro w hSw; (try dsimp only at hSw); go_simp; try with_reducible rfl)
      (try simp only [Act.put, List.setIfInBounds_toArray, List.set_cons_zero, List.set_cons_succ])
      refine wpAnyH_done (by kernel_rfl) ?_ _
      go_wp2
      go_ret
      exact ⟨rfl, btrans B4.drew b21⟩
    · cases ct
      · skip
        refine wp_region_held_drew (S := (fun w' => w'.cell? ⟨KA, 0, none⟩ = some (.int .i64 ax) ∧ w'.cell? ⟨KA, 1, none⟩ = some (.int .i64 ay) ∧ w'.cell? ⟨KA, 2, none⟩ = some (.int .i64 ah) ∧ w'.cell? ⟨KA, 3, none⟩ = some (.int .i64 ae) ∧ w'.cell? ⟨KB, 0, none⟩ = some (.int .i64 bx) ∧ w'.cell? ⟨KB, 1, none⟩ = some (.int .i64 b_y) ∧ w'.cell? ⟨KB, 2, none⟩ = some (.int .i64 bh) ∧ w'.cell? ⟨KB, 3, none⟩ = some (.int .i64 be) ∧ w'.cell? ⟨KC, 0, none⟩ = some (.int .i64 X) ∧ w'.cell? ⟨KC, 1, none⟩ = some (.int .i64 Y) ∧ w'.cell? ⟨KC, 2, none⟩ = some (.int .i64 H) ∧ w'.cell? ⟨KC, 3, none⟩ = some (.int .i64 E))) (by kernel_rfl) ?_ (fun hHeld => ?_)
        · (try dsimp only); (refine ⟨?_, ?_, ?_, ?_, ?_, ?_, ?_, ?_, ?_, ?_, ?_, ?_⟩ <;> (repeat (first | with_reducible assumption | with_reducible refine keep_drew ?_ | with_reducible refine keep_below (by assumption) ?_)))
        refine wpAnyH_take (i := 0) (oi := { dst := some 25, op := Go.Op.load 24 (Go.Operand.tmp 7), type := 24, pos := "laws.go:164", after := #[], guard := none }) (v := ?_) rfl (by kernel_rfl) (by kernel_rfl) (by kernel_rfl) (fun _ _ _ h => h) (Or.inl ⟨by rfl, ?_⟩) (by assumption) ?_
        rotate_left 1
        · (intro w hSw; (try dsimp only at hSw); go_simp; try with_reducible rfl)
        (try simp only [Act.put, List.setIfInBounds_toArray, List.set_cons_zero, List.set_cons_succ])
        refine wpAnyH_take (i := 1) (oi := { dst := some 26, op := Go.Op.load 24 (Go.Operand.tmp 3), type := 24, pos := "laws.go:164", after := #[], guard := none }) (v := ?_) rfl (by kernel_rfl) (by kernel_rfl) (by kernel_rfl) (fun _ _ _ h => h) (Or.inl ⟨by rfl, ?_⟩) (by assumption) ?_
        rotate_left 1
        · (intro w hSw; (try dsimp only at hSw); go_simp; try with_reducible rfl)
        (try simp only [Act.put, List.setIfInBounds_toArray, List.set_cons_zero, List.set_cons_succ])
        refine wpAnyH_take (i := 2) (oi := { dst := some 27, op := Go.Op.load 24 (Go.Operand.tmp 4), type := 24, pos := "laws.go:164", after := #[], guard := none }) (v := ?_) rfl (by kernel_rfl) (by kernel_rfl) (by kernel_rfl) (fun _ _ _ h => h) (Or.inl ⟨by rfl, ?_⟩) (by assumption) ?_
        rotate_left 1
        · (intro w hSw; (try dsimp only at hSw); go_simp; try with_reducible rfl)
        (try simp only [Act.put, List.setIfInBounds_toArray, List.set_cons_zero, List.set_cons_succ])
        refine wpAnyH_take (i := 3) (oi := { dst := some 28, op := Go.Op.move (Go.Operand.tmp 5), type := 3, pos := "laws.go:164", after := #[], guard := none }) (v := ?_) rfl (by kernel_rfl) (by kernel_rfl) (by kernel_rfl) (fun _ _ _ h => h) (Or.inl ⟨by rfl, ?_⟩) (by assumption) ?_
        rotate_left 1
        · (intro w hSw; (try dsimp only at hSw); go_simp; try with_reducible rfl)
        (try simp only [Act.put, List.setIfInBounds_toArray, List.set_cons_zero, List.set_cons_succ])
        refine wpAnyH_take (i := 4) (oi := { dst := some 29, op := Go.Op.move (Go.Operand.tmp 6), type := 3, pos := "laws.go:164", after := #[], guard := none }) (v := ?_) rfl (by kernel_rfl) (by kernel_rfl) (by kernel_rfl) (fun _ _ _ h => h) (Or.inl ⟨by rfl, ?_⟩) (by assumption) ?_
        rotate_left 1
        · (intro w hSw; (try dsimp only at hSw); go_simp; try with_reducible rfl)
        (try simp only [Act.put, List.setIfInBounds_toArray, List.set_cons_zero, List.set_cons_succ])
        refine wpAnyH_ready (rs := [5]) (by kernel_rfl) (by simp) ?_
        refine AllReadyH.cons (o := { dst := some 30, op := Go.Op.call { callee := Go.Callee.value (Go.Operand.func 11), args := #[Go.Operand.tmp 26, Go.Operand.tmp 27, Go.Operand.tmp 28, Go.Operand.tmp 29], argTypes := #[24, 24, 3, 3] }, type := 24, pos := "laws.go:164", after := #[{ on := 1, ground := Go.Ground.data }, { on := 2, ground := Go.Ground.data }, { on := 3, ground := Go.Ground.data }, { on := 4, ground := Go.Ground.data }], guard := none }) rfl (fun K hK => ?_) AllReadyH.nil
        go_simp
        (refine (hS _).mono ?_; rintro e w11 ⟨rfl, b11⟩)
        go_wp2_with fail
        refine hK.out _ _ ?_ (fun hHeld => ?_)
        · (try dsimp only); (refine ⟨?_, ?_, ?_, ?_, ?_, ?_, ?_, ?_, ?_, ?_, ?_, ?_⟩ <;> (repeat (first | with_reducible assumption | with_reducible refine keep_drew ?_ | with_reducible refine keep_below (by assumption) ?_)))
        clear hK K
        (try simp only [Act.put, List.setIfInBounds_toArray, List.set_cons_zero, List.set_cons_succ])
        refine wpAnyH_take (i := 6) (oi := { dst := some 31, op := Go.Op.binOp Go.BinOp.neq 24 (Go.Operand.tmp 25) (Go.Operand.tmp 30) 24, type := 4, pos := "laws.go:164", after := #[{ on := 0, ground := Go.Ground.data }, { on := 5, ground := Go.Ground.data }], guard := none }) (v := ?_) rfl (by kernel_rfl) (by kernel_rfl) (by kernel_rfl) (fun _ _ _ h => h) (Or.inl ⟨by rfl, ?_⟩) (by assumption) ?_
        rotate_left 1
        · (intro w hSw; (try dsimp only at hSw); go_simp; try with_reducible rfl)
        (try simp only [Act.put, List.setIfInBounds_toArray, List.set_cons_zero, List.set_cons_succ])
        refine wpAnyH_take (i := 7) (oi := { dst := some 32, op := Go.Op.move (Go.Operand.tmp 31), type := 4, pos := "laws.go:164", after := #[{ on := 6, ground := Go.Ground.data }, { on := 5, ground := Go.Ground.chain }], guard := none }) (v := ?_) rfl (by kernel_rfl) (by kernel_rfl) (by kernel_rfl) (fun _ _ _ h => h) (Or.inl ⟨by rfl, ?_⟩) (by assumption) ?_
        rotate_left 1
        · (intro w hSw; (try dsimp only at hSw); go_simp; try with_reducible rfl)
        (try simp only [Act.put, List.setIfInBounds_toArray, List.set_cons_zero, List.set_cons_succ])
        refine wpAnyH_take (i := 8) (oi := { dst := some 33, op := Go.Op.load 24 (Go.Operand.tmp 3), type := 24, pos := "laws.go:164", after := #[{ on := 7, ground := Go.Ground.guard }], guard := some (7, false) }) (v := ?_) rfl (by kernel_rfl) (by kernel_rfl) (by kernel_rfl) (fun _ _ _ h => h) (Or.inl ⟨by rfl, ?_⟩) (by assumption) ?_
        rotate_left 1
        · (intro w hSw; (try dsimp only at hSw); go_simp; try with_reducible rfl)
        (try simp only [Act.put, List.setIfInBounds_toArray, List.set_cons_zero, List.set_cons_succ])
        refine wpAnyH_ready (rs := [9]) (by kernel_rfl) (by simp) ?_
        refine AllReadyH.cons (o := { dst := some 34, op := Go.Op.call { callee := Go.Callee.value (Go.Operand.func 13), args := #[Go.Operand.tmp 33], argTypes := #[24] }, type := 4, pos := "laws.go:164", after := #[{ on := 8, ground := Go.Ground.data }, { on := 7, ground := Go.Ground.chain }, { on := 7, ground := Go.Ground.guard }], guard := some (7, false) }) rfl (fun K hK => ?_) AllReadyH.nil
        go_simp
        (refine (sok_lit ax ay ah ae true hcc.out _).mono ?_; rintro e w12 ⟨rfl, b12⟩)
        go_wp2_with fail
        refine hK.out _ _ ?_ (fun hHeld => ?_)
        · (try dsimp only); (refine ⟨?_, ?_, ?_, ?_, ?_, ?_, ?_, ?_, ?_, ?_, ?_, ?_⟩ <;> (repeat (first | with_reducible assumption | with_reducible refine keep_drew ?_ | with_reducible refine keep_below (by assumption) ?_)))
        clear hK K
        (try simp only [Act.put, List.setIfInBounds_toArray, List.set_cons_zero, List.set_cons_succ])
        refine wpAnyH_take (i := 10) (oi := { dst := some 35, op := Go.Op.unOp Go.UnOp.not 4 (Go.Operand.tmp 34), type := 4, pos := "laws.go:164", after := #[{ on := 9, ground := Go.Ground.data }, { on := 7, ground := Go.Ground.guard }], guard := some (7, false) }) (v := ?_) rfl (by kernel_rfl) (by kernel_rfl) (by kernel_rfl) (fun _ _ _ h => h) (Or.inl ⟨by rfl, ?_⟩) (by assumption) ?_
        rotate_left 1
        · (intro w hSw; (try dsimp only at hSw); go_simp; try with_reducible rfl)
        (try simp only [Act.put, List.setIfInBounds_toArray, List.set_cons_zero, List.set_cons_succ])
        refine wpAnyH_take (i := 11) (oi := { dst := some 36, op := Go.Op.pick (Go.Operand.tmp 32) (Go.Operand.const (Go.Value.bool true)) (Go.Operand.tmp 35), type := 4, pos := "laws.go:164", after := #[{ on := 7, ground := Go.Ground.data }, { on := 10, ground := Go.Ground.data }], guard := none }) (v := ?_) rfl (by kernel_rfl) (by kernel_rfl) (by kernel_rfl) (fun _ _ _ h => h) (Or.inl ⟨by rfl, ?_⟩) (by assumption) ?_
        rotate_left 1
        · (intro w hSw; (try dsimp only at hSw); go_simp; try with_reducible rfl)
        (try simp only [Act.put, List.setIfInBounds_toArray, List.set_cons_zero, List.set_cons_succ])
        refine wpAnyH_take (i := 12) (oi := { dst := some 37, op := Go.Op.move (Go.Operand.tmp 36), type := 4, pos := "laws.go:164", after := #[{ on := 11, ground := Go.Ground.data }, { on := 9, ground := Go.Ground.chain }], guard := none }) (v := ?_) rfl (by kernel_rfl) (by kernel_rfl) (by kernel_rfl) (fun _ _ _ h => h) (Or.inl ⟨by rfl, ?_⟩) (by assumption) ?_
        rotate_left 1
        · (intro w hSw; (try dsimp only at hSw); go_simp; try with_reducible rfl)
        (try simp only [Act.put, List.setIfInBounds_toArray, List.set_cons_zero, List.set_cons_succ])
        refine wpAnyH_take (i := 13) (oi := { dst := some 38, op := Go.Op.load 24 (Go.Operand.tmp 4), type := 24, pos := "laws.go:164", after := #[{ on := 12, ground := Go.Ground.guard }], guard := some (12, false) }) (v := ?_) rfl (by kernel_rfl) (by kernel_rfl) (by kernel_rfl) (fun _ _ _ h => h) (Or.inl ⟨by rfl, ?_⟩) (by assumption) ?_
        rotate_left 1
        · (intro w hSw; (try dsimp only at hSw); go_simp; try with_reducible rfl)
        (try simp only [Act.put, List.setIfInBounds_toArray, List.set_cons_zero, List.set_cons_succ])
        refine wpAnyH_ready (rs := [14]) (by kernel_rfl) (by simp) ?_
        refine AllReadyH.cons (o := { dst := some 39, op := Go.Op.call { callee := Go.Callee.value (Go.Operand.func 13), args := #[Go.Operand.tmp 38], argTypes := #[24] }, type := 4, pos := "laws.go:164", after := #[{ on := 13, ground := Go.Ground.data }, { on := 12, ground := Go.Ground.chain }, { on := 12, ground := Go.Ground.guard }], guard := some (12, false) }) rfl (fun K hK => ?_) AllReadyH.nil
        go_simp
        (refine (sok_lit bx b_y bh be true hcb.out _).mono ?_; rintro e w13 ⟨rfl, b13⟩)
        go_wp2_with fail
        refine hK.out _ _ ?_ (fun hHeld => ?_)
        · (try dsimp only); (refine ⟨?_, ?_, ?_, ?_, ?_, ?_, ?_, ?_, ?_, ?_, ?_, ?_⟩ <;> (repeat (first | with_reducible assumption | with_reducible refine keep_drew ?_ | with_reducible refine keep_below (by assumption) ?_)))
        clear hK K
        (try simp only [Act.put, List.setIfInBounds_toArray, List.set_cons_zero, List.set_cons_succ])
        refine wpAnyH_take (i := 15) (oi := { dst := some 40, op := Go.Op.unOp Go.UnOp.not 4 (Go.Operand.tmp 39), type := 4, pos := "laws.go:164", after := #[{ on := 14, ground := Go.Ground.data }, { on := 12, ground := Go.Ground.guard }], guard := some (12, false) }) (v := ?_) rfl (by kernel_rfl) (by kernel_rfl) (by kernel_rfl) (fun _ _ _ h => h) (Or.inl ⟨by rfl, ?_⟩) (by assumption) ?_
        rotate_left 1
        · (intro w hSw; (try dsimp only at hSw); go_simp; try with_reducible rfl)
        (try simp only [Act.put, List.setIfInBounds_toArray, List.set_cons_zero, List.set_cons_succ])
        refine wpAnyH_take (i := 16) (oi := { dst := some 41, op := Go.Op.pick (Go.Operand.tmp 37) (Go.Operand.const (Go.Value.bool true)) (Go.Operand.tmp 40), type := 4, pos := "laws.go:164", after := #[{ on := 12, ground := Go.Ground.data }, { on := 15, ground := Go.Ground.data }], guard := none }) (v := ?_) rfl (by kernel_rfl) (by kernel_rfl) (by kernel_rfl) (fun _ _ _ h => h) (Or.inl ⟨by rfl, ?_⟩) (by assumption) ?_
        rotate_left 1
        · (intro w hSw; (try dsimp only at hSw); go_simp; try with_reducible rfl)
        (try simp only [Act.put, List.setIfInBounds_toArray, List.set_cons_zero, List.set_cons_succ])
        refine wpAnyH_take (i := 17) (oi := { dst := some 42, op := Go.Op.move (Go.Operand.tmp 41), type := 4, pos := "laws.go:164", after := #[{ on := 16, ground := Go.Ground.data }, { on := 14, ground := Go.Ground.chain }], guard := none }) (v := ?_) rfl (by kernel_rfl) (by kernel_rfl) (by kernel_rfl) (fun _ _ _ h => h) (Or.inl ⟨by rfl, ?_⟩) (by assumption) ?_
        rotate_left 1
        · (intro w hSw; (try dsimp only at hSw); go_simp; try with_reducible rfl)
        (try simp only [Act.put, List.setIfInBounds_toArray, List.set_cons_zero, List.set_cons_succ])
        refine wpAnyH_take (i := 18) (oi := { dst := some 43, op := Go.Op.move (Go.Operand.tmp 5), type := 3, pos := "laws.go:164", after := #[{ on := 17, ground := Go.Ground.guard }], guard := some (17, false) }) (v := ?_) rfl (by kernel_rfl) (by kernel_rfl) (by kernel_rfl) (fun _ _ _ h => h) (Or.inl ⟨by rfl, ?_⟩) (by assumption) ?_
        rotate_left 1
        · (intro w hSw; (try dsimp only at hSw); go_simp; try with_reducible rfl)
        (try simp only [Act.put, List.setIfInBounds_toArray, List.set_cons_zero, List.set_cons_succ])
        refine wpAnyH_ready (rs := [19]) (by kernel_rfl) (by simp) ?_
        refine AllReadyH.cons (o := { dst := some 44, op := Go.Op.call { callee := Go.Callee.value (Go.Operand.func 15), args := #[Go.Operand.tmp 43, Go.Operand.const (Go.Value.int Go.IntKind.i64 1), Go.Operand.const (Go.Value.int Go.IntKind.i64 60000)], argTypes := #[3, 3, 3] }, type := 4, pos := "laws.go:164", after := #[{ on := 18, ground := Go.Ground.data }, { on := 17, ground := Go.Ground.chain }, { on := 17, ground := Go.Ground.guard }], guard := some (17, false) }) rfl (fun K hK => ?_) AllReadyH.nil
        go_simp
        (refine (lhin_lit trip 1 60000 false hct.out _).mono ?_; rintro e w14 ⟨rfl, hw⟩; obtain rfl := hw.symm)
        go_wp2_with fail
        refine hK.out _ _ ?_ (fun hHeld => ?_)
        · (try dsimp only); (refine ⟨?_, ?_, ?_, ?_, ?_, ?_, ?_, ?_, ?_, ?_, ?_, ?_⟩ <;> (repeat (first | with_reducible assumption | with_reducible refine keep_drew ?_ | with_reducible refine keep_below (by assumption) ?_)))
        clear hK K
        (try simp only [Act.put, List.setIfInBounds_toArray, List.set_cons_zero, List.set_cons_succ])
        refine wpAnyH_take (i := 20) (oi := { dst := some 45, op := Go.Op.unOp Go.UnOp.not 4 (Go.Operand.tmp 44), type := 4, pos := "laws.go:164", after := #[{ on := 19, ground := Go.Ground.data }, { on := 17, ground := Go.Ground.guard }], guard := some (17, false) }) (v := ?_) rfl (by kernel_rfl) (by kernel_rfl) (by kernel_rfl) (fun _ _ _ h => h) (Or.inl ⟨by rfl, ?_⟩) (by assumption) ?_
        rotate_left 1
        · (intro w hSw; (try dsimp only at hSw); go_simp; try with_reducible rfl)
        (try simp only [Act.put, List.setIfInBounds_toArray, List.set_cons_zero, List.set_cons_succ])
        refine wpAnyH_take (i := 21) (oi := { dst := some 46, op := Go.Op.pick (Go.Operand.tmp 42) (Go.Operand.const (Go.Value.bool true)) (Go.Operand.tmp 45), type := 4, pos := "laws.go:164", after := #[{ on := 17, ground := Go.Ground.data }, { on := 20, ground := Go.Ground.data }], guard := none }) (v := ?_) rfl (by kernel_rfl) (by kernel_rfl) (by kernel_rfl) (fun _ _ _ h => h) (Or.inl ⟨by rfl, ?_⟩) (by assumption) ?_
        rotate_left 1
        · (intro w hSw; (try dsimp only at hSw); go_simp; try with_reducible rfl)
        (try simp only [Act.put, List.setIfInBounds_toArray, List.set_cons_zero, List.set_cons_succ])
        refine wpAnyH_done (by kernel_rfl) ?_ _
        replace P0 := keep_below b13 (keep_below b12 (keep_below b11 (keep_drew (P0))))
        replace P1 := keep_below b13 (keep_below b12 (keep_below b11 (keep_drew (P1))))
        replace P2 := keep_below b13 (keep_below b12 (keep_below b11 (keep_drew (P2))))
        replace P3 := keep_below b13 (keep_below b12 (keep_below b11 (keep_drew (P3))))
        replace Q0 := keep_below b13 (keep_below b12 (keep_below b11 (keep_drew (Q0))))
        replace Q1 := keep_below b13 (keep_below b12 (keep_below b11 (keep_drew (Q1))))
        replace Q2 := keep_below b13 (keep_below b12 (keep_below b11 (keep_drew (Q2))))
        replace Q3 := keep_below b13 (keep_below b12 (keep_below b11 (keep_drew (Q3))))
        replace R0 := keep_below b13 (keep_below b12 (keep_below b11 (keep_drew (R0))))
        replace R1 := keep_below b13 (keep_below b12 (keep_below b11 (keep_drew (R1))))
        replace R2 := keep_below b13 (keep_below b12 (keep_below b11 (keep_drew (R2))))
        replace R3 := keep_below b13 (keep_below b12 (keep_below b11 (keep_drew (R3))))
        have B4 := btrans (btrans (btrans (B3.drew) b11) b12) b13
        clear b11 b12 b13 B3 hHeld
        go_wp2_with fail
        refine wp_region_held_drew (S := (fun w' => w'.cell? ⟨KA, 0, none⟩ = some (.int .i64 ax) ∧ w'.cell? ⟨KA, 1, none⟩ = some (.int .i64 ay) ∧ w'.cell? ⟨KA, 2, none⟩ = some (.int .i64 ah) ∧ w'.cell? ⟨KA, 3, none⟩ = some (.int .i64 ae) ∧ w'.cell? ⟨KB, 0, none⟩ = some (.int .i64 bx) ∧ w'.cell? ⟨KB, 1, none⟩ = some (.int .i64 b_y) ∧ w'.cell? ⟨KB, 2, none⟩ = some (.int .i64 bh) ∧ w'.cell? ⟨KB, 3, none⟩ = some (.int .i64 be) ∧ w'.cell? ⟨KC, 0, none⟩ = some (.int .i64 X) ∧ w'.cell? ⟨KC, 1, none⟩ = some (.int .i64 Y) ∧ w'.cell? ⟨KC, 2, none⟩ = some (.int .i64 H) ∧ w'.cell? ⟨KC, 3, none⟩ = some (.int .i64 E))) (by kernel_rfl) ?_ (fun hHeld => ?_)
        · (try dsimp only); (refine ⟨?_, ?_, ?_, ?_, ?_, ?_, ?_, ?_, ?_, ?_, ?_, ?_⟩ <;> (repeat (first | with_reducible assumption | with_reducible refine keep_drew ?_ | with_reducible refine keep_below (by assumption) ?_)))
        refine wpAnyH_take (i := 0) (oi := { dst := some 47, op := Go.Op.load 24 (Go.Operand.tmp 7), type := 24, pos := "laws.go:165", after := #[], guard := none }) (v := ?_) rfl (by kernel_rfl) (by kernel_rfl) (by kernel_rfl) (fun _ _ _ h => h) (Or.inl ⟨by rfl, ?_⟩) (by assumption) ?_
        rotate_left 1
        · (intro w hSw; (try dsimp only at hSw); go_simp; try with_reducible rfl)
        (try simp only [Act.put, List.setIfInBounds_toArray, List.set_cons_zero, List.set_cons_succ])
        refine wpAnyH_take (i := 1) (oi := { dst := some 48, op := Go.Op.load 24 (Go.Operand.tmp 3), type := 24, pos := "laws.go:165", after := #[], guard := none }) (v := ?_) rfl (by kernel_rfl) (by kernel_rfl) (by kernel_rfl) (fun _ _ _ h => h) (Or.inl ⟨by rfl, ?_⟩) (by assumption) ?_
        rotate_left 1
        · (intro w hSw; (try dsimp only at hSw); go_simp; try with_reducible rfl)
        (try simp only [Act.put, List.setIfInBounds_toArray, List.set_cons_zero, List.set_cons_succ])
        refine wpAnyH_take (i := 2) (oi := { dst := some 49, op := Go.Op.load 24 (Go.Operand.tmp 4), type := 24, pos := "laws.go:165", after := #[], guard := none }) (v := ?_) rfl (by kernel_rfl) (by kernel_rfl) (by kernel_rfl) (fun _ _ _ h => h) (Or.inl ⟨by rfl, ?_⟩) (by assumption) ?_
        rotate_left 1
        · (intro w hSw; (try dsimp only at hSw); go_simp; try with_reducible rfl)
        (try simp only [Act.put, List.setIfInBounds_toArray, List.set_cons_zero, List.set_cons_succ])
        refine wpAnyH_take (i := 3) (oi := { dst := some 50, op := Go.Op.move (Go.Operand.tmp 5), type := 3, pos := "laws.go:165", after := #[], guard := none }) (v := ?_) rfl (by kernel_rfl) (by kernel_rfl) (by kernel_rfl) (fun _ _ _ h => h) (Or.inl ⟨by rfl, ?_⟩) (by assumption) ?_
        rotate_left 1
        · (intro w hSw; (try dsimp only at hSw); go_simp; try with_reducible rfl)
        (try simp only [Act.put, List.setIfInBounds_toArray, List.set_cons_zero, List.set_cons_succ])
        refine wpAnyH_take (i := 4) (oi := { dst := some 51, op := Go.Op.move (Go.Operand.tmp 6), type := 3, pos := "laws.go:165", after := #[], guard := none }) (v := ?_) rfl (by kernel_rfl) (by kernel_rfl) (by kernel_rfl) (fun _ _ _ h => h) (Or.inl ⟨by rfl, ?_⟩) (by assumption) ?_
        rotate_left 1
        · (intro w hSw; (try dsimp only at hSw); go_simp; try with_reducible rfl)
        (try simp only [Act.put, List.setIfInBounds_toArray, List.set_cons_zero, List.set_cons_succ])
        refine wpAnyH_ready (rs := [5]) (by kernel_rfl) (by simp) ?_
        refine AllReadyH.cons (o := { dst := some 52, op := Go.Op.call { callee := Go.Callee.value (Go.Operand.func 11), args := #[Go.Operand.tmp 48, Go.Operand.tmp 49, Go.Operand.tmp 50, Go.Operand.tmp 51], argTypes := #[24, 24, 3, 3] }, type := 24, pos := "laws.go:165", after := #[{ on := 1, ground := Go.Ground.data }, { on := 2, ground := Go.Ground.data }, { on := 3, ground := Go.Ground.data }, { on := 4, ground := Go.Ground.data }], guard := none }) rfl (fun K hK => ?_) AllReadyH.nil
        go_simp
        (refine (hS _).mono ?_; rintro e w21 ⟨rfl, b21⟩)
        go_wp2_with fail
        refine hK.out _ _ ?_ (fun hHeld => ?_)
        · (try dsimp only); (refine ⟨?_, ?_, ?_, ?_, ?_, ?_, ?_, ?_, ?_, ?_, ?_, ?_⟩ <;> (repeat (first | with_reducible assumption | with_reducible refine keep_drew ?_ | with_reducible refine keep_below (by assumption) ?_)))
        clear hK K
        (try simp only [Act.put, List.setIfInBounds_toArray, List.set_cons_zero, List.set_cons_succ])
        refine wpAnyH_take (i := 6) (oi := { dst := some 53, op := Go.Op.binOp Go.BinOp.eql 24 (Go.Operand.tmp 47) (Go.Operand.tmp 52) 24, type := 4, pos := "laws.go:165", after := #[{ on := 0, ground := Go.Ground.data }, { on := 5, ground := Go.Ground.data }], guard := none }) (v := ?_) rfl (by kernel_rfl) (by kernel_rfl) (by kernel_rfl) (fun _ _ _ h => h) (Or.inl ⟨by rfl, ?_⟩) (by assumption) ?_
        rotate_left 1
        · (intro w hSw; (try dsimp only at hSw); go_simp; try with_reducible rfl)
        (try simp only [Act.put, List.setIfInBounds_toArray, List.set_cons_zero, List.set_cons_succ])
        refine wpAnyH_take (i := 7) (oi := { dst := some 2, op := Go.Op.assign (Go.Operand.tmp 53), type := 4, pos := "laws.go:165", after := #[{ on := 6, ground := Go.Ground.data }, { on := 5, ground := Go.Ground.chain }, { on := 0, ground := Go.Ground.phase }, { on := 1, ground := Go.Ground.phase }, { on := 2, ground := Go.Ground.phase }, { on := 3, ground := Go.Ground.phase }, { on := 4, ground := Go.Ground.phase }, { on := 5, ground := Go.Ground.phase }, { on := 6, ground := Go.Ground.phase }], guard := none }) (v := ?_) rfl (by kernel_rfl) (by kernel_rfl) (by kernel_rfl) (fun _ _ _ h => h) (Or.inl ⟨by rfl, ?_⟩) (by assumption) ?_
        rotate_left 1
        · (intro w hSw; (try dsimp only at hSw); go_simp; try with_reducible rfl)
        (try simp only [Act.put, List.setIfInBounds_toArray, List.set_cons_zero, List.set_cons_succ])
        refine wpAnyH_done (by kernel_rfl) ?_ _
        go_wp2
        go_ret
        exact ⟨rfl, btrans B4.drew b21⟩
      · skip
        refine wp_region_held_drew (S := (fun w' => w'.cell? ⟨KA, 0, none⟩ = some (.int .i64 ax) ∧ w'.cell? ⟨KA, 1, none⟩ = some (.int .i64 ay) ∧ w'.cell? ⟨KA, 2, none⟩ = some (.int .i64 ah) ∧ w'.cell? ⟨KA, 3, none⟩ = some (.int .i64 ae) ∧ w'.cell? ⟨KB, 0, none⟩ = some (.int .i64 bx) ∧ w'.cell? ⟨KB, 1, none⟩ = some (.int .i64 b_y) ∧ w'.cell? ⟨KB, 2, none⟩ = some (.int .i64 bh) ∧ w'.cell? ⟨KB, 3, none⟩ = some (.int .i64 be) ∧ w'.cell? ⟨KC, 0, none⟩ = some (.int .i64 X) ∧ w'.cell? ⟨KC, 1, none⟩ = some (.int .i64 Y) ∧ w'.cell? ⟨KC, 2, none⟩ = some (.int .i64 H) ∧ w'.cell? ⟨KC, 3, none⟩ = some (.int .i64 E))) (by kernel_rfl) ?_ (fun hHeld => ?_)
        · (try dsimp only); (refine ⟨?_, ?_, ?_, ?_, ?_, ?_, ?_, ?_, ?_, ?_, ?_, ?_⟩ <;> (repeat (first | with_reducible assumption | with_reducible refine keep_drew ?_ | with_reducible refine keep_below (by assumption) ?_)))
        refine wpAnyH_take (i := 0) (oi := { dst := some 25, op := Go.Op.load 24 (Go.Operand.tmp 7), type := 24, pos := "laws.go:164", after := #[], guard := none }) (v := ?_) rfl (by kernel_rfl) (by kernel_rfl) (by kernel_rfl) (fun _ _ _ h => h) (Or.inl ⟨by rfl, ?_⟩) (by assumption) ?_
        rotate_left 1
        · (intro w hSw; (try dsimp only at hSw); go_simp; try with_reducible rfl)
        (try simp only [Act.put, List.setIfInBounds_toArray, List.set_cons_zero, List.set_cons_succ])
        refine wpAnyH_take (i := 1) (oi := { dst := some 26, op := Go.Op.load 24 (Go.Operand.tmp 3), type := 24, pos := "laws.go:164", after := #[], guard := none }) (v := ?_) rfl (by kernel_rfl) (by kernel_rfl) (by kernel_rfl) (fun _ _ _ h => h) (Or.inl ⟨by rfl, ?_⟩) (by assumption) ?_
        rotate_left 1
        · (intro w hSw; (try dsimp only at hSw); go_simp; try with_reducible rfl)
        (try simp only [Act.put, List.setIfInBounds_toArray, List.set_cons_zero, List.set_cons_succ])
        refine wpAnyH_take (i := 2) (oi := { dst := some 27, op := Go.Op.load 24 (Go.Operand.tmp 4), type := 24, pos := "laws.go:164", after := #[], guard := none }) (v := ?_) rfl (by kernel_rfl) (by kernel_rfl) (by kernel_rfl) (fun _ _ _ h => h) (Or.inl ⟨by rfl, ?_⟩) (by assumption) ?_
        rotate_left 1
        · (intro w hSw; (try dsimp only at hSw); go_simp; try with_reducible rfl)
        (try simp only [Act.put, List.setIfInBounds_toArray, List.set_cons_zero, List.set_cons_succ])
        refine wpAnyH_take (i := 3) (oi := { dst := some 28, op := Go.Op.move (Go.Operand.tmp 5), type := 3, pos := "laws.go:164", after := #[], guard := none }) (v := ?_) rfl (by kernel_rfl) (by kernel_rfl) (by kernel_rfl) (fun _ _ _ h => h) (Or.inl ⟨by rfl, ?_⟩) (by assumption) ?_
        rotate_left 1
        · (intro w hSw; (try dsimp only at hSw); go_simp; try with_reducible rfl)
        (try simp only [Act.put, List.setIfInBounds_toArray, List.set_cons_zero, List.set_cons_succ])
        refine wpAnyH_take (i := 4) (oi := { dst := some 29, op := Go.Op.move (Go.Operand.tmp 6), type := 3, pos := "laws.go:164", after := #[], guard := none }) (v := ?_) rfl (by kernel_rfl) (by kernel_rfl) (by kernel_rfl) (fun _ _ _ h => h) (Or.inl ⟨by rfl, ?_⟩) (by assumption) ?_
        rotate_left 1
        · (intro w hSw; (try dsimp only at hSw); go_simp; try with_reducible rfl)
        (try simp only [Act.put, List.setIfInBounds_toArray, List.set_cons_zero, List.set_cons_succ])
        refine wpAnyH_ready (rs := [5]) (by kernel_rfl) (by simp) ?_
        refine AllReadyH.cons (o := { dst := some 30, op := Go.Op.call { callee := Go.Callee.value (Go.Operand.func 11), args := #[Go.Operand.tmp 26, Go.Operand.tmp 27, Go.Operand.tmp 28, Go.Operand.tmp 29], argTypes := #[24, 24, 3, 3] }, type := 24, pos := "laws.go:164", after := #[{ on := 1, ground := Go.Ground.data }, { on := 2, ground := Go.Ground.data }, { on := 3, ground := Go.Ground.data }, { on := 4, ground := Go.Ground.data }], guard := none }) rfl (fun K hK => ?_) AllReadyH.nil
        go_simp
        (refine (hS _).mono ?_; rintro e w11 ⟨rfl, b11⟩)
        go_wp2_with fail
        refine hK.out _ _ ?_ (fun hHeld => ?_)
        · (try dsimp only); (refine ⟨?_, ?_, ?_, ?_, ?_, ?_, ?_, ?_, ?_, ?_, ?_, ?_⟩ <;> (repeat (first | with_reducible assumption | with_reducible refine keep_drew ?_ | with_reducible refine keep_below (by assumption) ?_)))
        clear hK K
        (try simp only [Act.put, List.setIfInBounds_toArray, List.set_cons_zero, List.set_cons_succ])
        refine wpAnyH_take (i := 6) (oi := { dst := some 31, op := Go.Op.binOp Go.BinOp.neq 24 (Go.Operand.tmp 25) (Go.Operand.tmp 30) 24, type := 4, pos := "laws.go:164", after := #[{ on := 0, ground := Go.Ground.data }, { on := 5, ground := Go.Ground.data }], guard := none }) (v := ?_) rfl (by kernel_rfl) (by kernel_rfl) (by kernel_rfl) (fun _ _ _ h => h) (Or.inl ⟨by rfl, ?_⟩) (by assumption) ?_
        rotate_left 1
        · (intro w hSw; (try dsimp only at hSw); go_simp; try with_reducible rfl)
        (try simp only [Act.put, List.setIfInBounds_toArray, List.set_cons_zero, List.set_cons_succ])
        refine wpAnyH_take (i := 7) (oi := { dst := some 32, op := Go.Op.move (Go.Operand.tmp 31), type := 4, pos := "laws.go:164", after := #[{ on := 6, ground := Go.Ground.data }, { on := 5, ground := Go.Ground.chain }], guard := none }) (v := ?_) rfl (by kernel_rfl) (by kernel_rfl) (by kernel_rfl) (fun _ _ _ h => h) (Or.inl ⟨by rfl, ?_⟩) (by assumption) ?_
        rotate_left 1
        · (intro w hSw; (try dsimp only at hSw); go_simp; try with_reducible rfl)
        (try simp only [Act.put, List.setIfInBounds_toArray, List.set_cons_zero, List.set_cons_succ])
        refine wpAnyH_take (i := 8) (oi := { dst := some 33, op := Go.Op.load 24 (Go.Operand.tmp 3), type := 24, pos := "laws.go:164", after := #[{ on := 7, ground := Go.Ground.guard }], guard := some (7, false) }) (v := ?_) rfl (by kernel_rfl) (by kernel_rfl) (by kernel_rfl) (fun _ _ _ h => h) (Or.inl ⟨by rfl, ?_⟩) (by assumption) ?_
        rotate_left 1
        · (intro w hSw; (try dsimp only at hSw); go_simp; try with_reducible rfl)
        (try simp only [Act.put, List.setIfInBounds_toArray, List.set_cons_zero, List.set_cons_succ])
        refine wpAnyH_ready (rs := [9]) (by kernel_rfl) (by simp) ?_
        refine AllReadyH.cons (o := { dst := some 34, op := Go.Op.call { callee := Go.Callee.value (Go.Operand.func 13), args := #[Go.Operand.tmp 33], argTypes := #[24] }, type := 4, pos := "laws.go:164", after := #[{ on := 8, ground := Go.Ground.data }, { on := 7, ground := Go.Ground.chain }, { on := 7, ground := Go.Ground.guard }], guard := some (7, false) }) rfl (fun K hK => ?_) AllReadyH.nil
        go_simp
        (refine (sok_lit ax ay ah ae true hcc.out _).mono ?_; rintro e w12 ⟨rfl, b12⟩)
        go_wp2_with fail
        refine hK.out _ _ ?_ (fun hHeld => ?_)
        · (try dsimp only); (refine ⟨?_, ?_, ?_, ?_, ?_, ?_, ?_, ?_, ?_, ?_, ?_, ?_⟩ <;> (repeat (first | with_reducible assumption | with_reducible refine keep_drew ?_ | with_reducible refine keep_below (by assumption) ?_)))
        clear hK K
        (try simp only [Act.put, List.setIfInBounds_toArray, List.set_cons_zero, List.set_cons_succ])
        refine wpAnyH_take (i := 10) (oi := { dst := some 35, op := Go.Op.unOp Go.UnOp.not 4 (Go.Operand.tmp 34), type := 4, pos := "laws.go:164", after := #[{ on := 9, ground := Go.Ground.data }, { on := 7, ground := Go.Ground.guard }], guard := some (7, false) }) (v := ?_) rfl (by kernel_rfl) (by kernel_rfl) (by kernel_rfl) (fun _ _ _ h => h) (Or.inl ⟨by rfl, ?_⟩) (by assumption) ?_
        rotate_left 1
        · (intro w hSw; (try dsimp only at hSw); go_simp; try with_reducible rfl)
        (try simp only [Act.put, List.setIfInBounds_toArray, List.set_cons_zero, List.set_cons_succ])
        refine wpAnyH_take (i := 11) (oi := { dst := some 36, op := Go.Op.pick (Go.Operand.tmp 32) (Go.Operand.const (Go.Value.bool true)) (Go.Operand.tmp 35), type := 4, pos := "laws.go:164", after := #[{ on := 7, ground := Go.Ground.data }, { on := 10, ground := Go.Ground.data }], guard := none }) (v := ?_) rfl (by kernel_rfl) (by kernel_rfl) (by kernel_rfl) (fun _ _ _ h => h) (Or.inl ⟨by rfl, ?_⟩) (by assumption) ?_
        rotate_left 1
        · (intro w hSw; (try dsimp only at hSw); go_simp; try with_reducible rfl)
        (try simp only [Act.put, List.setIfInBounds_toArray, List.set_cons_zero, List.set_cons_succ])
        refine wpAnyH_take (i := 12) (oi := { dst := some 37, op := Go.Op.move (Go.Operand.tmp 36), type := 4, pos := "laws.go:164", after := #[{ on := 11, ground := Go.Ground.data }, { on := 9, ground := Go.Ground.chain }], guard := none }) (v := ?_) rfl (by kernel_rfl) (by kernel_rfl) (by kernel_rfl) (fun _ _ _ h => h) (Or.inl ⟨by rfl, ?_⟩) (by assumption) ?_
        rotate_left 1
        · (intro w hSw; (try dsimp only at hSw); go_simp; try with_reducible rfl)
        (try simp only [Act.put, List.setIfInBounds_toArray, List.set_cons_zero, List.set_cons_succ])
        refine wpAnyH_take (i := 13) (oi := { dst := some 38, op := Go.Op.load 24 (Go.Operand.tmp 4), type := 24, pos := "laws.go:164", after := #[{ on := 12, ground := Go.Ground.guard }], guard := some (12, false) }) (v := ?_) rfl (by kernel_rfl) (by kernel_rfl) (by kernel_rfl) (fun _ _ _ h => h) (Or.inl ⟨by rfl, ?_⟩) (by assumption) ?_
        rotate_left 1
        · (intro w hSw; (try dsimp only at hSw); go_simp; try with_reducible rfl)
        (try simp only [Act.put, List.setIfInBounds_toArray, List.set_cons_zero, List.set_cons_succ])
        refine wpAnyH_ready (rs := [14]) (by kernel_rfl) (by simp) ?_
        refine AllReadyH.cons (o := { dst := some 39, op := Go.Op.call { callee := Go.Callee.value (Go.Operand.func 13), args := #[Go.Operand.tmp 38], argTypes := #[24] }, type := 4, pos := "laws.go:164", after := #[{ on := 13, ground := Go.Ground.data }, { on := 12, ground := Go.Ground.chain }, { on := 12, ground := Go.Ground.guard }], guard := some (12, false) }) rfl (fun K hK => ?_) AllReadyH.nil
        go_simp
        (refine (sok_lit bx b_y bh be true hcb.out _).mono ?_; rintro e w13 ⟨rfl, b13⟩)
        go_wp2_with fail
        refine hK.out _ _ ?_ (fun hHeld => ?_)
        · (try dsimp only); (refine ⟨?_, ?_, ?_, ?_, ?_, ?_, ?_, ?_, ?_, ?_, ?_, ?_⟩ <;> (repeat (first | with_reducible assumption | with_reducible refine keep_drew ?_ | with_reducible refine keep_below (by assumption) ?_)))
        clear hK K
        (try simp only [Act.put, List.setIfInBounds_toArray, List.set_cons_zero, List.set_cons_succ])
        refine wpAnyH_take (i := 15) (oi := { dst := some 40, op := Go.Op.unOp Go.UnOp.not 4 (Go.Operand.tmp 39), type := 4, pos := "laws.go:164", after := #[{ on := 14, ground := Go.Ground.data }, { on := 12, ground := Go.Ground.guard }], guard := some (12, false) }) (v := ?_) rfl (by kernel_rfl) (by kernel_rfl) (by kernel_rfl) (fun _ _ _ h => h) (Or.inl ⟨by rfl, ?_⟩) (by assumption) ?_
        rotate_left 1
        · (intro w hSw; (try dsimp only at hSw); go_simp; try with_reducible rfl)
        (try simp only [Act.put, List.setIfInBounds_toArray, List.set_cons_zero, List.set_cons_succ])
        refine wpAnyH_take (i := 16) (oi := { dst := some 41, op := Go.Op.pick (Go.Operand.tmp 37) (Go.Operand.const (Go.Value.bool true)) (Go.Operand.tmp 40), type := 4, pos := "laws.go:164", after := #[{ on := 12, ground := Go.Ground.data }, { on := 15, ground := Go.Ground.data }], guard := none }) (v := ?_) rfl (by kernel_rfl) (by kernel_rfl) (by kernel_rfl) (fun _ _ _ h => h) (Or.inl ⟨by rfl, ?_⟩) (by assumption) ?_
        rotate_left 1
        · (intro w hSw; (try dsimp only at hSw); go_simp; try with_reducible rfl)
        (try simp only [Act.put, List.setIfInBounds_toArray, List.set_cons_zero, List.set_cons_succ])
        refine wpAnyH_take (i := 17) (oi := { dst := some 42, op := Go.Op.move (Go.Operand.tmp 41), type := 4, pos := "laws.go:164", after := #[{ on := 16, ground := Go.Ground.data }, { on := 14, ground := Go.Ground.chain }], guard := none }) (v := ?_) rfl (by kernel_rfl) (by kernel_rfl) (by kernel_rfl) (fun _ _ _ h => h) (Or.inl ⟨by rfl, ?_⟩) (by assumption) ?_
        rotate_left 1
        · (intro w hSw; (try dsimp only at hSw); go_simp; try with_reducible rfl)
        (try simp only [Act.put, List.setIfInBounds_toArray, List.set_cons_zero, List.set_cons_succ])
        refine wpAnyH_take (i := 18) (oi := { dst := some 43, op := Go.Op.move (Go.Operand.tmp 5), type := 3, pos := "laws.go:164", after := #[{ on := 17, ground := Go.Ground.guard }], guard := some (17, false) }) (v := ?_) rfl (by kernel_rfl) (by kernel_rfl) (by kernel_rfl) (fun _ _ _ h => h) (Or.inl ⟨by rfl, ?_⟩) (by assumption) ?_
        rotate_left 1
        · (intro w hSw; (try dsimp only at hSw); go_simp; try with_reducible rfl)
        (try simp only [Act.put, List.setIfInBounds_toArray, List.set_cons_zero, List.set_cons_succ])
        refine wpAnyH_ready (rs := [19]) (by kernel_rfl) (by simp) ?_
        refine AllReadyH.cons (o := { dst := some 44, op := Go.Op.call { callee := Go.Callee.value (Go.Operand.func 15), args := #[Go.Operand.tmp 43, Go.Operand.const (Go.Value.int Go.IntKind.i64 1), Go.Operand.const (Go.Value.int Go.IntKind.i64 60000)], argTypes := #[3, 3, 3] }, type := 4, pos := "laws.go:164", after := #[{ on := 18, ground := Go.Ground.data }, { on := 17, ground := Go.Ground.chain }, { on := 17, ground := Go.Ground.guard }], guard := some (17, false) }) rfl (fun K hK => ?_) AllReadyH.nil
        go_simp
        (refine (lhin_lit trip 1 60000 true hct.out _).mono ?_; rintro e w14 ⟨rfl, hw⟩; obtain rfl := hw.symm)
        go_wp2_with fail
        refine hK.out _ _ ?_ (fun hHeld => ?_)
        · (try dsimp only); (refine ⟨?_, ?_, ?_, ?_, ?_, ?_, ?_, ?_, ?_, ?_, ?_, ?_⟩ <;> (repeat (first | with_reducible assumption | with_reducible refine keep_drew ?_ | with_reducible refine keep_below (by assumption) ?_)))
        clear hK K
        (try simp only [Act.put, List.setIfInBounds_toArray, List.set_cons_zero, List.set_cons_succ])
        refine wpAnyH_take (i := 20) (oi := { dst := some 45, op := Go.Op.unOp Go.UnOp.not 4 (Go.Operand.tmp 44), type := 4, pos := "laws.go:164", after := #[{ on := 19, ground := Go.Ground.data }, { on := 17, ground := Go.Ground.guard }], guard := some (17, false) }) (v := ?_) rfl (by kernel_rfl) (by kernel_rfl) (by kernel_rfl) (fun _ _ _ h => h) (Or.inl ⟨by rfl, ?_⟩) (by assumption) ?_
        rotate_left 1
        · (intro w hSw; (try dsimp only at hSw); go_simp; try with_reducible rfl)
        (try simp only [Act.put, List.setIfInBounds_toArray, List.set_cons_zero, List.set_cons_succ])
        refine wpAnyH_take (i := 21) (oi := { dst := some 46, op := Go.Op.pick (Go.Operand.tmp 42) (Go.Operand.const (Go.Value.bool true)) (Go.Operand.tmp 45), type := 4, pos := "laws.go:164", after := #[{ on := 17, ground := Go.Ground.data }, { on := 20, ground := Go.Ground.data }], guard := none }) (v := ?_) rfl (by kernel_rfl) (by kernel_rfl) (by kernel_rfl) (fun _ _ _ h => h) (Or.inl ⟨by rfl, ?_⟩) (by assumption) ?_
        rotate_left 1
        · (intro w hSw; (try dsimp only at hSw); go_simp; try with_reducible rfl)
        (try simp only [Act.put, List.setIfInBounds_toArray, List.set_cons_zero, List.set_cons_succ])
        refine wpAnyH_done (by kernel_rfl) ?_ _
        replace P0 := keep_below b13 (keep_below b12 (keep_below b11 (keep_drew (P0))))
        replace P1 := keep_below b13 (keep_below b12 (keep_below b11 (keep_drew (P1))))
        replace P2 := keep_below b13 (keep_below b12 (keep_below b11 (keep_drew (P2))))
        replace P3 := keep_below b13 (keep_below b12 (keep_below b11 (keep_drew (P3))))
        replace Q0 := keep_below b13 (keep_below b12 (keep_below b11 (keep_drew (Q0))))
        replace Q1 := keep_below b13 (keep_below b12 (keep_below b11 (keep_drew (Q1))))
        replace Q2 := keep_below b13 (keep_below b12 (keep_below b11 (keep_drew (Q2))))
        replace Q3 := keep_below b13 (keep_below b12 (keep_below b11 (keep_drew (Q3))))
        replace R0 := keep_below b13 (keep_below b12 (keep_below b11 (keep_drew (R0))))
        replace R1 := keep_below b13 (keep_below b12 (keep_below b11 (keep_drew (R1))))
        replace R2 := keep_below b13 (keep_below b12 (keep_below b11 (keep_drew (R2))))
        replace R3 := keep_below b13 (keep_below b12 (keep_below b11 (keep_drew (R3))))
        have B4 := btrans (btrans (btrans (B3.drew) b11) b12) b13
        clear b11 b12 b13 B3 hHeld
        obtain ⟨hcX, hnear⟩ := hN hcc.out hcb.out hct.out
        have d1 := dist_bd hcc.out hcb.out
        have d2 := dist_bd hcX hcb.out
        have hcX' : Hid (cok X Y H E = true) := hcX
        clear hcX hS
        go_wp2_with fail
        refine (fdist_yes ax ay ah ae bx b_y bh be _ hcc.out hcb.out).mono ?_
        rintro e w22 ⟨rfl, b22⟩
        replace P0 := keep_below b22 (P0)
        replace P1 := keep_below b22 (P1)
        replace P2 := keep_below b22 (P2)
        replace P3 := keep_below b22 (P3)
        replace Q0 := keep_below b22 (Q0)
        replace Q1 := keep_below b22 (Q1)
        replace Q2 := keep_below b22 (Q2)
        replace Q3 := keep_below b22 (Q3)
        replace R0 := keep_below b22 (R0)
        replace R1 := keep_below b22 (R1)
        replace R2 := keep_below b22 (R2)
        replace R3 := keep_below b22 (R3)
        have B5 := btrans B4 b22
        clear b22 B4
        generalize M.isq ((ax - bx) * (ax - bx) + (ay - b_y) * (ay - b_y)) + ah + bh = D1 at *
        have n1 : IntKind.i64.wrap (trip - D1) = trip - D1 := by rw [IntKind.wrap_i64]; omega
        go_wp2_with fail
        refine (lhabs_any (trip - D1) _ (by omega) (by omega)).mono ?_
        rintro e w23 ⟨rfl, hw⟩
        obtain rfl := hw.symm
        go_wp2_with fail
        refine (fdist_yes X Y H E bx b_y bh be _ hcX'.out hcb.out).mono ?_
        rintro e w24 ⟨rfl, b24⟩
        have B6 := btrans B5 b24
        clear b24 B5 P0 P1 P2 P3 Q0 Q1 Q2 Q3 R0 R1 R2 R3
        generalize M.isq ((X - bx) * (X - bx) + (Y - b_y) * (Y - b_y)) + H + bh = D2 at *
        have n2 : IntKind.i64.wrap (trip - D2) = trip - D2 := by rw [IntKind.wrap_i64]; omega
        go_wp2_with fail
        refine (lhabs_any (trip - D2) _ (by omega) (by omega)).mono ?_
        rintro e w25 ⟨rfl, hw⟩
        obtain rfl := hw.symm
        have a1 := ab_bd (n := trip - D1) (B := 1000000) (by omega) (by omega)
        have a2 := ab_bd (n := trip - D2) (B := 1000000) (by omega) (by omega)
        generalize M.ab (trip - D1) = A1 at *
        generalize M.ab (trip - D2) = A2 at *
        have n3 : IntKind.i64.wrap (A1 + 2) = A1 + 2 := by rw [IntKind.wrap_i64]; omega
        go_wp2
        go_ret
        exact ⟨ret_bool (by simp <;> omega), B6⟩
end Go.Proofs.YtajcjanfllpcgaaDoor
