/- The law that it is as far there as back, walked: it answers true at every two codes. -/
import Derived.Test.YtghdbpomkmjciaaCoordX
import Derived.LoopTactic
import Derived.WalkKit
import Derived.ProofKit
import Derived.WalkLawsBesides
import Derived.Deep.QuietTactic
import Derived.BigQuiet
import Derived.Deep.RegionHeld3
import Derived.Deep.DrawnRows
import Derived.Deep.DeepCutAuto
namespace Go.Proofs.Ytghdbpomkmjciaa
open Go.ChangeShapes Go.WideShapes Go.ChangeAt Go.RowKit
attribute [local go_sem ↓] Go.wp_at_zero Go.wp_at_succ

theorem sok_no (x y h e : Int) (w : World) (k : cok x y h e = false) :
    Calls Try.prog 11 #[.agg #[.int .i64 x, .int .i64 y, .int .i64 h, .int .i64 e]] w fun r w' => r = .returned (.bool false) ∧ Below w.heap.size w w' := by
  have := sok_any x y h e w
  rw [k] at this
  exact this
theorem dst_sym (ax ay ah ae bx b_y bh be : Int) : dst ax ay ah ae bx b_y bh be = dst bx b_y bh be ax ay ah ae := by
  unfold dst
  rw [show (bx - ax) * (bx - ax) = (ax - bx) * (ax - bx) from by rw [← Int.neg_mul_neg]; congr 1 <;> omega, show (b_y - ay) * (b_y - ay) = (ay - b_y) * (ay - b_y) from by rw [← Int.neg_mul_neg]; congr 1 <;> omega, Bool.and_comm]
  split <;> omega
theorem dst_bd (ax ay ah ae bx b_y bh be : Int) : 0 ≤ dst ax ay ah ae bx b_y bh be ∧ dst ax ay ah ae bx b_y bh be ≤ 700000 := by
  unfold dst
  split
  · rename_i hk
    simp at hk
    have h1 := cok_bd hk.1
    have h2 := cok_bd hk.2
    have h3 := nm_eq (ax - bx) (ay - b_y) (by omega) (by omega) (by omega) (by omega)
    omega
  · omega
theorem dst_ge {ax ay ah ae bx b_y bh be : Int} (ka : cok ax ay ah ae = true) (kb : cok bx b_y bh be = true) : ah + bh ≤ dst ax ay ah ae bx b_y bh be := by
  unfold dst
  rw [if_pos (by simp [ka, kb])]
  have := M.isq_nonneg ((ax - bx) * (ax - bx) + (ay - b_y) * (ay - b_y))
  omega
theorem dst_tri {ax ay ah ae bx b_y bh be cx cy ch ce : Int} (ka : cok ax ay ah ae = true) (kb : cok bx b_y bh be = true) (kc : cok cx cy ch ce = true) :
    dst ax ay ah ae bx b_y bh be ≤ dst ax ay ah ae cx cy ch ce + dst cx cy ch ce bx b_y bh be + 2 := by
  unfold dst
  rw [if_pos (by simp [ka, kb]), if_pos (by simp [ka, kc]), if_pos (by simp [kc, kb])]
  have t := M.tri (ax - cx) (ay - cy) (cx - bx) (cy - b_y)
  rw [show ax - cx + (cx - bx) = ax - bx from by omega, show ay - cy + (cy - b_y) = ay - b_y from by omega] at t
  have := cok_bd kc
  omega
set_option maxRecDepth 100000 in
set_option maxHeartbeats 4000000 in
theorem coordDist_walk (a a' : Option Addr) (len cap len' cap' : Nat) (w : World) (h : Bytes w.heap.size w a len) (hl : len ≤ cap) (h' : Bytes w.heap.size w a' len') (hl' : len' ≤ cap') :
    Calls Try.prog 3 #[.slice a len cap, .slice a' len' cap'] w fun e w' => e = .returned (.bool true) ∧ Below w.heap.size w w' := by
  by_cases hlen : 1048576 < len
  · go_enter Try.func3, Try.ntmps3
    go_wp2_with fail
    go_ret
    exact ⟨rfl, Below.refl _ _⟩
  by_cases hlen' : 1048576 < len'
  · go_enter Try.func3, Try.ntmps3
    go_wp2_with fail
    go_ret
    exact ⟨rfl, Below.refl _ _⟩
  go_enter Try.func3, Try.ntmps3
  go_wp2_with fail
  refine (drawDist_any a len cap _ w (Nat.le_refl _) h hl).mono ?_
  rintro e w1 ⟨ax, ay, ah, ae, bx, b_y, bh, be, rfl, b1⟩
  go_wp2_with fail
  have b1' := balloc (.cells #[.int .i64 bx, .int .i64 b_y, .int .i64 bh, .int .i64 be] 24) (balloc (.cells #[.int .i64 ax, .int .i64 ay, .int .i64 ah, .int .i64 ae] 24) b1)
  refine (drawDist_any a' len' cap' w.heap.size _ b1'.size (h'.below b1' (Nat.le_refl _)) hl').mono ?_
  rintro e w2 ⟨cx, cy, ch, ce, dx, dy, dh, de, rfl, b2⟩
  obtain ⟨hc2, hf2⟩ := bcell b2
  have p0 : w2.cell? ⟨w1.heap.size, 0, none⟩ = some (.int .i64 ax) := by rw [hc2 _ _ (by simp; omega)]; simp [go_sem]
  have p1 : w2.cell? ⟨w1.heap.size, 1, none⟩ = some (.int .i64 ay) := by rw [hc2 _ _ (by simp; omega)]; simp [go_sem]
  have p2 : w2.cell? ⟨w1.heap.size, 2, none⟩ = some (.int .i64 ah) := by rw [hc2 _ _ (by simp; omega)]; simp [go_sem]
  have p3 : w2.cell? ⟨w1.heap.size, 3, none⟩ = some (.int .i64 ae) := by rw [hc2 _ _ (by simp; omega)]; simp [go_sem]
  have q0 : w2.cell? ⟨w1.heap.size + 1, 0, none⟩ = some (.int .i64 bx) := by rw [hc2 _ _ (by simp)]; simp [go_sem]
  have q1 : w2.cell? ⟨w1.heap.size + 1, 1, none⟩ = some (.int .i64 b_y) := by rw [hc2 _ _ (by simp)]; simp [go_sem]
  have q2 : w2.cell? ⟨w1.heap.size + 1, 2, none⟩ = some (.int .i64 bh) := by rw [hc2 _ _ (by simp)]; simp [go_sem]
  have q3 : w2.cell? ⟨w1.heap.size + 1, 3, none⟩ = some (.int .i64 be) := by rw [hc2 _ _ (by simp)]; simp [go_sem]
  have bw2 := btrans b1' b2
  clear hc2 hf2 b1 b1' b2
  generalize w1.heap.size = KA at *
  generalize KA + 1 = KB at *
  replace p0 := fun o1 o2 => keep_alloc o2 (keep_alloc o1 p0)
  replace p1 := fun o1 o2 => keep_alloc o2 (keep_alloc o1 p1)
  replace p2 := fun o1 o2 => keep_alloc o2 (keep_alloc o1 p2)
  replace p3 := fun o1 o2 => keep_alloc o2 (keep_alloc o1 p3)
  replace q0 := fun o1 o2 => keep_alloc o2 (keep_alloc o1 q0)
  replace q1 := fun o1 o2 => keep_alloc o2 (keep_alloc o1 q1)
  replace q2 := fun o1 o2 => keep_alloc o2 (keep_alloc o1 q2)
  replace q3 := fun o1 o2 => keep_alloc o2 (keep_alloc o1 q3)
  go_wp2_with fail
  replace p0 := p0 (.cells #[.int .i64 cx, .int .i64 cy, .int .i64 ch, .int .i64 ce] 24) (.cells #[.int .i64 dx, .int .i64 dy, .int .i64 dh, .int .i64 de] 24)
  replace q0 := q0 (.cells #[.int .i64 cx, .int .i64 cy, .int .i64 ch, .int .i64 ce] 24) (.cells #[.int .i64 dx, .int .i64 dy, .int .i64 dh, .int .i64 de] 24)
  replace p1 := p1 (.cells #[.int .i64 cx, .int .i64 cy, .int .i64 ch, .int .i64 ce] 24) (.cells #[.int .i64 dx, .int .i64 dy, .int .i64 dh, .int .i64 de] 24)
  replace q1 := q1 (.cells #[.int .i64 cx, .int .i64 cy, .int .i64 ch, .int .i64 ce] 24) (.cells #[.int .i64 dx, .int .i64 dy, .int .i64 dh, .int .i64 de] 24)
  replace p2 := p2 (.cells #[.int .i64 cx, .int .i64 cy, .int .i64 ch, .int .i64 ce] 24) (.cells #[.int .i64 dx, .int .i64 dy, .int .i64 dh, .int .i64 de] 24)
  replace q2 := q2 (.cells #[.int .i64 cx, .int .i64 cy, .int .i64 ch, .int .i64 ce] 24) (.cells #[.int .i64 dx, .int .i64 dy, .int .i64 dh, .int .i64 de] 24)
  replace p3 := p3 (.cells #[.int .i64 cx, .int .i64 cy, .int .i64 ch, .int .i64 ce] 24) (.cells #[.int .i64 dx, .int .i64 dy, .int .i64 dh, .int .i64 de] 24)
  replace q3 := q3 (.cells #[.int .i64 cx, .int .i64 cy, .int .i64 ch, .int .i64 ce] 24) (.cells #[.int .i64 dx, .int .i64 dy, .int .i64 dh, .int .i64 de] 24)
  have c0 : ((w2.alloc (.cells #[.int .i64 cx, .int .i64 cy, .int .i64 ch, .int .i64 ce] 24)).alloc (.cells #[.int .i64 dx, .int .i64 dy, .int .i64 dh, .int .i64 de] 24)).cell? ⟨w2.heap.size, 0, none⟩ = some (.int .i64 cx) := by simp [go_sem]
  have c1 : ((w2.alloc (.cells #[.int .i64 cx, .int .i64 cy, .int .i64 ch, .int .i64 ce] 24)).alloc (.cells #[.int .i64 dx, .int .i64 dy, .int .i64 dh, .int .i64 de] 24)).cell? ⟨w2.heap.size, 1, none⟩ = some (.int .i64 cy) := by simp [go_sem]
  have c2 : ((w2.alloc (.cells #[.int .i64 cx, .int .i64 cy, .int .i64 ch, .int .i64 ce] 24)).alloc (.cells #[.int .i64 dx, .int .i64 dy, .int .i64 dh, .int .i64 de] 24)).cell? ⟨w2.heap.size, 2, none⟩ = some (.int .i64 ch) := by simp [go_sem]
  have c3 : ((w2.alloc (.cells #[.int .i64 cx, .int .i64 cy, .int .i64 ch, .int .i64 ce] 24)).alloc (.cells #[.int .i64 dx, .int .i64 dy, .int .i64 dh, .int .i64 de] 24)).cell? ⟨w2.heap.size, 3, none⟩ = some (.int .i64 ce) := by simp [go_sem]
  replace bw2 := balloc (.cells #[.int .i64 dx, .int .i64 dy, .int .i64 dh, .int .i64 de] 24) (balloc (.cells #[.int .i64 cx, .int .i64 cy, .int .i64 ch, .int .i64 ce] 24) bw2)
  generalize ((w2.alloc (.cells #[.int .i64 cx, .int .i64 cy, .int .i64 ch, .int .i64 ce] 24)).alloc (.cells #[.int .i64 dx, .int .i64 dy, .int .i64 dh, .int .i64 de] 24)) = W3 at *
  generalize w2.heap.size = KC at *
  refine (fdist_any _ _ _ _ _ _ _ _ _).mono ?_
  rintro e w4 ⟨rfl, b4⟩
  replace p0 := keep_below b4 p0
  replace p1 := keep_below b4 p1
  replace p2 := keep_below b4 p2
  replace p3 := keep_below b4 p3
  replace q0 := keep_below b4 q0
  replace q1 := keep_below b4 q1
  replace q2 := keep_below b4 q2
  replace q3 := keep_below b4 q3
  replace c0 := keep_below b4 c0
  replace c1 := keep_below b4 c1
  replace c2 := keep_below b4 c2
  replace c3 := keep_below b4 c3
  have bw4 := btrans bw2 b4
  clear bw2 b4
  have e0 : (dst ax ay ah ae bx b_y bh be != dst ax ay ah ae bx b_y bh be) = false := by simp
  have e1 : (dst ax ay ah ae bx b_y bh be != dst bx b_y bh be ax ay ah ae) = false := by rw [dst_sym]; simp
  have e2 : (cok ax ay ah ae != cok ax ay ah ae) = false := by simp
  go_upto_region 6 with fail
  go_region_held3 (fun w' => w'.cell? ⟨KA, 0, none⟩ = some (.int .i64 ax) ∧ w'.cell? ⟨KA, 1, none⟩ = some (.int .i64 ay) ∧ w'.cell? ⟨KA, 2, none⟩ = some (.int .i64 ah) ∧ w'.cell? ⟨KA, 3, none⟩ = some (.int .i64 ae) ∧ w'.cell? ⟨KB, 0, none⟩ = some (.int .i64 bx) ∧ w'.cell? ⟨KB, 1, none⟩ = some (.int .i64 b_y) ∧ w'.cell? ⟨KB, 2, none⟩ = some (.int .i64 bh) ∧ w'.cell? ⟨KB, 3, none⟩ = some (.int .i64 be)) (refine ⟨?_, ?_, ?_, ?_, ?_, ?_, ?_, ?_⟩ <;> (repeat (first | with_reducible assumption | with_reducible refine keep_alloc _ ?_ | with_reducible refine keep_drew ?_ | with_reducible refine keep_below (by assumption) ?_))) (first | (go_at_call 9; refine (sdist_any _ _ _ _ _ _ _ _ _).mono ?_; rintro e w5 ⟨rfl, b5⟩) | (go_at_call 8; refine (fdist_any _ _ _ _ _ _ _ _ _).mono ?_; rintro e w6 ⟨rfl, b6⟩) | (go_at_call 10; refine (fok_any _ _ _ _ _).mono ?_; rintro e w7 ⟨rfl, b7⟩) | (go_at_call 11; refine (sok_any _ _ _ _ _).mono ?_; rintro e w8 ⟨rfl, b8⟩))
  replace p0 := keep_below b8 (keep_below b7 (keep_below b6 (keep_below b5 (keep_drew p0))))
  replace p1 := keep_below b8 (keep_below b7 (keep_below b6 (keep_below b5 (keep_drew p1))))
  replace p2 := keep_below b8 (keep_below b7 (keep_below b6 (keep_below b5 (keep_drew p2))))
  replace p3 := keep_below b8 (keep_below b7 (keep_below b6 (keep_below b5 (keep_drew p3))))
  replace q0 := keep_below b8 (keep_below b7 (keep_below b6 (keep_below b5 (keep_drew q0))))
  replace q1 := keep_below b8 (keep_below b7 (keep_below b6 (keep_below b5 (keep_drew q1))))
  replace q2 := keep_below b8 (keep_below b7 (keep_below b6 (keep_below b5 (keep_drew q2))))
  replace q3 := keep_below b8 (keep_below b7 (keep_below b6 (keep_below b5 (keep_drew q3))))
  replace c0 := keep_below b8 (keep_below b7 (keep_below b6 (keep_below b5 (keep_drew c0))))
  replace c1 := keep_below b8 (keep_below b7 (keep_below b6 (keep_below b5 (keep_drew c1))))
  replace c2 := keep_below b8 (keep_below b7 (keep_below b6 (keep_below b5 (keep_drew c2))))
  replace c3 := keep_below b8 (keep_below b7 (keep_below b6 (keep_below b5 (keep_drew c3))))
  have bw8 := btrans (btrans (btrans (btrans (Below.drew bw4) b5) b6) b7) b8
  clear b5 b6 b7 b8 bw4 e0 e1 e2
  by_cases ka : cok ax ay ah ae = true
  · by_cases kb : cok bx b_y bh be = true
    · have g0 := dst_ge ka kb
      have g1 := dst_bd ax ay ah ae bx b_y bh be
      have ha := cok_bd ka
      have hb := cok_bd kb
      go_wp2_with fail
      refine (sok_any _ _ _ _ _).mono ?_
      rintro e w9 ⟨rfl, b9⟩
      have Q0 := q0; have Q1 := q1; have Q2 := q2; have Q3 := q3
      replace p0 := keep_below b9 p0
      replace p1 := keep_below b9 p1
      replace p2 := keep_below b9 p2
      replace p3 := keep_below b9 p3
      replace q0 := keep_below b9 q0
      replace q1 := keep_below b9 q1
      replace q2 := keep_below b9 q2
      replace q3 := keep_below b9 q3
      replace c0 := keep_below b9 c0
      replace c1 := keep_below b9 c1
      replace c2 := keep_below b9 c2
      replace c3 := keep_below b9 c3
      replace bw8 := btrans bw8 b9
      clear b9 Q0 Q1 Q2 Q3
      go_wp2_with fail
      refine (sok_any _ _ _ _ _).mono ?_
      rintro e w10 ⟨rfl, b10⟩
      replace p0 := keep_below b10 p0
      replace p1 := keep_below b10 p1
      replace p2 := keep_below b10 p2
      replace p3 := keep_below b10 p3
      replace q0 := keep_below b10 q0
      replace q1 := keep_below b10 q1
      replace q2 := keep_below b10 q2
      replace q3 := keep_below b10 q3
      replace c0 := keep_below b10 c0
      replace c1 := keep_below b10 c1
      replace c2 := keep_below b10 c2
      replace c3 := keep_below b10 c3
      replace bw8 := btrans bw8 b10
      clear b10
      have hw0 : IntKind.i64.wrap (ah + bh) = ah + bh := wrap_id (by omega) (by omega)
      have hge : decide (ah + bh ≤ dst ax ay ah ae bx b_y bh be) = true := by simp; exact g0
      by_cases kc : cok cx cy ch ce = true
      · have g2 := dst_tri ka kb kc
        have g3 := dst_bd ax ay ah ae cx cy ch ce
        have g4 := dst_bd cx cy ch ce bx b_y bh be
        have hw1 : IntKind.i64.wrap (dst ax ay ah ae cx cy ch ce + dst cx cy ch ce bx b_y bh be) = dst ax ay ah ae cx cy ch ce + dst cx cy ch ce bx b_y bh be := wrap_id (by omega) (by omega)
        have hw2 : IntKind.i64.wrap (dst ax ay ah ae cx cy ch ce + dst cx cy ch ce bx b_y bh be + 2) = dst ax ay ah ae cx cy ch ce + dst cx cy ch ce bx b_y bh be + 2 := wrap_id (by omega) (by omega)
        go_upto_region 10 with fail
        go_region_held3 (fun w' => w'.cell? ⟨KA, 0, none⟩ = some (.int .i64 ax) ∧ w'.cell? ⟨KA, 1, none⟩ = some (.int .i64 ay) ∧ w'.cell? ⟨KA, 2, none⟩ = some (.int .i64 ah) ∧ w'.cell? ⟨KA, 3, none⟩ = some (.int .i64 ae) ∧ w'.cell? ⟨KB, 0, none⟩ = some (.int .i64 bx) ∧ w'.cell? ⟨KB, 1, none⟩ = some (.int .i64 b_y) ∧ w'.cell? ⟨KB, 2, none⟩ = some (.int .i64 bh) ∧ w'.cell? ⟨KB, 3, none⟩ = some (.int .i64 be) ∧ w'.cell? ⟨KC, 0, none⟩ = some (.int .i64 cx) ∧ w'.cell? ⟨KC, 1, none⟩ = some (.int .i64 cy) ∧ w'.cell? ⟨KC, 2, none⟩ = some (.int .i64 ch) ∧ w'.cell? ⟨KC, 3, none⟩ = some (.int .i64 ce)) (refine ⟨?_, ?_, ?_, ?_, ?_, ?_, ?_, ?_, ?_, ?_, ?_, ?_⟩ <;> (repeat (first | with_reducible assumption | with_reducible refine keep_alloc _ ?_ | with_reducible refine keep_drew ?_ | with_reducible refine keep_below (by assumption) ?_))) (first | (go_at_call 11; refine (sok_any _ _ _ _ _).mono ?_; rintro e w11 ⟨rfl, b11⟩) | (go_at_call 8; refine (fdist_any _ _ _ _ _ _ _ _ _).mono ?_; rintro e w12 ⟨rfl, b12⟩))
        go_wp2
        go_ret
        exact ⟨rfl, btrans (btrans (btrans (Below.drew bw8) b11) ‹Below w11.heap.size w11 _›) b12⟩
      · have kc0 : cok cx cy ch ce = false := by simpa using kc
        have kc' : Hid (cok cx cy ch ce = false) := kc0
        clear kc kc0
        go_upto_region 10 with fail
        refine wp_region_held_drew (S := (fun w' => w'.cell? ⟨KA, 0, none⟩ = some (.int .i64 ax) ∧ w'.cell? ⟨KA, 1, none⟩ = some (.int .i64 ay) ∧ w'.cell? ⟨KA, 2, none⟩ = some (.int .i64 ah) ∧ w'.cell? ⟨KA, 3, none⟩ = some (.int .i64 ae) ∧ w'.cell? ⟨KB, 0, none⟩ = some (.int .i64 bx) ∧ w'.cell? ⟨KB, 1, none⟩ = some (.int .i64 b_y) ∧ w'.cell? ⟨KB, 2, none⟩ = some (.int .i64 bh) ∧ w'.cell? ⟨KB, 3, none⟩ = some (.int .i64 be) ∧ w'.cell? ⟨KC, 0, none⟩ = some (.int .i64 cx) ∧ w'.cell? ⟨KC, 1, none⟩ = some (.int .i64 cy) ∧ w'.cell? ⟨KC, 2, none⟩ = some (.int .i64 ch) ∧ w'.cell? ⟨KC, 3, none⟩ = some (.int .i64 ce))) (by kernel_rfl) ?_ (fun hHeld => ?_)
        · (try dsimp only); (refine ⟨?_, ?_, ?_, ?_, ?_, ?_, ?_, ?_, ?_, ?_, ?_, ?_⟩ <;> (repeat (first | with_reducible assumption | with_reducible refine keep_alloc _ ?_ | with_reducible refine keep_drew ?_ | with_reducible refine keep_below (by assumption) ?_)))
        refine wpAnyH_take (i := 0) (oi := { dst := some 60, op := Go.Op.move (Go.Operand.tmp 9), type := 3, pos := "laws.go:186", after := #[], guard := none }) (v := ?_) rfl (by kernel_rfl) (by kernel_rfl) (by kernel_rfl) (fun _ _ _ h => h) (Or.inl ⟨by rfl, ?_⟩) (by assumption) ?_
        rotate_left 1
        · (intro w hSw; (try dsimp only at hSw); go_simp; try with_reducible rfl)
        (try simp only [Act.put, List.setIfInBounds_toArray, List.set_cons_zero, List.set_cons_succ])
        refine wpAnyH_take (i := 1) (oi := { dst := some 61, op := Go.Op.fieldAddr 24 (Go.Operand.tmp 5) 2, type := 0, pos := "laws.go:186", after := #[], guard := none }) (v := ?_) rfl (by kernel_rfl) (by kernel_rfl) (by kernel_rfl) (fun _ _ _ h => h) (Or.inl ⟨by rfl, ?_⟩) (by assumption) ?_
        rotate_left 1
        · (intro w hSw; (try dsimp only at hSw); go_simp; try with_reducible rfl)
        (try simp only [Act.put, List.setIfInBounds_toArray, List.set_cons_zero, List.set_cons_succ])
        refine wpAnyH_take (i := 2) (oi := { dst := some 62, op := Go.Op.load 3 (Go.Operand.tmp 61), type := 3, pos := "laws.go:186", after := #[{ on := 1, ground := Go.Ground.data }], guard := none }) (v := ?_) rfl (by kernel_rfl) (by kernel_rfl) (by kernel_rfl) (fun _ _ _ h => h) (Or.inl ⟨by rfl, ?_⟩) (by assumption) ?_
        rotate_left 1
        · (intro w hSw; (try dsimp only at hSw); go_simp; try with_reducible rfl)
        (try simp only [Act.put, List.setIfInBounds_toArray, List.set_cons_zero, List.set_cons_succ])
        refine wpAnyH_take (i := 3) (oi := { dst := some 63, op := Go.Op.fieldAddr 24 (Go.Operand.tmp 6) 2, type := 0, pos := "laws.go:186", after := #[], guard := none }) (v := ?_) rfl (by kernel_rfl) (by kernel_rfl) (by kernel_rfl) (fun _ _ _ h => h) (Or.inl ⟨by rfl, ?_⟩) (by assumption) ?_
        rotate_left 1
        · (intro w hSw; (try dsimp only at hSw); go_simp; try with_reducible rfl)
        (try simp only [Act.put, List.setIfInBounds_toArray, List.set_cons_zero, List.set_cons_succ])
        refine wpAnyH_take (i := 4) (oi := { dst := some 64, op := Go.Op.load 3 (Go.Operand.tmp 63), type := 3, pos := "laws.go:186", after := #[{ on := 3, ground := Go.Ground.data }], guard := none }) (v := ?_) rfl (by kernel_rfl) (by kernel_rfl) (by kernel_rfl) (fun _ _ _ h => h) (Or.inl ⟨by rfl, ?_⟩) (by assumption) ?_
        rotate_left 1
        · (intro w hSw; (try dsimp only at hSw); go_simp; try with_reducible rfl)
        (try simp only [Act.put, List.setIfInBounds_toArray, List.set_cons_zero, List.set_cons_succ])
        refine wpAnyH_take (i := 5) (oi := { dst := some 65, op := Go.Op.binOp Go.BinOp.add 3 (Go.Operand.tmp 62) (Go.Operand.tmp 64) 3, type := 3, pos := "laws.go:186", after := #[{ on := 2, ground := Go.Ground.data }, { on := 4, ground := Go.Ground.data }], guard := none }) (v := ?_) rfl (by kernel_rfl) (by kernel_rfl) (by kernel_rfl) (fun _ _ _ h => h) (Or.inl ⟨by rfl, ?_⟩) (by assumption) ?_
        rotate_left 1
        · (intro w hSw; (try dsimp only at hSw); go_simp; try with_reducible rfl)
        (try simp only [Act.put, List.setIfInBounds_toArray, List.set_cons_zero, List.set_cons_succ])
        refine wpAnyH_take (i := 6) (oi := { dst := some 66, op := Go.Op.binOp Go.BinOp.geq 3 (Go.Operand.tmp 60) (Go.Operand.tmp 65) 3, type := 4, pos := "laws.go:186", after := #[{ on := 0, ground := Go.Ground.data }, { on := 5, ground := Go.Ground.data }], guard := none }) (v := ?_) rfl (by kernel_rfl) (by kernel_rfl) (by kernel_rfl) (fun _ _ _ h => h) (Or.inl ⟨by rfl, ?_⟩) (by assumption) ?_
        rotate_left 1
        · (intro w hSw; (try dsimp only at hSw); go_simp; try with_reducible rfl)
        (try simp only [Act.put, List.setIfInBounds_toArray, List.set_cons_zero, List.set_cons_succ])
        refine wpAnyH_take (i := 7) (oi := { dst := some 67, op := Go.Op.move (Go.Operand.tmp 66), type := 4, pos := "laws.go:186", after := #[{ on := 6, ground := Go.Ground.data }], guard := none }) (v := ?_) rfl (by kernel_rfl) (by kernel_rfl) (by kernel_rfl) (fun _ _ _ h => h) (Or.inl ⟨by rfl, ?_⟩) (by assumption) ?_
        rotate_left 1
        · (intro w hSw; (try dsimp only at hSw); go_simp; try with_reducible rfl)
        (try simp only [Act.put, List.setIfInBounds_toArray, List.set_cons_zero, List.set_cons_succ])
        refine wpAnyH_take (i := 8) (oi := { dst := some 68, op := Go.Op.load 24 (Go.Operand.tmp 7), type := 24, pos := "laws.go:186", after := #[{ on := 7, ground := Go.Ground.guard }], guard := some (7, true) }) (v := ?_) rfl (by kernel_rfl) (by kernel_rfl) (by kernel_rfl) (fun _ _ _ h => h) (Or.inl ⟨by rfl, ?_⟩) (by assumption) ?_
        rotate_left 1
        · (intro w hSw; (try dsimp only at hSw); go_simp; try with_reducible rfl)
        (try simp only [Act.put, List.setIfInBounds_toArray, List.set_cons_zero, List.set_cons_succ])
        refine wpAnyH_ready (rs := [9]) (by kernel_rfl) (by simp) ?_
        refine AllReadyH.cons (o := { dst := some 69, op := Go.Op.call { callee := Go.Callee.value (Go.Operand.func 11), args := #[Go.Operand.tmp 68], argTypes := #[24] }, type := 4, pos := "laws.go:186", after := #[{ on := 8, ground := Go.Ground.data }, { on := 7, ground := Go.Ground.chain }, { on := 7, ground := Go.Ground.guard }], guard := some (7, true) }) rfl (fun K hK => ?_) AllReadyH.nil
        go_simp
        (refine (sok_no _ _ _ _ _ kc'.out).mono ?_; rintro e w11 ⟨rfl, b11⟩)
        go_wp2_with fail
        refine hK.out _ _ ?_ (fun hHeld => ?_)
        · (try dsimp only); (refine ⟨?_, ?_, ?_, ?_, ?_, ?_, ?_, ?_, ?_, ?_, ?_, ?_⟩ <;> (repeat (first | with_reducible assumption | with_reducible refine keep_alloc _ ?_ | with_reducible refine keep_drew ?_ | with_reducible refine keep_below (by assumption) ?_)))
        clear hK K
        (try simp only [Act.put, List.setIfInBounds_toArray, List.set_cons_zero, List.set_cons_succ])
        refine wpAnyH_take (i := 10) (oi := { dst := some 70, op := Go.Op.unOp Go.UnOp.not 4 (Go.Operand.tmp 69), type := 4, pos := "laws.go:186", after := #[{ on := 9, ground := Go.Ground.data }, { on := 7, ground := Go.Ground.guard }], guard := some (7, true) }) (v := ?_) rfl (by kernel_rfl) (by kernel_rfl) (by kernel_rfl) (fun _ _ _ h => h) (Or.inl ⟨by rfl, ?_⟩) (by assumption) ?_
        rotate_left 1
        · (intro w hSw; (try dsimp only at hSw); go_simp; try with_reducible rfl)
        (try simp only [Act.put, List.setIfInBounds_toArray, List.set_cons_zero, List.set_cons_succ])
        refine wpAnyH_take (i := 11) (oi := { dst := some 71, op := Go.Op.move (Go.Operand.tmp 70), type := 4, pos := "laws.go:186", after := #[{ on := 10, ground := Go.Ground.data }, { on := 9, ground := Go.Ground.chain }, { on := 7, ground := Go.Ground.guard }], guard := some (7, true) }) (v := ?_) rfl (by kernel_rfl) (by kernel_rfl) (by kernel_rfl) (fun _ _ _ h => h) (Or.inl ⟨by rfl, ?_⟩) (by assumption) ?_
        rotate_left 1
        · (intro w hSw; (try dsimp only at hSw); go_simp; try with_reducible rfl)
        (try simp only [Act.put, List.setIfInBounds_toArray, List.set_cons_zero, List.set_cons_succ])
        refine wpAnyH_take (i := 12) (oi := { dst := some 72, op := Go.Op.move (Go.Operand.tmp 9), type := 3, pos := "laws.go:186", after := #[{ on := 11, ground := Go.Ground.guard }], guard := some (11, false) }) (v := undef) rfl (by kernel_rfl) (by kernel_rfl) (by kernel_rfl) (fun _ _ _ h => h) (Or.inr ⟨by rfl, rfl⟩) (by assumption) ?_
        (try simp only [Act.put, List.setIfInBounds_toArray, List.set_cons_zero, List.set_cons_succ])
        refine wpAnyH_take (i := 13) (oi := { dst := some 73, op := Go.Op.load 24 (Go.Operand.tmp 5), type := 24, pos := "laws.go:186", after := #[{ on := 11, ground := Go.Ground.guard }], guard := some (11, false) }) (v := undef) rfl (by kernel_rfl) (by kernel_rfl) (by kernel_rfl) (fun _ _ _ h => h) (Or.inr ⟨by rfl, rfl⟩) (by assumption) ?_
        (try simp only [Act.put, List.setIfInBounds_toArray, List.set_cons_zero, List.set_cons_succ])
        refine wpAnyH_take (i := 14) (oi := { dst := some 74, op := Go.Op.load 24 (Go.Operand.tmp 7), type := 24, pos := "laws.go:186", after := #[{ on := 11, ground := Go.Ground.guard }], guard := some (11, false) }) (v := undef) rfl (by kernel_rfl) (by kernel_rfl) (by kernel_rfl) (fun _ _ _ h => h) (Or.inr ⟨by rfl, rfl⟩) (by assumption) ?_
        (try simp only [Act.put, List.setIfInBounds_toArray, List.set_cons_zero, List.set_cons_succ])
        refine wpAnyH_take (i := 15) (oi := { dst := some 75, op := Go.Op.call { callee := Go.Callee.value (Go.Operand.func 8), args := #[Go.Operand.tmp 73, Go.Operand.tmp 74], argTypes := #[24, 24] }, type := 3, pos := "laws.go:186", after := #[{ on := 13, ground := Go.Ground.data }, { on := 14, ground := Go.Ground.data }, { on := 11, ground := Go.Ground.chain }, { on := 11, ground := Go.Ground.guard }], guard := some (11, false) }) (v := undef) rfl (by kernel_rfl) (by kernel_rfl) (by kernel_rfl) (fun _ _ _ h => h) (Or.inr ⟨by rfl, rfl⟩) (by assumption) ?_
        (try simp only [Act.put, List.setIfInBounds_toArray, List.set_cons_zero, List.set_cons_succ])
        refine wpAnyH_take (i := 16) (oi := { dst := some 76, op := Go.Op.load 24 (Go.Operand.tmp 7), type := 24, pos := "laws.go:186", after := #[{ on := 11, ground := Go.Ground.guard }], guard := some (11, false) }) (v := undef) rfl (by kernel_rfl) (by kernel_rfl) (by kernel_rfl) (fun _ _ _ h => h) (Or.inr ⟨by rfl, rfl⟩) (by assumption) ?_
        (try simp only [Act.put, List.setIfInBounds_toArray, List.set_cons_zero, List.set_cons_succ])
        refine wpAnyH_take (i := 17) (oi := { dst := some 77, op := Go.Op.load 24 (Go.Operand.tmp 6), type := 24, pos := "laws.go:186", after := #[{ on := 11, ground := Go.Ground.guard }], guard := some (11, false) }) (v := undef) rfl (by kernel_rfl) (by kernel_rfl) (by kernel_rfl) (fun _ _ _ h => h) (Or.inr ⟨by rfl, rfl⟩) (by assumption) ?_
        (try simp only [Act.put, List.setIfInBounds_toArray, List.set_cons_zero, List.set_cons_succ])
        refine wpAnyH_take (i := 18) (oi := { dst := some 78, op := Go.Op.call { callee := Go.Callee.value (Go.Operand.func 8), args := #[Go.Operand.tmp 76, Go.Operand.tmp 77], argTypes := #[24, 24] }, type := 3, pos := "laws.go:186", after := #[{ on := 16, ground := Go.Ground.data }, { on := 17, ground := Go.Ground.data }, { on := 15, ground := Go.Ground.chain }, { on := 11, ground := Go.Ground.guard }], guard := some (11, false) }) (v := undef) rfl (by kernel_rfl) (by kernel_rfl) (by kernel_rfl) (fun _ _ _ h => h) (Or.inr ⟨by rfl, rfl⟩) (by assumption) ?_
        (try simp only [Act.put, List.setIfInBounds_toArray, List.set_cons_zero, List.set_cons_succ])
        refine wpAnyH_take (i := 19) (oi := { dst := some 79, op := Go.Op.binOp Go.BinOp.add 3 (Go.Operand.tmp 75) (Go.Operand.tmp 78) 3, type := 3, pos := "laws.go:186", after := #[{ on := 15, ground := Go.Ground.data }, { on := 18, ground := Go.Ground.data }, { on := 11, ground := Go.Ground.guard }], guard := some (11, false) }) (v := undef) rfl (by kernel_rfl) (by kernel_rfl) (by kernel_rfl) (fun _ _ _ h => h) (Or.inr ⟨by rfl, rfl⟩) (by assumption) ?_
        (try simp only [Act.put, List.setIfInBounds_toArray, List.set_cons_zero, List.set_cons_succ])
        refine wpAnyH_take (i := 20) (oi := { dst := some 80, op := Go.Op.binOp Go.BinOp.add 3 (Go.Operand.tmp 79) (Go.Operand.const (Go.Value.int Go.IntKind.i64 2)) 3, type := 3, pos := "laws.go:186", after := #[{ on := 19, ground := Go.Ground.data }, { on := 11, ground := Go.Ground.guard }], guard := some (11, false) }) (v := undef) rfl (by kernel_rfl) (by kernel_rfl) (by kernel_rfl) (fun _ _ _ h => h) (Or.inr ⟨by rfl, rfl⟩) (by assumption) ?_
        (try simp only [Act.put, List.setIfInBounds_toArray, List.set_cons_zero, List.set_cons_succ])
        refine wpAnyH_take (i := 21) (oi := { dst := some 81, op := Go.Op.binOp Go.BinOp.leq 3 (Go.Operand.tmp 72) (Go.Operand.tmp 80) 3, type := 4, pos := "laws.go:186", after := #[{ on := 12, ground := Go.Ground.data }, { on := 20, ground := Go.Ground.data }, { on := 11, ground := Go.Ground.guard }], guard := some (11, false) }) (v := undef) rfl (by kernel_rfl) (by kernel_rfl) (by kernel_rfl) (fun _ _ _ h => h) (Or.inr ⟨by rfl, rfl⟩) (by assumption) ?_
        (try simp only [Act.put, List.setIfInBounds_toArray, List.set_cons_zero, List.set_cons_succ])
        refine wpAnyH_take (i := 22) (oi := { dst := some 82, op := Go.Op.pick (Go.Operand.tmp 71) (Go.Operand.const (Go.Value.bool true)) (Go.Operand.tmp 81), type := 4, pos := "laws.go:186", after := #[{ on := 11, ground := Go.Ground.data }, { on := 21, ground := Go.Ground.data }, { on := 7, ground := Go.Ground.guard }], guard := some (7, true) }) (v := ?_) rfl (by kernel_rfl) (by kernel_rfl) (by kernel_rfl) (fun _ _ _ h => h) (Or.inl ⟨by rfl, ?_⟩) (by assumption) ?_
        rotate_left 1
        · (intro w hSw; (try dsimp only at hSw); go_simp; try with_reducible rfl)
        (try simp only [Act.put, List.setIfInBounds_toArray, List.set_cons_zero, List.set_cons_succ])
        refine wpAnyH_take (i := 23) (oi := { dst := some 83, op := Go.Op.pick (Go.Operand.tmp 67) (Go.Operand.tmp 82) (Go.Operand.const (Go.Value.bool false)), type := 4, pos := "laws.go:186", after := #[{ on := 7, ground := Go.Ground.data }, { on := 22, ground := Go.Ground.data }], guard := none }) (v := ?_) rfl (by kernel_rfl) (by kernel_rfl) (by kernel_rfl) (fun _ _ _ h => h) (Or.inl ⟨by rfl, ?_⟩) (by assumption) ?_
        rotate_left 1
        · (intro w hSw; (try dsimp only at hSw); go_simp; try with_reducible rfl)
        (try simp only [Act.put, List.setIfInBounds_toArray, List.set_cons_zero, List.set_cons_succ])
        refine wpAnyH_take (i := 24) (oi := { dst := some 4, op := Go.Op.assign (Go.Operand.tmp 83), type := 4, pos := "laws.go:186", after := #[{ on := 23, ground := Go.Ground.data }, { on := 18, ground := Go.Ground.chain }, { on := 0, ground := Go.Ground.phase }, { on := 1, ground := Go.Ground.phase }, { on := 2, ground := Go.Ground.phase }, { on := 3, ground := Go.Ground.phase }, { on := 4, ground := Go.Ground.phase }, { on := 5, ground := Go.Ground.phase }, { on := 6, ground := Go.Ground.phase }, { on := 7, ground := Go.Ground.phase }, { on := 8, ground := Go.Ground.phase }, { on := 9, ground := Go.Ground.phase }, { on := 10, ground := Go.Ground.phase }, { on := 11, ground := Go.Ground.phase }, { on := 12, ground := Go.Ground.phase }, { on := 13, ground := Go.Ground.phase }, { on := 14, ground := Go.Ground.phase }, { on := 15, ground := Go.Ground.phase }, { on := 16, ground := Go.Ground.phase }, { on := 17, ground := Go.Ground.phase }, { on := 18, ground := Go.Ground.phase }, { on := 19, ground := Go.Ground.phase }, { on := 20, ground := Go.Ground.phase }, { on := 21, ground := Go.Ground.phase }, { on := 22, ground := Go.Ground.phase }, { on := 23, ground := Go.Ground.phase }], guard := none }) (v := ?_) rfl (by kernel_rfl) (by kernel_rfl) (by kernel_rfl) (fun _ _ _ h => h) (Or.inl ⟨by rfl, ?_⟩) (by assumption) ?_
        rotate_left 1
        · (intro w hSw; (try dsimp only at hSw); go_simp; try with_reducible rfl)
        (try simp only [Act.put, List.setIfInBounds_toArray, List.set_cons_zero, List.set_cons_succ])
        refine wpAnyH_done (by kernel_rfl) ?_ _
        go_wp2
        go_ret
        exact ⟨rfl, btrans (Below.drew bw8) b11⟩
    · have kb' : cok bx b_y bh be = false := by simpa using kb
      have d0 : (dst ax ay ah ae bx b_y bh be == 0) = true := by unfold dst; rw [if_neg (by simp [kb'])]; rfl
      clear kb
      go_wp2_with fail
      refine (sok_any _ _ _ _ _).mono ?_
      rintro e w9 ⟨rfl, b9⟩
      replace p0 := keep_below b9 p0
      replace p1 := keep_below b9 p1
      replace p2 := keep_below b9 p2
      replace p3 := keep_below b9 p3
      replace q0 := keep_below b9 q0
      replace q1 := keep_below b9 q1
      replace q2 := keep_below b9 q2
      replace q3 := keep_below b9 q3
      replace c0 := keep_below b9 c0
      replace c1 := keep_below b9 c1
      replace c2 := keep_below b9 c2
      replace c3 := keep_below b9 c3
      replace bw8 := btrans bw8 b9
      clear b9
      go_wp2_with fail
      refine (sok_any _ _ _ _ _).mono ?_
      rintro e w10 ⟨rfl, b10⟩
      go_wp2
      go_ret
      exact ⟨rfl, btrans bw8 b10⟩
  · have ka' : cok ax ay ah ae = false := by simpa using ka
    have d0 : (dst ax ay ah ae bx b_y bh be == 0) = true := by unfold dst; rw [if_neg (by simp [ka'])]; rfl
    clear ka
    go_wp2_with fail
    refine (sok_any _ _ _ _ _).mono ?_
    rintro e w9 ⟨rfl, b9⟩
    go_wp2
    go_ret
    exact ⟨rfl, btrans bw8 b9⟩
end Go.Proofs.Ytghdbpomkmjciaa
