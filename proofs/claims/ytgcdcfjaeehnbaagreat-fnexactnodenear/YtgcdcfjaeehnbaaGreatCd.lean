/- Plain facts on whole roots, on what is cut towards 0, and on how a moved place's way grows or shrinks. -/
import Derived.Test.YtgcdcfjaeehnbaaGreatProg
import Derived.LoopTactic
import Derived.WalkKit
import Derived.ProofKit
import Derived.WalkLawsBesides
import Derived.Below
import Derived.Deep.QuietTactic
import Derived.BigQuiet
import Derived.Deep.RegionHeld3
import Derived.Deep.DrawnRows
import Derived.Deep.DeepCutAuto
namespace Go.Proofs.YtgcdcfjaeehnbaaGreat.Cd.M

/-- a whole root, by counting up (never reckoned; used by what it satisfies alone) -/
def isqN : Nat → Nat
  | 0 => 0
  | n + 1 => if (isqN n + 1) * (isqN n + 1) ≤ n + 1 then isqN n + 1 else isqN n
def isq (n : Int) : Int := (isqN n.toNat : Nat)

theorem isqN_spec (n : Nat) : isqN n * isqN n ≤ n ∧ n < (isqN n + 1) * (isqN n + 1) := by
  induction n with
  | zero => simp [isqN]
  | succ n ih =>
    obtain ⟨h1, h2⟩ := ih
    rw [isqN]
    generalize isqN n = r at *
    split
    · rename_i h
      refine ⟨h, ?_⟩
      have e : (r + 1 + 1) * (r + 1 + 1) = (r + 1) * (r + 1) + (2 * r + 3) := by
        simp only [Nat.add_mul, Nat.mul_add]; omega
      omega
    · omega

theorem isq_nonneg (n : Int) : 0 ≤ isq n := by unfold isq; omega
theorem isq_le (n : Int) (h : 0 ≤ n) : isq n * isq n ≤ n := by
  unfold isq
  have := (isqN_spec n.toNat).1
  have e : ((isqN n.toNat * isqN n.toNat : Nat) : Int) ≤ (n.toNat : Int) := by exact_mod_cast this
  rw [Int.natCast_mul] at e
  omega
theorem lt_isq (n : Int) : n < (isq n + 1) * (isq n + 1) := by
  unfold isq
  have := (isqN_spec n.toNat).2
  have e : ((n.toNat : Nat) : Int) < (((isqN n.toNat + 1) * (isqN n.toNat + 1) : Nat) : Int) := by exact_mod_cast this
  rw [Int.natCast_mul] at e
  simp only [Int.natCast_add, Int.natCast_one] at e
  omega

/-- squares grow -/
theorem sq_lt {a b : Int} (ha : 0 ≤ a) (h : a < b) : a * a < b * b := by
  have h1 : a * a ≤ a * b := Int.mul_le_mul_of_nonneg_left (by omega) ha
  have h2 : a * b < b * b := Int.mul_lt_mul_of_pos_right h (by omega)
  omega
theorem sq_le {a b : Int} (ha : 0 ≤ a) (h : a ≤ b) : a * a ≤ b * b := by
  have h1 : a * a ≤ a * b := Int.mul_le_mul_of_nonneg_left h ha
  have h2 : a * b ≤ b * b := Int.mul_le_mul_of_nonneg_right h (by omega)
  omega
theorem lt_of_sq {a b : Int} (hb : 0 ≤ b) (h : a * a < b * b) : a < b := by
  by_cases hc : a < b
  · exact hc
  · have := sq_le hb (by omega : b ≤ a); omega
theorem le_of_sq {a b : Int} (hb : 0 ≤ b) (h : a * a ≤ b * b) : a ≤ b := by
  by_cases hc : a ≤ b
  · exact hc
  · have := sq_lt hb (by omega : b < a); omega
theorem isq_eq {n r : Int} (hr : 0 ≤ r) (h1 : r * r ≤ n) (h2 : n < (r + 1) * (r + 1)) : isq n = r := by
  have a1 := isq_le n (by have := Int.mul_nonneg hr hr; omega)
  have a2 := lt_isq n
  have a0 := isq_nonneg n
  have b1 : isq n < r + 1 := lt_of_sq (by omega) (by omega)
  have b2 : r < isq n + 1 := lt_of_sq (by omega) (by omega)
  omega
theorem isq_neg {n : Int} (h : n < 0) : isq n = 0 := by
  unfold isq
  have : n.toNat = 0 := by omega
  rw [this]; rfl
theorem isq_zero : isq 0 = 0 := isq_eq (by omega) (by omega) (by omega)
/-- below a bound whose next square is above -/
theorem isq_bd {n b : Int} (hb : 0 ≤ b) (h : n < (b + 1) * (b + 1)) : isq n ≤ b := by
  by_cases hn : n < 0
  · rw [isq_neg hn]; exact hb
  · have a1 := isq_le n (by omega)
    have : isq n < b + 1 := lt_of_sq (by omega) (by omega)
    omega
theorem le_isq {n b : Int} (h : b * b ≤ n) (_hb : 0 ≤ b) : b ≤ isq n := by
  have a2 := lt_isq n
  have a0 := isq_nonneg n
  have : b < isq n + 1 := lt_of_sq (by omega) (by omega)
  omega
theorem isq_mono {a b : Int} (h : a ≤ b) : isq a ≤ isq b := by
  refine isq_bd (isq_nonneg b) ?_
  have := lt_isq b
  omega
theorem sq_nonneg (a : Int) : 0 ≤ a * a := by
  by_cases h : 0 ≤ a
  · exact Int.mul_nonneg h h
  · have := Int.mul_nonneg (a := -a) (b := -a) (by omega) (by omega)
    rw [Int.neg_mul_neg] at this; exact this

/-- brought in -/
def cl (n : Int) : Int := if n < -1000000000 then -1000000000 else if 1000000000 < n then 1000000000 else n
theorem cl_bd (n : Int) : -1000000000 ≤ cl n ∧ cl n ≤ 1000000000 := by unfold cl; split <;> (try split) <;> omega
theorem cl_id {n : Int} (h1 : -1000000000 ≤ n) (h2 : n ≤ 1000000000) : cl n = n := by unfold cl; split <;> (try split) <;> omega
theorem cl_neg (n : Int) : cl (-n) = - cl n := by unfold cl; split <;> split <;> (try split) <;> (try split) <;> omega
theorem cl_cl (n : Int) : cl (cl n) = cl n := cl_id (cl_bd n).1 (cl_bd n).2
theorem cl_mono {a b : Int} (h : a ≤ b) : cl a ≤ cl b := by unfold cl; split <;> split <;> (try split) <;> (try split) <;> omega
theorem sqadd (a b : Int) : (a + b) * (a + b) = a * a + a * b + (a * b + b * b) := by
  rw [Int.add_mul, Int.mul_add, Int.mul_add, Int.mul_comm b a]
theorem m4 (a b c d : Int) : a * b * (c * d) = a * c * (b * d) := by
  rw [Int.mul_assoc, Int.mul_assoc, ← Int.mul_assoc b c d, ← Int.mul_assoc c b d, Int.mul_comm b c]
theorem cauchy (x y u v : Int) : (x * u + y * v) * (x * u + y * v) ≤ (x * x + y * y) * (u * u + v * v) := by
  have e1 : (x * x + y * y) * (u * u + v * v) = (x * u) * (x * u) + (x * v) * (x * v) + ((y * u) * (y * u) + (y * v) * (y * v)) := by
    rw [Int.add_mul, Int.mul_add, Int.mul_add, m4 x x u u, m4 x x v v, m4 y y u u, m4 y y v v]
  have e2 : (x * u) * (y * v) = (x * v) * (y * u) := by
    rw [m4 x u y v, m4 x v y u, Int.mul_comm v u]
  have e3 : (x * u + y * v) * (x * u + y * v) = (x * u) * (x * u) + (x * u) * (y * v) + ((x * u) * (y * v) + (y * v) * (y * v)) := by
    rw [Int.add_mul, Int.mul_add, Int.mul_add, Int.mul_comm (y * v) (x * u)]
  have e4 : (x * v - y * u) * (x * v - y * u) = (x * v) * (x * v) - (x * v) * (y * u) - ((x * v) * (y * u) - (y * u) * (y * u)) := by
    rw [Int.sub_mul, Int.mul_sub, Int.mul_sub, Int.mul_comm (y * u) (x * v)]
  have h := sq_nonneg (x * v - y * u)
  rw [e1, e3]
  rw [e4] at h
  omega
theorem mul_lt_mul' {a b c d : Int} (ha : 0 ≤ a) (hc : 0 ≤ c) (h1 : a < b) (h2 : c < d) : a * c < b * d := by
  have i1 : a * c ≤ a * d := Int.mul_le_mul_of_nonneg_left (by omega) ha
  have i2 : a * d < b * d := Int.mul_lt_mul_of_pos_right h1 (by omega)
  omega
theorem tri (x y u v : Int) : isq ((x + u) * (x + u) + (y + v) * (y + v)) ≤ isq (x * x + y * y) + isq (u * u + v * v) + 1 := by
  have p0 := isq_nonneg (x * x + y * y)
  have q0 := isq_nonneg (u * u + v * v)
  have p1 := lt_isq (x * x + y * y)
  have q1 := lt_isq (u * u + v * v)
  have hx := sq_nonneg x
  have hy := sq_nonneg y
  have hu := sq_nonneg u
  have hv := sq_nonneg v
  have c := cauchy x y u v
  generalize isq (x * x + y * y) = p at *
  generalize isq (u * u + v * v) = q at *
  have m := mul_lt_mul' (by omega) (by omega) p1 q1
  have d : x * u + y * v < (p + 1) * (q + 1) := lt_of_sq (Int.mul_nonneg (by omega) (by omega)) (by rw [m4 (p + 1) (q + 1) (p + 1) (q + 1)]; omega)
  refine isq_bd (by omega) ?_
  have e1 : (x + u) * (x + u) = x * x + x * u + (x * u + u * u) := by rw [Int.add_mul, Int.mul_add, Int.mul_add, Int.mul_comm u x]
  have e2 : (y + v) * (y + v) = y * y + y * v + (y * v + v * v) := by rw [Int.add_mul, Int.mul_add, Int.mul_add, Int.mul_comm v y]
  have e3 : (p + q + 1 + 1) * (p + q + 1 + 1) = (p + 1) * (p + 1) + (p + 1) * (q + 1) + ((p + 1) * (q + 1) + (q + 1) * (q + 1)) := by
    rw [show p + q + 1 + 1 = (p + 1) + (q + 1) from by omega, sqadd]
  rw [e1, e2, e3]
  omega
theorem isq_le_abs {u v f : Int} (h1 : -f ≤ u) (h2 : u ≤ f) (h3 : -f ≤ v) (h4 : v ≤ f) : isq (u * u + v * v) ≤ 2 * f := by
  refine isq_bd (by omega) ?_
  have a : u * u ≤ f * f := by
    by_cases h : 0 ≤ u
    · exact sq_le h h2
    · have := sq_le (a := -u) (b := f) (by omega) (by omega); rw [Int.neg_mul_neg] at this; exact this
  have b : v * v ≤ f * f := by
    by_cases h : 0 ≤ v
    · exact sq_le h h4
    · have := sq_le (a := -v) (b := f) (by omega) (by omega); rw [Int.neg_mul_neg] at this; exact this
  have e : (2 * f + 1) * (2 * f + 1) = 4 * (f * f) + 4 * f + 1 := by
    rw [Int.add_mul, Int.mul_add, m4]; omega
  have := sq_nonneg f
  omega
/-- within F of the old place, the way's length turns by at most 2 F and 1 -/
theorem norm_near {x y x' y' F : Int} (h1 : -F ≤ x' - x) (h2 : x' - x ≤ F) (h3 : -F ≤ y' - y) (h4 : y' - y ≤ F) :
    isq (x' * x' + y' * y') ≤ isq (x * x + y * y) + 2 * F + 1 ∧ isq (x * x + y * y) ≤ isq (x' * x' + y' * y') + 2 * F + 1 := by
  constructor
  · have t := tri x y (x' - x) (y' - y)
    rw [show x + (x' - x) = x' from by omega, show y + (y' - y) = y' from by omega] at t
    have := isq_le_abs h1 h2 h3 h4
    omega
  · have t := tri x' y' (x - x') (y - y')
    rw [show x' + (x - x') = x from by omega, show y' + (y - y') = y from by omega] at t
    have := isq_le_abs (u := x - x') (v := y - y') (f := F) (by omega) (by omega) (by omega) (by omega)
    omega
theorem tdiv_nn {a b : Int} (ha : 0 ≤ a) (_hb : 0 < b) : a.tdiv b = a / b := Int.tdiv_eq_ediv_of_nonneg ha
theorem tdiv_np {a b : Int} (ha : a ≤ 0) (_hb : 0 < b) : a.tdiv b = -((-a) / b) := by
  have h : (-(-a)).tdiv b = -((-a).tdiv b) := Int.neg_tdiv (a := -a) (b := b)
  rw [Int.neg_neg] at h
  rw [h, Int.tdiv_eq_ediv_of_nonneg (by omega)]
/-- cut towards 0: between -c and c -/
theorem tdiv_le {a b c : Int} (hb : 0 < b) (hc : 0 ≤ c) (h : a ≤ c * b) : a.tdiv b ≤ c := by
  by_cases ha : 0 ≤ a
  · rw [tdiv_nn ha hb]; exact Int.ediv_le_of_le_mul hb h
  · rw [tdiv_np (by omega) hb]
    have := Int.ediv_nonneg (a := -a) (b := b) (by omega) (by omega)
    omega
theorem le_tdiv {a b c : Int} (hb : 0 < b) (hc : 0 ≤ c) (h : -(c * b) ≤ a) : -c ≤ a.tdiv b := by
  by_cases ha : 0 ≤ a
  · rw [tdiv_nn ha hb]
    have := Int.ediv_nonneg (a := a) (b := b) (by omega) (by omega)
    omega
  · rw [tdiv_np (by omega) hb]
    have := Int.ediv_le_of_le_mul (a := -a) (b := c) hb (by omega)
    omega
theorem tdiv_pos {a b : Int} (hb : 0 < b) (ha : 0 ≤ a) : 0 ≤ a.tdiv b := by
  rw [tdiv_nn ha hb]; exact Int.ediv_nonneg ha (by omega)
theorem tdiv_neg {a b : Int} (hb : 0 < b) (ha : a ≤ 0) : a.tdiv b ≤ 0 := by
  rw [tdiv_np ha hb]
  have := Int.ediv_nonneg (a := -a) (b := b) (by omega) (by omega)
  omega

def box (n lo hi : Int) : Int := if n < lo then lo else if hi < n then hi else n
theorem box_bd {n lo hi : Int} (h : lo ≤ hi) : lo ≤ box n lo hi ∧ box n lo hi ≤ hi := by unfold box; split <;> (try split) <;> omega

/-- the force: between the quarters of what is wrong -/
def fo (wrong e s : Int) : Int := ((wrong * e).tdiv s).tdiv 4
theorem fo_pos {wrong e s : Int} (h : 0 ≤ wrong) (he : 0 ≤ e) (hs : e < s) : 0 ≤ fo wrong e s ∧ 4 * fo wrong e s ≤ wrong := by
  unfold fo
  have m := Int.mul_nonneg h he
  have a := tdiv_pos (a := wrong * e) (b := s) (by omega) m
  have b := tdiv_le (a := wrong * e) (b := s) (c := wrong) (by omega) h (Int.mul_le_mul_of_nonneg_left (by omega) h)
  generalize (wrong * e).tdiv s = t at *
  rw [tdiv_nn a (by omega)]
  omega
theorem fo_neg {wrong e s : Int} (h : wrong ≤ 0) (he : 0 ≤ e) (hs : e < s) : fo wrong e s ≤ 0 ∧ wrong ≤ 4 * fo wrong e s := by
  unfold fo
  have m := Int.mul_nonneg (a := -wrong) (by omega) he
  have m2 : wrong * e = -(-wrong * e) := by rw [Int.neg_mul, Int.neg_neg]
  have a := tdiv_neg (a := wrong * e) (b := s) (by omega) (by omega)
  have k : -wrong * e ≤ -wrong * s := Int.mul_le_mul_of_nonneg_left (by omega) (by omega)
  have b := le_tdiv (a := wrong * e) (b := s) (c := -wrong) (by omega) (by omega) (by omega)
  generalize (wrong * e).tdiv s = t at *
  rw [tdiv_np a (by omega)]
  omega

/-- one side of a way: how far it is moved by a force -/
theorem step_abs {f x n : Int} (hn : 0 < n) (h1 : -n ≤ x) (h2 : x ≤ n) : (0 ≤ f → -f ≤ (f * x).tdiv n ∧ (f * x).tdiv n ≤ f) ∧ (f ≤ 0 → f ≤ (f * x).tdiv n ∧ (f * x).tdiv n ≤ -f) := by
  constructor
  · intro hf
    have a : f * x ≤ f * n := Int.mul_le_mul_of_nonneg_left h2 hf
    have b : f * (-n) ≤ f * x := Int.mul_le_mul_of_nonneg_left h1 hf
    rw [Int.mul_neg] at b
    exact ⟨le_tdiv hn hf b, tdiv_le hn hf a⟩
  · intro hf
    have a : -f * x ≤ -f * n := Int.mul_le_mul_of_nonneg_left h2 (by omega)
    have b : -f * (-n) ≤ -f * x := Int.mul_le_mul_of_nonneg_left h1 (by omega)
    rw [Int.neg_mul_neg] at b
    have e : -f * x = -(f * x) := Int.neg_mul _ _
    have e2 : -f * n = -(f * n) := Int.neg_mul _ _
    refine ⟨?_, tdiv_le hn (by omega) (by rw [e2]; omega)⟩
    have := le_tdiv (a := f * x) (c := -f) hn (by omega) (by rw [e2]; omega)
    omega
/-- away: each side grows -/
theorem step_away {f x n : Int} (hn : 0 < n) (hf : 0 ≤ f) : (0 ≤ x → 0 ≤ (f * x).tdiv n) ∧ (x ≤ 0 → (f * x).tdiv n ≤ 0) := by
  constructor
  · intro h; exact tdiv_pos hn (Int.mul_nonneg hf h)
  · intro h
    have := Int.mul_nonneg hf (b := -x) (by omega)
    rw [Int.mul_neg] at this
    exact tdiv_neg hn (by omega)
/-- nearer, but not beyond -/
theorem step_near {f x n : Int} (hn : 0 < n) (hf : f ≤ 0) (hfn : -n ≤ f) : (0 ≤ x → -x ≤ (f * x).tdiv n ∧ (f * x).tdiv n ≤ 0) ∧ (x ≤ 0 → 0 ≤ (f * x).tdiv n ∧ (f * x).tdiv n ≤ -x) := by
  constructor
  · intro h
    have a := Int.mul_nonneg (a := -f) (by omega) h
    rw [Int.neg_mul] at a
    have b : -f * x ≤ n * x := Int.mul_le_mul_of_nonneg_right (by omega) h
    rw [Int.neg_mul, Int.mul_comm n x] at b
    exact ⟨le_tdiv hn h (by omega), tdiv_neg hn (by omega)⟩
  · intro h
    have a := Int.mul_nonneg (a := -f) (b := -x) (by omega) (by omega)
    rw [Int.neg_mul_neg] at a
    have b : -f * -x ≤ n * -x := Int.mul_le_mul_of_nonneg_right (by omega) (by omega)
    rw [Int.neg_mul_neg, Int.mul_comm n (-x)] at b
    exact ⟨tdiv_pos hn a, tdiv_le hn (by omega) b⟩

theorem sq_abs_le {a b : Int} (h : (0 ≤ b → 0 ≤ a ∧ a ≤ b) ∧ (b ≤ 0 → b ≤ a ∧ a ≤ 0)) : a * a ≤ b * b := by
  by_cases hb : 0 ≤ b
  · exact sq_le (h.1 hb).1 (h.1 hb).2
  · have := sq_le (a := -a) (b := -b) (by have := (h.2 (by omega)).2; omega) (by have := (h.2 (by omega)).1; omega)
    rw [Int.neg_mul_neg, Int.neg_mul_neg] at this; exact this
theorem near {x y x' y' aH H' bH F wrong trip : Int} (hw : wrong = trip - (isq (x * x + y * y) + aH + bH)) (_hF : 0 ≤ F)
    (hF1 : 0 ≤ wrong → 4 * F ≤ wrong) (hF2 : wrong ≤ 0 → 4 * F ≤ -wrong)
    (h1 : -F ≤ x' - x) (h2 : x' - x ≤ F) (h3 : -F ≤ y' - y) (h4 : y' - y ≤ F) (h5 : -F ≤ H' - aH) (h6 : H' - aH ≤ F)
    (up : 0 ≤ wrong → x * x ≤ x' * x' ∧ y * y ≤ y' * y' ∧ aH ≤ H') (down : wrong ≤ 0 → x' * x' ≤ x * x ∧ y' * y' ≤ y * y ∧ H' ≤ aH) :
    (0 ≤ wrong → trip - (isq (x' * x' + y' * y') + H' + bH) ≤ wrong + 2 ∧ -(trip - (isq (x' * x' + y' * y') + H' + bH)) ≤ wrong + 2) ∧
    (wrong ≤ 0 → trip - (isq (x' * x' + y' * y') + H' + bH) ≤ -wrong + 2 ∧ -(trip - (isq (x' * x' + y' * y') + H' + bH)) ≤ -wrong + 2) := by
  obtain ⟨n1, n2⟩ := norm_near h1 h2 h3 h4
  constructor
  · intro h
    obtain ⟨a, b, c⟩ := up h
    have m := isq_mono (a := x * x + y * y) (b := x' * x' + y' * y') (by omega)
    have := hF1 h
    omega
  · intro h
    obtain ⟨a, b, c⟩ := down h
    have m := isq_mono (a := x' * x' + y' * y') (b := x * x + y * y) (by omega)
    have := hF2 h
    omega
theorem mul_bd {a b A B : Int} (ha1 : -A ≤ a) (ha2 : a ≤ A) (hb1 : -B ≤ b) (hb2 : b ≤ B) : -(A * B) ≤ a * b ∧ a * b ≤ A * B := by
  have key : ∀ x y : Int, -A ≤ x → x ≤ A → -B ≤ y → y ≤ B → x * y ≤ A * B := by
    intro x y h1 h2 h3 h4
    by_cases hx : 0 ≤ x
    · have e1 : x * y ≤ x * B := Int.mul_le_mul_of_nonneg_left h4 hx
      have e2 : x * B ≤ A * B := Int.mul_le_mul_of_nonneg_right h2 (by omega)
      omega
    · have e1 : -x * -y ≤ -x * B := Int.mul_le_mul_of_nonneg_left (by omega) (by omega)
      have e2 : -x * B ≤ A * B := Int.mul_le_mul_of_nonneg_right (by omega) (by omega)
      rw [Int.neg_mul_neg] at e1
      omega
  have k1 := key a b ha1 ha2 hb1 hb2
  have k2 := key (-a) b (by omega) (by omega) hb1 hb2
  rw [Int.neg_mul] at k2
  omega
theorem cl_mul_bd (a b : Int) : -1000000000000000000 ≤ cl a * cl b ∧ cl a * cl b ≤ 1000000000000000000 := by
  have h := mul_bd (A := 1000000000) (B := 1000000000) (cl_bd a).1 (cl_bd a).2 (cl_bd b).1 (cl_bd b).2
  omega
/-- a quotient, brought in; by 0 as far as can be -/
def far (p : Int) : Int := if 0 < p then 1000000000 else if p < 0 then -1000000000 else 0
theorem far_cl (p : Int) : cl (far p) = far p := by unfold far cl; omega
def dv (p q : Int) : Int := if q = 0 then far p else cl ((p * 1000).tdiv q)
theorem dv_zero (p : Int) : dv p 0 = far p := by simp [dv]
theorem dv_ne {p q : Int} (h : ¬ q = 0) : dv p q = cl ((p * 1000).tdiv q) := by simp [dv, h]
theorem tdiv_abs {a b A : Int} (h0 : 0 ≤ A) (h1 : -A ≤ a) (h2 : a ≤ A) : -A ≤ a.tdiv b ∧ a.tdiv b ≤ A := by
  by_cases hb : 0 < b
  · have m : A * 1 ≤ A * b := Int.mul_le_mul_of_nonneg_left (by omega) h0
    exact ⟨le_tdiv hb h0 (by omega), tdiv_le hb h0 (by omega)⟩
  · by_cases hz : b = 0
    · subst hz; rw [Int.tdiv_zero]; omega
    · have e : a.tdiv b = -(a.tdiv (-b)) := by rw [Int.tdiv_neg, Int.neg_neg]
      have m : A * 1 ≤ A * (-b) := Int.mul_le_mul_of_nonneg_left (by omega) h0
      have k1 := le_tdiv (a := a) (b := -b) (c := A) (by omega) h0 (by omega)
      have k2 := tdiv_le (a := a) (b := -b) (c := A) (by omega) h0 (by omega)
      omega
theorem cl_isq_min (n : Int) : cl (min (isq n) 1000000000) = cl (isq n) := by
  have := isq_nonneg n
  unfold cl; omega
/-- how far from 0 -/
def ab (n : Int) : Int := if n < 0 then -n else n
theorem ab_nonneg (n : Int) : 0 ≤ ab n := by unfold ab; split <;> omega
theorem ab_sq (n : Int) : ab n * ab n = n * n := by unfold ab; split; exact Int.neg_mul_neg _ _; rfl
theorem ab_neg (n : Int) : ab (-n) = ab n := by unfold ab; split <;> split <;> omega
theorem norm_ge (a b : Int) (ha : ab a ≤ 1000000000) : ab a ≤ cl (isq (a * a + b * b)) := by
  have h := le_isq (n := a * a + b * b) (b := ab a) (by rw [ab_sq]; have := sq_nonneg b; omega) (ab_nonneg a)
  unfold cl; omega
theorem norm_le (a b : Int) : cl (isq (a * a + b * b)) ≤ ab a + ab b := by
  have h0 := isq_nonneg (a * a + b * b)
  have p := ab_nonneg a
  have q := ab_nonneg b
  have h := isq_bd (n := a * a + b * b) (b := ab a + ab b) (by omega) (by
    have e := sqadd (ab a) (ab b)
    have m := Int.mul_nonneg p q
    have e2 := sqadd (ab a + ab b) 1
    rw [ab_sq, ab_sq] at e
    omega)
  unfold cl; omega
theorem dv_rest {p q : Int} (hq : ¬ q = 0) (hx : ¬ ab (dv p q) = 1000000000) : ab (p * 1000 - dv p q * q) < ab q := by
  rw [dv_ne hq] at *
  have e : cl ((p * 1000).tdiv q) = (p * 1000).tdiv q := by
    unfold cl ab at *
    omega
  rw [e]
  have hm : p * 1000 - (p * 1000).tdiv q * q = (p * 1000).tmod q := by
    have := Int.tmod_add_tdiv_mul (p * 1000) q
    omega
  rw [hm]
  by_cases hp : 0 < q
  · have a1 := Int.tmod_lt_of_pos (p * 1000) hp
    have a2 := Int.tmod_lt_of_pos (-(p * 1000)) hp
    rw [Int.neg_tmod] at a2
    unfold ab; omega
  · have a1 := Int.tmod_lt_of_pos (p * 1000) (b := -q) (by omega)
    have a2 := Int.tmod_lt_of_pos (-(p * 1000)) (b := -q) (by omega)
    rw [Int.neg_tmod] at a2
    rw [Int.tmod_neg] at a1 a2
    unfold ab; omega
end Go.Proofs.YtgcdcfjaeehnbaaGreat.Cd.M
/- Numbers that are brought in: the program's and the model's way come to one plain function. -/
namespace Go.Proofs.YtgcdcfjaeehnbaaGreat.Cd
open Go.ChangeShapes Go.WideShapes Go.ChangeAt Go.RowKit
theorem ret_int {k : IntKind} {a b : Int} (h : a = b) : Ending.returned (.int k a) = .returned (.int k b) := by rw [h]
theorem ret_bool {a b : Bool} (h : a = b) : Ending.returned (.bool a) = .returned (.bool b) := by rw [h]

/-! ### what is brought in, sums, products, quotients: the program's and the model's -/
theorem clamp_any (n : Int) (w : World) :
    Calls Tryz.prog 289 #[.int .i64 n] w fun e w' => e = .returned (.int .i64 (M.cl n)) ∧ w' = w := by
  go_enter Tryz.func289, Tryz.ntmps289
  go_wp2
  all_goals (go_ret; exact ⟨ret_int (by unfold M.cl; omega), rfl⟩)
theorem box_any (n lo hi : Int) (w : World) :
    Calls Tryz.prog 244 #[.int .i64 n, .int .i64 lo, .int .i64 hi] w fun e w' => e = .returned (.int .i64 (M.box n lo hi)) ∧ w' = w := by
  go_enter Tryz.func244, Tryz.ntmps244
  go_wp2
  all_goals (go_ret; exact ⟨ret_int (by unfold M.box; omega), rfl⟩)
theorem sclamp_any (n : Int) (w : World) :
    Calls Tryz.prog 205 #[.int .i64 n] w fun e w' => e = .returned (.int .i64 (M.cl n)) ∧ w' = w := by
  go_enter Tryz.func205, Tryz.ntmps205
  go_wp2_with (go_at_call 244; refine (box_any _ _ _ _).mono ?_; rintro e w' ⟨rfl, rfl⟩)
  go_ret
  exact ⟨rfl, rfl⟩
end Go.Proofs.YtgcdcfjaeehnbaaGreat.Cd
/- Roots and the length of a way: the program's and the model's come to the same whole root. -/
namespace Go.Proofs.YtgcdcfjaeehnbaaGreat.Cd
open Go.ChangeShapes Go.WideShapes Go.ChangeAt Go.RowKit
theorem fits_any (r f : Int) (ad : Addr) (w : World) (hc : w.cell? ad = some (.int .i64 f)) (h0 : 0 ≤ r) (h1 : r ≤ 1000000000) :
    Calls Tryz.prog 293 #[.int .i64 r, .pointer (some ad)] w fun e w' => e = .returned (.bool (decide (r * r ≤ f))) ∧ w' = w := by
  have hb : 0 ≤ r * r ∧ r * r ≤ 1000000000000000000 := ⟨M.sq_nonneg r, by have := M.sq_le h0 h1; omega⟩
  go_enter Tryz.func293, Tryz.ntmps293
  go_wp2
  go_ret
  exact ⟨rfl, rfl⟩
theorem root_end {f l m B : Int} (h0 : 0 ≤ l) (h2 : l = 0 ∨ l * l ≤ f) (h3 : m = B ∨ f < (m + 1) * (m + 1)) (h : m ≤ l) (hlm : l ≤ m) (hB : m ≤ B) : l = min (M.isq f) B := by
  have e : l = m := by omega
  subst e
  rcases h3 with h3 | h3
  · rcases h2 with h2 | h2
    · have := M.isq_nonneg f; omega
    · have := M.le_isq h2 h0; omega
  · rcases h2 with h2 | h2
    · subst h2
      have := M.isq_bd (b := 0) (by omega) h3
      have := M.isq_nonneg f
      omega
    · have := M.isq_eq h0 h2 h3; omega
theorem up_rel {f l m B mid : Int} (h0 : 0 ≤ l) (hm : m ≤ B) (h4 : m = B ∨ f < (m + 1) * (m + 1)) (hm1 : l < mid) (hm2 : mid ≤ m) (hf : mid * mid ≤ f) :
    0 ≤ mid ∧ mid ≤ m ∧ m ≤ B ∧ (mid = 0 ∨ mid * mid ≤ f) ∧ (m = B ∨ f < (m + 1) * (m + 1)) :=
  ⟨by omega, by omega, hm, .inr hf, h4⟩
theorem down_rel {f l m B mid : Int} (h0 : 0 ≤ l) (hm : m ≤ B) (h3 : l = 0 ∨ l * l ≤ f) (hm1 : l < mid) (hm2 : mid ≤ m) (hf : f < mid * mid) :
    0 ≤ l ∧ l ≤ mid - 1 ∧ mid - 1 ≤ B ∧ (l = 0 ∨ l * l ≤ f) ∧ (mid - 1 = B ∨ f < (mid - 1 + 1) * (mid - 1 + 1)) :=
  ⟨h0, by omega, by omega, h3, .inr (by rw [show mid - 1 + 1 = mid from by omega]; exact hf)⟩
theorem greatest_any (f : Int) (ad : Addr) (w : World) (hc : w.cell? ad = some (.int .i64 f)) :
    Calls Tryz.prog 292 #[.func (.func 293) #[] #[.pointer (some ad)]] w fun e w' => e = .returned (.int .i64 (min (M.isq f) 1000000000)) ∧ w' = w := by
  go_enter Tryz.func292, Tryz.ntmps292
  go_wp2
  go_loop [3, 4] (fun a b => ∃ l m : Int, a = .int .i64 l ∧ b = .int .i64 m ∧ 0 ≤ l ∧ l ≤ m ∧ m ≤ 1000000000 ∧ (l = 0 ∨ l * l ≤ f) ∧ (m = 1000000000 ∨ f < (m + 1) * (m + 1))) (fun a b => (intOf b - intOf a).toNat)
  case atStart => exact ⟨0, 1000000000, rfl, rfl, by omega, by omega, by omega, .inl rfl, .inl rfl⟩
  case round =>
    obtain ⟨l, m, rfl, rfl, h0, h1, h2, h3, h4⟩ := hrel
    have H3 : Hid (l = 0 ∨ l * l ≤ f) := h3
    have H4 : Hid (m = 1000000000 ∨ f < (m + 1) * (m + 1)) := h4
    clear h3 h4
    by_cases hlt : l < m
    · go_wp2_with (go_at_call 293; refine (fits_any _ _ _ _ hc (by omega) (by omega)).mono ?_; rintro e w' ⟨rfl, rfl⟩)
      · go_round
        case rel => exact ⟨_, _, rfl, rfl, up_rel h0 h2 H4.out (by omega) (by omega) (by assumption)⟩
        case measure => simp [intOf]; omega
      · go_round
        case rel => exact ⟨_, _, rfl, rfl, down_rel h0 h2 H3.out (by omega) (by omega) (by assumption)⟩
        case measure => simp [intOf]; omega
    · go_wp2
      go_ret
      exact ⟨ret_int (root_end h0 H3.out H4.out hlt h1 h2), rfl⟩
theorem whole_any (f : Int) (w : World) :
    Calls Tryz.prog 290 #[.int .i64 f] w fun e w' => e = .returned (.int .i64 (min (M.isq f) 1000000000)) ∧ w' = w.alloc (.cells #[.int .i64 f] 267) := by
  have hmf : ∀ (fn : Fn) (first cap : Array Value) (w : World), (Instr.makeFunc fn first cap).run Tryz.prog w = .ok (.func fn first cap) w := fun _ _ _ _ => rfl
  go_enter Tryz.func290, Tryz.ntmps290
  go_wp2_with fail
  refine (greatest_any f _ _ ?_).mono ?_
  · simp
  rintro e w' ⟨rfl, rfl⟩
  go_wp2
  go_ret
  exact ⟨rfl, rfl⟩
theorem sroot_any (n : Int) (w : World) (h0 : 0 ≤ n) (h9 : n ≤ 2000000000000000000) :
    Calls Tryz.prog 206 #[.int .i64 n] w fun e w' => e = .returned (.int .i64 (M.isq n)) ∧ w' = w := by
  have hfin : Hid (min (M.isq n) 1500000000 = M.isq n) := by
    have := M.isq_bd (n := n) (b := 1500000000) (by omega) (by omega)
    show min (M.isq n) 1500000000 = M.isq n
    omega
  go_enter Tryz.func206, Tryz.ntmps206
  go_wp2
  go_loop [3, 4] (fun a b => ∃ l m : Int, a = .int .i64 l ∧ b = .int .i64 m ∧ 0 ≤ l ∧ l ≤ m ∧ m ≤ 1500000000 ∧ (l = 0 ∨ l * l ≤ n) ∧ (m = 1500000000 ∨ n < (m + 1) * (m + 1))) (fun a b => (intOf b - intOf a).toNat)
  case atStart => exact ⟨0, 1500000000, rfl, rfl, by omega, by omega, by omega, .inl rfl, .inl rfl⟩
  case round =>
    obtain ⟨l, m, rfl, rfl, h0', h1, h2, h3, h4⟩ := hrel
    have H3 : Hid (l = 0 ∨ l * l ≤ n) := h3
    have H4 : Hid (m = 1500000000 ∨ n < (m + 1) * (m + 1)) := h4
    clear h3 h4
    by_cases hlt : l < m
    · have hm1 : 1 ≤ (l + m + 1) / 2 := by omega
      go_wp2
      · go_round
        case rel => exact ⟨_, _, rfl, rfl, up_rel h0' h2 H4.out (by omega) (by omega) ((Int.le_ediv_iff_mul_le (by omega)).1 (by assumption))⟩
        case measure => simp [intOf]; omega
      · go_round
        case rel => exact ⟨_, _, rfl, rfl, down_rel h0' h2 H3.out (by omega) (by omega) ((Int.ediv_lt_iff_lt_mul (by omega)).1 (by assumption))⟩
        case measure => simp [intOf]; omega
    · go_wp2
      go_ret
      exact ⟨ret_int ((root_end h0' H3.out H4.out hlt h1 h2).trans hfin.out), rfl⟩
theorem nm_bd (a b : Int) : 0 ≤ M.cl a * M.cl a + M.cl b * M.cl b ∧ M.cl a * M.cl a + M.cl b * M.cl b ≤ 2000000000000000000 := by
  have h1 := M.cl_mul_bd a a
  have h2 := M.cl_mul_bd b b
  have h3 := M.sq_nonneg (M.cl a)
  have h4 := M.sq_nonneg (M.cl b)
  omega
theorem snm_any (a b : Int) (w : World) :
    Calls Tryz.prog 133 #[.int .i64 a, .int .i64 b] w fun e w' => e = .returned (.int .i64 (M.cl (M.isq (M.cl a * M.cl a + M.cl b * M.cl b)))) ∧ w' = w := by
  have h1 := M.cl_mul_bd a a
  have h2 := M.cl_mul_bd b b
  have h3 := nm_bd a b
  go_enter Tryz.func133, Tryz.ntmps133
  go_wp2_with (first | (go_at_call 205; refine (sclamp_any _ _).mono ?_; rintro e w' ⟨rfl, rfl⟩) | (go_at_call 206; refine (sroot_any _ _ h3.1 h3.2).mono ?_; rintro e w' ⟨rfl, rfl⟩))
  go_ret
  exact ⟨rfl, rfl⟩
theorem fnm_any (a b : Int) (w : World) :
    Calls Tryz.prog 256 #[.int .i64 a, .int .i64 b] w fun e w' => e = .returned (.int .i64 (M.cl (M.isq (M.cl a * M.cl a + M.cl b * M.cl b)))) ∧ w' = w.alloc (.cells #[.int .i64 (M.cl a * M.cl a + M.cl b * M.cl b)] 267) := by
  have h1 := M.cl_mul_bd a a
  have h2 := M.cl_mul_bd b b
  have h3 := nm_bd a b
  have hfin : Hid (M.cl (min (M.isq (M.cl a * M.cl a + M.cl b * M.cl b)) 1000000000) = M.cl (M.isq (M.cl a * M.cl a + M.cl b * M.cl b))) := M.cl_isq_min _
  go_enter Tryz.func256, Tryz.ntmps256
  go_wp2_with (first | (go_at_call 289; refine (clamp_any _ _).mono ?_; rintro e w' ⟨rfl, rfl⟩) | (go_at_call 278; go_in) | (go_at_call 279; go_in) | (go_at_call 290; refine (whole_any _ _).mono ?_; rintro e w' ⟨rfl, rfl⟩))
  go_ret
  exact ⟨ret_int hfin.out, rfl⟩
end Go.Proofs.YtgcdcfjaeehnbaaGreat.Cd
/- Coordinates that are ok, new ones: the program's and the model's come to the same plain functions. -/
namespace Go.Proofs.YtgcdcfjaeehnbaaGreat.Cd
open Go.ChangeShapes Go.WideShapes Go.ChangeAt Go.RowKit
def inb (n lo hi : Int) : Bool := decide (lo ≤ n) && decide (n ≤ hi)
def cok (x y h e : Int) : Bool := inb x (-100000) 100000 && inb y (-100000) 100000 && inb h 0 100000 && inb e 1 1500
/-- a coordinate as a value -/
def C4 (x y h e : Int) : Value := .agg #[.int .i64 x, .int .i64 y, .int .i64 h, .int .i64 e]
theorem bcell {W w1 : World} (hb : Below W.heap.size W w1) : (∀ b o, b < W.heap.size → w1.cell? ⟨b, o, none⟩ = W.cell? ⟨b, o, none⟩) ∧ (∀ b o, b < W.heap.size → w1.frozen? ⟨b, o, none⟩ = W.frozen? ⟨b, o, none⟩) :=
  ⟨fun b o h => hb.cell (p := ⟨b, o, none⟩) h, fun b o h => hb.frozen (p := ⟨b, o, none⟩) h⟩
theorem within_any (n lo hi : Int) (w : World) :
    Calls Tryz.prog 150 #[.int .i64 n, .int .i64 lo, .int .i64 hi] w fun e w' => e = .returned (.bool (inb n lo hi)) ∧ w' = w := by
  go_enter Tryz.func150, Tryz.ntmps150
  go_wp2
  all_goals (go_ret; exact ⟨ret_bool (by unfold inb; by_cases h1 : lo ≤ n <;> by_cases h2 : n ≤ hi <;> simp [h1, h2] <;> omega), rfl⟩)
theorem lin_any (n lo hi : Int) (w : World) :
    Calls Tryz.prog 78 #[.int .i64 n, .int .i64 lo, .int .i64 hi] w fun e w' => e = .returned (.bool (inb n lo hi)) ∧ w' = w := by
  go_enter Tryz.func78, Tryz.ntmps78
  go_wp2
  all_goals (go_ret; exact ⟨ret_bool (by unfold inb; by_cases h1 : lo ≤ n <;> by_cases h2 : n ≤ hi <;> simp [h1, h2] <;> omega), rfl⟩)
theorem sok_any (x y h e : Int) (w : World) :
    Calls Tryz.prog 86 #[.agg #[.int .i64 x, .int .i64 y, .int .i64 h, .int .i64 e]] w fun r w' => r = .returned (.bool (cok x y h e)) ∧ Below w.heap.size w w' := by
  go_enter Tryz.func86, Tryz.ntmps86
  go_wp2_with (go_at_call 78; refine (lin_any _ _ _ _).mono ?_; rintro e w' ⟨rfl, rfl⟩)
  all_goals (go_ret; exact ⟨ret_bool (by simp_all [cok]), (Below.refl _ _).alloc (Nat.le_refl _) _⟩)
theorem stand_any (x y h e : Int) (w : World) :
    Calls Tryz.prog 151 #[.agg #[.int .i64 x, .int .i64 y, .int .i64 h, .int .i64 e]] w fun r w' => r = .returned (.agg #[.int .i64 x, .int .i64 y, .int .i64 h, .int .i64 e]) ∧ w' = (w.alloc (.cells #[.int .i64 x, .int .i64 y, .int .i64 h, .int .i64 e] 38)).alloc (.cells #[.int .i64 x, .int .i64 y, .int .i64 h, .int .i64 e] 175) := by
  go_enter Tryz.func151, Tryz.ntmps151
  go_wp2
  exact bodyPost_ret (v := .agg #[.int .i64 x, .int .i64 y, .int .i64 h, .int .i64 e]) (by simp [results, Tryz.results151, go_sem]) rfl ⟨rfl, rfl⟩
theorem fok_any (x y h e : Int) (w : World) :
    Calls Tryz.prog 100 #[.agg #[.int .i64 x, .int .i64 y, .int .i64 h, .int .i64 e]] w fun r w' => r = .returned (.bool (cok x y h e)) ∧ Below w.heap.size w w' := by
  go_enter Tryz.func100, Tryz.ntmps100
  go_wp2_with (first | (go_at_call 150; refine (within_any _ _ _ _).mono ?_; rintro e w' ⟨rfl, rfl⟩) | (go_at_call 151; refine (stand_any _ _ _ _ _).mono ?_; rintro e w' ⟨rfl, rfl⟩) | (go_at_call 152; go_in) | (go_at_call 153; go_in))
  all_goals (go_ret; refine ⟨ret_bool (by simp_all [cok]), ?_⟩)
  all_goals (repeat (first | exact Below.refl _ _ | refine Below.alloc ?_ (by simp <;> omega) _))
end Go.Proofs.YtgcdcfjaeehnbaaGreat.Cd
/- How far two coordinates are from each other, by the program. -/
namespace Go.Proofs.YtgcdcfjaeehnbaaGreat.Cd
open Go.ChangeShapes Go.WideShapes Go.ChangeAt Go.RowKit

attribute [local go_sem ↓] Go.wp_at_zero Go.wp_at_succ
theorem cok_bd {x y h e : Int} (hk : cok x y h e = true) : -100000 ≤ x ∧ x ≤ 100000 ∧ -100000 ≤ y ∧ y ≤ 100000 ∧ 0 ≤ h ∧ h ≤ 100000 ∧ 1 ≤ e ∧ e ≤ 1500 := by
  simp [cok, inb] at hk; omega
theorem balloc {a w : World} (o : Obj) (h : Below a.heap.size a w) : Below a.heap.size a (w.alloc o) := h.alloc h.size o
theorem keep_alloc {w : World} {a : Addr} {v : Value} (o : Obj) (h : w.cell? a = some v) : (w.alloc o).cell? a = some v := (World.cell?_alloc_some w a o (by rw [h]; rfl)).trans h
theorem keep_drew {w : World} {a : Addr} {v : Value} (h : w.cell? a = some v) : w.drew.cell? a = some v := h
theorem cell_far {w : World} {p a : Addr} (v : Value) (h : a.block ≠ p.block) : (w.setCell p v).cell? a = w.cell? a :=
  World.cell?_of_block (w := w) (Below.heap_setCell w p v a.block h)
theorem keep_set {w : World} {a : Addr} {v : Value} (p : Addr) (u : Value) (hp : a.block ≠ p.block) (h : w.cell? a = some v) : (w.setCell p u).cell? a = some v := (cell_far u hp).trans h
/-- four numbers lie at block b -/
def At4 (w : World) (b : Nat) (x y h e : Int) : Prop :=
  w.cell? ⟨b, 0, none⟩ = some (.int .i64 x) ∧ w.cell? ⟨b, 1, none⟩ = some (.int .i64 y) ∧ w.cell? ⟨b, 2, none⟩ = some (.int .i64 h) ∧ w.cell? ⟨b, 3, none⟩ = some (.int .i64 e)
theorem wrap_id {n : Int} (h1 : -9000000000000000000 ≤ n) (h2 : n ≤ 9000000000000000000) : IntKind.i64.wrap n = n := by
  simp [IntKind.wrap, IntKind.bits, IntKind.signed]; omega
theorem nm_eq (x y : Int) (h1 : -200000 ≤ x) (h2 : x ≤ 200000) (h3 : -200000 ≤ y) (h4 : y ≤ 200000) :
    M.cl (M.isq (M.cl x * M.cl x + M.cl y * M.cl y)) = M.isq (x * x + y * y) ∧ 0 ≤ M.isq (x * x + y * y) ∧ M.isq (x * x + y * y) ≤ 400000 := by
  rw [M.cl_id (n := x) (by omega) (by omega), M.cl_id (n := y) (by omega) (by omega)]
  have a := M.isq_nonneg (x * x + y * y)
  have b := M.isq_le_abs (u := x) (v := y) (f := 200000) (by omega) (by omega) (by omega) (by omega)
  exact ⟨M.cl_id (by omega) (by omega), a, by omega⟩
theorem way_any (x y u v : Int) (w : World) (h1 : -100000 ≤ x ∧ x ≤ 100000) (h2 : -100000 ≤ y ∧ y ≤ 100000) (h3 : -100000 ≤ u ∧ u ≤ 100000) (h4 : -100000 ≤ v ∧ v ≤ 100000) :
    Calls Tryz.prog 211 #[.agg #[.int .i64 x, .int .i64 y], .agg #[.int .i64 u, .int .i64 v]] w fun r w' => r = .returned (.agg #[.int .i64 (x - u), .int .i64 (y - v)]) ∧ ∃ o1 o2 o3, w' = ((w.alloc o1).alloc o2).alloc o3 := by
  go_enter Tryz.func211, Tryz.ntmps211
  go_wp2
  exact bodyPost_ret (v := .agg #[.int .i64 (x - u), .int .i64 (y - v)]) (by simp [results, Tryz.results211, go_sem]) rfl ⟨rfl, _, _, _, rfl⟩
theorem len_any (x y : Int) (w : World) :
    Calls Tryz.prog 212 #[.agg #[.int .i64 x, .int .i64 y]] w fun r w' => r = .returned (.int .i64 (M.cl (M.isq (M.cl x * M.cl x + M.cl y * M.cl y)))) ∧ ∃ o1 o2, w' = (w.alloc o1).alloc o2 := by
  go_enter Tryz.func212, Tryz.ntmps212
  go_wp2_with (go_at_call 256; refine (fnm_any _ _ _).mono ?_; rintro e w' ⟨rfl, rfl⟩)
  go_ret
  exact ⟨rfl, _, _, rfl⟩
set_option maxHeartbeats 1000000 in
theorem fdist_yes (ax ay ah ae bx b_y bh be : Int) (w : World) (ka : cok ax ay ah ae = true) (kb : cok bx b_y bh be = true) :
    Calls Tryz.prog 137 #[.agg #[.int .i64 ax, .int .i64 ay, .int .i64 ah, .int .i64 ae], .agg #[.int .i64 bx, .int .i64 b_y, .int .i64 bh, .int .i64 be]] w fun r w' => r = .returned (.int .i64 (M.isq ((ax - bx) * (ax - bx) + (ay - b_y) * (ay - b_y)) + ah + bh)) ∧ Below w.heap.size w w' := by
  have ha := cok_bd ka
  have hb := cok_bd kb
  go_enter Tryz.func137, Tryz.ntmps137
  go_wp2_with fail
  refine (fok_any _ _ _ _ _).mono ?_
  rintro r w1 ⟨rfl, b1⟩
  obtain ⟨hc1, hf1⟩ := bcell b1
  have s1 := b1.size
  go_wp2_with fail
  refine (fok_any _ _ _ _ _).mono ?_
  rintro r w2 ⟨rfl, b2⟩
  have b02 := b1.trans (b2.mono b1.size)
  obtain ⟨hc2, hf2⟩ := bcell b02
  have s2 := b02.size
  simp at s2
  have p0 : w2.cell? ⟨w.heap.size, 0, none⟩ = some (.int .i64 ax) := by rw [hc2 _ _ (by simp; omega)]; simp [go_sem]
  have p1 : w2.cell? ⟨w.heap.size, 1, none⟩ = some (.int .i64 ay) := by rw [hc2 _ _ (by simp; omega)]; simp [go_sem]
  have p2 : w2.cell? ⟨w.heap.size, 2, none⟩ = some (.int .i64 ah) := by rw [hc2 _ _ (by simp; omega)]; simp [go_sem]
  have p3 : w2.cell? ⟨w.heap.size, 3, none⟩ = some (.int .i64 ae) := by rw [hc2 _ _ (by simp; omega)]; simp [go_sem]
  have q0 : w2.cell? ⟨w.heap.size + 1, 0, none⟩ = some (.int .i64 bx) := by rw [hc2 _ _ (by simp)]; simp [go_sem]
  have q1 : w2.cell? ⟨w.heap.size + 1, 1, none⟩ = some (.int .i64 b_y) := by rw [hc2 _ _ (by simp)]; simp [go_sem]
  have q2 : w2.cell? ⟨w.heap.size + 1, 2, none⟩ = some (.int .i64 bh) := by rw [hc2 _ _ (by simp)]; simp [go_sem]
  have q3 : w2.cell? ⟨w.heap.size + 1, 3, none⟩ = some (.int .i64 be) := by rw [hc2 _ _ (by simp)]; simp [go_sem]
  clear hc1 hf1 hc2 hf2 s1
  have bw : Below w.heap.size w w2 := (((Below.refl _ _).alloc (Nat.le_refl _) _).alloc (by simp) _).trans (b02.mono (by simp; omega))
  clear b1 b2 b02
  go_upto_region 3 with fail
  have n0 := World.new_ne w2 ⟨w.heap.size, 0, none⟩ p0
  have n1 := World.new_ne w2 ⟨w.heap.size + 1, 0, none⟩ q0
  go_cut [5, 6] (fun s5 s6 wx => ∃ b5 b6 : Nat, s5 = .pointer (some ⟨b5, 0, none⟩) ∧ s6 = .pointer (some ⟨b6, 0, none⟩) ∧ At4 wx b5 ax ay ah ae ∧ At4 wx b6 bx b_y bh be ∧ Below w.heap.size w wx)
  case first =>
    go_region_held3 (fun w' => w'.cell? ⟨w.heap.size, 0, none⟩ = some (.int .i64 ax) ∧ w'.cell? ⟨w.heap.size, 1, none⟩ = some (.int .i64 ay) ∧ w'.cell? ⟨w.heap.size, 2, none⟩ = some (.int .i64 ah) ∧ w'.cell? ⟨w.heap.size, 3, none⟩ = some (.int .i64 ae) ∧ w'.cell? ⟨w.heap.size + 1, 0, none⟩ = some (.int .i64 bx) ∧ w'.cell? ⟨w.heap.size + 1, 1, none⟩ = some (.int .i64 b_y) ∧ w'.cell? ⟨w.heap.size + 1, 2, none⟩ = some (.int .i64 bh) ∧ w'.cell? ⟨w.heap.size + 1, 3, none⟩ = some (.int .i64 be)) (refine ⟨?_, ?_, ?_, ?_, ?_, ?_, ?_, ?_⟩ <;> (repeat (first | with_reducible assumption | with_reducible refine keep_alloc _ ?_ | with_reducible refine keep_drew ?_ | (with_reducible refine keep_set _ _ ?_ ?_; (simp <;> omega)) ))) (first | (go_at_call 151; refine (stand_any _ _ _ _ _).mono ?_; rintro e w' ⟨rfl, rfl⟩))
    all_goals (go_wp2_with fail; go_meet)
    all_goals refine ⟨_, _, rfl, rfl, ⟨by simp [go_sem], by simp [go_sem], by simp [go_sem], by simp [go_sem]⟩, ⟨by simp [go_sem], by simp [go_sem], by simp [go_sem], by simp [go_sem]⟩, ?_⟩
    all_goals (refine Below.drew ?_; repeat (first | exact bw | refine balloc _ ?_))
  case rest =>
    obtain ⟨b5, b6, rfl, rfl, ⟨x0, x1, x2, x3⟩, ⟨y0, y1, y2, y3⟩, bx5⟩ := hcut
    clear p0 p1 p2 p3 q0 q1 q2 q3 bw s2 n0 n1
    go_upto_region 4 with fail
    go_region_held3 (fun w' => w'.cell? ⟨b5, 0, none⟩ = some (.int .i64 ax) ∧ w'.cell? ⟨b5, 1, none⟩ = some (.int .i64 ay) ∧ w'.cell? ⟨b5, 2, none⟩ = some (.int .i64 ah) ∧ w'.cell? ⟨b6, 0, none⟩ = some (.int .i64 bx) ∧ w'.cell? ⟨b6, 1, none⟩ = some (.int .i64 b_y) ∧ w'.cell? ⟨b6, 2, none⟩ = some (.int .i64 bh)) (refine ⟨?_, ?_, ?_, ?_, ?_, ?_⟩ <;> (repeat (first | with_reducible assumption | with_reducible refine keep_alloc _ ?_ | with_reducible refine keep_drew ?_))) (first | (go_at_call 211; refine (way_any _ _ _ _ _ (by omega) (by omega) (by omega) (by omega)).mono ?_; rintro e w' ⟨rfl, o1, o2, o3, rfl⟩) | (go_at_call 212; refine (len_any _ _ _).mono ?_; rintro e w' ⟨rfl, o4, o5, rfl⟩))
    go_wp2
    go_ret
    refine ⟨ret_int ?_, Below.drew (balloc _ (balloc _ (balloc _ (balloc _ (balloc _ bx5)))))⟩
    have hn := nm_eq (ax - bx) (ay - b_y) (by omega) (by omega) (by omega) (by omega)
    rw [hn.1]

    obtain ⟨_, t0, t1⟩ := hn
    generalize M.isq ((ax - bx) * (ax - bx) + (ay - b_y) * (ay - b_y)) = t at *
    rw [wrap_id (n := t + ah) (by omega) (by omega), wrap_id (by omega) (by omega)]
theorem fdist_no (ax ay ah ae bx b_y bh be : Int) (w : World) (k : (cok ax ay ah ae && cok bx b_y bh be) = false) :
    Calls Tryz.prog 137 #[.agg #[.int .i64 ax, .int .i64 ay, .int .i64 ah, .int .i64 ae], .agg #[.int .i64 bx, .int .i64 b_y, .int .i64 bh, .int .i64 be]] w fun r w' => r = .returned (.int .i64 0) ∧ Below w.heap.size w w' := by
  by_cases ka : cok ax ay ah ae = true
  · have kb : cok bx b_y bh be = false := by simpa [ka] using k
    go_enter Tryz.func137, Tryz.ntmps137
    go_wp2_with fail
    refine (fok_any _ _ _ _ _).mono ?_
    rintro r w1 ⟨rfl, b1⟩
    obtain ⟨hc1, hf1⟩ := bcell b1
    go_wp2_with fail
    refine (fok_any _ _ _ _ _).mono ?_
    rintro r w2 ⟨rfl, b2⟩
    go_wp2
    go_ret
    exact ⟨rfl, (balloc _ (balloc _ (Below.refl _ _))).trans ((b1.mono (by simp; omega)).trans (b2.mono (by have := b1.size; simp at this; omega)))⟩
  · have ka' : cok ax ay ah ae = false := by simpa using ka
    go_enter Tryz.func137, Tryz.ntmps137
    go_wp2_with fail
    refine (fok_any _ _ _ _ _).mono ?_
    rintro r w1 ⟨rfl, b1⟩
    obtain ⟨hc1, hf1⟩ := bcell b1
    go_wp2
    go_ret
    exact ⟨rfl, (balloc _ (balloc _ (Below.refl _ _))).trans (b1.mono (by simp; omega))⟩
end Go.Proofs.YtgcdcfjaeehnbaaGreat.Cd
/- How far two coordinates are from each other: the program's way and the model's come to one plain function. -/
namespace Go.Proofs.YtgcdcfjaeehnbaaGreat.Cd
open Go.ChangeShapes Go.WideShapes Go.ChangeAt Go.RowKit


attribute [local go_sem ↓] Go.wp_at_zero Go.wp_at_succ
set_option maxHeartbeats 1000000 in
theorem sdist_yes (ax ay ah ae bx b_y bh be : Int) (w : World) (ka : cok ax ay ah ae = true) (kb : cok bx b_y bh be = true) :
    Calls Tryz.prog 72 #[.agg #[.int .i64 ax, .int .i64 ay, .int .i64 ah, .int .i64 ae], .agg #[.int .i64 bx, .int .i64 b_y, .int .i64 bh, .int .i64 be]] w fun r w' => r = .returned (.int .i64 (M.isq ((ax - bx) * (ax - bx) + (ay - b_y) * (ay - b_y)) + ah + bh)) ∧ Below w.heap.size w w' := by
  have ha := cok_bd ka
  have hb := cok_bd kb
  go_enter Tryz.func72, Tryz.ntmps72
  go_wp2_with fail
  refine (sok_any _ _ _ _ _).mono ?_
  rintro r w1 ⟨rfl, b1⟩
  obtain ⟨hc1, hf1⟩ := bcell b1
  have s1 := b1.size
  go_wp2_with fail
  refine (sok_any _ _ _ _ _).mono ?_
  rintro r w2 ⟨rfl, b2⟩
  have b02 := b1.trans (b2.mono b1.size)
  obtain ⟨hc2, hf2⟩ := bcell b02
  have p0 : w2.cell? ⟨w.heap.size, 0, none⟩ = some (.int .i64 ax) := by rw [hc2 _ _ (by simp; omega)]; simp [go_sem]
  have p1 : w2.cell? ⟨w.heap.size, 1, none⟩ = some (.int .i64 ay) := by rw [hc2 _ _ (by simp; omega)]; simp [go_sem]
  have p2 : w2.cell? ⟨w.heap.size, 2, none⟩ = some (.int .i64 ah) := by rw [hc2 _ _ (by simp; omega)]; simp [go_sem]
  have q0 : w2.cell? ⟨w.heap.size + 1, 0, none⟩ = some (.int .i64 bx) := by rw [hc2 _ _ (by simp)]; simp [go_sem]
  have q1 : w2.cell? ⟨w.heap.size + 1, 1, none⟩ = some (.int .i64 b_y) := by rw [hc2 _ _ (by simp)]; simp [go_sem]
  have q2 : w2.cell? ⟨w.heap.size + 1, 2, none⟩ = some (.int .i64 bh) := by rw [hc2 _ _ (by simp)]; simp [go_sem]
  clear hc1 hf1 hc2 hf2 s1
  have bw : Below w.heap.size w w2 := (((Below.refl _ _).alloc (Nat.le_refl _) _).alloc (by simp) _).trans (b02.mono (by simp; omega))
  clear b1 b2 b02
  go_upto_region 3 with fail
  go_region_held3 (fun w' => w'.cell? ⟨w.heap.size, 0, none⟩ = some (.int .i64 ax) ∧ w'.cell? ⟨w.heap.size, 1, none⟩ = some (.int .i64 ay) ∧ w'.cell? ⟨w.heap.size, 2, none⟩ = some (.int .i64 ah) ∧ w'.cell? ⟨w.heap.size + 1, 0, none⟩ = some (.int .i64 bx) ∧ w'.cell? ⟨w.heap.size + 1, 1, none⟩ = some (.int .i64 b_y) ∧ w'.cell? ⟨w.heap.size + 1, 2, none⟩ = some (.int .i64 bh)) (refine ⟨?_, ?_, ?_, ?_, ?_, ?_⟩ <;> (repeat (first | with_reducible assumption | with_reducible refine keep_alloc _ ?_ | with_reducible refine keep_drew ?_))) (first | (go_at_call 133; refine (snm_any _ _ _).mono ?_; rintro e w' ⟨rfl, rfl⟩))
  go_wp2
  go_ret
  refine ⟨ret_int ?_, Below.drew bw⟩
  rw [wrap_id (n := ax - bx) (by omega) (by omega), wrap_id (n := ay - b_y) (by omega) (by omega)]
  have hn := nm_eq (ax - bx) (ay - b_y) (by omega) (by omega) (by omega) (by omega)
  rw [hn.1]
  obtain ⟨_, t0, t1⟩ := hn
  generalize M.isq ((ax - bx) * (ax - bx) + (ay - b_y) * (ay - b_y)) = t at *
  rw [wrap_id (n := t + ah) (by omega) (by omega), wrap_id (by omega) (by omega)]
theorem sdist_no (ax ay ah ae bx b_y bh be : Int) (w : World) (k : (cok ax ay ah ae && cok bx b_y bh be) = false) :
    Calls Tryz.prog 72 #[.agg #[.int .i64 ax, .int .i64 ay, .int .i64 ah, .int .i64 ae], .agg #[.int .i64 bx, .int .i64 b_y, .int .i64 bh, .int .i64 be]] w fun r w' => r = .returned (.int .i64 0) ∧ Below w.heap.size w w' := by
  by_cases ka : cok ax ay ah ae = true
  · have kb : cok bx b_y bh be = false := by simpa [ka] using k
    go_enter Tryz.func72, Tryz.ntmps72
    go_wp2_with fail
    refine (sok_any _ _ _ _ _).mono ?_
    rintro r w1 ⟨rfl, b1⟩
    obtain ⟨hc1, hf1⟩ := bcell b1
    go_wp2_with fail
    refine (sok_any _ _ _ _ _).mono ?_
    rintro r w2 ⟨rfl, b2⟩
    go_wp2
    go_ret
    exact ⟨rfl, (balloc _ (balloc _ (Below.refl _ _))).trans ((b1.mono (by simp; omega)).trans (b2.mono (by have := b1.size; simp at this; omega)))⟩
  · have ka' : cok ax ay ah ae = false := by simpa using ka
    go_enter Tryz.func72, Tryz.ntmps72
    go_wp2_with fail
    refine (sok_any _ _ _ _ _).mono ?_
    rintro r w1 ⟨rfl, b1⟩
    obtain ⟨hc1, hf1⟩ := bcell b1
    go_wp2
    go_ret
    exact ⟨rfl, (balloc _ (balloc _ (Below.refl _ _))).trans (b1.mono (by simp; omega))⟩
/-- how far two are from each other -/
def dst (ax ay ah ae bx b_y bh be : Int) : Int := if (cok ax ay ah ae && cok bx b_y bh be) = true then M.isq ((ax - bx) * (ax - bx) + (ay - b_y) * (ay - b_y)) + ah + bh else 0
theorem fdist_any (ax ay ah ae bx b_y bh be : Int) (w : World) :
    Calls Tryz.prog 137 #[.agg #[.int .i64 ax, .int .i64 ay, .int .i64 ah, .int .i64 ae], .agg #[.int .i64 bx, .int .i64 b_y, .int .i64 bh, .int .i64 be]] w fun r w' => r = .returned (.int .i64 (dst ax ay ah ae bx b_y bh be)) ∧ Below w.heap.size w w' := by
  by_cases k : (cok ax ay ah ae && cok bx b_y bh be) = true
  · rw [dst, if_pos k]
    have k2 : cok ax ay ah ae = true ∧ cok bx b_y bh be = true := by simpa using k
    exact fdist_yes _ _ _ _ _ _ _ _ w k2.1 k2.2
  · rw [dst, if_neg k]
    exact fdist_no _ _ _ _ _ _ _ _ w (by simpa using k)
theorem sdist_any (ax ay ah ae bx b_y bh be : Int) (w : World) :
    Calls Tryz.prog 72 #[.agg #[.int .i64 ax, .int .i64 ay, .int .i64 ah, .int .i64 ae], .agg #[.int .i64 bx, .int .i64 b_y, .int .i64 bh, .int .i64 be]] w fun r w' => r = .returned (.int .i64 (dst ax ay ah ae bx b_y bh be)) ∧ Below w.heap.size w w' := by
  by_cases k : (cok ax ay ah ae && cok bx b_y bh be) = true
  · rw [dst, if_pos k]
    have k2 : cok ax ay ah ae = true ∧ cok bx b_y bh be = true := by simpa using k
    exact sdist_yes _ _ _ _ _ _ _ _ w k2.1 k2.2
  · rw [dst, if_neg k]
    exact sdist_no _ _ _ _ _ _ _ _ w (by simpa using k)
end Go.Proofs.YtgcdcfjaeehnbaaGreat.Cd
