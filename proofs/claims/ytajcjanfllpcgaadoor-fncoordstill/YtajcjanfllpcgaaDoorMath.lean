/- Plain facts on whole roots, on what is cut towards 0, and on how a moved place's way grows or shrinks. -/
namespace Go.Proofs.YtajcjanfllpcgaaDoor.M

/-- a whole root, by counting up (never reckoned; used by what it satisfies alone) -/
def isqN : Nat → Nat
  | 0 => 0
  | n + 1 => if (isqN n + 1) * (isqN n + 1) ≤ n + 1 then isqN n + 1 else isqN n
def isq (n : Int) : Int := (isqN n.toNat : Nat)

theorem isqN_spec (n : Nat) : isqN n * isqN n ≤ n ∧ n < (isqN n + 1) * (isqN n + 1) := by
  induction n with
  | zero => simp [isqN]
  | succ n ih =>
    obtain ⟨h1, h2⟩ := ih
    rw [isqN]
    generalize isqN n = r at *
    split
    · rename_i h
      refine ⟨h, ?_⟩
      have e : (r + 1 + 1) * (r + 1 + 1) = (r + 1) * (r + 1) + (2 * r + 3) := by
        simp only [Nat.add_mul, Nat.mul_add]; omega
      omega
    · omega

theorem isq_nonneg (n : Int) : 0 ≤ isq n := by unfold isq; omega
theorem isq_le (n : Int) (h : 0 ≤ n) : isq n * isq n ≤ n := by
  unfold isq
  have := (isqN_spec n.toNat).1
  have e : ((isqN n.toNat * isqN n.toNat : Nat) : Int) ≤ (n.toNat : Int) := by exact_mod_cast this
  rw [Int.natCast_mul] at e
  omega
theorem lt_isq (n : Int) : n < (isq n + 1) * (isq n + 1) := by
  unfold isq
  have := (isqN_spec n.toNat).2
  have e : ((n.toNat : Nat) : Int) < (((isqN n.toNat + 1) * (isqN n.toNat + 1) : Nat) : Int) := by exact_mod_cast this
  rw [Int.natCast_mul] at e
  simp only [Int.natCast_add, Int.natCast_one] at e
  omega

/-- squares grow -/
theorem sq_lt {a b : Int} (ha : 0 ≤ a) (h : a < b) : a * a < b * b := by
  have h1 : a * a ≤ a * b := Int.mul_le_mul_of_nonneg_left (by omega) ha
  have h2 : a * b < b * b := Int.mul_lt_mul_of_pos_right h (by omega)
  omega
theorem sq_le {a b : Int} (ha : 0 ≤ a) (h : a ≤ b) : a * a ≤ b * b := by
  have h1 : a * a ≤ a * b := Int.mul_le_mul_of_nonneg_left h ha
  have h2 : a * b ≤ b * b := Int.mul_le_mul_of_nonneg_right h (by omega)
  omega
theorem lt_of_sq {a b : Int} (hb : 0 ≤ b) (h : a * a < b * b) : a < b := by
  by_cases hc : a < b
  · exact hc
  · have := sq_le hb (by omega : b ≤ a); omega
theorem le_of_sq {a b : Int} (hb : 0 ≤ b) (h : a * a ≤ b * b) : a ≤ b := by
  by_cases hc : a ≤ b
  · exact hc
  · have := sq_lt hb (by omega : b < a); omega
theorem isq_eq {n r : Int} (hr : 0 ≤ r) (h1 : r * r ≤ n) (h2 : n < (r + 1) * (r + 1)) : isq n = r := by
  have a1 := isq_le n (by have := Int.mul_nonneg hr hr; omega)
  have a2 := lt_isq n
  have a0 := isq_nonneg n
  have b1 : isq n < r + 1 := lt_of_sq (by omega) (by omega)
  have b2 : r < isq n + 1 := lt_of_sq (by omega) (by omega)
  omega
theorem isq_neg {n : Int} (h : n < 0) : isq n = 0 := by
  unfold isq
  have : n.toNat = 0 := by omega
  rw [this]; rfl
theorem isq_zero : isq 0 = 0 := isq_eq (by omega) (by omega) (by omega)
/-- below a bound whose next square is above -/
theorem isq_bd {n b : Int} (hb : 0 ≤ b) (h : n < (b + 1) * (b + 1)) : isq n ≤ b := by
  by_cases hn : n < 0
  · rw [isq_neg hn]; exact hb
  · have a1 := isq_le n (by omega)
    have : isq n < b + 1 := lt_of_sq (by omega) (by omega)
    omega
theorem le_isq {n b : Int} (h : b * b ≤ n) (_hb : 0 ≤ b) : b ≤ isq n := by
  have a2 := lt_isq n
  have a0 := isq_nonneg n
  have : b < isq n + 1 := lt_of_sq (by omega) (by omega)
  omega
theorem isq_mono {a b : Int} (h : a ≤ b) : isq a ≤ isq b := by
  refine isq_bd (isq_nonneg b) ?_
  have := lt_isq b
  omega
theorem sq_nonneg (a : Int) : 0 ≤ a * a := by
  by_cases h : 0 ≤ a
  · exact Int.mul_nonneg h h
  · have := Int.mul_nonneg (a := -a) (b := -a) (by omega) (by omega)
    rw [Int.neg_mul_neg] at this; exact this

/-- brought in -/
def cl (n : Int) : Int := if n < -1000000000 then -1000000000 else if 1000000000 < n then 1000000000 else n
theorem cl_bd (n : Int) : -1000000000 ≤ cl n ∧ cl n ≤ 1000000000 := by unfold cl; split <;> (try split) <;> omega
theorem cl_id {n : Int} (h1 : -1000000000 ≤ n) (h2 : n ≤ 1000000000) : cl n = n := by unfold cl; split <;> (try split) <;> omega
theorem cl_neg (n : Int) : cl (-n) = - cl n := by unfold cl; split <;> split <;> (try split) <;> (try split) <;> omega
theorem cl_cl (n : Int) : cl (cl n) = cl n := cl_id (cl_bd n).1 (cl_bd n).2
theorem cl_mono {a b : Int} (h : a ≤ b) : cl a ≤ cl b := by unfold cl; split <;> split <;> (try split) <;> (try split) <;> omega
theorem sqadd (a b : Int) : (a + b) * (a + b) = a * a + a * b + (a * b + b * b) := by
  rw [Int.add_mul, Int.mul_add, Int.mul_add, Int.mul_comm b a]
theorem m4 (a b c d : Int) : a * b * (c * d) = a * c * (b * d) := by
  rw [Int.mul_assoc, Int.mul_assoc, ← Int.mul_assoc b c d, ← Int.mul_assoc c b d, Int.mul_comm b c]
theorem cauchy (x y u v : Int) : (x * u + y * v) * (x * u + y * v) ≤ (x * x + y * y) * (u * u + v * v) := by
  have e1 : (x * x + y * y) * (u * u + v * v) = (x * u) * (x * u) + (x * v) * (x * v) + ((y * u) * (y * u) + (y * v) * (y * v)) := by
    rw [Int.add_mul, Int.mul_add, Int.mul_add, m4 x x u u, m4 x x v v, m4 y y u u, m4 y y v v]
  have e2 : (x * u) * (y * v) = (x * v) * (y * u) := by
    rw [m4 x u y v, m4 x v y u, Int.mul_comm v u]
  have e3 : (x * u + y * v) * (x * u + y * v) = (x * u) * (x * u) + (x * u) * (y * v) + ((x * u) * (y * v) + (y * v) * (y * v)) := by
    rw [Int.add_mul, Int.mul_add, Int.mul_add, Int.mul_comm (y * v) (x * u)]
  have e4 : (x * v - y * u) * (x * v - y * u) = (x * v) * (x * v) - (x * v) * (y * u) - ((x * v) * (y * u) - (y * u) * (y * u)) := by
    rw [Int.sub_mul, Int.mul_sub, Int.mul_sub, Int.mul_comm (y * u) (x * v)]
  have h := sq_nonneg (x * v - y * u)
  rw [e1, e3]
  rw [e4] at h
  omega
theorem mul_lt_mul' {a b c d : Int} (ha : 0 ≤ a) (hc : 0 ≤ c) (h1 : a < b) (h2 : c < d) : a * c < b * d := by
  have i1 : a * c ≤ a * d := Int.mul_le_mul_of_nonneg_left (by omega) ha
  have i2 : a * d < b * d := Int.mul_lt_mul_of_pos_right h1 (by omega)
  omega
theorem tri (x y u v : Int) : isq ((x + u) * (x + u) + (y + v) * (y + v)) ≤ isq (x * x + y * y) + isq (u * u + v * v) + 1 := by
  have p0 := isq_nonneg (x * x + y * y)
  have q0 := isq_nonneg (u * u + v * v)
  have p1 := lt_isq (x * x + y * y)
  have q1 := lt_isq (u * u + v * v)
  have hx := sq_nonneg x
  have hy := sq_nonneg y
  have hu := sq_nonneg u
  have hv := sq_nonneg v
  have c := cauchy x y u v
  generalize isq (x * x + y * y) = p at *
  generalize isq (u * u + v * v) = q at *
  have m := mul_lt_mul' (by omega) (by omega) p1 q1
  have d : x * u + y * v < (p + 1) * (q + 1) := lt_of_sq (Int.mul_nonneg (by omega) (by omega)) (by rw [m4 (p + 1) (q + 1) (p + 1) (q + 1)]; omega)
  refine isq_bd (by omega) ?_
  have e1 : (x + u) * (x + u) = x * x + x * u + (x * u + u * u) := by rw [Int.add_mul, Int.mul_add, Int.mul_add, Int.mul_comm u x]
  have e2 : (y + v) * (y + v) = y * y + y * v + (y * v + v * v) := by rw [Int.add_mul, Int.mul_add, Int.mul_add, Int.mul_comm v y]
  have e3 : (p + q + 1 + 1) * (p + q + 1 + 1) = (p + 1) * (p + 1) + (p + 1) * (q + 1) + ((p + 1) * (q + 1) + (q + 1) * (q + 1)) := by
    rw [show p + q + 1 + 1 = (p + 1) + (q + 1) from by omega, sqadd]
  rw [e1, e2, e3]
  omega
theorem isq_le_abs {u v f : Int} (h1 : -f ≤ u) (h2 : u ≤ f) (h3 : -f ≤ v) (h4 : v ≤ f) : isq (u * u + v * v) ≤ 2 * f := by
  refine isq_bd (by omega) ?_
  have a : u * u ≤ f * f := by
    by_cases h : 0 ≤ u
    · exact sq_le h h2
    · have := sq_le (a := -u) (b := f) (by omega) (by omega); rw [Int.neg_mul_neg] at this; exact this
  have b : v * v ≤ f * f := by
    by_cases h : 0 ≤ v
    · exact sq_le h h4
    · have := sq_le (a := -v) (b := f) (by omega) (by omega); rw [Int.neg_mul_neg] at this; exact this
  have e : (2 * f + 1) * (2 * f + 1) = 4 * (f * f) + 4 * f + 1 := by
    rw [Int.add_mul, Int.mul_add, m4]; omega
  have := sq_nonneg f
  omega
/-- within F of the old place, the way's length turns by at most 2 F and 1 -/
theorem norm_near {x y x' y' F : Int} (h1 : -F ≤ x' - x) (h2 : x' - x ≤ F) (h3 : -F ≤ y' - y) (h4 : y' - y ≤ F) :
    isq (x' * x' + y' * y') ≤ isq (x * x + y * y) + 2 * F + 1 ∧ isq (x * x + y * y) ≤ isq (x' * x' + y' * y') + 2 * F + 1 := by
  constructor
  · have t := tri x y (x' - x) (y' - y)
    rw [show x + (x' - x) = x' from by omega, show y + (y' - y) = y' from by omega] at t
    have := isq_le_abs h1 h2 h3 h4
    omega
  · have t := tri x' y' (x - x') (y - y')
    rw [show x' + (x - x') = x from by omega, show y' + (y - y') = y from by omega] at t
    have := isq_le_abs (u := x - x') (v := y - y') (f := F) (by omega) (by omega) (by omega) (by omega)
    omega
theorem tdiv_nn {a b : Int} (ha : 0 ≤ a) (_hb : 0 < b) : a.tdiv b = a / b := Int.tdiv_eq_ediv_of_nonneg ha
theorem tdiv_np {a b : Int} (ha : a ≤ 0) (_hb : 0 < b) : a.tdiv b = -((-a) / b) := by
  have h : (-(-a)).tdiv b = -((-a).tdiv b) := Int.neg_tdiv (a := -a) (b := b)
  rw [Int.neg_neg] at h
  rw [h, Int.tdiv_eq_ediv_of_nonneg (by omega)]
/-- cut towards 0: between -c and c -/
theorem tdiv_le {a b c : Int} (hb : 0 < b) (hc : 0 ≤ c) (h : a ≤ c * b) : a.tdiv b ≤ c := by
  by_cases ha : 0 ≤ a
  · rw [tdiv_nn ha hb]; exact Int.ediv_le_of_le_mul hb h
  · rw [tdiv_np (by omega) hb]
    have := Int.ediv_nonneg (a := -a) (b := b) (by omega) (by omega)
    omega
theorem le_tdiv {a b c : Int} (hb : 0 < b) (hc : 0 ≤ c) (h : -(c * b) ≤ a) : -c ≤ a.tdiv b := by
  by_cases ha : 0 ≤ a
  · rw [tdiv_nn ha hb]
    have := Int.ediv_nonneg (a := a) (b := b) (by omega) (by omega)
    omega
  · rw [tdiv_np (by omega) hb]
    have := Int.ediv_le_of_le_mul (a := -a) (b := c) hb (by omega)
    omega
theorem tdiv_pos {a b : Int} (hb : 0 < b) (ha : 0 ≤ a) : 0 ≤ a.tdiv b := by
  rw [tdiv_nn ha hb]; exact Int.ediv_nonneg ha (by omega)
theorem tdiv_neg {a b : Int} (hb : 0 < b) (ha : a ≤ 0) : a.tdiv b ≤ 0 := by
  rw [tdiv_np ha hb]
  have := Int.ediv_nonneg (a := -a) (b := b) (by omega) (by omega)
  omega

def box (n lo hi : Int) : Int := if n < lo then lo else if hi < n then hi else n
theorem box_bd {n lo hi : Int} (h : lo ≤ hi) : lo ≤ box n lo hi ∧ box n lo hi ≤ hi := by unfold box; split <;> (try split) <;> omega

/-- the force: between the quarters of what is wrong -/
def fo (wrong e s : Int) : Int := ((wrong * e).tdiv s).tdiv 4
theorem fo_pos {wrong e s : Int} (h : 0 ≤ wrong) (he : 0 ≤ e) (hs : e < s) : 0 ≤ fo wrong e s ∧ 4 * fo wrong e s ≤ wrong := by
  unfold fo
  have m := Int.mul_nonneg h he
  have a := tdiv_pos (a := wrong * e) (b := s) (by omega) m
  have b := tdiv_le (a := wrong * e) (b := s) (c := wrong) (by omega) h (Int.mul_le_mul_of_nonneg_left (by omega) h)
  generalize (wrong * e).tdiv s = t at *
  rw [tdiv_nn a (by omega)]
  omega
theorem fo_neg {wrong e s : Int} (h : wrong ≤ 0) (he : 0 ≤ e) (hs : e < s) : fo wrong e s ≤ 0 ∧ wrong ≤ 4 * fo wrong e s := by
  unfold fo
  have m := Int.mul_nonneg (a := -wrong) (by omega) he
  have m2 : wrong * e = -(-wrong * e) := by rw [Int.neg_mul, Int.neg_neg]
  have a := tdiv_neg (a := wrong * e) (b := s) (by omega) (by omega)
  have k : -wrong * e ≤ -wrong * s := Int.mul_le_mul_of_nonneg_left (by omega) (by omega)
  have b := le_tdiv (a := wrong * e) (b := s) (c := -wrong) (by omega) (by omega) (by omega)
  generalize (wrong * e).tdiv s = t at *
  rw [tdiv_np a (by omega)]
  omega

/-- one side of a way: how far it is moved by a force -/
theorem step_abs {f x n : Int} (hn : 0 < n) (h1 : -n ≤ x) (h2 : x ≤ n) : (0 ≤ f → -f ≤ (f * x).tdiv n ∧ (f * x).tdiv n ≤ f) ∧ (f ≤ 0 → f ≤ (f * x).tdiv n ∧ (f * x).tdiv n ≤ -f) := by
  constructor
  · intro hf
    have a : f * x ≤ f * n := Int.mul_le_mul_of_nonneg_left h2 hf
    have b : f * (-n) ≤ f * x := Int.mul_le_mul_of_nonneg_left h1 hf
    rw [Int.mul_neg] at b
    exact ⟨le_tdiv hn hf b, tdiv_le hn hf a⟩
  · intro hf
    have a : -f * x ≤ -f * n := Int.mul_le_mul_of_nonneg_left h2 (by omega)
    have b : -f * (-n) ≤ -f * x := Int.mul_le_mul_of_nonneg_left h1 (by omega)
    rw [Int.neg_mul_neg] at b
    have e : -f * x = -(f * x) := Int.neg_mul _ _
    have e2 : -f * n = -(f * n) := Int.neg_mul _ _
    refine ⟨?_, tdiv_le hn (by omega) (by rw [e2]; omega)⟩
    have := le_tdiv (a := f * x) (c := -f) hn (by omega) (by rw [e2]; omega)
    omega
/-- away: each side grows -/
theorem step_away {f x n : Int} (hn : 0 < n) (hf : 0 ≤ f) : (0 ≤ x → 0 ≤ (f * x).tdiv n) ∧ (x ≤ 0 → (f * x).tdiv n ≤ 0) := by
  constructor
  · intro h; exact tdiv_pos hn (Int.mul_nonneg hf h)
  · intro h
    have := Int.mul_nonneg hf (b := -x) (by omega)
    rw [Int.mul_neg] at this
    exact tdiv_neg hn (by omega)
/-- nearer, but not beyond -/
theorem step_near {f x n : Int} (hn : 0 < n) (hf : f ≤ 0) (hfn : -n ≤ f) : (0 ≤ x → -x ≤ (f * x).tdiv n ∧ (f * x).tdiv n ≤ 0) ∧ (x ≤ 0 → 0 ≤ (f * x).tdiv n ∧ (f * x).tdiv n ≤ -x) := by
  constructor
  · intro h
    have a := Int.mul_nonneg (a := -f) (by omega) h
    rw [Int.neg_mul] at a
    have b : -f * x ≤ n * x := Int.mul_le_mul_of_nonneg_right (by omega) h
    rw [Int.neg_mul, Int.mul_comm n x] at b
    exact ⟨le_tdiv hn h (by omega), tdiv_neg hn (by omega)⟩
  · intro h
    have a := Int.mul_nonneg (a := -f) (b := -x) (by omega) (by omega)
    rw [Int.neg_mul_neg] at a
    have b : -f * -x ≤ n * -x := Int.mul_le_mul_of_nonneg_right (by omega) (by omega)
    rw [Int.neg_mul_neg, Int.mul_comm n (-x)] at b
    exact ⟨tdiv_pos hn a, tdiv_le hn (by omega) b⟩

theorem sq_abs_le {a b : Int} (h : (0 ≤ b → 0 ≤ a ∧ a ≤ b) ∧ (b ≤ 0 → b ≤ a ∧ a ≤ 0)) : a * a ≤ b * b := by
  by_cases hb : 0 ≤ b
  · exact sq_le (h.1 hb).1 (h.1 hb).2
  · have := sq_le (a := -a) (b := -b) (by have := (h.2 (by omega)).2; omega) (by have := (h.2 (by omega)).1; omega)
    rw [Int.neg_mul_neg, Int.neg_mul_neg] at this; exact this
theorem near {x y x' y' aH H' bH F wrong trip : Int} (hw : wrong = trip - (isq (x * x + y * y) + aH + bH)) (_hF : 0 ≤ F)
    (hF1 : 0 ≤ wrong → 4 * F ≤ wrong) (hF2 : wrong ≤ 0 → 4 * F ≤ -wrong)
    (h1 : -F ≤ x' - x) (h2 : x' - x ≤ F) (h3 : -F ≤ y' - y) (h4 : y' - y ≤ F) (h5 : -F ≤ H' - aH) (h6 : H' - aH ≤ F)
    (up : 0 ≤ wrong → x * x ≤ x' * x' ∧ y * y ≤ y' * y' ∧ aH ≤ H') (down : wrong ≤ 0 → x' * x' ≤ x * x ∧ y' * y' ≤ y * y ∧ H' ≤ aH) :
    (0 ≤ wrong → trip - (isq (x' * x' + y' * y') + H' + bH) ≤ wrong + 2 ∧ -(trip - (isq (x' * x' + y' * y') + H' + bH)) ≤ wrong + 2) ∧
    (wrong ≤ 0 → trip - (isq (x' * x' + y' * y') + H' + bH) ≤ -wrong + 2 ∧ -(trip - (isq (x' * x' + y' * y') + H' + bH)) ≤ -wrong + 2) := by
  obtain ⟨n1, n2⟩ := norm_near h1 h2 h3 h4
  constructor
  · intro h
    obtain ⟨a, b, c⟩ := up h
    have m := isq_mono (a := x * x + y * y) (b := x' * x' + y' * y') (by omega)
    have := hF1 h
    omega
  · intro h
    obtain ⟨a, b, c⟩ := down h
    have m := isq_mono (a := x' * x' + y' * y') (b := x * x + y * y) (by omega)
    have := hF2 h
    omega
theorem mul_bd {a b A B : Int} (ha1 : -A ≤ a) (ha2 : a ≤ A) (hb1 : -B ≤ b) (hb2 : b ≤ B) : -(A * B) ≤ a * b ∧ a * b ≤ A * B := by
  have key : ∀ x y : Int, -A ≤ x → x ≤ A → -B ≤ y → y ≤ B → x * y ≤ A * B := by
    intro x y h1 h2 h3 h4
    by_cases hx : 0 ≤ x
    · have e1 : x * y ≤ x * B := Int.mul_le_mul_of_nonneg_left h4 hx
      have e2 : x * B ≤ A * B := Int.mul_le_mul_of_nonneg_right h2 (by omega)
      omega
    · have e1 : -x * -y ≤ -x * B := Int.mul_le_mul_of_nonneg_left (by omega) (by omega)
      have e2 : -x * B ≤ A * B := Int.mul_le_mul_of_nonneg_right (by omega) (by omega)
      rw [Int.neg_mul_neg] at e1
      omega
  have k1 := key a b ha1 ha2 hb1 hb2
  have k2 := key (-a) b (by omega) (by omega) hb1 hb2
  rw [Int.neg_mul] at k2
  omega
theorem cl_mul_bd (a b : Int) : -1000000000000000000 ≤ cl a * cl b ∧ cl a * cl b ≤ 1000000000000000000 := by
  have h := mul_bd (A := 1000000000) (B := 1000000000) (cl_bd a).1 (cl_bd a).2 (cl_bd b).1 (cl_bd b).2
  omega
/-- a quotient, brought in; by 0 as far as can be -/
def far (p : Int) : Int := if 0 < p then 1000000000 else if p < 0 then -1000000000 else 0
theorem far_cl (p : Int) : cl (far p) = far p := by unfold far cl; omega
def dv (p q : Int) : Int := if q = 0 then far p else cl ((p * 1000).tdiv q)
theorem dv_zero (p : Int) : dv p 0 = far p := by simp [dv]
theorem dv_ne {p q : Int} (h : ¬ q = 0) : dv p q = cl ((p * 1000).tdiv q) := by simp [dv, h]
theorem tdiv_abs {a b A : Int} (h0 : 0 ≤ A) (h1 : -A ≤ a) (h2 : a ≤ A) : -A ≤ a.tdiv b ∧ a.tdiv b ≤ A := by
  by_cases hb : 0 < b
  · have m : A * 1 ≤ A * b := Int.mul_le_mul_of_nonneg_left (by omega) h0
    exact ⟨le_tdiv hb h0 (by omega), tdiv_le hb h0 (by omega)⟩
  · by_cases hz : b = 0
    · subst hz; rw [Int.tdiv_zero]; omega
    · have e : a.tdiv b = -(a.tdiv (-b)) := by rw [Int.tdiv_neg, Int.neg_neg]
      have m : A * 1 ≤ A * (-b) := Int.mul_le_mul_of_nonneg_left (by omega) h0
      have k1 := le_tdiv (a := a) (b := -b) (c := A) (by omega) h0 (by omega)
      have k2 := tdiv_le (a := a) (b := -b) (c := A) (by omega) h0 (by omega)
      omega
theorem cl_isq_min (n : Int) : cl (min (isq n) 1000000000) = cl (isq n) := by
  have := isq_nonneg n
  unfold cl; omega
/-- how far from 0 -/
def ab (n : Int) : Int := if n < 0 then -n else n
theorem ab_nonneg (n : Int) : 0 ≤ ab n := by unfold ab; split <;> omega
theorem ab_sq (n : Int) : ab n * ab n = n * n := by unfold ab; split; exact Int.neg_mul_neg _ _; rfl
theorem ab_neg (n : Int) : ab (-n) = ab n := by unfold ab; split <;> split <;> omega
theorem norm_ge (a b : Int) (ha : ab a ≤ 1000000000) : ab a ≤ cl (isq (a * a + b * b)) := by
  have h := le_isq (n := a * a + b * b) (b := ab a) (by rw [ab_sq]; have := sq_nonneg b; omega) (ab_nonneg a)
  unfold cl; omega
theorem norm_le (a b : Int) : cl (isq (a * a + b * b)) ≤ ab a + ab b := by
  have h0 := isq_nonneg (a * a + b * b)
  have p := ab_nonneg a
  have q := ab_nonneg b
  have h := isq_bd (n := a * a + b * b) (b := ab a + ab b) (by omega) (by
    have e := sqadd (ab a) (ab b)
    have m := Int.mul_nonneg p q
    have e2 := sqadd (ab a + ab b) 1
    rw [ab_sq, ab_sq] at e
    omega)
  unfold cl; omega
theorem dv_rest {p q : Int} (hq : ¬ q = 0) (hx : ¬ ab (dv p q) = 1000000000) : ab (p * 1000 - dv p q * q) < ab q := by
  rw [dv_ne hq] at *
  have e : cl ((p * 1000).tdiv q) = (p * 1000).tdiv q := by
    unfold cl ab at *
    omega
  rw [e]
  have hm : p * 1000 - (p * 1000).tdiv q * q = (p * 1000).tmod q := by
    have := Int.tmod_add_tdiv_mul (p * 1000) q
    omega
  rw [hm]
  by_cases hp : 0 < q
  · have a1 := Int.tmod_lt_of_pos (p * 1000) hp
    have a2 := Int.tmod_lt_of_pos (-(p * 1000)) hp
    rw [Int.neg_tmod] at a2
    unfold ab; omega
  · have a1 := Int.tmod_lt_of_pos (p * 1000) (b := -q) (by omega)
    have a2 := Int.tmod_lt_of_pos (-(p * 1000)) (b := -q) (by omega)
    rw [Int.neg_tmod] at a2
    rw [Int.tmod_neg] at a1 a2
    unfold ab; omega
end Go.Proofs.YtajcjanfllpcgaaDoor.M
