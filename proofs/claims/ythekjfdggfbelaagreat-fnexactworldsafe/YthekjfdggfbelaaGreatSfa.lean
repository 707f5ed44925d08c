/- What somebody told first: whether a fact is among some. -/
import Derived.Test.YthekjfdggfbelaaGreatNd7
import Derived.Test.YthekjfdggfbelaaGreatTable
import Derived.Test.YthekjfdggfbelaaGreatWk
namespace Go.Proofs.YthekjfdggfbelaaGreat
open Go.ChangeShapes Go.WideShapes Go.ChangeAt Go.RowKit
attribute [local go_sem ↓] Go.wp_at_zero Go.wp_at_succ
set_option maxRecDepth 20000 in
theorem eq_run (a b c : Int) (d : Bool) (a' b' c' : Int) (d' : Bool) (w : World) : (binOp BinOp.eql 59 (.agg #[.int .i64 a, .int .i64 b, .int .i64 c, .bool d]) (.agg #[.int .i64 a', .int .i64 b', .int .i64 c', .bool d'])).run Tryz.prog w = .ok (.bool (decide (a = a' ∧ b = b' ∧ c = c' ∧ d = d'))) w := by
  by_cases h0 : a = a'
  · by_cases h1 : b = b'
    · by_cases h2 : c = c'
      · by_cases h3 : d = d'
        · subst h0 h1 h2 h3
          simp [go_sem]
        · have z : (d == d') = false := by simpa using h3
          subst h0 h1 h2
          simp [go_sem, z, h3]
      · have z : (c == c') = false := by simpa using h2
        subst h0 h1
        simp [go_sem, z, h2]
    · have z : (b == b') = false := by simpa using h1
      subst h0
      simp [go_sem, z, h1]
  · have z : (a == a') = false := by simpa using h0
    simp [go_sem, z, h0]
/-- a fact is among some -/
def hsB (len : Nat) (F : Nat → Fc) (n i s : Int) (g : Bool) : Bool := decide (∃ k, k < len ∧ n = (F k).n ∧ i = (F k).i ∧ s = (F k).s ∧ g = (F k).g)
theorem has_yes {len : Nat} {F : Nat → Fc} {n i s : Int} {g : Bool} {k : Nat} (hk : k < len) (h : decide (n = (F k).n ∧ i = (F k).i ∧ s = (F k).s ∧ g = (F k).g) = true) : hsB len F n i s g = true := decide_eq_true ⟨k, hk, of_decide_eq_true h⟩
theorem has_no {len : Nat} {F : Nat → Fc} {n i s : Int} {g : Bool} (h : ∀ k, k < len → decide (n = (F k).n ∧ i = (F k).i ∧ s = (F k).s ∧ g = (F k).g) = false) : hsB len F n i s g = false := decide_eq_false fun ⟨k, hk, q⟩ => of_decide_eq_false (h k hk) q
theorem tst_rev (x : Fc) (n i s : Int) (g : Bool) : decide (x.n = n ∧ x.i = i ∧ x.s = s ∧ x.g = g) = decide (n = x.n ∧ i = x.i ∧ s = x.s ∧ g = x.g) := by
  congr 1
  apply propext
  constructor <;> (rintro ⟨rfl, rfl, rfl, rfl⟩; exact ⟨rfl, rfl, rfl, rfl⟩)
theorem eq_grd (x y : Operand) (a b : Array Value) (w : World) : (eqGuard .eql 59 x y (.agg a) (.agg b)).run Tryz.prog w = .ok () w := by kernel_rfl
theorem eq_q {x y : Operand} {a : Act} {A B : Array Value} {v : Value} {d : Option Nat} {w : World} (h : (binOp BinOp.eql 59 (.agg A) (.agg B)).run Tryz.prog w = .ok v w) (hx : a.eval x = .agg A := by rfl) (hy : a.eval y = .agg B := by rfl) : (execOp a.eval { dst := d, op := .binOp .eql 59 x y 59, type := 4, pos := "", after := #[], guard := none }).run Tryz.prog w = .ok (.value v) w := by
  simp only [execOp, Sem.run_bind, Sem.run_pure, hx, hy, eq_grd, h, Result.andThen_ok]
def s156_4 : List Stp := [⟨some 11, .load 59 (.tmp 3), 59, none, 0⟩, ⟨some 12, .move (.tmp 0), 32, none, 0⟩, ⟨some 13, .move (.tmp 5), 3, none, 0⟩, ⟨some 14, .indexAddr 32 (.tmp 12) (.tmp 13), 0, none, 0⟩, ⟨some 15, .load 59 (.tmp 14), 59, none, 0⟩, ⟨some 16, .binOp .eql 59 (.tmp 11) (.tmp 15) 59, 4, none, 2⟩]
def t156_4 : List (Nat × Nat) := [(0, 0), (1, 0), (2, 0), (3, 0), (4, 0), (5, 2)]
set_option maxRecDepth 20000 in
set_option maxHeartbeats 4000000 in
theorem sidx_any (a : Option Addr) (len cap : Nat) (F : Nat → Fc) (n i s : Int) (g : Bool) (w : World) (h : FSl w a len F) (hl : len ≤ 1048576) :
    Calls Tryz.prog 156 #[.slice a len cap, .agg #[.int .i64 n, .int .i64 i, .int .i64 s, .bool g]] w fun e w' => ∃ r : Int, e = .returned (.int .i64 r) ∧ ((hsB len F n i s g = true ∧ 0 ≤ r) ∨ (hsB len F n i s g = false ∧ r = -1)) ∧ Below w.heap.size w w' := by
  have b0 := balloc (.cells #[.int .i64 n, .int .i64 i, .int .i64 s, .bool g] 59) (Below.refl w.heap.size w)
  have X := Ws.box (w := w) #[.int .i64 n, .int .i64 i, .int .i64 s, .bool g] 59
  go_enter Tryz.func156, Tryz.ntmps156
  go_upto_region 1 with fail
  generalize w.alloc (.cells #[.int .i64 n, .int .i64 i, .int .i64 s, .bool g] 59) = u at *
  have h0 := h.below b0
  have hX := X.range
  clear X h
  go_wp2
  go_loopw [5, 8] (fun _ i0 wr => ∃ k : Nat, k ≤ len ∧ i0 = .int .i64 k ∧ Below u.heap.size u wr ∧ (∀ j, j < k → decide (n = (F j).n ∧ i = (F j).i ∧ s = (F j).s ∧ g = (F j).g) = false)) (fun _ i0 _ => len - (intOf i0).toNat)
  case atStart => exact ⟨0, by omega, rfl, Below.refl _ _, fun j h1 => by omega⟩
  case round =>
    obtain ⟨k, hk, rfl, hb, hall⟩ := hrel
    by_cases hlt : k < len
    · obtain ⟨b, off, rfl, _, hf⟩ := (h0.below hb) (by omega)
      obtain ⟨c0, c1, c2, c3⟩ := hf k hlt
      have i0 : (0 : Int) ≤ (k : Int) := by omega
      have i1 : (k : Int) < (len : Int) := by omega
      have hy : Hid (decide (n = (F k).n ∧ i = (F k).i ∧ s = (F k).s ∧ g = (F k).g) = true → hsB len F n i s g = true) := fun q => has_yes hlt q
      have hn : Hid (decide (n = (F k).n ∧ i = (F k).i ∧ s = (F k).s ∧ g = (F k).g) = false → ∀ j, j < k + 1 → decide (n = (F j).n ∧ i = (F j).i ∧ s = (F j).s ∧ g = (F j).g) = false) := fun q j hj => by
        by_cases e : j = k
        · subst e; exact q
        · exact hall j (by omega)
      clear hall hf hlt
      obtain ⟨x, hx⟩ : ∃ x, Hid (F k = x) := ⟨_, rfl⟩
      rw [hx.out] at hy hn c0 c1 c2 c3
      clear hx
      have er := eq_run n i s g x.n x.i x.s x.g
      skip
      obtain ⟨v, hv⟩ : ∃ v, Hid (decide (n = x.n ∧ i = x.i ∧ s = x.s ∧ g = x.g) = v) := ⟨_, rfl⟩
      rw [hv.out] at hy hn er
      clear hv
      have hrc := range4 c0 c1 c2 c3
      have hrx := range_below' hX hb
      clear c0 c1 c2 c3
      go_upto_region 4 with fail
      cases v
      · have hn' := hn.out rfl
        clear hn hy
        refine wp_region_q s156_4 t156_4 (fun hbq => ?_)
        refine qR ?_
        iterate 3 refine qY ?_
        refine qR ?_
        refine qV (.bool false) (hy := fun w => eq_q (er w)) (h := ?_)
        refine qE ?_
        have hb1 := btrans hb hbq
        clear hrc hrx er hbq
        go_wp2
        go_roundw
        case rel => exact ⟨k + 1, by omega, by go_num, hb1, hn'⟩
        case measure => simp [intOf]; omega
      · have hy' := hy.out rfl
        clear hn hy
        refine wp_region_q s156_4 t156_4 (fun hbq => ?_)
        refine qR ?_
        iterate 3 refine qY ?_
        refine qR ?_
        refine qV (.bool true) (hy := fun w => eq_q (er w)) (h := ?_)
        refine qE ?_
        have hb1 := btrans b0 (btrans hb hbq)
        clear hrc hrx er hbq
        have hy2 : Hid (hsB len F n i s g = true) := hy'
        clear hy'
        go_wp2
        go_ret
        exact ⟨k, rfl, .inl ⟨hy2.out, by omega⟩, hb1⟩
    · have e : k = len := by omega
      subst e
      have hn2 : Hid (hsB k F n i s g = false) := has_no hall
      clear hall hlt hk
      go_wp2
      go_ret
      exact ⟨-1, rfl, .inr ⟨hn2.out, rfl⟩, btrans b0 hb⟩
def s68_4 : List Stp := [⟨some 12, .move (.tmp 0), 32, none, 0⟩, ⟨some 13, .move (.tmp 5), 3, none, 0⟩, ⟨some 14, .indexAddr 32 (.tmp 12) (.tmp 13), 0, none, 0⟩, ⟨some 15, .load 59 (.tmp 14), 59, none, 0⟩, ⟨some 16, .load 59 (.tmp 3), 59, none, 0⟩, ⟨some 17, .binOp .eql 59 (.tmp 15) (.tmp 16) 59, 4, none, 2⟩]
def t68_4 : List (Nat × Nat) := [(0, 0), (1, 0), (2, 0), (3, 0), (4, 0), (5, 2)]
set_option maxRecDepth 20000 in
set_option maxHeartbeats 4000000 in
theorem sborn_any (a : Option Addr) (len cap : Nat) (F : Nat → Fc) (n i s : Int) (g : Bool) (w : World) (h : FSl w a len F) (hl : len ≤ 1048576) :
    Calls Tryz.prog 68 #[.slice a len cap, .agg #[.int .i64 n, .int .i64 i, .int .i64 s, .bool g]] w fun e w' => e = .returned (.bool (hsB len F n i s g)) ∧ Below w.heap.size w w' := by
  have b0 := balloc (.cells #[.int .i64 n, .int .i64 i, .int .i64 s, .bool g] 59) (Below.refl w.heap.size w)
  have X := Ws.box (w := w) #[.int .i64 n, .int .i64 i, .int .i64 s, .bool g] 59
  go_enter Tryz.func68, Tryz.ntmps68
  go_upto_region 1 with fail
  generalize w.alloc (.cells #[.int .i64 n, .int .i64 i, .int .i64 s, .bool g] 59) = u at *
  have h0 := h.below b0
  have hX := X.range
  clear X h
  go_wp2
  go_loopw [5] (fun i0 wr => ∃ k : Nat, k ≤ len ∧ i0 = .int .i64 k ∧ Below u.heap.size u wr ∧ (∀ j, j < k → decide (n = (F j).n ∧ i = (F j).i ∧ s = (F j).s ∧ g = (F j).g) = false)) (fun i0 _ => len - (intOf i0).toNat)
  case atStart => exact ⟨0, by omega, rfl, Below.refl _ _, fun j h1 => by omega⟩
  case round =>
    obtain ⟨k, hk, rfl, hb, hall⟩ := hrel
    by_cases hlt : k < len
    · obtain ⟨b, off, rfl, _, hf⟩ := (h0.below hb) (by omega)
      obtain ⟨c0, c1, c2, c3⟩ := hf k hlt
      have i0 : (0 : Int) ≤ (k : Int) := by omega
      have i1 : (k : Int) < (len : Int) := by omega
      have hy : Hid (decide (n = (F k).n ∧ i = (F k).i ∧ s = (F k).s ∧ g = (F k).g) = true → hsB len F n i s g = true) := fun q => has_yes hlt q
      have hn : Hid (decide (n = (F k).n ∧ i = (F k).i ∧ s = (F k).s ∧ g = (F k).g) = false → ∀ j, j < k + 1 → decide (n = (F j).n ∧ i = (F j).i ∧ s = (F j).s ∧ g = (F j).g) = false) := fun q j hj => by
        by_cases e : j = k
        · subst e; exact q
        · exact hall j (by omega)
      clear hall hf hlt
      obtain ⟨x, hx⟩ : ∃ x, Hid (F k = x) := ⟨_, rfl⟩
      rw [hx.out] at hy hn c0 c1 c2 c3
      clear hx
      have er := eq_run x.n x.i x.s x.g n i s g
      rw [tst_rev] at er
      obtain ⟨v, hv⟩ : ∃ v, Hid (decide (n = x.n ∧ i = x.i ∧ s = x.s ∧ g = x.g) = v) := ⟨_, rfl⟩
      rw [hv.out] at hy hn er
      clear hv
      have hrc := range4 c0 c1 c2 c3
      have hrx := range_below' hX hb
      clear c0 c1 c2 c3
      go_upto_region 4 with fail
      cases v
      · have hn' := hn.out rfl
        clear hn hy
        refine wp_region_q s68_4 t68_4 (fun hbq => ?_)
        iterate 3 refine qY ?_
        iterate 2 refine qR ?_
        refine qV (.bool false) (hy := fun w => eq_q (er w)) (h := ?_)
        refine qE ?_
        have hb1 := btrans hb hbq
        clear hrc hrx er hbq
        go_wp2
        go_roundw
        case rel => exact ⟨k + 1, by omega, by go_num, hb1, hn'⟩
        case measure => simp [intOf]; omega
      · have hy' := hy.out rfl
        clear hn hy
        refine wp_region_q s68_4 t68_4 (fun hbq => ?_)
        iterate 3 refine qY ?_
        iterate 2 refine qR ?_
        refine qV (.bool true) (hy := fun w => eq_q (er w)) (h := ?_)
        refine qE ?_
        have hb1 := btrans b0 (btrans hb hbq)
        clear hrc hrx er hbq
        have hy2 : Hid (hsB len F n i s g = true) := hy'
        clear hy'
        go_wp2
        go_ret
        exact ⟨ret_bool hy2.out.symm, hb1⟩
    · have e : k = len := by omega
      subst e
      have hn2 : Hid (hsB k F n i s g = false) := has_no hall
      clear hall hlt hk
      go_wp2
      go_ret
      exact ⟨ret_bool hn2.out.symm, btrans b0 hb⟩
theorem scon_any (a : Option Addr) (len cap : Nat) (F : Nat → Fc) (n i s : Int) (g : Bool) (w : World) (h : FSl w a len F) (hl : len ≤ 1048576) :
    Calls Tryz.prog 111 #[.slice a len cap, .agg #[.int .i64 n, .int .i64 i, .int .i64 s, .bool g]] w fun e w' => e = .returned (.bool (hsB len F n i s g)) ∧ Below w.heap.size w w' := by
  have b0 := balloc (.cells #[.int .i64 n, .int .i64 i, .int .i64 s, .bool g] 59) (Below.refl w.heap.size w)
  have X := Ws.box (w := w) #[.int .i64 n, .int .i64 i, .int .i64 s, .bool g] 59
  go_enter Tryz.func111, Tryz.ntmps111
  go_upto_region 1 with fail
  generalize w.alloc (.cells #[.int .i64 n, .int .i64 i, .int .i64 s, .bool g] 59) = u at *
  have h0 := h.below b0
  have e0 := X.c 0 (.int .i64 n) rfl
  have e1 := X.c 1 (.int .i64 i) rfl
  have e2 := X.c 2 (.int .i64 s) rfl
  have e3 := X.c 3 (.bool g) rfl
  clear X h
  go_wp2_with fail
  refine (sidx_any a len cap F n i s g _ h0 hl).mono ?_
  rintro e w1 ⟨r, rfl, hr, b1⟩
  clear e0 e1 e2 e3
  rcases hr with ⟨hs, hr⟩ | ⟨hs, rfl⟩
  · have hs' : Hid (hsB len F n i s g = true) := hs
    clear hs
    go_wp2
    go_ret
    exact ⟨ret_bool hs'.out.symm, btrans b0 b1⟩
  · have hs' : Hid (hsB len F n i s g = false) := hs
    clear hs
    go_wp2
    go_ret
    exact ⟨ret_bool hs'.out.symm, btrans b0 b1⟩
set_option maxRecDepth 20000 in
theorem isb_any (na : Option Addr) (nl nc : Nat) (ra : Option Addr) (rl rc : Nat) (sa : Option Addr) (sl sc : Nat) (ba : Option Addr) (bl bc : Nat) (BF : Nat → Fc) (n i s : Int) (g : Bool) (w : World) (hB : FSl w ba bl BF) (hl : bl ≤ 1048576) :
    Calls Tryz.prog 72 #[.agg #[.slice na nl nc, .slice ra rl rc, .slice sa sl sc, .slice ba bl bc], .agg #[.int .i64 n, .int .i64 i, .int .i64 s, .bool g]] w fun e w' => e = .returned (.bool (hsB bl BF n i s g)) ∧ Below w.heap.size w w' := by
  have b0 := balloc (.cells #[.int .i64 n, .int .i64 i, .int .i64 s, .bool g] 59) (balloc (.cells #[.slice na nl nc, .slice ra rl rc, .slice sa sl sc, .slice ba bl bc] 34) (Below.refl w.heap.size w))
  have X := (Ws.box (w := w) #[.slice na nl nc, .slice ra rl rc, .slice sa sl sc, .slice ba bl bc] 34).alloc (.cells #[.int .i64 n, .int .i64 i, .int .i64 s, .bool g] 59)
  have Y := Ws.box (w := w.alloc (.cells #[.slice na nl nc, .slice ra rl rc, .slice sa sl sc, .slice ba bl bc] 34)) #[.int .i64 n, .int .i64 i, .int .i64 s, .bool g] 59
  have hs : (w.alloc (.cells #[.slice na nl nc, .slice ra rl rc, .slice sa sl sc, .slice ba bl bc] 34)).heap.size = w.heap.size + 1 := by simp [go_sem]
  rw [hs] at Y
  go_enter Tryz.func72, Tryz.ntmps72
  go_upto_region 1 with fail
  generalize (w.alloc (.cells #[.slice na nl nc, .slice ra rl rc, .slice sa sl sc, .slice ba bl bc] 34)).alloc (.cells #[.int .i64 n, .int .i64 i, .int .i64 s, .bool g] 59) = u at *
  have h0 := hB.below b0
  have d3 := X.c 3 (.slice ba bl bc) rfl
  have e0 := Y.c 0 (.int .i64 n) rfl
  have e1 := Y.c 1 (.int .i64 i) rfl
  have e2 := Y.c 2 (.int .i64 s) rfl
  have e3 := Y.c 3 (.bool g) rfl
  clear X Y hB hs
  go_wp2_with fail
  refine (scon_any ba bl bc BF n i s g _ h0 hl).mono ?_
  rintro e w1 ⟨rfl, b1⟩
  clear e0 e1 e2 e3 d3
  go_wp2
  go_ret
  exact ⟨rfl, btrans b0 b1⟩
set_option maxRecDepth 20000 in
theorem ibClo_any (n i s : Int) (g : Bool) (na : Option Addr) (nl nc : Nat) (ra : Option Addr) (rl rc : Nat) (sa : Option Addr) (sl sc : Nat) (ba : Option Addr) (bl bc : Nat) (BF : Nat → Fc) (pb : Nat) (w : World) (hp : w.cell? ⟨pb, 0, none⟩ = some (.func (.func 72) #[.agg #[.slice na nl nc, .slice ra rl rc, .slice sa sl sc, .slice ba bl bc]] #[])) (hB : FSl w ba bl BF) (hBl : bl ≤ 1048576)  (b : Bool) (hb : hsB bl BF n i s g = b) :
    Calls Tryz.prog 74 #[.agg #[.int .i64 n, .int .i64 i, .int .i64 s, .bool g], .pointer (some ⟨pb, 0, none⟩)] w fun r w' => r = .returned (.bool (!b)) ∧ Below w.heap.size w w' := by
  have hb' : Hid (hsB bl BF n i s g = b) := hb
  clear hb
  have b0 := balloc (.cells #[.int .i64 n, .int .i64 i, .int .i64 s, .bool g] 59) (Below.refl w.heap.size w)
  have X := Ws.box (w := w) #[.int .i64 n, .int .i64 i, .int .i64 s, .bool g] 59
  have dp := keep_alloc (.cells #[.int .i64 n, .int .i64 i, .int .i64 s, .bool g] 59) hp
  have hB' := hB.below b0
  go_enter Tryz.func74, Tryz.ntmps74
  go_upto_region 1 with fail
  generalize w.alloc (.cells #[.int .i64 n, .int .i64 i, .int .i64 s, .bool g] 59) = u at *
  have ee0 := X.c 0 (.int .i64 n) rfl
  have ee1 := X.c 1 (.int .i64 i) rfl
  have ee2 := X.c 2 (.int .i64 s) rfl
  have ee3 := X.c 3 (.bool g) rfl
  clear X
  go_wp2_with fail
  refine (isb_any na nl nc ra rl rc sa sl sc ba bl bc BF n i s g _ hB' hBl).mono ?_
  rintro r w2 ⟨rfl, k2⟩
  rw [hb'.out]
  clear dp hp ee0 ee1 ee2 ee3
  go_wp2
  go_ret
  exact ⟨rfl, btrans b0 k2⟩
/-- all are among those that were told first -/
def ibA (bl : Nat) (BF : Nat → Fc) (len : Nat) (G : Nat → Fc) : Bool := decide (∀ k, k < len → hsB bl BF (G k).n (G k).i (G k).s (G k).g = true)
set_option maxRecDepth 20000 in
set_option maxHeartbeats 1000000 in
theorem ibIdx_any (a : Option Addr) (len cap : Nat) (G : Nat → Fc) (na : Option Addr) (nl nc : Nat) (ra : Option Addr) (rl rc : Nat) (sa : Option Addr) (sl sc : Nat) (ba : Option Addr) (bl bc : Nat) (BF : Nat → Fc) (pb : Nat) (w : World) (hG : FSl w a len G) (hm : len ≤ 1048576)  (hp : w.cell? ⟨pb, 0, none⟩ = some (.func (.func 72) #[.agg #[.slice na nl nc, .slice ra rl rc, .slice sa sl sc, .slice ba bl bc]] #[])) (hB : FSl w ba bl BF) (hBl : bl ≤ 1048576) :
    Calls Tryz.prog 112 #[.slice a len cap, .func (.func 74) #[] #[.pointer (some ⟨pb, 0, none⟩)]] w fun e w' => ∃ r : Int, e = .returned (.int .i64 r) ∧ ((ibA bl BF len G = true ∧ r = -1) ∨ (ibA bl BF len G = false ∧ 0 ≤ r)) ∧ Below w.heap.size w w' := by
  go_enter Tryz.func112, Tryz.ntmps112
  go_wp2
  go_loopw [5, 8] (fun _ i wr => ∃ k : Nat, k ≤ len ∧ i = .int .i64 k ∧ Below w.heap.size w wr ∧ (∀ j, j < k → hsB bl BF (G j).n (G j).i (G j).s (G j).g = true)) (fun _ i _ => len - (intOf i).toNat)
  case atStart => exact ⟨0, by omega, rfl, Below.refl _ _, fun j h1 => by omega⟩
  case round =>
    obtain ⟨k, hk, rfl, hb, hall⟩ := hrel
    by_cases hlt : k < len
    · obtain ⟨b, off, rfl, hbl, hf⟩ := hG (by omega)
      obtain ⟨c0, c1, c2, c3⟩ := (hf.below hb hbl) k hlt
      have i0 : (0 : Int) ≤ (k : Int) := by omega
      have i1 : (k : Int) < (len : Int) := by omega
      have hpr := keep_below hb hp
      have hBr := hB.below hb
      cases ho : hsB bl BF (G k).n (G k).i (G k).s (G k).g
      · have ho' : Hid (hsB bl BF (G k).n (G k).i (G k).s (G k).g = false) := ho
        clear ho
        go_wp2_with (go_at_call 74; refine (ibClo_any _ _ _ _ na nl nc ra rl rc sa sl sc ba bl bc BF pb _ hpr hBr hBl  false ho'.out).mono ?_; rintro e w1 ⟨rfl, b1⟩)
        go_ret
        refine ⟨k, rfl, .inr ⟨?_, by omega⟩, btrans hb b1⟩
        unfold ibA
        refine decide_eq_false fun h => ?_
        have h1 := h k hlt
        rw [ho'.out] at h1
        cases h1
      · have ho' : Hid (hsB bl BF (G k).n (G k).i (G k).s (G k).g = true) := ho
        clear ho
        go_wp2_with (go_at_call 74; refine (ibClo_any _ _ _ _ na nl nc ra rl rc sa sl sc ba bl bc BF pb _ hpr hBr hBl  true ho'.out).mono ?_; rintro e w1 ⟨rfl, b1⟩)
        go_roundw
        case rel => exact ⟨k + 1, by omega, by go_num, btrans hb b1, fun j hj => by
          by_cases e : j = k
          · subst e; exact ho'.out
          · exact hall j (by omega)⟩
        case measure => simp [intOf]; omega
    · go_wp2
      go_ret
      refine ⟨-1, rfl, .inl ⟨?_, rfl⟩, hb⟩
      unfold ibA
      rw [decide_eq_true_iff]
      exact fun j hj => hall j (by omega)
theorem ibCont_any (a : Option Addr) (len cap : Nat) (G : Nat → Fc) (na : Option Addr) (nl nc : Nat) (ra : Option Addr) (rl rc : Nat) (sa : Option Addr) (sl sc : Nat) (ba : Option Addr) (bl bc : Nat) (BF : Nat → Fc) (pb : Nat) (w : World) (hG : FSl w a len G) (hm : len ≤ 1048576)  (hp : w.cell? ⟨pb, 0, none⟩ = some (.func (.func 72) #[.agg #[.slice na nl nc, .slice ra rl rc, .slice sa sl sc, .slice ba bl bc]] #[])) (hB : FSl w ba bl BF) (hBl : bl ≤ 1048576) :
    Calls Tryz.prog 73 #[.slice a len cap, .func (.func 74) #[] #[.pointer (some ⟨pb, 0, none⟩)]] w fun e w' => e = .returned (.bool (!ibA bl BF len G)) ∧ Below w.heap.size w w' := by
  go_enter Tryz.func73, Tryz.ntmps73
  go_wp2_with fail
  refine (ibIdx_any a len cap G na nl nc ra rl rc sa sl sc ba bl bc BF pb _ hG hm  hp hB hBl).mono ?_
  rintro e w1 ⟨r, rfl, hr, b1⟩
  rcases hr with ⟨hs, rfl⟩ | ⟨hs, hr⟩
  · have hs' : Hid (ibA bl BF len G = true) := hs
    clear hs
    go_wp2
    go_ret
    exact ⟨ret_bool (by rw [hs'.out]; rfl), b1⟩
  · have hs' : Hid (ibA bl BF len G = false) := hs
    clear hs
    go_wp2
    go_ret
    exact ⟨ret_bool (by rw [hs'.out]; simp <;> omega), b1⟩
theorem ibAll_any (a : Option Addr) (len cap : Nat) (G : Nat → Fc) (na : Option Addr) (nl nc : Nat) (ra : Option Addr) (rl rc : Nat) (sa : Option Addr) (sl sc : Nat) (ba : Option Addr) (bl bc : Nat) (BF : Nat → Fc) (w : World) (hG : FSl w a len G) (hm : len ≤ 1048576)  (hB : FSl w ba bl BF) (hBl : bl ≤ 1048576) :
    Calls Tryz.prog 37 #[.slice a len cap, (.func (.func 72) #[.agg #[.slice na nl nc, .slice ra rl rc, .slice sa sl sc, .slice ba bl bc]] #[])] w fun e w' => e = .returned (.bool (ibA bl BF len G)) ∧ Below w.heap.size w w' := by
  have b0 := balloc (.cells #[(.func (.func 72) #[.agg #[.slice na nl nc, .slice ra rl rc, .slice sa sl sc, .slice ba bl bc]] #[])] 57) (Below.refl w.heap.size w)
  have X := Ws.box (w := w) #[(.func (.func 72) #[.agg #[.slice na nl nc, .slice ra rl rc, .slice sa sl sc, .slice ba bl bc]] #[])] 57
  have dp := X.c 0 (.func (.func 72) #[.agg #[.slice na nl nc, .slice ra rl rc, .slice sa sl sc, .slice ba bl bc]] #[]) rfl
  have hB' := hB.below b0
  go_enter Tryz.func37, Tryz.ntmps37
  go_upto_region 1 with fail
  generalize w.alloc (.cells #[(.func (.func 72) #[.agg #[.slice na nl nc, .slice ra rl rc, .slice sa sl sc, .slice ba bl bc]] #[])] 57) = u at *
  clear X
  go_wp2_with fail
  refine (ibCont_any a len cap G na nl nc ra rl rc sa sl sc ba bl bc BF _ _ (hG.below b0) hm  dp hB' hBl).mono ?_
  rintro e w1 ⟨rfl, b1⟩
  clear dp
  go_wp2
  go_ret
  exact ⟨ret_bool (by simp), btrans b0 b1⟩
/-- who is suspected lived, who is dead was suspected -/
def forB (bl : Nat) (BF : Nat → Fc) (n i s : Int) (g : Bool) : Bool := if s = 2 ∨ s = 3 then hsB bl BF n i (s - 1) g else true
set_option maxRecDepth 20000 in
set_option maxHeartbeats 4000000 in
theorem fore_any (na : Option Addr) (nl nc : Nat) (ra : Option Addr) (rl rc : Nat) (sa : Option Addr) (sl sc : Nat) (ba : Option Addr) (bl bc : Nat) (BF : Nat → Fc) (n i s : Int) (g : Bool) (w : World) (hB : FSl w ba bl BF) (hl : bl ≤ 1048576) :
    Calls Tryz.prog 38 #[.agg #[.slice na nl nc, .slice ra rl rc, .slice sa sl sc, .slice ba bl bc], .agg #[.int .i64 n, .int .i64 i, .int .i64 s, .bool g]] w fun e w' => e = .returned (.bool (forB bl BF n i s g)) ∧ Below w.heap.size w w' := by
  go_enter Tryz.func38, Tryz.ntmps38
  by_cases h2 : s = 2
  · subst h2
    go_wp2_with fail
    refine (isb_any na nl nc ra rl rc sa sl sc ba bl bc BF n i 1 g _ ?hb hl).mono ?_
    case hb => refine hB.below ?_; repeat (first | exact Below.refl _ _ | refine balloc _ ?_ | refine Below.setCell ?_ (by simp [go_sem]) _)
    rintro e w1 ⟨rfl, b1⟩
    obtain ⟨q, hq⟩ : ∃ q, Hid (hsB bl BF n i 1 g = q) := ⟨_, rfl⟩
    have hf : Hid (forB bl BF n i 2 g = q) := by rw [← hq.out]; simp [Hid, forB]
    rw [hq.out]
    clear hq
    have b2 := btrans (a := w) (by repeat (first | exact Below.refl _ _ | refine balloc _ ?_ | refine Below.setCell ?_ (by simp [go_sem]) _)) b1
    clear b1
    go_wp2
    go_ret
    exact ⟨ret_bool hf.out.symm, b2⟩
  by_cases h3 : s = 3
  · subst h3
    go_wp2_with fail
    refine (isb_any na nl nc ra rl rc sa sl sc ba bl bc BF n i 2 g _ ?hb hl).mono ?_
    case hb => refine hB.below ?_; repeat (first | exact Below.refl _ _ | refine balloc _ ?_ | refine Below.setCell ?_ (by simp [go_sem]) _)
    rintro e w1 ⟨rfl, b1⟩
    obtain ⟨q, hq⟩ : ∃ q, Hid (hsB bl BF n i 2 g = q) := ⟨_, rfl⟩
    have hf : Hid (forB bl BF n i 3 g = q) := by rw [← hq.out]; simp [Hid, forB]
    rw [hq.out]
    clear hq
    have b2 := btrans (a := w) (by repeat (first | exact Below.refl _ _ | refine balloc _ ?_ | refine Below.setCell ?_ (by simp [go_sem]) _)) b1
    clear b1
    go_wp2
    go_ret
    exact ⟨ret_bool hf.out.symm, b2⟩
  have hf : Hid (forB bl BF n i s g = true) := by unfold Hid forB; rw [if_neg (by omega)]
  have z2 : (s != 2) = true := by simpa using h2
  have z3 : (s != 3) = true := by simpa using h3
  go_wp2
  go_ret
  exact ⟨ret_bool hf.out.symm, by repeat (first | exact Below.refl _ _ | refine balloc _ ?_ | refine Below.setCell ?_ (by simp [go_sem]) _)⟩
set_option maxRecDepth 20000 in
theorem foClo_any (n i s : Int) (g : Bool) (na : Option Addr) (nl nc : Nat) (ra : Option Addr) (rl rc : Nat) (sa : Option Addr) (sl sc : Nat) (ba : Option Addr) (bl bc : Nat) (BF : Nat → Fc) (pb : Nat) (w : World) (hp : w.cell? ⟨pb, 0, none⟩ = some (.func (.func 38) #[.agg #[.slice na nl nc, .slice ra rl rc, .slice sa sl sc, .slice ba bl bc]] #[])) (hB : FSl w ba bl BF) (hBl : bl ≤ 1048576)  (b : Bool) (hb : forB bl BF n i s g = b) :
    Calls Tryz.prog 74 #[.agg #[.int .i64 n, .int .i64 i, .int .i64 s, .bool g], .pointer (some ⟨pb, 0, none⟩)] w fun r w' => r = .returned (.bool (!b)) ∧ Below w.heap.size w w' := by
  have hb' : Hid (forB bl BF n i s g = b) := hb
  clear hb
  have b0 := balloc (.cells #[.int .i64 n, .int .i64 i, .int .i64 s, .bool g] 59) (Below.refl w.heap.size w)
  have X := Ws.box (w := w) #[.int .i64 n, .int .i64 i, .int .i64 s, .bool g] 59
  have dp := keep_alloc (.cells #[.int .i64 n, .int .i64 i, .int .i64 s, .bool g] 59) hp
  have hB' := hB.below b0
  go_enter Tryz.func74, Tryz.ntmps74
  go_upto_region 1 with fail
  generalize w.alloc (.cells #[.int .i64 n, .int .i64 i, .int .i64 s, .bool g] 59) = u at *
  have ee0 := X.c 0 (.int .i64 n) rfl
  have ee1 := X.c 1 (.int .i64 i) rfl
  have ee2 := X.c 2 (.int .i64 s) rfl
  have ee3 := X.c 3 (.bool g) rfl
  clear X
  go_wp2_with fail
  refine (fore_any na nl nc ra rl rc sa sl sc ba bl bc BF n i s g _ hB' hBl).mono ?_
  rintro r w2 ⟨rfl, k2⟩
  rw [hb'.out]
  clear dp hp ee0 ee1 ee2 ee3
  go_wp2
  go_ret
  exact ⟨rfl, btrans b0 k2⟩
/-- nobody suspected who had not lived, nobody dead who was not suspected -/
def foA (bl : Nat) (BF : Nat → Fc) (len : Nat) (G : Nat → Fc) : Bool := decide (∀ k, k < len → forB bl BF (G k).n (G k).i (G k).s (G k).g = true)
set_option maxRecDepth 20000 in
set_option maxHeartbeats 1000000 in
theorem foIdx_any (a : Option Addr) (len cap : Nat) (G : Nat → Fc) (na : Option Addr) (nl nc : Nat) (ra : Option Addr) (rl rc : Nat) (sa : Option Addr) (sl sc : Nat) (ba : Option Addr) (bl bc : Nat) (BF : Nat → Fc) (pb : Nat) (w : World) (hG : FSl w a len G) (hm : len ≤ 1048576)  (hp : w.cell? ⟨pb, 0, none⟩ = some (.func (.func 38) #[.agg #[.slice na nl nc, .slice ra rl rc, .slice sa sl sc, .slice ba bl bc]] #[])) (hB : FSl w ba bl BF) (hBl : bl ≤ 1048576) :
    Calls Tryz.prog 112 #[.slice a len cap, .func (.func 74) #[] #[.pointer (some ⟨pb, 0, none⟩)]] w fun e w' => ∃ r : Int, e = .returned (.int .i64 r) ∧ ((foA bl BF len G = true ∧ r = -1) ∨ (foA bl BF len G = false ∧ 0 ≤ r)) ∧ Below w.heap.size w w' := by
  go_enter Tryz.func112, Tryz.ntmps112
  go_wp2
  go_loopw [5, 8] (fun _ i wr => ∃ k : Nat, k ≤ len ∧ i = .int .i64 k ∧ Below w.heap.size w wr ∧ (∀ j, j < k → forB bl BF (G j).n (G j).i (G j).s (G j).g = true)) (fun _ i _ => len - (intOf i).toNat)
  case atStart => exact ⟨0, by omega, rfl, Below.refl _ _, fun j h1 => by omega⟩
  case round =>
    obtain ⟨k, hk, rfl, hb, hall⟩ := hrel
    by_cases hlt : k < len
    · obtain ⟨b, off, rfl, hbl, hf⟩ := hG (by omega)
      obtain ⟨c0, c1, c2, c3⟩ := (hf.below hb hbl) k hlt
      have i0 : (0 : Int) ≤ (k : Int) := by omega
      have i1 : (k : Int) < (len : Int) := by omega
      have hpr := keep_below hb hp
      have hBr := hB.below hb
      cases ho : forB bl BF (G k).n (G k).i (G k).s (G k).g
      · have ho' : Hid (forB bl BF (G k).n (G k).i (G k).s (G k).g = false) := ho
        clear ho
        go_wp2_with (go_at_call 74; refine (foClo_any _ _ _ _ na nl nc ra rl rc sa sl sc ba bl bc BF pb _ hpr hBr hBl  false ho'.out).mono ?_; rintro e w1 ⟨rfl, b1⟩)
        go_ret
        refine ⟨k, rfl, .inr ⟨?_, by omega⟩, btrans hb b1⟩
        unfold foA
        refine decide_eq_false fun h => ?_
        have h1 := h k hlt
        rw [ho'.out] at h1
        cases h1
      · have ho' : Hid (forB bl BF (G k).n (G k).i (G k).s (G k).g = true) := ho
        clear ho
        go_wp2_with (go_at_call 74; refine (foClo_any _ _ _ _ na nl nc ra rl rc sa sl sc ba bl bc BF pb _ hpr hBr hBl  true ho'.out).mono ?_; rintro e w1 ⟨rfl, b1⟩)
        go_roundw
        case rel => exact ⟨k + 1, by omega, by go_num, btrans hb b1, fun j hj => by
          by_cases e : j = k
          · subst e; exact ho'.out
          · exact hall j (by omega)⟩
        case measure => simp [intOf]; omega
    · go_wp2
      go_ret
      refine ⟨-1, rfl, .inl ⟨?_, rfl⟩, hb⟩
      unfold foA
      rw [decide_eq_true_iff]
      exact fun j hj => hall j (by omega)
theorem foCont_any (a : Option Addr) (len cap : Nat) (G : Nat → Fc) (na : Option Addr) (nl nc : Nat) (ra : Option Addr) (rl rc : Nat) (sa : Option Addr) (sl sc : Nat) (ba : Option Addr) (bl bc : Nat) (BF : Nat → Fc) (pb : Nat) (w : World) (hG : FSl w a len G) (hm : len ≤ 1048576)  (hp : w.cell? ⟨pb, 0, none⟩ = some (.func (.func 38) #[.agg #[.slice na nl nc, .slice ra rl rc, .slice sa sl sc, .slice ba bl bc]] #[])) (hB : FSl w ba bl BF) (hBl : bl ≤ 1048576) :
    Calls Tryz.prog 73 #[.slice a len cap, .func (.func 74) #[] #[.pointer (some ⟨pb, 0, none⟩)]] w fun e w' => e = .returned (.bool (!foA bl BF len G)) ∧ Below w.heap.size w w' := by
  go_enter Tryz.func73, Tryz.ntmps73
  go_wp2_with fail
  refine (foIdx_any a len cap G na nl nc ra rl rc sa sl sc ba bl bc BF pb _ hG hm  hp hB hBl).mono ?_
  rintro e w1 ⟨r, rfl, hr, b1⟩
  rcases hr with ⟨hs, rfl⟩ | ⟨hs, hr⟩
  · have hs' : Hid (foA bl BF len G = true) := hs
    clear hs
    go_wp2
    go_ret
    exact ⟨ret_bool (by rw [hs'.out]; rfl), b1⟩
  · have hs' : Hid (foA bl BF len G = false) := hs
    clear hs
    go_wp2
    go_ret
    exact ⟨ret_bool (by rw [hs'.out]; simp <;> omega), b1⟩
theorem foAll_any (a : Option Addr) (len cap : Nat) (G : Nat → Fc) (na : Option Addr) (nl nc : Nat) (ra : Option Addr) (rl rc : Nat) (sa : Option Addr) (sl sc : Nat) (ba : Option Addr) (bl bc : Nat) (BF : Nat → Fc) (w : World) (hG : FSl w a len G) (hm : len ≤ 1048576)  (hB : FSl w ba bl BF) (hBl : bl ≤ 1048576) :
    Calls Tryz.prog 37 #[.slice a len cap, (.func (.func 38) #[.agg #[.slice na nl nc, .slice ra rl rc, .slice sa sl sc, .slice ba bl bc]] #[])] w fun e w' => e = .returned (.bool (foA bl BF len G)) ∧ Below w.heap.size w w' := by
  have b0 := balloc (.cells #[(.func (.func 38) #[.agg #[.slice na nl nc, .slice ra rl rc, .slice sa sl sc, .slice ba bl bc]] #[])] 57) (Below.refl w.heap.size w)
  have X := Ws.box (w := w) #[(.func (.func 38) #[.agg #[.slice na nl nc, .slice ra rl rc, .slice sa sl sc, .slice ba bl bc]] #[])] 57
  have dp := X.c 0 (.func (.func 38) #[.agg #[.slice na nl nc, .slice ra rl rc, .slice sa sl sc, .slice ba bl bc]] #[]) rfl
  have hB' := hB.below b0
  go_enter Tryz.func37, Tryz.ntmps37
  go_upto_region 1 with fail
  generalize w.alloc (.cells #[(.func (.func 38) #[.agg #[.slice na nl nc, .slice ra rl rc, .slice sa sl sc, .slice ba bl bc]] #[])] 57) = u at *
  clear X
  go_wp2_with fail
  refine (foCont_any a len cap G na nl nc ra rl rc sa sl sc ba bl bc BF _ _ (hG.below b0) hm  dp hB' hBl).mono ?_
  rintro e w1 ⟨rfl, b1⟩
  clear dp
  go_wp2
  go_ret
  exact ⟨ret_bool (by simp), btrans b0 b1⟩
end Go.Proofs.YthekjfdggfbelaaGreat
/- What somebody told first: what the model asks. -/
namespace Go.Proofs.YthekjfdggfbelaaGreat
open Go.ChangeShapes Go.WideShapes Go.ChangeAt Go.RowKit
attribute [local go_sem ↓] Go.wp_at_zero Go.wp_at_succ
def s34_4 : List Stp := [⟨some 12, .fieldAddr 34 (.tmp 2) 3, 0, none, 0⟩, ⟨some 13, .load 32 (.tmp 12), 32, none, 0⟩, ⟨some 14, .move (.tmp 1), 32, none, 0⟩, ⟨some 15, .move (.tmp 5), 3, none, 0⟩, ⟨some 16, .indexAddr 32 (.tmp 14) (.tmp 15), 0, none, 0⟩, ⟨some 17, .load 59 (.tmp 16), 59, none, 0⟩, ⟨some 18, .call { callee := .value (.func 68), args := #[.tmp 13, .tmp 17], argTypes := #[32, 59] }, 4, none, 1⟩, ⟨some 19, .unOp .not 4 (.tmp 18), 4, none, 0⟩]
def t34_4 : List (Nat × Nat) := [(0, 0), (1, 0), (2, 0), (3, 0), (4, 0), (5, 0), (6, 1), (7, 0)]
set_option maxRecDepth 20000 in
set_option maxHeartbeats 4000000 in
theorem known_any (na : Option Addr) (nl nc : Nat) (ra : Option Addr) (rl rc : Nat) (sa : Option Addr) (sl sc : Nat) (ba : Option Addr) (bl bc : Nat) (BF : Nat → Fc) (a : Option Addr) (len cap : Nat) (F : Nat → Fc) (w : World) (hB : FSl w ba bl BF) (hbl : bl ≤ 1048576) (h : FSl w a len F) (hl : len ≤ 1048576) :
    Calls Tryz.prog 34 #[.agg #[.slice na nl nc, .slice ra rl rc, .slice sa sl sc, .slice ba bl bc], .slice a len cap] w fun e w' => e = .returned (.bool (ibA bl BF len F)) ∧ Below w.heap.size w w' := by
  have b0 := balloc (.cells #[.slice na nl nc, .slice ra rl rc, .slice sa sl sc, .slice ba bl bc] 34) (Below.refl w.heap.size w)
  have X := Ws.box (w := w) #[.slice na nl nc, .slice ra rl rc, .slice sa sl sc, .slice ba bl bc] 34
  go_enter Tryz.func34, Tryz.ntmps34
  go_upto_region 1 with fail
  generalize w.alloc (.cells #[.slice na nl nc, .slice ra rl rc, .slice sa sl sc, .slice ba bl bc] 34) = u at *
  have h0 := h.below b0
  have hB0 := hB.below b0
  have d3 := X.c 3 (.slice ba bl bc) rfl
  clear X h hB
  go_wp2
  go_loopw [5] (fun i0 wr => ∃ k : Nat, k ≤ len ∧ i0 = .int .i64 k ∧ Below u.heap.size u wr ∧ (∀ j, j < k → hsB bl BF (F j).n (F j).i (F j).s (F j).g = true)) (fun i0 _ => len - (intOf i0).toNat)
  case atStart => exact ⟨0, by omega, rfl, Below.refl _ _, fun j h1 => by omega⟩
  case round =>
    obtain ⟨k, hk, rfl, hb, hall⟩ := hrel
    by_cases hlt : k < len
    · obtain ⟨b, off, rfl, _, hf⟩ := (h0.below hb) (by omega)
      obtain ⟨c0, c1, c2, c3⟩ := hf k hlt
      have i0 : (0 : Int) ≤ (k : Int) := by omega
      have i1 : (k : Int) < (len : Int) := by omega
      have hn : Hid (hsB bl BF (F k).n (F k).i (F k).s (F k).g = false → ibA bl BF len F = false) := fun q => decide_eq_false fun hh => by
        rw [hh k hlt] at q
        cases q
      have hy : Hid (hsB bl BF (F k).n (F k).i (F k).s (F k).g = true → ∀ j, j < k + 1 → hsB bl BF (F j).n (F j).i (F j).s (F j).g = true) := fun q j hj => by
        by_cases e : j = k
        · subst e; exact q
        · exact hall j (by omega)
      clear hall hf hlt
      obtain ⟨x, hx⟩ : ∃ x, Hid (F k = x) := ⟨_, rfl⟩
      rw [hx.out] at hy hn c0 c1 c2 c3
      clear hx
      obtain ⟨n, i, s, g⟩ := x
      dsimp only at hy hn c0 c1 c2 c3
      obtain ⟨v, hv⟩ : ∃ v, Hid (hsB bl BF n i s g = v) := ⟨_, rfl⟩
      rw [hv.out] at hy hn
      have ct : ∀ w1, Below wr.heap.size wr w1 → Calls Tryz.prog 68 #[.slice ba bl bc, .agg #[.int .i64 n, .int .i64 i, .int .i64 s, .bool g]] w1 fun r w' => r = .returned (.bool v) ∧ Below w1.heap.size w1 w' := fun w1 q => by
        rw [← hv.out]
        exact sborn_any ba bl bc BF n i s g w1 ((hB0.below hb).below q) hbl
      clear hv
      have hrc := range4 c0 c1 c2 c3
      have x3 := keep_below hb d3
      clear c0 c1 c2 c3
      go_upto_region 4 with fail
      refine wp_region_q s34_4 t34_4 (fun hbq => ?_)
      refine qY ?_
      refine qL ?_
      iterate 3 refine qY ?_
      refine qR ?_
      refine qC (fun K hK => ?_)
      go_simp
      refine (ct _ hbq).mono ?_; rintro r w1 ⟨rfl, k1⟩
      go_wp2_with fail
      refine hK.out _ _ (btrans hbq k1) (.inl ?_)
      clear hK K
      replace hbq := btrans hbq k1
      clear k1
      try simp only [putQ]
      refine qY ?_
      refine qE ?_
      have hb1 := btrans hb hbq
      clear hrc x3 ct hbq
      cases v
      · have hn' : Hid (ibA bl BF len F = false) := hn.out rfl
        clear hn hy
        go_wp2
        go_ret
        exact ⟨ret_bool hn'.out.symm, btrans b0 hb1⟩
      · have hy' := hy.out rfl
        clear hn hy
        go_wp2
        go_roundw
        case rel => exact ⟨k + 1, by omega, by go_num, hb1, hy'⟩
        case measure => simp [intOf]; omega
    · have e : k = len := by omega
      subst e
      have hn2 : Hid (ibA bl BF k F = true) := decide_eq_true hall
      clear hall hlt hk
      go_wp2
      go_ret
      exact ⟨ret_bool hn2.out.symm, btrans b0 hb⟩
set_option maxRecDepth 20000 in
set_option maxHeartbeats 8000000 in
theorem fair_any (a : Option Addr) (len cap : Nat) (F : Nat → Fc) (w : World) (h : FSl w a len F) (hl : len ≤ 1048576) (hs : ∀ k, k < len → (F k).s = 1 ∨ (F k).s = 2 ∨ (F k).s = 3 ∨ (F k).s = 4) :
    Calls Tryz.prog 33 #[.slice a len cap] w fun e w' => e = .returned (.bool (foA len F len F)) ∧ Below w.heap.size w w' := by
  go_enter Tryz.func33, Tryz.ntmps33
  go_wp2
  go_loopw [3] (fun i0 wr => ∃ k : Nat, k ≤ len ∧ i0 = .int .i64 k ∧ Below w.heap.size w wr ∧ (∀ j, j < k → forB len F (F j).n (F j).i (F j).s (F j).g = true)) (fun i0 _ => len - (intOf i0).toNat)
  case atStart => exact ⟨0, by omega, rfl, Below.refl _ _, fun j h1 => by omega⟩
  case round =>
    obtain ⟨k, hk, rfl, hb, hall⟩ := hrel
    by_cases hlt : k < len
    · obtain ⟨b, off, rfl, _, hf⟩ := (h.below hb) (by omega)
      obtain ⟨c0, c1, c2, c3⟩ := hf k hlt
      have hsk := hs k hlt
      have i0 : (0 : Int) ≤ (k : Int) := by omega
      have i1 : (k : Int) < (len : Int) := by omega
      have hn : Hid (forB len F (F k).n (F k).i (F k).s (F k).g = false → foA len F len F = false) := fun q => decide_eq_false fun hh => by
        rw [hh k hlt] at q
        cases q
      have hy : Hid (forB len F (F k).n (F k).i (F k).s (F k).g = true → ∀ j, j < k + 1 → forB len F (F j).n (F j).i (F j).s (F j).g = true) := fun q j hj => by
        by_cases e : j = k
        · subst e; exact q
        · exact hall j (by omega)
      clear hall hf hlt
      obtain ⟨x, hx⟩ : ∃ x, Hid (F k = x) := ⟨_, rfl⟩
      rw [hx.out] at hy hn c0 c1 c2 c3 hsk
      clear hx
      obtain ⟨n, i, s, g⟩ := x
      dsimp only at hy hn c0 c1 c2 c3 hsk
      rcases hsk with h1 | h2 | h3 | h4
      · obtain rfl := h1
        have hu := balloc (.cells #[.int .i64 n, .int .i64 i, .int .i64 1, .bool g] 59) (Below.refl wr.heap.size wr)
        have hy' := hy.out (by simp [forB])
        clear hy hn
        go_upto_region 3 with fail
        generalize wr.alloc (.cells #[.int .i64 n, .int .i64 i, .int .i64 1, .bool g] 59) = u at *
        clear c0 c1 c2 c3
        go_wp2
        go_roundw
        case rel => exact ⟨k + 1, by omega, by go_num, btrans hb hu, hy'⟩
        case measure => simp [intOf]; omega
      · obtain rfl := h2
        have hu := balloc (.cells #[.int .i64 n, .int .i64 i, .int .i64 1, .bool g] 59) (Below.refl wr.heap.size wr)
        have X := Ws.box (w := wr) #[.int .i64 n, .int .i64 i, .int .i64 1, .bool g] 59
        obtain ⟨q, hq⟩ : ∃ q, Hid (hsB len F n i 1 g = q) := ⟨_, rfl⟩
        have hf : Hid (forB len F n i 2 g = q) := by rw [← hq.out]; simp [Hid, forB]
        rw [hf.out] at hy hn
        have ct : ∀ w1, Below wr.heap.size wr w1 → Calls Tryz.prog 68 #[.slice (some ⟨b, off, none⟩) len cap, .agg #[.int .i64 n, .int .i64 i, .int .i64 1, .bool g]] w1 fun r w' => r = .returned (.bool q) ∧ Below w1.heap.size w1 w' := fun w1 z => by
          rw [← hq.out]
          exact sborn_any _ len cap F n i 1 g w1 ((h.below hb).below z) hl
        clear hf hq
        go_upto_region 7 with fail
        generalize wr.alloc (.cells #[.int .i64 n, .int .i64 i, .int .i64 1, .bool g] 59) = u at *
        clear c0 c1 c2 c3
        have e0 := X.c 0 (.int .i64 n) rfl
        have e1 := X.c 1 (.int .i64 i) rfl
        have e2 := X.c 2 (.int .i64 1) rfl
        have e3 := X.c 3 (.bool g) rfl
        clear X
        go_wp2_with fail
        refine (ct _ hu).mono ?_
        rintro e w1 ⟨rfl, b1⟩
        have b2 := btrans hb (btrans hu b1)
        clear b1 e0 e1 e2 e3 ct
        cases q
        · have hn' : Hid (foA len F len F = false) := hn.out rfl
          clear hn hy
          go_wp2
          go_ret
          exact ⟨ret_bool hn'.out.symm, b2⟩
        · have hy' := hy.out rfl
          clear hn hy
          go_wp2
          go_roundw
          case rel => exact ⟨k + 1, by omega, by go_num, b2, hy'⟩
          case measure => simp [intOf]; omega
      · obtain rfl := h3
        have hu := balloc (.cells #[.int .i64 n, .int .i64 i, .int .i64 2, .bool g] 59) (Below.refl wr.heap.size wr)
        have X := Ws.box (w := wr) #[.int .i64 n, .int .i64 i, .int .i64 2, .bool g] 59
        obtain ⟨q, hq⟩ : ∃ q, Hid (hsB len F n i 2 g = q) := ⟨_, rfl⟩
        have hf : Hid (forB len F n i 3 g = q) := by rw [← hq.out]; simp [Hid, forB]
        rw [hf.out] at hy hn
        have ct : ∀ w1, Below wr.heap.size wr w1 → Calls Tryz.prog 68 #[.slice (some ⟨b, off, none⟩) len cap, .agg #[.int .i64 n, .int .i64 i, .int .i64 2, .bool g]] w1 fun r w' => r = .returned (.bool q) ∧ Below w1.heap.size w1 w' := fun w1 z => by
          rw [← hq.out]
          exact sborn_any _ len cap F n i 2 g w1 ((h.below hb).below z) hl
        clear hf hq
        go_upto_region 7 with fail
        generalize wr.alloc (.cells #[.int .i64 n, .int .i64 i, .int .i64 2, .bool g] 59) = u at *
        clear c0 c1 c2 c3
        have e0 := X.c 0 (.int .i64 n) rfl
        have e1 := X.c 1 (.int .i64 i) rfl
        have e2 := X.c 2 (.int .i64 2) rfl
        have e3 := X.c 3 (.bool g) rfl
        clear X
        go_wp2_with fail
        refine (ct _ hu).mono ?_
        rintro e w1 ⟨rfl, b1⟩
        have b2 := btrans hb (btrans hu b1)
        clear b1 e0 e1 e2 e3 ct
        cases q
        · have hn' : Hid (foA len F len F = false) := hn.out rfl
          clear hn hy
          go_wp2
          go_ret
          exact ⟨ret_bool hn'.out.symm, b2⟩
        · have hy' := hy.out rfl
          clear hn hy
          go_wp2
          go_roundw
          case rel => exact ⟨k + 1, by omega, by go_num, b2, hy'⟩
          case measure => simp [intOf]; omega
      · obtain rfl := h4
        have hu := balloc (.cells #[.int .i64 n, .int .i64 i, .int .i64 4, .bool g] 59) (Below.refl wr.heap.size wr)
        have hy' := hy.out (by simp [forB])
        clear hy hn
        go_upto_region 3 with fail
        generalize wr.alloc (.cells #[.int .i64 n, .int .i64 i, .int .i64 4, .bool g] 59) = u at *
        clear c0 c1 c2 c3
        go_wp2
        go_roundw
        case rel => exact ⟨k + 1, by omega, by go_num, btrans hb hu, hy'⟩
        case measure => simp [intOf]; omega
    · have e : k = len := by omega
      subst e
      have hn2 : Hid (foA k F k F = true) := decide_eq_true hall
      clear hall hlt hk
      go_wp2
      go_ret
      exact ⟨ret_bool hn2.out.symm, hb⟩
end Go.Proofs.YthekjfdggfbelaaGreat
