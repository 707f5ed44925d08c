/- Texts of the proof, laid together: Site, Word. -/
import Derived.Test.YtibnojbhoepcdaaGreatDoorQb2
/- Coordinates that are ok; sites: whether all facts are of one site, the program's way and the model's. -/
namespace Go.Proofs.YtibnojbhoepcdaaGreatDoor
open Go.ChangeShapes Go.WideShapes Go.ChangeAt Go.RowKit
attribute [local go_sem ↓] Go.wp_at_zero Go.wp_at_succ
def cok (x y h e : Int) : Bool := inb x (-100000) 100000 && inb y (-100000) 100000 && inb h 0 100000 && inb e 1 1500
theorem scoord_any (x y h e : Int) (w : World) :
    Calls Tryz.prog 62 #[.agg #[.int .i64 x, .int .i64 y, .int .i64 h, .int .i64 e]] w fun r w' => r = .returned (.bool (cok x y h e)) ∧ Below w.heap.size w w' := by
  go_enter Tryz.func62, Tryz.ntmps62
  go_wp2_with (go_at_call 61; refine (lin_any _ _ _ _).mono ?_; rintro e w' ⟨rfl, rfl⟩)
  all_goals (go_ret; exact ⟨ret_bool (by simp_all [cok]), (Below.refl _ _).alloc (Nat.le_refl _) _⟩)
theorem stand_any (x y h e : Int) (w : World) :
    Calls Tryz.prog 94 #[.agg #[.int .i64 x, .int .i64 y, .int .i64 h, .int .i64 e]] w fun r w' => r = .returned (.agg #[.int .i64 x, .int .i64 y, .int .i64 h, .int .i64 e]) ∧ ∃ o1 o2, w' = (w.alloc o1).alloc o2 := by
  go_enter Tryz.func94, Tryz.ntmps94
  go_wp2
  exact bodyPost_ret (v := .agg #[.int .i64 x, .int .i64 y, .int .i64 h, .int .i64 e]) (by simp [results, Tryz.results94, go_sem]) rfl ⟨rfl, _, _, rfl⟩
theorem fcok_any (x y h e : Int) (w : World) :
    Calls Tryz.prog 59 #[.agg #[.int .i64 x, .int .i64 y, .int .i64 h, .int .i64 e]] w fun r w' => r = .returned (.bool (cok x y h e)) ∧ Below w.heap.size w w' := by
  go_enter Tryz.func59, Tryz.ntmps59
  go_wp2_with (first | (go_at_call 57; refine (within_any _ _ _ _).mono ?_; rintro e w' ⟨rfl, rfl⟩) | (go_at_call 94; refine (stand_any _ _ _ _ _).mono ?_; rintro e w' ⟨rfl, o1, o2, rfl⟩) | (go_at_call 95; go_in) | (go_at_call 96; go_in))
  all_goals (go_ret; refine ⟨ret_bool (by simp_all [cok]), ?_⟩)
  all_goals (repeat (first | exact Below.refl _ _ | refine Below.alloc ?_ (by simp <;> omega) _))
/-- the site of a node -/
def ste (n : Int) : Int := wrap64 (n.tdiv 4)
theorem siteOf_any (n : Int) (w : World) :
    Calls Tryz.prog 98 #[.int .i64 n] w fun r w' => r = .returned (.int .i64 (ste n)) ∧ w' = w := by
  go_enter Tryz.func98, Tryz.ntmps98
  go_wp2
  go_ret
  exact ⟨rfl, rfl⟩
def sitB (len : Nat) (F : Nat → Fc) (st : Int) : Bool := decide (∀ k, k < len → ste (F k).n = st)
set_option maxHeartbeats 1000000 in
theorem ssite_any (a : Option Addr) (len cap : Nat) (F : Nat → Fc) (st : Int) (w : World) (h : FSl w a len F) (hl : len ≤ 1048576) :
    Calls Tryz.prog 63 #[.slice a len cap, .int .i64 st] w fun e w' => e = .returned (.bool (sitB len F st)) ∧ Below w.heap.size w w' := by
  go_enter Tryz.func63, Tryz.ntmps63
  go_wp2
  go_loopw [5] (fun i wr => ∃ k : Nat, k ≤ len ∧ i = .int .i64 k ∧ Below w.heap.size w wr ∧ (∀ j, j < k → ste (F j).n = st)) (fun i _ => len - (intOf i).toNat)
  case atStart => exact ⟨0, by omega, rfl, Below.refl _ _, fun j h1 => by omega⟩
  case round =>
    obtain ⟨k, hk, rfl, hb, hall⟩ := hrel
    by_cases hlt : k < len
    · obtain ⟨b, off, rfl, hbl, hf⟩ := h (by omega)
      obtain ⟨c0, c1, c2, c3⟩ := (hf.below hb hbl) k hlt
      have i0 : (0 : Int) ≤ (k : Int) := by omega
      have i1 : (k : Int) < (len : Int) := by omega
      have hst : wrap64 ((F k).n.tdiv 4) = ste (F k).n := rfl
      by_cases hs : ste (F k).n = st
      · have e1 : ¬ (ste (F k).n ≠ st) := by simp [hs]
        go_wp2
        go_roundw
        case rel => exact ⟨k + 1, by omega, by go_num, hb, fun j hj => by
          by_cases e : j = k
          · subst e; exact hs
          · exact hall j (by omega)⟩
        case measure => simp [intOf]; omega
      · go_wp2
        go_ret
        refine ⟨ret_bool ?_, hb⟩
        unfold sitB
        symm
        exact decide_eq_false fun h => hs (h k hlt)
    · go_wp2
      go_ret
      refine ⟨ret_bool ?_, hb⟩
      unfold sitB
      symm
      rw [decide_eq_true_iff]
      exact fun j hj => hall j (by omega)
/-- whether a fact is of another site -/
def outB (n st : Int) : Bool := ste n != st
theorem clo_any (n i s : Int) (g : Bool) (st : Int) (ps : Nat) (w : World) (hp : w.cell? ⟨ps, 0, none⟩ = some (.int .i64 st)) :
    Calls Tryz.prog 126 #[.agg #[.int .i64 n, .int .i64 i, .int .i64 s, .bool g], .pointer (some ⟨ps, 0, none⟩)] w fun r w' => r = .returned (.bool (outB n st)) ∧ Below w.heap.size w w' := by
  go_enter Tryz.func126, Tryz.ntmps126
  go_wp2_with fail
  have c0 : (w.alloc (.cells #[.int .i64 n, .int .i64 i, .int .i64 s, .bool g] 53)).cell? ⟨w.heap.size, 0, none⟩ = some (.int .i64 n) := by simp [go_sem]
  have c1 := keep_alloc (.cells #[.int .i64 n, .int .i64 i, .int .i64 s, .bool g] 53) hp
  have bw := balloc (.cells #[.int .i64 n, .int .i64 i, .int .i64 s, .bool g] 53) (Below.refl w.heap.size w)
  generalize (w.alloc (.cells #[.int .i64 n, .int .i64 i, .int .i64 s, .bool g] 53)) = W at *
  refine wp_region_held_drew (S := (fun w' => w'.cell? ⟨w.heap.size, 0, none⟩ = some (.int .i64 n) ∧ w'.cell? ⟨ps, 0, none⟩ = some (.int .i64 st))) (by kernel_rfl) ?_ (fun hHeld => ?_)
  · (try dsimp only); (refine ⟨?_, ?_⟩ <;> (repeat (first | with_reducible assumption | with_reducible refine keep_drew ?_ | with_reducible refine keep_below (by assumption) ?_)))
  refine wpAnyH_take (i := 0) (oi := { dst := some 4, op := .fieldAddr 53 (.tmp 2) 0, type := 0, pos := "l4_word.go:198", after := #[], guard := none }) (v := ?_) rfl (by kernel_rfl) (by kernel_rfl) (by kernel_rfl) (fun _ _ _ h => h) (Or.inl ⟨by rfl, ?_⟩) (by assumption) ?_
  rotate_left 1
  · (intro w hSw; (try dsimp only at hSw); go_simp; try with_reducible rfl)
  (try simp only [Act.put, List.setIfInBounds_toArray, List.set_cons_zero, List.set_cons_succ])
  refine wpAnyH_take (i := 1) (oi := { dst := some 5, op := .load 3 (.tmp 4), type := 3, pos := "l4_word.go:198", after := #[{ on := 0, ground := .data }], guard := none }) (v := ?_) rfl (by kernel_rfl) (by kernel_rfl) (by kernel_rfl) (fun _ _ _ h => h) (Or.inl ⟨by rfl, ?_⟩) (by assumption) ?_
  rotate_left 1
  · (intro w hSw; (try dsimp only at hSw); go_simp; try with_reducible rfl)
  (try simp only [Act.put, List.setIfInBounds_toArray, List.set_cons_zero, List.set_cons_succ])
  refine wpAnyH_take (i := 3) (oi := { dst := some 7, op := .load 3 (.tmp 1), type := 3, pos := "l4_word.go:198", after := #[], guard := none }) (v := ?_) rfl (by kernel_rfl) (by kernel_rfl) (by kernel_rfl) (fun _ _ _ h => h) (Or.inl ⟨by rfl, ?_⟩) (by assumption) ?_
  rotate_left 1
  · (intro w hSw; (try dsimp only at hSw); go_simp; try with_reducible rfl)
  (try simp only [Act.put, List.setIfInBounds_toArray, List.set_cons_zero, List.set_cons_succ])
  refine wpAnyH_ready (rs := [2]) (by kernel_rfl) (by simp) ?_
  refine AllReadyH.cons (o := { dst := some 6, op := .call { callee := .value (.func 98), args := #[.tmp 5], argTypes := #[3] }, type := 3, pos := "l4_word.go:198", after := #[{ on := 1, ground := .data }], guard := none }) rfl (fun K hK => ?_) AllReadyH.nil
  go_simp
  (refine (siteOf_any n _).mono ?_; rintro e w1 ⟨rfl, hw⟩; obtain rfl := hw.symm)
  go_wp2_with fail
  refine hK.out _ _ ?_ (fun hHeld => ?_)
  · (try dsimp only); (refine ⟨?_, ?_⟩ <;> (repeat (first | with_reducible assumption | with_reducible refine keep_drew ?_ | with_reducible refine keep_below (by assumption) ?_)))
  clear hK K
  (try simp only [Act.put, List.setIfInBounds_toArray, List.set_cons_zero, List.set_cons_succ])
  refine wpAnyH_take (i := 4) (oi := { dst := some 8, op := .binOp .neq 3 (.tmp 6) (.tmp 7) 3, type := 4, pos := "l4_word.go:198", after := #[{ on := 2, ground := .data }, { on := 3, ground := .data }], guard := none }) (v := ?_) rfl (by kernel_rfl) (by kernel_rfl) (by kernel_rfl) (fun _ _ _ h => h) (Or.inl ⟨by rfl, ?_⟩) (by assumption) ?_
  rotate_left 1
  · (intro w hSw; (try dsimp only at hSw); go_simp; try with_reducible rfl)
  (try simp only [Act.put, List.setIfInBounds_toArray, List.set_cons_zero, List.set_cons_succ])
  refine wpAnyH_take (i := 5) (oi := { dst := some 3, op := .assign (.tmp 8), type := 4, pos := "l4_word.go:198", after := #[{ on := 4, ground := .data }, { on := 2, ground := .chain }, { on := 0, ground := .phase }, { on := 1, ground := .phase }, { on := 2, ground := .phase }, { on := 3, ground := .phase }, { on := 4, ground := .phase }], guard := none }) (v := ?_) rfl (by kernel_rfl) (by kernel_rfl) (by kernel_rfl) (fun _ _ _ h => h) (Or.inl ⟨by rfl, ?_⟩) (by assumption) ?_
  rotate_left 1
  · (intro w hSw; (try dsimp only at hSw); go_simp; try with_reducible rfl)
  (try simp only [Act.put, List.setIfInBounds_toArray, List.set_cons_zero, List.set_cons_succ])
  refine wpAnyH_done (by kernel_rfl) ?_ _
  go_wp2
  go_ret
  exact ⟨rfl, bw.drew⟩
theorem clo_lit (n i s : Int) (g : Bool) (st : Int) (ps : Nat) (b : Bool) (hb : outB n st = b) (w : World) (hp : w.cell? ⟨ps, 0, none⟩ = some (.int .i64 st)) :
    Calls Tryz.prog 126 #[.agg #[.int .i64 n, .int .i64 i, .int .i64 s, .bool g], .pointer (some ⟨ps, 0, none⟩)] w fun r w' => r = .returned (.bool b) ∧ Below w.heap.size w w' := hb ▸ clo_any n i s g st ps w hp
set_option maxHeartbeats 1000000 in
theorem idx_any (a : Option Addr) (len cap : Nat) (F : Nat → Fc) (st : Int) (ps : Nat) (w : World) (h : FSl w a len F) (hl : len ≤ 1048576) (hp : w.cell? ⟨ps, 0, none⟩ = some (.int .i64 st)) :
    Calls Tryz.prog 150 #[.slice a len cap, .func (.func 126) #[] #[.pointer (some ⟨ps, 0, none⟩)]] w fun e w' => ∃ r : Int, e = .returned (.int .i64 r) ∧ ((sitB len F st = true ∧ r = -1) ∨ (sitB len F st = false ∧ 0 ≤ r)) ∧ Below w.heap.size w w' := by
  go_enter Tryz.func150, Tryz.ntmps150
  go_wp2
  go_loopw [5, 8] (fun _ i wr => ∃ k : Nat, k ≤ len ∧ i = .int .i64 k ∧ Below w.heap.size w wr ∧ (∀ j, j < k → ste (F j).n = st)) (fun _ i _ => len - (intOf i).toNat)
  case atStart => exact ⟨0, by omega, rfl, Below.refl _ _, fun j h1 => by omega⟩
  case round =>
    obtain ⟨k, hk, rfl, hb, hall⟩ := hrel
    by_cases hlt : k < len
    · obtain ⟨b, off, rfl, hbl, hf⟩ := h (by omega)
      obtain ⟨c0, c1, c2, c3⟩ := (hf.below hb hbl) k hlt
      have i0 : (0 : Int) ≤ (k : Int) := by omega
      have i1 : (k : Int) < (len : Int) := by omega
      have hpr := keep_below hb hp
      cases ho : outB (F k).n st
      · have ho' : Hid (outB (F k).n st = false) := ho
        clear ho
        go_wp2_with (go_at_call 126; refine (clo_lit _ _ _ _ _ _ false ho'.out _ hpr).mono ?_; rintro e w1 ⟨rfl, b1⟩)
        go_roundw
        case rel => exact ⟨k + 1, by omega, by go_num, btrans hb b1, fun j hj => by
          by_cases e : j = k
          · subst e; have := ho'.out; unfold outB at this; simpa using this
          · exact hall j (by omega)⟩
        case measure => simp [intOf]; omega
      · have ho' : Hid (outB (F k).n st = true) := ho
        clear ho
        go_wp2_with (go_at_call 126; refine (clo_lit _ _ _ _ _ _ true ho'.out _ hpr).mono ?_; rintro e w1 ⟨rfl, b1⟩)
        go_ret
        refine ⟨k, rfl, .inr ⟨?_, by omega⟩, btrans hb b1⟩
        unfold sitB
        refine decide_eq_false fun h => ?_
        have h1 := h k hlt
        have h2 := ho'.out
        unfold outB at h2
        simp [h1] at h2
    · go_wp2
      go_ret
      refine ⟨-1, rfl, .inl ⟨?_, rfl⟩, hb⟩
      unfold sitB
      rw [decide_eq_true_iff]
      exact fun j hj => hall j (by omega)
theorem cont_any (a : Option Addr) (len cap : Nat) (F : Nat → Fc) (st : Int) (ps : Nat) (w : World) (h : FSl w a len F) (hl : len ≤ 1048576) (hp : w.cell? ⟨ps, 0, none⟩ = some (.int .i64 st)) :
    Calls Tryz.prog 125 #[.slice a len cap, .func (.func 126) #[] #[.pointer (some ⟨ps, 0, none⟩)]] w fun e w' => e = .returned (.bool (!sitB len F st)) ∧ Below w.heap.size w w' := by
  go_enter Tryz.func125, Tryz.ntmps125
  go_wp2_with fail
  refine (idx_any a len cap F st ps _ h hl hp).mono ?_
  rintro e w1 ⟨r, rfl, hr, b1⟩
  rcases hr with ⟨hs, rfl⟩ | ⟨hs, hr⟩
  · have hs' : Hid (sitB len F st = true) := hs
    clear hs
    go_wp2
    go_ret
    exact ⟨ret_bool (by rw [hs'.out]; rfl), b1⟩
  · have hs' : Hid (sitB len F st = false) := hs
    clear hs
    go_wp2
    go_ret
    exact ⟨ret_bool (by rw [hs'.out]; simp <;> omega), b1⟩
theorem allOf_any (a : Option Addr) (len cap : Nat) (F : Nat → Fc) (st : Int) (w : World) (h : FSl w a len F) (hl : len ≤ 1048576) :
    Calls Tryz.prog 97 #[.slice a len cap, .int .i64 st] w fun e w' => e = .returned (.bool (sitB len F st)) ∧ Below w.heap.size w w' := by
  go_enter Tryz.func97, Tryz.ntmps97
  go_wp2_with fail
  refine (cont_any a len cap F st _ _ (h.below (balloc _ (Below.refl _ _))) hl (by simp [go_sem])).mono ?_
  rintro e w1 ⟨rfl, b1⟩
  go_wp2
  go_ret
  exact ⟨ret_bool (by simp), btrans (balloc _ (Below.refl _ _)) b1⟩
end Go.Proofs.YtibnojbhoepcdaaGreatDoor
/- Words that are ok: the program's way and the model's. -/
namespace Go.Proofs.YtibnojbhoepcdaaGreatDoor
open Go.ChangeShapes Go.WideShapes Go.ChangeAt Go.RowKit
attribute [local go_sem ↓] Go.wp_at_zero Go.wp_at_succ
/-- the facts' sites are as they should be -/
def wsB (len : Nat) (F : Nat → Fc) (k f : Int) : Bool := if k = 6 then decide (0 < len) && sitB len F (ste (F 0).n) else sitB len F (ste f)
def preB (p k f t s q x y z e : Int) (len : Nat) (F : Nat → Fc) : Bool := inb p 1 2 && inb k 1 6 && inb f 0 7 && inb t 0 7 && inb s 0 999999 && inb q 0 7 && cok x y z e && tokB len F
def wokB (p k f t s q x y z e : Int) (len : Nat) (F : Nat → Fc) : Bool := preB p k f t s q x y z e len F && wsB len F k f
theorem first_cell {w : World} {b off len : Nat} {F : Nat → Fc} (h : FactsIn w b off len F) (hl : 0 < len) : w.cell? ⟨b, off, none⟩ = some (.int .i64 (F 0).n) := by
  have := (h 0 hl).1
  simpa using this
set_option maxRecDepth 10000 in
set_option maxHeartbeats 4000000 in
theorem sites_any (p k f t s q x y z e : Int) (a : Option Addr) (len cap : Nat) (F : Nat → Fc) (w : World) (h : FSl w a len F) (hl : len ≤ 1048576) :
    Calls Tryz.prog 60 #[.agg #[.int .i64 p, .int .i64 k, .int .i64 f, .int .i64 t, .int .i64 s, .int .i64 q, .int .i64 x, .int .i64 y, .int .i64 z, .int .i64 e, (.slice a len cap)]] w fun r w' => r = .returned (.bool (wsB len F k f)) ∧ Below w.heap.size w w' := by
  by_cases hk : k = 6
  · subst hk
    rcases Nat.eq_zero_or_pos len with h0 | h0
    · subst h0
      go_enter Tryz.func60, Tryz.ntmps60
      go_wp2_with fail
      have c0 : (w.alloc (.cells #[.int .i64 p, .int .i64 6, .int .i64 f, .int .i64 t, .int .i64 s, .int .i64 q, .int .i64 x, .int .i64 y, .int .i64 z, .int .i64 e, (.slice a 0 cap)] 35)).cell? ⟨w.heap.size, 0, none⟩ = some (.int .i64 p) := by simp [go_sem]
      have c1 : (w.alloc (.cells #[.int .i64 p, .int .i64 6, .int .i64 f, .int .i64 t, .int .i64 s, .int .i64 q, .int .i64 x, .int .i64 y, .int .i64 z, .int .i64 e, (.slice a 0 cap)] 35)).cell? ⟨w.heap.size, 1, none⟩ = some (.int .i64 6) := by simp [go_sem]
      have c2 : (w.alloc (.cells #[.int .i64 p, .int .i64 6, .int .i64 f, .int .i64 t, .int .i64 s, .int .i64 q, .int .i64 x, .int .i64 y, .int .i64 z, .int .i64 e, (.slice a 0 cap)] 35)).cell? ⟨w.heap.size, 2, none⟩ = some (.int .i64 f) := by simp [go_sem]
      have c3 : (w.alloc (.cells #[.int .i64 p, .int .i64 6, .int .i64 f, .int .i64 t, .int .i64 s, .int .i64 q, .int .i64 x, .int .i64 y, .int .i64 z, .int .i64 e, (.slice a 0 cap)] 35)).cell? ⟨w.heap.size, 3, none⟩ = some (.int .i64 t) := by simp [go_sem]
      have c4 : (w.alloc (.cells #[.int .i64 p, .int .i64 6, .int .i64 f, .int .i64 t, .int .i64 s, .int .i64 q, .int .i64 x, .int .i64 y, .int .i64 z, .int .i64 e, (.slice a 0 cap)] 35)).cell? ⟨w.heap.size, 4, none⟩ = some (.int .i64 s) := by simp [go_sem]
      have c5 : (w.alloc (.cells #[.int .i64 p, .int .i64 6, .int .i64 f, .int .i64 t, .int .i64 s, .int .i64 q, .int .i64 x, .int .i64 y, .int .i64 z, .int .i64 e, (.slice a 0 cap)] 35)).cell? ⟨w.heap.size, 5, none⟩ = some (.int .i64 q) := by simp [go_sem]
      have c6 : (w.alloc (.cells #[.int .i64 p, .int .i64 6, .int .i64 f, .int .i64 t, .int .i64 s, .int .i64 q, .int .i64 x, .int .i64 y, .int .i64 z, .int .i64 e, (.slice a 0 cap)] 35)).cell? ⟨w.heap.size, 6, none⟩ = some (.int .i64 x) := by simp [go_sem]
      have c7 : (w.alloc (.cells #[.int .i64 p, .int .i64 6, .int .i64 f, .int .i64 t, .int .i64 s, .int .i64 q, .int .i64 x, .int .i64 y, .int .i64 z, .int .i64 e, (.slice a 0 cap)] 35)).cell? ⟨w.heap.size, 7, none⟩ = some (.int .i64 y) := by simp [go_sem]
      have c8 : (w.alloc (.cells #[.int .i64 p, .int .i64 6, .int .i64 f, .int .i64 t, .int .i64 s, .int .i64 q, .int .i64 x, .int .i64 y, .int .i64 z, .int .i64 e, (.slice a 0 cap)] 35)).cell? ⟨w.heap.size, 8, none⟩ = some (.int .i64 z) := by simp [go_sem]
      have c9 : (w.alloc (.cells #[.int .i64 p, .int .i64 6, .int .i64 f, .int .i64 t, .int .i64 s, .int .i64 q, .int .i64 x, .int .i64 y, .int .i64 z, .int .i64 e, (.slice a 0 cap)] 35)).cell? ⟨w.heap.size, 9, none⟩ = some (.int .i64 e) := by simp [go_sem]
      have c10 : (w.alloc (.cells #[.int .i64 p, .int .i64 6, .int .i64 f, .int .i64 t, .int .i64 s, .int .i64 q, .int .i64 x, .int .i64 y, .int .i64 z, .int .i64 e, (.slice a 0 cap)] 35)).cell? ⟨w.heap.size, 10, none⟩ = some (.slice a 0 cap) := by simp [go_sem]
      have bw := balloc (.cells #[.int .i64 p, .int .i64 6, .int .i64 f, .int .i64 t, .int .i64 s, .int .i64 q, .int .i64 x, .int .i64 y, .int .i64 z, .int .i64 e, (.slice a 0 cap)] 35) (Below.refl w.heap.size w)
      generalize (w.alloc (.cells #[.int .i64 p, .int .i64 6, .int .i64 f, .int .i64 t, .int .i64 s, .int .i64 q, .int .i64 x, .int .i64 y, .int .i64 z, .int .i64 e, (.slice a 0 cap)] 35)) = W at *
      refine wp_region_held_drew (S := (fun w' => w'.cell? ⟨w.heap.size, 0, none⟩ = some (.int .i64 p) ∧ w'.cell? ⟨w.heap.size, 1, none⟩ = some (.int .i64 6) ∧ w'.cell? ⟨w.heap.size, 2, none⟩ = some (.int .i64 f) ∧ w'.cell? ⟨w.heap.size, 3, none⟩ = some (.int .i64 t) ∧ w'.cell? ⟨w.heap.size, 4, none⟩ = some (.int .i64 s) ∧ w'.cell? ⟨w.heap.size, 5, none⟩ = some (.int .i64 q) ∧ w'.cell? ⟨w.heap.size, 6, none⟩ = some (.int .i64 x) ∧ w'.cell? ⟨w.heap.size, 7, none⟩ = some (.int .i64 y) ∧ w'.cell? ⟨w.heap.size, 8, none⟩ = some (.int .i64 z) ∧ w'.cell? ⟨w.heap.size, 9, none⟩ = some (.int .i64 e) ∧ w'.cell? ⟨w.heap.size, 10, none⟩ = some (.slice a 0 cap))) (by kernel_rfl) ?_ (fun hHeld => ?_)
      · (try dsimp only); (refine ⟨?_, ?_, ?_, ?_, ?_, ?_, ?_, ?_, ?_, ?_, ?_⟩ <;> (repeat (first | with_reducible assumption | with_reducible refine keep_drew ?_ | with_reducible refine keep_below (by assumption) ?_)))
      refine wpAnyH_take (i := 0) (oi := { dst := some 6, op := .fieldAddr 35 (.tmp 1) 7, type := 0, pos := "l4_word.go:204", after := #[], guard := none }) (v := ?_) rfl (by kernel_rfl) (by kernel_rfl) (by kernel_rfl) (fun _ _ _ h => h) (Or.inl ⟨by rfl, ?_⟩) (by assumption) ?_
      rotate_left 1
      · (intro w hSw; (try dsimp only at hSw); go_simp; try with_reducible rfl)
      (try simp only [Act.put, List.setIfInBounds_toArray, List.set_cons_zero, List.set_cons_succ])
      refine wpAnyH_take (i := 1) (oi := { dst := some 7, op := .load 24 (.tmp 6), type := 24, pos := "l4_word.go:204", after := #[{ on := 0, ground := .data }], guard := none }) (v := ?_) rfl (by kernel_rfl) (by kernel_rfl) (by kernel_rfl) (fun _ _ _ h => h) (Or.inl ⟨by rfl, ?_⟩) (by assumption) ?_
      rotate_left 1
      · (intro w hSw; (try dsimp only at hSw); go_simp; try with_reducible rfl)
      (try simp only [Act.put, List.setIfInBounds_toArray, List.set_cons_zero, List.set_cons_succ])
      refine wpAnyH_take (i := 2) (oi := { dst := some 8, op := .call { callee := .builtin .len, args := #[.tmp 7], argTypes := #[24] }, type := 3, pos := "l4_word.go:204", after := #[{ on := 1, ground := .data }], guard := none }) (v := ?_) rfl (by kernel_rfl) (by kernel_rfl) (by kernel_rfl) (fun _ _ _ h => h) (Or.inl ⟨by rfl, ?_⟩) (by assumption) ?_
      rotate_left 1
      · (intro w hSw; (try dsimp only at hSw); go_simp; try with_reducible rfl)
      (try simp only [Act.put, List.setIfInBounds_toArray, List.set_cons_zero, List.set_cons_succ])
      refine wpAnyH_take (i := 3) (oi := { dst := some 9, op := .binOp .gtr 3 (.tmp 8) (.const (.int .i64 0)) 3, type := 4, pos := "l4_word.go:204", after := #[{ on := 2, ground := .data }], guard := none }) (v := ?_) rfl (by kernel_rfl) (by kernel_rfl) (by kernel_rfl) (fun _ _ _ h => h) (Or.inl ⟨by rfl, ?_⟩) (by assumption) ?_
      rotate_left 1
      · (intro w hSw; (try dsimp only at hSw); go_simp; try with_reducible rfl)
      (try simp only [Act.put, List.setIfInBounds_toArray, List.set_cons_zero, List.set_cons_succ])
      refine wpAnyH_take (i := 4) (oi := { dst := some 10, op := .move (.tmp 9), type := 4, pos := "l4_word.go:204", after := #[{ on := 3, ground := .data }], guard := none }) (v := ?_) rfl (by kernel_rfl) (by kernel_rfl) (by kernel_rfl) (fun _ _ _ h => h) (Or.inl ⟨by rfl, ?_⟩) (by assumption) ?_
      rotate_left 1
      · (intro w hSw; (try dsimp only at hSw); go_simp; try with_reducible rfl)
      (try simp only [Act.put, List.setIfInBounds_toArray, List.set_cons_zero, List.set_cons_succ])
      refine wpAnyH_take (i := 5) (oi := { dst := some 11, op := .fieldAddr 35 (.tmp 1) 7, type := 0, pos := "l4_word.go:204", after := #[{ on := 4, ground := .guard }], guard := some (4, true) }) (v := undef) rfl (by kernel_rfl) (by kernel_rfl) (by kernel_rfl) (fun _ _ _ h => h) (Or.inr ⟨by rfl, rfl⟩) (by assumption) ?_
      (try simp only [Act.put, List.setIfInBounds_toArray, List.set_cons_zero, List.set_cons_succ])
      refine wpAnyH_take (i := 6) (oi := { dst := some 12, op := .load 24 (.tmp 11), type := 24, pos := "l4_word.go:204", after := #[{ on := 5, ground := .data }, { on := 4, ground := .guard }], guard := some (4, true) }) (v := undef) rfl (by kernel_rfl) (by kernel_rfl) (by kernel_rfl) (fun _ _ _ h => h) (Or.inr ⟨by rfl, rfl⟩) (by assumption) ?_
      (try simp only [Act.put, List.setIfInBounds_toArray, List.set_cons_zero, List.set_cons_succ])
      refine wpAnyH_take (i := 7) (oi := { dst := some 13, op := .fieldAddr 35 (.tmp 1) 7, type := 0, pos := "l4_word.go:204", after := #[{ on := 4, ground := .guard }], guard := some (4, true) }) (v := undef) rfl (by kernel_rfl) (by kernel_rfl) (by kernel_rfl) (fun _ _ _ h => h) (Or.inr ⟨by rfl, rfl⟩) (by assumption) ?_
      (try simp only [Act.put, List.setIfInBounds_toArray, List.set_cons_zero, List.set_cons_succ])
      refine wpAnyH_take (i := 8) (oi := { dst := some 14, op := .load 24 (.tmp 13), type := 24, pos := "l4_word.go:204", after := #[{ on := 7, ground := .data }, { on := 4, ground := .guard }], guard := some (4, true) }) (v := undef) rfl (by kernel_rfl) (by kernel_rfl) (by kernel_rfl) (fun _ _ _ h => h) (Or.inr ⟨by rfl, rfl⟩) (by assumption) ?_
      (try simp only [Act.put, List.setIfInBounds_toArray, List.set_cons_zero, List.set_cons_succ])
      refine wpAnyH_take (i := 9) (oi := { dst := some 15, op := .indexAddr 24 (.tmp 14) (.const (.int .i64 0)), type := 0, pos := "l4_word.go:204", after := #[{ on := 8, ground := .data }, { on := 4, ground := .guard }], guard := some (4, true) }) (v := undef) rfl (by kernel_rfl) (by kernel_rfl) (by kernel_rfl) (fun _ _ _ h => h) (Or.inr ⟨by rfl, rfl⟩) (by assumption) ?_
      (try simp only [Act.put, List.setIfInBounds_toArray, List.set_cons_zero, List.set_cons_succ])
      refine wpAnyH_take (i := 10) (oi := { dst := some 16, op := .fieldAddr 53 (.tmp 15) 0, type := 0, pos := "l4_word.go:204", after := #[{ on := 9, ground := .data }, { on := 4, ground := .guard }], guard := some (4, true) }) (v := undef) rfl (by kernel_rfl) (by kernel_rfl) (by kernel_rfl) (fun _ _ _ h => h) (Or.inr ⟨by rfl, rfl⟩) (by assumption) ?_
      (try simp only [Act.put, List.setIfInBounds_toArray, List.set_cons_zero, List.set_cons_succ])
      refine wpAnyH_take (i := 11) (oi := { dst := some 17, op := .load 3 (.tmp 16), type := 3, pos := "l4_word.go:204", after := #[{ on := 10, ground := .data }, { on := 4, ground := .guard }], guard := some (4, true) }) (v := undef) rfl (by kernel_rfl) (by kernel_rfl) (by kernel_rfl) (fun _ _ _ h => h) (Or.inr ⟨by rfl, rfl⟩) (by assumption) ?_
      (try simp only [Act.put, List.setIfInBounds_toArray, List.set_cons_zero, List.set_cons_succ])
      refine wpAnyH_take (i := 12) (oi := { dst := some 18, op := .call { callee := .value (.func 98), args := #[.tmp 17], argTypes := #[3] }, type := 3, pos := "l4_word.go:204", after := #[{ on := 11, ground := .data }, { on := 4, ground := .chain }, { on := 4, ground := .guard }], guard := some (4, true) }) (v := undef) rfl (by kernel_rfl) (by kernel_rfl) (by kernel_rfl) (fun _ _ _ h => h) (Or.inr ⟨by rfl, rfl⟩) (by assumption) ?_
      (try simp only [Act.put, List.setIfInBounds_toArray, List.set_cons_zero, List.set_cons_succ])
      refine wpAnyH_take (i := 13) (oi := { dst := some 19, op := .call { callee := .value (.func 97), args := #[.tmp 12, .tmp 18], argTypes := #[24, 3] }, type := 4, pos := "l4_word.go:204", after := #[{ on := 6, ground := .data }, { on := 12, ground := .data }, { on := 12, ground := .chain }, { on := 4, ground := .guard }], guard := some (4, true) }) (v := undef) rfl (by kernel_rfl) (by kernel_rfl) (by kernel_rfl) (fun _ _ _ h => h) (Or.inr ⟨by rfl, rfl⟩) (by assumption) ?_
      (try simp only [Act.put, List.setIfInBounds_toArray, List.set_cons_zero, List.set_cons_succ])
      refine wpAnyH_take (i := 14) (oi := { dst := some 20, op := .pick (.tmp 10) (.tmp 19) (.const (.bool false)), type := 4, pos := "l4_word.go:204", after := #[{ on := 4, ground := .data }, { on := 13, ground := .data }], guard := none }) (v := ?_) rfl (by kernel_rfl) (by kernel_rfl) (by kernel_rfl) (fun _ _ _ h => h) (Or.inl ⟨by rfl, ?_⟩) (by assumption) ?_
      rotate_left 1
      · (intro w hSw; (try dsimp only at hSw); go_simp; try with_reducible rfl)
      (try simp only [Act.put, List.setIfInBounds_toArray, List.set_cons_zero, List.set_cons_succ])
      refine wpAnyH_take (i := 15) (oi := { dst := some 2, op := .assign (.tmp 20), type := 4, pos := "l4_word.go:204", after := #[{ on := 14, ground := .data }, { on := 13, ground := .chain }, { on := 0, ground := .phase }, { on := 1, ground := .phase }, { on := 2, ground := .phase }, { on := 3, ground := .phase }, { on := 4, ground := .phase }, { on := 5, ground := .phase }, { on := 6, ground := .phase }, { on := 7, ground := .phase }, { on := 8, ground := .phase }, { on := 9, ground := .phase }, { on := 10, ground := .phase }, { on := 11, ground := .phase }, { on := 12, ground := .phase }, { on := 13, ground := .phase }, { on := 14, ground := .phase }], guard := none }) (v := ?_) rfl (by kernel_rfl) (by kernel_rfl) (by kernel_rfl) (fun _ _ _ h => h) (Or.inl ⟨by rfl, ?_⟩) (by assumption) ?_
      rotate_left 1
      · (intro w hSw; (try dsimp only at hSw); go_simp; try with_reducible rfl)
      (try simp only [Act.put, List.setIfInBounds_toArray, List.set_cons_zero, List.set_cons_succ])
      refine wpAnyH_done (by kernel_rfl) ?_ _
      go_wp2
      go_ret
      exact ⟨ret_bool (by unfold wsB; simp), bw.drew⟩
    · obtain ⟨b, off, rfl, hbl, hf⟩ := h h0
      have hfs : FSl w (some ⟨b, off, none⟩) len F := fun _ => ⟨b, off, rfl, hbl, hf⟩
      have i1 : (0 : Int) < (len : Int) := by omega
      go_enter Tryz.func60, Tryz.ntmps60
      go_wp2_with fail
      have c0 : (w.alloc (.cells #[.int .i64 p, .int .i64 6, .int .i64 f, .int .i64 t, .int .i64 s, .int .i64 q, .int .i64 x, .int .i64 y, .int .i64 z, .int .i64 e, (.slice (some ⟨b, off, none⟩) len cap)] 35)).cell? ⟨w.heap.size, 0, none⟩ = some (.int .i64 p) := by simp [go_sem]
      have c1 : (w.alloc (.cells #[.int .i64 p, .int .i64 6, .int .i64 f, .int .i64 t, .int .i64 s, .int .i64 q, .int .i64 x, .int .i64 y, .int .i64 z, .int .i64 e, (.slice (some ⟨b, off, none⟩) len cap)] 35)).cell? ⟨w.heap.size, 1, none⟩ = some (.int .i64 6) := by simp [go_sem]
      have c2 : (w.alloc (.cells #[.int .i64 p, .int .i64 6, .int .i64 f, .int .i64 t, .int .i64 s, .int .i64 q, .int .i64 x, .int .i64 y, .int .i64 z, .int .i64 e, (.slice (some ⟨b, off, none⟩) len cap)] 35)).cell? ⟨w.heap.size, 2, none⟩ = some (.int .i64 f) := by simp [go_sem]
      have c3 : (w.alloc (.cells #[.int .i64 p, .int .i64 6, .int .i64 f, .int .i64 t, .int .i64 s, .int .i64 q, .int .i64 x, .int .i64 y, .int .i64 z, .int .i64 e, (.slice (some ⟨b, off, none⟩) len cap)] 35)).cell? ⟨w.heap.size, 3, none⟩ = some (.int .i64 t) := by simp [go_sem]
      have c4 : (w.alloc (.cells #[.int .i64 p, .int .i64 6, .int .i64 f, .int .i64 t, .int .i64 s, .int .i64 q, .int .i64 x, .int .i64 y, .int .i64 z, .int .i64 e, (.slice (some ⟨b, off, none⟩) len cap)] 35)).cell? ⟨w.heap.size, 4, none⟩ = some (.int .i64 s) := by simp [go_sem]
      have c5 : (w.alloc (.cells #[.int .i64 p, .int .i64 6, .int .i64 f, .int .i64 t, .int .i64 s, .int .i64 q, .int .i64 x, .int .i64 y, .int .i64 z, .int .i64 e, (.slice (some ⟨b, off, none⟩) len cap)] 35)).cell? ⟨w.heap.size, 5, none⟩ = some (.int .i64 q) := by simp [go_sem]
      have c6 : (w.alloc (.cells #[.int .i64 p, .int .i64 6, .int .i64 f, .int .i64 t, .int .i64 s, .int .i64 q, .int .i64 x, .int .i64 y, .int .i64 z, .int .i64 e, (.slice (some ⟨b, off, none⟩) len cap)] 35)).cell? ⟨w.heap.size, 6, none⟩ = some (.int .i64 x) := by simp [go_sem]
      have c7 : (w.alloc (.cells #[.int .i64 p, .int .i64 6, .int .i64 f, .int .i64 t, .int .i64 s, .int .i64 q, .int .i64 x, .int .i64 y, .int .i64 z, .int .i64 e, (.slice (some ⟨b, off, none⟩) len cap)] 35)).cell? ⟨w.heap.size, 7, none⟩ = some (.int .i64 y) := by simp [go_sem]
      have c8 : (w.alloc (.cells #[.int .i64 p, .int .i64 6, .int .i64 f, .int .i64 t, .int .i64 s, .int .i64 q, .int .i64 x, .int .i64 y, .int .i64 z, .int .i64 e, (.slice (some ⟨b, off, none⟩) len cap)] 35)).cell? ⟨w.heap.size, 8, none⟩ = some (.int .i64 z) := by simp [go_sem]
      have c9 : (w.alloc (.cells #[.int .i64 p, .int .i64 6, .int .i64 f, .int .i64 t, .int .i64 s, .int .i64 q, .int .i64 x, .int .i64 y, .int .i64 z, .int .i64 e, (.slice (some ⟨b, off, none⟩) len cap)] 35)).cell? ⟨w.heap.size, 9, none⟩ = some (.int .i64 e) := by simp [go_sem]
      have c10 : (w.alloc (.cells #[.int .i64 p, .int .i64 6, .int .i64 f, .int .i64 t, .int .i64 s, .int .i64 q, .int .i64 x, .int .i64 y, .int .i64 z, .int .i64 e, (.slice (some ⟨b, off, none⟩) len cap)] 35)).cell? ⟨w.heap.size, 10, none⟩ = some (.slice (some ⟨b, off, none⟩) len cap) := by simp [go_sem]
      have bw := balloc (.cells #[.int .i64 p, .int .i64 6, .int .i64 f, .int .i64 t, .int .i64 s, .int .i64 q, .int .i64 x, .int .i64 y, .int .i64 z, .int .i64 e, (.slice (some ⟨b, off, none⟩) len cap)] 35) (Below.refl w.heap.size w)
      generalize (w.alloc (.cells #[.int .i64 p, .int .i64 6, .int .i64 f, .int .i64 t, .int .i64 s, .int .i64 q, .int .i64 x, .int .i64 y, .int .i64 z, .int .i64 e, (.slice (some ⟨b, off, none⟩) len cap)] 35)) = W at *
      have c11 := first_cell (hf.below bw hbl) h0
      have hfw := hfs.below (Below.drew bw)
      refine wp_region_held_drew (S := (fun w' => w'.cell? ⟨w.heap.size, 0, none⟩ = some (.int .i64 p) ∧ w'.cell? ⟨w.heap.size, 1, none⟩ = some (.int .i64 6) ∧ w'.cell? ⟨w.heap.size, 2, none⟩ = some (.int .i64 f) ∧ w'.cell? ⟨w.heap.size, 3, none⟩ = some (.int .i64 t) ∧ w'.cell? ⟨w.heap.size, 4, none⟩ = some (.int .i64 s) ∧ w'.cell? ⟨w.heap.size, 5, none⟩ = some (.int .i64 q) ∧ w'.cell? ⟨w.heap.size, 6, none⟩ = some (.int .i64 x) ∧ w'.cell? ⟨w.heap.size, 7, none⟩ = some (.int .i64 y) ∧ w'.cell? ⟨w.heap.size, 8, none⟩ = some (.int .i64 z) ∧ w'.cell? ⟨w.heap.size, 9, none⟩ = some (.int .i64 e) ∧ w'.cell? ⟨w.heap.size, 10, none⟩ = some (.slice (some ⟨b, off, none⟩) len cap) ∧ w'.cell? ⟨b, off, none⟩ = some (.int .i64 (F 0).n))) (by kernel_rfl) ?_ (fun hHeld => ?_)
      · (try dsimp only); (refine ⟨?_, ?_, ?_, ?_, ?_, ?_, ?_, ?_, ?_, ?_, ?_, ?_⟩ <;> (repeat (first | with_reducible assumption | with_reducible refine keep_drew ?_ | with_reducible refine keep_below (by assumption) ?_)))
      refine wpAnyH_take (i := 0) (oi := { dst := some 6, op := .fieldAddr 35 (.tmp 1) 7, type := 0, pos := "l4_word.go:204", after := #[], guard := none }) (v := ?_) rfl (by kernel_rfl) (by kernel_rfl) (by kernel_rfl) (fun _ _ _ h => h) (Or.inl ⟨by rfl, ?_⟩) (by assumption) ?_
      rotate_left 1
      · (intro w hSw; (try dsimp only at hSw); go_simp; try with_reducible rfl)
      (try simp only [Act.put, List.setIfInBounds_toArray, List.set_cons_zero, List.set_cons_succ])
      refine wpAnyH_take (i := 1) (oi := { dst := some 7, op := .load 24 (.tmp 6), type := 24, pos := "l4_word.go:204", after := #[{ on := 0, ground := .data }], guard := none }) (v := ?_) rfl (by kernel_rfl) (by kernel_rfl) (by kernel_rfl) (fun _ _ _ h => h) (Or.inl ⟨by rfl, ?_⟩) (by assumption) ?_
      rotate_left 1
      · (intro w hSw; (try dsimp only at hSw); go_simp; try with_reducible rfl)
      (try simp only [Act.put, List.setIfInBounds_toArray, List.set_cons_zero, List.set_cons_succ])
      refine wpAnyH_take (i := 2) (oi := { dst := some 8, op := .call { callee := .builtin .len, args := #[.tmp 7], argTypes := #[24] }, type := 3, pos := "l4_word.go:204", after := #[{ on := 1, ground := .data }], guard := none }) (v := ?_) rfl (by kernel_rfl) (by kernel_rfl) (by kernel_rfl) (fun _ _ _ h => h) (Or.inl ⟨by rfl, ?_⟩) (by assumption) ?_
      rotate_left 1
      · (intro w hSw; (try dsimp only at hSw); go_simp; try with_reducible rfl)
      (try simp only [Act.put, List.setIfInBounds_toArray, List.set_cons_zero, List.set_cons_succ])
      refine wpAnyH_take (i := 3) (oi := { dst := some 9, op := .binOp .gtr 3 (.tmp 8) (.const (.int .i64 0)) 3, type := 4, pos := "l4_word.go:204", after := #[{ on := 2, ground := .data }], guard := none }) (v := ?_) rfl (by kernel_rfl) (by kernel_rfl) (by kernel_rfl) (fun _ _ _ h => h) (Or.inl ⟨by rfl, ?_⟩) (by assumption) ?_
      rotate_left 1
      · (intro w hSw; (try dsimp only at hSw); go_simp; try with_reducible rfl)
      (try simp only [Act.put, List.setIfInBounds_toArray, List.set_cons_zero, List.set_cons_succ])
      refine wpAnyH_take (i := 4) (oi := { dst := some 10, op := .move (.tmp 9), type := 4, pos := "l4_word.go:204", after := #[{ on := 3, ground := .data }], guard := none }) (v := ?_) rfl (by kernel_rfl) (by kernel_rfl) (by kernel_rfl) (fun _ _ _ h => h) (Or.inl ⟨by rfl, ?_⟩) (by assumption) ?_
      rotate_left 1
      · (intro w hSw; (try dsimp only at hSw); go_simp; try with_reducible rfl)
      (try simp only [Act.put, List.setIfInBounds_toArray, List.set_cons_zero, List.set_cons_succ])
      refine wpAnyH_take (i := 5) (oi := { dst := some 11, op := .fieldAddr 35 (.tmp 1) 7, type := 0, pos := "l4_word.go:204", after := #[{ on := 4, ground := .guard }], guard := some (4, true) }) (v := ?_) rfl (by kernel_rfl) (by kernel_rfl) (by kernel_rfl) (fun _ _ _ h => h) (Or.inl ⟨by rfl, ?_⟩) (by assumption) ?_
      rotate_left 1
      · (intro w hSw; (try dsimp only at hSw); go_simp; try with_reducible rfl)
      (try simp only [Act.put, List.setIfInBounds_toArray, List.set_cons_zero, List.set_cons_succ])
      refine wpAnyH_take (i := 6) (oi := { dst := some 12, op := .load 24 (.tmp 11), type := 24, pos := "l4_word.go:204", after := #[{ on := 5, ground := .data }, { on := 4, ground := .guard }], guard := some (4, true) }) (v := ?_) rfl (by kernel_rfl) (by kernel_rfl) (by kernel_rfl) (fun _ _ _ h => h) (Or.inl ⟨by rfl, ?_⟩) (by assumption) ?_
      rotate_left 1
      · (intro w hSw; (try dsimp only at hSw); go_simp; try with_reducible rfl)
      (try simp only [Act.put, List.setIfInBounds_toArray, List.set_cons_zero, List.set_cons_succ])
      refine wpAnyH_take (i := 7) (oi := { dst := some 13, op := .fieldAddr 35 (.tmp 1) 7, type := 0, pos := "l4_word.go:204", after := #[{ on := 4, ground := .guard }], guard := some (4, true) }) (v := ?_) rfl (by kernel_rfl) (by kernel_rfl) (by kernel_rfl) (fun _ _ _ h => h) (Or.inl ⟨by rfl, ?_⟩) (by assumption) ?_
      rotate_left 1
      · (intro w hSw; (try dsimp only at hSw); go_simp; try with_reducible rfl)
      (try simp only [Act.put, List.setIfInBounds_toArray, List.set_cons_zero, List.set_cons_succ])
      refine wpAnyH_take (i := 8) (oi := { dst := some 14, op := .load 24 (.tmp 13), type := 24, pos := "l4_word.go:204", after := #[{ on := 7, ground := .data }, { on := 4, ground := .guard }], guard := some (4, true) }) (v := ?_) rfl (by kernel_rfl) (by kernel_rfl) (by kernel_rfl) (fun _ _ _ h => h) (Or.inl ⟨by rfl, ?_⟩) (by assumption) ?_
      rotate_left 1
      · (intro w hSw; (try dsimp only at hSw); go_simp; try with_reducible rfl)
      (try simp only [Act.put, List.setIfInBounds_toArray, List.set_cons_zero, List.set_cons_succ])
      refine wpAnyH_take (i := 9) (oi := { dst := some 15, op := .indexAddr 24 (.tmp 14) (.const (.int .i64 0)), type := 0, pos := "l4_word.go:204", after := #[{ on := 8, ground := .data }, { on := 4, ground := .guard }], guard := some (4, true) }) (v := ?_) rfl (by kernel_rfl) (by kernel_rfl) (by kernel_rfl) (fun _ _ _ h => h) (Or.inl ⟨by rfl, ?_⟩) (by assumption) ?_
      rotate_left 1
      · (intro w hSw; (try dsimp only at hSw); go_simp; try with_reducible rfl)
      (try simp only [Act.put, List.setIfInBounds_toArray, List.set_cons_zero, List.set_cons_succ])
      refine wpAnyH_take (i := 10) (oi := { dst := some 16, op := .fieldAddr 53 (.tmp 15) 0, type := 0, pos := "l4_word.go:204", after := #[{ on := 9, ground := .data }, { on := 4, ground := .guard }], guard := some (4, true) }) (v := ?_) rfl (by kernel_rfl) (by kernel_rfl) (by kernel_rfl) (fun _ _ _ h => h) (Or.inl ⟨by rfl, ?_⟩) (by assumption) ?_
      rotate_left 1
      · (intro w hSw; (try dsimp only at hSw); go_simp; try with_reducible rfl)
      (try simp only [Act.put, List.setIfInBounds_toArray, List.set_cons_zero, List.set_cons_succ])
      refine wpAnyH_take (i := 11) (oi := { dst := some 17, op := .load 3 (.tmp 16), type := 3, pos := "l4_word.go:204", after := #[{ on := 10, ground := .data }, { on := 4, ground := .guard }], guard := some (4, true) }) (v := ?_) rfl (by kernel_rfl) (by kernel_rfl) (by kernel_rfl) (fun _ _ _ h => h) (Or.inl ⟨by rfl, ?_⟩) (by assumption) ?_
      rotate_left 1
      · (intro w hSw; (try dsimp only at hSw); go_simp; try with_reducible rfl)
      (try simp only [Act.put, List.setIfInBounds_toArray, List.set_cons_zero, List.set_cons_succ])
      refine wpAnyH_ready (rs := [12]) (by kernel_rfl) (by simp) ?_
      refine AllReadyH.cons (o := { dst := some 18, op := .call { callee := .value (.func 98), args := #[.tmp 17], argTypes := #[3] }, type := 3, pos := "l4_word.go:204", after := #[{ on := 11, ground := .data }, { on := 4, ground := .chain }, { on := 4, ground := .guard }], guard := some (4, true) }) rfl (fun K hK => ?_) AllReadyH.nil
      go_simp
      (refine (siteOf_any (F 0).n _).mono ?_; rintro e w1 ⟨rfl, hw⟩; obtain rfl := hw.symm)
      go_wp2_with fail
      refine hK.out _ _ ?_ (fun hHeld => ?_)
      · (try dsimp only); (refine ⟨?_, ?_, ?_, ?_, ?_, ?_, ?_, ?_, ?_, ?_, ?_, ?_⟩ <;> (repeat (first | with_reducible assumption | with_reducible refine keep_drew ?_ | with_reducible refine keep_below (by assumption) ?_)))
      clear hK K
      (try simp only [Act.put, List.setIfInBounds_toArray, List.set_cons_zero, List.set_cons_succ])
      refine wpAnyH_ready (rs := [13]) (by kernel_rfl) (by simp) ?_
      refine AllReadyH.cons (o := { dst := some 19, op := .call { callee := .value (.func 97), args := #[.tmp 12, .tmp 18], argTypes := #[24, 3] }, type := 4, pos := "l4_word.go:204", after := #[{ on := 6, ground := .data }, { on := 12, ground := .data }, { on := 12, ground := .chain }, { on := 4, ground := .guard }], guard := some (4, true) }) rfl (fun K hK => ?_) AllReadyH.nil
      go_simp
      (refine (allOf_any _ len cap F (ste (F 0).n) _ hfw hl).mono ?_; rintro e w2 ⟨rfl, b2⟩)
      go_wp2_with fail
      refine hK.out _ _ ?_ (fun hHeld => ?_)
      · (try dsimp only); (refine ⟨?_, ?_, ?_, ?_, ?_, ?_, ?_, ?_, ?_, ?_, ?_, ?_⟩ <;> (repeat (first | with_reducible assumption | with_reducible refine keep_drew ?_ | with_reducible refine keep_below (by assumption) ?_)))
      clear hK K
      (try simp only [Act.put, List.setIfInBounds_toArray, List.set_cons_zero, List.set_cons_succ])
      refine wpAnyH_take (i := 14) (oi := { dst := some 20, op := .pick (.tmp 10) (.tmp 19) (.const (.bool false)), type := 4, pos := "l4_word.go:204", after := #[{ on := 4, ground := .data }, { on := 13, ground := .data }], guard := none }) (v := ?_) rfl (by kernel_rfl) (by kernel_rfl) (by kernel_rfl) (fun _ _ _ h => h) (Or.inl ⟨by rfl, ?_⟩) (by assumption) ?_
      rotate_left 1
      · (intro w hSw; (try dsimp only at hSw); go_simp; try with_reducible rfl)
      (try simp only [Act.put, List.setIfInBounds_toArray, List.set_cons_zero, List.set_cons_succ])
      refine wpAnyH_take (i := 15) (oi := { dst := some 2, op := .assign (.tmp 20), type := 4, pos := "l4_word.go:204", after := #[{ on := 14, ground := .data }, { on := 13, ground := .chain }, { on := 0, ground := .phase }, { on := 1, ground := .phase }, { on := 2, ground := .phase }, { on := 3, ground := .phase }, { on := 4, ground := .phase }, { on := 5, ground := .phase }, { on := 6, ground := .phase }, { on := 7, ground := .phase }, { on := 8, ground := .phase }, { on := 9, ground := .phase }, { on := 10, ground := .phase }, { on := 11, ground := .phase }, { on := 12, ground := .phase }, { on := 13, ground := .phase }, { on := 14, ground := .phase }], guard := none }) (v := ?_) rfl (by kernel_rfl) (by kernel_rfl) (by kernel_rfl) (fun _ _ _ h => h) (Or.inl ⟨by rfl, ?_⟩) (by assumption) ?_
      rotate_left 1
      · (intro w hSw; (try dsimp only at hSw); go_simp; try with_reducible rfl)
      (try simp only [Act.put, List.setIfInBounds_toArray, List.set_cons_zero, List.set_cons_succ])
      refine wpAnyH_done (by kernel_rfl) ?_ _
      go_wp2
      go_ret
      exact ⟨ret_bool (by unfold wsB; simp [h0]), btrans bw.drew b2⟩
  · go_enter Tryz.func60, Tryz.ntmps60
    go_wp2_with fail
    have c0 : (w.alloc (.cells #[.int .i64 p, .int .i64 k, .int .i64 f, .int .i64 t, .int .i64 s, .int .i64 q, .int .i64 x, .int .i64 y, .int .i64 z, .int .i64 e, (.slice a len cap)] 35)).cell? ⟨w.heap.size, 0, none⟩ = some (.int .i64 p) := by simp [go_sem]
    have c1 : (w.alloc (.cells #[.int .i64 p, .int .i64 k, .int .i64 f, .int .i64 t, .int .i64 s, .int .i64 q, .int .i64 x, .int .i64 y, .int .i64 z, .int .i64 e, (.slice a len cap)] 35)).cell? ⟨w.heap.size, 1, none⟩ = some (.int .i64 k) := by simp [go_sem]
    have c2 : (w.alloc (.cells #[.int .i64 p, .int .i64 k, .int .i64 f, .int .i64 t, .int .i64 s, .int .i64 q, .int .i64 x, .int .i64 y, .int .i64 z, .int .i64 e, (.slice a len cap)] 35)).cell? ⟨w.heap.size, 2, none⟩ = some (.int .i64 f) := by simp [go_sem]
    have c3 : (w.alloc (.cells #[.int .i64 p, .int .i64 k, .int .i64 f, .int .i64 t, .int .i64 s, .int .i64 q, .int .i64 x, .int .i64 y, .int .i64 z, .int .i64 e, (.slice a len cap)] 35)).cell? ⟨w.heap.size, 3, none⟩ = some (.int .i64 t) := by simp [go_sem]
    have c4 : (w.alloc (.cells #[.int .i64 p, .int .i64 k, .int .i64 f, .int .i64 t, .int .i64 s, .int .i64 q, .int .i64 x, .int .i64 y, .int .i64 z, .int .i64 e, (.slice a len cap)] 35)).cell? ⟨w.heap.size, 4, none⟩ = some (.int .i64 s) := by simp [go_sem]
    have c5 : (w.alloc (.cells #[.int .i64 p, .int .i64 k, .int .i64 f, .int .i64 t, .int .i64 s, .int .i64 q, .int .i64 x, .int .i64 y, .int .i64 z, .int .i64 e, (.slice a len cap)] 35)).cell? ⟨w.heap.size, 5, none⟩ = some (.int .i64 q) := by simp [go_sem]
    have c6 : (w.alloc (.cells #[.int .i64 p, .int .i64 k, .int .i64 f, .int .i64 t, .int .i64 s, .int .i64 q, .int .i64 x, .int .i64 y, .int .i64 z, .int .i64 e, (.slice a len cap)] 35)).cell? ⟨w.heap.size, 6, none⟩ = some (.int .i64 x) := by simp [go_sem]
    have c7 : (w.alloc (.cells #[.int .i64 p, .int .i64 k, .int .i64 f, .int .i64 t, .int .i64 s, .int .i64 q, .int .i64 x, .int .i64 y, .int .i64 z, .int .i64 e, (.slice a len cap)] 35)).cell? ⟨w.heap.size, 7, none⟩ = some (.int .i64 y) := by simp [go_sem]
    have c8 : (w.alloc (.cells #[.int .i64 p, .int .i64 k, .int .i64 f, .int .i64 t, .int .i64 s, .int .i64 q, .int .i64 x, .int .i64 y, .int .i64 z, .int .i64 e, (.slice a len cap)] 35)).cell? ⟨w.heap.size, 8, none⟩ = some (.int .i64 z) := by simp [go_sem]
    have c9 : (w.alloc (.cells #[.int .i64 p, .int .i64 k, .int .i64 f, .int .i64 t, .int .i64 s, .int .i64 q, .int .i64 x, .int .i64 y, .int .i64 z, .int .i64 e, (.slice a len cap)] 35)).cell? ⟨w.heap.size, 9, none⟩ = some (.int .i64 e) := by simp [go_sem]
    have c10 : (w.alloc (.cells #[.int .i64 p, .int .i64 k, .int .i64 f, .int .i64 t, .int .i64 s, .int .i64 q, .int .i64 x, .int .i64 y, .int .i64 z, .int .i64 e, (.slice a len cap)] 35)).cell? ⟨w.heap.size, 10, none⟩ = some (.slice a len cap) := by simp [go_sem]
    have bw := balloc (.cells #[.int .i64 p, .int .i64 k, .int .i64 f, .int .i64 t, .int .i64 s, .int .i64 q, .int .i64 x, .int .i64 y, .int .i64 z, .int .i64 e, (.slice a len cap)] 35) (Below.refl w.heap.size w)
    generalize (w.alloc (.cells #[.int .i64 p, .int .i64 k, .int .i64 f, .int .i64 t, .int .i64 s, .int .i64 q, .int .i64 x, .int .i64 y, .int .i64 z, .int .i64 e, (.slice a len cap)] 35)) = W at *
    have hfw := h.below (Below.drew bw)
    refine wp_region_held_drew (S := (fun w' => w'.cell? ⟨w.heap.size, 0, none⟩ = some (.int .i64 p) ∧ w'.cell? ⟨w.heap.size, 1, none⟩ = some (.int .i64 k) ∧ w'.cell? ⟨w.heap.size, 2, none⟩ = some (.int .i64 f) ∧ w'.cell? ⟨w.heap.size, 3, none⟩ = some (.int .i64 t) ∧ w'.cell? ⟨w.heap.size, 4, none⟩ = some (.int .i64 s) ∧ w'.cell? ⟨w.heap.size, 5, none⟩ = some (.int .i64 q) ∧ w'.cell? ⟨w.heap.size, 6, none⟩ = some (.int .i64 x) ∧ w'.cell? ⟨w.heap.size, 7, none⟩ = some (.int .i64 y) ∧ w'.cell? ⟨w.heap.size, 8, none⟩ = some (.int .i64 z) ∧ w'.cell? ⟨w.heap.size, 9, none⟩ = some (.int .i64 e) ∧ w'.cell? ⟨w.heap.size, 10, none⟩ = some (.slice a len cap))) (by kernel_rfl) ?_ (fun hHeld => ?_)
    · (try dsimp only); (refine ⟨?_, ?_, ?_, ?_, ?_, ?_, ?_, ?_, ?_, ?_, ?_⟩ <;> (repeat (first | with_reducible assumption | with_reducible refine keep_drew ?_ | with_reducible refine keep_below (by assumption) ?_)))
    refine wpAnyH_take (i := 0) (oi := { dst := some 21, op := .fieldAddr 35 (.tmp 1) 7, type := 0, pos := "l4_word.go:206", after := #[], guard := none }) (v := ?_) rfl (by kernel_rfl) (by kernel_rfl) (by kernel_rfl) (fun _ _ _ h => h) (Or.inl ⟨by rfl, ?_⟩) (by assumption) ?_
    rotate_left 1
    · (intro w hSw; (try dsimp only at hSw); go_simp; try with_reducible rfl)
    (try simp only [Act.put, List.setIfInBounds_toArray, List.set_cons_zero, List.set_cons_succ])
    refine wpAnyH_take (i := 1) (oi := { dst := some 22, op := .load 24 (.tmp 21), type := 24, pos := "l4_word.go:206", after := #[{ on := 0, ground := .data }], guard := none }) (v := ?_) rfl (by kernel_rfl) (by kernel_rfl) (by kernel_rfl) (fun _ _ _ h => h) (Or.inl ⟨by rfl, ?_⟩) (by assumption) ?_
    rotate_left 1
    · (intro w hSw; (try dsimp only at hSw); go_simp; try with_reducible rfl)
    (try simp only [Act.put, List.setIfInBounds_toArray, List.set_cons_zero, List.set_cons_succ])
    refine wpAnyH_take (i := 2) (oi := { dst := some 23, op := .fieldAddr 35 (.tmp 1) 2, type := 0, pos := "l4_word.go:206", after := #[], guard := none }) (v := ?_) rfl (by kernel_rfl) (by kernel_rfl) (by kernel_rfl) (fun _ _ _ h => h) (Or.inl ⟨by rfl, ?_⟩) (by assumption) ?_
    rotate_left 1
    · (intro w hSw; (try dsimp only at hSw); go_simp; try with_reducible rfl)
    (try simp only [Act.put, List.setIfInBounds_toArray, List.set_cons_zero, List.set_cons_succ])
    refine wpAnyH_take (i := 3) (oi := { dst := some 24, op := .load 3 (.tmp 23), type := 3, pos := "l4_word.go:206", after := #[{ on := 2, ground := .data }], guard := none }) (v := ?_) rfl (by kernel_rfl) (by kernel_rfl) (by kernel_rfl) (fun _ _ _ h => h) (Or.inl ⟨by rfl, ?_⟩) (by assumption) ?_
    rotate_left 1
    · (intro w hSw; (try dsimp only at hSw); go_simp; try with_reducible rfl)
    (try simp only [Act.put, List.setIfInBounds_toArray, List.set_cons_zero, List.set_cons_succ])
    refine wpAnyH_ready (rs := [4]) (by kernel_rfl) (by simp) ?_
    refine AllReadyH.cons (o := { dst := some 25, op := .call { callee := .value (.func 98), args := #[.tmp 24], argTypes := #[3] }, type := 3, pos := "l4_word.go:206", after := #[{ on := 3, ground := .data }], guard := none }) rfl (fun K hK => ?_) AllReadyH.nil
    go_simp
    (refine (siteOf_any f _).mono ?_; rintro e w1 ⟨rfl, hw⟩; obtain rfl := hw.symm)
    go_wp2_with fail
    refine hK.out _ _ ?_ (fun hHeld => ?_)
    · (try dsimp only); (refine ⟨?_, ?_, ?_, ?_, ?_, ?_, ?_, ?_, ?_, ?_, ?_⟩ <;> (repeat (first | with_reducible assumption | with_reducible refine keep_drew ?_ | with_reducible refine keep_below (by assumption) ?_)))
    clear hK K
    (try simp only [Act.put, List.setIfInBounds_toArray, List.set_cons_zero, List.set_cons_succ])
    refine wpAnyH_ready (rs := [5]) (by kernel_rfl) (by simp) ?_
    refine AllReadyH.cons (o := { dst := some 26, op := .call { callee := .value (.func 97), args := #[.tmp 22, .tmp 25], argTypes := #[24, 3] }, type := 4, pos := "l4_word.go:206", after := #[{ on := 1, ground := .data }, { on := 4, ground := .data }, { on := 4, ground := .chain }], guard := none }) rfl (fun K hK => ?_) AllReadyH.nil
    go_simp
    (refine (allOf_any _ len cap F (ste f) _ hfw hl).mono ?_; rintro e w2 ⟨rfl, b2⟩)
    go_wp2_with fail
    refine hK.out _ _ ?_ (fun hHeld => ?_)
    · (try dsimp only); (refine ⟨?_, ?_, ?_, ?_, ?_, ?_, ?_, ?_, ?_, ?_, ?_⟩ <;> (repeat (first | with_reducible assumption | with_reducible refine keep_drew ?_ | with_reducible refine keep_below (by assumption) ?_)))
    clear hK K
    (try simp only [Act.put, List.setIfInBounds_toArray, List.set_cons_zero, List.set_cons_succ])
    refine wpAnyH_take (i := 6) (oi := { dst := some 2, op := .assign (.tmp 26), type := 4, pos := "l4_word.go:206", after := #[{ on := 5, ground := .data }, { on := 5, ground := .chain }, { on := 0, ground := .phase }, { on := 1, ground := .phase }, { on := 2, ground := .phase }, { on := 3, ground := .phase }, { on := 4, ground := .phase }, { on := 5, ground := .phase }], guard := none }) (v := ?_) rfl (by kernel_rfl) (by kernel_rfl) (by kernel_rfl) (fun _ _ _ h => h) (Or.inl ⟨by rfl, ?_⟩) (by assumption) ?_
    rotate_left 1
    · (intro w hSw; (try dsimp only at hSw); go_simp; try with_reducible rfl)
    (try simp only [Act.put, List.setIfInBounds_toArray, List.set_cons_zero, List.set_cons_succ])
    refine wpAnyH_done (by kernel_rfl) ?_ _
    go_wp2
    go_ret
    exact ⟨ret_bool (by unfold wsB; rw [if_neg hk]), btrans bw.drew b2⟩
end Go.Proofs.YtibnojbhoepcdaaGreatDoor
