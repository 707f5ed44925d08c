/- A region that draws its order: steps that are cheap to check. -/
import Derived.Deep.RegionHeld3
import Derived.OrdersHeld
import Derived.Test.YtgcdcfjaeehnbaaGreatProg
import Derived.Below
import Derived.LoopTactic
import Derived.WalkKit
import Derived.ProofKit
import Derived.WalkLawsBesides
import Derived.Deep.QuietTactic
import Derived.BigQuiet
import Derived.Deep.DrawnRows
namespace Go.Proofs.YtgcdcfjaeehnbaaGreat
def freeAll (md : Region.Mode) (ops : Array Oper) : Bool :=
 Region.noSelect ops && (List.range ops.size).all fun i => (List.range ops.size).all fun j => j == i || match ops[i]?, ops[j]? with
  | some oi, some oj => oj.after.any (fun e => Region.binds md e && e.on == i) || oi.after.any (fun e => Region.binds md e && e.on == j) || oi.apart ops oj
  | _, _ => true
def readyAt (md : Region.Mode) (ops : Array Oper) (listed : Array Bool) (i : Nat) : Bool :=
 !listed.getD i true && ((ops[i]?).map (·.after.all fun e => !Region.binds md e || listed.getD e.on false)).getD false
structure FreeAll (md : Region.Mode) (ops : Array Oper) : Prop where
 out : freeAll md ops = true
section
variable {P : Program} {ops : Array Oper} {Q : Exit → Act → World → Prop} {md : Region.Mode} {S : World → Prop}
theorem ready_of_at {listed : Array Bool} {i : Nat} (h : readyAt md ops listed i = true) : (Region.ready md ops listed).contains i = true := by
 have hlt : i < ops.size := by
  rcases Nat.lt_or_ge i ops.size with q | q
  ·exact q
  ·unfold readyAt at h
   rw [Array.getElem?_eq_none q] at h
   simp at h
 unfold Region.ready
 rw [List.contains_iff_mem, List.mem_filter, List.mem_range]
 exact ⟨hlt, h⟩
theorem getD_other {listed : Array Bool} {j : Nat} (h : listed.getD j false = true) : listed.getD j true = true := by
 rw [Array.getD_eq_getD_getElem?] at h ⊢
 cases e : listed[j]? with
 | none => rfl
 | some b => rw [e] at h; exact h
theorem free_of_all {listed : Array Bool} {i : Nat} (hA : freeAll md ops = true) (h : readyAt md ops listed i = true) : Region.free md ops listed i = true := by
 unfold freeAll at hA
 rw [Bool.and_eq_true] at hA
 have hA := hA.2
 rw [List.all_eq_true] at hA
 have hlt : i < ops.size := by
  rcases Nat.lt_or_ge i ops.size with q | q
  ·exact q
  ·unfold readyAt at h
   rw [Array.getElem?_eq_none q] at h
   simp at h
 have hi : ops[i]? = some ops[i] := Array.getElem?_eq_getElem hlt
 unfold Region.free
 rw [hi]
 rw [List.all_eq_true]
 intro j hj
 have q := hA i (List.mem_range.2 hlt)
 rw [List.all_eq_true] at q
 have q := q j hj
 have hjl : j < ops.size := List.mem_range.1 hj
 have ho : ops[j]? = some ops[j] := Array.getElem?_eq_getElem hjl
 rw [hi, ho] at q
 rw [ho]
 dsimp only at q ⊢
 unfold readyAt at h
 rw [hi, Bool.and_eq_true] at h
 have h2 := h.2
 simp only [Option.map_some, Option.getD_some] at h2
 rw [Array.all_eq_true_iff_forall_mem] at h2
 simp only [Bool.or_eq_true] at q ⊢
 rcases q with q | (q | q) | q
 ·exact .inl (.inl q)
 ·exact .inr (.inl q)
 ·obtain ⟨e, he, hb⟩ := Array.any_eq_true'.1 q
  rw [Bool.and_eq_true, beq_iff_eq] at hb
  have h3 := h2 e he
  rw [hb.1, hb.2] at h3
  exact .inl (.inr (getD_other (by simpa using h3)))
 ·exact .inr (.inr q)
theorem wpAnyH_quick {i : Nat} {oi : Oper} {v : Value} {fuel : Nat} {listed : Array Bool} {a : Act} {w : World} (hF : FreeAll md ops) (L : Array Bool) (hi : ops[i]? = some oi)
  (hr : readyAt md ops listed i = true) (hL : listed.setIfInBounds i true = L)
  (hQ : ∀ c a w, Q (.panic c) (a.put oi.dst v) w → Q (.panic c) a w) (hy : YieldsIf P ops S oi v a) (hS : S w)
  (h : wpAnyH P md ops Q S fuel L (a.put oi.dst v) w) : wpAnyH P md ops Q S (fuel + 1) listed a w :=
 wpAnyH_take hi (by have hA := hF.out; unfold freeAll at hA; rw [Bool.and_eq_true] at hA; exact hA.1) (free_of_all hF.out hr) (ready_of_at hr) hQ hy hS (hL ▸ h)
end
end Go.Proofs.YtgcdcfjaeehnbaaGreat
namespace Go.Proofs.YtgcdcfjaeehnbaaGreat
open Go.ChangeShapes Go.WideShapes Go.ChangeAt Go.RowKit
theorem ret_int {k : IntKind} {a b : Int} (h : a = b) : Ending.returned (.int k a) = .returned (.int k b) := by rw [h]
theorem ret_bool {a b : Bool} (h : a = b) : Ending.returned (.bool a) = .returned (.bool b) := by rw [h]
theorem balloc {w w' : World} (o : Obj) (h : Below w.heap.size w w') : Below w.heap.size w (w'.alloc o) := h.alloc h.size o
theorem btrans {a W w' : World} (h : Below a.heap.size a W) (k : Below W.heap.size W w') : Below a.heap.size a w' := h.trans (k.mono h.size)
def inb (n lo hi : Int) : Bool := decide (lo ≤ n) && decide (n ≤ hi)
def fokB (n i s : Int) : Bool := inb n 0 7 && inb i 0 999 && inb s 1 4
abbrev F4 (n i s : Int) (g : Bool) : Value := .agg #[.int .i64 n, .int .i64 i, .int .i64 s, .bool g]
theorem within_any (n lo hi : Int) (w : World) :
  Calls Tryz.prog 150 #[.int .i64 n, .int .i64 lo, .int .i64 hi] w fun e w' => e = .returned (.bool (inb n lo hi)) ∧ w' = w := by
 go_enter Tryz.func150, Tryz.ntmps150
 go_wp2
 all_goals (go_ret; exact ⟨ret_bool (by unfold inb; by_cases h1 : lo ≤ n <;> by_cases h2 : n ≤ hi <;> simp [h1, h2] <;> omega), rfl⟩)
theorem lin_any (n lo hi : Int) (w : World) :
  Calls Tryz.prog 78 #[.int .i64 n, .int .i64 lo, .int .i64 hi] w fun e w' => e = .returned (.bool (inb n lo hi)) ∧ w' = w := by
 go_enter Tryz.func78, Tryz.ntmps78
 go_wp2
 all_goals (go_ret; exact ⟨ret_bool (by unfold inb; by_cases h1 : lo ≤ n <;> by_cases h2 : n ≤ hi <;> simp [h1, h2] <;> omega), rfl⟩)
theorem nodeOk_any (n : Int) (w : World) :
  Calls Tryz.prog 149 #[.int .i64 n] w fun e w' => e = .returned (.bool (inb n 0 7)) ∧ w' = w := by
 go_enter Tryz.func149, Tryz.ntmps149
 go_wp2_with (go_at_call 150; refine (within_any _ _ _ _).mono ?_; rintro e w' ⟨rfl, rfl⟩)
 go_ret
 exact ⟨rfl, rfl⟩
theorem sfok_any (n i s : Int) (g : Bool) (w : World) :
  Calls Tryz.prog 139 #[.agg #[.int .i64 n, .int .i64 i, .int .i64 s, .bool g]] w fun r w' => r = .returned (.bool (fokB n i s)) ∧ ∃ o, w' = w.alloc o := by
 go_enter Tryz.func139, Tryz.ntmps139
 go_wp2_with (go_at_call 78; refine (lin_any _ _ _ _).mono ?_; rintro e w' ⟨rfl, rfl⟩)
 all_goals (go_ret; exact ⟨ret_bool (by simp_all [fokB]), _, rfl⟩)
theorem fok_any (n i s : Int) (g : Bool) (w : World) :
  Calls Tryz.prog 196 #[.agg #[.int .i64 n, .int .i64 i, .int .i64 s, .bool g]] w fun r w' => r = .returned (.bool (fokB n i s)) ∧ ∃ o, w' = w.alloc o := by
 go_enter Tryz.func196, Tryz.ntmps196
 go_wp2_with (first | (go_at_call 150; refine (within_any _ _ _ _).mono ?_; rintro e w' ⟨rfl, rfl⟩) | (go_at_call 149; refine (nodeOk_any _ _).mono ?_; rintro e w' ⟨rfl, rfl⟩))
 all_goals (go_ret; exact ⟨ret_bool (by simp_all [fokB]), _, rfl⟩)
theorem toFact_any (n i s : Int) (g : Bool) (w : World) :
  Calls Tryz.prog 93 #[.agg #[.int .i64 n, .int .i64 i, .int .i64 s, .bool g]] w fun r w' => r = .returned (.agg #[.int .i64 n, .int .i64 i, .int .i64 s, .bool g]) ∧ ∃ o1 o2 o3, w' = ((w.alloc o1).alloc o2).alloc o3 := by
 go_enter Tryz.func93, Tryz.ntmps93
 go_wp2
 exact bodyPost_ret (v := .agg #[.int .i64 n, .int .i64 i, .int .i64 s, .bool g]) (by simp [results, Tryz.results93, go_sem]) rfl ⟨rfl, _, _, _, rfl⟩
def l3B (i s : Int) (g : Bool) (i' s' : Int) (g' : Bool) : Bool := if i ≠ i' then decide (i' < i) else if s ≠ s' then decide (s' < s) else g && !g'
def overB (n i s : Int) (g : Bool) (n' i' s' : Int) (g' : Bool) : Bool := fokB n i s && fokB n' i' s' && decide (n = n') && l3B i s g i' s' g'
theorem l3_any (n i s : Int) (g : Bool) (n' i' s' : Int) (g' : Bool) (w : World) :
  Calls Tryz.prog 141 #[.agg #[.int .i64 n, .int .i64 i, .int .i64 s, .bool g], .agg #[.int .i64 n', .int .i64 i', .int .i64 s', .bool g']] w fun r w' => r = .returned (.bool (l3B i s g i' s' g')) ∧ ∃ o1 o2, w' = (w.alloc o1).alloc o2 := by
 go_enter Tryz.func141, Tryz.ntmps141
 go_wp2
 all_goals (go_ret; exact ⟨ret_bool (by unfold l3B; simp_all), _, _, rfl⟩)
theorem fover_any (n i s : Int) (g : Bool) (n' i' s' : Int) (g' : Bool) (w : World) :
  Calls Tryz.prog 160 #[.agg #[.int .i64 n, .int .i64 i, .int .i64 s, .bool g], .agg #[.int .i64 n', .int .i64 i', .int .i64 s', .bool g']] w fun r w' => r = .returned (.bool (overB n i s g n' i' s' g')) ∧ Below w.heap.size w w' := by
 go_enter Tryz.func160, Tryz.ntmps160
 go_wp2_with (first | (go_at_call 196; refine (fok_any _ _ _ _ _).mono ?_; rintro e w' ⟨rfl, o4, rfl⟩))
 all_goals (go_ret; refine ⟨ret_bool (by unfold overB l3B; simp_all), ?_⟩; repeat (first | exact Below.refl _ _ | refine balloc _ ?_))
theorem tkQ {P : Program} {md : Region.Mode} {ops : Array Oper} {Q : Exit → Act → World → Prop} {S : World → Prop} {i : Nat} {oi : Oper} {v : Value} {fuel : Nat} {listed : Array Bool} {a : Act} {w : World} (hy : ∀ w, S w → (execOp a.eval oi).run P w = .ok (.value v) w) (h : wpAnyH P md ops Q S fuel (listed.setIfInBounds i true) (a.put oi.dst v) w) (hi : ops[i]? = some oi := by rfl) (hs : Region.noSelect ops = true := by kernel_rfl) (hf : Region.free md ops listed i = true := by kernel_rfl) (hr : (Region.ready md ops listed).contains i = true := by kernel_rfl) (hQ : ∀ c a w, Q (.panic c) (a.put oi.dst v) w → Q (.panic c) a w := by exact fun _ _ _ h => h) (hw : Region.wanted oi (yielded ops a.tmps) = true := by rfl) (hS : S w := by assumption) : wpAnyH P md ops Q S (fuel + 1) listed a w := wpAnyH_take hi hs hf hr hQ (Or.inl ⟨hw, hy⟩) hS h
theorem putP : (∀ (t : Array Value) (d) (i : Nat) (v : Value), (Act.mk t d).put (some i) v = Act.mk (t.setIfInBounds i v) d) ∧ (∀ (a : Act) (v : Value), a.put none v = a) ∧ (∀ (l : List Value) (i : Nat) (x : Value), l.toArray.setIfInBounds i x = (l.set i x).toArray) ∧ (∀ (x y : Value) (l : List Value), (x :: l).set 0 y = y :: l) ∧ (∀ (x y : Value) (n : Nat) (l : List Value), (x :: l).set (n + 1) y = x :: l.set n y) := ⟨fun _ _ _ _ => rfl, fun _ _ => rfl, fun _ _ _ => by simp, fun _ _ _ => rfl, fun _ _ _ _ => rfl⟩
theorem tlT {P : Program} {md : Region.Mode} {ops : Array Oper} {Q : Exit → Act → World → Prop} {S : World → Prop} {i : Nat} {d : Option Nat} {o : Op} {t : TypeId} {p : String} {f : Array Edge} {g : Option (Nat × Bool)} {v : Value} {fuel : Nat} {listed : Array Bool} {a a' : Act} {w : World} (hi : ops[i]? = some ⟨d, o, t, p, f, g⟩) (h : wpAnyH P md ops Q S fuel (listed.setIfInBounds i true) a' w) (hy : ∀ w, S w → (execOp a.eval ⟨d, o, t, p, f, g⟩).run P w = .ok (.value v) w := by (intro w hSw; (try dsimp only at hSw); go_simp; try with_reducible rfl)) (ha : a.put d v = a' := by (simp only [putP]; try rfl)) (hs : Region.noSelect ops = true := by kernel_rfl) (hf : Region.free md ops listed i = true := by kernel_rfl) (hr : (Region.ready md ops listed).contains i = true := by kernel_rfl) (hQ : ∀ c a w, Q (.panic c) (a.put d v) w → Q (.panic c) a w := by exact fun _ _ _ h => h) (hw : Region.wanted ⟨d, o, t, p, f, g⟩ (yielded ops a.tmps) = true := by rfl) (hS : S w := by assumption) : wpAnyH P md ops Q S (fuel + 1) listed a w := wpAnyH_take hi hs hf hr hQ (Or.inl ⟨hw, hy⟩) hS (ha ▸ h)
theorem tzT {P : Program} {md : Region.Mode} {ops : Array Oper} {Q : Exit → Act → World → Prop} {S : World → Prop} {i : Nat} {d : Option Nat} {o : Op} {t : TypeId} {p : String} {f : Array Edge} {g : Option (Nat × Bool)} {fuel : Nat} {listed : Array Bool} {a a' : Act} {w : World} (hi : ops[i]? = some ⟨d, o, t, p, f, g⟩) (h : wpAnyH P md ops Q S fuel (listed.setIfInBounds i true) a' w) (ha : a.put d undef = a' := by (simp only [putP]; try rfl)) (hs : Region.noSelect ops = true := by kernel_rfl) (hf : Region.free md ops listed i = true := by kernel_rfl) (hr : (Region.ready md ops listed).contains i = true := by kernel_rfl) (hQ : ∀ c a w, Q (.panic c) (a.put d undef) w → Q (.panic c) a w := by exact fun _ _ _ h => h) (hw : Region.wanted ⟨d, o, t, p, f, g⟩ (yielded ops a.tmps) = false := by rfl) (hS : S w := by assumption) : wpAnyH P md ops Q S (fuel + 1) listed a w := wpAnyH_take hi hs hf hr hQ (Or.inr ⟨hw, rfl⟩) hS (ha ▸ h)
end Go.Proofs.YtgcdcfjaeehnbaaGreat
