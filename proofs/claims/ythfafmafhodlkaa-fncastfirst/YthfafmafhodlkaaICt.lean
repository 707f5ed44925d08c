/- CastTake: what was told is counted. -/
import Derived.Test.YthfafmafhodlkaaITk
import Derived.Maps.OwnIn
import Derived.Maps.OwnOps
namespace Go.Proofs.Ythfafmafhodlkaa.I
open Go.RowKit Go.Shelf
attribute [local go_sem] Oper.semAt_some
/-- how often a node is among items -/
def cnt (xs : List It) (k : Int) : Nat := (xs.filter fun x => decide (x.n = k)).length
theorem cnt_snoc (xs : List It) (x : It) (k : Int) : cnt (xs ++ [x]) k = cnt xs k + (if x.n = k then 1 else 0) := by
  unfold cnt
  rw [List.filter_append, List.length_append]
  by_cases h : x.n = k <;> simp [h]
theorem cnt_le (xs : List It) (k : Int) : cnt xs k ≤ xs.length := List.length_filter_le _ _
/-- the map counts -/
def Cnts (D : DataW Unit) (xs : List It) : Prop := Maps.IsMap D ∧ ∀ k : Int, D.atKey (.int .i64 k) (.lit (.int .i64 0)) = .lit (.int .i64 ((cnt xs k : Nat) : Int))
theorem cnts_put {D : DataW Unit} {xs : List It} {x : It} (h : Cnts D xs) : Cnts (D.put (.int .i64 x.n) (.lit (.int .i64 ((cnt xs x.n : Nat) + 1 : Int)))) (xs ++ [x]) := by
  refine ⟨h.1.put _ _, fun k => ?_⟩
  rw [cnt_snoc]
  by_cases e : k = x.n
  · subst e
    rw [Maps.atKey_put_same h.1 (by trivial), if_pos rfl]
    simp
  · have hne : (Lit.int .i64 k) ≠ .int .i64 x.n := fun h => e (by simpa using h)
    rw [Maps.atKey_put_other hne, h.2 k, if_neg (fun h => e h.symm)]
    simp
/-- whether an item was told -/
def told (xs : List It) (x : It) : Bool := decide (0 < cnt xs x.n)
def itF (x : It) : Fc := ⟨x.n, x.i, x.s, x.g⟩
def lessI (x : It) : It := ⟨x.n, x.i, x.s, x.g, x.l - 1⟩
/-- the facts told, and what is left -/
def gF (q : It → Bool) (L : List It) : List Fc := (L.filter q).map itF
def leftI (q : It → Bool) (x : It) : Option It := if q x = true then (if 0 < x.l - 1 then some (lessI x) else none) else (if 0 < x.l then some x else none)
def gL (q : It → Bool) (L : List It) : List It := L.filterMap (leftI q)
theorem gF_snoc (q : It → Bool) (L : List It) (x : It) : gF q (L ++ [x]) = gF q L ++ (if q x = true then [itF x] else []) := by
  unfold gF
  rw [List.filter_append, List.map_append]
  by_cases h : q x = true <;> simp [h]
theorem gL_snoc (q : It → Bool) (L : List It) (x : It) : gL q (L ++ [x]) = gL q L ++ (leftI q x).toList := by
  unfold gL
  rw [List.filterMap_append]
  cases h : leftI q x <;> simp [h]
theorem taken_in (n : Nat) (a : Option Addr) (len cap : Nat) (most : Int) (w : World) :
    CallsIn Fence.wide n Try.prog 24 #[.slice a len cap, .int .i64 most] w fun e w' => e = .returned (.func (.func 37) #[] #[.pointer (some ⟨w.heap.size, 0, none⟩), .pointer (some ⟨w.heap.size + 1, 0, none⟩)]) ∧ w' = (w.alloc (.cells #[.slice a len cap] 23)).alloc (.cells #[.int .i64 most] 3) := by
  refine callsIn_of_wp Try.func24 rfl trivial ?_ rfl
  simp only [Try.ntmps24, List.size_toArray, List.length_cons, List.length_nil, Nat.reduceAdd, Nat.reduceSub, Array.replicate_succ, Array.replicate_zero, List.push_toArray, List.append_toArray, List.nil_append, List.cons_append]
  gi_wp2
  go_ret
  exact ⟨rfl, rfl⟩
theorem eg37 : ∀ args w, (callFunc 37 args).run Try.prog w = .ok (.enter 37 args) w := fun _ _ => by kernel_rfl
abbrev icells (x : It) : Array Value := #[.int .i64 x.n, .int .i64 x.i, .int .i64 x.s, .bool x.g, .int .i64 x.l]
/-- an item lies in a block -/
def Boxed5 (W : World) (B : Nat) (x : It) : Prop := W.heap[B]? = some (.cells (icells x) 36 (0, 0))
theorem Boxed5.c0 {W : World} {B : Nat} {f : It} (h : Boxed5 W B f) : W.cell? ⟨B, 0, none⟩ = some (.int .i64 f.n) := by simp [World.cell?, show W.heap[B]? = _ from h]
theorem Boxed5.c1 {W : World} {B : Nat} {f : It} (h : Boxed5 W B f) : W.cell? ⟨B, 1, none⟩ = some (.int .i64 f.i) := by simp [World.cell?, show W.heap[B]? = _ from h]
theorem Boxed5.c2 {W : World} {B : Nat} {f : It} (h : Boxed5 W B f) : W.cell? ⟨B, 2, none⟩ = some (.int .i64 f.s) := by simp [World.cell?, show W.heap[B]? = _ from h]
theorem Boxed5.c3 {W : World} {B : Nat} {f : It} (h : Boxed5 W B f) : W.cell? ⟨B, 3, none⟩ = some (.bool f.g) := by simp [World.cell?, show W.heap[B]? = _ from h]
theorem Boxed5.c4 {W : World} {B : Nat} {f : It} (h : Boxed5 W B f) : W.cell? ⟨B, 4, none⟩ = some (.int .i64 f.l) := by simp [World.cell?, show W.heap[B]? = _ from h]
theorem map_low {w w' : World} {B mb c : Nat} {D : DataW Unit} {R : Value → Option (DataW Unit × List MemPlace)} (h : w.ownsMap Try.prog 3 R mb c D) (hb : Below B w w') (hlt : mb < B) : w'.ownsMap Try.prog 3 R mb c D := by
  obtain ⟨es, clock, h1, h2⟩ := h
  exact ⟨es, clock, (hb.block mb hlt).trans h1, h2⟩
theorem map_lt {w : World} {mb c : Nat} {D : DataW Unit} {R : Value → Option (DataW Unit × List MemPlace)} (h : w.ownsMap Try.prog 3 R mb c D) : mb < w.heap.size := by
  obtain ⟨es, clock, h1, _⟩ := h
  exact (Array.getElem?_eq_some_iff.1 h1).1
theorem map_obj {w : World} {mb c : Nat} {D : DataW Unit} {R : Value → Option (DataW Unit × List MemPlace)} (h : w.ownsMap Try.prog 3 R mb c D) : ∃ o : Obj, w.heap[mb]? = some o ∧ o.isCells = false := by
  obtain ⟨es, clock, h1, _⟩ := h
  exact ⟨_, h1, rfl⟩
theorem zero3 (w : World) : (zeroValue 3).run Try.prog w = .ok (.int .i64 0) w := by kernel_rfl
/-- what the counting keeps: the variable's box, the map -/
def Told (mb ob : Nat) (xs : List It) (w : World) : Prop := Boxed w ob 48 (.map (some mb)) ∧ ∃ D, w.ownsMap Try.prog 3 (plainElem Try.prog 3) mb xs.length D ∧ Cnts D xs
theorem gF_len (q : It → Bool) (L : List It) : (gF q L).length ≤ L.length := by
  unfold gF
  rw [List.length_map]
  exact List.length_filter_le _ _
theorem gL_len (q : It → Bool) (L : List It) : (gL q L).length ≤ L.length := List.length_filterMap_le _ _
theorem infoFc : (Try.prog.info? 34).map (fun i => (i.zero, i.size, i.bytes)) = some (some (Ythfafmafhodlkaa.fval Fc.zero), 4, 32) := by kernel_rfl
theorem Boxed5.f4 {W : World} {B : Nat} {f : It} (h : Boxed5 W B f) : W.frozen? ⟨B, 4, none⟩ = false := by simp [World.frozen?, show W.heap[B]? = _ from h]
theorem Boxed5.below {W W' : World} {B : Nat} {f : It} (h : Boxed5 W B f) (hb : Below W.heap.size W W') : Boxed5 W' B f := (hb.block B (Array.getElem?_eq_some_iff.1 h).1).trans h
theorem Told.below {W W' : World} {mb ob : Nat} {xs : List It} (h : Told mb ob xs W) (hb : Below W.heap.size W W') : Told mb ob xs W' := ⟨Boxed.below h.1 hb, by obtain ⟨D, m, c⟩ := h.2; exact ⟨D, map_low m hb (map_lt m), c⟩⟩
theorem new_fact (W : World) (f : Fc) : ∀ j u, (Ythfafmafhodlkaa.fl [f])[j]? = some u → (W.alloc (.cells #[.int .i64 f.n, .int .i64 f.i, .int .i64 f.s, .bool f.g] 34)).cell? ((⟨W.heap.size, 0, none⟩ : Addr).add j) = some u := by
  intro j u hu
  have hj : j < 4 := by have := (List.getElem?_eq_some_iff.1 hu).1; simpa [Ythfafmafhodlkaa.fl] using this
  match j, hj with
  | 0, _ => simpa [Ythfafmafhodlkaa.fl, Addr.add] using hu
  | 1, _ => simpa [Ythfafmafhodlkaa.fl, Addr.add] using hu
  | 2, _ => simpa [Ythfafmafhodlkaa.fl, Addr.add] using hu
  | 3, _ => simpa [Ythfafmafhodlkaa.fl, Addr.add] using hu
theorem new_item (W : World) (n0 : Nat) (h : W.heap.size = n0) (f : It) : ∀ j u, (fl [f])[j]? = some u → (W.alloc (.cells #[.int .i64 f.n, .int .i64 f.i, .int .i64 f.s, .bool f.g, .int .i64 f.l] 36)).cell? ((⟨n0, 0, none⟩ : Addr).add j) = some u := by
  subst h
  intro j u hu
  have hj : j < 5 := by have := (List.getElem?_eq_some_iff.1 hu).1; simpa [fl] using this
  match j, hj with
  | 0, _ => simpa [fl, Addr.add] using hu
  | 1, _ => simpa [fl, Addr.add] using hu
  | 2, _ => simpa [fl, Addr.add] using hu
  | 3, _ => simpa [fl, Addr.add] using hu
  | 4, _ => simpa [fl, Addr.add] using hu
theorem grown_set (W : World) (b j : Nat) (u : Value) : W.grownBy (W.setCell ⟨b, j, none⟩ u) (some b) := ⟨rfl, rfl, rfl, by simp, fun k _ hk => heap_setCell_other W ⟨b, j, none⟩ k u (fun e => hk (by simp [e]))⟩
theorem row_ne {W : World} {base e size n B : Nat} {v : Value} {xs : List Value} {x : It} (ho : W.ownsRow base e size v n xs) (hx : W.heap[B]? = some (.cells (icells x) 36 (0, 0))) (hne : e ≠ 36) : v.ownBlock ≠ some B := fun e' => by
  rcases ho.2 with ⟨rfl, _⟩ | ⟨g, cap, cur, rfl, _, hgb, _⟩
  · simp [Value.ownBlock] at e'
  · obtain rfl : g = B := by simpa [Value.ownBlock] using e'
    rw [hgb] at hx
    cases hx
    exact hne rfl
theorem set_told {W : World} {mb ob B : Nat} {x : It} {ys : List It} {v : Value} (hx : W.heap[B]? = some (.cells (icells x) 36 (0, 0))) (h : Told mb ob ys W) : Told mb ob ys (W.setCell ⟨B, 4, none⟩ v) := by
  have gs := grown_set W B 4 v
  refine ⟨h.1.kept gs (fun e => by cases e; have h0 : W.heap[ob]? = _ := h.1; rw [hx] at h0; cases h0), ?_⟩
  obtain ⟨D, ⟨es, clock, h1, h2⟩, c⟩ := h.2
  exact ⟨D, ⟨es, clock, (gs.block mb (Array.getElem?_eq_some_iff.1 h1).1 (fun e => by cases e; rw [hx] at h1; cases h1)).trans h1, h2⟩, c⟩
section
variable {W w5 : World} {base e size n : Nat} {v : Value} {xs : List Value} {o : Obj}
theorem keep_other (ho : W.ownsRow base e size v n xs) (hg : (W.alloc o).grownBy w5 v.ownBlock) {k : Nat} {ob : Obj} (hk : W.heap[k]? = some ob) (hno : ∀ cur, ob ≠ .cells cur e (0, 0)) : w5.heap[k]? = some ob := by
  have hlt := (Array.getElem?_eq_some_iff.1 hk).1
  refine (hg.block k (by simp; omega) (fun e' => ?_)).trans ((Below.heap_alloc W o k hlt).trans hk)
  rcases ho.2 with ⟨rfl, _⟩ | ⟨g, cap, cur, rfl, _, hgb, _⟩
  · simp [Value.ownBlock] at e'
  · obtain rfl : k = g := by simpa [Value.ownBlock] using e'
    rw [hgb] at hk
    cases hk
    exact hno _ rfl
theorem keep_row {e' size' n' : Nat} {v' : Value} {xs' : List Value} (ho : W.ownsRow base e size v n xs) (hg : (W.alloc o).grownBy w5 v.ownBlock) (h : W.ownsRow base e' size' v' n' xs') (hne : e' ≠ e) : w5.ownsRow base e' size' v' n' xs' := by
  refine ⟨h.1, h.2.imp id ?_⟩
  rintro ⟨g, cap, cur, e1, e2, e3, e4⟩
  exact ⟨g, cap, cur, e1, e2, keep_other ho hg e3 (fun cur' h' => by cases h'; exact hne rfl), e4⟩
theorem keep_told {mb ob : Nat} {ys : List It} (ho : W.ownsRow base e size v n xs) (hg : (W.alloc o).grownBy w5 v.ownBlock) (h : Told mb ob ys W) (h48 : e ≠ 48 := by decide) : Told mb ob ys w5 := by
  refine ⟨keep_other ho hg h.1 (fun cur h' => by cases h'; exact h48 rfl), ?_⟩
  obtain ⟨D, ⟨es, clock, h1, h2⟩, c⟩ := h.2
  exact ⟨D, ⟨es, clock, keep_other ho hg h1 (fun cur h' => by cases h'), h2⟩, c⟩
theorem keep_low (ho : W.ownsRow base e size v n xs) (hg : (W.alloc o).grownBy w5 v.ownBlock) (hs : base ≤ W.heap.size) : Below base W w5 :=
  ⟨hg.os, hg.tape, hg.output, by have := hg.size; simp at this; omega, fun k hk => (hg.block k (by simp; omega) (fun e' => by have := (ho.lt k e'.symm).1; omega)).trans (Below.heap_alloc W o k (by omega))⟩
end
theorem keepsFrom_below {B : Nat} {W W' : World} (h : Below W.heap.size W W') : KeepsFrom B W W' := ⟨h.size, fun k _ _ hk _ => (h.block k (Array.getElem?_eq_some_iff.1 hk).1).trans hk⟩
theorem told_step {W W1 W2 W3 w : World} {mb ob Bz : Nat} {pre : List It} {x : It} {D : DataW Unit} (hB : Boxed W ob 48 (.map (some mb))) (hb : Below w.heap.size w W) (hD : Cnts D pre) (b1 : Below W.heap.size W W1) (b2 : Below W1.heap.size W1 W2) (hm2 : W2.ownsMap Try.prog 3 (plainElem Try.prog 3) mb pre.length D)
    (hm3 : W3.ownsMap Try.prog 3 (plainElem Try.prog 3) mb (pre.length + 1) (D.put (.int .i64 x.n) (.lit (.int .i64 ((cnt pre x.n : Nat) + 1 : Int))))) (g3 : W2.grownBy W3 (some mb)) (hmb : mb < Bz) (hbz : w.heap.size ≤ mb) :
    KeepsFrom Bz W W3 ∧ KeepsCells W W3 ∧ Told mb ob (pre ++ [x]) W3 ∧ Below w.heap.size w W3 := by
  have b12 := b1.trans (b2.mono b1.size)
  obtain ⟨o, ho, hc⟩ := map_obj hm2
  have hne : some ob ≠ some mb := fun e => by
    cases e
    have := Boxed.below hB b12
    rw [show W2.heap[mb]? = _ from this] at ho
    cases ho
    cases hc
  refine ⟨(keepsFrom_below b12).trans (KeepsFrom.of_grownBy g3 (fun j e => by cases e; exact hmb)), (KeepsCells.below b12).trans (KeepsCells.grown g3 ho hc), ⟨(Boxed.below hB b12).kept g3 hne, _, ?_, cnts_put hD⟩, (hb.trans (b12.mono hb.size)).trans (below_grown g3 hbz (Nat.le_trans hb.size b12.size))⟩
  rw [List.length_append]
  exact hm3
set_option maxRecDepth 100000 in
set_option maxHeartbeats 8000000 in
theorem ctake_in (n : Nat) (hn : 4 ≤ n) (a : Option Addr) (cap : Nat) (L : List It) (most : Int) (w : World) (h : TSl w a L.length (fun k => L.getD k It.zero)) (hl : L.length ≤ 8) (hok : ∀ x ∈ L, okI x) (hc : cokB L.length (fun k => L.getD k It.zero) = true) :
    CallsIn Fence.wide n Try.prog 7 #[.slice a L.length cap, .int .i64 most] w fun e w' => ∃ v8 v9 xs, e = .returned (.tuple #[v8, v9]) ∧ Taken L most xs ∧ w'.ownsRow w.heap.size 34 4 v8 (gF (told xs) L).length (Ythfafmafhodlkaa.fl (gF (told xs) L)) ∧ w'.ownsRow w.heap.size 36 5 v9 (gL (told xs) L).length (fl (gL (told xs) L)) ∧ Below w.heap.size w w' := by
  have hC := cok_any a L.length cap (fun k => L.getD k It.zero) w h (by omega)
  rw [hc] at hC
  have hmm := @run_makeMap Try.prog
  refine callsIn_of_wp_marks Try.func7 rfl trivial ?_ rfl
  simp only [Try.ntmps7, List.size_toArray, List.length_cons, List.length_nil, Nat.reduceAdd, Nat.reduceSub, Array.replicate_succ, Array.replicate_zero, List.push_toArray, List.append_toArray, List.nil_append, List.cons_append]
  gi_wp2_with fail
  refine ⟨trivial, by simp [Fence.wide], ?_⟩
  refine (callsIn_wide.2 hC).mono ?_
  rintro e w1 ⟨rfl, b1⟩
  have hL1 := h.below b1
  have m1 := (World.ownsMap_made (H := Unit) w1 Try.prog 3 (plainElem Try.prog 3)).alloc (.cells #[.map (some w1.heap.size)] 48)
  have o1 := Boxed.new (w1.alloc (.map #[] 0)) 48 (.map (some w1.heap.size))
  have b2 : Below w.heap.size w ((w1.alloc (.map #[] 0)).alloc (.cells #[.map (some w1.heap.size)] 48)) := (b1.alloc b1.size _).alloc (by simp; have := b1.size; omega) _
  have b12 : Below w1.heap.size w1 ((w1.alloc (.map #[] 0)).alloc (.cells #[.map (some w1.heap.size)] 48)) := ((Below.refl _ w1).alloc (Nat.le_refl _) _).alloc (by simp) _
  have hL2 := hL1.below b12
  rw [World.size_alloc] at o1
  gi_wp2_with fail
  refine ⟨trivial, by simp [Fence.wide], ?_⟩
  generalize ((w1.alloc (.map #[] 0)).alloc (.cells #[.map (some w1.heap.size)] 48)) = w2 at *
  have hmw := b1.size
  generalize w1.heap.size + 1 = ob at *
  generalize w1.heap.size = mb at *
  have hT2 : Told mb ob [] w2 := ⟨o1, _, m1, Maps.isMap_empty, fun k => rfl⟩
  clear hC hL1 b1 b12 o1 m1
  refine (taken_in _ a L.length cap most w2).mono ?_
  rintro e w3 ⟨rfl, hw3⟩
  have b3 : Below w2.heap.size w2 w3 := by rw [hw3]; exact ((Below.refl _ w2).alloc (Nat.le_refl _) _).alloc (by simp) _
  have cl : Boxed w3 w2.heap.size 23 (.slice a L.length cap) := by rw [hw3]; exact (Boxed.new w2 23 _).alloc _
  have cm : Boxed w3 (w2.heap.size + 1) 3 (.int .i64 most) := by
    rw [hw3]
    have := Boxed.new (w2.alloc (.cells #[.slice a L.length cap] 23)) 3 (.int .i64 most)
    rwa [World.size_alloc] at this
  have hL3 := hL2.below b3
  have hT3 : Told mb ob [] w3 := ⟨Boxed.below hT2.1 b3, by obtain ⟨D, m, c⟩ := hT2.2; exact ⟨D, map_low m b3 (map_lt m), c⟩⟩
  have B3 := b2.trans (b3.mono b2.size)
  have hmb : mb < w3.heap.size := by obtain ⟨D, m, c⟩ := hT3.2; exact map_lt m
  have hob : ob < w3.heap.size := hT3.1.lt
  clear hw3 b3 hT2 hL2 b2
  generalize w2.heap.size + 1 = Bm at *
  generalize w2.heap.size = Bl at *
  gi_wp2_with fail
  refine wpIn_rangeFunc_low (α := It) rfl (by omega) (gf := 37) (lb := #[.pointer (some ⟨Bl, 0, none⟩), .pointer (some ⟨Bm, 0, none⟩)]) rfl trivial eg37 (encs := fun x => #[ival x]) (S := Taken L most) (Px := okI) (N := 9) (fun _ => rfl)
    (fun l J W hW hJ hY h0 => taken1_in (n - 1) l Bl Bm a cap L most w3 hl hok cl cm hL3 J W hW hJ hY h0)
    (fun pre W => Told mb ob pre W ∧ Below w.heap.size w W)
    (fun s A B hs hb => ⟨⟨(hb.block ob hob).trans hs.1.1, by obtain ⟨D, m, c⟩ := hs.1.2; exact ⟨D, map_low m hb hmb, c⟩⟩, hs.2.trans (hb.mono B3.size)⟩)
    ⟨hT3, B3⟩
    (fun x a' W => ∃ Bx, Boxed5 W Bx x ∧ a' = { tmps := #[.slice a L.length cap, .int .i64 most, undef, undef, .slice none 0 0, .slice none 0 0, .pointer (some ⟨ob, 0, none⟩), .pointer (some ⟨Bx, 0, none⟩), undef, undef, undef, undef, .slice a L.length cap, .bool true, .bool false, .map (some mb), .slice a L.length cap, .int .i64 most, .func (.func 37) #[] #[.pointer (some ⟨Bl, 0, none⟩), .pointer (some ⟨Bm, 0, none⟩)], ival x, undef, undef, undef, undef, undef, undef, undef, undef, undef, undef, undef, undef, undef, undef, undef, undef, undef, undef, undef, undef, undef, undef, undef, undef, undef, undef, undef, undef, undef, undef, undef, undef, undef, undef, undef], defers := [] })
    (fun x a' W l o o' hs hl ho => by
      obtain ⟨Bx, h1, h2⟩ := hs
      exact ⟨Bx, (World.putObj_heap_other (fun e => by subst e; rw [show W.heap[Bx]? = _ from h1] at hl; cases hl; cases ho)).trans h1, h2⟩)
    ?assign ?body ?done
  case assign =>
    rintro l pre x W K hI hK
    gi_wp2
    exact hK _ _ ((Below.refl _ W).alloc (Nat.le_refl _) _) ⟨W.heap.size, World.alloc_heap_new W _, rfl⟩
  case body =>
    rintro l pre x a' W hlw hsz ⟨⟨hB, D, hm, hD⟩, hb⟩ ⟨Bx, hx, rfl⟩ hxo hlen
    clear hmm hL3 cl cm h hc hT3 hok hl B3
    have c6 := hB.cell
    have x0 := hx.c0
    have x1 := hx.c1
    have x2 := hx.c2
    have x3 := hx.c3
    have x4 := hx.c4
    gi_wp2_with fail
    refine wpIn_region_any (by kernel_rfl) ?_
    have hW0 : Below W.heap.size W { W with drawn := W.drawn + 1 } := ⟨rfl, rfl, rfl, Nat.le_refl _, fun _ _ => rfl⟩
    have hm1 : ({ W with drawn := W.drawn + 1 } : World).ownsMap Try.prog 3 (plainElem Try.prog 3) mb pre.length D := hm
    have hoW : ob < ({ W with drawn := W.drawn + 1 } : World).heap.size := hB.lt
    have hkey : keyOf Try.prog 3 (.int .i64 x.n) = some (.int .i64 x.n) := Maps.keyOf_int_mk Try.underlying3 (WalkArith.wf_i64 (by obtain ⟨_, _, h3, h4⟩ := hxo; omega))
    have hwr : IntKind.i64.wrap ((cnt pre x.n : Int) + 1) = (cnt pre x.n : Int) + 1 := by rw [IntKind.wrap_i64]; have := cnt_le pre x.n; omega
    have hwf : cnt pre x.n ≤ 9 := by have := cnt_le pre x.n; omega
    replace c6 : ({ W with drawn := W.drawn + 1 } : World).cell? _ = _ := c6
    replace x0 : ({ W with drawn := W.drawn + 1 } : World).cell? _ = _ := x0
    replace x1 : ({ W with drawn := W.drawn + 1 } : World).cell? _ = _ := x1
    replace x2 : ({ W with drawn := W.drawn + 1 } : World).cell? _ = _ := x2
    replace x3 : ({ W with drawn := W.drawn + 1 } : World).cell? _ = _ := x3
    replace x4 : ({ W with drawn := W.drawn + 1 } : World).cell? _ = _ := x4
    generalize ({ W with drawn := W.drawn + 1 } : World) = W1 at *
    refine wpAnyIn_ready (rs := [0, 1]) (by kernel_rfl) (by simp) ?_
    refine AllReadyIn.cons (o := { dst := some 20, op := Go.Op.load 48 (Go.Operand.tmp 6), type := 48, pos := "l5_cast.go:96", after := #[], guard := none }) rfl (fun K hK => ?_) (AllReadyIn.cons (o := { dst := some 21, op := Go.Op.load 36 (Go.Operand.tmp 7), type := 36, pos := "l5_cast.go:96", after := #[], guard := none }) rfl (fun K hK => ?_) AllReadyIn.nil)
    · rw [if_pos (by rfl)]
      refine ⟨fun _ _ => trivial, ?_⟩
      go_simp
      refine hK _ _ ?_
      clear hK K
      refine wpAnyIn_ready (rs := [1]) (by kernel_rfl) (by simp) ?_
      refine AllReadyIn.cons (o := { dst := some 21, op := Go.Op.load 36 (Go.Operand.tmp 7), type := 36, pos := "l5_cast.go:96", after := #[], guard := none }) rfl (fun K hK => ?_) AllReadyIn.nil
      rw [if_pos (by rfl)]
      refine ⟨fun _ _ => trivial, ?_⟩
      go_simp
      refine hK _ _ ?_
      clear hK K
      refine wpAnyIn_ready (rs := [2]) (by kernel_rfl) (by simp) ?_
      refine AllReadyIn.cons (o := { dst := some 22, op := Go.Op.call { callee := Go.Callee.value (Go.Operand.func 25), args := #[Go.Operand.tmp 21], argTypes := #[36] }, type := 3, pos := "l5_cast.go:96", after := #[{ on := 1, ground := Go.Ground.data }], guard := none }) rfl (fun K hK => ?_) AllReadyIn.nil
      rw [if_pos (by rfl)]
      refine ⟨fun _ _ => trivial, ?_⟩
      go_simp
      refine ⟨by simp [Fence.wide], ?_⟩
      refine (CallsIn.inRound l (callsIn_wide.2 (key_any x _))).mono ?_
      rintro e W2 ⟨rfl, b2⟩
      dsimp only
      refine hK _ _ ?_
      clear hK K
      replace c6 := (b2.cell (p := ⟨ob, 0, none⟩) hoW).trans c6
      have hm2 := map_low hm1 b2 (map_lt hm1)
      obtain ⟨c, hrun, hat, -⟩ := hm2.lookup_int keyed3 Try.underlying48 Try.underlying3 (zero3 _) (key := .int .i64 x.n) (kl := .int .i64 x.n) hkey
      rw [hD.2 x.n] at hat
      have hc : c = ((cnt pre x.n : Nat) : Int) := by simpa using hat.symm
      subst hc
      clear hat
      refine wpAnyIn_ready (rs := [3]) (by kernel_rfl) (by simp) ?_
      refine AllReadyIn.cons (o := { dst := some 23, op := Go.Op.lookup 48 (Go.Operand.tmp 20) (Go.Operand.tmp 22) false, type := 3, pos := "l5_cast.go:96", after := #[{ on := 0, ground := Go.Ground.data }, { on := 2, ground := Go.Ground.data }], guard := none }) rfl (fun K hK => ?_) AllReadyIn.nil
      rw [if_pos (by rfl)]
      refine ⟨fun _ _ => trivial, ?_⟩
      go_simp
      refine hK _ _ ?_
      clear hK K
      refine wpAnyIn_ready (rs := [4]) (by kernel_rfl) (by simp) ?_
      refine AllReadyIn.cons (o := { dst := some 24, op := Go.Op.binOp Go.BinOp.add 3 (Go.Operand.tmp 23) (Go.Operand.const (Go.Value.int Go.IntKind.i64 1)) 3, type := 3, pos := "l5_cast.go:96", after := #[{ on := 3, ground := Go.Ground.data }], guard := none }) rfl (fun K hK => ?_) AllReadyIn.nil
      rw [if_pos (by rfl)]
      refine ⟨fun _ _ => trivial, ?_⟩
      go_simp
      refine hK _ _ ?_
      clear hK K
      obtain ⟨W3, hrun3, hm3, g3⟩ := hm2.update keyed3 Try.underlying48 (by unfold maxLen; omega) (key := .int .i64 x.n) (kl := .int .i64 x.n) (val := .int .i64 ((cnt pre x.n : Nat) + 1 : Int)) hkey (plainElem_int Try.underlying3 (WalkArith.wf_i64 (by omega)))
      refine wpAnyIn_ready (rs := [5]) (by kernel_rfl) (by simp) ?_
      refine AllReadyIn.cons (o := { dst := none, op := Go.Op.mapUpdate 48 (Go.Operand.tmp 20) (Go.Operand.tmp 22) (Go.Operand.tmp 24), type := 0, pos := "l5_cast.go:96", after := #[{ on := 0, ground := Go.Ground.data }, { on := 2, ground := Go.Ground.data }, { on := 4, ground := Go.Ground.data }, { on := 2, ground := Go.Ground.chain }, { on := 0, ground := Go.Ground.phase }, { on := 1, ground := Go.Ground.phase }, { on := 2, ground := Go.Ground.phase }, { on := 3, ground := Go.Ground.phase }, { on := 4, ground := Go.Ground.phase }], guard := none }) rfl (fun K hK => ?_) AllReadyIn.nil
      rw [if_pos (by rfl)]
      refine ⟨fun _ _ => trivial, ?_⟩
      go_simp
      refine hK _ _ ?_
      clear hK K
      refine wpAnyIn_done (by kernel_rfl) ?_ _
      exact ⟨rfl, told_step hB hb hD hW0 b2 hm2 hm3 g3 hmb hmw⟩
    · rw [if_pos (by rfl)]
      refine ⟨fun _ _ => trivial, ?_⟩
      go_simp
      refine hK _ _ ?_
      clear hK K
      refine wpAnyIn_ready (rs := [0, 2]) (by kernel_rfl) (by simp) ?_
      refine AllReadyIn.cons (o := { dst := some 20, op := Go.Op.load 48 (Go.Operand.tmp 6), type := 48, pos := "l5_cast.go:96", after := #[], guard := none }) rfl (fun K hK => ?_) (AllReadyIn.cons (o := { dst := some 22, op := Go.Op.call { callee := Go.Callee.value (Go.Operand.func 25), args := #[Go.Operand.tmp 21], argTypes := #[36] }, type := 3, pos := "l5_cast.go:96", after := #[{ on := 1, ground := Go.Ground.data }], guard := none }) rfl (fun K hK => ?_) AllReadyIn.nil)
      · rw [if_pos (by rfl)]
        refine ⟨fun _ _ => trivial, ?_⟩
        go_simp
        refine hK _ _ ?_
        clear hK K
        refine wpAnyIn_ready (rs := [2]) (by kernel_rfl) (by simp) ?_
        refine AllReadyIn.cons (o := { dst := some 22, op := Go.Op.call { callee := Go.Callee.value (Go.Operand.func 25), args := #[Go.Operand.tmp 21], argTypes := #[36] }, type := 3, pos := "l5_cast.go:96", after := #[{ on := 1, ground := Go.Ground.data }], guard := none }) rfl (fun K hK => ?_) AllReadyIn.nil
        rw [if_pos (by rfl)]
        refine ⟨fun _ _ => trivial, ?_⟩
        go_simp
        refine ⟨by simp [Fence.wide], ?_⟩
        refine (CallsIn.inRound l (callsIn_wide.2 (key_any x _))).mono ?_
        rintro e W2 ⟨rfl, b2⟩
        dsimp only
        refine hK _ _ ?_
        clear hK K
        replace c6 := (b2.cell (p := ⟨ob, 0, none⟩) hoW).trans c6
        have hm2 := map_low hm1 b2 (map_lt hm1)
        obtain ⟨c, hrun, hat, -⟩ := hm2.lookup_int keyed3 Try.underlying48 Try.underlying3 (zero3 _) (key := .int .i64 x.n) (kl := .int .i64 x.n) hkey
        rw [hD.2 x.n] at hat
        have hc : c = ((cnt pre x.n : Nat) : Int) := by simpa using hat.symm
        subst hc
        clear hat
        refine wpAnyIn_ready (rs := [3]) (by kernel_rfl) (by simp) ?_
        refine AllReadyIn.cons (o := { dst := some 23, op := Go.Op.lookup 48 (Go.Operand.tmp 20) (Go.Operand.tmp 22) false, type := 3, pos := "l5_cast.go:96", after := #[{ on := 0, ground := Go.Ground.data }, { on := 2, ground := Go.Ground.data }], guard := none }) rfl (fun K hK => ?_) AllReadyIn.nil
        rw [if_pos (by rfl)]
        refine ⟨fun _ _ => trivial, ?_⟩
        go_simp
        refine hK _ _ ?_
        clear hK K
        refine wpAnyIn_ready (rs := [4]) (by kernel_rfl) (by simp) ?_
        refine AllReadyIn.cons (o := { dst := some 24, op := Go.Op.binOp Go.BinOp.add 3 (Go.Operand.tmp 23) (Go.Operand.const (Go.Value.int Go.IntKind.i64 1)) 3, type := 3, pos := "l5_cast.go:96", after := #[{ on := 3, ground := Go.Ground.data }], guard := none }) rfl (fun K hK => ?_) AllReadyIn.nil
        rw [if_pos (by rfl)]
        refine ⟨fun _ _ => trivial, ?_⟩
        go_simp
        refine hK _ _ ?_
        clear hK K
        obtain ⟨W3, hrun3, hm3, g3⟩ := hm2.update keyed3 Try.underlying48 (by unfold maxLen; omega) (key := .int .i64 x.n) (kl := .int .i64 x.n) (val := .int .i64 ((cnt pre x.n : Nat) + 1 : Int)) hkey (plainElem_int Try.underlying3 (WalkArith.wf_i64 (by omega)))
        refine wpAnyIn_ready (rs := [5]) (by kernel_rfl) (by simp) ?_
        refine AllReadyIn.cons (o := { dst := none, op := Go.Op.mapUpdate 48 (Go.Operand.tmp 20) (Go.Operand.tmp 22) (Go.Operand.tmp 24), type := 0, pos := "l5_cast.go:96", after := #[{ on := 0, ground := Go.Ground.data }, { on := 2, ground := Go.Ground.data }, { on := 4, ground := Go.Ground.data }, { on := 2, ground := Go.Ground.chain }, { on := 0, ground := Go.Ground.phase }, { on := 1, ground := Go.Ground.phase }, { on := 2, ground := Go.Ground.phase }, { on := 3, ground := Go.Ground.phase }, { on := 4, ground := Go.Ground.phase }], guard := none }) rfl (fun K hK => ?_) AllReadyIn.nil
        rw [if_pos (by rfl)]
        refine ⟨fun _ _ => trivial, ?_⟩
        go_simp
        refine hK _ _ ?_
        clear hK K
        refine wpAnyIn_done (by kernel_rfl) ?_ _
        exact ⟨rfl, told_step hB hb hD hW0 b2 hm2 hm3 g3 hmb hmw⟩
      · rw [if_pos (by rfl)]
        refine ⟨fun _ _ => trivial, ?_⟩
        go_simp
        refine ⟨by simp [Fence.wide], ?_⟩
        refine (CallsIn.inRound l (callsIn_wide.2 (key_any x _))).mono ?_
        rintro e W2 ⟨rfl, b2⟩
        dsimp only
        refine hK _ _ ?_
        clear hK K
        replace c6 := (b2.cell (p := ⟨ob, 0, none⟩) hoW).trans c6
        refine wpAnyIn_ready (rs := [0]) (by kernel_rfl) (by simp) ?_
        refine AllReadyIn.cons (o := { dst := some 20, op := Go.Op.load 48 (Go.Operand.tmp 6), type := 48, pos := "l5_cast.go:96", after := #[], guard := none }) rfl (fun K hK => ?_) AllReadyIn.nil
        rw [if_pos (by rfl)]
        refine ⟨fun _ _ => trivial, ?_⟩
        go_simp
        refine hK _ _ ?_
        clear hK K
        have hm2 := map_low hm1 b2 (map_lt hm1)
        obtain ⟨c, hrun, hat, -⟩ := hm2.lookup_int keyed3 Try.underlying48 Try.underlying3 (zero3 _) (key := .int .i64 x.n) (kl := .int .i64 x.n) hkey
        rw [hD.2 x.n] at hat
        have hc : c = ((cnt pre x.n : Nat) : Int) := by simpa using hat.symm
        subst hc
        clear hat
        refine wpAnyIn_ready (rs := [3]) (by kernel_rfl) (by simp) ?_
        refine AllReadyIn.cons (o := { dst := some 23, op := Go.Op.lookup 48 (Go.Operand.tmp 20) (Go.Operand.tmp 22) false, type := 3, pos := "l5_cast.go:96", after := #[{ on := 0, ground := Go.Ground.data }, { on := 2, ground := Go.Ground.data }], guard := none }) rfl (fun K hK => ?_) AllReadyIn.nil
        rw [if_pos (by rfl)]
        refine ⟨fun _ _ => trivial, ?_⟩
        go_simp
        refine hK _ _ ?_
        clear hK K
        refine wpAnyIn_ready (rs := [4]) (by kernel_rfl) (by simp) ?_
        refine AllReadyIn.cons (o := { dst := some 24, op := Go.Op.binOp Go.BinOp.add 3 (Go.Operand.tmp 23) (Go.Operand.const (Go.Value.int Go.IntKind.i64 1)) 3, type := 3, pos := "l5_cast.go:96", after := #[{ on := 3, ground := Go.Ground.data }], guard := none }) rfl (fun K hK => ?_) AllReadyIn.nil
        rw [if_pos (by rfl)]
        refine ⟨fun _ _ => trivial, ?_⟩
        go_simp
        refine hK _ _ ?_
        clear hK K
        obtain ⟨W3, hrun3, hm3, g3⟩ := hm2.update keyed3 Try.underlying48 (by unfold maxLen; omega) (key := .int .i64 x.n) (kl := .int .i64 x.n) (val := .int .i64 ((cnt pre x.n : Nat) + 1 : Int)) hkey (plainElem_int Try.underlying3 (WalkArith.wf_i64 (by omega)))
        refine wpAnyIn_ready (rs := [5]) (by kernel_rfl) (by simp) ?_
        refine AllReadyIn.cons (o := { dst := none, op := Go.Op.mapUpdate 48 (Go.Operand.tmp 20) (Go.Operand.tmp 22) (Go.Operand.tmp 24), type := 0, pos := "l5_cast.go:96", after := #[{ on := 0, ground := Go.Ground.data }, { on := 2, ground := Go.Ground.data }, { on := 4, ground := Go.Ground.data }, { on := 2, ground := Go.Ground.chain }, { on := 0, ground := Go.Ground.phase }, { on := 1, ground := Go.Ground.phase }, { on := 2, ground := Go.Ground.phase }, { on := 3, ground := Go.Ground.phase }, { on := 4, ground := Go.Ground.phase }], guard := none }) rfl (fun K hK => ?_) AllReadyIn.nil
        rw [if_pos (by rfl)]
        refine ⟨fun _ _ => trivial, ?_⟩
        go_simp
        refine hK _ _ ?_
        clear hK K
        refine wpAnyIn_done (by kernel_rfl) ?_ _
        exact ⟨rfl, told_step hB hb hD hW0 b2 hm2 hm3 g3 hmb hmw⟩
  case done =>
    rintro Dd xs W hDd hTk ⟨hTold, hbW⟩ hdef
    clear hT3 cl cm hmm
    have hokH : Hid _ := hok
    have hL0 : Hid _ := h
    have hTkH : Hid _ := hTk
    have hxs8 : xs.length ≤ 8 := by obtain ⟨H, h1, _⟩ := hTk; have := h1.length_eq; rw [List.length_append] at this; omega
    have hDw : w.heap.size ≤ Dd := Nat.le_trans B3.size hDd
    obtain ⟨tF, hF0, hF1, hF2, hF3⟩ := info_parts infoFc
    obtain ⟨tI, hI0, hI1, hI2, hI3⟩ := info_parts infoI
    clear hok h hTk hL3 B3
    gi_wp2_with fail
    gi_loopw [8, 9, 27] (fun v8 v9 i wr => ∃ k : Nat, k ≤ L.length ∧ i = .int .i64 k ∧ wr.ownsRow w.heap.size 34 4 v8 (gF (told xs) (L.take k)).length (Ythfafmafhodlkaa.fl (gF (told xs) (L.take k))) ∧ wr.ownsRow w.heap.size 36 5 v9 (gL (told xs) (L.take k)).length (fl (gL (told xs) (L.take k))) ∧ Told mb ob xs wr ∧ Below w.heap.size w wr ∧ wr.heap[Dd]? = some (.deferred (some []))) (fun _ _ i _ => L.length - (intOf i).toNat)
    case atStart => exact ⟨0, Nat.zero_le _, rfl, World.ownsRow_nil _ _ _ _, World.ownsRow_nil _ _ _ _, hTold, hbW, hdef⟩
    case round =>
      clear hTold hbW hdef
      obtain ⟨k, hk, rfl, ho8, ho9, hTold, hb, hdef⟩ := hrel
      by_cases hlt : k < L.length
      · have i0 : (0 : Int) ≤ (k : Int) := by omega
        have i1 : (k : Int) < (L.length : Int) := by omega
        have hl8 : (gF (told xs) (L.take k)).length ≤ 8 := by have := gF_len (told xs) (L.take k); rw [List.length_take] at this; omega
        have hl9 : (gL (told xs) (L.take k)).length ≤ 8 := by have := gL_len (told xs) (L.take k); rw [List.length_take] at this; omega
        obtain ⟨bg, og, rfl, hbg, hfg⟩ := hL0.out (by omega)
        obtain ⟨x, hx⟩ : ∃ x, Hid (L[k]? = some x) := ⟨_, List.getElem?_eq_getElem hlt⟩
        have hxg : L.getD k It.zero = x := by simp [List.getD, hx.out]
        obtain ⟨c0, c1, c2, c3, c4⟩ := (hfg.below hb hbg) k hlt
        dsimp only at c0 c1 c2 c3 c4
        rw [hxg] at c0 c1 c2 c3 c4
        have hxo : okI x := hokH.out x (List.mem_of_getElem? hx.out)
        have hxl1 : 1 ≤ x.l := hxo.1
        have hxl4 : x.l ≤ 4 := hxo.2.1
        clear hxg
        have hx1 : Boxed5 (wr.alloc (.cells #[.int .i64 x.n, .int .i64 x.i, .int .i64 x.s, .bool x.g, .int .i64 x.l] 36)) wr.heap.size x := World.alloc_heap_new wr _
        have b01 : Below wr.heap.size wr (wr.alloc (.cells #[.int .i64 x.n, .int .i64 x.i, .int .i64 x.s, .bool x.g, .int .i64 x.l] 36)) := (Below.refl _ wr).alloc (Nat.le_refl _) _
        have hTold1 := hTold.below b01
        have ho81 := own_below ho8 b01
        have ho91 := own_below ho9 b01
        have hb1 := hb.trans (b01.mono hb.size)
        have hdef1 := (b01.block Dd (Array.getElem?_eq_some_iff.1 hdef).1).trans hdef
        have hBib0 := hb.size
        have h9lt : ∀ j, u9.ownBlock = some j → j < wr.heap.size := fun j hj => (ho9.lt j hj).2
        gi_wp2_with fail
        generalize (wr.alloc (.cells #[.int .i64 x.n, .int .i64 x.i, .int .i64 x.s, .bool x.g, .int .i64 x.l] 36)) = w4 at *
        obtain ⟨Bi, hBie⟩ : ∃ b, wr.heap.size = b := ⟨_, rfl⟩
        rw [hBie] at hx1 h9lt hBib0 ⊢
        clear hBie b01 hTold ho8 ho9 hb hdef c0 c1 c2 c3 c4
        refine wpIn_region_any (by kernel_rfl) ?_
        replace hx1 : Boxed5 { w4 with drawn := w4.drawn + 1 } Bi x := hx1
        replace hTold1 : Told mb ob xs { w4 with drawn := w4.drawn + 1 } := hTold1
        replace ho81 : ({ w4 with drawn := w4.drawn + 1 } : World).ownsRow _ _ _ _ _ _ := ho81
        replace ho91 : ({ w4 with drawn := w4.drawn + 1 } : World).ownsRow _ _ _ _ _ _ := ho91
        replace hb1 : Below w.heap.size w { w4 with drawn := w4.drawn + 1 } := ⟨hb1.os, hb1.tape, hb1.output, hb1.size, hb1.block⟩
        replace hdef1 : ({ w4 with drawn := w4.drawn + 1 } : World).heap[Dd]? = _ := hdef1
        generalize ({ w4 with drawn := w4.drawn + 1 } : World) = W1 at *
        have hoW : ob < W1.heap.size := hTold1.1.lt
        have c6 := hTold1.1.cell
        have x0 := hx1.c0
        have x1 := hx1.c1
        have x2 := hx1.c2
        have x3 := hx1.c3
        have x4 := hx1.c4
        have hkey : keyOf Try.prog 3 (.int .i64 x.n) = some (.int .i64 x.n) := Maps.keyOf_int_mk Try.underlying3 (WalkArith.wf_i64 (by obtain ⟨_, _, h3, h4⟩ := hxo; omega))
        have hcl : cnt xs x.n ≤ 8 := by have := cnt_le xs x.n; omega
        refine wpAnyIn_ready (rs := [0, 1]) (by kernel_rfl) (by simp) ?_
        refine AllReadyIn.cons (o := { dst := some 31, op := Go.Op.load 48 (Go.Operand.tmp 6), type := 48, pos := "l5_cast.go:101", after := #[], guard := none }) rfl (fun K hK => ?_) (AllReadyIn.cons (o := { dst := some 32, op := Go.Op.load 36 (Go.Operand.tmp 11), type := 36, pos := "l5_cast.go:101", after := #[], guard := none }) rfl (fun K hK => ?_) AllReadyIn.nil)
        · rw [if_pos (by rfl)]
          refine ⟨fun _ _ => trivial, ?_⟩
          go_simp
          refine hK _ _ ?_
          clear hK K
          refine wpAnyIn_ready (rs := [1]) (by kernel_rfl) (by simp) ?_
          refine AllReadyIn.cons (o := { dst := some 32, op := Go.Op.load 36 (Go.Operand.tmp 11), type := 36, pos := "l5_cast.go:101", after := #[], guard := none }) rfl (fun K hK => ?_) AllReadyIn.nil
          rw [if_pos (by rfl)]
          refine ⟨fun _ _ => trivial, ?_⟩
          go_simp
          refine hK _ _ ?_
          clear hK K
          refine wpAnyIn_ready (rs := [2]) (by kernel_rfl) (by simp) ?_
          refine AllReadyIn.cons (o := { dst := some 33, op := Go.Op.call { callee := Go.Callee.value (Go.Operand.func 25), args := #[Go.Operand.tmp 32], argTypes := #[36] }, type := 3, pos := "l5_cast.go:101", after := #[{ on := 1, ground := Go.Ground.data }], guard := none }) rfl (fun K hK => ?_) AllReadyIn.nil
          rw [if_pos (by rfl)]
          refine ⟨fun _ _ => trivial, ?_⟩
          go_simp
          refine ⟨by simp [Fence.wide], ?_⟩
          refine (callsIn_wide.2 (key_any x _)).mono ?_
          rintro e W2 ⟨rfl, b2⟩
          dsimp only
          refine hK _ _ ?_
          clear hK K
          replace c6 := (b2.cell (p := ⟨ob, 0, none⟩) hoW).trans c6
          have hT2 := hTold1.below b2
          obtain ⟨D, hm2, hD⟩ := hT2.2
          obtain ⟨c, hrun, hat, -⟩ := hm2.lookup_int keyed3 Try.underlying48 Try.underlying3 (zero3 _) (key := .int .i64 x.n) (kl := .int .i64 x.n) hkey
          rw [hD.2 x.n] at hat
          have hc' : c = ((cnt xs x.n : Nat) : Int) := by simpa using hat.symm
          subst hc'
          clear hat hm2 hD
          refine wpAnyIn_ready (rs := [3]) (by kernel_rfl) (by simp) ?_
          refine AllReadyIn.cons (o := { dst := some 34, op := Go.Op.lookup 48 (Go.Operand.tmp 31) (Go.Operand.tmp 33) false, type := 3, pos := "l5_cast.go:101", after := #[{ on := 0, ground := Go.Ground.data }, { on := 2, ground := Go.Ground.data }], guard := none }) rfl (fun K hK => ?_) AllReadyIn.nil
          rw [if_pos (by rfl)]
          refine ⟨fun _ _ => trivial, ?_⟩
          go_simp
          refine hK _ _ ?_
          clear hK K
          refine wpAnyIn_ready (rs := [4]) (by kernel_rfl) (by simp) ?_
          refine AllReadyIn.cons (o := { dst := some 35, op := Go.Op.binOp Go.BinOp.gtr 3 (Go.Operand.tmp 34) (Go.Operand.const (Go.Value.int Go.IntKind.i64 0)) 3, type := 4, pos := "l5_cast.go:101", after := #[{ on := 3, ground := Go.Ground.data }], guard := none }) rfl (fun K hK => ?_) AllReadyIn.nil
          rw [if_pos (by rfl)]
          refine ⟨fun _ _ => trivial, ?_⟩
          go_simp
          refine hK _ _ ?_
          clear hK K
          refine wpAnyIn_done (by kernel_rfl) ?_ _
          have hx2 := hx1.below b2
          have o8 := own_below ho81 b2
          have o9 := own_below ho91 b2
          have hb2 := hb1.trans (b2.mono hb1.size)
          have hd2 := (b2.block Dd (Array.getElem?_eq_some_iff.1 hdef1).1).trans hdef1
          have hBi : Bi < W2.heap.size := (Array.getElem?_eq_some_iff.1 hx2).1
          clear hrun hTold1 hx1 ho81 ho91 hb1 hdef1 b2 c6 x0 x1 x2 x3 x4
          have y0 := hx2.c0
          have y1 := hx2.c1
          have y2 := hx2.c2
          have y3 := hx2.c3
          have y4 := hx2.c4
          have hBib : w.heap.size ≤ Bi := by omega
          obtain ⟨u8l, hu8⟩ : ∃ m, Hid ((gF (told xs) (L.take k)).length = m) := ⟨_, rfl⟩
          obtain ⟨u9l, hu9⟩ : ∃ m, Hid ((gL (told xs) (L.take k)).length = m) := ⟨_, rfl⟩
          rw [hu8.out] at o8 hl8
          rw [hu9.out] at o9 hl9
          by_cases hq : 0 < cnt xs x.n
          · have hqi : (0 : Int) < ((cnt xs x.n : Nat) : Int) := by omega
            have hqt : told xs x = true := by simpa [told] using hq
            have hgF : Hid (gF (told xs) (L.take (k + 1)) = gF (told xs) (L.take k) ++ [itF x]) := by
              unfold Hid
              rw [List.take_add_one, hx.out]
              exact (gF_snoc _ _ _).trans (by rw [if_pos hqt])
            by_cases hll : 0 < x.l - 1
            · have hgL : Hid (gL (told xs) (L.take (k + 1)) = gL (told xs) (L.take k) ++ [lessI x]) := by
                unfold Hid
                rw [List.take_add_one, hx.out]
                exact (gL_snoc _ _ _).trans (by unfold leftI; rw [if_pos hqt, if_pos hll]; rfl)
              clear hqt
              gi_wp2_with (first | (gi_at_builtin; refine wpListIn_append_own _ rfl _ _ 26 rfl w.heap.size 34 tF (Ythfafmafhodlkaa.fval Fc.zero) 4 32 Try.underlying26 hF0 hF1 hF2 hF3 rfl (by decide) _ _ _ rfl (o8.alloc _) ⟨W2.heap.size, 0, none⟩ 1 1 (Ythfafmafhodlkaa.fl [itF x]) rfl rfl (new_fact W2 (itF x)) Ythfafmafhodlkaa.fl_one (by unfold maxLen; omega) (by omega) (by have := hb2.size; simp; omega) ?_; intro v8' W5 ho8' hg5 _; have hx5 := keep_other o8 hg5 hx2 (by intro cur e; cases e); have hT5 := keep_told o8 hg5 hT2; have hd5 := keep_other o8 hg5 hd2 (by intro cur e; cases e); have hb5 := hb2.trans (keep_low o8 hg5 hb2.size); have z0 := Boxed5.c0 hx5; have z1 := Boxed5.c1 hx5; have z2 := Boxed5.c2 hx5; have z3 := Boxed5.c3 hx5; have z4 := Boxed5.c4 hx5; have zf := Boxed5.f4 hx5; have gs := grown_set W5 Bi 4 (.int .i64 (x.l - 1)); have o86 := ho8'.kept gs (.inr (row_ne ho8' hx5 (by decide))); have o96 := (keep_row o8 hg5 o9 (by decide)).kept gs (.inr (fun e => by have := h9lt Bi e; omega)); have hT6 := set_told (v := .int .i64 (x.l - 1)) hx5 hT5; have hd6 := (gs.block Dd (Array.getElem?_eq_some_iff.1 hd5).1 (fun e => by cases e; rw [hx5] at hd5; cases hd5)).trans hd5; have hb6 := hb5.trans (below_grown gs hBib (Nat.le_trans hb2.size (keep_low o8 hg5 hb2.size).size)); clear y0 y1 y2 y3 y4) | (gi_at_builtin; refine wpListIn_append_own _ rfl _ _ 23 rfl w.heap.size 36 tI (fval It.zero) 5 40 Try.underlying23 hI0 hI1 hI2 hI3 rfl (by decide) _ _ _ rfl (o96.alloc _) ⟨W5.heap.size, 0, none⟩ 1 1 (fl [lessI x]) rfl rfl (new_item (W5.setCell ⟨Bi, 4, none⟩ (.int .i64 (x.l - 1))) _ (by simp) (lessI x)) fl_one (by unfold maxLen; omega) (by omega) (by have := hb6.size; simp at this ⊢; omega) ?_; intro v9' W7 ho9' hg7 _))
              have o87 := keep_row o96 hg7 o86 (by decide)
              have hT7 := keep_told o96 hg7 hT6
              have hd7 := keep_other o96 hg7 hd6 (by intro cur e; cases e)
              have hb7 := hb6.trans (keep_low o96 hg7 hb6.size)
              go_roundw
              case rel => exact ⟨k + 1, by omega, by go_num, by rw [hgF.out, List.length_append, Ythfafmafhodlkaa.fl_append, hu8.out]; exact o87, by rw [hgL.out, List.length_append, fl_append, hu9.out]; exact ho9', hT7, hb7, hd7⟩
              case measure => simp [intOf]; omega
            · have hgL : Hid (gL (told xs) (L.take (k + 1)) = gL (told xs) (L.take k)) := by
                unfold Hid
                rw [List.take_add_one, hx.out]
                exact (gL_snoc _ _ _).trans (by unfold leftI; rw [if_pos hqt, if_neg hll]; simp)
              clear hqt
              gi_wp2_with (gi_at_builtin; refine wpListIn_append_own _ rfl _ _ 26 rfl w.heap.size 34 tF (Ythfafmafhodlkaa.fval Fc.zero) 4 32 Try.underlying26 hF0 hF1 hF2 hF3 rfl (by decide) _ _ _ rfl (o8.alloc _) ⟨W2.heap.size, 0, none⟩ 1 1 (Ythfafmafhodlkaa.fl [itF x]) rfl rfl (new_fact W2 (itF x)) Ythfafmafhodlkaa.fl_one (by unfold maxLen; omega) (by omega) (by have := hb2.size; simp; omega) ?_; intro v8' W5 ho8' hg5 _; have hx5 := keep_other o8 hg5 hx2 (by intro cur e; cases e); have hT5 := keep_told o8 hg5 hT2; have hd5 := keep_other o8 hg5 hd2 (by intro cur e; cases e); have hb5 := hb2.trans (keep_low o8 hg5 hb2.size); have z0 := Boxed5.c0 hx5; have z1 := Boxed5.c1 hx5; have z2 := Boxed5.c2 hx5; have z3 := Boxed5.c3 hx5; have z4 := Boxed5.c4 hx5; have zf := Boxed5.f4 hx5; have gs := grown_set W5 Bi 4 (.int .i64 (x.l - 1)); have o86 := ho8'.kept gs (.inr (row_ne ho8' hx5 (by decide))); have o96 := (keep_row o8 hg5 o9 (by decide)).kept gs (.inr (fun e => by have := h9lt Bi e; omega)); have hT6 := set_told (v := .int .i64 (x.l - 1)) hx5 hT5; have hd6 := (gs.block Dd (Array.getElem?_eq_some_iff.1 hd5).1 (fun e => by cases e; rw [hx5] at hd5; cases hd5)).trans hd5; have hb6 := hb5.trans (below_grown gs hBib (Nat.le_trans hb2.size (keep_low o8 hg5 hb2.size).size)); clear y0 y1 y2 y3 y4)
              go_roundw
              case rel => exact ⟨k + 1, by omega, by go_num, by rw [hgF.out, List.length_append, Ythfafmafhodlkaa.fl_append, hu8.out]; exact o86, by rw [hgL.out, hu9.out]; exact o96, hT6, hb6, hd6⟩
              case measure => simp [intOf]; omega
          · have hqi : ¬ (0 : Int) < ((cnt xs x.n : Nat) : Int) := by omega
            have hqt : ¬ told xs x = true := by simpa [told] using hq
            have hgF : Hid (gF (told xs) (L.take (k + 1)) = gF (told xs) (L.take k)) := by
              unfold Hid
              rw [List.take_add_one, hx.out]
              exact (gF_snoc _ _ _).trans (by rw [if_neg hqt, List.append_nil])
            have hll : 0 < x.l := by obtain ⟨h1, _⟩ := hxo; omega
            have hgL : Hid (gL (told xs) (L.take (k + 1)) = gL (told xs) (L.take k) ++ [x]) := by
              unfold Hid
              rw [List.take_add_one, hx.out]
              exact (gL_snoc _ _ _).trans (by unfold leftI; rw [if_neg hqt, if_pos hll]; rfl)
            clear hqt
            gi_wp2_with (gi_at_builtin; refine wpListIn_append_own _ rfl _ _ 23 rfl w.heap.size 36 tI (fval It.zero) 5 40 Try.underlying23 hI0 hI1 hI2 hI3 rfl (by decide) _ _ _ rfl (o9.alloc _) ⟨W2.heap.size, 0, none⟩ 1 1 (fl [x]) rfl rfl (new_item W2 _ (by simp) (x)) fl_one (by unfold maxLen; omega) (by omega) (by have := hb2.size; simp at this ⊢; omega) ?_; intro v9' W7 ho9' hg7 _)
            have o87 := keep_row o9 hg7 o8 (by decide)
            have hT7 := keep_told o9 hg7 hT2
            have hd7 := keep_other o9 hg7 hd2 (by intro cur e; cases e)
            have hb7 := hb2.trans (keep_low o9 hg7 hb2.size)
            go_roundw
            case rel => exact ⟨k + 1, by omega, by go_num, by rw [hgF.out, hu8.out]; exact o87, by rw [hgL.out, List.length_append, fl_append, hu9.out]; exact ho9', hT7, hb7, hd7⟩
            case measure => simp [intOf]; omega
        · rw [if_pos (by rfl)]
          refine ⟨fun _ _ => trivial, ?_⟩
          go_simp
          refine hK _ _ ?_
          clear hK K
          refine wpAnyIn_ready (rs := [0, 2]) (by kernel_rfl) (by simp) ?_
          refine AllReadyIn.cons (o := { dst := some 31, op := Go.Op.load 48 (Go.Operand.tmp 6), type := 48, pos := "l5_cast.go:101", after := #[], guard := none }) rfl (fun K hK => ?_) (AllReadyIn.cons (o := { dst := some 33, op := Go.Op.call { callee := Go.Callee.value (Go.Operand.func 25), args := #[Go.Operand.tmp 32], argTypes := #[36] }, type := 3, pos := "l5_cast.go:101", after := #[{ on := 1, ground := Go.Ground.data }], guard := none }) rfl (fun K hK => ?_) AllReadyIn.nil)
          · rw [if_pos (by rfl)]
            refine ⟨fun _ _ => trivial, ?_⟩
            go_simp
            refine hK _ _ ?_
            clear hK K
            refine wpAnyIn_ready (rs := [2]) (by kernel_rfl) (by simp) ?_
            refine AllReadyIn.cons (o := { dst := some 33, op := Go.Op.call { callee := Go.Callee.value (Go.Operand.func 25), args := #[Go.Operand.tmp 32], argTypes := #[36] }, type := 3, pos := "l5_cast.go:101", after := #[{ on := 1, ground := Go.Ground.data }], guard := none }) rfl (fun K hK => ?_) AllReadyIn.nil
            rw [if_pos (by rfl)]
            refine ⟨fun _ _ => trivial, ?_⟩
            go_simp
            refine ⟨by simp [Fence.wide], ?_⟩
            refine (callsIn_wide.2 (key_any x _)).mono ?_
            rintro e W2 ⟨rfl, b2⟩
            dsimp only
            refine hK _ _ ?_
            clear hK K
            replace c6 := (b2.cell (p := ⟨ob, 0, none⟩) hoW).trans c6
            have hT2 := hTold1.below b2
            obtain ⟨D, hm2, hD⟩ := hT2.2
            obtain ⟨c, hrun, hat, -⟩ := hm2.lookup_int keyed3 Try.underlying48 Try.underlying3 (zero3 _) (key := .int .i64 x.n) (kl := .int .i64 x.n) hkey
            rw [hD.2 x.n] at hat
            have hc' : c = ((cnt xs x.n : Nat) : Int) := by simpa using hat.symm
            subst hc'
            clear hat hm2 hD
            refine wpAnyIn_ready (rs := [3]) (by kernel_rfl) (by simp) ?_
            refine AllReadyIn.cons (o := { dst := some 34, op := Go.Op.lookup 48 (Go.Operand.tmp 31) (Go.Operand.tmp 33) false, type := 3, pos := "l5_cast.go:101", after := #[{ on := 0, ground := Go.Ground.data }, { on := 2, ground := Go.Ground.data }], guard := none }) rfl (fun K hK => ?_) AllReadyIn.nil
            rw [if_pos (by rfl)]
            refine ⟨fun _ _ => trivial, ?_⟩
            go_simp
            refine hK _ _ ?_
            clear hK K
            refine wpAnyIn_ready (rs := [4]) (by kernel_rfl) (by simp) ?_
            refine AllReadyIn.cons (o := { dst := some 35, op := Go.Op.binOp Go.BinOp.gtr 3 (Go.Operand.tmp 34) (Go.Operand.const (Go.Value.int Go.IntKind.i64 0)) 3, type := 4, pos := "l5_cast.go:101", after := #[{ on := 3, ground := Go.Ground.data }], guard := none }) rfl (fun K hK => ?_) AllReadyIn.nil
            rw [if_pos (by rfl)]
            refine ⟨fun _ _ => trivial, ?_⟩
            go_simp
            refine hK _ _ ?_
            clear hK K
            refine wpAnyIn_done (by kernel_rfl) ?_ _
            have hx2 := hx1.below b2
            have o8 := own_below ho81 b2
            have o9 := own_below ho91 b2
            have hb2 := hb1.trans (b2.mono hb1.size)
            have hd2 := (b2.block Dd (Array.getElem?_eq_some_iff.1 hdef1).1).trans hdef1
            have hBi : Bi < W2.heap.size := (Array.getElem?_eq_some_iff.1 hx2).1
            clear hrun hTold1 hx1 ho81 ho91 hb1 hdef1 b2 c6 x0 x1 x2 x3 x4
            have y0 := hx2.c0
            have y1 := hx2.c1
            have y2 := hx2.c2
            have y3 := hx2.c3
            have y4 := hx2.c4
            have hBib : w.heap.size ≤ Bi := by omega
            obtain ⟨u8l, hu8⟩ : ∃ m, Hid ((gF (told xs) (L.take k)).length = m) := ⟨_, rfl⟩
            obtain ⟨u9l, hu9⟩ : ∃ m, Hid ((gL (told xs) (L.take k)).length = m) := ⟨_, rfl⟩
            rw [hu8.out] at o8 hl8
            rw [hu9.out] at o9 hl9
            by_cases hq : 0 < cnt xs x.n
            · have hqi : (0 : Int) < ((cnt xs x.n : Nat) : Int) := by omega
              have hqt : told xs x = true := by simpa [told] using hq
              have hgF : Hid (gF (told xs) (L.take (k + 1)) = gF (told xs) (L.take k) ++ [itF x]) := by
                unfold Hid
                rw [List.take_add_one, hx.out]
                exact (gF_snoc _ _ _).trans (by rw [if_pos hqt])
              by_cases hll : 0 < x.l - 1
              · have hgL : Hid (gL (told xs) (L.take (k + 1)) = gL (told xs) (L.take k) ++ [lessI x]) := by
                  unfold Hid
                  rw [List.take_add_one, hx.out]
                  exact (gL_snoc _ _ _).trans (by unfold leftI; rw [if_pos hqt, if_pos hll]; rfl)
                clear hqt
                gi_wp2_with (first | (gi_at_builtin; refine wpListIn_append_own _ rfl _ _ 26 rfl w.heap.size 34 tF (Ythfafmafhodlkaa.fval Fc.zero) 4 32 Try.underlying26 hF0 hF1 hF2 hF3 rfl (by decide) _ _ _ rfl (o8.alloc _) ⟨W2.heap.size, 0, none⟩ 1 1 (Ythfafmafhodlkaa.fl [itF x]) rfl rfl (new_fact W2 (itF x)) Ythfafmafhodlkaa.fl_one (by unfold maxLen; omega) (by omega) (by have := hb2.size; simp; omega) ?_; intro v8' W5 ho8' hg5 _; have hx5 := keep_other o8 hg5 hx2 (by intro cur e; cases e); have hT5 := keep_told o8 hg5 hT2; have hd5 := keep_other o8 hg5 hd2 (by intro cur e; cases e); have hb5 := hb2.trans (keep_low o8 hg5 hb2.size); have z0 := Boxed5.c0 hx5; have z1 := Boxed5.c1 hx5; have z2 := Boxed5.c2 hx5; have z3 := Boxed5.c3 hx5; have z4 := Boxed5.c4 hx5; have zf := Boxed5.f4 hx5; have gs := grown_set W5 Bi 4 (.int .i64 (x.l - 1)); have o86 := ho8'.kept gs (.inr (row_ne ho8' hx5 (by decide))); have o96 := (keep_row o8 hg5 o9 (by decide)).kept gs (.inr (fun e => by have := h9lt Bi e; omega)); have hT6 := set_told (v := .int .i64 (x.l - 1)) hx5 hT5; have hd6 := (gs.block Dd (Array.getElem?_eq_some_iff.1 hd5).1 (fun e => by cases e; rw [hx5] at hd5; cases hd5)).trans hd5; have hb6 := hb5.trans (below_grown gs hBib (Nat.le_trans hb2.size (keep_low o8 hg5 hb2.size).size)); clear y0 y1 y2 y3 y4) | (gi_at_builtin; refine wpListIn_append_own _ rfl _ _ 23 rfl w.heap.size 36 tI (fval It.zero) 5 40 Try.underlying23 hI0 hI1 hI2 hI3 rfl (by decide) _ _ _ rfl (o96.alloc _) ⟨W5.heap.size, 0, none⟩ 1 1 (fl [lessI x]) rfl rfl (new_item (W5.setCell ⟨Bi, 4, none⟩ (.int .i64 (x.l - 1))) _ (by simp) (lessI x)) fl_one (by unfold maxLen; omega) (by omega) (by have := hb6.size; simp at this ⊢; omega) ?_; intro v9' W7 ho9' hg7 _))
                have o87 := keep_row o96 hg7 o86 (by decide)
                have hT7 := keep_told o96 hg7 hT6
                have hd7 := keep_other o96 hg7 hd6 (by intro cur e; cases e)
                have hb7 := hb6.trans (keep_low o96 hg7 hb6.size)
                go_roundw
                case rel => exact ⟨k + 1, by omega, by go_num, by rw [hgF.out, List.length_append, Ythfafmafhodlkaa.fl_append, hu8.out]; exact o87, by rw [hgL.out, List.length_append, fl_append, hu9.out]; exact ho9', hT7, hb7, hd7⟩
                case measure => simp [intOf]; omega
              · have hgL : Hid (gL (told xs) (L.take (k + 1)) = gL (told xs) (L.take k)) := by
                  unfold Hid
                  rw [List.take_add_one, hx.out]
                  exact (gL_snoc _ _ _).trans (by unfold leftI; rw [if_pos hqt, if_neg hll]; simp)
                clear hqt
                gi_wp2_with (gi_at_builtin; refine wpListIn_append_own _ rfl _ _ 26 rfl w.heap.size 34 tF (Ythfafmafhodlkaa.fval Fc.zero) 4 32 Try.underlying26 hF0 hF1 hF2 hF3 rfl (by decide) _ _ _ rfl (o8.alloc _) ⟨W2.heap.size, 0, none⟩ 1 1 (Ythfafmafhodlkaa.fl [itF x]) rfl rfl (new_fact W2 (itF x)) Ythfafmafhodlkaa.fl_one (by unfold maxLen; omega) (by omega) (by have := hb2.size; simp; omega) ?_; intro v8' W5 ho8' hg5 _; have hx5 := keep_other o8 hg5 hx2 (by intro cur e; cases e); have hT5 := keep_told o8 hg5 hT2; have hd5 := keep_other o8 hg5 hd2 (by intro cur e; cases e); have hb5 := hb2.trans (keep_low o8 hg5 hb2.size); have z0 := Boxed5.c0 hx5; have z1 := Boxed5.c1 hx5; have z2 := Boxed5.c2 hx5; have z3 := Boxed5.c3 hx5; have z4 := Boxed5.c4 hx5; have zf := Boxed5.f4 hx5; have gs := grown_set W5 Bi 4 (.int .i64 (x.l - 1)); have o86 := ho8'.kept gs (.inr (row_ne ho8' hx5 (by decide))); have o96 := (keep_row o8 hg5 o9 (by decide)).kept gs (.inr (fun e => by have := h9lt Bi e; omega)); have hT6 := set_told (v := .int .i64 (x.l - 1)) hx5 hT5; have hd6 := (gs.block Dd (Array.getElem?_eq_some_iff.1 hd5).1 (fun e => by cases e; rw [hx5] at hd5; cases hd5)).trans hd5; have hb6 := hb5.trans (below_grown gs hBib (Nat.le_trans hb2.size (keep_low o8 hg5 hb2.size).size)); clear y0 y1 y2 y3 y4)
                go_roundw
                case rel => exact ⟨k + 1, by omega, by go_num, by rw [hgF.out, List.length_append, Ythfafmafhodlkaa.fl_append, hu8.out]; exact o86, by rw [hgL.out, hu9.out]; exact o96, hT6, hb6, hd6⟩
                case measure => simp [intOf]; omega
            · have hqi : ¬ (0 : Int) < ((cnt xs x.n : Nat) : Int) := by omega
              have hqt : ¬ told xs x = true := by simpa [told] using hq
              have hgF : Hid (gF (told xs) (L.take (k + 1)) = gF (told xs) (L.take k)) := by
                unfold Hid
                rw [List.take_add_one, hx.out]
                exact (gF_snoc _ _ _).trans (by rw [if_neg hqt, List.append_nil])
              have hll : 0 < x.l := by obtain ⟨h1, _⟩ := hxo; omega
              have hgL : Hid (gL (told xs) (L.take (k + 1)) = gL (told xs) (L.take k) ++ [x]) := by
                unfold Hid
                rw [List.take_add_one, hx.out]
                exact (gL_snoc _ _ _).trans (by unfold leftI; rw [if_neg hqt, if_pos hll]; rfl)
              clear hqt
              gi_wp2_with (gi_at_builtin; refine wpListIn_append_own _ rfl _ _ 23 rfl w.heap.size 36 tI (fval It.zero) 5 40 Try.underlying23 hI0 hI1 hI2 hI3 rfl (by decide) _ _ _ rfl (o9.alloc _) ⟨W2.heap.size, 0, none⟩ 1 1 (fl [x]) rfl rfl (new_item W2 _ (by simp) (x)) fl_one (by unfold maxLen; omega) (by omega) (by have := hb2.size; simp at this ⊢; omega) ?_; intro v9' W7 ho9' hg7 _)
              have o87 := keep_row o9 hg7 o8 (by decide)
              have hT7 := keep_told o9 hg7 hT2
              have hd7 := keep_other o9 hg7 hd2 (by intro cur e; cases e)
              have hb7 := hb2.trans (keep_low o9 hg7 hb2.size)
              go_roundw
              case rel => exact ⟨k + 1, by omega, by go_num, by rw [hgF.out, hu8.out]; exact o87, by rw [hgL.out, List.length_append, fl_append, hu9.out]; exact ho9', hT7, hb7, hd7⟩
              case measure => simp [intOf]; omega
          · rw [if_pos (by rfl)]
            refine ⟨fun _ _ => trivial, ?_⟩
            go_simp
            refine ⟨by simp [Fence.wide], ?_⟩
            refine (callsIn_wide.2 (key_any x _)).mono ?_
            rintro e W2 ⟨rfl, b2⟩
            dsimp only
            refine hK _ _ ?_
            clear hK K
            replace c6 := (b2.cell (p := ⟨ob, 0, none⟩) hoW).trans c6
            refine wpAnyIn_ready (rs := [0]) (by kernel_rfl) (by simp) ?_
            refine AllReadyIn.cons (o := { dst := some 31, op := Go.Op.load 48 (Go.Operand.tmp 6), type := 48, pos := "l5_cast.go:101", after := #[], guard := none }) rfl (fun K hK => ?_) AllReadyIn.nil
            rw [if_pos (by rfl)]
            refine ⟨fun _ _ => trivial, ?_⟩
            go_simp
            refine hK _ _ ?_
            clear hK K
            have hT2 := hTold1.below b2
            obtain ⟨D, hm2, hD⟩ := hT2.2
            obtain ⟨c, hrun, hat, -⟩ := hm2.lookup_int keyed3 Try.underlying48 Try.underlying3 (zero3 _) (key := .int .i64 x.n) (kl := .int .i64 x.n) hkey
            rw [hD.2 x.n] at hat
            have hc' : c = ((cnt xs x.n : Nat) : Int) := by simpa using hat.symm
            subst hc'
            clear hat hm2 hD
            refine wpAnyIn_ready (rs := [3]) (by kernel_rfl) (by simp) ?_
            refine AllReadyIn.cons (o := { dst := some 34, op := Go.Op.lookup 48 (Go.Operand.tmp 31) (Go.Operand.tmp 33) false, type := 3, pos := "l5_cast.go:101", after := #[{ on := 0, ground := Go.Ground.data }, { on := 2, ground := Go.Ground.data }], guard := none }) rfl (fun K hK => ?_) AllReadyIn.nil
            rw [if_pos (by rfl)]
            refine ⟨fun _ _ => trivial, ?_⟩
            go_simp
            refine hK _ _ ?_
            clear hK K
            refine wpAnyIn_ready (rs := [4]) (by kernel_rfl) (by simp) ?_
            refine AllReadyIn.cons (o := { dst := some 35, op := Go.Op.binOp Go.BinOp.gtr 3 (Go.Operand.tmp 34) (Go.Operand.const (Go.Value.int Go.IntKind.i64 0)) 3, type := 4, pos := "l5_cast.go:101", after := #[{ on := 3, ground := Go.Ground.data }], guard := none }) rfl (fun K hK => ?_) AllReadyIn.nil
            rw [if_pos (by rfl)]
            refine ⟨fun _ _ => trivial, ?_⟩
            go_simp
            refine hK _ _ ?_
            clear hK K
            refine wpAnyIn_done (by kernel_rfl) ?_ _
            have hx2 := hx1.below b2
            have o8 := own_below ho81 b2
            have o9 := own_below ho91 b2
            have hb2 := hb1.trans (b2.mono hb1.size)
            have hd2 := (b2.block Dd (Array.getElem?_eq_some_iff.1 hdef1).1).trans hdef1
            have hBi : Bi < W2.heap.size := (Array.getElem?_eq_some_iff.1 hx2).1
            clear hrun hTold1 hx1 ho81 ho91 hb1 hdef1 b2 c6 x0 x1 x2 x3 x4
            have y0 := hx2.c0
            have y1 := hx2.c1
            have y2 := hx2.c2
            have y3 := hx2.c3
            have y4 := hx2.c4
            have hBib : w.heap.size ≤ Bi := by omega
            obtain ⟨u8l, hu8⟩ : ∃ m, Hid ((gF (told xs) (L.take k)).length = m) := ⟨_, rfl⟩
            obtain ⟨u9l, hu9⟩ : ∃ m, Hid ((gL (told xs) (L.take k)).length = m) := ⟨_, rfl⟩
            rw [hu8.out] at o8 hl8
            rw [hu9.out] at o9 hl9
            by_cases hq : 0 < cnt xs x.n
            · have hqi : (0 : Int) < ((cnt xs x.n : Nat) : Int) := by omega
              have hqt : told xs x = true := by simpa [told] using hq
              have hgF : Hid (gF (told xs) (L.take (k + 1)) = gF (told xs) (L.take k) ++ [itF x]) := by
                unfold Hid
                rw [List.take_add_one, hx.out]
                exact (gF_snoc _ _ _).trans (by rw [if_pos hqt])
              by_cases hll : 0 < x.l - 1
              · have hgL : Hid (gL (told xs) (L.take (k + 1)) = gL (told xs) (L.take k) ++ [lessI x]) := by
                  unfold Hid
                  rw [List.take_add_one, hx.out]
                  exact (gL_snoc _ _ _).trans (by unfold leftI; rw [if_pos hqt, if_pos hll]; rfl)
                clear hqt
                gi_wp2_with (first | (gi_at_builtin; refine wpListIn_append_own _ rfl _ _ 26 rfl w.heap.size 34 tF (Ythfafmafhodlkaa.fval Fc.zero) 4 32 Try.underlying26 hF0 hF1 hF2 hF3 rfl (by decide) _ _ _ rfl (o8.alloc _) ⟨W2.heap.size, 0, none⟩ 1 1 (Ythfafmafhodlkaa.fl [itF x]) rfl rfl (new_fact W2 (itF x)) Ythfafmafhodlkaa.fl_one (by unfold maxLen; omega) (by omega) (by have := hb2.size; simp; omega) ?_; intro v8' W5 ho8' hg5 _; have hx5 := keep_other o8 hg5 hx2 (by intro cur e; cases e); have hT5 := keep_told o8 hg5 hT2; have hd5 := keep_other o8 hg5 hd2 (by intro cur e; cases e); have hb5 := hb2.trans (keep_low o8 hg5 hb2.size); have z0 := Boxed5.c0 hx5; have z1 := Boxed5.c1 hx5; have z2 := Boxed5.c2 hx5; have z3 := Boxed5.c3 hx5; have z4 := Boxed5.c4 hx5; have zf := Boxed5.f4 hx5; have gs := grown_set W5 Bi 4 (.int .i64 (x.l - 1)); have o86 := ho8'.kept gs (.inr (row_ne ho8' hx5 (by decide))); have o96 := (keep_row o8 hg5 o9 (by decide)).kept gs (.inr (fun e => by have := h9lt Bi e; omega)); have hT6 := set_told (v := .int .i64 (x.l - 1)) hx5 hT5; have hd6 := (gs.block Dd (Array.getElem?_eq_some_iff.1 hd5).1 (fun e => by cases e; rw [hx5] at hd5; cases hd5)).trans hd5; have hb6 := hb5.trans (below_grown gs hBib (Nat.le_trans hb2.size (keep_low o8 hg5 hb2.size).size)); clear y0 y1 y2 y3 y4) | (gi_at_builtin; refine wpListIn_append_own _ rfl _ _ 23 rfl w.heap.size 36 tI (fval It.zero) 5 40 Try.underlying23 hI0 hI1 hI2 hI3 rfl (by decide) _ _ _ rfl (o96.alloc _) ⟨W5.heap.size, 0, none⟩ 1 1 (fl [lessI x]) rfl rfl (new_item (W5.setCell ⟨Bi, 4, none⟩ (.int .i64 (x.l - 1))) _ (by simp) (lessI x)) fl_one (by unfold maxLen; omega) (by omega) (by have := hb6.size; simp at this ⊢; omega) ?_; intro v9' W7 ho9' hg7 _))
                have o87 := keep_row o96 hg7 o86 (by decide)
                have hT7 := keep_told o96 hg7 hT6
                have hd7 := keep_other o96 hg7 hd6 (by intro cur e; cases e)
                have hb7 := hb6.trans (keep_low o96 hg7 hb6.size)
                go_roundw
                case rel => exact ⟨k + 1, by omega, by go_num, by rw [hgF.out, List.length_append, Ythfafmafhodlkaa.fl_append, hu8.out]; exact o87, by rw [hgL.out, List.length_append, fl_append, hu9.out]; exact ho9', hT7, hb7, hd7⟩
                case measure => simp [intOf]; omega
              · have hgL : Hid (gL (told xs) (L.take (k + 1)) = gL (told xs) (L.take k)) := by
                  unfold Hid
                  rw [List.take_add_one, hx.out]
                  exact (gL_snoc _ _ _).trans (by unfold leftI; rw [if_pos hqt, if_neg hll]; simp)
                clear hqt
                gi_wp2_with (gi_at_builtin; refine wpListIn_append_own _ rfl _ _ 26 rfl w.heap.size 34 tF (Ythfafmafhodlkaa.fval Fc.zero) 4 32 Try.underlying26 hF0 hF1 hF2 hF3 rfl (by decide) _ _ _ rfl (o8.alloc _) ⟨W2.heap.size, 0, none⟩ 1 1 (Ythfafmafhodlkaa.fl [itF x]) rfl rfl (new_fact W2 (itF x)) Ythfafmafhodlkaa.fl_one (by unfold maxLen; omega) (by omega) (by have := hb2.size; simp; omega) ?_; intro v8' W5 ho8' hg5 _; have hx5 := keep_other o8 hg5 hx2 (by intro cur e; cases e); have hT5 := keep_told o8 hg5 hT2; have hd5 := keep_other o8 hg5 hd2 (by intro cur e; cases e); have hb5 := hb2.trans (keep_low o8 hg5 hb2.size); have z0 := Boxed5.c0 hx5; have z1 := Boxed5.c1 hx5; have z2 := Boxed5.c2 hx5; have z3 := Boxed5.c3 hx5; have z4 := Boxed5.c4 hx5; have zf := Boxed5.f4 hx5; have gs := grown_set W5 Bi 4 (.int .i64 (x.l - 1)); have o86 := ho8'.kept gs (.inr (row_ne ho8' hx5 (by decide))); have o96 := (keep_row o8 hg5 o9 (by decide)).kept gs (.inr (fun e => by have := h9lt Bi e; omega)); have hT6 := set_told (v := .int .i64 (x.l - 1)) hx5 hT5; have hd6 := (gs.block Dd (Array.getElem?_eq_some_iff.1 hd5).1 (fun e => by cases e; rw [hx5] at hd5; cases hd5)).trans hd5; have hb6 := hb5.trans (below_grown gs hBib (Nat.le_trans hb2.size (keep_low o8 hg5 hb2.size).size)); clear y0 y1 y2 y3 y4)
                go_roundw
                case rel => exact ⟨k + 1, by omega, by go_num, by rw [hgF.out, List.length_append, Ythfafmafhodlkaa.fl_append, hu8.out]; exact o86, by rw [hgL.out, hu9.out]; exact o96, hT6, hb6, hd6⟩
                case measure => simp [intOf]; omega
            · have hqi : ¬ (0 : Int) < ((cnt xs x.n : Nat) : Int) := by omega
              have hqt : ¬ told xs x = true := by simpa [told] using hq
              have hgF : Hid (gF (told xs) (L.take (k + 1)) = gF (told xs) (L.take k)) := by
                unfold Hid
                rw [List.take_add_one, hx.out]
                exact (gF_snoc _ _ _).trans (by rw [if_neg hqt, List.append_nil])
              have hll : 0 < x.l := by obtain ⟨h1, _⟩ := hxo; omega
              have hgL : Hid (gL (told xs) (L.take (k + 1)) = gL (told xs) (L.take k) ++ [x]) := by
                unfold Hid
                rw [List.take_add_one, hx.out]
                exact (gL_snoc _ _ _).trans (by unfold leftI; rw [if_neg hqt, if_pos hll]; rfl)
              clear hqt
              gi_wp2_with (gi_at_builtin; refine wpListIn_append_own _ rfl _ _ 23 rfl w.heap.size 36 tI (fval It.zero) 5 40 Try.underlying23 hI0 hI1 hI2 hI3 rfl (by decide) _ _ _ rfl (o9.alloc _) ⟨W2.heap.size, 0, none⟩ 1 1 (fl [x]) rfl rfl (new_item W2 _ (by simp) (x)) fl_one (by unfold maxLen; omega) (by omega) (by have := hb2.size; simp at this ⊢; omega) ?_; intro v9' W7 ho9' hg7 _)
              have o87 := keep_row o9 hg7 o8 (by decide)
              have hT7 := keep_told o9 hg7 hT2
              have hd7 := keep_other o9 hg7 hd2 (by intro cur e; cases e)
              have hb7 := hb2.trans (keep_low o9 hg7 hb2.size)
              go_roundw
              case rel => exact ⟨k + 1, by omega, by go_num, by rw [hgF.out, hu8.out]; exact o87, by rw [hgL.out, List.length_append, fl_append, hu9.out]; exact ho9', hT7, hb7, hd7⟩
              case measure => simp [intOf]; omega
      · obtain rfl : k = L.length := by omega
        rw [List.take_length] at ho8 ho9
        gi_wp2
        refine ⟨by simp, .inl ⟨_, _, rfl, run_takeDeferred hdef, ?_⟩⟩
        exact ⟨_, by simp [results, Try.results7], u8, u9, xs, rfl, hTkH.out, ownsRow_putObj ho8 _ hdef rfl, ownsRow_putObj ho9 _ hdef rfl, hb.trans (below_putObj _ (by omega))⟩
end Go.Proofs.Ythfafmafhodlkaa.I
