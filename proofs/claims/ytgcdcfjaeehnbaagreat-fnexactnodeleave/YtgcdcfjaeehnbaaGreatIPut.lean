/- The register takes a fact: the program's way. -/
import Derived.Test.YtgcdcfjaeehnbaaGreatISort
namespace Go.Proofs.YtgcdcfjaeehnbaaGreat.I
open Go.ChangeShapes Go.WideShapes Go.ChangeAt Go.RowKit
set_option maxRecDepth 20000
set_option linter.unusedSimpArgs false
set_option maxHeartbeats 4000000
attribute [local go_sem ↓] Go.wp_at_zero Go.wp_at_succ
theorem over_any (f g : It) (w : World) :
  Calls Tryz.prog 315 #[fval f, fval g] w fun r w' => r = .returned (.bool (overB f.n f.i f.s f.g g.n g.i g.s g.g)) ∧ Below w.heap.size w w' := by
 go_enter Tryz.func315, Tryz.ntmps315
 go_wp2_with (go_at_call 160; refine (fover_any _ _ _ _ _ _ _ _ _).mono ?_; rintro e w' ⟨rfl, b1⟩)
 go_ret
 exact ⟨rfl, btrans (balloc _ (balloc _ (Below.refl _ _))) b1⟩
theorem over_ok {f g : It} (hf : fok f = true) (hg : fok g = true) (e : g.n = f.n) : overB f.n f.i f.s f.g g.n g.i g.s g.g = ovr f g := by
 unfold fok at hf hg
 unfold overB ovr
 rw [hf, hg]
 simp [e]
theorem cell_block {w : World} {b o : Nat} {cs : Array Value} {t : TypeId} {v : Value} (h : w.heap[b]? = some (.cells cs t (0, 0))) (hc : cs[o]? = some v) : w.cell? ⟨b, o, none⟩ = some v := by
 simp [World.cell?, h, hc]
theorem fok_wf {f : It} (h : fok f = true) : (Lit.int .i64 f.n).wf = true := by
 unfold fok fokB inb at h
 simp at h
 exact WalkArith.wf_i64 (by omega)
theorem map_ne {w : World} {mb c b o : Nat} {D : DataW Unit} {v : Value} (hm : w.ownsMap Tryz.prog 3 fE mb c D) (h : w.cell? ⟨b, o, none⟩ = some v) : b ≠ mb := fun e => by
 subst e
 obtain ⟨es, cl, h1, _⟩ := hm
 simp [World.cell?, h1] at h
theorem keep_map {w w' : World} {mb c b o : Nat} {D : DataW Unit} {v : Value} (hm : w.ownsMap Tryz.prog 3 fE mb c D) (hg : w.grownBy w' (some mb)) (h : w.cell? ⟨b, o, none⟩ = some v) : w'.cell? ⟨b, o, none⟩ = some v := hg.cell h (by simpa using map_ne hm h)
theorem keep_block {w w' : World} {b : Nat} {o : Obj} {r : Option Nat} (hg : w.grownBy w' r) (hr : some b ≠ r) (h : w.heap[b]? = some o) : w'.heap[b]? = some o := (hg.block b (lt_of_block h) hr).trans h
theorem block_ne {w : World} {mb c b : Nat} {D : DataW Unit} {cs : Array Value} {t : TypeId} {fz : Nat × Nat} (hm : w.ownsMap Tryz.prog 3 fE mb c D) (h : w.heap[b]? = some (.cells cs t fz)) : some b ≠ some mb := fun e => by
 simp only [Option.some.injEq] at e
 subst e
 obtain ⟨es, cl, h1, _⟩ := hm
 rw [h] at h1
 cases h1
theorem step_upd {w : World} {ops : Array Oper} {o : Oper} {a : Act} {K : Act → World → Prop} {Q : Exit → Act → World → Prop} {E : Prop} (hgd : o.guard = none) (m x v : Operand) (ho : o.op = .mapUpdate 250 m x v)
  (b n : Nat) (D : DataW Unit) (hm : a.eval m = .map (some b)) (hown : w.ownsMap Tryz.prog 3 fE b n D) (hn : n < maxLen) (k : Int) (hx : a.eval x = .int .i64 k) (hk : (Lit.int .i64 k).wf = true) (f : It) (hv : a.eval v = fval f)
  (h : ∀ w', w'.ownsMap Tryz.prog 3 fE b (n + 1) (D.put (.int .i64 k) (fd f)) → w.grownBy w' (some b) → K (a.put o.dst undef) w') :
  if Region.wanted o (yielded ops a.tmps) = true then Oper.wp Tryz.prog o a w K Q else E := by
 have hw : Region.wanted o (yielded ops a.tmps) = true := by simp [Region.wanted, hgd]
 rw [if_pos hw]
 obtain ⟨w', hrun, r1, r2⟩ := hown.update keyed3 Tryz.underlying250 hn (Maps.keyOf_int_mk Tryz.underlying3 hk) (fE_mk f)
 unfold Oper.wp
 simp [execOp, ho, hm, hx, hv, hrun, Result.andThen]
 exact h _ r1 r2
theorem map_below {w w' : World} {mb c : Nat} {D : DataW Unit} (h : w.ownsMap Tryz.prog 3 fE mb c D) (hb : Below w.heap.size w w') : w'.ownsMap Tryz.prog 3 fE mb c D := by
 have hl := h.lt
 obtain ⟨es, clock, e1, r⟩ := h
 exact ⟨es, clock, (hb.block mb hl).trans e1, r⟩
theorem own_not_map {w : World} {base mb c n : Nat} {D : DataW Unit} {v : Value} {xs : List Value} (h : w.ownsRow base 3 1 v n xs) (hm : w.ownsMap Tryz.prog 3 fE mb c D) : v.ownBlock = none ∨ v.ownBlock ≠ some mb := by
 rcases h.2 with ⟨rfl, _⟩ | ⟨g, cap, cur, rfl, _, hh, _⟩
 ·exact .inl rfl
 ·exact .inr (block_ne hm hh)
theorem step_app1 {w : World} {ops : Array Oper} {o : Oper} {a : Act} {K : Act → World → Prop} {Q : Exit → Act → World → Prop} {E : Prop} (hgd : o.guard = none) (s x : Operand)
  (ho : o.op = .call { callee := .builtin .append, args := #[s, x], argTypes := #[54, 54] })
  (base : Nat) (v : Value) (n : Nat) (L : List Int) (hs : a.eval s = v) (hown : w.ownsRow base 3 1 v n (lv L))
  (g : Nat) (k : Int) (hx : a.eval x = .slice (some ⟨g, 0, none⟩) 1 1) (hnew : w.cell? ⟨g, 0, none⟩ = some (.int .i64 k)) (hn : n ≤ 100) (hbase : base ≤ w.heap.size)
  (h : ∀ a' cap' w', w'.ownsRow base 3 1 (.slice a' (n + 1) cap') (n + 1) (lv (L ++ [k])) → w.grownBy w' v.ownBlock → K (a.put o.dst (.slice a' (n + 1) cap')) w') :
  if Region.wanted o (yielded ops a.tmps) = true then Oper.wp Tryz.prog o a w K Q else E := by
 have hw : Region.wanted o (yielded ops a.tmps) = true := by simp [Region.wanted, hgd]
 rw [if_pos hw]
 obtain ⟨ti, hi, hz0, hz1, hz2⟩ := info_parts info3
 refine wp_append_own w s x 54 ho base 3 ti (.int .i64 0) 1 8 Tryz.underlying54 hi hz0 hz1 hz2 rfl (by decide) v n (lv L) hs hown ⟨g, 0, none⟩ 1 1 (lv [k]) hx rfl (fun j u hj => ?_) (fun u hu => ?_) (by unfold maxLen; omega) (by omega) hbase (fun v' w' h1 h2 _ => ?_)
 ·match j, hj with
  | 0, hj => simp [lv] at hj; subst hj; simpa [Addr.add] using hnew
 ·obtain ⟨y, _, rfl⟩ := List.mem_map.1 hu
  rfl
 ·rw [← show lv (L ++ [k]) = lv L ++ lv [k] by simp [lv]] at h1
  rcases own_shape h1 with ⟨_, h0⟩ | ⟨g', cap', rfl, _⟩
  ·omega
  ·exact h _ cap' w' h1 h2
theorem not_own {w : World} {base n b : Nat} {t : TypeId} {cs : Array Value} {fz : Nat × Nat} {v : Value} {xs : List Value} (h : w.ownsRow base 3 1 v n xs) (hb : w.heap[b]? = some (.cells cs t fz)) (ht : t ≠ 3) : some b ≠ v.ownBlock := fun e => by
 rcases h.2 with ⟨rfl, _⟩ | ⟨g, cap, cur, rfl, _, hh, _⟩
 ·cases e
 ·simp only [Value.ownBlock, Option.some.injEq] at e
  subst e
  rw [hb] at hh
  simp at hh
  exact ht hh.2.1
theorem own_not_map' {w : World} {base mb c n : Nat} {D : DataW Unit} {v : Value} {xs : List Value} (h : w.ownsRow base 3 1 v n xs) (hm : w.ownsMap Tryz.prog 3 fE mb c D) : some mb ≠ v.ownBlock := fun e => by
 rcases own_not_map h hm with h | h
 ·rw [h] at e; cases e
 ·exact h e.symm
theorem block_alloc {w : World} {b : Nat} {o : Obj} (x : Obj) (h : w.heap[b]? = some o) : (w.alloc x).heap[b]? = some o := (Below.heap_alloc w x b (lt_of_block h)).trans h
theorem block_set {w : World} {rb mb : Nat} {v v' : Value} (h : w.heap[rb]? = some (.cells #[v, .map (some mb)] 252 (0, 0))) : (w.setCell ⟨rb, 0, none⟩ v').heap[rb]? = some (.cells #[v', .map (some mb)] 252 (0, 0)) := by
 unfold World.setCell
 show (w.heap.modify rb _)[rb]? = _
 rw [Array.getElem?_modify, if_pos rfl, h]
 rfl
theorem sorted_new {T : List It} {f : It} (hT : Asc T) (hg : tget T f.n = none) : (T.map (·.n) ++ [f.n]).mergeSort (fun x y => decide (x ≤ y)) = (tput T f).map (·.n) := by
 have h1 : ((tput T f).map (·.n)).Perm (T.map (·.n) ++ [f.n]) := by simpa using (tput_perm hg).map (·.n)
 have h2 : ((tput T f).map (·.n)).Pairwise (fun x y => x ≤ y) := by
  rw [List.pairwise_map]
  exact (tput_asc hT).imp (fun {a b} h => by omega)
 have h3 : ((T.map (·.n) ++ [f.n]).mergeSort (fun x y => decide (x ≤ y))).Pairwise (fun x y => x ≤ y) := by
  have := List.pairwise_mergeSort (le := fun (x y : Int) => decide (x ≤ y)) (fun a b c h1 h2 => by simp at *; omega) (fun a b => by simp; omega) (T.map (·.n) ++ [f.n])
  exact this.imp (fun {a b} h => by simpa using h)
 exact List.Perm.eq_of_pairwise (fun a b _ _ h1 h2 => by omega) h3 h2 ((List.mergeSort_perm _ _).trans h1.symm)
theorem put_no (base rb c : Nat) (T : List It) (f g : It) (hg : tget T f.n = some g) (hgo : fok g = true) (ho : ovr f g = false) (w : World) (hR : Reg w base rb c T) (hf : fok f = true) (hb : base ≤ w.heap.size) (_hc : c < 1000000) :
  Calls Tryz.prog 239 #[.pointer (some ⟨rb, 0, none⟩), fval f] w fun e w' => e = .returned (.bool false) ∧ Reg w' base rb (c + 1) T ∧ Below base w w' := by
 have hm : ∀ (n i s : Int) (g : Bool) (l : Int) (w : World), (method 402 127 (.agg #[.int .i64 n, .int .i64 i, .int .i64 s, .bool g, .int .i64 l]) "loop.example/lightship/impl.key").run Tryz.prog w = .ok (232, .agg #[.int .i64 n, .int .i64 i, .int .i64 s, .bool g, .int .i64 l]) w := fun _ _ _ _ _ _ => by kernel_rfl
 have hm2 : ∀ (n i s : Int) (g : Bool) (l : Int) (w : World), (method 402 127 (.agg #[.int .i64 n, .int .i64 i, .int .i64 s, .bool g, .int .i64 l]) "loop.example/lightship/impl.overrides").run Tryz.prog w = .ok (315, .agg #[.int .i64 n, .int .i64 i, .int .i64 s, .bool g, .int .i64 l]) w := fun _ _ _ _ _ _ => by kernel_rfl
 go_enter Tryz.func239, Tryz.ntmps239
 go_wp2_with fail
 have p0 : ((w.alloc (.cells #[.pointer (some ⟨rb, 0, none⟩)] 230)).alloc (.cells #[.int .i64 f.n, .int .i64 f.i, .int .i64 f.s, .bool f.g, .int .i64 f.l] 127)).heap[w.heap.size]? = some (.cells #[.pointer (some ⟨rb, 0, none⟩)] 230 (0, 0)) := (Below.heap_alloc _ _ _ (by simp)).trans (heap_alloc_new _ _)
 have p1 : ((w.alloc (.cells #[.pointer (some ⟨rb, 0, none⟩)] 230)).alloc (.cells #[.int .i64 f.n, .int .i64 f.i, .int .i64 f.s, .bool f.g, .int .i64 f.l] 127)).heap[w.heap.size + 1]? = some (.cells #[.int .i64 f.n, .int .i64 f.i, .int .i64 f.s, .bool f.g, .int .i64 f.l] 127 (0, 0)) := by have := heap_alloc_new (w.alloc (.cells #[.pointer (some ⟨rb, 0, none⟩)] 230)) (.cells #[.int .i64 f.n, .int .i64 f.i, .int .i64 f.s, .bool f.g, .int .i64 f.l] 127); simpa using this
 have B0 : Below w.heap.size w ((w.alloc (.cells #[.pointer (some ⟨rb, 0, none⟩)] 230)).alloc (.cells #[.int .i64 f.n, .int .i64 f.i, .int .i64 f.s, .bool f.g, .int .i64 f.l] 127)) := balloc _ (balloc _ (Below.refl _ _))
 have z0 : ((w.alloc (.cells #[.pointer (some ⟨rb, 0, none⟩)] 230)).alloc (.cells #[.int .i64 f.n, .int .i64 f.i, .int .i64 f.s, .bool f.g, .int .i64 f.l] 127)).heap.size = w.heap.size + 2 := by simp
 generalize ((w.alloc (.cells #[.pointer (some ⟨rb, 0, none⟩)] 230)).alloc (.cells #[.int .i64 f.n, .int .i64 f.i, .int .i64 f.s, .bool f.g, .int .i64 f.l] 127)) = W0 at *
 refine (tkey_any _ _ _ _ _ _).mono ?_
 rintro e w1 ⟨rfl, b1⟩
 have q0 := (b1.block w.heap.size (by omega)).trans p0
 have q1 := (b1.block (w.heap.size + 1) (by omega)).trans p1
 have B1 := btrans B0 b1
 have R1 := hR.below B1
 have L1 : w.heap.size + 1 < w1.heap.size := lt_of_block q1
 clear p0 p1 b1 B0 z0 hm
 obtain ⟨v, mb, D, h1, h2, h3, h4, h5, h6⟩ := R1
 have c0 := cell_block (o := 0) q0 rfl
 have c1 := cell_block (o := 0) q1 rfl
 have c2 := cell_block (o := 1) q1 rfl
 have c3 := cell_block (o := 2) q1 rfl
 have c4 := cell_block (o := 3) q1 rfl
 have c5 := cell_block (o := 4) q1 rfl
 have r0 := cell_block (o := 0) h1 rfl
 have r1 := cell_block (o := 1) h1 rfl
 have s1 := fun o => keep_alloc o c1
 have s2 := fun o => keep_alloc o c2
 have s3 := fun o => keep_alloc o c3
 have s4 := fun o => keep_alloc o c4
 have s5 := fun o => keep_alloc o c5
 go_wp2_with (at_lookup; refine wpList_lookup_fact rfl _ _ rfl mb c D T rfl h5 h6 f.n rfl (fok_wf hf) g true (by rw [hg]; rfl) (by rw [hg]; rfl) ?_)
 refine (over_any f g _).mono ?_
 rintro e w2 ⟨rfl, b2⟩
 rw [over_ok hf hgo (tget_mem hg).2, ho]
 go_wp2
 go_ret
 have B2 := btrans (balloc _ (Below.refl _ w1)) b2
 exact ⟨rfl, Reg.below ⟨v, mb, D, h1, h2, h3, h4, h5.mono (Nat.le_succ _), h6⟩ B2, (btrans B1 B2).mono hb⟩
theorem put_yes (base rb c : Nat) (T : List It) (f g : It) (hT : Asc T) (hg : tget T f.n = some g) (hgo : fok g = true) (ho : ovr f g = true) (w : World) (hR : Reg w base rb c T) (hf : fok f = true) (hb : base ≤ w.heap.size) (hc : c < 1000000) :
  Calls Tryz.prog 239 #[.pointer (some ⟨rb, 0, none⟩), fval f] w fun e w' => e = .returned (.bool true) ∧ Reg w' base rb (c + 1) (tput T f) ∧ Below base w w' := by
 have hm : ∀ (n i s : Int) (g : Bool) (l : Int) (w : World), (method 402 127 (.agg #[.int .i64 n, .int .i64 i, .int .i64 s, .bool g, .int .i64 l]) "loop.example/lightship/impl.key").run Tryz.prog w = .ok (232, .agg #[.int .i64 n, .int .i64 i, .int .i64 s, .bool g, .int .i64 l]) w := fun _ _ _ _ _ _ => by kernel_rfl
 have hm2 : ∀ (n i s : Int) (g : Bool) (l : Int) (w : World), (method 402 127 (.agg #[.int .i64 n, .int .i64 i, .int .i64 s, .bool g, .int .i64 l]) "loop.example/lightship/impl.overrides").run Tryz.prog w = .ok (315, .agg #[.int .i64 n, .int .i64 i, .int .i64 s, .bool g, .int .i64 l]) w := fun _ _ _ _ _ _ => by kernel_rfl
 go_enter Tryz.func239, Tryz.ntmps239
 go_wp2_with fail
 have p0 : ((w.alloc (.cells #[.pointer (some ⟨rb, 0, none⟩)] 230)).alloc (.cells #[.int .i64 f.n, .int .i64 f.i, .int .i64 f.s, .bool f.g, .int .i64 f.l] 127)).heap[w.heap.size]? = some (.cells #[.pointer (some ⟨rb, 0, none⟩)] 230 (0, 0)) := (Below.heap_alloc _ _ _ (by simp)).trans (heap_alloc_new _ _)
 have p1 : ((w.alloc (.cells #[.pointer (some ⟨rb, 0, none⟩)] 230)).alloc (.cells #[.int .i64 f.n, .int .i64 f.i, .int .i64 f.s, .bool f.g, .int .i64 f.l] 127)).heap[w.heap.size + 1]? = some (.cells #[.int .i64 f.n, .int .i64 f.i, .int .i64 f.s, .bool f.g, .int .i64 f.l] 127 (0, 0)) := by have := heap_alloc_new (w.alloc (.cells #[.pointer (some ⟨rb, 0, none⟩)] 230)) (.cells #[.int .i64 f.n, .int .i64 f.i, .int .i64 f.s, .bool f.g, .int .i64 f.l] 127); simpa using this
 have B0 : Below w.heap.size w ((w.alloc (.cells #[.pointer (some ⟨rb, 0, none⟩)] 230)).alloc (.cells #[.int .i64 f.n, .int .i64 f.i, .int .i64 f.s, .bool f.g, .int .i64 f.l] 127)) := balloc _ (balloc _ (Below.refl _ _))
 have z0 : ((w.alloc (.cells #[.pointer (some ⟨rb, 0, none⟩)] 230)).alloc (.cells #[.int .i64 f.n, .int .i64 f.i, .int .i64 f.s, .bool f.g, .int .i64 f.l] 127)).heap.size = w.heap.size + 2 := by simp
 generalize ((w.alloc (.cells #[.pointer (some ⟨rb, 0, none⟩)] 230)).alloc (.cells #[.int .i64 f.n, .int .i64 f.i, .int .i64 f.s, .bool f.g, .int .i64 f.l] 127)) = W0 at *
 refine (tkey_any _ _ _ _ _ _).mono ?_
 rintro e w1 ⟨rfl, b1⟩
 have q0 := (b1.block w.heap.size (by omega)).trans p0
 have q1 := (b1.block (w.heap.size + 1) (by omega)).trans p1
 have B1 := btrans B0 b1
 have R1 := hR.below B1
 have L1 : w.heap.size + 1 < w1.heap.size := lt_of_block q1
 clear p0 p1 b1 B0 z0 hm
 obtain ⟨v, mb, D, h1, h2, h3, h4, h5, h6⟩ := R1
 have c0 := cell_block (o := 0) q0 rfl
 have c1 := cell_block (o := 0) q1 rfl
 have c2 := cell_block (o := 1) q1 rfl
 have c3 := cell_block (o := 2) q1 rfl
 have c4 := cell_block (o := 3) q1 rfl
 have c5 := cell_block (o := 4) q1 rfl
 have r0 := cell_block (o := 0) h1 rfl
 have r1 := cell_block (o := 1) h1 rfl
 have s1 := fun o => keep_alloc o c1
 have s2 := fun o => keep_alloc o c2
 have s3 := fun o => keep_alloc o c3
 have s4 := fun o => keep_alloc o c4
 have s5 := fun o => keep_alloc o c5
 go_wp2_with (at_lookup; refine wpList_lookup_fact rfl _ _ rfl mb c D T rfl h5 h6 f.n rfl (fok_wf hf) g true (by rw [hg]; rfl) (by rw [hg]; rfl) ?_)
 refine (over_any f g _).mono ?_
 rintro e w2 ⟨rfl, b2⟩
 rw [over_ok hf hgo (tget_mem hg).2, ho]
 have B2 := btrans (balloc _ (Below.refl _ w1)) b2
 clear c0 c1 c2 c3 c4 c5 r0 r1 s1 s2 s3 s4 s5 b2
 replace h1 := (B2.block _ (lt_of_block h1)).trans h1
 replace h4 := own_below h4 B2
 replace h5 := map_below h5 B2
 replace q0 := (B2.block _ (lt_of_block q0)).trans q0
 replace q1 := (B2.block _ (lt_of_block q1)).trans q1
 have B3 := btrans B1 B2
 have c0 := cell_block (o := 0) q0 rfl
 have c1 := cell_block (o := 0) q1 rfl
 have c2 := cell_block (o := 1) q1 rfl
 have c3 := cell_block (o := 2) q1 rfl
 have c4 := cell_block (o := 3) q1 rfl
 have c5 := cell_block (o := 4) q1 rfl
 have r0 := cell_block (o := 0) h1 rfl
 have r1 := cell_block (o := 1) h1 rfl
 clear B1 B2
 go_wp2_with fail
 refine wp_region_held_drew (S := fun w' => w'.cell? ⟨w.heap.size, 0, none⟩ = some (.pointer (some ⟨rb, 0, none⟩)) ∧ w'.cell? ⟨rb, 1, none⟩ = some (.map (some mb)) ∧ w'.cell? ⟨w.heap.size + 1, 0, none⟩ = some (.int .i64 f.n) ∧ w'.cell? ⟨w.heap.size + 1, 1, none⟩ = some (.int .i64 f.i) ∧ w'.cell? ⟨w.heap.size + 1, 2, none⟩ = some (.int .i64 f.s) ∧ w'.cell? ⟨w.heap.size + 1, 3, none⟩ = some (.bool f.g) ∧ w'.cell? ⟨w.heap.size + 1, 4, none⟩ = some (.int .i64 f.l)) (by kernel_rfl) ?_ (fun hHeld => ?_)
 ·exact ⟨keep_drew c0, keep_drew r1, keep_drew c1, keep_drew c2, keep_drew c3, keep_drew c4, keep_drew c5⟩
 refine tlT (i := 0) rfl ?_; refine tlT (i := 1) rfl ?_; refine tlT (i := 2) rfl ?_; refine tlT (i := 3) rfl ?_; refine tlT (i := 4) rfl ?_; refine tlT (i := 5) rfl ?_
 refine wpAnyH_ready (rs := [6]) (by kernel_rfl) (by simp) ?_
 refine AllReadyH.cons (o := _) rfl (fun K hK => ?_) AllReadyH.nil
 refine step_upd rfl _ _ _ rfl mb c D rfl h5.drew (by unfold maxLen; omega) f.n rfl (fok_wf hf) f rfl ?_
 intro w3 h5' g3
 refine hK.out _ _ ?_ (fun hHeld => ?_)
 ·exact ⟨keep_map h5.drew g3 (keep_drew c0), keep_map h5.drew g3 (keep_drew r1), keep_map h5.drew g3 (keep_drew c1), keep_map h5.drew g3 (keep_drew c2), keep_map h5.drew g3 (keep_drew c3), keep_map h5.drew g3 (keep_drew c4), keep_map h5.drew g3 (keep_drew c5)⟩
 clear hK K
 (try simp only [Act.put])
 refine wpAnyH_done (by kernel_rfl) ?_ _
 go_wp2
 go_ret
 have g3' : w2.grownBy w3 (some mb) := ⟨g3.os, g3.tape, g3.output, g3.size, g3.block⟩
 refine ⟨rfl, ⟨v, mb, _, keep_block g3' (block_ne h5 h1) h1, h2, h3, ?_, h5', kept_put h5.isMap h6 hT (by unfold tnew; rw [hg]; exact ho)⟩, (B3.mono hb).grown g3' (by have := B3.size; omega) (fun k hk => by simp only [Option.some.injEq] at hk; omega)⟩
 have hl : (tput T f).length = T.length := by have := congrArg List.length (tput_old hT hg); simpa using this
 rw [tput_old hT hg, hl]
 exact h4.kept g3' (own_not_map h4 h5)
theorem put_new (base rb c : Nat) (T : List It) (f : It) (hT : Asc T) (hg : tget T f.n = none) (hl : T.length ≤ 8) (w : World) (hR : Reg w base rb c T) (hf : fok f = true) (hb : base ≤ w.heap.size) (hc : c < 1000000) :
  Calls Tryz.prog 239 #[.pointer (some ⟨rb, 0, none⟩), fval f] w fun e w' => e = .returned (.bool true) ∧ Reg w' base rb (c + 1) (tput T f) ∧ Below base w w' := by
 have hm : ∀ (n i s : Int) (g : Bool) (l : Int) (w : World), (method 402 127 (.agg #[.int .i64 n, .int .i64 i, .int .i64 s, .bool g, .int .i64 l]) "loop.example/lightship/impl.key").run Tryz.prog w = .ok (232, .agg #[.int .i64 n, .int .i64 i, .int .i64 s, .bool g, .int .i64 l]) w := fun _ _ _ _ _ _ => by kernel_rfl
 have hm2 : ∀ (n i s : Int) (g : Bool) (l : Int) (w : World), (method 402 127 (.agg #[.int .i64 n, .int .i64 i, .int .i64 s, .bool g, .int .i64 l]) "loop.example/lightship/impl.overrides").run Tryz.prog w = .ok (315, .agg #[.int .i64 n, .int .i64 i, .int .i64 s, .bool g, .int .i64 l]) w := fun _ _ _ _ _ _ => by kernel_rfl
 go_enter Tryz.func239, Tryz.ntmps239
 go_wp2_with fail
 have p0 : ((w.alloc (.cells #[.pointer (some ⟨rb, 0, none⟩)] 230)).alloc (.cells #[.int .i64 f.n, .int .i64 f.i, .int .i64 f.s, .bool f.g, .int .i64 f.l] 127)).heap[w.heap.size]? = some (.cells #[.pointer (some ⟨rb, 0, none⟩)] 230 (0, 0)) := (Below.heap_alloc _ _ _ (by simp)).trans (heap_alloc_new _ _)
 have p1 : ((w.alloc (.cells #[.pointer (some ⟨rb, 0, none⟩)] 230)).alloc (.cells #[.int .i64 f.n, .int .i64 f.i, .int .i64 f.s, .bool f.g, .int .i64 f.l] 127)).heap[w.heap.size + 1]? = some (.cells #[.int .i64 f.n, .int .i64 f.i, .int .i64 f.s, .bool f.g, .int .i64 f.l] 127 (0, 0)) := by have := heap_alloc_new (w.alloc (.cells #[.pointer (some ⟨rb, 0, none⟩)] 230)) (.cells #[.int .i64 f.n, .int .i64 f.i, .int .i64 f.s, .bool f.g, .int .i64 f.l] 127); simpa using this
 have B0 : Below w.heap.size w ((w.alloc (.cells #[.pointer (some ⟨rb, 0, none⟩)] 230)).alloc (.cells #[.int .i64 f.n, .int .i64 f.i, .int .i64 f.s, .bool f.g, .int .i64 f.l] 127)) := balloc _ (balloc _ (Below.refl _ _))
 have z0 : ((w.alloc (.cells #[.pointer (some ⟨rb, 0, none⟩)] 230)).alloc (.cells #[.int .i64 f.n, .int .i64 f.i, .int .i64 f.s, .bool f.g, .int .i64 f.l] 127)).heap.size = w.heap.size + 2 := by simp
 generalize ((w.alloc (.cells #[.pointer (some ⟨rb, 0, none⟩)] 230)).alloc (.cells #[.int .i64 f.n, .int .i64 f.i, .int .i64 f.s, .bool f.g, .int .i64 f.l] 127)) = W0 at *
 refine (tkey_any _ _ _ _ _ _).mono ?_
 rintro e w1 ⟨rfl, b1⟩
 have q0 := (b1.block w.heap.size (by omega)).trans p0
 have q1 := (b1.block (w.heap.size + 1) (by omega)).trans p1
 have B1 := btrans B0 b1
 have R1 := hR.below B1
 have L1 : w.heap.size + 1 < w1.heap.size := lt_of_block q1
 clear p0 p1 b1 B0 z0 hm
 obtain ⟨v, mb, D, h1, h2, h3, h4, h5, h6⟩ := R1
 have c0 := cell_block (o := 0) q0 rfl
 have c1 := cell_block (o := 0) q1 rfl
 have c2 := cell_block (o := 1) q1 rfl
 have c3 := cell_block (o := 2) q1 rfl
 have c4 := cell_block (o := 3) q1 rfl
 have c5 := cell_block (o := 4) q1 rfl
 have r0 := cell_block (o := 0) h1 rfl
 have r1 := cell_block (o := 1) h1 rfl
 go_wp2_with (at_lookup; refine wpList_lookup_fact rfl _ _ rfl mb c D T rfl h5 h6 f.n rfl (fok_wf hf) It.zero false (by rw [hg]; rfl) (by rw [hg]; rfl) ?_)
 clear c0 c1 c2 c3 c4 c5 r0 r1 hm2
 replace h1 : (w1.alloc (.cells #[.int .i64 It.zero.n, .int .i64 It.zero.i, .int .i64 It.zero.s, .bool It.zero.g, .int .i64 It.zero.l] 127)).heap[rb]? = _ := block_alloc _ h1
 replace h4 : (w1.alloc (.cells #[.int .i64 It.zero.n, .int .i64 It.zero.i, .int .i64 It.zero.s, .bool It.zero.g, .int .i64 It.zero.l] 127)).ownsRow _ _ _ _ _ _ := h4.alloc _
 replace h5 : (w1.alloc (.cells #[.int .i64 It.zero.n, .int .i64 It.zero.i, .int .i64 It.zero.s, .bool It.zero.g, .int .i64 It.zero.l] 127)).ownsMap _ _ _ _ _ _ := h5.alloc _
 replace q0 : (w1.alloc (.cells #[.int .i64 It.zero.n, .int .i64 It.zero.i, .int .i64 It.zero.s, .bool It.zero.g, .int .i64 It.zero.l] 127)).heap[w.heap.size]? = _ := block_alloc _ q0
 replace q1 : (w1.alloc (.cells #[.int .i64 It.zero.n, .int .i64 It.zero.i, .int .i64 It.zero.s, .bool It.zero.g, .int .i64 It.zero.l] 127)).heap[w.heap.size + 1]? = _ := block_alloc _ q1
 have B3 : Below w.heap.size w (w1.alloc (.cells #[.int .i64 It.zero.n, .int .i64 It.zero.i, .int .i64 It.zero.s, .bool It.zero.g, .int .i64 It.zero.l] 127)) := balloc _ B1
 clear B1 L1
 generalize (w1.alloc (.cells #[.int .i64 It.zero.n, .int .i64 It.zero.i, .int .i64 It.zero.s, .bool It.zero.g, .int .i64 It.zero.l] 127)) = w2 at *
 have c0 := cell_block (o := 0) q0 rfl
 have c1 := cell_block (o := 0) q1 rfl
 have c2 := cell_block (o := 1) q1 rfl
 have c3 := cell_block (o := 2) q1 rfl
 have c4 := cell_block (o := 3) q1 rfl
 have c5 := cell_block (o := 4) q1 rfl
 have r0 := cell_block (o := 0) h1 rfl
 have r1 := cell_block (o := 1) h1 rfl
 refine wp_region_held_drew (S := fun w' => w'.cell? ⟨w.heap.size, 0, none⟩ = some (.pointer (some ⟨rb, 0, none⟩)) ∧ w'.cell? ⟨rb, 1, none⟩ = some (.map (some mb)) ∧ w'.cell? ⟨w.heap.size + 1, 0, none⟩ = some (.int .i64 f.n) ∧ w'.cell? ⟨w.heap.size + 1, 1, none⟩ = some (.int .i64 f.i) ∧ w'.cell? ⟨w.heap.size + 1, 2, none⟩ = some (.int .i64 f.s) ∧ w'.cell? ⟨w.heap.size + 1, 3, none⟩ = some (.bool f.g) ∧ w'.cell? ⟨w.heap.size + 1, 4, none⟩ = some (.int .i64 f.l)) (by kernel_rfl) ?_ (fun hHeld => ?_)
 ·exact ⟨keep_drew c0, keep_drew r1, keep_drew c1, keep_drew c2, keep_drew c3, keep_drew c4, keep_drew c5⟩
 refine tlT (i := 0) rfl ?_; refine tlT (i := 1) rfl ?_; refine tlT (i := 2) rfl ?_; refine tlT (i := 3) rfl ?_; refine tlT (i := 4) rfl ?_; refine tlT (i := 5) rfl ?_
 refine wpAnyH_ready (rs := [6]) (by kernel_rfl) (by simp) ?_
 refine AllReadyH.cons (o := _) rfl (fun K hK => ?_) AllReadyH.nil
 refine step_upd rfl _ _ _ rfl mb c D rfl h5.drew (by unfold maxLen; omega) f.n rfl (fok_wf hf) f rfl ?_
 intro w3 h5' g3
 refine hK.out _ _ ?_ (fun hHeld => ?_)
 ·exact ⟨keep_map h5.drew g3 (keep_drew c0), keep_map h5.drew g3 (keep_drew r1), keep_map h5.drew g3 (keep_drew c1), keep_map h5.drew g3 (keep_drew c2), keep_map h5.drew g3 (keep_drew c3), keep_map h5.drew g3 (keep_drew c4), keep_map h5.drew g3 (keep_drew c5)⟩
 clear hK K
 (try simp only [Act.put])
 refine wpAnyH_done (by kernel_rfl) ?_ _
 have g3' : w2.grownBy w3 (some mb) := ⟨g3.os, g3.tape, g3.output, g3.size, g3.block⟩
 replace h1 := keep_block g3' (block_ne h5 h1) h1
 replace q0 := keep_block g3' (block_ne h5 q0) q0
 replace h4 := h4.kept g3' (own_not_map h4 h5)
 replace h6 := kept_put h5.isMap h6 hT (show tnew T f = true by unfold tnew; rw [hg])
 replace B3 := (B3.mono hb).grown g3' (by have := B3.size; omega) (fun k hk => by simp only [Option.some.injEq] at hk; omega)
 clear h5 g3 g3' c0 c1 c2 c3 c4 c5 r0 r1 q1
 have h5 := h5'
 clear h5'
 have c0 := cell_block (o := 0) q0 rfl
 have r0 := cell_block (o := 0) h1 rfl
 go_wp2_with fail
 refine wp_region_held_drew (S := fun w' => w'.cell? ⟨w.heap.size, 0, none⟩ = some (.pointer (some ⟨rb, 0, none⟩))) (by kernel_rfl) ?_ (fun hHeld => ?_)
 ·exact keep_drew c0
 refine tlT (i := 0) rfl ?_; refine tlT (i := 1) rfl ?_; refine tlT (i := 2) rfl ?_; refine tlT (i := 3) rfl ?_; refine tlT (i := 5) rfl ?_
 refine wpAnyH_ready (rs := [4, 6]) (by kernel_rfl) (by simp) ?_
 refine AllReadyH.cons (o := _) rfl (fun K hK => ?_) (AllReadyH.cons (o := _) rfl (fun K hK => ?_) AllReadyH.nil)
 ·go_simp
  refine hK.out _ _ ?_ (fun hHeld => ?_)
  ·exact keep_drew c0
  clear hK K
  (try simp only [putP])
  refine wpAnyH_ready (rs := [6]) (by kernel_rfl) (by simp) ?_
  refine AllReadyH.cons (o := _) rfl (fun K hK => ?_) AllReadyH.nil
  go_simp
  refine hK.out _ _ ?_ (fun hHeld => ?_)
  ·exact keep_drew (keep_alloc _ c0)
  clear hK K
  (try simp only [putP])
  have A0 : ((w3.alloc (.cells #[.int .i64 f.n] 3)).drew).cell? ⟨w3.heap.size, 0, none⟩ = some (.int .i64 f.n) := by simp [go_sem]
  have A1 : ((w3.alloc (.cells #[.int .i64 f.n] 3)).drew).ownsRow base 3 1 v T.length (lv (T.map (·.n))) := h4.alloc _
  have A2 : ((w3.alloc (.cells #[.int .i64 f.n] 3)).drew).ownsMap Tryz.prog 3 fE mb (c + 1) (D.put (.int .i64 f.n) (fd f)) := h5.alloc _
  have A3 : ((w3.alloc (.cells #[.int .i64 f.n] 3)).drew).heap[rb]? = some (.cells #[v, .map (some mb)] 252 (0, 0)) := block_alloc _ h1
  have A4 : ((w3.alloc (.cells #[.int .i64 f.n] 3)).drew).heap[w.heap.size]? = some (.cells #[.pointer (some ⟨rb, 0, none⟩)] 230 (0, 0)) := block_alloc _ q0
  have A5 : Below base w ((w3.alloc (.cells #[.int .i64 f.n] 3)).drew) := (B3.alloc (by have := B3.size; omega) _).drew
  generalize ((w3.alloc (.cells #[.int .i64 f.n] 3)).drew) = W4 at *
  clear h1 h4 h5 q0 B3 c0 r0
  refine wpAnyH_ready (rs := [7]) (by kernel_rfl) (by simp) ?_
  refine AllReadyH.cons (o := _) rfl (fun K hK => ?_) AllReadyH.nil
  refine step_app1 (by rfl) _ _ (by rfl) base v T.length (T.map (·.n)) (by rfl) A1 w3.heap.size f.n (by rfl) A0 (by omega) (by have := A5.size; omega) ?_
  intro a' cap' W5 o5 g5
  have E3 := keep_block g5 (not_own A1 A3 (by decide)) A3
  have E4 := keep_block g5 (not_own A1 A4 (by decide)) A4
  have E2 := A2.kept g5 (own_not_map' A1 A2)
  have E5 := A5.grown g5 (by have := A5.size; omega) (fun k hk => (A1.lt k hk).1)
  refine hK.out _ _ ?_ (fun hHeld => ?_)
  ·exact cell_block (o := 0) E4 rfl
  clear hK K
  (try simp only [putP])
  clear A0 A1 A2 A3 A4 A5 g5
  refine tlT (i := 8) (ha := rfl) rfl ?_; refine tlT (i := 9) (ha := rfl) rfl ?_; (try simp only [putP])
  have fz : W5.frozen? ⟨rb, 0, none⟩ = false := by simp [World.frozen?, E3]
  have e1 := cell_block (o := 0) E3 rfl
  refine wpAnyH_ready (rs := [10]) (by kernel_rfl) (by simp) ?_
  refine AllReadyH.cons (o := _) rfl (fun K hK => ?_) AllReadyH.nil
  go_simp
  have F3 := block_set (v' := .slice a' (T.length + 1) cap') E3
  have F4 := (heap_setCell_other W5 ⟨rb, 0, none⟩ w.heap.size (.slice a' (T.length + 1) cap') (fun e => by rw [e, E3] at E4; simp at E4)).trans E4
  have F2 := E2.setCell (a := ⟨rb, 0, none⟩) (fun e => block_ne E2 E3 (by rw [e])) (.slice a' (T.length + 1) cap')
  have F1 := o5.kept (grown_set W5 rb 0 (.slice a' (T.length + 1) cap')) (.inr (fun e => not_own o5 E3 (by decide) e.symm))
  have F5 := E5.setCell (p := ⟨rb, 0, none⟩) h2 (.slice a' (T.length + 1) cap')
  refine hK.out _ _ ?_ (fun hHeld => ?_)
  ·exact cell_block (o := 0) F4 rfl
  clear hK K
  (try simp only [Act.put])
  generalize (W5.setCell ⟨rb, 0, none⟩ (.slice a' (T.length + 1) cap')) = W6 at *
  clear E2 E3 E4 E5 fz e1 o5
  refine wpAnyH_done (by kernel_rfl) ?_ _
  have d0 := cell_block (o := 0) F4 rfl
  have d1 := cell_block (o := 0) F3 rfl
  go_wp2_with fail
  refine (sort_any w.heap.size rb cap' base (T.length + 1) a' _ _ W6 (by omega) (by omega) F3 F4 F1).mono ?_
  rintro e W7 ⟨rfl, G1, gg⟩
  have G3 := keep_block gg (not_own F1 F3 (by decide)) F3
  have G2 := F2.kept gg (own_not_map' F1 F2)
  have G5 := F5.grown gg (by have := F5.size; omega) (fun k hk => (F1.lt k hk).1)
  clear F1 F2 F3 F4 F5 gg d0 d1
  go_wp2
  go_ret
  rw [sorted_new hT hg] at G1
  exact ⟨rfl, ⟨_, mb, _, G3, h2, h3, by rw [tput_len hg]; exact G1, G2, h6⟩, G5⟩
 ·go_simp
  refine hK.out _ _ ?_ (fun hHeld => ?_)
  ·exact keep_drew (keep_alloc _ c0)
  clear hK K
  (try simp only [putP])
  have A0 : ((w3.alloc (.cells #[.int .i64 f.n] 3)).drew).cell? ⟨w3.heap.size, 0, none⟩ = some (.int .i64 f.n) := by simp [go_sem]
  have A1 : ((w3.alloc (.cells #[.int .i64 f.n] 3)).drew).ownsRow base 3 1 v T.length (lv (T.map (·.n))) := h4.alloc _
  have A2 : ((w3.alloc (.cells #[.int .i64 f.n] 3)).drew).ownsMap Tryz.prog 3 fE mb (c + 1) (D.put (.int .i64 f.n) (fd f)) := h5.alloc _
  have A3 : ((w3.alloc (.cells #[.int .i64 f.n] 3)).drew).heap[rb]? = some (.cells #[v, .map (some mb)] 252 (0, 0)) := block_alloc _ h1
  have A4 : ((w3.alloc (.cells #[.int .i64 f.n] 3)).drew).heap[w.heap.size]? = some (.cells #[.pointer (some ⟨rb, 0, none⟩)] 230 (0, 0)) := block_alloc _ q0
  have A5 : Below base w ((w3.alloc (.cells #[.int .i64 f.n] 3)).drew) := (B3.alloc (by have := B3.size; omega) _).drew
  generalize ((w3.alloc (.cells #[.int .i64 f.n] 3)).drew) = W4 at *
  clear h1 h4 h5 q0 B3 c0 r0
  refine wpAnyH_ready (rs := [4]) (by kernel_rfl) (by simp) ?_
  refine AllReadyH.cons (o := _) rfl (fun K hK => ?_) AllReadyH.nil
  have r0 := cell_block (o := 0) A3 rfl
  go_simp
  refine hK.out _ _ ?_ (fun hHeld => ?_)
  ·exact cell_block (o := 0) A4 rfl
  clear hK K
  (try simp only [putP])
  clear r0
  refine wpAnyH_ready (rs := [7]) (by kernel_rfl) (by simp) ?_
  refine AllReadyH.cons (o := _) rfl (fun K hK => ?_) AllReadyH.nil
  refine step_app1 (by rfl) _ _ (by rfl) base v T.length (T.map (·.n)) (by rfl) A1 w3.heap.size f.n (by rfl) A0 (by omega) (by have := A5.size; omega) ?_
  intro a' cap' W5 o5 g5
  have E3 := keep_block g5 (not_own A1 A3 (by decide)) A3
  have E4 := keep_block g5 (not_own A1 A4 (by decide)) A4
  have E2 := A2.kept g5 (own_not_map' A1 A2)
  have E5 := A5.grown g5 (by have := A5.size; omega) (fun k hk => (A1.lt k hk).1)
  refine hK.out _ _ ?_ (fun hHeld => ?_)
  ·exact cell_block (o := 0) E4 rfl
  clear hK K
  (try simp only [putP])
  clear A0 A1 A2 A3 A4 A5 g5
  refine tlT (i := 8) (ha := rfl) rfl ?_; refine tlT (i := 9) (ha := rfl) rfl ?_; (try simp only [putP])
  have fz : W5.frozen? ⟨rb, 0, none⟩ = false := by simp [World.frozen?, E3]
  have e1 := cell_block (o := 0) E3 rfl
  refine wpAnyH_ready (rs := [10]) (by kernel_rfl) (by simp) ?_
  refine AllReadyH.cons (o := _) rfl (fun K hK => ?_) AllReadyH.nil
  go_simp
  have F3 := block_set (v' := .slice a' (T.length + 1) cap') E3
  have F4 := (heap_setCell_other W5 ⟨rb, 0, none⟩ w.heap.size (.slice a' (T.length + 1) cap') (fun e => by rw [e, E3] at E4; simp at E4)).trans E4
  have F2 := E2.setCell (a := ⟨rb, 0, none⟩) (fun e => block_ne E2 E3 (by rw [e])) (.slice a' (T.length + 1) cap')
  have F1 := o5.kept (grown_set W5 rb 0 (.slice a' (T.length + 1) cap')) (.inr (fun e => not_own o5 E3 (by decide) e.symm))
  have F5 := E5.setCell (p := ⟨rb, 0, none⟩) h2 (.slice a' (T.length + 1) cap')
  refine hK.out _ _ ?_ (fun hHeld => ?_)
  ·exact cell_block (o := 0) F4 rfl
  clear hK K
  (try simp only [Act.put])
  generalize (W5.setCell ⟨rb, 0, none⟩ (.slice a' (T.length + 1) cap')) = W6 at *
  clear E2 E3 E4 E5 fz e1 o5
  refine wpAnyH_done (by kernel_rfl) ?_ _
  have d0 := cell_block (o := 0) F4 rfl
  have d1 := cell_block (o := 0) F3 rfl
  go_wp2_with fail
  refine (sort_any w.heap.size rb cap' base (T.length + 1) a' _ _ W6 (by omega) (by omega) F3 F4 F1).mono ?_
  rintro e W7 ⟨rfl, G1, gg⟩
  have G3 := keep_block gg (not_own F1 F3 (by decide)) F3
  have G2 := F2.kept gg (own_not_map' F1 F2)
  have G5 := F5.grown gg (by have := F5.size; omega) (fun k hk => (F1.lt k hk).1)
  clear F1 F2 F3 F4 F5 gg d0 d1
  go_wp2
  go_ret
  rw [sorted_new hT hg] at G1
  exact ⟨rfl, ⟨_, mb, _, G3, h2, h3, by rw [tput_len hg]; exact G1, G2, h6⟩, G5⟩
theorem put_any (base rb c : Nat) (T : List It) (f : It) (w : World) (hR : Reg w base rb c T) (hT : Asc T) (hok : ∀ g ∈ T, fok g = true) (hf : fok f = true) (hb : base ≤ w.heap.size) (hc : c < 1000000) :
  Calls Tryz.prog 239 #[.pointer (some ⟨rb, 0, none⟩), fval f] w fun e w' => e = .returned (.bool (tnew T f)) ∧ Reg w' base rb (c + 1) (tput T f) ∧ Below base w w' := by
 cases hg : tget T f.n with
 | none =>
  have hl : T.length ≤ 8 := by
   rcases asc_short T 0 hT (fun g hg => by have := hok g hg; unfold fok fokB inb at this; simp at this; omega) with h | h
   ·omega
   ·simp [h]
  have e : tnew T f = true := by unfold tnew; rw [hg]
  rw [e]
  exact put_new base rb c T f hT hg hl w hR hf hb hc
 | some g =>
  have e : tnew T f = ovr f g := by unfold tnew; rw [hg]
  rw [e]
  cases ho : ovr f g with
  | false =>
   rw [tput_no hT hg ho]
   exact put_no base rb c T f g hg (hok g (tget_mem hg).1) ho w hR hf hb hc
  | true => exact put_yes base rb c T f g hT hg (hok g (tget_mem hg).1) ho w hR hf hb hc
end Go.Proofs.YtgcdcfjaeehnbaaGreat.I
