/- Leaving: the model's l21Leave. -/
import Derived.Test.YtgcdcfjaeehnbaaGreatLv8
namespace Go.Proofs.YtgcdcfjaeehnbaaGreat
open Go.ChangeShapes Go.WideShapes Go.ChangeAt Go.RowKit
attribute [local go_sem ↓] Go.wp_at_zero Go.wp_at_succ
set_option maxRecDepth 20000
set_option maxHeartbeats 8000000
theorem BoxT.cells {b : Nat} {t : TypeId} : ∀ {w : World} (_ : BoxT w b t) (vs : List Value) (o : Nat), BoxT (w.setCells b o vs) b t
 | _, h, [], _ => h
 | _, h, _ :: vs, o => BoxT.cells (BoxT.set h) vs (o + 1)
theorem mST2 {Q : Exit → Act → World → Prop} {R : World → Act → World → Prop} {S : Nat → Prop} {w0 w : World} {g : Option (Nat × Bool)} {rs : List Stp} {a : Act} {b : Nat} {xs zs : List Value} {x y : Operand} (hR : Ws w b zs) (hz : zs.length = 21) (hx : xs.length = 21) (h1 : ∀ u ∈ xs, u.oneCell' = true) (hS : S b) (hb : Mw S w0 w) (h : ∀ w', Ws w' b xs → Mw (fun y => y = b) w w' → Mw S w0 w' → (∀ t, BoxT w b t → BoxT w' b t) → wpM Tryz.prog Q R S w0 rs a w') (e1 : a.eval x = .pointer (some ⟨b, 0, none⟩) := by rfl) (e2 : a.eval y = .agg xs.toArray := by rfl) (hw : wantG g a.tmps = true := by kernel_rfl) : wpM Tryz.prog Q R S w0 (⟨none, .store 42 x y, 0, g, 1⟩ :: rs) a w := by
 refine mC (fun K hK => ?_) hw
 refine wp_store_mid 42 _ _ rfl b 0 xs.toArray e1 e2 (hR.there (by rw [hz]; simp [hx])) (by rw [size43]; simp [hx]) (by simpa [Array.all_eq_true_iff_forall_mem] using h1) ?_
 have m : Mw (fun y => y = b) w (w.setCells b 0 xs.toArray.toList) := Mw.cells _
 have m2 : Mw S w0 (w.setCells b 0 xs.toArray.toList) := hb.trans (m.mono fun k e => by subst e; exact hS)
 exact hK.out _ _ m2 (.inl (h _ (hR.cells xs (by rw [hx, hz])) m m2 (fun t q => q.cells xs.toArray.toList 0)))
theorem box2T {w u : World} {c c' : Array Value} {t t' : TypeId} (h : (w.alloc (.cells c t)).alloc (.cells c' t') = u) : BoxT u w.heap.size t ∧ BoxT u (w.heap.size + 1) t' := by
 have s : (w.alloc (.cells c t)).heap.size = w.heap.size + 1 := by simp
 subst h
 exact ⟨(box1T (w := w) rfl).below (balloc _ (Below.refl _ _)), by rw [← s]; exact box1T rfl⟩
theorem WdO.snoc {w : World} {base : Nat} {ws : List Wo} {vw : Value} {sW : Nat → Value} {x : Wo} {vf : Value} {av : Option Addr} {cv : Nat} (h : WdO w base ws vw sW) (hl : ws.length < 1048576) (hfn : x.fs.length ≤ 1048576) {w2 : World} (m : Mw (fun y => vw.ownBlock = some y) w w2) (row : w2.ownsRow base 88 11 (.slice av (ws.length + 1) cv) (ws.length + 1) (rv (wR (ws ++ [x]) (fun j => if j < ws.length then sW j else vf)) ((ws.length + 1) * 11)))
  (hf : w.ownsRow base 96 4 vf x.fs.length (rv (fv (tF x.fs)) (x.fs.length * 4))) (hap : ∀ y, vf.ownBlock = some y → ¬ bkW vw ws.length sW y) : WdO w2 base (ws ++ [x]) (.slice av (ws.length + 1) cv) (fun j => if j < ws.length then sW j else vf) := by
 have hn2 : ∀ j, j < ws.length → w2.ownsRow base 96 4 (sW j) (wN ws j) (wX ws j) := fun j hj => own_mw (h.o.nest j hj) m (own_apart (h.o.nest j hj) h.o.row (by decide))
 have hf2 := own_mw hf m (own_apart hf h.o.row (by decide))
 have ll : (ws ++ [x]).length = ws.length + 1 := by simp
 refine ⟨⟨by rw [ll]; exact row, fun j hj => wR_at _ _ j 10 _ rfl, fun j hj => ?_, fun i j hi hj hij => ?_⟩, by rw [ll]; omega, fun j hj => ?_⟩
 ·rw [ll] at hj
  by_cases e : j < ws.length
  ·(try dsimp only)
   rw [if_pos e]
   have := hn2 j e
   unfold wN wX at this ⊢
   unfold wN at this ⊢
   rw [snoc_old ws x j e]
   exact this
  ·have e2 : j = ws.length := by omega
   subst e2
   (try dsimp only)
   rw [if_neg e]
   unfold wX wN
   rw [snoc_new]
   exact hf2
 ·rw [ll] at hi hj
  (try dsimp only)
  by_cases e : i < ws.length
  ·rw [if_pos e]
   by_cases e2 : j < ws.length
   ·rw [if_pos e2]
    exact h.o.apart i j e e2 hij
   ·rw [if_neg e2]
    intro y q1 q2
    exact hap y q2 (.inr ⟨i, e, q1⟩)
  ·rw [if_neg e]
   by_cases e2 : j < ws.length
   ·rw [if_pos e2]
    intro y q1 q2
    exact hap y q1 (.inr ⟨j, e2, q2⟩)
   ·omega
 ·rw [ll] at hj
  unfold wN
  by_cases e : j < ws.length
  ·rw [snoc_old ws x j e]
   exact h.hn j e
  ·have e2 : j = ws.length := by omega
   subst e2
   rw [snoc_new]
   exact hfn
def LvR (w w' : World) (r : Ending) (base : Nat) (m : Nod) (ws : List Wo) (v4 v5 : Value) (sD sP sO : Nat → Value) : Prop := ∃ u1 u2 u3 vw sW, r = .returned (.tuple #[.agg (ndC m u1 u2 u3 v4 v5).toArray, vw]) ∧ NdO w' base m u1 u2 u3 v4 v5 sD sP sO ∧ WdO w' w.heap.size ws vw sW ∧ Below w.heap.size w w'
theorem NdO.nrow {w : World} {base b m : Nat} {n : Nod} {v1 v2 v3 v4 v5 vw : Value} {sD sP sO : Nat → Value} {xs : List Value} (h : NdO w base n v1 v2 v3 v4 v5 sD sP sO) (o : w.ownsRow b 88 11 vw m xs) : ∀ x, bkN n v1 v2 v3 v4 v5 sD sP sO x → ¬ vw.ownBlock = some x := by
 rintro x (e | e | (e | ⟨i, hi, e⟩) | (e | ⟨i, hi, e⟩) | (e | ⟨i, hi, e⟩))
 ·exact own_apart h.t o (by decide) x e
 ·exact own_apart h.c o (by decide) x e
 ·exact own_apart h.d.row o (by decide) x e
 ·exact own_apart (h.d.nest i hi) o (by decide) x e
 ·exact own_apart h.p.row o (by decide) x e
 ·exact own_apart (h.p.nest i hi) o (by decide) x e
 ·exact own_apart h.o.row o (by decide) x e
 ·exact own_apart (h.o.nest i hi) o (by decide) x e
theorem NdO.nbox {w : World} {base b : Nat} {n : Nod} {v1 v2 v3 v4 v5 : Value} {sD sP sO : Nat → Value} (h : NdO w base n v1 v2 v3 v4 v5 sD sP sO) (o : BoxT w b 42) : ∀ x, bkN n v1 v2 v3 v4 v5 sD sP sO x → x ≠ b := by
 rintro x (e | e | (e | ⟨i, hi, e⟩) | (e | ⟨i, hi, e⟩) | (e | ⟨i, hi, e⟩))
 ·exact own_boxT h.t o (by decide) x e
 ·exact own_boxT h.c o (by decide) x e
 ·exact own_boxT h.d.row o (by decide) x e
 ·exact own_boxT (h.d.nest i hi) o (by decide) x e
 ·exact own_boxT h.p.row o (by decide) x e
 ·exact own_boxT (h.p.nest i hi) o (by decide) x e
 ·exact own_boxT h.o.row o (by decide) x e
 ·exact own_boxT (h.o.nest i hi) o (by decide) x e
theorem WdO.nbox {w : World} {base b : Nat} {ws : List Wo} {vw : Value} {sW : Nat → Value} (h : WdO w base ws vw sW) (o : BoxT w b 42) : ∀ x, bkW vw ws.length sW x → x ≠ b := by
 rintro x (q | ⟨j, hj, q⟩)
 ·exact own_boxT h.o.row o (by decide) x q
 ·exact own_boxT (h.o.nest j hj) o (by decide) x q
theorem woC_get (x : Wo) (v : Value) (j : Nat) (hj : j < 1 * 11) : (woC x v)[j]? = some ((woC x v).getD j undef) := by
 rw [List.getD_eq_getElem?_getD, List.getElem?_eq_getElem (by exact hj)]
 rfl
theorem NdO.gone {w : World} {base : Nat} {n : Nod} {v1 v2 v3 v4 v5 : Value} {sD sP sO : Nat → Value} (h : NdO w base (lvS n) v1 v2 v3 v4 v5 sD sP sO) : NdO w base (lvN n) v1 v2 v3 v4 v5 sD sP sO := ⟨h.t, h.c, h.d, h.p, h.o, h.dp, h.tO, h.ht, h.hc, h.hd, h.hp, h.ho, h.hdn, h.hpn, h.hon⟩
def s64_3 : List Stp := [⟨some 14, .load 42 (.tmp 1), 42, none, 0⟩, ⟨some 15, .move (.tmp 4), 43, none, 0⟩, ⟨none, .store 42 (.tmp 2) (.tmp 14), 0, none, 1⟩, ⟨some 3, .assign (.tmp 15), 43, none, 0⟩]
def t64_3 : List (Nat × Nat) := [(0, 0), (1, 0), (2, 1), (3, 0)]
def s64_4 : List Stp := [⟨some 16, .load 42 (.tmp 1), 42, none, 1⟩, ⟨some 17, .fieldAddr 42 (.tmp 1) 0, 0, none, 0⟩, ⟨some 18, .load 3 (.tmp 17), 3, none, 1⟩, ⟨some 19, .fieldAddr 42 (.tmp 1) 4, 0, none, 0⟩, ⟨some 20, .load 3 (.tmp 19), 3, none, 1⟩, ⟨some 21, .fieldAddr 42 (.tmp 1) 3, 0, none, 0⟩, ⟨some 22, .load 4 (.tmp 21), 4, none, 1⟩, ⟨some 23, .build 96 #[(0, .tmp 18), (1, .tmp 20), (2, .const (.int .i64 4)), (3, .tmp 22)], 96, none, 0⟩, ⟨some 24, .fieldAddr 42 (.tmp 1) 0, 0, none, 0⟩, ⟨some 25, .load 3 (.tmp 24), 3, none, 1⟩, ⟨some 26, .call { callee := .value (.func 124), args := #[.tmp 16, .tmp 23, .tmp 25], argTypes := #[42, 96, 3] }, 42, none, 1⟩, ⟨none, .store 42 (.tmp 1) (.tmp 26), 0, none, 1⟩]
def t64_4 : List (Nat × Nat) := [(0, 1), (1, 0), (2, 1), (3, 0), (4, 1), (5, 0), (6, 1), (7, 0), (8, 0), (9, 1), (10, 1), (11, 1)]
def s64_9 : List Stp := [⟨some 35, .fieldAddr 42 (.tmp 1) 8, 0, none, 0⟩, ⟨some 36, .load 34 (.tmp 35), 34, none, 0⟩, ⟨some 37, .move (.tmp 5), 3, none, 0⟩, ⟨some 38, .indexAddr 34 (.tmp 36) (.tmp 37), 0, none, 0⟩, ⟨some 39, .fieldAddr 96 (.tmp 38) 0, 0, none, 0⟩, ⟨some 40, .load 3 (.tmp 39), 3, none, 0⟩, ⟨some 41, .fieldAddr 42 (.tmp 1) 0, 0, none, 0⟩, ⟨some 42, .load 3 (.tmp 41), 3, none, 0⟩, ⟨some 43, .binOp .neq 3 (.tmp 40) (.tmp 42) 3, 4, none, 2⟩, ⟨some 44, .move (.tmp 43), 4, none, 0⟩, ⟨some 45, .fieldAddr 42 (.tmp 1) 8, 0, some (44, true), 0⟩, ⟨some 46, .load 34 (.tmp 45), 34, some (44, true), 0⟩, ⟨some 47, .fieldAddr 42 (.tmp 1) 8, 0, some (44, true), 0⟩, ⟨some 48, .load 34 (.tmp 47), 34, some (44, true), 0⟩, ⟨some 49, .move (.tmp 5), 3, some (44, true), 0⟩, ⟨some 50, .indexAddr 34 (.tmp 48) (.tmp 49), 0, some (44, true), 0⟩, ⟨some 51, .fieldAddr 96 (.tmp 50) 0, 0, some (44, true), 0⟩, ⟨some 52, .load 3 (.tmp 51), 3, some (44, true), 0⟩, ⟨some 53, .call { callee := .value (.func 125), args := #[.tmp 46, .tmp 52], argTypes := #[34, 3] }, 4, some (44, true), 1⟩, ⟨some 54, .pick (.tmp 44) (.tmp 53) (.const (.bool false)), 4, none, 0⟩]
def t64_9 : List (Nat × Nat) := [(0, 0), (1, 0), (2, 0), (3, 0), (4, 0), (5, 0), (6, 0), (7, 0), (8, 2), (9, 0), (10, 0), (11, 0), (12, 0), (13, 0), (14, 0), (15, 0), (16, 0), (17, 0), (18, 1), (19, 0)]
def s64_10 : List Stp := [⟨some 55, .move (.tmp 4), 43, none, 0⟩, ⟨some 56, .load 42 (.tmp 1), 42, none, 0⟩, ⟨some 57, .fieldAddr 42 (.tmp 1) 8, 0, none, 0⟩, ⟨some 58, .load 34 (.tmp 57), 34, none, 0⟩, ⟨some 59, .move (.tmp 5), 3, none, 0⟩, ⟨some 60, .indexAddr 34 (.tmp 58) (.tmp 59), 0, none, 0⟩, ⟨some 61, .fieldAddr 96 (.tmp 60) 0, 0, none, 0⟩, ⟨some 62, .load 3 (.tmp 61), 3, none, 0⟩, ⟨some 63, .fieldAddr 42 (.tmp 1) 0, 0, none, 0⟩, ⟨some 64, .load 3 (.tmp 63), 3, none, 0⟩, ⟨some 65, .fieldAddr 42 (.tmp 1) 8, 0, none, 0⟩, ⟨some 66, .load 34 (.tmp 65), 34, none, 0⟩, ⟨some 67, .call { callee := .value (.func 126), args := #[.tmp 56, .const (.int .i64 5), .tmp 62, .const (.int .i64 0), .tmp 64, .tmp 66], argTypes := #[42, 3, 3, 3, 3, 34] }, 88, none, 1⟩, ⟨some 68, .buildSlice 43 1 #[(0, .tmp 67)], 43, none, 1⟩, ⟨some 69, .call { callee := .builtin .append, args := #[.tmp 55, .tmp 68], argTypes := #[43, 43] }, 43, none, 1⟩, ⟨some 4, .assign (.tmp 69), 43, none, 0⟩]
def t64_10 : List (Nat × Nat) := [(0, 0), (1, 0), (2, 0), (3, 0), (4, 0), (5, 0), (6, 0), (7, 0), (8, 0), (9, 0), (10, 0), (11, 0), (12, 1), (13, 1), (14, 1), (15, 0)]
def s64_11 : List Stp := [⟨some 70, .load 42 (.tmp 1), 42, none, 0⟩, ⟨some 71, .move (.tmp 4), 43, none, 0⟩, ⟨none, .store 42 (.tmp 2) (.tmp 70), 0, none, 1⟩, ⟨some 3, .assign (.tmp 71), 43, none, 0⟩]
def t64_11 : List (Nat × Nat) := [(0, 0), (1, 0), (2, 1), (3, 0)]
theorem sleave_any (base : Nat) (n : Nod) (v1 v2 v3 v4 v5 : Value) (sD sP sO : Nat → Value) (w : World) (hN : NdO w base n v1 v2 v3 v4 v5 sD sP sO) (hb : base ≤ w.heap.size) (hok : (n.up && !n.gone) = true → LvOk n) :
  Calls Tryz.prog 64 #[.agg (ndC n v1 v2 v3 v4 v5).toArray] w fun r w' => LvR w w' r base (if n.up && !n.gone then lvN n else n) (if n.up && !n.gone then lvW (lvN n) (lvL n.me (lvN n).T) else []) v4 v5 sD sP sO := by
 obtain ⟨m0, hm0⟩ : ∃ m, Hid ((if n.up && !n.gone then lvN n else n) = m) := ⟨_, rfl⟩
 obtain ⟨ws0, hws0⟩ : ∃ m, Hid ((if n.up && !n.gone then lvW (lvN n) (lvL n.me (lvN n).T) else []) = m) := ⟨_, rfl⟩
 rw [hm0.out, hws0.out]
 obtain ⟨xs, hxs⟩ : ∃ l, Hid (ndC n v1 v2 v3 v4 v5 = l) := ⟨_, rfl⟩
 rw [hxs.out]
 go_enter Tryz.func64, Tryz.ntmps64
 go_upto_region 1 with fail
 generalize hu : (w.alloc (.cells _ _)).alloc (.cells _ _) = u
 obtain ⟨X, R, b0, hs⟩ := box2 hu
 obtain ⟨ty, tyR⟩ := box2T hu
 clear hu
 obtain ⟨KX, hKX⟩ : ∃ K, Hid (w.heap.size = K) := ⟨_, rfl⟩
 have g0 : w.heap.size ≤ KX := Nat.le_of_eq hKX.out
 rw [hKX.out] at X R ty tyR ⊢
 obtain ⟨zs, hz21, R⟩ : ∃ zs, zs.length = 21 ∧ Ws u (KX + 1) zs := ⟨_, rfl, R⟩
 replace X : Ws u KX (ndC n v1 v2 v3 v4 v5) := by rw [hxs.out]; simpa using X
 clear hs
 have hW : WdO (u.alloc (.cells #[] 88)) w.heap.size [] (.slice (some ⟨u.heap.size, 0, none⟩) 0 0) (fun _ => .slice none 0 0) := WdO.made b0.size
 have kA := balloc (.cells #[] 88) (Below.refl u.heap.size u)
 go_upto_region 2 with fail
 replace X := X.below kA
 replace R := R.below kA
 replace ty := ty.below kA
 replace tyR := tyR.below kA
 replace b0 := btrans b0 kA
 clear kA hKX
 generalize u.alloc (.cells #[] 88) = w1 at *
 generalize u.heap.size = KW at *
 have d1 : w1.cell? ⟨KX, 1, none⟩ = some (.bool n.up) := X.c 1 _ rfl
 have d2 : w1.cell? ⟨KX, 2, none⟩ = some (.bool n.gone) := X.c 2 _ rfl
 have hsplit : (n.up && !n.gone) = false ∨ n.up = true ∧ n.gone = false := by cases n.up <;> cases n.gone <;> simp
 rcases hsplit with ha | ⟨hup, hgo⟩
 ·have e1 : Hid (m0 = n) := by rw [Hid, ← hm0.out, ha]; rfl
  have e2 : Hid (ws0 = []) := by rw [Hid, ← hws0.out, ha]; rfl
  clear hm0 hws0 hok
  obtain ⟨up, hup⟩ : ∃ b, Hid (n.up = b) := ⟨_, rfl⟩
  obtain ⟨gone, hgo⟩ : ∃ b, Hid (n.gone = b) := ⟨_, rfl⟩
  rw [hup.out, hgo.out] at ha
  rw [hup.out] at d1
  rw [hgo.out] at d2
  have hup' : up = false ∨ up = true ∧ gone = true := by cases up <;> cases gone <;> simp_all
  rcases hup' with rfl | ⟨rfl, rfl⟩
  all_goals
   go_upto_region 3 with fail
   clear d1 d2 ha hup hgo
   refine wp_region_w0 (fun x => x = KX + 1) s64_3 t64_3 (fun hbq => ?_)
   refine mR (xs := ndC n v1 v2 v3 v4 v5) (hr := X.range) (hS := show ¬ KX = KX + 1 by omega) ?_
   refine mY ?_
   refine mST (xs := ndC n v1 v2 v3 v4 v5) R hz21 rfl hN.one rfl hbq (fun W R m hbq => ?_)
   refine mY ?_
   refine mE ?_
   have b9 := m.below b0 (fun i e => by omega)
   have hr := read_nd R rfl
   have fin : LvR w W (.returned (.tuple #[.agg (ndC n v1 v2 v3 v4 v5).toArray, .slice (some ⟨KW, 0, none⟩) 0 0])) base m0 ws0 v4 v5 sD sP sO := by
    rw [e1.out, e2.out]
    exact ⟨_, _, _, _, _, rfl, hN.below b9, hW.mw m (fun x e q => by subst q; rcases e with e | ⟨j, hj, _⟩; exact own_boxT hW.o.row tyR (by decide) _ e rfl; exact absurd hj (Nat.not_lt_zero j)), b9⟩
   clear R b0 m hbq hW hN X ty tyR
   go_wp2
   try simp only [Exit.inBlock, Exit.then]
   refine bodyPost_ret (v := .tuple #[.agg (ndC n v1 v2 v3 v4 v5).toArray, .slice (some ⟨KW, 0, none⟩) 0 0]) ?_ rfl fin
   simp only [results, Tryz.results64]
   simp [asAddr, hr]
 ·have ha : (n.up && !n.gone) = true := by rw [hup, hgo]; rfl
  have ok := hok ha
  have e1 : Hid (m0 = lvN n) := by rw [Hid, ← hm0.out, ha]; rfl
  have e2 : Hid (ws0 = lvW (lvN n) (lvL n.me (lvN n).T)) := by rw [Hid, ← hws0.out, ha]; rfl
  have hasc : Asc (lvN n).T := tput_asc ok.asc
  have hl9 : (lvN n).T.length ≤ 9 := ok.len
  rw [hup] at d1
  rw [hgo] at d2
  clear hm0 hws0 hok ha hup hgo
  go_upto_region 4 with fail
  clear d1 d2
  refine wp_region_w0 (fun x => x = KX) s64_4 t64_4 (fun hbq => ?_)
  refine mLD (xs := ndC n v1 v2 v3 v4 v5) X.range rfl hbq ?_
  refine mY ?_
  refine mC (fun K2 hK2 => ?_)
  have y_ := X.c 0 (.int .i64 n.me) rfl
  go_simp
  refine hK2.out _ _ hbq (.inl ?_)
  clear hK2 K2 y_
  try simp only [putQ]
  refine mY ?_
  refine mC (fun K2 hK2 => ?_)
  have y_ := X.c 4 (.int .i64 n.inc) rfl
  go_simp
  refine hK2.out _ _ hbq (.inl ?_)
  clear hK2 K2 y_
  try simp only [putQ]
  refine mY ?_
  refine mC (fun K2 hK2 => ?_)
  have y_ := X.c 3 (.bool n.gate) rfl
  go_simp
  refine hK2.out _ _ hbq (.inl ?_)
  clear hK2 K2 y_
  try simp only [putQ]
  iterate 2 refine mY ?_
  refine mC (fun K2 hK2 => ?_)
  have y_ := X.c 0 (.int .i64 n.me) rfl
  go_simp
  refine hK2.out _ _ hbq (.inl ?_)
  clear hK2 K2 y_
  try simp only [putQ]
  refine mX (ssay_any base n v1 v2 v3 v4 v5 sD sP sO n.me _ (hN.below b0) (Nat.le_trans hb b0.size) ok) hbq ?_
  rintro r w2 ⟨u1, u2, u3, rfl, hM, k1⟩
  replace X := X.below k1
  replace R := R.below k1
  replace ty := ty.below k1
  replace tyR := tyR.below k1
  replace b0 := btrans b0 k1
  replace hW := hW.below k1
  refine ⟨_, rfl, Mw.of_below k1, fun hbq => ?_⟩
  simp only [putQ]
  refine mST2 (xs := ndC (lvS n) u1 u2 u3 v4 v5) X rfl rfl hM.one rfl hbq (fun W X m hbq tyW => ?_)
  refine mE ?_
  replace hW := hW.mw m (fun x e q => by subst q; rcases e with e | ⟨j, hj, _⟩; exact own_boxT hW.o.row ty (by decide) _ e rfl; exact absurd hj (Nat.not_lt_zero j))
  replace hM := hM.mw m (fun x e q => by subst q; exact hM.nbox ty _ e rfl)
  replace R := R.mw m (show ¬ KX + 1 = KX by omega)
  replace b0 := m.below b0 (fun i e => by omega)
  replace tyR := tyR.mw m (show ¬ KX + 1 = KX by omega)
  replace ty := tyW _ ty
  clear tyW
  clear hN hbq k1 m ok
  have y2 := X.c 2 (.bool n.gone) rfl
  have z2 := X.z 2
  go_upto_region 6 with fail
  have m_ : Mw (fun y => y = KX) W (W.setCell ⟨KX, 2, none⟩ (.bool true)) := (Mw.refl _ _).set rfl
  replace X : Ws (W.setCell ⟨KX, 2, none⟩ (.bool true)) KX (ndC (lvN n) u1 u2 u3 v4 v5) := X.set 2 (by simp [ndC]) (.bool true)
  replace hW := hW.mw m_ (hW.nbox ty)
  replace hM := (hM.mw m_ (hM.nbox ty)).gone
  replace R := R.mw m_ (show ¬ KX + 1 = KX by omega)
  replace b0 := m_.below b0 (fun i e => by omega)
  replace tyR := tyR.mw m_ (show ¬ KX + 1 = KX by omega)
  replace ty := ty.set (o := 2) (v := .bool true)
  clear m_ y2 z2
  generalize W.setCell ⟨KX, 2, none⟩ (.bool true) = w3 at *
  obtain ⟨tl, htl⟩ : ∃ x, Hid ((lvN n).T.length = x) := ⟨_, rfl⟩
  obtain ⟨gT, cT, rfl⟩ : ∃ g c, u1 = .slice (some ⟨g, 0, none⟩) tl c := by
   rcases own_cases hM.t with ⟨_, e⟩ | ⟨g, c, e, _⟩
   ·exact absurd e (tput_ne _ _)
   ·exact ⟨g, c, by rw [← htl.out]; exact e⟩
  obtain ⟨F, hF⟩ : ∃ x, Hid (tF (lvN n).T = x) := ⟨_, rfl⟩
  have hfs : ∀ wr, NdO wr base (lvN n) (.slice (some ⟨gT, 0, none⟩) tl cT) u2 u3 v4 v5 sD sP sO → ∀ k, k < tl → wr.cell? ⟨gT, k * 4, none⟩ = some (.int .i64 (F k).n) ∧ wr.cell? ⟨gT, k * 4 + 2, none⟩ = some (.int .i64 (F k).s) := fun wr h k hk => by
   have q := own_fsl h.t
   rw [htl.out, hF.out] at q
   obtain ⟨b, off, e, _, hf⟩ := q (by omega)
   obtain ⟨rfl, rfl⟩ : gT = b ∧ 0 = off := by simpa [aOf] using e
   obtain ⟨q0, _, q2, _⟩ := hf k hk
   exact ⟨by simpa using q0, by simpa using q2⟩
  rw [htl.out] at hl9
  have hlv : ∀ wr, NdO wr base (lvN n) (.slice (some ⟨gT, 0, none⟩) tl cT) u2 u3 v4 v5 sD sP sO → ∀ k b, k < tl → mayB (F k).s = b → Calls Tryz.prog 125 #[.slice (some ⟨gT, 0, none⟩) tl cT, .int .i64 (F k).n] wr fun r w' => r = .returned (.bool b) ∧ Below wr.heap.size wr w' := fun wr h k b hk e => by
   have q := own_fsl h.t
   have q2 := fnd_asc hasc (j := k) (by rw [htl.out]; exact hk)
   rw [htl.out, hF.out] at q
   rw [htl.out, hF.out] at q2
   have e2 : (lvN n).T.getD k Fc.zero = F k := by rw [← hF.out]; rfl
   rw [e2] at q2
   exact slives_at _ tl cT F _ k b wr q (by omega) q2 e
  have hsw : ∀ wr t, NdO wr base (lvN n) (.slice (some ⟨gT, 0, none⟩) tl cT) u2 u3 v4 v5 sD sP sO → Calls Tryz.prog 126 #[.agg (ndC (lvN n) (.slice (some ⟨gT, 0, none⟩) tl cT) u2 u3 v4 v5).toArray, .int .i64 5, .int .i64 t, .int .i64 0, .int .i64 n.me, .slice (some ⟨gT, 0, none⟩) tl cT] wr fun r w' => FwR wr w' r (wordD (lvN n) 5 t (lvN n).T) := fun wr t h => by
   rw [h.valC]
   exact sword_any (lvN n) _ 5 t 0 n.me _ (lvN n).T wr (own_src h.t) h.ht
  have hL : Hid (lvL n.me (lvN n).T = lvK n.me F tl) := by rw [Hid, ← hF.out, ← htl.out]; rfl
  rw [hL.out] at e2
  obtain ⟨me, hme⟩ : ∃ x, Hid (n.me = x) := ⟨_, rfl⟩
  have hmc : ∀ wr, Ws wr KX (ndC (lvN n) (.slice (some ⟨gT, 0, none⟩) tl cT) u2 u3 v4 v5) → wr.cell? ⟨KX, 0, none⟩ = some (.int .i64 me) := fun wr h => by rw [← hme.out]; exact h.c 0 _ rfl
  rw [hme.out] at e2 hsw
  clear hasc htl hF hL
  obtain ⟨ti, hi, hz0, hz1, hz2⟩ := info_parts infW
  go_wp2_with fail
  go_loopw [4, 5] (fun v i wr => ∃ (k : Nat) (sW : Nat → Value), k ≤ tl ∧ i = .int .i64 k ∧ WdO wr w.heap.size (lvW (lvN n) (lvK me F k)) v sW ∧ NdO wr base (lvN n) (.slice (some ⟨gT, 0, none⟩) tl cT) u2 u3 v4 v5 sD sP sO ∧ Ws wr KX (ndC (lvN n) (.slice (some ⟨gT, 0, none⟩) tl cT) u2 u3 v4 v5) ∧ BoxT wr KX 42 ∧ Ws wr (KX + 1) zs ∧ BoxT wr (KX + 1) 42 ∧ Below w.heap.size w wr) (fun _ i _ => tl - (intOf i).toNat)
  case atStart => exact ⟨0, _, by omega, rfl, hW, hM, X, ty, R, tyR, b0⟩
  case round =>
   clear hW hM X ty R tyR b0
   obtain ⟨k, sW, hk, rfl, hW, hM, X, ty, R, tyR, b0⟩ := hrel
   have hle := lvK_le me F k
   have hnext : Hid (lvK me F (k + 1) = if (decide ((F k).n ≠ me) && mayB (F k).s) = true then lvK me F k ++ [(F k).n] else lvK me F k) := rfl
   obtain ⟨Lk, hLk⟩ : ∃ x, Hid (lvK me F k = x) := ⟨_, rfl⟩
   rw [hLk.out] at hW hle hnext
   obtain ⟨aw, cw, rfl, _⟩ := own_slice hW.o.row
   have d8 : wr.cell? ⟨KX, 8, none⟩ = some (.slice (some ⟨gT, 0, none⟩) tl cT) := X.c 8 _ rfl
   have i0 : (0 : Int) ≤ (k : Int) := by omega
   by_cases hlt : k < tl
   ·have i1 : (k : Int) < (tl : Int) := by omega
    obtain ⟨c0, c2⟩ := hfs _ hM k hlt
    have d0 := hmc _ X
    clear hLk
    have hlk := hlv wr.drew (hM.below (QB1 (Below.refl _ _))) k
    obtain ⟨x0, hx0⟩ : ∃ x, Hid ((F k).n = x) := ⟨_, rfl⟩
    obtain ⟨s0, hs0⟩ : ∃ x, Hid ((F k).s = x) := ⟨_, rfl⟩
    rw [hx0.out] at c0 hnext hlk
    rw [hs0.out] at c2 hnext hlk
    clear hx0 hs0
    go_upto_region 9 with fail
    by_cases q1 : x0 = me
    ·subst q1
     have hn2 : Hid (lvK x0 F (k + 1) = Lk) := by rw [Hid, hnext.out]; simp
     clear hnext hlk
     refine wp_region_w (fun _ => False) s64_9 t64_9 (fun hbq => ?_)
     refine mY ?_
     refine mL (hS := id) ?_
     iterate 3 refine mY ?_
     refine mL (hS := id) ?_
     refine mY ?_
     refine mL (hS := id) ?_
     refine mV (.bool false) ?_
     refine mY ?_
     iterate 9 refine mN ?_
     refine mY ?_
     refine mE ?_
     replace X := X.below hbq.no
     replace hW := hW.below hbq.no
     replace hM := hM.below hbq.no
     replace R := R.below hbq.no
     replace ty := ty.below hbq.no
     replace tyR := tyR.below hbq.no
     replace b0 := btrans b0 hbq.no
     clear hbq d0 d8 c0 c2
     go_wp2
     go_roundw
     case rel => exact ⟨k + 1, sW, by omega, by go_num, by rw [hn2.out]; exact hW, hM, X, ty, R, tyR, b0⟩
     case measure => simp [intOf]; omega
    ·cases hs : mayB s0
     ·have hn2 : Hid (lvK me F (k + 1) = Lk) := by rw [Hid, hnext.out, hs]; simp
      have hl := hlk false hlt hs
      clear hnext hlk hs
      refine wp_region_w (fun _ => False) s64_9 t64_9 (fun hbq => ?_)
      refine mY ?_
      refine mL (hS := id) ?_
      iterate 3 refine mY ?_
      refine mL (hS := id) ?_
      refine mY ?_
      refine mL (hS := id) ?_
      refine mV (.bool true) ?_
      iterate 2 refine mY ?_
      refine mL (hS := id) ?_
      refine mY ?_
      refine mL (hS := id) ?_
      iterate 3 refine mY ?_
      refine mL (hS := id) ?_
      refine mK hl hbq (fun w4 hbq => ?_)
      refine mY ?_
      refine mE ?_
      replace X := X.below hbq.no
      replace hW := hW.below hbq.no
      replace hM := hM.below hbq.no
      replace R := R.below hbq.no
      replace ty := ty.below hbq.no
      replace tyR := tyR.below hbq.no
      replace b0 := btrans b0 hbq.no
      clear hbq d0 d8 c0 c2 hl
      go_wp2
      go_roundw
      case rel => exact ⟨k + 1, sW, by omega, by go_num, by rw [hn2.out]; exact hW, hM, X, ty, R, tyR, b0⟩
      case measure => simp [intOf]; omega
     ·have hn2 : Hid (lvK me F (k + 1) = Lk ++ [x0]) := by rw [Hid, hnext.out, hs]; simp [q1]
      have hl := hlk true hlt hs
      clear hnext hlk hs
      refine wp_region_w (fun _ => False) s64_9 t64_9 (fun hbq => ?_)
      refine mY ?_
      refine mL (hS := id) ?_
      iterate 3 refine mY ?_
      refine mL (hS := id) ?_
      refine mY ?_
      refine mL (hS := id) ?_
      refine mV (.bool true) ?_
      iterate 2 refine mY ?_
      refine mL (hS := id) ?_
      refine mY ?_
      refine mL (hS := id) ?_
      iterate 3 refine mY ?_
      refine mL (hS := id) ?_
      refine mK hl hbq (fun w4 hbq => ?_)
      refine mY ?_
      refine mE ?_
      replace c0 := keep_below hbq.no c0
      replace X := X.below hbq.no
      replace hW := hW.below hbq.no
      replace hM := hM.below hbq.no
      replace R := R.below hbq.no
      replace ty := ty.below hbq.no
      replace tyR := tyR.below hbq.no
      replace b0 := btrans b0 hbq.no
      clear hbq d0 d8 c2 hl
      go_upto_region 10 with fail
      have hwl : (lvW (lvN n) Lk).length < 1048576 := by simp only [lvW, List.length_map]; omega
      obtain ⟨ws, hws⟩ : ∃ x, Hid (lvW (lvN n) Lk = x) := ⟨_, rfl⟩
      rw [hws.out] at hW hwl ⊢
      obtain ⟨x, hx⟩ : ∃ x, Hid (wordD (lvN n) 5 x0 (lvN n).T = x) := ⟨_, rfl⟩
      have hsw2 := hsw w4.drew x0 (hM.below (QB1 (Below.refl _ _)))
      have hxf : x.fs.length ≤ 1048576 := by rw [← hx.out]; exact hM.ht
      rw [hx.out] at hsw2
      have hn3 : Hid (lvW (lvN n) (lvK me F (k + 1)) = ws ++ [x]) := by rw [Hid, hn2.out, ← hws.out, ← hx.out]; simp [lvW]
      have hKX : ¬ (Value.slice aw ws.length cw).ownBlock = some KX := fun e => own_boxT hW.o.row ty (by decide) _ e rfl
      have hKR : ¬ (Value.slice aw ws.length cw).ownBlock = some (KX + 1) := fun e => own_boxT hW.o.row tyR (by decide) _ e rfl
      have hgT : ¬ (Value.slice aw ws.length cw).ownBlock = some gT := fun e => own_apart hM.t hW.o.row (by decide) gT rfl e
      have d8 : w4.cell? ⟨KX, 8, none⟩ = some (.slice (some ⟨gT, 0, none⟩) tl cT) := X.c 8 _ rfl
      have d0 := hmc _ X
      have xr := X.range
      replace X := X.below (QB1 (Below.refl w4.heap.size w4))
      replace hW := hW.below (QB1 (Below.refl w4.heap.size w4))
      replace hM := hM.below (QB1 (Below.refl w4.heap.size w4))
      replace R := R.below (QB1 (Below.refl w4.heap.size w4))
      replace ty := ty.below (QB1 (Below.refl w4.heap.size w4))
      replace tyR := tyR.below (QB1 (Below.refl w4.heap.size w4))
      replace b0 := btrans b0 (QB1 (Below.refl w4.heap.size w4))
      clear hn2 hws hx
      refine wp_region_w (fun y => (Value.slice aw ws.length cw).ownBlock = some y) s64_10 t64_10 (fun hbq => ?_)
      refine mY ?_
      refine mR (xs := ndC (lvN n) (.slice (some ⟨gT, 0, none⟩) tl cT) u2 u3 v4 v5) (hr := xr) (hS := hKX) ?_
      refine mY ?_
      refine mL (hS := hKX) ?_
      iterate 3 refine mY ?_
      refine mL (hS := hgT) ?_
      refine mY ?_
      refine mL (hS := hKX) ?_
      refine mY ?_
      refine mL (hS := hKX) ?_
      refine mX (hsw2) hbq ?_
      rintro r w5 ⟨vf, rfl, of, k1⟩
      obtain ⟨af, cf, rfl, _⟩ := own_slice of
      have hap : ∀ y, (Value.slice af x.fs.length cf).ownBlock = some y → ¬ bkW (.slice aw ws.length cw) ws.length sW y := fun y e q => by have q1 := (of.lt y e).1; have q2 := (hW.o.lo y q).2; omega
      replace of := own_mono b0.size of
      replace X := X.below k1
      replace hW := hW.below k1
      replace hM := hM.below k1
      replace R := R.below k1
      replace ty := ty.below k1
      replace tyR := tyR.below k1
      replace b0 := btrans b0 k1
      refine ⟨_, rfl, Mw.of_below k1, fun hbq => ?_⟩
      simp only [putQ]
      refine mBW hbq rfl rfl (fun w6 e6 => ?_)
      have Y : w6.rangeAt w5.heap.size 0 (woC x (.slice af x.fs.length cf)) := by subst e6; exact (Ws.box _ _).range
      have k2 : Below w5.heap.size w5 w6 := by subst e6; exact balloc _ (Below.refl _ _)
      have hlt6 : w5.heap.size < w6.heap.size := by subst e6; simp
      clear e6
      replace hbq := hbq.trans (Mw.of_below k2)
      replace of := own_below of k2
      replace X := X.below k2
      replace hW := hW.below k2
      replace hM := hM.below k2
      replace R := R.below k2
      replace ty := ty.below k2
      replace tyR := tyR.below k2
      replace b0 := btrans b0 k2
      simp only [putQ]
      refine mC (fun K2 hK2 => ?_)
      refine wp_append_src _ _ 43 rfl w.heap.size 88 ti (.agg #[.int .i64 0, .int .i64 0, .int .i64 0, .int .i64 0, .int .i64 0, .int .i64 0, .int .i64 0, .int .i64 0, .int .i64 0, .int .i64 0, .slice none 0 0]) 11 104 Tryz.underlying43 hi hz0 hz1 hz2 rfl (by decide) (.slice aw ws.length cw) ws.length _ rfl hW.o.row _ 1 (fun j => (woC x (.slice af x.fs.length cf)).getD j undef) rfl (.inr ⟨w5.heap.size, 0, 1, rfl, fun _ => hlt6, fun j hj => Y j _ (woC_get _ _ j hj)⟩) (fun j hj => woC_one (v := .slice af x.fs.length cf) rfl _ (List.mem_of_getElem? (woC_get _ _ j hj))) (by unfold maxLen; omega) (by omega) b0.size ?_
      intro v7 w7 own7 gr
      have e11 : rv (fun j => (woC x (.slice af x.fs.length cf)).getD j undef) (1 * 11) = woC x (.slice af x.fs.length cf) := (rv_ext rfl (fun j hj => woC_get _ _ j hj)).symm
      rw [e11, wR_snoc] at own7
      obtain ⟨av, cv, rfl, _⟩ := own_slice own7
      have m7 : Mw (fun y => (Value.slice aw ws.length cw).ownBlock = some y) w6 w7 := Mw.grown gr (fun _ e => e)
      have hW2 := hW.snoc hwl hxf m7 own7 of hap
      replace X := X.mw m7 hKX
      replace hM := hM.mw m7 (hM.nrow hW.o.row)
      replace R := R.mw m7 hKR
      replace ty := ty.mw m7 hKX
      replace tyR := tyR.mw m7 hKR
      replace b0 := m7.below b0 (fun i e => (hW.o.row.lt i e).1)
      refine hK2.out _ _ (hbq.trans m7) (.inl ?_)
      clear hK2 K2 hW gr own7 e11 of hap Y m7
      try simp only [putQ]
      refine mY ?_
      refine mE ?_
      clear hbq d8 d0 xr c0 hKX hKR hgT
      go_wp2
      go_roundw
      case rel => exact ⟨k + 1, _, by omega, by go_num, by rw [hn3.out]; exact hW2, hM, X, ty, R, tyR, b0⟩
      case measure => simp [intOf]; omega
   ·obtain rfl : tl = k := by omega
    rw [hLk.out] at e2
    clear hfs hlv hsw hmc hnext hLk
    go_upto_region 11 with fail
    refine wp_region_w0 (fun x => x = KX + 1) s64_11 t64_11 (fun hbq => ?_)
    refine mR (xs := ndC (lvN n) (.slice (some ⟨gT, 0, none⟩) tl cT) u2 u3 v4 v5) (hr := X.range) (hS := show ¬ KX = KX + 1 by omega) ?_
    refine mY ?_
    refine mST (xs := ndC (lvN n) (.slice (some ⟨gT, 0, none⟩) tl cT) u2 u3 v4 v5) R hz21 rfl hM.one rfl hbq (fun W R m hbq => ?_)
    refine mY ?_
    refine mE ?_
    have b9 := m.below b0 (fun i e => by omega)
    have hr := read_nd R rfl
    have fin : LvR w W (.returned (.tuple #[.agg (ndC (lvN n) (.slice (some ⟨gT, 0, none⟩) tl cT) u2 u3 v4 v5).toArray, .slice aw (lvW (lvN n) Lk).length cw])) base m0 ws0 v4 v5 sD sP sO := by
     rw [e1.out, e2.out]
     exact ⟨_, _, _, _, _, rfl, hM.mw m (hM.nbox tyR), hW.mw m (hW.nbox tyR), b9⟩
    clear R b0 m hbq hW hM X ty tyR d8 e1 e2
    go_wp2
    try simp only [Exit.inBlock, Exit.then]
    refine bodyPost_ret (v := .tuple #[.agg (ndC (lvN n) (.slice (some ⟨gT, 0, none⟩) tl cT) u2 u3 v4 v5).toArray, .slice aw (lvW (lvN n) Lk).length cw]) ?_ rfl fin
    simp only [results, Tryz.results64]
    simp [asAddr, hr]
end Go.Proofs.YtgcdcfjaeehnbaaGreat
