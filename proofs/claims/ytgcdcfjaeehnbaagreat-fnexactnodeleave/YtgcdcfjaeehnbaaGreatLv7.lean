/- Leaving: the model's doubts where nobody is struck. -/
import Derived.Test.YtgcdcfjaeehnbaaGreatLv6
namespace Go.Proofs.YtgcdcfjaeehnbaaGreat
open Go.ChangeShapes Go.WideShapes Go.ChangeAt Go.RowKit
attribute [local go_sem ↓] Go.wp_at_zero Go.wp_at_succ
set_option maxRecDepth 20000
set_option maxHeartbeats 8000000
def DbR (w w' : World) (r : Ending) (D : List Dd) (A : Nat → Option Addr) (C : Nat → Nat) : Prop := ∃ v, r = .returned v ∧ w'.ownsRow w.heap.size 121 4 v D.length (rv (dR D fun j => .slice (A j) (dN D j) (C j)) (D.length * 4)) ∧ Below w.heap.size w w'
theorem dR_snoc (D : List Dd) (sl : Nat → Value) (k : Nat) : rv (dR D sl) (k * 4) ++ [.int .i64 (D.getD k Dd.zero).n, .int .i64 (D.getD k Dd.zero).i, .int .i64 (D.getD k Dd.zero).s, sl k] = rv (dR D sl) ((k + 1) * 4) := by
 rw [Nat.add_mul, Nat.one_mul, rv_add]
 congr 1
 obtain ⟨e0, e1, e2, e3⟩ := dR_at D sl k
 refine rv_ext rfl fun j hj => ?_
 match j, hj with
 | 0, _ => exact congrArg some e0.symm
 | 1, _ => exact congrArg some e1.symm
 | 2, _ => exact congrArg some e2.symm
 | 3, _ => exact congrArg some e3.symm
theorem sdoubt_any (n : Nod) (v1 v2 v4 v5 : Value) (da : Option Addr) (dc : Nat) (dA : Nat → Option Addr) (dC : Nat → Nat) (inc by_ : Int) (gate : Bool) (w : World) (h : DtSl w da n.D.length (dF n.D dA dC)) (hl : n.D.length ≤ 1048576) (hno : ∀ j, j < n.D.length → (n.D.getD j Dd.zero).n ≠ n.me) :
  Calls Tryz.prog 193 #[.agg (ndC n v1 v2 (.slice da n.D.length dc) v4 v5).toArray, .agg #[.int .i64 n.me, .int .i64 inc, .int .i64 4, .bool gate], .int .i64 by_] w fun r w' => DbR w w' r n.D dA dC := by
 obtain ⟨ti, hi, hz0, hz1, hz2⟩ := info_parts infD
 obtain ⟨me, hme⟩ : ∃ x, Hid (n.me = x) := ⟨_, rfl⟩
 rw [hme.out] at hno ⊢
 obtain ⟨D, hD⟩ : ∃ x, Hid (n.D = x) := ⟨_, rfl⟩
 rw [hD.out] at hno hl h ⊢
 obtain ⟨xs, hxs⟩ : ∃ l, Hid (ndC n v1 v2 (.slice da D.length dc) v4 v5 = l) := ⟨_, rfl⟩
 rw [hxs.out]
 go_enter Tryz.func193, Tryz.ntmps193
 go_upto_region 1 with fail
 generalize hu : (w.alloc (.cells _ _)).alloc (.cells _ _) = u
 obtain ⟨X, R, b0, hs⟩ := box2 hu
 clear hu
 obtain ⟨KX, hKX⟩ : ∃ K, Hid (w.heap.size = K) := ⟨_, rfl⟩
 have hsu : w.heap.size ≤ u.heap.size := b0.size
 rw [hKX.out] at X R ⊢
 have d14 : u.cell? ⟨KX, 14, none⟩ = some (.slice da D.length dc) := X.c 14 _ (by rw [← hxs.out]; rfl)
 have f0 : u.cell? ⟨KX + 1, 0, none⟩ = some (.int .i64 me) := R.c 0 _ rfl
 have f2 : u.cell? ⟨KX + 1, 2, none⟩ = some (.int .i64 4) := R.c 2 _ rfl
 have f2' := keep_below (balloc (.cells #[] 121) (Below.refl u.heap.size u)) f2
 clear hs X R hxs hme hD
 go_upto_region 2 with fail
 have o0 : (u.alloc (.cells #[] 121)).ownsRow u.heap.size 121 4 (.slice (some ⟨u.heap.size, 0, none⟩) 0 0) 0 [] := own_empty
 have kA := balloc (.cells #[] 121) (Below.refl u.heap.size u)
 have h1 := h.below b0
 clear h hKX
 generalize u.alloc (.cells #[] 121) = u1 at *
 go_wp2_with fail
 go_loopw [7, 8, 9] (fun v dn i wr => ∃ k : Nat, k ≤ D.length ∧ i = .int .i64 k ∧ dn = .bool true ∧ wr.ownsRow u.heap.size 121 4 v k (rv (dR D fun j => .slice (dA j) (dN D j) (dC j)) (k * 4)) ∧ Below u.heap.size u wr) (fun _ _ i _ => D.length - (intOf i).toNat)
 case atStart => exact ⟨0, by omega, rfl, rfl, by simpa [rv] using o0, kA⟩
 case round =>
  obtain ⟨k, hk, rfl, rfl, hown, hb⟩ := hrel
  obtain ⟨av, cv, rfl, hcv⟩ := own_slice hown
  have e14 := keep_below hb d14
  have e0 := keep_below hb f0
  clear o0 kA
  by_cases hlt : k < D.length
  ·obtain ⟨b, off, e_, hbl, hf⟩ := h1 (by omega)
   obtain ⟨c0, c1, c2, c3⟩ := (hf.below hb hbl) k hlt
   have i0 : (0 : Int) ≤ (k : Int) := by omega
   have i1 : (k : Int) < (D.length : Int) := by omega
   have hsn := dR_snoc D (fun j => .slice (dA j) (dN D j) (dC j)) k
   have hne := hno k hlt
   rw [e_] at e14
   simp only [dF] at c0 c1 c2 c3
   obtain ⟨x0, hx0⟩ : ∃ x, Hid ((D.getD k Dd.zero).n = x) := ⟨_, rfl⟩
   obtain ⟨x1, hx1⟩ : ∃ x, Hid ((D.getD k Dd.zero).i = x) := ⟨_, rfl⟩
   obtain ⟨x2, hx2⟩ : ∃ x, Hid ((D.getD k Dd.zero).s = x) := ⟨_, rfl⟩
   have c3' : wr.cell? ⟨b, off + k * 4 + 3, none⟩ = some (.slice (dA k) (dN D k) (dC k)) := c3
   obtain ⟨xa, hxa⟩ : ∃ x, Hid (dA k = x) := ⟨_, rfl⟩
   obtain ⟨xl, hxl⟩ : ∃ x, Hid (dN D k = x) := ⟨_, rfl⟩
   obtain ⟨xc, hxc⟩ : ∃ x, Hid (dC k = x) := ⟨_, rfl⟩
   rw [hx0.out] at c0 hne
   rw [hx1.out] at c1
   rw [hx2.out] at c2
   rw [hxa.out, hxl.out, hxc.out] at c3'
   rw [hx0.out, hx1.out, hx2.out] at hsn
   simp only [hxa.out, hxl.out, hxc.out] at hsn
   obtain ⟨rs, hrs⟩ : ∃ x, Hid (rv (dR D fun j => .slice (dA j) (dN D j) (dC j)) (k * 4) = x) := ⟨_, rfl⟩
   obtain ⟨rt, hrt⟩ : ∃ x, Hid (rv (dR D fun j => .slice (dA j) (dN D j) (dC j)) ((k + 1) * 4) = x) := ⟨_, rfl⟩
   rw [hrs.out] at hown hsn
   rw [hrt.out] at hsn
   have hz : (x0 == me) = false := by simpa using hne
   clear hf h1 c3 hne hx0 hx1 hx2 hxa hxl hxc hrs e_
   have O1 := hown.alloc (.cells #[.int .i64 x0, .int .i64 x1, .int .i64 x2, .slice xa xl xc] 121)
   have kA := balloc (.cells #[.int .i64 x0, .int .i64 x1, .int .i64 x2, .slice xa xl xc] 121) (Below.refl wr.heap.size wr)
   have B1 := hb.trans (kA.mono hb.size)
   have Xp := Ws.box (w := wr) #[.int .i64 x0, .int .i64 x1, .int .i64 x2, .slice xa xl xc] 121
   go_upto_region 7 with fail
   generalize wr.alloc (.cells #[.int .i64 x0, .int .i64 x1, .int .i64 x2, .slice xa xl xc] 121) = u2 at *
   have p0 := Xp.c 0 (.int .i64 x0) rfl
   have p1 := Xp.c 1 (.int .i64 x1) rfl
   have p2 := Xp.c 2 (.int .i64 x2) rfl
   have p3 := Xp.c 3 (.slice xa xl xc) rfl
   replace e0 := keep_below kA e0
   have hsz := B1.size
   clear c0 c1 c2 c3' kA hown hb Xp e14
   go_wp2_with (at_builtin; refine wpList_append_own _ rfl _ _ 37 rfl u.heap.size 121 ti (.agg #[.int .i64 0, .int .i64 0, .int .i64 0, .slice none 0 0]) 4 48 Tryz.underlying37 hi hz0 hz1 hz2 rfl (by decide) _ _ _ rfl (O1.alloc _) ⟨u2.heap.size, 0, none⟩ 1 1 [.int .i64 x0, .int .i64 x1, .int .i64 x2, .slice xa xl xc] rfl rfl ?c1 ?c2 ?c3 ?c4 ?c5 ?_)
   case c1 =>
    intro j u hj
    match j, hj with
    | 0, hj => simp at hj; subst hj; simp [Addr.add]
    | 1, hj => simp at hj; subst hj; simp [Addr.add]
    | 2, hj => simp at hj; subst hj; simp [Addr.add]
    | 3, hj => simp at hj; subst hj; simp [Addr.add]
   case c2 => intro u hu; simp at hu; rcases hu with rfl | rfl | rfl | rfl <;> rfl
   case c3 => unfold maxLen; omega
   case c4 => omega
   case c5 => simp; omega
   ·intro v' w2 hown' hgrow _
    have B4 := own_grow (balloc (.cells #[.int .i64 x0, .int .i64 x1, .int .i64 x2, .slice xa xl xc] 121) B1) (by simp; omega) (O1.alloc _) hgrow
    clear O1 hgrow B1 p0 p1 p2 p3
    go_wp2
    go_roundw
    case rel => exact ⟨k + 1, by omega, by go_num, rfl, by rw [hrt.out]; exact hown', B4⟩
    case measure => simp [intOf]; omega
  ·obtain rfl : k = D.length := by omega
   clear hcv
   go_wp2
   go_ret
   exact ⟨_, rfl, own_mono hsu hown, btrans b0 hb⟩
end Go.Proofs.YtgcdcfjaeehnbaaGreat
