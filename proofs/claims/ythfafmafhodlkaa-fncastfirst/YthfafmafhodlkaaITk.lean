/- The iterator over the items whose turn it is. -/
import Derived.Test.YthfafmafhodlkaaIHp5
import Derived.Test.YthfafmafhodlkaaIRf
import Derived.Shelf.Abstract
import Derived.Shelf.RegionOpen
import Derived.WalkKit
import Derived.OwnWalkIn
import Derived.TacticsInMore
import Derived.LoopNIn
import Derived.LoopIn
namespace Go.Proofs.Ythfafmafhodlkaa.I
open Go.RowKit Go.Shelf
attribute [local go_sem] Oper.semAt_some
theorem ownsRow_cells {w w' : World} {base n size : Nat} {e : TypeId} {v : Value} {xs : List Value} (h : w.ownsRow base e size v n xs) (hk : KeepsCells w w') : w'.ownsRow base e size v n xs := by
  refine ⟨h.1, h.2.imp id ?_⟩
  rintro ⟨g, cap, cur, e1, e2, e3, e4⟩
  exact ⟨g, cap, cur, e1, e2, hk.same _ _ e3 rfl, e4⟩
theorem Boxed.cells {w w' : World} {p t : Nat} {v : Value} (h : Boxed w p t v) (hk : KeepsCells w w') : Boxed w' p t v := hk.same _ _ h rfl
theorem HS.cells {w w' : World} {base p : Nat} {H : List It} (h : HS w base p H) (hk : KeepsCells w w') : HS w' base p H := by
  obtain ⟨v, h1, h2, h3, h4⟩ := h
  exact ⟨v, Boxed.cells h1 hk, ownsRow_cells h2 hk, h3, Nat.le_trans h4 hk.size⟩
/-- xs: those of L whose turn it is, most of them -/
def Taken (L : List It) (most : Int) (xs : List It) : Prop :=
  ∃ H, (xs ++ H).Perm L ∧ (∀ x ∈ xs, ∀ y ∈ H, rk x ≤ rk y) ∧ ((xs.length : Int) ≤ most ∨ xs = []) ∧ (most ≤ (xs.length : Int) ∨ H = [])
set_option maxRecDepth 100000 in
set_option maxHeartbeats 8000000 in
theorem taken1_in (n : Nat) (l Bl Bm : Nat) (a : Option Addr) (cap : Nat) (L : List It) (most : Int) (w0 : World) (hl8 : L.length ≤ 8) (hok : ∀ x ∈ L, okI x)
    (cBl : Boxed w0 Bl 23 (.slice a L.length cap)) (cBm : Boxed w0 Bm 3 (.int .i64 most)) (hL : TSl w0 a L.length (fun k => L.getD k It.zero))
    (J : List It → World → Prop) (W : World) (hW : Below w0.heap.size w0 W) (hJ : ∀ s A B, J s A → Below W.heap.size A B → J s B)
    (hY : ∀ pre x W1, okI x → J pre W1 → pre.length < 9 → YieldAt Fence.wide (n - 1) Try.prog l #[ival x] W1 fun e W' => e = .returned (.bool true) ∧ J (pre ++ [x]) W' ∧ KeepsCells W1 W')
    (h0 : J [] W) :
    CallsIn Fence.wide n Try.prog 37 #[.func (.yield l) #[] #[], .pointer (some ⟨Bl, 0, none⟩), .pointer (some ⟨Bm, 0, none⟩)] W fun e W' => (∃ v, e = .returned v) ∧ ∃ xs, Taken L most xs ∧ J xs W' := by
  refine callsIn_of_wp Try.func37 rfl trivial ?_ rfl
  simp only [Try.ntmps37, List.size_toArray, List.length_cons, List.length_nil, Nat.reduceAdd, Nat.reduceSub, Array.replicate_succ, Array.replicate_zero, List.push_toArray, List.append_toArray, List.nil_append, List.cons_append]
  have B0 : Below W.heap.size W ((W.alloc (.cells #[] 36)).alloc (.cells #[.slice (some ⟨W.heap.size, 0, none⟩) 0 0] 67)) := ((Below.refl _ W).alloc (Nat.le_refl _) _).alloc (by simp) _
  have hsz : ((W.alloc (.cells #[] 36)).alloc (.cells #[.slice (some ⟨W.heap.size, 0, none⟩) 0 0] 67)).heap.size = W.heap.size + 1 + 1 := by simp
  have hb0 : Boxed ((W.alloc (.cells #[] 36)).alloc (.cells #[.slice (some ⟨W.heap.size, 0, none⟩) 0 0] 67)) (W.heap.size + 1) 67 (.slice (some ⟨W.heap.size, 0, none⟩) 0 0) := by
    have := Boxed.new (W.alloc (.cells #[] 36)) 67 (.slice (some ⟨W.heap.size, 0, none⟩) 0 0)
    rwa [World.size_alloc] at this
  have ho0 := (own_emptyF W W.heap.size (Nat.le_refl _)).alloc (.cells #[.slice (some ⟨W.heap.size, 0, none⟩) 0 0] 67)
  have hWl : w0.heap.size ≤ W.heap.size := hW.size
  have eBl := (Boxed.below (Boxed.below cBl hW) B0).cell
  have hta : ∀ (x : It) w, (Instr.typeAssert (.iface 36 (ival x)) 20 36 false).run Try.prog w = .ok (ival x) w := fun _ _ => by kernel_rfl
  gi_wp2
  generalize ((W.alloc (.cells #[] 36)).alloc (.cells #[.slice (some ⟨W.heap.size, 0, none⟩) 0 0] 67)) = W2 at *
  have hs0 : HS W2 W.heap.size (W.heap.size + 1) [] := ⟨_, hb0, ho0, by omega, by omega⟩
  clear hb0 ho0 eBl
  have hJ0 := hJ _ _ _ h0 B0
  obtain ⟨base, hbase⟩ : ∃ b, Hid (W.heap.size = b) := ⟨_, rfl⟩
  obtain ⟨p, hp⟩ : ∃ p, Hid (W.heap.size + 1 = p) := ⟨_, rfl⟩
  have hJ' : Hid (∀ s A B, J s A → Below base A B → J s B) := by rw [← hbase.out]; exact hJ
  have hY' : Hid _ := hY
  have hok' : Hid _ := hok
  rw [hp.out] at hs0 ⊢
  rw [hbase.out] at hs0 hWl
  have B0' : Below base W W2 := by rw [← hbase.out]; exact B0
  clear B0 hJ hY hok h0 hsz
  gi_loopw [12] (fun i wr => ∃ (k : Nat) (H : List It), k ≤ L.length ∧ i = .int .i64 k ∧ H.Perm (L.take k) ∧ Hp (rh H) H.length ∧ HS wr base p H ∧ Below base W wr ∧ J [] wr) (fun i _ => L.length - (intOf i).toNat)
  case atStart => exact ⟨0, [], Nat.zero_le _, rfl, by simp, fun k _ h => by simp at h, hs0, B0', hJ0⟩
  case round =>
    obtain ⟨k, H, hk, rfl, hper, hH, hs, hb, hJs⟩ := hrel
    by_cases hlt : k < L.length
    · have i0 : (0 : Int) ≤ (k : Int) := by omega
      have i1 : (k : Int) < (L.length : Int) := by omega
      obtain ⟨bg, og, rfl, hbg, hfg⟩ := hL (by omega)
      obtain ⟨x, hx⟩ : ∃ x, Hid (L[k]? = some x) := ⟨_, List.getElem?_eq_getElem hlt⟩
      have hxg : L.getD k It.zero = x := by simp [List.getD, hx.out]
      obtain ⟨c0, c1, c2, c3, c4⟩ := ((hfg.below hW hbg).below hb (by omega)) k hlt
      dsimp only at c0 c1 c2 c3 c4
      rw [hxg] at c0 c1 c2 c3 c4
      have hnl : H.length ≤ 8 := by have := hper.length_eq; rw [List.length_take] at this; omega
      have b1 : Below wr.heap.size wr (wr.alloc (.cells #[.int .i64 x.n, .int .i64 x.i, .int .i64 x.s, .bool x.g, .int .i64 x.l] 36)) := (Below.refl _ wr).alloc (Nat.le_refl _) _
      have hs1 := hs.below b1
      have hbw : base ≤ wr.heap.size := by obtain ⟨_, _, _, _, h⟩ := hs; exact h
      have hb1 := hb.trans (b1.mono hbw)
      have hJ1 := hJ'.out _ _ _ hJs (b1.mono hbw)
      have hokH : Hid (∀ y ∈ H, okI y) := fun y hy => hok'.out y (List.mem_of_mem_take (hper.mem_iff.1 hy))
      have hokx : Hid (okI x) := hok'.out x (List.mem_of_getElem? hx.out)
      have hPush := push_any base p H x _ hs1 (by omega) hokH.out hokx.out hH
      clear hxg b1 hs hb hJs
      gi_wp2_with fail
      refine ⟨trivial, by simp [Fence.wide], ?_⟩
      refine (callsIn_wide.2 hPush).mono ?_
      rintro e w3 ⟨⟨v3, rfl⟩, H', h3, hp3, hH3, B3⟩
      have hb3 := hb1.trans B3
      have hJ3 := hJ'.out _ _ _ hJ1 B3
      clear hPush c0 c1 c2 c3 c4 hs1 hb1 hJ1
      gi_wp2
      go_roundw
      case rel =>
        refine ⟨k + 1, H', by omega, by simp, ?_, hH3, h3, hb3, hJ3⟩
        rw [List.take_add_one, hx.out]
        exact hp3.trans (hper.append_right _)
      case measure => simp [intOf]; omega
    · obtain rfl : k = L.length := by omega
      rw [List.take_length] at hper
      have hBm := (Boxed.below cBm hW)
      have eBm : Boxed wr Bm 3 (.int .i64 most) := (hb.block Bm (by have := cBm.lt; omega)).trans hBm
      gi_wp2
      gi_loopw [7] (fun i wr => ∃ (xs H : List It), i = .int .i64 xs.length ∧ (xs ++ H).Perm L ∧ (∀ x ∈ xs, ∀ y ∈ H, rk x ≤ rk y) ∧ ((xs.length : Int) ≤ most ∨ xs = []) ∧ Hp (rh H) H.length ∧ HS wr base p H ∧ J xs wr ∧ Boxed wr Bm 3 (.int .i64 most)) (fun i _ => L.length - (intOf i).toNat)
      case atStart => exact ⟨[], H, rfl, by simpa using hper, by simp, .inr rfl, hH, hs, hJs, eBm⟩
      case round =>
        clear hb hJs hs hH hper eBm hBm
        obtain ⟨xs, H2, rfl, hp2, hle, hm2, hH2, hs2, hJ2, hB2⟩ := hrel
        have hln : xs.length + H2.length ≤ 8 := by have := hp2.length_eq; rw [List.length_append] at this; omega
        have hleH : Hid _ := hle
        have hmH : Hid _ := hm2
        clear hle hm2
        have cB2 := hB2.cell
        by_cases hmo : (xs.length : Int) < most
        · obtain ⟨v, hv, ho, hbp, hbw⟩ := hs2
          obtain ⟨a2, cap2, rfl, -, -, -⟩ := own_facts ho
          have cv := hv.cell
          have hs2 : HS wr base p H2 := ⟨_, hv, ho, hbp, hbw⟩
          by_cases hH0 : H2.length = 0
          · have hHe : H2 = [] := List.length_eq_zero_iff.1 hH0
            subst hHe
            gi_wp2_with fail
            refine ⟨trivial, by simp [Fence.wide], ?_⟩
            refine (callsIn_wide.2 (len_any _ _ _ _)).mono ?_
            rintro e w3 ⟨rfl, hw⟩
            obtain rfl := hw.symm
            gi_wp2
            go_end0
            exact ⟨⟨_, rfl⟩, xs, ⟨[], hp2, by simp, hmH.out, .inr rfl⟩, hJ2⟩
          · have h0' : (0 : Int) < (H2.length : Int) := by omega
            have hln2 : xs.length < L.length := by have := hp2.length_eq; rw [List.length_append] at this; omega
            have hokH : Hid (∀ y ∈ H2, okI y) := fun y hy => hok'.out y (hp2.mem_iff.1 (List.mem_append_right _ hy))
            have hPop := pop_any base p H2 _ hs2 (by omega) (by omega) hokH.out hH2
            gi_wp2_with fail
            refine ⟨trivial, by simp [Fence.wide], ?_⟩
            refine (callsIn_wide.2 (len_any _ _ _ _)).mono ?_
            rintro e w3 ⟨rfl, hw⟩
            obtain rfl := hw.symm
            gi_wp2_with fail
            refine ⟨trivial, by simp [Fence.wide], ?_⟩
            refine (callsIn_wide.2 hPop).mono ?_
            rintro e w4 ⟨x, H4, rfl, h4, hp4, hH4, hmin, B4⟩
            have hJ4 := hJ'.out _ _ _ hJ2 B4
            have hB4 : Boxed w4 Bm 3 (.int .i64 most) := (B4.block Bm (by have := cBm.lt; omega)).trans hB2
            have hx := hta x
            have hminH : Hid _ := hmin
            clear hPop hs2 hJ2 hB2 cB2 cv hv ho hmin
            obtain ⟨fn, tmps, assign, body, hy, hR⟩ := hY'.out xs x _ (hokH.out x (hp4.mem_iff.1 (List.mem_cons_self ..))) hJ4 (by omega)
            gi_wp2_with fail
            refine ⟨by simp [Fence.wide], ?_⟩
            refine hR.mono ?_
            rintro e W5 ⟨rfl, hJ5, hk5⟩
            have h5 := h4.cells hk5
            have hB5 := Boxed.cells hB4 hk5
            clear hR hy hx
            gi_wp2
            go_roundw
            case rel =>
              refine ⟨xs ++ [x], H4, by simp, ?_, ?_, ?_, hH4, h5, hJ5, hB5⟩
              · rw [List.append_assoc]
                exact (hp4.append_left xs).trans hp2
              · intro y hy z hz
                rcases List.mem_append.1 hy with hy | hy
                · exact hleH.out y hy z (hp4.mem_iff.1 (List.mem_cons_of_mem _ hz))
                · simp at hy
                  subst hy
                  exact hminH.out z hz
              · left
                simp
                omega
            case measure => simp [intOf]; omega
        · gi_wp2_with fail
          refine ⟨trivial, ?_⟩
          gi_wp2
          go_end0
          exact ⟨⟨_, rfl⟩, xs, ⟨H2, hp2, hleH.out, hmH.out, .inl (by omega)⟩, hJ2⟩
end Go.Proofs.Ythfafmafhodlkaa.I
