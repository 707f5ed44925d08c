/- Leaving: the doubts, where nobody is struck. -/
import Derived.Test.YtgcdcfjaeehnbaaGreatNb
namespace Go.Proofs.YtgcdcfjaeehnbaaGreat
open Go.ChangeShapes Go.WideShapes Go.ChangeAt Go.RowKit
attribute [local go_sem ↓] Go.wp_at_zero Go.wp_at_succ
set_option maxRecDepth 20000
set_option maxHeartbeats 4000000
def s202_1 : List Stp := [⟨some 4, .load 121 (.tmp 2), 121, none, 0⟩, ⟨some 5, .makeInterface 121 (.tmp 4), 20, none, 0⟩, ⟨some 7, .load 3 (.tmp 1), 3, none, 0⟩, ⟨some 6, .call { callee := .invoke (.tmp 5) "loop.example/lightship/impl.key", args := #[], argTypes := #[] }, 3, none, 1⟩, ⟨some 8, .binOp .eql 3 (.tmp 6) (.tmp 7) 3, 4, none, 2⟩, ⟨some 3, .assign (.tmp 8), 4, none, 0⟩]
def t202_1 : List (Nat × Nat) := [(0, 0), (1, 0), (3, 0), (2, 1), (4, 2), (5, 0)]
theorem dclo_no (n i s : Int) (ba : Option Addr) (bl bc : Nat) (key : Int) (kb : Nat) (w : World) (hp : w.cell? ⟨kb, 0, none⟩ = some (.int .i64 key)) (hn : n ≠ key) :
  Calls Tryz.prog 202 #[.agg #[.int .i64 n, .int .i64 i, .int .i64 s, .slice ba bl bc], .pointer (some ⟨kb, 0, none⟩)] w fun r w' => r = .returned (.bool false) ∧ Below w.heap.size w w' := by
 have hm : ∀ (n i s : Int) (ba : Option Addr) (bl bc : Nat) (w : World), (method 402 121 (.agg #[.int .i64 n, .int .i64 i, .int .i64 s, .slice ba bl bc]) "loop.example/lightship/impl.key").run Tryz.prog w = .ok (313, .agg #[.int .i64 n, .int .i64 i, .int .i64 s, .slice ba bl bc]) w := fun _ _ _ _ _ _ _ => by kernel_rfl
 have b0 := balloc (.cells #[.int .i64 n, .int .i64 i, .int .i64 s, .slice ba bl bc] 121) (Below.refl w.heap.size w)
 have X := Ws.box (w := w) #[.int .i64 n, .int .i64 i, .int .i64 s, .slice ba bl bc] 121
 have c4 := keep_alloc (.cells #[.int .i64 n, .int .i64 i, .int .i64 s, .slice ba bl bc] 121) hp
 go_enter Tryz.func202, Tryz.ntmps202
 go_upto_region 1 with fail
 generalize w.alloc (.cells #[.int .i64 n, .int .i64 i, .int .i64 s, .slice ba bl bc] 121) = u at *
 have x0 : u.rangeAt w.heap.size 0 [.int .i64 n, .int .i64 i, .int .i64 s, .slice ba bl bc] := X.range
 obtain ⟨KX, hKX⟩ : ∃ K, Hid (w.heap.size = K) := ⟨_, rfl⟩
 rw [hKX.out] at x0 ⊢
 clear X hp
 refine wp_region_w (fun _ => False) s202_1 t202_1 (fun hbq => ?_)
 refine mR (hS := id) ?_
 refine mY ?_
 refine mL (hS := id) ?_
 refine mC (fun K hK => ?_)
 go_simp
 refine (Dtkey_any _ _ _ _ _ _ _).mono ?_; rintro r w1 ⟨rfl, k1⟩
 go_wp2_with fail
 refine hK.out _ _ (hbq.trans (Mw.of_below k1)) (.inl ?_)
 replace hbq := hbq.trans (Mw.of_below k1)
 clear hK K k1
 try simp only [putQ]
 refine mV (.bool false) ?_
 refine mY ?_
 refine mE ?_
 have b1 : Below KX w _ := (hKX.out ▸ b0).trans (hbq.below (Below.refl _ _) (fun _ e => e.elim) |>.mono (by have := b0.size; have := hKX.out; simp; omega))
 clear x0 c4 hbq hm
 go_wp2
 go_ret
 exact ⟨rfl, hKX.out ▸ b1⟩
theorem didx_no (a : Option Addr) (len cap : Nat) (G : Nat → Dt) (key : Int) (kb : Nat) (w : World) (h : DtSl w a len G) (hl : len ≤ 1048576) (hp : w.cell? ⟨kb, 0, none⟩ = some (.int .i64 key)) (hno : ∀ k, k < len → (G k).n ≠ key) :
  Calls Tryz.prog 241 #[.slice a len cap, .func (.func 202) #[] #[.pointer (some ⟨kb, 0, none⟩)]] w fun e w' => e = .returned (.int .i64 (-1)) ∧ Below w.heap.size w w' := by
 go_enter Tryz.func241, Tryz.ntmps241
 go_wp2
 go_loopw [5, 8] (fun _ i wr => ∃ k : Nat, k ≤ len ∧ i = .int .i64 k ∧ Below w.heap.size w wr) (fun _ i _ => len - (intOf i).toNat)
 case atStart => exact ⟨0, by omega, rfl, Below.refl _ _⟩
 case round =>
  obtain ⟨k, hk, rfl, hb⟩ := hrel
  by_cases hlt : k < len
  ·obtain ⟨b, off, rfl, hbl, hf⟩ := h (by omega)
   obtain ⟨c0, c1, c2, c3⟩ := (hf.below hb hbl) k hlt
   have i0 : (0 : Int) ≤ (k : Int) := by omega
   have i1 : (k : Int) < (len : Int) := by omega
   have hpr := keep_below hb hp
   have hk' := hno k hlt
   clear hf h
   generalize G k = p at *
   obtain ⟨n, i, s, ba, bl, bc, bf⟩ := p
   dsimp only at c0 c1 c2 c3 hk'
   go_wp2_with (go_at_call 202; refine (dclo_no n i s ba bl bc key kb _ hpr hk').mono ?_; rintro e w1 ⟨rfl, b1⟩)
   go_roundw
   case rel => exact ⟨k + 1, by omega, by go_num, btrans hb b1⟩
   case measure => simp [intOf]; omega
  ·go_wp2
   go_ret
   exact ⟨rfl, hb⟩
theorem ddel_no (a : Option Addr) (len cap : Nat) (G : Nat → Dt) (key : Int) (kb : Nat) (w : World) (h : DtSl w a len G) (hl : len ≤ 1048576) (hp : w.cell? ⟨kb, 0, none⟩ = some (.int .i64 key)) (hno : ∀ k, k < len → (G k).n ≠ key) :
  Calls Tryz.prog 201 #[.slice a len cap, .func (.func 202) #[] #[.pointer (some ⟨kb, 0, none⟩)]] w fun e w' => e = .returned (.slice a len cap) ∧ Below w.heap.size w w' := by
 go_enter Tryz.func201, Tryz.ntmps201
 go_wp2_with fail
 refine (didx_no a len cap G key kb _ h hl hp hno).mono ?_
 rintro r w1 ⟨rfl, k1⟩
 go_wp2
 go_ret
 exact ⟨rfl, k1⟩
def WoR (w w' : World) (r : Ending) (D : List Dd) (sD : Nat → Value) : Prop := ∃ v', r = .returned v' ∧ w'.ownsRow w.heap.size 121 4 v' D.length (rv (dR D sD) (D.length * 4)) ∧ Below w.heap.size w w'
theorem OwD.ones {w : World} {base : Nat} {v : Value} {D : List Dd} {sD : Nat → Value} (h : OwD w base v D.length (dR D sD) sD (dN D) (dX D)) (j : Nat) (hj : j < D.length * 4) : (dR D sD j).oneCell' = true := dR_one (fun j hj => sl_one (own_sl (h.nest j hj))) j hj
theorem without_no (base : Nat) (D : List Dd) (v : Value) (sD : Nat → Value) (key : Int) (w : World) (h : OwD w base v D.length (dR D sD) sD (dN D) (dX D)) (hb : base ≤ w.heap.size) (hl : D.length ≤ 1048576) (hno : ∀ j, j < D.length → (D.getD j Dd.zero).n ≠ key) :
  Calls Tryz.prog 130 #[v, .int .i64 key] w fun r w' => WoR w w' r D sD := by
 have b0 := balloc (.cells #[.int .i64 key] 3) (Below.refl w.heap.size w)
 have X := Ws.box (w := w) #[.int .i64 key] 3
 have h0 := h.below b0
 have hs0 := b0.size
 clear h
 go_enter Tryz.func130, Tryz.ntmps130
 go_upto_region 1 with fail
 generalize w.alloc (.cells #[.int .i64 key] 3) = u at *
 obtain ⟨KX, hKX⟩ : ∃ K, Hid (w.heap.size = K) := ⟨_, rfl⟩
 rw [hKX.out] at X ⊢
 go_wp2_with fail
 refine (cpD_any v D.length (dR D sD) _ (own_src h0.row) h0.ones hl).mono ?_
 rintro r w1 ⟨v1, rfl, o1, k1⟩
 have p1 := (X.below k1).c 0 (.int .i64 key) rfl
 have h1 := h0.below k1
 have hc : OwD w1 base v1 D.length (dR D sD) sD (dN D) (dX D) := ⟨own_mono (Nat.le_trans hb hs0) o1, h1.at_, h1.nest, h1.apart⟩
 have hsl := hc.sl_of
 obtain ⟨a1, c1, rfl, _⟩ := own_slice o1
 have hsl' : DtSl w1 a1 D.length (dF D (fun j => aOf (sD j)) (fun j => kOf (sD j))) := hsl
 clear hsl hc h1 h0 X
 go_wp2_with fail
 refine (ddel_no a1 D.length c1 _ key KX _ hsl' hl p1 (fun k hk => hno k hk)).mono ?_
 rintro r w2 ⟨rfl, k2⟩
 have fin : WoR w w2 (.returned (.slice a1 D.length c1)) D sD := ⟨_, rfl, own_mono hs0 (own_below o1 k2), btrans (btrans b0 k1) k2⟩
 clear hsl' o1 k1 k2 b0 p1
 go_wp2
 go_ret
 exact fin
end Go.Proofs.YtgcdcfjaeehnbaaGreat
