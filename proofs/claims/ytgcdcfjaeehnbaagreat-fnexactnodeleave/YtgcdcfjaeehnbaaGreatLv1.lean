/- Leaving: who may live; the doubts, where nobody is struck. -/
import Derived.Test.YtgcdcfjaeehnbaaGreatLv0
namespace Go.Proofs.YtgcdcfjaeehnbaaGreat
open Go.ChangeShapes Go.WideShapes Go.ChangeAt Go.RowKit
attribute [local go_sem ↓] Go.wp_at_zero Go.wp_at_succ
set_option maxRecDepth 20000
set_option maxHeartbeats 4000000
def mayB (s : Int) : Bool := s == 1 || s == 2
theorem clo68_any (s : Int) (w : World) : Calls Tryz.prog 68 #[.int .i64 s] w fun r w' => r = .returned (.bool (mayB s)) ∧ Below w.heap.size w w' := by
 cases z1 : (s == 1)
 ·cases z2 : (s == 2)
  all_goals
   have hq : mayB s = (false || (s == 2)) := by unfold mayB; rw [z1]
   rw [hq, z2]
   go_enter Tryz.func68, Tryz.ntmps68
   go_wp2
   go_ret
   exact ⟨rfl, Below.refl _ _⟩
 ·have hq : mayB s = true := by unfold mayB; rw [z1]; rfl
  rw [hq]
  go_enter Tryz.func68, Tryz.ntmps68
  go_wp2
  go_ret
  exact ⟨rfl, Below.refl _ _⟩
theorem clo68_lit (s : Int) (b : Bool) (hb : mayB s = b) (w : World) : Calls Tryz.prog 68 #[.int .i64 s] w fun r w' => r = .returned (.bool b) ∧ Below w.heap.size w w' := hb ▸ clo68_any s w
def MtR (w w' : World) (r : Ending) (l : List Int) : Prop := ∃ v, r = .returned v ∧ w'.ownsRow w.heap.size 3 1 v l.length (lv l) ∧ Below w.heap.size w w'
theorem info3' : (Tryz.prog.info? 3).map (fun i => (i.zero, i.size, i.bytes)) = some (some (.int .i64 0), 1, 8) := by kernel_rfl
theorem mates_any (n : Nod) (L : Loc) (w : World) (h : NdR w n L) : Calls Tryz.prog 67 #[ndV n L, .func (.func 68) #[] #[]] w fun r w' => MtR w w' r (lvL n.me n.T) := by
 obtain ⟨ti, hi, hz0, hz1, hz2⟩ := info_parts info3'
 have hh : FSl w L.ta n.T.length (tF n.T) := NdIn.f h
 have hm : n.T.length ≤ 1048576 := NdIn.hf h
 unfold lvL
 obtain ⟨F, hF⟩ : ∃ F, Hid (tF n.T = F) := ⟨_, rfl⟩
 rw [hF.out] at hh ⊢
 clear h hF
 obtain ⟨me, up, gone, gate, inc, now, sq, turn, T, C, pn, ps, pq, pa, D, cx, cy, ch, ce, P, O⟩ := n
 obtain ⟨ta, tc, ca, cc, da, dc, dA, dC, pla, plc, pA, pC, oa, oc, oA, oC⟩ := L
 unfold ndV
 dsimp only at hh hm ⊢
 obtain ⟨tl, htl⟩ : ∃ l, Hid (T.length = l) := ⟨_, rfl⟩
 rw [htl.out] at hh hm ⊢
 clear htl
 have b0 := balloc (.cells #[.int .i64 me, .bool up, .bool gone, .bool gate, .int .i64 inc, .int .i64 now, .int .i64 sq, .int .i64 turn, .slice ta tl tc, .slice ca C.length cc, .int .i64 pn, .int .i64 ps, .int .i64 pq, .bool pa, .slice da D.length dc, .int .i64 cx, .int .i64 cy, .int .i64 ch, .int .i64 ce, .slice pla P.length plc, .slice oa O.length oc] 42) (Below.refl w.heap.size w)
 have X := Ws.box (w := w) #[.int .i64 me, .bool up, .bool gone, .bool gate, .int .i64 inc, .int .i64 now, .int .i64 sq, .int .i64 turn, .slice ta tl tc, .slice ca C.length cc, .int .i64 pn, .int .i64 ps, .int .i64 pq, .bool pa, .slice da D.length dc, .int .i64 cx, .int .i64 cy, .int .i64 ch, .int .i64 ce, .slice pla P.length plc, .slice oa O.length oc] 42
 go_enter Tryz.func67, Tryz.ntmps67
 go_upto_region 2 with fail
 generalize w.alloc (.cells #[.int .i64 me, .bool up, .bool gone, .bool gate, .int .i64 inc, .int .i64 now, .int .i64 sq, .int .i64 turn, .slice ta tl tc, .slice ca C.length cc, .int .i64 pn, .int .i64 ps, .int .i64 pq, .bool pa, .slice da D.length dc, .int .i64 cx, .int .i64 cy, .int .i64 ch, .int .i64 ce, .slice pla P.length plc, .slice oa O.length oc] 42) = u at *
 obtain ⟨KX, hKX⟩ : ∃ K, Hid (w.heap.size = K) := ⟨_, rfl⟩
 rw [hKX.out] at X ⊢
 have d8 := X.c 8 (.slice ta tl tc) rfl
 have hsz := b0.size
 go_wp2_with fail
 go_loopw [5, 11] (fun v i wr => ∃ k : Nat, k ≤ tl ∧ i = .int .i64 k ∧ wr.ownsRow u.heap.size 3 1 v (lvK me F k).length (lv (lvK me F k)) ∧ Below u.heap.size u wr) (fun _ i _ => tl - (intOf i).toNat)
 case atStart => exact ⟨0, by omega, rfl, World.ownsRow_nil _ _ _ _, Below.refl _ _⟩
 case round =>
  obtain ⟨k, hk, rfl, hown, hb⟩ := hrel
  have hle := lvK_le me F k
  obtain ⟨av, cv, rfl, hcv, _⟩ := own_list hown
  clear d8
  by_cases hlt : k < tl
  ·obtain ⟨b, off, rfl, hbl, hf⟩ := (hh.below b0) (by omega)
   obtain ⟨c0, c1, c2, c3⟩ := (hf.below hb hbl) k hlt
   have i0 : (0 : Int) ≤ (k : Int) := by omega
   have i1 : (k : Int) < (tl : Int) := by omega
   have hnext : Hid (lvK me F (k + 1) = if (decide ((F k).n ≠ me) && mayB (F k).s) = true then lvK me F k ++ [(F k).n] else lvK me F k) := rfl
   clear hf hh
   obtain ⟨Lk, hLk⟩ : ∃ Lk, Hid (lvK me F k = Lk) := ⟨_, rfl⟩
   rw [hLk.out] at hown hle hcv hnext ⊢
   clear hLk
   generalize F k = p at *
   obtain ⟨n, i, s, g⟩ := p
   dsimp only at c0 c1 c2 c3 hnext
   have O1 := hown.alloc (.cells #[.int .i64 n, .int .i64 i, .int .i64 s, .bool g] 96)
   have kA := balloc (.cells #[.int .i64 n, .int .i64 i, .int .i64 s, .bool g] 96) (Below.refl wr.heap.size wr)
   have B1 := hb.trans (kA.mono hb.size)
   have Xp := Ws.box (w := wr) #[.int .i64 n, .int .i64 i, .int .i64 s, .bool g] 96
   go_upto_region 5 with fail
   generalize wr.alloc (.cells #[.int .i64 n, .int .i64 i, .int .i64 s, .bool g] 96) = u1 at *
   have p0 := Xp.c 0 (.int .i64 n) rfl
   have p2 := Xp.c 2 (.int .i64 s) rfl
   have m0 := (X.below B1).c 0 (.int .i64 me) rfl
   clear c0 c1 c2 c3 kA hown
   have hlu := Xp.lt
   obtain ⟨xp, hxp⟩ : ∃ xp, Hid (wr.heap.size = xp) := ⟨_, rfl⟩
   rw [hxp.out] at p0 p2 hlu Xp ⊢
   clear hxp hb Xp
   by_cases q1 : n = me
   ·subst q1
    have hn2 : Hid (lvK n F (k + 1) = Lk) := by rw [Hid, hnext.out]; simp
    clear hnext
    go_wp2
    go_roundw
    case rel => exact ⟨k + 1, by omega, by go_num, by rw [hn2.out]; exact O1, B1⟩
    case measure => simp [intOf]; omega
   ·have z1 : (n == me) = false := by simpa using q1
    cases hs : mayB s
    ·have hs' : Hid (mayB s = false) := hs
     have hn2 : Hid (lvK me F (k + 1) = Lk) := by rw [Hid, hnext.out, hs]; simp
     clear hnext hs
     go_wp2_with (go_at_call 68; refine (clo68_lit s false hs'.out _).mono ?_; rintro r u2 ⟨rfl, k2⟩)
     have O2 := own_below O1 k2
     have B2 := B1.trans (k2.mono B1.size)
     go_wp2
     go_roundw
     case rel => exact ⟨k + 1, by omega, by go_num, by rw [hn2.out]; exact O2, B2⟩
     case measure => simp [intOf]; omega
    ·have hs' : Hid (mayB s = true) := hs
     have hn2 : Hid (lvK me F (k + 1) = Lk ++ [n]) := by rw [Hid, hnext.out, hs]; simp [q1]
     clear hnext hs
     go_wp2_with fail
     refine (clo68_lit s true hs'.out _).mono ?_
     rintro r u2 ⟨rfl, k2⟩
     have O2 := own_below O1 k2
     have B2 := B1.trans (k2.mono B1.size)
     have p2' := keep_below k2 p0
     have hs2 := B2.size
     clear p0 p2 m0 O1 B1
     go_wp2_with (at_builtin; refine wpList_append_own _ rfl _ _ 54 rfl u.heap.size 3 ti (.int .i64 0) 1 8 Tryz.underlying54 hi hz0 hz1 hz2 rfl (by decide) _ _ _ rfl (O2.alloc _) ⟨u2.heap.size, 0, none⟩ 1 1 [.int .i64 n] rfl rfl ?c1 ?c2 ?c3 ?c4 ?c5 ?_)
     case c1 =>
      intro j u hj
      match j, hj with
      | 0, hj => simp at hj; subst hj; simp [Addr.add]
     case c2 => intro u hu; simp at hu; subst hu; rfl
     case c3 => unfold maxLen; omega
     case c4 => omega
     case c5 => simp; omega
     ·intro v' w2 hown' hgrow _
      have B3 := own_grow (balloc (.cells #[.int .i64 n] 3) B2) (by simp; omega) (O2.alloc _) hgrow
      clear O2 hgrow B2 p2'
      go_wp2
      go_roundw
      case rel => exact ⟨k + 1, by omega, by go_num, by rw [hn2.out, lv_append, List.length_append]; exact hown', B3⟩
      case measure => simp [intOf]; omega
  ·obtain rfl : k = tl := by omega
   clear hcv hle
   go_wp2
   try simp only [Exit.inBlock, Exit.then]
   refine bodyPost_ret (v := .slice av _ cv) (by simp [results, Tryz.results67, go_sem]; rfl) rfl ⟨_, rfl, ?_, ?_⟩
   ·exact own_mono hsz hown
   ·exact b0.trans (hb.mono hsz)
end Go.Proofs.YtgcdcfjaeehnbaaGreat
