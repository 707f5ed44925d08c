/- What is new in a view: the program's way. -/
import Derived.Test.YtfmjjafgipikeaaNews1
namespace Go.Proofs.Ytfmjjafgipikeaa.W
open Go.ChangeShapes Go.WideShapes Go.ChangeAt Go.RowKit
attribute [local go_sem ↓] Go.wp_at_zero Go.wp_at_succ
theorem nwk_nw {T : List Fc} {g : Fc} (hg : fok g = true) : nwk ((tget T g.n).getD Fc.zero) g = nw T g := by
  unfold nw
  cases h : tget T g.n with
  | none =>
    have hs : ¬ (0 : Int) = g.s := by
      unfold fok fokB inb at hg
      simp at hg
      omega
    unfold nwk
    simp only [Option.getD]
    rw [if_neg (fun e => hs e.2.2.1)]
    rfl
  | some f =>
    have hn := (tget_mem h).2
    unfold nwk
    simp only [Option.getD]
    by_cases e : f.i = g.i ∧ f.s = g.s ∧ f.g = g.g
    · rw [if_pos ⟨hn, e⟩, if_pos e]
    · rw [if_neg (fun z => e z.2), if_neg e]
theorem upto_news {T : List Fc} {G : Nat → Fc} {u : Nat → Fc} {len2 : Nat} (hu : ∀ k, k < len2 → u k = (tget T (G k).n).getD Fc.zero) (hG : ∀ k, k < len2 → fok (G k) = true) : ∀ k, k ≤ len2 → upto u G k = newsL T (Go.Proofs.Ytfmjjafgipikeaa.seqF G k)
  | 0, _ => rfl
  | k + 1, hk => by
    rw [upto_succ, newsL_succ, upto_news hu hG k (by omega), hu k (by omega), nwk_nw (hG k (by omega))]
theorem collect_any (Bo Bn : Nat) (a : Option Addr) (len cap : Nat) (a2 : Option Addr) (len2 cap2 : Nat) (F G : Nat → Fc) (w : World) (hl : len ≤ 1048576) (hl2 : len2 ≤ 1048576) (hBo : Bo < w.heap.size) (hBn : Bn < w.heap.size)
    (cBo : w.cell? ⟨Bo, 0, none⟩ = some (.slice a len cap)) (cBn : w.cell? ⟨Bn, 0, none⟩ = some (.slice a2 len2 cap2)) (hF : FSl w a len F) (hG : FSl w a2 len2 G) (hok : tokB len F = true) (hok2 : tokB len2 G = true) :
    Calls Try.prog 25 #[.func (.func 42) #[] #[.pointer (some ⟨Bn, 0, none⟩), .pointer (some ⟨Bo, 0, none⟩)]] w fun e w' => ∃ v, e = .returned v ∧ w'.ownsRow w.heap.size 32 5 v (nv len F len2 G).length (fl (nv len F len2 G)) ∧ Below w.heap.size w w' := by
  have e1 : nv len F len2 G = newsL (Go.Proofs.Ytfmjjafgipikeaa.seqF F len) (Go.Proofs.Ytfmjjafgipikeaa.seqF G len2) := by unfold nv; rw [hok, hok2]; rfl
  have t2 := (tok_all hok2).1
  have e2 := upto_news (T := Go.Proofs.Ytfmjjafgipikeaa.seqF F len) (G := G) (u := fun k => (tget (Go.Proofs.Ytfmjjafgipikeaa.seqF F len) (G k).n).getD Fc.zero) (fun k _ => rfl) t2 len2 (Nat.le_refl _)
  rw [e1, ← e2]
  refine (callsIn_wide (n := 10)).1 (collect_in Fence.wide 10 trivial trivial 42 trivial (enters_of Try.func42 (by kernel_rfl) rfl) #[.pointer (some ⟨Bn, 0, none⟩), .pointer (some ⟨Bo, 0, none⟩)] rfl (by omega) _ (fun _ => True) len2 hl2 w ?_)
  intro l J Jx W hW hJ hJx hY h0
  refine news1_in 8 l Bo Bn a len cap a2 len2 cap2 G _ w hl2 hBo hBn cBo cBn hG ?_ J Jx W hW hJ hY h0
  intro k hk wr hb
  refine (of_any a len cap F (G k).n wr (hF.below hb) hl (fok_wf (t2 k hk))).mono ?_
  have et : tof len F (G k).n = tget (Go.Proofs.Ytfmjjafgipikeaa.seqF F len) (G k).n := by unfold tof; rw [if_pos hok]
  rw [et]
  rintro e w' ⟨rfl, hb'⟩
  exact ⟨_, rfl, hb'⟩
theorem tok_lit' (a : Option Addr) (len cap : Nat) (F : Nat → Fc) (q : Bool) (w : World) (h : FSl w a len F) (hl : len ≤ 1048576) (hq : tokB len F = q) :
    Calls Try.prog 8 #[.slice a len cap] w fun e w' => e = .returned (.bool q) ∧ Below w.heap.size w w' := tok_lit a len cap F q w h hl hq
theorem news_any (a : Option Addr) (len cap : Nat) (a2 : Option Addr) (len2 cap2 : Nat) (w : World) :
    Calls Try.prog 26 #[.slice a len cap, .slice a2 len2 cap2] w fun e w' => e = .returned (.func (.func 42) #[] #[.pointer (some ⟨w.heap.size + 1, 0, none⟩), .pointer (some ⟨w.heap.size, 0, none⟩)]) ∧ w' = (w.alloc (.cells #[.slice a len cap] 23)).alloc (.cells #[.slice a2 len2 cap2] 23) :=
  (callsIn_wide (n := 10)).1 (news_in Fence.wide 10 trivial rfl a len cap a2 len2 cap2 w)
set_option maxRecDepth 20000 in
set_option maxHeartbeats 4000000 in
theorem view_any (a : Option Addr) (len cap : Nat) (F : Nat → Fc) (a2 : Option Addr) (len2 cap2 : Nat) (G : Nat → Fc) (w : World) (h : FSl w a len F) (h2 : FSl w a2 len2 G) (hl : len ≤ 1048576) (hl2 : len2 ≤ 1048576) :
    Calls Try.prog 6 #[.slice a len cap, .slice a2 len2 cap2] w fun e w' => ∃ v, e = .returned v ∧ w'.ownsRow w.heap.size 32 5 v (nv len F len2 G).length (fl (nv len F len2 G)) ∧ Below w.heap.size w w' := by
  cases hok0 : tokB len F
  · have hok : Hid (tokB len F = false) := hok0
    have e1 : nv len F len2 G = [] := by unfold nv; rw [hok0]; rfl
    rw [e1]
    clear hok0 e1
    go_enter Try.func6, Try.ntmps6
    go_wp2_with fail
    refine (tok_lit _ len cap F false _ h hl hok.out).mono ?_
    rintro r w1 ⟨rfl, b1⟩
    go_wp2
    go_ret
    exact ⟨_, rfl, World.ownsRow_nil _ _ _ _, b1⟩
  · have hok : Hid (tokB len F = true) := hok0
    cases hok1 : tokB len2 G
    · have hokG : Hid (tokB len2 G = false) := hok1
      have e1 : nv len F len2 G = [] := by unfold nv; rw [hok0, hok1]; rfl
      rw [e1]
      clear hok0 hok1 e1
      go_enter Try.func6, Try.ntmps6
      go_wp2_with fail
      refine (tok_lit _ len cap F true _ h hl hok.out).mono ?_
      rintro r w1 ⟨rfl, b1⟩
      go_wp2_with fail
      refine (tok_lit a2 len2 cap2 G false _ (h2.below b1) hl2 hokG.out).mono ?_
      rintro r w2 ⟨rfl, b2⟩
      have B2 := btrans b1 b2
      go_wp2
      go_ret
      exact ⟨_, rfl, World.ownsRow_nil _ _ _ _, B2⟩
    · have hokG : Hid (tokB len2 G = true) := hok1
      clear hok0 hok1
      obtain ⟨L, hL⟩ : ∃ L, Hid (nv len F len2 G = L) := ⟨_, rfl⟩
      rw [hL.out]
      go_enter Try.func6, Try.ntmps6
      go_wp2_with fail
      refine (tok_lit _ len cap F true _ h hl hok.out).mono ?_
      rintro r w1 ⟨rfl, b1⟩
      go_wp2_with fail
      refine (tok_lit a2 len2 cap2 G true _ (h2.below b1) hl2 hokG.out).mono ?_
      rintro r w2 ⟨rfl, b2⟩
      have B2 := btrans b1 b2
      clear b1 b2
      go_wp2_with fail
      refine (news_any a len cap a2 len2 cap2 w2).mono ?_
      rintro r w3 ⟨rfl, hw3⟩
      have s3 : w3.heap.size = w2.heap.size + 2 := by rw [hw3]; simp
      have p1 : Boxed w3 w2.heap.size 23 (.slice a len cap) := by rw [hw3]; exact (Boxed.new w2 23 _).alloc _
      have p2 : Boxed w3 (w2.heap.size + 1) 23 (.slice a2 len2 cap2) := by rw [hw3]; have := Boxed.new (w2.alloc (.cells #[.slice a len cap] 23)) 23 (.slice a2 len2 cap2); rwa [World.size_alloc] at this
      have B3 : Below w.heap.size w w3 := by rw [hw3]; exact balloc _ (balloc _ B2)
      clear hw3
      have hcol := collect_any w2.heap.size (w2.heap.size + 1) a len cap a2 len2 cap2 F G w3 hl hl2 (by omega) (by omega) p1.cell p2.cell (h.below B3) (h2.below B3) hok.out hokG.out
      rw [hL.out] at hcol
      clear p1 p2 s3
      go_wp2_with fail
      refine hcol.mono ?_
      rintro r w4 ⟨v, rfl, ho, b4⟩
      have B4 := btrans B3 b4
      have ho2 := own_mono B3.size ho
      clear hcol b4 ho
      go_wp2
      go_ret
      exact ⟨_, rfl, ho2, B4⟩
end Go.Proofs.Ytfmjjafgipikeaa.W
