/- sort.SliceStable at rows of structs, where what compares may make blocks: fewer than 20. -/
import Derived.Shelf.GgSortMore.Stable
import Derived.Shelf.GgSortFunc.SmallK
import Derived.Test.YtgcdcfjaeehnbaaGreatNa
namespace Go.Proofs.YtgcdcfjaeehnbaaGreat
open Go.Shelf Go.RowKit Go.Lib Go.Sort
variable {P : Program} {ρ : Ren} {α : Type} [Inhabited α]
theorem Mw.puts {b : Nat} : ∀ (vs : List Value) (o : Nat) (w : World), Mw (fun x => x = b) w (w.setCells b o vs)
  | [], _, w => Mw.refl _ w
  | v :: r, o, w => ((Mw.refl (fun x => x = b) w).set (b := b) (o := o) (v := v) rfl).trans (Mw.puts r (o + 1) _)
/-- the row holds d, and nothing else of what was there has turned -/
def AtR (enc : α → List Value) (k : Nat) (w : World) (blk off : Nat) (d : Array α) (w' : World) : Prop := HoldsK enc k w' blk off d ∧ Mw (fun x => x = blk) w w'
/-- what compares reads the row, and may make blocks -/
def LessA (P : Program) (g : Nat) (lb : Array Value) (enc : α → List Value) (k : Nat) (lt : α → α → Bool) (blk off size : Nat) (w : World) : Prop :=
  ∀ (wr : World) (dk : Array α), AtR enc k w blk off dk wr → dk.size = size → ∀ i j : Nat, i < size → j < size →
    Calls P g (#[.int .i64 i, .int .i64 j] ++ lb) wr fun e w' => e = .returned (.bool (lt dk[i]! dk[j]!)) ∧ Below wr.heap.size wr w'
theorem holdsK_below {enc : α → List Value} {k : Nat} {w w' : World} {blk off : Nat} {d : Array α} (h : HoldsK enc k w blk off d) (hb : Below w.heap.size w w') (hl : blk < w.heap.size) : HoldsK enc k w' blk off d := fun j hj =>
  ⟨(hb.cell (p := ⟨blk, off + j, none⟩) hl).trans (h j hj).1, (hb.frozen (p := ⟨blk, off + j, none⟩) hl).trans (h j hj).2⟩
theorem AtR.below {enc : α → List Value} {k : Nat} {w w1 w' : World} {blk off : Nat} {d : Array α} (h : AtR enc k w blk off d w1) (hb : Below w1.heap.size w1 w') (hl : blk < w.heap.size) : AtR enc k w blk off d w' :=
  ⟨holdsK_below h.1 hb (Nat.lt_of_lt_of_le hl h.2.size), h.2.trans (Mw.of_below hb)⟩
theorem AtR.swap {enc : α → List Value} {k : Nat} (hk : ∀ x, (enc x).length = k) {w w1 : World} {blk off : Nat} {d : Array α} (h : AtR enc k w blk off d w1) (i j : Nat) (hi : i < d.size) (hj : j < d.size) : AtR enc k w blk off (swp d i j) ((w1.setCells blk (off + i * k) (enc d[j]!)).setCells blk (off + j * k) (enc d[i]!)) := by
  have e := swap_worldK enc k hk w1 0 0 blk off d i j hi hj
  have e0 : (putRowK enc k (Sort.ahead w1 0) blk off d).drewN 0 = w1 := by
    rw [show Sort.ahead w1 0 = w1 from rfl, putRowK_self enc k w1 blk off d h.1]
    rfl
  rw [e0] at e
  refine ⟨?_, (h.2.trans (Mw.puts _ _ _)).trans (Mw.puts _ _ _)⟩
  rw [e]
  exact holdsK_putRowK enc k _ blk off d (swp d i j) (holdsK_ahead _ _ _ _ _ _ _ h.1) (size_swp _ _ _)
set_option maxHeartbeats 2000000 in
set_option maxRecDepth 100000 in
theorem ins_at (L : LaysGg.n26 P ρ) (enc : α → List Value) (k : Nat) (hk : ∀ x, (enc x).length = k) (lt : α → α → Bool) (g : Nat) (lb : Array Value) (sf : Nat) (sb : Array Value) (blk off a b : Nat) (d : Array α) (w : World)
    (hless : LessA P g lb enc k lt blk off d.size w) (hswap : SwapSwapsK P sf sb enc k blk off d.size)
    (hH : HoldsK enc k w blk off d) (hblk : blk < w.heap.size) (hab : a ≤ b) (hb : b ≤ d.size) (hsz : d.size < 4611686018427387904) (eg : ∀ args w, (callFunc g args).run P w = .ok (.enter g args) w) :
    Calls P (ρ.f 26) #[.agg #[.func (.func g) #[] lb, .func (.func sf) #[] sb], .int .i64 a, .int .i64 b] w fun e w' =>
      e = .returned (.tuple #[]) ∧ AtR enc k w blk off (Sort.insertionSort lt d a b) w' := by
  have mixed := L.mixed; have t0 := L.t0; have a0 := L.a0; have z0 := L.z0; have v0 := L.v0; have t3 := L.t3; have a3 := L.a3; have z3 := L.z3; have v3 := L.v3; have t4 := L.t4; have a4 := L.a4; have z4 := L.z4; have v4 := L.v4; have t26 := L.t26; have a26 := L.a26; have z26 := L.z26; have v26 := L.v26; have t37 := L.t37; have a37 := L.a37; have z37 := L.z37; have v37 := L.v37; have t44 := L.t44; have a44 := L.a44; have z44 := L.z44; have v44 := L.v44
  have u44 := run_underlying L.t44
  have hA1 : AtR enc k w blk off d (w.alloc (.cells #[.func (.func g) #[] lb, .func (.func sf) #[] sb] (ρ.t 44))) := ⟨by rw [alloc_eq_grow]; exact holdsK_grow enc k w _ blk off d hblk hH, (Mw.refl _ w).alloc _⟩
  have cb : ∀ wr, Mw (fun x => x = blk) (w.alloc (.cells #[.func (.func g) #[] lb, .func (.func sf) #[] sb] (ρ.t 44))) wr → wr.cell? ⟨w.heap.size, 0, none⟩ = some (.func (.func g) #[] lb) ∧ wr.cell? ⟨w.heap.size, 1, none⟩ = some (.func (.func sf) #[] sb) := fun wr m =>
    ⟨m.cell (by simp) (show ¬ w.heap.size = blk by omega), m.cell (by simp) (show ¬ w.heap.size = blk by omega)⟩
  have cb' : Hid _ := cb
  clear cb
  go_enter L.f26, BodyGg.n26_ntmps ρ
  go_wp2
  go_loopw [6] (fun vi wr => ∃ (i : Nat) (dk : Array α), vi = .int .i64 i ∧ a < i ∧ i ≤ b + 1 ∧ dk.size = d.size ∧ Mw (fun x => x = blk) (w.alloc (.cells #[.func (.func g) #[] lb, .func (.func sf) #[] sb] (ρ.t 44))) wr ∧ AtR enc k w blk off dk wr ∧
      insOuter lt a b i dk = insOuter lt a b (a + 1) d) (fun vi _ => b + 1 - (intOf vi).toNat)
  case atStart => exact ⟨a + 1, d, by go_num, by omega, by omega, rfl, Mw.refl _ _, hA1, rfl⟩
  case round =>
    obtain ⟨i, dk, rfl, hai, hib, hsk, hM, hA, hO⟩ := hrel
    have HO : Hid (insOuter lt a b i dk = insOuter lt a b (a + 1) d) := hO
    have HM : Hid _ := hM
    have HA : Hid _ := hA
    clear hO hA1 hH hM hA
    go_wp2
    · -- i < b: the inner loop
      go_loopw [7] (fun vj wr2 => ∃ (j : Nat) (dj : Array α), vj = .int .i64 j ∧ a ≤ j ∧ j ≤ i ∧ dj.size = d.size ∧ Mw (fun x => x = blk) (w.alloc (.cells #[.func (.func g) #[] lb, .func (.func sf) #[] sb] (ρ.t 44))) wr2 ∧ AtR enc k w blk off dj wr2 ∧
          insInner lt a j dj = insInner lt a i dk) (fun vj _ => (intOf vj).toNat)
      case atStart => exact ⟨i, dk, rfl, by omega, Nat.le_refl _, hsk, HM.out, HA.out, rfl⟩
      case round =>
        obtain ⟨j, dj, rfl, haj, hji, hsj, hM, hA, hI⟩ := hrel
        have hlt : i < b := by assumption
        obtain ⟨c0, c1⟩ := cb'.out wr hM
        have hw2 : blk < wr.heap.size := Nat.lt_of_lt_of_le hblk hA.2.size
        have HI : Hid (insInner lt a j dj = insInner lt a i dk) := hI
        have HM2 : Hid _ := hM
        have HA2 : Hid _ := hA
        clear hI HM HA hM hA
        have out : (j ≤ a ∨ lt dj[j]! dj[j - 1]! = false) → ∀ w', Below wr.heap.size wr w' → ∃ i' dk', Value.int .i64 ((i : Int) + 1) = .int .i64 (i' : Nat) ∧ a < i' ∧ i' ≤ b + 1 ∧ dk'.size = d.size ∧ Mw (fun x => x = blk) (w.alloc (.cells #[.func (.func g) #[] lb, .func (.func sf) #[] sb] (ρ.t 44))) w' ∧
            AtR enc k w blk off dk' w' ∧ insOuter lt a b i' dk' = insOuter lt a b (a + 1) d := fun hs w' bq =>
          ⟨i + 1, dj, by go_num, by omega, by omega, hsj, HM2.out.trans (Mw.of_below bq), AtR.below HA2.out bq hblk,
            by rw [← HO.out, insOuter_go _ _ _ _ _ hlt, ← HI.out, insInner_stop _ _ _ _ hs]⟩
        have OUT : Hid _ := out
        clear out
        by_cases hja : a < j
        · have hl := hless wr dj HA2.out hsj j (j - 1) (by omega) (by omega)
          rw [show (((j - 1 : Nat) : Int)) = (j : Int) - 1 by omega] at hl
          cases hlv : lt dj[j]! dj[j - 1]! with
          | true =>
            rw [hlv] at hl
            go_wp2_with (go_at_fn g; refine hl.mono ?_; rintro e w' ⟨rfl, bq⟩; have d1 := cb'.out w' (HM2.out.trans (Mw.of_below bq)); obtain ⟨e0, e1⟩ := d1)
            have hA3 := AtR.below HA2.out bq hblk
            have hs := hswap w' dj hA3.1 hsj j (j - 1) (by omega) (by omega)
            rw [show (((j - 1 : Nat) : Int)) = (j : Int) - 1 by omega] at hs
            rw [hs, Oper.upon_value]
            go_wp2
            go_roundw
            case rel =>
              (repeat apply Exists.intro)
              refine ⟨⟨j - 1, swp dj j (j - 1), by congr 1 <;> omega, by omega, by omega, by rw [size_swp]; exact hsj, ?_, hA3.swap hk j (j - 1) (by omega) (by omega), ?_⟩, by rw [decide_eq_true hlt, show ((j - 1 : Nat) : Int) = (j : Int) - 1 by omega]⟩
              · exact ((HM2.out.trans (Mw.of_below bq)).trans (Mw.puts _ _ _)).trans (Mw.puts _ _ _)
              · rw [← HI.out, insInner_go lt a j dj hja hlv]
            case measure => simp [intOf]; omega
          | false =>
            rw [hlv] at hl
            go_wp2_with (go_at_fn g; refine hl.mono ?_; rintro e w' ⟨rfl, bq⟩)
            go_roundw
            case rel => exact OUT.out (Or.inr hlv) _ bq
            case measure => simp [intOf]; omega
        · go_wp2
          go_roundw
          case rel => exact OUT.out (Or.inl (by omega)) _ (Below.refl _ _)
          case measure => simp [intOf]; omega
    · -- the outer loop is at its end
      have hge : ¬ i < b := by assumption
      go_end0
      refine ⟨rfl, ?_⟩
      have := HA.out
      unfold Sort.insertionSort
      rw [← HO.out, insOuter_stop _ _ _ _ _ hge]
      exact this
theorem LessA.alloc {g : Nat} {lb : Array Value} {enc : α → List Value} {k : Nat} {lt : α → α → Bool} {blk off size : Nat} {w : World} (h : LessA P g lb enc k lt blk off size w) (o : Obj) : LessA P g lb enc k lt blk off size (w.alloc o) :=
  fun wr dk hA hs => h wr dk ⟨hA.1, ((Mw.refl _ w).alloc o).trans hA.2⟩ hs
set_option maxHeartbeats 1600000 in
set_option maxRecDepth 100000 in
theorem stable_at (L : LaysGt.n15 P ρ) (enc : α → List Value) (k : Nat) (hk : ∀ x, (enc x).length = k) (lt : α → α → Bool) (g : Nat) (lb : Array Value) (sf : Nat) (sb : Array Value) (blk off : Nat) (d : Array α) (W : World)
    (eg : ∀ args w, (callFunc g args).run P w = .ok (.enter g args) w) (hless : LessA P g lb enc k lt blk off d.size W) (hswap : SwapSwapsK P sf sb enc k blk off d.size)
    (hH : HoldsK enc k W blk off d) (hblk : blk < W.heap.size) (h20 : d.size < 20) :
    Calls P (ρ.f 15) #[.agg #[.func (.func g) #[] lb, .func (.func sf) #[] sb], .int .i64 d.size] W fun e w' => e = .returned (.tuple #[]) ∧ AtR enc k W blk off (Sort.insertionSort lt d 0 d.size) w' := by
  have mixed := L.mixed; have t0 := L.t0; have a0 := L.a0; have z0 := L.z0; have v0 := L.v0; have t3 := L.t3; have a3 := L.a3; have z3 := L.z3; have v3 := L.v3; have t4 := L.t4; have a4 := L.a4; have z4 := L.z4; have v4 := L.v4; have t26 := L.t26; have a26 := L.a26; have z26 := L.z26; have v26 := L.v26; have t38 := L.t38; have a38 := L.a38; have z38 := L.z38; have v38 := L.v38; have t42 := L.t42; have a42 := L.a42; have z42 := L.z42; have v42 := L.v42; have t47 := L.t47; have a47 := L.a47; have z47 := L.z47; have v47 := L.v47
  have u42 := run_underlying L.t42
  have e29 : ∀ args w, (callFunc (ρ.f 29) args).run P w = .ok (.enter (ρ.f 29) args) w := enters_of L.f29 (by kernel_rfl) rfl
  have LI : LaysGg.n26 P ρ.viaGt := ({ L with } : LaysGt.n29 P ρ).elder
  have hH1 : HoldsK enc k (W.alloc (.cells #[.func (.func g) #[] lb, .func (.func sf) #[] sb] (ρ.t 42))) blk off d := by rw [alloc_eq_grow]; exact holdsK_grow enc k W _ blk off d hblk hH
  have hb1 : blk < (W.alloc (.cells #[.func (.func g) #[] lb, .func (.func sf) #[] sb] (ρ.t 42))).heap.size := by simp; omega
  have hc0 := ins_at LI enc k hk lt g lb sf sb blk off 0 d.size d _ (hless.alloc _) hswap hH1 hb1 (Nat.zero_le _) (Nat.le_refl _) (by omega) eg
  have hc : Calls P (ρ.f 29) #[.agg #[.func (.func g) #[] lb, .func (.func sf) #[] sb], .int .i64 (0 : Nat), .int .i64 d.size] (W.alloc (.cells #[.func (.func g) #[] lb, .func (.func sf) #[] sb] (ρ.t 42))) fun e w' => e = .returned (.tuple #[]) ∧ AtR enc k W blk off (Sort.insertionSort lt d 0 d.size) w' := by
    refine Calls.mono hc0 ?_
    rintro e w' ⟨rfl, hA⟩
    exact ⟨rfl, hA.1, ((Mw.refl _ W).alloc _).trans hA.2⟩
  clear hless hswap hH hc0 hH1
  go_enter L.f15, BodyGt.n15_ntmps ρ
  go_wp2
  refine wp_loop_rounds 1 ?_
  rw [rounds_succ]
  go_wp2_with (go_at_fn (ρ.f 29); refine hc.mono ?_; rintro e w1 ⟨rfl, hA⟩)
  refine wp_loop_rounds 1 ?_
  rw [rounds_succ]
  go_wp2
  all_goals first | (exfalso; omega) | (go_end0; exact ⟨rfl, hA⟩)
/-- sort.SliceStable at 2 to 19 structs, where what compares may make blocks: the insertion sort's row -/
theorem sort_stable_at (L : LaysGt.n8 P ρ) (t e : TypeId) (i ie : TypeInfo) (hi : P.info? t = some i) (hd : i.desc = .slice e) (hpk : P.packed t = false) (hie : P.info? e = some ie) (ke : Nat) (hke : ∀ w, (Extern.Rtype.kind e).run P w = .ok ke w)
    (enc : α → List Value) (k : Nat) (hk : ∀ x, (enc x).length = k) (hs1 : ie.size = k) (hagg : ∀ w, (isAgg e).run P w = .ok true w) (h1 : ∀ x, ∀ v ∈ enc x, v.oneCell' = true) (lt : α → α → Bool) (g : Nat) (lb : Array Value)
    (eg : ∀ args w, (callFunc g args).run P w = .ok (.enter g args) w) (blk off c : Nat) (d : Array α) (h2 : 2 ≤ d.size) (h20 : d.size < 20)
    (f : Nat) (hf : P.funcs.findIdx? (·.name == "internal/reflectlite" ++ ".Swapper$" ++ toString (swapperK d.size ie ke)) = some f)
    (gS : Bool) (hx : ∀ args W, (callFunc f args).run P W = ((Extern.ReflectliteSwapper.swap gS args).run P W).andThen fun v w' => .ok (.value v) w')
    (w : World) (hless : LessA P g lb enc k lt blk off d.size w) (hH : HoldsK enc k w blk off d) (hblk : blk < w.heap.size) :
    Calls P (ρ.f 8) #[.iface t (.slice (some ⟨blk, off, none⟩) d.size c), .func (.func g) #[] lb] w fun e w' =>
      e = .returned (.tuple #[]) ∧ AtR enc k w blk off (Sort.insertionSort lt d 0 d.size) w' := by
  refine Any.sort_SliceStable_of_stable L t e i ie hi hd hpk hie ke hke _ d.size c (by omega) f hf (.func g) #[] lb w _ ?_
  have hB : sliceBound P e ie ke (some ⟨blk, off, none⟩) d.size c = #[.slice (some ⟨blk, off, none⟩) d.size c, typeHandle P e] := by
    unfold sliceBound; rw [if_neg (swapperK_gt _ _ _ h2)]
  rw [hB]
  unfold stableWorld
  have hp := stable_at (P := P) (ρ := ρ) { L with } enc k hk lt g lb f _ blk off d _ eg ((hless.alloc (.cells #[.slice (some ⟨blk, off, none⟩) d.size c] t)).alloc (.cells #[.pointer (some ⟨P.globals.size, t, none⟩), .pointer (some ⟨w.heap.size, 0, none⟩), .int .u64 151] (ρ.t 36)))
    (swapSwapsK_of_literal gS f hx e ie hie enc k hk hs1 hagg h1 blk off d.size c) (by rw [alloc_eq_grow, alloc_eq_grow, grow_grow]; exact holdsK_grow enc k w _ blk off d hblk hH) (by simp; omega) h20
  refine Calls.mono hp ?_
  rintro e w' ⟨rfl, hA⟩
  exact ⟨rfl, hA.1, (((Mw.refl _ w).alloc _).alloc _).trans hA.2⟩
end Go.Proofs.YtgcdcfjaeehnbaaGreat
