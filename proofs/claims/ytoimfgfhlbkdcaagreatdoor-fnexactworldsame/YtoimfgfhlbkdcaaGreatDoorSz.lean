/- Whether all see the same: the program's way. -/
import Derived.Test.YtoimfgfhlbkdcaaGreatDoorSy
import Derived.Test.YtoimfgfhlbkdcaaGreatDoorTz
import Derived.Test.YtoimfgfhlbkdcaaGreatDoorWy
namespace Go.Proofs.YtoimfgfhlbkdcaaGreatDoor
open Go.ChangeShapes Go.WideShapes Go.ChangeAt Go.RowKit
attribute [local go_sem ↓] Go.wp_at_zero Go.wp_at_succ
theorem keyed9 : Maps.Keyed Tryz.prog 9 := Maps.string_keyed Tryz.underlying9
theorem mapS_below {w w' : World} {mb c : Nat} {D : DataW Unit} (h : w.ownsMap Tryz.prog 9 (plainElem Tryz.prog 3) mb c D) (hb : Below w.heap.size w w') : w'.ownsMap Tryz.prog 9 (plainElem Tryz.prog 3) mb c D := by
  have hl := h.lt
  obtain ⟨es, clock, e1, r⟩ := h
  exact ⟨es, clock, (hb.block mb hl).trans e1, r⟩
theorem wrap_wf (n : Int) : (Lit.int .i64 (wrap64 n)).wf = true := by
  unfold wrap64
  exact WalkArith.wf_i64 (by omega)
set_option maxRecDepth 20000 in
set_option maxHeartbeats 8000000 in
theorem smI_any (na : Option Addr) (nl nc : Nat) (ra : Option Addr) (rl rc : Nat) (sa : Option Addr) (sl sc : Nat) (ba : Option Addr) (bl bc : Nat) (nd : Nat → Nod) (FR : Nat → Ft) (SD : Nat → Int) (BF : Nat → Fc) (w : World) (h : WdR w na nl ra rl sa sl ba bl nd FR SD BF) (ht : Tabs w) :
    Calls Tryz.prog 8 #[.agg #[.slice na nl nc, .slice ra rl rc, .slice sa sl sc, .slice ba bl bc]] w fun e w' => e = .returned (.bool (smB nl nd rl FR sl SD bl BF)) ∧ Below w.heap.size w w' := by
  have b0 := balloc (.cells #[.slice na nl nc, .slice ra rl rc, .slice sa sl sc, .slice ba bl bc] 34) (Below.refl w.heap.size w)
  have X := Ws.box (w := w) #[.slice na nl nc, .slice ra rl rc, .slice sa sl sc, .slice ba bl bc] 34
  have h0 := h.below b0
  have hsm : Hid (wldB nl nd rl FR sl SD bl BF = false → smB nl nd rl FR sl SD bl BF = false) := sm_w
  have hwt : Hid (wldB nl nd rl FR sl SD bl BF = true → wldB nl nd rl FR sl SD bl BF = true) := id
  have ok1 : ∀ w1, Below (w.alloc (.cells #[.slice na nl nc, .slice ra rl rc, .slice sa sl sc, .slice ba bl bc] 34)).heap.size (w.alloc (.cells #[.slice na nl nc, .slice ra rl rc, .slice sa sl sc, .slice ba bl bc] 34)) w1 → Calls Tryz.prog 24 #[.agg #[.slice na nl nc, .slice ra rl rc, .slice sa sl sc, .slice ba bl bc]] w1 fun e w' => e = .returned (.bool (wldB nl nd rl FR sl SD bl BF)) ∧ Below w1.heap.size w1 w' := fun w1 z => wldI_any na nl nc ra rl rc sa sl sc ba bl bc nd FR SD BF w1 (h0.below z)
  obtain ⟨ok, hok⟩ : ∃ q, Hid (wldB nl nd rl FR sl SD bl BF = q) := ⟨_, rfl⟩
  have ok2 : Hid _ := ok1
  rw [hok.out] at ok2
  clear ok1 hwt
  obtain ⟨ad, had⟩ : ∃ ad, Hid (w.heap.size = ad) := ⟨_, rfl⟩
  have t0 := ht.below b0
  clear h
  have hmm := @run_makeMap Tryz.prog
  go_enter Tryz.func8, Tryz.ntmps8
  go_upto_region 1 with fail
  have hlt : w.heap.size < (w.alloc (.cells #[.slice na nl nc, .slice ra rl rc, .slice sa sl sc, .slice ba bl bc] 34)).heap.size := by simp
  generalize w.alloc (.cells #[.slice na nl nc, .slice ra rl rc, .slice sa sl sc, .slice ba bl bc] 34) = u at *
  have e0 := X.c 0 (.slice na nl nc) rfl
  have e1 := X.c 1 (.slice ra rl rc) rfl
  have e2 := X.c 2 (.slice sa sl sc) rfl
  have e3 := X.c 3 (.slice ba bl bc) rfl
  rw [had.out] at e0 e1 e2 e3 hlt ⊢
  clear X
  go_wp2_with fail
  refine (ok2.out _ (Below.refl _ _)).mono ?_
  rintro r u1 ⟨rfl, k1⟩
  replace e0 := keep_below k1 e0
  replace e1 := keep_below k1 e1
  replace e2 := keep_below k1 e2
  replace e3 := keep_below k1 e3
  replace h0 := h0.below k1
  replace t0 := t0.below k1
  have hadB : ad < u1.heap.size := by have := k1.size; omega
  replace b0 := btrans b0 k1
  clear k1 ok2 hlt
  cases ok
  · have hf : Hid (smB nl nd rl FR sl SD bl BF = false) := hsm.out hok.out
    clear hsm hok
    go_wp2
    go_ret
    exact ⟨ret_bool hf.out.symm, b0⟩
  · clear hsm
    have hnl := h0.hn
    have b1 := balloc (.map #[] 0) (Below.refl u1.heap.size u1)
    have hm0 : (u1.alloc (.map #[] 0)).ownsMap Tryz.prog 9 (plainElem Tryz.prog 3) u1.heap.size 0 (.map [] : DataW Unit) := World.ownsMap_made u1 _ _ _
    have hBs : u1.heap.size < (u1.alloc (.map #[] 0)).heap.size := by simp
    go_upto_region 4 with fail
    clear hmm
    generalize u1.alloc (.map #[] 0) = u2 at *
    obtain ⟨B, hB⟩ : ∃ B, Hid (u1.heap.size = B) := ⟨_, rfl⟩
    have b1' : Below B u1 u2 := hB.out ▸ b1
    have hm0' : u2.ownsMap Tryz.prog 9 (plainElem Tryz.prog 3) B 0 (.map [] : DataW Unit) := hB.out ▸ hm0
    rw [hB.out] at hadB hBs ⊢
    clear hm0 b1
    have d0 := (b1'.cell (p := ⟨ad, 0, none⟩) hadB).trans e0
    go_wp2_with fail
    go_loopw [5, 6, 14] (fun _ _ i wr => ∃ (k : Nat) (D : DataW Unit), k ≤ nl ∧ i = .int .i64 k ∧ wr.ownsMap Tryz.prog 9 (plainElem Tryz.prog 3) B k D ∧ MI nd k D ∧ Below B u1 wr ∧ (∀ j, j < k → aw (nd j) = true → jsB nl nd (viewN (nd j)) = true)) (fun _ _ i _ => nl - (intOf i).toNat)
    case atStart => exact ⟨0, .map [], Nat.zero_le _, rfl, hm0', MI.nil nd, b1', fun j h1 => by omega⟩
    case round =>
      obtain ⟨k, D, hk, rfl, hm, hMI, hb, hall⟩ := hrel
      have hbu : Below u1.heap.size u1 wr := hB.out ▸ hb
      have hBw : B ≤ wr.heap.size := by have := hbu.size; have := hB.out; omega
      by_cases hlt : k < nl
      · obtain ⟨b, off, hna, _, hf⟩ := (h0.n.below hbu) (by omega)
        obtain ⟨L, c1, c2⟩ := hf k hlt
        have i0 : (0 : Int) ≤ (k : Int) := by omega
        have i1 : (k : Int) < (nl : Int) := by omega
        have hrow := h0.below hbu
        have htab := t0.below hbu
        obtain ⟨n, hnk⟩ : ∃ n, Hid (nd k = n) := ⟨_, rfl⟩
        rw [hnk.out] at c1 c2
        obtain ⟨pa, hpa⟩ : ∃ q, Hid (aw n = q) := ⟨_, rfl⟩
        clear hf
        have hBx := Ws.box (w := wr) #[.int .i64 0, .bool false, .bool false, .bool false, .int .i64 0, .int .i64 0, .int .i64 0, .int .i64 0, .slice none 0 0, .slice none 0 0, .int .i64 0, .int .i64 0, .int .i64 0, .bool false, .slice none 0 0, .int .i64 0, .int .i64 0, .int .i64 0, .int .i64 0, .slice none 0 0, .slice none 0 0] 52
        have hth := hBx.there (n := 21) rfl
        have hu1 : Below wr.heap.size wr ((wr.alloc (.cells #[.int .i64 0, .bool false, .bool false, .bool false, .int .i64 0, .int .i64 0, .int .i64 0, .int .i64 0, .slice none 0 0, .slice none 0 0, .int .i64 0, .int .i64 0, .int .i64 0, .bool false, .slice none 0 0, .int .i64 0, .int .i64 0, .int .i64 0, .int .i64 0, .slice none 0 0, .slice none 0 0] 52)).setCells wr.heap.size 0 (ndC n L).toList) := below_cells _ _ _ _ (Nat.le_refl _) (balloc _ (Below.refl _ _))
        have hrg := World.rangeAt_setCells_same (wr.alloc (.cells #[.int .i64 0, .bool false, .bool false, .bool false, .int .i64 0, .int .i64 0, .int .i64 0, .int .i64 0, .slice none 0 0, .slice none 0 0, .int .i64 0, .int .i64 0, .int .i64 0, .bool false, .slice none 0 0, .int .i64 0, .int .i64 0, .int .i64 0, .int .i64 0, .slice none 0 0, .slice none 0 0] 52)) wr.heap.size 0 (ndC n L).toList hth
        clear hBx
        rw [hna]
        go_upto_region 7 with (first | (refine wpList_load_mid rfl 52 _ rfl b (off + k * 21) rfl (ndC n L).toList _ c1 Tryz.underlying52 rfl size51 ?_) | (refine wpList_store_mid rfl 52 _ _ rfl wr.heap.size 0 (ndC n L) rfl rfl hth size51 (by kernel_rfl) ?_))
        clear hth c1
        generalize ((wr.alloc (.cells #[.int .i64 0, .bool false, .bool false, .bool false, .int .i64 0, .int .i64 0, .int .i64 0, .int .i64 0, .slice none 0 0, .slice none 0 0, .int .i64 0, .int .i64 0, .int .i64 0, .bool false, .slice none 0 0, .int .i64 0, .int .i64 0, .int .i64 0, .int .i64 0, .slice none 0 0, .slice none 0 0] 52)).setCells wr.heap.size 0 (ndC n L).toList) = v5 at *
        have hm5 := mapS_below hm hu1
        obtain ⟨an, han⟩ : ∃ an, Hid (wr.heap.size = an) := ⟨_, rfl⟩
        have hrg' : v5.rangeAt an 0 (ndC n L).toList := han.out ▸ hrg
        clear hrg hm
        rw [han.out]
        go_wp2_with (refine wpList_load_mid rfl 52 _ rfl an 0 rfl (ndC n L).toList _ hrg' Tryz.underlying52 rfl size51 ?_)
        refine (awk_any n L pa hpa.out _).mono ?_
        rintro e v6 ⟨rfl, k6⟩
        have w6 := btrans hu1 k6
        have hm6 := mapS_below hm5 k6
        have hrg6 := range_below' hrg' k6
        clear hrg' hm5 k6 hu1
        cases pa
        · have jb : Below B u1 v6 := hb.trans (w6.mono hBw)
          have hMI' := hMI.skip (show aw (nd k) = false by rw [hnk.out, hpa.out])
          have hall' : Hid (∀ j, j < k + 1 → aw (nd j) = true → jsB nl nd (viewN (nd j)) = true) := fun j hj ha => by
            by_cases e : j = k
            · subst e
              rw [hnk.out, hpa.out] at ha
              cases ha
            · exact hall j (by omega) ha
          clear hall hMI hrg6 w6 c2 hrow htab hpa hnk
          go_wp2
          go_roundw
          case rel => exact ⟨k + 1, D, by omega, by go_num, hm6.mono (by omega), hMI', jb, hall'.out⟩
          case measure => simp [intOf]; omega
        · go_wp2_with (refine wpList_load_mid rfl 52 _ rfl an 0 rfl (ndC n L).toList _ hrg6 Tryz.underlying52 rfl size51 ?_)
          refine (view_nod n L _ (c2.below w6)).mono ?_
          rintro e v7 ⟨⟨v, rfl, o7⟩, k7⟩
          obtain ⟨va, vc, rfl, _, _, hF⟩ := own_facts o7
          have w7 := btrans w6 k7
          have hm7 := mapS_below hm6 k7
          have jb : Below B u1 v7 := hb.trans (w7.mono hBw)
          have f0 := (jb.cell (p := ⟨ad, 0, none⟩) hadB).trans e0
          have f1 := (jb.cell (p := ⟨ad, 1, none⟩) hadB).trans e1
          have f2 := (jb.cell (p := ⟨ad, 2, none⟩) hadB).trans e2
          have f3 := (jb.cell (p := ⟨ad, 3, none⟩) hadB).trans e3
          clear hm6 hrg6 o7 c2 w6 k7
          rw [hna] at f0
          have hvl := viewN_len n
          obtain ⟨x, hx⟩ : ∃ x, Hid (vtx n = x) := ⟨_, rfl⟩
          obtain ⟨js, hjs⟩ : ∃ q, Hid (jsB nl nd (viewN n) = q) := ⟨_, rfl⟩
          have hjs' : Hid (jsB nl nd (viewN (nd k)) = js) := by
            unfold Hid
            rw [hnk.out, hjs.out]
          have hxs : x.size ≤ 200 := by rw [← hx.out]; exact txt_len _ _
          have hsee : ∀ w1, Below v7.heap.size v7 w1 → Calls Tryz.prog 27 #[.agg #[.slice (some ⟨b, off, none⟩) nl nc, .slice ra rl rc, .slice sa sl sc, .slice ba bl bc], .slice va (viewN n).length vc] w1 fun e w' => e = .returned (.bool js) ∧ Below w1.heap.size w1 w' := fun w1 q => by
            rw [← hjs.out, ← hna]
            exact sees_any na nl nc ra rl rc sa sl sc ba bl bc nd FR SD BF va vc (viewN n) w1 (hrow.below (btrans w7 q)) (hF.below q) hvl
          have htxt : ∀ w1, Below v7.heap.size v7 w1 → Calls Tryz.prog 28 #[.slice va (viewN n).length vc] w1 fun e w' => e = .returned (.string x) ∧ Below w1.heap.size w1 w' := fun w1 q =>
            textI va (viewN n).length vc (fun k => (viewN n).getD k Fc.zero) x w1 (hF.below q) (by omega) (htab.below (btrans w7 q)) hx.out
          have hkl : Hid (vky (nd k) = .string x.data.toList) := by
            unfold Hid vky
            rw [hnk.out, hx.out]
          have hak : aw (nd k) = true := by rw [hnk.out, hpa.out]
          clear hF hvl hrow htab hjs hx hpa hnk
          generalize (viewN n).length = vl at *
          go_wp2_with fail
          refine (hsee _ (Below.refl _ _)).mono ?_
          rintro e v8 ⟨rfl, k8⟩
          have hm8 := mapS_below hm7 k8
          clear hm7 f0 f1 f2 f3 hsee
          cases js
          · have hf : Hid (smB nl nd rl FR sl SD bl BF = false) := sm_js hlt hak hjs'.out
            have jb8 : Below B u1 v8 := jb.trans (k8.mono (by have := hB.out; have := jb.size; omega))
            rw [← hB.out] at jb8
            have fin := btrans b0 jb8
            clear jb8
            clear hjs' hall hMI htxt hm8
            go_wp2
            go_ret
            exact ⟨ret_bool hf.out.symm, fin⟩
          · go_wp2_with fail
            refine (htxt _ k8).mono ?_
            rintro e v9 ⟨rfl, k9⟩
            have hm9 := mapS_below hm8 k9
            have jb9 : Below B u1 v9 := (jb.trans (k8.mono (by have := hB.out; have := jb.size; omega))).trans (k9.mono (by have := hB.out; have := jb.size; have := k8.size; omega))
            have hkey := WideMaps.keyOf_string_mk (P := Tryz.prog) Tryz.underlying9 (s := x) (by unfold maxLen; omega)
            have hall' : Hid (∀ j, j < k + 1 → aw (nd j) = true → jsB nl nd (viewN (nd j)) = true) := fun j hj ha => by
              by_cases e : j = k
              · subst e; exact hjs'.out
              · exact hall j (by omega) ha
            have hput := hMI.put hak
            rw [hkl.out] at hput
            have hput' : Hid _ := hput
            have hB9 : B ≤ v9.heap.size := by have := hB.out; have := jb9.size; omega
            clear htxt hm8 k8 k9 jb hjs' hall hMI hkl hput w7 hak
            go_wp2_with (at_lookup; refine wpList_lookup_own_int _ rfl _ _ 62 rfl 9 3 .i64 keyed9 Tryz.underlying62 Tryz.underlying3 (by kernel_rfl) B k D rfl hm9 _ _ rfl hkey ?_)
            intro cv _ _
            go_wp2_with (at_mapUpdate; refine wpList_mapUpdate_own _ rfl _ _ _ 62 rfl 9 3 keyed9 Tryz.underlying62 _ B k D rfl hm9 (by unfold maxLen; omega) _ _ _ rfl rfl hkey (.lit (.int .i64 (wrap64 (cv + 1)))) [] (plainElem_int Tryz.underlying3 (wrap_wf _)) ?_)
            intro v10 hm10 hgr
            have jb10 : Below B u1 v10 := jb9.trans ((Below.refl B v9).grown hgr hB9 (fun q hq => by cases hq; exact Nat.le_refl _))
            clear hgr hm9 jb9
            go_wp2
            go_roundw
            case rel => exact ⟨k + 1, _, by omega, by go_num, hm10, hput'.out _, jb10, hall'.out⟩
            case measure => simp [intOf]; omega
      · obtain rfl : k = nl := by omega
        have fin := btrans b0 hbu
        have hans : Hid (smB k nd rl FR sl SD bl BF = decide ((Maps.size D : Int) ≤ 1)) := by
          unfold Hid
          by_cases q : Maps.size D ≤ 1
          · rw [decide_eq_true (by omega : (Maps.size D : Int) ≤ 1)]
            exact sm_yes hok.out hall (hMI.o.1 q)
          · rw [decide_eq_false (by omega : ¬ (Maps.size D : Int) ≤ 1)]
            cases e : smB k nd rl FR sl SD bl BF
            · rfl
            · exfalso
              unfold smB at e
              rw [Bool.and_eq_true, decide_eq_true_iff] at e
              exact q (hMI.o.2 fun i j hi hj ha hb => fc_list.1 (e.2 i hi j hj ha hb))
        clear hall hMI hok
        go_wp2_with (at_len; refine wpList_len_own _ rfl _ 62 rfl 9 3 Tryz.underlying62 _ B k D rfl hm ?_)
        go_wp2
        go_ret
        exact ⟨ret_bool hans.out.symm, fin⟩
end Go.Proofs.YtoimfgfhlbkdcaaGreatDoor
/- Whether all see the same: the model's way. -/
namespace Go.Proofs.YtoimfgfhlbkdcaaGreatDoor
open Go.ChangeShapes Go.WideShapes Go.ChangeAt Go.RowKit
attribute [local go_sem ↓] Go.wp_at_zero Go.wp_at_succ
/-- where the model's first loop stands: nobody was awake yet, or what the first one sees, all others alike -/
def Fst (nd : Nat → Nod) (k : Nat) (wr : World) (fv vv : Value) : Prop :=
  (fv = .bool true ∧ (∃ va vc, vv = .slice va 0 vc) ∧ ∀ j, j < k → aw (nd j) = false) ∨
  (fv = .bool false ∧ ∃ j0 va vc, j0 < k ∧ aw (nd j0) = true ∧ vv = .slice va (viewN (nd j0)).length vc ∧ FSl wr va (viewN (nd j0)).length (fun i => (viewN (nd j0)).getD i Fc.zero) ∧ ∀ j, j < k → aw (nd j) = true → viewN (nd j) = (viewN (nd j0)))
theorem Fst.below {nd : Nat → Nod} {k : Nat} {w w' : World} {fv vv : Value} (h : Fst nd k w fv vv) (hb : Below w.heap.size w w') : Fst nd k w' fv vv := by
  rcases h with h | ⟨h1, j0, va, vc, h2, h3, h4, h5, h6⟩
  · exact .inl h
  · exact .inr ⟨h1, j0, va, vc, h2, h3, h4, h5.below hb, h6⟩
theorem Fst.skip {nd : Nat → Nod} {k : Nat} {w : World} {fv vv : Value} (h : Fst nd k w fv vv) (hk : aw (nd k) = false) : Fst nd (k + 1) w fv vv := by
  rcases h with ⟨h1, h2, h3⟩ | ⟨h1, j0, va, vc, h2, h3, h4, h5, h6⟩
  · refine .inl ⟨h1, h2, fun j hj => ?_⟩
    by_cases e : j = k
    · subst e; exact hk
    · exact h3 j (by omega)
  · refine .inr ⟨h1, j0, va, vc, by omega, h3, h4, h5, fun j hj ha => ?_⟩
    by_cases e : j = k
    · subst e
      rw [hk] at ha
      cases ha
    · exact h6 j (by omega) ha
set_option maxRecDepth 20000 in
set_option maxHeartbeats 8000000 in
theorem smS_any (na : Option Addr) (nl nc : Nat) (ra : Option Addr) (rl rc : Nat) (sa : Option Addr) (sl sc : Nat) (ba : Option Addr) (bl bc : Nat) (nd : Nat → Nod) (FR : Nat → Ft) (SD : Nat → Int) (BF : Nat → Fc) (w : World) (h : WdR w na nl ra rl sa sl ba bl nd FR SD BF) :
    Calls Tryz.prog 6 #[.agg #[.slice na nl nc, .slice ra rl rc, .slice sa sl sc, .slice ba bl bc]] w fun e w' => e = .returned (.bool (smB nl nd rl FR sl SD bl BF)) ∧ Below w.heap.size w w' := by
  have b0 := balloc (.cells #[.slice na nl nc, .slice ra rl rc, .slice sa sl sc, .slice ba bl bc] 34) (Below.refl w.heap.size w)
  have X := Ws.box (w := w) #[.slice na nl nc, .slice ra rl rc, .slice sa sl sc, .slice ba bl bc] 34
  have h0 := h.below b0
  have hsm : Hid (wldB nl nd rl FR sl SD bl BF = false → smB nl nd rl FR sl SD bl BF = false) := sm_w
  have hwt : Hid (wldB nl nd rl FR sl SD bl BF = true → wldB nl nd rl FR sl SD bl BF = true) := id
  have ok1 : ∀ w1, Below (w.alloc (.cells #[.slice na nl nc, .slice ra rl rc, .slice sa sl sc, .slice ba bl bc] 34)).heap.size (w.alloc (.cells #[.slice na nl nc, .slice ra rl rc, .slice sa sl sc, .slice ba bl bc] 34)) w1 → Calls Tryz.prog 16 #[.agg #[.slice na nl nc, .slice ra rl rc, .slice sa sl sc, .slice ba bl bc]] w1 fun e w' => e = .returned (.bool (wldB nl nd rl FR sl SD bl BF)) ∧ Below w1.heap.size w1 w' := fun w1 z => wldS_any na nl nc ra rl rc sa sl sc ba bl bc nd FR SD BF w1 (h0.below z)
  obtain ⟨ok, hok⟩ : ∃ q, Hid (wldB nl nd rl FR sl SD bl BF = q) := ⟨_, rfl⟩
  have ok2 : Hid _ := ok1
  rw [hok.out] at ok2
  clear ok1 hwt
  obtain ⟨ad, had⟩ : ∃ ad, Hid (w.heap.size = ad) := ⟨_, rfl⟩
  clear h
  go_enter Tryz.func6, Tryz.ntmps6
  go_upto_region 1 with fail
  have hlt : w.heap.size < (w.alloc (.cells #[.slice na nl nc, .slice ra rl rc, .slice sa sl sc, .slice ba bl bc] 34)).heap.size := by simp
  generalize w.alloc (.cells #[.slice na nl nc, .slice ra rl rc, .slice sa sl sc, .slice ba bl bc] 34) = u at *
  have e0 := X.c 0 (.slice na nl nc) rfl
  have e1 := X.c 1 (.slice ra rl rc) rfl
  have e2 := X.c 2 (.slice sa sl sc) rfl
  have e3 := X.c 3 (.slice ba bl bc) rfl
  rw [had.out] at e0 e1 e2 e3 hlt ⊢
  clear X
  go_wp2_with fail
  refine (ok2.out _ (Below.refl _ _)).mono ?_
  rintro r u1 ⟨rfl, k1⟩
  replace e0 := keep_below k1 e0
  replace h0 := h0.below k1
  replace b0 := btrans b0 k1
  clear k1 ok2 hlt e1 e2 e3
  cases ok
  · have hf : Hid (smB nl nd rl FR sl SD bl BF = false) := hsm.out hok.out
    clear hsm hok
    go_wp2
    go_ret
    exact ⟨ret_bool hf.out.symm, b0⟩
  · clear hsm
    have hnl := h0.hn
    have b1 := balloc (.cells #[] 57) (Below.refl u1.heap.size u1)
    go_upto_region 5 with fail
    replace e0 := keep_below b1 e0
    replace h0 := h0.below b1
    replace b0 := btrans b0 b1
    clear b1
    generalize u1.heap.size = g0 at *
    generalize u1.alloc (.cells #[] 57) = u2 at *
    go_wp2_with fail
    go_loopw [3, 4, 5, 6, 7] (fun fv vv i _ _ wr => ∃ k : Nat, k ≤ nl ∧ i = .int .i64 k ∧ Below u2.heap.size u2 wr ∧ Fst nd k wr fv vv) (fun _ _ i _ _ _ => nl - (intOf i).toNat)
    case atStart => exact ⟨0, Nat.zero_le _, rfl, Below.refl _ _, .inl ⟨rfl, ⟨_, _, rfl⟩, fun j h1 => by omega⟩⟩
    case round =>
      obtain ⟨k, hk, rfl, hb, hF⟩ := hrel
      have d0 := keep_below hb e0
      by_cases hlt : k < nl
      · obtain ⟨b, off, hna, _, hf⟩ := (h0.n.below hb) (by omega)
        obtain ⟨L, c1, c2⟩ := hf k hlt
        have i0 : (0 : Int) ≤ (k : Int) := by omega
        have i1 : (k : Int) < (nl : Int) := by omega
        obtain ⟨n, hnk⟩ : ∃ n, Hid (nd k = n) := ⟨_, rfl⟩
        rw [hnk.out] at c1 c2
        obtain ⟨pa, hpa⟩ : ∃ q, Hid (aw n = q) := ⟨_, rfl⟩
        clear hf
        have hBx := Ws.box (w := wr) #[.int .i64 0, .bool false, .bool false, .bool false, .int .i64 0, .int .i64 0, .int .i64 0, .int .i64 0, .slice none 0 0, .slice none 0 0, .int .i64 0, .int .i64 0, .int .i64 0, .bool false, .slice none 0 0, .int .i64 0, .int .i64 0, .int .i64 0, .int .i64 0, .slice none 0 0, .slice none 0 0] 52
        have hth := hBx.there (n := 21) rfl
        have hu1 : Below wr.heap.size wr ((wr.alloc (.cells #[.int .i64 0, .bool false, .bool false, .bool false, .int .i64 0, .int .i64 0, .int .i64 0, .int .i64 0, .slice none 0 0, .slice none 0 0, .int .i64 0, .int .i64 0, .int .i64 0, .bool false, .slice none 0 0, .int .i64 0, .int .i64 0, .int .i64 0, .int .i64 0, .slice none 0 0, .slice none 0 0] 52)).setCells wr.heap.size 0 (ndC n L).toList) := below_cells _ _ _ _ (Nat.le_refl _) (balloc _ (Below.refl _ _))
        have hrg := World.rangeAt_setCells_same (wr.alloc (.cells #[.int .i64 0, .bool false, .bool false, .bool false, .int .i64 0, .int .i64 0, .int .i64 0, .int .i64 0, .slice none 0 0, .slice none 0 0, .int .i64 0, .int .i64 0, .int .i64 0, .bool false, .slice none 0 0, .int .i64 0, .int .i64 0, .int .i64 0, .int .i64 0, .slice none 0 0, .slice none 0 0] 52)) wr.heap.size 0 (ndC n L).toList hth
        clear hBx
        rw [hna] at d0
        clear hna
        go_upto_region 9 with (first | (refine wpList_load_mid rfl 52 _ rfl b (off + k * 21) rfl (ndC n L).toList _ c1 Tryz.underlying52 rfl size51 ?_) | (refine wpList_store_mid rfl 52 _ _ rfl wr.heap.size 0 (ndC n L) rfl rfl hth size51 (by kernel_rfl) ?_))
        clear hth c1 d0
        generalize ((wr.alloc (.cells #[.int .i64 0, .bool false, .bool false, .bool false, .int .i64 0, .int .i64 0, .int .i64 0, .int .i64 0, .slice none 0 0, .slice none 0 0, .int .i64 0, .int .i64 0, .int .i64 0, .bool false, .slice none 0 0, .int .i64 0, .int .i64 0, .int .i64 0, .int .i64 0, .slice none 0 0, .slice none 0 0] 52)).setCells wr.heap.size 0 (ndC n L).toList) = v5 at *
        obtain ⟨an, han⟩ : ∃ an, Hid (wr.heap.size = an) := ⟨_, rfl⟩
        have hrg' : v5.rangeAt an 0 (ndC n L).toList := han.out ▸ hrg
        clear hrg
        rw [han.out]
        have g1 := hrg' 1 (.bool n.up) rfl
        have g2 := hrg' 2 (.bool n.gone) rfl
        simp only [Nat.zero_add] at g1 g2
        have hF5 := hF.below hu1
        have b5 := btrans hb hu1
        have c5 := c2.below hu1
        have hpu : Hid ((n.up && !n.gone) = pa) := hpa
        have hview := viewS_nod n L _ c5
        obtain ⟨T, hT⟩ : ∃ T, Hid (viewN n = T) := ⟨_, rfl⟩
        have hTl : T.length ≤ 8 := by rw [← hT.out]; exact viewN_len n
        rw [hT.out] at hview
        have hTk : Hid (viewN (nd k) = T) := by
          unfold Hid
          rw [hnk.out, hT.out]
        have hak : Hid (aw (nd k) = pa) := by
          unfold Hid
          rw [hnk.out, hpa.out]
        clear hF hu1 hb c2 hT hnk hpa c5
        generalize n.up = pu at *
        generalize n.gone = pg at *
        cases pa
        · have hF6 := hF5.skip hak.out
          clear hF5 hview hTk hak hrg'
          cases pu
          · go_wp2
            go_roundw
            case rel => exact ⟨k + 1, by omega, by go_num, b5, hF6⟩
            case measure => simp [intOf]; omega
          · cases pg
            · cases hpu.out
            · go_wp2
              go_roundw
              case rel => exact ⟨k + 1, by omega, by go_num, b5, hF6⟩
              case measure => simp [intOf]; omega
        · obtain rfl : pu = true := by
            have := hpu.out
            cases pu
            · cases this
            · rfl
          obtain rfl : pg = false := by
            have := hpu.out
            cases pg
            · rfl
            · cases this
          clear hpu
          go_wp2_with (refine wpList_load_mid rfl 52 _ rfl an 0 rfl (ndC n L).toList _ hrg' Tryz.underlying52 rfl size51 ?_)
          refine hview.mono ?_
          rintro e v6 ⟨⟨v, rfl, o6⟩, k6⟩
          obtain ⟨va, vc, rfl, _, _, hS⟩ := own_facts o6
          replace hF5 := hF5.below k6
          have b6 := btrans b5 k6
          clear o6 hview g1 g2 hrg' k6 b5
          rcases hF5 with ⟨rfl, ⟨za, zc, rfl⟩, hnone⟩ | ⟨rfl, j0, za, zc, hj0, ha0, rfl, hS0, hsame⟩
          · have hFk : Hid (∀ w1, Below v6.heap.size v6 w1 → Fst nd (k + 1) w1 (.bool false) (.slice va T.length vc)) := fun w1 q => .inr ⟨rfl, k, va, vc, by omega, hak.out, by rw [hTk.out], by rw [hTk.out]; exact hS.below q, fun j hj ha => by
              by_cases e : j = k
              · subst e; rfl
              · rw [hnone j (by omega)] at ha
                cases ha⟩
            have hq : fcB T.length (fun k => T.getD k Fc.zero) T.length (fun k => T.getD k Fc.zero) = true := fc_list.2 rfl
            have hcall := fcs_any va T.length vc (fun k => T.getD k Fc.zero) va T.length vc (fun k => T.getD k Fc.zero) v6 hS hS (by omega) (by omega)
            rw [hq] at hcall
            clear hnone hq hS hTk hak
            go_wp2_with fail
            refine hcall.mono ?_
            rintro e v7 ⟨rfl, k7⟩
            have hF7 := hFk.out _ k7
            have b7 := btrans b6 k7
            clear hcall hFk k7 b6
            go_wp2
            go_roundw
            case rel => exact ⟨k + 1, by omega, by go_num, b7, hF7⟩
            case measure => simp [intOf]; omega
          · obtain ⟨q, hq⟩ : ∃ q, Hid (fcB T.length (fun k => T.getD k Fc.zero) (viewN (nd j0)).length (fun i => (viewN (nd j0)).getD i Fc.zero) = q) := ⟨_, rfl⟩
            have hcall := fcs_any va T.length vc (fun k => T.getD k Fc.zero) za (viewN (nd j0)).length zc (fun i => (viewN (nd j0)).getD i Fc.zero) v6 hS hS0 (by omega) (by have := viewN_len (nd j0); omega)
            rw [hq.out] at hcall
            have hcall' : Hid _ := hcall
            have hno : Hid (q = false → smB nl nd rl FR sl SD bl BF = false) := fun e => sm_ne (i := k) (j := j0) hlt (by omega) hak.out ha0 (fun e2 => by
              have := fc_list.2 (hTk.out.symm.trans e2)
              rw [hq.out, e] at this
              cases this)
            have hgo : Hid (q = true → ∀ w1, Below v6.heap.size v6 w1 → Fst nd (k + 1) w1 (.bool false) (.slice za (viewN (nd j0)).length zc)) := fun e w1 z => .inr ⟨rfl, j0, za, zc, by omega, ha0, rfl, hS0.below z, fun j hj ha => by
              by_cases e3 : j = k
              · subst e3
                rw [hTk.out]
                exact fc_list.1 (hq.out.trans e)
              · exact hsame j (by omega) ha⟩
            clear hcall hq hS hS0 hsame ha0 hTk hak
            generalize (viewN (nd j0)).length = zl at *
            go_wp2_with fail
            refine Calls.mono hcall'.out ?_
            rintro e v7 ⟨rfl, k7⟩
            have b7 := btrans b6 k7
            clear hcall' b6
            cases q
            · have hf : Hid (smB nl nd rl FR sl SD bl BF = false) := hno.out rfl
              have fin := btrans b0 b7
              clear hno hgo k7
              go_wp2
              go_ret
              exact ⟨ret_bool hf.out.symm, fin⟩
            · have hF7 := hgo.out rfl _ k7
              clear hno hgo k7
              go_wp2
              go_roundw
              case rel => exact ⟨k + 1, by omega, by go_num, b7, hF7⟩
              case measure => simp [intOf]; omega
      · obtain rfl : k = nl := by omega
        have b2 := btrans b0 hb
        rcases hF with ⟨rfl, _, hnone⟩ | ⟨rfl, j0, za, zc, hj0, ha0, rfl, hS0, hsame⟩
        · have hy : Hid (smB k nd rl FR sl SD bl BF = true) := sm_yes hok.out (fun j hj ha => by
            rw [hnone j hj] at ha
            cases ha) (fun i j hi _ ha => by
            rw [hnone i hi] at ha
            cases ha)
          clear hnone hok
          go_wp2
          go_ret
          exact ⟨ret_bool hy.out.symm, b2⟩
        · have hjs : Hid (jsB k nd (viewN (nd j0)) = false → smB k nd rl FR sl SD bl BF = false) := fun q => sm_js hj0 ha0 q
          have hjy : Hid (jsB k nd (viewN (nd j0)) = true → smB k nd rl FR sl SD bl BF = true) := fun q => sm_yes hok.out (fun j hj ha => by rw [hsame j hj ha]; exact q) (fun i j hi hj ha hb => by rw [hsame i hi ha, hsame j hj hb])
          have hTl := viewN_len (nd j0)
          have h2 := h0.below hb
          clear hsame hok ha0 hj0 h0
          generalize (viewN (nd j0)) = T at *
          go_wp2_with fail
          go_loopw [8, 9, 10] (fun i _ _ wt => ∃ m : Nat, m ≤ k ∧ i = .int .i64 m ∧ Below wr.heap.size wr wt ∧ (∀ j, j < m → aw (nd j) = alB T j)) (fun i _ _ _ => k - (intOf i).toNat)
          case atStart => exact ⟨0, Nat.zero_le _, rfl, Below.refl _ _, fun j h1 => by omega⟩
          case round =>
            obtain ⟨m, hm, rfl, hb3, hall⟩ := hrel
            have f0 := keep_below (btrans hb hb3) e0
            by_cases hlt3 : m < k
            · obtain ⟨b, off, hna, _, hf⟩ := (h2.n.below hb3) (by omega)
              obtain ⟨L, c1, _⟩ := hf m hlt3
              have i0 : (0 : Int) ≤ (m : Int) := by omega
              have i1 : (m : Int) < (k : Int) := by omega
              have c01 := c1 1 (.bool (nd m).up) rfl
              have c02 := c1 2 (.bool (nd m).gone) rfl
              have hno : Hid (((nd m).up && !(nd m).gone) ≠ alB T m → smB k nd rl FR sl SD bl BF = false) := fun q => hjs.out (js_no hlt3 q)
              have hyes : Hid (((nd m).up && !(nd m).gone) = alB T m → ∀ j, j < m + 1 → aw (nd j) = alB T j) := fun q j hj => by
                by_cases e : j = m
                · subst e; exact q
                · exact hall j (by omega)
              clear hall hf c1
              generalize (nd m).up = pu at *
              generalize (nd m).gone = pg at *
              rw [hna] at f0
              clear hna
              have hS3 := hS0.below hb3
              have hcall := sfind_any za T.length zc (fun i => T.getD i Fc.zero) (m : Int) _ hS3 (by omega)
              cases e : fnd T.length (fun i => T.getD i Fc.zero) (m : Int) with
              | none =>
                have ha : alB T m = false := by
                  unfold alB
                  rw [e]
                  rfl
                rw [ha] at hno hyes
                rw [e] at hcall
                have hcall' : Hid _ := hcall
                clear hcall e ha hS3
                go_wp2_with fail
                refine Calls.mono hcall'.out ?_
                rintro r v7 ⟨rfl, k7⟩
                have b7 := btrans hb3 k7
                have d0 := keep_below k7 f0
                have d1 := keep_below k7 c01
                have d2 := keep_below k7 c02
                clear hcall' f0 c01 c02 k7
                simp only [fndI]
                cases pu
                · clear d2
                  have hy' := hyes.out rfl
                  clear hyes hno
                  go_wp2
                  go_roundw
                  case rel => exact ⟨m + 1, by omega, by go_num, b7, hy'⟩
                  case measure => simp [intOf]; omega
                · cases pg
                  · skip
                    have hn' : Hid (smB k nd rl FR sl SD bl BF = false) := hno.out (by simp)
                    clear hyes hno
                    go_wp2
                    go_ret
                    exact ⟨ret_bool hn'.out.symm, btrans b2 b7⟩
                  · skip
                    have hy' := hyes.out rfl
                    clear hyes hno
                    go_wp2
                    go_roundw
                    case rel => exact ⟨m + 1, by omega, by go_num, b7, hy'⟩
                    case measure => simp [intOf]; omega
              | some j =>
                have hj := fnd_lt e
                have ha : alB T m = ((T.getD j Fc.zero).s == 1) := by
                  unfold alB
                  rw [e]
                  rfl
                obtain ⟨ps, hps⟩ : ∃ q, Hid (((T.getD j Fc.zero).s == 1) = q) := ⟨_, rfl⟩
                rw [ha, hps.out] at hno hyes
                rw [e] at hcall
                have hcall' : Hid _ := hcall
                clear hcall e ha
                obtain ⟨b', off', rfl, hbl', hfx⟩ := hS3 (by omega)
                obtain ⟨_, _, g2, _⟩ := hfx j hj
                dsimp only at g2
                have j0 : (0 : Int) ≤ (j : Int) := by omega
                have j1 : (j : Int) < (T.length : Int) := by omega
                have zs : ((T.getD j Fc.zero).s == 1) = ps := hps.out
                clear hfx hbl' hps
                generalize T.getD j Fc.zero = fx at *
                generalize T.length = tl at *
                go_wp2_with fail
                refine Calls.mono hcall'.out ?_
                rintro r v7 ⟨rfl, k7⟩
                have b7 := btrans hb3 k7
                have d0 := keep_below k7 f0
                have d1 := keep_below k7 c01
                have d2 := keep_below k7 c02
                have d3 := keep_below k7 g2
                clear hcall' f0 c01 c02 k7 g2
                simp only [fndI]
                cases ps
                · skip
                  cases pu
                  · clear d2
                    have hy' := hyes.out rfl
                    clear hyes hno
                    go_wp2
                    go_roundw
                    case rel => exact ⟨m + 1, by omega, by go_num, b7, hy'⟩
                    case measure => simp [intOf]; omega
                  · cases pg
                    · skip
                      have hn' : Hid (smB k nd rl FR sl SD bl BF = false) := hno.out (by simp)
                      clear hyes hno
                      go_wp2
                      go_ret
                      exact ⟨ret_bool hn'.out.symm, btrans b2 b7⟩
                    · skip
                      have hy' := hyes.out rfl
                      clear hyes hno
                      go_wp2
                      go_roundw
                      case rel => exact ⟨m + 1, by omega, by go_num, b7, hy'⟩
                      case measure => simp [intOf]; omega
                · skip
                  cases pu
                  · clear d2
                    have hn' : Hid (smB k nd rl FR sl SD bl BF = false) := hno.out (by simp)
                    clear hyes hno
                    go_wp2
                    go_ret
                    exact ⟨ret_bool hn'.out.symm, btrans b2 b7⟩
                  · cases pg
                    · skip
                      have hy' := hyes.out rfl
                      clear hyes hno
                      go_wp2
                      go_roundw
                      case rel => exact ⟨m + 1, by omega, by go_num, b7, hy'⟩
                      case measure => simp [intOf]; omega
                    · skip
                      have hn' : Hid (smB k nd rl FR sl SD bl BF = false) := hno.out (by simp)
                      clear hyes hno
                      go_wp2
                      go_ret
                      exact ⟨ret_bool hn'.out.symm, btrans b2 b7⟩
            · obtain rfl : m = k := by omega
              have hy : Hid (smB m nd rl FR sl SD bl BF = true) := hjy.out (decide_eq_true hall)
              clear hall
              go_wp2
              go_ret
              exact ⟨ret_bool hy.out.symm, btrans b2 hb3⟩
end Go.Proofs.YtoimfgfhlbkdcaaGreatDoor
/- Exact WorldSame, walked. -/
namespace Go.Proofs.YtoimfgfhlbkdcaaGreatDoor
open Go.ChangeShapes Go.WideShapes Go.ChangeAt Go.RowKit
def sm3_10 : List Stp := [⟨some 22, .load 34 (.tmp 5), 34, none, 0⟩, ⟨some 23, .load 27 (.tmp 1), 27, none, 0⟩, ⟨some 24, .call { callee := .value (.func 7), args := #[.tmp 23], argTypes := #[27] }, 34, none, 1⟩, ⟨some 25, .call { callee := .value (.func 9), args := #[.tmp 22, .tmp 24], argTypes := #[34, 34] }, 4, none, 1⟩, ⟨some 26, .unOp .not 4 (.tmp 25), 4, none, 0⟩]
def tm3_10 : List (Nat × Nat) := [(0, 0), (1, 0), (2, 1), (3, 1), (4, 0)]
set_option maxRecDepth 20000 in
set_option maxHeartbeats 4000000 in
theorem exWorldSame_walk (na : Option Addr) (nl nc : Nat) (ra : Option Addr) (rl rc : Nat) (sa : Option Addr) (sl sc : Nat) (ba : Option Addr) (bl bc : Nat) (R : Nat → Rn) (FR : Nat → Ft) (SD : Nat → Int) (BF : Nat → Fc) (w : World) (h : WdRaw w na nl ra rl sa sl sc ba bl bc R FR SD BF) (ht : Tabs w) :
    Calls Tryz.prog 3 #[.agg #[.slice na nl nc, .slice ra rl rc, .slice sa sl sc, .slice ba bl bc]] w fun e w' => e = .returned (.bool true) ∧ Below w.heap.size w w' := by
  have b0 := balloc (.cells #[.slice na nl nc, .slice ra rl rc, .slice sa sl sc, .slice ba bl bc] 27) (Below.refl w.heap.size w)
  have X := Ws.box (w := w) #[.slice na nl nc, .slice ra rl rc, .slice sa sl sc, .slice ba bl bc] 27
  go_enter Tryz.func3, Tryz.ntmps3
  go_upto_region 2 with fail
  generalize w.alloc (.cells #[.slice na nl nc, .slice ra rl rc, .slice sa sl sc, .slice ba bl bc] 27) = u at *
  have e0 := X.c 0 (.slice na nl nc) rfl
  have e1 := X.c 1 (.slice ra rl rc) rfl
  have e2 := X.c 2 (.slice sa sl sc) rfl
  have e3 := X.c 3 (.slice ba bl bc) rfl
  go_wp2_with fail
  refine (szWld_any na nl nc ra rl rc sa sl sc ba bl bc R FR SD BF _ (h.below b0)).mono ?_
  rintro r u1 ⟨⟨z, rfl, hz⟩, k1⟩
  clear e0 e1 e2 e3
  replace b0 := btrans b0 k1
  replace X := X.below k1
  clear k1
  rcases hz with rfl | ⟨hz, m⟩
  · go_wp2
    go_ret
    exact ⟨rfl, b0⟩
  have n1 : ¬ z < 0 := by omega
  have e0 := X.c 0 (.slice na nl nc) rfl
  have e1 := X.c 1 (.slice ra rl rc) rfl
  have e2 := X.c 2 (.slice sa sl sc) rfl
  have e3 := X.c 3 (.slice ba bl bc) rfl
  go_wp2_with fail
  refine (toWld_any na nl nc ra rl rc sa sl sc ba bl bc R FR SD BF _ (h.below b0) m).mono ?_
  rintro r u2 ⟨b1, b2, b3, b4, rfl, hW, k1⟩
  clear e0 e1 e2 e3
  replace b0 := btrans b0 k1
  replace X := X.below k1
  clear k1
  go_wp2_with fail
  refine (smS_any (some ⟨b1, 0, none⟩) nl nl (some ⟨b2, 0, none⟩) rl rl (some ⟨b3, 0, none⟩) sl sl (some ⟨b4, 0, none⟩) bl bl (fun k => (R k).nod) FR SD BF _ hW).mono ?_
  rintro r u3 ⟨rfl, k1⟩
  replace b0 := btrans b0 k1
  replace X := X.below k1
  clear k1 hW
  obtain ⟨v, hv⟩ : ∃ v, Hid (smB nl (fun k => (R k).nod) rl FR sl SD bl BF = v) := ⟨_, rfl⟩
  rw [hv.out]
  have e0 := X.c 0 (.slice na nl nc) rfl
  have e1 := X.c 1 (.slice ra rl rc) rfl
  have e2 := X.c 2 (.slice sa sl sc) rfl
  have e3 := X.c 3 (.slice ba bl bc) rfl
  go_wp2_with fail
  refine (toWld_any na nl nc ra rl rc sa sl sc ba bl bc R FR SD BF _ (h.below b0) m).mono ?_
  rintro r u4 ⟨c1, c2, c3, c4, rfl, hC, k1⟩
  clear e0 e1 e2 e3
  replace b0 := btrans b0 k1
  replace X := X.below k1
  clear k1
  have hB := Ws.box (w := u4) #[.slice none 0 0, .slice none 0 0, .slice none 0 0, .slice none 0 0] 34
  have hth := hB.there (n := 4) rfl
  have k1 : Below u4.heap.size u4 ((u4.alloc (.cells #[.slice none 0 0, .slice none 0 0, .slice none 0 0, .slice none 0 0] 34)).setCells u4.heap.size 0 (#[.slice (some ⟨c1, 0, none⟩) nl nl, .slice (some ⟨c2, 0, none⟩) rl rl, .slice (some ⟨c3, 0, none⟩) sl sl, .slice (some ⟨c4, 0, none⟩) bl bl] : Array Value).toList) := below_cells _ _ _ _ (Nat.le_refl _) (balloc _ (Below.refl _ _))
  have hrg := World.rangeAt_setCells_same (u4.alloc (.cells #[.slice none 0 0, .slice none 0 0, .slice none 0 0, .slice none 0 0] 34)) u4.heap.size 0 (#[.slice (some ⟨c1, 0, none⟩) nl nl, .slice (some ⟨c2, 0, none⟩) rl rl, .slice (some ⟨c3, 0, none⟩) sl sl, .slice (some ⟨c4, 0, none⟩) bl bl] : Array Value).toList hth
  clear hB
  go_upto_region 7 with (refine wpList_store_mid rfl 34 _ _ rfl u4.heap.size 0 #[.slice (some ⟨c1, 0, none⟩) nl nl, .slice (some ⟨c2, 0, none⟩) rl rl, .slice (some ⟨c3, 0, none⟩) sl sl, .slice (some ⟨c4, 0, none⟩) bl bl] rfl rfl hth (by kernel_rfl) (by kernel_rfl) ?_)
  clear hth
  generalize (u4.alloc (.cells #[.slice none 0 0, .slice none 0 0, .slice none 0 0, .slice none 0 0] 34)).setCells u4.heap.size 0 (#[.slice (some ⟨c1, 0, none⟩) nl nl, .slice (some ⟨c2, 0, none⟩) rl rl, .slice (some ⟨c3, 0, none⟩) sl sl, .slice (some ⟨c4, 0, none⟩) bl bl] : Array Value).toList = u5 at *
  replace b0 := btrans b0 k1
  replace X := X.below k1
  replace hC := hC.below k1
  clear k1
  generalize u4.heap.size = KB at *
  have f0 := hrg 0 (.slice (some ⟨c1, 0, none⟩) nl nl) rfl
  have f1 := hrg 1 (.slice (some ⟨c2, 0, none⟩) rl rl) rfl
  have f2 := hrg 2 (.slice (some ⟨c3, 0, none⟩) sl sl) rfl
  have f3 := hrg 3 (.slice (some ⟨c4, 0, none⟩) bl bl) rfl
  simp only [Nat.zero_add] at f0 f1 f2 f3
  go_wp2_with fail
  refine (smI_any (some ⟨c1, 0, none⟩) nl nl (some ⟨c2, 0, none⟩) rl rl (some ⟨c3, 0, none⟩) sl sl (some ⟨c4, 0, none⟩) bl bl (fun k => (R k).nod) FR SD BF _ hC (ht.below b0)).mono ?_
  rintro r u6 ⟨rfl, k1⟩
  rw [hv.out]
  clear f0 f1 f2 f3 hv
  replace b0 := btrans b0 k1
  replace X := X.below k1
  replace hC := hC.below k1
  replace hrg := range_below' hrg k1
  clear k1
  have e9 : (v != v) = false := by simp
  go_upto_region 10 with fail
  clear e9
  have hrX := X.range
  clear X
  refine wp_region_q sm3_10 tm3_10 (fun hbq => ?_)
  iterate 2 refine qR ?_
  refine qC (fun K hK => ?_)
  go_simp
  refine (toWld_any na nl nc ra rl rc sa sl sc ba bl bc R FR SD BF _ (h.below (btrans b0 hbq)) m).mono ?_; rintro r u7 ⟨d1, d2, d3, d4, rfl, hD, k7⟩
  go_wp2_with fail
  refine hK.out _ _ (btrans hbq k7) (.inl ?_)
  clear hK K
  replace hbq := btrans hbq k7
  clear k7
  try simp only [putQ]
  refine qC (fun K hK => ?_)
  go_simp
  refine (eqWld_same (some ⟨c1, 0, none⟩) nl nl (some ⟨c2, 0, none⟩) rl rl (some ⟨c3, 0, none⟩) sl sl (some ⟨c4, 0, none⟩) bl bl (fun k => (R k).nod) FR SD BF (some ⟨d1, 0, none⟩) nl (some ⟨d2, 0, none⟩) rl (some ⟨d3, 0, none⟩) sl (some ⟨d4, 0, none⟩) bl _ (hC.below hbq) hD).mono ?_; rintro r u8 ⟨rfl, k8⟩
  go_wp2_with fail
  refine hK.out _ _ (btrans hbq k8) (.inl ?_)
  clear hK K
  replace hbq := btrans hbq k8
  clear k8
  try simp only [putQ]
  refine qY ?_
  refine qE ?_
  replace b0 := btrans b0 hbq
  go_wp2
  go_ret
  exact ⟨rfl, b0⟩
end Go.Proofs.YtoimfgfhlbkdcaaGreatDoor
