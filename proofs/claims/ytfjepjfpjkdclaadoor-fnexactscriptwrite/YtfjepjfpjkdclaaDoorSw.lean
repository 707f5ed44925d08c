/- ScriptWrite: the program's way, the model's, and the exact law, walked. -/
import Derived.Test.YtfjepjfpjkdclaaDoorSwl
import Derived.Test.YtfjepjfpjkdclaaDoorBld
namespace Go.Proofs.YtfjepjfpjkdclaaDoor
open Go.ChangeShapes Go.WideShapes Go.ChangeAt Go.RowKit
attribute [local go_sem ↓] Go.wp_at_zero Go.wp_at_succ
theorem eline_nat {f : Fc} (h : eok f = true) : eline f = lineN f.n.toNat f.i.toNat f.s.toNat f.g := by
  obtain ⟨n0, n7, i0, i9, s1, s4⟩ := eok_all h
  unfold eline lineN wordK
  rw [itoa_dec _ i0, itoa_dec _ s1]
  have : 0 < f.s ↔ 0 < f.s.toNat := by omega
  simp only [this]
theorem sll_any (f : Fc) (hf : eok f = true) (w : World) :
    Calls Tryd.prog 10 #[.agg #[.int .i64 f.n, .int .i64 f.i, .int .i64 f.s, .bool f.g]] w fun e w' => e = .returned (.string (bs (eline f ++ [10]))) ∧ Below w.heap.size w w' := by
  have hl := eline_nat hf
  obtain ⟨n0, n7, i0, i9, s1, s4⟩ := eok_all hf
  have h := sll_nat f.n.toNat f.i.toNat f.s.toNat f.g (by omega) (by omega) (by omega) w
  rw [Int.toNat_of_nonneg (by omega), Int.toNat_of_nonneg i0, Int.toNat_of_nonneg s1] at h
  rw [hl]
  exact h
/-- the first lines -/
def pre (F : Nat → Fc) : Nat → List UInt8
  | 0 => []
  | k + 1 => pre F k ++ (eline (F k) ++ [10])
/-- all can be written, and it is never too long -/
def fineP (len : Nat) (F : Nat → Fc) : Prop := (∀ j, j < len → eok (F j) = true) ∧ ∀ j, j ≤ len → (pre F j).length ≤ 4000
/-- what ScriptWrite writes -/
def swT (len : Nat) (F : Nat → Fc) : ByteArray := if (∀ j, j < len → eok (F j) = true) ∧ ∀ j, j < len + 1 → (pre F j).length ≤ 4000 then bs (pre F len) else bs []
theorem fine_iff (len : Nat) (F : Nat → Fc) : ((∀ j, j < len → eok (F j) = true) ∧ ∀ j, j < len + 1 → (pre F j).length ≤ 4000) ↔ fineP len F :=
  ⟨fun h => ⟨h.1, fun j hj => h.2 j (by omega)⟩, fun h => ⟨h.1, fun j hj => h.2 j (by omega)⟩⟩
theorem swT_pos {len : Nat} {F : Nat → Fc} (h : fineP len F) : swT len F = bs (pre F len) := by unfold swT; rw [if_pos ((fine_iff len F).2 h)]
theorem swT_bad {len : Nat} {F : Nat → Fc} {k : Nat} (hk : k < len) (h : eok (F k) = false) : swT len F = bs [] := by
  unfold swT
  rw [if_neg fun hf => by have := hf.1 k hk; rw [h] at this; cases this]
theorem swT_long {len : Nat} {F : Nat → Fc} {k : Nat} (hk : k ≤ len) (h : 4000 < (pre F k).length) : swT len F = bs [] := by
  unfold swT
  rw [if_neg fun hf => by have := hf.2 k (by omega); omega]
theorem sll_lit (f : Fc) (x : ByteArray) (hf : eok f = true) (hx : bs (eline f ++ [10]) = x) (w : World) :
    Calls Tryd.prog 10 #[.agg #[.int .i64 f.n, .int .i64 f.i, .int .i64 f.s, .bool f.g]] w fun e w' => e = .returned (.string x) ∧ Below w.heap.size w w' := hx ▸ sll_any f hf w
theorem sline_lit (f : Fc) (x : ByteArray) (hf : eok f = true) (hx : bs (eline f) = x) (w : World) (ht : Tabs w) :
    Calls Tryd.prog 15 #[.agg #[.int .i64 f.n, .int .i64 f.i, .int .i64 f.s, .bool f.g]] w fun e w' => e = .returned (.string x) ∧ Below w.heap.size w w' := hx ▸ sline_any f hf w ht
theorem sok_lit (f : Fc) (q : Bool) (h : eok f = q) (w : World) :
    Calls Tryd.prog 9 #[.agg #[.int .i64 f.n, .int .i64 f.i, .int .i64 f.s, .bool f.g]] w fun r w' => r = .returned (.bool q) ∧ Below w.heap.size w w' := h ▸ sok_any f.n f.i f.s f.g w
theorem wok_lit (f : Fc) (q : Bool) (h : eok f = q) (w : World) :
    Calls Tryd.prog 12 #[.agg #[.int .i64 f.n, .int .i64 f.i, .int .i64 f.s, .bool f.g]] w fun r w' => r = .returned (.bool q) ∧ Below w.heap.size w w' := h ▸ wok_any f.n f.i f.s f.g w
theorem fine0 (F : Nat → Fc) : fineP 0 F := ⟨fun j hj => by omega, fun j hj => by
  obtain rfl : j = 0 := by omega
  simp [pre]⟩
theorem bs_size (l : List UInt8) : (bs l).size = l.length := by simp [ByteArray.size]
set_option maxRecDepth 20000 in
set_option maxHeartbeats 4000000 in
theorem ssw_any (a : Option Addr) (len cap : Nat) (F : Nat → Fc) (X : ByteArray) (w : World) (h : FSl w a len F) (hl : len ≤ 1048576) (hX : swT len F = X) :
    Calls Tryd.prog 5 #[.slice a len cap] w fun e w' => e = .returned (.string X) ∧ Below w.heap.size w w' := by
  have hX' : Hid _ := hX
  clear hX
  go_enter Tryd.func5, Tryd.ntmps5
  go_wp2_with fail
  go_loopw [3, 4] (fun v i wr => ∃ (k : Nat) (y : ByteArray), i = .int .i64 k ∧ k ≤ len ∧ v = .string y ∧ Hid (bs (pre F k) = y) ∧ Hid (fineP k F) ∧ Below w.heap.size w wr) (fun _ i _ => len - (intOf i).toNat)
  case atStart => exact ⟨0, _, rfl, Nat.zero_le _, rfl, rfl, fine0 F, Below.refl _ _⟩
  case round =>
    obtain ⟨k, y, rfl, hk, rfl, hy, hfine, hb⟩ := hrel
    by_cases hlt : k < len
    · have j0 : (0 : Int) ≤ (k : Int) := by omega
      have j1 : (k : Int) < (len : Int) := by omega
      obtain ⟨b, off, rfl, hbl, hfi⟩ := h (by omega)
      obtain ⟨c0, c1, c2, c3⟩ := (hfi.below hb hbl) k hlt
      have hyl : y.size ≤ 4000 := by rw [← hy.out, bs_size]; exact hfine.out.2 k (Nat.le_refl _)
      have hpre : pre F (k + 1) = pre F k ++ (eline (F k) ++ [10]) := rfl
      have hbad : Hid (eok (F k) = false → swT len F = bs []) := swT_bad hlt
      have hlong : Hid (4000 < (pre F (k + 1)).length → swT len F = bs []) := swT_long (by omega)
      have hnext : Hid (eok (F k) = true → (pre F (k + 1)).length ≤ 4000 → fineP (k + 1) F) := fun h1 h2 => ⟨fun j hj => by
        by_cases e : j = k
        · rw [e]; exact h1
        · exact hfine.out.1 j (by omega), fun j hj => by
        by_cases e : j = k + 1
        · rw [e]; exact h2
        · exact hfine.out.2 j (by omega)⟩
      have hpre' : Hid (bs (pre F (k + 1)) = y ++ bs (eline (F k) ++ [10])) := by unfold Hid; rw [hpre, ← hy.out, bs_append]
      have hlen1 := eline_len (f := F k)
      clear hpre hfi hfine hy
      cases hq : eok (F k)
      · have hq' : Hid (eok (F k) = false) := hq
        have e0 : Hid (swT len F = bs []) := hbad.out hq
        clear hq hbad hlong hnext hpre' hlen1
        generalize F k = f at *
        go_wp2_with fail
        refine (sok_lit f false hq'.out _).mono ?_
        rintro r w1 ⟨rfl, b1⟩
        have B1 := btrans hb b1
        clear b1 hb c0 c1 c2 c3
        go_wp2
        go_ret
        exact ⟨by rw [← hX'.out, e0.out]; rfl, B1⟩
      · have hq' : Hid (eok (F k) = true) := hq
        have hlen2 := hlen1 hq
        replace hnext := hnext.out hq
        have hnext' : Hid _ := hnext
        clear hq hbad hlen1 hnext
        have hz : Hid ((pre F (k + 1)).length = (bs (pre F (k + 1))).size) := (bs_size _).symm
        generalize F k = f at *
        obtain ⟨x, hx⟩ : ∃ x, Hid (bs (eline f ++ [10]) = x) := ⟨bs (eline f ++ [10]), Eq.refl _⟩
        have hxl : x.size ≤ 21 := by rw [← hx.out, bs_size, List.length_append]; simp; omega
        rw [hx.out] at hpre'
        go_wp2_with fail
        refine (sok_lit f true hq'.out _).mono ?_
        rintro r w1 ⟨rfl, b1⟩
        have B1 := btrans hb b1
        have d0 := keep_below b1 c0
        have d1 := keep_below b1 c1
        have d2 := keep_below b1 c2
        have d3 := keep_below b1 c3
        clear b1 hb c0 c1 c2 c3
        go_wp2_with fail
        refine (sll_lit f x hq'.out hx.out _).mono ?_
        rintro r w2 ⟨rfl, b2⟩
        have B2 := btrans B1 b2
        clear b2 B1 d0 d1 d2 d3 hx hq'
        have p1 : ¬ 9223372036854775807 < y.size + x.size := by omega
        obtain ⟨z, hz1⟩ : ∃ z, y ++ x = z := ⟨_, rfl⟩
        have zs : Hid (z.size = y.size + x.size) := by unfold Hid; rw [← hz1, ByteArray.size_append]
        rw [hz1] at hpre'
        by_cases hgt : 4000 < z.size
        · have e0 : Hid (swT len F = bs []) := hlong.out (by rw [hz.out, hpre'.out]; exact hgt)
          have g1 : (4000 : Int) < (z.size : Int) := by omega
          clear hlong hnext' hz hpre' zs
          go_wp2
          go_ret
          exact ⟨by rw [← hX'.out, e0.out]; rfl, B2⟩
        · have g1 : ¬ (4000 : Int) < (z.size : Int) := by omega
          have hn : Hid (fineP (k + 1) F) := hnext'.out (by rw [hz.out, hpre'.out]; omega)
          clear hlong hnext' hz zs
          go_wp2
          go_roundw
          case rel => exact ⟨k + 1, z, by go_num, by omega, rfl, hpre', hn, B2⟩
          case measure => simp [intOf]; omega
    · obtain rfl : k = len := by omega
      have e0 : Hid (X = y) := by unfold Hid; rw [← hX'.out, swT_pos hfine.out, hy.out]
      clear hX' hfine hy h
      go_wp2
      go_ret
      exact ⟨by rw [e0.out]; rfl, hb⟩
theorem pre_cells (F : Nat → Fc) (k : Nat) : Lib.byteCells (pre F k) ++ Lib.strCells (bs (eline (F k))) ++ [Value.int .u8 10] = Lib.byteCells (pre F (k + 1)) := by
  show _ = Lib.byteCells (pre F k ++ (eline (F k) ++ [10]))
  rw [Lib.byteCells_append, Lib.byteCells_append, ← List.append_assoc]
  rfl
theorem len_lit (B b m : Nat) (bs : List Value) (n : Int) (w : World) (h : Pg B b bs n w) (hm : bs.length = m) :
    Calls Tryd.prog 13 #[.pointer (some ⟨b, 0, none⟩)] w fun e w' => e = .returned (.int .i64 (m : Int)) ∧ w' = w := hm ▸ len_any B b bs n w h
/-- what is known of the lines that are written -/
def Part (k : Nat) (F : Nat → Fc) : Prop := (∀ j, j < k → eok (F j) = true) ∧ ∀ j, j < k → (pre F j).length ≤ 4000
theorem part_fine {k : Nat} {F : Nat → Fc} (h : Part k F) (hk : (pre F k).length ≤ 4000) : fineP k F := ⟨h.1, fun j hj => by
  by_cases e : j = k
  · rw [e]; exact hk
  · exact h.2 j (by omega)⟩
theorem part_next {k : Nat} {F : Nat → Fc} (h : Part k F) (h1 : eok (F k) = true) (h2 : (pre F k).length ≤ 4000) : Part (k + 1) F := ⟨fun j hj => by
  by_cases e : j = k
  · rw [e]; exact h1
  · exact h.1 j (by omega), fun j hj => by
  by_cases e : j = k
  · rw [e]; exact h2
  · exact h.2 j (by omega)⟩
theorem pg_cell {B b : Nat} {bs : List Value} {n : Int} {w : World} (h : Pg B b bs n w) : w.cell? ⟨b, 2, none⟩ = some (.int .i64 n) := by
  obtain ⟨p, _, v, hb, _⟩ := h.at
  rw [Lib.cell_of_heap hb]
  rfl
set_option maxRecDepth 20000 in
set_option maxHeartbeats 4000000 in
theorem isw_any (a : Option Addr) (len cap : Nat) (F : Nat → Fc) (X : ByteArray) (w : World) (h : FSl w a len F) (hl : len ≤ 1048576) (ht : Tabs w) (hX : swT len F = X) :
    Calls Tryd.prog 7 #[.slice a len cap] w fun e w' => e = .returned (.string X) ∧ Below w.heap.size w w' := by
  have hX' : Hid _ := hX
  clear hX
  have P0 : Pg w.heap.size w.heap.size [] 0 (w.alloc (.cells #[.pointer none, .slice none 0 0, .int .i64 0] 41)) := .inl ⟨Nat.le_refl _, _, heap_alloc_new _ _, World.ownsRow_nil _ _ _ _, by simp [Value.ownBlock]⟩
  have B0 : Below w.heap.size w (w.alloc (.cells #[.pointer none, .slice none 0 0, .int .i64 0] 41)) := balloc _ (Below.refl _ _)
  go_enter Tryd.func7, Tryd.ntmps7
  go_wp2_with fail
  have H0 : (w.alloc (.cells #[.pointer none, .slice none 0 0, .int .i64 0] 41)).heap[w.heap.size]? = some (.cells #[.pointer none, .slice none 0 0, .int .i64 0] 41 (0, 0)) := heap_alloc_new _ _
  generalize (w.alloc (.cells #[.pointer none, .slice none 0 0, .int .i64 0] 41)) = W0 at *
  obtain ⟨b, hbd⟩ : ∃ b, Hid (w.heap.size = b) := ⟨_, rfl⟩
  have P1 : Pg w.heap.size b [] 0 W0 := hbd.out ▸ P0
  have H1 : Hid (W0.heap[b]? = some (.cells #[.pointer none, .slice none 0 0, .int .i64 0] 41 (0, 0))) := hbd.out ▸ H0
  rw [hbd.out]
  clear P0 H0
  go_loopw [10] (fun i wr => ∃ k : Nat, i = .int .i64 k ∧ k ≤ len ∧ Pg w.heap.size b (Lib.byteCells (pre F k)) (k : Int) wr ∧ Hid (Part k F) ∧ Hid (k = 0 → wr.heap[b]? = some (.cells #[.pointer none, .slice none 0 0, .int .i64 0] 41 (0, 0))) ∧ Below w.heap.size w wr) (fun i _ => len - (intOf i).toNat)
  case atStart => exact ⟨0, rfl, Nat.zero_le _, P1, ⟨fun j hj => by omega, fun j hj => by omega⟩, fun _ => H1.out, B0⟩
  case round =>
    obtain ⟨k, rfl, hk, hp, hpart, hzero, hb⟩ := hrel
    clear P1 B0 H1
    by_cases hlt : k < len
    · have j0 : (0 : Int) ≤ (k : Int) := by omega
      have j1 : (k : Int) < (len : Int) := by omega
      obtain ⟨bb, off, rfl, hbl, hfi⟩ := h (by omega)
      obtain ⟨c0, c1, c2, c3⟩ := (hfi.below hb hbl) k hlt
      have hbad : Hid (eok (F k) = false → swT len F = bs []) := swT_bad hlt
      have hlong : Hid (4000 < (pre F k).length → swT len F = bs []) := swT_long (by omega)
      have hnext : Hid (eok (F k) = true → (pre F k).length ≤ 4000 → Part (k + 1) F) := part_next hpart.out
      have hcells : Hid _ := pre_cells F k
      have hlen1 := eline_len (f := F k)
      have jne : ((k : Int) != (len : Int)) = true := by simp; omega
      clear hfi hpart hzero
      cases hq : eok (F k)
      · have hq' : Hid (eok (F k) = false) := hq
        have e0 : Hid (swT len F = bs []) := hbad.out hq
        clear hq hbad hlong hnext hcells hlen1
        generalize F k = f at *
        have b2 : Below wr.heap.size wr (wr.alloc (.cells #[.int .i64 f.n, .int .i64 f.i, .int .i64 f.s, .bool f.g] 31)) := balloc _ (Below.refl _ _)
        go_wp2_with fail
        have B2 := btrans hb b2
        have P2 := hp.below b2
        clear c0 c1 c2 c3 b2 hp hb
        generalize (wr.alloc (.cells #[.int .i64 f.n, .int .i64 f.i, .int .i64 f.s, .bool f.g] 31)) = w2 at *
        refine (wok_lit f false hq'.out _).mono ?_
        rintro r w1 ⟨rfl, b1⟩
        have B1 := btrans B2 b1
        have l1 := pg_cell (P2.below b1)
        clear b1 B2 P2
        go_wp2
        go_ret
        exact ⟨by rw [← hX'.out, e0.out]; rfl, B1⟩
      · have hq' : Hid (eok (F k) = true) := hq
        have hlen2 := hlen1 hq
        have hnext' : Hid _ := hnext.out hq
        clear hq hbad hlen1 hnext
        obtain ⟨m, hm⟩ : ∃ m, (pre F k).length = m := ⟨_, rfl⟩
        rw [hm] at hlong hnext'
        have hm' : Hid ((Lib.byteCells (pre F k)).length = m) := by unfold Hid; rw [Lib.byteCells_length]; exact hm
        clear hm
        obtain ⟨bz, hbz⟩ : ∃ bz, Hid (Lib.byteCells (pre F k) = bz) := ⟨_, rfl⟩
        rw [hbz.out] at hp hm' hcells
        generalize F k = f at *
        obtain ⟨x, hx⟩ : ∃ x, Hid (bs (eline f) = x) := ⟨bs (eline f), Eq.refl _⟩
        rw [hx.out] at hcells
        have hxl : x.size ≤ 20 := by rw [← hx.out, bs_size]; exact hlen2
        have b2 : Below wr.heap.size wr (wr.alloc (.cells #[.int .i64 f.n, .int .i64 f.i, .int .i64 f.s, .bool f.g] 31)) := balloc _ (Below.refl _ _)
        have p2 : (wr.alloc (.cells #[.int .i64 f.n, .int .i64 f.i, .int .i64 f.s, .bool f.g] 31)).heap[wr.heap.size]? = some (.cells #[.int .i64 f.n, .int .i64 f.i, .int .i64 f.s, .bool f.g] 31 (0, 0)) := heap_alloc_new _ _
        go_wp2_with fail
        have B2 := btrans hb b2
        have P2 := hp.below b2
        clear c0 c1 c2 c3 b2 hp hb
        generalize (wr.alloc (.cells #[.int .i64 f.n, .int .i64 f.i, .int .i64 f.s, .bool f.g] 31)) = w2 at *
        have e0 := cell_block (o := 0) (v := .int .i64 f.n) p2 rfl
        have e1 := cell_block (o := 1) (v := .int .i64 f.i) p2 rfl
        have e2 := cell_block (o := 2) (v := .int .i64 f.s) p2 rfl
        have e3 := cell_block (o := 3) (v := .bool f.g) p2 rfl
        refine (wok_lit f true hq'.out _).mono ?_
        rintro r w1 ⟨rfl, b1⟩
        have B1 := btrans B2 b1
        have P1 := P2.below b1
        have d0 := keep_below b1 e0
        have d1 := keep_below b1 e1
        have d2 := keep_below b1 e2
        have d3 := keep_below b1 e3
        clear b1 B2 P2 e0 e1 e2 e3 p2
        by_cases hgt : 4000 < m
        · have e0 : Hid (swT len F = bs []) := hlong.out hgt
          have g1 : (4000 : Int) < (m : Int) := by omega
          have l1 := pg_cell P1
          clear hlong hnext' hcells
          go_wp2_with fail
          refine (len_lit _ _ m _ _ _ P1 hm'.out).mono ?_
          rintro r w3 ⟨rfl, hw⟩
          obtain rfl := hw.symm
          go_wp2
          go_ret
          exact ⟨by rw [← hX'.out, e0.out]; rfl, B1⟩
        · have g1 : ¬ (4000 : Int) < (m : Int) := by omega
          have hn : Hid (Part (k + 1) F) := hnext'.out (by omega)
          clear hlong hnext'
          go_wp2_with fail
          refine (len_lit _ _ m _ _ _ P1 hm'.out).mono ?_
          rintro r w3 ⟨rfl, hw⟩
          obtain rfl := hw.symm
          go_wp2_with fail
          refine (sline_lit f x hq'.out hx.out _ (ht.below B1)).mono ?_
          rintro r w4 ⟨rfl, b4⟩
          have B4 := btrans B1 b4
          have P4 := P1.below b4
          clear b4 B1 P1 d0 d1 d2 d3 hq' hx
          have b5 : Below w4.heap.size w4 (w4.alloc (.cells #[.string x] 9)) := balloc _ (Below.refl _ _)
          have q5 : (w4.alloc (.cells #[.string x] 9)).cell? ⟨w4.heap.size, 0, none⟩ = some (.string x) := by simp
          go_wp2_with fail
          have B5 := btrans B4 b5
          have P5 := P4.below b5
          clear b5 B4 P4
          generalize (w4.alloc (.cells #[.string x] 9)) = w5 at *
          have hml := hm'.out
          refine (line_any w.heap.size b w4.heap.size bz (k : Int) x _ P5 q5 (by omega) B5.size j0 (by omega)).mono ?_
          rintro r w6 ⟨rfl, P6, b6⟩
          have B6 := B5.trans b6
          rw [hcells.out] at P6
          clear b6 B5 P5 q5 hml
          go_wp2
          go_roundw
          case rel => exact ⟨k + 1, by go_num, by omega, P6, hn, fun h0 => by omega, B6⟩
          case measure => simp [intOf]; omega
    · obtain rfl : k = len := by omega
      obtain ⟨m, hm⟩ : ∃ m, (pre F k).length = m := ⟨_, rfl⟩
      have hm' : Hid ((Lib.byteCells (pre F k)).length = m) := by unfold Hid; rw [Lib.byteCells_length]; exact hm
      have l1 := pg_cell hp
      have jne : ((k : Int) != (k : Int)) = false := by simp
      by_cases hgt : 4000 < m
      · have e0 : Hid (swT k F = bs []) := swT_long (Nat.le_refl _) (by omega)
        have g1 : (4000 : Int) < (m : Int) := by omega
        clear hm
        go_wp2_with fail
        refine (len_lit _ _ m _ _ _ hp hm'.out).mono ?_
        rintro r w3 ⟨rfl, hw⟩
        obtain rfl := hw.symm
        go_wp2
        go_ret
        exact ⟨by rw [← hX'.out, e0.out]; rfl, hb⟩
      · have g1 : ¬ (4000 : Int) < (m : Int) := by omega
        have e0 : Hid (X = bs (pre F k)) := by unfold Hid; rw [← hX'.out, swT_pos (part_fine hpart.out (by omega))]
        have hs : Hid (Calls Tryd.prog 16 #[.pointer (some ⟨b, 0, none⟩)] wr fun e w' => e = .returned (.string (bs (pre F k))) ∧ Below w.heap.size wr w') := by
          by_cases h0 : k = 0
          · have hz := hzero.out h0
            subst h0
            exact str_nil w.heap.size b _ _ wr hz
          · refine str_some _ _ _ _ _ hp ?_
            intro e
            obtain ⟨q, rfl⟩ : ∃ q, k = q + 1 := ⟨k - 1, by omega⟩
            simp [pre] at e
        clear hm hzero hpart
        go_wp2_with fail
        refine (len_lit _ _ m _ _ _ hp hm'.out).mono ?_
        rintro r w3 ⟨rfl, hw⟩
        obtain rfl := hw.symm
        clear hw
        obtain ⟨y, hy⟩ : ∃ y, Hid (bs (pre F k) = y) := ⟨bs (pre F k), Eq.refl _⟩
        rw [hy.out] at hs e0
        go_wp2_with fail
        refine hs.out.mono ?_
        rintro r w4 ⟨rfl, b4⟩
        have B4 := hb.trans b4
        clear b4 hs
        go_wp2
        go_ret
        exact ⟨by rw [e0.out]; rfl, B4⟩
set_option maxRecDepth 20000 in
set_option maxHeartbeats 8000000 in
theorem exScriptWrite_walk (a : Option Addr) (len cap : Nat) (F : Nat → Fc) (w : World) (h : FSl w a len F) (hc : len ≤ cap) (hm : len ≤ maxLen) (ht : Tabs w) :
    Calls Tryd.prog 3 #[.slice a len cap] w fun r w' => r = .returned (.bool true) ∧ Below w.heap.size w w' := by
  by_cases hl : 1048576 < len
  · go_enter Tryd.func3, Tryd.ntmps3
    go_wp2_with fail
    refine (szFactS_over a len cap _ hl hm).mono ?_
    rintro r w' ⟨rfl, hw⟩
    obtain rfl := hw.symm
    go_wp2
    go_ret
    exact ⟨rfl, Below.refl _ _⟩
  · have hl' : len ≤ 1048576 := by omega
    obtain ⟨x, hx⟩ : ∃ x, Hid (swT len F = x) := ⟨_, rfl⟩
    clear hl hm
    go_enter Tryd.func3, Tryd.ntmps3
    go_wp2_with fail
    refine (szFactS_in a len cap _ hl').mono ?_
    rintro r w' ⟨n, rfl, hw⟩
    obtain rfl := hw.symm
    have n0 : ¬ ((n : Int) < 0) := by omega
    go_wp2_with fail
    refine (toFactS_any a len cap F _ h hl' hc).mono ?_
    rintro r w1 ⟨x1, rfl, f1, _, _, B1⟩
    go_wp2_with fail
    refine (ssw_any _ len len F x _ f1 hl' hx.out).mono ?_
    rintro r w2 ⟨rfl, b2⟩
    have B2 := btrans B1 b2
    clear f1 b2
    go_wp2_with fail
    refine (toFactS_any a len cap F _ (h.below B2) hl' hc).mono ?_
    rintro r w3 ⟨x3, rfl, f3, _, _, b3⟩
    have B3 := btrans B2 b3
    clear b3
    go_wp2_with fail
    refine (isw_any _ len len F x _ f3 hl' (ht.below B3) hx.out).mono ?_
    rintro r w4 ⟨rfl, b4⟩
    have B4 := btrans B3 b4
    replace f3 := f3.below b4
    clear b4
    go_wp2_with fail
    refine (toFactS_any a len cap F _ (h.below B4) hl' hc).mono ?_
    rintro r w5 ⟨x5, rfl, f5, _, _, b5⟩
    have B5 := btrans B4 b5
    replace f3 := f3.below b5
    clear b5
    go_wp2_with fail
    refine (eqFactS_same _ _ len len len F _ f3 f5 hl').mono ?_
    rintro r w6 ⟨rfl, b6⟩
    have B6 := btrans B5 b6
    go_wp2
    go_ret
    exact ⟨rfl, B6⟩
end Go.Proofs.YtfjepjfpjkdclaaDoor
