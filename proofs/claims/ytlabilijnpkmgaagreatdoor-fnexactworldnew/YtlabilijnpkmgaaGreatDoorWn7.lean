/- A new world: the model's way. -/
import Derived.Test.YtlabilijnpkmgaaGreatDoorWn6
namespace Go.Proofs.YtlabilijnpkmgaaGreatDoor
open Go.ChangeShapes Go.WideShapes Go.ChangeAt Go.RowKit
attribute [local go_sem ↓] Go.wp_at_zero Go.wp_at_succ
/-- a node's cells among all nodes' -/
def nG (tb : Nat → Nat) (j : Nat) : Value := (okN ((j / 21 : Nat) : Int) (gtB (j / 21)) (.slice (some ⟨tb (j / 21), 0, none⟩) 1 1)).toList.getD (j % 21) undef
/-- a world that the first k nodes have come into -/
structure SwI (w : World) (base wb : Nat) (tb : Nat → Nat) (vn vs vb : Value) (k : Nat) : Prop where
  x : w.heap[wb]? = some (.cells #[vn, .slice none 0 0, vs, vb] 27 (0, 0))
  n : w.ownsRow base 41 21 vn k (rv (nG tb) (k * 21))
  d : w.ownsRow base 3 1 vs k (rv (fun _ => .int .i64 0) (k * 1))
  b : w.ownsRow base 45 4 vb (bF k).length (fl (bF k))
  t : ∀ i, i < k → Row1 w (tb i) (i : Int) 0 1 (gtB i) ∧ base ≤ tb i ∧ vn.ownBlock ≠ some (tb i) ∧ vs.ownBlock ≠ some (tb i) ∧ vb.ownBlock ≠ some (tb i)
theorem SwI.mw1 {w w' : World} {base wb x0 : Nat} {tb : Nat → Nat} {vn vs vb : Value} {k : Nat} (h : SwI w base wb tb vn vs vb k) (m : Mw (fun b => b = x0) w w') (hx : x0 < base) (hw : wb ≠ x0) : SwI w' base wb tb vn vs vb k := by
  have q : ∀ x, base ≤ x → ¬ x = x0 := fun x hx' => by omega
  exact ⟨(m.block wb (lt_of_block h.x) hw).trans h.x, own_mw h.n m (fun x e => q x (h.n.lt x e).1), own_mw h.d m (fun x e => q x (h.d.lt x e).1), own_mw h.b m (fun x e => q x (h.b.lt x e).1), fun i hi => ⟨(h.t i hi).1.block (m.block (tb i) (h.t i hi).1.lt (q _ (h.t i hi).2.1)), (h.t i hi).2⟩⟩
theorem wp_run {P : Program} {o : Oper} {a : Act} {w w' : World} {K : Act → World → Prop} {Q : Exit → Act → World → Prop} {v : Value} (h : (execOp a.eval o).run P w = .ok (.value v) w') (hK : K (a.put o.dst v) w') : o.wp P a w K Q := by
  unfold Oper.wp
  rw [h]
  exact hK
theorem wp_append_at {P : Program} {w : World} {o : Oper} {a : Act} {K : Act → World → Prop} {Q : Exit → Act → World → Prop} (s x : Operand) (t : TypeId) (ho : o.op = .call { callee := .builtin .append, args := #[s, x], argTypes := #[t, t] })
    (base : Nat) (e : TypeId) (i : TypeInfo) (z : Value) (size bytes : Nat) (ht : P.underlying t = some (.slice e)) (hi : P.info? e = some i) (hz : i.zero = some z)
    (hsize : i.size = size) (hby : i.bytes = bytes) (hzs : z.cells.size = size) (hsz : 0 < size)
    (v : Value) (n : Nat) (xs : List Value) (hs : a.eval s = v) (hown : w.ownsRow base e size v n xs)
    (ad : Addr) (m c : Nat) (news : List Value) (hx : a.eval x = .slice (some ad) m c) (hl : news.length = m * size) (hnews : ∀ j u, news[j]? = some u → w.cell? (ad.add j) = some u) (h1 : ∀ u ∈ news, u.oneCell' = true)
    (h63 : n + m ≤ maxLen) (hbytes : (n + m) * bytes ≤ 140737488355328) (hbase : base ≤ w.heap.size)
    (h : ∀ v' w', w'.ownsRow base e size v' (n + m) (xs ++ news) → w.grownBy w' v.ownBlock → (v'.ownBlock = v.ownBlock ∨ v'.ownBlock = some w.heap.size) → K (a.put o.dst v') w') :
    o.wp P a w K Q := by
  obtain ⟨v', w', hr, h2, h3, h4, h5⟩ := run_append_own_at (P := P) w base t o.type e i z size bytes ht hi hz hsize hby hzs hsz v n xs hown ad m c news hl hnews h1 h63 hbytes hbase
  unfold Oper.wp execOp
  simp only [ho, resolve, invoke, builtin, Sem.run_bind, Sem.run_pure, Result.andThen_ok, List.map_toArray, List.map_cons, List.map_nil, hs, hx, hr]
  exact h v' w' h2 h3 h5
def s4_6 : List Stp := [⟨some 13, .fieldAddr 27 (.tmp 1) 0, 0, none, 0⟩, ⟨some 14, .load 22 (.tmp 13), 22, none, 1⟩, ⟨some 15, .load 41 (.tmp 3), 41, none, 0⟩, ⟨some 16, .buildSlice 22 1 #[(0, .tmp 15)], 22, none, 1⟩, ⟨some 17, .call { callee := .builtin .append, args := #[.tmp 14, .tmp 16], argTypes := #[22, 22] }, 22, none, 1⟩, ⟨some 18, .fieldAddr 27 (.tmp 1) 0, 0, none, 0⟩, ⟨none, .store 22 (.tmp 18) (.tmp 17), 0, none, 1⟩]
def t4_6 : List (Nat × Nat) := [(0, 0), (1, 1), (2, 0), (3, 1), (4, 1), (5, 0), (6, 1)]
def s4_7 : List Stp := [⟨some 19, .fieldAddr 27 (.tmp 1) 2, 0, none, 0⟩, ⟨some 20, .load 24 (.tmp 19), 24, none, 1⟩, ⟨some 21, .buildSlice 24 1 #[(0, .const (.int .i64 0))], 24, none, 1⟩, ⟨some 22, .call { callee := .builtin .append, args := #[.tmp 20, .tmp 21], argTypes := #[24, 24] }, 24, none, 1⟩, ⟨some 23, .fieldAddr 27 (.tmp 1) 2, 0, none, 0⟩, ⟨none, .store 24 (.tmp 23) (.tmp 22), 0, none, 1⟩]
def t4_7 : List (Nat × Nat) := [(0, 0), (1, 1), (2, 1), (3, 1), (4, 0), (5, 1)]
def sp4_8 : List Stp := [⟨some 24, .fieldAddr 27 (.tmp 1) 3, 0, none, 0⟩, ⟨some 26, .fieldAddr 41 (.tmp 3) 8, 0, none, 0⟩, ⟨some 27, .load 25 (.tmp 26), 25, none, 0⟩, ⟨some 28, .indexAddr 25 (.tmp 27) (.const (.int .i64 0)), 0, none, 0⟩, ⟨some 29, .load 45 (.tmp 28), 45, none, 0⟩]
def tp4_8 : List (Nat × Nat) := [(0, 0), (2, 0), (3, 0), (4, 0), (5, 0)]
def sa4_8 : Stp := ⟨some 25, .load 25 (.tmp 24), 25, none, 1⟩
def sb4_8 : Stp := ⟨some 30, .buildSlice 25 1 #[(0, .tmp 29)], 25, none, 1⟩
def sr4_8 : List Stp := [⟨some 31, .call { callee := .builtin .append, args := #[.tmp 25, .tmp 30], argTypes := #[25, 25] }, 25, none, 1⟩, ⟨some 32, .fieldAddr 27 (.tmp 1) 3, 0, none, 0⟩, ⟨none, .store 25 (.tmp 32) (.tmp 31), 0, none, 1⟩]
theorem Mw.below' {S : Nat → Prop} {B : Nat} {a w w' : World} (k : Mw S w w') (h : Below B a w) (hB : B ≤ w.heap.size) (q : ∀ i, S i → B ≤ i) : Below B a w' :=
  h.trans ⟨k.os, k.tape, k.output, k.size, fun i hi => k.block i (by omega) (fun s => by have := q i s; omega)⟩
theorem nblk {v v' : Value} {H x : Nat} (g : v'.ownBlock = v.ownBlock ∨ v'.ownBlock = some H) (hx : x < H) (q : v.ownBlock ≠ some x) : v'.ownBlock ≠ some x := fun e => by
  rcases g with g | g
  · exact q (g ▸ e)
  · rw [g] at e
    injection e with e
    omega
theorem dG_succ (k : Nat) : rv (fun _ => Value.int .i64 0) (k * 1) ++ [.int .i64 0] = rv (fun _ => .int .i64 0) ((k + 1) * 1) := by
  rw [show (k + 1) * 1 = k * 1 + 1 by omega, rv_add]
  rfl
theorem Row1.range {w : World} {b : Nat} {n i s : Int} {g : Bool} (h : Row1 w b n i s g) : w.rangeAt b 0 [.int .i64 n, .int .i64 i, .int .i64 s, .bool g] := fun j v hj => by
  obtain ⟨⟨c0, c1, c2, c3⟩, _⟩ := h
  rcases j with _ | _ | _ | _ | j
  · cases hj; exact c0
  · cases hj; exact c1
  · cases hj; exact c2
  · cases hj; exact c3
  · simp at hj
theorem info41 : (Tryz.prog.info? 41).map (fun i => (i.zero, i.size, i.bytes)) = some (some (.agg zN), 21, 232) := by kernel_rfl
theorem nG_congr (tb : Nat → Nat) (k t : Nat) : rv (nG tb) (k * 21) ++ (okN (k : Int) (gtB k) (.slice (some ⟨t, 0, none⟩) 1 1)).toList = rv (nG (fun i => if i = k then t else tb i)) ((k + 1) * 21) := by
  have e0 : (k + 1) * 21 = k * 21 + 21 := by omega
  rw [e0, rv_add]
  congr 1
  · refine rv_congr fun j hj => ?_
    unfold nG
    have e1 : ¬ j / 21 = k := by omega
    dsimp only
    rw [if_neg e1]
  · refine rv_ext rfl fun j hj => ?_
    unfold nG
    have e1 : (k * 21 + j) / 21 = k := by omega
    have e2 : (k * 21 + j) % 21 = j := by omega
    rw [e1, e2]
    dsimp only
    rw [if_pos rfl]
    have hl : j < (okN (k : Int) (gtB k) (.slice (some ⟨t, 0, none⟩) 1 1)).toList.length := hj
    rw [List.getD_eq_getElem?_getD, List.getElem?_eq_getElem hl]
    rfl
theorem okN_one (me : Int) (gate : Bool) (a : Option Addr) (l c : Nat) : ∀ u ∈ (okN me gate (.slice a l c)).toList, u.oneCell' = true := by
  intro u hu
  have h : (okN me gate (.slice a l c)).all (·.oneCell') = true := by kernel_rfl
  rw [Array.all_eq_true'] at h
  exact h u (by simpa using hu)
set_option maxRecDepth 20000 in
set_option maxHeartbeats 4000000 in
theorem wnewS_any (w : World) : Calls Tryz.prog 4 #[] w fun r w' => (∃ wb tb na nc sa sc ba bc, r = .returned (.agg #[.slice na 8 nc, .slice none 0 0, .slice sa 8 sc, .slice ba 8 bc]) ∧ SwI w' (w.heap.size + 2) wb tb (.slice na 8 nc) (.slice sa 8 sc) (.slice ba 8 bc) 8) ∧ Below w.heap.size w w' := by
  have b0 := balloc (.cells #[.slice none 0 0, .slice none 0 0, .slice none 0 0, .slice none 0 0] 27) (Below.refl w.heap.size w)
  have hbox := heap_alloc_new w (.cells #[.slice none 0 0, .slice none 0 0, .slice none 0 0, .slice none 0 0] 27)
  have hsz : (w.alloc (.cells #[.slice none 0 0, .slice none 0 0, .slice none 0 0, .slice none 0 0] 27)).heap.size = w.heap.size + 1 := by simp [go_sem]
  go_enter Tryz.func4, Tryz.ntmps4
  go_upto_region 2 with fail
  have hs2 : ((w.alloc (.cells #[.slice none 0 0, .slice none 0 0, .slice none 0 0, .slice none 0 0] 27)).alloc (.cells #[.slice none 0 0, .slice none 0 0, .slice none 0 0, .slice none 0 0] 27)).heap.size = w.heap.size + 2 := by simp [go_sem]
  have hwb : ((w.alloc (.cells #[.slice none 0 0, .slice none 0 0, .slice none 0 0, .slice none 0 0] 27)).alloc (.cells #[.slice none 0 0, .slice none 0 0, .slice none 0 0, .slice none 0 0] 27)).heap[w.heap.size + 1]? = some (.cells #[.slice none 0 0, .slice none 0 0, .slice none 0 0, .slice none 0 0] 27 (0, 0)) := by
    have := heap_alloc_new (w.alloc (.cells #[.slice none 0 0, .slice none 0 0, .slice none 0 0, .slice none 0 0] 27)) (.cells #[.slice none 0 0, .slice none 0 0, .slice none 0 0, .slice none 0 0] 27)
    rwa [hsz] at this
  have hb2 : ((w.alloc (.cells #[.slice none 0 0, .slice none 0 0, .slice none 0 0, .slice none 0 0] 27)).alloc (.cells #[.slice none 0 0, .slice none 0 0, .slice none 0 0, .slice none 0 0] 27)).heap[w.heap.size]? = some (.cells #[.slice none 0 0, .slice none 0 0, .slice none 0 0, .slice none 0 0] 27 (0, 0)) := (heap_alloc_old _ _ (by simp)).trans hbox
  have b2 := balloc (.cells #[.slice none 0 0, .slice none 0 0, .slice none 0 0, .slice none 0 0] 27) b0
  generalize (w.alloc (.cells #[.slice none 0 0, .slice none 0 0, .slice none 0 0, .slice none 0 0] 27)).alloc (.cells #[.slice none 0 0, .slice none 0 0, .slice none 0 0, .slice none 0 0] 27) = u2 at *
  have hS0 : SwI u2 (w.heap.size + 2) (w.heap.size + 1) (fun _ => 0) (.slice none 0 0) (.slice none 0 0) (.slice none 0 0) 0 := ⟨hwb, World.ownsRow_nil _ _ _ _, World.ownsRow_nil _ _ _ _, World.ownsRow_nil _ _ _ _, fun i hi => by omega⟩
  clear hwb b0 hbox hsz
  obtain ⟨x0, hx0⟩ : ∃ x, Hid (w.heap.size = x) := ⟨_, rfl⟩
  obtain ⟨wb, hwb⟩ : ∃ x, Hid (w.heap.size + 1 = x) := ⟨_, rfl⟩
  obtain ⟨base, hbase⟩ : ∃ x, Hid (w.heap.size + 2 = x) := ⟨_, rfl⟩
  rw [hwb.out, hbase.out] at hS0
  rw [hwb.out]
  have hbu : base ≤ u2.heap.size := by have := hbase.out; omega
  have hwB : wb < base := by have := hbase.out; have := hwb.out; omega
  clear hs2
  obtain ⟨ti, hi, hz0, hz1, hz2⟩ := info_parts info41
  obtain ⟨ti3, hi3, hz03, hz13, hz23⟩ := info_parts info3
  obtain ⟨tif, hif, hz0f, hz1f, hz2f⟩ := info_parts info24
  go_wp2_with fail
  go_loopw [2, 3] (fun i _ wr => ∃ (k : Nat) (tb : Nat → Nat) (vn vs vb : Value), k ≤ 8 ∧ i = .int .i64 k ∧ SwI wr base wb tb vn vs vb k ∧ Below wb u2 wr) (fun i _ _ => 8 - (intOf i).toNat)
  case atStart => exact ⟨0, _, _, _, _, by omega, rfl, hS0, Below.refl _ _⟩
  case round =>
    obtain ⟨k, tb, vn, vs, vb, hk, rfl, hS, hb⟩ := hrel
    by_cases hlt : k < 8
    · have i1 : (k : Int) ≤ 7 := by omega
      go_wp2_with fail
      refine (gateS_any k _).mono ?_
      rintro r w1 ⟨rfl, rfl⟩
      go_wp2_with fail
      refine (snew_ok (k : Int) (gtB k) _ (inb_k hlt)).mono ?_
      rintro r w2 ⟨t, rfl, hr, hge, kb⟩
      have hth : (w2.alloc (.cells #[.int .i64 0, .bool false, .bool false, .bool false, .int .i64 0, .int .i64 0, .int .i64 0, .int .i64 0, .slice none 0 0, .slice none 0 0, .int .i64 0, .int .i64 0, .int .i64 0, .bool false, .slice none 0 0, .int .i64 0, .int .i64 0, .int .i64 0, .int .i64 0, .slice none 0 0, .slice none 0 0] 41)).there w2.heap.size 0 21 := there_new w2
      have hrg := World.rangeAt_setCells_same (w2.alloc (.cells #[.int .i64 0, .bool false, .bool false, .bool false, .int .i64 0, .int .i64 0, .int .i64 0, .int .i64 0, .slice none 0 0, .slice none 0 0, .int .i64 0, .int .i64 0, .int .i64 0, .bool false, .slice none 0 0, .int .i64 0, .int .i64 0, .int .i64 0, .int .i64 0, .slice none 0 0, .slice none 0 0] 41)) w2.heap.size 0 (okN (k : Int) (gtB k) (.slice (some ⟨t, 0, none⟩) 1 1)).toList hth
      have k3 := below_cells w2.heap.size (okN (k : Int) (gtB k) (.slice (some ⟨t, 0, none⟩) 1 1)).toList 0 (w2.alloc (.cells #[.int .i64 0, .bool false, .bool false, .bool false, .int .i64 0, .int .i64 0, .int .i64 0, .int .i64 0, .slice none 0 0, .slice none 0 0, .int .i64 0, .int .i64 0, .int .i64 0, .bool false, .slice none 0 0, .int .i64 0, .int .i64 0, .int .i64 0, .int .i64 0, .slice none 0 0, .slice none 0 0] 41)) (Nat.le_refl _) (balloc (.cells #[.int .i64 0, .bool false, .bool false, .bool false, .int .i64 0, .int .i64 0, .int .i64 0, .int .i64 0, .slice none 0 0, .slice none 0 0, .int .i64 0, .int .i64 0, .int .i64 0, .bool false, .slice none 0 0, .int .i64 0, .int .i64 0, .int .i64 0, .int .i64 0, .slice none 0 0, .slice none 0 0] 41) (Below.refl w2.heap.size w2))
      go_upto_region 6 with (refine wpList_store_mid rfl 41 _ _ rfl w2.heap.size 0 (okN (k : Int) (gtB k) (.slice (some ⟨t, 0, none⟩) 1 1)) rfl rfl hth (by kernel_rfl) (by kernel_rfl) ?_)
      clear hth
      have hx2 : w2.heap[wb]? = some (.cells #[vn, .slice none 0 0, vs, vb] 27 (0, 0)) := (kb.block wb (lt_of_block hS.x)).trans hS.x
      have kb3 := btrans kb k3
      have hr3 := hr.below k3
      have n3 := own_below hS.n kb3
      have d3 := own_below hS.d kb3
      have f3 := own_below hS.b kb3
      have x3 := (kb3.block wb (lt_of_block hS.x)).trans hS.x
      have t3 : ∀ i, i < k → Row1 ((w2.alloc (.cells #[.int .i64 0, .bool false, .bool false, .bool false, .int .i64 0, .int .i64 0, .int .i64 0, .int .i64 0, .slice none 0 0, .slice none 0 0, .int .i64 0, .int .i64 0, .int .i64 0, .bool false, .slice none 0 0, .int .i64 0, .int .i64 0, .int .i64 0, .int .i64 0, .slice none 0 0, .slice none 0 0] 41)).setCells w2.heap.size 0 (okN (k : Int) (gtB k) (.slice (some ⟨t, 0, none⟩) 1 1)).toList) (tb i) (i : Int) 0 1 (gtB i) := fun i hi => (hS.t i hi).1.below kb3
      have hb3 := hb.trans (kb3.mono (by have := hb.size; omega))
      have hw1 : base ≤ w1.heap.size := by have := hb.size; omega
      have hsz3 := kb3.size
      have hlt3 : w2.heap.size < ((w2.alloc (.cells #[.int .i64 0, .bool false, .bool false, .bool false, .int .i64 0, .int .i64 0, .int .i64 0, .int .i64 0, .slice none 0 0, .slice none 0 0, .int .i64 0, .int .i64 0, .int .i64 0, .bool false, .slice none 0 0, .int .i64 0, .int .i64 0, .int .i64 0, .int .i64 0, .slice none 0 0, .slice none 0 0] 41)).setCells w2.heap.size 0 (okN (k : Int) (gtB k) (.slice (some ⟨t, 0, none⟩) 1 1)).toList).heap.size := World.block_lt_of_cell? _ _ (hrg 0 _ rfl)
      have hw2s := kb.size
      clear hr k3 hx2
      generalize (w2.alloc (.cells #[.int .i64 0, .bool false, .bool false, .bool false, .int .i64 0, .int .i64 0, .int .i64 0, .int .i64 0, .slice none 0 0, .slice none 0 0, .int .i64 0, .int .i64 0, .int .i64 0, .bool false, .slice none 0 0, .int .i64 0, .int .i64 0, .int .i64 0, .int .i64 0, .slice none 0 0, .slice none 0 0] 41)).setCells w2.heap.size 0 (okN (k : Int) (gtB k) (.slice (some ⟨t, 0, none⟩) 1 1)).toList = v3 at *
      obtain ⟨nx, hnx⟩ : ∃ x, Hid (w2.heap.size = x) := ⟨_, rfl⟩
      have hrg' : v3.rangeAt nx 0 (okN (k : Int) (gtB k) (.slice (some ⟨t, 0, none⟩) 1 1)).toList := hnx.out ▸ hrg
      rw [hnx.out] at hlt3 hw2s
      clear hrg
      rw [hnx.out]
      have y0 := (Ws.new x3).c 0 vn rfl
      obtain ⟨na, nc, rfl, _⟩ := own_slice n3
      have kA := balloc (.cells (okN (k : Int) (gtB k) (.slice (some ⟨t, 0, none⟩) 1 1)) 41) (Below.refl v3.heap.size v3)
      have hG := Ws.box (w := v3) (okN (k : Int) (gtB k) (.slice (some ⟨t, 0, none⟩) 1 1)) 41
      have hcells : ∀ j u, (okN (k : Int) (gtB k) (.slice (some ⟨t, 0, none⟩) 1 1)).toList[j]? = some u → (v3.alloc (.cells (okN (k : Int) (gtB k) (.slice (some ⟨t, 0, none⟩) 1 1)) 41)).cell? ((⟨v3.heap.size, 0, none⟩ : Addr).add j) = some u := fun j u hj => by
        have e : (⟨v3.heap.size, 0, none⟩ : Addr).add j = ⟨v3.heap.size, j, none⟩ := by cases j <;> simp [Addr.add]
        rw [e]
        exact hG.c j u hj
      have nA := own_below n3 kA
      have hnl : ∀ x, (Value.slice na k nc).ownBlock = some x → x < w1.heap.size := fun x e => (hS.n.lt x e).2
      have nxS : ¬ (nx = wb ∨ (Value.slice na k nc).ownBlock = some nx) := fun q => by
        rcases q with q | q
        · have := lt_of_block hS.x; omega
        · have := hnl nx q; omega
      have hcells' : Hid _ := hcells
      have t3' : Hid _ := t3
      have hnl' : Hid _ := hnl
      clear hcells t3 hnl
      go_upto_region 6 with fail
      refine wp_region_w0 (fun b => b = wb ∨ (Value.slice na k nc).ownBlock = some b) s4_6 t4_6 (fun hbq => ?_)
      refine mY ?_
      refine mC (fun K hK => ?_)
      go_simp
      refine hK.out _ _ hbq (.inl ?_)
      clear hK K
      try simp only [putQ]
      refine mR (hS := nxS) ?_
      refine mC (fun K hK => ?_)
      refine wp_run (v := .slice (some ⟨v3.heap.size, 0, none⟩) 1 1) (w' := v3.alloc (.cells (okN (k : Int) (gtB k) (.slice (some ⟨t, 0, none⟩) 1 1)) 41)) (by kernel_rfl) ?_
      refine hK.out _ _ (Mw.of_below kA) (.inl ?_)
      clear hK K
      try simp only [putQ]
      refine mC (fun K hK => ?_)
      refine wp_append_at _ _ 22 rfl base 41 ti (.agg zN) 21 232 Tryz.underlying22 hi hz0 hz1 hz2 rfl (by decide) _ _ _ rfl nA ⟨v3.heap.size, 0, none⟩ 1 1 (okN (k : Int) (gtB k) (.slice (some ⟨t, 0, none⟩) 1 1)).toList rfl rfl hcells'.out (okN_one _ _ _ _ _) (by unfold maxLen; omega) (by omega) (by have := kA.size; have := hb3.size; omega) ?_
      intro v' w5 hown hgr hat
      obtain ⟨na', nc', rfl, _⟩ := own_slice hown
      have hx5 : w5.heap[wb]? = some (.cells #[.slice na k nc, .slice none 0 0, vs, vb] 27 (0, 0)) := (hgr.block wb (Nat.lt_of_lt_of_le (lt_of_block x3) kA.size) (fun e => own_box n3 x3 (by decide) e.symm)).trans ((kA.block wb (lt_of_block x3)).trans x3)
      have mB : Mw (fun b => b = wb ∨ (Value.slice na k nc).ownBlock = some b) v3 w5 := (Mw.of_below kA).trans (Mw.grown hgr (fun x e => .inr e))
      refine hK.out _ _ mB (.inl ?_)
      clear hK K
      try simp only [putQ]
      refine mY ?_
      have s0 := (Ws.new hx5).c 0 _ rfl
      have z0 := (Ws.new hx5).z 0
      refine mC (fun K hK => ?_)
      go_simp
      have mD : Mw (fun b => b = wb ∨ (Value.slice na k nc).ownBlock = some b) v3 (w5.setCell ⟨wb, 0, none⟩ (.slice na' (k + 1) nc')) := mB.set (.inl rfl)
      refine hK.out _ _ mD (.inl ?_)
      clear hK K s0 z0
      try simp only [putQ]
      refine mE ?_
      have x6 : (w5.setCell ⟨wb, 0, none⟩ (.slice na' (k + 1) nc')).heap[wb]? = some (.cells #[.slice na' (k + 1) nc', .slice none 0 0, vs, vb] 27 (0, 0)) := heap_set _ hx5
      have n6 := own_mw hown ((Mw.refl (fun b => b = wb) w5).set (o := 0) (v := .slice na' (k + 1) nc') rfl) (fun x e q => own_box hown hx5 (by decide) (q ▸ e))
      rw [nG_congr] at n6
      have d6 := own_mw d3 mD (fun x e q => q.elim (fun q => own_box d3 x3 (by decide) (q ▸ e)) (fun q => own_apart d3 n3 (by decide) x e q))
      have f6 := own_mw f3 mD (fun x e q => q.elim (fun q => own_box f3 x3 (by decide) (q ▸ e)) (fun q => own_apart f3 n3 (by decide) x e q))
      have hrg6 := mD.range hrg' nxS
      have tS : ∀ x, x ≠ wb → (Value.slice na k nc).ownBlock ≠ some x → ¬ (x = wb ∨ (Value.slice na k nc).ownBlock = some x) := fun x h1 h2 q => q.elim h1 h2
      have tlt := hr3.lt
      have hr6 := hr3.block (mD.block t hr3.lt (tS t (by have := lt_of_block hS.x; omega) (fun e => by have := hnl'.out t e; omega)))
      have t6 : ∀ i, i < k → Row1 (w5.setCell ⟨wb, 0, none⟩ (.slice na' (k + 1) nc')) (tb i) (i : Int) 0 1 (gtB i) := fun i hi => (t3'.out i hi).block (mD.block (tb i) (t3'.out i hi).lt (tS (tb i) (by have := (hS.t i hi).2.1; omega) (hS.t i hi).2.2.1))
      have hkA := kA.size
      have ont : (Value.slice na' (k + 1) nc').ownBlock ≠ some t := nblk hat (by omega) (fun e => by have := hnl'.out t e; omega)
      have onb : ∀ i, i < k → (Value.slice na' (k + 1) nc').ownBlock ≠ some (tb i) := fun i hi => nblk hat (by have := (t3'.out i hi).lt; omega) (hS.t i hi).2.2.1
      obtain ⟨tb', htb⟩ : ∃ f, Hid ((fun i => if i = k then t else tb i) = f) := ⟨_, rfl⟩
      rw [htb.out] at n6
      have hdl : ∀ x, vs.ownBlock = some x → x < w1.heap.size := fun x e => (hS.d.lt x e).2
      have hfl : ∀ x, vb.ownBlock = some x → x < w1.heap.size := fun x e => (hS.b.lt x e).2
      have wt : wb < w1.heap.size := lt_of_block hS.x
      have T6 : ∀ i, i < k + 1 → Row1 (w5.setCell ⟨wb, 0, none⟩ (.slice na' (k + 1) nc')) (tb' i) (i : Int) 0 1 (gtB i) ∧ base ≤ tb' i ∧ (Value.slice na' (k + 1) nc').ownBlock ≠ some (tb' i) ∧ vs.ownBlock ≠ some (tb' i) ∧ vb.ownBlock ≠ some (tb' i) := fun i hi => by
        rw [← htb.out]
        dsimp only
        by_cases e : i = k
        · subst e
          rw [if_pos rfl]
          exact ⟨hr6, by omega, ont, fun e => by have := hdl t e; omega, fun e => by have := hfl t e; omega⟩
        · rw [if_neg e]
          have hi' : i < k := by omega
          exact ⟨t6 i hi', (hS.t i hi').2.1, onb i hi', (hS.t i hi').2.2.2.1, (hS.t i hi').2.2.2.2⟩
      have nxd : vs.ownBlock ≠ some nx := fun e => by have := hdl nx e; omega
      have nxf : vb.ownBlock ≠ some nx := fun e => by have := hfl nx e; omega
      have nxw : nx ≠ wb := by omega
      have hbs : base ≤ (w5.setCell ⟨wb, 0, none⟩ (.slice na' (k + 1) nc')).heap.size := by have := mD.size; omega
      have b6 : Below wb u2 (w5.setCell ⟨wb, 0, none⟩ (.slice na' (k + 1) nc')) := mD.below' hb3 (by have := lt_of_block x3; omega) (fun x q => q.elim (fun q => by omega) (fun q => by have := (hS.n.lt x q).1; omega))
      have hwd : ∀ x, vs.ownBlock = some x → base ≤ x := fun x e => (hS.d.lt x e).1
      have hwf : ∀ x, vb.ownBlock = some x → base ≤ x := fun x e => (hS.b.lt x e).1
      have ttb : tb' k = t := by rw [← htb.out]; exact if_pos rfl
      have T6' : Hid _ := T6
      clear T6 t6 ont onb hnl' t3' hcells' hown hgr hat hx5 mB mD n3 nA x3 d3 f3 y0 hG kA hb3 hrg' hr3 hr6 tS nxS hbq hS hdl hfl hkA htb tlt hsz3 hlt3 hw2s
      generalize w5.setCell ⟨wb, 0, none⟩ (.slice na' (k + 1) nc') = u6 at *
      obtain ⟨da, dc, rfl, _⟩ := own_slice d6
      have kA := balloc (.cells #[.int .i64 0] 3) (Below.refl u6.heap.size u6)
      have hG := Ws.box (w := u6) #[.int .i64 0] 3
      have hcells : ∀ j u, [Value.int .i64 0][j]? = some u → (u6.alloc (.cells #[.int .i64 0] 3)).cell? ((⟨u6.heap.size, 0, none⟩ : Addr).add j) = some u := fun j u hj => by
        have e : (⟨u6.heap.size, 0, none⟩ : Addr).add j = ⟨u6.heap.size, j, none⟩ := by cases j <;> simp [Addr.add]
        rw [e]
        exact hG.c j u hj
      have hcells' : Hid _ := hcells
      have dA := own_below d6 kA
      have y2 := (Ws.new x6).c 2 (.slice da k dc) rfl
      clear hcells hG
      go_upto_region 7 with fail
      refine wp_region_w0 (fun b => b = wb ∨ (Value.slice da k dc).ownBlock = some b) s4_7 t4_7 (fun hbq => ?_)
      refine mY ?_
      refine mC (fun K hK => ?_)
      go_simp
      refine hK.out _ _ hbq (.inl ?_)
      clear hK K
      try simp only [putQ]
      refine mC (fun K hK => ?_)
      refine wp_run (v := .slice (some ⟨u6.heap.size, 0, none⟩) 1 1) (w' := u6.alloc (.cells #[.int .i64 0] 3)) (by kernel_rfl) ?_
      refine hK.out _ _ (Mw.of_below kA) (.inl ?_)
      clear hK K
      try simp only [putQ]
      refine mC (fun K hK => ?_)
      refine wp_append_at _ _ 24 rfl base 3 ti3 (.int .i64 0) 1 8 Tryz.underlying24 hi3 hz03 hz13 hz23 rfl (by decide) _ _ _ rfl dA ⟨u6.heap.size, 0, none⟩ 1 1 [.int .i64 0] rfl rfl hcells'.out (by intro u hu; cases List.mem_singleton.1 hu; rfl) (by unfold maxLen; omega) (by omega) (by have := kA.size; omega) ?_
      intro v' w7 hown hgr hat
      obtain ⟨da', dc', rfl, _⟩ := own_slice hown
      have hx7 : w7.heap[wb]? = some (.cells #[.slice na' (k + 1) nc', .slice none 0 0, .slice da k dc, vb] 27 (0, 0)) := (hgr.block wb (Nat.lt_of_lt_of_le (lt_of_block x6) kA.size) (fun e => own_box d6 x6 (by decide) e.symm)).trans ((kA.block wb (lt_of_block x6)).trans x6)
      have mB : Mw (fun b => b = wb ∨ (Value.slice da k dc).ownBlock = some b) u6 w7 := (Mw.of_below kA).trans (Mw.grown hgr (fun x e => .inr e))
      refine hK.out _ _ mB (.inl ?_)
      clear hK K
      try simp only [putQ]
      refine mY ?_
      have s0 := (Ws.new hx7).c 2 _ rfl
      have z0 := (Ws.new hx7).z 2
      refine mC (fun K hK => ?_)
      go_simp
      have mD : Mw (fun b => b = wb ∨ (Value.slice da k dc).ownBlock = some b) u6 (w7.setCell ⟨wb, 2, none⟩ (.slice da' (k + 1) dc')) := mB.set (.inl rfl)
      refine hK.out _ _ mD (.inl ?_)
      clear hK K s0 z0
      try simp only [putQ]
      refine mE ?_
      have x7 : (w7.setCell ⟨wb, 2, none⟩ (.slice da' (k + 1) dc')).heap[wb]? = some (.cells #[.slice na' (k + 1) nc', .slice none 0 0, .slice da' (k + 1) dc', vb] 27 (0, 0)) := heap_set _ hx7
      have d7 := own_mw hown ((Mw.refl (fun b => b = wb) w7).set (o := 2) (v := .slice da' (k + 1) dc') rfl) (fun x e q => own_box hown hx7 (by decide) (q ▸ e))
      rw [dG_succ] at d7
      have n7 := own_mw n6 mD (fun x e q => q.elim (fun q => own_box n6 x6 (by decide) (q ▸ e)) (fun q => own_apart n6 d6 (by decide) x e q))
      have f7 := own_mw f6 mD (fun x e q => q.elim (fun q => own_box f6 x6 (by decide) (q ▸ e)) (fun q => own_apart f6 d6 (by decide) x e q))
      have hrg7 := mD.range hrg6 (fun q => q.elim nxw nxd)
      have hkA := kA.size
      have T7 : ∀ i, i < k + 1 → Row1 (w7.setCell ⟨wb, 2, none⟩ (.slice da' (k + 1) dc')) (tb' i) (i : Int) 0 1 (gtB i) ∧ base ≤ tb' i ∧ (Value.slice na' (k + 1) nc').ownBlock ≠ some (tb' i) ∧ (Value.slice da' (k + 1) dc').ownBlock ≠ some (tb' i) ∧ vb.ownBlock ≠ some (tb' i) := fun i hi => by
        obtain ⟨q1, q2, q3, q4, q5⟩ := T6'.out i hi
        exact ⟨q1.block (mD.block (tb' i) q1.lt (fun q => q.elim (fun q => by omega) q4)), q2, q3, nblk hat (by have := q1.lt; omega) q4, q5⟩
      have b7 : Below wb u2 (w7.setCell ⟨wb, 2, none⟩ (.slice da' (k + 1) dc')) := mD.below' b6 (by have := lt_of_block x6; omega) (fun x q => q.elim (fun q => by omega) (fun q => by have := hwd x q; omega))
      have hbs7 : base ≤ (w7.setCell ⟨wb, 2, none⟩ (.slice da' (k + 1) dc')).heap.size := by have := mD.size; omega
      have T7' : Hid _ := T7
      clear T7 T6' hcells' hown hgr hat hx7 mB mD d6 dA x6 n6 f6 y2 kA hrg6 hbq hkA b6 hbs hwd nxd
      generalize w7.setCell ⟨wb, 2, none⟩ (.slice da' (k + 1) dc') = u7 at *
      rw [bF_len] at f7
      obtain ⟨ba, bc, rfl, _⟩ := own_slice f7
      have kA0 := balloc (.cells #[.int .i64 (k : Int), .int .i64 0, .int .i64 1, .bool (gtB k)] 45) (Below.refl u7.heap.size u7)
      have kA : Below u7.heap.size u7 (u7.alloc (.cells #[.int .i64 (k : Int), .int .i64 0, .int .i64 1, .bool (gtB k)] 45)).drew := ⟨kA0.os, kA0.tape, kA0.output, kA0.size, kA0.block⟩
      clear kA0
      have hG0 := Ws.box (w := u7) #[.int .i64 (k : Int), .int .i64 0, .int .i64 1, .bool (gtB k)] 45
      have hG : Ws (u7.alloc (.cells #[.int .i64 (k : Int), .int .i64 0, .int .i64 1, .bool (gtB k)] 45)).drew u7.heap.size #[.int .i64 (k : Int), .int .i64 0, .int .i64 1, .bool (gtB k)].toList := ⟨hG0.lt, hG0.c, hG0.z⟩
      clear hG0
      have hcells : ∀ j u, #[.int .i64 (k : Int), .int .i64 0, .int .i64 1, .bool (gtB k)].toList[j]? = some u → (u7.alloc (.cells #[.int .i64 (k : Int), .int .i64 0, .int .i64 1, .bool (gtB k)] 45)).drew.cell? ((⟨u7.heap.size, 0, none⟩ : Addr).add j) = some u := fun j u hj => by
        have e : (⟨u7.heap.size, 0, none⟩ : Addr).add j = ⟨u7.heap.size, j, none⟩ := by cases j <;> simp [Addr.add]
        rw [e]
        exact hG.c j u hj
      have hcells' : Hid _ := hcells
      have fA := own_below f7 kA
      have x7A : (u7.alloc (.cells #[.int .i64 (k : Int), .int .i64 0, .int .i64 1, .bool (gtB k)] 45)).drew.heap[wb]? = some (.cells #[.slice na' (k + 1) nc', .slice none 0 0, .slice da' (k + 1) dc', .slice ba k bc] 27 (0, 0)) := (kA.block wb (lt_of_block x7)).trans x7
      have hfin : ∀ v' w8, w8.ownsRow base 45 4 v' (k + 1) (fl (bF k) ++ #[.int .i64 (k : Int), .int .i64 0, .int .i64 1, .bool (gtB k)].toList) → (u7.alloc (.cells #[.int .i64 (k : Int), .int .i64 0, .int .i64 1, .bool (gtB k)] 45)).drew.grownBy w8 (Value.slice ba k bc).ownBlock → (v'.ownBlock = (Value.slice ba k bc).ownBlock ∨ v'.ownBlock = some (u7.alloc (.cells #[.int .i64 (k : Int), .int .i64 0, .int .i64 1, .bool (gtB k)] 45)).drew.heap.size) → SwI (w8.setCell ⟨wb, 3, none⟩ v') base wb tb' (.slice na' (k + 1) nc') (.slice da' (k + 1) dc') v' (k + 1) ∧ Below wb u2 (w8.setCell ⟨wb, 3, none⟩ v') := fun v' w8 h1 h2 h3 => by
        have hx8 : w8.heap[wb]? = some (.cells #[.slice na' (k + 1) nc', .slice none 0 0, .slice da' (k + 1) dc', .slice ba k bc] 27 (0, 0)) := (h2.block wb (lt_of_block x7A) (fun e => own_box fA x7A (by decide) e.symm)).trans x7A
        have m2 : Mw (fun b => b = wb ∨ (Value.slice ba k bc).ownBlock = some b) u7 w8 := (Mw.of_below kA).trans (Mw.grown h2 (fun x e => .inr e))
        have mD : Mw (fun b => b = wb ∨ (Value.slice ba k bc).ownBlock = some b) u7 (w8.setCell ⟨wb, 3, none⟩ v') := m2.set (.inl rfl)
        have b8 := own_mw h1 ((Mw.refl (fun b => b = wb) w8).set (o := 3) (v := v') rfl) (fun x e q => own_box h1 hx8 (by decide) (q ▸ e))
        have e : fl (bF k) ++ #[.int .i64 (k : Int), .int .i64 0, .int .i64 1, .bool (gtB k)].toList = fl (bF (k + 1)) := by rw [bF_succ, fl_snoc]
        rw [e] at b8
        refine ⟨⟨heap_set v' hx8, own_mw n7 mD (fun x e q => q.elim (fun q => own_box n7 x7 (by decide) (q ▸ e)) (fun q => own_apart n7 f7 (by decide) x e q)), own_mw d7 mD (fun x e q => q.elim (fun q => own_box d7 x7 (by decide) (q ▸ e)) (fun q => own_apart d7 f7 (by decide) x e q)), by rw [bF_len]; exact b8, fun i hi => ?_⟩, mD.below' b7 (by have := lt_of_block x7; omega) (fun x q => q.elim (fun q => by omega) (fun q => by have := hwf x q; omega))⟩
        obtain ⟨q1, q2, q3, q4, q5⟩ := T7'.out i hi
        exact ⟨q1.block (mD.block (tb' i) q1.lt (fun q => q.elim (fun q => by omega) q5)), q2, q3, q4, nblk h3 (by have := q1.lt; have := kA.size; omega) q5⟩
      have hfin' : Hid _ := hfin
      clear hfin hcells
      have y3 := (Ws.new x7).c 3 (.slice ba k bc) rfl
      have y3A : (u7.alloc (.cells #[.int .i64 (k : Int), .int .i64 0, .int .i64 1, .bool (gtB k)] 45)).drew.cell? ⟨wb, 3, none⟩ = some (.slice ba k bc) := keep_below kA y3
      have c8 : u7.cell? ⟨nx, 8, none⟩ = some (.slice (some ⟨t, 0, none⟩) 1 1) := by have := hrg7 8 _ rfl; simpa using this
      have hRt := (T7'.out k (by omega)).1.range
      have htw := (T7'.out k (by omega)).2.1
      have htf := (T7'.out k (by omega)).2.2.2.2
      rw [ttb] at hRt htw htf
      have nxS : ¬ (nx = wb ∨ (Value.slice ba k bc).ownBlock = some nx) := fun q => q.elim nxw nxf
      have tS : ¬ (t = wb ∨ (Value.slice ba k bc).ownBlock = some t) := fun q => q.elim (fun q => by omega) htf
      go_upto_region 8 with fail
      refine wp_region_wf (fun b => b = wb ∨ (Value.slice ba k bc).ownBlock = some b) sp4_8 tp4_8 (i := 1) (j := 6) (si := sa4_8) (sj := sb4_8) (r1 := [(6, 1), (7, 1), (8, 0), (9, 1)]) (r2 := [(1, 1), (7, 1), (8, 0), (9, 1)]) (L1 := sb4_8 :: sr4_8) (L2 := sa4_8 :: sr4_8) (fun hbq => ?_)
      iterate 2 refine mY ?_
      refine mL ?_
      refine mY ?_
      refine mR (hS := tS) ?_
      refine mE ⟨?_, ?_⟩
      · skip
        refine mC (fun K hK => ?_)
        go_simp
        refine hK.out _ _ hbq (.inl ?_)
        clear hK K
        try simp only [putQ]
        refine mC (fun K hK => ?_)
        go_simp
        refine hK.out _ _ (Mw.of_below kA) (.inl ?_)
        clear hK K
        try simp only [putQ]
        refine mC (fun K hK => ?_)
        refine wp_append_at _ _ 25 rfl base 45 tif (fval Fc.zero) 4 32 Tryz.underlying25 hif hz0f hz1f hz2f rfl (by decide) _ _ _ rfl fA ⟨u7.heap.size, 0, none⟩ 1 1 #[.int .i64 (k : Int), .int .i64 0, .int .i64 1, .bool (gtB k)].toList rfl rfl hcells'.out (by intro u hu; simp at hu; rcases hu with rfl | rfl | rfl | rfl <;> rfl) (by unfold maxLen; omega) (by omega) (by have := kA.size; omega) ?_
        intro v' w8 h1 h2 h3
        obtain ⟨za, zc, rfl, _⟩ := own_slice h1
        have fin := hfin'.out _ w8 h1 h2 h3
        have hx8 : w8.heap[wb]? = some (.cells #[.slice na' (k + 1) nc', .slice none 0 0, .slice da' (k + 1) dc', .slice ba k bc] 27 (0, 0)) := (h2.block wb (lt_of_block x7A) (fun e => own_box fA x7A (by decide) e.symm)).trans x7A
        have m2 : Mw (fun b => b = wb ∨ (Value.slice ba k bc).ownBlock = some b) u7 w8 := (Mw.of_below kA).trans (Mw.grown h2 (fun x e => .inr e))
        refine hK.out _ _ m2 (.inl ?_)
        clear hK K h1 h2 h3 hfin' hcells' fA x7A
        try simp only [putQ]
        refine mY ?_
        have s3 := (Ws.new hx8).c 3 _ rfl
        have z3 := (Ws.new hx8).z 3
        refine mC (fun K hK => ?_)
        go_simp
        refine hK.out _ _ (m2.set (.inl rfl)) (.inl ?_)
        clear hK K s3 z3 hx8 m2
        try simp only [putQ]
        refine mE ?_
        generalize w8.setCell ⟨wb, 3, none⟩ (.slice za (k + 1) zc) = w9 at *
        clear kA x7 n7 d7 f7 hrg7 T7' b7 hG
        go_wp2
        go_roundw
        case rel => exact ⟨k + 1, tb', _, _, _, by omega, by go_num, fin.1, fin.2⟩
        case measure => simp [intOf]; omega
      · skip
        refine mC (fun K hK => ?_)
        go_simp
        refine hK.out _ _ (Mw.of_below kA) (.inl ?_)
        clear hK K
        try simp only [putQ]
        refine mC (fun K hK => ?_)
        go_simp
        refine hK.out _ _ (Mw.of_below kA) (.inl ?_)
        clear hK K
        try simp only [putQ]
        refine mC (fun K hK => ?_)
        refine wp_append_at _ _ 25 rfl base 45 tif (fval Fc.zero) 4 32 Tryz.underlying25 hif hz0f hz1f hz2f rfl (by decide) _ _ _ rfl fA ⟨u7.heap.size, 0, none⟩ 1 1 #[.int .i64 (k : Int), .int .i64 0, .int .i64 1, .bool (gtB k)].toList rfl rfl hcells'.out (by intro u hu; simp at hu; rcases hu with rfl | rfl | rfl | rfl <;> rfl) (by unfold maxLen; omega) (by omega) (by have := kA.size; omega) ?_
        intro v' w8 h1 h2 h3
        obtain ⟨za, zc, rfl, _⟩ := own_slice h1
        have fin := hfin'.out _ w8 h1 h2 h3
        have hx8 : w8.heap[wb]? = some (.cells #[.slice na' (k + 1) nc', .slice none 0 0, .slice da' (k + 1) dc', .slice ba k bc] 27 (0, 0)) := (h2.block wb (lt_of_block x7A) (fun e => own_box fA x7A (by decide) e.symm)).trans x7A
        have m2 : Mw (fun b => b = wb ∨ (Value.slice ba k bc).ownBlock = some b) u7 w8 := (Mw.of_below kA).trans (Mw.grown h2 (fun x e => .inr e))
        refine hK.out _ _ m2 (.inl ?_)
        clear hK K h1 h2 h3 hfin' hcells' fA x7A
        try simp only [putQ]
        refine mY ?_
        have s3 := (Ws.new hx8).c 3 _ rfl
        have z3 := (Ws.new hx8).z 3
        refine mC (fun K hK => ?_)
        go_simp
        refine hK.out _ _ (m2.set (.inl rfl)) (.inl ?_)
        clear hK K s3 z3 hx8 m2
        try simp only [putQ]
        refine mE ?_
        generalize w8.setCell ⟨wb, 3, none⟩ (.slice za (k + 1) zc) = w9 at *
        clear kA x7 n7 d7 f7 hrg7 T7' b7 hG
        go_wp2
        go_roundw
        case rel => exact ⟨k + 1, tb', _, _, _, by omega, by go_num, fin.1, fin.2⟩
        case measure => simp [intOf]; omega
    · obtain rfl : k = 8 := by omega
      obtain ⟨na, nc, rfl, _⟩ := own_slice hS.n
      obtain ⟨sa, sc, rfl, _⟩ := own_slice hS.d
      have hb8 := hS.b
      rw [bF_len] at hb8
      obtain ⟨ba, bc, rfl, _⟩ := own_slice hb8
      clear hb8
      have Yw := Ws.new hS.x
      have p0 := Yw.c 0 (.slice na 8 nc) rfl
      have p1 := Yw.c 1 (.slice none 0 0) rfl
      have p2 := Yw.c 2 (.slice sa 8 sc) rfl
      have p3 := Yw.c 3 (.slice ba 8 bc) rfl
      have hwo := hwb.out
      have hbo := hbase.out
      have hx2 : wr.heap[w.heap.size]? = some (.cells #[.slice none 0 0, .slice none 0 0, .slice none 0 0, .slice none 0 0] 27 (0, 0)) := (hb.block w.heap.size (by omega)).trans hb2
      have X := Ws.new hx2
      have x0 := X.c 0 (.slice none 0 0) rfl
      have x1 := X.c 1 (.slice none 0 0) rfl
      have x2 := X.c 2 (.slice none 0 0) rfl
      have x3 := X.c 3 (.slice none 0 0) rfl
      have z0 := X.z 0
      have z1 := X.z 1
      have z2 := X.z 2
      have z3 := X.z 3
      have Y := (((X.set 0 (by simp) (.slice na 8 nc)).set 1 (by simp) (.slice none 0 0)).set 2 (by simp) (.slice sa 8 sc)).set 3 (by simp) (.slice ba 8 bc)
      have mE4 : Mw (fun x => x = w.heap.size) wr ((((wr.setCell ⟨w.heap.size, 0, none⟩ (.slice na 8 nc)).setCell ⟨w.heap.size, 1, none⟩ (.slice none 0 0)).setCell ⟨w.heap.size, 2, none⟩ (.slice sa 8 sc)).setCell ⟨w.heap.size, 3, none⟩ (.slice ba 8 bc)) := ((((Mw.refl (fun x => x = w.heap.size) wr).set rfl).set rfl).set rfl).set rfl
      have hN4 := hS.mw1 mE4 (by omega) (by omega)
      have b4 := mE4.below (b2.trans (hb.mono (by omega))) (fun i e => by omega)
      have hN4' : Hid _ := hN4
      clear hS hb X Yw mE4 hx2 b2 hb2 hwo hbo hN4 hbu hwB
      go_wp2_with fail
      clear x0 x1 x2 x3 z0 z1 z2 z3 p0 p1 p2 p3
      have y0 := Y.c 0 (.slice na 8 nc) rfl
      have y1 := Y.c 1 (.slice none 0 0) rfl
      have y2 := Y.c 2 (.slice sa 8 sc) rfl
      have y3 := Y.c 3 (.slice ba 8 bc) rfl
      clear Y
      generalize ((((wr.setCell ⟨w.heap.size, 0, none⟩ (.slice na 8 nc)).setCell ⟨w.heap.size, 1, none⟩ (.slice none 0 0)).setCell ⟨w.heap.size, 2, none⟩ (.slice sa 8 sc)).setCell ⟨w.heap.size, 3, none⟩ (.slice ba 8 bc)) = W4 at *
      refine bodyPost_ret (v := .agg #[.slice na 8 nc, .slice none 0 0, .slice sa 8 sc, .slice ba 8 bc]) ?_ rfl ⟨⟨wb, tb, na, nc, sa, sc, ba, bc, rfl, hbase.out ▸ hN4'.out⟩, b4⟩
      simp [results, Tryz.results4, go_sem, y0, y1, y2, y3]
end Go.Proofs.YtlabilijnpkmgaaGreatDoor
