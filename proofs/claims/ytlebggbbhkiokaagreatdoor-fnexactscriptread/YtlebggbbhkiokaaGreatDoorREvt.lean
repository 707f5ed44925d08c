/- An event read: the program's way. -/
import Derived.Test.YtlebggbbhkiokaaGreatDoorRNum
namespace Go.Proofs.YtlebggbbhkiokaaGreatDoor
open Go.ChangeShapes Go.WideShapes Go.ChangeAt Go.RowKit
attribute [local go_sem ↓] Go.wp_at_zero Go.wp_at_succ
/-- an event in a block that is stored to -/
structure Bx (w : World) (b : Nat) (f : Fc) : Prop where
  lt : b < w.heap.size
  c0 : w.cell? ⟨b, 0, none⟩ = some (.int .i64 f.n)
  c1 : w.cell? ⟨b, 1, none⟩ = some (.int .i64 f.i)
  c2 : w.cell? ⟨b, 2, none⟩ = some (.int .i64 f.s)
  c3 : w.cell? ⟨b, 3, none⟩ = some (.bool f.g)
  z : ∀ k, w.frozen? ⟨b, k, none⟩ = false
theorem frozen_below {w w' : World} {b k : Nat} (hb : Below w.heap.size w w') (hl : b < w.heap.size) (h : w.frozen? ⟨b, k, none⟩ = false) : w'.frozen? ⟨b, k, none⟩ = false := by
  rw [hb.frozen hl]
  exact h
theorem Bx.below {w w' : World} {b : Nat} {f : Fc} (h : Bx w b f) (hb : Below w.heap.size w w') : Bx w' b f :=
  ⟨Nat.lt_of_lt_of_le h.lt hb.size, keep_below hb h.c0, keep_below hb h.c1, keep_below hb h.c2, keep_below hb h.c3, fun k => frozen_below hb h.lt (h.z k)⟩
theorem Bx.drew {w : World} {b : Nat} {f : Fc} (h : Bx w b f) : Bx w.drew b f := ⟨h.lt, h.c0, h.c1, h.c2, h.c3, h.z⟩
theorem cell_far {w : World} {p a : Addr} (v : Value) (h : a.block ≠ p.block) : (w.setCell p v).cell? a = w.cell? a :=
  World.cell?_of_block (w := w) (Below.heap_setCell w p v a.block h)
theorem Bx.far {w : World} {b b' k : Nat} {f : Fc} {v : Value} (h : Bx w b f) (hne : b ≠ b') : Bx (w.setCell ⟨b', k, none⟩ v) b f :=
  ⟨by simpa [World.setCell] using h.lt, (cell_far _ hne).trans h.c0, (cell_far _ hne).trans h.c1, (cell_far _ hne).trans h.c2, (cell_far _ hne).trans h.c3, fun k => by rw [World.frozen?_setCell]; exact h.z k⟩
theorem Bx.set0 {w : World} {b : Nat} {f : Fc} (h : Bx w b f) (n : Int) : Bx (w.setCell ⟨b, 0, none⟩ (.int .i64 n)) b ⟨n, f.i, f.s, f.g⟩ :=
  ⟨by simpa [World.setCell] using h.lt, by rw [World.cell?_setCell_same' _ _ _ (by rw [h.c0]; rfl)], (World.cell?_setCell_other _ _ _ _ (by simp)).trans h.c1, (World.cell?_setCell_other _ _ _ _ (by simp)).trans h.c2, (World.cell?_setCell_other _ _ _ _ (by simp)).trans h.c3, fun k => by rw [World.frozen?_setCell]; exact h.z k⟩
theorem Bx.set1 {w : World} {b : Nat} {f : Fc} (h : Bx w b f) (n : Int) : Bx (w.setCell ⟨b, 1, none⟩ (.int .i64 n)) b ⟨f.n, n, f.s, f.g⟩ :=
  ⟨by simpa [World.setCell] using h.lt, (World.cell?_setCell_other _ _ _ _ (by simp)).trans h.c0, by rw [World.cell?_setCell_same' _ _ _ (by rw [h.c1]; rfl)], (World.cell?_setCell_other _ _ _ _ (by simp)).trans h.c2, (World.cell?_setCell_other _ _ _ _ (by simp)).trans h.c3, fun k => by rw [World.frozen?_setCell]; exact h.z k⟩
theorem Bx.set2 {w : World} {b : Nat} {f : Fc} (h : Bx w b f) (n : Int) : Bx (w.setCell ⟨b, 2, none⟩ (.int .i64 n)) b ⟨f.n, f.i, n, f.g⟩ :=
  ⟨by simpa [World.setCell] using h.lt, (World.cell?_setCell_other _ _ _ _ (by simp)).trans h.c0, (World.cell?_setCell_other _ _ _ _ (by simp)).trans h.c1, by rw [World.cell?_setCell_same' _ _ _ (by rw [h.c2]; rfl)], (World.cell?_setCell_other _ _ _ _ (by simp)).trans h.c3, fun k => by rw [World.frozen?_setCell]; exact h.z k⟩
theorem Bx.set3 {w : World} {b : Nat} {f : Fc} (h : Bx w b f) (g : Bool) : Bx (w.setCell ⟨b, 3, none⟩ (.bool g)) b ⟨f.n, f.i, f.s, g⟩ :=
  ⟨by simpa [World.setCell] using h.lt, (World.cell?_setCell_other _ _ _ _ (by simp)).trans h.c0, (World.cell?_setCell_other _ _ _ _ (by simp)).trans h.c1, (World.cell?_setCell_other _ _ _ _ (by simp)).trans h.c2, by rw [World.cell?_setCell_same' _ _ _ (by rw [h.c3]; rfl)], fun k => by rw [World.frozen?_setCell]; exact h.z k⟩
theorem splitK_len (c : UInt8) : ∀ (k : Nat) (s : List UInt8), ∀ p ∈ Lib.splitK [c] 0 k s, p.length ≤ s.length
  | 0, s, p, hp => by
    simp only [Lib.splitK, List.mem_cons, List.not_mem_nil, or_false] at hp
    rw [hp]
    exact Nat.le_refl _
  | k + 1, s, p, hp => by
    rw [Lib.splitK] at hp
    split at hp
    · simp only [List.mem_cons, List.not_mem_nil, or_false] at hp
      rw [hp]
      exact Nat.le_refl _
    · rcases List.mem_cons.1 hp with e | e
      · rw [e, List.length_take]
        omega
      · have := splitK_len c k _ p e
        rw [List.length_drop] at this
        omega
theorem splitN_any (s : ByteArray) (hs : s.size ≤ 1048576) (w : World) (hp : Pst w) :
    Calls Tryz.prog 34 #[.string s, .string (bs [32]), .int .i64 4] w fun e w' => ∃ c, e = .returned (.slice (some ⟨w.heap.size, 0, none⟩) (Lib.splitN s.data.toList [32] 4).length c) ∧ (Lib.splitN s.data.toList [32] 4).length ≤ c ∧ (∀ j p, (Lib.splitN s.data.toList [32] 4)[j]? = some p → w'.cell? ⟨w.heap.size, j, none⟩ = some (.string (bs p))) ∧ Below w.heap.size w w' := by
  obtain ⟨m, hm⟩ := hp.m
  have hd : (Lib.splitB (bs [32]) 0 (min 4 (s.size + 1) - 1) s).map (·.data.toList) = Lib.splitN s.data.toList [32] 4 := by
    rw [Lib.splitB_data]
    unfold Lib.splitN
    have : s.data.toList.length = s.size := by simp
    rw [this]
  refine (Tryz.strings_SplitN s (bs [32]) 4 m w (by omega) hm (Nat.le_refl 1) (by omega) (by omega)).mono ?_
  rintro e w' ⟨rfl, rfl⟩
  have hl : (Lib.splitB (bs [32]) 0 (min 4 (s.size + 1) - 1) s).length = (Lib.splitN s.data.toList [32] 4).length := by rw [← hd, List.length_map]
  have hle : ∀ (k : Nat) (t : ByteArray), (Lib.splitB (bs [32]) 0 k t).length ≤ k + 1 := by
    intro k
    induction k with
    | zero => intro t; simp [Lib.splitB]
    | succ k ih =>
      intro t
      unfold Lib.splitB
      split
      · simp
      · have := ih (t.extract ((Lib.indexB t (bs [32])).toNat + (bs [32]).size) t.size)
        simp only [List.length_cons]
        omega
  have hle' := hle (min 4 (s.size + 1) - 1) s
  refine ⟨min 4 (s.size + 1), by rw [hl], by rw [← hl]; omega, fun j p hj => ?_, balloc _ (Below.refl _ _)⟩
  rw [← hd, List.getElem?_map, Option.map_eq_some_iff] at hj
  obtain ⟨b, hb, rfl⟩ := hj
  have e : bs b.data.toList = b := rfl
  rw [e]
  generalize Lib.splitB (bs [32]) 0 (min 4 (s.size + 1) - 1) s = l at hb hle'
  have hj := (List.getElem?_eq_some_iff.1 hb).1
  refine cell_block (heap_alloc_new _ _) ?_
  unfold Lib.cellsOf
  simp [List.getElem?_append, hj]
  exact (List.getElem?_eq_some_iff.1 hb).2
/-- what the words of a line are -/
def evP : List (List UInt8) → Fc × Bool
  | [a, b] => if numK a ≠ 0 ∧ (fnum b).2 = true then (⟨numK a, (fnum b).1, 0, false⟩, true) else (⟨0, 0, 0, false⟩, false)
  | [a, b, c] => if numK a ≠ 0 ∧ (fnum b).2 = true then (if numK a = 2 ∧ c = [107, 101, 101, 112] then (⟨numK a, (fnum b).1, 0, true⟩, true) else (⟨numK a, (fnum b).1, (fnum c).1, false⟩, (fnum c).2)) else (⟨0, 0, 0, false⟩, false)
  | _ => (⟨0, 0, 0, false⟩, false)
theorem evP_other {P : List (List UInt8)} (h2 : P.length ≠ 2) (h3 : P.length ≠ 3) : evP P = (⟨0, 0, 0, false⟩, false) := by
  unfold evP
  split
  · exact absurd rfl h2
  · exact absurd rfl h3
  · rfl
theorem evP_ok (P : List (List UInt8)) (h : (evP P).2 = true) : eok (evP P).1 = true := by
  unfold evP at h ⊢
  split at h
  · next a b =>
    split at h
    · next hh =>
      have r := numK_range a
      have f := fnum_in hh.2
      simp only [if_pos hh]
      unfold eok inb
      simp
      omega
    · cases h
  · next a b c =>
    split at h
    · next hh =>
      have r := numK_range a
      have f := fnum_in hh.2
      simp only [if_pos hh]
      split at h
      · next hk =>
        simp only [if_pos hk]
        unfold eok inb
        simp
        omega
      · next hk =>
        have fc := fnum_in h
        simp only [if_neg hk]
        unfold eok inb
        simp
        omega
    · cases h
  · cases h
theorem evP_line {g : Fc} (h : eok g = true) : evP (wordK g.n :: Lib.itoa g.i :: third g) = (g, true) := by
  obtain ⟨n1, n9, i0, i6, s0, s6⟩ := eok_all h
  have e1 := numK_word g.n n1 n9
  have e2 := fnum_dec g.i i0 i6
  have hn : numK (wordK g.n) ≠ 0 ∧ (fnum (Lib.itoa g.i)).2 = true := ⟨by rw [e1]; omega, by rw [e2]⟩
  unfold third
  split
  · next hg =>
    obtain ⟨k2, k0⟩ := eok_keep h hg
    simp only [evP]
    rw [if_pos hn, e1, e2, if_pos ⟨k2, trivial⟩]
    obtain ⟨a, b, c, d⟩ := g
    simp only at k2 k0 hg
    subst k2 k0 hg
    rfl
  · next hg =>
    have hg' : g.g = false := by simpa using hg
    split
    · next hs =>
      have e3 := fnum_dec g.s s0 s6
      simp only [evP]
      rw [if_pos hn, e1, e2, e3, if_neg]
      · obtain ⟨a, b, c, d⟩ := g
        simp only at hg'
        subst hg'
        rfl
      · rintro ⟨_, e⟩
        have := itoa_free (n := g.s) s0
        have hf := dd_fig (g.s.toNat + 1) g.s.toNat (by omega) 107 (by rw [← itoa_dec _ s0, e]; simp)
        have : (107 : UInt8).toNat = 107 := rfl
        omega
    · next hs =>
      have hs0 : g.s = 0 := by omega
      simp only [evP]
      rw [if_pos hn, e1, e2]
      obtain ⟨a, b, c, d⟩ := g
      simp only at hg' hs0
      subst hg' hs0
      rfl
/-- an event is answered, and whether it is one -/
def Rev (r : Fc × Bool) (w : World) (e : Ending) (w' : World) : Prop := e = .returned (.tuple #[.agg #[.int .i64 r.1.n, .int .i64 r.1.i, .int .i64 r.1.s, .bool r.1.g], .bool r.2]) ∧ Below w.heap.size w w'
theorem Rev.of {r : Fc × Bool} {w w' : World} {f : Fc} {q : Bool} (h : Hid (r = (f, q))) (hb : Below w.heap.size w w') : Rev r w (.returned (.tuple #[.agg #[.int .i64 f.n, .int .i64 f.i, .int .i64 f.s, .bool f.g], .bool q])) w' := by
  have h' := h.out
  subst h'
  exact ⟨rfl, hb⟩
theorem numberOf_lit (x : ByteArray) (n : Int) (q : Bool) (hn : numK x.data.toList = n) (hq : decide (n ≠ 0) = q) (w : World) (ht : Tabs w) :
    Calls Tryz.prog 36 #[.string (bs [116, 105, 99, 107, 32, 98, 114, 105, 110, 103, 32, 108, 111, 115, 101, 32, 115, 112, 111, 105, 108, 32, 115, 105, 100, 101, 32, 102, 97, 108, 108, 32, 114, 105, 115, 101, 32, 108, 101, 97, 118, 101, 32, 106, 111, 105, 110]), .string x] w fun e w' => e = .returned (.tuple #[.int .i64 n, .bool q]) ∧ Below w.heap.size w w' := by
  subst hn hq
  exact numberOf_any x.data.toList w ht
theorem figures_lit (x : ByteArray) (n : Int) (q : Bool) (hs : x.size ≤ 1048576) (hn : fnum x.data.toList = (n, q)) (w : World) (hp : Pst w) :
    Calls Tryz.prog 37 #[.string x, .int .i64 999999] w fun e w' => e = .returned (.tuple #[.int .i64 n, .bool q]) ∧ Below w.heap.size w w' := by
  have := figures_any x hs w hp
  rw [hn] at this
  exact this
set_option maxRecDepth 20000 in
set_option maxHeartbeats 8000000 in
theorem evOf_any (s : ByteArray) (hs : s.size ≤ 1048576) (w : World) (hp : Pst w) :
    Calls Tryz.prog 27 #[.string s] w fun e w' => Rev (evP (Lib.splitN s.data.toList [32] 4)) w e w' := by
  go_enter Tryz.func27, Tryz.ntmps27
  go_wp2_with fail
  have BA : Bx (w.alloc (.cells #[.int .i64 0, .int .i64 0, .int .i64 0, .bool false] 31)) w.heap.size ⟨0, 0, 0, false⟩ := ⟨by simp, by simp, by simp, by simp, by simp, fun k => by simp⟩
  have BW : Below w.heap.size w (w.alloc (.cells #[.int .i64 0, .int .i64 0, .int .i64 0, .bool false] 31)) := balloc _ (Below.refl _ _)
  generalize (w.alloc (.cells #[.int .i64 0, .int .i64 0, .int .i64 0, .bool false] 31)) = w0 at *
  refine (splitN_any s hs _ (hp.below BW)).mono ?_
  rintro _ w1 ⟨cp, rfl, hcp, hpc, b1⟩
  replace BW := btrans BW b1
  replace BA := BA.below b1
  have hms : ∀ p ∈ Lib.splitN s.data.toList [32] 4, p.length ≤ s.data.toList.length := fun p hp => splitK_len 32 _ _ p hp
  have hL : s.data.toList.length = s.size := by simp
  obtain ⟨gb, hgb⟩ : ∃ gb, w0.heap.size = gb := ⟨_, rfl⟩
  rw [hgb] at hpc ⊢
  clear b1 hgb
  obtain ⟨P, hP⟩ : ∃ P, Lib.splitN s.data.toList [32] 4 = P := ⟨_, rfl⟩
  rw [hP] at hpc hcp hms ⊢
  replace hP : Hid _ := hP
  rcases P with _ | ⟨a, _ | ⟨b, _ | ⟨c, _ | ⟨d, r⟩⟩⟩⟩
  · have hv : Hid (evP (Lib.splitN s.data.toList [32] 4) = (⟨0, 0, 0, false⟩, false)) := by unfold Hid; rw [hP.out]; exact evP_other (by simp) (by simp)
    clear hP
    have hin : Hid (inb ((0 : Nat) : Int) 2 3 = false) := by unfold Hid inb; simp; try omega
    obtain ⟨n0, hn0⟩ : ∃ n0 : Nat, 0 = n0 := ⟨_, rfl⟩
    have hl0 : ([] : List (List UInt8)).length = n0 := by rw [← hn0]; rfl
    rw [hn0] at hin
    rw [hl0]
    clear hpc hms hcp hn0 hl0
    go_wp2_with fail
    refine (inb_lit _ _ _ false hin.out _).mono ?_
    rintro e w2 ⟨rfl, rfl⟩
    clear hin
    have BA8 := (((BA.set0 0).set1 0).set2 0).set3 false
    have BE : Below w.heap.size w ((((w2.setCell ⟨w.heap.size, 0, none⟩ (.int .i64 0)).setCell ⟨w.heap.size, 1, none⟩ (.int .i64 0)).setCell ⟨w.heap.size, 2, none⟩ (.int .i64 0)).setCell ⟨w.heap.size, 3, none⟩ (.bool false)) := (((BW.setCell (Nat.le_refl _) _).setCell (Nat.le_refl _) _).setCell (Nat.le_refl _) _).setCell (Nat.le_refl _) _
    have a0 := BA.c0
    have a1 := BA.c1
    have a2 := BA.c2
    have a3 := BA.c3
    have z0 := BA.z 0
    have z1 := BA.z 1
    have z2 := BA.z 2
    have z3 := BA.z 3
    go_wp2
    clear a0 a1 a2 a3 z0 z1 z2 z3 BA BW
    generalize ((((w2.setCell ⟨w.heap.size, 0, none⟩ (.int .i64 0)).setCell ⟨w.heap.size, 1, none⟩ (.int .i64 0)).setCell ⟨w.heap.size, 2, none⟩ (.int .i64 0)).setCell ⟨w.heap.size, 3, none⟩ (.bool false)) = w9 at *
    have a0 := BA8.c0
    have a1 := BA8.c1
    have a2 := BA8.c2
    have a3 := BA8.c3
    exact bodyPost_ret (v := .tuple #[.agg #[.int .i64 0, .int .i64 0, .int .i64 0, .bool false], .bool false]) (by simp [results, Tryz.results27, go_sem, a0, a1, a2, a3]) rfl (Rev.of hv BE)
  · have hv : Hid (evP (Lib.splitN s.data.toList [32] 4) = (⟨0, 0, 0, false⟩, false)) := by unfold Hid; rw [hP.out]; exact evP_other (by simp) (by simp)
    clear hP
    have hin : Hid (inb ((1 : Nat) : Int) 2 3 = false) := by unfold Hid inb; simp; try omega
    obtain ⟨n0, hn0⟩ : ∃ n0 : Nat, 1 = n0 := ⟨_, rfl⟩
    have hl0 : ([a] : List (List UInt8)).length = n0 := by rw [← hn0]; rfl
    rw [hn0] at hin
    rw [hl0]
    clear hpc hms hcp hn0 hl0
    go_wp2_with fail
    refine (inb_lit _ _ _ false hin.out _).mono ?_
    rintro e w2 ⟨rfl, rfl⟩
    clear hin
    have BA8 := (((BA.set0 0).set1 0).set2 0).set3 false
    have BE : Below w.heap.size w ((((w2.setCell ⟨w.heap.size, 0, none⟩ (.int .i64 0)).setCell ⟨w.heap.size, 1, none⟩ (.int .i64 0)).setCell ⟨w.heap.size, 2, none⟩ (.int .i64 0)).setCell ⟨w.heap.size, 3, none⟩ (.bool false)) := (((BW.setCell (Nat.le_refl _) _).setCell (Nat.le_refl _) _).setCell (Nat.le_refl _) _).setCell (Nat.le_refl _) _
    have a0 := BA.c0
    have a1 := BA.c1
    have a2 := BA.c2
    have a3 := BA.c3
    have z0 := BA.z 0
    have z1 := BA.z 1
    have z2 := BA.z 2
    have z3 := BA.z 3
    go_wp2
    clear a0 a1 a2 a3 z0 z1 z2 z3 BA BW
    generalize ((((w2.setCell ⟨w.heap.size, 0, none⟩ (.int .i64 0)).setCell ⟨w.heap.size, 1, none⟩ (.int .i64 0)).setCell ⟨w.heap.size, 2, none⟩ (.int .i64 0)).setCell ⟨w.heap.size, 3, none⟩ (.bool false)) = w9 at *
    have a0 := BA8.c0
    have a1 := BA8.c1
    have a2 := BA8.c2
    have a3 := BA8.c3
    exact bodyPost_ret (v := .tuple #[.agg #[.int .i64 0, .int .i64 0, .int .i64 0, .bool false], .bool false]) (by simp [results, Tryz.results27, go_sem, a0, a1, a2, a3]) rfl (Rev.of hv BE)
  · have la : (bs a).size ≤ 1048576 := by have := hms a (by simp); show a.toArray.size ≤ _; rw [List.size_toArray]; omega
    have lb : (bs b).size ≤ 1048576 := by have := hms b (by simp); show b.toArray.size ≤ _; rw [List.size_toArray]; omega
    have p0 := hpc 0 a rfl
    have p1 := hpc 1 b rfl
    obtain ⟨pa, hpa⟩ : ∃ p, bs a = p := ⟨_, rfl⟩
    obtain ⟨pb, hpb⟩ : ∃ p, bs b = p := ⟨_, rfl⟩
    have ea : a = pa.data.toList := by rw [← hpa]
    have eb : b = pb.data.toList := by rw [← hpb]
    rw [hpa] at p0 la
    rw [hpb] at p1 lb
    subst ea eb
    clear hpa hpb hpc hms hcp
    obtain ⟨ka, hka⟩ : ∃ k, Hid (numK pa.data.toList = k) := ⟨numK pa.data.toList, Eq.refl _⟩
    obtain ⟨qa, hqa⟩ : ∃ q, Hid (decide (ka ≠ 0) = q) := ⟨decide (ka ≠ 0), Eq.refl _⟩
    obtain ⟨nb, hnb⟩ : ∃ k, (fnum pb.data.toList).1 = k := ⟨_, rfl⟩
    obtain ⟨qb, hqb⟩ : ∃ q, (fnum pb.data.toList).2 = q := ⟨_, rfl⟩
    have hfb : Hid (fnum pb.data.toList = (nb, qb)) := by unfold Hid; rw [← hnb, ← hqb]
    clear hnb hqb
    have hin : Hid (inb ((2 : Nat) : Int) 2 3 = true) := by unfold Hid; decide
    have hev2 : Hid (qa = true → qb = true → evP (Lib.splitN s.data.toList [32] 4) = (⟨ka, nb, 0, false⟩, true)) := by
      intro h1 h2
      rw [hP.out]
      simp only [evP]
      rw [hka.out, hfb.out, if_pos ⟨by have := hqa.out; rw [h1] at this; simpa using this, h2⟩]
    have hev0 : Hid (¬ (qa = true ∧ qb = true) → evP (Lib.splitN s.data.toList [32] 4) = (⟨0, 0, 0, false⟩, false)) := by
      intro h1
      rw [hP.out]
      simp only [evP]
      rw [hka.out, hfb.out, if_neg]
      rintro ⟨a1, a2⟩
      exact h1 ⟨by rw [← hqa.out]; simpa using a1, a2⟩
    go_wp2_with fail
    refine (inb_lit _ _ _ true hin.out _).mono ?_
    rintro e w2 ⟨rfl, rfl⟩
    go_wp2_with fail
    refine (numberOf_lit pa ka qa hka.out hqa.out _ (hp.below BW).t).mono ?_
    rintro e w3 ⟨rfl, bb⟩
    replace p1 := keep_below bb p1
    replace BW := btrans BW bb
    replace BA := BA.below bb
    clear bb
    clear p0
    go_wp2_with fail
    refine (figures_lit pb nb qb lb hfb.out _ (hp.below BW)).mono ?_
    rintro e w4 ⟨rfl, bb⟩
    replace BW := btrans BW bb
    replace BA := BA.below bb
    clear bb
    clear p1
    cases qa
    · have hv : Hid (evP (Lib.splitN s.data.toList [32] 4) = (⟨0, 0, 0, false⟩, false)) := hev0.out (by simp)
      clear hev0 hev2 hka hqa hfb hin hP
      have BA8 := (((BA.set0 0).set1 0).set2 0).set3 false
      have BE : Below w.heap.size w ((((w4.setCell ⟨w.heap.size, 0, none⟩ (.int .i64 0)).setCell ⟨w.heap.size, 1, none⟩ (.int .i64 0)).setCell ⟨w.heap.size, 2, none⟩ (.int .i64 0)).setCell ⟨w.heap.size, 3, none⟩ (.bool false)) := (((BW.setCell (Nat.le_refl _) _).setCell (Nat.le_refl _) _).setCell (Nat.le_refl _) _).setCell (Nat.le_refl _) _
      have a0 := BA.c0
      have a1 := BA.c1
      have a2 := BA.c2
      have a3 := BA.c3
      have z0 := BA.z 0
      have z1 := BA.z 1
      have z2 := BA.z 2
      have z3 := BA.z 3
      go_wp2
      clear a0 a1 a2 a3 z0 z1 z2 z3 BA BW
      generalize ((((w4.setCell ⟨w.heap.size, 0, none⟩ (.int .i64 0)).setCell ⟨w.heap.size, 1, none⟩ (.int .i64 0)).setCell ⟨w.heap.size, 2, none⟩ (.int .i64 0)).setCell ⟨w.heap.size, 3, none⟩ (.bool false)) = w9 at *
      have a0 := BA8.c0
      have a1 := BA8.c1
      have a2 := BA8.c2
      have a3 := BA8.c3
      exact bodyPost_ret (v := .tuple #[.agg #[.int .i64 0, .int .i64 0, .int .i64 0, .bool false], .bool false]) (by simp [results, Tryz.results27, go_sem, a0, a1, a2, a3]) rfl (Rev.of hv BE)
    · cases qb
      · have hv : Hid (evP (Lib.splitN s.data.toList [32] 4) = (⟨0, 0, 0, false⟩, false)) := hev0.out (by simp)
        clear hev0 hev2 hka hqa hfb hin hP
        have BA8 := (((BA.set0 0).set1 0).set2 0).set3 false
        have BE : Below w.heap.size w ((((w4.setCell ⟨w.heap.size, 0, none⟩ (.int .i64 0)).setCell ⟨w.heap.size, 1, none⟩ (.int .i64 0)).setCell ⟨w.heap.size, 2, none⟩ (.int .i64 0)).setCell ⟨w.heap.size, 3, none⟩ (.bool false)) := (((BW.setCell (Nat.le_refl _) _).setCell (Nat.le_refl _) _).setCell (Nat.le_refl _) _).setCell (Nat.le_refl _) _
        have a0 := BA.c0
        have a1 := BA.c1
        have a2 := BA.c2
        have a3 := BA.c3
        have z0 := BA.z 0
        have z1 := BA.z 1
        have z2 := BA.z 2
        have z3 := BA.z 3
        go_wp2
        clear a0 a1 a2 a3 z0 z1 z2 z3 BA BW
        generalize ((((w4.setCell ⟨w.heap.size, 0, none⟩ (.int .i64 0)).setCell ⟨w.heap.size, 1, none⟩ (.int .i64 0)).setCell ⟨w.heap.size, 2, none⟩ (.int .i64 0)).setCell ⟨w.heap.size, 3, none⟩ (.bool false)) = w9 at *
        have a0 := BA8.c0
        have a1 := BA8.c1
        have a2 := BA8.c2
        have a3 := BA8.c3
        exact bodyPost_ret (v := .tuple #[.agg #[.int .i64 0, .int .i64 0, .int .i64 0, .bool false], .bool false]) (by simp [results, Tryz.results27, go_sem, a0, a1, a2, a3]) rfl (Rev.of hv BE)
      · have hv : Hid (evP (Lib.splitN s.data.toList [32] 4) = (⟨ka, nb, 0, false⟩, true)) := hev2.out rfl rfl
        clear hev0 hev2 hka hqa hfb hin hP
        have BA8 := (((BA.set0 ka).set1 nb).set2 0).set3 false
        have BE : Below w.heap.size w ((((w4.setCell ⟨w.heap.size, 0, none⟩ (.int .i64 ka)).setCell ⟨w.heap.size, 1, none⟩ (.int .i64 nb)).setCell ⟨w.heap.size, 2, none⟩ (.int .i64 0)).setCell ⟨w.heap.size, 3, none⟩ (.bool false)) := (((BW.setCell (Nat.le_refl _) _).setCell (Nat.le_refl _) _).setCell (Nat.le_refl _) _).setCell (Nat.le_refl _) _
        have a0 := BA.c0
        have a1 := BA.c1
        have a2 := BA.c2
        have a3 := BA.c3
        have z0 := BA.z 0
        have z1 := BA.z 1
        have z2 := BA.z 2
        have z3 := BA.z 3
        go_wp2
        clear a0 a1 a2 a3 z0 z1 z2 z3 BA BW
        generalize ((((w4.setCell ⟨w.heap.size, 0, none⟩ (.int .i64 ka)).setCell ⟨w.heap.size, 1, none⟩ (.int .i64 nb)).setCell ⟨w.heap.size, 2, none⟩ (.int .i64 0)).setCell ⟨w.heap.size, 3, none⟩ (.bool false)) = w9 at *
        have a0 := BA8.c0
        have a1 := BA8.c1
        have a2 := BA8.c2
        have a3 := BA8.c3
        exact bodyPost_ret (v := .tuple #[.agg #[.int .i64 ka, .int .i64 nb, .int .i64 0, .bool false], .bool true]) (by simp [results, Tryz.results27, go_sem, a0, a1, a2, a3]) rfl (Rev.of hv BE)
  · have la : (bs a).size ≤ 1048576 := by have := hms a (by simp); show a.toArray.size ≤ _; rw [List.size_toArray]; omega
    have lb : (bs b).size ≤ 1048576 := by have := hms b (by simp); show b.toArray.size ≤ _; rw [List.size_toArray]; omega
    have lc : (bs c).size ≤ 1048576 := by have := hms c (by simp); show c.toArray.size ≤ _; rw [List.size_toArray]; omega
    have p0 := hpc 0 a rfl
    have p1 := hpc 1 b rfl
    have p2 := hpc 2 c rfl
    obtain ⟨pa, hpa⟩ : ∃ p, bs a = p := ⟨_, rfl⟩
    obtain ⟨pb, hpb⟩ : ∃ p, bs b = p := ⟨_, rfl⟩
    obtain ⟨pc, hpcc⟩ : ∃ p, bs c = p := ⟨_, rfl⟩
    have ea : a = pa.data.toList := by rw [← hpa]
    have eb : b = pb.data.toList := by rw [← hpb]
    have ec : c = pc.data.toList := by rw [← hpcc]
    rw [hpa] at p0 la
    rw [hpb] at p1 lb
    rw [hpcc] at p2 lc
    subst ea eb ec
    clear hpa hpb hpcc hpc hms hcp
    obtain ⟨ka, hka⟩ : ∃ k, Hid (numK pa.data.toList = k) := ⟨numK pa.data.toList, Eq.refl _⟩
    obtain ⟨qa, hqa⟩ : ∃ q, Hid (decide (ka ≠ 0) = q) := ⟨decide (ka ≠ 0), Eq.refl _⟩
    obtain ⟨nb, hnb⟩ : ∃ k, (fnum pb.data.toList).1 = k := ⟨_, rfl⟩
    obtain ⟨qb, hqb⟩ : ∃ q, (fnum pb.data.toList).2 = q := ⟨_, rfl⟩
    have hfb : Hid (fnum pb.data.toList = (nb, qb)) := by unfold Hid; rw [← hnb, ← hqb]
    clear hnb hqb
    obtain ⟨nc, hnc⟩ : ∃ k, (fnum pc.data.toList).1 = k := ⟨_, rfl⟩
    obtain ⟨qc, hqc⟩ : ∃ q, (fnum pc.data.toList).2 = q := ⟨_, rfl⟩
    have hfc : Hid (fnum pc.data.toList = (nc, qc)) := by unfold Hid; rw [← hnc, ← hqc]
    clear hnc hqc
    have hin : Hid (inb ((3 : Nat) : Int) 2 3 = true) := by unfold Hid; decide
    have hev2 : Hid (qa = true → qb = true → ka = 2 → pc = bs [107, 101, 101, 112] → evP (Lib.splitN s.data.toList [32] 4) = (⟨ka, nb, 0, true⟩, true)) := by
      intro h1 h2 h3 h4
      rw [hP.out]
      simp only [evP]
      rw [hka.out, hfb.out, if_pos ⟨by have := hqa.out; rw [h1] at this; simpa using this, h2⟩, if_pos ⟨h3, by rw [h4]⟩]
    have hev3 : Hid (qa = true → qb = true → ¬ (ka = 2 ∧ pc = bs [107, 101, 101, 112]) → evP (Lib.splitN s.data.toList [32] 4) = (⟨ka, nb, nc, false⟩, qc)) := by
      intro h1 h2 h3
      rw [hP.out]
      simp only [evP]
      rw [hka.out, hfb.out, hfc.out, if_pos ⟨by have := hqa.out; rw [h1] at this; simpa using this, h2⟩, if_neg]
      rintro ⟨a1, a2⟩
      exact h3 ⟨a1, by rw [← a2]⟩
    have hev0 : Hid (¬ (qa = true ∧ qb = true) → evP (Lib.splitN s.data.toList [32] 4) = (⟨0, 0, 0, false⟩, false)) := by
      intro h1
      rw [hP.out]
      simp only [evP]
      rw [hka.out, hfb.out, if_neg]
      rintro ⟨a1, a2⟩
      exact h1 ⟨by rw [← hqa.out]; simpa using a1, a2⟩
    go_wp2_with fail
    refine (inb_lit _ _ _ true hin.out _).mono ?_
    rintro e w2 ⟨rfl, rfl⟩
    go_wp2_with fail
    refine (numberOf_lit pa ka qa hka.out hqa.out _ (hp.below BW).t).mono ?_
    rintro e w3 ⟨rfl, bb⟩
    replace p1 := keep_below bb p1
    replace p2 := keep_below bb p2
    replace BW := btrans BW bb
    replace BA := BA.below bb
    clear bb
    clear p0
    go_wp2_with fail
    refine (figures_lit pb nb qb lb hfb.out _ (hp.below BW)).mono ?_
    rintro e w4 ⟨rfl, bb⟩
    replace p2 := keep_below bb p2
    replace BW := btrans BW bb
    replace BA := BA.below bb
    clear bb
    clear p1
    cases qa
    · have hv : Hid (evP (Lib.splitN s.data.toList [32] 4) = (⟨0, 0, 0, false⟩, false)) := hev0.out (by simp)
      clear hev0 hev2 hev3 hka hqa hfb hfc hin hP
      have BA8 := (((BA.set0 0).set1 0).set2 0).set3 false
      have BE : Below w.heap.size w ((((w4.setCell ⟨w.heap.size, 0, none⟩ (.int .i64 0)).setCell ⟨w.heap.size, 1, none⟩ (.int .i64 0)).setCell ⟨w.heap.size, 2, none⟩ (.int .i64 0)).setCell ⟨w.heap.size, 3, none⟩ (.bool false)) := (((BW.setCell (Nat.le_refl _) _).setCell (Nat.le_refl _) _).setCell (Nat.le_refl _) _).setCell (Nat.le_refl _) _
      have a0 := BA.c0
      have a1 := BA.c1
      have a2 := BA.c2
      have a3 := BA.c3
      have z0 := BA.z 0
      have z1 := BA.z 1
      have z2 := BA.z 2
      have z3 := BA.z 3
      go_wp2
      clear a0 a1 a2 a3 z0 z1 z2 z3 BA BW
      generalize ((((w4.setCell ⟨w.heap.size, 0, none⟩ (.int .i64 0)).setCell ⟨w.heap.size, 1, none⟩ (.int .i64 0)).setCell ⟨w.heap.size, 2, none⟩ (.int .i64 0)).setCell ⟨w.heap.size, 3, none⟩ (.bool false)) = w9 at *
      have a0 := BA8.c0
      have a1 := BA8.c1
      have a2 := BA8.c2
      have a3 := BA8.c3
      exact bodyPost_ret (v := .tuple #[.agg #[.int .i64 0, .int .i64 0, .int .i64 0, .bool false], .bool false]) (by simp [results, Tryz.results27, go_sem, a0, a1, a2, a3]) rfl (Rev.of hv BE)
    · cases qb
      · have hv : Hid (evP (Lib.splitN s.data.toList [32] 4) = (⟨0, 0, 0, false⟩, false)) := hev0.out (by simp)
        clear hev0 hev2 hev3 hka hqa hfb hfc hin hP
        have BA8 := (((BA.set0 0).set1 0).set2 0).set3 false
        have BE : Below w.heap.size w ((((w4.setCell ⟨w.heap.size, 0, none⟩ (.int .i64 0)).setCell ⟨w.heap.size, 1, none⟩ (.int .i64 0)).setCell ⟨w.heap.size, 2, none⟩ (.int .i64 0)).setCell ⟨w.heap.size, 3, none⟩ (.bool false)) := (((BW.setCell (Nat.le_refl _) _).setCell (Nat.le_refl _) _).setCell (Nat.le_refl _) _).setCell (Nat.le_refl _) _
        have a0 := BA.c0
        have a1 := BA.c1
        have a2 := BA.c2
        have a3 := BA.c3
        have z0 := BA.z 0
        have z1 := BA.z 1
        have z2 := BA.z 2
        have z3 := BA.z 3
        go_wp2
        clear a0 a1 a2 a3 z0 z1 z2 z3 BA BW
        generalize ((((w4.setCell ⟨w.heap.size, 0, none⟩ (.int .i64 0)).setCell ⟨w.heap.size, 1, none⟩ (.int .i64 0)).setCell ⟨w.heap.size, 2, none⟩ (.int .i64 0)).setCell ⟨w.heap.size, 3, none⟩ (.bool false)) = w9 at *
        have a0 := BA8.c0
        have a1 := BA8.c1
        have a2 := BA8.c2
        have a3 := BA8.c3
        exact bodyPost_ret (v := .tuple #[.agg #[.int .i64 0, .int .i64 0, .int .i64 0, .bool false], .bool false]) (by simp [results, Tryz.results27, go_sem, a0, a1, a2, a3]) rfl (Rev.of hv BE)
      · by_cases hk : ka = 2
        · by_cases hc : pc = bs [107, 101, 101, 112]
          · have hv : Hid (evP (Lib.splitN s.data.toList [32] 4) = (⟨ka, nb, 0, true⟩, true)) := hev2.out rfl rfl hk hc
            have hc2 : (pc.toList == [107, 101, 101, 112]) = true := by rw [hc, ByteArray.toList_eq]; rfl
            have hk2 : (ka == 2) = true := by simp [hk]
            clear hev0 hev2 hev3 hka hqa hfb hfc hin hP hk hc
            have BA8 := (((BA.set0 ka).set1 nb).set2 0).set3 true
            have BE : Below w.heap.size w ((((w4.setCell ⟨w.heap.size, 0, none⟩ (.int .i64 ka)).setCell ⟨w.heap.size, 1, none⟩ (.int .i64 nb)).setCell ⟨w.heap.size, 2, none⟩ (.int .i64 0)).setCell ⟨w.heap.size, 3, none⟩ (.bool true)) := (((BW.setCell (Nat.le_refl _) _).setCell (Nat.le_refl _) _).setCell (Nat.le_refl _) _).setCell (Nat.le_refl _) _
            have a0 := BA.c0
            have a1 := BA.c1
            have a2 := BA.c2
            have a3 := BA.c3
            have z0 := BA.z 0
            have z1 := BA.z 1
            have z2 := BA.z 2
            have z3 := BA.z 3
            go_wp2
            clear a0 a1 a2 a3 z0 z1 z2 z3 BA BW
            generalize ((((w4.setCell ⟨w.heap.size, 0, none⟩ (.int .i64 ka)).setCell ⟨w.heap.size, 1, none⟩ (.int .i64 nb)).setCell ⟨w.heap.size, 2, none⟩ (.int .i64 0)).setCell ⟨w.heap.size, 3, none⟩ (.bool true)) = w9 at *
            have a0 := BA8.c0
            have a1 := BA8.c1
            have a2 := BA8.c2
            have a3 := BA8.c3
            exact bodyPost_ret (v := .tuple #[.agg #[.int .i64 ka, .int .i64 nb, .int .i64 0, .bool true], .bool true]) (by simp [results, Tryz.results27, go_sem, a0, a1, a2, a3]) rfl (Rev.of hv BE)
          · have hv : Hid (evP (Lib.splitN s.data.toList [32] 4) = (⟨ka, nb, nc, false⟩, qc)) := hev3.out rfl rfl (fun h => hc h.2)
            have hc2 : (pc.toList == [107, 101, 101, 112]) = false := by rw [beq_eq_false_iff_ne, ByteArray.toList_eq]; intro e; exact hc (ByteArray.ext (Array.toList_inj.1 e))
            have hk2 : (ka == 2) = true := by simp [hk]
            clear hev0 hev2 hev3 hka hqa hfb hin hP hk hc
            go_wp2_with fail
            refine (figures_lit pc nc qc lc hfc.out _ (hp.below BW)).mono ?_
            rintro e w5 ⟨rfl, bb⟩
            replace BW := btrans BW bb
            replace BA := BA.below bb
            clear bb
            clear p2 hfc
            have BA8 := (((BA.set0 ka).set1 nb).set2 nc).set3 false
            have BE : Below w.heap.size w ((((w5.setCell ⟨w.heap.size, 0, none⟩ (.int .i64 ka)).setCell ⟨w.heap.size, 1, none⟩ (.int .i64 nb)).setCell ⟨w.heap.size, 2, none⟩ (.int .i64 nc)).setCell ⟨w.heap.size, 3, none⟩ (.bool false)) := (((BW.setCell (Nat.le_refl _) _).setCell (Nat.le_refl _) _).setCell (Nat.le_refl _) _).setCell (Nat.le_refl _) _
            have a0 := BA.c0
            have a1 := BA.c1
            have a2 := BA.c2
            have a3 := BA.c3
            have z0 := BA.z 0
            have z1 := BA.z 1
            have z2 := BA.z 2
            have z3 := BA.z 3
            go_wp2
            clear a0 a1 a2 a3 z0 z1 z2 z3 BA BW
            generalize ((((w5.setCell ⟨w.heap.size, 0, none⟩ (.int .i64 ka)).setCell ⟨w.heap.size, 1, none⟩ (.int .i64 nb)).setCell ⟨w.heap.size, 2, none⟩ (.int .i64 nc)).setCell ⟨w.heap.size, 3, none⟩ (.bool false)) = w9 at *
            have a0 := BA8.c0
            have a1 := BA8.c1
            have a2 := BA8.c2
            have a3 := BA8.c3
            exact bodyPost_ret (v := .tuple #[.agg #[.int .i64 ka, .int .i64 nb, .int .i64 nc, .bool false], .bool qc]) (by simp [results, Tryz.results27, go_sem, a0, a1, a2, a3]) rfl (Rev.of hv BE)
        · have hv : Hid (evP (Lib.splitN s.data.toList [32] 4) = (⟨ka, nb, nc, false⟩, qc)) := hev3.out rfl rfl (fun h => hk h.1)
          have hk2 : (ka == 2) = false := by simp [hk]
          clear hev0 hev2 hev3 hka hqa hfb hin hP
          go_wp2_with fail
          refine (figures_lit pc nc qc lc hfc.out _ (hp.below BW)).mono ?_
          rintro e w5 ⟨rfl, bb⟩
          replace BW := btrans BW bb
          replace BA := BA.below bb
          clear bb
          clear p2 hfc
          have BA8 := (((BA.set0 ka).set1 nb).set2 nc).set3 false
          have BE : Below w.heap.size w ((((w5.setCell ⟨w.heap.size, 0, none⟩ (.int .i64 ka)).setCell ⟨w.heap.size, 1, none⟩ (.int .i64 nb)).setCell ⟨w.heap.size, 2, none⟩ (.int .i64 nc)).setCell ⟨w.heap.size, 3, none⟩ (.bool false)) := (((BW.setCell (Nat.le_refl _) _).setCell (Nat.le_refl _) _).setCell (Nat.le_refl _) _).setCell (Nat.le_refl _) _
          have a0 := BA.c0
          have a1 := BA.c1
          have a2 := BA.c2
          have a3 := BA.c3
          have z0 := BA.z 0
          have z1 := BA.z 1
          have z2 := BA.z 2
          have z3 := BA.z 3
          go_wp2
          clear a0 a1 a2 a3 z0 z1 z2 z3 BA BW
          generalize ((((w5.setCell ⟨w.heap.size, 0, none⟩ (.int .i64 ka)).setCell ⟨w.heap.size, 1, none⟩ (.int .i64 nb)).setCell ⟨w.heap.size, 2, none⟩ (.int .i64 nc)).setCell ⟨w.heap.size, 3, none⟩ (.bool false)) = w9 at *
          have a0 := BA8.c0
          have a1 := BA8.c1
          have a2 := BA8.c2
          have a3 := BA8.c3
          exact bodyPost_ret (v := .tuple #[.agg #[.int .i64 ka, .int .i64 nb, .int .i64 nc, .bool false], .bool qc]) (by simp [results, Tryz.results27, go_sem, a0, a1, a2, a3]) rfl (Rev.of hv BE)
  · have hv : Hid (evP (Lib.splitN s.data.toList [32] 4) = (⟨0, 0, 0, false⟩, false)) := by unfold Hid; rw [hP.out]; exact evP_other (by simp) (by simp)
    clear hP
    have hin : Hid (inb (((r.length + 4) : Nat) : Int) 2 3 = false) := by unfold Hid inb; simp; try omega
    obtain ⟨n0, hn0⟩ : ∃ n0 : Nat, (r.length + 4) = n0 := ⟨_, rfl⟩
    have hl0 : ((a :: b :: c :: d :: r) : List (List UInt8)).length = n0 := by rw [← hn0]; rfl
    rw [hn0] at hin
    rw [hl0]
    clear hpc hms hcp hn0 hl0
    go_wp2_with fail
    refine (inb_lit _ _ _ false hin.out _).mono ?_
    rintro e w2 ⟨rfl, rfl⟩
    clear hin
    have BA8 := (((BA.set0 0).set1 0).set2 0).set3 false
    have BE : Below w.heap.size w ((((w2.setCell ⟨w.heap.size, 0, none⟩ (.int .i64 0)).setCell ⟨w.heap.size, 1, none⟩ (.int .i64 0)).setCell ⟨w.heap.size, 2, none⟩ (.int .i64 0)).setCell ⟨w.heap.size, 3, none⟩ (.bool false)) := (((BW.setCell (Nat.le_refl _) _).setCell (Nat.le_refl _) _).setCell (Nat.le_refl _) _).setCell (Nat.le_refl _) _
    have a0 := BA.c0
    have a1 := BA.c1
    have a2 := BA.c2
    have a3 := BA.c3
    have z0 := BA.z 0
    have z1 := BA.z 1
    have z2 := BA.z 2
    have z3 := BA.z 3
    go_wp2
    clear a0 a1 a2 a3 z0 z1 z2 z3 BA BW
    generalize ((((w2.setCell ⟨w.heap.size, 0, none⟩ (.int .i64 0)).setCell ⟨w.heap.size, 1, none⟩ (.int .i64 0)).setCell ⟨w.heap.size, 2, none⟩ (.int .i64 0)).setCell ⟨w.heap.size, 3, none⟩ (.bool false)) = w9 at *
    have a0 := BA8.c0
    have a1 := BA8.c1
    have a2 := BA8.c2
    have a3 := BA8.c3
    exact bodyPost_ret (v := .tuple #[.agg #[.int .i64 0, .int .i64 0, .int .i64 0, .bool false], .bool false]) (by simp [results, Tryz.results27, go_sem, a0, a1, a2, a3]) rfl (Rev.of hv BE)
end Go.Proofs.YtlebggbbhkiokaaGreatDoor
