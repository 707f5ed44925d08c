/- Whose turn it is does not depend on the way in which they are found (no program in this text). -/
import Derived.Test.YthfafmafhodlkaaICt
namespace Go.Proofs.Ythfafmafhodlkaa.I
open Go.ChangeShapes Go.WideShapes Go.ChangeAt Go.RowKit
/-- whether it is an item's turn -/
def tk (L : List It) (most : Int) (x : It) : Bool := decide (((L.filter fun y => decide (rk y < rk x)).length : Int) < most)
def okL (L : List It) : Prop := (∀ x ∈ L, okI x) ∧ Asc L
theorem ok_inj {L : List It} (h : okL L) : ∀ x ∈ L, ∀ y ∈ L, x.n = y.n → x = y := by
  have key : ∀ L : List It, Asc L → ∀ x ∈ L, ∀ y ∈ L, x.n = y.n → x = y := by
    intro L
    induction L with
    | nil => intro _ x hx; simp at hx
    | cons a r ih =>
      intro ha x hx y hy e
      obtain ⟨h1, h2⟩ := asc_cons.1 ha
      rcases List.mem_cons.1 hx with rfl | hx'
      · rcases List.mem_cons.1 hy with rfl | hy'
        · rfl
        · have := h1 y hy'; omega
      · rcases List.mem_cons.1 hy with rfl | hy'
        · have := h1 x (by assumption); omega
        · exact ih h2 x (by assumption) y (by assumption) e
  exact key L h.2
theorem rk_n {x y : It} (hx : okI x) (hy : okI y) (e : rk x = rk y) : x.n = y.n := by
  obtain ⟨a1, a2, a3, a4⟩ := hx
  obtain ⟨b1, b2, b3, b4⟩ := hy
  unfold rk at e
  omega
theorem filter_all {α : Type} (p : α → Bool) : ∀ l : List α, (∀ x ∈ l, p x = true) → l.filter p = l := fun _ h => List.filter_eq_self.2 h
theorem filter_none {α : Type} (p : α → Bool) : ∀ l : List α, (∀ x ∈ l, p x = false) → l.filter p = [] := fun _ h => List.filter_eq_nil_iff.2 (fun x hx => by simp [h x hx])
theorem filter_lt {α : Type} (p : α → Bool) (x : α) (hp : p x = false) : ∀ l : List α, x ∈ l → (l.filter p).length < l.length
  | [], h => by simp at h
  | a :: r, h => by
    rcases List.mem_cons.1 h with rfl | h
    · rw [List.filter_cons, if_neg (by simp [hp])]
      have := List.length_filter_le p r
      simp; omega
    · have := filter_lt p x hp r h
      rw [List.filter_cons]
      split
      · simp only [List.length_cons]; omega
      · simp only [List.length_cons]; omega
theorem taken_mem {L xs : List It} {most : Int} (hL : okL L) (h : Taken L most xs) (x : It) (hx : x ∈ L) : x ∈ xs ↔ tk L most x = true := by
  obtain ⟨H, hp, hle, hm, hn⟩ := h
  have hc : (L.filter fun y => decide (rk y < rk x)).length = (xs.filter fun y => decide (rk y < rk x)).length + (H.filter fun y => decide (rk y < rk x)).length := by
    have := (hp.symm.filter fun y => decide (rk y < rk x)).length_eq
    rw [this, List.filter_append, List.length_append]
  have memL : ∀ y, y ∈ xs ∨ y ∈ H → y ∈ L := fun y hy => hp.mem_iff.1 (List.mem_append.2 hy)
  unfold tk
  rw [decide_eq_true_iff, hc]
  constructor
  · intro hxs
    have h1 : H.filter (fun y => decide (rk y < rk x)) = [] := filter_none _ _ (fun y hy => by
      have := hle x hxs y hy
      simp; omega)
    have h2 := filter_lt (fun y => decide (rk y < rk x)) x (by simp) xs hxs
    rcases hm with hm | hm
    · rw [h1]; simp; omega
    · subst hm; simp at hxs
  · intro hlt
    rcases List.mem_append.1 (hp.mem_iff.2 hx) with hxs | hH
    · exact hxs
    · exfalso
      by_cases hin : x ∈ xs
      · have h1 : H.filter (fun y => decide (rk y < rk x)) = [] := filter_none _ _ (fun y hy => by
          have := hle x hin y hy
          simp; omega)
        have hnd : (xs ++ H).Nodup := by
          have : L.Nodup := hL.2.imp (fun {a b} hab e => by subst e; omega)
          exact hp.nodup_iff.2 this
        exact (List.nodup_append.1 hnd).2.2 x hin x hH rfl
      · have h1 : xs.filter (fun y => decide (rk y < rk x)) = xs := filter_all _ _ (fun y hy => by
          have h3 := hle y hy x hH
          have : rk y ≠ rk x := fun e => hin (by
            have := ok_inj hL y (memL y (.inl hy)) x hx (rk_n (hL.1 y (memL y (.inl hy))) (hL.1 x hx) e)
            rw [← this]; exact hy)
          simp; omega)
        rw [h1] at hlt
        rcases hn with hn | hn
        · omega
        · subst hn; simp at hH
theorem cnt_pos {xs : List It} {k : Int} : 0 < cnt xs k ↔ ∃ y ∈ xs, y.n = k := by
  unfold cnt
  rw [List.length_pos_iff_exists_mem]
  constructor
  · rintro ⟨y, hy⟩
    have := List.mem_filter.1 hy
    exact ⟨y, this.1, by simpa using this.2⟩
  · rintro ⟨y, hy, e⟩
    exact ⟨y, List.mem_filter.2 ⟨hy, by simpa using e⟩⟩
theorem told_tk {L xs : List It} {most : Int} (hL : okL L) (h : Taken L most xs) (x : It) (hx : x ∈ L) : told xs x = tk L most x := by
  have h1 := taken_mem hL h x hx
  have h2 : told xs x = true ↔ x ∈ xs := by
    unfold told
    rw [decide_eq_true_iff, cnt_pos]
    constructor
    · rintro ⟨y, hy, e⟩
      obtain ⟨H, hp, _⟩ := h
      have := ok_inj hL y (hp.mem_iff.1 (List.mem_append_left _ hy)) x hx e
      rw [← this]; exact hy
    · exact fun h => ⟨x, h, rfl⟩
  cases e1 : told xs x <;> cases e2 : tk L most x <;> simp_all
theorem gF_congr {q q' : It → Bool} {L : List It} (h : ∀ x ∈ L, q x = q' x) : gF q L = gF q' L := by
  unfold gF
  rw [List.filter_congr h]
theorem gL_congr {q q' : It → Bool} {L : List It} (h : ∀ x ∈ L, q x = q' x) : gL q L = gL q' L := by
  unfold gL
  induction L with
  | nil => rfl
  | cons a r ih =>
    have ha := h a (by simp)
    have hr := ih (fun x hx => h x (by simp [hx]))
    rw [List.filterMap_cons, List.filterMap_cons, hr, show leftI q a = leftI q' a by unfold leftI; rw [ha]]
/-- CastTake: what it answers -/
def takF (L : List It) (most : Int) : List Fc := if cokB L.length (fun k => L.getD k It.zero) = true then gF (tk L most) L else []
def takL (L : List It) (most : Int) : List It := if cokB L.length (fun k => L.getD k It.zero) = true then gL (tk L most) L else []
theorem cok_okL {L : List It} (h : cokB L.length (fun k => L.getD k It.zero) = true) : okL L ∧ L.length ≤ 8 := by
  obtain ⟨h1, h2⟩ := tok_all h
  refine ⟨⟨fun x hx => ?_, ?_⟩, tok_len h⟩
  · obtain ⟨k, hk, e⟩ := List.getElem_of_mem hx
    unfold cokB callB at h
    rw [Bool.and_eq_true] at h
    have := (of_decide_eq_true h.1) k hk
    dsimp only at this
    rw [show L.getD k It.zero = x by simp [List.getD, hk, e]] at this
    unfold iokB fokB inb at this
    simp at this
    exact ⟨by omega, by omega, by omega, by omega⟩
  · refine List.pairwise_iff_getElem.2 (fun i j hi hj hij => ?_)
    have := h2 i j hij hj
    simpa [List.getD, hi, hj] using this
/-- the program's CastTake -/
theorem ctake_any (a : Option Addr) (cap : Nat) (L : List It) (most : Int) (w : World) (h : TSl w a L.length (fun k => L.getD k It.zero)) (hl : L.length ≤ 1048576) :
    Calls Try.prog 7 #[.slice a L.length cap, .int .i64 most] w fun e w' => ∃ v8 v9, e = .returned (.tuple #[v8, v9]) ∧ w'.ownsRow w.heap.size 34 4 v8 (takF L most).length (Ythfafmafhodlkaa.fl (takF L most)) ∧ w'.ownsRow w.heap.size 36 5 v9 (takL L most).length (fl (takL L most)) ∧ Below w.heap.size w w' := by
  cases hc : cokB L.length (fun k => L.getD k It.zero)
  · have e1 : takF L most = [] := by unfold takF; rw [hc]; rfl
    have e2 : takL L most = [] := by unfold takL; rw [hc]; rfl
    rw [e1, e2]
    have hC := cok_any a L.length cap (fun k => L.getD k It.zero) w h hl
    rw [hc] at hC
    clear hc e1 e2
    go_enter Try.func7, Try.ntmps7
    go_wp2_with fail
    refine hC.mono ?_
    rintro e w1 ⟨rfl, b1⟩
    go_wp2
    go_ret2
    exact ⟨_, _, rfl, World.ownsRow_nil _ _ _ _, World.ownsRow_nil _ _ _ _, b1⟩
  · obtain ⟨hL, h8⟩ := cok_okL hc
    refine (callsIn_wide.1 (ctake_in 10 (by omega) a cap L most w h h8 hL.1 hc)).mono ?_
    rintro e w' ⟨v8, v9, xs, rfl, hT, o8, o9, hb⟩
    have e1 : takF L most = gF (told xs) L := by unfold takF; rw [if_pos hc]; exact gF_congr (fun x hx => (told_tk hL hT x hx).symm)
    have e2 : takL L most = gL (told xs) L := by unfold takL; rw [if_pos hc]; exact gL_congr (fun x hx => (told_tk hL hT x hx).symm)
    rw [e1, e2]
    exact ⟨v8, v9, rfl, o8, o9, hb⟩
end Go.Proofs.Ythfafmafhodlkaa.I
