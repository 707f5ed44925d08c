/- Texts of the proof, laid together: Dwr. -/
import Derived.Test.YtibnojbhoepcdaaGreatDoorQt14
import Derived.Test.YtibnojbhoepcdaaGreatDoorQt15
import Derived.Test.YtibnojbhoepcdaaGreatDoorQt8
/- A text drawn that may be a word's. -/
namespace Go.Proofs.YtibnojbhoepcdaaGreatDoor
open Go.ChangeShapes Go.WideShapes Go.ChangeAt Go.RowKit
attribute [local go_sem ↓] Go.wp_at_zero Go.wp_at_succ
theorem tx_len (W : Wd) : W.tx.size ≤ 300 := by
  cases hok : W.ok
  · rw [wtx_no hok]
    exact Nat.zero_le _
  · rw [wtx_ok hok]
    exact (txt_len hok).1
theorem u8w (z : Int) : 0 ≤ IntKind.u8.wrap z ∧ IntKind.u8.wrap z < 256 := by
  have h : IntKind.u8.wrap z = z % 256 := by first | rfl | simp [IntKind.wrap_u8] | simp [IntKind.wrap]
  rw [h]
  omega
theorem xor_any (v : UInt8) (x : Int) (h1 : 0 ≤ x) (h2 : x < 256) : ∃ c : UInt8, bits BinOp.xor IntKind.u8 (v.toNat : Int) x = (c.toNat : Int) := by
  obtain ⟨m, rfl⟩ : ∃ m : Nat, x = m := ⟨x.toNat, by omega⟩
  have hv : v.toNat < 256 := v.toNat_lt
  have hx : v.toNat ^^^ m < 256 := Nat.xor_lt_two_pow (n := 8) hv (by omega)
  refine ⟨UInt8.ofNat (v.toNat ^^^ m), ?_⟩
  rw [u8_xor_nat _ _ hv (by omega), UInt8.toNat_ofNat', Nat.mod_eq_of_lt hx]
structure Cl (l : List UInt8) (u : World) (g : Nat) : Prop where
  lt : g < u.heap.size
  c : ∀ j (h : j < l.length), u.cell? ⟨g, j, none⟩ = some (.int .u8 (l[j].toNat : Int))
  z : ∀ j, j < l.length → u.frozen? ⟨g, j, none⟩ = false
theorem Cv.cl {l : List UInt8} {w u : World} {g : Nat} (h : Cv l w u g) : Cl l u g := ⟨h.lt, h.c, h.z⟩
theorem Cl.drew {l : List UInt8} {u : World} {g : Nat} (h : Cl l u g) : Cl l u.drew g :=
  ⟨h.lt, fun j hj => keep_drew (h.c j hj), fun j hj => frozen_below (qd (Below.refl _ _)) h.lt (h.z j hj)⟩
theorem Cl.aside {l : List UInt8} {u u' : World} {g rb : Nat} (h : Cl l u g) (o : Aside1 rb u u') (hg : g ≠ rb) : Cl l u' g :=
  ⟨by rw [o.size]; exact h.lt, fun j hj => (o.cell (p := ⟨g, j, none⟩) hg).trans (h.c j hj), fun j hj => (o.frozen (p := ⟨g, j, none⟩) hg).trans (h.z j hj)⟩
theorem set_cl {l : List UInt8} {u : World} {g kn : Nat} (C : Cl l u g) (hk : kn < l.length) (c : UInt8) : ∀ j (hj : j < (l.set kn c).length), (u.setCell ⟨g, kn, none⟩ (.int .u8 (c.toNat : Int))).cell? ((⟨g, 0, none⟩ : Addr).add j) = some (.int .u8 ((l.set kn c)[j].toNat : Int)) := by
  intro j hj
  have hj' : j < l.length := by rwa [List.length_set] at hj
  have ea : (⟨g, 0, none⟩ : Addr).add j = ⟨g, j, none⟩ := by
    simp [Addr.add]
    exact fun h => h.symm
  rw [ea]
  by_cases e : kn = j
  · subst e
    rw [World.cell?_setCell_same' _ _ _ (by rw [C.c kn hk]; rfl), List.getElem_set_self]
  · rw [World.cell?_setCell_other _ _ _ _ (by simp), C.c j hj', List.getElem_set_ne e]
def l5 : List ByteArray := [⟨#[32]⟩, ⟨#[48]⟩, ⟨#[43]⟩, ⟨#[58]⟩, ⟨#[120]⟩]
set_option maxRecDepth 20000 in
set_option maxHeartbeats 16000000 in
theorem drawWR_any (a : Option Addr) (len cap : Nat) (w : World) (h : Bytes w.heap.size w a len) (hl : len ≤ cap) :
    Calls Tryz.prog 16 #[.slice a len cap] w fun e w' => ∃ x, e = .returned (.string x) ∧ x.size ≤ 3000 ∧ Below w.heap.size w w' := by
  go_enter Tryz.func16, Tryz.ntmps16
  go_wp2_with fail
  refine (open_any w.heap.size a len cap _ (Nat.le_refl _) h hl).mono ?_
  rintro r w1 ⟨rfl, ⟨G, r1⟩, b1, z1⟩
  go_wp2_with fail
  refine (word_any w.heap.size w.heap.size 0 _ r1 (by omega)).mono ?_
  rintro r w2 ⟨vp, vk, vf, vt, vs, vq, vx, vy, vz, ve, ad, cp, T, p2, rfl, hown, hT, -, hp2, r2, o2⟩
  have B2 : Below w.heap.size w w2 := b1.trans (o2.below (Nat.le_refl _) b1.size)
  have hFS : FSl w2 ad T.length (atF T) := by
    obtain ⟨ad', cp', e0, -, -, hf⟩ := own_facts hown
    injection e0 with e0 _ _
    subst e0
    exact hf
  have hLw := lwrite_any vp vk vf vt vs vq vx vy vz ve ad T.length cp (atF T) w2 hFS (by omega)
  have hXs : (wtx vp vk vf vt vs vq vx vy vz ve T.length (atF T)).size ≤ 300 := tx_len ⟨vp, vk, vf, vt, vs, vq, vx, vy, vz, ve, T⟩
  generalize wtx vp vk vf vt vs vq vx vy vz ve T.length (atF T) = X at *
  clear hown hFS o2 r1 b1 z1
  go_wp2_with fail
  refine hLw.mono ?_
  rintro _ w3 ⟨rfl, b3⟩
  have r3 := r2.below b3
  have B3 := btrans B2 b3
  clear hLw r2 b3 B2
  obtain ⟨rb, hrb⟩ : ∃ rb, Hid (w.heap.size = rb) := ⟨_, rfl⟩
  rw [hrb.out] at r3 B3 ⊢
  by_cases hE : X.toList = []
  · have e1 : (X.toList == []) = true := by rw [hE]; rfl
    have e2 : (X.toList != []) = false := by rw [hE]; rfl
    clear hE
    go_upto_region 8 with fail
    have hcs : ∀ j, j < 5 → (w3.alloc (.cells #[.string ⟨#[32]⟩, .string ⟨#[48]⟩, .string ⟨#[43]⟩, .string ⟨#[58]⟩, .string ⟨#[120]⟩] 9)).cell? ⟨w3.heap.size, j, none⟩ = some (.string (l5.getD j ByteArray.empty)) := strs_new w3 l5 _ rfl
    have hwr := r3.lt
    go_wp2_with fail
    refine (bend_any rb rb p2 w3.heap.size 5 (fun j => l5.getD j ByteArray.empty) X 4 _ (r3.alloc _) (by omega) (by omega) hcs (strs_small l5 (by decide +kernel)) (by simp) (by omega) (by omega)).mono ?_
    rintro r w9 ⟨x, q9, rfl, hx9, -, -, o9⟩
    have BA : Below rb w (w3.alloc (.cells #[.string ⟨#[32]⟩, .string ⟨#[48]⟩, .string ⟨#[43]⟩, .string ⟨#[58]⟩, .string ⟨#[120]⟩] 9)) := B3.alloc (Nat.le_trans (Nat.le_of_lt hwr) (Nat.le_refl _)) _
    have B9 := BA.trans (o9.below (Nat.le_refl rb) (Nat.le_of_lt (r3.alloc _).lt))
    clear hcs BA o9
    go_wp2
    go_ret
    exact ⟨x, rfl, hx9, by rw [hrb.out]; exact B9⟩
  · have hX1 : 1 ≤ X.size := by
      rcases Nat.eq_zero_or_pos X.size with h0 | h0
      · exfalso
        exact hE (by rw [ByteArray.toList_eq]; exact List.length_eq_zero_iff.1 (by simpa using h0))
      · exact h0
    have e1 : (X.toList == []) = false := beq_eq_false_iff_ne.2 hE
    have e2 : (X.toList != []) = true := by rw [bne, e1]; rfl
    go_wp2_with fail
    refine (pick_any rb rb p2 4 _ r3 (by omega)).mono ?_
    rintro r w4 ⟨rfl, hk4, r4, o4'⟩
    have B4 := B3.trans (o4'.below (Nat.le_refl rb))
    generalize G.pk p2 4 = k4 at *
    clear o4' r3 B3
    by_cases h4 : k4 = 0
    · subst h4
      go_wp2_with fail
      refine (pick_any rb rb (p2 + 1) (X.size : Int) _ r4 (by omega)).mono ?_
      rintro r w5 ⟨rfl, hk5, r5, o5'⟩
      have B5 := B4.trans (o5'.below (Nat.le_refl rb))
      generalize G.pk (p2 + 1) (X.size : Int) = k5 at *
      obtain ⟨kn, rfl⟩ : ∃ kn : Nat, k5 = kn := ⟨k5.toNat, by omega⟩
      have hk : kn < X.size := by omega
      have hkl : kn < X.data.toList.length := by simpa using hk
      have i0 : (0 : Int) ≤ (kn : Int) := by omega
      have i1 : (kn : Int) < (X.size : Int) := by omega
      clear o5' r4 B4 hk5 hk4
      go_upto_region 5 with fail
      obtain ⟨cp9, u9, hcv, hcap, C⟩ := conv_any X w5
      go_upto_region 6 with fail
      have r6 := (r5.below C.b).drew
      have B6 : Below rb w u9 := B5.trans (C.b.mono (Nat.le_of_lt r5.lt))
      have hg : w5.heap.size ≠ rb := by have := r5.lt; omega
      have hgl : rb ≤ w5.heap.size := Nat.le_of_lt r5.lt
      have C6 := C.cl.drew
      obtain ⟨p5, hp5⟩ : ∃ p5, p2 + 1 + 1 = p5 := ⟨_, rfl⟩
      rw [hp5] at r6
      have hp5b : p5 < 600000 := by omega
      clear r5 B5 C hcv
      generalize w5.heap.size = gg at *
      refine wp_region_held_drew (S := fun _ => True) (by kernel_rfl) trivial (fun hHeld => ?_)
      refine tl (i := 0) (oi := { dst := some 25, op := .move (.tmp 6), type := 22, pos := "l61_draw.go:333", after := #[], guard := none }) ?_
      (try simp only [pq])
      refine tl (i := 1) (oi := { dst := some 26, op := .move (.tmp 5), type := 3, pos := "l61_draw.go:333", after := #[], guard := none }) ?_
      (try simp only [pq])
      refine tl (i := 2) (oi := { dst := some 27, op := .move (.tmp 6), type := 22, pos := "l61_draw.go:333", after := #[], guard := none }) ?_
      (try simp only [pq])
      refine tl (i := 3) (oi := { dst := some 28, op := .move (.tmp 5), type := 3, pos := "l61_draw.go:333", after := #[], guard := none }) ?_
      (try simp only [pq])
      refine tl (i := 4) (oi := { dst := some 29, op := .indexAddr 22 (.tmp 27) (.tmp 28), type := 0, pos := "l61_draw.go:333", after := #[{ on := 2, ground := .data }, { on := 3, ground := .data }], guard := none }) ?_
      (try simp only [pq])
      refine tl (i := 6) (oi := { dst := some 31, op := .move (.tmp 3), type := 44, pos := "l61_draw.go:333", after := #[], guard := none }) ?_
      (try simp only [pq])
      refine wpAnyH_ready (rs := [5, 7]) (by kernel_rfl) (by simp) ?_
      refine (AllReadyH.cons (o := { dst := some 30, op := .load 5 (.tmp 29), type := 5, pos := "l61_draw.go:333", after := #[{ on := 4, ground := .data }], guard := none }) rfl (fun K hK => ?_) (AllReadyH.cons (o := { dst := some 32, op := .call { callee := .value (.func 29), args := #[.tmp 31, .const (.int .i64 128)], argTypes := #[44, 3] }, type := 3, pos := "l61_draw.go:333", after := #[{ on := 6, ground := .data }], guard := none }) rfl (fun K hK => ?_) AllReadyH.nil))
      · have c1 := C6.c kn hkl
        go_simp
        refine hK.out _ _ trivial (fun hHeld => ?_)
        clear hK K
        (try simp only [pq])
        clear c1
        refine wpAnyH_ready (rs := [7]) (by kernel_rfl) (by simp) ?_
        refine (AllReadyH.cons (o := { dst := some 32, op := .call { callee := .value (.func 29), args := #[.tmp 31, .const (.int .i64 128)], argTypes := #[44, 3] }, type := 3, pos := "l61_draw.go:333", after := #[{ on := 6, ground := .data }], guard := none }) rfl (fun K hK => ?_) AllReadyH.nil)
        go_simp
        refine (pick_any rb rb p5 128 _ r6 (by omega)).mono ?_; rintro r w7 ⟨rfl, hk7, r7, o7'⟩
        have C7 := C6.aside o7' hg
        have B7 : Below rb w w7 := (qd B6).trans (o7'.below (Nat.le_refl rb))
        generalize G.pk p5 128 = k7 at *
        have j0 : (0 : Int) ≤ k7 := hk7.1
        have j1 : k7 < 128 := by omega
        go_wp2_with fail
        refine hK.out _ _ trivial (fun hHeld => ?_)
        clear hK K
        (try simp only [pq])
        have hkd : kn < X.data.size := hk
        obtain ⟨c, hxr⟩ := xor_any X.data[kn] (IntKind.u8.wrap (IntKind.i64.wrap (1 + k7))) (u8w _).1 (u8w _).2
        refine tl (i := 8) (oi := { dst := some 33, op := .binOp .add 3 (.const (.int .i64 1)) (.tmp 32) 3, type := 3, pos := "l61_draw.go:333", after := #[{ on := 7, ground := .data }], guard := none }) ?_
        (try simp only [pq])
        refine tl (i := 9) (oi := { dst := some 34, op := .convert 3 5 (.tmp 33), type := 5, pos := "l61_draw.go:333", after := #[{ on := 8, ground := .data }], guard := none }) ?_
        (try simp only [pq])
        refine tl (i := 10) (oi := { dst := some 35, op := .binOp .xor 5 (.tmp 30) (.tmp 34) 5, type := 5, pos := "l61_draw.go:333", after := #[{ on := 5, ground := .data }, { on := 9, ground := .data }], guard := none }) ?_
        (try simp only [pq])
        refine tl (i := 11) (oi := { dst := some 36, op := .indexAddr 22 (.tmp 25) (.tmp 26), type := 0, pos := "l61_draw.go:333", after := #[{ on := 0, ground := .data }, { on := 1, ground := .data }, { on := 0, ground := .phase }, { on := 1, ground := .phase }, { on := 2, ground := .phase }, { on := 3, ground := .phase }, { on := 4, ground := .phase }, { on := 5, ground := .phase }, { on := 6, ground := .phase }, { on := 7, ground := .phase }, { on := 8, ground := .phase }, { on := 9, ground := .phase }, { on := 10, ground := .phase }], guard := none }) ?_
        (try simp only [pq])
        have d1 := C7.c kn hkl
        have d2 := C7.z kn hkl
        have hcells := set_cl C7 hkl c
        have B8 : Below rb w (w7.setCell ⟨gg, kn, none⟩ (.int .u8 (c.toNat : Int))) := B7.setCell (p := ⟨gg, kn, none⟩) hgl _
        refine wpAnyH_ready (rs := [12]) (by kernel_rfl) (by simp) ?_
        refine (AllReadyH.cons (o := { dst := none, op := .store 5 (.tmp 36) (.tmp 35), type := 0, pos := "l61_draw.go:333", after := #[{ on := 11, ground := .data }, { on := 10, ground := .data }, { on := 7, ground := .chain }, { on := 0, ground := .phase }, { on := 1, ground := .phase }, { on := 2, ground := .phase }, { on := 3, ground := .phase }, { on := 4, ground := .phase }, { on := 5, ground := .phase }, { on := 6, ground := .phase }, { on := 7, ground := .phase }, { on := 8, ground := .phase }, { on := 9, ground := .phase }, { on := 10, ground := .phase }], guard := none }) rfl (fun K hK => ?_) AllReadyH.nil)
        go_simp
        clear d1 d2
        generalize (w7.setCell ⟨gg, kn, none⟩ (.int .u8 (c.toNat : Int))) = w8 at *
        refine hK.out _ _ trivial (fun hHeld => ?_)
        clear hK K
        (try simp only [pq])
        refine wpAnyH_done (by kernel_rfl) ?_ _
        have hbk := run_convert_bytes_back (P := Tryz.prog) w8 22 9 5 ⟨gg, 0, none⟩ cp9 (X.data.toList.set kn c) Tryz.underlying22 Tryz.underlying5 Tryz.underlying9 hcells
        rw [List.length_set, show X.data.toList.length = X.size by simp] at hbk
        clear hHeld
        go_wp2
        go_ret
        refine ⟨_, rfl, ?_, by rw [hrb.out]; exact B8⟩
        show (X.data.toList.set kn c).length ≤ _
        rw [List.length_set, show X.data.toList.length = X.size by simp]
        omega
      · go_simp
        refine (pick_any rb rb p5 128 _ r6 (by omega)).mono ?_; rintro r w7 ⟨rfl, hk7, r7, o7'⟩
        have C7 := C6.aside o7' hg
        have B7 : Below rb w w7 := (qd B6).trans (o7'.below (Nat.le_refl rb))
        generalize G.pk p5 128 = k7 at *
        have j0 : (0 : Int) ≤ k7 := hk7.1
        have j1 : k7 < 128 := by omega
        go_wp2_with fail
        refine hK.out _ _ trivial (fun hHeld => ?_)
        clear hK K
        (try simp only [pq])
        refine tl (i := 8) (oi := { dst := some 33, op := .binOp .add 3 (.const (.int .i64 1)) (.tmp 32) 3, type := 3, pos := "l61_draw.go:333", after := #[{ on := 7, ground := .data }], guard := none }) ?_
        (try simp only [pq])
        refine tl (i := 9) (oi := { dst := some 34, op := .convert 3 5 (.tmp 33), type := 5, pos := "l61_draw.go:333", after := #[{ on := 8, ground := .data }], guard := none }) ?_
        (try simp only [pq])
        refine wpAnyH_ready (rs := [5]) (by kernel_rfl) (by simp) ?_
        refine (AllReadyH.cons (o := { dst := some 30, op := .load 5 (.tmp 29), type := 5, pos := "l61_draw.go:333", after := #[{ on := 4, ground := .data }], guard := none }) rfl (fun K hK => ?_) AllReadyH.nil)
        have c1 := C7.c kn hkl
        go_simp
        refine hK.out _ _ trivial (fun hHeld => ?_)
        clear hK K
        (try simp only [pq])
        clear c1
        have hkd : kn < X.data.size := hk
        obtain ⟨c, hxr⟩ := xor_any X.data[kn] (IntKind.u8.wrap (IntKind.i64.wrap (1 + k7))) (u8w _).1 (u8w _).2
        refine tl (i := 10) (oi := { dst := some 35, op := .binOp .xor 5 (.tmp 30) (.tmp 34) 5, type := 5, pos := "l61_draw.go:333", after := #[{ on := 5, ground := .data }, { on := 9, ground := .data }], guard := none }) ?_
        (try simp only [pq])
        refine tl (i := 11) (oi := { dst := some 36, op := .indexAddr 22 (.tmp 25) (.tmp 26), type := 0, pos := "l61_draw.go:333", after := #[{ on := 0, ground := .data }, { on := 1, ground := .data }, { on := 0, ground := .phase }, { on := 1, ground := .phase }, { on := 2, ground := .phase }, { on := 3, ground := .phase }, { on := 4, ground := .phase }, { on := 5, ground := .phase }, { on := 6, ground := .phase }, { on := 7, ground := .phase }, { on := 8, ground := .phase }, { on := 9, ground := .phase }, { on := 10, ground := .phase }], guard := none }) ?_
        (try simp only [pq])
        have d1 := C7.c kn hkl
        have d2 := C7.z kn hkl
        have hcells := set_cl C7 hkl c
        have B8 : Below rb w (w7.setCell ⟨gg, kn, none⟩ (.int .u8 (c.toNat : Int))) := B7.setCell (p := ⟨gg, kn, none⟩) hgl _
        refine wpAnyH_ready (rs := [12]) (by kernel_rfl) (by simp) ?_
        refine (AllReadyH.cons (o := { dst := none, op := .store 5 (.tmp 36) (.tmp 35), type := 0, pos := "l61_draw.go:333", after := #[{ on := 11, ground := .data }, { on := 10, ground := .data }, { on := 7, ground := .chain }, { on := 0, ground := .phase }, { on := 1, ground := .phase }, { on := 2, ground := .phase }, { on := 3, ground := .phase }, { on := 4, ground := .phase }, { on := 5, ground := .phase }, { on := 6, ground := .phase }, { on := 7, ground := .phase }, { on := 8, ground := .phase }, { on := 9, ground := .phase }, { on := 10, ground := .phase }], guard := none }) rfl (fun K hK => ?_) AllReadyH.nil)
        go_simp
        clear d1 d2
        generalize (w7.setCell ⟨gg, kn, none⟩ (.int .u8 (c.toNat : Int))) = w8 at *
        refine hK.out _ _ trivial (fun hHeld => ?_)
        clear hK K
        (try simp only [pq])
        refine wpAnyH_done (by kernel_rfl) ?_ _
        have hbk := run_convert_bytes_back (P := Tryz.prog) w8 22 9 5 ⟨gg, 0, none⟩ cp9 (X.data.toList.set kn c) Tryz.underlying22 Tryz.underlying5 Tryz.underlying9 hcells
        rw [List.length_set, show X.data.toList.length = X.size by simp] at hbk
        clear hHeld
        go_wp2
        go_ret
        refine ⟨_, rfl, ?_, by rw [hrb.out]; exact B8⟩
        show (X.data.toList.set kn c).length ≤ _
        rw [List.length_set, show X.data.toList.length = X.size by simp]
        omega
    · have h4b : (k4 == 0) = false := by rw [beq_eq_false_iff_ne]; exact h4
      go_upto_region 8 with fail
      have hcs : ∀ j, j < 5 → (w4.alloc (.cells #[.string ⟨#[32]⟩, .string ⟨#[48]⟩, .string ⟨#[43]⟩, .string ⟨#[58]⟩, .string ⟨#[120]⟩] 9)).cell? ⟨w4.heap.size, j, none⟩ = some (.string (l5.getD j ByteArray.empty)) := strs_new w4 l5 _ rfl
      have hwr := r4.lt
      go_wp2_with fail
      refine (bend_any rb rb (p2 + 1) w4.heap.size 5 (fun j => l5.getD j ByteArray.empty) X 4 _ (r4.alloc _) (by omega) (by omega) hcs (strs_small l5 (by decide +kernel)) (by simp) (by omega) (by omega)).mono ?_
      rintro r w9 ⟨x, q9, rfl, hx9, -, -, o9⟩
      have BA : Below rb w (w4.alloc (.cells #[.string ⟨#[32]⟩, .string ⟨#[48]⟩, .string ⟨#[43]⟩, .string ⟨#[58]⟩, .string ⟨#[120]⟩] 9)) := B4.alloc (Nat.le_trans (Nat.le_of_lt hwr) (Nat.le_refl _)) _
      have B9 := BA.trans (o9.below (Nat.le_refl rb) (Nat.le_of_lt (r4.alloc _).lt))
      clear hcs BA o9
      go_wp2
      go_ret
      exact ⟨x, rfl, hx9, by rw [hrb.out]; exact B9⟩
end Go.Proofs.YtibnojbhoepcdaaGreatDoor
