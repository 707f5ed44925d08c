/- Nodes: who is found among doubts, places, foreigns. -/
import Derived.Test.YtnplhfgdbabmaaaGreatNd20
import Derived.Test.YtnplhfgdbabmaaaGreatMsk
namespace Go.Proofs.YtnplhfgdbabmaaaGreat
open Go.ChangeShapes Go.WideShapes Go.ChangeAt Go.RowKit
attribute [local go_sem ↓] Go.wp_at_zero Go.wp_at_succ
/-- where a number stands first -/
def nst (f : Nat → Int) (key : Int) : Nat → Nat → Option Nat
  | _, 0 => none
  | k, m + 1 => if f k = key then some k else nst f key (k + 1) m
def nfd (len : Nat) (f : Nat → Int) (key : Int) : Option Nat := nst f key 0 len
theorem nst_none {f : Nat → Int} {key : Int} : ∀ (m k : Nat), (∀ j, k ≤ j → j < k + m → f j ≠ key) → nst f key k m = none
  | 0, _, _ => rfl
  | m + 1, k, h => by
    rw [nst, if_neg (h k (Nat.le_refl _) (by omega))]
    exact nst_none m (k + 1) (fun j h1 h2 => h j (by omega) (by omega))
theorem nst_some {f : Nat → Int} {key : Int} : ∀ (m k i : Nat), (∀ j, k ≤ j → j < i → f j ≠ key) → k ≤ i → i < k + m → f i = key → nst f key k m = some i
  | 0, k, i, _, h1, h2, _ => by omega
  | m + 1, k, i, h, h1, h2, h3 => by
    rw [nst]
    by_cases e : f k = key
    · rw [if_pos e]
      by_cases e2 : k = i
      · rw [e2]
      · exact absurd e (h k (Nat.le_refl _) (by omega))
    · rw [if_neg e]
      exact nst_some m (k + 1) i (fun j a b => h j (by omega) b) (by
        rcases Nat.lt_or_ge k i with q | q
        · omega
        · have : k = i := by omega
          subst this
          exact absurd h3 e) (by omega) h3
theorem nfd_none {len : Nat} {f : Nat → Int} {key : Int} (h : ∀ j, j < len → f j ≠ key) : nfd len f key = none := nst_none len 0 (fun j _ hj => h j (by omega))
theorem nfd_some {len : Nat} {f : Nat → Int} {key : Int} {k : Nat} (h : ∀ j, j < k → f j ≠ key) (hk : k < len) (e : f k = key) : nfd len f key = some k := nst_some len 0 k (fun j _ hj => h j hj) (by omega) (by omega) e
theorem nfd_at {len : Nat} {f : Nat → Int} {key : Int} {k : Nat} (h : nfd len f key = some k) : k < len ∧ f k = key := by
  have : ∀ m j, nst f key j m = some k → k < j + m ∧ f k = key := by
    intro m
    induction m with
    | zero => intro j h; simp [nst] at h
    | succ m ih =>
      intro j h
      rw [nst] at h
      by_cases e : f j = key
      · rw [if_pos e] at h; injection h with h; subst h; exact ⟨by omega, e⟩
      · rw [if_neg e] at h; have := ih _ h; exact ⟨by omega, this.2⟩
  have := this len 0 h
  exact ⟨by omega, this.2⟩
def o144_1 : Array Oper := #[{ dst := some 4, op := Go.Op.load 105 (Go.Operand.tmp 2), type := 105, pos := "l21_node.go:114", after := #[], guard := none }, { dst := some 5, op := Go.Op.makeInterface 105 (Go.Operand.tmp 4), type := 20, pos := "l21_node.go:114", after := #[{ on := 0, ground := Go.Ground.data }], guard := none }, { dst := some 6, op := Go.Op.call { callee := Go.Callee.invoke (Go.Operand.tmp 5) "loop.example/lightship/impl.key", args := #[], argTypes := #[] }, type := 3, pos := "l21_node.go:114", after := #[{ on := 1, ground := Go.Ground.data }], guard := none }, { dst := some 7, op := Go.Op.load 3 (Go.Operand.tmp 1), type := 3, pos := "l21_node.go:114", after := #[], guard := none }, { dst := some 8, op := Go.Op.binOp Go.BinOp.eql 3 (Go.Operand.tmp 6) (Go.Operand.tmp 7) 3, type := 4, pos := "l21_node.go:114", after := #[{ on := 2, ground := Go.Ground.data }, { on := 3, ground := Go.Ground.data }], guard := none }, { dst := some 3, op := Go.Op.assign (Go.Operand.tmp 8), type := 4, pos := "l21_node.go:114", after := #[{ on := 4, ground := Go.Ground.data }, { on := 2, ground := Go.Ground.chain }, { on := 0, ground := Go.Ground.phase }, { on := 1, ground := Go.Ground.phase }, { on := 2, ground := Go.Ground.phase }, { on := 3, ground := Go.Ground.phase }, { on := 4, ground := Go.Ground.phase }], guard := none }]
theorem fo144_1 : FreeN .any o144_1 6 := ⟨⟨by kernel_rfl⟩, by kernel_rfl⟩
theorem o144_1_0 : o144_1[0]? = some { dst := some 4, op := Go.Op.load 105 (Go.Operand.tmp 2), type := 105, pos := "l21_node.go:114", after := #[], guard := none } := rfl
theorem o144_1_1 : o144_1[1]? = some { dst := some 5, op := Go.Op.makeInterface 105 (Go.Operand.tmp 4), type := 20, pos := "l21_node.go:114", after := #[{ on := 0, ground := Go.Ground.data }], guard := none } := rfl
theorem o144_1_2 : o144_1[2]? = some { dst := some 6, op := Go.Op.call { callee := Go.Callee.invoke (Go.Operand.tmp 5) "loop.example/lightship/impl.key", args := #[], argTypes := #[] }, type := 3, pos := "l21_node.go:114", after := #[{ on := 1, ground := Go.Ground.data }], guard := none } := rfl
theorem o144_1_3 : o144_1[3]? = some { dst := some 7, op := Go.Op.load 3 (Go.Operand.tmp 1), type := 3, pos := "l21_node.go:114", after := #[], guard := none } := rfl
theorem o144_1_4 : o144_1[4]? = some { dst := some 8, op := Go.Op.binOp Go.BinOp.eql 3 (Go.Operand.tmp 6) (Go.Operand.tmp 7) 3, type := 4, pos := "l21_node.go:114", after := #[{ on := 2, ground := Go.Ground.data }, { on := 3, ground := Go.Ground.data }], guard := none } := rfl
theorem o144_1_5 : o144_1[5]? = some { dst := some 3, op := Go.Op.assign (Go.Operand.tmp 8), type := 4, pos := "l21_node.go:114", after := #[{ on := 4, ground := Go.Ground.data }, { on := 2, ground := Go.Ground.chain }, { on := 0, ground := Go.Ground.phase }, { on := 1, ground := Go.Ground.phase }, { on := 2, ground := Go.Ground.phase }, { on := 3, ground := Go.Ground.phase }, { on := 4, ground := Go.Ground.phase }], guard := none } := rfl
set_option maxRecDepth 20000 in
theorem Dtfclo_lit (n i s : Int) (ba : Option Addr) (bl bc : Nat) (key : Int) (pk : Nat) (b : Bool) (hb : (n == key) = b) (w : World) (hp : w.cell? ⟨pk, 0, none⟩ = some (.int .i64 key)) :
    Calls Tryz.prog 144 #[.agg #[.int .i64 n, .int .i64 i, .int .i64 s, .slice ba bl bc], .pointer (some ⟨pk, 0, none⟩)] w fun r w' => r = .returned (.bool b) ∧ Below w.heap.size w w' := by
  have hm : ∀ (n i s : Int) (ba : Option Addr) (bl bc : Nat) (w : World), (method 298 105 (.agg #[.int .i64 n, .int .i64 i, .int .i64 s, .slice ba bl bc]) "loop.example/lightship/impl.key").run Tryz.prog w = .ok (197, .agg #[.int .i64 n, .int .i64 i, .int .i64 s, .slice ba bl bc]) w := fun _ _ _ _ _ _ _ => by kernel_rfl
  have b0 := balloc (.cells #[.int .i64 n, .int .i64 i, .int .i64 s, .slice ba bl bc] 105) (Below.refl w.heap.size w)
  have X := Ws.box (w := w) #[.int .i64 n, .int .i64 i, .int .i64 s, .slice ba bl bc] 105
  have cp := keep_alloc (.cells #[.int .i64 n, .int .i64 i, .int .i64 s, .slice ba bl bc] 105) hp
  have c0 := X.c 0 (.int .i64 n) rfl
  have c1 := X.c 1 (.int .i64 i) rfl
  have c2 := X.c 2 (.int .i64 s) rfl
  have c3 := X.c 3 (.slice ba bl bc) rfl
  have hq : Hid ((n == key) = b) := hb
  go_enter Tryz.func144, Tryz.ntmps144
  go_upto_region 1 with fail
  generalize w.alloc (.cells #[.int .i64 n, .int .i64 i, .int .i64 s, .slice ba bl bc] 105) = u at *
  clear hb X hp
  refine wp_region_m (S := (fun w' => w'.cell? ⟨w.heap.size, 0, none⟩ = some (.int .i64 n) ∧ w'.cell? ⟨w.heap.size, 1, none⟩ = some (.int .i64 i) ∧ w'.cell? ⟨w.heap.size, 2, none⟩ = some (.int .i64 s) ∧ w'.cell? ⟨w.heap.size, 3, none⟩ = some (.slice ba bl bc) ∧ w'.cell? ⟨pk, 0, none⟩ = some (.int .i64 key) ∧ Below w.heap.size w w')) o144_1 6 fo144_1 ?_ (fun hHeld => ?_)
  · (try dsimp only); exact ⟨keep_drew c0, keep_drew c1, keep_drew c2, keep_drew c3, keep_drew cp, b0.drew⟩
  refine stY fo144_1 o144_1_0 1 ?_
  (try simp only [putQ])
  refine stY fo144_1 o144_1_1 3 ?_
  (try simp only [putQ])
  refine stY fo144_1 o144_1_3 11 ?_
  (try simp only [putQ])
  refine stC fo144_1 o144_1_2 15 (fun K hK => ?_)
  go_simp
  refine (Dtkey_any n i s ba bl bc _).mono ?_; rintro r w1 ⟨rfl, k1⟩
  go_wp2_with fail
  refine hK.out _ _ ?_ (fun hHeld => ?_)
  · (try dsimp only); exact ⟨keep_below k1 hHeld.1, keep_below k1 hHeld.2.1, keep_below k1 hHeld.2.2.1, keep_below k1 hHeld.2.2.2.1, keep_below k1 hHeld.2.2.2.2.1, btrans hHeld.2.2.2.2.2 k1⟩
  clear hK K
  (try simp only [putQ])
  refine stY fo144_1 o144_1_4 31 ?_
  (try simp only [putQ])
  refine stY fo144_1 o144_1_5 63 ?_
  (try simp only [putQ])
  refine wpAnyH_done (by kernel_rfl) ?_ _
  rw [hq.out]
  go_wp2
  go_ret
  exact ⟨rfl, hHeld.2.2.2.2.2⟩
set_option maxRecDepth 20000 in
set_option maxHeartbeats 1000000 in
theorem Dtfidx_any (a : Option Addr) (len cap : Nat) (F : Nat → Dt) (key : Int) (pk : Nat) (w : World) (hSl : DtSl w a len F) (hl : len ≤ 1048576) (hp : w.cell? ⟨pk, 0, none⟩ = some (.int .i64 key)) :
    Calls Tryz.prog 143 #[.slice a len cap, .func (.func 144) #[] #[.pointer (some ⟨pk, 0, none⟩)]] w fun e w' => e = .returned (.int .i64 (fndI (nfd len (fun k => (F k).n) key))) ∧ Below w.heap.size w w' := by
  go_enter Tryz.func143, Tryz.ntmps143
  go_wp2
  go_loopw [5, 8] (fun _ i wr => ∃ k : Nat, k ≤ len ∧ i = .int .i64 k ∧ Below w.heap.size w wr ∧ (∀ j, j < k → (F j).n ≠ key)) (fun _ i _ => len - (intOf i).toNat)
  case atStart => exact ⟨0, by omega, rfl, Below.refl _ _, fun j h1 => by omega⟩
  case round =>
    obtain ⟨k, hk, rfl, hb, hall⟩ := hrel
    by_cases hlt : k < len
    · obtain ⟨b, off, rfl, hbl, hf⟩ := hSl (by omega)
      obtain ⟨c0, c1, c2, c3⟩ := (hf.below hb hbl) k hlt
      have i0 : (0 : Int) ≤ (k : Int) := by omega
      have i1 : (k : Int) < (len : Int) := by omega
      have hpr := keep_below hb hp
      have hyes : Hid ((F k).n ≠ key → ∀ j, j < k + 1 → (F j).n ≠ key) := fun e j hj => by
        by_cases ej : j = k
        · subst ej; exact e
        · exact hall j (by omega)
      have hit : Hid ((F k).n = key → nfd len (fun k => (F k).n) key = some k) := fun e => nfd_some hall hlt e
      clear hall
      generalize F k = x at *
      obtain ⟨n, i, s, ba, bl, bc, bf⟩ := x
      dsimp only at c0 c1 c2 c3 hyes hit
      cases ho : (n == key)
      · have ho' : Hid ((n == key) = false) := ho
        clear ho
        go_wp2_with (go_at_call 144; refine (Dtfclo_lit n i s ba bl bc key pk false ho'.out _ hpr).mono ?_; rintro e w1 ⟨rfl, b1⟩)
        go_roundw
        case rel => exact ⟨k + 1, by omega, by go_num, btrans hb b1, hyes.out (by simpa using ho'.out)⟩
        case measure => simp [intOf]; omega
      · have ho' : Hid ((n == key) = true) := ho
        clear ho
        go_wp2_with (go_at_call 144; refine (Dtfclo_lit n i s ba bl bc key pk true ho'.out _ hpr).mono ?_; rintro e w1 ⟨rfl, b1⟩)
        go_ret
        exact ⟨by rw [hit.out (by simpa using ho'.out)]; rfl, btrans hb b1⟩
    · go_wp2
      go_ret
      exact ⟨by rw [nfd_none fun j hj => hall j (by omega)]; rfl, hb⟩
/-- what find answers -/
def DtFd (e : Ending) (len : Nat) (F : Nat → Dt) (key : Int) : Prop :=
  (nfd len (fun k => (F k).n) key = none ∧ e = .returned (.tuple #[.agg #[.int .i64 0, .int .i64 0, .int .i64 0, .slice none 0 0], .bool false])) ∨ ∃ k, nfd len (fun k => (F k).n) key = some k ∧ k < len ∧ (F k).n = key ∧ e = .returned (.tuple #[.agg #[.int .i64 (F k).n, .int .i64 (F k).i, .int .i64 (F k).s, .slice (F k).ba (F k).bl (F k).bc], .bool true])
set_option maxRecDepth 20000 in
set_option maxHeartbeats 1000000 in
theorem Dtfind_any (a : Option Addr) (len cap : Nat) (F : Nat → Dt) (key : Int) (w : World) (hSl : DtSl w a len F) (hl : len ≤ 1048576) :
    Calls Tryz.prog 82 #[.slice a len cap, .int .i64 key] w fun e w' => DtFd e len F key ∧ Below w.heap.size w w' := by
  have b0 := balloc (.cells #[.int .i64 key] 3) (Below.refl w.heap.size w)
  have c0 := (Ws.box (w := w) #[.int .i64 key] 3).c 0 (.int .i64 key) rfl
  have b1 := balloc (.cells #[.int .i64 0, .int .i64 0, .int .i64 0, .slice none 0 0] 105) b0
  have c1 := keep_alloc (.cells #[.int .i64 0, .int .i64 0, .int .i64 0, .slice none 0 0] 105) c0
  have X := Ws.box (w := w.alloc (.cells #[.int .i64 key] 3)) #[.int .i64 0, .int .i64 0, .int .i64 0, .slice none 0 0] 105
  have hs : (w.alloc (.cells #[.int .i64 key] 3)).heap.size = w.heap.size + 1 := by simp [go_sem]
  rw [hs] at X
  clear hs c0 b0
  go_enter Tryz.func82, Tryz.ntmps82
  go_upto_region 1 with fail
  generalize (w.alloc (.cells #[.int .i64 key] 3)).alloc (.cells #[.int .i64 0, .int .i64 0, .int .i64 0, .slice none 0 0] 105) = u at *
  have hR : w.heap.size ≤ w.heap.size + 1 := by omega
  generalize w.heap.size + 1 = R at *
  go_upto_region 2 with (go_at_call 143; refine (Dtfidx_any a len cap F key _ _ (hSl.below b1) hl c1).mono ?_; rintro e w1 ⟨rfl, k1⟩)
  have B1 := btrans b1 k1
  have X1 := X.below k1
  have d0 := X1.c 0 (.int .i64 0) rfl
  have z0 := X1.z 0
  have d1 := X1.c 1 (.int .i64 0) rfl
  have z1 := X1.z 1
  have d2 := X1.c 2 (.int .i64 0) rfl
  have z2 := X1.z 2
  have d3 := X1.c 3 (.slice none 0 0) rfl
  have z3 := X1.z 3
  have h1 := (hSl.below b1).below k1
  clear X c1 hSl
  cases ef : nfd len (fun k => (F k).n) key with
  | none =>
    clear X1
    simp only [fndI]
    go_wp2
    try simp only [Exit.inBlock, Exit.then]
    exact bodyPost_ret (v := .tuple #[.agg #[.int .i64 0, .int .i64 0, .int .i64 0, .slice none 0 0], .bool false]) (by simp [results, Tryz.results82, go_sem, d0, d1, d2, d3]) rfl ⟨.inl ⟨ef, rfl⟩, ((((B1.setCell (p := ⟨R, 0, none⟩) hR _).setCell (p := ⟨R, 1, none⟩) hR _).setCell (p := ⟨R, 2, none⟩) hR _).setCell (p := ⟨R, 3, none⟩) hR _)⟩
  | some k =>
    obtain ⟨hk, hn⟩ := nfd_at ef
    obtain ⟨b, off, rfl, hbl, hf⟩ := h1 (by omega)
    obtain ⟨f0, f1, f2, f3⟩ := hf k hk
    have i0 : (0 : Int) ≤ (k : Int) := by omega
    have i1 : (k : Int) < (len : Int) := by omega
    have hx : Hid (∀ e, e = .returned (.tuple #[.agg #[.int .i64 (F k).n, .int .i64 (F k).i, .int .i64 (F k).s, .slice (F k).ba (F k).bl (F k).bc], .bool true]) → DtFd e len F key) := fun e he => .inr ⟨k, ef, hk, hn, he⟩
    clear ef hn X1
    simp only [fndI]
    generalize F k = x at *
    obtain ⟨n, i, s, ba, bl, bc, bf⟩ := x
    dsimp only at f0 f1 f2 f3 hx
    go_wp2
    try simp only [Exit.inBlock, Exit.then]
    exact bodyPost_ret (v := .tuple #[.agg #[.int .i64 n, .int .i64 i, .int .i64 s, .slice ba bl bc], .bool true]) (by simp [results, Tryz.results82, go_sem, d0, d1, d2, d3]) rfl ⟨hx.out _ rfl, ((((B1.setCell (p := ⟨R, 0, none⟩) hR _).setCell (p := ⟨R, 1, none⟩) hR _).setCell (p := ⟨R, 2, none⟩) hR _).setCell (p := ⟨R, 3, none⟩) hR _)⟩
def o139_1 : Array Oper := #[{ dst := some 4, op := Go.Op.load 91 (Go.Operand.tmp 2), type := 91, pos := "l21_node.go:114", after := #[], guard := none }, { dst := some 5, op := Go.Op.makeInterface 91 (Go.Operand.tmp 4), type := 20, pos := "l21_node.go:114", after := #[{ on := 0, ground := Go.Ground.data }], guard := none }, { dst := some 6, op := Go.Op.call { callee := Go.Callee.invoke (Go.Operand.tmp 5) "loop.example/lightship/impl.key", args := #[], argTypes := #[] }, type := 3, pos := "l21_node.go:114", after := #[{ on := 1, ground := Go.Ground.data }], guard := none }, { dst := some 7, op := Go.Op.load 3 (Go.Operand.tmp 1), type := 3, pos := "l21_node.go:114", after := #[], guard := none }, { dst := some 8, op := Go.Op.binOp Go.BinOp.eql 3 (Go.Operand.tmp 6) (Go.Operand.tmp 7) 3, type := 4, pos := "l21_node.go:114", after := #[{ on := 2, ground := Go.Ground.data }, { on := 3, ground := Go.Ground.data }], guard := none }, { dst := some 3, op := Go.Op.assign (Go.Operand.tmp 8), type := 4, pos := "l21_node.go:114", after := #[{ on := 4, ground := Go.Ground.data }, { on := 2, ground := Go.Ground.chain }, { on := 0, ground := Go.Ground.phase }, { on := 1, ground := Go.Ground.phase }, { on := 2, ground := Go.Ground.phase }, { on := 3, ground := Go.Ground.phase }, { on := 4, ground := Go.Ground.phase }], guard := none }]
theorem fo139_1 : FreeN .any o139_1 6 := ⟨⟨by kernel_rfl⟩, by kernel_rfl⟩
theorem o139_1_0 : o139_1[0]? = some { dst := some 4, op := Go.Op.load 91 (Go.Operand.tmp 2), type := 91, pos := "l21_node.go:114", after := #[], guard := none } := rfl
theorem o139_1_1 : o139_1[1]? = some { dst := some 5, op := Go.Op.makeInterface 91 (Go.Operand.tmp 4), type := 20, pos := "l21_node.go:114", after := #[{ on := 0, ground := Go.Ground.data }], guard := none } := rfl
theorem o139_1_2 : o139_1[2]? = some { dst := some 6, op := Go.Op.call { callee := Go.Callee.invoke (Go.Operand.tmp 5) "loop.example/lightship/impl.key", args := #[], argTypes := #[] }, type := 3, pos := "l21_node.go:114", after := #[{ on := 1, ground := Go.Ground.data }], guard := none } := rfl
theorem o139_1_3 : o139_1[3]? = some { dst := some 7, op := Go.Op.load 3 (Go.Operand.tmp 1), type := 3, pos := "l21_node.go:114", after := #[], guard := none } := rfl
theorem o139_1_4 : o139_1[4]? = some { dst := some 8, op := Go.Op.binOp Go.BinOp.eql 3 (Go.Operand.tmp 6) (Go.Operand.tmp 7) 3, type := 4, pos := "l21_node.go:114", after := #[{ on := 2, ground := Go.Ground.data }, { on := 3, ground := Go.Ground.data }], guard := none } := rfl
theorem o139_1_5 : o139_1[5]? = some { dst := some 3, op := Go.Op.assign (Go.Operand.tmp 8), type := 4, pos := "l21_node.go:114", after := #[{ on := 4, ground := Go.Ground.data }, { on := 2, ground := Go.Ground.chain }, { on := 0, ground := Go.Ground.phase }, { on := 1, ground := Go.Ground.phase }, { on := 2, ground := Go.Ground.phase }, { on := 3, ground := Go.Ground.phase }, { on := 4, ground := Go.Ground.phase }], guard := none } := rfl
set_option maxRecDepth 20000 in
theorem Plfclo_lit (n x y h e : Int) (ba : Option Addr) (bl bc : Nat) (key : Int) (pk : Nat) (b : Bool) (hb : (n == key) = b) (w : World) (hp : w.cell? ⟨pk, 0, none⟩ = some (.int .i64 key)) :
    Calls Tryz.prog 139 #[.agg #[.int .i64 n, .int .i64 x, .int .i64 y, .int .i64 h, .int .i64 e, .slice ba bl bc], .pointer (some ⟨pk, 0, none⟩)] w fun r w' => r = .returned (.bool b) ∧ Below w.heap.size w w' := by
  have hm : ∀ (n x y h e : Int) (ba : Option Addr) (bl bc : Nat) (w : World), (method 298 91 (.agg #[.int .i64 n, .int .i64 x, .int .i64 y, .int .i64 h, .int .i64 e, .slice ba bl bc]) "loop.example/lightship/impl.key").run Tryz.prog w = .ok (195, .agg #[.int .i64 n, .int .i64 x, .int .i64 y, .int .i64 h, .int .i64 e, .slice ba bl bc]) w := fun _ _ _ _ _ _ _ _ _ => by kernel_rfl
  have b0 := balloc (.cells #[.int .i64 n, .int .i64 x, .int .i64 y, .int .i64 h, .int .i64 e, .slice ba bl bc] 91) (Below.refl w.heap.size w)
  have X := Ws.box (w := w) #[.int .i64 n, .int .i64 x, .int .i64 y, .int .i64 h, .int .i64 e, .slice ba bl bc] 91
  have cp := keep_alloc (.cells #[.int .i64 n, .int .i64 x, .int .i64 y, .int .i64 h, .int .i64 e, .slice ba bl bc] 91) hp
  have c0 := X.c 0 (.int .i64 n) rfl
  have c1 := X.c 1 (.int .i64 x) rfl
  have c2 := X.c 2 (.int .i64 y) rfl
  have c3 := X.c 3 (.int .i64 h) rfl
  have c4 := X.c 4 (.int .i64 e) rfl
  have c5 := X.c 5 (.slice ba bl bc) rfl
  have hq : Hid ((n == key) = b) := hb
  go_enter Tryz.func139, Tryz.ntmps139
  go_upto_region 1 with fail
  generalize w.alloc (.cells #[.int .i64 n, .int .i64 x, .int .i64 y, .int .i64 h, .int .i64 e, .slice ba bl bc] 91) = u at *
  clear hb X hp
  refine wp_region_m (S := (fun w' => w'.cell? ⟨w.heap.size, 0, none⟩ = some (.int .i64 n) ∧ w'.cell? ⟨w.heap.size, 1, none⟩ = some (.int .i64 x) ∧ w'.cell? ⟨w.heap.size, 2, none⟩ = some (.int .i64 y) ∧ w'.cell? ⟨w.heap.size, 3, none⟩ = some (.int .i64 h) ∧ w'.cell? ⟨w.heap.size, 4, none⟩ = some (.int .i64 e) ∧ w'.cell? ⟨w.heap.size, 5, none⟩ = some (.slice ba bl bc) ∧ w'.cell? ⟨pk, 0, none⟩ = some (.int .i64 key) ∧ Below w.heap.size w w')) o139_1 6 fo139_1 ?_ (fun hHeld => ?_)
  · (try dsimp only); exact ⟨keep_drew c0, keep_drew c1, keep_drew c2, keep_drew c3, keep_drew c4, keep_drew c5, keep_drew cp, b0.drew⟩
  refine stY fo139_1 o139_1_0 1 ?_
  (try simp only [putQ])
  refine stY fo139_1 o139_1_1 3 ?_
  (try simp only [putQ])
  refine stY fo139_1 o139_1_3 11 ?_
  (try simp only [putQ])
  refine stC fo139_1 o139_1_2 15 (fun K hK => ?_)
  go_simp
  refine (Plkey_any n x y h e ba bl bc _).mono ?_; rintro r w1 ⟨rfl, k1⟩
  go_wp2_with fail
  refine hK.out _ _ ?_ (fun hHeld => ?_)
  · (try dsimp only); exact ⟨keep_below k1 hHeld.1, keep_below k1 hHeld.2.1, keep_below k1 hHeld.2.2.1, keep_below k1 hHeld.2.2.2.1, keep_below k1 hHeld.2.2.2.2.1, keep_below k1 hHeld.2.2.2.2.2.1, keep_below k1 hHeld.2.2.2.2.2.2.1, btrans hHeld.2.2.2.2.2.2.2 k1⟩
  clear hK K
  (try simp only [putQ])
  refine stY fo139_1 o139_1_4 31 ?_
  (try simp only [putQ])
  refine stY fo139_1 o139_1_5 63 ?_
  (try simp only [putQ])
  refine wpAnyH_done (by kernel_rfl) ?_ _
  rw [hq.out]
  go_wp2
  go_ret
  exact ⟨rfl, hHeld.2.2.2.2.2.2.2⟩
set_option maxRecDepth 20000 in
set_option maxHeartbeats 1000000 in
theorem Plfidx_any (a : Option Addr) (len cap : Nat) (F : Nat → Pl) (key : Int) (pk : Nat) (w : World) (hSl : PlSl w a len F) (hl : len ≤ 1048576) (hp : w.cell? ⟨pk, 0, none⟩ = some (.int .i64 key)) :
    Calls Tryz.prog 138 #[.slice a len cap, .func (.func 139) #[] #[.pointer (some ⟨pk, 0, none⟩)]] w fun e w' => e = .returned (.int .i64 (fndI (nfd len (fun k => (F k).n) key))) ∧ Below w.heap.size w w' := by
  go_enter Tryz.func138, Tryz.ntmps138
  go_wp2
  go_loopw [5, 8] (fun _ i wr => ∃ k : Nat, k ≤ len ∧ i = .int .i64 k ∧ Below w.heap.size w wr ∧ (∀ j, j < k → (F j).n ≠ key)) (fun _ i _ => len - (intOf i).toNat)
  case atStart => exact ⟨0, by omega, rfl, Below.refl _ _, fun j h1 => by omega⟩
  case round =>
    obtain ⟨k, hk, rfl, hb, hall⟩ := hrel
    by_cases hlt : k < len
    · obtain ⟨b, off, rfl, hbl, hf⟩ := hSl (by omega)
      obtain ⟨c0, c1, c2, c3, c4, c5⟩ := (hf.below hb hbl) k hlt
      have i0 : (0 : Int) ≤ (k : Int) := by omega
      have i1 : (k : Int) < (len : Int) := by omega
      have hpr := keep_below hb hp
      have hyes : Hid ((F k).n ≠ key → ∀ j, j < k + 1 → (F j).n ≠ key) := fun e j hj => by
        by_cases ej : j = k
        · subst ej; exact e
        · exact hall j (by omega)
      have hit : Hid ((F k).n = key → nfd len (fun k => (F k).n) key = some k) := fun e => nfd_some hall hlt e
      clear hall
      generalize F k = x at *
      obtain ⟨n, x, y, h, e, ba, bl, bc, bf⟩ := x
      dsimp only at c0 c1 c2 c3 c4 c5 hyes hit
      cases ho : (n == key)
      · have ho' : Hid ((n == key) = false) := ho
        clear ho
        go_wp2_with (go_at_call 139; refine (Plfclo_lit n x y h e ba bl bc key pk false ho'.out _ hpr).mono ?_; rintro e w1 ⟨rfl, b1⟩)
        go_roundw
        case rel => exact ⟨k + 1, by omega, by go_num, btrans hb b1, hyes.out (by simpa using ho'.out)⟩
        case measure => simp [intOf]; omega
      · have ho' : Hid ((n == key) = true) := ho
        clear ho
        go_wp2_with (go_at_call 139; refine (Plfclo_lit n x y h e ba bl bc key pk true ho'.out _ hpr).mono ?_; rintro e w1 ⟨rfl, b1⟩)
        go_ret
        exact ⟨by rw [hit.out (by simpa using ho'.out)]; rfl, btrans hb b1⟩
    · go_wp2
      go_ret
      exact ⟨by rw [nfd_none fun j hj => hall j (by omega)]; rfl, hb⟩
/-- what find answers -/
def PlFd (e : Ending) (len : Nat) (F : Nat → Pl) (key : Int) : Prop :=
  (nfd len (fun k => (F k).n) key = none ∧ e = .returned (.tuple #[.agg #[.int .i64 0, .int .i64 0, .int .i64 0, .int .i64 0, .int .i64 0, .slice none 0 0], .bool false])) ∨ ∃ k, nfd len (fun k => (F k).n) key = some k ∧ k < len ∧ (F k).n = key ∧ e = .returned (.tuple #[.agg #[.int .i64 (F k).n, .int .i64 (F k).x, .int .i64 (F k).y, .int .i64 (F k).h, .int .i64 (F k).e, .slice (F k).ba (F k).bl (F k).bc], .bool true])
set_option maxRecDepth 20000 in
set_option maxHeartbeats 1000000 in
theorem Plfind_any (a : Option Addr) (len cap : Nat) (F : Nat → Pl) (key : Int) (w : World) (hSl : PlSl w a len F) (hl : len ≤ 1048576) :
    Calls Tryz.prog 71 #[.slice a len cap, .int .i64 key] w fun e w' => PlFd e len F key ∧ Below w.heap.size w w' := by
  have b0 := balloc (.cells #[.int .i64 key] 3) (Below.refl w.heap.size w)
  have c0 := (Ws.box (w := w) #[.int .i64 key] 3).c 0 (.int .i64 key) rfl
  have b1 := balloc (.cells #[.int .i64 0, .int .i64 0, .int .i64 0, .int .i64 0, .int .i64 0, .slice none 0 0] 91) b0
  have c1 := keep_alloc (.cells #[.int .i64 0, .int .i64 0, .int .i64 0, .int .i64 0, .int .i64 0, .slice none 0 0] 91) c0
  have X := Ws.box (w := w.alloc (.cells #[.int .i64 key] 3)) #[.int .i64 0, .int .i64 0, .int .i64 0, .int .i64 0, .int .i64 0, .slice none 0 0] 91
  have hs : (w.alloc (.cells #[.int .i64 key] 3)).heap.size = w.heap.size + 1 := by simp [go_sem]
  rw [hs] at X
  clear hs c0 b0
  go_enter Tryz.func71, Tryz.ntmps71
  go_upto_region 1 with fail
  generalize (w.alloc (.cells #[.int .i64 key] 3)).alloc (.cells #[.int .i64 0, .int .i64 0, .int .i64 0, .int .i64 0, .int .i64 0, .slice none 0 0] 91) = u at *
  have hR : w.heap.size ≤ w.heap.size + 1 := by omega
  generalize w.heap.size + 1 = R at *
  go_upto_region 2 with (go_at_call 138; refine (Plfidx_any a len cap F key _ _ (hSl.below b1) hl c1).mono ?_; rintro e w1 ⟨rfl, k1⟩)
  have B1 := btrans b1 k1
  have X1 := X.below k1
  have d0 := X1.c 0 (.int .i64 0) rfl
  have z0 := X1.z 0
  have d1 := X1.c 1 (.int .i64 0) rfl
  have z1 := X1.z 1
  have d2 := X1.c 2 (.int .i64 0) rfl
  have z2 := X1.z 2
  have d3 := X1.c 3 (.int .i64 0) rfl
  have z3 := X1.z 3
  have d4 := X1.c 4 (.int .i64 0) rfl
  have z4 := X1.z 4
  have d5 := X1.c 5 (.slice none 0 0) rfl
  have z5 := X1.z 5
  have h1 := (hSl.below b1).below k1
  clear X c1 hSl
  cases ef : nfd len (fun k => (F k).n) key with
  | none =>
    clear X1
    simp only [fndI]
    go_wp2
    try simp only [Exit.inBlock, Exit.then]
    exact bodyPost_ret (v := .tuple #[.agg #[.int .i64 0, .int .i64 0, .int .i64 0, .int .i64 0, .int .i64 0, .slice none 0 0], .bool false]) (by simp [results, Tryz.results71, go_sem, d0, d1, d2, d3, d4, d5]) rfl ⟨.inl ⟨ef, rfl⟩, ((((((B1.setCell (p := ⟨R, 0, none⟩) hR _).setCell (p := ⟨R, 1, none⟩) hR _).setCell (p := ⟨R, 2, none⟩) hR _).setCell (p := ⟨R, 3, none⟩) hR _).setCell (p := ⟨R, 4, none⟩) hR _).setCell (p := ⟨R, 5, none⟩) hR _)⟩
  | some k =>
    obtain ⟨hk, hn⟩ := nfd_at ef
    obtain ⟨b, off, rfl, hbl, hf⟩ := h1 (by omega)
    obtain ⟨f0, f1, f2, f3, f4, f5⟩ := hf k hk
    have i0 : (0 : Int) ≤ (k : Int) := by omega
    have i1 : (k : Int) < (len : Int) := by omega
    have hx : Hid (∀ e, e = .returned (.tuple #[.agg #[.int .i64 (F k).n, .int .i64 (F k).x, .int .i64 (F k).y, .int .i64 (F k).h, .int .i64 (F k).e, .slice (F k).ba (F k).bl (F k).bc], .bool true]) → PlFd e len F key) := fun e he => .inr ⟨k, ef, hk, hn, he⟩
    clear ef hn X1
    simp only [fndI]
    generalize F k = x at *
    obtain ⟨n, x, y, h, e, ba, bl, bc, bf⟩ := x
    dsimp only at f0 f1 f2 f3 f4 f5 hx
    go_wp2
    try simp only [Exit.inBlock, Exit.then]
    exact bodyPost_ret (v := .tuple #[.agg #[.int .i64 n, .int .i64 x, .int .i64 y, .int .i64 h, .int .i64 e, .slice ba bl bc], .bool true]) (by simp [results, Tryz.results71, go_sem, d0, d1, d2, d3, d4, d5]) rfl ⟨hx.out _ rfl, ((((((B1.setCell (p := ⟨R, 0, none⟩) hR _).setCell (p := ⟨R, 1, none⟩) hR _).setCell (p := ⟨R, 2, none⟩) hR _).setCell (p := ⟨R, 3, none⟩) hR _).setCell (p := ⟨R, 4, none⟩) hR _).setCell (p := ⟨R, 5, none⟩) hR _)⟩
def o170_1 : Array Oper := #[{ dst := some 4, op := Go.Op.load 97 (Go.Operand.tmp 2), type := 97, pos := "l21_node.go:114", after := #[], guard := none }, { dst := some 5, op := Go.Op.makeInterface 97 (Go.Operand.tmp 4), type := 20, pos := "l21_node.go:114", after := #[{ on := 0, ground := Go.Ground.data }], guard := none }, { dst := some 6, op := Go.Op.call { callee := Go.Callee.invoke (Go.Operand.tmp 5) "loop.example/lightship/impl.key", args := #[], argTypes := #[] }, type := 3, pos := "l21_node.go:114", after := #[{ on := 1, ground := Go.Ground.data }], guard := none }, { dst := some 7, op := Go.Op.load 3 (Go.Operand.tmp 1), type := 3, pos := "l21_node.go:114", after := #[], guard := none }, { dst := some 8, op := Go.Op.binOp Go.BinOp.eql 3 (Go.Operand.tmp 6) (Go.Operand.tmp 7) 3, type := 4, pos := "l21_node.go:114", after := #[{ on := 2, ground := Go.Ground.data }, { on := 3, ground := Go.Ground.data }], guard := none }, { dst := some 3, op := Go.Op.assign (Go.Operand.tmp 8), type := 4, pos := "l21_node.go:114", after := #[{ on := 4, ground := Go.Ground.data }, { on := 2, ground := Go.Ground.chain }, { on := 0, ground := Go.Ground.phase }, { on := 1, ground := Go.Ground.phase }, { on := 2, ground := Go.Ground.phase }, { on := 3, ground := Go.Ground.phase }, { on := 4, ground := Go.Ground.phase }], guard := none }]
theorem fo170_1 : FreeN .any o170_1 6 := ⟨⟨by kernel_rfl⟩, by kernel_rfl⟩
theorem o170_1_0 : o170_1[0]? = some { dst := some 4, op := Go.Op.load 97 (Go.Operand.tmp 2), type := 97, pos := "l21_node.go:114", after := #[], guard := none } := rfl
theorem o170_1_1 : o170_1[1]? = some { dst := some 5, op := Go.Op.makeInterface 97 (Go.Operand.tmp 4), type := 20, pos := "l21_node.go:114", after := #[{ on := 0, ground := Go.Ground.data }], guard := none } := rfl
theorem o170_1_2 : o170_1[2]? = some { dst := some 6, op := Go.Op.call { callee := Go.Callee.invoke (Go.Operand.tmp 5) "loop.example/lightship/impl.key", args := #[], argTypes := #[] }, type := 3, pos := "l21_node.go:114", after := #[{ on := 1, ground := Go.Ground.data }], guard := none } := rfl
theorem o170_1_3 : o170_1[3]? = some { dst := some 7, op := Go.Op.load 3 (Go.Operand.tmp 1), type := 3, pos := "l21_node.go:114", after := #[], guard := none } := rfl
theorem o170_1_4 : o170_1[4]? = some { dst := some 8, op := Go.Op.binOp Go.BinOp.eql 3 (Go.Operand.tmp 6) (Go.Operand.tmp 7) 3, type := 4, pos := "l21_node.go:114", after := #[{ on := 2, ground := Go.Ground.data }, { on := 3, ground := Go.Ground.data }], guard := none } := rfl
theorem o170_1_5 : o170_1[5]? = some { dst := some 3, op := Go.Op.assign (Go.Operand.tmp 8), type := 4, pos := "l21_node.go:114", after := #[{ on := 4, ground := Go.Ground.data }, { on := 2, ground := Go.Ground.chain }, { on := 0, ground := Go.Ground.phase }, { on := 1, ground := Go.Ground.phase }, { on := 2, ground := Go.Ground.phase }, { on := 3, ground := Go.Ground.phase }, { on := 4, ground := Go.Ground.phase }], guard := none } := rfl
set_option maxRecDepth 20000 in
theorem Fgfclo_lit (n : Int) (ba : Option Addr) (bl bc : Nat) (key : Int) (pk : Nat) (b : Bool) (hb : (n == key) = b) (w : World) (hp : w.cell? ⟨pk, 0, none⟩ = some (.int .i64 key)) :
    Calls Tryz.prog 170 #[.agg #[.int .i64 n, .slice ba bl bc], .pointer (some ⟨pk, 0, none⟩)] w fun r w' => r = .returned (.bool b) ∧ Below w.heap.size w w' := by
  have hm : ∀ (n : Int) (ba : Option Addr) (bl bc : Nat) (w : World), (method 298 97 (.agg #[.int .i64 n, .slice ba bl bc]) "loop.example/lightship/impl.key").run Tryz.prog w = .ok (196, .agg #[.int .i64 n, .slice ba bl bc]) w := fun _ _ _ _ _ => by kernel_rfl
  have b0 := balloc (.cells #[.int .i64 n, .slice ba bl bc] 97) (Below.refl w.heap.size w)
  have X := Ws.box (w := w) #[.int .i64 n, .slice ba bl bc] 97
  have cp := keep_alloc (.cells #[.int .i64 n, .slice ba bl bc] 97) hp
  have c0 := X.c 0 (.int .i64 n) rfl
  have c1 := X.c 1 (.slice ba bl bc) rfl
  have hq : Hid ((n == key) = b) := hb
  go_enter Tryz.func170, Tryz.ntmps170
  go_upto_region 1 with fail
  generalize w.alloc (.cells #[.int .i64 n, .slice ba bl bc] 97) = u at *
  clear hb X hp
  refine wp_region_m (S := (fun w' => w'.cell? ⟨w.heap.size, 0, none⟩ = some (.int .i64 n) ∧ w'.cell? ⟨w.heap.size, 1, none⟩ = some (.slice ba bl bc) ∧ w'.cell? ⟨pk, 0, none⟩ = some (.int .i64 key) ∧ Below w.heap.size w w')) o170_1 6 fo170_1 ?_ (fun hHeld => ?_)
  · (try dsimp only); exact ⟨keep_drew c0, keep_drew c1, keep_drew cp, b0.drew⟩
  refine stY fo170_1 o170_1_0 1 ?_
  (try simp only [putQ])
  refine stY fo170_1 o170_1_1 3 ?_
  (try simp only [putQ])
  refine stY fo170_1 o170_1_3 11 ?_
  (try simp only [putQ])
  refine stC fo170_1 o170_1_2 15 (fun K hK => ?_)
  go_simp
  refine (Fgkey_any n ba bl bc _).mono ?_; rintro r w1 ⟨rfl, k1⟩
  go_wp2_with fail
  refine hK.out _ _ ?_ (fun hHeld => ?_)
  · (try dsimp only); exact ⟨keep_below k1 hHeld.1, keep_below k1 hHeld.2.1, keep_below k1 hHeld.2.2.1, btrans hHeld.2.2.2 k1⟩
  clear hK K
  (try simp only [putQ])
  refine stY fo170_1 o170_1_4 31 ?_
  (try simp only [putQ])
  refine stY fo170_1 o170_1_5 63 ?_
  (try simp only [putQ])
  refine wpAnyH_done (by kernel_rfl) ?_ _
  rw [hq.out]
  go_wp2
  go_ret
  exact ⟨rfl, hHeld.2.2.2⟩
set_option maxRecDepth 20000 in
set_option maxHeartbeats 1000000 in
theorem Fgfidx_any (a : Option Addr) (len cap : Nat) (F : Nat → Fg) (key : Int) (pk : Nat) (w : World) (hSl : FgSl w a len F) (hl : len ≤ 1048576) (hp : w.cell? ⟨pk, 0, none⟩ = some (.int .i64 key)) :
    Calls Tryz.prog 169 #[.slice a len cap, .func (.func 170) #[] #[.pointer (some ⟨pk, 0, none⟩)]] w fun e w' => e = .returned (.int .i64 (fndI (nfd len (fun k => (F k).n) key))) ∧ Below w.heap.size w w' := by
  go_enter Tryz.func169, Tryz.ntmps169
  go_wp2
  go_loopw [5, 8] (fun _ i wr => ∃ k : Nat, k ≤ len ∧ i = .int .i64 k ∧ Below w.heap.size w wr ∧ (∀ j, j < k → (F j).n ≠ key)) (fun _ i _ => len - (intOf i).toNat)
  case atStart => exact ⟨0, by omega, rfl, Below.refl _ _, fun j h1 => by omega⟩
  case round =>
    obtain ⟨k, hk, rfl, hb, hall⟩ := hrel
    by_cases hlt : k < len
    · obtain ⟨b, off, rfl, hbl, hf⟩ := hSl (by omega)
      obtain ⟨c0, c1⟩ := (hf.below hb hbl) k hlt
      have i0 : (0 : Int) ≤ (k : Int) := by omega
      have i1 : (k : Int) < (len : Int) := by omega
      have hpr := keep_below hb hp
      have hyes : Hid ((F k).n ≠ key → ∀ j, j < k + 1 → (F j).n ≠ key) := fun e j hj => by
        by_cases ej : j = k
        · subst ej; exact e
        · exact hall j (by omega)
      have hit : Hid ((F k).n = key → nfd len (fun k => (F k).n) key = some k) := fun e => nfd_some hall hlt e
      clear hall
      generalize F k = x at *
      obtain ⟨n, ba, bl, bc, bf⟩ := x
      dsimp only at c0 c1 hyes hit
      cases ho : (n == key)
      · have ho' : Hid ((n == key) = false) := ho
        clear ho
        go_wp2_with (go_at_call 170; refine (Fgfclo_lit n ba bl bc key pk false ho'.out _ hpr).mono ?_; rintro e w1 ⟨rfl, b1⟩)
        go_roundw
        case rel => exact ⟨k + 1, by omega, by go_num, btrans hb b1, hyes.out (by simpa using ho'.out)⟩
        case measure => simp [intOf]; omega
      · have ho' : Hid ((n == key) = true) := ho
        clear ho
        go_wp2_with (go_at_call 170; refine (Fgfclo_lit n ba bl bc key pk true ho'.out _ hpr).mono ?_; rintro e w1 ⟨rfl, b1⟩)
        go_ret
        exact ⟨by rw [hit.out (by simpa using ho'.out)]; rfl, btrans hb b1⟩
    · go_wp2
      go_ret
      exact ⟨by rw [nfd_none fun j hj => hall j (by omega)]; rfl, hb⟩
/-- what find answers -/
def FgFd (e : Ending) (len : Nat) (F : Nat → Fg) (key : Int) : Prop :=
  (nfd len (fun k => (F k).n) key = none ∧ e = .returned (.tuple #[.agg #[.int .i64 0, .slice none 0 0], .bool false])) ∨ ∃ k, nfd len (fun k => (F k).n) key = some k ∧ k < len ∧ (F k).n = key ∧ e = .returned (.tuple #[.agg #[.int .i64 (F k).n, .slice (F k).ba (F k).bl (F k).bc], .bool true])
set_option maxRecDepth 20000 in
set_option maxHeartbeats 1000000 in
theorem Fgfind_any (a : Option Addr) (len cap : Nat) (F : Nat → Fg) (key : Int) (w : World) (hSl : FgSl w a len F) (hl : len ≤ 1048576) :
    Calls Tryz.prog 142 #[.slice a len cap, .int .i64 key] w fun e w' => FgFd e len F key ∧ Below w.heap.size w w' := by
  have b0 := balloc (.cells #[.int .i64 key] 3) (Below.refl w.heap.size w)
  have c0 := (Ws.box (w := w) #[.int .i64 key] 3).c 0 (.int .i64 key) rfl
  have b1 := balloc (.cells #[.int .i64 0, .slice none 0 0] 97) b0
  have c1 := keep_alloc (.cells #[.int .i64 0, .slice none 0 0] 97) c0
  have X := Ws.box (w := w.alloc (.cells #[.int .i64 key] 3)) #[.int .i64 0, .slice none 0 0] 97
  have hs : (w.alloc (.cells #[.int .i64 key] 3)).heap.size = w.heap.size + 1 := by simp [go_sem]
  rw [hs] at X
  clear hs c0 b0
  go_enter Tryz.func142, Tryz.ntmps142
  go_upto_region 1 with fail
  generalize (w.alloc (.cells #[.int .i64 key] 3)).alloc (.cells #[.int .i64 0, .slice none 0 0] 97) = u at *
  have hR : w.heap.size ≤ w.heap.size + 1 := by omega
  generalize w.heap.size + 1 = R at *
  go_upto_region 2 with (go_at_call 169; refine (Fgfidx_any a len cap F key _ _ (hSl.below b1) hl c1).mono ?_; rintro e w1 ⟨rfl, k1⟩)
  have B1 := btrans b1 k1
  have X1 := X.below k1
  have d0 := X1.c 0 (.int .i64 0) rfl
  have z0 := X1.z 0
  have d1 := X1.c 1 (.slice none 0 0) rfl
  have z1 := X1.z 1
  have h1 := (hSl.below b1).below k1
  clear X c1 hSl
  cases ef : nfd len (fun k => (F k).n) key with
  | none =>
    clear X1
    simp only [fndI]
    go_wp2
    try simp only [Exit.inBlock, Exit.then]
    exact bodyPost_ret (v := .tuple #[.agg #[.int .i64 0, .slice none 0 0], .bool false]) (by simp [results, Tryz.results142, go_sem, d0, d1]) rfl ⟨.inl ⟨ef, rfl⟩, ((B1.setCell (p := ⟨R, 0, none⟩) hR _).setCell (p := ⟨R, 1, none⟩) hR _)⟩
  | some k =>
    obtain ⟨hk, hn⟩ := nfd_at ef
    obtain ⟨b, off, rfl, hbl, hf⟩ := h1 (by omega)
    obtain ⟨f0, f1⟩ := hf k hk
    have i0 : (0 : Int) ≤ (k : Int) := by omega
    have i1 : (k : Int) < (len : Int) := by omega
    have hx : Hid (∀ e, e = .returned (.tuple #[.agg #[.int .i64 (F k).n, .slice (F k).ba (F k).bl (F k).bc], .bool true]) → FgFd e len F key) := fun e he => .inr ⟨k, ef, hk, hn, he⟩
    clear ef hn X1
    simp only [fndI]
    generalize F k = x at *
    obtain ⟨n, ba, bl, bc, bf⟩ := x
    dsimp only at f0 f1 hx
    go_wp2
    try simp only [Exit.inBlock, Exit.then]
    exact bodyPost_ret (v := .tuple #[.agg #[.int .i64 n, .slice ba bl bc], .bool true]) (by simp [results, Tryz.results142, go_sem, d0, d1]) rfl ⟨hx.out _ rfl, ((B1.setCell (p := ⟨R, 0, none⟩) hR _).setCell (p := ⟨R, 1, none⟩) hR _)⟩
end Go.Proofs.YtnplhfgdbabmaaaGreat
