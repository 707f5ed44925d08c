/- Leaving: what a node says, by the program. -/
import Derived.Test.YtgcdcfjaeehnbaaGreatLv1
import Derived.Test.YtgcdcfjaeehnbaaGreatLv2
namespace Go.Proofs.YtgcdcfjaeehnbaaGreat
open Go.ChangeShapes Go.WideShapes Go.ChangeAt Go.RowKit
attribute [local go_sem ↓] Go.wp_at_zero Go.wp_at_succ
set_option maxRecDepth 20000
set_option maxHeartbeats 8000000
structure Am (w : World) (base g : Nat) (cs : List Value) (n : Nod) (ws : List Wo) (v1 v2 v3 v4 v5 vw : Value) (sD sP sO sW : Nat → Value) : Prop where
 box : Ws w g cs
 ty : BoxT w g 76
 nd : NdO w base n v1 v2 v3 v4 v5 sD sP sO
 wd : WdO w base ws vw sW
section
variable {w w' : World} {base g : Nat} {cs : List Value} {n : Nod} {dr : Int} {ws : List Wo} {v1 v2 v3 v4 v5 vw : Value} {sD sP sO sW : Nat → Value}
theorem Ag.am (h : Ag w base g n dr ws v1 v2 v3 v4 v5 vw sD sP sO sW) : Am w base g (agC n v1 v2 v3 v4 v5 dr vw) n ws v1 v2 v3 v4 v5 vw sD sP sO sW := ⟨h.box, h.ty, h.nd, h.wd⟩
theorem Am.below (h : Am w base g cs n ws v1 v2 v3 v4 v5 vw sD sP sO sW) (k : Below w.heap.size w w') : Am w' base g cs n ws v1 v2 v3 v4 v5 vw sD sP sO sW := ⟨h.box.below k, h.ty.below k, h.nd.below k, h.wd.below k⟩
theorem Am.set (h : Am w base g cs n ws v1 v2 v3 v4 v5 vw sD sP sO sW) (k : Nat) (hk : k < cs.length) (v : Value) : Am (w.setCell ⟨g, k, none⟩ v) base g (cs.set k v) n ws v1 v2 v3 v4 v5 vw sD sP sO sW := by
 have ms : Mw (fun y => y = g) w (w.setCell ⟨g, k, none⟩ v) := (Mw.refl _ _).set rfl
 exact ⟨h.box.set k hk v, h.ty.set, h.nd.mw ms (h.nd.ng h.ty), h.wd.mw ms (h.wd.ng h.ty)⟩
theorem Am.row {e : TypeId} {size m B : Nat} {u x : Value} {xs : List Value} {k : Nat} (h : Am w base g cs n ws v1 v2 v3 v4 v5 vw sD sP sO sW) (o : w.ownsRow B e size u m xs) (he : e ≠ 76 := by decide) : (w.setCell ⟨g, k, none⟩ x).ownsRow B e size u m xs := own_mw o ((Mw.refl (fun y => y = g) _).set rfl) (own_boxT o h.ty he)
theorem Ag.anew {w0 : World} {T' : List Fc} {C' : List It} {u1 u2 u3 : Value} (h0 : Ag w0 base g n dr ws v1 v2 v3 v4 v5 vw sD sP sO sW) (hb : base ≤ w0.heap.size)
  (h : Am w base g (agC {n with T := T', C := C'} u1 u2 u3 v4 v5 dr vw) n ws v1 v2 v3 v4 v5 vw sD sP sO sW) (o1 : w.ownsRow w0.heap.size 96 4 u1 T'.length (rv (fv (tF T')) (T'.length * 4))) (o2 : w.ownsRow w0.heap.size 127 5 u2 C'.length (rv (tv (cF C')) (C'.length * 5))) (o3 : w.ownsRow w0.heap.size 121 4 u3 n.D.length (rv (dR n.D sD) (n.D.length * 4)))
  (ht : T'.length ≤ 1048576) (hc : C'.length ≤ 1048576) : Ag w base g {n with T := T', C := C'} dr ws u1 u2 u3 v4 v5 vw sD sP sO sW := by
 have lo := h0.nd.lo
 have lw : ∀ j, j < ws.length → ∀ x, (sW j).ownBlock = some x → x < w0.heap.size := fun j hj x e => ((h0.wd.o.nest j hj).lt x e).2
 refine ⟨h.box, h.ty, h0.lo, ⟨own_mono hb o1, own_mono hb o2, ⟨own_mono hb o3, h.nd.d.at_, h.nd.d.nest, h.nd.d.apart⟩, h.nd.p, h.nd.o, h.nd.dp, fun j hj x e1 e2 => ?_, ht, hc, h.nd.hd, h.nd.hp, h.nd.ho, h.nd.hdn, h.nd.hpn, h.nd.hon⟩, h.wd, ?_⟩
 ·have q1 := (o1.lt x e1).1
  have q2 := (lo x (.inr (.inr (.inr (.inr (.inr ⟨j, hj, e2⟩)))))).2
  omega
 ·rintro x (q | q | (q | q) | q | q) hw
  ·rcases hw with r | ⟨j, hj, r⟩
   ·exact own_apart o1 h.wd.o.row (by decide) x q r
   ·have q1 := (o1.lt x q).1
    have q2 := lw j hj x r
    omega
  ·rcases hw with r | ⟨j, hj, r⟩
   ·exact own_apart o2 h.wd.o.row (by decide) x q r
   ·exact own_apart o2 (h.wd.o.nest j hj) (by decide) x q r
  ·rcases hw with r | ⟨j, hj, r⟩
   ·exact own_apart o3 h.wd.o.row (by decide) x q r
   ·exact own_apart o3 (h.wd.o.nest j hj) (by decide) x q r
  ·exact h0.nw x (.inr (.inr (.inl (.inr q)))) hw
  ·exact h0.nw x (.inr (.inr (.inr (.inl q)))) hw
  ·exact h0.nw x (.inr (.inr (.inr (.inr q)))) hw
end
def Said (w w' : World) (r : Ending) (base g : Nat) (n : Nod) (dr : Int) (ws : List Wo) (v4 v5 vw : Value) (sD sP sO sW : Nat → Value) : Prop := ∃ v1 v2 v3, r = .returned (.tuple #[]) ∧ Ag w' base g n dr ws v1 v2 v3 v4 v5 vw sD sP sO sW ∧ Mw (fun y => y = g) w w'
structure SayC (base : Nat) (n : Nod) (a1 : Option Addr) (c1 : Nat) (a2 : Option Addr) (c2 : Nat) (v3 : Value) (sD : Nat → Value) : Prop where
 fin : ∀ (u : World), FSl u a1 n.T.length (tF n.T) → Calls Tryz.prog 127 #[.slice a1 n.T.length c1, .int .i64 n.me] u fun e w' => e = .returned (.tuple #[.agg #[.int .i64 n.me, .int .i64 n.inc, .int .i64 1, .bool n.gate], .bool true]) ∧ Below u.heap.size u w'
 put : ∀ (u : World), FSl u a1 n.T.length (tF n.T) → Calls Tryz.prog 128 #[.slice a1 n.T.length c1, .agg #[.int .i64 n.me, .int .i64 n.inc, .int .i64 4, .bool n.gate]] u fun e w' => ∃ v, e = .returned (.tuple #[v, .bool true]) ∧ w'.ownsRow u.heap.size 96 4 v (lvS n).T.length (rv (fv (tF (lvS n).T)) ((lvS n).T.length * 4)) ∧ Below u.heap.size u w'
 cas : ∀ (u : World), TSl u a2 n.C.length (cF n.C) → Calls Tryz.prog 129 #[.slice a2 n.C.length c2, .agg #[.int .i64 n.me, .int .i64 n.inc, .int .i64 4, .bool n.gate]] u fun e w' => ∃ v, e = .returned v ∧ w'.ownsRow u.heap.size 127 5 v (lvS n).C.length (rv (tv (cF (lvS n).C)) ((lvS n).C.length * 5)) ∧ Below u.heap.size u w'
 wo : ∀ (u : World), OwD u base v3 n.D.length (dR n.D sD) sD (dN n.D) (dX n.D) → base ≤ u.heap.size → Calls Tryz.prog 130 #[v3, .int .i64 n.me] u fun r w' => WoR u w' r n.D sD
theorem say_con {base : Nat} {n : Nod} {a1 : Option Addr} {c1 : Nat} {a2 : Option Addr} {c2 : Nat} {v3 : Value} {sD : Nat → Value} (ok : LvOk n) (ht : n.T.length ≤ 1048576) (hc : n.C.length ≤ 1048576) (hd : n.D.length ≤ 1048576) : SayC base n a1 c1 a2 c2 v3 sD := by
 refine ⟨fun u q => ?_, fun u q => ?_, fun u q => ?_, fun u q q2 => without_no base n.D v3 sD n.me u q q2 hd ok.db⟩
 ·have := find_any a1 n.T.length c1 (tF n.T) n.me u q ht
  obtain ⟨j, e, _⟩ := ok.at
  rw [ok.own, e] at this
  exact this
 ·have := fput_any a1 n.T.length c1 (tF n.T) (lvF n) u q ht
  rw [ok.tq, ok.tp, fl_rv] at this
  exact this
 ·have := I.cput_any a2 n.C.length c2 (cF n.C) (lvF n) u q hc
  rw [ok.cp, il_rv] at this
  exact this
end Go.Proofs.YtgcdcfjaeehnbaaGreat
namespace Go.Proofs.YtgcdcfjaeehnbaaGreat
open Go.ChangeShapes Go.WideShapes Go.ChangeAt Go.RowKit
attribute [local go_sem ↓] Go.wp_at_zero Go.wp_at_succ
def ndC (n : Nod) (v1 v2 v3 v4 v5 : Value) : List Value := [.int .i64 n.me, .bool n.up, .bool n.gone, .bool n.gate, .int .i64 n.inc, .int .i64 n.now, .int .i64 n.sq, .int .i64 n.turn, v1, v2, .int .i64 n.pn, .int .i64 n.ps, .int .i64 n.pq, .bool n.pa, v3, .int .i64 n.cx, .int .i64 n.cy, .int .i64 n.ch, .int .i64 n.ce, v4, v5]
def ndL (n : Nod) (L : Loc) : List Value := ndC n (.slice L.ta n.T.length L.tc) (.slice L.ca n.C.length L.cc) (.slice L.da n.D.length L.dc) (.slice L.pla n.P.length L.plc) (.slice L.oa n.O.length L.oc)
theorem ndC_one {n : Nod} {v1 v2 v3 v4 v5 : Value} (h1 : v1.oneCell' = true) (h2 : v2.oneCell' = true) (h3 : v3.oneCell' = true) (h4 : v4.oneCell' = true) (h5 : v5.oneCell' = true) : ∀ u ∈ ndC n v1 v2 v3 v4 v5, u.oneCell' = true := by
 intro u hu
 simp only [ndC, List.mem_cons, List.not_mem_nil, or_false] at hu
 rcases hu with rfl | rfl | rfl | rfl | rfl | rfl | rfl | rfl | rfl | rfl | rfl | rfl | rfl | rfl | rfl | rfl | rfl | rfl | rfl | rfl | rfl
 all_goals (first | rfl | assumption)
section
variable {w w' : World} {base g : Nat} {n : Nod} {dr : Int} {ws : List Wo} {v1 v2 v3 v4 v5 vw : Value} {sD sP sO sW : Nat → Value}
theorem NdO.one (h : NdO w base n v1 v2 v3 v4 v5 sD sP sO) : ∀ u ∈ ndC n v1 v2 v3 v4 v5, u.oneCell' = true := ndC_one (sl_one (own_sl h.t)) (sl_one (own_sl h.c)) (sl_one (own_sl h.d.row)) (sl_one (own_sl h.p.row)) (sl_one (own_sl h.o.row))
theorem Ag.node (h : Ag w base g n dr ws v1 v2 v3 v4 v5 vw sD sP sO sW) : w.rangeAt g 0 (ndC n v1 v2 v3 v4 v5) := range_head (ys := [.int .i64 dr, vw]) h.box.range
theorem NdO.valC (h : NdO w base n v1 v2 v3 v4 v5 sD sP sO) : (.agg (ndC n v1 v2 v3 v4 v5).toArray : Value) = ndV n (locW v1 v2 v3 v4 v5 sD sP sO) := h.val
end
theorem box2 {w u : World} {c c' : Array Value} {t t' : TypeId} (h : (w.alloc (.cells c t)).alloc (.cells c' t') = u) : Ws u w.heap.size c.toList ∧ Ws u (w.heap.size + 1) c'.toList ∧ Below w.heap.size w u ∧ u.heap.size = w.heap.size + 1 + 1 := by
 obtain ⟨u', e, X, R, b, s⟩ := enter2 w c t c' t'
 have e' : u = u' := by rw [e.out, ← h]
 subst e'
 exact ⟨X, R, b, s⟩
theorem mST {Q : Exit → Act → World → Prop} {R : World → Act → World → Prop} {S : Nat → Prop} {w0 w : World} {g : Option (Nat × Bool)} {rs : List Stp} {a : Act} {b : Nat} {xs zs : List Value} {x y : Operand} (hR : Ws w b zs) (hz : zs.length = 21) (hx : xs.length = 21) (h1 : ∀ u ∈ xs, u.oneCell' = true) (hS : S b) (hb : Mw S w0 w) (h : ∀ w', Ws w' b xs → Mw (fun y => y = b) w w' → Mw S w0 w' → wpM Tryz.prog Q R S w0 rs a w') (e1 : a.eval x = .pointer (some ⟨b, 0, none⟩) := by rfl) (e2 : a.eval y = .agg xs.toArray := by rfl) (hw : wantG g a.tmps = true := by kernel_rfl) : wpM Tryz.prog Q R S w0 (⟨none, .store 42 x y, 0, g, 1⟩ :: rs) a w := by
 refine mC (fun K hK => ?_) hw
 refine wp_store_mid 42 _ _ rfl b 0 xs.toArray e1 e2 (hR.there (by rw [hz]; simp [hx])) (by rw [size43]; simp [hx]) (by simpa [Array.all_eq_true_iff_forall_mem] using h1) ?_
 have m : Mw (fun y => y = b) w (w.setCells b 0 xs.toArray.toList) := Mw.cells _
 have m2 : Mw S w0 (w.setCells b 0 xs.toArray.toList) := hb.trans (m.mono fun k e => by subst e; exact hS)
 exact hK.out _ _ m2 (.inl (h _ (hR.cells xs (by rw [hx, hz])) m m2))
theorem read_nd {w : World} {b : Nat} {xs : List Value} (h : Ws w b xs) (hx : xs.length = 21) : (loadVar 42 ⟨b, 0, none⟩).run Tryz.prog w = .ok (.agg xs.toArray) w := read43 (cs := xs.toArray) (by simpa using h.range) (by simp [hx])
def zN : List Value := [.int .i64 0, .bool false, .bool false, .bool false, .int .i64 0, .int .i64 0, .int .i64 0, .int .i64 0, .slice none 0 0, .slice none 0 0, .int .i64 0, .int .i64 0, .int .i64 0, .bool false, .slice none 0 0, .int .i64 0, .int .i64 0, .int .i64 0, .int .i64 0, .slice none 0 0, .slice none 0 0]
end Go.Proofs.YtgcdcfjaeehnbaaGreat
