import Derived.Test.YtfibbjngllelbaaGreatKys
import Derived.Test.YtfibbjngllelbaaGreatFaces
import Derived.Test.YtfibbjngllelbaaGreatNpt
import Derived.Deep.RegionHeld3
namespace Go.Proofs.YtfibbjngllelbaaGreat
open Go.RowKit Go.Proofs.YtfibbjngllelbaaGreat.Ds
open Go.Maps (Keyed int_keyed string_keyed keyOf_int_mk)
open Go.WideMaps (keyOf_string_mk)

theorem gb_refl (w : World) (r : Option Nat) : w.grownBy w r := World.grownBy.refl w r
theorem gb_trans {a b c : World} {r : Option Nat} (h : a.grownBy b r) (k : b.grownBy c r) : a.grownBy c r :=
  ⟨k.os.trans h.os, k.tape.trans h.tape, k.output.trans h.output, Nat.le_trans h.size k.size, fun i hi hr => (k.block i (Nat.lt_of_lt_of_le hi h.size) hr).trans (h.block i hi hr)⟩
theorem gb_alloc {a b : World} {r : Option Nat} (h : a.grownBy b r) (o : Obj) : a.grownBy (b.alloc o) r := gb_trans h (World.grownBy_alloc b o r)
theorem gb_drew {a b : World} {r : Option Nat} (h : a.grownBy b r) : a.grownBy b.drew r := ⟨h.os, h.tape, h.output, h.size, h.block⟩
theorem gb_set {a b : World} {E : Nat} (h : a.grownBy b (some E)) (k : Nat) (u : Value) : a.grownBy (b.setCell ⟨E, k, none⟩ u) (some E) :=
  gb_trans h ⟨rfl, rfl, rfl, by simp [World.setCell], fun i _ hr => Below.heap_setCell _ _ _ _ (by intro e; exact hr (by rw [e]))⟩
theorem gb_new {a b : World} {r : Option Nat} (h : a.grownBy b r) {p : Addr} (hp : a.heap.size ≤ p.block) (u : Value) : a.grownBy (b.setCell p u) r :=
  ⟨h.os, h.tape, h.output, by simpa [World.setCell] using h.size, fun i hi hr => (Below.heap_setCell _ _ _ _ (by omega)).trans (h.block i hi hr)⟩
theorem gb_below {a b : World} {r : Option Nat} (h : Below a.heap.size a b) : a.grownBy b r := ⟨h.os, h.tape, h.output, h.size, fun k hk _ => h.block k hk⟩
theorem below_gb {a b : World} {E B : Nat} (h : a.grownBy b (some E)) (hB : B ≤ E) (hE : B ≤ a.heap.size) : Below B a b := ⟨h.os, h.tape, h.output, h.size, fun k hk => h.block k (by omega) (by simp; omega)⟩
theorem Ints.gbk {w w' : World} {B nb : Nat} {v : Value} {xs : List Int} (h : Ints w B nb v xs) (hg : w.grownBy w' (some nb)) : Ints w' B nb v xs := by
  obtain ⟨a, c, hv, hc, hl, hx⟩ := h
  refine ⟨a, c, hv, hc, hl, fun hne => ?_⟩
  obtain ⟨b, o, ha, hB, hn, hcell⟩ := hx hne
  exact ⟨b, o, ha, hB, hn, fun i x hi => hg.cell (hcell i x hi) (by simpa using hn)⟩
theorem Ints.get {w : World} {B nb : Nat} {a : Option Addr} {n c : Nat} {xs : List Int} (h : Ints w B nb (.slice a n c) xs) {i : Nat} (hi : i < xs.length) :
    ∃ b o x, a = some ⟨b, o, none⟩ ∧ b < B ∧ xs[i]? = some x ∧ w.cell? ⟨b, o + i, none⟩ = some (.int .i64 x) := by
  obtain ⟨a', c', hv, _, _, hx⟩ := h
  simp only [Value.slice.injEq] at hv
  obtain ⟨rfl, rfl, rfl⟩ := hv
  obtain ⟨b, o, ha, hb, _, hcell⟩ := hx (ne_of_lt hi)
  obtain ⟨x, hx⟩ := get_lt hi
  exact ⟨b, o, x, ha, hb, hx, hcell i x hx⟩
theorem ints_of_owns {w : World} {base nb : Nat} {v : Value} {xs : List Int} {n : Nat} (hn : n = xs.length) (hl : xs.length ≤ 9223372036854775807) (h : w.ownsRow base 3 1 v n (xs.map (.int .i64))) (hnb : nb < base) : Ints w w.heap.size nb v xs := by
  subst hn
  obtain ⟨_, ⟨hv, h0⟩ | ⟨g, cap, cur, hv, hb, hcur, hc, _, hsz, hx⟩⟩ := h
  · obtain rfl : xs = [] := by cases xs <;> simp_all
    exact ⟨none, 0, hv, Nat.le_refl _, hl, fun h => absurd rfl h⟩
  · refine ⟨_, cap, hv, hc, hl, fun _ => ⟨g, 0, rfl, (Array.getElem?_eq_some_iff.1 hcur).1, by omega, fun i x hi => ?_⟩⟩
    have hi2 : i < xs.length := (List.getElem?_eq_some_iff.1 hi).1
    have : cur[i]? = some (.int .i64 x) := by
      have h1 : (xs.map (Value.int .i64))[i]? = some (.int .i64 x) := by simp [hi]
      rw [← hx, List.getElem?_take_of_lt (by omega)] at h1
      simpa using h1
    simp [World.cell?, hcur, this]

/-- a block with two cells -/
structure TwoB (w : World) (R : Nat) (x y : Value) : Prop where
  c0 : w.cell? ⟨R, 0, none⟩ = some x
  c1 : w.cell? ⟨R, 1, none⟩ = some y
  f0 : w.frozen? ⟨R, 0, none⟩ = false
  f1 : w.frozen? ⟨R, 1, none⟩ = false
  lt : R < w.heap.size
theorem TwoB.below {w w' : World} {R : Nat} {x y : Value} (h : TwoB w R x y) (b : Below w.heap.size w w') : TwoB w' R x y :=
  ⟨(b.cell (p := ⟨R, 0, none⟩) h.lt).trans h.c0, (b.cell (p := ⟨R, 1, none⟩) h.lt).trans h.c1, (b.frozen (p := ⟨R, 0, none⟩) h.lt).trans h.f0, (b.frozen (p := ⟨R, 1, none⟩) h.lt).trans h.f1, Nat.lt_of_lt_of_le h.lt b.size⟩
theorem TwoB.new (w : World) (x y : Value) (t : TypeId) (N : Nat) (hN : N = w.heap.size) : TwoB (w.alloc (.cells #[x, y] t)) N x y :=
  ⟨nc _ _ 0 _ hN rfl, nc _ _ 1 _ hN rfl, nf _ _ 0 hN, nf _ _ 1 hN, by simp; omega⟩
theorem TwoB.put {w : World} {R : Nat} {x y : Value} (h : TwoB w R x y) (u v : Value) : TwoB ((w.setCell ⟨R, 0, none⟩ u).setCell ⟨R, 1, none⟩ v) R u v := by
  have h0 : TwoB (w.setCell ⟨R, 0, none⟩ u) R u y := ⟨sc_same h.c0, (sc_other (by simp)).trans h.c1, sc_frozen.trans h.f0, sc_frozen.trans h.f1, by simpa using h.lt⟩
  exact ⟨(sc_other (by simp)).trans h0.c0, sc_same h0.c1, sc_frozen.trans h0.f0, sc_frozen.trans h0.f1, by simpa using h0.lt⟩

/-! ### the map of parts -/
/-- a value in a map is that value -/
def hR : Value → Option (DataW Value × List MemPlace) := fun v => some (.held v, [])
theorem law3 : Keyed Tryz.prog 3 := int_keyed Tryz.underlying3
theorem law9 : Keyed Tryz.prog 9 := string_keyed Tryz.underlying9
theorem zero31 (w : World) : (zeroValue 35).run Tryz.prog w = .ok (rv 0 0) w := by kernel_rfl
abbrev rvq (r : Rq) : Value := rv r.1 r.2
abbrev pv (b a : Rq) (m : Nat) : Value := .agg #[.int .i64 b.1, .int .i64 b.2, .int .i64 a.1, .int .i64 a.2, .map (some m)]
theorem zero60 (w : World) : (zeroValue 63).run Tryz.prog w = .ok (.agg #[.int .i64 0, .int .i64 0, .int .i64 0, .int .i64 0, .map none]) w := by kernel_rfl

structure Pts (w : World) (b n : Nat) (D : DataW Value) (P : Int → Prop) (f : Int → Rq) : Prop where
  own : w.ownsMap Tryz.prog 3 hR b n D
  is : ∀ z, Maps.has D (.int .i64 z) = true ↔ P z
  el : ∀ z, P z → D.atKey (.int .i64 z) (.held (rv 0 0)) = .held (rvq (f z))
  rng : ∀ z, P z → 0 ≤ z ∧ z ≤ 1073741824
theorem gb_none {w w' : World} (h : Below w.heap.size w w') : w.grownBy w' none := gb_below h
theorem Pts.gb {w w' : World} {b n : Nat} {D : DataW Value} {P : Int → Prop} {f : Int → Rq} {r : Option Nat} (h : Pts w b n D P f) (hg : w.grownBy w' r) (hne : some b ≠ r) : Pts w' b n D P f :=
  ⟨h.own.kept hg hne, h.is, h.el, h.rng⟩
theorem Pts.keep {w w' : World} {b n : Nat} {D : DataW Value} {P : Int → Prop} {f : Int → Rq} (h : Pts w b n D P f) (hb : Below w.heap.size w w') : Pts w' b n D P f := h.gb (gb_none hb) (by simp)
theorem Pts.look {w : World} {b n : Nat} {D : DataW Value} {P : Int → Prop} {f : Int → Rq} (h : Pts w b n D P f) {z : Int} (hz : P z) :
    (Instr.lookup 61 (.map (some b)) (.int .i64 z) false).run Tryz.prog w = .ok (rvq (f z)) w := by
  have hwf : (Lit.int .i64 z).wf = true := WalkArith.wf_i64 (by have := h.rng z hz; omega)
  obtain ⟨v', ps, hrun, hat⟩ := h.own.lookup law3 Tryz.underlying61 (zero31 w) (zd := .held (rv 0 0)) (zp := []) rfl (keyOf_int_mk Tryz.underlying3 hwf)
  rw [h.el z hz] at hat
  simp [hR] at hat
  rw [hrun, hat.1]

theorem one_any (w : World) : Calls Tryz.prog 42 #[] w fun e w' => e = .returned (rv 1 1) ∧ Below w.heap.size w w' := by
  go_enter Tryz.func42, Tryz.ntmps42
  go_wp2
  exact bodyPost_ret (v := rv 1 1) (by simp [results, Tryz.results42, go_sem]) rfl ⟨rfl, ba _ _⟩

theorem more_any (a b : Rq) (ha : OkR a) (hb : OkR b) (r : Bool) (hr : decide (LeR a b) = !r) (w : World) : Calls Tryz.prog 45 #[rvq a, rvq b] w fun e w' => e = .returned (.bool r) ∧ Below w.heap.size w w' := by
  have h := order_any a.1 a.2 b.1 b.2
  cases r with
  | true =>
    have h1 : Rt.orderT a.1 a.2 b.1 b.2 = (1, 0) := by
      have : ¬ LeR a b := of_decide_eq_false hr
      unfold LeR at this
      unfold Rt.orderT; rw [if_pos ⟨ha.1, hb.1⟩, if_neg (by omega), if_pos (by omega)]
    have k := h 1 0 h1
    clear h h1 hr
    go_enter Tryz.func45, Tryz.ntmps45
    go_wp2_with fail
    refine (k _).mono ?_
    rintro e w1 ⟨rfl, hb1⟩
    go_wp2
    go_ret
    exact ⟨rfl, bt (bal (ba _ _) _) hb1⟩
  | false =>
    obtain ⟨k0, hk0, h1⟩ : ∃ k0 : Int, k0 ≤ 0 ∧ Rt.orderT a.1 a.2 b.1 b.2 = (k0, 0) := by
      have : LeR a b := of_decide_eq_true hr
      unfold LeR at this
      unfold Rt.orderT; rw [if_pos ⟨ha.1, hb.1⟩]
      by_cases c : a.1 * b.2 < b.1 * a.2
      · exact ⟨-1, by omega, by rw [if_pos c]⟩
      · exact ⟨0, by omega, by rw [if_neg c, if_neg (by omega)]⟩
    have k := h k0 0 h1
    clear h h1 hr
    go_enter Tryz.func45, Tryz.ntmps45
    go_wp2_with fail
    refine (k _).mono ?_
    rintro e w1 ⟨rfl, hb1⟩
    go_wp2
    have hd : decide (0 < k0) = false := decide_eq_false (by omega)
    go_ret
    exact ⟨by simp [hd], bt (bal (ba _ _) _) hb1⟩
end Go.Proofs.YtfibbjngllelbaaGreat
