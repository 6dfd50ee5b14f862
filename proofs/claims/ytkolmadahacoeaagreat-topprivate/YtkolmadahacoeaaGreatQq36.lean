import Derived.Test.YtkolmadahacoeaaGreatQq35
import Derived.Test.YtkolmadahacoeaaGreatQq19
import Derived.Deep.RegionHeld3
namespace Go.Proofs.YtkolmadahacoeaaGreat.K.P
open Go.RowKit Go.Proofs.YtkolmadahacoeaaGreat.K.Ds
open Go.Maps (Keyed int_keyed string_keyed keyOf_int_mk)
open Go.WideMaps (keyOf_string_mk)
theorem gb_refl (w : World) (r : Option Nat) : w.grownBy w r := World.grownBy.refl w r
theorem gb_trans {a b c : World} {r : Option Nat} (h : a.grownBy b r) (k : b.grownBy c r) : a.grownBy c r :=
 ⟨k.os.trans h.os, k.tape.trans h.tape, k.output.trans h.output, Nat.le_trans h.size k.size, fun i hi hr => (k.block i (Nat.lt_of_lt_of_le hi h.size) hr).trans (h.block i hi hr)⟩
theorem gb_alloc {a b : World} {r : Option Nat} (h : a.grownBy b r) (o : Obj) : a.grownBy (b.alloc o) r := gb_trans h (World.grownBy_alloc b o r)
theorem gb_drew {a b : World} {r : Option Nat} (h : a.grownBy b r) : a.grownBy b.drew r := ⟨h.os, h.tape, h.output, h.size, h.block⟩
theorem gb_set {a b : World} {E : Nat} (h : a.grownBy b (some E)) (k : Nat) (u : Value) : a.grownBy (b.setCell ⟨E, k, none⟩ u) (some E) :=
 gb_trans h ⟨rfl, rfl, rfl, by simp [World.setCell], fun i _ hr => Below.heap_setCell _ _ _ _ (by intro e; exact hr (by rw [e]))⟩
theorem gb_below {a b : World} {r : Option Nat} (h : Below a.heap.size a b) : a.grownBy b r := ⟨h.os, h.tape, h.output, h.size, fun k hk _ => h.block k hk⟩
theorem below_gb {a b : World} {E B : Nat} (h : a.grownBy b (some E)) (hB : B ≤ E) (hE : B ≤ a.heap.size) : Below B a b := ⟨h.os, h.tape, h.output, h.size, fun k hk => h.block k (by omega) (by simp; omega)⟩
theorem ints_gbk {w w' : World} {B nb : Nat} {v : Value} {xs : List Int} (h : Ints w B nb v xs) (hg : w.grownBy w' (some nb)) : Ints w' B nb v xs := by
 obtain ⟨a, c, hv, hc, hl, hx⟩ := h
 refine ⟨a, c, hv, hc, hl, fun hne => ?_⟩
 obtain ⟨b, o, ha, hB, hn, hcell⟩ := hx hne
 exact ⟨b, o, ha, hB, hn, fun i x hi => hg.cell (hcell i x hi) (by simpa using hn)⟩
theorem ints_gep {w : World} {B nb : Nat} {a : Option Addr} {n c : Nat} {xs : List Int} (h : Ints w B nb (.slice a n c) xs) {i : Nat} (hi : i < xs.length) :
  ∃ b o x, a = some ⟨b, o, none⟩ ∧ b < B ∧ xs[i]? = some x ∧ w.cell? ⟨b, o + i, none⟩ = some (.int .i64 x) := by
 obtain ⟨a', c', hv, _, _, hx⟩ := h
 simp only [Value.slice.injEq] at hv
 obtain ⟨rfl, rfl, rfl⟩ := hv
 obtain ⟨b, o, ha, hb, _, hcell⟩ := hx (ne_of_lt hi)
 obtain ⟨x, hx⟩ := get_lt hi
 exact ⟨b, o, x, ha, hb, hx, hcell i x hx⟩
theorem ints_of_owns {w : World} {base nb : Nat} {v : Value} {xs : List Int} {n : Nat} (hn : n = xs.length) (hl : xs.length ≤ 9223372036854775807) (h : w.ownsRow base 3 1 v n (xs.map (.int .i64))) (hnb : nb < base) : Ints w w.heap.size nb v xs := by
 subst hn
 obtain ⟨_, ⟨hv, h0⟩ | ⟨g, cap, cur, hv, hb, hcur, hc, _, hsz, hx⟩⟩ := h
 ·obtain rfl : xs = [] := by cases xs <;> simp_all
  exact ⟨none, 0, hv, Nat.le_refl _, hl, fun h => absurd rfl h⟩
 ·refine ⟨_, cap, hv, hc, hl, fun _ => ⟨g, 0, rfl, (Array.getElem?_eq_some_iff.1 hcur).1, by omega, fun i x hi => ?_⟩⟩
  have hi2 : i < xs.length := (List.getElem?_eq_some_iff.1 hi).1
  have : cur[i]? = some (.int .i64 x) := by
   have h1 : (xs.map (Value.int .i64))[i]? = some (.int .i64 x) := by simp [hi]
   rw [← hx, List.getElem?_take_of_lt (by omega)] at h1
   simpa using h1
  simp [World.cell?, hcur, this]
structure TwoB (w : World) (R : Nat) (x y : Value) : Prop where
 c0 : w.cell? ⟨R, 0, none⟩ = some x
 c1 : w.cell? ⟨R, 1, none⟩ = some y
 f0 : w.frozen? ⟨R, 0, none⟩ = false
 f1 : w.frozen? ⟨R, 1, none⟩ = false
 lt : R < w.heap.size
theorem TwoB.below {w w' : World} {R : Nat} {x y : Value} (h : TwoB w R x y) (b : Below w.heap.size w w') : TwoB w' R x y :=
 ⟨(b.cell (p := ⟨R, 0, none⟩) h.lt).trans h.c0, (b.cell (p := ⟨R, 1, none⟩) h.lt).trans h.c1, (b.frozen (p := ⟨R, 0, none⟩) h.lt).trans h.f0, (b.frozen (p := ⟨R, 1, none⟩) h.lt).trans h.f1, Nat.lt_of_lt_of_le h.lt b.size⟩
theorem TwoB.new (w : World) (x y : Value) (t : TypeId) (N : Nat) (hN : N = w.heap.size) : TwoB (w.alloc (.cells #[x, y] t)) N x y :=
 ⟨nc _ _ 0 _ hN rfl, nc _ _ 1 _ hN rfl, nf _ _ 0 hN, nf _ _ 1 hN, by simp; omega⟩
theorem TwoB.put {w : World} {R : Nat} {x y : Value} (h : TwoB w R x y) (u v : Value) : TwoB ((w.setCell ⟨R, 0, none⟩ u).setCell ⟨R, 1, none⟩ v) R u v := by
 have h0 : TwoB (w.setCell ⟨R, 0, none⟩ u) R u y := ⟨sc_same h.c0, (sc_other (by simp)).trans h.c1, sc_frozen.trans h.f0, sc_frozen.trans h.f1, by simpa using h.lt⟩
 exact ⟨(sc_other (by simp)).trans h0.c0, sc_same h0.c1, sc_frozen.trans h0.f0, sc_frozen.trans h0.f1, by simpa using h0.lt⟩
def hR : Value → Option (DataW Value × List MemPlace) := fun v => some (.held v, [])
theorem law3 : Keyed Tryz.prog 3 := int_keyed Tryz.underlying3
theorem law9 : Keyed Tryz.prog 9 := string_keyed Tryz.underlying9
theorem zero31 (w : World) : (zeroValue 28).run Tryz.prog w = .ok (rv 0 0) w := by kernel_rfl
abbrev rvq (r : Rq) : Value := rv r.1 r.2
abbrev pv (b a : Rq) (m : Nat) : Value := .agg #[.int .i64 b.1, .int .i64 b.2, .int .i64 a.1, .int .i64 a.2, .map (some m)]
theorem zero60 (w : World) : (zeroValue 129).run Tryz.prog w = .ok (.agg #[.int .i64 0, .int .i64 0, .int .i64 0, .int .i64 0, .map none]) w := by kernel_rfl
structure Pts (w : World) (b n : Nat) (D : DataW Value) (P : Int → Prop) (f : Int → Rq) : Prop where
 own : w.ownsMap Tryz.prog 3 hR b n D
 is : ∀ z, Maps.has D (.int .i64 z) = true ↔ P z
 el : ∀ z, P z → D.atKey (.int .i64 z) (.held (rv 0 0)) = .held (rvq (f z))
 rng : ∀ z, P z → 0 ≤ z ∧ z ≤ 1073741824
theorem gb_none {w w' : World} (h : Below w.heap.size w w') : w.grownBy w' none := gb_below h
theorem Pts.gb {w w' : World} {b n : Nat} {D : DataW Value} {P : Int → Prop} {f : Int → Rq} {r : Option Nat} (h : Pts w b n D P f) (hg : w.grownBy w' r) (hne : some b ≠ r) : Pts w' b n D P f :=
 ⟨h.own.kept hg hne, h.is, h.el, h.rng⟩
theorem Pts.keep {w w' : World} {b n : Nat} {D : DataW Value} {P : Int → Prop} {f : Int → Rq} (h : Pts w b n D P f) (hb : Below w.heap.size w w') : Pts w' b n D P f := h.gb (gb_none hb) (by simp)
theorem Pts.look {w : World} {b n : Nat} {D : DataW Value} {P : Int → Prop} {f : Int → Rq} (h : Pts w b n D P f) {z : Int} (hz : P z) :
  (Instr.lookup 127 (.map (some b)) (.int .i64 z) false).run Tryz.prog w = .ok (rvq (f z)) w := by
 have hwf : (Lit.int .i64 z).wf = true := WalkArith.wf_i64 (by have := h.rng z hz; omega)
 obtain ⟨v', ps, hrun, hat⟩ := h.own.lookup law3 Tryz.underlying127 (zero31 w) (zd := .held (rv 0 0)) (zp := []) rfl (keyOf_int_mk Tryz.underlying3 hwf)
 rw [h.el z hz] at hat
 simp [hR] at hat
 rw [hrun, hat.1]
theorem one_any (w : World) : Calls Tryz.prog 103 #[] w fun e w' => e = .returned (rv 1 1) ∧ Below w.heap.size w w' := by
 go_enter Tryz.func103, Tryz.ntmps103
 go_wp2
 exact bodyPost_ret (v := rv 1 1) (by simp [results, Tryz.results103, go_sem]) rfl ⟨rfl, ba _ _⟩
theorem more_any (a b : Rq) (ha : OkR a) (hb : OkR b) (r : Bool) (hr : decide (LeR a b) = !r) (w : World) : Calls Tryz.prog 106 #[rvq a, rvq b] w fun e w' => e = .returned (.bool r) ∧ Below w.heap.size w w' := by
 have h := order_any a.1 a.2 b.1 b.2
 cases r with
 | true =>
  have h1 : Rt.orderT a.1 a.2 b.1 b.2 = (1, 0) := by
   have : ¬ LeR a b := of_decide_eq_false hr
   unfold LeR at this
   unfold Rt.orderT; rw [if_pos ⟨ha.1, hb.1⟩, if_neg (by omega), if_pos (by omega)]
  have k := h 1 0 h1
  clear h h1 hr
  go_enter Tryz.func106, Tryz.ntmps106
  go_wp2_with fail
  refine (k _).mono ?_
  rintro e w1 ⟨rfl, hb1⟩
  go_wp2
  go_ret
  exact ⟨rfl, bt (bal (ba _ _) _) hb1⟩
 | false =>
  obtain ⟨k0, hk0, h1⟩ : ∃ k0 : Int, k0 ≤ 0 ∧ Rt.orderT a.1 a.2 b.1 b.2 = (k0, 0) := by
   have : LeR a b := of_decide_eq_true hr
   unfold LeR at this
   unfold Rt.orderT; rw [if_pos ⟨ha.1, hb.1⟩]
   by_cases c : a.1 * b.2 < b.1 * a.2
   ·exact ⟨-1, by omega, by rw [if_pos c]⟩
   ·exact ⟨0, by omega, by rw [if_neg c, if_neg (by omega)]⟩
  have k := h k0 0 h1
  clear h h1 hr
  go_enter Tryz.func106, Tryz.ntmps106
  go_wp2_with fail
  refine (k _).mono ?_
  rintro e w1 ⟨rfl, hb1⟩
  go_wp2
  have hd : decide (0 < k0) = false := decide_eq_false (by omega)
  go_ret
  exact ⟨by simp [hd], bt (bal (ba _ _) _) hb1⟩
theorem intKeys_len {w : World} {b n : Nat} {D : DataW Value} (h : w.ownsMap Tryz.prog 3 hR b n D) : (intKeys D).length ≤ n := by
 have h1 := h.size_le
 obtain ⟨es, rfl, _⟩ := h.keysOf
 simpa [intKeys, Maps.size] using h1
theorem top_step {f : Int → Rq} {xs : List Int} {i : Nat} {z : Int} {m : Rq} (h : Top f (fun q => q ∈ xs.take i) m) (hz : xs[i]? = some z) (ho : OkR (f z)) : Top f (fun q => q ∈ xs.take (i + 1)) (if LeR (f z) m then m else f z) := by
 have h1 := h.more (p := z) ho
 rw [pick_same h.ok ho] at h1
 refine h1.congr (fun q => ?_) (fun _ _ => rfl)
 rw [List.take_add_one, hz]
 simp
set_option maxHeartbeats 1000000 in
set_option maxRecDepth 100000 in
theorem spent_any (bud al : Rq) (bm n : Nat) (D : DataW Value) (P : Int → Prop) (f : Int → Rq) (w : World) (hp : Pts w bm n D P f) (hn : n ≤ 1048576) (m : Rq) (ht : Top f P m) (r : Rq) (e : Int) (hr : mulT al m = (r, e)) :
  Calls Tryz.prog 60 #[pv bud al bm] w fun x w' => x = .returned (.tuple #[rvq r, .int .i64 e]) ∧ Below w.heap.size w w' := by
 have HP : Hid (Pts w bm n D P f) := hp
 have HT : Hid (Top f P m) := ht
 have HR : Hid (mulT al m = (r, e)) := hr
 have hbm := hp.own.lt
 clear hp ht hr
 go_enter Tryz.func60, Tryz.ntmps60
 go_wp2_with fail
 refine (one_any _).mono ?_
 rintro e1 w1 ⟨rfl, hb1⟩
 have hz1 : w.heap.size + 1 + 1 ≤ w1.heap.size := by have := hb1.size; simpa using this
 have hz0 : w.heap.size < w1.heap.size := by omega
 have hz2 : w.heap.size + 1 < w1.heap.size := by omega
 have k0 : w1.cell? ⟨w.heap.size, 2, none⟩ = some (.int .i64 al.1) := by rw [hb1.cell (p := ⟨w.heap.size, 2, none⟩) (by simp <;> omega)]; simp [go_sem]
 have k1 : w1.cell? ⟨w.heap.size, 3, none⟩ = some (.int .i64 al.2) := by rw [hb1.cell (p := ⟨w.heap.size, 3, none⟩) (by simp <;> omega)]; simp [go_sem]
 have k4 : w1.cell? ⟨w.heap.size, 4, none⟩ = some (.map (some bm)) := by rw [hb1.cell (p := ⟨w.heap.size, 4, none⟩) (by simp <;> omega)]; simp [go_sem]
 have G1 := bt (bal (ba _ _) _) hb1
 go_wp2_with fail
 refine (keysI_any _ _).mono ?_
 rintro e2 w2 ⟨rfl, rfl⟩
 have HP2 : Hid (Pts ((w1.alloc (.cells #[.int .i64 1, .int .i64 1] 28)).alloc (.cells #[.map (some bm)] 127)) bm n D P f) := (HP.out.keep (bal (bal G1 _) _))
 go_wp2_with fail
 refine (sortedI_any _ bm n D hR _ (by simp) (nc _ _ 0 _ (by simp) rfl) HP2.out.own hn).mono ?_
 rintro e3 w3 ⟨v, ss, rfl, hperm, hrow, hb3⟩
 obtain ⟨xs, hxs⟩ : ∃ xs, ss.mergeSort (fun x y => decide (x ≤ y)) = xs := ⟨_, rfl⟩
 have hlen : ss.length = xs.length := by rw [← hxs, List.length_mergeSort]
 have hmem : ∀ q, q ∈ xs ↔ P q := fun q => by
  rw [← hxs, List.mem_mergeSort, hperm.mem_iff, intKeys_has HP2.out.own, HP2.out.is]
 have hxl : xs.length ≤ 1048576 := by rw [← hlen, hperm.length_eq]; exact Nat.le_trans (intKeys_len HP2.out.own) hn
 rw [hxs, hlen] at hrow
 have HI : Hid (Ints w3 w3.heap.size w1.heap.size v xs) := ints_of_owns rfl (by omega) hrow (by simp; omega)
 have HM : Hid (∀ q, q ∈ xs ↔ P q) := hmem
 have hz3 : w1.heap.size + 1 + 1 ≤ w3.heap.size := by have := hb3.size; simpa using this
 have HP3 : Hid (Pts w3 bm n D P f) := HP2.out.keep hb3
 have T3 : TwoB w3 w1.heap.size (.int .i64 1) (.int .i64 1) := (((TwoB.new w1 (.int .i64 1) (.int .i64 1) 28 _ rfl).below (ba _ _)).below hb3)
 have R3 : TwoB w3 (w.heap.size + 1) (.int .i64 0) (.int .i64 0) := ((((TwoB.new (w.alloc (.cells #[.int .i64 bud.1, .int .i64 bud.2, .int .i64 al.1, .int .i64 al.2, .map (some bm)] 129)) (.int .i64 0) (.int .i64 0) 28 _ (by simp)).below hb1).below (bal (ba _ _) _)).below hb3)
 have A0 : w3.cell? ⟨w.heap.size, 2, none⟩ = some (.int .i64 al.1) := by rw [hb3.cell (p := ⟨w.heap.size, 2, none⟩) (by simp <;> omega)]; simp [go_sem, hz0, k0]
 have A1 : w3.cell? ⟨w.heap.size, 3, none⟩ = some (.int .i64 al.2) := by rw [hb3.cell (p := ⟨w.heap.size, 3, none⟩) (by simp <;> omega)]; simp [go_sem, hz0, k1]
 have A4 : w3.cell? ⟨w.heap.size, 4, none⟩ = some (.map (some bm)) := by rw [hb3.cell (p := ⟨w.heap.size, 4, none⟩) (by simp <;> omega)]; simp [go_sem, hz0, k4]
 have B3 : Below w.heap.size w w3 := bt (bal (bal G1 _) _) hb3
 have T0 : Top f (fun q => q ∈ xs.take 0) oneQ := (top_none f).congr (fun q => by simp) (fun _ _ => rfl)
 obtain ⟨a, c, rfl, hc, _⟩ := id HI.out
 clear hperm hrow hmem hxs hlen k0 k1 k4
 go_wp2_with fail
 go_loopw [14] (fun s wr => ∃ (i : Nat) (mi : Rq), s = .int .i64 (i : Int) ∧ i ≤ xs.length ∧ Hid (Top f (fun q => q ∈ xs.take i) mi) ∧ Hid (w3.grownBy wr (some w1.heap.size)) ∧ Hid (TwoB wr w1.heap.size (.int .i64 mi.1) (.int .i64 mi.2))) (fun s _ => xs.length - (intOf s).toNat)
 case atStart => exact ⟨0, oneQ, rfl, Nat.zero_le _, T0, gb_refl _ _, T3⟩
 case round =>
  obtain ⟨i, mi, rfl, hi, HTi, HG, HB⟩ := hrel
  have a0 := HG.out.cell A0 (by simp; omega)
  have a1 := HG.out.cell A1 (by simp; omega)
  have a4 := HG.out.cell A4 (by simp; omega)
  have hzr := HG.out.size
  obtain ⟨c0, c1, f0, f1, hlt⟩ := HB.out
  by_cases h1 : i < xs.length
  ·obtain ⟨b, o, z, rfl, hb, hzi, hcz⟩ := ints_gep (ints_gbk HI.out HG.out) h1
   have HZ : Hid (xs[i]? = some z) := hzi
   have hPz : P z := (HM.out z).1 (List.mem_of_getElem? hzi)
   have hok : OkR (f z) := HT.out.oks z hPz
   have hlk := fun W (hW : Below wr.heap.size wr W) => ((HP3.out.gb HG.out (by simp; omega)).keep hW).look hPz
   have hlk0 := hlk wr (Below.refl _ _)
   clear hzi
   cases hle : decide (LeR (f z) mi) with
   | true =>
    have km := more_any (f z) mi hok HTi.out.ok false hle
    have HL : Hid (LeR (f z) mi) := (of_decide_eq_true hle : LeR (f z) mi)
    clear hle
    go_wp2_with fail
    refine (km _).mono ?_
    rintro e4 w4 ⟨rfl, hb4⟩
    have hs4 := hb4.size
    go_wp2_with fail
    go_roundw
    case rel => exact ⟨i + 1, mi, by go_num, by omega, by have := top_step HTi.out HZ.out hok; rw [if_pos HL.out] at this; exact this, gb_trans HG.out (gb_below (bt (ba _ _) hb4)), (HB.out.below (ba _ _)).below hb4⟩
    case measure => simp [intOf]; omega
   | false =>
    have km := more_any (f z) mi hok HTi.out.ok true hle
    have HL : Hid (¬ LeR (f z) mi) := (of_decide_eq_false hle : ¬ LeR (f z) mi)
    clear hle
    go_wp2_with fail
    refine (km _).mono ?_
    rintro e4 w4 ⟨rfl, hb4⟩
    have hs4 := hb4.size
    have HB4 : Hid (TwoB w4 w1.heap.size (.int .i64 mi.1) (.int .i64 mi.2)) := (HB.out.below (ba _ _)).below hb4
    obtain ⟨d0, d1, g0, g1, hlt4⟩ := HB4.out
    have HN4 : TwoB w4 wr.heap.size (.int .i64 (f z).1) (.int .i64 (f z).2) := (TwoB.new wr _ _ 28 _ rfl).below hb4
    obtain ⟨n0, n1, _, _, hltn⟩ := HN4
    go_wp2_with fail
    go_roundw
    case rel => exact ⟨i + 1, f z, by go_num, by omega, by have := top_step HTi.out HZ.out hok; rw [if_neg HL.out] at this; exact this, gb_set (gb_set (gb_trans HG.out (gb_below (bt (ba _ _) hb4))) _ _) _ _, HB4.out.put _ _⟩
    case measure => simp [intOf]; omega
  ·have hi' : i = xs.length := by omega
   subst hi'
   have hmi : mi = m := by
    have h2 := HTi.out
    rw [List.take_length] at h2
    exact (h2.congr HM.out (fun _ _ => rfl)).uniq HT.out
   subst hmi
   have kt := times_any al.1 al.2 mi.1 mi.2 r.1 r.2 e (by rw [mulT_is, HR.out])
   have R4 := HB.out
   have HRr : Hid (TwoB wr (w.heap.size + 1) (.int .i64 0) (.int .i64 0)) := by
    have hk : wr.heap[w.heap.size + 1]? = w3.heap[w.heap.size + 1]? := HG.out.block _ R3.lt (by simp; omega)
    exact ⟨(World.cell?_of_block (w := w3) (a := ⟨w.heap.size + 1, 0, none⟩) hk).trans R3.c0, (World.cell?_of_block (w := w3) (a := ⟨w.heap.size + 1, 1, none⟩) hk).trans R3.c1, (World.frozen?_of_block (w := w3) (a := ⟨w.heap.size + 1, 0, none⟩) hk).trans R3.f0, (World.frozen?_of_block (w := w3) (a := ⟨w.heap.size + 1, 1, none⟩) hk).trans R3.f1, by omega⟩
   go_wp2_with fail
   refine (kt _).mono ?_
   rintro e5 w5 ⟨rfl, hb5⟩
   obtain ⟨r0, r1, q0, q1, hlt5⟩ := HRr.out.below hb5
   have Bz : Below w.heap.size w w5 := bt (B3.trans (below_gb HG.out (by omega) (by omega))) hb5
   go_wp2_with fail
   exact bodyPost_ret (v := .tuple #[rvq r, .int .i64 e]) (by simp [results, Tryz.results60, go_sem, r0, r1]) rfl ⟨rfl, bs (bs Bz (by simp) _) (by simp) _⟩
abbrev zp : Value := .agg #[.int .i64 0, .int .i64 0, .int .i64 0, .int .i64 0, .map none]
def chkT (bud al m : Rq) : Int := if (mulT al m).2 = 0 then (if LeR (mulT al m).1 bud then 0 else 10) else (mulT al m).2
structure FivB (w : World) (R : Nat) (a b c d e : Value) : Prop where
 c0 : w.cell? ⟨R, 0, none⟩ = some a
 c1 : w.cell? ⟨R, 1, none⟩ = some b
 c2 : w.cell? ⟨R, 2, none⟩ = some c
 c3 : w.cell? ⟨R, 3, none⟩ = some d
 c4 : w.cell? ⟨R, 4, none⟩ = some e
 f0 : w.frozen? ⟨R, 0, none⟩ = false
 f1 : w.frozen? ⟨R, 1, none⟩ = false
 f2 : w.frozen? ⟨R, 2, none⟩ = false
 f3 : w.frozen? ⟨R, 3, none⟩ = false
 f4 : w.frozen? ⟨R, 4, none⟩ = false
 lt : R < w.heap.size
theorem FivB.gb {w w' : World} {R : Nat} {a b c d e : Value} {r : Option Nat} (h : FivB w R a b c d e) (hg : w.grownBy w' r) (hne : some R ≠ r) : FivB w' R a b c d e := by
 have hk : w'.heap[R]? = w.heap[R]? := hg.block R h.lt hne
 have hc := fun o => World.cell?_of_block (w := w) (w' := w') (a := ⟨R, o, none⟩) hk
 have hf := fun o => World.frozen?_of_block (w := w) (w' := w') (a := ⟨R, o, none⟩) hk
 exact ⟨(hc 0).trans h.c0, (hc 1).trans h.c1, (hc 2).trans h.c2, (hc 3).trans h.c3, (hc 4).trans h.c4, (hf 0).trans h.f0, (hf 1).trans h.f1, (hf 2).trans h.f2, (hf 3).trans h.f3, (hf 4).trans h.f4, Nat.lt_of_lt_of_le h.lt hg.size⟩
theorem FivB.below {w w' : World} {R : Nat} {a b c d e : Value} (h : FivB w R a b c d e) (hb : Below w.heap.size w w') : FivB w' R a b c d e := h.gb (gb_none hb) (by simp)
theorem FivB.new (w : World) (a b c d e : Value) (t : TypeId) (N : Nat) (hN : N = w.heap.size) : FivB (w.alloc (.cells #[a, b, c, d, e] t)) N a b c d e :=
 ⟨nc _ _ 0 _ hN rfl, nc _ _ 1 _ hN rfl, nc _ _ 2 _ hN rfl, nc _ _ 3 _ hN rfl, nc _ _ 4 _ hN rfl, nf _ _ 0 hN, nf _ _ 1 hN, nf _ _ 2 hN, nf _ _ 3 hN, nf _ _ 4 hN, by simp; omega⟩
theorem bs5 {w w1 : World} {R : Nat} (h : Below w.heap.size w w1) (hR : w.heap.size ≤ R) (a b c d e : Value) : Below w.heap.size w (((((w1.setCell ⟨R, 0, none⟩ a).setCell ⟨R, 1, none⟩ b).setCell ⟨R, 2, none⟩ c).setCell ⟨R, 3, none⟩ d).setCell ⟨R, 4, none⟩ e) :=
 bs (bs (bs (bs (bs h hR _) hR _) hR _) hR _) hR _
set_option maxHeartbeats 1000000 in
set_option maxRecDepth 100000 in
theorem checked_any (bud al : Rq) (bm n : Nat) (D : DataW Value) (P : Int → Prop) (f : Int → Rq) (w : World) (hp : Pts w bm n D P f) (hn : n ≤ 1048576) (m : Rq) (ht : Top f P m) (ha : OkR al) (hbu : OkR bud) (er : Int) (hr : chkT bud al m = er) :
  Calls Tryz.prog 141 #[pv bud al bm] w fun x w' => x = .returned (.tuple #[if er = 0 then pv bud al bm else zp, .int .i64 er]) ∧ Below w.heap.size w w' := by
 obtain ⟨⟨r, e⟩, hm⟩ : ∃ y, mulT al m = y := ⟨_, rfl⟩
 have ks := fun W (hW : Pts W bm n D P f) => spent_any bud al bm n D P f W hW hn m ht r e hm
 have HP : Hid (Pts w bm n D P f) := hp
 have hcase : (e = 4 ∧ er = 4) ∨ (e = 0 ∧ OkR r ∧ ((LeR r bud ∧ er = 0) ∨ (¬ LeR r bud ∧ er = 10))) := by
  unfold chkT at hr
  rw [hm] at hr
  rcases mul_cases ha ht.ok with ⟨h1, h2, _⟩ | h1
  ·rw [hm] at h1 h2
   simp only at h1 h2
   right
   refine ⟨h1, h2, ?_⟩
   rw [if_pos h1] at hr
   by_cases c : LeR r bud
   ·left; rw [if_pos c] at hr; exact ⟨c, hr.symm⟩
   ·right; rw [if_neg c] at hr; exact ⟨c, hr.symm⟩
  ·rw [hm] at h1
   simp only [Prod.mk.injEq] at h1
   obtain ⟨_, rfl⟩ := h1
   left
   simpa using hr.symm
 clear hp ht hr hm
 have P0 : Hid (Pts ((w.alloc (.cells #[.int .i64 bud.1, .int .i64 bud.2, .int .i64 al.1, .int .i64 al.2, .map (some bm)] 129)).alloc (.cells #[.int .i64 0, .int .i64 0, .int .i64 0, .int .i64 0, .map none] 129)) bm n D P f) := HP.out.keep (bal (ba _ _) _)
 have V0 : Hid (FivB ((w.alloc (.cells #[.int .i64 bud.1, .int .i64 bud.2, .int .i64 al.1, .int .i64 al.2, .map (some bm)] 129)).alloc (.cells #[.int .i64 0, .int .i64 0, .int .i64 0, .int .i64 0, .map none] 129)) w.heap.size (.int .i64 bud.1) (.int .i64 bud.2) (.int .i64 al.1) (.int .i64 al.2) (.map (some bm))) := (FivB.new _ _ _ _ _ _ 129 _ rfl).below (ba _ _)
 have V1 : Hid (FivB ((w.alloc (.cells #[.int .i64 bud.1, .int .i64 bud.2, .int .i64 al.1, .int .i64 al.2, .map (some bm)] 129)).alloc (.cells #[.int .i64 0, .int .i64 0, .int .i64 0, .int .i64 0, .map none] 129)) (w.heap.size + 1) (.int .i64 0) (.int .i64 0) (.int .i64 0) (.int .i64 0) (.map none)) := FivB.new _ _ _ _ _ _ 129 _ (by simp)
 go_enter Tryz.func141, Tryz.ntmps141
 go_wp2_with fail
 refine (ks _ P0.out).mono ?_
 rintro e1 w1 ⟨rfl, hb1⟩
 have Bw := bt (bal (ba _ _) _) hb1
 obtain ⟨c0, c1, c2, c3, c4, f0, f1, f2, f3, f4, hl0⟩ := V0.out.below hb1
 obtain ⟨d0, d1, d2, d3, d4, g0, g1, g2, g3, g4, hl1⟩ := V1.out.below hb1
 rcases hcase with ⟨rfl, rfl⟩ | ⟨rfl, hok, ⟨hle, rfl⟩ | ⟨hle, rfl⟩⟩
 ·go_wp2_with fail
  exact bodyPost_ret (v := .tuple #[zp, .int .i64 4]) (by simp [results, Tryz.results141, go_sem, d0, d1, d2, d3, d4, hl1]) rfl ⟨by simp, bal (bs5 Bw (by omega) _ _ _ _ _) _⟩
 ·have km := more_any r bud hok hbu false (by simpa using hle)
  go_wp2_with fail
  refine (km _).mono ?_
  rintro e2 w2 ⟨rfl, hb2⟩
  obtain ⟨c0, c1, c2, c3, c4, f0, f1, f2, f3, f4, hl0⟩ := ((V0.out.below hb1).below (ba _ _)).below hb2
  obtain ⟨d0, d1, d2, d3, d4, g0, g1, g2, g3, g4, hl1⟩ := ((V1.out.below hb1).below (ba _ _)).below hb2
  go_wp2_with fail
  exact bodyPost_ret (v := .tuple #[pv bud al bm, .int .i64 0]) (by simp [results, Tryz.results141, go_sem, d0, d1, d2, d3, d4]) rfl ⟨by simp, bs5 (bt (bal Bw _) hb2) (by omega) _ _ _ _ _⟩
 ·have km := more_any r bud hok hbu true (by simpa using hle)
  go_wp2_with fail
  refine (km _).mono ?_
  rintro e2 w2 ⟨rfl, hb2⟩
  obtain ⟨d0, d1, d2, d3, d4, g0, g1, g2, g3, g4, hl1⟩ := ((V1.out.below hb1).below (ba _ _)).below hb2
  go_wp2_with fail
  exact bodyPost_ret (v := .tuple #[zp, .int .i64 10]) (by simp [results, Tryz.results141, go_sem, d0, d1, d2, d3, d4]) rfl ⟨by simp, bs5 (bt (bal Bw _) hb2) (by omega) _ _ _ _ _⟩
def onaT (bud al ls m : Rq) : Int := if (mulT al ls).2 = 0 then chkT bud (mulT al ls).1 m else (mulT al ls).2
set_option maxHeartbeats 1000000 in
set_option maxRecDepth 100000 in
theorem onAll_any (bud al ls : Rq) (bm n : Nat) (D : DataW Value) (P : Int → Prop) (f : Int → Rq) (w : World) (hp : Pts w bm n D P f) (hn : n ≤ 1048576) (m : Rq) (ht : Top f P m) (ha : OkR al) (hbu : OkR bud) (hls : OkR ls) (er : Int) (hr : onaT bud al ls m = er) :
  Calls Tryz.prog 96 #[pv bud al bm, rvq ls] w fun x w' => x = .returned (.tuple #[if er = 0 then pv bud (mulT al ls).1 bm else zp, .int .i64 er]) ∧ Below w.heap.size w w' := by
 obtain ⟨⟨q, e⟩, hm⟩ : ∃ y, mulT al ls = y := ⟨_, rfl⟩
 have kt := times_any al.1 al.2 ls.1 ls.2 q.1 q.2 e (by rw [mulT_is, hm])
 have HP : Hid (Pts w bm n D P f) := hp
 have hcase : (e = 4 ∧ er = 4) ∨ (e = 0 ∧ OkR q ∧ chkT bud q m = er) := by
  unfold onaT at hr
  rw [hm] at hr
  rcases mul_cases ha hls with ⟨h1, h2, _⟩ | h1
  ·rw [hm] at h1 h2
   simp only at h1 h2 hr
   rw [if_pos h1] at hr
   exact .inr ⟨h1, h2, hr⟩
  ·rw [hm] at h1
   simp only [Prod.mk.injEq] at h1
   obtain ⟨_, rfl⟩ := h1
   left
   simpa using hr.symm
 rw [hm]
 clear hp hr hm
 have V2 : Hid (FivB (((w.alloc (.cells #[.int .i64 bud.1, .int .i64 bud.2, .int .i64 al.1, .int .i64 al.2, .map (some bm)] 129)).alloc (.cells #[.int .i64 ls.1, .int .i64 ls.2] 28)).alloc (.cells #[.int .i64 0, .int .i64 0, .int .i64 0, .int .i64 0, .map none] 129)) (w.heap.size + 1 + 1) (.int .i64 0) (.int .i64 0) (.int .i64 0) (.int .i64 0) (.map none)) := FivB.new _ _ _ _ _ _ 129 _ (by simp)
 have V0 : Hid (FivB (((w.alloc (.cells #[.int .i64 bud.1, .int .i64 bud.2, .int .i64 al.1, .int .i64 al.2, .map (some bm)] 129)).alloc (.cells #[.int .i64 ls.1, .int .i64 ls.2] 28)).alloc (.cells #[.int .i64 0, .int .i64 0, .int .i64 0, .int .i64 0, .map none] 129)) w.heap.size (.int .i64 bud.1) (.int .i64 bud.2) (.int .i64 al.1) (.int .i64 al.2) (.map (some bm))) := ((FivB.new _ _ _ _ _ _ 129 _ rfl).below (ba _ _)).below (ba _ _)
 go_enter Tryz.func96, Tryz.ntmps96
 go_wp2_with fail
 refine (kt _).mono ?_
 rintro e1 w1 ⟨rfl, hb1⟩
 have Bw := bt (bal (bal (ba _ _) _) _) hb1
 obtain ⟨c0, c1, c2, c3, c4, f0, f1, f2, f3, f4, hl0⟩ := V0.out.below hb1
 obtain ⟨d0, d1, d2, d3, d4, g0, g1, g2, g3, g4, hl1⟩ := V2.out.below hb1
 rcases hcase with ⟨rfl, rfl⟩ | ⟨rfl, hok, hck⟩
 ·go_wp2_with fail
  exact bodyPost_ret (v := .tuple #[zp, .int .i64 4]) (by simp [results, Tryz.results96, go_sem, d0, d1, d2, d3, d4, hl1]) rfl ⟨by simp, bal (bs5 Bw (by omega) _ _ _ _ _) _⟩
 ·have kc := fun W (hW : Pts W bm n D P f) => checked_any bud q bm n D P f W hW hn m ht hok hbu er hck
  clear hck
  have hbm := HP.out.own.lt
  have P1 : Hid (Pts w1 bm n D P f) := HP.out.keep Bw
  have hg : w1.grownBy (((w1.setCell ⟨w.heap.size, 2, none⟩ (.int .i64 q.1)).setCell ⟨w.heap.size, 3, none⟩ (.int .i64 q.2)).alloc (.cells #[.int .i64 q.1, .int .i64 q.2] 28)) (some w.heap.size) := gb_alloc (gb_set (gb_set (gb_refl _ _) _ _) _ _) _
  have HX : Hid (FivB (((w1.setCell ⟨w.heap.size, 2, none⟩ (.int .i64 q.1)).setCell ⟨w.heap.size, 3, none⟩ (.int .i64 q.2)).alloc (.cells #[.int .i64 q.1, .int .i64 q.2] 28)) (w.heap.size + 1 + 1) (.int .i64 0) (.int .i64 0) (.int .i64 0) (.int .i64 0) (.map none)) := (V2.out.below hb1).gb hg (by simp; omega)
  have P2 : Hid (Pts (((w1.setCell ⟨w.heap.size, 2, none⟩ (.int .i64 q.1)).setCell ⟨w.heap.size, 3, none⟩ (.int .i64 q.2)).alloc (.cells #[.int .i64 q.1, .int .i64 q.2] 28)) bm n D P f) := P1.out.gb hg (by simp; omega)
  have BX : Below w.heap.size w (((w1.setCell ⟨w.heap.size, 2, none⟩ (.int .i64 q.1)).setCell ⟨w.heap.size, 3, none⟩ (.int .i64 q.2)).alloc (.cells #[.int .i64 q.1, .int .i64 q.2] 28)) := bal (bs (bs Bw (Nat.le_refl _) _) (Nat.le_refl _) _) _
  clear hg
  by_cases her : er = 0
  ·subst her
   simp only [↓reduceIte] at kc
   go_wp2_with fail
   refine (kc _ P2.out).mono ?_
   rintro e2 w2 ⟨rfl, hb2⟩
   obtain ⟨x0, x1, x2, x3, x4, y0, y1, y2, y3, y4, hx⟩ := HX.out.below hb2
   go_wp2_with fail
   exact bodyPost_ret (v := .tuple #[pv bud q bm, .int .i64 0]) (by simp [results, Tryz.results96, go_sem, x0, x1, x2, x3, x4]) rfl ⟨by simp, bs5 (bt BX hb2) (by omega) _ _ _ _ _⟩
  ·simp only [her, ↓reduceIte] at kc
   go_wp2_with fail
   refine (kc _ P2.out).mono ?_
   rintro e2 w2 ⟨rfl, hb2⟩
   obtain ⟨x0, x1, x2, x3, x4, y0, y1, y2, y3, y4, hx⟩ := HX.out.below hb2
   go_wp2_with fail
   exact bodyPost_ret (v := .tuple #[zp, .int .i64 er]) (by simp [results, Tryz.results96, go_sem, x0, x1, x2, x3, x4]) rfl ⟨by simp, bs5 (bt BX hb2) (by omega) _ _ _ _ _⟩
theorem Pts.put {w : World} {b n : Nat} {D : DataW Value} {P : Int → Prop} {f : Int → Rq} (h : Pts w b n D P f) (hn : n ≤ 1048576) {z : Int} (hz : 0 ≤ z ∧ z ≤ 1073741824) (q : Rq) :
  ∃ w', (Instr.mapUpdate 127 (.map (some b)) (.int .i64 z) (rvq q)).run Tryz.prog w = .ok () w' ∧ Pts w' b (n + 1) (D.put (.int .i64 z) (.held (rvq q))) (fun y => P y ∨ y = z) (fun y => if y = z then q else f y) ∧ w.grownBy w' (some b) := by
 have hwf : (Lit.int .i64 z).wf = true := WalkArith.wf_i64 (by omega)
 obtain ⟨w', hrun, hown, hg⟩ := h.own.update law3 Tryz.underlying127 (by unfold maxLen; omega) (val := rvq q) (d := .held (rvq q)) (ps := []) (Go.Maps.keyOf_int_mk Tryz.underlying3 hwf) rfl
 refine ⟨w', hrun, ⟨hown, fun y => ?_, fun y hy => ?_, fun y hy => ?_⟩, hg⟩
 ·by_cases hy : y = z
  ·subst hy; simp [Maps.has_put_same h.own.isMap (k := .int .i64 y) True.intro]
  ·rw [Maps.has_put_other (by simpa using hy), h.is y]; simp [hy]
 ·by_cases hyz : y = z
  ·subst hyz; simp [Maps.atKey_put_same (k := .int .i64 y) h.own.isMap True.intro]
  ·rw [Maps.atKey_put_other (by simpa using hyz), h.el y (by rcases hy with hy | hy; exact hy; exact absurd hy hyz)]; simp [hyz]
 ·rcases hy with hy | rfl
  ·exact h.rng y hy
  ·exact hz
theorem Pts.lookOk {w : World} {b n : Nat} {D : DataW Value} {P : Int → Prop} {f : Int → Rq} (h : Pts w b n D P f) {z : Int} (hr : 0 ≤ z ∧ z ≤ 1073741824) :
  (P z ∧ (Instr.lookup 127 (.map (some b)) (.int .i64 z) true).run Tryz.prog w = .ok (.tuple #[rvq (f z), .bool true]) w) ∨ (¬ P z ∧ (Instr.lookup 127 (.map (some b)) (.int .i64 z) true).run Tryz.prog w = .ok (.tuple #[rv 0 0, .bool false]) w) := by
 have hwf : (Lit.int .i64 z).wf = true := WalkArith.wf_i64 (by omega)
 obtain ⟨v', ps, hrun, hat⟩ := h.own.look_ok law3 Tryz.underlying127 (zero31 w) (zd := .held (rv 0 0)) (zp := []) rfl (Go.Maps.keyOf_int_mk Tryz.underlying3 hwf)
 cases hh : Maps.has D (.int .i64 z) with
 | true =>
  left
  have hz := (h.is z).1 hh
  rw [h.el z hz] at hat
  simp [hR] at hat
  exact ⟨hz, by rw [hrun, hat.1, hh]⟩
 | false =>
  right
  have hz : ¬ P z := fun c => by rw [(h.is z).2 c] at hh; cases hh
  have h2 : D.atKey (.int .i64 z) (.held (rv 0 0)) = .held (rv 0 0) := Maps.atKey_of_not_has hh _
  rw [h2] at hat
  simp [hR] at hat
  exact ⟨hz, by rw [hrun, hat.1, hh]⟩
end Go.Proofs.YtkolmadahacoeaaGreat.K.P
