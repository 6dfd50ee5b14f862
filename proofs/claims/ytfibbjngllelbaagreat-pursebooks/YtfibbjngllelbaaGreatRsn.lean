import Derived.Test.YtfibbjngllelbaaGreatEnt
import Derived.Test.YtfibbjngllelbaaGreatPck
import Derived.Test.YtfibbjngllelbaaGreatNpt
namespace Go.Proofs.YtfibbjngllelbaaGreat
open Go.RowKit Go.Proofs.YtfibbjngllelbaaGreat.Ds

theorem bud_app (l m : List En) (n : ByteArray) : budT (l ++ m) n = (budT l n).or (budT m n) := by
  unfold budT
  rw [List.find?_append]
  cases List.find? (fun e => decide (e.1 = 1 ∧ e.2.1 = n)) l <;> simp
theorem bud_at {l : List En} {i : Nat} {d : Int} {nm : ByteArray} {p u v : Int} {n : ByteArray} (h0 : budT (l.take i) n = none) (hg : l[i]? = some (d, nm, p, u, v)) :
    (d = 1 ∧ nm = n → budT l n = some (u, v)) ∧ (¬ (d = 1 ∧ nm = n) → budT (l.take (i + 1)) n = none) := by
  have ht : l.take (i + 1) = l.take i ++ [(d, nm, p, u, v)] := by rw [List.take_add_one, hg]; rfl
  constructor
  · intro h
    have h1 : budT (l.take (i + 1)) n = some (u, v) := by
      rw [ht, bud_app, h0]
      simp [budT, h]
    have h2 : l = l.take (i + 1) ++ l.drop (i + 1) := (List.take_append_drop _ _).symm
    rw [h2, bud_app, h1]; rfl
  · intro h
    rw [ht, bud_app, h0]
    simp only [Option.none_or]
    unfold budT
    simp only [List.find?_cons, List.find?_nil]
    rw [decide_eq_false h]
    rfl

set_option maxHeartbeats 2000000 in
set_option maxRecDepth 100000 in
/-- Budget -/
theorem budget_any (B : Nat) (v : Value) (l : List En) (n0 : ByteArray) (w : World) (hB : B ≤ w.heap.size) (hx : Ents w B v l) (b : Option Rq) (hb : budT l n0 = b) :
    Calls Tryz.prog 10 #[v, .string n0] w fun x w' => x = .returned (.tuple #[rvq (b.getD (0, 0)), .bool b.isSome]) ∧ Below w.heap.size w w' := by
  have HX : Hid (Ents w B v l) := hx
  have HB : Hid (budT l n0 = b) := hb
  obtain ⟨a, c, rfl, hc, hl⟩ := hx.slice
  clear hb hx
  have V0 : Hid (TwoB (w.alloc (.cells #[.int .i64 0, .int .i64 0] 35)) w.heap.size (.int .i64 0) (.int .i64 0)) := TwoB.new _ _ _ 35 _ rfl
  go_enter Tryz.func10, Tryz.ntmps10
  go_wp2
  go_loopw [10] (fun s wr => ∃ (i : Nat), s = .int .i64 (i : Int) ∧ i ≤ l.length ∧ Hid (budT (l.take i) n0 = none) ∧ Below (w.heap.size + 1) (w.alloc (.cells #[.int .i64 0, .int .i64 0] 35)) wr) (fun s _ => l.length - (intOf s).toNat)
  case atStart => exact ⟨0, rfl, Nat.zero_le _, by simp [Hid, budT], Below.refl _ _⟩
  case round =>
    obtain ⟨i, rfl, hi, HN, hbr⟩ := hrel
    have hbl : Below w.heap.size w wr := (ba w _).trans (hbr.mono (by omega))
    have V1 : TwoB wr w.heap.size (.int .i64 0) (.int .i64 0) := V0.out.below (by simpa using hbr)
    have HV1 : Hid (TwoB wr w.heap.size (.int .i64 0) (.int .i64 0)) := V1
    obtain ⟨r0, r1, rf0, rf1, hrl⟩ := V1
    by_cases h1 : i < l.length
    · obtain ⟨bb, o, d, nm, p, u, v, rfl, hbb, hg, e0, e1, e2, e3, e4, _⟩ := HX.out.get hB hbl h1
      have HAT : Hid ((d = 1 ∧ nm = n0 → budT l n0 = some (u, v)) ∧ (¬ (d = 1 ∧ nm = n0) → budT (l.take (i + 1)) n0 = none)) := bud_at HN.out hg
      clear hg
      obtain ⟨X, hX⟩ : ∃ X, wr.alloc (.cells #[.int .i64 d, .string nm, .int .i64 p, .int .i64 u, .int .i64 v] 45) = X := ⟨_, rfl⟩
      have hbX : Below wr.heap.size wr X := by rw [← hX]; exact ba _ _
      have hzX : X.heap.size = wr.heap.size + 1 := by rw [← hX]; simp
      have HXV : Hid (TwoB X w.heap.size (.int .i64 0) (.int .i64 0)) := HV1.out.below hbX
      have hrs := hbr.size
      have BX : Below (w.heap.size + 1) (w.alloc (.cells #[.int .i64 0, .int .i64 0] 35)) X := hbr.trans (hbX.mono (by simp at hrs; omega))
      have VX := FivB.new wr (.int .i64 d) (.string nm) (.int .i64 p) (.int .i64 u) (.int .i64 v) 45 _ rfl
      rw [hX] at VX
      obtain ⟨x0, x1, x2, x3, x4, _, _, _, _, _, hlx⟩ := VX
      by_cases hd : d = 1
      · subst hd
        by_cases hn : nm = n0
        · have hq : (nm.toList == n0.toList) = true := by rw [str_eq]; simpa using hn
          have hbv : some (u, v) = b := by rw [← HB.out]; exact (HAT.out.1 ⟨rfl, hn⟩).symm
          subst hbv
          obtain ⟨y0, y1, yf0, yf1, hyl⟩ := HXV.out
          have Z := HXV.out.put (.int .i64 u) (.int .i64 v)
          obtain ⟨q0, q1, _, _, _⟩ := Z
          have BZ : Below w.heap.size w ((X.setCell ⟨w.heap.size, 0, none⟩ (.int .i64 u)).setCell ⟨w.heap.size, 1, none⟩ (.int .i64 v)) := bs (bs (bt hbl hbX) (Nat.le_refl _) _) (Nat.le_refl _) _
          clear hn
          go_wp2
          exact bodyPost_ret (v := .tuple #[rv u v, .bool true]) (by simp [results, Tryz.results10, go_sem, q0, q1]) rfl ⟨rfl, BZ⟩
        · have hq : (nm.toList == n0.toList) = false := by rw [str_eq]; simpa using hn
          have HNX : Hid (budT (l.take (i + 1)) n0 = none) := HAT.out.2 (fun h => hn h.2)
          clear hn
          go_wp2
          go_roundw
          case rel => exact ⟨i + 1, by go_num, by omega, HNX, BX⟩
          case measure => simp [intOf]; omega
      · have hq : (d == 1) = false := by simpa using hd
        have HNX : Hid (budT (l.take (i + 1)) n0 = none) := HAT.out.2 (fun h => hd h.1)
        clear hd
        go_wp2
        go_roundw
        case rel => exact ⟨i + 1, by go_num, by omega, HNX, BX⟩
        case measure => simp [intOf]; omega
    · have hi' : i = l.length := by omega
      subst hi'
      have hbn : none = b := by rw [← HB.out]; have h := HN.out; rw [List.take_length] at h; exact h.symm
      subst hbn
      have Z := HV1.out.put (.int .i64 0) (.int .i64 0)
      obtain ⟨q0, q1, _, _, _⟩ := Z
      have BZ : Below w.heap.size w ((wr.setCell ⟨w.heap.size, 0, none⟩ (.int .i64 0)).setCell ⟨w.heap.size, 1, none⟩ (.int .i64 0)) := bs (bs hbl (Nat.le_refl _) _) (Nat.le_refl _) _
      go_wp2
      exact bodyPost_ret (v := .tuple #[rv 0 0, .bool false]) (by simp [results, Tryz.results10, go_sem, q0, q1]) rfl ⟨rfl, BZ⟩
end Go.Proofs.YtfibbjngllelbaaGreat

namespace Go.Proofs.YtfibbjngllelbaaGreat
open Go.RowKit Go.Proofs.YtfibbjngllelbaaGreat.Ds

theorem rone_any (w : World) : Calls Tryz.prog 19 #[] w fun e w' => e = .returned (rv 1 1) ∧ Below w.heap.size w w' := by
  go_enter Tryz.func19, Tryz.ntmps19
  go_wp2
  exact bodyPost_ret (v := rv 1 1) (by simp [results, Tryz.results19, go_sem]) rfl ⟨rfl, ba _ _⟩

theorem lss_take {l : List En} {i : Nat} {e : En} (h : l[i]? = some e) (n : ByteArray) (d p : Int) : lss (l.take (i + 1)) n d p = lss (l.take i) n d p ++ (if isE n d p e = true then [e.2.2.2] else []) := by
  rw [List.take_add_one, h]; exact lss_snoc _ _ _ _ _
theorem prod_more {r : Rq} {xs ys : List Rq} (h : (prodT r xs).2 ≠ 0) : prodT r (xs ++ ys) = prodT r xs := by
  induction xs generalizing r with
  | nil => exact absurd rfl h
  | cons x xs ih =>
    simp only [prodT, List.cons_append] at h ⊢
    by_cases c : (mulT r x).2 = 0
    · simp only [c, ↓reduceIte] at h ⊢; exact ih h
    · simp [c]
theorem lss_pre (l : List En) (i : Nat) (n : ByteArray) (d p : Int) : ∃ ys, lss l n d p = lss (l.take i) n d p ++ ys := by
  refine ⟨lss (l.drop i) n d p, ?_⟩
  unfold lss
  rw [← List.map_append, ← List.filter_append, List.take_append_drop]

set_option maxHeartbeats 2000000 in
set_option maxRecDepth 100000 in
/-- Product -/
theorem product_any (B : Nat) (v : Value) (l : List En) (n0 : ByteArray) (d0 p0 : Int) (w : World) (hB : B ≤ w.heap.size) (hx : Ents w B v l) (r : Rq) (er : Int) (hr : prodT oneQ (lss l n0 d0 p0) = (r, er)) :
    Calls Tryz.prog 18 #[v, .string n0, .int .i64 d0, .int .i64 p0] w fun x w' => x = .returned (.tuple #[rvq r, .int .i64 er]) ∧ Below w.heap.size w w' := by
  have HX : Hid (Ents w B v l) := hx
  have HR : Hid (prodT oneQ (lss l n0 d0 p0) = (r, er)) := hr
  obtain ⟨a, c, rfl, hc, hl⟩ := hx.slice
  clear hr
  have V0 : Hid (TwoB (w.alloc (.cells #[.int .i64 0, .int .i64 0] 35)) w.heap.size (.int .i64 0) (.int .i64 0)) := TwoB.new _ _ _ 35 _ rfl
  go_enter Tryz.func18, Tryz.ntmps18
  go_wp2_with fail
  refine (rone_any _).mono ?_
  rintro e1 w1 ⟨rfl, hb1⟩
  have G1 := bt (ba _ _) hb1
  have hz1 : w.heap.size < w1.heap.size := by have := hb1.size; simp at this; omega
  have W0 : Hid (TwoB w1 w.heap.size (.int .i64 0) (.int .i64 0)) := V0.out.below hb1
  go_wp2_with fail
  go_loopw [17] (fun s wr => ∃ (i : Nat) (q : Rq), s = .int .i64 (i : Int) ∧ i ≤ l.length ∧ Hid (prodT oneQ (lss (l.take i) n0 d0 p0) = (q, 0)) ∧ Below w1.heap.size w1 wr ∧ Hid (TwoB wr w1.heap.size (.int .i64 q.1) (.int .i64 q.2))) (fun s _ => l.length - (intOf s).toNat)
  case atStart => exact ⟨0, oneQ, rfl, Nat.zero_le _, by simp [Hid, lss, prodT], ba _ _, TwoB.new _ _ _ 35 _ rfl⟩
  case round =>
    obtain ⟨i, q, rfl, hi, HQ, hbl, HT⟩ := hrel
    have hbw : Below w.heap.size w wr := bt G1 hbl
    obtain ⟨t0, t1, tf0, tf1, htl⟩ := HT.out
    by_cases h1 : i < l.length
    · obtain ⟨b, o, d, nm, p, u, v, rfl, hb, hg, e0, e1, e2, e3, e4, _⟩ := HX.out.get hB hbw h1
      have HL : Hid (lss (l.take (i + 1)) n0 d0 p0 = lss (l.take i) n0 d0 p0 ++ (if isE n0 d0 p0 (d, nm, p, u, v) = true then [(u, v)] else [])) := lss_take hg n0 d0 p0
      have hcs : (isE n0 d0 p0 (d, nm, p, u, v) = false ∧ ((nm.toList == n0.toList) = false ∨ ((nm.toList == n0.toList) = true ∧ ((d == d0) = false ∨ ((d == d0) = true ∧ (d0 != 3) = false ∧ (p == p0) = false))))) ∨ (isE n0 d0 p0 (d, nm, p, u, v) = true ∧ (nm.toList == n0.toList) = true ∧ (d == d0) = true ∧ ((d0 != 3) = true ∨ ((d0 != 3) = false ∧ (p == p0) = true))) := by
        rw [str_eq]
        unfold isE
        by_cases h2 : nm = n0 <;> by_cases h3 : d = d0 <;> by_cases h4 : d0 = 3 <;> by_cases h5 : p = p0 <;> first | (simp [h2, h3, h4, h5]; done) | (simp [h2, h4, h5]; omega)
      clear hg
      rcases hcs with ⟨hno, hcs⟩ | ⟨hyes, hn1, hd1, hcs⟩
      · have HQ2 : Hid (prodT oneQ (lss (l.take (i + 1)) n0 d0 p0) = (q, 0)) := by
          rw [Hid, HL.out, hno]; simpa using HQ.out
        clear hno
        rcases hcs with h2 | ⟨h2, h3 | ⟨h3, h4, h5⟩⟩
        all_goals
          go_wp2_with fail
          go_roundw
          case rel => exact ⟨i + 1, q, by go_num, by omega, HQ2, bt hbl (ba _ _), HT.out.below (ba _ _)⟩
          case measure => simp [intOf]; omega
      · obtain ⟨⟨q', er'⟩, hm⟩ : ∃ y, mulT q (u, v) = y := ⟨_, rfl⟩
        have kt := refTimes_any q.1 q.2 u v q'.1 q'.2 er' (by have := mulT_is q (u, v); rw [hm] at this; exact this)
        have HS : Hid (prodT oneQ (lss (l.take (i + 1)) n0 d0 p0) = if er' = 0 then (q', er') else ((0, 0), er')) := by
          rw [Hid, HL.out, hyes, if_pos rfl, prod_snoc, HQ.out]; simp [hm]
        clear hyes hm
        have hres : TwoB wr w.heap.size (.int .i64 0) (.int .i64 0) := by
          have h := W0.out
          exact ⟨(hbl.cell (p := ⟨w.heap.size, 0, none⟩) hz1).trans h.c0, (hbl.cell (p := ⟨w.heap.size, 1, none⟩) hz1).trans h.c1, (hbl.frozen (p := ⟨w.heap.size, 0, none⟩) hz1).trans h.f0, (hbl.frozen (p := ⟨w.heap.size, 1, none⟩) hz1).trans h.f1, Nat.lt_of_lt_of_le hz1 hbl.size⟩
        by_cases h0 : er' = 0
        · subst h0
          have HS2 : Hid (prodT oneQ (lss (l.take (i + 1)) n0 d0 p0) = (q', 0)) := by rw [Hid, HS.out]; simp
          rcases hcs with h2 | ⟨h2, h3⟩
          all_goals
            go_wp2_with fail
            refine (kt _).mono ?_
            rintro e5 w5 ⟨rfl, hb5⟩
            have T5 : Hid (TwoB w5 w1.heap.size (.int .i64 q.1) (.int .i64 q.2)) := (HT.out.below (ba _ _)).below hb5
            obtain ⟨s0, s1, sf0, sf1, hs5⟩ := T5.out
            go_wp2_with fail
            go_roundw
            case rel => exact ⟨i + 1, q', by go_num, by omega, HS2, bs (bs (bt hbl (bt (ba _ _) hb5)) (Nat.le_refl _) _) (Nat.le_refl _) _, T5.out.put _ _⟩
            case measure => simp [intOf]; omega
        · have hrr : (r, er) = ((0, 0), er') := by
            obtain ⟨ys, hys⟩ := lss_pre l (i + 1) n0 d0 p0
            have h6 := HS.out
            rw [if_neg h0] at h6
            rw [← HR.out, hys, prod_more (by rw [h6]; exact h0), h6]
          simp only [Prod.mk.injEq] at hrr
          obtain ⟨rfl, rfl⟩ := hrr
          have hq0 : (er != 0) = true := by simpa using h0
          rcases hcs with h2 | ⟨h2, h3⟩
          all_goals
            go_wp2_with fail
            refine (kt _).mono ?_
            rintro e5 w5 ⟨rfl, hb5⟩
            obtain ⟨s0, s1, sf0, sf1, hs5⟩ := (HT.out.below (ba _ _)).below hb5
            obtain ⟨y0, y1, yf0, yf1, hy5⟩ := (hres.below (ba _ _)).below hb5
            go_wp2_with fail
            exact bodyPost_ret (v := .tuple #[rv 0 0, .int .i64 er]) (by simp [results, Tryz.results18, go_sem, y0, y1]) rfl ⟨rfl, bs (bs (bs (bs (bt hbw (bt (ba _ _) hb5)) (by simp; omega) _) (by simp; omega) _) (Nat.le_refl _) _) (Nat.le_refl _) _⟩
    · have hi' : i = l.length := by omega
      subst hi'
      have hrr : (r, er) = (q, 0) := by
        have h3 := HQ.out
        rw [List.take_length] at h3
        rw [← HR.out, h3]
      simp only [Prod.mk.injEq] at hrr
      obtain ⟨rfl, rfl⟩ := hrr
      have h := W0.out
      have y0 := (hbl.cell (p := ⟨w.heap.size, 0, none⟩) hz1).trans h.c0
      have y1 := (hbl.cell (p := ⟨w.heap.size, 1, none⟩) hz1).trans h.c1
      have yf0 := (hbl.frozen (p := ⟨w.heap.size, 0, none⟩) hz1).trans h.f0
      have yf1 := (hbl.frozen (p := ⟨w.heap.size, 1, none⟩) hz1).trans h.f1
      clear h
      go_wp2_with fail
      exact bodyPost_ret (v := .tuple #[rvq r, .int .i64 0]) (by simp [results, Tryz.results18, go_sem, y0, y1]) rfl ⟨rfl, bs (bs hbw (Nat.le_refl _) _) (Nat.le_refl _) _⟩
end Go.Proofs.YtfibbjngllelbaaGreat

namespace Go.Proofs.YtfibbjngllelbaaGreat
open Go.RowKit Go.Proofs.YtfibbjngllelbaaGreat.Ds

theorem prod_ok {r : Rq} {xs : List Rq} (hr : OkR r) (hx : ∀ x ∈ xs, OkR x) : ((prodT r xs).2 = 0 ∧ OkR (prodT r xs).1) ∨ prodT r xs = ((0, 0), 4) := by
  induction xs generalizing r with
  | nil => exact .inl ⟨rfl, hr⟩
  | cons x xs ih =>
    rcases mul_cases hr (hx x (List.mem_cons_self ..)) with ⟨h1, h2, _⟩ | h1
    · simp only [prodT, h1, ↓reduceIte]
      exact ih h2 (fun y hy => hx y (List.mem_cons_of_mem _ hy))
    · right; simp [prodT, h1]
theorem lss_ok {l : List En} (h : ∀ e ∈ l, OkR e.2.2.2) (n : ByteArray) (d p : Int) : ∀ x ∈ lss l n d p, OkR x := by
  intro x hx
  obtain ⟨e, he, rfl⟩ := List.mem_map.1 hx
  exact h e (List.mem_filter.1 he).1
theorem most_snoc (f : Int → Rq × Int) (m : Rq) (ps : List Int) (p : Int) : mostT f m (ps ++ [p]) = if (mostT f m ps).2 = 0 then (if (f p).2 = 0 then (if LeR (mostT f m ps).1 (f p).1 then (f p).1 else (mostT f m ps).1, 0) else ((0, 0), (f p).2)) else mostT f m ps := by
  induction ps generalizing m with
  | nil => by_cases h : (f p).2 = 0 <;> by_cases h2 : LeR m (f p).1 <;> simp [mostT, h, h2]
  | cons q ps ih =>
    simp only [List.cons_append, mostT]
    by_cases h : (f q).2 = 0
    · simp only [h, ↓reduceIte]; exact ih _
    · simp [h]
theorem most_more (f : Int → Rq × Int) (m : Rq) (ps qs : List Int) (h : (mostT f m ps).2 ≠ 0) : mostT f m (ps ++ qs) = mostT f m ps := by
  induction ps generalizing m with
  | nil => exact absurd rfl h
  | cons q ps ih =>
    simp only [List.cons_append, mostT] at h ⊢
    by_cases h1 : (f q).2 = 0
    · simp only [h1, ↓reduceIte] at h ⊢; exact ih _ h
    · simp [h1]
theorem prs_take {l : List En} {i : Nat} {e : En} (h : l[i]? = some e) (n : ByteArray) : prs (l.take (i + 1)) n = prs (l.take i) n ++ (if e.2.1 = n ∧ e.1 = 3 then [e.2.2.1] else []) := by
  rw [List.take_add_one, h]; exact prs_snoc _ _ _
theorem prs_pre (l : List En) (i : Nat) (n : ByteArray) : ∃ ys, prs l n = prs (l.take i) n ++ ys := by
  refine ⟨prs (l.drop i) n, ?_⟩
  unfold prs
  rw [← List.map_append, ← List.filter_append, List.take_append_drop]

set_option maxHeartbeats 2000000 in
set_option maxRecDepth 100000 in
/-- Spent -/
theorem rspent_any (B : Nat) (v : Value) (l : List En) (n0 : ByteArray) (w : World) (hB : B ≤ w.heap.size) (hx : Ents w B v l) (hok : ∀ e ∈ l, OkR e.2.2.2) (r : Rq) (er : Int) (hr : spentT l n0 = (r, er)) :
    Calls Tryz.prog 9 #[v, .string n0] w fun x w' => x = .returned (.tuple #[rvq r, .int .i64 er]) ∧ Below w.heap.size w w' := by
  have HX : Hid (Ents w B v l) := hx
  have HR : Hid (spentT l n0 = (r, er)) := hr
  have HOK : Hid (∀ e ∈ l, OkR e.2.2.2) := hok
  obtain ⟨⟨al, ae⟩, hal⟩ : ∃ y, allP l n0 = y := ⟨_, rfl⟩
  have HAL : Hid (allP l n0 = (al, ae)) := hal
  have kp := fun W (hW : B ≤ W.heap.size) (h : Ents W B v l) => product_any B v l n0 2 0 W hW h al ae hal
  have kpp := fun W (hW : B ≤ W.heap.size) (h : Ents W B v l) p q e (hq : prtP l n0 p = (q, e)) => product_any B v l n0 3 p W hW h q e hq
  obtain ⟨a, c, rfl, hc, hl⟩ := hx.slice
  have V0 : Hid (TwoB (w.alloc (.cells #[.int .i64 0, .int .i64 0] 35)) w.heap.size (.int .i64 0) (.int .i64 0)) := TwoB.new _ _ _ 35 _ rfl
  have HX0 : Hid (Ents (w.alloc (.cells #[.int .i64 0, .int .i64 0] 35)) B (.slice a l.length c) l) := HX.out.at hB (ba _ _)
  clear hr hx hok
  go_enter Tryz.func9, Tryz.ntmps9
  go_wp2_with fail
  refine (kp _ (by simp; omega) HX0.out).mono ?_
  rintro e1 w1 ⟨rfl, hb1⟩
  have G1 : Below w.heap.size w w1 := bt (ba _ _) hb1
  have hz1 : w.heap.size < w1.heap.size := by have := hb1.size; simp at this; omega
  have W0 : Hid (TwoB w1 w.heap.size (.int .i64 0) (.int .i64 0)) := V0.out.below hb1
  by_cases ha0 : ae = 0
  · subst ha0
    have hoka : OkR al := by
      rcases prod_ok ok_one (lss_ok HOK.out n0 2 0) with ⟨_, h⟩ | h
      · have h2 := hal; unfold allP at h2; rw [h2] at h; exact h
      · have h2 := hal; unfold allP at h2; rw [h2] at h; simp only [Prod.mk.injEq] at h; omega
    obtain ⟨X1, hX1⟩ : ∃ X1, w1.alloc (.cells #[.int .i64 al.1, .int .i64 al.2] 35) = X1 := ⟨_, rfl⟩
    have bX1 : Below w1.heap.size w1 X1 := by rw [← hX1]; exact ba _ _
    have hzX1 : X1.heap.size = w1.heap.size + 1 := by rw [← hX1]; simp
    have T1 : Hid (TwoB X1 w1.heap.size (.int .i64 al.1) (.int .i64 al.2)) := by rw [← hX1]; exact TwoB.new _ _ _ 35 _ rfl
    clear kp hal
    go_wp2_with fail
    refine (rone_any _).mono ?_
    rintro e2 w2 ⟨rfl, hb2⟩
    have hz2 := hb2.size
    have G2 : Below w.heap.size w w2 := bt (bt G1 bX1) hb2
    have T2 : Hid (TwoB w2 w1.heap.size (.int .i64 al.1) (.int .i64 al.2)) := T1.out.below hb2
    have W2 : Hid (TwoB w2 w.heap.size (.int .i64 0) (.int .i64 0)) := (W0.out.below bX1).below hb2
    go_wp2_with fail
    go_loopw [26] (fun s wr => ∃ (i : Nat) (m : Rq), s = .int .i64 (i : Int) ∧ i ≤ l.length ∧ Hid (mostT (prtP l n0) oneQ (prs (l.take i) n0) = (m, 0)) ∧ Hid (OkR m) ∧ Below w2.heap.size w2 wr ∧ Hid (TwoB wr w2.heap.size (.int .i64 m.1) (.int .i64 m.2))) (fun s _ => l.length - (intOf s).toNat)
    case atStart => exact ⟨0, oneQ, rfl, Nat.zero_le _, by simp [Hid, prs, mostT], ok_one, ba _ _, TwoB.new _ _ _ 35 _ rfl⟩
    case round =>
      obtain ⟨i, m, rfl, hi, HM, HOM, hbl, HT⟩ := hrel
      have hbw : Below w.heap.size w wr := bt G2 hbl
      have hrs := hbl.size
      obtain ⟨t0, t1, tf0, tf1, htl⟩ := HT.out
      by_cases h1 : i < l.length
      · obtain ⟨b, o, d, nm, p, u, v, rfl, hb, hg, e0, e1, e2, e3, e4, _⟩ := HX.out.get hB hbw h1
        have HL : Hid (prs (l.take (i + 1)) n0 = prs (l.take i) n0 ++ (if nm = n0 ∧ d = 3 then [p] else [])) := prs_take hg n0
        clear hg
        by_cases hyes : nm = n0 ∧ d = 3
        · obtain ⟨hn, rfl⟩ := hyes
          have hq : (nm.toList == n0.toList) = true := by rw [str_eq]; simpa using hn
          have HL2 : Hid (prs (l.take (i + 1)) n0 = prs (l.take i) n0 ++ [p]) := by rw [Hid, HL.out, if_pos ⟨hn, rfl⟩]
          obtain ⟨⟨q, qe⟩, hqq⟩ : ∃ y, prtP l n0 p = y := ⟨_, rfl⟩
          obtain ⟨X, hX⟩ : ∃ X, wr.alloc (.cells #[.int .i64 3, .string nm, .int .i64 p, .int .i64 u, .int .i64 v] 45) = X := ⟨_, rfl⟩
          have hbX : Below wr.heap.size wr X := by rw [← hX]; exact ba _ _
          have hzX : X.heap.size = wr.heap.size + 1 := by rw [← hX]; simp
          have VX := FivB.new wr (.int .i64 3) (.string nm) (.int .i64 p) (.int .i64 u) (.int .i64 v) 45 _ rfl
          rw [hX] at VX
          obtain ⟨x0, x1, x2, x3, x4, _, _, _, _, _, hlx⟩ := VX
          have kq := kpp X (by have := hbw.size; omega) (HX.out.at hB (bt hbw hbX)) p q qe hqq
          have HQQ : Hid (prtP l n0 p = (q, qe)) := hqq
          have HMS : Hid (mostT (prtP l n0) oneQ (prs (l.take (i + 1)) n0) = if qe = 0 then (if LeR m q then q else m, 0) else ((0, 0), qe)) := by
            rw [Hid, HL2.out, most_snoc, HM.out, hqq]; simp
          clear hqq hn
          go_wp2_with fail
          refine kq.mono ?_
          rintro e5 w5 ⟨rfl, hb5⟩
          have hs5 := hb5.size
          obtain ⟨X5, hX5⟩ : ∃ X5, w5.alloc (.cells #[.int .i64 q.1, .int .i64 q.2] 35) = X5 := ⟨_, rfl⟩
          have hbX5 : Below w5.heap.size w5 X5 := by rw [← hX5]; exact ba _ _
          have hzX5 : X5.heap.size = w5.heap.size + 1 := by rw [← hX5]; simp
          have b25 : Below w2.heap.size w2 X5 := bt hbl (bt hbX (bt hb5 hbX5))
          have T5 : Hid (TwoB X5 w2.heap.size (.int .i64 m.1) (.int .i64 m.2)) := ((HT.out.below hbX).below hb5).below hbX5
          have Q5 : Hid (TwoB X5 w5.heap.size (.int .i64 q.1) (.int .i64 q.2)) := by rw [← hX5]; exact TwoB.new _ _ _ 35 _ rfl
          by_cases hq0 : qe = 0
          · subst hq0
            have hokq : OkR q := by
              rcases prod_ok ok_one (lss_ok HOK.out n0 3 p) with ⟨_, h⟩ | h
              · have h2 := HQQ.out; unfold prtP at h2; rw [h2] at h; exact h
              · have h2 := HQQ.out; unfold prtP at h2; rw [h2] at h; simp only [Prod.mk.injEq] at h; omega
            have qb := hokq.bd
            have mb := HOM.out.bd
            obtain ⟨s0, s1, sf0, sf1, hsl⟩ := T5.out
            obtain ⟨k0, k1, kf0, kf1, hkl⟩ := Q5.out
            by_cases hle : LeR m q
            · have HM2 : Hid (mostT (prtP l n0) oneQ (prs (l.take (i + 1)) n0) = (q, 0)) := by rw [Hid, HMS.out]; simp [hle]
              have km := fun W => refMost_any m.1 m.2 q.1 q.2 mb.1 mb.2.1 (by omega) mb.2.2.2 qb.1 qb.2.1 (by omega) qb.2.2.2 true (decide_eq_true hle) W
              clear hle
              go_wp2_with fail
              refine (km _).mono ?_
              rintro e6 w6 ⟨rfl, hb6⟩
              have T6 : Hid (TwoB w6 w2.heap.size (.int .i64 m.1) (.int .i64 m.2)) := T5.out.below hb6
              obtain ⟨s0, s1, sf0, sf1, hsl⟩ := T6.out
              obtain ⟨k0, k1, kf0, kf1, hkl⟩ := Q5.out.below hb6
              have HOQ : Hid (OkR q) := hokq
              have BB : Below w2.heap.size w2 ((w6.setCell ⟨w2.heap.size, 0, none⟩ (.int .i64 q.1)).setCell ⟨w2.heap.size, 1, none⟩ (.int .i64 q.2)) := bs (bs (bt b25 hb6) (Nat.le_refl _) _) (Nat.le_refl _) _
              clear km
              go_wp2_with fail
              go_roundw
              case rel => exact ⟨i + 1, q, by go_num, by omega, HM2, HOQ, BB, T6.out.put _ _⟩
              case measure => simp [intOf]; omega
            · have HM2 : Hid (mostT (prtP l n0) oneQ (prs (l.take (i + 1)) n0) = (m, 0)) := by rw [Hid, HMS.out]; simp [hle]
              have km := fun W => refMost_any m.1 m.2 q.1 q.2 mb.1 mb.2.1 (by omega) mb.2.2.2 qb.1 qb.2.1 (by omega) qb.2.2.2 false (decide_eq_false hle) W
              clear hle
              go_wp2_with fail
              refine (km _).mono ?_
              rintro e6 w6 ⟨rfl, hb6⟩
              have T6 : Hid (TwoB w6 w2.heap.size (.int .i64 m.1) (.int .i64 m.2)) := T5.out.below hb6
              have BB : Below w2.heap.size w2 w6 := bt b25 hb6
              clear km
              go_wp2_with fail
              go_roundw
              case rel => exact ⟨i + 1, m, by go_num, by omega, HM2, HOM, BB, T6⟩
              case measure => simp [intOf]; omega
          · have hrr : (r, er) = ((0, 0), qe) := by
              obtain ⟨ys, hys⟩ := prs_pre l (i + 1) n0
              have h6 := HMS.out
              rw [if_neg hq0] at h6
              have h7 : mostT (prtP l n0) oneQ (prs l n0) = ((0, 0), qe) := by rw [hys, most_more _ _ _ _ (by rw [h6]; exact hq0), h6]
              rw [← HR.out]; unfold spentT; rw [HAL.out, h7]; simp [hq0]
            simp only [Prod.mk.injEq] at hrr
            obtain ⟨rfl, rfl⟩ := hrr
            have hq1 : (er != 0) = true := by simpa using hq0
            have R5 : TwoB X5 w.heap.size (.int .i64 0) (.int .i64 0) := W2.out.below (bt hbl (bt hbX (bt hb5 hbX5)))
            obtain ⟨y0, y1, yf0, yf1, hy5⟩ := R5
            have BZ : Below w.heap.size w ((X5.setCell ⟨w.heap.size, 0, none⟩ (.int .i64 0)).setCell ⟨w.heap.size, 1, none⟩ (.int .i64 0)) := bs (bs (bt hbw (bt hbX (bt hb5 hbX5))) (Nat.le_refl _) _) (Nat.le_refl _) _
            go_wp2_with fail
            exact bodyPost_ret (v := .tuple #[rv 0 0, .int .i64 er]) (by simp [results, Tryz.results9, go_sem, y0, y1]) rfl ⟨rfl, BZ⟩
        · have HM2 : Hid (mostT (prtP l n0) oneQ (prs (l.take (i + 1)) n0) = (m, 0)) := by rw [Hid, HL.out, if_neg hyes, List.append_nil]; exact HM.out
          have hcs : (nm.toList == n0.toList) = false ∨ ((nm.toList == n0.toList) = true ∧ (d == 3) = false) := by
            rw [str_eq]
            by_cases h2 : nm = n0 <;> by_cases h3 : d = 3 <;> simp_all
          clear hyes
          rcases hcs with h2 | ⟨h2, h3⟩
          all_goals
            go_wp2_with fail
            go_roundw
            case rel => exact ⟨i + 1, m, by go_num, by omega, HM2, HOM, bt hbl (ba _ _), HT.out.below (ba _ _)⟩
            case measure => simp [intOf]; omega
      · have hi' : i = l.length := by omega
        subst hi'
        have hmo : mulT al m = (r, er) := by
          have h3 := HM.out
          rw [List.take_length] at h3
          rw [← HR.out]; unfold spentT; rw [HAL.out, h3]; simp
        have kt := fun W => refTimes_any al.1 al.2 m.1 m.2 r.1 r.2 er (by have := mulT_is al m; rw [hmo] at this; exact this) W
        obtain ⟨s0, s1, _, _, hsl⟩ := T2.out.below hbl
        have HWr : Hid (TwoB wr w.heap.size (.int .i64 0) (.int .i64 0)) := W2.out.below hbl
        clear hmo
        go_wp2_with fail
        refine (kt _).mono ?_
        rintro e6 w6 ⟨rfl, hb6⟩
        have R6 : Hid (TwoB w6 w.heap.size (.int .i64 0) (.int .i64 0)) := HWr.out.below hb6
        obtain ⟨y0, y1, yf0, yf1, hy5⟩ := R6.out
        obtain ⟨z0, z1, _, _, _⟩ := R6.out.put (.int .i64 r.1) (.int .i64 r.2)
        have BZ : Below w.heap.size w ((w6.setCell ⟨w.heap.size, 0, none⟩ (.int .i64 r.1)).setCell ⟨w.heap.size, 1, none⟩ (.int .i64 r.2)) := bs (bs (bt hbw hb6) (Nat.le_refl _) _) (Nat.le_refl _) _
        clear kt
        go_wp2_with fail
        exact bodyPost_ret (v := .tuple #[rvq r, .int .i64 er]) (by simp [results, Tryz.results9, go_sem, z0, z1]) rfl ⟨rfl, BZ⟩
  · have hrr : (r, er) = ((0, 0), ae) := by rw [← HR.out]; unfold spentT; rw [HAL.out]; simp [ha0]
    simp only [Prod.mk.injEq] at hrr
    obtain ⟨rfl, rfl⟩ := hrr
    have hq1 : (er != 0) = true := by simpa using ha0
    obtain ⟨X1, hX1⟩ : ∃ X1, w1.alloc (.cells #[.int .i64 al.1, .int .i64 al.2] 35) = X1 := ⟨_, rfl⟩
    have bX1 : Below w1.heap.size w1 X1 := by rw [← hX1]; exact ba _ _
    have R1 : TwoB X1 w.heap.size (.int .i64 0) (.int .i64 0) := W0.out.below bX1
    obtain ⟨y0, y1, yf0, yf1, hy5⟩ := R1
    have BZ : Below w.heap.size w ((X1.setCell ⟨w.heap.size, 0, none⟩ (.int .i64 0)).setCell ⟨w.heap.size, 1, none⟩ (.int .i64 0)) := bs (bs (bt G1 bX1) (Nat.le_refl _) _) (Nat.le_refl _) _
    clear kp
    go_wp2_with fail
    exact bodyPost_ret (v := .tuple #[rv 0 0, .int .i64 er]) (by simp [results, Tryz.results9, go_sem, y0, y1]) rfl ⟨rfl, BZ⟩
end Go.Proofs.YtfibbjngllelbaaGreat
