import Derived.Test.YtfibbjngllelbaaEnt
namespace Go.Proofs.Ytfibbjngllelbaa
open Go.RowKit Go.Proofs.Ytfibbjngllelbaa.Ds

theorem rone_any (w : World) : Calls Try.prog 18 #[] w fun e w' => e = .returned (rv 1 1) ∧ Below w.heap.size w w' := by
  go_enter Try.func18, Try.ntmps18
  go_wp2
  exact bodyPost_ret (v := rv 1 1) (by simp [results, Try.results18, go_sem]) rfl ⟨rfl, ba _ _⟩

theorem lss_take {l : List En} {i : Nat} {e : En} (h : l[i]? = some e) (n : ByteArray) (d p : Int) : lss (l.take (i + 1)) n d p = lss (l.take i) n d p ++ (if isE n d p e = true then [e.2.2.2] else []) := by
  rw [List.take_add_one, h]; exact lss_snoc _ _ _ _ _
theorem prod_more {r : Rq} {xs ys : List Rq} (h : (prodT r xs).2 ≠ 0) : prodT r (xs ++ ys) = prodT r xs := by
  induction xs generalizing r with
  | nil => exact absurd rfl h
  | cons x xs ih =>
    simp only [prodT, List.cons_append] at h ⊢
    by_cases c : (mulT r x).2 = 0
    · simp only [c, ↓reduceIte] at h ⊢; exact ih h
    · simp [c]
theorem lss_pre (l : List En) (i : Nat) (n : ByteArray) (d p : Int) : ∃ ys, lss l n d p = lss (l.take i) n d p ++ ys := by
  refine ⟨lss (l.drop i) n d p, ?_⟩
  unfold lss
  rw [← List.map_append, ← List.filter_append, List.take_append_drop]

set_option maxHeartbeats 2000000 in
set_option maxRecDepth 100000 in
/-- Product -/
theorem product_any (B : Nat) (v : Value) (l : List En) (n0 : ByteArray) (d0 p0 : Int) (w : World) (hB : B ≤ w.heap.size) (hx : Ents w B v l) (r : Rq) (er : Int) (hr : prodT oneQ (lss l n0 d0 p0) = (r, er)) :
    Calls Try.prog 8 #[v, .string n0, .int .i64 d0, .int .i64 p0] w fun x w' => x = .returned (.tuple #[rvq r, .int .i64 er]) ∧ Below w.heap.size w w' := by
  have HX : Hid (Ents w B v l) := hx
  have HR : Hid (prodT oneQ (lss l n0 d0 p0) = (r, er)) := hr
  obtain ⟨a, c, rfl, hc, hl⟩ := hx.slice
  clear hr
  have V0 : Hid (TwoB (w.alloc (.cells #[.int .i64 0, .int .i64 0] 31)) w.heap.size (.int .i64 0) (.int .i64 0)) := TwoB.new _ _ _ 31 _ rfl
  go_enter Try.func8, Try.ntmps8
  go_wp2_with fail
  refine (rone_any _).mono ?_
  rintro e1 w1 ⟨rfl, hb1⟩
  have G1 := bt (ba _ _) hb1
  have hz1 : w.heap.size < w1.heap.size := by have := hb1.size; simp at this; omega
  have W0 : Hid (TwoB w1 w.heap.size (.int .i64 0) (.int .i64 0)) := V0.out.below hb1
  go_wp2_with fail
  go_loopw [17] (fun s wr => ∃ (i : Nat) (q : Rq), s = .int .i64 (i : Int) ∧ i ≤ l.length ∧ Hid (prodT oneQ (lss (l.take i) n0 d0 p0) = (q, 0)) ∧ Below w1.heap.size w1 wr ∧ Hid (TwoB wr w1.heap.size (.int .i64 q.1) (.int .i64 q.2))) (fun s _ => l.length - (intOf s).toNat)
  case atStart => exact ⟨0, oneQ, rfl, Nat.zero_le _, by simp [Hid, lss, prodT], ba _ _, TwoB.new _ _ _ 31 _ rfl⟩
  case round =>
    obtain ⟨i, q, rfl, hi, HQ, hbl, HT⟩ := hrel
    have hbw : Below w.heap.size w wr := bt G1 hbl
    obtain ⟨t0, t1, tf0, tf1, htl⟩ := HT.out
    by_cases h1 : i < l.length
    · obtain ⟨b, o, d, nm, p, u, v, rfl, hb, hg, e0, e1, e2, e3, e4, _⟩ := HX.out.get hB hbw h1
      have HL : Hid (lss (l.take (i + 1)) n0 d0 p0 = lss (l.take i) n0 d0 p0 ++ (if isE n0 d0 p0 (d, nm, p, u, v) = true then [(u, v)] else [])) := lss_take hg n0 d0 p0
      have hcs : (isE n0 d0 p0 (d, nm, p, u, v) = false ∧ ((nm.toList == n0.toList) = false ∨ ((nm.toList == n0.toList) = true ∧ ((d == d0) = false ∨ ((d == d0) = true ∧ (d0 != 3) = false ∧ (p == p0) = false))))) ∨ (isE n0 d0 p0 (d, nm, p, u, v) = true ∧ (nm.toList == n0.toList) = true ∧ (d == d0) = true ∧ ((d0 != 3) = true ∨ ((d0 != 3) = false ∧ (p == p0) = true))) := by
        rw [str_eq]
        unfold isE
        by_cases h2 : nm = n0 <;> by_cases h3 : d = d0 <;> by_cases h4 : d0 = 3 <;> by_cases h5 : p = p0 <;> first | (simp [h2, h3, h4, h5]; done) | (simp [h2, h4, h5]; omega)
      clear hg
      rcases hcs with ⟨hno, hcs⟩ | ⟨hyes, hn1, hd1, hcs⟩
      · have HQ2 : Hid (prodT oneQ (lss (l.take (i + 1)) n0 d0 p0) = (q, 0)) := by
          rw [Hid, HL.out, hno]; simpa using HQ.out
        clear hno
        rcases hcs with h2 | ⟨h2, h3 | ⟨h3, h4, h5⟩⟩
        all_goals
          go_wp2_with fail
          go_roundw
          case rel => exact ⟨i + 1, q, by go_num, by omega, HQ2, bt hbl (ba _ _), HT.out.below (ba _ _)⟩
          case measure => simp [intOf]; omega
      · obtain ⟨⟨q', er'⟩, hm⟩ : ∃ y, mulT q (u, v) = y := ⟨_, rfl⟩
        have kt := refTimes_any q.1 q.2 u v q'.1 q'.2 er' (by have := mulT_is q (u, v); rw [hm] at this; exact this)
        have HS : Hid (prodT oneQ (lss (l.take (i + 1)) n0 d0 p0) = if er' = 0 then (q', er') else ((0, 0), er')) := by
          rw [Hid, HL.out, hyes, if_pos rfl, prod_snoc, HQ.out]; simp [hm]
        clear hyes hm
        have hres : TwoB wr w.heap.size (.int .i64 0) (.int .i64 0) := by
          have h := W0.out
          exact ⟨(hbl.cell (p := ⟨w.heap.size, 0, none⟩) hz1).trans h.c0, (hbl.cell (p := ⟨w.heap.size, 1, none⟩) hz1).trans h.c1, (hbl.frozen (p := ⟨w.heap.size, 0, none⟩) hz1).trans h.f0, (hbl.frozen (p := ⟨w.heap.size, 1, none⟩) hz1).trans h.f1, Nat.lt_of_lt_of_le hz1 hbl.size⟩
        by_cases h0 : er' = 0
        · subst h0
          have HS2 : Hid (prodT oneQ (lss (l.take (i + 1)) n0 d0 p0) = (q', 0)) := by rw [Hid, HS.out]; simp
          rcases hcs with h2 | ⟨h2, h3⟩
          all_goals
            go_wp2_with fail
            refine (kt _).mono ?_
            rintro e5 w5 ⟨rfl, hb5⟩
            have T5 : Hid (TwoB w5 w1.heap.size (.int .i64 q.1) (.int .i64 q.2)) := (HT.out.below (ba _ _)).below hb5
            obtain ⟨s0, s1, sf0, sf1, hs5⟩ := T5.out
            go_wp2_with fail
            go_roundw
            case rel => exact ⟨i + 1, q', by go_num, by omega, HS2, bs (bs (bt hbl (bt (ba _ _) hb5)) (Nat.le_refl _) _) (Nat.le_refl _) _, T5.out.put _ _⟩
            case measure => simp [intOf]; omega
        · have hrr : (r, er) = ((0, 0), er') := by
            obtain ⟨ys, hys⟩ := lss_pre l (i + 1) n0 d0 p0
            have h6 := HS.out
            rw [if_neg h0] at h6
            rw [← HR.out, hys, prod_more (by rw [h6]; exact h0), h6]
          simp only [Prod.mk.injEq] at hrr
          obtain ⟨rfl, rfl⟩ := hrr
          have hq0 : (er != 0) = true := by simpa using h0
          rcases hcs with h2 | ⟨h2, h3⟩
          all_goals
            go_wp2_with fail
            refine (kt _).mono ?_
            rintro e5 w5 ⟨rfl, hb5⟩
            obtain ⟨s0, s1, sf0, sf1, hs5⟩ := (HT.out.below (ba _ _)).below hb5
            obtain ⟨y0, y1, yf0, yf1, hy5⟩ := (hres.below (ba _ _)).below hb5
            go_wp2_with fail
            exact bodyPost_ret (v := .tuple #[rv 0 0, .int .i64 er]) (by simp [results, Try.results8, go_sem, y0, y1]) rfl ⟨rfl, bs (bs (bs (bs (bt hbw (bt (ba _ _) hb5)) (by simp; omega) _) (by simp; omega) _) (Nat.le_refl _) _) (Nat.le_refl _) _⟩
    · have hi' : i = l.length := by omega
      subst hi'
      have hrr : (r, er) = (q, 0) := by
        have h3 := HQ.out
        rw [List.take_length] at h3
        rw [← HR.out, h3]
      simp only [Prod.mk.injEq] at hrr
      obtain ⟨rfl, rfl⟩ := hrr
      have h := W0.out
      have y0 := (hbl.cell (p := ⟨w.heap.size, 0, none⟩) hz1).trans h.c0
      have y1 := (hbl.cell (p := ⟨w.heap.size, 1, none⟩) hz1).trans h.c1
      have yf0 := (hbl.frozen (p := ⟨w.heap.size, 0, none⟩) hz1).trans h.f0
      have yf1 := (hbl.frozen (p := ⟨w.heap.size, 1, none⟩) hz1).trans h.f1
      clear h
      go_wp2_with fail
      exact bodyPost_ret (v := .tuple #[rvq r, .int .i64 0]) (by simp [results, Try.results8, go_sem, y0, y1]) rfl ⟨rfl, bs (bs hbw (Nat.le_refl _) _) (Nat.le_refl _) _⟩
end Go.Proofs.Ytfibbjngllelbaa
