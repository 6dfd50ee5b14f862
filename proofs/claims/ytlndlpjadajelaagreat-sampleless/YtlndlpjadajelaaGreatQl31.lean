import Derived.Test.YtlndlpjadajelaaGreatQl30
import Derived.Deep.RegionHeld3
import Derived.RegionDies
namespace Go.Proofs.YtlndlpjadajelaaGreat.K
open Go.RowKit Go.Proofs.YtlndlpjadajelaaGreat.K.Ds

/-- how a reckoning ends -/
def endB : Except Int Bnd → Ending
  | .error e => .panicked (chn e)
  | .ok b => .returned (.agg #[.int .i64 b.1, .int .i64 b.2.1, .int .i64 b.2.2])
/-- the cells that reckoned makes -/
structure Rk (W : World) (N : Nat) (k : Int) (c : ByteArray) (lo hi : Int) (wv kv : Value) (x1 x2 x3 y1 y2 y3 : Int) : Prop where
  a0 : Cl W N 0 (.int .i64 k)
  a1 : Cl W N 1 (.string c)
  a2 : Cl W N 2 (.int .i64 lo)
  a3 : Cl W N 3 (.int .i64 hi)
  a4 : Cl W N 4 wv
  a5 : Cl W N 5 kv
  b0 : Cl W (N + 1) 0 (.int .i64 x1)
  b1 : Cl W (N + 1) 1 (.int .i64 x2)
  b2 : Cl W (N + 1) 2 (.int .i64 x3)
  d0 : Cl W (N + 1 + 1) 0 (.int .i64 y1)
  d1 : Cl W (N + 1 + 1) 1 (.int .i64 y2)
  d2 : Cl W (N + 1 + 1) 2 (.int .i64 y3)
  e0 : Cl W (N + 1 + 1 + 1) 0 (.int .i64 0)
  e1 : Cl W (N + 1 + 1 + 1) 1 (.int .i64 0)
  e2 : Cl W (N + 1 + 1 + 1) 2 (.int .i64 0)
theorem Rk.at {W W' : World} {N : Nat} {k : Int} {c : ByteArray} {lo hi : Int} {wv kv : Value} {x1 x2 x3 y1 y2 y3 : Int} (h : Rk W N k c lo hi wv kv x1 x2 x3 y1 y2 y3) (hb : Below W.heap.size W W') : Rk W' N k c lo hi wv kv x1 x2 x3 y1 y2 y3 :=
  ⟨h.a0.at hb, h.a1.at hb, h.a2.at hb, h.a3.at hb, h.a4.at hb, h.a5.at hb, h.b0.at hb, h.b1.at hb, h.b2.at hb, h.d0.at hb, h.d1.at hb, h.d2.at hb, h.e0.at hb, h.e1.at hb, h.e2.at hb⟩
theorem Rk.new (w : World) (k : Int) (c : ByteArray) (lo hi : Int) (wv kv : Value) (x1 x2 x3 y1 y2 y3 : Int) :
    Rk ((((w.alloc (.cells #[.int .i64 k, .string c, .int .i64 lo, .int .i64 hi, wv, kv] 31)).alloc (.cells #[.int .i64 x1, .int .i64 x2, .int .i64 x3] 61)).alloc (.cells #[.int .i64 y1, .int .i64 y2, .int .i64 y3] 61)).alloc (.cells #[.int .i64 0, .int .i64 0, .int .i64 0] 61)) w.heap.size k c lo hi wv kv x1 x2 x3 y1 y2 y3 := by
  constructor
  all_goals first
    | exact (((Cl.new _ 31 _ _ rfl rfl).at (ba _ _)).at (ba _ _)).at (ba _ _)
    | exact ((Cl.new _ 61 _ _ (by simp) rfl).at (ba _ _)).at (ba _ _)
    | exact (Cl.new _ 61 _ _ (by simp) rfl).at (ba _ _)
    | exact Cl.new _ 61 _ _ (by simp) rfl
theorem Rk.ret {W : World} {N : Nat} {k : Int} {c : ByteArray} {lo hi : Int} {wv kv : Value} {x1 x2 x3 y1 y2 y3 : Int} (h : Rk W N k c lo hi wv kv x1 x2 x3 y1 y2 y3) (b1 b2 b3 : Int) :
    Hid (Cl (((W.setCell ⟨N + 1 + 1 + 1, 0, none⟩ (.int .i64 b1)).setCell ⟨N + 1 + 1 + 1, 1, none⟩ (.int .i64 b2)).setCell ⟨N + 1 + 1 + 1, 2, none⟩ (.int .i64 b3)) (N + 1 + 1 + 1) 0 (.int .i64 b1) ∧ Cl (((W.setCell ⟨N + 1 + 1 + 1, 0, none⟩ (.int .i64 b1)).setCell ⟨N + 1 + 1 + 1, 1, none⟩ (.int .i64 b2)).setCell ⟨N + 1 + 1 + 1, 2, none⟩ (.int .i64 b3)) (N + 1 + 1 + 1) 1 (.int .i64 b2) ∧ Cl (((W.setCell ⟨N + 1 + 1 + 1, 0, none⟩ (.int .i64 b1)).setCell ⟨N + 1 + 1 + 1, 1, none⟩ (.int .i64 b2)).setCell ⟨N + 1 + 1 + 1, 2, none⟩ (.int .i64 b3)) (N + 1 + 1 + 1) 2 (.int .i64 b3)) := by
  refine ⟨?_, ?_, ?_⟩
  · exact ((h.e0.set _).oth (.inr (by decide)) _).oth (.inr (by decide)) _
  · exact (Cl.set (h.e1.oth (.inr (by decide)) _) _).oth (.inr (by decide)) _
  · exact Cl.set ((h.e2.oth (.inr (by decide)) _).oth (.inr (by decide)) _) _
abbrev RkC (w : World) (lv : Value) (k : Int) (c : ByteArray) (lo hi : Int) (wv kv : Value) (x1 x2 x3 y1 y2 y3 : Int) (r : Except Int Bnd) : Prop :=
  Calls Tryz.prog 125 #[lv, .agg #[.int .i64 k, .string c, .int .i64 lo, .int .i64 hi, wv, kv], .agg #[.int .i64 x1, .int .i64 x2, .int .i64 x3], .agg #[.int .i64 y1, .int .i64 y2, .int .i64 y3]] w fun e w' => e = endB r ∧ Below w.heap.size w w'
theorem b4 (w : World) (o1 o2 o3 o4 : Obj) : Below w.heap.size w ((((w.alloc o1).alloc o2).alloc o3).alloc o4) := bal (bal (bal (ba _ _) _) _) _
theorem b3s {w W : World} (h : Below w.heap.size w W) (u0 u1 u2 : Value) : Below w.heap.size w (((W.setCell ⟨w.heap.size + 1 + 1 + 1, 0, none⟩ u0).setCell ⟨w.heap.size + 1 + 1 + 1, 1, none⟩ u1).setCell ⟨w.heap.size + 1 + 1 + 1, 2, none⟩ u2) :=
  bs (bs (bs h (by dsimp only; omega) _) (by dsimp only; omega) _) (by dsimp only; omega) _

set_option maxHeartbeats 1000000 in
set_option maxRecDepth 100000 in
theorem rck7_any (lv : Value) (c : ByteArray) (lo hi : Int) (wv kv : Value) (x1 x2 x3 y1 y2 y3 : Int) (hx : BOk (x1, x2, x3)) (hy : BOk (y1, y2, y3)) (w : World) : RkC w lv 7 c lo hi wv kv x1 x2 x3 y1 y2 y3 (.ok (x1 + y1, x2 + y2, mx x3 y3)) := by
  obtain ⟨p1, p2, p3, p4, p5, p6⟩ := hx
  obtain ⟨q1, q2, q3, q4, q5, q6⟩ := hy
  simp only at p1 p2 p3 p4 p5 p6 q1 q2 q3 q4 q5 q6
  go_enter Tryz.func125, Tryz.ntmps125
  go_wp2
  · exact bodyPost_ret (v := .agg #[.int .i64 (x1 + y1), .int .i64 (x2 + y2), .int .i64 (y3)]) (by simp [results, Tryz.results125, go_sem]) rfl ⟨by rw [show mx x3 y3 = y3 by unfold mx; split <;> omega]; rfl, b4 _ _ _ _ _⟩
  · exact bodyPost_ret (v := .agg #[.int .i64 (x1 + y1), .int .i64 (x2 + y2), .int .i64 (x3)]) (by simp [results, Tryz.results125, go_sem]) rfl ⟨by rw [show mx x3 y3 = x3 by unfold mx; split <;> omega]; rfl, b4 _ _ _ _ _⟩
set_option maxHeartbeats 1000000 in
set_option maxRecDepth 100000 in
theorem rck8_any (lv : Value) (c : ByteArray) (lo hi : Int) (wv kv : Value) (x1 x2 x3 y1 y2 y3 : Int) (hx : BOk (x1, x2, x3)) (hy : BOk (y1, y2, y3)) (w : World) : RkC w lv 8 c lo hi wv kv x1 x2 x3 y1 y2 y3 (.ok (1, x2, x1 * x3)) := by
  obtain ⟨p1, p2, p3, p4, p5, p6⟩ := hx
  obtain ⟨q1, q2, q3, q4, q5, q6⟩ := hy
  simp only at p1 p2 p3 p4 p5 p6 q1 q2 q3 q4 q5 q6
  have hm := mul_bd p1 p2 p5 p6
  have hw : wrap64 (x1 * x3) = x1 * x3 := wrap_id (by omega)
  go_enter Tryz.func125, Tryz.ntmps125
  go_wp2
  exact bodyPost_ret (v := .agg #[.int .i64 (1), .int .i64 (x2), .int .i64 (x1 * x3)]) (by simp [results, Tryz.results125, go_sem]) rfl ⟨rfl, b4 _ _ _ _ _⟩
set_option maxHeartbeats 1000000 in
set_option maxRecDepth 100000 in
theorem rck4_any (lv : Value) (c : ByteArray) (lo hi : Int) (wv kv : Value) (x1 x2 x3 y1 y2 y3 : Int) (hx : BOk (x1, x2, x3)) (hy : BOk (y1, y2, y3)) (w : World) : RkC w lv 4 c lo hi wv kv x1 x2 x3 y1 y2 y3 (if x1 = y1 then .ok (x1, x2 + y2, x3 + y3) else .error 8) := by
  obtain ⟨p1, p2, p3, p4, p5, p6⟩ := hx
  obtain ⟨q1, q2, q3, q4, q5, q6⟩ := hy
  simp only at p1 p2 p3 p4 p5 p6 q1 q2 q3 q4 q5 q6
  go_enter Tryz.func125, Tryz.ntmps125
  by_cases h : x1 = y1
  · rw [if_pos h]
    subst h
    go_wp2_with fail
    refine (must_ok 8 _).mono ?_
    rintro e w2 ⟨rfl, rfl⟩
    go_wp2
    exact bodyPost_ret (v := .agg #[.int .i64 (x1), .int .i64 (x2 + y2), .int .i64 (x3 + y3)]) (by simp [results, Tryz.results125, go_sem]) rfl ⟨rfl, b4 _ _ _ _ _⟩
  · rw [if_neg h]
    have hq : (x1 == y1) = false := by simpa using h
    go_wp2_with fail
    refine (must_no 8 _).mono ?_
    rintro e w2 ⟨rfl, rfl⟩
    go_wp2
    exact ⟨rfl, rfl, b4 _ _ _ _ _⟩
set_option maxHeartbeats 1000000 in
set_option maxRecDepth 100000 in
theorem rck5_any (lv : Value) (c : ByteArray) (lo hi : Int) (wv kv : Value) (x1 x2 x3 y1 y2 y3 : Int) (hx : BOk (x1, x2, x3)) (hy : BOk (y1, y2, y3)) (w : World) : RkC w lv 5 c lo hi wv kv x1 x2 x3 y1 y2 y3 (if x1 = y1 then .ok (x1, x2 + y2, x3 + y3) else .error 8) := by
  obtain ⟨p1, p2, p3, p4, p5, p6⟩ := hx
  obtain ⟨q1, q2, q3, q4, q5, q6⟩ := hy
  simp only at p1 p2 p3 p4 p5 p6 q1 q2 q3 q4 q5 q6
  go_enter Tryz.func125, Tryz.ntmps125
  by_cases h : x1 = y1
  · rw [if_pos h]
    subst h
    go_wp2_with fail
    refine (must_ok 8 _).mono ?_
    rintro e w2 ⟨rfl, rfl⟩
    go_wp2
    exact bodyPost_ret (v := .agg #[.int .i64 (x1), .int .i64 (x2 + y2), .int .i64 (x3 + y3)]) (by simp [results, Tryz.results125, go_sem]) rfl ⟨rfl, b4 _ _ _ _ _⟩
  · rw [if_neg h]
    have hq : (x1 == y1) = false := by simpa using h
    go_wp2_with fail
    refine (must_no 8 _).mono ?_
    rintro e w2 ⟨rfl, rfl⟩
    go_wp2
    exact ⟨rfl, rfl, b4 _ _ _ _ _⟩
set_option maxHeartbeats 1000000 in
set_option maxRecDepth 100000 in
theorem rck9_any (lv : Value) (c : ByteArray) (lo hi : Int) (wv kv : Value) (x1 x2 x3 y1 y2 y3 : Int) (hx : BOk (x1, x2, x3)) (hy : BOk (y1, y2, y3)) (w : World) : RkC w lv 9 c lo hi wv kv x1 x2 x3 y1 y2 y3 (if 0 ≤ lo ∧ lo < x1 then .ok (1, x2, x3) else .error 3) := by
  obtain ⟨p1, p2, p3, p4, p5, p6⟩ := hx
  obtain ⟨q1, q2, q3, q4, q5, q6⟩ := hy
  simp only at p1 p2 p3 p4 p5 p6 q1 q2 q3 q4 q5 q6
  go_enter Tryz.func125, Tryz.ntmps125
  by_cases h : 0 ≤ lo ∧ lo < x1
  · rw [if_pos h]
    obtain ⟨h1, h2⟩ := h
    go_wp2_with fail
    refine (must_ok 3 _).mono ?_
    rintro e w2 ⟨rfl, rfl⟩
    go_wp2
    exact bodyPost_ret (v := .agg #[.int .i64 (1), .int .i64 (x2), .int .i64 (x3)]) (by simp [results, Tryz.results125, go_sem]) rfl ⟨rfl, b4 _ _ _ _ _⟩
  · rw [if_neg h]
    by_cases h1 : 0 ≤ lo
    · have h2 : ¬ lo < x1 := fun h2 => h ⟨h1, h2⟩
      go_wp2_with fail
      refine (must_no 3 _).mono ?_
      rintro e w2 ⟨rfl, rfl⟩
      go_wp2
      exact ⟨rfl, rfl, b4 _ _ _ _ _⟩
    · go_wp2_with fail
      refine (must_no 3 _).mono ?_
      rintro e w2 ⟨rfl, rfl⟩
      go_wp2
      exact ⟨rfl, rfl, b4 _ _ _ _ _⟩
set_option maxHeartbeats 1000000 in
set_option maxRecDepth 100000 in
theorem rck6_any (lv : Value) (c : ByteArray) (lo hi : Int) (wv kv : Value) (x1 x2 x3 y1 y2 y3 : Int) (hx : BOk (x1, x2, x3)) (hy : BOk (y1, y2, y3)) (w : World) : RkC w lv 6 c lo hi wv kv x1 x2 x3 y1 y2 y3 (if wrtB lo lo then .ok (x1, spn lo lo * x2, spn lo lo * x3) else .error 3) := by
  obtain ⟨p1, p2, p3, p4, p5, p6⟩ := hx
  obtain ⟨q1, q2, q3, q4, q5, q6⟩ := hy
  simp only at p1 p2 p3 p4 p5 p6 q1 q2 q3 q4 q5 q6
  go_enter Tryz.func125, Tryz.ntmps125
  cases h : wrtB lo lo with
  | true =>
    have h0 := spn_bd h
    have m1 := mul_bd h0.1 h0.2 p3 p4
    have m2 := mul_bd h0.1 h0.2 p5 p6
    have k1 := fun W => span_ok lo lo W h
    obtain ⟨s, hs⟩ : ∃ s, spn lo lo = s := ⟨_, rfl⟩
    rw [hs] at h0 m1 m2 k1
    rw [if_pos rfl, hs]
    have hw1 : wrap64 (s * x2) = s * x2 := wrap_id (by omega)
    have hw2 : wrap64 (s * x3) = s * x3 := wrap_id (by omega)
    clear hs h
    go_wp2_with fail
    refine (k1 _).mono ?_
    rintro e w2 ⟨rfl, rfl⟩
    clear k1
    go_wp2
    exact bodyPost_ret (v := .agg #[.int .i64 (x1), .int .i64 (s * x2), .int .i64 (s * x3)]) (by simp [results, Tryz.results125, go_sem]) rfl ⟨rfl, b4 _ _ _ _ _⟩
  | false =>
    rw [if_neg (by simp)]
    go_wp2_with fail
    refine (span_no lo lo _ h).mono ?_
    rintro e w2 ⟨rfl, rfl⟩
    go_wp2
    exact ⟨rfl, rfl, b4 _ _ _ _ _⟩
set_option maxHeartbeats 1000000 in
set_option maxRecDepth 100000 in
theorem rck1_any (lv : Value) (c : ByteArray) (lo hi : Int) (wv kv : Value) (x1 x2 x3 y1 y2 y3 : Int) (hx : BOk (x1, x2, x3)) (hy : BOk (y1, y2, y3)) (w : World) (B : Nat) (l : List Col) (wh : List Tst) (hB : B ≤ w.heap.size) (hp : Cols w B lv l) (hq : Tss w B wv wh) (r : Except Int Bnd) (hr : ifW (whE l wh) (1, 1, 4096) = r) : RkC w lv 1 c lo hi wv kv x1 x2 x3 y1 y2 y3 (r) := by
  obtain ⟨p1, p2, p3, p4, p5, p6⟩ := hx
  obtain ⟨q1, q2, q3, q4, q5, q6⟩ := hy
  simp only at p1 p2 p3 p4 p5 p6 q1 q2 q3 q4 q5 q6
  obtain ⟨er, her⟩ : ∃ er, whE l wh = er := ⟨_, rfl⟩
  rw [her] at hr
  have HR : Hid (ifW er (1, 1, 4096) = r) := hr
  have rk := Rk.new w 1 c lo hi wv kv x1 x2 x3 y1 y2 y3
  have k1 := passing_any B lv wv l wh ((((w.alloc (.cells #[.int .i64 1, .string c, .int .i64 lo, .int .i64 hi, wv, kv] 31)).alloc (.cells #[.int .i64 x1, .int .i64 x2, .int .i64 x3] 61)).alloc (.cells #[.int .i64 y1, .int .i64 y2, .int .i64 y3] 61)).alloc (.cells #[.int .i64 0, .int .i64 0, .int .i64 0] 61)) (by simp; omega) (hp.at hB (b4 _ _ _ _ _)) (hq.at hB (b4 _ _ _ _ _)) er her
  obtain ⟨wa, wc, rfl, _⟩ := hq.slice
  obtain ⟨la, lc, rfl, hlc, hll⟩ := hp.slice
  clear her hp hq hr
  go_enter Tryz.func125, Tryz.ntmps125
  go_wp2_with fail
  refine k1.mono ?_
  rintro e w1 ⟨hb1, h⟩
  clear k1
  have hbw : Below w.heap.size w w1 := bt (b4 _ _ _ _ _) hb1
  have rk1 := rk.at hb1
  clear hb1 rk
  rcases h with ⟨rfl, A, sv, es, _, rfl, _⟩ | ⟨he, rfl⟩
  · obtain rfl : Except.ok (1, 1, 4096) = r := by rw [← HR.out, ifW, if_pos rfl]
    have t0 := rk1.e0.c
    have t1 := rk1.e1.c
    have t2 := rk1.e2.c
    have s0 := rk1.e0.f
    have s1 := rk1.e1.f
    have s2 := rk1.e2.f
    go_wp2
    exact bodyPost_ret (v := .agg #[.int .i64 (1), .int .i64 (1), .int .i64 (4096)]) (by simp [results, Tryz.results125, go_sem, t0, t1, t2]) rfl ⟨rfl, b3s hbw _ _ _⟩
  · obtain rfl : Except.error er = r := by rw [← HR.out, ifW, if_neg he]
    go_wp2
    exact ⟨rfl, rfl, hbw⟩
set_option maxHeartbeats 1000000 in
set_option maxRecDepth 100000 in
theorem rck2_any (lv : Value) (c : ByteArray) (lo hi : Int) (wv kv : Value) (x1 x2 x3 y1 y2 y3 : Int) (hx : BOk (x1, x2, x3)) (hy : BOk (y1, y2, y3)) (w : World) (B : Nat) (l : List Col) (wh : List Tst) (hB : B ≤ w.heap.size) (hp : Cols w B lv l) (hq : Tss w B wv wh) (r : Except Int Bnd) (hr : rec l 2 c lo hi wh (x1, x2, x3) (y1, y2, y3) = r) : RkC w lv 2 c lo hi wv kv x1 x2 x3 y1 y2 y3 (r) := by
  obtain ⟨p1, p2, p3, p4, p5, p6⟩ := hx
  obtain ⟨q1, q2, q3, q4, q5, q6⟩ := hy
  simp only at p1 p2 p3 p4 p5 p6 q1 q2 q3 q4 q5 q6
  have rk := Rk.new w 2 c lo hi wv kv x1 x2 x3 y1 y2 y3
  have HP : Hid (Cols w B lv l) := hp
  have HQ : Hid (Tss w B wv wh) := hq
  have HR : Hid (rec l 2 c lo hi wh (x1, x2, x3) (y1, y2, y3) = r) := hr
  obtain ⟨wa, wc, rfl, _⟩ := hq.slice
  obtain ⟨la, lc, rfl, hlc, hll⟩ := hp.slice
  clear hp hq hr
  go_enter Tryz.func125, Tryz.ntmps125
  cases hf : fnd l c with
  | none =>
    obtain rfl : Except.error 7 = r := by rw [← HR.out]; simp [rec, hf]
    have k1 := find_no B _ l c ((((w.alloc (.cells #[.int .i64 2, .string c, .int .i64 lo, .int .i64 hi, .slice wa wh.length wc, kv] 31)).alloc (.cells #[.int .i64 x1, .int .i64 x2, .int .i64 x3] 61)).alloc (.cells #[.int .i64 y1, .int .i64 y2, .int .i64 y3] 61)).alloc (.cells #[.int .i64 0, .int .i64 0, .int .i64 0] 61)) (by simp; omega) (HP.out.at hB (b4 _ _ _ _ _)) hf
    clear hf
    go_wp2_with fail
    refine k1.mono ?_
    rintro e w1 ⟨rfl, hb1⟩
    have hbw : Below w.heap.size w w1 := bt (b4 _ _ _ _ _) hb1
    go_wp2
    exact ⟨rfl, rfl, hbw⟩
  | some i =>
    have HF : Hid (fnd l c = some i) := hf
    have k1 := find_ok B _ l c ((((w.alloc (.cells #[.int .i64 2, .string c, .int .i64 lo, .int .i64 hi, .slice wa wh.length wc, kv] 31)).alloc (.cells #[.int .i64 x1, .int .i64 x2, .int .i64 x3] 61)).alloc (.cells #[.int .i64 y1, .int .i64 y2, .int .i64 y3] 61)).alloc (.cells #[.int .i64 0, .int .i64 0, .int .i64 0] 61)) (by simp; omega) (HP.out.at hB (b4 _ _ _ _ _)) i hf
    clear hf
    go_wp2_with fail
    refine k1.mono ?_
    rintro e w1 ⟨rfl, hb1⟩
    have hbw : Below w.heap.size w w1 := bt (b4 _ _ _ _ _) hb1
    have rk1 := rk.at hb1
    clear hb1 rk k1
    have hsw := hbw.size
    have rk1a0 := rk1.a0.c
    have rk1a1 := rk1.a1.c
    have rk1a2 := rk1.a2.c
    have rk1a3 := rk1.a3.c
    have rk1a4 := rk1.a4.c
    cases hw : wrtB lo hi with
    | false =>
      obtain rfl : Except.error 3 = r := by rw [← HR.out]; simp [rec, HF.out, hw]
      go_wp2_with fail
      refine (span_no lo hi _ hw).mono ?_
      rintro e w2 ⟨rfl, rfl⟩
      go_wp2
      exact ⟨rfl, rfl, hbw⟩
    | true =>
      have h0 := spn_bd hw
      have k2 := fun W => span_ok lo hi W hw
      have HR2 : Hid (ifW (whE l wh) (1, spn lo hi, 4096 * spn lo hi) = r) := by show _ = _; have := HR.out; simpa [rec, HF.out, hw] using this
      obtain ⟨s, hs⟩ : ∃ s, spn lo hi = s := ⟨_, rfl⟩
      obtain ⟨er, her⟩ : ∃ er, whE l wh = er := ⟨_, rfl⟩
      rw [hs] at h0 k2 HR2
      rw [her] at HR2
      have k3 := passing_any B _ _ l wh w1 (by omega) (HP.out.at hB hbw) (HQ.out.at hB hbw) er her
      clear hs hw her HR
      have HR : Hid (ifW er (1, s, 4096 * s) = r) := HR2
      clear HR2
      go_wp2_with fail
      refine (k2 _).mono ?_
      rintro e w2 ⟨rfl, rfl⟩
      clear k2
      go_wp2_with fail
      refine k3.mono ?_
      rintro e w3 ⟨hb3, h⟩
      clear k3
      have hbw3 : Below w.heap.size w w3 := bt hbw hb3
      have rk3 := rk1.at hb3
      clear rk1a0 rk1a1 rk1a2 rk1a3 rk1a4
      clear hb3 rk1 hbw hsw
      rcases h with ⟨rfl, A, sv, es, _, rfl, _⟩ | ⟨he, rfl⟩
      · obtain rfl : Except.ok (1, s, 4096 * s) = r := by rw [← HR.out, ifW, if_pos rfl]
        have t0 := rk3.e0.c
        have t1 := rk3.e1.c
        have t2 := rk3.e2.c
        have s0 := rk3.e0.f
        have s1 := rk3.e1.f
        have s2 := rk3.e2.f
        go_wp2
        exact bodyPost_ret (v := .agg #[.int .i64 (1), .int .i64 (s), .int .i64 (4096 * s)]) (by simp [results, Tryz.results125, go_sem, t0, t1, t2]) rfl ⟨rfl, b3s hbw3 _ _ _⟩
      · obtain rfl : Except.error er = r := by rw [← HR.out, ifW, if_neg he]
        go_wp2
        exact ⟨rfl, rfl, hbw3⟩
set_option maxHeartbeats 1000000 in
set_option maxRecDepth 100000 in
theorem rck3_any (lv : Value) (c : ByteArray) (lo hi : Int) (wv kv : Value) (x1 x2 x3 y1 y2 y3 : Int) (hx : BOk (x1, x2, x3)) (hy : BOk (y1, y2, y3)) (w : World) (B : Nat) (l : List Col) (wh : List Tst) (hB : B ≤ w.heap.size) (hp : Cols w B lv l) (hq : Tss w B wv wh) (r : Except Int Bnd) (hr : rec l 3 c lo hi wh (x1, x2, x3) (y1, y2, y3) = r) : RkC w lv 3 c lo hi wv kv x1 x2 x3 y1 y2 y3 (r) := by
  obtain ⟨p1, p2, p3, p4, p5, p6⟩ := hx
  obtain ⟨q1, q2, q3, q4, q5, q6⟩ := hy
  simp only at p1 p2 p3 p4 p5 p6 q1 q2 q3 q4 q5 q6
  have rk := Rk.new w 3 c lo hi wv kv x1 x2 x3 y1 y2 y3
  have HP : Hid (Cols w B lv l) := hp
  have HQ : Hid (Tss w B wv wh) := hq
  have HR : Hid (rec l 3 c lo hi wh (x1, x2, x3) (y1, y2, y3) = r) := hr
  obtain ⟨wa, wc, rfl, _⟩ := hq.slice
  obtain ⟨la, lc, rfl, hlc, hll⟩ := hp.slice
  clear hp hq hr
  go_enter Tryz.func125, Tryz.ntmps125
  cases hf : fnd l c with
  | none =>
    obtain rfl : Except.error 7 = r := by rw [← HR.out]; simp [rec, hf]
    have k1 := find_no B _ l c ((((w.alloc (.cells #[.int .i64 3, .string c, .int .i64 lo, .int .i64 hi, .slice wa wh.length wc, kv] 31)).alloc (.cells #[.int .i64 x1, .int .i64 x2, .int .i64 x3] 61)).alloc (.cells #[.int .i64 y1, .int .i64 y2, .int .i64 y3] 61)).alloc (.cells #[.int .i64 0, .int .i64 0, .int .i64 0] 61)) (by simp; omega) (HP.out.at hB (b4 _ _ _ _ _)) hf
    clear hf
    go_wp2_with fail
    refine k1.mono ?_
    rintro e w1 ⟨rfl, hb1⟩
    have hbw : Below w.heap.size w w1 := bt (b4 _ _ _ _ _) hb1
    go_wp2
    exact ⟨rfl, rfl, hbw⟩
  | some i =>
    have HF : Hid (fnd l c = some i) := hf
    have k1 := find_ok B _ l c ((((w.alloc (.cells #[.int .i64 3, .string c, .int .i64 lo, .int .i64 hi, .slice wa wh.length wc, kv] 31)).alloc (.cells #[.int .i64 x1, .int .i64 x2, .int .i64 x3] 61)).alloc (.cells #[.int .i64 y1, .int .i64 y2, .int .i64 y3] 61)).alloc (.cells #[.int .i64 0, .int .i64 0, .int .i64 0] 61)) (by simp; omega) (HP.out.at hB (b4 _ _ _ _ _)) i hf
    clear hf
    go_wp2_with fail
    refine k1.mono ?_
    rintro e w1 ⟨rfl, hb1⟩
    have hbw : Below w.heap.size w w1 := bt (b4 _ _ _ _ _) hb1
    have rk1 := rk.at hb1
    clear hb1 rk k1
    have hsw := hbw.size
    have rk1a0 := rk1.a0.c
    have rk1a1 := rk1.a1.c
    have rk1a2 := rk1.a2.c
    have rk1a3 := rk1.a3.c
    have rk1a4 := rk1.a4.c
    have HR2 : Hid (ifW (whE l wh) (szC l i, 1, 4096) = r) := by show _ = _; have := HR.out; simpa [rec, HF.out] using this
    obtain ⟨er, her⟩ : ∃ er, whE l wh = er := ⟨_, rfl⟩
    rw [her] at HR2
    have k3 := passing_any B _ _ l wh w1 (by omega) (HP.out.at hB hbw) (HQ.out.at hB hbw) er her
    clear her HR
    have HR : Hid (ifW er (szC l i, 1, 4096) = r) := HR2
    clear HR2
    go_wp2_with fail
    refine k3.mono ?_
    rintro e w3 ⟨hb3, h⟩
    clear k3
    have hbw3 : Below w.heap.size w w3 := bt hbw hb3
    have rk3 := rk1.at hb3
    clear rk1a0 rk1a1 rk1a2 rk1a3 rk1a4
    clear hb3 rk1 hbw hsw
    have hil := fnd_lt HF.out
    obtain ⟨b, o, nm, sz, rfl, hb, hgt, c1, c2, hn⟩ := HP.out.get hB hbw3 hil
    have hsz : szC l i = sz := by simp [szC, hgt]
    rw [hsz] at HR
    clear hgt hsz
    rcases h with ⟨rfl, A, sv, es, _, rfl, _⟩ | ⟨he, rfl⟩
    · obtain rfl : Except.ok (sz, 1, 4096) = r := by rw [← HR.out, ifW, if_pos rfl]
      have t0 := rk3.e0.c
      have t1 := rk3.e1.c
      have t2 := rk3.e2.c
      have s0 := rk3.e0.f
      have s1 := rk3.e1.f
      have s2 := rk3.e2.f
      go_wp2
      exact bodyPost_ret (v := .agg #[.int .i64 (sz), .int .i64 (1), .int .i64 (4096)]) (by simp [results, Tryz.results125, go_sem, t0, t1, t2]) rfl ⟨rfl, b3s hbw3 _ _ _⟩
    · obtain rfl : Except.error er = r := by rw [← HR.out, ifW, if_neg he]
      go_wp2
      exact ⟨rfl, rfl, hbw3⟩
end Go.Proofs.YtlndlpjadajelaaGreat.K

namespace Go.Proofs.YtlndlpjadajelaaGreat.K
open Go.RowKit Go.Proofs.YtlndlpjadajelaaGreat.K.Ds

set_option maxHeartbeats 16000000 in
set_option maxRecDepth 100000 in
theorem rck10_any (lv : Value) (c : ByteArray) (lo hi : Int) (wv kv : Value) (x1 x2 x3 y1 y2 y3 : Int) (hx : BOk (x1, x2, x3)) (hy : BOk (y1, y2, y3)) (w : World) : RkC w lv 10 c lo hi wv kv x1 x2 x3 y1 y2 y3 (if wrtB lo hi then .ok (x1, x2, spn lo hi) else .error 3) := by
  obtain ⟨p1, p2, p3, p4, p5, p6⟩ := hx
  obtain ⟨q1, q2, q3, q4, q5, q6⟩ := hy
  simp only at p1 p2 p3 p4 p5 p6 q1 q2 q3 q4 q5 q6
  go_enter Tryz.func125, Tryz.ntmps125
  cases h : wrtB lo hi with
  | true =>
    have k1 := fun W => span_ok lo hi W h
    rw [if_pos rfl]
    clear h
    go_wp2
    go_region_held3 (fun w' => w'.cell? ⟨w.heap.size, 2, none⟩ = some (.int .i64 lo) ∧ w'.cell? ⟨w.heap.size, 3, none⟩ = some (.int .i64 hi) ∧ w'.cell? ⟨w.heap.size + 1, 0, none⟩ = some (.int .i64 x1) ∧ w'.cell? ⟨w.heap.size + 1, 1, none⟩ = some (.int .i64 x2)) (first | assumption | (simp [go_sem, *]; done)) ((go_at_call 179; refine (k1 _).mono ?_; rintro x3 w3 ⟨rfl, hw3⟩; subst hw3))
    go_wp2
    exact bodyPost_ret (v := .agg #[.int .i64 x1, .int .i64 x2, .int .i64 (spn lo hi)]) (by simp [results, Tryz.results125, go_sem]) rfl ⟨rfl, (b4 _ _ _ _ _).drew⟩
  | false =>
    have k1 := fun W => span_no lo hi W h
    rw [if_neg (by simp)]
    clear h
    go_wp2
    go_region_dies
    all_goals (go_at_call 179; refine (k1 _).mono ?_; rintro x3 w3 ⟨rfl, hw3⟩; subst hw3; exact ⟨rfl, rfl, (b4 _ _ _ _ _).drew⟩)
end Go.Proofs.YtlndlpjadajelaaGreat.K

namespace Go.Proofs.YtlndlpjadajelaaGreat.K
open Go.RowKit Go.Proofs.YtlndlpjadajelaaGreat.K.Ds

theorem kidN_cases {k : Int} (h : ¬ kidN k < 0) : k = 1 ∨ k = 2 ∨ k = 3 ∨ k = 4 ∨ k = 5 ∨ k = 6 ∨ k = 7 ∨ k = 8 ∨ k = 9 ∨ k = 10 := by
  unfold kidN at h
  split at h
  · omega
  · split at h
    · omega
    · split at h
      · omega
      · omega
/-- reckoned, of every kind -/
theorem rck_any (k : Int) (hk : ¬ kidN k < 0) (lv : Value) (c : ByteArray) (lo hi : Int) (wv kv : Value) (x y : Bnd) (hx : BOk x) (hy : BOk y) (w : World) (B : Nat) (l : List Col) (wh : List Tst) (hB : B ≤ w.heap.size) (hp : Cols w B lv l) (hq : Tss w B wv wh)
    (r : Except Int Bnd) (hr : rec l k c lo hi wh x y = r) : RkC w lv k c lo hi wv kv x.1 x.2.1 x.2.2 y.1 y.2.1 y.2.2 r := by
  obtain ⟨x1, x2, x3⟩ := x
  obtain ⟨y1, y2, y3⟩ := y
  rcases kidN_cases hk with rfl | rfl | rfl | rfl | rfl | rfl | rfl | rfl | rfl | rfl
  · exact rck1_any lv c lo hi wv kv x1 x2 x3 y1 y2 y3 hx hy w B l wh hB hp hq r (by rw [← hr]; simp [rec])
  · exact rck2_any lv c lo hi wv kv x1 x2 x3 y1 y2 y3 hx hy w B l wh hB hp hq r hr
  · exact rck3_any lv c lo hi wv kv x1 x2 x3 y1 y2 y3 hx hy w B l wh hB hp hq r hr
  · subst hr; have := rck4_any lv c lo hi wv kv x1 x2 x3 y1 y2 y3 hx hy w; simpa [rec] using this
  · subst hr; have := rck5_any lv c lo hi wv kv x1 x2 x3 y1 y2 y3 hx hy w; simpa [rec] using this
  · subst hr; have := rck6_any lv c lo hi wv kv x1 x2 x3 y1 y2 y3 hx hy w; simpa [rec] using this
  · subst hr; have := rck7_any lv c lo hi wv kv x1 x2 x3 y1 y2 y3 hx hy w; simpa [rec] using this
  · subst hr; have := rck8_any lv c lo hi wv kv x1 x2 x3 y1 y2 y3 hx hy w; simpa [rec] using this
  · subst hr; have := rck9_any lv c lo hi wv kv x1 x2 x3 y1 y2 y3 hx hy w; simpa [rec] using this
  · subst hr; have := rck10_any lv c lo hi wv kv x1 x2 x3 y1 y2 y3 hx hy w; simpa [rec] using this
end Go.Proofs.YtlndlpjadajelaaGreat.K
