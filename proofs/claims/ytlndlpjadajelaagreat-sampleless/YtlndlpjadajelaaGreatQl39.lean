import Derived.Test.YtlndlpjadajelaaGreatQl31
import Derived.Test.YtlndlpjadajelaaGreatQl38
import Derived.Test.YtlndlpjadajelaaGreatQl32
import Derived.Deep.RegionHeld3
namespace Go.Proofs.YtlndlpjadajelaaGreat.K
open Go.RowKit Go.Proofs.YtlndlpjadajelaaGreat.K.Ds

def OwnB (b : Bnd) (er : Int) : Except Int Bnd → Prop
  | .ok b' => er = 0 ∧ b = b'
  | .error c => er = c ∧ c ≠ 0
/-- what the reference's own answers -/
def OwnP (w : World) (r : Except Int Bnd) (e : Ending) (w' : World) : Prop :=
  ∃ b1 b2 b3 er, e = .returned (.tuple #[.agg #[.int .i64 b1, .int .i64 b2, .int .i64 b3], .int .i64 er]) ∧ Below w.heap.size w w' ∧
    OwnB (b1, b2, b3) er r
theorem own_ifW {er b1 b2 b3 : Int} {r : Except Int Bnd} (h : ifW er (b1, b2, b3) = r) : OwnB (b1, b2, b3) er r := by
  subst h
  unfold ifW
  by_cases h0 : er = 0
  · rw [if_pos h0]; exact ⟨h0, rfl⟩
  · rw [if_neg h0]; exact ⟨rfl, h0⟩
theorem wrapEq (x : Int) : IntKind.i64.wrap x = wrap64 x := by rw [IntKind.wrap_i64]; unfold wrap64; omega
abbrev RoC (w : World) (lv : Value) (k : Int) (c : ByteArray) (lo hi : Int) (wv kv : Value) (x1 x2 x3 y1 y2 y3 : Int) (r : Except Int Bnd) : Prop :=
  Calls Tryz.prog 146 #[lv, .agg #[.int .i64 k, .string c, .int .i64 lo, .int .i64 hi, wv, kv], .agg #[.int .i64 x1, .int .i64 x2, .int .i64 x3], .agg #[.int .i64 y1, .int .i64 y2, .int .i64 y3]] w fun e w' => OwnP w r e w'

set_option maxHeartbeats 2000000 in
set_option maxRecDepth 100000 in
theorem row4_any (lv : Value) (c : ByteArray) (lo hi : Int) (wv kv : Value) (x1 x2 x3 y1 y2 y3 : Int) (hx : BOk (x1, x2, x3)) (hy : BOk (y1, y2, y3)) (w : World) : RoC w lv 4 c lo hi wv kv x1 x2 x3 y1 y2 y3 (if x1 = y1 then .ok (x1, x2 + y2, x3 + y3) else .error 8) := by
  obtain ⟨p1, p2, p3, p4, p5, p6⟩ := hx
  obtain ⟨q1, q2, q3, q4, q5, q6⟩ := hy
  simp only at p1 p2 p3 p4 p5 p6 q1 q2 q3 q4 q5 q6
  go_enter Tryz.func146, Tryz.ntmps146
  by_cases h : x1 = y1
  · rw [if_pos h]
    subst h
    go_wp2
    exact bodyPost_ret (v := .tuple #[.agg #[.int .i64 (x1), .int .i64 (x2 + y2), .int .i64 (x3 + y3)], .int .i64 (0)]) (by simp [results, Tryz.results146, go_sem]) rfl ⟨_, _, _, _, rfl, b4 _ _ _ _ _, ⟨rfl, rfl⟩⟩
  · rw [if_neg h]
    have hq : (x1 != y1) = true := by simpa using h
    go_wp2
    exact bodyPost_ret (v := .tuple #[.agg #[.int .i64 (x1), .int .i64 (x2), .int .i64 (x3)], .int .i64 (8)]) (by simp [results, Tryz.results146, go_sem]) rfl ⟨_, _, _, _, rfl, b4 _ _ _ _ _, ⟨rfl, by decide⟩⟩
set_option maxHeartbeats 2000000 in
set_option maxRecDepth 100000 in
theorem row5_any (lv : Value) (c : ByteArray) (lo hi : Int) (wv kv : Value) (x1 x2 x3 y1 y2 y3 : Int) (hx : BOk (x1, x2, x3)) (hy : BOk (y1, y2, y3)) (w : World) : RoC w lv 5 c lo hi wv kv x1 x2 x3 y1 y2 y3 (if x1 = y1 then .ok (x1, x2 + y2, x3 + y3) else .error 8) := by
  obtain ⟨p1, p2, p3, p4, p5, p6⟩ := hx
  obtain ⟨q1, q2, q3, q4, q5, q6⟩ := hy
  simp only at p1 p2 p3 p4 p5 p6 q1 q2 q3 q4 q5 q6
  go_enter Tryz.func146, Tryz.ntmps146
  by_cases h : x1 = y1
  · rw [if_pos h]
    subst h
    go_wp2
    exact bodyPost_ret (v := .tuple #[.agg #[.int .i64 (x1), .int .i64 (x2 + y2), .int .i64 (x3 + y3)], .int .i64 (0)]) (by simp [results, Tryz.results146, go_sem]) rfl ⟨_, _, _, _, rfl, b4 _ _ _ _ _, ⟨rfl, rfl⟩⟩
  · rw [if_neg h]
    have hq : (x1 != y1) = true := by simpa using h
    go_wp2
    exact bodyPost_ret (v := .tuple #[.agg #[.int .i64 (x1), .int .i64 (x2), .int .i64 (x3)], .int .i64 (8)]) (by simp [results, Tryz.results146, go_sem]) rfl ⟨_, _, _, _, rfl, b4 _ _ _ _ _, ⟨rfl, by decide⟩⟩
set_option maxHeartbeats 2000000 in
set_option maxRecDepth 100000 in
theorem row8_any (lv : Value) (c : ByteArray) (lo hi : Int) (wv kv : Value) (x1 x2 x3 y1 y2 y3 : Int) (hx : BOk (x1, x2, x3)) (hy : BOk (y1, y2, y3)) (w : World) : RoC w lv 8 c lo hi wv kv x1 x2 x3 y1 y2 y3 (.ok (1, x2, x1 * x3)) := by
  obtain ⟨p1, p2, p3, p4, p5, p6⟩ := hx
  obtain ⟨q1, q2, q3, q4, q5, q6⟩ := hy
  simp only at p1 p2 p3 p4 p5 p6 q1 q2 q3 q4 q5 q6
  have hm := mul_bd p1 p2 p5 p6
  have hw : wrap64 (x1 * x3) = x1 * x3 := wrap_id (by omega)
  go_enter Tryz.func146, Tryz.ntmps146
  go_wp2
  exact bodyPost_ret (v := .tuple #[.agg #[.int .i64 (1), .int .i64 (x2), .int .i64 (x1 * x3)], .int .i64 (0)]) (by simp [results, Tryz.results146, go_sem]) rfl ⟨_, _, _, _, rfl, b4 _ _ _ _ _, ⟨rfl, rfl⟩⟩
set_option maxHeartbeats 2000000 in
set_option maxRecDepth 100000 in
theorem row9_any (lv : Value) (c : ByteArray) (lo hi : Int) (wv kv : Value) (x1 x2 x3 y1 y2 y3 : Int) (hx : BOk (x1, x2, x3)) (hy : BOk (y1, y2, y3)) (w : World) : RoC w lv 9 c lo hi wv kv x1 x2 x3 y1 y2 y3 (if 0 ≤ lo ∧ lo < x1 then .ok (1, x2, x3) else .error 3) := by
  obtain ⟨p1, p2, p3, p4, p5, p6⟩ := hx
  obtain ⟨q1, q2, q3, q4, q5, q6⟩ := hy
  simp only at p1 p2 p3 p4 p5 p6 q1 q2 q3 q4 q5 q6
  go_enter Tryz.func146, Tryz.ntmps146
  by_cases h1 : lo < 0
  · rw [if_neg (by omega)]
    go_wp2
    exact bodyPost_ret (v := .tuple #[.agg #[.int .i64 (x1), .int .i64 (x2), .int .i64 (x3)], .int .i64 (3)]) (by simp [results, Tryz.results146, go_sem]) rfl ⟨_, _, _, _, rfl, b4 _ _ _ _ _, ⟨rfl, by decide⟩⟩
  · by_cases h2 : x1 ≤ lo
    · rw [if_neg (by omega)]
      go_wp2
      exact bodyPost_ret (v := .tuple #[.agg #[.int .i64 (x1), .int .i64 (x2), .int .i64 (x3)], .int .i64 (3)]) (by simp [results, Tryz.results146, go_sem]) rfl ⟨_, _, _, _, rfl, b4 _ _ _ _ _, ⟨rfl, by decide⟩⟩
    · rw [if_pos (by omega)]
      go_wp2
      exact bodyPost_ret (v := .tuple #[.agg #[.int .i64 (1), .int .i64 (x2), .int .i64 (x3)], .int .i64 (0)]) (by simp [results, Tryz.results146, go_sem]) rfl ⟨_, _, _, _, rfl, b4 _ _ _ _ _, ⟨rfl, rfl⟩⟩
set_option maxHeartbeats 2000000 in
set_option maxRecDepth 100000 in
theorem row7_any (lv : Value) (c : ByteArray) (lo hi : Int) (wv kv : Value) (x1 x2 x3 y1 y2 y3 : Int) (hx : BOk (x1, x2, x3)) (hy : BOk (y1, y2, y3)) (w : World) : RoC w lv 7 c lo hi wv kv x1 x2 x3 y1 y2 y3 (.ok (x1 + y1, x2 + y2, mx x3 y3)) := by
  obtain ⟨p1, p2, p3, p4, p5, p6⟩ := hx
  obtain ⟨q1, q2, q3, q4, q5, q6⟩ := hy
  simp only at p1 p2 p3 p4 p5 p6 q1 q2 q3 q4 q5 q6
  go_enter Tryz.func146, Tryz.ntmps146
  have hw1 : IntKind.i64.wrap (x1 + y1) = x1 + y1 := (wrapEq _).trans (wrap_id (by omega))
  have hw2 : IntKind.i64.wrap (x2 + y2) = x2 + y2 := (wrapEq _).trans (wrap_id (by omega))
  go_wp2
  go_region_held3 (fun w' => w'.cell? ⟨w.heap.size + 1, 0, none⟩ = some (.int .i64 x1) ∧ w'.cell? ⟨w.heap.size + 1, 1, none⟩ = some (.int .i64 x2) ∧ w'.cell? ⟨w.heap.size + 1, 2, none⟩ = some (.int .i64 x3) ∧ w'.cell? ⟨w.heap.size + 1 + 1, 0, none⟩ = some (.int .i64 y1) ∧ w'.cell? ⟨w.heap.size + 1 + 1, 1, none⟩ = some (.int .i64 y2) ∧ w'.cell? ⟨w.heap.size + 1 + 1, 2, none⟩ = some (.int .i64 y3)) (first | assumption | (simp [go_sem, *]; done)) ((go_at_call 184; refine (greater_any _ _ _).mono ?_; rintro x4 w4 ⟨rfl, hw4⟩; subst hw4))
  go_wp2
  exact bodyPost_ret (v := .tuple #[.agg #[.int .i64 (x1 + y1), .int .i64 (x2 + y2), .int .i64 (mx x3 y3)], .int .i64 (0)]) (by simp [results, Tryz.results146, go_sem]) rfl ⟨_, _, _, _, rfl, (b4 _ _ _ _ _).drew, ⟨rfl, rfl⟩⟩
set_option maxHeartbeats 2000000 in
set_option maxRecDepth 100000 in
theorem row6_any (lv : Value) (c : ByteArray) (lo hi : Int) (wv kv : Value) (x1 x2 x3 y1 y2 y3 : Int) (hx : BOk (x1, x2, x3)) (hy : BOk (y1, y2, y3)) (w : World) : RoC w lv 6 c lo hi wv kv x1 x2 x3 y1 y2 y3 (if wrtB lo lo then .ok (x1, spn lo lo * x2, spn lo lo * x3) else .error 3) := by
  obtain ⟨p1, p2, p3, p4, p5, p6⟩ := hx
  obtain ⟨q1, q2, q3, q4, q5, q6⟩ := hy
  simp only at p1 p2 p3 p4 p5 p6 q1 q2 q3 q4 q5 q6
  go_enter Tryz.func146, Tryz.ntmps146
  cases h : wrtB lo lo with
  | true =>
    have h0 := spn_bd h
    have hw' := h
    simp only [wrtB, decide_eq_true_eq] at hw'
    obtain ⟨l1, l2, l3⟩ := hw'
    have m1 := mul_bd h0.1 h0.2 p3 p4
    have m2 := mul_bd h0.1 h0.2 p5 p6
    rw [if_pos rfl]
    rw [← spn_ab1] at h0 m1 m2 ⊢
    have hw1 : wrap64 (ab lo * x2) = ab lo * x2 := wrap_id (by omega)
    have hw2 : wrap64 (ab lo * x3) = ab lo * x3 := wrap_id (by omega)
    have hw3 : IntKind.i64.wrap (ab lo * x2) = ab lo * x2 := (wrapEq _).trans hw1
    have hw4 : IntKind.i64.wrap (ab lo * x3) = ab lo * x3 := (wrapEq _).trans hw2
    go_wp2_with fail
    refine (written_any lo lo _ true h).mono ?_
    rintro e w2 ⟨rfl, rfl⟩
    go_wp2
    go_region_held3 (fun w' => w'.cell? ⟨w.heap.size + 1, 0, none⟩ = some (.int .i64 x1) ∧ w'.cell? ⟨w.heap.size + 1, 1, none⟩ = some (.int .i64 x2) ∧ w'.cell? ⟨w.heap.size + 1, 2, none⟩ = some (.int .i64 x3) ∧ w'.cell? ⟨w.heap.size, 2, none⟩ = some (.int .i64 lo) ∧ w'.cell? ⟨w.heap.size, 3, none⟩ = some (.int .i64 hi)) (first | assumption | (simp [go_sem, *]; done)) ((go_at_call 185; refine (abs_any _ ⟨by omega, by omega⟩ _).mono ?_; rintro x3 w3 ⟨rfl, hw3⟩; subst hw3))
    go_wp2
    exact bodyPost_ret (v := .tuple #[.agg #[.int .i64 (x1), .int .i64 (ab lo * x2), .int .i64 (ab lo * x3)], .int .i64 (0)]) (by simp [results, Tryz.results146, go_sem]) rfl ⟨_, _, _, _, rfl, (b4 _ _ _ _ _).drew, ⟨rfl, rfl⟩⟩
  | false =>
    rw [if_neg (by simp)]
    go_wp2_with fail
    refine (written_any lo lo _ false h).mono ?_
    rintro e w2 ⟨rfl, rfl⟩
    go_wp2
    exact bodyPost_ret (v := .tuple #[.agg #[.int .i64 (x1), .int .i64 (x2), .int .i64 (x3)], .int .i64 (3)]) (by simp [results, Tryz.results146, go_sem]) rfl ⟨_, _, _, _, rfl, b4 _ _ _ _ _, ⟨rfl, by decide⟩⟩
set_option maxHeartbeats 2000000 in
set_option maxRecDepth 100000 in
theorem row10_any (lv : Value) (c : ByteArray) (lo hi : Int) (wv kv : Value) (x1 x2 x3 y1 y2 y3 : Int) (hx : BOk (x1, x2, x3)) (hy : BOk (y1, y2, y3)) (w : World) : RoC w lv 10 c lo hi wv kv x1 x2 x3 y1 y2 y3 (if wrtB lo hi then .ok (x1, x2, spn lo hi) else .error 3) := by
  obtain ⟨p1, p2, p3, p4, p5, p6⟩ := hx
  obtain ⟨q1, q2, q3, q4, q5, q6⟩ := hy
  simp only at p1 p2 p3 p4 p5 p6 q1 q2 q3 q4 q5 q6
  go_enter Tryz.func146, Tryz.ntmps146
  cases h : wrtB lo hi with
  | true =>
    have hw' := h
    simp only [wrtB, decide_eq_true_eq] at hw'
    obtain ⟨l1, l2, l3⟩ := hw'
    rw [if_pos rfl, ← spn_ab h]
    go_wp2_with fail
    refine (written_any lo hi _ true h).mono ?_
    rintro e w2 ⟨rfl, rfl⟩
    go_wp2
    go_region_held3 (fun w' => w'.cell? ⟨w.heap.size + 1, 0, none⟩ = some (.int .i64 x1) ∧ w'.cell? ⟨w.heap.size + 1, 1, none⟩ = some (.int .i64 x2) ∧ w'.cell? ⟨w.heap.size + 1, 2, none⟩ = some (.int .i64 x3) ∧ w'.cell? ⟨w.heap.size, 2, none⟩ = some (.int .i64 lo) ∧ w'.cell? ⟨w.heap.size, 3, none⟩ = some (.int .i64 hi)) (first | assumption | (simp [go_sem, *]; done)) (first | (go_at_call 185; refine (abs_any _ ⟨by omega, by omega⟩ _).mono ?_; rintro x3 w3 ⟨rfl, hw3⟩; subst hw3) | (go_at_call 184; refine (greater_any _ _ _).mono ?_; rintro x4 w4 ⟨rfl, hw4⟩; subst hw4))
    go_wp2
    exact bodyPost_ret (v := .tuple #[.agg #[.int .i64 (x1), .int .i64 (x2), .int .i64 (mx (ab lo) (ab hi))], .int .i64 (0)]) (by simp [results, Tryz.results146, go_sem]) rfl ⟨_, _, _, _, rfl, (b4 _ _ _ _ _).drew, ⟨rfl, rfl⟩⟩
  | false =>
    rw [if_neg (by simp)]
    go_wp2_with fail
    refine (written_any lo hi _ false h).mono ?_
    rintro e w2 ⟨rfl, rfl⟩
    go_wp2
    exact bodyPost_ret (v := .tuple #[.agg #[.int .i64 (x1), .int .i64 (x2), .int .i64 (x3)], .int .i64 (3)]) (by simp [results, Tryz.results146, go_sem]) rfl ⟨_, _, _, _, rfl, b4 _ _ _ _ _, ⟨rfl, by decide⟩⟩
set_option maxHeartbeats 2000000 in
set_option maxRecDepth 100000 in
theorem row1_any (lv : Value) (c : ByteArray) (lo hi : Int) (wv kv : Value) (x1 x2 x3 y1 y2 y3 : Int) (hx : BOk (x1, x2, x3)) (hy : BOk (y1, y2, y3)) (w : World) (B : Nat) (l : List Col) (wh : List Tst) (hB : B ≤ w.heap.size) (hp : Cols w B lv l) (hq : Tss w B wv wh) (r : Except Int Bnd) (hr : ifW (whE l wh) (1, 1, 4096) = r) : RoC w lv 1 c lo hi wv kv x1 x2 x3 y1 y2 y3 (r) := by
  obtain ⟨p1, p2, p3, p4, p5, p6⟩ := hx
  obtain ⟨q1, q2, q3, q4, q5, q6⟩ := hy
  simp only at p1 p2 p3 p4 p5 p6 q1 q2 q3 q4 q5 q6
  obtain ⟨er, her⟩ : ∃ er, whE l wh = er := ⟨_, rfl⟩
  rw [her] at hr
  have HR : Hid (ifW er (1, 1, 4096) = r) := hr
  have rk := Rk.new w 1 c lo hi wv kv x1 x2 x3 y1 y2 y3
  have k1 := rtests_any B lv wv l wh ((((w.alloc (.cells #[.int .i64 1, .string c, .int .i64 lo, .int .i64 hi, wv, kv] 31)).alloc (.cells #[.int .i64 x1, .int .i64 x2, .int .i64 x3] 61)).alloc (.cells #[.int .i64 y1, .int .i64 y2, .int .i64 y3] 61)).alloc (.cells #[.int .i64 0, .int .i64 0, .int .i64 0] 61)) (by simp; omega) (hp.at hB (b4 _ _ _ _ _)) (hq.at hB (b4 _ _ _ _ _)) er her
  obtain ⟨wa, wc, rfl, _⟩ := hq.slice
  obtain ⟨la, lc, rfl, hlc, hll⟩ := hp.slice
  clear her hp hq hr
  go_enter Tryz.func146, Tryz.ntmps146
  go_wp2_with fail
  refine k1.mono ?_
  rintro e w1 ⟨rfl, hb1⟩
  clear k1
  have hbw : Below w.heap.size w w1 := bt (b4 _ _ _ _ _) hb1
  have rk1 := rk.at hb1
  clear hb1 rk
  have t0 := rk1.e0.c
  have t1 := rk1.e1.c
  have t2 := rk1.e2.c
  have s0 := rk1.e0.f
  have s1 := rk1.e1.f
  have s2 := rk1.e2.f
  go_wp2
  exact bodyPost_ret (v := .tuple #[.agg #[.int .i64 (1), .int .i64 (1), .int .i64 (4096)], .int .i64 (er)]) (by simp [results, Tryz.results146, go_sem, t0, t1, t2]) rfl ⟨_, _, _, _, rfl, b3s hbw _ _ _, own_ifW HR.out⟩
set_option maxHeartbeats 2000000 in
set_option maxRecDepth 100000 in
theorem row2_any (lv : Value) (c : ByteArray) (lo hi : Int) (wv kv : Value) (x1 x2 x3 y1 y2 y3 : Int) (hx : BOk (x1, x2, x3)) (hy : BOk (y1, y2, y3)) (w : World) (B : Nat) (l : List Col) (wh : List Tst) (hB : B ≤ w.heap.size) (hp : Cols w B lv l) (hq : Tss w B wv wh) (r : Except Int Bnd) (hr : rec l 2 c lo hi wh (x1, x2, x3) (y1, y2, y3) = r) : RoC w lv 2 c lo hi wv kv x1 x2 x3 y1 y2 y3 (r) := by
  obtain ⟨p1, p2, p3, p4, p5, p6⟩ := hx
  obtain ⟨q1, q2, q3, q4, q5, q6⟩ := hy
  simp only at p1 p2 p3 p4 p5 p6 q1 q2 q3 q4 q5 q6
  have rk := Rk.new w 2 c lo hi wv kv x1 x2 x3 y1 y2 y3
  have HP : Hid (Cols w B lv l) := hp
  have HQ : Hid (Tss w B wv wh) := hq
  have HR0 : Hid (rec l 2 c lo hi wh (x1, x2, x3) (y1, y2, y3) = r) := hr
  obtain ⟨wa, wc, rfl, _⟩ := hq.slice
  obtain ⟨la, lc, rfl, hlc, hll⟩ := hp.slice
  obtain ⟨fi, hfi⟩ : ∃ fi, fnI l c = fi := ⟨_, rfl⟩
  have k1 := rcol_any B _ l c ((((w.alloc (.cells #[.int .i64 2, .string c, .int .i64 lo, .int .i64 hi, .slice wa wh.length wc, kv] 31)).alloc (.cells #[.int .i64 x1, .int .i64 x2, .int .i64 x3] 61)).alloc (.cells #[.int .i64 y1, .int .i64 y2, .int .i64 y3] 61)).alloc (.cells #[.int .i64 0, .int .i64 0, .int .i64 0] 61)) (by simp; omega) (HP.out.at hB (b4 _ _ _ _ _)) fi hfi
  clear hp hq hr
  go_enter Tryz.func146, Tryz.ntmps146
  go_wp2_with fail
  refine k1.mono ?_
  rintro e w1 ⟨rfl, hb1⟩
  have hbw : Below w.heap.size w w1 := bt (b4 _ _ _ _ _) hb1
  have rk1 := rk.at hb1
  clear hb1 rk k1
  have hsw := hbw.size
  have a2 := rk1.a2.c
  have a3 := rk1.a3.c
  have a4 := rk1.a4.c
  have g0 := rk1.b0.c
  have g1 := rk1.b1.c
  have g2 := rk1.b2.c
  have t0 := rk1.e0.c
  have t1 := rk1.e1.c
  have t2 := rk1.e2.c
  have s0 := rk1.e0.f
  have s1 := rk1.e1.f
  have s2 := rk1.e2.f
  cases hf : fnd l c with
  | none =>
    obtain rfl : Except.error 7 = r := by rw [← HR0.out]; simp [rec, hf]
    obtain rfl : -1 = fi := by rw [← hfi, fnI_none hf]
    clear hfi hf
    go_wp2
    exact bodyPost_ret (v := .tuple #[.agg #[.int .i64 (x1), .int .i64 (x2), .int .i64 (x3)], .int .i64 (7)]) (by simp [results, Tryz.results146, go_sem, t0, t1, t2]) rfl ⟨_, _, _, _, rfl, b3s hbw _ _ _, ⟨rfl, by decide⟩⟩
  | some i =>
    have HF : Hid (fnd l c = some i) := hf
    obtain rfl : (i : Int) = fi := by rw [← hfi, fnI_some hf]
    clear hfi hf
    cases h : wrtB lo hi with
    | false =>
      obtain rfl : Except.error 3 = r := by rw [← HR0.out]; simp [rec, HF.out, h]
      go_wp2_with fail
      refine (written_any lo hi _ false h).mono ?_
      rintro e w2 ⟨rfl, rfl⟩
      go_wp2
      exact bodyPost_ret (v := .tuple #[.agg #[.int .i64 (x1), .int .i64 (x2), .int .i64 (x3)], .int .i64 (3)]) (by simp [results, Tryz.results146, go_sem, t0, t1, t2]) rfl ⟨_, _, _, _, rfl, b3s hbw _ _ _, ⟨rfl, by decide⟩⟩
    | true =>
      have h0 := spn_bd h
      have hw' := h
      simp only [wrtB, decide_eq_true_eq] at hw'
      obtain ⟨l1, l2, l3⟩ := hw'
      obtain ⟨er, her⟩ : ∃ er, whE l wh = er := ⟨_, rfl⟩
      have HR : Hid (ifW er (1, mx (ab lo) (ab hi), 4096 * mx (ab lo) (ab hi)) = r) := by rw [spn_ab h, ← her]; show _ = _; have := HR0.out; simpa [rec, HF.out, h] using this
      rw [← spn_ab h] at h0
      have k3 := rtests_any B _ _ l wh w1.drew (by show B ≤ w1.heap.size; omega) ((HP.out.at hB hbw).at (by omega) (Below.refl _ _).drew) ((HQ.out.at hB hbw).at (by omega) (Below.refl _ _).drew) er her
      clear her HR0
      go_wp2_with fail
      refine (written_any lo hi _ true h).mono ?_
      rintro e w2 ⟨rfl, hw2⟩
      subst hw2
      clear h
      go_wp2
      go_region_held3 (fun w' => w'.cell? ⟨w.heap.size, 2, none⟩ = some (.int .i64 lo) ∧ w'.cell? ⟨w.heap.size, 3, none⟩ = some (.int .i64 hi)) (first | assumption | (simp [go_sem, *]; done)) (first | (go_at_call 185; refine (abs_any _ ⟨by omega, by omega⟩ _).mono ?_; rintro x3 w3 ⟨rfl, hw3⟩; subst hw3) | (go_at_call 184; refine (greater_any _ _ _).mono ?_; rintro x4 w4 ⟨rfl, hw4⟩; subst hw4))
      have a4' := (rk1.at (Below.refl _ _).drew).a4.c
      have hwm : wrap64 (4096 * mx (ab lo) (ab hi)) = 4096 * mx (ab lo) (ab hi) := wrap_id (by omega)
      go_wp2_with fail
      refine k3.mono ?_
      rintro e w5 ⟨rfl, hb5⟩
      clear k3 t0 t1 t2 s0 s1 s2 a2 a3 a4 g0 g1 g2 a4'
      have hb5' : Below w2.heap.size w2 w5 := (Below.refl _ _).drew.trans hb5
      have rk5 := rk1.at hb5'
      have hbw5 : Below w.heap.size w w5 := bt hbw hb5'
      have t0 := rk5.e0.c
      have t1 := rk5.e1.c
      have t2 := rk5.e2.c
      have s0 := rk5.e0.f
      have s1 := rk5.e1.f
      have s2 := rk5.e2.f
      go_wp2
      exact bodyPost_ret (v := .tuple #[.agg #[.int .i64 (1), .int .i64 (mx (ab lo) (ab hi)), .int .i64 (4096 * mx (ab lo) (ab hi))], .int .i64 (er)]) (by simp [results, Tryz.results146, go_sem, t0, t1, t2]) rfl ⟨_, _, _, _, rfl, b3s hbw5 _ _ _, own_ifW HR.out⟩
set_option maxHeartbeats 2000000 in
set_option maxRecDepth 100000 in
theorem row3_any (lv : Value) (c : ByteArray) (lo hi : Int) (wv kv : Value) (x1 x2 x3 y1 y2 y3 : Int) (hx : BOk (x1, x2, x3)) (hy : BOk (y1, y2, y3)) (w : World) (B : Nat) (l : List Col) (wh : List Tst) (hB : B ≤ w.heap.size) (hp : Cols w B lv l) (hq : Tss w B wv wh) (r : Except Int Bnd) (hr : rec l 3 c lo hi wh (x1, x2, x3) (y1, y2, y3) = r) : RoC w lv 3 c lo hi wv kv x1 x2 x3 y1 y2 y3 (r) := by
  obtain ⟨p1, p2, p3, p4, p5, p6⟩ := hx
  obtain ⟨q1, q2, q3, q4, q5, q6⟩ := hy
  simp only at p1 p2 p3 p4 p5 p6 q1 q2 q3 q4 q5 q6
  have rk := Rk.new w 3 c lo hi wv kv x1 x2 x3 y1 y2 y3
  have HP : Hid (Cols w B lv l) := hp
  have HQ : Hid (Tss w B wv wh) := hq
  have HR0 : Hid (rec l 3 c lo hi wh (x1, x2, x3) (y1, y2, y3) = r) := hr
  obtain ⟨wa, wc, rfl, _⟩ := hq.slice
  obtain ⟨la, lc, rfl, hlc, hll⟩ := hp.slice
  obtain ⟨fi, hfi⟩ : ∃ fi, fnI l c = fi := ⟨_, rfl⟩
  have k1 := rcol_any B _ l c ((((w.alloc (.cells #[.int .i64 3, .string c, .int .i64 lo, .int .i64 hi, .slice wa wh.length wc, kv] 31)).alloc (.cells #[.int .i64 x1, .int .i64 x2, .int .i64 x3] 61)).alloc (.cells #[.int .i64 y1, .int .i64 y2, .int .i64 y3] 61)).alloc (.cells #[.int .i64 0, .int .i64 0, .int .i64 0] 61)) (by simp; omega) (HP.out.at hB (b4 _ _ _ _ _)) fi hfi
  clear hp hq hr
  go_enter Tryz.func146, Tryz.ntmps146
  go_wp2_with fail
  refine k1.mono ?_
  rintro e w1 ⟨rfl, hb1⟩
  have hbw : Below w.heap.size w w1 := bt (b4 _ _ _ _ _) hb1
  have rk1 := rk.at hb1
  clear hb1 rk k1
  have hsw := hbw.size
  have a2 := rk1.a2.c
  have a3 := rk1.a3.c
  have a4 := rk1.a4.c
  have g0 := rk1.b0.c
  have g1 := rk1.b1.c
  have g2 := rk1.b2.c
  have t0 := rk1.e0.c
  have t1 := rk1.e1.c
  have t2 := rk1.e2.c
  have s0 := rk1.e0.f
  have s1 := rk1.e1.f
  have s2 := rk1.e2.f
  cases hf : fnd l c with
  | none =>
    obtain rfl : Except.error 7 = r := by rw [← HR0.out]; simp [rec, hf]
    obtain rfl : -1 = fi := by rw [← hfi, fnI_none hf]
    clear hfi hf
    go_wp2
    exact bodyPost_ret (v := .tuple #[.agg #[.int .i64 (x1), .int .i64 (x2), .int .i64 (x3)], .int .i64 (7)]) (by simp [results, Tryz.results146, go_sem, t0, t1, t2]) rfl ⟨_, _, _, _, rfl, b3s hbw _ _ _, ⟨rfl, by decide⟩⟩
  | some i =>
    have HF : Hid (fnd l c = some i) := hf
    obtain rfl : (i : Int) = fi := by rw [← hfi, fnI_some hf]
    clear hfi hf
    obtain ⟨er, her⟩ : ∃ er, whE l wh = er := ⟨_, rfl⟩
    have HR : Hid (ifW er (szC l i, 1, 4096) = r) := by rw [← her]; show _ = _; have := HR0.out; simpa [rec, HF.out] using this
    have hil := fnd_lt HF.out
    obtain ⟨b, o, nm, sz, rfl, hb, hgt, c1, c2, hn⟩ := HP.out.get hB hbw hil
    have hsz : szC l i = sz := by simp [szC, hgt]
    rw [hsz] at HR
    have hb1' : b < w1.heap.size := by omega
    have k3 := rtests_any B _ _ l wh w1.drew (by show B ≤ w1.heap.size; omega) ((HP.out.at hB hbw).at (by omega) (Below.refl _ _).drew) ((HQ.out.at hB hbw).at (by omega) (Below.refl _ _).drew) er her
    clear hgt hsz her HR0
    have lwN : w.heap.size < w1.heap.size := rk1.a4.lt
    have lwR : w.heap.size + 1 + 1 + 1 < w1.heap.size := rk1.e0.lt
    go_wp2
    go_region_held3 (fun w' => w'.cell? ⟨w.heap.size, 4, none⟩ = some (.slice wa wh.length wc) ∧ w'.cell? ⟨b, o + i * 2 + 1, none⟩ = some (.int .i64 sz)) (first | assumption | (simp [go_sem, *]; done)) ((go_at_call 182; refine k3.mono ?_; rintro x5 w5 ⟨rfl, hb5⟩; obtain ⟨hc5, hf5⟩ := bcell hb5; have q1 : w5.cell? ⟨w.heap.size, 4, none⟩ = some (.slice wa wh.length wc) := (hc5 _ _ lwN).trans a4; have q2 : w5.cell? ⟨b, o + i * 2 + 1, none⟩ = some (.int .i64 sz) := (hc5 _ _ hb1').trans c2; have z0 := (hc5 _ 0 lwR).trans t0; have z1 := (hc5 _ 1 lwR).trans t1; have z2 := (hc5 _ 2 lwR).trans t2; have y0 := (hf5 _ 0 lwR).trans s0; have y1' := (hf5 _ 1 lwR).trans s1; have y2' := (hf5 _ 2 lwR).trans s2; clear hc5 hf5))
    have hb5' : Below w1.heap.size w1 w5 := (Below.refl _ _).drew.trans hb5
    have hbw5 : Below w.heap.size w w5 := bt hbw hb5'
    go_wp2
    exact bodyPost_ret (v := .tuple #[.agg #[.int .i64 (sz), .int .i64 (1), .int .i64 (4096)], .int .i64 (er)]) (by simp [results, Tryz.results146, go_sem, z0, z1, z2]) rfl ⟨_, _, _, _, rfl, b3s hbw5 _ _ _, own_ifW HR.out⟩
/-- the reference's own, of every kind -/
theorem row_any (k : Int) (hk : ¬ kidN k < 0) (lv : Value) (c : ByteArray) (lo hi : Int) (wv kv : Value) (x y : Bnd) (hx : BOk x) (hy : BOk y) (w : World) (B : Nat) (l : List Col) (wh : List Tst) (hB : B ≤ w.heap.size) (hp : Cols w B lv l) (hq : Tss w B wv wh)
    (r : Except Int Bnd) (hr : rec l k c lo hi wh x y = r) : RoC w lv k c lo hi wv kv x.1 x.2.1 x.2.2 y.1 y.2.1 y.2.2 r := by
  obtain ⟨x1, x2, x3⟩ := x
  obtain ⟨y1, y2, y3⟩ := y
  rcases kidN_cases hk with rfl | rfl | rfl | rfl | rfl | rfl | rfl | rfl | rfl | rfl
  · exact row1_any lv c lo hi wv kv x1 x2 x3 y1 y2 y3 hx hy w B l wh hB hp hq r (by rw [← hr]; simp [rec])
  · exact row2_any lv c lo hi wv kv x1 x2 x3 y1 y2 y3 hx hy w B l wh hB hp hq r hr
  · exact row3_any lv c lo hi wv kv x1 x2 x3 y1 y2 y3 hx hy w B l wh hB hp hq r hr
  · subst hr; have := row4_any lv c lo hi wv kv x1 x2 x3 y1 y2 y3 hx hy w; simpa [rec] using this
  · subst hr; have := row5_any lv c lo hi wv kv x1 x2 x3 y1 y2 y3 hx hy w; simpa [rec] using this
  · subst hr; have := row6_any lv c lo hi wv kv x1 x2 x3 y1 y2 y3 hx hy w; simpa [rec] using this
  · subst hr; have := row7_any lv c lo hi wv kv x1 x2 x3 y1 y2 y3 hx hy w; simpa [rec] using this
  · subst hr; have := row8_any lv c lo hi wv kv x1 x2 x3 y1 y2 y3 hx hy w; simpa [rec] using this
  · subst hr; have := row9_any lv c lo hi wv kv x1 x2 x3 y1 y2 y3 hx hy w; simpa [rec] using this
  · subst hr; have := row10_any lv c lo hi wv kv x1 x2 x3 y1 y2 y3 hx hy w; simpa [rec] using this
end Go.Proofs.YtlndlpjadajelaaGreat.K
