import Derived.Test.YtejeiahbnnechaaRck
import Derived.Deep.RegionHeld3
import Derived.RegionDies
namespace Go.Proofs.Ytejeiahbnnechaa
open Go.RowKit Go.Proofs.Ytejeiahbnnechaa.Ds

set_option maxHeartbeats 16000000 in
set_option maxRecDepth 100000 in
theorem rck10_any (lv : Value) (c : ByteArray) (lo hi : Int) (wv kv : Value) (x1 x2 x3 y1 y2 y3 : Int) (hx : BOk (x1, x2, x3)) (hy : BOk (y1, y2, y3)) (w : World) : RkC w lv 10 c lo hi wv kv x1 x2 x3 y1 y2 y3 (if wrtB lo hi then .ok (x1, x2, spn lo hi) else .error 3) := by
  obtain ⟨p1, p2, p3, p4, p5, p6⟩ := hx
  obtain ⟨q1, q2, q3, q4, q5, q6⟩ := hy
  simp only at p1 p2 p3 p4 p5 p6 q1 q2 q3 q4 q5 q6
  go_enter Try.func55, Try.ntmps55
  cases h : wrtB lo hi with
  | true =>
    have k1 := fun W => span_ok lo hi W h
    rw [if_pos rfl]
    clear h
    go_wp2
    go_region_held3 (fun w' => w'.cell? ⟨w.heap.size, 2, none⟩ = some (.int .i64 lo) ∧ w'.cell? ⟨w.heap.size, 3, none⟩ = some (.int .i64 hi) ∧ w'.cell? ⟨w.heap.size + 1, 0, none⟩ = some (.int .i64 x1) ∧ w'.cell? ⟨w.heap.size + 1, 1, none⟩ = some (.int .i64 x2)) (first | assumption | (simp [go_sem, *]; done)) ((go_at_call 79; refine (k1 _).mono ?_; rintro x3 w3 ⟨rfl, hw3⟩; subst hw3))
    go_wp2
    exact bodyPost_ret (v := .agg #[.int .i64 x1, .int .i64 x2, .int .i64 (spn lo hi)]) (by simp [results, Try.results55, go_sem]) rfl ⟨rfl, (b4 _ _ _ _ _).drew⟩
  | false =>
    have k1 := fun W => span_no lo hi W h
    rw [if_neg (by simp)]
    clear h
    go_wp2
    go_region_dies
    all_goals (go_at_call 79; refine (k1 _).mono ?_; rintro x3 w3 ⟨rfl, hw3⟩; subst hw3; exact ⟨rfl, rfl, (b4 _ _ _ _ _).drew⟩)
end Go.Proofs.Ytejeiahbnnechaa
