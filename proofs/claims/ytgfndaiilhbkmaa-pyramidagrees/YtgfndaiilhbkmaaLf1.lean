import Derived.Test.YtgfndaiilhbkmaaRep
import Derived.Test.YtgfndaiilhbkmaaPsm
import Derived.Test.YtgfndaiilhbkmaaRisL
namespace Go.Proofs.Ytgfndaiilhbkmaa
open Go.RowKit Go.Proofs.Ytgfndaiilhbkmaa.Ds

theorem run_quo {x d r : Int} (hd : d ≠ 0) (hr : x.tdiv d = r) (hb : -9223372036854775808 ≤ r ∧ r ≤ 9223372036854775807) (u : World) : (binOp .quo 3 (.int .i64 x) (.int .i64 d)).run Try.prog u = .ok (.int .i64 r) u := by
  have e2 := wrap_id hb
  simp [go_sem, Op.intDiv, hr, hd, e2]
theorem run_mul {x y r : Int} (hr : x * y = r) (hb : -9223372036854775808 ≤ r ∧ r ≤ 9223372036854775807) (u : World) : (binOp .mul 3 (.int .i64 x) (.int .i64 y)).run Try.prog u = .ok (.int .i64 r) u := by
  have e2 := wrap_id hb
  simp [go_sem, hr, e2]

theorem arr_of_owns {w : World} {base : Nat} {v : Value} {xs : List Int} (h : w.ownsRow base 3 1 v xs.length (xs.map (.int .i64))) (hne : xs ≠ []) : ∃ g cap, v = .slice (some ⟨g, 0, none⟩) xs.length cap ∧ xs.length ≤ cap ∧ base ≤ g ∧ Arr w g xs.length (fun i => xs.getD i 0) := by
  obtain ⟨_, ⟨hv, h0⟩ | ⟨g, cap, cur, hv, hb, hcur, hc, _, hsz, hx⟩⟩ := h
  · exact absurd (List.length_eq_zero_iff.1 h0) hne
  · refine ⟨g, cap, hv, hc, hb, fun i hi => ?_, fun i _ => by simp [World.frozen?, hcur], (Array.getElem?_eq_some_iff.1 hcur).1⟩
    obtain ⟨x, hx1⟩ := get_lt hi
    have : cur[i]? = some (.int .i64 x) := by
      have h1 : (xs.map (Value.int .i64))[i]? = some (.int .i64 x) := by simp [hx1]
      rw [← hx, List.getElem?_take_of_lt (by omega)] at h1
      simpa using h1
    simp [World.cell?, hcur, this, hx1]

set_option maxHeartbeats 1000000 in
set_option maxRecDepth 100000 in
/-- slices.Clone: a row of one's own -/
theorem clone_any (B : Nat) (v : Value) (xs : List Int) (W : World) (hB : B ≤ W.heap.size) (hx : Num W B v xs) (hne : xs ≠ []) (hl : xs.length ≤ 1024) :
    Calls Try.prog 33 #[v] W fun e w' => ∃ g cap, e = .returned (.slice (some ⟨g, 0, none⟩) xs.length cap) ∧ xs.length ≤ cap ∧ W.heap.size ≤ g ∧ Arr w' g xs.length (fun i => xs.getD i 0) ∧ Below W.heap.size W w' := by
  obtain ⟨va, vc, rfl, _, _, hxx⟩ := hx
  obtain ⟨g0, o0, rfl, hg0, hcell⟩ := hxx hne
  have q22 : ∀ (w : World) (a : Option Addr) (n c n' c' : Nat), (binOp .eql 22 (.slice a n c) (.slice none n' c')).run Try.prog w = .ok (.bool a.isNone) w := fun w a n c n' c' => Lib.run_eql_slice_nil w _ _ a n c n' c' Try.underlying22
  have A : Hid (∀ j u, (xs.map (Value.int .i64))[j]? = some u → ∀ o, (W.alloc o).cell? ((⟨g0, o0, none⟩ : Addr).add j) = some u) := by
    intro j u hj o
    have hlt : j < xs.length := by have := (List.getElem?_eq_some_iff.1 hj).1; simpa using this
    obtain ⟨x, hx1⟩ := get_lt hlt
    rw [Addr.add_lit, World.cell?_alloc_lt _ _ _ (by show g0 < _; omega), hcell j x hx1]
    simpa [hx1] using hj
  obtain ⟨i0, hi, hz0, hz1, hz2⟩ := info_parts infoI
  have hnb : Hid (xs.length * 8 ≤ 140737488355328 ∧ xs.length ≤ maxLen) := ⟨by omega, by simp [maxLen]; omega⟩
  have HNE : Hid (xs ≠ []) := hne
  clear hcell hne
  go_enter Try.func33, Try.ntmps33
  go_wp2_with (at_builtin; refine wpList_append_own _ rfl _ _ 22 rfl W.heap.size 3 i0 (.int .i64 0) 1 8 Try.underlying22 hi hz0 hz1 hz2 rfl (by decide) _ _ _ rfl (World.ownsRow_made W #[] 0 (Nat.le_refl _) (Nat.zero_le _) (by simp)) ⟨g0, o0, none⟩ xs.length vc (xs.map (Value.int .i64)) rfl ?qc1 ?qc2 ?qc3 ?qc4 ?qc5 ?qc6 ?_)
  case qc1 => simp
  case qc2 => intro j u hj; exact A.out j u hj _
  case qc3 => intro u hu; obtain ⟨x, _, rfl⟩ := List.mem_map.1 hu; rfl
  case qc4 => rw [Nat.zero_add]; exact hnb.out.2
  case qc5 => rw [Nat.zero_add]; exact hnb.out.1
  case qc6 => simp
  intro v' w1 hown hgrow hnil
  obtain ⟨g, cap, rfl, h1, h2, h3⟩ := arr_of_owns (xs := xs) (by simpa using hown) HNE.out
  have H3 : Hid (Arr w1 g xs.length (fun i => xs.getD i 0)) := h3
  clear h3 hown
  go_wp2
  go_ret
  refine ⟨g, cap, rfl, h1, h2, H3.out, ?_⟩
  exact ((Below.refl _ W).alloc (Nat.le_refl _) _).grown hgrow (by simp) (by intro k hk; simp [Value.ownBlock] at hk; omega)

set_option maxHeartbeats 1000000 in
set_option maxRecDepth 100000 in
/-- lifts$1: what a node is made of -/
theorem made_any (w H n l q m g c gl cl b1 b2 b3 : Nat) (x s : Int) (f L : Nat → Int) (hw : 2 ≤ w) (hw2 : w ≤ 16) (hq1 : 1 ≤ q) (hq : q ≤ 1024) (hm : m < n) (W : World)
    (h1 : W.cell? ⟨b1, 0, none⟩ = some (.slice (some ⟨gl, 0, none⟩) n cl)) (h2 : ShB W b2 (.int .i64 (w : Int)) (.int .i64 (H : Int)) (.int .i64 (n : Int)) (.int .i64 (l : Int))) (h3 : Boxed W b3 22 (.slice (some ⟨g, 0, none⟩) n c))
    (hL : Arr W gl n L) (hLm : L m = (q : Int)) (hf : Arr W g n f) (hfm : f m = x)
    (hb1 : ((((q * w : Nat) : Int) - (q : Int)) * x.tdiv (((q * w : Nat) : Int) - 1)).natAbs ≤ 1152921504606846976) (hb2 : (((q : Int) - 1) * s.tdiv (((q * w : Nat) : Int) - 1)).natAbs ≤ 1152921504606846976)
    (hx : x.natAbs ≤ 1152921504606846976) (hs : s.natAbs ≤ 1152921504606846976) (r : Int) (hr : mkq w q x s = r) :
    Calls Try.prog 35 #[.int .i64 (m : Int), .int .i64 s, .pointer (some ⟨b1, 0, none⟩), .pointer (some ⟨b2, 0, none⟩), .pointer (some ⟨b3, 0, none⟩)] W fun e W' => e = .returned (.int .i64 r) ∧ Below W.heap.size W W' := by
  have c1 := h1
  have c2 := h2.c0
  have c3 := h3.cell
  have cl1 := hL.cells m hm
  have cf := hf.cells m hm
  rw [hLm] at cl1
  rw [hfm] at cf
  have hqw : q * 2 ≤ q * w := Nat.mul_le_mul_left _ hw
  have hqw2 : q * w ≤ 1024 * 16 := Nat.mul_le_mul hq hw2
  obtain ⟨p, hp⟩ : ∃ p, q * w = p := ⟨_, rfl⟩
  rw [hp] at hb1 hb2 hqw hqw2
  have hpi : (q : Int) * (w : Int) = (p : Int) := by rw [← hp]; simp
  have hd : (p : Int) - 1 ≠ 0 := by omega
  obtain ⟨xd, hxd⟩ : ∃ xd, x.tdiv ((p : Int) - 1) = xd := ⟨_, rfl⟩
  obtain ⟨sd, hsd⟩ : ∃ sd, s.tdiv ((p : Int) - 1) = sd := ⟨_, rfl⟩
  have hxb : xd.natAbs ≤ 1152921504606846976 := by rw [← hxd, Int.natAbs_tdiv]; exact Nat.le_trans (Nat.div_le_self _ _) hx
  have hsb : sd.natAbs ≤ 1152921504606846976 := by rw [← hsd, Int.natAbs_tdiv]; exact Nat.le_trans (Nat.div_le_self _ _) hs
  rw [hxd] at hb1
  rw [hsd] at hb2
  obtain ⟨A, hA⟩ : ∃ A, ((p : Int) - (q : Int)) * xd = A := ⟨_, rfl⟩
  obtain ⟨C, hC⟩ : ∃ C, ((q : Int) - 1) * sd = C := ⟨_, rfl⟩
  rw [hA] at hb1
  rw [hC] at hb2
  have HR : Hid (A + C = r) := by rw [Hid, ← hr, mkq, hp, hxd, hsd, hA, hC]
  have z1 : (m : Int) < (n : Int) := by omega
  have bA : -1152921504606846976 ≤ A ∧ A ≤ 1152921504606846976 := by omega
  have bC : -1152921504606846976 ≤ C ∧ C ≤ 1152921504606846976 := by omega
  have zd : ¬ (p : Int) - 1 = 0 := hd
  clear h1 h2 h3 hL hf hLm hfm hp hr hb1 hb2
  go_enter Try.func35, Try.ntmps35
  go_wp2_with fail
  go_quiet (fail)
  go_wp2_with fail
  go_quiet (fail)
  go_wp2
  go_ret
  exact ⟨by rw [HR.out]; rfl, below_drewN (below_drewN (Below.refl _ _) _) _⟩
end Go.Proofs.Ytgfndaiilhbkmaa
