import Derived.Test.YtnoedkebmpfagaaWrc
import Derived.BigRegion
/-
  PACKAGE wire, the reader: number, text, ratio.
-/
namespace Go.Proofs.Ytnoedkebmpfagaa
open Go.RowKit Wc

theorem rnumber_any {w : World} {R : Nat} {t : By} {b : Bool} (h : Rdm w R t b) (v : Int) (r : By) (f : Bool) (hr : nmR t = (v, r, f)) :
    Calls Try.prog 40 #[ptR R] w (RdP w R b (.int .i64 v) r f) := by
  obtain ⟨n, hc, rfl⟩ := mp_ok.1 hr
  have hlt : n < 18446744073709551616 := by have := ctR_lt t; rw [hc] at this; exact this
  have k := rcount_any h n r f hc
  clear h hr hc
  by_cases c : n % 2 = 1
  · have e1 : dcN n = -((n / 2 : Nat) : Int) - 1 := by rw [dcN, if_pos c]
    have z1 : (n : Int) % 2 = 1 := by omega
    have w1 : IntKind.i64.wrap ((n : Int) / 2) = (n : Int) / 2 := by rw [IntKind.wrap_i64]; omega
    have w2 : IntKind.i64.wrap (-((n : Int) / 2)) = -((n : Int) / 2) := by rw [IntKind.wrap_i64]; omega
    have w3 : IntKind.i64.wrap (-((n : Int) / 2) - 1) = -((n : Int) / 2) - 1 := by rw [IntKind.wrap_i64]; omega
    have e2 : dcN n = -((n : Int) / 2) - 1 := by omega
    rw [e2]
    clear e1 e2 c
    go_enter Try.func40, Try.ntmps40
    go_wp2_with fail
    refine k.mono ?_
    rintro e w1 ⟨rfl, h1, g1⟩
    clear k
    go_wp2
    go_ret
    exact ⟨rfl, h1, g1⟩
  · have z0 : (n : Int) % 2 = 0 := by omega
    have z1 : ¬ (n : Int) % 2 = 1 := by omega
    have e2 : dcN n = (n : Int) / 2 := by rw [dcN, if_neg c]; omega
    have w1 : IntKind.i64.wrap ((n : Int) / 2) = (n : Int) / 2 := by rw [IntKind.wrap_i64]; omega
    rw [e2]
    clear e2 c
    go_enter Try.func40, Try.ntmps40
    go_wp2_with fail
    refine k.mono ?_
    rintro e w1 ⟨rfl, h1, g1⟩
    clear k
    go_wp2
    go_ret
    exact ⟨rfl, h1, g1⟩
theorem undrew {w w' : World} {r : Option Nat} (h : w.drew.grownBy w' r) : w.grownBy w' r := ⟨h.os, h.tape, h.output, h.size, h.block⟩
set_option maxHeartbeats 1000000 in
theorem rtext_any {w : World} {R : Nat} {t : By} {b : Bool} (h : Rdm w R t b) (s r : By) (f : Bool) (hr : tnR t = (s, r, f)) :
    Calls Try.prog 39 #[ptR R] w (RdP w R b (.string (tx s)) r f) := by
  obtain ⟨n, q, f1, hc⟩ : ∃ n q f1, ctR t = (n, q, f1) := ⟨_, _, _, rfl⟩
  obtain ⟨s', r', f2, ht⟩ : ∃ s' r' f2, tkR n q = (s', r', f2) := ⟨_, _, _, rfl⟩
  have e : s' = s ∧ r' = r ∧ (f1 || f2) = f := by
    unfold tnR bd at hr
    rw [hc] at hr
    simp only [ht, Prod.mk.injEq] at hr
    exact hr
  obtain ⟨rfl, rfl, rfl⟩ := e
  have hD : Rdm w.drew R t b := h.gbn (Below.refl _ _).drew
  have k := rcount_any hD n q f1 hc
  have K2 : ∀ W b', Rdm W R q b' → Calls Try.prog 44 #[ptR R, .int .u64 (n : Int)] W fun e w' => e = .returned (.tuple #[.string (tx s'), .bool (!f2)]) ∧ Rdm w' R r' b' ∧ W.grownBy w' (some R) := fun W b' h' => rtake_any h' n s' r' f2 ht
  clear h hr hc ht hD
  go_enter Try.func39, Try.ntmps39
  go_wp2_with fail
  go_region_with (first | (go_at_call 49; refine k.mono ?_; rintro e w1 ⟨rfl, h1, g1⟩) | (go_at_call 44; refine (K2 _ _ h1).mono ?_; rintro e w2 ⟨rfl, h2, g2⟩))
  have k3 := must_any h2 (!f2) (b || (f1 || f2)) (by cases b <;> cases f1 <;> cases f2 <;> rfl)
  have hg := undrew (gb_trans g1 g2)
  clear h1 h2 K2 k g1 g2
  go_wp2_with fail
  refine k3.mono ?_
  rintro e w3 ⟨rfl, h3, g3⟩
  clear k3
  go_wp2
  go_ret
  exact ⟨rfl, h3, gb_trans hg g3⟩
theorem hset {w w' : World} {R b : Nat} (h : Below (R + 1) w w') (hb : R < b) (k : Nat) (u : Value) : Below (R + 1) w (w'.setCell ⟨b, k, none⟩ u) := h.setCell (p := ⟨b, k, none⟩) hb u
theorem rratio_any {w : World} {R : Nat} {t : By} {b : Bool} (h : Rdm w R t b) (x y : Int) (r : By) (f : Bool) (hr : rtR t = ((x, y), r, f)) :
    Calls Try.prog 41 #[ptR R] w (RdP w R b (.agg #[.int .i64 x, .int .i64 y]) r f) := by
  obtain ⟨x', q, f1, hc⟩ : ∃ n q f1, nmR t = (n, q, f1) := ⟨_, _, _, rfl⟩
  obtain ⟨y', r', f2, ht⟩ : ∃ s' r' f2, nmR q = (s', r', f2) := ⟨_, _, _, rfl⟩
  have e : (x' = x ∧ y' = y) ∧ r' = r ∧ (f1 || f2) = f := by
    unfold rtR bd mp at hr
    rw [hc] at hr
    simp only [ht, Prod.mk.injEq] at hr
    exact hr
  obtain ⟨⟨rfl, rfl⟩, rfl, rfl⟩ := e
  obtain ⟨W, hW⟩ : ∃ W, w.alloc (.cells #[.int .i64 0, .int .i64 0] 23) = W := ⟨_, rfl⟩
  have T0 : TwoB W w.heap.size (.int .i64 0) (.int .i64 0) := by rw [← hW]; exact TwoB.new w _ _ _ _ rfl
  have bW : Below w.heap.size w W := by rw [← hW]; exact ba _ _
  have hR : R < w.heap.size := h.f.lt
  have hne : w.heap.size ≠ R := by omega
  have k := rnumber_any (h.gbn bW) x' q f1 hc
  clear h hr hc
  go_enter Try.func41, Try.ntmps41
  go_wp2_with fail
  refine k.mono ?_
  rintro e w1 ⟨rfl, h1, g1⟩
  clear k
  have k := rnumber_any h1 y' r' f2 ht
  clear h1 ht
  go_wp2_with fail
  refine k.mono ?_
  rintro e w2 ⟨rfl, h2, g2⟩
  clear k hW
  have T2 := (T0.gb g1 (by simpa using hne)).gb g2 (by simpa using hne)
  have c0 := T2.c0
  have c1 := T2.c1
  have f0 := T2.f0
  have f1' := T2.f1
  have T3 := T2.put (.int .i64 x') (.int .i64 y')
  have d0 := T3.c0
  have d1 := T3.c1
  have HF : Hid (Rdm ((w2.setCell ⟨w.heap.size, 0, none⟩ (.int .i64 x')).setCell ⟨w.heap.size, 1, none⟩ (.int .i64 y')) R r' (b || (f1 || f2)) ∧ w.grownBy ((w2.setCell ⟨w.heap.size, 0, none⟩ (.int .i64 x')).setCell ⟨w.heap.size, 1, none⟩ (.int .i64 y')) (some R)) := by
    have hg : w.grownBy w2 (some R) := gb_trans (gb_trans (gb_below bW) g1) g2
    refine ⟨?_, gb_new (gb_new hg (Nat.le_refl _) _) (Nat.le_refl _) _⟩
    rw [← Bool.or_assoc]
    exact h2.high (hset (hset (Below.refl _ _) hR 0 _) hR 1 _)
  clear h2 g1 g2 T0 T2 T3
  go_wp2
  (try simp only [Exit.inBlock, Exit.then])
  refine bodyPost_ret (v := .agg #[.int .i64 x', .int .i64 y']) (by simp [results, Try.results41, go_sem, d0, d1]) rfl ?_
  exact ⟨rfl, HF.out.1, HF.out.2⟩
end Go.Proofs.Ytnoedkebmpfagaa
