import Derived.Test.YtnoedkebmpfagaaWrj
/-
  The reference's number and word, from place to place.
-/
namespace Go.Proofs.Ytnoedkebmpfagaa
open Go.RowKit Wc

theorem cnR_suf : ∀ (t : By) (k a : Nat), (cnR k a t).2.1 <:+ t
  | [], k, a => by simp [cnR]
  | c :: t, k, a => by
    simp only [cnR]
    split
    · exact List.suffix_cons c t
    split
    · exact List.suffix_cons c t
    split
    · exact List.suffix_cons c t
    · exact (cnR_suf t (k + 1) _).trans (List.suffix_cons c t)
theorem ctR_suf (t : By) : (ctR t).2.1 <:+ t := cnR_suf t 0 0
theorem nmR_suf (t : By) : (nmR t).2.1 <:+ t := ctR_suf t
theorem tkR_suf (n : Nat) (t : By) : (tkR n t).2.1 <:+ t := by
  unfold tkR
  split
  · exact List.drop_suffix n t
  · exact List.suffix_refl t
theorem tnR_suf (t : By) : (tnR t).2.1 <:+ t := (tkR_suf _ _).trans (ctR_suf t)
theorem suf_drop {x t : By} (h : x <:+ t) : t.drop (t.length - x.length) = x := by
  obtain ⟨y, rfl⟩ := h
  simp
/-- a place: none, if something was bad -/
def atI (t : By) : Option By → Int
  | none => -1
  | some x => ((t.length - x.length : Nat) : Int)
/-- a reading from place to place -/
def stS {α : Type} (z : α) (f : By → Rd α) : Option By → α × Option By
  | none => (z, none)
  | some x => if (f x).2.2 then (z, none) else ((f x).1, some (f x).2.1)
def Suf (t : By) : Option By → Prop
  | none => True
  | some x => x <:+ t
theorem Suf.step {α : Type} {t : By} {st : Option By} (h : Suf t st) (z : α) (f : By → Rd α) (hf : ∀ x, (f x).2.1 <:+ x) : Suf t (stS z f st).2 := by
  cases st with
  | none => trivial
  | some x =>
    simp only [stS]
    split
    · trivial
    · exact (hf x).trans h
theorem ctP_at {t x : By} (h : x <:+ t) : ctP t (t.length - x.length) = ((stS 0 ctR (some x)).1, atI t (stS 0 ctR (some x)).2) := by
  unfold ctP
  rw [suf_drop h]
  simp only [stS]
  split <;> rfl
theorem refcnt_st (t : By) (ht : t.length ≤ 65536) (st st' : Option By) (hs : Suf t st) (w : World) (n : Nat) (h : stS 0 ctR st = (n, st')) :
    Calls Try.prog 28 #[.string (tx t), .int .i64 (atI t st)] w fun e w' => e = .returned (.tuple #[.int .u64 (n : Int), .int .i64 (atI t st')]) ∧ w' = w := by
  cases st with
  | none =>
    simp only [stS, Prod.mk.injEq] at h
    obtain ⟨rfl, rfl⟩ := h
    exact rcnt_neg t w
  | some x =>
    exact rcnt_any t ht (t.length - x.length) (by omega) w n (atI t st') (by rw [ctP_at hs, h])
theorem ct_lt {st st' : Option By} {n : Nat} (h : stS 0 ctR st = (n, st')) : n < 18446744073709551616 := by
  cases st with
  | none => simp only [stS, Prod.mk.injEq] at h; omega
  | some x =>
    simp only [stS] at h
    split at h
    · simp only [Prod.mk.injEq] at h; omega
    · simp only [Prod.mk.injEq] at h
      have := ctR_lt x
      omega
theorem nm_ct (st : Option By) : stS 0 nmR st = (dcN (stS 0 ctR st).1, (stS 0 ctR st).2) := by
  cases st with
  | none => rfl
  | some x =>
    by_cases hb : (ctR x).2.2 = true
    · simp [stS, nmR, mp, hb, dcN]
    · simp [stS, nmR, mp, hb]
theorem refnum_st (t : By) (ht : t.length ≤ 65536) (st st' : Option By) (hs : Suf t st) (w : World) (v : Int) (h : stS 0 nmR st = (v, st')) :
    Calls Try.prog 27 #[.string (tx t), .int .i64 (atI t st)] w fun e w' => e = .returned (.tuple #[.int .i64 v, .int .i64 (atI t st')]) ∧ w' = w := by
  obtain ⟨n, st2, hc⟩ : ∃ n s, stS 0 ctR st = (n, s) := ⟨_, _, rfl⟩
  rw [nm_ct, hc] at h
  simp only [Prod.mk.injEq] at h
  obtain ⟨rfl, rfl⟩ := h
  have hlt := ct_lt hc
  have k := refcnt_st t ht st st2 hs w n hc
  clear hc hs
  generalize atI t st = A at *
  generalize atI t st2 = B at *
  by_cases c : n % 2 = 1
  · have z1 : (n : Int) % 2 = 1 := by omega
    have w1 : IntKind.i64.wrap ((n : Int) / 2) = (n : Int) / 2 := by rw [IntKind.wrap_i64]; omega
    have w2 : IntKind.i64.wrap (-((n : Int) / 2)) = -((n : Int) / 2) := by rw [IntKind.wrap_i64]; omega
    have w3 : IntKind.i64.wrap (-((n : Int) / 2) - 1) = -((n : Int) / 2) - 1 := by rw [IntKind.wrap_i64]; omega
    have e2 : dcN n = -((n : Int) / 2) - 1 := by rw [dcN, if_pos c]; omega
    rw [e2]
    clear e2 c
    go_enter Try.func27, Try.ntmps27
    go_wp2_with fail
    refine k.mono ?_
    rintro e w1 ⟨rfl, rfl⟩
    clear k
    go_wp2
    go_ret2
    exact ⟨rfl, rfl⟩
  · have z1 : (n : Int) % 2 = 0 := by omega
    have e2 : dcN n = (n : Int) / 2 := by rw [dcN, if_neg c]; omega
    have w1 : IntKind.i64.wrap ((n : Int) / 2) = (n : Int) / 2 := by rw [IntKind.wrap_i64]; omega
    rw [e2]
    clear e2 c
    go_enter Try.func27, Try.ntmps27
    go_wp2_with fail
    refine k.mono ?_
    rintro e w1 ⟨rfl, rfl⟩
    clear k
    go_wp2
    go_ret2
    exact ⟨rfl, rfl⟩
set_option maxHeartbeats 1000000 in
theorem refword_st (t : By) (ht : t.length ≤ 65536) (st st' : Option By) (hs : Suf t st) (w : World) (v : By) (h : stS [] tnR st = (v, st')) :
    Calls Try.prog 26 #[.string (tx t), .int .i64 (atI t st)] w fun e w' => e = .returned (.tuple #[.string (tx v), .int .i64 (atI t st')]) ∧ w' = w := by
  have hsz := tx_size t
  obtain ⟨n, st2, hc⟩ : ∃ n s, stS 0 ctR st = (n, s) := ⟨_, _, rfl⟩
  have hlt := ct_lt hc
  have k := refcnt_st t ht st st2 hs w n hc
  have hs2 : Suf t st2 := by have := hs.step 0 ctR ctR_suf; rw [hc] at this; exact this
  cases st2 with
  | none =>
    have hv : v = [] ∧ st' = none := by
      cases st with
      | none => simp only [stS, Prod.mk.injEq] at h; exact ⟨h.1.symm, h.2.symm⟩
      | some x =>
        simp only [stS] at hc h
        split at hc
        · rename_i hb
          have : (tnR x).2.2 = true := by simp [tnR, bd, hb]
          rw [if_pos this] at h
          simp only [Prod.mk.injEq] at h
          exact ⟨h.1.symm, h.2.symm⟩
        · simp at hc
    obtain ⟨rfl, rfl⟩ := hv
    have k' : Calls Try.prog 28 #[.string (tx t), .int .i64 (atI t st)] w fun e w' => e = .returned (.tuple #[.int .u64 (n : Int), .int .i64 (-1)]) ∧ w' = w := k
    have hg : atI t none = -1 := rfl
    rw [hg]
    clear h hs hc hs2 k hg
    generalize (atI t st) = A at *
    go_enter Try.func26, Try.ntmps26
    go_wp2_with fail
    refine k'.mono ?_
    rintro e w1 ⟨rfl, rfl⟩
    clear k'
    go_wp2
    go_ret2
    exact ⟨rfl, rfl⟩
  | some r =>
    obtain ⟨x, rfl, hx⟩ : ∃ x, st = some x ∧ ctR x = (n, r, false) := by
      cases st with
      | none => simp [stS] at hc
      | some x =>
        simp only [stS] at hc
        split at hc
        · simp at hc
        · rename_i hb
          simp only [Prod.mk.injEq, Option.some.injEq] at hc
          exact ⟨x, rfl, Prod.ext hc.1 (Prod.ext hc.2 (by simpa using hb))⟩
    have hrl : r.length ≤ t.length := hs2.length_le
    have hdr : t.drop (t.length - r.length) = r := suf_drop hs2
    obtain ⟨E, hE⟩ : ∃ E, t.length - r.length = E := ⟨_, rfl⟩
    rw [hE] at hdr
    have hat : atI t (some r) = (E : Int) := by simp only [atI, hE]
    rw [hat] at k
    have z0 : ¬ (E : Int) < 0 := by omega
    have w1 : IntKind.i64.wrap ((t.length : Int) - (E : Int)) = (r.length : Int) := by rw [IntKind.wrap_i64]; omega
    have w2 : IntKind.u64.wrap (r.length : Int) = (r.length : Int) := by rw [IntKind.wrap_u64]; omega
    by_cases cn : n ≤ r.length
    · have z1 : ¬ (r.length : Int) < (n : Int) := by omega
      have hv : v = r.take n ∧ st' = some (r.drop n) := by
        have hb : tnR x = (r.take n, r.drop n, false) := by simp [tnR, bd, hx, tkR, cn]
        simp only [stS, hb, Bool.false_eq_true, if_false, Prod.mk.injEq] at h
        exact ⟨h.1.symm, h.2.symm⟩
      obtain ⟨rfl, rfl⟩ := hv
      have w3 : IntKind.i64.wrap (n : Int) = (n : Int) := by rw [IntKind.wrap_i64]; omega
      have w4 : IntKind.i64.wrap ((E : Int) + (n : Int)) = ((E + n : Nat) : Int) := by rw [IntKind.wrap_i64]; omega
      have hext : (tx t).extract E (E + n) = tx (r.take n) := by rw [tx_ext, hdr]; congr 3; omega
      have hat2 : atI t (some (r.drop n)) = ((E + n : Nat) : Int) := by simp only [atI, List.length_drop]; omega
      rw [hat2]
      have m1 : (E : Int) ≤ ((E + n : Nat) : Int) := by omega
      have m2 : ((E + n : Nat) : Int) ≤ (t.length : Int) := by omega
      obtain ⟨V, hV⟩ : ∃ V, r.take n = V := ⟨_, rfl⟩
      rw [hV] at hext ⊢
      clear h hs hc hs2 hx hdr hat hat2 hV hE
      generalize (atI t (some x)) = A at *
      go_enter Try.func26, Try.ntmps26
      go_wp2_with fail
      refine k.mono ?_
      rintro e w1 ⟨rfl, rfl⟩
      clear k
      go_wp2
      go_ret2
      rw [show ((E + n : Nat) : Int) = (E : Int) + (n : Int) by omega, ← hext]
      exact ⟨rfl, rfl⟩
    · have z1 : (r.length : Int) < (n : Int) := by omega
      have hv : v = [] ∧ st' = none := by
        have hb : (tnR x).2.2 = true := by simp [tnR, bd, hx, tkR, cn]
        simp only [stS, hb, if_true, Prod.mk.injEq] at h
        exact ⟨h.1.symm, h.2.symm⟩
      obtain ⟨rfl, rfl⟩ := hv
      have hg : atI t none = -1 := rfl
      rw [hg]
      clear h hs hc hs2 hx hdr hat hE hg
      generalize (atI t (some x)) = A at *
      go_enter Try.func26, Try.ntmps26
      go_wp2_with fail
      refine k.mono ?_
      rintro e w1 ⟨rfl, rfl⟩
      clear k
      go_wp2
      go_ret2
      exact ⟨rfl, rfl⟩
end Go.Proofs.Ytnoedkebmpfagaa
