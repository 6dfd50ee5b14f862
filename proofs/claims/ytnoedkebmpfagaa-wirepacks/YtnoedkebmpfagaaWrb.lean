import Derived.Test.YtnoedkebmpfagaaWra
/-
  PACKAGE wire, the reader: must, next.
-/
namespace Go.Proofs.Ytnoedkebmpfagaa
open Go.RowKit Wc

/-- bytes that are read, in a block ahead of R -/
def RB (w : World) (R : Nat) (v : Value) (t : By) : Prop :=
  ∃ a c, v = .slice a t.length c ∧ t.length ≤ c ∧ c ≤ 9223372036854775807 ∧ (t ≠ [] → ∃ g o, a = some ⟨g, o, none⟩ ∧ g < R ∧ g < w.heap.size ∧ ∀ (i : Nat) (x : UInt8), t[i]? = some x → w.cell? ⟨g, o + i, none⟩ = some (.int .u8 (x.toNat : Int)))
theorem RB.gb {w w' : World} {R : Nat} {v : Value} {t : By} (h : RB w R v t) (hg : w.grownBy w' (some R)) : RB w' R v t := by
  obtain ⟨a, c, h1, h2, h3, h4⟩ := h
  refine ⟨a, c, h1, h2, h3, fun hne => ?_⟩
  obtain ⟨g, o, q1, q2, q3, q4⟩ := h4 hne
  exact ⟨g, o, q1, q2, Nat.lt_of_lt_of_le q3 hg.size, fun i x hx => hg.cell (a := ⟨g, o + i, none⟩) (q4 i x hx) (by have := Nat.ne_of_lt q2; simpa using this)⟩
theorem RB.conv {w : World} {R : Nat} {a : Option Addr} {len c : Nat} {t : By} (h : RB w R (.slice a len c) t) (n : Nat) (hn : n ≤ t.length) : (convert 47 9 (.slice a n c)).run Try.prog w = .ok (.string (tx (t.take n))) w := by
  obtain ⟨a', c', h1, h2, h3, h4⟩ := h
  simp only [Value.slice.injEq] at h1
  obtain ⟨rfl, rfl, rfl⟩ := h1
  have hl : (t.take n).length = n := by simp; omega
  by_cases hz : n = 0
  · subst hz
    cases a with
    | none => exact run_convert_bytes_nil (P := Try.prog) w 47 5 Try.underlying47 Try.underlying5 0 c 9 Try.underlying9
    | some a => exact run_convert_bytes_back (P := Try.prog) w 47 9 5 a c [] Try.underlying47 Try.underlying5 Try.underlying9 (fun j hj => by simp at hj)
  · obtain ⟨g, o, rfl, q2, q3, q4⟩ := h4 (by rintro rfl; simp at hn; exact hz hn)
    have := run_convert_bytes_back (P := Try.prog) w 47 9 5 ⟨g, o, none⟩ c (t.take n) Try.underlying47 Try.underlying5 Try.underlying9 (fun j hj => by
      rw [Addr.add_lit]
      refine q4 j _ ?_
      rw [hl] at hj
      rw [← List.getElem?_eq_getElem, List.getElem?_take_of_lt hj])
    rw [hl] at this
    exact this
theorem RB.drop {w : World} {R : Nat} {a : Option Addr} {len c : Nat} {t : By} (h : RB w R (.slice a len c) t) (n : Nat) (hn : n ≤ t.length) : RB w R (.slice (offA a c n) (len - n) (c - n)) (t.drop n) := by
  obtain ⟨a', c', h1, h2, h3, h4⟩ := h
  simp only [Value.slice.injEq] at h1
  obtain ⟨rfl, rfl, rfl⟩ := h1
  refine ⟨_, _, by rw [List.length_drop], by rw [List.length_drop]; omega, by omega, fun hne => ?_⟩
  have hlt : n < t.length := by
    rcases Nat.lt_or_ge n t.length with h | h
    · exact h
    · exact absurd (List.drop_eq_nil_iff.2 h) hne
  obtain ⟨g, o, rfl, q2, q3, q4⟩ := h4 (by rintro rfl; simp at hlt)
  refine ⟨g, o + n, ?_, q2, q3, fun i x hx => ?_⟩
  · rw [offA, if_neg (by omega)]; simp [Addr.add_lit]
  · rw [List.getElem?_drop] at hx
    have := q4 _ x hx
    rw [← this]; congr 2; omega
/-- a reader: what is left, and whether it is bad -/
structure Rdm (w : World) (R : Nat) (t : By) (b : Bool) : Prop where
  c : ∃ v, Cl w R 0 v ∧ RB w R v t
  f : Cl w R 1 (.bool b)
  l : t.length ≤ 65536
theorem Rdm.gbn {w w' : World} {R : Nat} {t : By} {b : Bool} (h : Rdm w R t b) (hb : Below w.heap.size w w') : Rdm w' R t b := by
  obtain ⟨⟨v, h1, h2⟩, h3, h4⟩ := h
  exact ⟨⟨v, h1.at hb, h2.gb (gb_below hb)⟩, h3.at hb, h4⟩
theorem Rdm.high {w w' : World} {R : Nat} {t : By} {b : Bool} (h : Rdm w R t b) (hb : Below (R + 1) w w') : Rdm w' R t b := by
  obtain ⟨⟨v, h1, a, c, e, q1, q2, q3⟩, h3, h4⟩ := h
  refine ⟨⟨v, h1.bel (by omega) hb, a, c, e, q1, q2, fun hne => ?_⟩, h3.bel (by omega) hb, h4⟩
  obtain ⟨g, o, p1, p2, p3, p4⟩ := q3 hne
  exact ⟨g, o, p1, p2, Nat.lt_of_lt_of_le p3 hb.size, fun i x hx => (hb.cell (p := ⟨g, o + i, none⟩) (by dsimp only; omega)).trans (p4 i x hx)⟩
theorem must_any {w : World} {R : Nat} {t : By} {b : Bool} (h : Rdm w R t b) (so : Bool) (b' : Bool) (hb : (b || !so) = b') :
    Calls Try.prog 48 #[ptR R, .bool so] w fun e w' => e = .returned (.bool so) ∧ Rdm w' R t b' ∧ w.grownBy w' (some R) := by
  obtain ⟨v, hv, ho⟩ := h.c
  have c1 := h.f.c
  have f1 := h.f.f
  have HF : Hid (Rdm (w.setCell ⟨R, 1, none⟩ (.bool b')) R t b' ∧ w.grownBy (w.setCell ⟨R, 1, none⟩ (.bool b')) (some R)) :=
    ⟨⟨⟨v, hv.oth (.inr (by decide)) _, ho.gb (gb_set (gb_refl _ _) 1 _)⟩, h.f.set _, h.l⟩, gb_set (gb_refl _ _) 1 _⟩
  clear h hv ho
  subst hb
  cases b with
  | true =>
    go_enter Try.func48, Try.ntmps48
    go_wp2
    go_ret
    exact ⟨rfl, HF.out.1, HF.out.2⟩
  | false =>
    cases so with
    | true =>
      go_enter Try.func48, Try.ntmps48
      go_wp2
      go_ret
      exact ⟨rfl, HF.out.1, HF.out.2⟩
    | false =>
      go_enter Try.func48, Try.ntmps48
      go_wp2
      go_ret
      exact ⟨rfl, HF.out.1, HF.out.2⟩
/-- so many bytes taken off -/
theorem rtake_any {w : World} {R : Nat} {t : By} {b : Bool} (h : Rdm w R t b) (n : Nat) (s r : By) (f : Bool) (hr : tkR n t = (s, r, f)) :
    Calls Try.prog 44 #[ptR R, .int .u64 (n : Int)] w fun e w' => e = .returned (.tuple #[.string (tx s), .bool (!f)]) ∧ Rdm w' R r b ∧ w.grownBy w' (some R) := by
  obtain ⟨v, hv, ho⟩ := h.c
  have ho' := ho
  obtain ⟨a, c, rfl, h2, h3, -⟩ := ho
  have hl := h.l
  unfold tkR at hr
  split at hr
  · rename_i hn
    simp only [Prod.mk.injEq] at hr
    obtain ⟨rfl, rfl, rfl⟩ := hr
    refine (take_yes hv h2 h3 n hn _ (ho'.conv n hn)).mono ?_
    rintro e w' ⟨rfl, rfl⟩
    exact ⟨rfl, ⟨⟨_, hv.set _, (ho'.drop n hn).gb (gb_set (gb_refl _ _) 0 _)⟩, h.f.oth (.inr (by decide)) _, by rw [List.length_drop]; omega⟩, gb_set (gb_refl _ _) 0 _⟩
  · rename_i hn
    simp only [Prod.mk.injEq] at hr
    obtain ⟨rfl, rfl, rfl⟩ := hr
    refine (take_no hv (by omega) n hn).mono ?_
    rintro e w' ⟨rfl, rfl⟩
    exact ⟨rfl, h, gb_refl _ _⟩
theorem next_any {w : World} {R : Nat} {t : By} {b : Bool} (h : Rdm w R t b) (x : UInt8) (r : By) (f : Bool) (b' : Bool) (hr : nxR t = (x, r, f)) (hb : (b || f) = b') :
    Calls Try.prog 38 #[ptR R] w fun e w' => e = .returned (.int .u8 (x.toNat : Int)) ∧ Rdm w' R r b' ∧ w.grownBy w' (some R) := by
  cases t with
  | nil =>
    simp only [nxR, Prod.mk.injEq] at hr
    obtain ⟨rfl, rfl, rfl⟩ := hr
    have k := rtake_any h 1 [] [] true (by simp [tkR])
    clear h
    go_enter Try.func38, Try.ntmps38
    go_wp2_with fail
    refine k.mono ?_
    rintro e w1 ⟨rfl, h1, g1⟩
    clear k
    have k := must_any h1 false b' (by simpa using hb)
    go_wp2_with fail
    refine k.mono ?_
    rintro e w2 ⟨rfl, h2, g2⟩
    clear k
    go_wp2
    go_ret
    exact ⟨rfl, h2, gb_trans g1 g2⟩
  | cons c q =>
    simp only [nxR, Prod.mk.injEq] at hr
    obtain ⟨rfl, rfl, rfl⟩ := hr
    have k := rtake_any h 1 [c] q false (by simp [tkR])
    have hz : (0 : Int) < ((tx [c]).size : Int) := by rw [tx_size]; simp
    have hz2 : ∀ h, (tx [c])[0]'h = c := fun h => rfl
    clear h
    go_enter Try.func38, Try.ntmps38
    go_wp2_with fail
    refine k.mono ?_
    rintro e w1 ⟨rfl, h1, g1⟩
    clear k
    have k := must_any h1 true b' (by simpa using hb)
    go_wp2_with fail
    refine k.mono ?_
    rintro e w2 ⟨rfl, h2, g2⟩
    clear k
    go_wp2
    go_ret
    exact ⟨rfl, h2, gb_trans g1 g2⟩
end Go.Proofs.Ytnoedkebmpfagaa
