import Derived.Test.YtfofdbcmaokkcaaSbw
import Derived.Test.YtfofdbcmaokkcaaSbl
import Derived.Test.YtfofdbcmaokkcaaLow
namespace Go.Proofs.Ytfofdbcmaokkcaa
open Go.RowKit Go.Proofs.Ytfofdbcmaokkcaa.Ds

theorem powT_one {d m : Int} (h1 : 1 ≤ d) (h2 : d ≤ 1073741824) (h3 : 0 ≤ m) (h4 : m ≤ 10) : (Rt.powT 1 d m).2.2 = if 1073741824 < d ^ m.toNat then 4 else 0 := by
  have hr : Rt.rightB 1 d = true := by
    unfold Rt.rightB Rt.mx
    simp
    omega
  unfold Rt.powT Rt.mx
  rw [if_pos hr, if_neg (by omega), Int.one_pow]
  by_cases c : 1073741824 < d ^ m.toNat
  · rw [if_pos (.inr c), if_pos c]
  · rw [if_neg (by omega), if_neg c]

theorem smuch_any (d m er : Int) (h1 : 1 ≤ d) (h2 : d ≤ 1073741824) (h3 : 0 ≤ m) (h4 : m ≤ 10) (h : (if 1073741824 < d ^ m.toNat then 4 else 0) = er) (w : World) :
    Calls Try.prog 10 #[.int .i64 d, .int .i64 m] w fun e w' => e = .returned (.int .i64 er) ∧ Below w.heap.size w w' := by
  rw [← powT_one h1 h2 h3 h4] at h
  obtain ⟨p, q, e0, hp⟩ : ∃ p q e0, Rt.powT 1 d m = (p, q, e0) := ⟨_, _, _, rfl⟩
  rw [hp] at h
  simp only at h
  subst h
  have kc := power_any 1 d m p q e0 hp
  clear hp
  go_enter Try.func10, Try.ntmps10
  go_wp2_with fail
  refine (kc _).mono ?_
  rintro e w1 ⟨rfl, hb1⟩
  have G1 := bal hb1 (.cells #[.int .i64 p, .int .i64 q] 23)
  go_wp2
  go_ret
  exact ⟨rfl, G1⟩

/-- what Subsets leaves -/
def SubP (w : World) (l : List Pt) (er : Int) (e : Ending) (w' : World) : Prop :=
  ∃ v us, e = .returned (.tuple #[v, .int .i64 er]) ∧ rd us = l ∧ OwnN w' w.heap.size v us ∧ Below w.heap.size w w' ∧ Frs w.heap.size us
theorem SubP.err {w w' : World} {er : Int} (hb : Below w.heap.size w w') : SubP w [] er (.returned (.tuple #[.slice none 0 0, .int .i64 er])) w' :=
  ⟨_, [], rfl, rfl, .inl ⟨rfl, rfl⟩, hb, Frs.nil _⟩

set_option maxHeartbeats 1000000 in
theorem subsets_any (u d m : Int) (l : List Pt) (er : Int) (h : Sb.subT u d m = (l, er)) (w : World) :
    Calls Try.prog 4 #[rv u d, .int .i64 m] w (SubP w l er) := by
  obtain ⟨e0, he0⟩ : ∃ e0, Sb.chE u d = e0 := ⟨_, rfl⟩
  rw [Sb.subT, he0] at h
  have kc := swrong_any u d e0 he0
  by_cases c : e0 = 0
  · subst c
    obtain ⟨hr, hu, hud, hd1, hd⟩ := Sb.ch_ok he0
    rw [if_neg (by simp)] at h
    by_cases c1 : m < 0 ∨ 10 < m
    · rw [if_pos c1] at h
      simp only [Prod.mk.injEq] at h
      obtain ⟨rfl, rfl⟩ := h
      clear he0 hr
      by_cases c2 : m < 0
      · clear c1
        go_enter Try.func4, Try.ntmps4
        go_wp2_with fail
        refine (kc _).mono ?_
        rintro e w1 ⟨rfl, hb1⟩
        have G1 := bt (ba _ _) hb1
        go_wp2
        exact bodyPost_ret (v := .tuple #[.slice none 0 0, .int .i64 5]) (by simp [results, Try.results4, go_sem]) rfl (SubP.err G1)
      · have c3 : 10 < m := by omega
        clear c1
        go_enter Try.func4, Try.ntmps4
        go_wp2_with fail
        refine (kc _).mono ?_
        rintro e w1 ⟨rfl, hb1⟩
        have G1 := bt (ba _ _) hb1
        go_wp2
        exact bodyPost_ret (v := .tuple #[.slice none 0 0, .int .i64 5]) (by simp [results, Try.results4, go_sem]) rfl (SubP.err G1)
    · rw [if_neg c1] at h
      have c2 : 0 ≤ m := by omega
      have c3 : m ≤ 10 := by omega
      obtain ⟨k, rfl⟩ := Int.eq_ofNat_of_zero_le c2
      obtain ⟨em, hem⟩ : ∃ em : Int, (if 1073741824 < d ^ ((k : Int)).toNat then 4 else 0) = em := ⟨_, rfl⟩
      have km := smuch_any d k em hd1 hd c2 c3 hem
      by_cases c4 : 1073741824 < d ^ ((k : Int)).toNat
      · rw [if_pos c4] at h hem
        simp only [Prod.mk.injEq] at h
        obtain ⟨rfl, rfl⟩ := h
        subst hem
        clear he0 hr c1 c4
        go_enter Try.func4, Try.ntmps4
        go_wp2_with fail
        refine (kc _).mono ?_
        rintro e w1 ⟨rfl, hb1⟩
        have G1 := bt (ba _ _) hb1
        obtain ⟨hc1, hf1⟩ := bcell hb1
        go_wp2_with fail
        refine (km _).mono ?_
        rintro e w2 ⟨rfl, hb2⟩
        have G2 := bt G1 hb2
        go_wp2
        exact bodyPost_ret (v := .tuple #[.slice none 0 0, .int .i64 4]) (by simp [results, Try.results4, go_sem]) rfl (SubP.err G2)
      · rw [if_neg c4] at h hem
        subst hem
        rw [Int.toNat_natCast] at h c4
        have kw := weighed_any u d k (by omega) hu hud hd1 hd (by omega)
        have HM : Hid (makeT (Sb.lst u d k) = (l, er)) := h
        clear he0 hr c1 c4 h
        go_enter Try.func4, Try.ntmps4
        go_wp2_with fail
        refine (kc _).mono ?_
        rintro e w1 ⟨rfl, hb1⟩
        have G1 := bt (ba _ _) hb1
        obtain ⟨hc1, hf1⟩ := bcell hb1
        go_wp2_with fail
        refine (km _).mono ?_
        rintro e w2 ⟨rfl, hb2⟩
        have G2 := bt G1 hb2
        obtain ⟨hc2, hf2⟩ := bcell hb2
        have hz1 : w.heap.size < w1.heap.size := by have := hb1.size; simp at this; omega
        go_wp2_with fail
        refine (kw _).mono ?_
        rintro e w3 ⟨v3, ts, rfl, q1, q2, hb3⟩
        have G3 := bt G2 hb3
        have kk := make_fr w3.heap.size v3 ts w3 (Nat.le_refl _) q2 l er (by rw [q1]; exact HM.out)
        obtain ⟨a3, n3, rfl, _⟩ := q2
        clear q1 kw hc1 hf1 hc2 hf2
        go_wp2_with fail
        refine kk.mono ?_
        rintro e w4 ⟨v4, us, rfl, r1, r2, r3, r4⟩
        have G4 := bt G3 r3
        have hs := G3.size
        obtain ⟨a4, n4, rfl⟩ := r2.slice
        have HZ : Hid (SubP w l er (.returned (.tuple #[.slice a4 us.length n4, .int .i64 er])) w4) := ⟨_, us, rfl, r1, r2.mono hs, G4, r4.mono hs⟩
        clear r1 r2 r3 r4 kk
        go_wp2
        exact bodyPost_ret (v := .tuple #[.slice a4 us.length n4, .int .i64 er]) (by simp [results, Try.results4, go_sem]) rfl HZ.out
  · simp only [ne_eq, c, not_false_eq_true, if_true, Prod.mk.injEq] at h
    obtain ⟨rfl, rfl⟩ := h
    have c1 : (e0 == 0) = false := by simpa using c
    have c2 : (e0 != 0) = true := by simpa using c
    clear he0
    go_enter Try.func4, Try.ntmps4
    go_wp2_with fail
    refine (kc _).mono ?_
    rintro e w1 ⟨rfl, hb1⟩
    have G1 := bt (ba _ _) hb1
    go_wp2
    exact bodyPost_ret (v := .tuple #[.slice none 0 0, .int .i64 e0]) (by simp [results, Try.results4, go_sem]) rfl (SubP.err G1)

end Go.Proofs.Ytfofdbcmaokkcaa
