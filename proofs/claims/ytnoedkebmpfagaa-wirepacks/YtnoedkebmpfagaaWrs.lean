import Derived.Test.YtnoedkebmpfagaaWrr
/-
  The reference's Pack, of any message.
-/
namespace Go.Proofs.Ytnoedkebmpfagaa
open Go.RowKit Wc

set_option maxHeartbeats 1000000 in
set_option maxRecDepth 100000 in
theorem refpack_no (m : Msg) (av : Option Addr) (cv : Nat) (w : World) (hF : formB m = false) :
    Calls Try.prog 8 #[mv m (.slice av m.vals.length cv)] w fun e w' => e = .returned (.tuple #[.string (tx []), .int .i64 2]) ∧ Below w.heap.size w w' := by
  have kc := fun V => clean_any m av cv V
  rw [hF] at kc
  clear hF
  obtain ⟨L, hL⟩ : ∃ L, m.vals.length = L := ⟨_, rfl⟩
  rw [hL] at kc ⊢
  clear hL
  obtain ⟨kd, ss, nu, pu, te, ru, rd, lo, hg, er, vs, lu, ld⟩ := m
  simp only [mv] at kc
  obtain ⟨W, hW⟩ : ∃ W, w.alloc (.cells #[.int .i64 kd, .string (tx ss), .int .i64 nu, .string (tx pu), .string (tx te), .int .i64 ru, .int .i64 rd, .int .i64 lo, .int .i64 hg, .int .i64 er, .slice av L cv, .int .i64 lu, .int .i64 ld] 27) = W := ⟨_, rfl⟩
  have bW : Below w.heap.size w W := by rw [← hW]; exact ba _ _
  have hB : Bx W w.heap.size [.int .i64 kd, .string (tx ss), .int .i64 nu, .string (tx pu), .string (tx te), .int .i64 ru, .int .i64 rd, .int .i64 lo, .int .i64 hg, .int .i64 er, .slice av L cv, .int .i64 lu, .int .i64 ld] := by rw [← hW]; exact Bx.new w _ 27 rfl
  have c0 := (hB 0 _ rfl).c
  have c1 := (hB 1 _ rfl).c
  have c2 := (hB 2 _ rfl).c
  have c3 := (hB 3 _ rfl).c
  have c4 := (hB 4 _ rfl).c
  have c5 := (hB 5 _ rfl).c
  have c6 := (hB 6 _ rfl).c
  have c7 := (hB 7 _ rfl).c
  have c8 := (hB 8 _ rfl).c
  have c9 := (hB 9 _ rfl).c
  have c10 := (hB 10 _ rfl).c
  have c11 := (hB 11 _ rfl).c
  have c12 := (hB 12 _ rfl).c
  clear hB
  go_enter Try.func8, Try.ntmps8
  go_wp2_with fail
  refine (kc _).mono ?_
  rintro e V ⟨rfl, bV⟩
  have bW : Hid (Below w.heap.size w V) := bt bW bV
  clear c0 c1 c2 c3 c4 c5 c6 c7 c8 c9 c10 c11 c12 bV kc hW
  go_wp2
  go_ret2
  exact ⟨rfl, bW.out⟩
/-- PACK, the reference's, of any message that fits into the memory -/
theorem refpack_any (m : Msg) (sv : Value) (w : World) (hI : MsgI w w.heap.size m sv) (hs : m.ses.length ≤ 9007199254740992) (hp : m.pur.length ≤ 9007199254740992) (ht : m.txt.length ≤ 9007199254740992) (hv : m.vals.length ≤ 9007199254740992) (s : By) (er : Int) (hP : packT m = (s, er)) :
    Calls Try.prog 8 #[mv m sv] w fun e w' => e = .returned (.tuple #[.string (tx s), .int .i64 er]) ∧ Below w.heap.size w w' := by
  obtain ⟨av, cv, rfl, -, -⟩ := hI.v.slice
  cases hF : formB m with
  | false =>
    have e : packT m = ([], 2) := by unfold packT; rw [hF]; simp
    rw [e] at hP
    simp only [Prod.mk.injEq] at hP
    obtain ⟨rfl, rfl⟩ := hP
    exact refpack_no m av cv w hF
  | true =>
    obtain ⟨kd, ss, nu, pu, te, ru, rd, lo, hg, er', vs, lu, ld⟩ := m
    rcases form_kind hF with hk | hk
    · simp only at hk
      subst hk
      exact refpack_ask ss pu te nu ru rd lo hg er' lu ld vs av cv w hs hp ht hI.num hI.ru hI.rd hI.low hI.high hF s er hP
    · simp only at hk
      subst hk
      exact refpack_rpl ss pu te nu ru rd lo hg er' lu ld vs av cv w hs hv hI.num hI.err hI.lu hI.ld hI.vs hI.v hF s er hP
end Go.Proofs.Ytnoedkebmpfagaa
