import Derived.Test.YtidfkencjdjkbaaDoorQr29
import Derived.Test.YtidfkencjdjkbaaDoorQr26
import Derived.BigQuiet
/-
  What Print and Read say of each other, as the laws ask it; alive.
-/
namespace Go.Proofs.YtidfkencjdjkbaaDoor
open Go.RowKit Sp

/-! ### what is wrong has a number -/
/-! ### what can be said may be said -/
/-- what Read answers, in letters -/
def RdA (t : By) (q : Qu) (er at' : Int) : Prop := match readT t with
  | .ok a => q = a ∧ er = 0 ∧ at' = 0
  | .error (c, x) => q = Qz ∧ er = c ∧ at' = (x : Int)
theorem read_let (t : By) (htl : t.length ≤ 9223372036854775807) (w : World) (hG : Glo w) : Calls Tryd.prog 5 #[.string (tx t)] w fun e w' => (∃ (q : Qu) (er at' : Int) (k : Int) (c : By) (lo hi : Int) (wa : Option Addr) (wn wc : Nat) (ka : Option Addr) (kn kc : Nat), e = .returned (.tuple #[.agg #[.int .i64 k, .string (tx c), .int .i64 lo, .int .i64 hi, .slice wa wn wc, .slice ka kn kc], .agg #[.int .i64 er, .int .i64 at']]) ∧ RdA t q er at' ∧ ∀ W, Kp w.heap.size w' W → QI W W.heap.size q [.int .i64 k, .string (tx c), .int .i64 lo, .int .i64 hi, .slice wa wn wc, .slice ka kn kc]) ∧ Below w.heap.size w w' := by
  refine (read_any t htl w hG).mono ?_
  rintro e w' ⟨he, hb⟩
  refine ⟨?_, hb⟩
  cases hr : readT t with
  | ok a =>
    rw [hr] at he
    obtain ⟨cs, rfl, hq⟩ := he
    obtain ⟨k, c, l, hh, a4, n4, c4, a5, n5, c5, rfl⟩ := hq.six
    exact ⟨a, 0, 0, k, c, l, hh, a4, n4, c4, a5, n5, c5, rfl, by rw [RdA, hr]; exact ⟨rfl, rfl, rfl⟩, fun W hW => qi_of a (QV.kp hW a hq) (read_say hr)⟩
  | error x =>
    obtain ⟨c, x⟩ := x
    rw [hr] at he
    exact ⟨Qz, c, x, 0, [], 0, 0, none, 0, 0, none, 0, 0, he, by rw [RdA, hr]; exact ⟨rfl, rfl, rfl⟩, fun W _ => qi_zero W _⟩
end Go.Proofs.YtidfkencjdjkbaaDoor

/-
  The document's own answer, chapter 15: its state; bad, next, want.
-/
namespace Go.Proofs.YtidfkencjdjkbaaDoor
open Go.RowKit Sp

/-- what is left, or what is wrong -/
abbrev St := Except (Int × Nat) (List Pc)
def onS {α : Type} (p : List Pc → PR α) (st : St) : PR α := match st with
  | .ok ps => p ps
  | .error e => .error e
def nxS {α : Type} (r : PR α) : St := match r with
  | .ok (_, ps) => .ok ps
  | .error e => .error e
/-- what is known of the pieces -/
def Pok (L : List Pc) : Prop := Fin L ∧ ∀ p ∈ L, (fstD p.1 = true → p.1.all digB = true) ∧ p.1.length ≤ 65536
/-- a state in block R -/
def SS (w : World) (R P0 : Nat) (st : St) : Prop := ∃ (c i : Nat) (L : List Pc) (er at' : Int), Bx w R [.slice (some ⟨P0, 0, none⟩) L.length c, .int .i64 (i : Int), .int .i64 er, .int .i64 at'] ∧
  (∀ (j : Nat) p, L[j]? = some p → w.cell? ⟨P0, j * 2, none⟩ = some (.string (tx p.1)) ∧ w.cell? ⟨P0, j * 2 + 1, none⟩ = some (.int .i64 (p.2 : Int))) ∧
  P0 ≠ R ∧ P0 < w.heap.size ∧ L.length ≤ c ∧ L.length ≤ 9223372036854775806 ∧ i < L.length ∧ Pok L ∧
  (match st with | .ok ps => er = 0 ∧ at' = 0 ∧ L.drop i = ps | .error (k, x) => er = k ∧ at' = (x : Int) ∧ k ≠ 0)
theorem SS.lt {w : World} {R P0 : Nat} {st : St} (h : SS w R P0 st) : R < w.heap.size := by
  obtain ⟨c, i, L, er, at', hb, _⟩ := h
  exact (hb 0 _ rfl).lt
theorem SS.at {w w' : World} {R P0 : Nat} {st : St} (h : SS w R P0 st) (hb : Below w.heap.size w w') : SS w' R P0 st := by
  obtain ⟨c, i, L, er, at', h1, h2, h3, h4, h5⟩ := h
  exact ⟨c, i, L, er, at', h1.at hb, fun j p hp => ⟨(hb.cell (p := ⟨P0, j * 2, none⟩) h4).trans (h2 j p hp).1, (hb.cell (p := ⟨P0, j * 2 + 1, none⟩) h4).trans (h2 j p hp).2⟩, h3, Nat.lt_of_lt_of_le h4 hb.size, h5⟩
theorem SS.bl {w w' : World} {B R P0 : Nat} {st : St} (h : SS w R P0 st) (hb : Below B w w') (hR : R < B) (hP : P0 < B) : SS w' R P0 st := by
  obtain ⟨c, i, L, er, at', h1, h2, h3, h4, h5⟩ := h
  exact ⟨c, i, L, er, at', fun k v hk => ⟨(hb.cell (p := ⟨R, k, none⟩) hR).trans (h1 k v hk).c, (hb.frozen (p := ⟨R, k, none⟩) hR).trans (h1 k v hk).f, Nat.lt_of_lt_of_le (h1 k v hk).lt hb.size⟩, fun j p hp => ⟨(hb.cell (p := ⟨P0, j * 2, none⟩) hP).trans (h2 j p hp).1, (hb.cell (p := ⟨P0, j * 2 + 1, none⟩) hP).trans (h2 j p hp).2⟩, h3, Nat.lt_of_lt_of_le h4 hb.size, h5⟩
theorem SS.pl {w : World} {R P0 : Nat} {st : St} (h : SS w R P0 st) : P0 < w.heap.size := by
  obtain ⟨c, i, L, er, at', h1, h2, h3, h4, _⟩ := h
  exact h4
theorem fin_drop {L : List Pc} (h : Pok L) {i : Nat} (hi : i < L.length) : Pok (L.drop i) := by
  refine ⟨?_, fun p hp => h.2 p (List.mem_of_mem_drop hp)⟩
  induction i with
  | zero => simpa using h.1
  | succ i ih =>
    have h1 := ih (by omega)
    have e : L.drop (i + 1) = (L.drop i).tail := by rw [← List.drop_one, List.drop_drop]
    rw [e]
    refine h1.tail ?_
    intro hn
    have hl : (L.drop i).length = 1 := by
      match hm : L.drop i, h1, hn with
      | [p], _, _ => rfl
      | p :: q :: r, h1, hn => exact absurd hn h1.1
    rw [List.length_drop] at hl
    omega
/-- a state that goes on: what lies there -/
theorem SS.alive {w : World} {R P0 : Nat} {ps : List Pc} (h : SS w R P0 (.ok ps)) : ∃ c i n : Nat, w.cell? ⟨R, 0, none⟩ = some (.slice (some ⟨P0, 0, none⟩) n c) ∧ w.cell? ⟨R, 1, none⟩ = some (.int .i64 (i : Int)) ∧ w.cell? ⟨R, 2, none⟩ = some (.int .i64 0) ∧ w.cell? ⟨R, 3, none⟩ = some (.int .i64 0) ∧ i < n ∧ n ≤ c ∧ n ≤ 9223372036854775806 ∧
    w.cell? ⟨P0, i * 2, none⟩ = some (.string (tx (hd ps))) ∧ w.cell? ⟨P0, i * 2 + 1, none⟩ = some (.int .i64 (hat ps : Int)) ∧ P0 ≠ R ∧ P0 < w.heap.size ∧ R < w.heap.size ∧ Pok ps ∧ (∀ k, w.frozen? ⟨R, k, none⟩ = false ∨ 4 ≤ k) := by
  obtain ⟨c, i, L, er, at', h1, h2, h3, h4, h5, h6, h7, h8, rfl, rfl, rfl⟩ := h
  obtain ⟨p, hp⟩ : ∃ p, L[i]? = some p := ⟨_, List.getElem?_eq_getElem h7⟩
  have e : L.drop i = p :: L.drop (i + 1) := by
    rw [List.drop_eq_getElem_cons h7]
    congr 1
    exact Option.some.inj ((List.getElem?_eq_getElem h7).symm.trans hp)
  refine ⟨c, i, L.length, (h1 0 _ rfl).c, (h1 1 _ rfl).c, (h1 2 _ rfl).c, (h1 3 _ rfl).c, h7, h5, h6, ?_, ?_, h3, h4, (h1 0 _ rfl).lt, fin_drop h8 h7, fun k => ?_⟩
  · rw [e]; exact (h2 i p hp).1
  · rw [e]; exact (h2 i p hp).2
  · match k with
    | 0 => exact .inl (h1 0 _ rfl).f
    | 1 => exact .inl (h1 1 _ rfl).f
    | 2 => exact .inl (h1 2 _ rfl).f
    | 3 => exact .inl (h1 3 _ rfl).f
    | n + 4 => exact .inr (by omega)
theorem SS.dead {w : World} {R P0 : Nat} {e : Int × Nat} (h : SS w R P0 (.error e)) : w.cell? ⟨R, 2, none⟩ = some (.int .i64 e.1) ∧ e.1 ≠ 0 := by
  obtain ⟨c, i, L, er, at', h1, h2, h3, h4, h5, h6, h7, h8, rfl, rfl, h9⟩ := h
  exact ⟨(h1 2 _ rfl).c, h9⟩
/-- one piece on -/
theorem SS.step {w : World} {R P0 i : Nat} {ps : List Pc} (h : SS w R P0 (.ok ps)) (hi : w.cell? ⟨R, 1, none⟩ = some (.int .i64 (i : Int))) (hne : hd ps ≠ []) : SS (w.setCell ⟨R, 1, none⟩ (.int .i64 ((i + 1 : Nat) : Int))) R P0 (.ok ps.tail) := by
  obtain ⟨c, i', L, er, at', h1, h2, h3, h4, h5, h6, h7, h8, rfl, rfl, rfl⟩ := h
  have e : i' = i := by
    have := (h1 1 _ rfl).c.symm.trans hi
    simp only [Option.some.injEq, Value.int.injEq, true_and] at this
    omega
  subst e
  have hl : i' + 1 < L.length := by
    rcases Nat.lt_or_ge (i' + 1) L.length with h' | h'
    · exact h'
    · have hf := (fin_drop h8 h7).1
      have hlen : (L.drop i').length = 1 := by rw [List.length_drop]; omega
      match hm : L.drop i', hlen, hf, hne with
      | [p], _, hf, hne => exact absurd hf hne
  refine ⟨c, i' + 1, L, 0, 0, h1.set (i := 1) (by simp) _, fun j p hp => ?_, h3, by simpa using h4, h5, h6, hl, h8, rfl, rfl, by rw [← List.drop_one, List.drop_drop]⟩
  exact ⟨(sc_other (by intro e; simp only [Addr.mk.injEq] at e; omega)).trans (h2 j p hp).1, (sc_other (by intro e; simp only [Addr.mk.injEq] at e; omega)).trans (h2 j p hp).2⟩
/-- it goes wrong -/
theorem SS.fall {w : World} {R P0 : Nat} {ps : List Pc} (h : SS w R P0 (.ok ps)) (k : Int) (hk : k ≠ 0) : SS ((w.setCell ⟨R, 2, none⟩ (.int .i64 k)).setCell ⟨R, 3, none⟩ (.int .i64 (hat ps : Int))) R P0 (.error (k, hat ps)) := by
  obtain ⟨c, i, L, er, at', h1, h2, h3, h4, h5, h6, h7, h8, rfl, rfl, rfl⟩ := h
  refine ⟨c, i, L, k, (hat (L.drop i) : Int), (h1.set (i := 2) (by simp) _).set (i := 3) (by simp) _, fun j p hp => ?_, h3, by simpa using h4, h5, h6, h7, h8, rfl, rfl, hk⟩
  exact ⟨(sc_other (by intro e; simp only [Addr.mk.injEq] at e; omega)).trans ((sc_other (by intro e; simp only [Addr.mk.injEq] at e; omega)).trans (h2 j p hp).1), (sc_other (by intro e; simp only [Addr.mk.injEq] at e; omega)).trans ((sc_other (by intro e; simp only [Addr.mk.injEq] at e; omega)).trans (h2 j p hp).2)⟩
def badS (c : Int) (st : St) : St := match st with
  | .ok ps => .error (c, hat ps)
  | .error e => .error e
set_option maxHeartbeats 1000000 in
set_option maxRecDepth 100000 in
theorem bad_any {w : World} {R P0 : Nat} {st : St} (h : SS w R P0 st) (c : Int) (hc : c ≠ 0) : Calls Tryd.prog 20 #[ptR R, .int .i64 c] w fun e w' => e = .returned (.tuple #[]) ∧ SS w' R P0 (badS c st) ∧ w.grownBy w' (some R) := by
  cases st with
  | error x =>
    obtain ⟨q2, hx⟩ := h.dead
    have HS : Hid (SS w R P0 (.error x)) := h
    obtain ⟨k, x⟩ := x
    simp only at q2 hx
    have d : (k == 0) = false := by simpa using hx
    clear h
    go_enter Tryd.func20, Tryd.ntmps20
    go_wp2
    go_end0
    exact ⟨rfl, HS.out, gb_below (Below.refl _ _)⟩
  | ok ps =>
    have HS : Hid (SS w.drew R P0 (.ok ps)) := h.at (Below.refl _ _).drew
    obtain ⟨cc, i, n, q0, q1, q2, q3, hin, hnc, hn6, p0, p1, hPR, hPl, hRl, _, hfz⟩ := h.alive
    have z2 : w.frozen? ⟨R, 2, none⟩ = false := (hfz 2).resolve_right (by omega)
    have z3 : w.frozen? ⟨R, 3, none⟩ = false := (hfz 3).resolve_right (by omega)
    have hini : (i : Int) < (n : Int) := by omega
    have HF : Hid _ := HS.out.fall c hc
    obtain ⟨x, hx⟩ : ∃ x, hat ps = x := ⟨_, rfl⟩
    rw [hx] at p1 HF
    have HX : Hid (hat ps = x) := hx
    clear h hfz hx
    go_enter Tryd.func20, Tryd.ntmps20
    go_wp2_with fail
    go_region_held3 (fun w' => w'.cell? ⟨R, 0, none⟩ = some (.slice (some ⟨P0, 0, none⟩) n cc) ∧ w'.cell? ⟨R, 1, none⟩ = some (.int .i64 (i : Int)) ∧ w'.cell? ⟨P0, i * 2 + 1, none⟩ = some (.int .i64 (x : Int)))
      ((go_split_ands; refine ⟨?_, ?_, ?_⟩ <;> first | assumption | (simp [go_sem, *]; done))) (fail)
    go_wp2
    go_end0
    exact ⟨rfl, by rw [badS, HX.out]; exact HF.out, gb_set (gb_set (gb_below ((Below.refl w.heap.size w).drew)) 2 _) 3 _⟩
end Go.Proofs.YtidfkencjdjkbaaDoor

/-
  The document's own answer, chapter 15: next, want, one piece on.
-/
namespace Go.Proofs.YtidfkencjdjkbaaDoor
open Go.RowKit Sp

theorem neqs (x t : By) (b : Bool) (h : (!decide (x = t)) = b) (u : World) : (binOp .neq 9 (.string (tx x)) (.string (tx t))).run Tryd.prog u = .ok (.bool b) u := by
  subst h
  simp only [binOp, Op.stringOp]
  simp [by_beq]
def nxtB (t : By) (st : St) : Bool := match st with
  | .ok ps => decide (hd ps = t)
  | .error _ => false
set_option maxHeartbeats 1000000 in
set_option maxRecDepth 100000 in
theorem rnxt_any {w : World} {R P0 : Nat} {st : St} (h : SS w R P0 st) (t : By) (ht : t ≠ []) (b : Bool) (hb : nxtB t st = b) : Calls Tryd.prog 35 #[ptR R, .string (tx t)] w fun e w' => e = .returned (.bool b) ∧ Below w.heap.size w w' := by
  have nq := neqs t [] true (by simpa using ht)
  have nq2 : (t != []) = true := by simpa [bne] using ht
  cases st with
  | error x =>
    obtain ⟨q2, hx⟩ := h.dead
    obtain ⟨k, x⟩ := x
    simp only at q2 hx
    obtain rfl : false = b := hb
    have d : (k == 0) = false := by simpa using hx
    clear h hx
    go_enter Tryd.func35, Tryd.ntmps35
    go_wp2_with fail
    go_quiet (fail)
    go_wp2
    go_ret
    exact ⟨rfl, below_drewN (Below.refl _ _) _⟩
  | ok ps =>
    obtain ⟨cc, i, n, q0, q1, q2, q3, hin, hnc, hn6, p0, p1, hPR, hPl, hRl, _, _⟩ := h.alive
    have hini : (i : Int) < (n : Int) := by omega
    obtain ⟨x, hx⟩ : ∃ x, hd ps = x := ⟨_, rfl⟩
    rw [nxtB, hx] at hb
    rw [hx] at p0
    have qe := eqs x t b hb
    have qe2 : (x == t) = b := by rw [by_beq]; exact hb
    clear h hx hb
    go_enter Tryd.func35, Tryd.ntmps35
    go_wp2_with fail
    cases b with
    | true =>
      go_quiet (fail)
      go_wp2
      go_ret
      exact ⟨ret_b (by simpa using ht), below_drewN (Below.refl _ _) _⟩
    | false =>
      go_quiet (fail)
      go_wp2
      go_ret
      exact ⟨rfl, below_drewN (Below.refl _ _) _⟩
theorem tk_ok {t : By} {ps : List Pc} (h : hd ps = t) : tk t ps = .ok ((), ps.tail) := by rw [tk, if_pos h]
theorem tk_no {t : By} {ps : List Pc} (h : ¬ hd ps = t) : tk t ps = .error (2, hat ps) := by rw [tk, if_neg h]
set_option maxHeartbeats 1000000 in
set_option maxRecDepth 100000 in
theorem want_any {w : World} {R P0 : Nat} {st : St} (h : SS w R P0 st) (t : By) (ht : t ≠ []) (st' : St) (hs : nxS (onS (tk t) st) = st') : Calls Tryd.prog 51 #[ptR R, .string (tx t)] w fun e w' => e = .returned (.tuple #[]) ∧ SS w' R P0 st' ∧ w.grownBy w' (some R) := by
  obtain ⟨b, hb⟩ : ∃ b, nxtB t st = b := ⟨_, rfl⟩
  have kn := rnxt_any h t ht b hb
  have HS : Hid (SS w R P0 st) := h
  have HE : Hid (nxS (onS (tk t) st) = st') := hs
  have HB : Hid (nxtB t st = b) := hb
  clear h hs hb
  go_enter Tryd.func51, Tryd.ntmps51
  go_wp2_with fail
  refine kn.mono ?_
  rintro e w1 ⟨rfl, hb1⟩
  have HS1 : Hid (SS w1 R P0 st) := HS.out.at hb1
  have HB1 : Hid (Below w.heap.size w w1) := hb1
  clear kn hb1
  cases b with
  | false =>
    have kb := bad_any HS1.out 2 (by decide)
    have HX : Hid (badS 2 st = st') := by
      rw [Hid, ← HE.out]
      cases st with
      | error e => rfl
      | ok ps =>
        have h2 : ¬ hd ps = t := by simpa [nxtB] using HB.out
        simp only [onS, tk_no h2, nxS, badS]
    go_wp2_with fail
    refine kb.mono ?_
    rintro e w2 ⟨rfl, hs2, hg2⟩
    go_wp2
    refine bodyPost_ret (results_none rfl _ _ _) rfl ?_
    exact ⟨rfl, HX.out ▸ hs2, gb_trans (gb_below HB1.out) hg2⟩
  | true =>
    cases st with
    | error e => have := HB.out; cases this
    | ok ps =>
      have h2 : hd ps = t := by simpa [nxtB] using HB.out
      obtain rfl : .ok ps.tail = st' := by rw [← HE.out]; simp only [onS, tk_ok h2, nxS]
      obtain ⟨cc, i, n, q0, q1, q2, q3, hin, hnc, hn6, p0, p1, hPR, hPl, hRl, _, hfz⟩ := HS1.out.alive
      have z1 : w1.frozen? ⟨R, 1, none⟩ = false := (hfz 1).resolve_right (by omega)
      have hw : IntKind.i64.wrap ((i : Int) + 1) = ((i + 1 : Nat) : Int) := by rw [IntKind.wrap_i64]; omega
      have HF : Hid _ := HS1.out.step q1 (by rw [h2]; exact ht)
      clear hfz h2
      go_wp2
      go_end0
      exact ⟨rfl, HF.out, gb_set (gb_below HB1.out) 1 _⟩
end Go.Proofs.YtidfkencjdjkbaaDoor
