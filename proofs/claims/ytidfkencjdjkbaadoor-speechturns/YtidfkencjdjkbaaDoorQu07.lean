import Derived.Test.YtidfkencjdjkbaaDoorQu06
/-
  PACKAGE speech: pieces in memory; what is next, and whether it is so.
-/
namespace Go.Proofs.YtidfkencjdjkbaaDoor
open Go.RowKit Sp

/-- a text of these bytes -/
abbrev tx (t : By) : ByteArray := ⟨t.toArray⟩
theorem tx_of (s : ByteArray) : s = tx s.data.toList := rfl
theorem tx_inj {x y : By} : tx x = tx y ↔ x = y := by
  constructor
  · intro h
    have := congrArg (fun b : ByteArray => b.data.toList) h
    simpa using this
  · rintro rfl; rfl
theorem by_beq (x t : By) : (x == t) = decide (x = t) := by rw [Bool.eq_iff_iff]; simp
theorem eqs (x t : By) (b : Bool) (h : decide (x = t) = b) (u : World) : (binOp .eql 9 (.string (tx x)) (.string (tx t))).run Tryd.prog u = .ok (.bool b) u := by
  subst h
  simp only [binOp, Op.stringOp]
  simp [by_beq]

/-! ### pieces in memory -/
/-- pieces, in a block other than R -/
def Pcs (w : World) (R P : Nat) (v : Value) (ps : List Pc) : Prop :=
  ∃ o c, v = .slice (some ⟨P, o, none⟩) ps.length c ∧ ps.length ≤ c ∧ c ≤ 9223372036854775807 ∧ P < w.heap.size ∧ P ≠ R ∧ ∀ (i : Nat) (p : Pc), ps[i]? = some p → w.cell? ⟨P, o + i * 2, none⟩ = some (.string (tx p.1)) ∧ w.cell? ⟨P, o + i * 2 + 1, none⟩ = some (.int .i64 (p.2 : Int)) ∧ p.1.length ≤ 65536 ∧ p.2 ≤ 65536
theorem Pcs.gb {w w' : World} {R P : Nat} {v : Value} {ps : List Pc} (h : Pcs w R P v ps) (hg : w.grownBy w' (some R)) : Pcs w' R P v ps := by
  obtain ⟨o, c, h1, h2, h3, h4, h5, h6⟩ := h
  refine ⟨o, c, h1, h2, h3, Nat.lt_of_lt_of_le h4 hg.size, h5, fun i p hp => ?_⟩
  obtain ⟨q1, q2, q3⟩ := h6 i p hp
  have hn : some P ≠ some R := by simpa using h5
  exact ⟨hg.cell (a := ⟨P, o + i * 2, none⟩) q1 hn, hg.cell (a := ⟨P, o + i * 2 + 1, none⟩) q2 hn, q3⟩
/-- all but the last have a text, the last has none -/
def Fin : List Pc → Prop
  | [] => False
  | [p] => p.1 = []
  | p :: r => p.1 ≠ [] ∧ Fin r
theorem Fin.ne {ps : List Pc} (h : Fin ps) : ps ≠ [] := by rintro rfl; exact h
theorem Fin.tail {ps : List Pc} (h : Fin ps) (hd : hd ps ≠ []) : Fin ps.tail := by
  match ps, h with
  | [p], h => exact absurd h hd
  | p :: q :: r, h => exact h.2
/-- a reader: its pieces, the words, in a block of two cells -/
structure Rdr (w : World) (R P0 : Nat) (ps : List Pc) (m : Value) : Prop where
  c : ∃ v, Cl w R 0 v ∧ Pcs w R P0 v ps
  m : Cl w R 1 m
  f : Fin ps
  d : ∀ p ∈ ps, fstD p.1 = true → p.1.all digB = true
theorem Rdr.head {w : World} {R P0 : Nat} {ps : List Pc} {m : Value} (h : Rdr w R P0 ps m) : ∃ P o n c, n = ps.length ∧ 0 < n ∧ n ≤ c ∧ c ≤ 9223372036854775807 ∧ w.cell? ⟨R, 0, none⟩ = some (.slice (some ⟨P, o, none⟩) n c) ∧ w.frozen? ⟨R, 0, none⟩ = false ∧ w.cell? ⟨P, o, none⟩ = some (.string (tx (hd ps))) ∧ w.cell? ⟨P, o + 1, none⟩ = some (.int .i64 (hat ps : Int)) ∧ (hd ps).length ≤ 65536 ∧ hat ps ≤ 65536 ∧ R < w.heap.size ∧ P ≠ R := by
  obtain ⟨v, hc, o, c, rfl, h2, h3, h4, h5, h6⟩ := h.c
  have hne := h.f.ne
  obtain ⟨p, r, rfl⟩ := List.exists_cons_of_ne_nil hne
  obtain ⟨q1, q2, q3, q4⟩ := h6 0 p rfl
  exact ⟨P0, o, _, c, rfl, by simp, h2, h3, hc.c, hc.f, by simpa [hd] using q1, by simpa [hat] using q2, q3, q4, hc.lt, h5⟩
theorem gb_cell {w w' : World} {R b k : Nat} {v : Value} (h : Cl w b k v) (hg : w.grownBy w' (some R)) (hn : b ≠ R) : Cl w' b k v := by
  have hk : w'.heap[b]? = w.heap[b]? := hg.block b h.lt (by simpa using hn)
  exact ⟨(World.cell?_of_block (w := w) (a := ⟨b, k, none⟩) hk).trans h.c, (World.frozen?_of_block (w := w) (a := ⟨b, k, none⟩) hk).trans h.f, Nat.lt_of_lt_of_le h.lt hg.size⟩
/-- new memory alone -/
theorem Rdr.at {w w' : World} {R P0 : Nat} {ps : List Pc} {m : Value} (h : Rdr w R P0 ps m) (hb : Below w.heap.size w w') : Rdr w' R P0 ps m := by
  obtain ⟨v, hc, hp⟩ := h.c
  exact ⟨⟨v, hc.at hb, hp.gb (gb_below hb)⟩, h.m.at hb, h.f, h.d⟩
/-- one piece on -/
theorem Rdr.step {w : World} {R P0 : Nat} {ps : List Pc} {m : Value} (h : Rdr w R P0 ps m) (hd : hd ps ≠ []) {P o n c : Nat} (h0 : w.cell? ⟨R, 0, none⟩ = some (.slice (some ⟨P, o, none⟩) n c)) (hn : n = ps.length) : Rdr (w.setCell ⟨R, 0, none⟩ (.slice (some ⟨P, o + 2, none⟩) (n - 1) (c - 1))) R P0 ps.tail m := by
  obtain ⟨v, hc, o', c', rfl, h2, h3, h4, h5, h6⟩ := h.c
  have e := hc.c.symm.trans h0
  simp only [Option.some.injEq, Value.slice.injEq, Addr.mk.injEq] at e
  obtain ⟨⟨rfl, rfl, -⟩, -, rfl⟩ := e
  refine ⟨⟨_, hc.set _, o' + 2, c' - 1, by rw [List.length_tail, hn], by rw [List.length_tail]; omega, by omega, by simpa using h4, h5, fun i p hp => ?_⟩, h.m.oth (.inr (by decide)) _, h.f.tail hd, fun p hp => h.d p (List.mem_of_mem_tail hp)⟩
  rw [List.getElem?_tail] at hp
  obtain ⟨q1, q2, q3⟩ := h6 (i + 1) p hp
  have hne : (⟨R, 0, none⟩ : Addr) ≠ ⟨P0, o' + 2 + i * 2, none⟩ := by intro e; simp only [Addr.mk.injEq] at e; omega
  have hne2 : (⟨R, 0, none⟩ : Addr) ≠ ⟨P0, o' + 2 + i * 2 + 1, none⟩ := by intro e; simp only [Addr.mk.injEq] at e; omega
  exact ⟨(sc_other hne).trans (by rw [← q1]; congr 2; omega), (sc_other hne2).trans (by rw [← q2]; congr 2; omega), q3⟩
/-- a store into another block -/
theorem Rdr.put {w : World} {R P0 : Nat} {ps : List Pc} {m : Value} (h : Rdr w R P0 ps m) {b : Nat} (hb : b ≠ R) (hb2 : b ≠ P0) (k : Nat) (u : Value) : Rdr (w.setCell ⟨b, k, none⟩ u) R P0 ps m := by
  obtain ⟨v, hc, o, c, rfl, h2, h3, h4, h5, h6⟩ := h.c
  refine ⟨⟨_, hc.oth (.inl hb) _, o, c, rfl, h2, h3, by simpa using h4, h5, fun i p hp => ?_⟩, h.m.oth (.inl hb) _, h.f, h.d⟩
  obtain ⟨q1, q2, q3⟩ := h6 i p hp
  exact ⟨(sc_other (by intro e; simp only [Addr.mk.injEq] at e; omega)).trans q1, (sc_other (by intro e; simp only [Addr.mk.injEq] at e; omega)).trans q2, q3⟩
theorem Rdr.pl {w : World} {R P0 : Nat} {ps : List Pc} {m : Value} (h : Rdr w R P0 ps m) : P0 < w.heap.size ∧ R < w.heap.size := by
  obtain ⟨v, hc, o, c, rfl, h2, h3, h4, h5, h6⟩ := h.c
  exact ⟨h4, hc.lt⟩
end Go.Proofs.YtidfkencjdjkbaaDoor

/-
  PACKAGE speech, pieces: next, is, step, must, has, take.
-/
namespace Go.Proofs.YtidfkencjdjkbaaDoor
open Go.RowKit Sp

abbrev ptR (R : Nat) : Value := .pointer (some ⟨R, 0, none⟩)
theorem next_any {w : World} {R P0 : Nat} {ps : List Pc} {m : Value} (h : Rdr w R P0 ps m) (x : By) (hx : hd ps = x) : Calls Tryd.prog 29 #[ptR R] w fun e w' => e = .returned (.string (tx x)) ∧ w' = w := by
  obtain ⟨P, o, n, c, -, hn, hc, hc2, c0, f0, p0, p1, -, -, hR, -⟩ := h.head
  rw [hx] at p0
  clear h hx
  have hn1 : (0 : Int) < (n : Int) := by omega
  go_enter Tryd.func29, Tryd.ntmps29
  go_wp2
  go_ret
  exact ⟨rfl, rfl⟩
theorem is_any {w : World} {R P0 : Nat} {ps : List Pc} {m : Value} (h : Rdr w R P0 ps m) (t : By) (b : Bool) (hb : decide (hd ps = t) = b) : Calls Tryd.prog 17 #[ptR R, .string (tx t)] w fun e w' => e = .returned (.bool b) ∧ w' = w := by
  have k := next_any h _ rfl
  have hq := eqs (hd ps) t b hb
  have hq2 : (hd ps == t) = b := by rw [by_beq]; exact hb
  clear hb h
  generalize hd ps = x at *
  go_enter Tryd.func17, Tryd.ntmps17
  go_wp2_with fail
  refine k.mono ?_
  rintro e w1 ⟨rfl, rfl⟩
  clear k
  go_wp2
  go_ret
  exact ⟨rfl, rfl⟩
theorem Fin.two {ps : List Pc} (h : Fin ps) (hd : hd ps ≠ []) : 2 ≤ ps.length := by
  match ps, h with
  | [p], h => exact absurd h hd
  | p :: q :: r, h => simp
theorem step_any {w : World} {R P0 : Nat} {ps : List Pc} {m : Value} (h : Rdr w R P0 ps m) (hne : hd ps ≠ []) : Calls Tryd.prog 28 #[ptR R] w fun e w' => e = .returned (.tuple #[]) ∧ Rdr w' R P0 ps.tail m ∧ w.grownBy w' (some R) := by
  obtain ⟨P, o, n, c, hl, hn, hc, hc2, c0, f0, p0, p1, -, -, hR, -⟩ := h.head
  have HS : Hid (Rdr (w.setCell ⟨R, 0, none⟩ (.slice (some ⟨P, o + 2, none⟩) (n - 1) (c - 1))) R P0 ps.tail m) := h.step hne c0 hl
  have hn1 : (1 : Int) ≤ (n : Int) := by omega
  have hn2 : (1 : Int) ≤ (c : Int) := by omega
  have hn3 : (n : Int) ≤ (c : Int) := by omega
  have hn4 : ¬ c = 1 := by have := h.f.two hne; omega
  clear h hl hne
  go_enter Tryd.func28, Tryd.ntmps28
  go_wp2
  go_end0
  exact ⟨rfl, HS.out, gb_set (gb_refl _ _) 0 _⟩
theorem pmust_ok {w : World} {R P0 : Nat} {ps : List Pc} {m : Value} (h : Rdr w R P0 ps m) (er : Int) : Calls Tryd.prog 16 #[ptR R, .bool true, .int .i64 er] w fun e w' => e = .returned (.tuple #[]) ∧ w' = w := by
  obtain ⟨P, o, n, c, hl, hn, hc, hc2, c0, f0, p0, p1, -, -, hR, -⟩ := h.head
  have hn1 : (0 : Int) < (n : Int) := by omega
  have k := must_ok er (hat ps) w
  clear h hl
  go_enter Tryd.func16, Tryd.ntmps16
  go_wp2_with fail
  refine k.mono ?_
  rintro e w1 ⟨rfl, rfl⟩
  go_wp2
  go_end0
  exact ⟨rfl, rfl⟩
theorem pmust_no {w : World} {R P0 : Nat} {ps : List Pc} {m : Value} (h : Rdr w R P0 ps m) (er : Int) : Calls Tryd.prog 16 #[ptR R, .bool false, .int .i64 er] w fun e w' => e = .panicked (chn er (hat ps)) ∧ w' = w := by
  obtain ⟨P, o, n, c, hl, hn, hc, hc2, c0, f0, p0, p1, -, -, hR, -⟩ := h.head
  have hn1 : (0 : Int) < (n : Int) := by omega
  have k := must_no er (hat ps) w
  clear h hl
  go_enter Tryd.func16, Tryd.ntmps16
  go_wp2_with fail
  refine k.mono ?_
  rintro e w1 ⟨rfl, rfl⟩
  go_wp2
  exact ⟨rfl, rfl, rfl⟩
theorem has_yes {w : World} {R P0 : Nat} {ps : List Pc} {m : Value} (h : Rdr w R P0 ps m) (t : By) (ht : t ≠ []) (hb : hd ps = t) : Calls Tryd.prog 67 #[ptR R, .string (tx t)] w fun e w' => e = .returned (.bool true) ∧ Rdr w' R P0 ps.tail m ∧ w.grownBy w' (some R) := by
  have k := is_any h t true (by simpa using hb)
  have k2 := step_any h (by rw [hb]; exact ht)
  clear h
  go_enter Tryd.func67, Tryd.ntmps67
  go_wp2_with fail
  refine k.mono ?_
  rintro e w1 ⟨rfl, rfl⟩
  clear k
  go_wp2_with fail
  refine k2.mono ?_
  rintro e w2 ⟨rfl, h2, hg⟩
  clear k2
  go_wp2
  go_ret
  exact ⟨rfl, h2, hg⟩
theorem has_no {w : World} {R P0 : Nat} {ps : List Pc} {m : Value} (h : Rdr w R P0 ps m) (t : By) (hb : hd ps ≠ t) : Calls Tryd.prog 67 #[ptR R, .string (tx t)] w fun e w' => e = .returned (.bool false) ∧ w' = w := by
  have k := is_any h t false (by simpa using hb)
  clear h
  go_enter Tryd.func67, Tryd.ntmps67
  go_wp2_with fail
  refine k.mono ?_
  rintro e w1 ⟨rfl, rfl⟩
  clear k
  go_wp2
  go_ret
  exact ⟨rfl, rfl⟩
theorem take_yes {w : World} {R P0 : Nat} {ps : List Pc} {m : Value} (h : Rdr w R P0 ps m) (t : By) (ht : t ≠ []) (hb : hd ps = t) : Calls Tryd.prog 48 #[ptR R, .string (tx t)] w fun e w' => e = .returned (.tuple #[]) ∧ Rdr w' R P0 ps.tail m ∧ w.grownBy w' (some R) := by
  have k := has_yes h t ht hb
  clear h
  go_enter Tryd.func48, Tryd.ntmps48
  go_wp2_with fail
  refine k.mono ?_
  rintro e w1 ⟨rfl, h1, hg⟩
  clear k
  have k2 := pmust_ok h1 2
  go_wp2_with fail
  refine k2.mono ?_
  rintro e w2 ⟨rfl, rfl⟩
  clear k2
  go_wp2
  go_end0
  exact ⟨rfl, h1, hg⟩
theorem take_no {w : World} {R P0 : Nat} {ps : List Pc} {m : Value} (h : Rdr w R P0 ps m) (t : By) (hb : hd ps ≠ t) : Calls Tryd.prog 48 #[ptR R, .string (tx t)] w fun e w' => e = .panicked (chn 2 (hat ps)) ∧ w' = w := by
  have k := has_no h t hb
  have k2 := pmust_no h 2
  clear h
  go_enter Tryd.func48, Tryd.ntmps48
  go_wp2_with fail
  refine k.mono ?_
  rintro e w1 ⟨rfl, rfl⟩
  clear k
  go_wp2_with fail
  refine k2.mono ?_
  rintro e w2 ⟨rfl, rfl⟩
  clear k2
  go_wp2
  exact ⟨rfl, rfl, rfl⟩
end Go.Proofs.YtidfkencjdjkbaaDoor

/-
  PACKAGE speech: two, long.
-/
namespace Go.Proofs.YtidfkencjdjkbaaDoor
open Go.RowKit Sp

theorem two_any (x : By) (b : Bool) (hb : twoB x = b) (w : World) : Calls Tryd.prog 44 #[.string (tx x)] w fun e w' => e = .returned (.bool b) ∧ w' = w := by
  have HB : Hid (twoB x = b) := hb
  clear hb
  obtain ⟨b1, h1⟩ : ∃ b1, decide (x = [46, 46]) = b1 := ⟨_, rfl⟩
  obtain ⟨b2, h2⟩ : ∃ b1, decide (x = [60, 61]) = b1 := ⟨_, rfl⟩
  obtain ⟨b3, h3⟩ : ∃ b1, decide (x = [62, 61]) = b1 := ⟨_, rfl⟩
  obtain ⟨b4, h4⟩ : ∃ b1, decide (x = [60, 62]) = b1 := ⟨_, rfl⟩
  have q1 := eqs x _ b1 h1
  have q2 := eqs x _ b2 h2
  have q3 := eqs x _ b3 h3
  have q4 := eqs x _ b4 h4
  have p1 : (x == [46, 46]) = b1 := by rw [by_beq]; exact h1
  have p2 : (x == [60, 61]) = b2 := by rw [by_beq]; exact h2
  have p3 : (x == [62, 61]) = b3 := by rw [by_beq]; exact h3
  have p4 : (x == [60, 62]) = b4 := by rw [by_beq]; exact h4
  have HE : Hid (b = (b1 || (b2 || (b3 || b4)))) := by
    rw [Hid, ← HB.out, ← h1, ← h2, ← h3, ← h4]
    simp [twoB]
  clear h1 h2 h3 h4 HB
  go_enter Tryd.func44, Tryd.ntmps44
  cases b1
  · cases b2
    · cases b3
      · go_wp2
        go_ret
        exact ⟨by rw [HE.out]; rfl, rfl⟩
      · go_wp2
        go_ret
        exact ⟨by rw [HE.out]; rfl, rfl⟩
    · go_wp2
      go_ret
      exact ⟨by rw [HE.out]; rfl, rfl⟩
  · go_wp2
    go_ret
    exact ⟨by rw [HE.out]; rfl, rfl⟩
end Go.Proofs.YtidfkencjdjkbaaDoor
