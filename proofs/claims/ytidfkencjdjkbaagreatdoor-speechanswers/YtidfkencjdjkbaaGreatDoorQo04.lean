import Derived.Test.YtidfkencjdjkbaaGreatDoorQo03
import Derived.MapKept
import Derived.WideMake
import Derived.ChangeMaps5
import Derived.Deep.WholeRow
/-
  PACKAGE runs: letters, digits, names.
-/
namespace Go.Proofs.YtidfkencjdjkbaaGreatDoor
open Go.RowKit Sp

theorem ret_b {a b : Bool} (h : a = b) : Ending.returned (.bool a) = .returned (.bool b) := by rw [h]
theorem drop_str {s : ByteArray} {n : Nat} (h : n < s.size) : s.data.toList.drop n = s[n] :: s.data.toList.drop (n + 1) := by
  rw [List.drop_eq_getElem_cons (by simpa using h)]; rfl
theorem runL_step {p : UInt8 → Bool} {s : ByteArray} {n : Nat} (h : n < s.size) : runL p (s.data.toList.drop n) = if p s[n] then runL p (s.data.toList.drop (n + 1)) + 1 else 0 := by
  rw [drop_str h]; rfl
theorem runL_le (p : UInt8 → Bool) : ∀ s : By, runL p s ≤ s.length
  | [] => Nat.le_refl _
  | c :: r => by
    unfold runL
    have := runL_le p r
    split
    · simp; omega
    · simp
theorem runL_all (p : UInt8 → Bool) : ∀ s : By, runL p s = s.length ↔ s.all p = true
  | [] => by simp [runL]
  | c :: r => by
    have h1 := runL_all p r
    have h2 := runL_le p r
    show (if p c then runL p r + 1 else 0) = _ ↔ _
    by_cases h : p c = true
    · rw [if_pos h]; simp [h, h1]
    · rw [if_neg h]; simp [h]
theorem letter_any (b : Nat) (w : World) (r : Bool) (hr : (decide (97 ≤ b) && decide (b ≤ 122) || decide (b = 95)) = r) : Calls Tryz.prog 100 #[.int .u8 (b : Int)] w fun e w' => e = .returned (.bool r) ∧ w' = w := by
  have HR : Hid ((decide (97 ≤ b) && decide (b ≤ 122) || decide (b = 95)) = r) := hr
  clear hr
  go_enter Tryz.func100, Tryz.ntmps100
  by_cases h1 : 97 ≤ b
  · by_cases h2 : b ≤ 122
    · obtain rfl : true = r := by rw [← HR.out]; simp [h1, h2]
      go_wp2
      go_ret
      exact ⟨rfl, rfl⟩
    · have h3 : b ≠ 95 := by omega
      obtain rfl : false = r := by rw [← HR.out]; simp [h2, h3]
      go_wp2
      go_ret
      exact ⟨ret_b (by simp; omega), rfl⟩
  · by_cases h3 : b = 95
    · subst h3
      obtain rfl : true = r := by rw [← HR.out]; simp
      go_wp2
      go_ret
      exact ⟨rfl, rfl⟩
    · obtain rfl : false = r := by rw [← HR.out]; simp [h1, h3]
      go_wp2
      go_ret
      exact ⟨ret_b (by simp; omega), rfl⟩
theorem digit_any (b : Nat) (w : World) (r : Bool) (hr : (decide (48 ≤ b) && decide (b ≤ 57)) = r) : Calls Tryz.prog 101 #[.int .u8 (b : Int)] w fun e w' => e = .returned (.bool r) ∧ w' = w := by
  have HR : Hid ((decide (48 ≤ b) && decide (b ≤ 57)) = r) := hr
  clear hr
  go_enter Tryz.func101, Tryz.ntmps101
  by_cases h1 : 48 ≤ b
  · by_cases h2 : b ≤ 57
    · obtain rfl : true = r := by rw [← HR.out]; simp [h1, h2]
      go_wp2
      go_ret
      exact ⟨ret_b (by simp; try omega), rfl⟩
    · obtain rfl : false = r := by rw [← HR.out]; simp [h2]
      go_wp2
      go_ret
      exact ⟨ret_b (by simp; try omega), rfl⟩
  · obtain rfl : false = r := by rw [← HR.out]; simp [h1]
    go_wp2
    go_ret
    exact ⟨ret_b (by simp; try omega), rfl⟩

set_option maxHeartbeats 400000 in
theorem runL_any (s : ByteArray) (hs : s.size ≤ 9223372036854775807) (w : World) (r : Nat) (hr : runL letB s.data.toList = r) : Calls Tryz.prog 99 #[.string s, .func (.func 100) #[] #[]] w fun e w' => e = .returned (.int .i64 (r : Int)) ∧ w' = w := by
  have HR : Hid (runL letB s.data.toList = r) := hr
  clear hr
  go_enter Tryz.func99, Tryz.ntmps99
  go_wp2
  go_loopw [5] (fun nv wr => ∃ n : Nat, nv = .int .i64 (n : Int) ∧ n ≤ s.size ∧ Hid (n + runL letB (s.data.toList.drop n) = r) ∧ wr = w) (fun nv _ => s.size - (intOf nv).toNat)
  case atStart => exact ⟨0, rfl, Nat.zero_le _, by simpa [Hid] using HR.out, rfl⟩
  case round =>
    obtain ⟨n, rfl, hn, HI, rfl⟩ := hrel
    by_cases h1 : n < s.size
    · have ST : Hid (runL letB (s.data.toList.drop n) = if letB s[n] then runL letB (s.data.toList.drop (n + 1)) + 1 else 0) := runL_step h1
      cases hb : letB s[n] with
      | true =>
        have HB : Hid (letB s[n] = true) := hb
        clear hb
        go_wp2_with fail
        refine (letter_any s[n].toNat _ true HB.out).mono ?_
        rintro e w1 ⟨rfl, rfl⟩
        go_wp2
        go_roundw
        case rel => exact ⟨n + 1, by go_num, h1, by have h2 := HI.out; rw [ST.out, HB.out] at h2; simp only [if_true] at h2; show _ = r; omega, trivial⟩
        case measure => simp [intOf]; omega
      | false =>
        have HB : Hid (letB s[n] = false) := hb
        clear hb
        have HN : Hid (n = r) := by have h2 := HI.out; rw [ST.out, HB.out] at h2; simpa [Hid] using h2
        go_wp2_with fail
        refine (letter_any s[n].toNat _ false HB.out).mono ?_
        rintro e w1 ⟨rfl, rfl⟩
        go_wp2
        go_ret
        exact ⟨by rw [← HN.out]; rfl, rfl⟩
    · have HN : Hid (n = r) := by have h2 := HI.out; rw [List.drop_eq_nil_of_le (by simp; omega)] at h2; simpa [runL, Hid] using h2
      go_wp2
      go_ret
      exact ⟨by rw [← HN.out]; rfl, rfl⟩
theorem letters_any (s : ByteArray) (hs : s.size ≤ 9223372036854775807) (w : World) (r : Nat) (hr : runL letB s.data.toList = r) : Calls Tryz.prog 80 #[.string s] w fun e w' => e = .returned (.int .i64 (r : Int)) ∧ w' = w := by
  have k := runL_any s hs w r hr
  clear hr
  go_enter Tryz.func80, Tryz.ntmps80
  go_wp2_with fail
  refine k.mono ?_
  rintro e w1 ⟨rfl, rfl⟩
  go_wp2
  go_ret
  exact ⟨rfl, rfl⟩

set_option maxHeartbeats 400000 in
theorem runD_any (s : ByteArray) (hs : s.size ≤ 9223372036854775807) (w : World) (r : Nat) (hr : runL digB s.data.toList = r) : Calls Tryz.prog 99 #[.string s, .func (.func 101) #[] #[]] w fun e w' => e = .returned (.int .i64 (r : Int)) ∧ w' = w := by
  have HR : Hid (runL digB s.data.toList = r) := hr
  clear hr
  go_enter Tryz.func99, Tryz.ntmps99
  go_wp2
  go_loopw [5] (fun nv wr => ∃ n : Nat, nv = .int .i64 (n : Int) ∧ n ≤ s.size ∧ Hid (n + runL digB (s.data.toList.drop n) = r) ∧ wr = w) (fun nv _ => s.size - (intOf nv).toNat)
  case atStart => exact ⟨0, rfl, Nat.zero_le _, by simpa [Hid] using HR.out, rfl⟩
  case round =>
    obtain ⟨n, rfl, hn, HI, rfl⟩ := hrel
    by_cases h1 : n < s.size
    · have ST : Hid (runL digB (s.data.toList.drop n) = if digB s[n] then runL digB (s.data.toList.drop (n + 1)) + 1 else 0) := runL_step h1
      cases hb : digB s[n] with
      | true =>
        have HB : Hid (digB s[n] = true) := hb
        clear hb
        go_wp2_with fail
        refine (digit_any s[n].toNat _ true HB.out).mono ?_
        rintro e w1 ⟨rfl, rfl⟩
        go_wp2
        go_roundw
        case rel => exact ⟨n + 1, by go_num, h1, by have h2 := HI.out; rw [ST.out, HB.out] at h2; simp only [if_true] at h2; show _ = r; omega, trivial⟩
        case measure => simp [intOf]; omega
      | false =>
        have HB : Hid (digB s[n] = false) := hb
        clear hb
        have HN : Hid (n = r) := by have h2 := HI.out; rw [ST.out, HB.out] at h2; simpa [Hid] using h2
        go_wp2_with fail
        refine (digit_any s[n].toNat _ false HB.out).mono ?_
        rintro e w1 ⟨rfl, rfl⟩
        go_wp2
        go_ret
        exact ⟨by rw [← HN.out]; rfl, rfl⟩
    · have HN : Hid (n = r) := by have h2 := HI.out; rw [List.drop_eq_nil_of_le (by simp; omega)] at h2; simpa [runL, Hid] using h2
      go_wp2
      go_ret
      exact ⟨by rw [← HN.out]; rfl, rfl⟩
theorem digits_any (s : ByteArray) (hs : s.size ≤ 9223372036854775807) (w : World) (r : Nat) (hr : runL digB s.data.toList = r) : Calls Tryz.prog 81 #[.string s] w fun e w' => e = .returned (.int .i64 (r : Int)) ∧ w' = w := by
  have k := runD_any s hs w r hr
  clear hr
  go_enter Tryz.func81, Tryz.ntmps81
  go_wp2_with fail
  refine k.mono ?_
  rintro e w1 ⟨rfl, rfl⟩
  go_wp2
  go_ret
  exact ⟨rfl, rfl⟩

/-- may it be a name? -/
theorem name_any (s : ByteArray) (hs : s.size ≤ 9223372036854775807) (w : World) (r : Bool) (hr : namB s.data.toList = r) : Calls Tryz.prog 69 #[.string s] w fun e w' => e = .returned (.bool r) ∧ w' = w := by
  have HR : Hid (namB s.data.toList = r) := hr
  have hl : Hid (s.data.toList.length = s.size) := by simp [Hid]
  clear hr
  go_enter Tryz.func69, Tryz.ntmps69
  by_cases h1 : 1 ≤ s.size
  · by_cases h2 : s.size ≤ 32
    · go_wp2_with fail
      refine (letters_any s hs _ _ rfl).mono ?_
      rintro e w1 ⟨rfl, rfl⟩
      go_wp2
      go_ret
      refine ⟨ret_b ?_, rfl⟩
      rw [← HR.out, namB, hl.out]
      have := runL_all letB s.data.toList
      rw [hl.out] at this
      simp only [h1, h2, decide_true, Bool.true_and]
      rw [Bool.eq_iff_iff, ← this]
      simp
      omega
    · obtain rfl : false = r := by rw [← HR.out, namB, hl.out]; simp [h2]
      go_wp2
      go_ret
      exact ⟨rfl, rfl⟩
  · obtain rfl : false = r := by rw [← HR.out, namB, hl.out]; simp [h1]
    go_wp2
    go_ret
    exact ⟨rfl, rfl⟩
end Go.Proofs.YtidfkencjdjkbaaGreatDoor

/-
  PACKAGE speech: pieces in memory; what is next, and whether it is so.
-/
namespace Go.Proofs.YtidfkencjdjkbaaGreatDoor
open Go.RowKit Sp

/-- a text of these bytes -/
abbrev tx (t : By) : ByteArray := ⟨t.toArray⟩
theorem tx_inj {x y : By} : tx x = tx y ↔ x = y := by
  constructor
  · intro h
    have := congrArg (fun b : ByteArray => b.data.toList) h
    simpa using this
  · rintro rfl; rfl
theorem by_beq (x t : By) : (x == t) = decide (x = t) := by rw [Bool.eq_iff_iff]; simp
theorem eqs (x t : By) (b : Bool) (h : decide (x = t) = b) (u : World) : (binOp .eql 9 (.string (tx x)) (.string (tx t))).run Tryz.prog u = .ok (.bool b) u := by
  subst h
  simp only [binOp, Op.stringOp]
  simp [by_beq]

/-! ### pieces in memory -/
/-- pieces, in a block other than R -/
def Pcs (w : World) (R P : Nat) (v : Value) (ps : List Pc) : Prop :=
  ∃ o c, v = .slice (some ⟨P, o, none⟩) ps.length c ∧ ps.length ≤ c ∧ c ≤ 9223372036854775807 ∧ P < w.heap.size ∧ P ≠ R ∧ ∀ (i : Nat) (p : Pc), ps[i]? = some p → w.cell? ⟨P, o + i * 2, none⟩ = some (.string (tx p.1)) ∧ w.cell? ⟨P, o + i * 2 + 1, none⟩ = some (.int .i64 (p.2 : Int)) ∧ p.1.length ≤ 65536 ∧ p.2 ≤ 65536
theorem Pcs.gb {w w' : World} {R P : Nat} {v : Value} {ps : List Pc} (h : Pcs w R P v ps) (hg : w.grownBy w' (some R)) : Pcs w' R P v ps := by
  obtain ⟨o, c, h1, h2, h3, h4, h5, h6⟩ := h
  refine ⟨o, c, h1, h2, h3, Nat.lt_of_lt_of_le h4 hg.size, h5, fun i p hp => ?_⟩
  obtain ⟨q1, q2, q3⟩ := h6 i p hp
  have hn : some P ≠ some R := by simpa using h5
  exact ⟨hg.cell (a := ⟨P, o + i * 2, none⟩) q1 hn, hg.cell (a := ⟨P, o + i * 2 + 1, none⟩) q2 hn, q3⟩
/-- all but the last have a text, the last has none -/
def Fin : List Pc → Prop
  | [] => False
  | [p] => p.1 = []
  | p :: r => p.1 ≠ [] ∧ Fin r
theorem Fin.ne {ps : List Pc} (h : Fin ps) : ps ≠ [] := by rintro rfl; exact h
theorem Fin.tail {ps : List Pc} (h : Fin ps) (hd : hd ps ≠ []) : Fin ps.tail := by
  match ps, h with
  | [p], h => exact absurd h hd
  | p :: q :: r, h => exact h.2
/-- a reader: its pieces, the words, in a block of two cells -/
structure Rdr (w : World) (R P0 : Nat) (ps : List Pc) (m : Value) : Prop where
  c : ∃ v, Cl w R 0 v ∧ Pcs w R P0 v ps
  m : Cl w R 1 m
  f : Fin ps
  d : ∀ p ∈ ps, fstD p.1 = true → p.1.all digB = true
theorem Rdr.head {w : World} {R P0 : Nat} {ps : List Pc} {m : Value} (h : Rdr w R P0 ps m) : ∃ P o n c, n = ps.length ∧ 0 < n ∧ n ≤ c ∧ c ≤ 9223372036854775807 ∧ w.cell? ⟨R, 0, none⟩ = some (.slice (some ⟨P, o, none⟩) n c) ∧ w.frozen? ⟨R, 0, none⟩ = false ∧ w.cell? ⟨P, o, none⟩ = some (.string (tx (hd ps))) ∧ w.cell? ⟨P, o + 1, none⟩ = some (.int .i64 (hat ps : Int)) ∧ (hd ps).length ≤ 65536 ∧ hat ps ≤ 65536 ∧ R < w.heap.size ∧ P ≠ R := by
  obtain ⟨v, hc, o, c, rfl, h2, h3, h4, h5, h6⟩ := h.c
  have hne := h.f.ne
  obtain ⟨p, r, rfl⟩ := List.exists_cons_of_ne_nil hne
  obtain ⟨q1, q2, q3, q4⟩ := h6 0 p rfl
  exact ⟨P0, o, _, c, rfl, by simp, h2, h3, hc.c, hc.f, by simpa [hd] using q1, by simpa [hat] using q2, q3, q4, hc.lt, h5⟩
theorem gb_cell {w w' : World} {R b k : Nat} {v : Value} (h : Cl w b k v) (hg : w.grownBy w' (some R)) (hn : b ≠ R) : Cl w' b k v := by
  have hk : w'.heap[b]? = w.heap[b]? := hg.block b h.lt (by simpa using hn)
  exact ⟨(World.cell?_of_block (w := w) (a := ⟨b, k, none⟩) hk).trans h.c, (World.frozen?_of_block (w := w) (a := ⟨b, k, none⟩) hk).trans h.f, Nat.lt_of_lt_of_le h.lt hg.size⟩
/-- new memory alone -/
theorem Rdr.at {w w' : World} {R P0 : Nat} {ps : List Pc} {m : Value} (h : Rdr w R P0 ps m) (hb : Below w.heap.size w w') : Rdr w' R P0 ps m := by
  obtain ⟨v, hc, hp⟩ := h.c
  exact ⟨⟨v, hc.at hb, hp.gb (gb_below hb)⟩, h.m.at hb, h.f, h.d⟩
/-- one piece on -/
theorem Rdr.step {w : World} {R P0 : Nat} {ps : List Pc} {m : Value} (h : Rdr w R P0 ps m) (hd : hd ps ≠ []) {P o n c : Nat} (h0 : w.cell? ⟨R, 0, none⟩ = some (.slice (some ⟨P, o, none⟩) n c)) (hn : n = ps.length) : Rdr (w.setCell ⟨R, 0, none⟩ (.slice (some ⟨P, o + 2, none⟩) (n - 1) (c - 1))) R P0 ps.tail m := by
  obtain ⟨v, hc, o', c', rfl, h2, h3, h4, h5, h6⟩ := h.c
  have e := hc.c.symm.trans h0
  simp only [Option.some.injEq, Value.slice.injEq, Addr.mk.injEq] at e
  obtain ⟨⟨rfl, rfl, -⟩, -, rfl⟩ := e
  refine ⟨⟨_, hc.set _, o' + 2, c' - 1, by rw [List.length_tail, hn], by rw [List.length_tail]; omega, by omega, by simpa using h4, h5, fun i p hp => ?_⟩, h.m.oth (.inr (by decide)) _, h.f.tail hd, fun p hp => h.d p (List.mem_of_mem_tail hp)⟩
  rw [List.getElem?_tail] at hp
  obtain ⟨q1, q2, q3⟩ := h6 (i + 1) p hp
  have hne : (⟨R, 0, none⟩ : Addr) ≠ ⟨P0, o' + 2 + i * 2, none⟩ := by intro e; simp only [Addr.mk.injEq] at e; omega
  have hne2 : (⟨R, 0, none⟩ : Addr) ≠ ⟨P0, o' + 2 + i * 2 + 1, none⟩ := by intro e; simp only [Addr.mk.injEq] at e; omega
  exact ⟨(sc_other hne).trans (by rw [← q1]; congr 2; omega), (sc_other hne2).trans (by rw [← q2]; congr 2; omega), q3⟩
/-- a store into another block -/
theorem Rdr.put {w : World} {R P0 : Nat} {ps : List Pc} {m : Value} (h : Rdr w R P0 ps m) {b : Nat} (hb : b ≠ R) (hb2 : b ≠ P0) (k : Nat) (u : Value) : Rdr (w.setCell ⟨b, k, none⟩ u) R P0 ps m := by
  obtain ⟨v, hc, o, c, rfl, h2, h3, h4, h5, h6⟩ := h.c
  refine ⟨⟨_, hc.oth (.inl hb) _, o, c, rfl, h2, h3, by simpa using h4, h5, fun i p hp => ?_⟩, h.m.oth (.inl hb) _, h.f, h.d⟩
  obtain ⟨q1, q2, q3⟩ := h6 i p hp
  exact ⟨(sc_other (by intro e; simp only [Addr.mk.injEq] at e; omega)).trans q1, (sc_other (by intro e; simp only [Addr.mk.injEq] at e; omega)).trans q2, q3⟩
theorem Rdr.pl {w : World} {R P0 : Nat} {ps : List Pc} {m : Value} (h : Rdr w R P0 ps m) : P0 < w.heap.size ∧ R < w.heap.size := by
  obtain ⟨v, hc, o, c, rfl, h2, h3, h4, h5, h6⟩ := h.c
  exact ⟨h4, hc.lt⟩
end Go.Proofs.YtidfkencjdjkbaaGreatDoor

/-
  PACKAGE speech, pieces: next, is, step, must, has, take.
-/
namespace Go.Proofs.YtidfkencjdjkbaaGreatDoor
open Go.RowKit Sp

abbrev ptR (R : Nat) : Value := .pointer (some ⟨R, 0, none⟩)
theorem next_any {w : World} {R P0 : Nat} {ps : List Pc} {m : Value} (h : Rdr w R P0 ps m) (x : By) (hx : hd ps = x) : Calls Tryz.prog 49 #[ptR R] w fun e w' => e = .returned (.string (tx x)) ∧ w' = w := by
  obtain ⟨P, o, n, c, -, hn, hc, hc2, c0, f0, p0, p1, -, -, hR, -⟩ := h.head
  rw [hx] at p0
  clear h hx
  have hn1 : (0 : Int) < (n : Int) := by omega
  go_enter Tryz.func49, Tryz.ntmps49
  go_wp2
  go_ret
  exact ⟨rfl, rfl⟩
theorem is_any {w : World} {R P0 : Nat} {ps : List Pc} {m : Value} (h : Rdr w R P0 ps m) (t : By) (b : Bool) (hb : decide (hd ps = t) = b) : Calls Tryz.prog 24 #[ptR R, .string (tx t)] w fun e w' => e = .returned (.bool b) ∧ w' = w := by
  have k := next_any h _ rfl
  have hq := eqs (hd ps) t b hb
  have hq2 : (hd ps == t) = b := by rw [by_beq]; exact hb
  clear hb h
  generalize hd ps = x at *
  go_enter Tryz.func24, Tryz.ntmps24
  go_wp2_with fail
  refine k.mono ?_
  rintro e w1 ⟨rfl, rfl⟩
  clear k
  go_wp2
  go_ret
  exact ⟨rfl, rfl⟩
theorem Fin.two {ps : List Pc} (h : Fin ps) (hd : hd ps ≠ []) : 2 ≤ ps.length := by
  match ps, h with
  | [p], h => exact absurd h hd
  | p :: q :: r, h => simp
theorem step_any {w : World} {R P0 : Nat} {ps : List Pc} {m : Value} (h : Rdr w R P0 ps m) (hne : hd ps ≠ []) : Calls Tryz.prog 48 #[ptR R] w fun e w' => e = .returned (.tuple #[]) ∧ Rdr w' R P0 ps.tail m ∧ w.grownBy w' (some R) := by
  obtain ⟨P, o, n, c, hl, hn, hc, hc2, c0, f0, p0, p1, -, -, hR, -⟩ := h.head
  have HS : Hid (Rdr (w.setCell ⟨R, 0, none⟩ (.slice (some ⟨P, o + 2, none⟩) (n - 1) (c - 1))) R P0 ps.tail m) := h.step hne c0 hl
  have hn1 : (1 : Int) ≤ (n : Int) := by omega
  have hn2 : (1 : Int) ≤ (c : Int) := by omega
  have hn3 : (n : Int) ≤ (c : Int) := by omega
  have hn4 : ¬ c = 1 := by have := h.f.two hne; omega
  clear h hl hne
  go_enter Tryz.func48, Tryz.ntmps48
  go_wp2
  go_end0
  exact ⟨rfl, HS.out, gb_set (gb_refl _ _) 0 _⟩
theorem pmust_ok {w : World} {R P0 : Nat} {ps : List Pc} {m : Value} (h : Rdr w R P0 ps m) (er : Int) : Calls Tryz.prog 23 #[ptR R, .bool true, .int .i64 er] w fun e w' => e = .returned (.tuple #[]) ∧ w' = w := by
  obtain ⟨P, o, n, c, hl, hn, hc, hc2, c0, f0, p0, p1, -, -, hR, -⟩ := h.head
  have hn1 : (0 : Int) < (n : Int) := by omega
  have k := must_ok er (hat ps) w
  clear h hl
  go_enter Tryz.func23, Tryz.ntmps23
  go_wp2_with fail
  refine k.mono ?_
  rintro e w1 ⟨rfl, rfl⟩
  go_wp2
  go_end0
  exact ⟨rfl, rfl⟩
theorem pmust_no {w : World} {R P0 : Nat} {ps : List Pc} {m : Value} (h : Rdr w R P0 ps m) (er : Int) : Calls Tryz.prog 23 #[ptR R, .bool false, .int .i64 er] w fun e w' => e = .panicked (chn er (hat ps)) ∧ w' = w := by
  obtain ⟨P, o, n, c, hl, hn, hc, hc2, c0, f0, p0, p1, -, -, hR, -⟩ := h.head
  have hn1 : (0 : Int) < (n : Int) := by omega
  have k := must_no er (hat ps) w
  clear h hl
  go_enter Tryz.func23, Tryz.ntmps23
  go_wp2_with fail
  refine k.mono ?_
  rintro e w1 ⟨rfl, rfl⟩
  go_wp2
  exact ⟨rfl, rfl, rfl⟩
theorem has_yes {w : World} {R P0 : Nat} {ps : List Pc} {m : Value} (h : Rdr w R P0 ps m) (t : By) (ht : t ≠ []) (hb : hd ps = t) : Calls Tryz.prog 105 #[ptR R, .string (tx t)] w fun e w' => e = .returned (.bool true) ∧ Rdr w' R P0 ps.tail m ∧ w.grownBy w' (some R) := by
  have k := is_any h t true (by simpa using hb)
  have k2 := step_any h (by rw [hb]; exact ht)
  clear h
  go_enter Tryz.func105, Tryz.ntmps105
  go_wp2_with fail
  refine k.mono ?_
  rintro e w1 ⟨rfl, rfl⟩
  clear k
  go_wp2_with fail
  refine k2.mono ?_
  rintro e w2 ⟨rfl, h2, hg⟩
  clear k2
  go_wp2
  go_ret
  exact ⟨rfl, h2, hg⟩
theorem has_no {w : World} {R P0 : Nat} {ps : List Pc} {m : Value} (h : Rdr w R P0 ps m) (t : By) (hb : hd ps ≠ t) : Calls Tryz.prog 105 #[ptR R, .string (tx t)] w fun e w' => e = .returned (.bool false) ∧ w' = w := by
  have k := is_any h t false (by simpa using hb)
  clear h
  go_enter Tryz.func105, Tryz.ntmps105
  go_wp2_with fail
  refine k.mono ?_
  rintro e w1 ⟨rfl, rfl⟩
  clear k
  go_wp2
  go_ret
  exact ⟨rfl, rfl⟩
theorem take_yes {w : World} {R P0 : Nat} {ps : List Pc} {m : Value} (h : Rdr w R P0 ps m) (t : By) (ht : t ≠ []) (hb : hd ps = t) : Calls Tryz.prog 86 #[ptR R, .string (tx t)] w fun e w' => e = .returned (.tuple #[]) ∧ Rdr w' R P0 ps.tail m ∧ w.grownBy w' (some R) := by
  have k := has_yes h t ht hb
  clear h
  go_enter Tryz.func86, Tryz.ntmps86
  go_wp2_with fail
  refine k.mono ?_
  rintro e w1 ⟨rfl, h1, hg⟩
  clear k
  have k2 := pmust_ok h1 2
  go_wp2_with fail
  refine k2.mono ?_
  rintro e w2 ⟨rfl, rfl⟩
  clear k2
  go_wp2
  go_end0
  exact ⟨rfl, h1, hg⟩
theorem take_no {w : World} {R P0 : Nat} {ps : List Pc} {m : Value} (h : Rdr w R P0 ps m) (t : By) (hb : hd ps ≠ t) : Calls Tryz.prog 86 #[ptR R, .string (tx t)] w fun e w' => e = .panicked (chn 2 (hat ps)) ∧ w' = w := by
  have k := has_no h t hb
  have k2 := pmust_no h 2
  clear h
  go_enter Tryz.func86, Tryz.ntmps86
  go_wp2_with fail
  refine k.mono ?_
  rintro e w1 ⟨rfl, rfl⟩
  clear k
  go_wp2_with fail
  refine k2.mono ?_
  rintro e w2 ⟨rfl, rfl⟩
  clear k2
  go_wp2
  exact ⟨rfl, rfl, rfl⟩
end Go.Proofs.YtidfkencjdjkbaaGreatDoor

/-
  PACKAGE speech: two, long.
-/
namespace Go.Proofs.YtidfkencjdjkbaaGreatDoor
open Go.RowKit Sp

theorem two_any (x : By) (b : Bool) (hb : twoB x = b) (w : World) : Calls Tryz.prog 82 #[.string (tx x)] w fun e w' => e = .returned (.bool b) ∧ w' = w := by
  have HB : Hid (twoB x = b) := hb
  clear hb
  obtain ⟨b1, h1⟩ : ∃ b1, decide (x = [46, 46]) = b1 := ⟨_, rfl⟩
  obtain ⟨b2, h2⟩ : ∃ b1, decide (x = [60, 61]) = b1 := ⟨_, rfl⟩
  obtain ⟨b3, h3⟩ : ∃ b1, decide (x = [62, 61]) = b1 := ⟨_, rfl⟩
  obtain ⟨b4, h4⟩ : ∃ b1, decide (x = [60, 62]) = b1 := ⟨_, rfl⟩
  have q1 := eqs x _ b1 h1
  have q2 := eqs x _ b2 h2
  have q3 := eqs x _ b3 h3
  have q4 := eqs x _ b4 h4
  have p1 : (x == [46, 46]) = b1 := by rw [by_beq]; exact h1
  have p2 : (x == [60, 61]) = b2 := by rw [by_beq]; exact h2
  have p3 : (x == [62, 61]) = b3 := by rw [by_beq]; exact h3
  have p4 : (x == [60, 62]) = b4 := by rw [by_beq]; exact h4
  have HE : Hid (b = (b1 || (b2 || (b3 || b4)))) := by
    rw [Hid, ← HB.out, ← h1, ← h2, ← h3, ← h4]
    simp [twoB]
  clear h1 h2 h3 h4 HB
  go_enter Tryz.func82, Tryz.ntmps82
  cases b1
  · cases b2
    · cases b3
      · go_wp2
        go_ret
        exact ⟨by rw [HE.out]; rfl, rfl⟩
      · go_wp2
        go_ret
        exact ⟨by rw [HE.out]; rfl, rfl⟩
    · go_wp2
      go_ret
      exact ⟨by rw [HE.out]; rfl, rfl⟩
  · go_wp2
    go_ret
    exact ⟨by rw [HE.out]; rfl, rfl⟩
end Go.Proofs.YtidfkencjdjkbaaGreatDoor

/-
  PACKAGE speech: the words of the language, and what may be a name.
-/
namespace Go.Proofs.YtidfkencjdjkbaaGreatDoor
open Go.RowKit Sp Go.ChangeMaps

def wEnt (l : List (By × Int)) : List MapEntry := l.zipIdx.map fun x => { key := .string (tx x.1.1), val := .int .i64 x.1.2, born := x.2 }
def wWds : List (By × Int) := [(wCount, 1), (wSum, 2), (wBins, 3), (wTotal, 8), (wJoin, 7), (wClamp, 10), (wWhere, 0), (wAnd, 0), (wIn, 0)]
/-- the words, in memory -/
def Wds (w : World) (b : Nat) : Prop := w.heap[b]? = some (.map (wEnt wWds).toArray 9)
theorem Wds.gb {w w' : World} {b R : Nat} (h : Wds w b) (hg : w.grownBy w' (some R)) (hn : b ≠ R) : Wds w' b := (hg.block b (Array.getElem?_eq_some_iff.1 h).1 (by simpa using hn)).trans h
theorem Wds.at {w w' : World} {b : Nat} (h : Wds w b) (hb : Below w.heap.size w w') : Wds w' b := (hb.block b (Array.getElem?_eq_some_iff.1 h).1).trans h
theorem ba_beq (x t : By) : (tx x == tx t) = decide (x = t) := by
  have h : (tx x == tx t) = true ↔ tx x = tx t := by
    constructor
    · intro e
      have := MapKept.bytes_beq (a := tx x) (b := tx t)
      simp_all
    · intro e
      have := MapKept.bytes_beq (a := tx x) (b := tx t)
      simp_all
  rw [Bool.eq_iff_iff, h, tx_inj]
  simp
theorem ents_snoc (l : List (By × Int)) (t : By) (v : Int) : wEnt (l ++ [(t, v)]) = wEnt l ++ [{ key := .string (tx t), val := .int .i64 v, born := l.length }] := by
  simp [wEnt, List.zipIdx_append]
def fnd (x : By) : List (By × Int) → Nat → Option (Nat × Value)
  | [], _ => none
  | p :: r, i => if x = p.1 then some (i, .int .i64 p.2) else fnd x r (i + 1)
theorem find_now (x : By) : ∀ (l : List (By × Int)) (k i : Nat), Instr.findNow .string (.string (tx x)) ((l.zipIdx k).map fun x => ({ key := .string (tx x.1.1), val := .int .i64 x.1.2, born := x.2 } : MapEntry)) i = some (fnd x l i)
  | [], _, _ => rfl
  | p :: r, k, i => by
    have ih := find_now x r (k + 1) (i + 1)
    simp only [List.zipIdx_cons, List.map_cons, Instr.findNow, Instr.sameNow, fnd]
    rw [ba_beq]
    by_cases h : x = p.1
    · simp [h]
    · simp only [h, decide_false, if_false]
      exact ih
theorem fnd_not (x : By) : ∀ (l : List (By × Int)) (i : Nat), x ∉ l.map Prod.fst → fnd x l i = none
  | [], _, _ => rfl
  | p :: r, i, h => by
    simp only [List.map_cons, List.mem_cons, not_or] at h
    simp only [fnd, if_neg h.1]
    exact fnd_not x r (i + 1) h.2
theorem upd_step (V : World) (b i : Nat) (t : By) (v : Int) (l : List (By × Int)) (hl : l.length = i) (hb : V.heap[b]? = some (.map (wEnt l).toArray i)) (hn : t ∉ l.map Prod.fst) :
    ∃ V', (Instr.mapUpdate 47 (.map (some b)) (.string (tx t)) (.int .i64 v)).run Tryz.prog V = .ok () V' ∧ V'.heap[b]? = some (.map (wEnt (l ++ [(t, v)])).toArray (i + 1)) ∧ V.grownBy V' (some b) := by
  have hf : Instr.findNow .string (.string (tx t)) (wEnt l).toArray.toList 0 = some none := by
    have := find_now t l 0 0
    rw [fnd_not t l 0 hn] at this
    exact this
  have hc : (Instr.checkKey false 10000 9 (.string (tx t))).run Tryz.prog V = .ok () V := MapKept.run_checkKey (k := .string (tx t)) Tryz.underlying9 (by simp [MapKept.IsKey]) false 9999
  refine ⟨setBlock V b (.map ((wEnt l).toArray.push { key := .string (tx t), val := .int .i64 v, born := i }) (i + 1)), ?_, ?_, ⟨rfl, rfl, rfl, by simp [setBlock], fun k _ hk => heap_setBlock_other hb _ (fun e => hk (by rw [e]))⟩⟩
  · simp [Instr.mapUpdate, run_underlying Tryz.underlying47, MapKept.run_getObj_map hb, hc, MapKept.run_findKey Tryz.underlying9 hf, MapKept.run_setObj_map _ hb, Result.andThen, setBlock]
  · rw [heap_setBlock_same hb, ents_snoc, hl]
    simp
theorem known_any (w : World) : Calls Tryz.prog 13 #[] w fun e w' => ∃ b, e = .returned (.map (some b)) ∧ Wds w' b ∧ w.heap.size ≤ b ∧ b < w'.heap.size ∧ Below w.heap.size w w' := by
  obtain ⟨V0, hV0⟩ : ∃ V0, w.alloc (.map #[] 0) = V0 := ⟨_, rfl⟩
  have h0 : V0.heap[w.heap.size]? = some (.map (wEnt []).toArray 0) := hV0 ▸ Go.heap_alloc_last w _
  have g0 : w.grownBy V0 (some w.heap.size) := hV0 ▸ gb_alloc (gb_refl _ _) _
  obtain ⟨V1, e1, h1, g1⟩ := upd_step V0 _ 0 wCount 1 [] rfl h0 (by decide)
  obtain ⟨V2, e2, h2, g2⟩ := upd_step V1 _ 1 wSum 2 _ rfl h1 (by decide)
  obtain ⟨V3, e3, h3, g3⟩ := upd_step V2 _ 2 wBins 3 _ rfl h2 (by decide)
  obtain ⟨V4, e4, h4, g4⟩ := upd_step V3 _ 3 wTotal 8 _ rfl h3 (by decide)
  obtain ⟨V5, e5, h5, g5⟩ := upd_step V4 _ 4 wJoin 7 _ rfl h4 (by decide)
  obtain ⟨V6, e6, h6, g6⟩ := upd_step V5 _ 5 wClamp 10 _ rfl h5 (by decide)
  obtain ⟨V7, e7, h7, g7⟩ := upd_step V6 _ 6 wWhere 0 _ rfl h6 (by decide)
  obtain ⟨V8, e8, h8, g8⟩ := upd_step V7 _ 7 wAnd 0 _ rfl h7 (by decide)
  obtain ⟨V9, e9, h9, g9⟩ := upd_step V8 _ 8 wIn 0 _ rfl h8 (by decide)
  have HW : Hid (Wds V9 w.heap.size) := h9
  have HG : Hid (w.grownBy V9 (some w.heap.size)) := gb_trans g0 (gb_trans g1 (gb_trans g2 (gb_trans g3 (gb_trans g4 (gb_trans g5 (gb_trans g6 (gb_trans g7 (gb_trans g8 g9))))))))
  have hmk := run_makeMap_plain (P := Tryz.prog) (w := w) 47
  rw [hV0] at hmk
  clear h0 g0 h1 g1 h2 g2 h3 g3 h4 g4 h5 g5 h6 g6 h7 g7 h8 g8 h9 g9 hV0
  go_enter Tryz.func13, Tryz.ntmps13
  go_wp2
  go_ret
  exact ⟨_, rfl, HW.out, Nat.le_refl _, (Array.getElem?_eq_some_iff.1 HW.out).1, below_gb HG.out (Nat.le_refl _) (Nat.le_refl _)⟩
/-- a word is looked up -/
theorem fnd_own (x : By) : (fnd x wWds 0 = none ∧ x ∉ owns ∧ kndN x = 0) ∨ ∃ i, fnd x wWds 0 = some (i, .int .i64 (kndN x : Int)) ∧ x ∈ owns := by
  by_cases h1 : x = wCount
  · subst h1; exact .inr ⟨0, by rfl, by decide⟩
  by_cases h2 : x = wSum
  · subst h2; exact .inr ⟨1, by rfl, by decide⟩
  by_cases h3 : x = wBins
  · subst h3; exact .inr ⟨2, by rfl, by decide⟩
  by_cases h4 : x = wTotal
  · subst h4; exact .inr ⟨3, by rfl, by decide⟩
  by_cases h5 : x = wJoin
  · subst h5; exact .inr ⟨4, by rfl, by decide⟩
  by_cases h6 : x = wClamp
  · subst h6; exact .inr ⟨5, by rfl, by decide⟩
  by_cases h7 : x = wWhere
  · subst h7; exact .inr ⟨6, by rfl, by decide⟩
  by_cases h8 : x = wAnd
  · subst h8; exact .inr ⟨7, by rfl, by decide⟩
  by_cases h9 : x = wIn
  · subst h9; exact .inr ⟨8, by rfl, by decide⟩
  refine .inl ⟨by simp [fnd, wWds, h1, h2, h3, h4, h5, h6, h7, h8, h9], by simp [owns, h1, h2, h3, h4, h5, h6, h7, h8, h9], by simp [kndN, h1, h2, h3, h4, h5, h6]⟩
theorem wds_look {w : World} {b : Nat} (h : Wds w b) (x : By) : (Instr.lookup 47 (.map (some b)) (.string (tx x)) false).run Tryz.prog w = .ok (.int .i64 (kndN x : Int)) w ∧ (Instr.lookup 47 (.map (some b)) (.string (tx x)) true).run Tryz.prog w = .ok (.tuple #[.int .i64 (kndN x : Int), .bool (decide (x ∈ owns))]) w := by
  have hf : Instr.findNow .string (.string (tx x)) (wEnt wWds).toArray.toList 0 = some (fnd x wWds 0) := find_now x wWds 0 0
  have hc : (Instr.checkKey (wEnt wWds).toArray.isEmpty 10000 9 (.string (tx x))).run Tryz.prog w = .ok () w := MapKept.run_checkKey (k := .string (tx x)) Tryz.underlying9 (by simp [MapKept.IsKey]) _ 9999
  have hk := MapKept.run_findKey (P := Tryz.prog) (w := w) Tryz.underlying9 hf
  have hg := MapKept.run_getObj_map (P := Tryz.prog) h
  generalize hE : (wEnt wWds).toArray = E at *
  rcases fnd_own x with ⟨q1, q2, q3⟩ | ⟨i, q1, q2⟩
  · rw [q1] at hk
    simp [Instr.lookup, run_underlying Tryz.underlying47, hg, hc, hk, Result.andThen, q2, q3, go_sem]
  · rw [q1] at hk
    simp [Instr.lookup, run_underlying Tryz.underlying47, hg, hc, hk, Result.andThen, q2]
/-- may it be a name of a column? -/
theorem names_any {w : World} {b : Nat} (h : Wds w b) (x : By) (hx : x.length ≤ 65536) (r : Bool) (hr : nmd x = r) : Calls Tryz.prog 34 #[.map (some b), .string (tx x)] w fun e w' => e = .returned (.bool r) ∧ w' = w := by
  obtain ⟨nb, hnb⟩ : ∃ nb, namB x = nb := ⟨_, rfl⟩
  have k := name_any (tx x) (by show x.toArray.size ≤ _; simp; omega) w nb hnb
  have hl := (wds_look h x).2
  obtain ⟨ob, hob⟩ : ∃ ob, decide (x ∈ owns) = ob := ⟨_, rfl⟩
  rw [hob] at hl
  have HR : Hid (r = (nb && !ob)) := by rw [Hid, ← hr, nmd, hnb, hob]
  clear hob hnb hr
  go_enter Tryz.func34, Tryz.ntmps34
  go_wp2_with fail
  refine k.mono ?_
  rintro e w1 ⟨rfl, rfl⟩
  clear k
  cases nb
  · go_wp2
    go_ret
    exact ⟨by rw [HR.out]; rfl, rfl⟩
  · go_wp2
    go_ret
    exact ⟨by rw [HR.out]; rfl, rfl⟩
end Go.Proofs.YtidfkencjdjkbaaGreatDoor
