import Derived.Test.YtidfkencjdjkbaaDoorQr02
/-
  PACKAGE runs: letters, digits, names.
-/
namespace Go.Proofs.YtidfkencjdjkbaaDoor
open Go.RowKit Sp

theorem ret_b {a b : Bool} (h : a = b) : Ending.returned (.bool a) = .returned (.bool b) := by rw [h]
theorem drop_str {s : ByteArray} {n : Nat} (h : n < s.size) : s.data.toList.drop n = s[n] :: s.data.toList.drop (n + 1) := by
  rw [List.drop_eq_getElem_cons (by simpa using h)]; rfl
theorem runL_step {p : UInt8 → Bool} {s : ByteArray} {n : Nat} (h : n < s.size) : runL p (s.data.toList.drop n) = if p s[n] then runL p (s.data.toList.drop (n + 1)) + 1 else 0 := by
  rw [drop_str h]; rfl
theorem runL_le (p : UInt8 → Bool) : ∀ s : By, runL p s ≤ s.length
  | [] => Nat.le_refl _
  | c :: r => by
    unfold runL
    have := runL_le p r
    split
    · simp; omega
    · simp
theorem runL_all (p : UInt8 → Bool) : ∀ s : By, runL p s = s.length ↔ s.all p = true
  | [] => by simp [runL]
  | c :: r => by
    have h1 := runL_all p r
    have h2 := runL_le p r
    show (if p c then runL p r + 1 else 0) = _ ↔ _
    by_cases h : p c = true
    · rw [if_pos h]; simp [h, h1]
    · rw [if_neg h]; simp [h]
theorem letter_any (b : Nat) (w : World) (r : Bool) (hr : (decide (97 ≤ b) && decide (b ≤ 122) || decide (b = 95)) = r) : Calls Tryd.prog 62 #[.int .u8 (b : Int)] w fun e w' => e = .returned (.bool r) ∧ w' = w := by
  have HR : Hid ((decide (97 ≤ b) && decide (b ≤ 122) || decide (b = 95)) = r) := hr
  clear hr
  go_enter Tryd.func62, Tryd.ntmps62
  by_cases h1 : 97 ≤ b
  · by_cases h2 : b ≤ 122
    · obtain rfl : true = r := by rw [← HR.out]; simp [h1, h2]
      go_wp2
      go_ret
      exact ⟨rfl, rfl⟩
    · have h3 : b ≠ 95 := by omega
      obtain rfl : false = r := by rw [← HR.out]; simp [h2, h3]
      go_wp2
      go_ret
      exact ⟨ret_b (by simp; omega), rfl⟩
  · by_cases h3 : b = 95
    · subst h3
      obtain rfl : true = r := by rw [← HR.out]; simp
      go_wp2
      go_ret
      exact ⟨rfl, rfl⟩
    · obtain rfl : false = r := by rw [← HR.out]; simp [h1, h3]
      go_wp2
      go_ret
      exact ⟨ret_b (by simp; omega), rfl⟩
theorem digit_any (b : Nat) (w : World) (r : Bool) (hr : (decide (48 ≤ b) && decide (b ≤ 57)) = r) : Calls Tryd.prog 63 #[.int .u8 (b : Int)] w fun e w' => e = .returned (.bool r) ∧ w' = w := by
  have HR : Hid ((decide (48 ≤ b) && decide (b ≤ 57)) = r) := hr
  clear hr
  go_enter Tryd.func63, Tryd.ntmps63
  by_cases h1 : 48 ≤ b
  · by_cases h2 : b ≤ 57
    · obtain rfl : true = r := by rw [← HR.out]; simp [h1, h2]
      go_wp2
      go_ret
      exact ⟨ret_b (by simp; try omega), rfl⟩
    · obtain rfl : false = r := by rw [← HR.out]; simp [h2]
      go_wp2
      go_ret
      exact ⟨ret_b (by simp; try omega), rfl⟩
  · obtain rfl : false = r := by rw [← HR.out]; simp [h1]
    go_wp2
    go_ret
    exact ⟨ret_b (by simp; try omega), rfl⟩

set_option maxHeartbeats 400000 in
theorem runL_any (s : ByteArray) (hs : s.size ≤ 9223372036854775807) (w : World) (r : Nat) (hr : runL letB s.data.toList = r) : Calls Tryd.prog 61 #[.string s, .func (.func 62) #[] #[]] w fun e w' => e = .returned (.int .i64 (r : Int)) ∧ w' = w := by
  have HR : Hid (runL letB s.data.toList = r) := hr
  clear hr
  go_enter Tryd.func61, Tryd.ntmps61
  go_wp2
  go_loopw [5] (fun nv wr => ∃ n : Nat, nv = .int .i64 (n : Int) ∧ n ≤ s.size ∧ Hid (n + runL letB (s.data.toList.drop n) = r) ∧ wr = w) (fun nv _ => s.size - (intOf nv).toNat)
  case atStart => exact ⟨0, rfl, Nat.zero_le _, by simpa [Hid] using HR.out, rfl⟩
  case round =>
    obtain ⟨n, rfl, hn, HI, rfl⟩ := hrel
    by_cases h1 : n < s.size
    · have ST : Hid (runL letB (s.data.toList.drop n) = if letB s[n] then runL letB (s.data.toList.drop (n + 1)) + 1 else 0) := runL_step h1
      cases hb : letB s[n] with
      | true =>
        have HB : Hid (letB s[n] = true) := hb
        clear hb
        go_wp2_with fail
        refine (letter_any s[n].toNat _ true HB.out).mono ?_
        rintro e w1 ⟨rfl, rfl⟩
        go_wp2
        go_roundw
        case rel => exact ⟨n + 1, by go_num, h1, by have h2 := HI.out; rw [ST.out, HB.out] at h2; simp only [if_true] at h2; show _ = r; omega, trivial⟩
        case measure => simp [intOf]; omega
      | false =>
        have HB : Hid (letB s[n] = false) := hb
        clear hb
        have HN : Hid (n = r) := by have h2 := HI.out; rw [ST.out, HB.out] at h2; simpa [Hid] using h2
        go_wp2_with fail
        refine (letter_any s[n].toNat _ false HB.out).mono ?_
        rintro e w1 ⟨rfl, rfl⟩
        go_wp2
        go_ret
        exact ⟨by rw [← HN.out]; rfl, rfl⟩
    · have HN : Hid (n = r) := by have h2 := HI.out; rw [List.drop_eq_nil_of_le (by simp; omega)] at h2; simpa [runL, Hid] using h2
      go_wp2
      go_ret
      exact ⟨by rw [← HN.out]; rfl, rfl⟩
theorem letters_any (s : ByteArray) (hs : s.size ≤ 9223372036854775807) (w : World) (r : Nat) (hr : runL letB s.data.toList = r) : Calls Tryd.prog 42 #[.string s] w fun e w' => e = .returned (.int .i64 (r : Int)) ∧ w' = w := by
  have k := runL_any s hs w r hr
  clear hr
  go_enter Tryd.func42, Tryd.ntmps42
  go_wp2_with fail
  refine k.mono ?_
  rintro e w1 ⟨rfl, rfl⟩
  go_wp2
  go_ret
  exact ⟨rfl, rfl⟩

set_option maxHeartbeats 400000 in
theorem runD_any (s : ByteArray) (hs : s.size ≤ 9223372036854775807) (w : World) (r : Nat) (hr : runL digB s.data.toList = r) : Calls Tryd.prog 61 #[.string s, .func (.func 63) #[] #[]] w fun e w' => e = .returned (.int .i64 (r : Int)) ∧ w' = w := by
  have HR : Hid (runL digB s.data.toList = r) := hr
  clear hr
  go_enter Tryd.func61, Tryd.ntmps61
  go_wp2
  go_loopw [5] (fun nv wr => ∃ n : Nat, nv = .int .i64 (n : Int) ∧ n ≤ s.size ∧ Hid (n + runL digB (s.data.toList.drop n) = r) ∧ wr = w) (fun nv _ => s.size - (intOf nv).toNat)
  case atStart => exact ⟨0, rfl, Nat.zero_le _, by simpa [Hid] using HR.out, rfl⟩
  case round =>
    obtain ⟨n, rfl, hn, HI, rfl⟩ := hrel
    by_cases h1 : n < s.size
    · have ST : Hid (runL digB (s.data.toList.drop n) = if digB s[n] then runL digB (s.data.toList.drop (n + 1)) + 1 else 0) := runL_step h1
      cases hb : digB s[n] with
      | true =>
        have HB : Hid (digB s[n] = true) := hb
        clear hb
        go_wp2_with fail
        refine (digit_any s[n].toNat _ true HB.out).mono ?_
        rintro e w1 ⟨rfl, rfl⟩
        go_wp2
        go_roundw
        case rel => exact ⟨n + 1, by go_num, h1, by have h2 := HI.out; rw [ST.out, HB.out] at h2; simp only [if_true] at h2; show _ = r; omega, trivial⟩
        case measure => simp [intOf]; omega
      | false =>
        have HB : Hid (digB s[n] = false) := hb
        clear hb
        have HN : Hid (n = r) := by have h2 := HI.out; rw [ST.out, HB.out] at h2; simpa [Hid] using h2
        go_wp2_with fail
        refine (digit_any s[n].toNat _ false HB.out).mono ?_
        rintro e w1 ⟨rfl, rfl⟩
        go_wp2
        go_ret
        exact ⟨by rw [← HN.out]; rfl, rfl⟩
    · have HN : Hid (n = r) := by have h2 := HI.out; rw [List.drop_eq_nil_of_le (by simp; omega)] at h2; simpa [runL, Hid] using h2
      go_wp2
      go_ret
      exact ⟨by rw [← HN.out]; rfl, rfl⟩
theorem digits_any (s : ByteArray) (hs : s.size ≤ 9223372036854775807) (w : World) (r : Nat) (hr : runL digB s.data.toList = r) : Calls Tryd.prog 43 #[.string s] w fun e w' => e = .returned (.int .i64 (r : Int)) ∧ w' = w := by
  have k := runD_any s hs w r hr
  clear hr
  go_enter Tryd.func43, Tryd.ntmps43
  go_wp2_with fail
  refine k.mono ?_
  rintro e w1 ⟨rfl, rfl⟩
  go_wp2
  go_ret
  exact ⟨rfl, rfl⟩

/-- may it be a name? -/
theorem name_any (s : ByteArray) (hs : s.size ≤ 9223372036854775807) (w : World) (r : Bool) (hr : namB s.data.toList = r) : Calls Tryd.prog 53 #[.string s] w fun e w' => e = .returned (.bool r) ∧ w' = w := by
  have HR : Hid (namB s.data.toList = r) := hr
  have hl : Hid (s.data.toList.length = s.size) := by simp [Hid]
  clear hr
  go_enter Tryd.func53, Tryd.ntmps53
  by_cases h1 : 1 ≤ s.size
  · by_cases h2 : s.size ≤ 32
    · go_wp2_with fail
      refine (letters_any s hs _ _ rfl).mono ?_
      rintro e w1 ⟨rfl, rfl⟩
      go_wp2
      go_ret
      refine ⟨ret_b ?_, rfl⟩
      rw [← HR.out, namB, hl.out]
      have := runL_all letB s.data.toList
      rw [hl.out] at this
      simp only [h1, h2, decide_true, Bool.true_and]
      rw [Bool.eq_iff_iff, ← this]
      simp
      omega
    · obtain rfl : false = r := by rw [← HR.out, namB, hl.out]; simp [h2]
      go_wp2
      go_ret
      exact ⟨rfl, rfl⟩
  · obtain rfl : false = r := by rw [← HR.out, namB, hl.out]; simp [h1]
    go_wp2
    go_ret
    exact ⟨rfl, rfl⟩
end Go.Proofs.YtidfkencjdjkbaaDoor

/-
  PACKAGE speech: pieces in memory; what is next, and whether it is so.
-/
namespace Go.Proofs.YtidfkencjdjkbaaDoor
open Go.RowKit Sp

/-- a text of these bytes -/
abbrev tx (t : By) : ByteArray := ⟨t.toArray⟩
theorem tx_inj {x y : By} : tx x = tx y ↔ x = y := by
  constructor
  · intro h
    have := congrArg (fun b : ByteArray => b.data.toList) h
    simpa using this
  · rintro rfl; rfl
theorem by_beq (x t : By) : (x == t) = decide (x = t) := by rw [Bool.eq_iff_iff]; simp
theorem eqs (x t : By) (b : Bool) (h : decide (x = t) = b) (u : World) : (binOp .eql 9 (.string (tx x)) (.string (tx t))).run Tryd.prog u = .ok (.bool b) u := by
  subst h
  simp only [binOp, Op.stringOp]
  simp [by_beq]

/-! ### pieces in memory -/
/-- pieces, in a block other than R -/
def Pcs (w : World) (R P : Nat) (v : Value) (ps : List Pc) : Prop :=
  ∃ o c, v = .slice (some ⟨P, o, none⟩) ps.length c ∧ ps.length ≤ c ∧ c ≤ 9223372036854775807 ∧ P < w.heap.size ∧ P ≠ R ∧ ∀ (i : Nat) (p : Pc), ps[i]? = some p → w.cell? ⟨P, o + i * 2, none⟩ = some (.string (tx p.1)) ∧ w.cell? ⟨P, o + i * 2 + 1, none⟩ = some (.int .i64 (p.2 : Int)) ∧ p.1.length ≤ 65536 ∧ p.2 ≤ 65536
theorem Pcs.gb {w w' : World} {R P : Nat} {v : Value} {ps : List Pc} (h : Pcs w R P v ps) (hg : w.grownBy w' (some R)) : Pcs w' R P v ps := by
  obtain ⟨o, c, h1, h2, h3, h4, h5, h6⟩ := h
  refine ⟨o, c, h1, h2, h3, Nat.lt_of_lt_of_le h4 hg.size, h5, fun i p hp => ?_⟩
  obtain ⟨q1, q2, q3⟩ := h6 i p hp
  have hn : some P ≠ some R := by simpa using h5
  exact ⟨hg.cell (a := ⟨P, o + i * 2, none⟩) q1 hn, hg.cell (a := ⟨P, o + i * 2 + 1, none⟩) q2 hn, q3⟩
/-- all but the last have a text, the last has none -/
def Fin : List Pc → Prop
  | [] => False
  | [p] => p.1 = []
  | p :: r => p.1 ≠ [] ∧ Fin r
theorem Fin.ne {ps : List Pc} (h : Fin ps) : ps ≠ [] := by rintro rfl; exact h
theorem Fin.tail {ps : List Pc} (h : Fin ps) (hd : hd ps ≠ []) : Fin ps.tail := by
  match ps, h with
  | [p], h => exact absurd h hd
  | p :: q :: r, h => exact h.2
/-- a reader: its pieces, the words, in a block of two cells -/
structure Rdr (w : World) (R P0 : Nat) (ps : List Pc) (m : Value) : Prop where
  c : ∃ v, Cl w R 0 v ∧ Pcs w R P0 v ps
  m : Cl w R 1 m
  f : Fin ps
  d : ∀ p ∈ ps, fstD p.1 = true → p.1.all digB = true
theorem Rdr.head {w : World} {R P0 : Nat} {ps : List Pc} {m : Value} (h : Rdr w R P0 ps m) : ∃ P o n c, n = ps.length ∧ 0 < n ∧ n ≤ c ∧ c ≤ 9223372036854775807 ∧ w.cell? ⟨R, 0, none⟩ = some (.slice (some ⟨P, o, none⟩) n c) ∧ w.frozen? ⟨R, 0, none⟩ = false ∧ w.cell? ⟨P, o, none⟩ = some (.string (tx (hd ps))) ∧ w.cell? ⟨P, o + 1, none⟩ = some (.int .i64 (hat ps : Int)) ∧ (hd ps).length ≤ 65536 ∧ hat ps ≤ 65536 ∧ R < w.heap.size ∧ P ≠ R := by
  obtain ⟨v, hc, o, c, rfl, h2, h3, h4, h5, h6⟩ := h.c
  have hne := h.f.ne
  obtain ⟨p, r, rfl⟩ := List.exists_cons_of_ne_nil hne
  obtain ⟨q1, q2, q3, q4⟩ := h6 0 p rfl
  exact ⟨P0, o, _, c, rfl, by simp, h2, h3, hc.c, hc.f, by simpa [hd] using q1, by simpa [hat] using q2, q3, q4, hc.lt, h5⟩
theorem gb_cell {w w' : World} {R b k : Nat} {v : Value} (h : Cl w b k v) (hg : w.grownBy w' (some R)) (hn : b ≠ R) : Cl w' b k v := by
  have hk : w'.heap[b]? = w.heap[b]? := hg.block b h.lt (by simpa using hn)
  exact ⟨(World.cell?_of_block (w := w) (a := ⟨b, k, none⟩) hk).trans h.c, (World.frozen?_of_block (w := w) (a := ⟨b, k, none⟩) hk).trans h.f, Nat.lt_of_lt_of_le h.lt hg.size⟩
/-- new memory alone -/
theorem Rdr.at {w w' : World} {R P0 : Nat} {ps : List Pc} {m : Value} (h : Rdr w R P0 ps m) (hb : Below w.heap.size w w') : Rdr w' R P0 ps m := by
  obtain ⟨v, hc, hp⟩ := h.c
  exact ⟨⟨v, hc.at hb, hp.gb (gb_below hb)⟩, h.m.at hb, h.f, h.d⟩
/-- one piece on -/
theorem Rdr.step {w : World} {R P0 : Nat} {ps : List Pc} {m : Value} (h : Rdr w R P0 ps m) (hd : hd ps ≠ []) {P o n c : Nat} (h0 : w.cell? ⟨R, 0, none⟩ = some (.slice (some ⟨P, o, none⟩) n c)) (hn : n = ps.length) : Rdr (w.setCell ⟨R, 0, none⟩ (.slice (some ⟨P, o + 2, none⟩) (n - 1) (c - 1))) R P0 ps.tail m := by
  obtain ⟨v, hc, o', c', rfl, h2, h3, h4, h5, h6⟩ := h.c
  have e := hc.c.symm.trans h0
  simp only [Option.some.injEq, Value.slice.injEq, Addr.mk.injEq] at e
  obtain ⟨⟨rfl, rfl, -⟩, -, rfl⟩ := e
  refine ⟨⟨_, hc.set _, o' + 2, c' - 1, by rw [List.length_tail, hn], by rw [List.length_tail]; omega, by omega, by simpa using h4, h5, fun i p hp => ?_⟩, h.m.oth (.inr (by decide)) _, h.f.tail hd, fun p hp => h.d p (List.mem_of_mem_tail hp)⟩
  rw [List.getElem?_tail] at hp
  obtain ⟨q1, q2, q3⟩ := h6 (i + 1) p hp
  have hne : (⟨R, 0, none⟩ : Addr) ≠ ⟨P0, o' + 2 + i * 2, none⟩ := by intro e; simp only [Addr.mk.injEq] at e; omega
  have hne2 : (⟨R, 0, none⟩ : Addr) ≠ ⟨P0, o' + 2 + i * 2 + 1, none⟩ := by intro e; simp only [Addr.mk.injEq] at e; omega
  exact ⟨(sc_other hne).trans (by rw [← q1]; congr 2; omega), (sc_other hne2).trans (by rw [← q2]; congr 2; omega), q3⟩
/-- a store into another block -/
theorem Rdr.put {w : World} {R P0 : Nat} {ps : List Pc} {m : Value} (h : Rdr w R P0 ps m) {b : Nat} (hb : b ≠ R) (hb2 : b ≠ P0) (k : Nat) (u : Value) : Rdr (w.setCell ⟨b, k, none⟩ u) R P0 ps m := by
  obtain ⟨v, hc, o, c, rfl, h2, h3, h4, h5, h6⟩ := h.c
  refine ⟨⟨_, hc.oth (.inl hb) _, o, c, rfl, h2, h3, by simpa using h4, h5, fun i p hp => ?_⟩, h.m.oth (.inl hb) _, h.f, h.d⟩
  obtain ⟨q1, q2, q3⟩ := h6 i p hp
  exact ⟨(sc_other (by intro e; simp only [Addr.mk.injEq] at e; omega)).trans q1, (sc_other (by intro e; simp only [Addr.mk.injEq] at e; omega)).trans q2, q3⟩
theorem Rdr.pl {w : World} {R P0 : Nat} {ps : List Pc} {m : Value} (h : Rdr w R P0 ps m) : P0 < w.heap.size ∧ R < w.heap.size := by
  obtain ⟨v, hc, o, c, rfl, h2, h3, h4, h5, h6⟩ := h.c
  exact ⟨h4, hc.lt⟩
end Go.Proofs.YtidfkencjdjkbaaDoor
