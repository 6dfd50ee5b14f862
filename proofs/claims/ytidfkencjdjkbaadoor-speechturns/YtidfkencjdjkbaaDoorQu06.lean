import Derived.Test.YtidfkencjdjkbaaDoorQu01
import Derived.Test.YtidfkencjdjkbaaDoorQu05
import Derived.Defers
import Derived.Recover
import Derived.Deep.DeepCutAuto
/-
  PACKAGE speech, what is thrown: must, caught.
-/
namespace Go.Proofs.YtidfkencjdjkbaaDoor
open Go.RowKit

/-- what is thrown -/
def chn (e : Int) (a : Int) : List PanicEntry := [{ v := .iface 68 (.agg #[.int .i64 e, .int .i64 a]), recovered := false }]
theorem must_ok (e a : Int) (w : World) : Calls Tryd.prog 12 #[.bool true, .int .i64 e, .int .i64 a] w fun x w' => x = .returned (.tuple #[]) ∧ w' = w := by
  go_enter Tryd.func12, Tryd.ntmps12
  go_wp2
  go_end0
  exact ⟨rfl, rfl⟩
theorem must_no (e a : Int) (w : World) : Calls Tryd.prog 12 #[.bool false, .int .i64 e, .int .i64 a] w fun x w' => x = .panicked (chn e a) ∧ w' = w := by
  go_enter Tryd.func12, Tryd.ntmps12
  go_wp2
  exact ⟨rfl, rfl, rfl⟩
theorem hmf : ∀ (fn : Fn) (first cap : Array Value) (w : World), (Instr.makeFunc fn first cap).run Tryd.prog w = .ok (.func fn first cap) w := fun _ _ _ _ => rfl
theorem assert68 (v : Value) (w : World) : (Instr.typeAssert (.iface 68 v) 20 68 true).run Tryd.prog w = .ok (.tuple #[v, .bool true]) w := by
  simp [Instr.typeAssert, run_underlying Tryd.underlying68]
theorem eqnil68 (v : Value) (w : World) : (binOp .eql 20 (.iface 68 v) .nilIface).run Tryd.prog w = .ok (.bool false) w := by
  have h : ∀ d : Nat, (Op.equalIn (d + 1) 20 (.iface 68 v) .nilIface).run Tryd.prog w = .ok false w := fun d => by simp [Op.equalIn, run_underlying Tryd.underlying20]
  simp only [binOp]
  simp [Op.equal, Op.maxDepth, h 9999]
/-- a cell of one's own -/
structure Cl (w : World) (b k : Nat) (v : Value) : Prop where
  c : w.cell? ⟨b, k, none⟩ = some v
  f : w.frozen? ⟨b, k, none⟩ = false
  lt : b < w.heap.size
theorem Cl.at {w w' : World} {b k : Nat} {v : Value} (h : Cl w b k v) (hb : Below w.heap.size w w') : Cl w' b k v :=
  ⟨(hb.cell (p := ⟨b, k, none⟩) h.lt).trans h.c, (hb.frozen (p := ⟨b, k, none⟩) h.lt).trans h.f, Nat.lt_of_lt_of_le h.lt hb.size⟩
theorem Cl.new {w : World} {N : Nat} (cs : Array Value) (t : TypeId) (k : Nat) (x : Value) (hN : N = w.heap.size) (hx : cs[k]? = some x) : Cl (w.alloc (.cells cs t)) N k x :=
  ⟨nc cs t k x hN hx, nf cs t k hN, by subst hN; simp⟩
theorem Cl.set {w : World} {b k : Nat} {v : Value} (h : Cl w b k v) (u : Value) : Cl (w.setCell ⟨b, k, none⟩ u) b k u :=
  ⟨sc_same h.c, sc_frozen.trans h.f, by simpa using h.lt⟩
theorem Cl.oth {w : World} {b k b' k' : Nat} {v : Value} (h : Cl w b k v) (hne : b' ≠ b ∨ k' ≠ k) (u : Value) : Cl (w.setCell ⟨b', k', none⟩ u) b k v :=
  ⟨(sc_other (by intro e; simp only [Addr.mk.injEq] at e; omega)).trans h.c, sc_frozen.trans h.f, by simpa using h.lt⟩
/-- a block with these cells -/
def Bx (w : World) (b : Nat) (cs : List Value) : Prop := ∀ k v, cs[k]? = some v → Cl w b k v
theorem Bx.at {w w' : World} {b : Nat} {cs : List Value} (h : Bx w b cs) (hb : Below w.heap.size w w') : Bx w' b cs := fun k v hk => (h k v hk).at hb
theorem Bx.new (w : World) (cs : List Value) (t : TypeId) {N : Nat} (hN : N = w.heap.size) : Bx (w.alloc (.cells cs.toArray t)) N cs := fun k v hk => Cl.new _ t k v hN (by simpa using hk)
theorem Bx.set {w : World} {b i : Nat} {cs : List Value} (h : Bx w b cs) (hi : i < cs.length) (u : Value) : Bx (w.setCell ⟨b, i, none⟩ u) b (cs.set i u) := fun k v hk => by
  by_cases c : i = k
  · subst c
    rw [List.getElem?_set_self hi] at hk
    cases hk
    obtain ⟨z, hz⟩ : ∃ z, cs[i]? = some z := ⟨_, List.getElem?_eq_getElem hi⟩
    exact (h i z hz).set _
  · rw [List.getElem?_set_ne c] at hk
    exact (h k v hk).oth (.inr c) _
theorem Bx.oth {w : World} {b b' k : Nat} {cs : List Value} (h : Bx w b cs) (hne : b' ≠ b) (u : Value) : Bx (w.setCell ⟨b', k, none⟩ u) b cs := fun j v hj => (h j v hj).oth (.inl hne) _

/-- deferred, of a frame that throws -/
theorem catchA_no (p : Nat) (x y : Value) (e a : Int) (w : World) (hc : Bx w p [x, y]) :
    CallsD Tryd.prog 25 #[.pointer (some ⟨p, 0, none⟩)] (.panicking (chn e a)) w fun r u' w' =>
      r = .returned (.tuple #[]) ∧ u' = .panicking [{ v := .iface 68 (.agg #[.int .i64 e, .int .i64 a]), recovered := true }] ∧ w' = ((w.alloc (.cells #[.int .i64 e, .int .i64 a] 68)).setCell ⟨p, 0, none⟩ (.int .i64 e)).setCell ⟨p, 1, none⟩ (.int .i64 a) := by
  refine callsD_of_wpS Tryd.func25 rfl fun c₀ cs hu => ?_
  apply wpS_seq
  apply wpS_region
  simp [wpOpsS, go_sem, recoverD, hu, chn, Tryd.ntmps25, Exit.thenS]
  refine wpS_of_wp ?_
  change Code.wp Tryd.prog _ _ { tmps := #[.pointer (some ⟨p, 0, none⟩), undef, undef, undef, .iface 68 (.agg #[.int .i64 e, .int .i64 a]), undef, undef, undef, undef, undef, undef, undef], defers := [] } w
  have ha := assert68
  have hq := eqnil68
  have hz := hc.at (ba w (.cells #[.int .i64 e, .int .i64 a] 68))
  have z0 := (hz 0 _ rfl).c
  have z1 := (hz 1 _ rfl).c
  have y0 := (hz 0 _ rfl).f
  have y1 := (hz 1 _ rfl).f
  go_wp2
  exact ⟨rfl, _, rfl, _, results_none rfl _ _ _, rfl, rfl, rfl⟩
theorem catchA_ok (p : Addr) (w : World) :
    CallsD Tryd.prog 25 #[.pointer (some p)] .returning w fun r u' w' => r = .returned (.tuple #[]) ∧ u' = .returning ∧ w' = w := by
  refine callsD_of_wpS Tryd.func25 rfl fun c₀ cs hu => ?_
  apply wpS_seq
  apply wpS_region
  simp [wpOpsS, go_sem, recoverD, hu, Tryd.ntmps25, Exit.thenS]
  refine wpS_of_wp ?_
  change Code.wp Tryd.prog _ _ { tmps := #[.pointer (some p), undef, undef, undef, .nilIface, undef, undef, undef, undef, undef, undef, undef], defers := [] } w
  go_wp2
  exact ⟨rfl, .returning, by rw [← hu], _, results_none rfl _ _ _, rfl, rfl, rfl⟩
end Go.Proofs.YtidfkencjdjkbaaDoor

/-
  PACKAGE runs: letters, digits, names.
-/
namespace Go.Proofs.YtidfkencjdjkbaaDoor
open Go.RowKit Sp

theorem ret_b {a b : Bool} (h : a = b) : Ending.returned (.bool a) = .returned (.bool b) := by rw [h]
theorem drop_str {s : ByteArray} {n : Nat} (h : n < s.size) : s.data.toList.drop n = s[n] :: s.data.toList.drop (n + 1) := by
  rw [List.drop_eq_getElem_cons (by simpa using h)]; rfl
theorem runL_step {p : UInt8 → Bool} {s : ByteArray} {n : Nat} (h : n < s.size) : runL p (s.data.toList.drop n) = if p s[n] then runL p (s.data.toList.drop (n + 1)) + 1 else 0 := by
  rw [drop_str h]; rfl
theorem runL_le (p : UInt8 → Bool) : ∀ s : By, runL p s ≤ s.length
  | [] => Nat.le_refl _
  | c :: r => by
    unfold runL
    have := runL_le p r
    split
    · simp; omega
    · simp
theorem runL_all (p : UInt8 → Bool) : ∀ s : By, runL p s = s.length ↔ s.all p = true
  | [] => by simp [runL]
  | c :: r => by
    have h1 := runL_all p r
    have h2 := runL_le p r
    show (if p c then runL p r + 1 else 0) = _ ↔ _
    by_cases h : p c = true
    · rw [if_pos h]; simp [h, h1]
    · rw [if_neg h]; simp [h]
theorem letter_any (b : Nat) (w : World) (r : Bool) (hr : (decide (97 ≤ b) && decide (b ≤ 122) || decide (b = 95)) = r) : Calls Tryd.prog 62 #[.int .u8 (b : Int)] w fun e w' => e = .returned (.bool r) ∧ w' = w := by
  have HR : Hid ((decide (97 ≤ b) && decide (b ≤ 122) || decide (b = 95)) = r) := hr
  clear hr
  go_enter Tryd.func62, Tryd.ntmps62
  by_cases h1 : 97 ≤ b
  · by_cases h2 : b ≤ 122
    · obtain rfl : true = r := by rw [← HR.out]; simp [h1, h2]
      go_wp2
      go_ret
      exact ⟨rfl, rfl⟩
    · have h3 : b ≠ 95 := by omega
      obtain rfl : false = r := by rw [← HR.out]; simp [h2, h3]
      go_wp2
      go_ret
      exact ⟨ret_b (by simp; omega), rfl⟩
  · by_cases h3 : b = 95
    · subst h3
      obtain rfl : true = r := by rw [← HR.out]; simp
      go_wp2
      go_ret
      exact ⟨rfl, rfl⟩
    · obtain rfl : false = r := by rw [← HR.out]; simp [h1, h3]
      go_wp2
      go_ret
      exact ⟨ret_b (by simp; omega), rfl⟩
theorem digit_any (b : Nat) (w : World) (r : Bool) (hr : (decide (48 ≤ b) && decide (b ≤ 57)) = r) : Calls Tryd.prog 63 #[.int .u8 (b : Int)] w fun e w' => e = .returned (.bool r) ∧ w' = w := by
  have HR : Hid ((decide (48 ≤ b) && decide (b ≤ 57)) = r) := hr
  clear hr
  go_enter Tryd.func63, Tryd.ntmps63
  by_cases h1 : 48 ≤ b
  · by_cases h2 : b ≤ 57
    · obtain rfl : true = r := by rw [← HR.out]; simp [h1, h2]
      go_wp2
      go_ret
      exact ⟨ret_b (by simp; try omega), rfl⟩
    · obtain rfl : false = r := by rw [← HR.out]; simp [h2]
      go_wp2
      go_ret
      exact ⟨ret_b (by simp; try omega), rfl⟩
  · obtain rfl : false = r := by rw [← HR.out]; simp [h1]
    go_wp2
    go_ret
    exact ⟨ret_b (by simp; try omega), rfl⟩

set_option maxHeartbeats 400000 in
theorem runL_any (s : ByteArray) (hs : s.size ≤ 9223372036854775807) (w : World) (r : Nat) (hr : runL letB s.data.toList = r) : Calls Tryd.prog 61 #[.string s, .func (.func 62) #[] #[]] w fun e w' => e = .returned (.int .i64 (r : Int)) ∧ w' = w := by
  have HR : Hid (runL letB s.data.toList = r) := hr
  clear hr
  go_enter Tryd.func61, Tryd.ntmps61
  go_wp2
  go_loopw [5] (fun nv wr => ∃ n : Nat, nv = .int .i64 (n : Int) ∧ n ≤ s.size ∧ Hid (n + runL letB (s.data.toList.drop n) = r) ∧ wr = w) (fun nv _ => s.size - (intOf nv).toNat)
  case atStart => exact ⟨0, rfl, Nat.zero_le _, by simpa [Hid] using HR.out, rfl⟩
  case round =>
    obtain ⟨n, rfl, hn, HI, rfl⟩ := hrel
    by_cases h1 : n < s.size
    · have ST : Hid (runL letB (s.data.toList.drop n) = if letB s[n] then runL letB (s.data.toList.drop (n + 1)) + 1 else 0) := runL_step h1
      cases hb : letB s[n] with
      | true =>
        have HB : Hid (letB s[n] = true) := hb
        clear hb
        go_wp2_with fail
        refine (letter_any s[n].toNat _ true HB.out).mono ?_
        rintro e w1 ⟨rfl, rfl⟩
        go_wp2
        go_roundw
        case rel => exact ⟨n + 1, by go_num, h1, by have h2 := HI.out; rw [ST.out, HB.out] at h2; simp only [if_true] at h2; show _ = r; omega, trivial⟩
        case measure => simp [intOf]; omega
      | false =>
        have HB : Hid (letB s[n] = false) := hb
        clear hb
        have HN : Hid (n = r) := by have h2 := HI.out; rw [ST.out, HB.out] at h2; simpa [Hid] using h2
        go_wp2_with fail
        refine (letter_any s[n].toNat _ false HB.out).mono ?_
        rintro e w1 ⟨rfl, rfl⟩
        go_wp2
        go_ret
        exact ⟨by rw [← HN.out]; rfl, rfl⟩
    · have HN : Hid (n = r) := by have h2 := HI.out; rw [List.drop_eq_nil_of_le (by simp; omega)] at h2; simpa [runL, Hid] using h2
      go_wp2
      go_ret
      exact ⟨by rw [← HN.out]; rfl, rfl⟩
theorem letters_any (s : ByteArray) (hs : s.size ≤ 9223372036854775807) (w : World) (r : Nat) (hr : runL letB s.data.toList = r) : Calls Tryd.prog 42 #[.string s] w fun e w' => e = .returned (.int .i64 (r : Int)) ∧ w' = w := by
  have k := runL_any s hs w r hr
  clear hr
  go_enter Tryd.func42, Tryd.ntmps42
  go_wp2_with fail
  refine k.mono ?_
  rintro e w1 ⟨rfl, rfl⟩
  go_wp2
  go_ret
  exact ⟨rfl, rfl⟩

set_option maxHeartbeats 400000 in
theorem runD_any (s : ByteArray) (hs : s.size ≤ 9223372036854775807) (w : World) (r : Nat) (hr : runL digB s.data.toList = r) : Calls Tryd.prog 61 #[.string s, .func (.func 63) #[] #[]] w fun e w' => e = .returned (.int .i64 (r : Int)) ∧ w' = w := by
  have HR : Hid (runL digB s.data.toList = r) := hr
  clear hr
  go_enter Tryd.func61, Tryd.ntmps61
  go_wp2
  go_loopw [5] (fun nv wr => ∃ n : Nat, nv = .int .i64 (n : Int) ∧ n ≤ s.size ∧ Hid (n + runL digB (s.data.toList.drop n) = r) ∧ wr = w) (fun nv _ => s.size - (intOf nv).toNat)
  case atStart => exact ⟨0, rfl, Nat.zero_le _, by simpa [Hid] using HR.out, rfl⟩
  case round =>
    obtain ⟨n, rfl, hn, HI, rfl⟩ := hrel
    by_cases h1 : n < s.size
    · have ST : Hid (runL digB (s.data.toList.drop n) = if digB s[n] then runL digB (s.data.toList.drop (n + 1)) + 1 else 0) := runL_step h1
      cases hb : digB s[n] with
      | true =>
        have HB : Hid (digB s[n] = true) := hb
        clear hb
        go_wp2_with fail
        refine (digit_any s[n].toNat _ true HB.out).mono ?_
        rintro e w1 ⟨rfl, rfl⟩
        go_wp2
        go_roundw
        case rel => exact ⟨n + 1, by go_num, h1, by have h2 := HI.out; rw [ST.out, HB.out] at h2; simp only [if_true] at h2; show _ = r; omega, trivial⟩
        case measure => simp [intOf]; omega
      | false =>
        have HB : Hid (digB s[n] = false) := hb
        clear hb
        have HN : Hid (n = r) := by have h2 := HI.out; rw [ST.out, HB.out] at h2; simpa [Hid] using h2
        go_wp2_with fail
        refine (digit_any s[n].toNat _ false HB.out).mono ?_
        rintro e w1 ⟨rfl, rfl⟩
        go_wp2
        go_ret
        exact ⟨by rw [← HN.out]; rfl, rfl⟩
    · have HN : Hid (n = r) := by have h2 := HI.out; rw [List.drop_eq_nil_of_le (by simp; omega)] at h2; simpa [runL, Hid] using h2
      go_wp2
      go_ret
      exact ⟨by rw [← HN.out]; rfl, rfl⟩
theorem digits_any (s : ByteArray) (hs : s.size ≤ 9223372036854775807) (w : World) (r : Nat) (hr : runL digB s.data.toList = r) : Calls Tryd.prog 43 #[.string s] w fun e w' => e = .returned (.int .i64 (r : Int)) ∧ w' = w := by
  have k := runD_any s hs w r hr
  clear hr
  go_enter Tryd.func43, Tryd.ntmps43
  go_wp2_with fail
  refine k.mono ?_
  rintro e w1 ⟨rfl, rfl⟩
  go_wp2
  go_ret
  exact ⟨rfl, rfl⟩

/-- may it be a name? -/
theorem name_any (s : ByteArray) (hs : s.size ≤ 9223372036854775807) (w : World) (r : Bool) (hr : namB s.data.toList = r) : Calls Tryd.prog 53 #[.string s] w fun e w' => e = .returned (.bool r) ∧ w' = w := by
  have HR : Hid (namB s.data.toList = r) := hr
  have hl : Hid (s.data.toList.length = s.size) := by simp [Hid]
  clear hr
  go_enter Tryd.func53, Tryd.ntmps53
  by_cases h1 : 1 ≤ s.size
  · by_cases h2 : s.size ≤ 32
    · go_wp2_with fail
      refine (letters_any s hs _ _ rfl).mono ?_
      rintro e w1 ⟨rfl, rfl⟩
      go_wp2
      go_ret
      refine ⟨ret_b ?_, rfl⟩
      rw [← HR.out, namB, hl.out]
      have := runL_all letB s.data.toList
      rw [hl.out] at this
      simp only [h1, h2, decide_true, Bool.true_and]
      rw [Bool.eq_iff_iff, ← this]
      simp
      omega
    · obtain rfl : false = r := by rw [← HR.out, namB, hl.out]; simp [h2]
      go_wp2
      go_ret
      exact ⟨rfl, rfl⟩
  · obtain rfl : false = r := by rw [← HR.out, namB, hl.out]; simp [h1]
    go_wp2
    go_ret
    exact ⟨rfl, rfl⟩
end Go.Proofs.YtidfkencjdjkbaaDoor
