import Derived.Test.YtnoedkebmpfagaaRows
/-
  CHAPTER 16: codes, and what is read of them: the mathematics.
-/
namespace Go.Proofs.Ytnoedkebmpfagaa
namespace Wc
abbrev By := List UInt8

/-! ### what is written -/
/-- a count -/
def cntT (n : Nat) : By := if n < 128 then [UInt8.ofNat n] else UInt8.ofNat (128 + n % 128) :: cntT (n / 128)
termination_by n
decreasing_by omega
theorem cntT_lt {n : Nat} (h : n < 128) : cntT n = [UInt8.ofNat n] := by rw [cntT, if_pos h]
theorem cntT_ge {n : Nat} (h : ¬ n < 128) : cntT n = UInt8.ofNat (128 + n % 128) :: cntT (n / 128) := by rw [cntT, if_neg h]
theorem cntT_pos (n : Nat) : 0 < (cntT n).length := by
  by_cases h : n < 128
  · rw [cntT_lt h]; simp
  · rw [cntT_ge h]; simp
/-- a number as a count -/
def nmN (x : Int) : Nat := if 0 ≤ x then (2 * x).toNat else (-2 * x - 1).toNat
def nmT (x : Int) : By := cntT (nmN x)
def tnT (s : By) : By := cntT s.length ++ s
def nsT : List Int → By
  | [] => []
  | x :: l => nmT x ++ nsT l
structure Msg where
  kind : Int
  ses : By
  num : Int
  pur : By
  txt : By
  ru : Int
  rd : Int
  low : Int
  high : Int
  err : Int
  vals : List Int
  lu : Int
  ld : Int
def formB (m : Msg) : Bool :=
  if m.kind = 1 then decide (m.err = 0) && (decide (m.vals.length = 0) && (decide (m.lu = 0) && decide (m.ld = 0)))
  else if m.kind = 2 then decide (m.pur = []) && (decide (m.txt = []) && ((decide (m.ru = 0) && decide (m.rd = 0)) && (decide (m.low = 0) && decide (m.high = 0))))
  else false
def hdT (m : Msg) : By := [UInt8.ofNat m.kind.toNat] ++ tnT m.ses ++ nmT m.num
def askT (m : Msg) : By := hdT m ++ tnT m.pur ++ tnT m.txt ++ (nmT m.ru ++ nmT m.rd) ++ nmT m.low ++ nmT m.high
def rplT (m : Msg) : By := hdT m ++ nmT m.err ++ (cntT m.vals.length ++ nsT m.vals) ++ (nmT m.lu ++ nmT m.ld)
def msgT (m : Msg) : By := if m.kind = 1 then askT m else rplT m

/-! ### what is read: the value, what is left, whether it is bad -/
abbrev Rd (α : Type) := α × By × Bool
def bd {α β : Type} (x : Rd α) (g : α → By → Rd β) : Rd β := ((g x.1 x.2.1).1, (g x.1 x.2.1).2.1, x.2.2 || (g x.1 x.2.1).2.2)
def mp {α β : Type} (x : Rd α) (g : α → β) : Rd β := (g x.1, x.2.1, x.2.2)
def nxR : By → Rd UInt8
  | [] => (0, [], true)
  | c :: r => (c, r, false)
def cnR (k n : Nat) : By → Rd Nat
  | [] => (if k = 0 then n else 0, [], true)
  | c :: r =>
    if k ≠ 0 ∧ c.toNat = 0 then (0, r, true)
    else if 9 ≤ k ∧ c.toNat ≠ 1 then (0, r, true)
    else if c.toNat < 128 then (n + c.toNat % 128 * 128 ^ k, r, false)
    else cnR (k + 1) (n + c.toNat % 128 * 128 ^ k) r
def dcN (n : Nat) : Int := if n % 2 = 1 then -((n / 2 : Nat) : Int) - 1 else ((n / 2 : Nat) : Int)
def ctR (t : By) : Rd Nat := cnR 0 0 t
def nmR (t : By) : Rd Int := mp (ctR t) dcN
/-- so many bytes, if there are so many -/
def tkR (n : Nat) (t : By) : Rd By := if n ≤ t.length then (t.take n, t.drop n, false) else ([], t, true)
def tnR (t : By) : Rd By := bd (ctR t) tkR
def nsR : Nat → By → Rd (List Int)
  | 0, t => ([], t, false)
  | n + 1, t => bd (nmR t) fun x r => mp (nsR n r) (x :: ·)
def vsR (t : By) : Rd (List Int) := bd (ctR t) fun n r => if n ≤ r.length then nsR n r else ([], r, true)

theorem bd_ok {α β : Type} {x : Rd α} {g : α → By → Rd β} {v : β} {r : By} : bd x g = (v, r, false) ↔ ∃ a q, x = (a, q, false) ∧ g a q = (v, r, false) := by
  obtain ⟨a, q, f⟩ := x
  simp only [bd, Prod.mk.injEq, Bool.or_eq_false_iff]
  constructor
  · rintro ⟨h1, h2, h3, h4⟩
    exact ⟨a, q, ⟨rfl, rfl, h3⟩, by rw [← h1, ← h2, ← h4]⟩
  · rintro ⟨a', q', ⟨rfl, rfl, rfl⟩, h⟩
    rw [h]; simp
theorem mp_ok {α β : Type} {x : Rd α} {g : α → β} {v : β} {r : By} {f : Bool} : mp x g = (v, r, f) ↔ ∃ a, x = (a, r, f) ∧ g a = v := by
  obtain ⟨a, q, f'⟩ := x
  simp only [mp, Prod.mk.injEq]
  constructor
  · rintro ⟨h1, rfl, rfl⟩; exact ⟨a, ⟨rfl, rfl, rfl⟩, h1⟩
  · rintro ⟨a', ⟨rfl, rfl, rfl⟩, h⟩; exact ⟨h, rfl, rfl⟩

/-! ### A COUNT HAS ONE CODE -/
theorem u8_toNat {n : Nat} (h : n < 256) : (UInt8.ofNat n).toNat = n := by simp; omega
theorem u8_of (c : UInt8) : UInt8.ofNat c.toNat = c := by simp
theorem pow_bound (k : Nat) (h : k ≤ 9) : 128 ^ k ≤ 9223372036854775808 := by
  have : (128 : Nat) ^ k ≤ 128 ^ 9 := Nat.pow_le_pow_right (by decide) h
  have e : (128 : Nat) ^ 9 = 9223372036854775808 := by decide
  omega
/-- what was written is read -/
theorem cnR_cnt (k : Nat) : ∀ (n a : Nat) (r : By), (k ≠ 0 → n ≠ 0) → k ≤ 9 → n * 128 ^ k < 18446744073709551616 → cnR k a (cntT n ++ r) = (a + n * 128 ^ k, r, false) := by
  intro n
  induction n using Nat.strongRecOn generalizing k with
  | ind n ih =>
    intro a r hk hk9 hb
    by_cases h : n < 128
    · rw [cntT_lt h]
      have e : (UInt8.ofNat n).toNat = n := u8_toNat (by omega)
      simp only [List.cons_append, List.nil_append, cnR, e]
      rw [if_neg (by rintro ⟨h1, h2⟩; exact hk h1 h2), if_neg, if_pos h, Nat.mod_eq_of_lt h]
      rintro ⟨h1, h2⟩
      obtain rfl : k = 9 := by omega
      have e9 : (128 : Nat) ^ 9 = 9223372036854775808 := by decide
      rw [e9] at hb
      have := hk (by decide)
      omega
    · rw [cntT_ge h]
      have e : (UInt8.ofNat (128 + n % 128)).toNat = 128 + n % 128 := u8_toNat (by omega)
      simp only [List.cons_append, cnR, e]
      have hk8 : k ≤ 8 := by
        rcases Nat.lt_or_ge k 9 with h9 | h9
        · omega
        · obtain rfl : k = 9 := by omega
          have e9 : (128 : Nat) ^ 9 = 9223372036854775808 := by decide
          rw [e9] at hb
          omega
      rw [if_neg (by omega), if_neg (by omega), if_neg (by omega)]
      have e2 : (128 + n % 128) % 128 = n % 128 := by omega
      have e3 : n % 128 * 128 ^ k + n / 128 * 128 ^ (k + 1) = n * 128 ^ k := by
        rw [Nat.pow_succ, ← Nat.mul_assoc, Nat.mul_right_comm, ← Nat.add_mul]
        congr 1
        omega
      rw [ih (n / 128) (by omega) (k + 1) _ r (by intro _; omega) (by omega) (by omega), e2]
      congr 1
      omega
theorem ctR_cnt (n : Nat) (r : By) (h : n < 18446744073709551616) : ctR (cntT n ++ r) = (n, r, false) := by
  have := cnR_cnt 0 n 0 r (by simp) (by decide) (by simpa using h)
  simpa [ctR] using this
/-- what is read was written -/
theorem cnR_inv : ∀ (t : By) (k a v : Nat) (r : By), k ≤ 9 → cnR k a t = (v, r, false) → ∃ n, t = cntT n ++ r ∧ v = a + n * 128 ^ k ∧ (k ≠ 0 → n ≠ 0) ∧ n * 128 ^ k < 18446744073709551616
  | [], k, a, v, r, _, h => by simp [cnR] at h
  | c :: t, k, a, v, r, hk, h => by
    simp only [cnR] at h
    split at h
    · simp at h
    split at h
    · simp at h
    rename_i h1 h2
    have hp := pow_bound k hk
    have hpos : 0 < (128 : Nat) ^ k := Nat.pow_pos (by decide)
    split at h
    · rename_i h3
      simp only [Prod.mk.injEq, and_true] at h
      obtain ⟨rfl, rfl⟩ := h
      refine ⟨c.toNat, ?_, ?_, ?_, ?_⟩
      · rw [cntT_lt h3, u8_of]; rfl
      · rw [Nat.mod_eq_of_lt h3]
      · intro hk0 hc; exact h1 ⟨hk0, hc⟩
      · rcases Nat.lt_or_ge k 9 with h9 | h9
        · have h8 : (128 : Nat) ^ k ≤ 128 ^ 8 := Nat.pow_le_pow_right (by decide) (by omega)
          have e8 : (128 : Nat) ^ 8 = 72057594037927936 := by decide
          have : c.toNat * 128 ^ k ≤ 127 * 72057594037927936 := Nat.mul_le_mul (by omega) (by omega)
          omega
        · have hc1 : c.toNat = 1 := by
            rcases Nat.decEq c.toNat 1 with hc | hc
            · exact absurd ⟨h9, hc⟩ h2
            · exact hc
          rw [hc1]; omega
    · rename_i h3
      have hk8 : k ≤ 8 := by
        rcases Nat.lt_or_ge k 9 with h9 | h9
        · omega
        · exfalso
          rcases Nat.decEq c.toNat 1 with hc | hc
          · exact h2 ⟨h9, hc⟩
          · omega
      obtain ⟨n, rfl, rfl, hn, hb⟩ := cnR_inv t (k + 1) _ v r (by omega) h
      have hlt : c.toNat < 256 := by have := c.toNat_lt; simpa using this
      have hn0 := hn (by omega)
      refine ⟨(c.toNat - 128) + n * 128, ?_, ?_, by omega, ?_⟩
      · rw [cntT_ge (n := c.toNat - 128 + n * 128) (by omega), show (c.toNat - 128 + n * 128) / 128 = n by omega, show 128 + (c.toNat - 128 + n * 128) % 128 = c.toNat by omega, u8_of]
        rfl
      · rw [Nat.add_mul, Nat.pow_succ, show c.toNat % 128 = c.toNat - 128 by omega, Nat.mul_comm (128 ^ k) 128, ← Nat.mul_assoc]
        omega
      · rw [Nat.add_mul]
        rw [Nat.pow_succ, Nat.mul_comm (128 ^ k) 128, ← Nat.mul_assoc] at hb
        generalize hP : 128 ^ k = P at *
        -- n * 128 * P < 2^64, both sides are multiples of 128 * P
        have h64 : 18446744073709551616 = 2 ^ (64 - 7 * (k + 1)) * 128 * P := by
          subst hP
          have e : (128 : Nat) = 2 ^ 7 := rfl
          rw [e, ← Nat.pow_mul, ← Nat.pow_add, ← Nat.pow_add, show 64 - 7 * (k + 1) + 7 + 7 * k = 64 by omega]
        have hlt2 : n < 2 ^ (64 - 7 * (k + 1)) := by
          rw [h64] at hb
          have := Nat.lt_of_mul_lt_mul_right hb
          exact Nat.lt_of_mul_lt_mul_right this
        have : (c.toNat - 128) * P + n * 128 * P < (n + 1) * 128 * P := by
          rw [← Nat.add_mul]
          exact Nat.mul_lt_mul_of_pos_right (by omega) hpos
        have h5 : (n + 1) * 128 * P ≤ 2 ^ (64 - 7 * (k + 1)) * 128 * P := Nat.mul_le_mul_right _ (Nat.mul_le_mul_right _ hlt2)
        omega
theorem ctR_inv {t r : By} {n : Nat} (h : ctR t = (n, r, false)) : t = cntT n ++ r ∧ n < 18446744073709551616 := by
  obtain ⟨m, rfl, h1, -, h2⟩ := cnR_inv t 0 0 n r (by decide) h
  simp at h1 h2
  subst h1
  exact ⟨rfl, h2⟩
/-- a count is below 2^64, whatever is read -/
theorem cnR_lt : ∀ (t : By) (k a : Nat), k ≤ 9 → a < 128 ^ k → (cnR k a t).1 < 18446744073709551616
  | [], k, a, hk, ha => by
    have := pow_bound k hk
    simp only [cnR]
    split <;> omega
  | c :: t, k, a, hk, ha => by
    have hp := pow_bound k hk
    simp only [cnR]
    split
    · simp
    split
    · simp
    rename_i h1 h2
    split
    · rename_i h3
      simp only
      rcases Nat.lt_or_ge k 9 with h9 | h9
      · have h8 : (128 : Nat) ^ k ≤ 128 ^ 8 := Nat.pow_le_pow_right (by decide) (by omega)
        have e8 : (128 : Nat) ^ 8 = 72057594037927936 := by decide
        have : c.toNat % 128 * 128 ^ k ≤ 127 * 72057594037927936 := Nat.mul_le_mul (by omega) (by omega)
        omega
      · have hc1 : c.toNat = 1 := by
          rcases Nat.decEq c.toNat 1 with hc | hc
          · exact absurd ⟨h9, hc⟩ h2
          · exact hc
        rw [hc1]; omega
    · rename_i h3
      have hk8 : k ≤ 8 := by
        rcases Nat.lt_or_ge k 9 with h9 | h9
        · omega
        · exfalso
          rcases Nat.decEq c.toNat 1 with hc | hc
          · exact h2 ⟨h9, hc⟩
          · omega
      refine cnR_lt t (k + 1) _ (by omega) ?_
      rw [Nat.pow_succ]
      have : c.toNat % 128 * 128 ^ k ≤ 127 * 128 ^ k := Nat.mul_le_mul_right _ (by omega)
      omega
theorem ctR_lt (t : By) : (ctR t).1 < 18446744073709551616 := cnR_lt t 0 0 (by decide) (by decide)
theorem cnR_len : ∀ (t : By) (k a : Nat), (cnR k a t).2.1.length ≤ t.length
  | [], k, a => by simp [cnR]
  | c :: t, k, a => by
    simp only [cnR]
    split
    · simp
    split
    · simp
    split
    · simp
    · have := cnR_len t (k + 1) (a + c.toNat % 128 * 128 ^ k)
      simp only [List.length_cons]; omega
theorem ctR_len (t : By) : (ctR t).2.1.length ≤ t.length := cnR_len t 0 0
/-! ### numbers -/
def I64 (x : Int) : Prop := -9223372036854775808 ≤ x ∧ x ≤ 9223372036854775807
theorem nmN_lt {x : Int} (h : I64 x) : nmN x < 18446744073709551616 := by
  unfold nmN; unfold I64 at h; split <;> omega
theorem dc_nm {x : Int} : dcN (nmN x) = x := by
  unfold dcN nmN
  split <;> split <;> omega
theorem nm_dc (n : Nat) : nmN (dcN n) = n := by
  unfold dcN nmN
  split <;> split <;> omega
theorem dc_i64 {n : Nat} (h : n < 18446744073709551616) : I64 (dcN n) := by
  unfold dcN I64; split <;> omega
theorem nmR_i64 (t : By) : I64 (nmR t).1 := dc_i64 (ctR_lt t)
theorem nmR_len (t : By) : (nmR t).2.1.length ≤ t.length := ctR_len t
theorem nmR_nm {x : Int} (h : I64 x) (r : By) : nmR (nmT x ++ r) = (x, r, false) := by
  unfold nmR nmT
  rw [ctR_cnt _ _ (nmN_lt h)]
  simp [mp, dc_nm]
theorem nmR_inv {t r : By} {x : Int} (h : nmR t = (x, r, false)) : t = nmT x ++ r ∧ I64 x := by
  obtain ⟨n, h1, rfl⟩ := mp_ok.1 h
  obtain ⟨rfl, h2⟩ := ctR_inv h1
  exact ⟨by rw [nmT, nm_dc], dc_i64 h2⟩
/-! ### texts -/
theorem tkR_ap (s r : By) : tkR s.length (s ++ r) = (s, r, false) := by simp [tkR]
theorem tkR_inv {n : Nat} {t v r : By} (h : tkR n t = (v, r, false)) : t = v ++ r ∧ v.length = n := by
  unfold tkR at h
  split at h
  · simp only [Prod.mk.injEq, and_true] at h
    obtain ⟨rfl, rfl⟩ := h
    simp; omega
  · simp at h
theorem tkR_len (n : Nat) (t : By) : (tkR n t).2.1.length ≤ t.length := by
  unfold tkR; split <;> simp
theorem tnR_tn {s : By} (h : s.length < 18446744073709551616) (r : By) : tnR (tnT s ++ r) = (s, r, false) := by
  unfold tnR tnT
  rw [List.append_assoc, bd_ok]
  exact ⟨_, _, ctR_cnt _ _ h, tkR_ap s r⟩
theorem tnR_inv {t r s : By} (h : tnR t = (s, r, false)) : t = tnT s ++ r := by
  obtain ⟨n, q, h1, h2⟩ := bd_ok.1 h
  obtain ⟨rfl, -⟩ := ctR_inv h1
  obtain ⟨rfl, rfl⟩ := tkR_inv h2
  simp [tnT]
theorem tnR_len (t : By) : (tnR t).2.1.length ≤ t.length := Nat.le_trans (tkR_len _ _) (ctR_len t)
/-! ### values -/
theorem nsR_ns : ∀ (l : List Int) (r : By), (∀ x ∈ l, I64 x) → nsR l.length (nsT l ++ r) = (l, r, false)
  | [], r, _ => by simp [nsR, nsT]
  | x :: l, r, h => by
    simp only [List.length_cons, nsR, nsT, List.append_assoc]
    rw [bd_ok]
    exact ⟨_, _, nmR_nm (h x (by simp)) _, by rw [mp_ok]; exact ⟨_, nsR_ns l r (fun y hy => h y (by simp [hy])), rfl⟩⟩
theorem nsR_inv : ∀ (n : Nat) (t r : By) (l : List Int), nsR n t = (l, r, false) → t = nsT l ++ r ∧ l.length = n ∧ ∀ x ∈ l, I64 x
  | 0, t, r, l, h => by
    simp only [nsR, Prod.mk.injEq, and_true] at h
    obtain ⟨rfl, rfl⟩ := h
    simp [nsT]
  | n + 1, t, r, l, h => by
    obtain ⟨x, q, h1, h2⟩ := bd_ok.1 h
    obtain ⟨l', h3, rfl⟩ := mp_ok.1 h2
    obtain ⟨rfl, hx⟩ := nmR_inv h1
    obtain ⟨rfl, hl, hall⟩ := nsR_inv n q r l' h3
    refine ⟨by simp [nsT], by simp [hl], fun y hy => ?_⟩
    rcases List.mem_cons.1 hy with rfl | hy
    · exact hx
    · exact hall y hy
theorem nsR_len : ∀ (n : Nat) (t : By), (nsR n t).2.1.length ≤ t.length ∧ (nsR n t).1.length = n
  | 0, t => by simp [nsR]
  | n + 1, t => by
    have h1 := nmR_len t
    have h2 := nsR_len n (nmR t).2.1
    simp only [nsR, bd, mp, List.length_cons]
    omega
theorem nsT_len : ∀ l : List Int, l.length ≤ (nsT l).length
  | [] => by simp
  | x :: l => by
    have := nsT_len l
    have h2 := cntT_pos (nmN x)
    simp only [nsT, nmT, List.length_append, List.length_cons]; omega
theorem vsR_vs {l : List Int} (h : l.length < 18446744073709551616) (hall : ∀ x ∈ l, I64 x) (r : By) : vsR (cntT l.length ++ nsT l ++ r) = (l, r, false) := by
  unfold vsR
  rw [List.append_assoc, bd_ok]
  refine ⟨_, _, ctR_cnt _ _ h, ?_⟩
  have := nsT_len l
  rw [if_pos (by rw [List.length_append]; omega)]
  exact nsR_ns l r hall
theorem vsR_inv {t r : By} {l : List Int} (h : vsR t = (l, r, false)) : t = cntT l.length ++ nsT l ++ r ∧ ∀ x ∈ l, I64 x := by
  obtain ⟨n, q, h1, h2⟩ := bd_ok.1 h
  obtain ⟨rfl, -⟩ := ctR_inv h1
  split at h2
  · obtain ⟨rfl, rfl, hall⟩ := nsR_inv _ _ _ _ h2
    exact ⟨by simp, hall⟩
  · simp at h2
theorem vsR_len (t : By) : (vsR t).2.1.length ≤ t.length := by
  have h1 := ctR_len t
  simp only [vsR, bd]
  split
  · have := (nsR_len (ctR t).1 (ctR t).2.1).1; omega
  · exact h1

/-! ### messages -/
def rtR (t : By) : Rd (Int × Int) := bd (nmR t) fun x r => mp (nmR r) fun y => (x, y)
def askR (m : Msg) (t : By) : Rd Msg :=
  bd (tnR t) fun p t => bd (tnR t) fun x t => bd (rtR t) fun q t => bd (nmR t) fun lo t => mp (nmR t) fun hi =>
    { m with pur := p, txt := x, ru := q.1, rd := q.2, low := lo, high := hi }
def rplR (m : Msg) (t : By) : Rd Msg :=
  bd (nmR t) fun e t => bd (vsR t) fun l t => mp (rtR t) fun q => { m with err := e, vals := l, lu := q.1, ld := q.2 }
def msg0 (k : Int) (s : By) (n : Int) : Msg := ⟨k, s, n, [], [], 0, 0, 0, 0, 0, [], 0, 0⟩
def msgR (t : By) : Rd Msg :=
  bd (nxR t) fun c t => bd (tnR t) fun s t => bd (nmR t) fun n t =>
    if c.toNat = 1 then askR (msg0 c.toNat s n) t else if c.toNat = 2 then rplR (msg0 c.toNat s n) t else (msg0 c.toNat s n, t, true)
structure OkM (m : Msg) : Prop where
  s : m.ses.length < 18446744073709551616
  p : m.pur.length < 18446744073709551616
  t : m.txt.length < 18446744073709551616
  v : m.vals.length < 18446744073709551616
  num : I64 m.num
  ru : I64 m.ru
  rd : I64 m.rd
  low : I64 m.low
  high : I64 m.high
  err : I64 m.err
  lu : I64 m.lu
  ld : I64 m.ld
  vs : ∀ x ∈ m.vals, I64 x
theorem rtR_rt {x y : Int} (hx : I64 x) (hy : I64 y) (r : By) : rtR (nmT x ++ nmT y ++ r) = ((x, y), r, false) := by
  unfold rtR
  rw [List.append_assoc, bd_ok]
  exact ⟨_, _, nmR_nm hx _, mp_ok.2 ⟨_, nmR_nm hy _, rfl⟩⟩
theorem rtR_inv {t r : By} {q : Int × Int} (h : rtR t = (q, r, false)) : t = nmT q.1 ++ nmT q.2 ++ r ∧ I64 q.1 ∧ I64 q.2 := by
  obtain ⟨x, t1, h1, h2⟩ := bd_ok.1 h
  obtain ⟨y, h3, rfl⟩ := mp_ok.1 h2
  obtain ⟨rfl, hx⟩ := nmR_inv h1
  obtain ⟨rfl, hy⟩ := nmR_inv h3
  exact ⟨by simp, hx, hy⟩
/-- WHAT IS PACKED IS UNPACKED AS IT WAS -/
theorem msgR_msg {m : Msg} (hf : formB m = true) (ho : OkM m) : msgR (msgT m) = (m, [], false) := by
  unfold formB at hf
  unfold msgT msgR
  by_cases h1 : m.kind = 1
  · rw [if_pos h1] at hf ⊢
    simp only [Bool.and_eq_true, decide_eq_true_eq] at hf
    obtain ⟨e1, e2, e3, e4⟩ := hf
    unfold askT hdT
    simp only [List.append_assoc, List.cons_append, List.nil_append]
    rw [bd_ok]
    refine ⟨_, _, rfl, ?_⟩
    rw [bd_ok]
    refine ⟨_, _, tnR_tn ho.s _, ?_⟩
    rw [bd_ok]
    refine ⟨_, _, nmR_nm ho.num _, ?_⟩
    have ek : (UInt8.ofNat m.kind.toNat).toNat = 1 := by rw [h1]; rfl
    rw [if_pos ek]
    unfold askR
    rw [bd_ok]
    refine ⟨_, _, tnR_tn ho.p _, ?_⟩
    rw [bd_ok]
    refine ⟨_, _, tnR_tn ho.t _, ?_⟩
    rw [bd_ok]
    have := rtR_rt ho.ru ho.rd (nmT m.low ++ nmT m.high)
    rw [List.append_assoc] at this
    refine ⟨_, _, this, ?_⟩
    rw [bd_ok]
    refine ⟨_, _, nmR_nm ho.low _, ?_⟩
    have := nmR_nm ho.high []
    rw [List.append_nil] at this
    rw [mp_ok]
    refine ⟨_, this, ?_⟩
    obtain ⟨k, s, n, p, t, ru, rd, lo, hi, er, vs, lu, ld⟩ := m
    simp only at h1 e1 e2 e3 e4
    subst h1 e1 e3 e4
    simp only [List.length_eq_zero_iff] at e2
    subst e2
    rfl
  · rw [if_neg h1] at hf ⊢
    by_cases h2 : m.kind = 2
    · rw [if_pos h2] at hf
      simp only [Bool.and_eq_true, decide_eq_true_eq] at hf
      obtain ⟨e1, e2, ⟨e3, e4⟩, e5, e6⟩ := hf
      unfold rplT hdT
      simp only [List.append_assoc, List.cons_append, List.nil_append]
      rw [bd_ok]
      refine ⟨_, _, rfl, ?_⟩
      rw [bd_ok]
      refine ⟨_, _, tnR_tn ho.s _, ?_⟩
      rw [bd_ok]
      refine ⟨_, _, nmR_nm ho.num _, ?_⟩
      have ek : (UInt8.ofNat m.kind.toNat).toNat = 2 := by rw [h2]; rfl
      rw [if_neg (by rw [ek]; decide), if_pos ek]
      unfold rplR
      rw [bd_ok]
      refine ⟨_, _, nmR_nm ho.err _, ?_⟩
      rw [bd_ok]
      have := vsR_vs ho.v ho.vs (nmT m.lu ++ nmT m.ld)
      simp only [List.append_assoc] at this
      refine ⟨_, _, this, ?_⟩
      have := rtR_rt ho.lu ho.ld []
      simp only [List.append_nil] at this
      rw [mp_ok]
      refine ⟨_, this, ?_⟩
      obtain ⟨k, s, n, p, t, ru, rd, lo, hi, er, vs, lu, ld⟩ := m
      simp only at h1 h2 e1 e2 e3 e4 e5 e6
      subst h2 e1 e2 e3 e4 e5 e6
      rfl
    · rw [if_neg h2] at hf
      cases hf
/-- WHATEVER CAN BE UNPACKED IS PACKED TO JUST THESE BYTES -/
theorem msgR_inv {t : By} {m : Msg} (h : msgR t = (m, [], false)) : msgT m = t ∧ formB m = true ∧ I64 m.kind := by
  obtain ⟨c, t1, h1, h2⟩ := bd_ok.1 h
  obtain ⟨s, t2, h3, h4⟩ := bd_ok.1 h2
  obtain ⟨n, t3, h5, h6⟩ := bd_ok.1 h4
  have hc : t = c :: t1 := by
    cases t with
    | nil => simp [nxR] at h1
    | cons a r => simp [nxR] at h1; rw [h1.1, h1.2]
  subst hc
  have e1 := tnR_inv h3
  obtain ⟨e2, -⟩ := nmR_inv h5
  subst e1 e2
  split at h6
  · rename_i hk
    obtain ⟨p, t4, h7, h8⟩ := bd_ok.1 h6
    obtain ⟨x, t5, h9, h10⟩ := bd_ok.1 h8
    obtain ⟨q, t6, h11, h12⟩ := bd_ok.1 h10
    obtain ⟨lo, t7, h13, h14⟩ := bd_ok.1 h12
    obtain ⟨hi, h15, rfl⟩ := mp_ok.1 h14
    have e3 := tnR_inv h7
    have e4 := tnR_inv h9
    obtain ⟨e5, -⟩ := rtR_inv h11
    obtain ⟨e6, -⟩ := nmR_inv h13
    obtain ⟨e7, -⟩ := nmR_inv h15
    subst e3 e4 e5 e6 e7
    refine ⟨?_, ?_, ?_⟩
    · simp only [msgT, msg0, hk, askT, hdT]
      have : UInt8.ofNat ((1 : Nat) : Int).toNat = c := by
        rw [← hk]; simp
      simp only [this]
      simp
    · simp [formB, msg0, hk]
    · simp [msg0, hk, I64]
  · split at h6
    · rename_i hk0 hk
      obtain ⟨e, t4, h7, h8⟩ := bd_ok.1 h6
      obtain ⟨l, t5, h9, h10⟩ := bd_ok.1 h8
      obtain ⟨q, h11, rfl⟩ := mp_ok.1 h10
      obtain ⟨e3, -⟩ := nmR_inv h7
      obtain ⟨e4, -⟩ := vsR_inv h9
      obtain ⟨e5, -⟩ := rtR_inv h11
      subst e3 e4 e5
      refine ⟨?_, ?_, ?_⟩
      · simp only [msgT, msg0, hk, rplT, hdT]
        have : UInt8.ofNat ((2 : Nat) : Int).toNat = c := by
          rw [← hk]; simp
        simp only [this]
        simp
      · simp [formB, msg0, hk]
      · simp [msg0, hk, I64]
    · simp at h6
end Wc
end Go.Proofs.Ytnoedkebmpfagaa
