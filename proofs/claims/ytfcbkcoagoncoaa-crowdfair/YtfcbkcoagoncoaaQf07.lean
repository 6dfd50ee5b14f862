import Derived.Test.YtfcbkcoagoncoaaQf06
/-
  WHAT Shuffled AND Guess TELL.
-/
namespace Go.Proofs.Ytfcbkcoagoncoaa.Crd
open Go.Proofs.Ytfcbkcoagoncoaa.Ds Go.Proofs.Ytfcbkcoagoncoaa

/-- what Respond says of each one's kind, in order -/
def resE (u d m : Int) : List Int → Int
  | [] => 0
  | t :: ts => if (resT u d m t).2 ≠ 0 then (resT u d m t).2 else resE u d m ts
/-- what is wrong with a crowd -/
def peoE (u d K : Int) (ts : List Int) : Int :=
  if K < 1 ∨ 8 < K then 3 else if 12 < ts.length then 5 else if (resT u d K 0).2 ≠ 0 then (resT u d K 0).2 else if resE u d K ts ≠ 0 then resE u d K ts
  else if 1073741824 < (u + (K - 1) * d) ^ ts.length then 4 else 0
def natsT (ts : List Int) : List Nat := ts.map Int.toNat
def shuT (u d K : Int) (ts : List Int) : List Pt × Int := if peoE u d K ts ≠ 0 then ([], peoE u d K ts) else makeT (expL u d (K - 1).toNat (natsT ts))

theorem res_ok {u d m t : Int} (h : (resT u d m t).2 = 0) : lossE u d = 0 ∧ 1 ≤ m ∧ 0 ≤ t ∧ t < m ∧ u + (m - 1) * d ≤ 1073741824 := by
  unfold resT at h
  by_cases c1 : lossE u d = 0
  · rw [if_neg (by simpa using c1)] at h
    by_cases c2 : 1 ≤ m ∧ m ≤ 4096 ∧ 0 ≤ t ∧ t < m
    · rw [if_neg (by simpa using c2)] at h
      by_cases c3 : 1073741824 < u + (m - 1) * d
      · rw [if_pos c3] at h; simp at h
      · exact ⟨c1, c2.1, c2.2.2.1, c2.2.2.2, by omega⟩
    · rw [if_pos c2] at h; simp at h
  · rw [if_pos c1] at h; exact absurd h c1
theorem resE_ok {u d m : Int} : ∀ {ts : List Int}, resE u d m ts = 0 → ∀ t ∈ ts, (resT u d m t).2 = 0
  | [], _ => by simp
  | t :: ts, h => by
    unfold resE at h
    by_cases c : (resT u d m t).2 = 0
    · rw [if_neg (by simpa using c)] at h
      intro x hx
      rcases List.mem_cons.1 hx with rfl | hx
      · exact c
      · exact resE_ok h x hx
    · rw [if_pos c] at h; exact absurd h c
structure Peo (u d : Int) (k : Nat) (ts : List Int) : Prop where
  k7 : k ≤ 7
  len : ts.length ≤ 12
  loss : lossE u d = 0
  d1 : 1 ≤ d
  du : d ≤ u
  u30 : u ≤ 1073741824
  mem : ∀ t ∈ ts, 0 ≤ t ∧ t ≤ (k : Int)
  pow : (u + k * d) ^ ts.length ≤ 1073741824
  S : u + k * d ≤ 1073741824
theorem peo_ok {u d K : Int} {ts : List Int} (h : peoE u d K ts = 0) : ∃ k : Nat, K = (k : Int) + 1 ∧ Peo u d k ts := by
  unfold peoE at h
  by_cases c1 : K < 1 ∨ 8 < K
  · rw [if_pos c1] at h; simp at h
  rw [if_neg c1] at h
  by_cases c2 : 12 < ts.length
  · rw [if_pos c2] at h; simp at h
  rw [if_neg c2] at h
  by_cases c3 : (resT u d K 0).2 = 0
  · rw [if_neg (by simpa using c3)] at h
    by_cases c4 : resE u d K ts = 0
    · rw [if_neg (by simpa using c4)] at h
      by_cases c5 : 1073741824 < (u + (K - 1) * d) ^ ts.length
      · rw [if_pos c5] at h; simp at h
      · obtain ⟨a1, a2, a3, a4, a5⟩ := res_ok c3
        obtain ⟨l1, l2, l3, l4⟩ := loss_ok a1
        obtain ⟨k, hk⟩ := Int.eq_ofNat_of_zero_le (show 0 ≤ K - 1 by omega)
        rw [hk] at c5 a5
        refine ⟨k, by omega, ⟨by omega, by omega, a1, l3, l2, l4, fun t ht => ?_, by omega, a5⟩⟩
        obtain ⟨_, _, b3, b4, _⟩ := res_ok (resE_ok c4 t ht)
        omega
    · rw [if_pos c4] at h; exact absurd h c4
  · rw [if_pos c3] at h; exact absurd h c3
theorem nats_len (ts : List Int) : (natsT ts).length = ts.length := by simp [natsT]
theorem Peo.nats {u d : Int} {k : Nat} {ts : List Int} (h : Peo u d k ts) : ∀ t ∈ natsT ts, t ≤ k := by
  intro t ht
  obtain ⟨x, hx, rfl⟩ := List.mem_map.1 ht
  have := h.mem x hx
  omega
theorem shu_of {u d K : Int} {ts : List Int} {k : Nat} (h : peoE u d K ts = 0) (hk : K = (k : Int) + 1) : shuT u d K ts = makeT (expL u d k (natsT ts)) := by
  unfold shuT
  rw [if_neg (by simpa using h), hk, show ((k : Int) + 1 - 1).toNat = k by omega]
theorem Peo.res {u d : Int} {k : Nat} {ts : List Int} (h : Peo u d k ts) {t : Int} (h0 : 0 ≤ t) (h1 : t ≤ k) : resT u d ((k : Int) + 1) t = makeT (resL u d t (k + 1)) := by
  unfold resT
  have := h.k7
  have e : u + ((k : Int) + 1 - 1) * d = u + k * d := by rw [show (k : Int) + 1 - 1 = k by omega]
  rw [if_neg (by simpa using h.loss), if_neg (by simp; omega), if_neg (by rw [e]; have := h.S; omega), show ((k : Int) + 1).toNat = k + 1 by omega]

/-! ### Guess -/
def gdL (g : Nat) : List Int → Nat
  | [] => g
  | x :: l => gdL (Nat.gcd g x.natAbs) l
def xsT (u d : Int) (h : List Int) : List Int := h.map fun x => (u + ((h.length : Int) - 1) * d) * x - tl h * d
def badN (x : Int) : Bool := decide (x < 0 ∨ 4096 < x)
def gueT (u d : Int) (h : List Int) : List Int × Int × Int :=
  if peoE u d h.length [] ≠ 0 then ([], 0, peoE u d h.length []) else if u = d then ([], 0, 6) else if h.any badN = true then ([], 0, 8)
  else ((xsT u d h).map fun x => x / (gdL (u - d).toNat (xsT u d h) : Int), (u - d) / (gdL (u - d).toNat (xsT u d h) : Int), 0)
theorem gdL_dvd : ∀ (l : List Int) (g : Nat), gdL g l ∣ g ∧ ∀ x ∈ l, gdL g l ∣ x.natAbs
  | [], g => ⟨Nat.dvd_refl _, by simp⟩
  | x :: l, g => by
    obtain ⟨h1, h2⟩ := gdL_dvd l (Nat.gcd g x.natAbs)
    refine ⟨Nat.dvd_trans h1 (Nat.gcd_dvd_left _ _), fun y hy => ?_⟩
    rcases List.mem_cons.1 hy with rfl | hy
    · exact Nat.dvd_trans h1 (Nat.gcd_dvd_right _ _)
    · exact h2 y hy
theorem gdL_pos (l : List Int) {g : Nat} (hg : 1 ≤ g) : 1 ≤ gdL g l := Nat.pos_of_dvd_of_pos (gdL_dvd l g).1 hg
theorem gdL_le (l : List Int) {g : Nat} (hg : 1 ≤ g) : gdL g l ≤ g := Nat.le_of_dvd hg (gdL_dvd l g).1
theorem gdL_app (g : Nat) (l m : List Int) : gdL g (l ++ m) = gdL (gdL g l) m := by
  induction l generalizing g with
  | nil => rfl
  | cons x l ih => simp only [List.cons_append, gdL, ih]
theorem gdL_snoc (g : Nat) (l : List Int) (x : Int) : gdL g (l ++ [x]) = Nat.gcd (gdL g l) x.natAbs := by rw [gdL_app]; rfl
theorem all_good {h : List Int} (hb : h.any badN = false) : ∀ x ∈ h, 0 ≤ x ∧ x ≤ 4096 := by
  intro x hx
  have := List.any_eq_false.1 hb x hx
  unfold badN at this
  simp at this
  omega
theorem tl_nn {h : List Int} (hh : ∀ x ∈ h, 0 ≤ x ∧ x ≤ 4096) : 0 ≤ tl h ∧ tl h ≤ 4096 * h.length := by
  induction h with
  | nil => simp [tl, smL]
  | cons x h ih =>
    have := hh x (by simp)
    have := ih fun y hy => hh y (by simp [hy])
    rw [tl_cons, List.length_cons]
    omega
theorem tl_append (a b : List Int) : tl (a ++ b) = tl a + tl b := smL_append _ _ _
theorem tl_take_succ {h : List Int} {i : Nat} {x : Int} (hx : h[i]? = some x) : tl (h.take (i + 1)) = tl (h.take i) + x := by
  rw [List.take_add_one, hx, tl_append]
  simp [tl, smL]
end Go.Proofs.Ytfcbkcoagoncoaa.Crd
