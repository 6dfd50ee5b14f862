import Derived.Test.YtidfkencjdjkbaaDoorQu35
import Derived.Test.YtidfkencjdjkbaaDoorQu37
/-
  PACKAGE speech, Print: what may be said; a question is written, whole.
-/
namespace Go.Proofs.YtidfkencjdjkbaaDoor
open Go.RowKit Sp
open Go.Lib (decDigits itoa)

theorem tsB_ok {t : Tst} (h : tsB t = true) : TOk t := by
  simp [tsB] at h
  exact ⟨h.1.1, by omega, by omega, h.2.1, h.2.2⟩
theorem say_of_ck {w : World} {B : Nat} : ∀ (q : Qu) (cs : List Value), QI w B q cs → ckB q = true → Say q
  | .none, _, h, _ => h.elim
  | .node k c lo hi wh n x y, cs, h, hc => by
    obtain ⟨wv, ka, kc, -, -, -, -, -, -, -, -, hx0, hy0, hk⟩ := h
    rw [ckB] at hc
    cases hs : shpT k with
    | none => rw [hs] at hc; cases hc
    | some s =>
      obtain ⟨s1, s2, s3, s4, s5, s6⟩ := s
      rw [hs] at hc
      simp only [Bool.and_eq_true, decide_eq_true_eq] at hc
      obtain ⟨⟨⟨⟨⟨⟨⟨c1, c2, c3⟩, c4, c5⟩, c6⟩, c7⟩, c8⟩, c9⟩, c10⟩ := hc
      have hT : ∀ t ∈ wh, TOk t := fun t ht => tsB_ok (List.all_eq_true.1 c8 t ht)
      have hX : 1 ≤ n → n ≤ 2 → Say x := fun h1 h2 => by
        obtain ⟨b, o, _, _, ⟨xs, hxq, _⟩, _⟩ := hk h1 h2
        rw [if_pos h1] at c9
        exact say_of_ck x xs hxq c9
      have hY : 2 ≤ n → n ≤ 2 → Say y := fun h1 h2 => by
        obtain ⟨b, o, _, _, _, hyy⟩ := hk (by omega) h2
        obtain ⟨ys, hyq, _⟩ := hyy h1
        rw [if_pos h1] at c10
        exact say_of_ck y ys hyq c10
      unfold shpT at hs
      by_cases k1 : k = 1
      · rw [if_pos k1] at hs; injection hs with hs; simp only [Prod.mk.injEq] at hs; obtain ⟨rfl, rfl, rfl, rfl, rfl, rfl⟩ := hs
        exact .inl ⟨k1, by simpa using c7, by omega, by omega, by omega, ⟨by omega, hT⟩, hx0 (by omega), hy0 (by omega)⟩
      rw [if_neg k1] at hs
      by_cases k2 : k = 2
      · rw [if_pos k2] at hs; injection hs with hs; simp only [Prod.mk.injEq] at hs; obtain ⟨rfl, rfl, rfl, rfl, rfl, rfl⟩ := hs
        exact .inr (.inl ⟨k2, by simpa using c7, ⟨c2, c3⟩, ⟨c4, c5⟩, by omega, ⟨by omega, hT⟩, hx0 (by omega), hy0 (by omega)⟩)
      rw [if_neg k2] at hs
      by_cases k3 : k = 3
      · rw [if_pos k3] at hs; injection hs with hs; simp only [Prod.mk.injEq] at hs; obtain ⟨rfl, rfl, rfl, rfl, rfl, rfl⟩ := hs
        exact .inr (.inr (.inl ⟨k3, by simpa using c7, by omega, by omega, by omega, ⟨by omega, hT⟩, hx0 (by omega), hy0 (by omega)⟩))
      rw [if_neg k3] at hs
      have hnil : (wh.length : Int) ≤ 0 → wh = [] := fun h => List.length_eq_zero_iff.1 (by omega)
      by_cases k4 : k = 4 ∨ k = 5 ∨ k = 7
      · rw [if_pos k4] at hs; injection hs with hs; simp only [Prod.mk.injEq] at hs; obtain ⟨rfl, rfl, rfl, rfl, rfl, rfl⟩ := hs
        exact .inr (.inr (.inr (.inl ⟨k4, by simpa using c7, by omega, by omega, hnil c6, by omega, hX (by omega) (by omega), hY (by omega) (by omega)⟩)))
      rw [if_neg k4] at hs
      by_cases k6 : k = 6
      · rw [if_pos k6] at hs; injection hs with hs; simp only [Prod.mk.injEq] at hs; obtain ⟨rfl, rfl, rfl, rfl, rfl, rfl⟩ := hs
        exact .inr (.inr (.inr (.inr (.inl ⟨k6, by simpa using c7, ⟨c2, c3⟩, by omega, hnil c6, by omega, hX (by omega) (by omega), hy0 (by omega)⟩))))
      rw [if_neg k6] at hs
      by_cases k8 : k = 8
      · rw [if_pos k8] at hs; injection hs with hs; simp only [Prod.mk.injEq] at hs; obtain ⟨rfl, rfl, rfl, rfl, rfl, rfl⟩ := hs
        exact .inr (.inr (.inr (.inr (.inr (.inl ⟨k8, by simpa using c7, by omega, by omega, hnil c6, by omega, hX (by omega) (by omega), hy0 (by omega)⟩)))))
      rw [if_neg k8] at hs
      by_cases k9 : k = 9
      · rw [if_pos k9] at hs; injection hs with hs; simp only [Prod.mk.injEq] at hs; obtain ⟨rfl, rfl, rfl, rfl, rfl, rfl⟩ := hs
        exact .inr (.inr (.inr (.inr (.inr (.inr (.inl ⟨k9, by simpa using c7, ⟨c2, c3⟩, by omega, hnil c6, by omega, hX (by omega) (by omega), hy0 (by omega)⟩))))))
      rw [if_neg k9] at hs
      by_cases k10 : k = 10
      · rw [if_pos k10] at hs; injection hs with hs; simp only [Prod.mk.injEq] at hs; obtain ⟨rfl, rfl, rfl, rfl, rfl, rfl⟩ := hs
        exact .inr (.inr (.inr (.inr (.inr (.inr (.inr ⟨k10, by simpa using c7, ⟨c2, c3⟩, ⟨c4, c5⟩, hnil c6, by omega, hX (by omega) (by omega), hy0 (by omega)⟩))))))
      rw [if_neg k10] at hs
      cases hs
theorem qtx1 (l : List By) (c : By) (lo hi : Int) (wh : List Tst) (n : Nat) (x y : Qu) : l ++ qtx (.node 1 c lo hi wh n x y) = l ++ [wCount] ++ chx wh := by simp [qtx, chks, chx, Ck.txt]
theorem qtx2 (l : List By) (c : By) (lo hi : Int) (wh : List Tst) (n : Nat) (x y : Qu) : l ++ qtx (.node 2 c lo hi wh n x y) = l ++ [wSum, c, wIn, itoa lo ++ (sDots ++ itoa hi)] ++ chx wh := by simp [qtx, chks, chx, Ck.txt]
theorem qtx3 (l : List By) (c : By) (lo hi : Int) (wh : List Tst) (n : Nat) (x y : Qu) : l ++ qtx (.node 3 c lo hi wh n x y) = l ++ [wBins, c] ++ chx wh := by simp [qtx, chks, chx, Ck.txt]
theorem qtx4 (l : List By) (c : By) (lo hi : Int) (n : Nat) (x y : Qu) : l ++ qtx (.node 4 c lo hi [] n x y) = l ++ qtx x ++ [sPlus] ++ wtx (isS y) y ++ chx [] := by simp [qtx, wtx, chks, chx, chkW, Ck.txt]
theorem qtx5 (l : List By) (c : By) (lo hi : Int) (n : Nat) (x y : Qu) : l ++ qtx (.node 5 c lo hi [] n x y) = l ++ qtx x ++ [sMinus] ++ wtx (isS y) y ++ chx [] := by simp [qtx, wtx, chks, chx, chkW, Ck.txt]
theorem qtx6 (l : List By) (c : By) (lo hi : Int) (n : Nat) (x y : Qu) : l ++ qtx (.node 6 c lo hi [] n x y) = l ++ [itoa lo, sStar] ++ wtx (isS x) x ++ chx [] := by simp [qtx, wtx, chks, chx, chkW, Ck.txt]
theorem qtx7 (l : List By) (c : By) (lo hi : Int) (n : Nat) (x y : Qu) : l ++ qtx (.node 7 c lo hi [] n x y) = l ++ [wJoin, sOpen] ++ qtx x ++ [sComma] ++ qtx y ++ [sShut] ++ chx [] := by simp [qtx, chks, chx, chkW, Ck.txt]
theorem qtx8 (l : List By) (c : By) (lo hi : Int) (n : Nat) (x y : Qu) : l ++ qtx (.node 8 c lo hi [] n x y) = l ++ [wTotal] ++ wtx true x ++ chx [] := by simp [qtx, wtx, chks, chx, chkW, Ck.txt]
theorem qtx9 (l : List By) (c : By) (lo hi : Int) (n : Nat) (x y : Qu) (b : Bool) (hb : (isS x || isT x) = b) : l ++ qtx (.node 9 c lo hi [] n x y) = l ++ wtx b x ++ [sLeft, itoa lo, sRight] ++ chx [] := by subst hb; simp [qtx, wtx, chks, chx, chkW, Ck.txt]
theorem qtx10 (l : List By) (c : By) (lo hi : Int) (n : Nat) (x y : Qu) : l ++ qtx (.node 10 c lo hi [] n x y) = l ++ [wClamp, itoa lo ++ (sDots ++ itoa hi)] ++ wtx true x ++ chx [] := by simp [qtx, wtx, chks, chx, chkW, Ck.txt]
/-- A QUESTION IS WRITTEN -/
theorem wq_any {B R : Nat} (h5 : 5 ≤ B) : ∀ q : Qu, Say q → QW B R q
  | .none, h => h.elim
  | .node k c lo hi wh n x y, h => by
    intro w l cs hw hI hG hpt
    rcases h with ⟨rfl, rfl, rfl, rfl, rfl, hwh, rfl, rfl⟩ | ⟨rfl, hc, hlo, hhi, rfl, hwh, rfl, rfl⟩ | ⟨rfl, hc, rfl, rfl, rfl, hwh, rfl, rfl⟩ | ⟨hk, rfl, rfl, rfl, rfl, rfl, hx, hy⟩ | ⟨rfl, rfl, hlo, rfl, rfl, rfl, hx, rfl⟩ | ⟨rfl, rfl, rfl, rfl, rfl, rfl, hx, rfl⟩ | ⟨rfl, rfl, hlo, rfl, rfl, rfl, hx, rfl⟩ | ⟨rfl, rfl, hlo, hhi, rfl, rfl, hx, rfl⟩
    · rw [qtx1]
      exact qw1 h5 _ _ _ wh _ _ w l cs hw hI hwh.2 hG hpt
    · rw [qtx2]
      exact qw2 h5 _ _ _ wh _ _ _ rfl hc w l cs hw hI hwh.2 hG hpt
    · rw [qtx3]
      exact qw3 h5 _ _ _ wh _ _ hc w l cs hw hI hwh.2 hG hpt
    · have hX := wq_any (R := R) h5 x hx
      have hY := wq_any (R := R) h5 y hy
      rcases hk with rfl | rfl | rfl
      · rw [qtx4]
        exact qw4 h5 _ _ _ [] x y hX hY w l cs hw hI (by simp) hG hpt
      · rw [qtx5]
        exact qw5 h5 _ _ _ [] x y hX hY w l cs hw hI (by simp) hG hpt
      · rw [qtx7]
        exact qw7 h5 _ _ _ [] x y hX hY w l cs hw hI (by simp) hG hpt
    · rw [qtx6]
      exact qw6 h5 _ _ _ [] x _ _ rfl (wq_any (R := R) h5 x hx) w l cs hw hI (by simp) hG hpt
    · rw [qtx8]
      exact qw8 h5 _ _ _ [] x _ (wq_any (R := R) h5 x hx) w l cs hw hI (by simp) hG hpt
    · have hX := wq_any (R := R) h5 x hx
      cases hS : isS x with
      | true =>
        rw [qtx9 _ _ _ _ _ _ _ true (by rw [hS]; rfl)]
        exact qw9t h5 _ _ _ [] x _ _ rfl hX hS w l cs hw hI (by simp) hG hpt
      | false =>
        rw [qtx9 _ _ _ _ _ _ _ (isT x) (by rw [hS]; rfl)]
        exact qw9f h5 _ _ _ [] x _ _ rfl hX hS _ rfl w l cs hw hI (by simp) hG hpt
    · rw [qtx10]
      exact qw10 h5 _ _ _ [] x _ _ rfl (wq_any (R := R) h5 x hx) w l cs hw hI (by simp) hG hpt
theorem chks_ne {q : Qu} (h : Say q) : chks q ≠ [] := by
  cases q with
  | none => exact h.elim
  | node k c lo hi wh n x y =>
    unfold chks
    repeat' split
    all_goals simp [brcC]
theorem txtT_qtx (q : Qu) : txtT q = wrs [] (qtx q) := by rw [txtT, wrt_wrs]; rfl
theorem txtT_ne {q : Qu} (h : Say q) : txtT q ≠ [] := by
  have h1 := chks_ne h
  have h2 := wf_chks h
  rw [txtT]
  cases hc : chks q with
  | nil => exact absurd hc h1
  | cons a r =>
    rw [wrt]
    have h3 := txt_ne (h2 a (by rw [hc]; simp))
    intro e
    simp only [List.append_eq_nil_iff] at e
    exact h3 e.2.1
end Go.Proofs.YtidfkencjdjkbaaDoor
