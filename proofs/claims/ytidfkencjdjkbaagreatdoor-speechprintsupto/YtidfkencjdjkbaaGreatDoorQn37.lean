import Derived.Test.YtidfkencjdjkbaaGreatDoorQn36
import Derived.Test.YtidfkencjdjkbaaGreatDoorQn29
import Derived.Test.YtidfkencjdjkbaaGreatDoorQn28
/-
  PACKAGE speech, Print: what may be said; a question is written, whole.
-/
namespace Go.Proofs.YtidfkencjdjkbaaGreatDoor
open Go.RowKit Sp
open Go.Lib (decDigits itoa)

theorem tsB_ok {t : Tst} (h : tsB t = true) : TOk t := by
  simp [tsB] at h
  exact ⟨h.1.1, by omega, by omega, h.2.1, h.2.2⟩
theorem say_of_ck {w : World} {B : Nat} : ∀ (q : Qu) (cs : List Value), QI w B q cs → ckB q = true → Say q
  | .none, _, h, _ => h.elim
  | .node k c lo hi wh n x y, cs, h, hc => by
    obtain ⟨wv, ka, kc, -, -, -, -, -, -, -, -, hx0, hy0, hk⟩ := h
    rw [ckB] at hc
    cases hs : shpT k with
    | none => rw [hs] at hc; cases hc
    | some s =>
      obtain ⟨s1, s2, s3, s4, s5, s6⟩ := s
      rw [hs] at hc
      simp only [Bool.and_eq_true, decide_eq_true_eq] at hc
      obtain ⟨⟨⟨⟨⟨⟨⟨c1, c2, c3⟩, c4, c5⟩, c6⟩, c7⟩, c8⟩, c9⟩, c10⟩ := hc
      have hT : ∀ t ∈ wh, TOk t := fun t ht => tsB_ok (List.all_eq_true.1 c8 t ht)
      have hX : 1 ≤ n → n ≤ 2 → Say x := fun h1 h2 => by
        obtain ⟨b, o, _, _, ⟨xs, hxq, _⟩, _⟩ := hk h1 h2
        rw [if_pos h1] at c9
        exact say_of_ck x xs hxq c9
      have hY : 2 ≤ n → n ≤ 2 → Say y := fun h1 h2 => by
        obtain ⟨b, o, _, _, _, hyy⟩ := hk (by omega) h2
        obtain ⟨ys, hyq, _⟩ := hyy h1
        rw [if_pos h1] at c10
        exact say_of_ck y ys hyq c10
      unfold shpT at hs
      by_cases k1 : k = 1
      · rw [if_pos k1] at hs; injection hs with hs; simp only [Prod.mk.injEq] at hs; obtain ⟨rfl, rfl, rfl, rfl, rfl, rfl⟩ := hs
        exact .inl ⟨k1, by simpa using c7, by omega, by omega, by omega, ⟨by omega, hT⟩, hx0 (by omega), hy0 (by omega)⟩
      rw [if_neg k1] at hs
      by_cases k2 : k = 2
      · rw [if_pos k2] at hs; injection hs with hs; simp only [Prod.mk.injEq] at hs; obtain ⟨rfl, rfl, rfl, rfl, rfl, rfl⟩ := hs
        exact .inr (.inl ⟨k2, by simpa using c7, ⟨c2, c3⟩, ⟨c4, c5⟩, by omega, ⟨by omega, hT⟩, hx0 (by omega), hy0 (by omega)⟩)
      rw [if_neg k2] at hs
      by_cases k3 : k = 3
      · rw [if_pos k3] at hs; injection hs with hs; simp only [Prod.mk.injEq] at hs; obtain ⟨rfl, rfl, rfl, rfl, rfl, rfl⟩ := hs
        exact .inr (.inr (.inl ⟨k3, by simpa using c7, by omega, by omega, by omega, ⟨by omega, hT⟩, hx0 (by omega), hy0 (by omega)⟩))
      rw [if_neg k3] at hs
      have hnil : (wh.length : Int) ≤ 0 → wh = [] := fun h => List.length_eq_zero_iff.1 (by omega)
      by_cases k4 : k = 4 ∨ k = 5 ∨ k = 7
      · rw [if_pos k4] at hs; injection hs with hs; simp only [Prod.mk.injEq] at hs; obtain ⟨rfl, rfl, rfl, rfl, rfl, rfl⟩ := hs
        exact .inr (.inr (.inr (.inl ⟨k4, by simpa using c7, by omega, by omega, hnil c6, by omega, hX (by omega) (by omega), hY (by omega) (by omega)⟩)))
      rw [if_neg k4] at hs
      by_cases k6 : k = 6
      · rw [if_pos k6] at hs; injection hs with hs; simp only [Prod.mk.injEq] at hs; obtain ⟨rfl, rfl, rfl, rfl, rfl, rfl⟩ := hs
        exact .inr (.inr (.inr (.inr (.inl ⟨k6, by simpa using c7, ⟨c2, c3⟩, by omega, hnil c6, by omega, hX (by omega) (by omega), hy0 (by omega)⟩))))
      rw [if_neg k6] at hs
      by_cases k8 : k = 8
      · rw [if_pos k8] at hs; injection hs with hs; simp only [Prod.mk.injEq] at hs; obtain ⟨rfl, rfl, rfl, rfl, rfl, rfl⟩ := hs
        exact .inr (.inr (.inr (.inr (.inr (.inl ⟨k8, by simpa using c7, by omega, by omega, hnil c6, by omega, hX (by omega) (by omega), hy0 (by omega)⟩)))))
      rw [if_neg k8] at hs
      by_cases k9 : k = 9
      · rw [if_pos k9] at hs; injection hs with hs; simp only [Prod.mk.injEq] at hs; obtain ⟨rfl, rfl, rfl, rfl, rfl, rfl⟩ := hs
        exact .inr (.inr (.inr (.inr (.inr (.inr (.inl ⟨k9, by simpa using c7, ⟨c2, c3⟩, by omega, hnil c6, by omega, hX (by omega) (by omega), hy0 (by omega)⟩))))))
      rw [if_neg k9] at hs
      by_cases k10 : k = 10
      · rw [if_pos k10] at hs; injection hs with hs; simp only [Prod.mk.injEq] at hs; obtain ⟨rfl, rfl, rfl, rfl, rfl, rfl⟩ := hs
        exact .inr (.inr (.inr (.inr (.inr (.inr (.inr ⟨k10, by simpa using c7, ⟨c2, c3⟩, ⟨c4, c5⟩, hnil c6, by omega, hX (by omega) (by omega), hy0 (by omega)⟩))))))
      rw [if_neg k10] at hs
      cases hs
theorem qtx1 (l : List By) (c : By) (lo hi : Int) (wh : List Tst) (n : Nat) (x y : Qu) : l ++ qtx (.node 1 c lo hi wh n x y) = l ++ [wCount] ++ chx wh := by simp [qtx, chks, chx, Ck.txt]
theorem qtx2 (l : List By) (c : By) (lo hi : Int) (wh : List Tst) (n : Nat) (x y : Qu) : l ++ qtx (.node 2 c lo hi wh n x y) = l ++ [wSum, c, wIn, itoa lo ++ (sDots ++ itoa hi)] ++ chx wh := by simp [qtx, chks, chx, Ck.txt]
theorem qtx3 (l : List By) (c : By) (lo hi : Int) (wh : List Tst) (n : Nat) (x y : Qu) : l ++ qtx (.node 3 c lo hi wh n x y) = l ++ [wBins, c] ++ chx wh := by simp [qtx, chks, chx, Ck.txt]
theorem qtx4 (l : List By) (c : By) (lo hi : Int) (n : Nat) (x y : Qu) : l ++ qtx (.node 4 c lo hi [] n x y) = l ++ qtx x ++ [sPlus] ++ wtx (isS y) y ++ chx [] := by simp [qtx, wtx, chks, chx, chkW, Ck.txt]
theorem qtx5 (l : List By) (c : By) (lo hi : Int) (n : Nat) (x y : Qu) : l ++ qtx (.node 5 c lo hi [] n x y) = l ++ qtx x ++ [sMinus] ++ wtx (isS y) y ++ chx [] := by simp [qtx, wtx, chks, chx, chkW, Ck.txt]
theorem qtx6 (l : List By) (c : By) (lo hi : Int) (n : Nat) (x y : Qu) : l ++ qtx (.node 6 c lo hi [] n x y) = l ++ [itoa lo, sStar] ++ wtx (isS x) x ++ chx [] := by simp [qtx, wtx, chks, chx, chkW, Ck.txt]
theorem qtx7 (l : List By) (c : By) (lo hi : Int) (n : Nat) (x y : Qu) : l ++ qtx (.node 7 c lo hi [] n x y) = l ++ [wJoin, sOpen] ++ qtx x ++ [sComma] ++ qtx y ++ [sShut] ++ chx [] := by simp [qtx, chks, chx, chkW, Ck.txt]
theorem qtx8 (l : List By) (c : By) (lo hi : Int) (n : Nat) (x y : Qu) : l ++ qtx (.node 8 c lo hi [] n x y) = l ++ [wTotal] ++ wtx true x ++ chx [] := by simp [qtx, wtx, chks, chx, chkW, Ck.txt]
theorem qtx9 (l : List By) (c : By) (lo hi : Int) (n : Nat) (x y : Qu) (b : Bool) (hb : (isS x || isT x) = b) : l ++ qtx (.node 9 c lo hi [] n x y) = l ++ wtx b x ++ [sLeft, itoa lo, sRight] ++ chx [] := by subst hb; simp [qtx, wtx, chks, chx, chkW, Ck.txt]
theorem qtx10 (l : List By) (c : By) (lo hi : Int) (n : Nat) (x y : Qu) : l ++ qtx (.node 10 c lo hi [] n x y) = l ++ [wClamp, itoa lo ++ (sDots ++ itoa hi)] ++ wtx true x ++ chx [] := by simp [qtx, wtx, chks, chx, chkW, Ck.txt]
/-- A QUESTION IS WRITTEN -/
theorem wq_any {B R : Nat} (h5 : 5 ≤ B) : ∀ q : Qu, Say q → QW B R q
  | .none, h => h.elim
  | .node k c lo hi wh n x y, h => by
    intro w l cs hw hI hG hpt
    rcases h with ⟨rfl, rfl, rfl, rfl, rfl, hwh, rfl, rfl⟩ | ⟨rfl, hc, hlo, hhi, rfl, hwh, rfl, rfl⟩ | ⟨rfl, hc, rfl, rfl, rfl, hwh, rfl, rfl⟩ | ⟨hk, rfl, rfl, rfl, rfl, rfl, hx, hy⟩ | ⟨rfl, rfl, hlo, rfl, rfl, rfl, hx, rfl⟩ | ⟨rfl, rfl, rfl, rfl, rfl, rfl, hx, rfl⟩ | ⟨rfl, rfl, hlo, rfl, rfl, rfl, hx, rfl⟩ | ⟨rfl, rfl, hlo, hhi, rfl, rfl, hx, rfl⟩
    · rw [qtx1]
      exact qw1 h5 _ _ _ wh _ _ w l cs hw hI hwh.2 hG hpt
    · rw [qtx2]
      exact qw2 h5 _ _ _ wh _ _ _ rfl hc w l cs hw hI hwh.2 hG hpt
    · rw [qtx3]
      exact qw3 h5 _ _ _ wh _ _ hc w l cs hw hI hwh.2 hG hpt
    · have hX := wq_any (R := R) h5 x hx
      have hY := wq_any (R := R) h5 y hy
      rcases hk with rfl | rfl | rfl
      · rw [qtx4]
        exact qw4 h5 _ _ _ [] x y hX hY w l cs hw hI (by simp) hG hpt
      · rw [qtx5]
        exact qw5 h5 _ _ _ [] x y hX hY w l cs hw hI (by simp) hG hpt
      · rw [qtx7]
        exact qw7 h5 _ _ _ [] x y hX hY w l cs hw hI (by simp) hG hpt
    · rw [qtx6]
      exact qw6 h5 _ _ _ [] x _ _ rfl (wq_any (R := R) h5 x hx) w l cs hw hI (by simp) hG hpt
    · rw [qtx8]
      exact qw8 h5 _ _ _ [] x _ (wq_any (R := R) h5 x hx) w l cs hw hI (by simp) hG hpt
    · have hX := wq_any (R := R) h5 x hx
      cases hS : isS x with
      | true =>
        rw [qtx9 _ _ _ _ _ _ _ true (by rw [hS]; rfl)]
        exact qw9t h5 _ _ _ [] x _ _ rfl hX hS w l cs hw hI (by simp) hG hpt
      | false =>
        rw [qtx9 _ _ _ _ _ _ _ (isT x) (by rw [hS]; rfl)]
        exact qw9f h5 _ _ _ [] x _ _ rfl hX hS _ rfl w l cs hw hI (by simp) hG hpt
    · rw [qtx10]
      exact qw10 h5 _ _ _ [] x _ _ rfl (wq_any (R := R) h5 x hx) w l cs hw hI (by simp) hG hpt
theorem chks_ne {q : Qu} (h : Say q) : chks q ≠ [] := by
  cases q with
  | none => exact h.elim
  | node k c lo hi wh n x y =>
    unfold chks
    repeat' split
    all_goals simp [brcC]
theorem txtT_qtx (q : Qu) : txtT q = wrs [] (qtx q) := by rw [txtT, wrt_wrs]; rfl
theorem txtT_ne {q : Qu} (h : Say q) : txtT q ≠ [] := by
  have h1 := chks_ne h
  have h2 := wf_chks h
  rw [txtT]
  cases hc : chks q with
  | nil => exact absurd hc h1
  | cons a r =>
    rw [wrt]
    have h3 := txt_ne (h2 a (by rw [hc]; simp))
    intro e
    simp only [List.append_eq_nil_iff] at e
    exact h3 e.2.1
end Go.Proofs.YtidfkencjdjkbaaGreatDoor

/-
  The document's own answer, chapter 15, Print: the text of a question; brackets.
-/
namespace Go.Proofs.YtidfkencjdjkbaaGreatDoor
open Go.RowKit Sp
open Go.Lib (decDigits itoa)

/-- how many questions a question has -/
def sizQ : Qu → Nat
  | .none => 0
  | .node _ _ _ _ _ _ x y => 1 + sizQ x + sizQ y
theorem chn_siz : ∀ q : Qu, chnN q ≤ sizQ q
  | .none => by simp [chnN]
  | .node k _ _ _ _ _ x y => by
    have := chn_siz x
    simp only [chnN, sizQ]
    split <;> omega
theorem pik_siz : ∀ q : Qu, pikN q ≤ sizQ q
  | .none => by simp [pikN]
  | .node k _ _ _ _ _ x y => by
    have := pik_siz x
    simp only [pikN, sizQ]
    split <;> omega
/-- levels left -/
abbrev lvl (lv : Int) : Nat := (65 - lv).toNat
/-- what Text answers: a text, which is the question's where it may be said -/
def TxA (b : Bool) (t : By) (z : Nat) (w : World) (e : Ending) (w' : World) : Prop := (∃ s : By, e = .returned (.tuple #[.string (tx s), .bool b]) ∧ (b = true → s = t) ∧ s.length ≤ z) ∧ Below w.heap.size w w'
def TX (q : Qu) : Prop := ∀ (w : World) (B : Nat) (cs : List Value) (lv : Int), B ≤ w.heap.size → QI w B q cs → Say q → sizQ q ≤ 1073741824 → 1 ≤ lv → lv ≤ 100 → Calls Tryz.prog 18 #[.agg cs.toArray, .int .i64 lv] w (TxA (okT q (lvl lv)) (tQ q) (200000000 * sizQ q) w)
set_option maxHeartbeats 1000000 in
set_option maxRecDepth 100000 in
theorem brk43 {q : Qu} (hT : TX q) (w : World) (B : Nat) (cs : List Value) (lv : Int) (hB : B ≤ w.heap.size) (hI : QI w B q cs) (hS : Say q) (hz : sizQ q ≤ 1073741824) (h1 : 1 ≤ lv) (h2 : lv ≤ 99) : Calls Tryz.prog 43 #[.agg cs.toArray, .int .i64 lv] w (TxA (okT q (lvl (lv + 1))) (bkT true (tQ q)) (200000000 * sizQ q + 2) w) := by
  have HI : Hid (QI w B q cs) := hI
  obtain ⟨kd, c, lo, hi, wa, wn, wc, ka, kn, kc, rfl⟩ := hI.six
  obtain ⟨W0, hW0⟩ : ∃ W0, w.alloc (.cells #[.int .i64 kd, .string (tx c), .int .i64 lo, .int .i64 hi, .slice wa wn wc, .slice ka kn kc] 25) = W0 := ⟨_, rfl⟩
  have HB0 : Hid (Below w.heap.size w W0) := hW0 ▸ ba _ _
  have HX0 : Hid (Bx W0 w.heap.size [.int .i64 kd, .string (tx c), .int .i64 lo, .int .i64 hi, .slice wa wn wc, .slice ka kn kc]) := hW0 ▸ Bx.new w [.int .i64 kd, .string (tx c), .int .i64 lo, .int .i64 hi, .slice wa wn wc, .slice ka kn kc] 25 rfl
  have z0 := (HX0.out 0 _ rfl).c
  have z1 := (HX0.out 1 _ rfl).c
  have z2 := (HX0.out 2 _ rfl).c
  have z3 := (HX0.out 3 _ rfl).c
  have z4 := (HX0.out 4 _ rfl).c
  have z5 := (HX0.out 5 _ rfl).c
  obtain ⟨l1, hl1⟩ : ∃ l1, lv + 1 = l1 := ⟨_, rfl⟩
  have hw1 : IntKind.i64.wrap (lv + 1) = l1 := by rw [IntKind.wrap_i64]; omega
  have k := hT W0 B _ l1 (Nat.le_trans hB HB0.out.size) (QI.keep (HB0.out.mono hB) _ HI.out) hS hz (by omega) (by omega)
  have hzz : 200000000 * sizQ q ≤ 214748364800000000 := by omega
  rw [hl1]
  clear hl1 hI
  generalize okT q (lvl l1) = b at *
  generalize 200000000 * sizQ q = z at *
  go_enter Tryz.func43, Tryz.ntmps43
  go_wp2_with fail
  clear hW0
  refine k.mono ?_
  rintro e w1 ⟨⟨s, rfl, hs, hl⟩, hb1⟩
  have HS : Hid (b = true → s = tQ q) := hs
  have a1 := tx_addR sOpen s
  have a2 := tx_addR (sOpen ++ s) sShut
  have l2 : ¬ (9223372036854775807 < (sOpen : By).length + s.length) := by simp only [List.length_cons, List.length_nil]; omega
  have l3 : ¬ (9223372036854775807 < (sOpen ++ s).length + (sShut : By).length) := by simp only [List.length_append, List.length_cons, List.length_nil]; omega
  obtain ⟨S1, hS1⟩ : ∃ S1, sOpen ++ s = S1 := ⟨_, rfl⟩
  rw [hS1] at a1 a2 l3
  obtain ⟨S2, hS2⟩ : ∃ S2, S1 ++ sShut = S2 := ⟨_, rfl⟩
  rw [hS2] at a2
  have HS2 : Hid (sOpen ++ (s ++ sShut) = S2) := by rw [Hid, ← hS2, ← hS1]; rfl
  have hS2l : S2.length ≤ z + 2 := by rw [← hS2, ← hS1]; simp only [List.length_append, List.length_cons, List.length_nil]; omega
  clear k hs hS1 hS2 z0 z1 z2 z3 z4 z5
  go_wp2
  go_ret2
  exact ⟨⟨S2, rfl, fun hb => by rw [← HS2.out, HS.out hb]; rfl, hS2l⟩, bt HB0.out hb1⟩
set_option maxHeartbeats 1000000 in
set_option maxRecDepth 100000 in
theorem near41 {q : Qu} (hT : TX q) (w : World) (B : Nat) (cs : List Value) (lv : Int) (hB : B ≤ w.heap.size) (hI : QI w B q cs) (hS : Say q) (hz : sizQ q ≤ 1073741824) (h1 : 1 ≤ lv) (h2 : lv ≤ 99) : Calls Tryz.prog 41 #[.agg cs.toArray, .int .i64 lv] w (TxA (if isS q = true then okT q (lvl (lv + 1)) else okT q (lvl lv)) (bkT (isS q) (tQ q)) (200000000 * sizQ q + 2) w) := by
  have HI : Hid (QI w B q cs) := hI
  cases q with
  | none => exact hI.elim
  | node kd c' lo' hi' wh n x y =>
  obtain ⟨wv, ka, kn, rfl, hTI, -⟩ := hI
  obtain ⟨wa, wc, rfl, -⟩ := hTI
  obtain ⟨wl, hwl⟩ : ∃ wl, wh.length = wl := ⟨_, rfl⟩
  rw [hwl] at HI ⊢
  obtain ⟨W0, hW0⟩ : ∃ W0, w.alloc (.cells #[.int .i64 kd, .string (tx c'), .int .i64 lo', .int .i64 hi', .slice wa wl wc, .slice ka n kn] 25) = W0 := ⟨_, rfl⟩
  have HB0 : Hid (Below w.heap.size w W0) := hW0 ▸ ba _ _
  have HX0 : Hid (Bx W0 w.heap.size [.int .i64 kd, .string (tx c'), .int .i64 lo', .int .i64 hi', .slice wa wl wc, .slice ka n kn]) := hW0 ▸ Bx.new w [.int .i64 kd, .string (tx c'), .int .i64 lo', .int .i64 hi', .slice wa wl wc, .slice ka n kn] 25 rfl
  have z0 := (HX0.out 0 _ rfl).c
  have z1 := (HX0.out 1 _ rfl).c
  have z2 := (HX0.out 2 _ rfl).c
  have z3 := (HX0.out 3 _ rfl).c
  have z4 := (HX0.out 4 _ rfl).c
  have z5 := (HX0.out 5 _ rfl).c
  clear hwl
  by_cases hs : isS (.node kd c' lo' hi' wh n x y) = true
  · rw [if_pos hs, hs]
    have k := brk43 hT W0 B _ lv (Nat.le_trans hB HB0.out.size) (QI.keep (HB0.out.mono hB) _ HI.out) hS hz h1 h2
    have hk : kd = 4 ∨ kd = 5 := by simpa [isS] using hs
    generalize okT (.node kd c' lo' hi' wh n x y) (lvl (lv + 1)) = b at *
    generalize 200000000 * sizQ (.node kd c' lo' hi' wh n x y) + 2 = z at *
    generalize bkT true (tQ (.node kd c' lo' hi' wh n x y)) = t at *
    clear hs hz hS
    rcases hk with rfl | rfl
    · go_enter Tryz.func41, Tryz.ntmps41
      go_wp2_with fail
      clear hW0
      refine k.mono ?_
      rintro e w1 ⟨⟨s, rfl, hs, hl⟩, hb1⟩
      go_wp2
      go_ret2
      exact ⟨⟨s, rfl, hs, hl⟩, bt HB0.out hb1⟩
    · go_enter Tryz.func41, Tryz.ntmps41
      go_wp2_with fail
      clear hW0
      refine k.mono ?_
      rintro e w1 ⟨⟨s, rfl, hs, hl⟩, hb1⟩
      go_wp2
      go_ret2
      exact ⟨⟨s, rfl, hs, hl⟩, bt HB0.out hb1⟩
  · rw [if_neg hs]
    have hs' : isS (.node kd c' lo' hi' wh n x y) = false := by simpa using hs
    rw [hs']
    have k := hT W0 B _ lv (Nat.le_trans hB HB0.out.size) (QI.keep (HB0.out.mono hB) _ HI.out) hS hz h1 (by omega)
    have hk4 : ¬ kd = 4 := fun e => hs (by simp [isS, e])
    have hk5 : ¬ kd = 5 := fun e => hs (by simp [isS, e])
    have e4 : (kd == 4) = false := by simpa using hk4
    have e5 : (kd == 5) = false := by simpa using hk5
    have HT : Hid (bkT false (tQ (.node kd c' lo' hi' wh n x y)) = tQ (.node kd c' lo' hi' wh n x y)) := rfl
    rw [HT.out]
    generalize okT (.node kd c' lo' hi' wh n x y) (lvl lv) = b at *
    generalize 200000000 * sizQ (.node kd c' lo' hi' wh n x y) = z at *
    generalize tQ (.node kd c' lo' hi' wh n x y) = t at *
    clear hs hs' hz hS HT
    go_enter Tryz.func41, Tryz.ntmps41
    go_wp2_with fail
    clear hW0
    refine k.mono ?_
    rintro e w1 ⟨⟨s, rfl, hs, hl⟩, hb1⟩
    go_wp2
    go_ret2
    exact ⟨⟨s, rfl, hs, by omega⟩, bt HB0.out hb1⟩
set_option maxHeartbeats 1000000 in
set_option maxRecDepth 100000 in
/-- on a level that is too much -/
theorem txt_hi {q : Qu} (w : World) (B : Nat) (cs : List Value) (lv : Int) (hI : QI w B q cs) (h1 : 64 < lv) : Calls Tryz.prog 18 #[.agg cs.toArray, .int .i64 lv] w (TxA (okT q (lvl lv)) (tQ q) (200000000 * sizQ q) w) := by
  have HO : Hid (okT q (lvl lv) = false) := by
    have : lvl lv = 0 := by unfold lvl; omega
    rw [Hid, this, okT_zero]
  rw [HO.out]
  obtain ⟨kd, c, lo, hi, wa, wn, wc, ka, kn, kc, rfl⟩ := hI.six
  clear hI
  go_enter Tryz.func18, Tryz.ntmps18
  go_wp2
  go_ret2
  exact ⟨⟨[], rfl, fun h => (by cases h), by simp⟩, ba _ _⟩
end Go.Proofs.YtidfkencjdjkbaaGreatDoor
