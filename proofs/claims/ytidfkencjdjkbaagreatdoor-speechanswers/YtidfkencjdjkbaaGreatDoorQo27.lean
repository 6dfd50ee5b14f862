import Derived.Test.YtidfkencjdjkbaaGreatDoorQo24
import Derived.Test.YtidfkencjdjkbaaGreatDoorQo26
/-
  PACKAGE speech, Print: what may be said; a question is written, whole.
-/
namespace Go.Proofs.YtidfkencjdjkbaaGreatDoor
open Go.RowKit Sp
open Go.Lib (decDigits itoa)

theorem tsB_ok {t : Tst} (h : tsB t = true) : TOk t := by
  simp [tsB] at h
  exact ⟨h.1.1, by omega, by omega, h.2.1, h.2.2⟩
theorem say_of_ck {w : World} {B : Nat} : ∀ (q : Qu) (cs : List Value), QI w B q cs → ckB q = true → Say q
  | .none, _, h, _ => h.elim
  | .node k c lo hi wh n x y, cs, h, hc => by
    obtain ⟨wv, ka, kc, -, -, -, -, -, -, -, -, hx0, hy0, hk⟩ := h
    rw [ckB] at hc
    cases hs : shpT k with
    | none => rw [hs] at hc; cases hc
    | some s =>
      obtain ⟨s1, s2, s3, s4, s5, s6⟩ := s
      rw [hs] at hc
      simp only [Bool.and_eq_true, decide_eq_true_eq] at hc
      obtain ⟨⟨⟨⟨⟨⟨⟨c1, c2, c3⟩, c4, c5⟩, c6⟩, c7⟩, c8⟩, c9⟩, c10⟩ := hc
      have hT : ∀ t ∈ wh, TOk t := fun t ht => tsB_ok (List.all_eq_true.1 c8 t ht)
      have hX : 1 ≤ n → n ≤ 2 → Say x := fun h1 h2 => by
        obtain ⟨b, o, _, _, ⟨xs, hxq, _⟩, _⟩ := hk h1 h2
        rw [if_pos h1] at c9
        exact say_of_ck x xs hxq c9
      have hY : 2 ≤ n → n ≤ 2 → Say y := fun h1 h2 => by
        obtain ⟨b, o, _, _, _, hyy⟩ := hk (by omega) h2
        obtain ⟨ys, hyq, _⟩ := hyy h1
        rw [if_pos h1] at c10
        exact say_of_ck y ys hyq c10
      unfold shpT at hs
      by_cases k1 : k = 1
      · rw [if_pos k1] at hs; injection hs with hs; simp only [Prod.mk.injEq] at hs; obtain ⟨rfl, rfl, rfl, rfl, rfl, rfl⟩ := hs
        exact .inl ⟨k1, by simpa using c7, by omega, by omega, by omega, ⟨by omega, hT⟩, hx0 (by omega), hy0 (by omega)⟩
      rw [if_neg k1] at hs
      by_cases k2 : k = 2
      · rw [if_pos k2] at hs; injection hs with hs; simp only [Prod.mk.injEq] at hs; obtain ⟨rfl, rfl, rfl, rfl, rfl, rfl⟩ := hs
        exact .inr (.inl ⟨k2, by simpa using c7, ⟨c2, c3⟩, ⟨c4, c5⟩, by omega, ⟨by omega, hT⟩, hx0 (by omega), hy0 (by omega)⟩)
      rw [if_neg k2] at hs
      by_cases k3 : k = 3
      · rw [if_pos k3] at hs; injection hs with hs; simp only [Prod.mk.injEq] at hs; obtain ⟨rfl, rfl, rfl, rfl, rfl, rfl⟩ := hs
        exact .inr (.inr (.inl ⟨k3, by simpa using c7, by omega, by omega, by omega, ⟨by omega, hT⟩, hx0 (by omega), hy0 (by omega)⟩))
      rw [if_neg k3] at hs
      have hnil : (wh.length : Int) ≤ 0 → wh = [] := fun h => List.length_eq_zero_iff.1 (by omega)
      by_cases k4 : k = 4 ∨ k = 5 ∨ k = 7
      · rw [if_pos k4] at hs; injection hs with hs; simp only [Prod.mk.injEq] at hs; obtain ⟨rfl, rfl, rfl, rfl, rfl, rfl⟩ := hs
        exact .inr (.inr (.inr (.inl ⟨k4, by simpa using c7, by omega, by omega, hnil c6, by omega, hX (by omega) (by omega), hY (by omega) (by omega)⟩)))
      rw [if_neg k4] at hs
      by_cases k6 : k = 6
      · rw [if_pos k6] at hs; injection hs with hs; simp only [Prod.mk.injEq] at hs; obtain ⟨rfl, rfl, rfl, rfl, rfl, rfl⟩ := hs
        exact .inr (.inr (.inr (.inr (.inl ⟨k6, by simpa using c7, ⟨c2, c3⟩, by omega, hnil c6, by omega, hX (by omega) (by omega), hy0 (by omega)⟩))))
      rw [if_neg k6] at hs
      by_cases k8 : k = 8
      · rw [if_pos k8] at hs; injection hs with hs; simp only [Prod.mk.injEq] at hs; obtain ⟨rfl, rfl, rfl, rfl, rfl, rfl⟩ := hs
        exact .inr (.inr (.inr (.inr (.inr (.inl ⟨k8, by simpa using c7, by omega, by omega, hnil c6, by omega, hX (by omega) (by omega), hy0 (by omega)⟩)))))
      rw [if_neg k8] at hs
      by_cases k9 : k = 9
      · rw [if_pos k9] at hs; injection hs with hs; simp only [Prod.mk.injEq] at hs; obtain ⟨rfl, rfl, rfl, rfl, rfl, rfl⟩ := hs
        exact .inr (.inr (.inr (.inr (.inr (.inr (.inl ⟨k9, by simpa using c7, ⟨c2, c3⟩, by omega, hnil c6, by omega, hX (by omega) (by omega), hy0 (by omega)⟩))))))
      rw [if_neg k9] at hs
      by_cases k10 : k = 10
      · rw [if_pos k10] at hs; injection hs with hs; simp only [Prod.mk.injEq] at hs; obtain ⟨rfl, rfl, rfl, rfl, rfl, rfl⟩ := hs
        exact .inr (.inr (.inr (.inr (.inr (.inr (.inr ⟨k10, by simpa using c7, ⟨c2, c3⟩, ⟨c4, c5⟩, hnil c6, by omega, hX (by omega) (by omega), hy0 (by omega)⟩))))))
      rw [if_neg k10] at hs
      cases hs
theorem qtx1 (l : List By) (c : By) (lo hi : Int) (wh : List Tst) (n : Nat) (x y : Qu) : l ++ qtx (.node 1 c lo hi wh n x y) = l ++ [wCount] ++ chx wh := by simp [qtx, chks, chx, Ck.txt]
theorem qtx2 (l : List By) (c : By) (lo hi : Int) (wh : List Tst) (n : Nat) (x y : Qu) : l ++ qtx (.node 2 c lo hi wh n x y) = l ++ [wSum, c, wIn, itoa lo ++ (sDots ++ itoa hi)] ++ chx wh := by simp [qtx, chks, chx, Ck.txt]
theorem qtx3 (l : List By) (c : By) (lo hi : Int) (wh : List Tst) (n : Nat) (x y : Qu) : l ++ qtx (.node 3 c lo hi wh n x y) = l ++ [wBins, c] ++ chx wh := by simp [qtx, chks, chx, Ck.txt]
theorem qtx4 (l : List By) (c : By) (lo hi : Int) (n : Nat) (x y : Qu) : l ++ qtx (.node 4 c lo hi [] n x y) = l ++ qtx x ++ [sPlus] ++ wtx (isS y) y ++ chx [] := by simp [qtx, wtx, chks, chx, chkW, Ck.txt]
theorem qtx5 (l : List By) (c : By) (lo hi : Int) (n : Nat) (x y : Qu) : l ++ qtx (.node 5 c lo hi [] n x y) = l ++ qtx x ++ [sMinus] ++ wtx (isS y) y ++ chx [] := by simp [qtx, wtx, chks, chx, chkW, Ck.txt]
theorem qtx6 (l : List By) (c : By) (lo hi : Int) (n : Nat) (x y : Qu) : l ++ qtx (.node 6 c lo hi [] n x y) = l ++ [itoa lo, sStar] ++ wtx (isS x) x ++ chx [] := by simp [qtx, wtx, chks, chx, chkW, Ck.txt]
theorem qtx7 (l : List By) (c : By) (lo hi : Int) (n : Nat) (x y : Qu) : l ++ qtx (.node 7 c lo hi [] n x y) = l ++ [wJoin, sOpen] ++ qtx x ++ [sComma] ++ qtx y ++ [sShut] ++ chx [] := by simp [qtx, chks, chx, chkW, Ck.txt]
theorem qtx8 (l : List By) (c : By) (lo hi : Int) (n : Nat) (x y : Qu) : l ++ qtx (.node 8 c lo hi [] n x y) = l ++ [wTotal] ++ wtx true x ++ chx [] := by simp [qtx, wtx, chks, chx, chkW, Ck.txt]
theorem qtx9 (l : List By) (c : By) (lo hi : Int) (n : Nat) (x y : Qu) (b : Bool) (hb : (isS x || isT x) = b) : l ++ qtx (.node 9 c lo hi [] n x y) = l ++ wtx b x ++ [sLeft, itoa lo, sRight] ++ chx [] := by subst hb; simp [qtx, wtx, chks, chx, chkW, Ck.txt]
theorem qtx10 (l : List By) (c : By) (lo hi : Int) (n : Nat) (x y : Qu) : l ++ qtx (.node 10 c lo hi [] n x y) = l ++ [wClamp, itoa lo ++ (sDots ++ itoa hi)] ++ wtx true x ++ chx [] := by simp [qtx, wtx, chks, chx, chkW, Ck.txt]
/-- A QUESTION IS WRITTEN -/
theorem wq_any {B R : Nat} (h5 : 5 ≤ B) : ∀ q : Qu, Say q → QW B R q
  | .none, h => h.elim
  | .node k c lo hi wh n x y, h => by
    intro w l cs hw hI hG hpt
    rcases h with ⟨rfl, rfl, rfl, rfl, rfl, hwh, rfl, rfl⟩ | ⟨rfl, hc, hlo, hhi, rfl, hwh, rfl, rfl⟩ | ⟨rfl, hc, rfl, rfl, rfl, hwh, rfl, rfl⟩ | ⟨hk, rfl, rfl, rfl, rfl, rfl, hx, hy⟩ | ⟨rfl, rfl, hlo, rfl, rfl, rfl, hx, rfl⟩ | ⟨rfl, rfl, rfl, rfl, rfl, rfl, hx, rfl⟩ | ⟨rfl, rfl, hlo, rfl, rfl, rfl, hx, rfl⟩ | ⟨rfl, rfl, hlo, hhi, rfl, rfl, hx, rfl⟩
    · rw [qtx1]
      exact qw1 h5 _ _ _ wh _ _ w l cs hw hI hwh.2 hG hpt
    · rw [qtx2]
      exact qw2 h5 _ _ _ wh _ _ _ rfl hc w l cs hw hI hwh.2 hG hpt
    · rw [qtx3]
      exact qw3 h5 _ _ _ wh _ _ hc w l cs hw hI hwh.2 hG hpt
    · have hX := wq_any (R := R) h5 x hx
      have hY := wq_any (R := R) h5 y hy
      rcases hk with rfl | rfl | rfl
      · rw [qtx4]
        exact qw4 h5 _ _ _ [] x y hX hY w l cs hw hI (by simp) hG hpt
      · rw [qtx5]
        exact qw5 h5 _ _ _ [] x y hX hY w l cs hw hI (by simp) hG hpt
      · rw [qtx7]
        exact qw7 h5 _ _ _ [] x y hX hY w l cs hw hI (by simp) hG hpt
    · rw [qtx6]
      exact qw6 h5 _ _ _ [] x _ _ rfl (wq_any (R := R) h5 x hx) w l cs hw hI (by simp) hG hpt
    · rw [qtx8]
      exact qw8 h5 _ _ _ [] x _ (wq_any (R := R) h5 x hx) w l cs hw hI (by simp) hG hpt
    · have hX := wq_any (R := R) h5 x hx
      cases hS : isS x with
      | true =>
        rw [qtx9 _ _ _ _ _ _ _ true (by rw [hS]; rfl)]
        exact qw9t h5 _ _ _ [] x _ _ rfl hX hS w l cs hw hI (by simp) hG hpt
      | false =>
        rw [qtx9 _ _ _ _ _ _ _ (isT x) (by rw [hS]; rfl)]
        exact qw9f h5 _ _ _ [] x _ _ rfl hX hS _ rfl w l cs hw hI (by simp) hG hpt
    · rw [qtx10]
      exact qw10 h5 _ _ _ [] x _ _ rfl (wq_any (R := R) h5 x hx) w l cs hw hI (by simp) hG hpt
theorem chks_ne {q : Qu} (h : Say q) : chks q ≠ [] := by
  cases q with
  | none => exact h.elim
  | node k c lo hi wh n x y =>
    unfold chks
    repeat' split
    all_goals simp [brcC]
theorem txtT_qtx (q : Qu) : txtT q = wrs [] (qtx q) := by rw [txtT, wrt_wrs]; rfl
theorem txtT_ne {q : Qu} (h : Say q) : txtT q ≠ [] := by
  have h1 := chks_ne h
  have h2 := wf_chks h
  rw [txtT]
  cases hc : chks q with
  | nil => exact absurd hc h1
  | cons a r =>
    rw [wrt]
    have h3 := txt_ne (h2 a (by rw [hc]; simp))
    intro e
    simp only [List.append_eq_nil_iff] at e
    exact h3 e.2.1
end Go.Proofs.YtidfkencjdjkbaaGreatDoor

/-
  PACKAGE speech, Print: a text, whole; what Print calls.
-/
namespace Go.Proofs.YtidfkencjdjkbaaGreatDoor
open Go.RowKit Sp
open Go.Lib (decDigits itoa)

set_option maxHeartbeats 1000000 in
set_option maxRecDepth 100000 in
theorem string_any {w : World} {B R : Nat} {l last : By} (h : Wtr w B R l last) (h0 : l ≠ []) : Calls Tryz.prog 36 #[.pointer (some ⟨R, 0, none⟩)] w fun e w' => e = .returned (.string (tx l)) ∧ Below B w w' := by
  obtain ⟨p, hB, v, hbk, hown, hne⟩ := h.one
  have hl0 : l.length ≠ 0 := by simpa using h0
  obtain ⟨g, cap, cur, rfl, hbg, hg, hnc, hcm, hcs, htake⟩ : ∃ g cap cur, v = .slice (some ⟨g, 0, none⟩) l.length cap ∧ B ≤ g ∧ w.heap[g]? = some (.cells cur 5 (0, 0)) ∧ l.length ≤ cap ∧ cap ≤ maxLen ∧ cur.size = cap * 1 ∧ cur.toList.take (l.length * 1) = Lib.byteCells l := by
    rcases hown.2 with ⟨_, hz⟩ | ⟨g, cap, cur, hv, r⟩
    · exact absurd hz hl0
    · exact ⟨g, cap, cur, hv, r⟩
  have c1 : w.drew.cell? ⟨R, 1, none⟩ = some (.slice (some ⟨g, 0, none⟩) l.length cap) := by
    have : w.drew.heap[R]? = some (.cells #[p, .slice (some ⟨g, 0, none⟩) l.length cap, .string (tx last)] 87 (0, 0)) := hbk
    rw [Lib.cell_of_heap this]; rfl
  have hSD : (Builtin.unsafeSliceData_ #[83] 120 #[.slice (some ⟨g, 0, none⟩) l.length cap]).run Tryz.prog w.drew = .ok (.pointer (some ⟨g, 0, none⟩)) w.drew :=
    Lib.run_unsafeSliceData_row _ _ _ _ _ _ (by omega)
  have hUS : (Builtin.unsafeString_ #[120, 3] 9 #[.pointer (some ⟨g, 0, none⟩), .int .i64 l.length]).run Tryz.prog w.drew = .ok (.string ⟨l.toArray⟩) (w.drew.freeze ⟨g, 0, none⟩ l.length) := by
    refine Lib.run_unsafeString_row w.drew 120 3 9 5 Tryz.underlying120 (by kernel_rfl) g cur.size (by have hg' : w.drew.heap[g]? = some (.cells cur 5 (0, 0)) := hg; simp [World.shape?, hg']) l h0 (by omega) (by unfold maxLen at hcm; omega) ?_
    intro j x hx
    have := hown.cells (g := g) rfl j (.int .u8 x.toNat) (by simp [Lib.byteCells, hx])
    exact this
  go_enter Tryz.func36, Tryz.ntmps36
  go_wp2
  go_region
  all_goals (go_wp2; go_ret; exact ⟨rfl, Lib.below_freeze (Below.drew (Below.refl B w)) (p := ⟨g, 0, none⟩) hbg _⟩)
theorem TI.mono {w : World} {B B' : Nat} {l : List Tst} {v : Value} (h : TI w B l v) (hB : B ≤ B') : TI w B' l v := by
  obtain ⟨a, c, h1, h2, h3, h4, h5⟩ := h
  refine ⟨a, c, h1, h2, h3, h4, fun hne => ?_⟩
  obtain ⟨b, o, e1, e2, e3⟩ := h5 hne
  exact ⟨b, o, e1, Nat.lt_of_lt_of_le e2 hB, e3⟩
theorem QI.mono {w : World} {B B' : Nat} (hB : B ≤ B') : ∀ (q : Qu) {cs : List Value}, QI w B q cs → QI w B' q cs
  | .none, _, h => h
  | .node k c l h' wh n x y, cs, h => by
    obtain ⟨wv, ka, kc, h1, h2, h3, h4, h5, h6, h7, h8, h9, h10, h11⟩ := h
    refine ⟨wv, ka, kc, h1, h2.mono hB, h3, h4, h5, h6, h7, h8, h9, h10, fun n1 n2 => ?_⟩
    obtain ⟨b, o, e1, e2, ⟨xs, e3, e4⟩, e5⟩ := h11 n1 n2
    refine ⟨b, o, e1, Nat.lt_of_lt_of_le e2 hB, ⟨xs, QI.mono hB x e3, e4⟩, fun n3 => ?_⟩
    obtain ⟨ys, e6, e7⟩ := e5 n3
    exact ⟨ys, QI.mono hB y e6, e7⟩
theorem PT.mono {B B' : Nat} {w : World} (h : PT B w) (hb : B ≤ B') : PT B' w := fun w' k => h w' (k.mono hb)
def WrP (w : World) (q : Qu) (e : Ending) (w' : World) : Prop := (if (txtT q).length ≤ 65536 then e = .returned (.string (tx (txtT q))) else e = .panicked (chn 4 0)) ∧ Below w.heap.size w w'
set_option maxHeartbeats 1000000 in
set_option maxRecDepth 100000 in
theorem written_any (q : Qu) (hq : Say q) (w : World) (B : Nat) (cs : List Value) (hB : B ≤ w.heap.size) (h5 : 5 ≤ B) (hI : QI w B q cs) (hG : Glo w) (hpt : PT B w) : Calls Tryz.prog 15 #[.agg cs.toArray] w (WrP w q) := by
  have HI : Hid (QI w w.heap.size q cs) := QI.mono hB q hI
  have HG : Hid (Glo w) := hG
  have HP : Hid (PT w.heap.size w) := hpt.mono hB
  have HQ : Hid (Say q) := hq
  have h5' : 5 ≤ w.heap.size := Nat.le_trans h5 hB
  obtain ⟨k, c, lo, hi, wa, wn, wc, ka, kn, kc, rfl⟩ := hI.six
  obtain ⟨W1, hW1⟩ : ∃ W1, (w.alloc (.cells #[.int .i64 k, .string (tx c), .int .i64 lo, .int .i64 hi, .slice wa wn wc, .slice ka kn kc] 25)).alloc (.cells #[.pointer none, .slice none 0 0, .string ⟨#[]⟩] 87) = W1 := ⟨_, rfl⟩
  have hb0 : Below w.heap.size w W1 := hW1 ▸ bal (ba _ _) _
  have HX : Hid (Kbx W1 w.heap.size #[.int .i64 k, .string (tx c), .int .i64 lo, .int .i64 hi, .slice wa wn wc, .slice ka kn kc] 25) := hW1 ▸ (Kbx.new w _ _).at (ba _ _)
  have HK : Hid (Kbx W1 (w.heap.size + 1) #[.pointer none, .slice none 0 0, .string ⟨#[]⟩] 87) := by
    have e : (w.alloc (.cells #[.int .i64 k, .string (tx c), .int .i64 lo, .int .i64 hi, .slice wa wn wc, .slice ka kn kc] 25)).heap.size = w.heap.size + 1 := by simp
    rw [← hW1, ← e]
    exact Kbx.new _ _ _
  have HW : Hid (Wg w.heap.size (w.heap.size + 1) [] W1) := ⟨.inl ⟨Nat.le_succ _, _, HK.out, ⟨rfl, .inl ⟨rfl, rfl⟩⟩, by simp [Value.ownBlock]⟩, by simp [wrs]⟩
  have z0 := HX.out.c 0 _ rfl
  have z1 := HX.out.c 1 _ rfl
  have z2 := HX.out.c 2 _ rfl
  have z3 := HX.out.c 3 _ rfl
  have z4 := HX.out.c 4 _ rfl
  have z5 := HX.out.c 5 _ rfl
  have HBL : Hid (Below w.heap.size w W1) := hb0
  have k1 := wq_any (B := w.heap.size) (R := w.heap.size + 1) h5' q hq W1 [] _ HW.out (QI.keep hb0 q HI.out) (HG.out.at hb0) (HP.out.on hb0)
  rw [List.nil_append] at k1
  have HT : Hid (txtT q = wrs [] (qtx q)) := txtT_qtx q
  have HN : Hid (txtT q ≠ []) := txtT_ne hq
  clear hq hI hG hpt hb0
  go_enter Tryz.func15, Tryz.ntmps15
  go_wp2_with fail
  clear hW1
  refine k1.mono ?_
  rintro e w2 (⟨rfl, hw2, hk2⟩ | ⟨rfl, hn2, hb2⟩)
  · have ks := string_any hw2.t (by rw [← HT.out]; exact HN.out)
    have HLE : Hid ((txtT q).length ≤ 65536) := by rw [Hid, HT.out]; exact hw2.n
    have HB2 : Hid (Below w.heap.size w w2) := HBL.out.trans hk2.b
    rw [← HT.out] at ks
    clear hw2 hk2 k1
    go_wp2_with fail
    refine ks.mono ?_
    rintro e w3 ⟨rfl, hb3⟩
    go_wp2
    go_ret
    exact ⟨by rw [if_pos HLE.out]; rfl, HB2.out.trans hb3⟩
  · rw [← HT.out] at hn2
    go_wp2
    exact ⟨rfl, by rw [if_neg hn2], HBL.out.trans hb2⟩
set_option maxRecDepth 100000 in
set_option maxHeartbeats 1000000 in
theorem pr1 {Q : Exit → Act → World → Prop} (hQp : ∀ c a d v w, Q (.panic c) (Act.put a d v) w → Q (.panic c) a w) (t1 t2 t3 t4 t5 t6 t7 t8 t9 t10 t11 t12 t13 t14 t15 t16 t17 t18 t19 : Value) (A : World) (X : Nat) (k : Int) (c : By) (lo hi : Int) (wa : Option Addr) (wn wc : Nat) (ka : Option Addr) (kn kc : Nat) (r : Bool)
    (h0 : ∀ W : World, Below A.heap.size A W → W.cell? ⟨X, 0, none⟩ = some (.int .i64 k))
    (h1 : ∀ W : World, Below A.heap.size A W → W.cell? ⟨X, 1, none⟩ = some (.string (tx c)))
    (h2 : ∀ W : World, Below A.heap.size A W → W.cell? ⟨X, 2, none⟩ = some (.int .i64 lo))
    (h3 : ∀ W : World, Below A.heap.size A W → W.cell? ⟨X, 3, none⟩ = some (.int .i64 hi))
    (h4 : ∀ W : World, Below A.heap.size A W → W.cell? ⟨X, 4, none⟩ = some (.slice wa wn wc))
    (h5 : ∀ W : World, Below A.heap.size A W → W.cell? ⟨X, 5, none⟩ = some (.slice ka kn kc))
    (hN : ∀ W : World, Below A.heap.size A W → Calls Tryz.prog 13 #[] W fun e W' => ∃ b, e = .returned (.map (some b)) ∧ Wds W' b ∧ W.heap.size ≤ b ∧ b < W'.heap.size ∧ Below W.heap.size W W')
    (hC : ∀ W : World, ∀ b : Nat, Below A.heap.size A W → Wds W b → Calls Tryz.prog 14 #[.map (some b), .agg #[.int .i64 k, .string (tx c), .int .i64 lo, .int .i64 hi, .slice wa wn wc, .slice ka kn kc]] W (CkP W r))
    (hEnd : (r = true → ∀ (b : Nat) (W : World), Below A.heap.size A W → Q .normal { tmps := #[.pointer (some ⟨X, 0, none⟩), t1, t2, t3, t4, .map (some b), .agg #[.int .i64 k, .string (tx c), .int .i64 lo, .int .i64 hi, .slice wa wn wc, .slice ka kn kc], .tuple #[], t8, t9, t10, t11, t12, t13, t14, t15, t16, t17, t18, t19], defers := [] } W) ∧ (r = false → ∀ (a : Act) (W : World), a.defers = [] → Below A.heap.size A W → Q (.panic (chn 2 0)) a W)) :
    (Code.region 1 #[{ dst := some 5, op := Go.Op.call { callee := Go.Callee.value (Go.Operand.func 13), args := #[], argTypes := #[] }, type := 47, pos := "speech.go:9", after := #[], guard := none }, { dst := some 6, op := Go.Op.load 25 (Go.Operand.tmp 0), type := 25, pos := "speech.go:9", after := #[], guard := none }, { dst := some 7, op := Go.Op.call { callee := Go.Callee.value (Go.Operand.func 14), args := #[Go.Operand.tmp 5, Go.Operand.tmp 6], argTypes := #[47, 25] }, type := 0, pos := "speech.go:9", after := #[{ on := 0, ground := Go.Ground.data }, { on := 1, ground := Go.Ground.data }, { on := 0, ground := Go.Ground.chain }], guard := none }] true).wp Tryz.prog Q { tmps := #[.pointer (some ⟨X, 0, none⟩), t1, t2, t3, t4, t5, t6, t7, t8, t9, t10, t11, t12, t13, t14, t15, t16, t17, t18, t19], defers := [] } A := by
  have HEND : Hid ((r = true → ∀ (b : Nat) (W : World), Below A.heap.size A W → Q .normal { tmps := #[.pointer (some ⟨X, 0, none⟩), t1, t2, t3, t4, .map (some b), .agg #[.int .i64 k, .string (tx c), .int .i64 lo, .int .i64 hi, .slice wa wn wc, .slice ka kn kc], .tuple #[], t8, t9, t10, t11, t12, t13, t14, t15, t16, t17, t18, t19], defers := [] } W) ∧ (r = false → ∀ (a : Act) (W : World), a.defers = [] → Below A.heap.size A W → Q (.panic (chn 2 0)) a W)) := hEnd
  have H_h0 : Hid (∀ W : World, Below A.heap.size A W → W.cell? ⟨X, 0, none⟩ = some (.int .i64 k)) := h0
  have H_h1 : Hid (∀ W : World, Below A.heap.size A W → W.cell? ⟨X, 1, none⟩ = some (.string (tx c))) := h1
  have H_h2 : Hid (∀ W : World, Below A.heap.size A W → W.cell? ⟨X, 2, none⟩ = some (.int .i64 lo)) := h2
  have H_h3 : Hid (∀ W : World, Below A.heap.size A W → W.cell? ⟨X, 3, none⟩ = some (.int .i64 hi)) := h3
  have H_h4 : Hid (∀ W : World, Below A.heap.size A W → W.cell? ⟨X, 4, none⟩ = some (.slice wa wn wc)) := h4
  have H_h5 : Hid (∀ W : World, Below A.heap.size A W → W.cell? ⟨X, 5, none⟩ = some (.slice ka kn kc)) := h5
  have H_hN : Hid (∀ W : World, Below A.heap.size A W → Calls Tryz.prog 13 #[] W fun e W' => ∃ b, e = .returned (.map (some b)) ∧ Wds W' b ∧ W.heap.size ≤ b ∧ b < W'.heap.size ∧ Below W.heap.size W W') := hN
  have H_hC : Hid (∀ W : World, ∀ b : Nat, Below A.heap.size A W → Wds W b → Calls Tryz.prog 14 #[.map (some b), .agg #[.int .i64 k, .string (tx c), .int .i64 lo, .int .i64 hi, .slice wa wn wc, .slice ka kn kc]] W (CkP W r)) := hC
  have G0 : Hid (Below A.heap.size A A.drew) := (Below.refl _ _).drew
  clear hEnd h0 h1 h2 h3 h4 h5 hN hC
  refine wp_region_any (by kernel_rfl) ?_
  change wpAny _ _ _ _ _ _ _ (World.drew _)
  obtain ⟨V0, hV0⟩ : ∃ V0, A.drew = V0 := ⟨_, rfl⟩
  rw [hV0] at G0 ⊢
  clear hV0
  refine wpAny_of_J (S := fun W => Below A.heap.size A W) (J := fun _ => true) _ _ _ _ ?_
  refine wpAnyJ_take (i := 1) (oi := { dst := some 6, op := Go.Op.load 25 (Go.Operand.tmp 0), type := 25, pos := "speech.go:9", after := #[], guard := none }) (v := .agg #[.int .i64 k, .string (tx c), .int .i64 lo, .int .i64 hi, .slice wa wn wc, .slice ka kn kc]) rfl rfl (waits_of (by kernel_rfl)) (by kernel_rfl) (by kernel_rfl) (by kernel_rfl) (fun _ _ _ h => hQp _ _ _ _ _ h) (Or.inl ⟨by rfl, fun W hS => ?_⟩) G0.out ?_
  · have z0 := H_h0.out W hS; have z1 := H_h1.out W hS; have z2 := H_h2.out W hS; have z3 := H_h3.out W hS; have z4 := H_h4.out W hS; have z5 := H_h5.out W hS; go_simp
  simp only [Act.put, List.setIfInBounds_toArray, List.set_cons_zero, List.set_cons_succ]
  refine wpAnyJ_ready (rs := [0]) (by kernel_rfl) (by simp) ?_
  refine AllJ.cons (o := { dst := some 5, op := Go.Op.call { callee := Go.Callee.value (Go.Operand.func 13), args := #[], argTypes := #[] }, type := 47, pos := "speech.go:9", after := #[], guard := none }) rfl (fun K hK => ?_) AllJ.nil
  have kk := H_hN.out V0 G0.out
  go_simp
  go_at_call 13
  refine kk.mono ?_
  rintro e1 W1 ⟨b, rfl, hwd, hb1, hb2, hW⟩
  have G1 : Hid (Below A.heap.size A W1) := bt G0.out hW
  clear hW kk
  refine hK.out _ _ (fun _ => G1.out) ?_
  clear hK K
  try simp only [Act.put, List.setIfInBounds_toArray, List.set_cons_zero, List.set_cons_succ]
  refine wpAnyJ_ready (rs := [2]) (by kernel_rfl) (by simp) ?_
  refine AllJ.cons (o := { dst := some 7, op := Go.Op.call { callee := Go.Callee.value (Go.Operand.func 14), args := #[Go.Operand.tmp 5, Go.Operand.tmp 6], argTypes := #[47, 25] }, type := 0, pos := "speech.go:9", after := #[{ on := 0, ground := Go.Ground.data }, { on := 1, ground := Go.Ground.data }, { on := 0, ground := Go.Ground.chain }], guard := none }) rfl (fun K hK => ?_) AllJ.nil
  have kk := H_hC.out W1 b G1.out hwd
  go_simp
  go_at_call 14
  refine kk.mono ?_
  rintro e1 W9 ⟨he, hb9⟩
  have G9 : Below A.heap.size A W9 := bt G1.out hb9
  cases r with
  | true =>
    obtain rfl : e1 = .returned (.tuple #[]) := he
    refine hK.out _ _ (fun _ => G9) ?_
    clear hK K kk
    try simp only [Act.put, List.setIfInBounds_toArray, List.set_cons_zero, List.set_cons_succ]
    exact wpAnyJ_done (by kernel_rfl) (HEND.out.1 rfl b W9 G9) _
  | false =>
    obtain rfl : e1 = .panicked (chn 2 0) := he
    exact HEND.out.2 rfl _ W9 rfl G9
end Go.Proofs.YtidfkencjdjkbaaGreatDoor

/-
  PACKAGE speech: Print.
-/
namespace Go.Proofs.YtidfkencjdjkbaaGreatDoor
open Go.RowKit Sp

/-- is it too much for Read? -/
def mchB (t : By) : Bool := match readT t with
  | .error (c, _) => decide (c = 4)
  | .ok _ => false
/-- PRINT -/
def prtT (q : Qu) : Except Int By := if ckB q then (if (txtT q).length ≤ 65536 then (if mchB (txtT q) then .error 4 else .ok (txtT q)) else .error 4) else .error 2
def P1P (w : World) (q : Qu) (e : Ending) (w' : World) : Prop := (match prtT q with | .ok t => e = .returned (.string (tx t)) | .error c => e = .panicked (chn c 0)) ∧ Below w.heap.size w w'
/-- what Read tells of a fault -/
theorem cap_err {t : By} {w w' : World} {e : Ending} (h : CaP t w e w') : ∃ (k : Int) (c : By) (lo hi : Int) (wa : Option Addr) (wn wc : Nat) (ka : Option Addr) (kn kc : Nat) (er at' : Int), e = .returned (.tuple #[.agg #[.int .i64 k, .string (tx c), .int .i64 lo, .int .i64 hi, .slice wa wn wc, .slice ka kn kc], .agg #[.int .i64 er, .int .i64 at']]) ∧ decide (er = 4) = mchB t := by
  obtain ⟨h, _⟩ := h
  unfold mchB
  cases hr : readT t with
  | ok a =>
    rw [hr] at h
    obtain ⟨cs, rfl, hq⟩ := h
    obtain ⟨k, c, l, hh, a4, n4, c4, a5, n5, c5, rfl⟩ := hq.six
    exact ⟨_, _, _, _, _, _, _, _, _, _, 0, 0, rfl, rfl⟩
  | error x =>
    obtain ⟨c, x⟩ := x
    rw [hr] at h
    exact ⟨0, [], 0, 0, none, 0, 0, none, 0, 0, c, x, h, rfl⟩
theorem prt_ck {q : Qu} (h : ckB q = false) : prtT q = .error 2 := by simp [prtT, h]
theorem prt_long {q : Qu} (h : ckB q = true) (h2 : ¬ (txtT q).length ≤ 65536) : prtT q = .error 4 := by simp [prtT, h, h2]
theorem prt_much {q : Qu} (h : ckB q = true) (h2 : (txtT q).length ≤ 65536) (h3 : mchB (txtT q) = true) : prtT q = .error 4 := by simp [prtT, h, h2, h3]
theorem prt_ok {q : Qu} (h : ckB q = true) (h2 : (txtT q).length ≤ 65536) (h3 : mchB (txtT q) = false) : prtT q = .ok (txtT q) := by simp [prtT, h, h2, h3]
set_option maxHeartbeats 2000000 in
set_option maxRecDepth 100000 in
theorem print1_any (q : Qu) (w : World) (B X : Nat) (cs : List Value) (hB : B ≤ w.heap.size) (h5 : 5 ≤ B) (hI : QI w B q cs) (hX : Bx w X cs) (hG : Glo w) (hpt : PT B w) : Calls Tryz.prog 12 #[.pointer (some ⟨X, 0, none⟩)] w (P1P w q) := by
  have HI : Hid (QI w B q cs) := hI
  have HG : Hid (Glo w) := hG
  have HP : Hid (PT B w) := hpt
  obtain ⟨k, c, lo, hi, wa, wn, wc, ka, kn, kc, rfl⟩ := hI.six
  have HX : Hid (Bx w X [.int .i64 k, .string (tx c), .int .i64 lo, .int .i64 hi, .slice wa wn wc, .slice ka kn kc]) := hX
  obtain ⟨r, hr⟩ : ∃ r, ckB q = r := ⟨_, rfl⟩
  have HR : Hid (ckB q = r) := hr
  clear hI hG hpt hX hr
  go_enter Tryz.func12, Tryz.ntmps12
  go_wp2_with fail
  refine pr1 (fun _ _ d _ _ h => by cases d <;> exact h) _ _ _ _ _ _ _ _ _ _ _ _ _ _ _ _ _ _ _ w X k c lo hi wa wn wc ka kn kc r
    (fun W hW => ((HX.out.at hW) 0 _ rfl).c) (fun W hW => ((HX.out.at hW) 1 _ rfl).c) (fun W hW => ((HX.out.at hW) 2 _ rfl).c) (fun W hW => ((HX.out.at hW) 3 _ rfl).c) (fun W hW => ((HX.out.at hW) 4 _ rfl).c) (fun W hW => ((HX.out.at hW) 5 _ rfl).c)
    (fun W _ => known_any W) (fun W b hW hwd => HR.out ▸ check_any q W B _ (Nat.le_trans hB hW.size) (QI.keep (hW.mono hB) q HI.out) hwd) ⟨?_, ?_⟩
  · rintro rfl b w1 hb1
    have HB1 : Hid (Below w.heap.size w w1) := hb1
    have HX1 : Hid (Bx w1 X [.int .i64 k, .string (tx c), .int .i64 lo, .int .i64 hi, .slice wa wn wc, .slice ka kn kc]) := HX.out.at hb1
    have z0 := (HX1.out 0 _ rfl).c
    have z1 := (HX1.out 1 _ rfl).c
    have z2 := (HX1.out 2 _ rfl).c
    have z3 := (HX1.out 3 _ rfl).c
    have z4 := (HX1.out 4 _ rfl).c
    have z5 := (HX1.out 5 _ rfl).c
    have HS : Hid (Say q) := say_of_ck q _ HI.out HR.out
    have k1 := written_any q HS.out w1 B _ (Nat.le_trans hB hb1.size) h5 (QI.keep (hb1.mono hB) q HI.out) (HG.out.at hb1) (HP.out.on (hb1.mono hB))
    clear hb1
    go_wp2_with fail
    refine k1.mono ?_
    rintro e w2 ⟨he, hb2⟩
    have HB2 : Hid (Below w.heap.size w w2) := bt HB1.out hb2
    clear hb2 k1
    by_cases hle : (txtT q).length ≤ 65536
    · rw [if_pos hle] at he
      subst he
      have HLE : Hid ((txtT q).length ≤ 65536) := hle
      obtain ⟨t, ht⟩ : ∃ t, txtT q = t := ⟨_, rfl⟩
      have HT : Hid (txtT q = t) := ht
      have kr := read_any t (by rw [← ht]; omega) w2 (HG.out.at HB2.out)
      rw [ht]
      clear hle ht z0 z1 z2 z3 z4 z5
      go_wp2_with fail
      refine kr.mono ?_
      rintro e w3 hcap
      have HB3 : Hid (Below w.heap.size w w3) := bt HB2.out hcap.2
      obtain ⟨ak, ac, al, ah, awa, awn, awc, aka, akn, akc, er, at', rfl, hm⟩ := cap_err hcap
      have HM : Hid (decide (er = 4) = mchB t) := hm
      clear hcap kr hm
      obtain ⟨W4, hW4⟩ : ∃ W4, (w3.alloc (.cells #[.int .i64 ak, .string (tx ac), .int .i64 al, .int .i64 ah, .slice awa awn awc, .slice aka akn akc] 25)).alloc (.cells #[.int .i64 er, .int .i64 at'] 36) = W4 := ⟨_, rfl⟩
      have HB4 : Hid (Below w.heap.size w W4) := hW4 ▸ bal (bal HB3.out _) _
      have HF : Hid (Bx W4 (w3.heap.size + 1) [.int .i64 er, .int .i64 at']) := hW4 ▸ Bx.new (w3.alloc (.cells #[.int .i64 ak, .string (tx ac), .int .i64 al, .int .i64 ah, .slice awa awn awc, .slice aka akn akc] 25)) [.int .i64 er, .int .i64 at'] 36 (by simp)
      have f0 := (HF.out 0 _ rfl).c
      by_cases he4 : er = 4
      · subst he4
        have HP4 : Hid (prtT q = .error 4) := prt_much HR.out HLE.out (by rw [HT.out, ← HM.out]; rfl)
        have km := must_no 4 0 W4
        go_wp2_with fail
        clear hW4
        refine km.mono ?_
        rintro e w5 ⟨rfl, rfl⟩
        go_wp2
        exact ⟨rfl, by rw [HP4.out], HB4.out⟩
      · have HP4 : Hid (prtT q = .ok t) := by rw [Hid, prt_ok HR.out HLE.out (by rw [HT.out, ← HM.out]; simpa using he4), HT.out]
        have d4 : (er == 4) = false := by simpa using he4
        have d5 : (er != 4) = true := by simpa using he4
        have km := must_ok 4 0 W4
        go_wp2_with fail
        clear hW4
        refine km.mono ?_
        rintro e w5 ⟨rfl, rfl⟩
        go_wp2
        go_ret
        exact ⟨by rw [HP4.out]; rfl, HB4.out⟩
    · rw [if_neg hle] at he
      subst he
      have HP4 : Hid (prtT q = .error 4) := prt_long HR.out hle
      clear hle
      go_wp2
      exact ⟨rfl, by rw [HP4.out], HB2.out⟩
  · rintro rfl a W hd hb
    exact ⟨hd, by rw [P1P, prt_ck HR.out]; exact ⟨rfl, hb⟩⟩
end Go.Proofs.YtidfkencjdjkbaaGreatDoor
