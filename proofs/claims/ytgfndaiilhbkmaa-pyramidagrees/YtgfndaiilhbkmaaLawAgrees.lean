import Derived.Test.YtgfndaiilhbkmaaRag
import Derived.Test.YtgfndaiilhbkmaaCmp
namespace Go.Proofs.Ytgfndaiilhbkmaa
open Go.RowKit Go.Proofs.Ytgfndaiilhbkmaa.Ds

/-- what two functions answer alike: nothing and what is wrong, or the same numbers in new memory -/
def TwoA (V : World) (s t : Value) : Prop := (s = .slice none 0 0 ∧ t = .slice none 0 0) ∨ ∃ g1 g2 n f, n ≤ 1024 ∧ s = .slice (some ⟨g1, 0, none⟩) n n ∧ t = .slice (some ⟨g2, 0, none⟩) n n ∧ Arr V g1 n f ∧ Arr V g2 n f
theorem TwoA.same {V : World} {s t : Value} (h : TwoA V s t) : Calls Try.prog 10 #[s, t] V fun e W' => e = .returned (.int .i64 0) ∧ Below V.heap.size V W' := by
  rcases h with ⟨rfl, rfl⟩ | ⟨g1, g2, n, f, hn, rfl, rfl, h1, h2⟩
  · exact same_none V
  · exact same_list g1 n g2 n n hn f V h1 h2
def SlV (s : Value) : Prop := ∃ a n c, s = .slice a n c
/-- what Sums answers, by the program -/
def SumA (a b : Int) (xs : List Int) (W : World) (e : Ending) (W' : World) : Prop := ∃ s, SlV s ∧ e = .returned (.tuple #[s, .int .i64 (smE a b xs)]) ∧ Below W.heap.size W W' ∧ ((smE a b xs ≠ 0 ∧ s = .slice none 0 0) ∨ (smE a b xs = 0 ∧ ∃ g, s = .slice (some ⟨g, 0, none⟩) (nds a.toNat b.toNat) (nds a.toNat b.toNat) ∧ Arr W' g (nds a.toNat b.toNat) (sumF a.toNat b.toNat xs) ∧ nds a.toNat b.toNat ≤ 1024))
theorem psums_all (a b : Int) (B : Nat) (v : Value) (xs : List Int) (W : World) (hB : B ≤ W.heap.size) (hx : Num W B v xs) : Calls Try.prog 8 #[.int .i64 a, .int .i64 b, v] W fun e W' => SumA a b xs W e W' := by
  by_cases h : smE a b xs = 0
  · obtain ⟨w, H, rfl, rfl, hw, hw2, hH, hn2, hwr⟩ := smE_zero h
    refine (psums_ok w H _ _ B v xs hw hw2 hH rfl hn2 rfl W hB hx hwr).mono ?_
    rintro e W' ⟨g, rfl, _, hA, hb⟩
    exact ⟨_, ⟨_, _, _, rfl⟩, by rw [h], hb, .inr ⟨h, g, by simp, by simpa using hA, by simpa using hn2⟩⟩
  · refine (psums_bad a b B v xs W hB hx _ rfl h).mono ?_
    rintro e W' ⟨rfl, hb⟩
    exact ⟨_, ⟨_, _, _, rfl⟩, rfl, hb, .inl ⟨h, rfl⟩⟩
theorem rsums_all (a b : Int) (B : Nat) (v : Value) (xs : List Int) (W : World) (hB : B ≤ W.heap.size) (hx : Num W B v xs) : Calls Try.prog 9 #[.int .i64 a, .int .i64 b, v] W fun e W' => SumA a b xs W e W' := by
  by_cases h : smE a b xs = 0
  · obtain ⟨w, H, rfl, rfl, hw, hw2, hH, hn2, hwr⟩ := smE_zero h
    refine (rsums_ok w H _ _ B v xs hw hw2 hH rfl hn2 rfl W hB hx hwr).mono ?_
    rintro e W' ⟨g, rfl, _, hA, hb⟩
    exact ⟨_, ⟨_, _, _, rfl⟩, by rw [h], hb, .inr ⟨h, g, by simp, by simpa using hA, by simpa using hn2⟩⟩
  · refine (rsums_bad a b B v xs W hx _ rfl h).mono ?_
    rintro e W' ⟨rfl, hb⟩
    exact ⟨_, ⟨_, _, _, rfl⟩, rfl, hb, .inl ⟨h, rfl⟩⟩
/-- what Agree answers -/
def agD (a b : Int) (xs : List Int) : Nat := if agE a b xs = 0 then lin a.toNat b.toNat / gdv a.toNat b.toNat xs else 0
def AgrA (a b : Int) (xs : List Int) (W : World) (e : Ending) (W' : World) : Prop := ∃ s, SlV s ∧ e = .returned (.tuple #[s, .int .i64 ((agD a b xs : Nat) : Int), .int .i64 (agE a b xs)]) ∧ Below W.heap.size W W' ∧ ((agE a b xs ≠ 0 ∧ s = .slice none 0 0) ∨ (agE a b xs = 0 ∧ ∃ g, s = .slice (some ⟨g, 0, none⟩) (nds a.toNat b.toNat) (nds a.toNat b.toNat) ∧ Arr W' g (nds a.toNat b.toNat) (fun i => (out a.toNat b.toNat xs i).tdiv ((gdv a.toNat b.toNat xs : Nat) : Int)) ∧ nds a.toNat b.toNat ≤ 1024))
theorem pagree_all (a b : Int) (B : Nat) (v : Value) (xs : List Int) (W : World) (hB : B ≤ W.heap.size) (hx : Num W B v xs) : Calls Try.prog 11 #[.int .i64 a, .int .i64 b, v] W fun e W' => AgrA a b xs W e W' := by
  by_cases h : agE a b xs = 0
  · obtain ⟨w, H, rfl, rfl, hw, hw2, hH, hn2, hwr, hln⟩ := agE_zero h
    refine (pagree_ok w H _ _ _ _ _ B v xs hw hw2 hH rfl hn2 rfl rfl hln rfl rfl W hB hx hwr).mono ?_
    rintro e W' ⟨g, rfl, _, hA, hb⟩
    exact ⟨.slice (some ⟨g, 0, none⟩) (nds w H) (nds w H), ⟨_, _, _, rfl⟩, by rw [h, agD, if_pos h]; simp, hb, .inr ⟨h, g, by simp, by simpa using hA, by simpa using hn2⟩⟩
  · refine (pagree_bad a b B v xs W hB hx _ rfl h).mono ?_
    rintro e W' ⟨rfl, hb⟩
    exact ⟨_, ⟨_, _, _, rfl⟩, by rw [agD, if_neg h]; rfl, hb, .inl ⟨h, rfl⟩⟩
theorem ragree_all (a b : Int) (B : Nat) (v : Value) (xs : List Int) (W : World) (hB : B ≤ W.heap.size) (hx : Num W B v xs) : Calls Try.prog 12 #[.int .i64 a, .int .i64 b, v] W fun e W' => AgrA a b xs W e W' := by
  by_cases h : agE a b xs = 0
  · obtain ⟨w, H, rfl, rfl, hw, hw2, hH, hn2, hwr, hln⟩ := agE_zero h
    refine (ragree_ok w H _ _ _ _ _ B v xs hw hw2 hH rfl hn2 rfl rfl hln rfl rfl W hB hx hwr).mono ?_
    rintro e W' ⟨g, rfl, _, hA, hb⟩
    exact ⟨.slice (some ⟨g, 0, none⟩) (nds w H) (nds w H), ⟨_, _, _, rfl⟩, by rw [h, agD, if_pos h]; simp, hb, .inr ⟨h, g, by simp, by simpa using hA, by simpa using hn2⟩⟩
  · refine (ragree_bad a b B v xs W hx _ rfl h).mono ?_
    rintro e W' ⟨rfl, hb⟩
    exact ⟨_, ⟨_, _, _, rfl⟩, by rw [agD, if_neg h]; rfl, hb, .inl ⟨h, rfl⟩⟩
theorem sum_two {a b : Int} {xs : List Int} {W1 W2 : World} {s t : Value} (hb : Below W1.heap.size W1 W2)
    (h1 : (smE a b xs ≠ 0 ∧ s = .slice none 0 0) ∨ (smE a b xs = 0 ∧ ∃ g, s = .slice (some ⟨g, 0, none⟩) (nds a.toNat b.toNat) (nds a.toNat b.toNat) ∧ Arr W1 g (nds a.toNat b.toNat) (sumF a.toNat b.toNat xs) ∧ nds a.toNat b.toNat ≤ 1024))
    (h2 : (smE a b xs ≠ 0 ∧ t = .slice none 0 0) ∨ (smE a b xs = 0 ∧ ∃ g, t = .slice (some ⟨g, 0, none⟩) (nds a.toNat b.toNat) (nds a.toNat b.toNat) ∧ Arr W2 g (nds a.toNat b.toNat) (sumF a.toNat b.toNat xs) ∧ nds a.toNat b.toNat ≤ 1024)) : TwoA W2 s t := by
  rcases h1 with ⟨c1, rfl⟩ | ⟨c1, g1, rfl, hA1, hn⟩
  · rcases h2 with ⟨_, rfl⟩ | ⟨c2, _⟩
    · exact .inl ⟨rfl, rfl⟩
    · exact absurd c2 c1
  · rcases h2 with ⟨c2, _⟩ | ⟨_, g2, rfl, hA2, _⟩
    · exact absurd c1 c2
    · exact .inr ⟨g1, g2, _, _, hn, rfl, rfl, hA1.at hb, hA2⟩
theorem agr_two {a b : Int} {xs : List Int} {W1 W2 : World} {s t : Value} (hb : Below W1.heap.size W1 W2)
    (h1 : (agE a b xs ≠ 0 ∧ s = .slice none 0 0) ∨ (agE a b xs = 0 ∧ ∃ g, s = .slice (some ⟨g, 0, none⟩) (nds a.toNat b.toNat) (nds a.toNat b.toNat) ∧ Arr W1 g (nds a.toNat b.toNat) (fun i => (out a.toNat b.toNat xs i).tdiv ((gdv a.toNat b.toNat xs : Nat) : Int)) ∧ nds a.toNat b.toNat ≤ 1024))
    (h2 : (agE a b xs ≠ 0 ∧ t = .slice none 0 0) ∨ (agE a b xs = 0 ∧ ∃ g, t = .slice (some ⟨g, 0, none⟩) (nds a.toNat b.toNat) (nds a.toNat b.toNat) ∧ Arr W2 g (nds a.toNat b.toNat) (fun i => (out a.toNat b.toNat xs i).tdiv ((gdv a.toNat b.toNat xs : Nat) : Int)) ∧ nds a.toNat b.toNat ≤ 1024)) : TwoA W2 s t := by
  rcases h1 with ⟨c1, rfl⟩ | ⟨c1, g1, rfl, hA1, hn⟩
  · rcases h2 with ⟨_, rfl⟩ | ⟨c2, _⟩
    · exact .inl ⟨rfl, rfl⟩
    · exact absurd c2 c1
  · rcases h2 with ⟨c2, _⟩ | ⟨_, g2, rfl, hA2, _⟩
    · exact absurd c1 c2
    · exact .inr ⟨g1, g2, _, _, hn, rfl, rfl, hA1.at hb, hA2⟩

set_option maxRecDepth 100000 in
set_option maxHeartbeats 4000000 in
theorem pyramidAgrees_walk (B : Nat) (a b : Int) (v1 v2 : Value) (xs ys : List Int) (W : World) (hB : B ≤ W.heap.size) (h1 : Num W B v1 xs) (h2 : Num W B v2 ys) :
    Calls Try.prog 3 #[.int .i64 a, .int .i64 b, v1, v2] W fun e W' => e = .returned (.bool true) ∧ Below W.heap.size W W' := by
  obtain ⟨n, hn⟩ : ∃ n, szN a b = n := ⟨_, rfl⟩
  obtain ⟨er, her⟩ : ∃ er, szE a b = er := ⟨_, rfl⟩
  have k1 := size_any a b W n er hn her
  have k2 := fun V => rsize_any a b V n er hn her
  have HX : Hid (Num W B v1 xs) := h1
  have HY : Hid (Num W B v2 ys) := h2
  obtain ⟨a1, c1, rfl, hc1, hl1⟩ := h1.slice
  obtain ⟨a2, c2, rfl, hc2, hl2⟩ := h2.slice
  clear h1 h2 hn her
  go_enter Try.func3, Try.ntmps3
  go_wp2_with fail
  refine k1.mono ?_
  rintro e1 w1 ⟨rfl, hb1⟩
  clear k1
  go_wp2_with fail
  refine (k2 _).mono ?_
  rintro e2 w2 ⟨rfl, hw2⟩
  have hwy := hw2.symm
  subst hwy
  clear k2 hw2
  have k3 := psums_all a b B (.slice a1 xs.length c1) xs w1 (Nat.le_trans hB hb1.size) (HX.out.at hB hb1)
  go_wp2_with fail
  refine k3.mono ?_
  rintro e3 w3 ⟨s3, ⟨sa, sn, sc, rfl⟩, rfl, hb3, h3⟩
  have b3 : Below W.heap.size W w3 := bt hb1 hb3
  have k4 := rsums_all a b B (.slice a1 xs.length c1) xs w3 (Nat.le_trans hB b3.size) (HX.out.at hB b3)
  clear k3
  obtain ⟨es, hes⟩ : ∃ es, smE a b xs = es := ⟨_, rfl⟩
  have HES : Hid (smE a b xs = es) := hes
  rw [hes]
  have H3 : Hid _ := h3
  clear hes h3
  go_wp2_with fail
  refine k4.mono ?_
  rintro e4 w4 ⟨s4, ⟨ta, tn, tc, rfl⟩, rfl, hb4, h4⟩
  have b4 : Below W.heap.size W w4 := bt b3 hb4
  have k5 := (sum_two hb4 H3.out h4).same
  rw [HES.out]
  clear k4 h4 H3
  go_wp2_with fail
  refine k5.mono ?_
  rintro e5 w5 ⟨rfl, hb5⟩
  have b5 : Below W.heap.size W w5 := bt b4 hb5
  have k6 := pagree_all a b B (.slice a2 ys.length c2) ys w5 (Nat.le_trans hB b5.size) (HY.out.at hB b5)
  clear k5 HES
  go_wp2_with fail
  refine k6.mono ?_
  rintro e6 w6 ⟨s6, ⟨qa, qn, qc, rfl⟩, rfl, hb6, h6⟩
  have b6 : Below W.heap.size W w6 := bt b5 hb6
  have k7 := ragree_all a b B (.slice a2 ys.length c2) ys w6 (Nat.le_trans hB b6.size) (HY.out.at hB b6)
  obtain ⟨eg, heg⟩ : ∃ eg, agE a b ys = eg := ⟨_, rfl⟩
  obtain ⟨dg, hdg⟩ : ∃ dg, agD a b ys = dg := ⟨_, rfl⟩
  have HEG : Hid (agE a b ys = eg ∧ agD a b ys = dg) := ⟨heg, hdg⟩
  rw [heg, hdg]
  have H6 : Hid _ := h6
  clear heg hdg h6 k6
  go_wp2_with fail
  refine k7.mono ?_
  rintro e7 w7 ⟨s7, ⟨ra, rn, rc, rfl⟩, rfl, hb7, h7⟩
  have b7 : Below W.heap.size W w7 := bt b6 hb7
  have k8 := (agr_two hb7 H6.out h7).same
  rw [HEG.out.1, HEG.out.2]
  clear k7 h7 H6 HEG
  go_wp2_with fail
  refine k8.mono ?_
  rintro e8 w8 ⟨rfl, hb8⟩
  clear k8
  go_wp2
  go_ret
  exact ⟨by simp, bt b7 hb8⟩
end Go.Proofs.Ytgfndaiilhbkmaa
