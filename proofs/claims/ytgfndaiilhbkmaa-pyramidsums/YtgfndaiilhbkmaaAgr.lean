import Derived.Test.YtgfndaiilhbkmaaStl
import Derived.Test.YtgfndaiilhbkmaaLow
namespace Go.Proofs.Ytgfndaiilhbkmaa
open Go.RowKit Go.Proofs.Ytgfndaiilhbkmaa.Ds

/-- what is wrong with what was told -/
def agE (a b : Int) (xs : List Int) : Int := if szE a b = 0 then (if wrE xs (nds a.toNat b.toNat) = 0 then (if lin a.toNat b.toNat ≤ 1073741824 then 0 else 4) else wrE xs (nds a.toNat b.toNat)) else szE a b
/-- what agrees, over the line -/
def out (w H : Nat) (xs : List Int) : Nat → Int := stl w (lft w H (tld xs (lin w H)))
def gdv (w H : Nat) (xs : List Int) : Nat := gl (lin w H) (out w H xs) (nds w H)
theorem out_abs {w H : Nat} {xs : List Int} (hw : 2 ≤ w) (hH : H ≤ 10) (hln : lin w H ≤ 1073741824) (hb : xs.any badB = false) {i : Nat} (hi : i < nds w H) : (out w H xs i).natAbs ≤ 4 * 774056185954304 :=
  (stl_abs hw (B := 774056185954304) (fun _ hj => lft_le hw hH (fun k _ => tld_abs hb hln k) hj) i hi).1

set_option maxHeartbeats 2000000 in
theorem pagree_bad (a b : Int) (B : Nat) (v : Value) (xs : List Int) (W : World) (hB : B ≤ W.heap.size) (hx : Num W B v xs) (er : Int) (he : agE a b xs = er) (hne : er ≠ 0) :
    Calls Try.prog 11 #[.int .i64 a, .int .i64 b, v] W fun e W' => e = .returned (.tuple #[.slice none 0 0, .int .i64 0, .int .i64 er]) ∧ Below W.heap.size W W' := by
  have HX : Hid (Num W B v xs) := hx
  have HE : Hid (agE a b xs = er) := he
  obtain ⟨va, vc, rfl, _⟩ := hx.slice
  have n1 : (er == 0) = false := by simpa using hne
  have n2 : (er != 0) = true := by simpa using hne
  clear hx he
  rcases sz_cases a b with ⟨h1, h2⟩ | ⟨w, H, rfl, rfl, hw, hw2, hH, ⟨h1, h2⟩ | ⟨h1, h2⟩⟩
  · have kc := lay_bad a b h2 W
    obtain rfl : 3 = er := by rw [← HE.out, agE, h1]; rfl
    clear h1 h2
    go_enter Try.func11, Try.ntmps11
    go_wp2_with fail
    refine kc.mono ?_
    rintro e1 w1 ⟨rfl, hb1⟩
    clear kc
    go_wp2
    exact bodyPost_ret (v := .tuple #[.slice none 0 0, .int .i64 0, .int .i64 3]) (by simp [results, Try.results11, go_sem]) rfl ⟨rfl, bal hb1 _⟩
  · have kc := lay_any w H hw hw2 hH W
    obtain rfl : 4 = er := by rw [← HE.out, agE, h1]; rfl
    have HH : Hid (1024 < nds w H) := h2
    clear h1 h2
    go_enter Try.func11, Try.ntmps11
    go_wp2_with fail
    refine kc.mono ?_
    rintro e1 w1 ⟨hL, hb1⟩
    obtain rfl := hL.2 HH.out
    clear kc hL
    go_wp2
    exact bodyPost_ret (v := .tuple #[.slice none 0 0, .int .i64 0, .int .i64 4]) (by simp [results, Try.results11, go_sem]) rfl ⟨rfl, bal hb1 _⟩
  · have kc := lay_any w H hw hw2 hH W
    have HH : Hid (nds w H ≤ 1024) := h2
    have HW : Hid ((if wrE xs (nds w H) = 0 then (if lin w H ≤ 1073741824 then (0 : Int) else 4) else wrE xs (nds w H)) = er) := by have := HE.out; rw [agE, if_pos h1] at this; simpa [Hid] using this
    obtain ⟨n, hn⟩ : ∃ n, nds w H = n := ⟨_, rfl⟩
    obtain ⟨q, hq⟩ : ∃ q, w ^ H = q := ⟨_, rfl⟩
    have hq2 : q ≤ 1024 := by rw [← hq]; exact Nat.le_trans (pow_le_nds w H) h2
    rw [hn] at HW
    have HN : Hid (nds w H = n ∧ w ^ H = q) := ⟨hn, hq⟩
    clear h1 h2 hn hq
    go_enter Try.func11, Try.ntmps11
    go_wp2_with fail
    refine kc.mono ?_
    rintro e1 w1 ⟨hL, hb1⟩
    have hL2 := hL.1 HH.out
    rw [HN.out.1, HN.out.2] at hL2
    subst hL2
    clear kc hL
    obtain ⟨X, hX⟩ : ∃ X, w1.alloc (.cells #[.int .i64 (w : Int), .int .i64 (H : Int), .int .i64 (n : Int), .int .i64 (q : Int)] 35) = X := ⟨_, rfl⟩
    have bX : Below W.heap.size W X := by rw [← hX]; exact bal hb1 _
    have sX : ShB X w1.heap.size (.int .i64 (w : Int)) (.int .i64 (H : Int)) (.int .i64 (n : Int)) (.int .i64 (q : Int)) := by rw [← hX]; exact ShB.new _ _ _ _ _ _ rfl
    have x0 := sX.c0
    have x1 := sX.c1
    have x2 := sX.c2
    have x3 := sX.c3
    by_cases h3 : wrE xs n = 0
    · have kw := wrong_any B (.slice va xs.length vc) xs n X (HX.out.at hB bX) 0 h3
      have kl := line_any w H n q hw hw2 hH HN.out.2 hq2 X
      have HM : Hid (1073741824 < lin w H ∧ er = 4) := by
        have := HW.out
        rw [if_pos h3] at this
        by_cases h4 : lin w H ≤ 1073741824
        · rw [if_pos h4] at this; exact absurd this.symm hne
        · rw [if_neg h4] at this; exact ⟨by omega, this.symm⟩
      obtain rfl : er = 4 := HM.out.2
      clear sX h3 HW
      go_wp2_with fail
      refine kw.mono ?_
      rintro e2 w2 ⟨rfl, rfl⟩
      clear kw
      go_wp2_with fail
      refine kl.mono ?_
      rintro e3 w3 ⟨hL3, hb3⟩
      obtain rfl := hL3.2 HM.out.1
      clear kl hL3
      go_wp2
      exact bodyPost_ret (v := .tuple #[.slice none 0 0, .int .i64 0, .int .i64 4]) (by simp [results, Try.results11, go_sem]) rfl ⟨rfl, bt bX hb3⟩
    · have HW2 : Hid (wrE xs n = er) := by have := HW.out; rwa [if_neg h3] at this
      have kw := wrong_any B (.slice va xs.length vc) xs n X (HX.out.at hB bX) er HW2.out
      clear sX h3 HW
      go_wp2_with fail
      refine kw.mono ?_
      rintro e2 w2 ⟨rfl, rfl⟩
      clear kw
      go_wp2
      exact bodyPost_ret (v := .tuple #[.slice none 0 0, .int .i64 0, .int .i64 er]) (by simp [results, Try.results11, go_sem]) rfl ⟨rfl, bX⟩

set_option maxHeartbeats 2000000 in
theorem pagree_ok (w H n q ln G r B : Nat) (v : Value) (xs : List Int) (hw : 2 ≤ w) (hw2 : w ≤ 16) (hH : H ≤ 10) (hn : nds w H = n) (hn2 : n ≤ 1024) (hq : w ^ H = q) (hln : lin w H = ln) (hln2 : ln ≤ 1073741824) (hG : gdv w H xs = G) (hr : ln / G = r) (W : World) (hB : B ≤ W.heap.size) (hx : Num W B v xs) (he : wrE xs n = 0) :
    Calls Try.prog 11 #[.int .i64 (w : Int), .int .i64 (H : Int), v] W fun e W' => ∃ g, e = .returned (.tuple #[.slice (some ⟨g, 0, none⟩) n n, .int .i64 (r : Int), .int .i64 0]) ∧ W.heap.size ≤ g ∧ Arr W' g n (fun i => (out w H xs i).tdiv (G : Int)) ∧ Below W.heap.size W W' := by
  have HX : Hid (Num W B v xs) := hx
  have HN : Hid (nds w H = n ∧ w ^ H = q ∧ wrE xs n = 0 ∧ lin w H = ln ∧ gdv w H xs = G ∧ ln / G = r) := ⟨hn, hq, he, hln, hG, hr⟩
  obtain ⟨va, vc, rfl, _⟩ := hx.slice
  have hq2 : q ≤ 1024 := by rw [← hq]; exact Nat.le_trans (pow_le_nds w H) (by rw [hn]; exact hn2)
  have kc := lay_any w H hw hw2 hH W
  clear hx hn hq he hln hG hr
  go_enter Try.func11, Try.ntmps11
  go_wp2_with fail
  refine kc.mono ?_
  rintro e1 w1 ⟨hL, hb1⟩
  have hL2 := hL.1 (by rw [HN.out.1]; exact hn2)
  rw [HN.out.1, HN.out.2.1] at hL2
  subst hL2
  clear kc hL
  obtain ⟨X, hX⟩ : ∃ X, w1.alloc (.cells #[.int .i64 (w : Int), .int .i64 (H : Int), .int .i64 (n : Int), .int .i64 (q : Int)] 35) = X := ⟨_, rfl⟩
  have bX : Below W.heap.size W X := by rw [← hX]; exact bal hb1 _
  have sX : ShB X w1.heap.size (.int .i64 (w : Int)) (.int .i64 (H : Int)) (.int .i64 (n : Int)) (.int .i64 (q : Int)) := by rw [← hX]; exact ShB.new _ _ _ _ _ _ rfl
  have HSX : Hid (ShB X w1.heap.size (.int .i64 (w : Int)) (.int .i64 (H : Int)) (.int .i64 (n : Int)) (.int .i64 (q : Int))) := sX
  have x0 := sX.c0
  have x1 := sX.c1
  have x2 := sX.c2
  have x3 := sX.c3
  have kw := wrong_any B (.slice va xs.length vc) xs n X (HX.out.at hB bX) 0 HN.out.2.2.1
  have kl := line_any w H n q hw hw2 hH HN.out.2.1 hq2 X
  clear sX
  go_wp2_with fail
  refine kw.mono ?_
  rintro e2 w2 ⟨rfl, rfl⟩
  clear kw
  go_wp2_with fail
  refine kl.mono ?_
  rintro e3 w3 ⟨hL3, hb3⟩
  have hL4 := hL3.1 (by rw [HN.out.2.2.2.1]; exact hln2)
  rw [HN.out.2.2.2.1] at hL4
  subst hL4
  clear kl hL3 x0 x1 x2 x3
  have b3 : Below W.heap.size W w3 := bt bX hb3
  have HS3 : Hid (ShB w3 w1.heap.size (.int .i64 (w : Int)) (.int .i64 (H : Int)) (.int .i64 (n : Int)) (.int .i64 (q : Int))) := HSX.out.at hb3
  have x0 := HS3.out.c0
  have x1 := HS3.out.c1
  have x2 := HS3.out.c2
  have x3 := HS3.out.c3
  have kf := lifts_any w H n q ln B (.slice va xs.length vc) xs hw hw2 hH HN.out.1 hn2 HN.out.2.1 hln2 w3 (Nat.le_trans hB b3.size) (HX.out.at hB b3) (wrE_zero HN.out.2.2.1).1 (wrE_zero HN.out.2.2.1).2
  go_wp2_with fail
  refine kf.mono ?_
  rintro e4 w4 ⟨g4, c4, rfl, hc4, hg4, hA4, hb4⟩
  clear kf x0 x1 x2 x3
  have b4 : Below W.heap.size W w4 := bt b3 hb4
  have HS4 : Hid (ShB w4 w1.heap.size (.int .i64 (w : Int)) (.int .i64 (H : Int)) (.int .i64 (n : Int)) (.int .i64 (q : Int))) := HS3.out.at hb4
  have x0 := HS4.out.c0
  have x1 := HS4.out.c1
  have x2 := HS4.out.c2
  have x3 := HS4.out.c3
  have kt := settle_any w H n q g4 c4 (lft w H (tld xs ln)) hw hw2 HN.out.1 hn2 HN.out.2.1 w4 hA4 (fun i hi => lft_le hw hH (fun k _ => tld_abs (wrE_zero HN.out.2.2.1).2 hln2 k) hi)
  have hz3 := b3.size
  have hz4 := b4.size
  clear hA4
  go_wp2_with fail
  refine kt.mono ?_
  rintro e5 w5 ⟨rfl, hA5, hg5⟩
  clear kt x0 x1 x2 x3
  have b5 : Below W.heap.size W w5 := b4.trans (below_gb hg5 (by omega) (by omega))
  have hA6 : Arr w5 g4 n (out w H xs) := by rw [out, HN.out.2.2.2.1]; exact hA5
  have ko := lowest_any g4 n c4 ln (out w H xs) hn2 (by rw [← HN.out.2.2.2.1]; exact lin_pos hw H) hln2 w5 hA6 (fun i hi => Nat.le_trans (out_abs hw hH (by rw [HN.out.2.2.2.1]; exact hln2) (wrE_zero HN.out.2.2.1).2 (by rw [HN.out.1]; exact hi)) (by decide)) G r (by rw [← HN.out.2.2.2.2.1, gdv, HN.out.2.2.2.1, HN.out.1]) HN.out.2.2.2.2.2
  have hz5 := b5.size
  clear hA5 hA6 hg5
  go_wp2_with fail
  refine ko.mono ?_
  rintro e6 w6 ⟨g6, rfl, hg6, hA6, hb6⟩
  have HA6 : Hid (Arr w6 g6 n (fun i => (out w H xs i).tdiv (G : Int))) := hA6
  clear ko hA6
  go_wp2
  refine bodyPost_ret (v := .tuple #[.slice (some ⟨g6, 0, none⟩) n n, .int .i64 (r : Int), .int .i64 0]) (by simp [results, Try.results11, go_sem]) rfl ⟨g6, rfl, by omega, HA6.out, bt b5 hb6⟩
end Go.Proofs.Ytgfndaiilhbkmaa
