import Derived.Test.YtjnclbhpdaonhaaFed
import Derived.Test.YtjnclbhpdaonhaaSmd
namespace Go.Proofs.Ytjnclbhpdaonhaa
open Go.RowKit Go.Proofs.Ytjnclbhpdaonhaa.Ds

/-- numbers in memory -/
def vals (ys : List Int) : List Value := ys.map fun y => .int .i64 y
theorem ints_of_vals {w : World} {lo : Nat} {v : Value} {ys : List Int} (h : w.ownsRow lo 3 1 v ys.length (vals ys)) (hl : ys.length ≤ 1073741824) : ∃ a c, v = .slice a ys.length c ∧ Ints w w.heap.size w.heap.size v ys := by
  rcases id h with ⟨_, ⟨rfl, h0⟩ | ⟨g, cap, cur, rfl, hg, hcur, hc, _, _, _⟩⟩
  · obtain rfl : ys = [] := List.length_eq_zero_iff.1 h0
    exact ⟨none, 0, rfl, ints_nil _ _ _⟩
  · have hlt := (h.lt g rfl).2
    refine ⟨_, _, rfl, _, cap, rfl, hc, hl, fun _ => ⟨g, 0, rfl, hlt, by omega, fun i x hi => ?_⟩⟩
    have := h.cells (g := g) rfl i (.int .i64 x) (by simp [vals, hi])
    rwa [Addr.add_lit] at this

theorem feedT_err {l : List Pt} (xs : List Int) : (feedT l xs).2 = (ownT l).2 ∧ ((ownT l).2 ≠ 0 → (feedT l xs).1 = []) := by
  unfold feedT
  by_cases h : (ownT l).2 = 0
  · rw [if_pos h]; exact ⟨h.symm, fun hh => absurd h hh⟩
  · rw [if_neg h]; exact ⟨rfl, fun _ => rfl⟩

set_option maxHeartbeats 4000000 in
set_option maxRecDepth 100000 in
theorem law_feeds (B nb : Nat) (v u : Value) (ts : List Tr) (xs : List Int) (w : World) (hB : B ≤ w.heap.size) (hp : Parts w B v ts) (hu : Ints w B nb u xs) :
    Calls Try.prog 4 #[v, u] w fun e w' => e = .returned (.bool true) ∧ Below w.heap.size w w' := by
  obtain ⟨⟨l, er⟩, hr⟩ : ∃ x, feedT (rd ts) xs = x := ⟨_, rfl⟩
  have kc := feed_any B nb v u ts xs w hB hp hu l er hr
  have her : (ownT (rd ts)).2 = er := by have := (feedT_err (l := rd ts) xs).1; rw [hr] at this; exact this.symm
  have HN : Hid (er ≠ 0 → l = []) := by
    have := (feedT_err (l := rd ts) xs).2
    rw [hr, her] at this; exact this
  have HP : Hid (Parts w B v ts) := hp
  have HU : Hid (Ints w B nb u xs) := hu
  have HR : Hid (feedT (rd ts) xs = (l, er)) := hr
  have HER : Hid ((ownT (rd ts)).2 = er) := her
  obtain ⟨a, c, rfl, hc, hl, _⟩ := hp
  obtain ⟨ua, uc, rfl, huc, hxl, _⟩ := hu
  clear hr her
  go_enter Try.func4, Try.ntmps4
  go_wp2_with fail
  refine kc.mono ?_
  rintro e w1 ⟨v1, ds1, rfl, k1, k2, hb1⟩
  have hs1 := hb1.size
  have kw := wrongR_any B _ ts w1 (by omega) (HP.out.at hB hb1) er HER.out
  have HD1 : Hid (rd ds1 = l ∧ Parts w1 w1.heap.size v1 ds1) := ⟨k1, k2⟩
  have hll : Hid (ds1.length = l.length) := by rw [Hid, ← k1, rd_len]
  obtain ⟨a1, c1, rfl, _⟩ := id k2
  clear kc k1 k2
  go_wp2_with fail
  refine kw.mono ?_
  rintro e w2 ⟨rfl, hb2⟩
  have hs2 := hb2.size
  have hbw2 : Below w.heap.size w w2 := bt hb1 hb2
  clear kw
  by_cases h0 : ¬ er = 0
  · have h0' : (er == 0) = false := by simpa using h0
    have h00 : (er == er) = true := by simp
    have hl0 : ds1.length = 0 := by rw [hll.out, HN.out h0]; rfl
    rw [hl0]
    go_wp2
    go_ret
    exact ⟨by simp, hbw2⟩
  obtain rfl : er = 0 := by omega
  have HP1 : Hid (Parts w2 w2.heap.size (.slice a1 ds1.length c1) ds1) := (HD1.out.2.keep hb2).mono hs2
  obtain ⟨i0, hi0, hz0, hz1, hz2⟩ := info_parts info3
  clear h0
  go_wp2
  go_loopw [8, 37] (fun lv iv wr => ∃ (i : Nat) (ys : List Int), iv = .int .i64 (i : Int) ∧ i ≤ xs.length ∧ ys.length = i ∧ Hid (ys = (xs.map lowB).take i) ∧ Hid (wr.ownsRow w2.heap.size 3 1 lv ys.length (vals ys)) ∧ Below w2.heap.size w2 wr) (fun _ iv _ => xs.length - (intOf iv).toNat)
  case atStart => exact ⟨0, [], rfl, Nat.zero_le _, rfl, by simp [Hid], World.ownsRow_nil _ _ _ _, Below.refl _ _⟩
  case round =>
    obtain ⟨i, ys, rfl, hix, hyl, HY, HO, hbl⟩ := hrel
    have HYL : Hid (ys.length = i) := hyl
    have hs3 := hbl.size
    have hbwr : Below w.heap.size w wr := bt hbw2 hbl
    clear hyl
    by_cases h1 : i < xs.length
    · obtain ⟨x, hx⟩ := get_lt h1
      obtain ⟨_, _, hv', _, _, hcl⟩ := HU.out.at hB hbwr
      simp only [Value.slice.injEq] at hv'
      obtain ⟨rfl, _, rfl⟩ := hv'
      obtain ⟨ub, uo, rfl, hubB, _, hcell⟩ := hcl (ne_of_lt h1)
      have c2 := hcell i x hx
      obtain ⟨y, hy⟩ : ∃ y, bits .and .i64 x 1 = y := ⟨_, rfl⟩
      have HY2 : Hid (ys ++ [y] = (xs.map lowB).take (i + 1)) := by
        rw [Hid, List.take_add_one, ← HY.out]
        congr 1
        simp [hx, lowB, hy]
      obtain ⟨pa, pc, rfl⟩ := owns_slice HO.out
      have HO2 : Hid ((wr.alloc (.cells #[.int .i64 y] 3)).ownsRow w2.heap.size 3 1 (.slice pa ys.length pc) ys.length (vals ys)) := owns_below HO.out (ba _ _)
      clear hx hcl hcell
      go_wp2_with (at_builtin; refine wpList_append_own_at _ rfl _ _ 24 rfl w2.heap.size 3 i0 (.int .i64 0) 1 8 Try.underlying24 hi0 hz0 hz1 hz2 rfl (by decide) _ _ _ rfl HO2.out ⟨wr.heap.size, 0, none⟩ 1 1 [.int .i64 y] rfl ?q1 ?q2 ?q3 ?q4 ?q5 ?q6 ?_)
      case q1 => rfl
      case q2 => exact cell_one_new _ _ _
      case q3 => intro u hu; simp at hu; subst hu; rfl
      case q4 => have := HYL.out; simp [maxLen]; omega
      case q5 => have := HYL.out; omega
      case q6 => simp; omega
      intro v4 w4 hown4 hgrow hnil hat
      have HO4 : Hid (w4.ownsRow w2.heap.size 3 1 v4 (ys ++ [y]).length (vals (ys ++ [y]))) := by
        have e : vals (ys ++ [y]) = vals ys ++ [.int .i64 y] := by simp [vals]
        rw [Hid, e]
        simpa using hown4
      have hb4 : Below w2.heap.size w2 w4 := (bal hbl _).grown hgrow (by simp; omega) (owns_block HO2.out)
      obtain ⟨a4, c4, rfl⟩ := owns_slice HO4.out
      clear hown4 hgrow hnil hat HO2 HO hy
      go_wp2
      go_roundw
      case rel => exact ⟨i + 1, ys ++ [y], by go_num, h1, by have := HYL.out; simp; omega, HY2, HO4, hb4⟩
      case measure => simp [intOf]; omega
    · have hye : ys = xs.map lowB := by rw [HY.out, List.take_of_length_le (by simp; omega)]
      subst hye
      obtain ⟨pa, pc, rfl, hI⟩ := ints_of_vals HO.out (by simp; omega)
      have HI : Hid (Ints wr wr.heap.size wr.heap.size (.slice pa (xs.map lowB).length pc) (xs.map lowB)) := hI
      clear HO hI HY HYL
      have hml : (xs.map lowB).length = xs.length := by simp
      rw [hml] at HI ⊢
      clear hml
      by_cases h2 : 4000 < xs.length
      · go_wp2
        go_ret
        exact ⟨rfl, hbwr⟩
      · have HF := feed_rolls HER.out xs (by omega)
        rw [rd_len, HR.out] at HF
        simp only at HF
        have HPr : Hid (Parts wr wr.heap.size (.slice a ts.length c) ts) := (HP.out.at hB hbwr).mono (Nat.le_trans hB hbwr.size)
        have HP1r : Hid (Parts wr wr.heap.size (.slice a1 ds1.length c1) ds1) := (HP1.out.keep hbl).mono hs3
        have h00 : ((0 : Int) == 0) = true := by simp
        by_cases h3 : ts.length = 1
        · have h3' : ((ts.length : Int) == 1) = true := by simp [h3]
          have h3'' : (ts.length : Int) = 1 := by omega
          rw [if_pos h3] at HF
          have kr := rollsR_any wr.heap.size wr.heap.size (.slice a ts.length c) (.slice pa xs.length pc) ts (xs.map lowB) 1 wr (Nat.le_refl _) HPr.out HI.out (by omega) l 0 HF
          clear HF
          rw [h3] at kr ⊢
          go_wp2_with fail
          refine kr.mono ?_
          rintro e w5 ⟨v5, ds5, rfl, k1, k2, hb5⟩
          have hs5 := hb5.size
          have kg := sameD_any w5.heap.size _ v5 ds1 ds5 w5 (Nat.le_refl _) ((HP1r.out.keep hb5).mono hs5) k2 true (decide_eq_true (by rw [HD1.out.1, k1]))
          obtain ⟨a5, c5, rfl, _⟩ := id k2
          have hbw5 : Below w.heap.size w w5 := bt hbwr hb5
          clear kr k1 k2
          go_wp2_with fail
          refine kg.mono ?_
          rintro e w6 ⟨rfl, hb6⟩
          have hbw6 : Below w.heap.size w w6 := bt hbw5 hb6
          clear kg
          go_wp2
          go_ret
          exact ⟨by simp, hbw6⟩
        · have h3' : ((ts.length : Int) == 1) = false := by simp; omega
          have h3'' : ¬ (ts.length : Int) = 1 := by omega
          rw [if_neg h3] at HF
          have kr := rollsR_any wr.heap.size wr.heap.size (.slice a ts.length c) (.slice pa xs.length pc) ts (xs.map lowB) (xs.length : Int) wr (Nat.le_refl _) HPr.out HI.out (by omega) l 0 HF
          clear HF
          go_wp2_with fail
          refine kr.mono ?_
          rintro e w5 ⟨v5, ds5, rfl, k1, k2, hb5⟩
          have hs5 := hb5.size
          have kg := sameD_any w5.heap.size _ v5 ds1 ds5 w5 (Nat.le_refl _) ((HP1r.out.keep hb5).mono hs5) k2 true (decide_eq_true (by rw [HD1.out.1, k1]))
          obtain ⟨a5, c5, rfl, _⟩ := id k2
          have hbw5 : Below w.heap.size w w5 := bt hbwr hb5
          clear kr k1 k2
          go_wp2_with fail
          refine kg.mono ?_
          rintro e w6 ⟨rfl, hb6⟩
          have hbw6 : Below w.heap.size w w6 := bt hbw5 hb6
          clear kg
          go_wp2
          go_ret
          exact ⟨by simp, hbw6⟩
end Go.Proofs.Ytjnclbhpdaonhaa
