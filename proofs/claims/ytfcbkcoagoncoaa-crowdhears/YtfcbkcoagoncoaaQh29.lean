import Derived.Deep.DeepCutAuto
import Derived.Test.YtfcbkcoagoncoaaQh28
import Derived.Test.YtfcbkcoagoncoaaQh26
namespace Go.Proofs.Ytfcbkcoagoncoaa
open Go.RowKit Go.Proofs.Ytfcbkcoagoncoaa.Ds

def DistQ (w : World) (l : List Pt) (er : Int) (e : Ending) (w' : World) : Prop :=
  ∃ v' us, e = .returned (.tuple #[v', .int .i64 er]) ∧ rd us = l ∧ OwnN w' w.heap.size v' us ∧ Below w.heap.size w w'
theorem DistQ.err {w w' : World} {er : Int} (hb : Below w.heap.size w w') : DistQ w [] er (.returned (.tuple #[.slice none 0 0, .int .i64 er])) w' :=
  ⟨_, [], rfl, rfl, .inl ⟨rfl, rfl⟩, hb⟩
theorem res_take {u d t : Int} {M i : Nat} (h : i < M) : (resL u d t M).take (i + 1) = (resL u d t M).take i ++ [([(i : Int)], if (i : Int) = t then u else d)] := by
  rw [List.take_add_one]
  congr 1
  simp [resL, h]

set_option maxHeartbeats 4000000 in
set_option maxRecDepth 100000 in
/-- the reference's Respond -/
theorem rrespond_any (u d many truth : Int) (l : List Pt) (er : Int) (hr : resT u d many truth = (l, er)) (w : World) :
    Calls Try.prog 37 #[rv u d, .int .i64 many, .int .i64 truth] w (DistQ w l er) := by
  obtain ⟨e0, he0⟩ : ∃ e0, lossE u d = e0 := ⟨_, rfl⟩
  have kc := rloss_any u d e0 he0
  rw [resT, he0] at hr
  by_cases c : e0 = 0
  · subst c
    obtain ⟨hrt, hdu, hd1, hu1⟩ := loss_ok he0
    rw [if_neg (by simp)] at hr
    by_cases cb : 1 ≤ many ∧ many ≤ 4096 ∧ 0 ≤ truth ∧ truth < many
    · obtain ⟨b1, b2, b3, b4⟩ := cb
      rw [if_neg (by simp; omega)] at hr
      have m1 : 0 ≤ (many - 1) * d := Int.mul_nonneg (by omega) (by omega)
      have m2 : (many - 1) * d ≤ 4096 * 1073741824 := Int.mul_le_mul (by omega) (by omega) (by omega) (by omega)
      by_cases cm : 1073741824 < u + (many - 1) * d
      · rw [if_pos cm] at hr
        simp only [Prod.mk.injEq] at hr
        obtain ⟨rfl, rfl⟩ := hr
        clear he0 hrt
        go_enter Try.func37, Try.ntmps37
        go_wp2_with fail
        refine (kc _).mono ?_
        rintro e w1 ⟨rfl, hb1⟩
        have G1 := bt (ba _ _) hb1
        obtain ⟨hc1, hf1⟩ := bcell hb1
        go_wp2
        exact bodyPost_ret (v := .tuple #[.slice none 0 0, .int .i64 4]) (by simp [results, Try.results37, go_sem]) rfl (DistQ.err G1)
      · rw [if_neg cm] at hr
        obtain ⟨M, rfl⟩ := Int.eq_ofNat_of_zero_le (show 0 ≤ many by omega)
        obtain ⟨t, rfl⟩ := Int.eq_ofNat_of_zero_le b3
        rw [Int.toNat_natCast] at hr
        have HR : Hid (makeT (resL u d (t : Int) M) = (l, er)) := hr
        obtain ⟨i0, hi0, hz0, hz1, hz2⟩ := info_parts info32
        have t1 : decide ((M : Int) < 1) = false := by simp; omega
        have t2 : decide (4096 < (M : Int)) = false := by simp; omega
        have t3 : decide ((t : Int) < 0) = false := by simp
        have t4 : decide ((M : Int) ≤ (t : Int)) = false := by simp; omega
        have t5 : decide (1073741824 < u + ((M : Int) - 1) * d) = false := by simp; omega
        clear he0 hrt hr
        go_enter Try.func37, Try.ntmps37
        go_wp2_with fail
        refine (kc _).mono ?_
        rintro e w1 ⟨rfl, hb1⟩
        have G1 := bt (ba _ _) hb1
        obtain ⟨hc1, hf1⟩ := bcell hb1
        have d1 : w1.cell? ⟨w.heap.size, 0, none⟩ = some (.int .i64 u) := by rw [hc1 _ _ (by simp)]; simp [go_sem]
        have d2 : w1.cell? ⟨w.heap.size, 1, none⟩ = some (.int .i64 d) := by rw [hc1 _ _ (by simp)]; simp [go_sem]
        have hz1' : w.heap.size < w1.heap.size := by have := hb1.size; simp at this; omega
        clear hc1 hf1 hb1
        go_upto_if 40 with fail
        go_cut [] (fun wx => w1 = wx)
        case first =>
          go_wp2
          go_meet
          case rel => rfl
        case rest =>
        subst hcut
        go_wp2_with fail
        go_loopw [9, 10] (fun pv s wr => ∃ (i : Nat) (ds : List Tr), s = .int .i64 (i : Int) ∧ i ≤ M ∧ Hid (rd ds = (resL u d (t : Int) M).take i ∧ ds.length = i) ∧ Hid (Rws wr w1.heap.size pv ds) ∧ Below w1.heap.size w1 wr) (fun _ s _ => M - (intOf s).toNat)
        case atStart => exact ⟨0, [], rfl, Nat.zero_le _, ⟨by simp [rd], rfl⟩, Rws.nil _ _, Below.refl _ _⟩
        case round =>
          obtain ⟨i, ds, rfl, hit, HD, HW, hbl⟩ := hrel
          have hbs := hbl.size
          have hpl := HW.out.lt
          obtain ⟨pa, pc, rfl⟩ := HW.out.slice
          have HDL : Hid (ds.length ≤ 4096) := by have := HD.out.2; show ds.length ≤ 4096; omega
          by_cases h1 : i < M
          · have c1 : wr.cell? ⟨w.heap.size, 0, none⟩ = some (.int .i64 u) := (hbl.cell (p := ⟨w.heap.size, 0, none⟩) hz1').trans d1
            have c2 : wr.cell? ⟨w.heap.size, 1, none⟩ = some (.int .i64 d) := (hbl.cell (p := ⟨w.heap.size, 1, none⟩) hz1').trans d2
            obtain ⟨mo, hmo, hmg⟩ := own_or3 (n := wr.heap.size) (fun g e => (hpl g e).2) (by omega)
            have HMG : Hid (∀ g, (Value.slice pa ds.length pc).ownBlock = some g → mo = g) := hmg
            have HI : Hid (Ints (wr.alloc (.cells #[.int .i64 (i : Int)] 3)) (wr.alloc (.cells #[.int .i64 (i : Int)] 3)).heap.size mo (.slice (some ⟨wr.heap.size, 0, none⟩) 1 1) [(i : Int)]) := by
              have := ints_one wr (i : Int) mo (by omega)
              rw [Hid, show (wr.alloc (.cells #[.int .i64 (i : Int)] 3)).heap.size = wr.heap.size + 1 by simp]
              exact this
            clear hpl hmg
            by_cases e1 : (i : Int) = (t : Int)
            · have y1 : ((i : Int) == (t : Int)) = true := by simpa using e1
              have E1 : Hid ((i : Int) = (t : Int)) := e1
              clear e1
              have HO : Hid (Rws ((wr.alloc (.cells #[.int .i64 (i : Int)] 3)).alloc (.cells #[.slice (some ⟨wr.heap.size, 0, none⟩) 1 1, .int .i64 u] 37)) w1.heap.size (.slice pa ds.length pc) ds) := HW.out.keep (bal (ba _ _) _)
              go_wp2_with (at_builtin; refine wpList_append_own_at _ rfl _ _ 25 rfl w1.heap.size 37 i0 (.agg #[.slice none 0 0, .int .i64 0]) 2 32 Try.underlying25 hi0 hz0 hz1 hz2 rfl (by decide) _ _ _ rfl HO.out.1 ⟨wr.heap.size + 1, 0, none⟩ 1 1 [.slice (some ⟨wr.heap.size, 0, none⟩) 1 1, .int .i64 u] rfl ?q1 ?q2 ?q3 ?q4 ?q5 ?q6 ?_)
              case q1 => rfl
              case q2 =>
                intro j u hj
                match j, hj with
                | 0, hj => simp at hj; subst hj; simp [go_sem, Addr.add]
                | 1, hj => simp at hj; subst hj; simp [go_sem, Addr.add]
              case q3 => intro u hu; simp at hu; rcases hu with rfl | rfl <;> rfl
              case q4 => have := HDL.out; simp [maxLen]; omega
              case q5 => have := HDL.out; omega
              case q6 => simp; omega
              intro v3 w3 hown3 hgrow hnil hat
              have HW3 : Hid (Rws w3 w1.heap.size v3 (ds ++ [(.slice (some ⟨wr.heap.size, 0, none⟩) 1 1, [(i : Int)], u)])) := HO.out.app hown3 hgrow (by simpa using hat) (HI.out.at2 (ba _ _)) HMG.out
              have hb3 : Below w1.heap.size w1 w3 := (bal (bal hbl _) _).grown hgrow (by simp; omega) (owns_block HO.out.1)
              obtain ⟨a3, c3, rfl⟩ := HW3.out.slice
              have HD3 : Hid (rd (ds ++ [((.slice (some ⟨wr.heap.size, 0, none⟩) 1 1, [(i : Int)], u) : Tr)]) = (resL u d (t : Int) M).take (i + 1) ∧ (ds ++ [((.slice (some ⟨wr.heap.size, 0, none⟩) 1 1, [(i : Int)], u) : Tr)]).length = i + 1) := by
                refine ⟨?_, by simp [HD.out.2]⟩
                rw [res_take h1, ← HD.out.1]
                simp only [rd, List.map_append, List.map_cons, List.map_nil]
                rw [if_pos E1.out]
              clear hown3 hgrow hnil hat HO
              go_wp2
              go_roundw
              case rel => exact ⟨i + 1, _, by go_num, by omega, HD3, HW3, hb3⟩
              case measure => simp [intOf]; omega
            · have y1 : ((i : Int) == (t : Int)) = false := by simpa using e1
              have HO : Hid (Rws ((wr.alloc (.cells #[.int .i64 (i : Int)] 3)).alloc (.cells #[.slice (some ⟨wr.heap.size, 0, none⟩) 1 1, .int .i64 d] 37)) w1.heap.size (.slice pa ds.length pc) ds) := HW.out.keep (bal (ba _ _) _)
              go_wp2_with (at_builtin; refine wpList_append_own_at _ rfl _ _ 25 rfl w1.heap.size 37 i0 (.agg #[.slice none 0 0, .int .i64 0]) 2 32 Try.underlying25 hi0 hz0 hz1 hz2 rfl (by decide) _ _ _ rfl HO.out.1 ⟨wr.heap.size + 1, 0, none⟩ 1 1 [.slice (some ⟨wr.heap.size, 0, none⟩) 1 1, .int .i64 d] rfl ?q1 ?q2 ?q3 ?q4 ?q5 ?q6 ?_)
              case q1 => rfl
              case q2 =>
                intro j u hj
                match j, hj with
                | 0, hj => simp at hj; subst hj; simp [go_sem, Addr.add]
                | 1, hj => simp at hj; subst hj; simp [go_sem, Addr.add]
              case q3 => intro u hu; simp at hu; rcases hu with rfl | rfl <;> rfl
              case q4 => have := HDL.out; simp [maxLen]; omega
              case q5 => have := HDL.out; omega
              case q6 => simp; omega
              intro v3 w3 hown3 hgrow hnil hat
              have HW3 : Hid (Rws w3 w1.heap.size v3 (ds ++ [(.slice (some ⟨wr.heap.size, 0, none⟩) 1 1, [(i : Int)], d)])) := HO.out.app hown3 hgrow (by simpa using hat) (HI.out.at2 (ba _ _)) HMG.out
              have hb3 : Below w1.heap.size w1 w3 := (bal (bal hbl _) _).grown hgrow (by simp; omega) (owns_block HO.out.1)
              obtain ⟨a3, c3, rfl⟩ := HW3.out.slice
              have HD3 : Hid (rd (ds ++ [((.slice (some ⟨wr.heap.size, 0, none⟩) 1 1, [(i : Int)], d) : Tr)]) = (resL u d (t : Int) M).take (i + 1) ∧ (ds ++ [((.slice (some ⟨wr.heap.size, 0, none⟩) 1 1, [(i : Int)], d) : Tr)]).length = i + 1) := by
                refine ⟨?_, by simp [HD.out.2]⟩
                rw [res_take h1, ← HD.out.1]
                simp only [rd, List.map_append, List.map_cons, List.map_nil]
                rw [if_neg e1]
              clear hown3 hgrow hnil hat HO
              go_wp2
              go_roundw
              case rel => exact ⟨i + 1, _, by go_num, by omega, HD3, HW3, hb3⟩
              case measure => simp [intOf]; omega
          · obtain rfl : i = M := by omega
            have HF : Hid (rd ds = resL u d (t : Int) i) := by rw [Hid, HD.out.1, List.take_of_length_le (by simp [resL])]
            have HP2 : Hid (Parts wr wr.heap.size (.slice pa ds.length pc) ds) := HW.out.parts (by have := HDL.out; omega)
            have kc2 := makeR_any wr.heap.size (.slice pa ds.length pc) ds wr (Nat.le_refl _) HP2.out l er (by rw [HF.out]; exact HR.out)
            clear HW HD hpl HF HR
            go_wp2_with fail
            refine kc2.mono ?_
            rintro e w5 ⟨v5, xs, rfl, k1, k2, k3⟩
            obtain ⟨b5, d5, rfl⟩ := k2.slice
            have hzz : w.heap.size ≤ wr.heap.size := by omega
            have HZ : Hid (DistQ w l er (.returned (.tuple #[.slice b5 xs.length d5, .int .i64 er])) w5) := ⟨_, xs, rfl, k1, k2.mono hzz, bt (bt G1 hbl) k3⟩
            clear kc2 k1 k2 k3
            go_wp2
            exact bodyPost_ret (v := .tuple #[.slice b5 xs.length d5, .int .i64 er]) (by simp [results, Try.results37, go_sem]) rfl HZ.out
    · rw [if_pos cb] at hr
      simp only [Prod.mk.injEq] at hr
      obtain ⟨rfl, rfl⟩ := hr
      clear he0 hrt
      by_cases b1 : many < 1
      · clear cb
        go_enter Try.func37, Try.ntmps37
        go_wp2_with fail
        refine (kc _).mono ?_
        rintro e w1 ⟨rfl, hb1⟩
        have G1 := bt (ba _ _) hb1
        obtain ⟨hc1, hf1⟩ := bcell hb1
        go_wp2
        exact bodyPost_ret (v := .tuple #[.slice none 0 0, .int .i64 3]) (by simp [results, Try.results37, go_sem]) rfl (DistQ.err G1)
      · by_cases b2 : 4096 < many
        · clear cb
          go_enter Try.func37, Try.ntmps37
          go_wp2_with fail
          refine (kc _).mono ?_
          rintro e w1 ⟨rfl, hb1⟩
          have G1 := bt (ba _ _) hb1
          obtain ⟨hc1, hf1⟩ := bcell hb1
          go_wp2
          exact bodyPost_ret (v := .tuple #[.slice none 0 0, .int .i64 3]) (by simp [results, Try.results37, go_sem]) rfl (DistQ.err G1)
        · by_cases b3 : truth < 0
          · clear cb
            go_enter Try.func37, Try.ntmps37
            go_wp2_with fail
            refine (kc _).mono ?_
            rintro e w1 ⟨rfl, hb1⟩
            have G1 := bt (ba _ _) hb1
            obtain ⟨hc1, hf1⟩ := bcell hb1
            go_wp2
            exact bodyPost_ret (v := .tuple #[.slice none 0 0, .int .i64 3]) (by simp [results, Try.results37, go_sem]) rfl (DistQ.err G1)
          · have b4 : many ≤ truth := by omega
            clear cb
            go_enter Try.func37, Try.ntmps37
            go_wp2_with fail
            refine (kc _).mono ?_
            rintro e w1 ⟨rfl, hb1⟩
            have G1 := bt (ba _ _) hb1
            obtain ⟨hc1, hf1⟩ := bcell hb1
            go_wp2
            exact bodyPost_ret (v := .tuple #[.slice none 0 0, .int .i64 3]) (by simp [results, Try.results37, go_sem]) rfl (DistQ.err G1)
  · rw [if_pos c] at hr
    simp only [Prod.mk.injEq] at hr
    obtain ⟨rfl, rfl⟩ := hr
    have c1 : (e0 == 0) = false := by simpa using c
    have c2 : (e0 != 0) = true := by simpa using c
    clear he0
    go_enter Try.func37, Try.ntmps37
    go_wp2_with fail
    refine (kc _).mono ?_
    rintro e w1 ⟨rfl, hb1⟩
    have G1 := bt (ba _ _) hb1
    obtain ⟨hc1, hf1⟩ := bcell hb1
    go_wp2
    exact bodyPost_ret (v := .tuple #[.slice none 0 0, .int .i64 e0]) (by simp [results, Try.results37, go_sem]) rfl (DistQ.err G1)
end Go.Proofs.Ytfcbkcoagoncoaa
