import Derived.Test.YtfcbkcoagoncoaaQf26
namespace Go.Proofs.Ytfcbkcoagoncoaa
open Go.RowKit Go.Proofs.Ytfcbkcoagoncoaa.Ds

/-- all alike -/
def resD (d : Int) (many : Nat) : List Pt := (List.range many).map fun (i : Nat) => ([(i : Int)], d)
theorem resD_get {d : Int} {many i : Nat} (h : i < many) : (resD d many)[i]? = some ([(i : Int)], d) := by simp [resD, h]
theorem resD_len (d : Int) (many : Nat) : (resD d many).length = many := by simp [resD]
theorem res_set {u d : Int} {many t : Nat} : (resD d many).set t ([(t : Int)], u) = resL u d t many := by
  apply List.ext_getElem?
  intro i
  rw [List.getElem?_set]
  by_cases h : t = i
  · subst h
    simp [resD, resL]
    split <;> simp_all
  · rw [if_neg h]
    simp only [resD, resL, List.getElem?_map]
    by_cases hi : i < many
    · simp [hi]
      intro hc; omega
    · simp [hi]

set_option maxHeartbeats 4000000 in
set_option maxRecDepth 100000 in
/-- Respond -/
theorem respond_fr (u d many truth : Int) (l : List Pt) (er : Int) (hr : resT u d many truth = (l, er)) (w : World) :
    Calls Try.prog 18 #[rv u d, .int .i64 many, .int .i64 truth] w (DistP w l er) := by
  obtain ⟨e0, he0⟩ : ∃ e0, lossE u d = e0 := ⟨_, rfl⟩
  have kc := noLoss_any u d e0 he0
  rw [resT, he0] at hr
  by_cases c : e0 = 0
  · subst c
    obtain ⟨hrt, hdu, hd1, hu1⟩ := loss_ok he0
    rw [if_neg (by simp)] at hr
    by_cases cb : 1 ≤ many ∧ many ≤ 4096 ∧ 0 ≤ truth ∧ truth < many
    · obtain ⟨b1, b2, b3, b4⟩ := cb
      rw [if_neg (by simp; omega)] at hr
      have m1 : 0 ≤ (many - 1) * d := Int.mul_nonneg (by omega) (by omega)
      have m2 : (many - 1) * d ≤ 4096 * 1073741824 := Int.mul_le_mul (by omega) (by omega) (by omega) (by omega)
      by_cases cm : 1073741824 < u + (many - 1) * d
      · rw [if_pos cm] at hr
        simp only [Prod.mk.injEq] at hr
        obtain ⟨rfl, rfl⟩ := hr
        clear he0 hrt
        go_enter Try.func18, Try.ntmps18
        go_wp2_with fail
        refine (kc _).mono ?_
        rintro e w1 ⟨rfl, hb1⟩
        have G1 := bt (ba _ _) hb1
        obtain ⟨hc1, hf1⟩ := bcell hb1
        go_wp2
        exact bodyPost_ret (v := .tuple #[.slice none 0 0, .int .i64 4]) (by simp [results, Try.results18, go_sem]) rfl (DistP.err G1)
      · rw [if_neg cm] at hr
        obtain ⟨M, rfl⟩ := Int.eq_ofNat_of_zero_le (show 0 ≤ many by omega)
        obtain ⟨t, rfl⟩ := Int.eq_ofNat_of_zero_le b3
        rw [Int.toNat_natCast] at hr
        have HR : Hid (makeT (resL u d (t : Int) M) = (l, er)) := hr
        have htM : t < M := by omega
        obtain ⟨i0, hi0, hz0, hz1, hz2⟩ := info_parts info32
        have hmk : ∀ u : World, (Instr.makeSlice 25 (.int .i64 (M : Int)) (.int .i64 (M : Int))).run Try.prog u =
            .ok (.slice (some ⟨u.heap.size, 0, none⟩) M M) (u.alloc (.cells (madeCells #[.slice none 0 0, .int .i64 0] (M * 2)) 37)) := fun u => by
          have h := run_make (P := Try.prog) u 25 37 i0 (.agg #[.slice none 0 0, .int .i64 0]) Try.underlying25 hi0 hz0 .i64 .i64 (M : Int) (M : Int) (by omega) (Int.le_refl _) (by rw [hz2]; omega) (by omega)
          rw [Int.toNat_natCast] at h
          simpa [hz1, Value.cells] using h
        clear he0 hrt hr
        go_enter Try.func18, Try.ntmps18
        go_wp2_with fail
        refine (kc _).mono ?_
        rintro e w1 ⟨rfl, hb1⟩
        have G1 := bt (ba _ _) hb1
        obtain ⟨hc1, hf1⟩ := bcell hb1
        have d1 : w1.cell? ⟨w.heap.size, 0, none⟩ = some (.int .i64 u) := by rw [hc1 _ _ (by simp)]; simp [go_sem]
        have d2 : w1.cell? ⟨w.heap.size, 1, none⟩ = some (.int .i64 d) := by rw [hc1 _ _ (by simp)]; simp [go_sem]
        have hz1' : w.heap.size < w1.heap.size := by have := hb1.size; simp at this; omega
        clear hc1 hf1
        go_wp2
        go_loopw [44] (fun s wr => ∃ (i : Nat) (us : List Tr), s = .int .i64 (i : Int) ∧ i ≤ M ∧ Hid (us.length = M ∧ (rd us).take i = (resD d M).take i) ∧ Hid (Row wr w1.heap.size 0 us) ∧ Hid (∀ t ∈ us, Ints wr wr.heap.size w1.heap.size t.1 t.2.1) ∧ Below w1.heap.size w1 wr) (fun s _ => M - (intOf s).toNat)
        case atStart =>
          refine ⟨0, List.replicate M no, rfl, Nat.zero_le _, ⟨by simp, by simp⟩, row_made _ _, fun t ht => ?_, ba _ _⟩
          rw [List.eq_of_mem_replicate ht]
          exact ints_nil _ _ _
        case round =>
          obtain ⟨i, us, rfl, hit, HU, HRw, HI, hbl⟩ := hrel
          have hlt := HRw.out.lt
          have c1 : wr.cell? ⟨w.heap.size, 0, none⟩ = some (.int .i64 u) := (hbl.cell (p := ⟨w.heap.size, 0, none⟩) hz1').trans d1
          have c2 : wr.cell? ⟨w.heap.size, 1, none⟩ = some (.int .i64 d) := (hbl.cell (p := ⟨w.heap.size, 1, none⟩) hz1').trans d2
          have hwr : w.heap.size < wr.heap.size := by omega
          have ne1 : ¬ w.heap.size = w1.heap.size := by omega
          by_cases h1 : i < M
          · obtain ⟨t0, ht0⟩ := get_lt (l := us) (i := i) (by rw [HU.out.1]; exact h1)
            obtain ⟨r4, r5⟩ := HRw.out.cells i t0 ht0
            have r2 := HRw.out.thaw (i * 2) (by rw [HU.out.1]; omega)
            have r3 := HRw.out.thaw (i * 2 + 1) (by rw [HU.out.1]; omega)
            simp only [Nat.zero_add] at r2 r3 r4 r5
            obtain ⟨v0, hv0⟩ : ∃ v0, t0.1 = v0 := ⟨_, rfl⟩
            rw [hv0] at r4
            clear ht0 hv0
            obtain ⟨Ws, hWs⟩ : ∃ Ws, (wr.setCell ⟨w1.heap.size, i * 2, none⟩ (.slice (some ⟨wr.heap.size, 0, none⟩) 1 1)).setCell ⟨w1.heap.size, i * 2 + 1, none⟩ (.int .i64 d) = Ws := ⟨_, rfl⟩
            have hsz : Ws.heap.size = wr.heap.size := by rw [← hWs]; simp
            have HR2 : Hid (Row (Ws.alloc (.cells #[.int .i64 (i : Int)] 3)) w1.heap.size 0 (us.set i (.slice (some ⟨wr.heap.size, 0, none⟩) 1 1, [(i : Int)], d))) := by
              have := HRw.out.set0 (i := i) (by rw [HU.out.1]; exact h1) (.slice (some ⟨wr.heap.size, 0, none⟩) 1 1) [(i : Int)] d
              rw [hWs] at this
              exact this.keep (ba _ _)
            have HI2 : Hid (∀ t ∈ us.set i (.slice (some ⟨wr.heap.size, 0, none⟩) 1 1, [(i : Int)], d), Ints (Ws.alloc (.cells #[.int .i64 (i : Int)] 3)) (Ws.alloc (.cells #[.int .i64 (i : Int)] 3)).heap.size w1.heap.size t.1 t.2.1) := by
              intro t ht
              rcases List.mem_or_eq_of_mem_set ht with h | rfl
              · have h2 := ((HI.out t h).set (p := ⟨w1.heap.size, i * 2, none⟩) rfl (.slice (some ⟨wr.heap.size, 0, none⟩) 1 1)).set (p := ⟨w1.heap.size, i * 2 + 1, none⟩) rfl (.int .i64 d)
                rw [hWs, ← hsz] at h2
                exact h2.at2 (ba _ _)
              · have h2 := ints_one Ws (i : Int) w1.heap.size (by omega)
                rw [show (Ws.alloc (.cells #[.int .i64 (i : Int)] 3)).heap.size = Ws.heap.size + 1 by simp, ← hsz]
                exact h2
            have HB2 : Hid (Below w1.heap.size w1 (Ws.alloc (.cells #[.int .i64 (i : Int)] 3))) := by
              rw [Hid, ← hWs]
              exact bal (bs (bs hbl (Nat.le_refl _) _) (Nat.le_refl _) _) _
            have HT2 : Hid ((us.set i (.slice (some ⟨wr.heap.size, 0, none⟩) 1 1, [(i : Int)], d)).length = M ∧ (rd (us.set i (.slice (some ⟨wr.heap.size, 0, none⟩) 1 1, [(i : Int)], d))).take (i + 1) = (resD d M).take (i + 1)) := by
              refine ⟨by simp [HU.out.1], ?_⟩
              rw [rd_set, take_set_succ _ (by rw [rd_len, HU.out.1]; exact h1), HU.out.2, List.take_add_one, resD_get h1]
              rfl
            rw [← hWs] at HR2 HI2 HB2
            clear hWs hsz
            go_wp2
            go_roundw
            case rel => exact ⟨i + 1, _, by go_num, h1, HT2, HR2, HI2, HB2.out⟩
            case measure => simp [intOf]; omega
          · obtain rfl : i = M := by omega
            have HD : Hid (rd us = resD d i) := by
              have := HU.out.2
              rw [rd_take_all (by rw [HU.out.1]), List.take_of_length_le (by rw [resD_len]; exact Nat.le_refl _)] at this
              exact this
            obtain ⟨⟨s0, x0, k0⟩, ht0⟩ := get_lt (l := us) (i := t) (by rw [HU.out.1]; exact htM)
            obtain ⟨r4, r5⟩ := HRw.out.cells t _ ht0
            have r3 := HRw.out.thaw (t * 2 + 1) (by rw [HU.out.1]; omega)
            have HRt : Hid (Row (wr.setCell ⟨w1.heap.size, t * 2 + 1, none⟩ (.int .i64 u)) w1.heap.size 0 (us.set t (s0, x0, u))) := by
              have := HRw.out.setW ht0 u
              rw [Nat.zero_add] at this
              exact this
            have hx0 : x0 = [(t : Int)] := by
              have := rd_get ht0
              rw [HD.out, resD_get htM] at this
              simp at this
              exact this.1.symm
            have HP2 : Hid (Parts (wr.setCell ⟨w1.heap.size, t * 2 + 1, none⟩ (.int .i64 u)) (wr.setCell ⟨w1.heap.size, t * 2 + 1, none⟩ (.int .i64 u)).heap.size (.slice (some ⟨w1.heap.size, 0, none⟩) i i) (us.set t (s0, x0, u))) := by
              have hl : (us.set t ((s0, x0, u) : Tr)).length = i := by simp [HU.out.1]
              refine Own.parts (lo := w1.heap.size) ⟨w1.heap.size, 0, i, by rw [hl], by rw [hl]; exact Nat.le_refl _, by rw [hl]; omega, Nat.le_refl _, HRt.out, fun t' ht' => ?_⟩
              have h3 : Ints wr wr.heap.size w1.heap.size t'.1 t'.2.1 := by
                rcases List.mem_or_eq_of_mem_set ht' with h | rfl
                · exact HI.out t' h
                · exact HI.out (s0, x0, k0) (List.mem_of_getElem? ht0)
              have h4 := h3.set (p := ⟨w1.heap.size, t * 2 + 1, none⟩) rfl (.int .i64 u)
              simpa using h4
            have HRD : Hid (rd (us.set t (s0, x0, u)) = resL u d (t : Int) i) := by
              rw [Hid, rd_set, HD.out, hx0, ← res_set]
            have kc2 := make_fr _ _ _ _ (Nat.le_refl _) HP2.out l er (by rw [HRD.out]; exact HR.out)
            have GB : Hid (Below w.heap.size w (wr.setCell ⟨w1.heap.size, t * 2 + 1, none⟩ (.int .i64 u))) := bs (bt G1 hbl) (by show w.heap.size ≤ w1.heap.size; omega) _
            simp only [Nat.zero_add] at r3 r4 r5
            clear ht0 hx0 HRt HP2 HRD HD HRw HI HU HR
            go_wp2_with fail
            refine kc2.mono ?_
            rintro e w5 ⟨v5, xs, rfl, k1, k2, k3, k4⟩
            obtain ⟨b5, d5, rfl⟩ := k2.slice
            have HZ : Hid (DistP w l er (.returned (.tuple #[.slice b5 xs.length d5, .int .i64 er])) w5) := ⟨_, xs, rfl, k1, k2.mono GB.out.size, bt GB.out k3, k4.mono GB.out.size⟩
            clear kc2 k1 k2 k3 k4
            go_wp2
            exact bodyPost_ret (v := .tuple #[.slice b5 xs.length d5, .int .i64 er]) (by simp [results, Try.results18, go_sem]) rfl HZ.out
    · rw [if_pos cb] at hr
      simp only [Prod.mk.injEq] at hr
      obtain ⟨rfl, rfl⟩ := hr
      clear he0 hrt
      by_cases b1 : many < 1
      · clear cb
        go_enter Try.func18, Try.ntmps18
        go_wp2_with fail
        refine (kc _).mono ?_
        rintro e w1 ⟨rfl, hb1⟩
        have G1 := bt (ba _ _) hb1
        obtain ⟨hc1, hf1⟩ := bcell hb1
        go_wp2
        exact bodyPost_ret (v := .tuple #[.slice none 0 0, .int .i64 3]) (by simp [results, Try.results18, go_sem]) rfl (DistP.err G1)
      · by_cases b2 : 4096 < many
        · clear cb
          go_enter Try.func18, Try.ntmps18
          go_wp2_with fail
          refine (kc _).mono ?_
          rintro e w1 ⟨rfl, hb1⟩
          have G1 := bt (ba _ _) hb1
          obtain ⟨hc1, hf1⟩ := bcell hb1
          go_wp2
          exact bodyPost_ret (v := .tuple #[.slice none 0 0, .int .i64 3]) (by simp [results, Try.results18, go_sem]) rfl (DistP.err G1)
        · by_cases b3 : truth < 0
          · clear cb
            go_enter Try.func18, Try.ntmps18
            go_wp2_with fail
            refine (kc _).mono ?_
            rintro e w1 ⟨rfl, hb1⟩
            have G1 := bt (ba _ _) hb1
            obtain ⟨hc1, hf1⟩ := bcell hb1
            go_wp2
            exact bodyPost_ret (v := .tuple #[.slice none 0 0, .int .i64 3]) (by simp [results, Try.results18, go_sem]) rfl (DistP.err G1)
          · have b4 : many ≤ truth := by omega
            clear cb
            go_enter Try.func18, Try.ntmps18
            go_wp2_with fail
            refine (kc _).mono ?_
            rintro e w1 ⟨rfl, hb1⟩
            have G1 := bt (ba _ _) hb1
            obtain ⟨hc1, hf1⟩ := bcell hb1
            go_wp2
            exact bodyPost_ret (v := .tuple #[.slice none 0 0, .int .i64 3]) (by simp [results, Try.results18, go_sem]) rfl (DistP.err G1)
  · rw [if_pos c] at hr
    simp only [Prod.mk.injEq] at hr
    obtain ⟨rfl, rfl⟩ := hr
    have c1 : (e0 == 0) = false := by simpa using c
    have c2 : (e0 != 0) = true := by simpa using c
    clear he0
    go_enter Try.func18, Try.ntmps18
    go_wp2_with fail
    refine (kc _).mono ?_
    rintro e w1 ⟨rfl, hb1⟩
    have G1 := bt (ba _ _) hb1
    obtain ⟨hc1, hf1⟩ := bcell hb1
    go_wp2
    exact bodyPost_ret (v := .tuple #[.slice none 0 0, .int .i64 e0]) (by simp [results, Try.results18, go_sem]) rfl (DistP.err G1)
end Go.Proofs.Ytfcbkcoagoncoaa
