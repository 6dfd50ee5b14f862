import Derived.Test.YtdcdjjemndadaaaKex
namespace Go.Proofs.Ytdcdjjemndadaaa
open Go.RowKit Go.Proofs.Ytdcdjjemndadaaa.Ds

set_option maxHeartbeats 1000000 in
set_option maxRecDepth 100000 in
theorem keyed_any (B : Nat) (v u : Value) (ts : List Tr) (fs : List Fl) (w : World) (hB : B ≤ w.heap.size) (hp : Parts w B v ts) (hq : Fws w B u fs) (hd : Dis (rd ts)) (F : List Int → List Pt) (hF : thenT (fd fs) = F) (hn : ∀ p ∈ rd ts, Dis (F p.1)) (T : List Int → List Pt) (hT : T = fun x => tagL (idx (rd ts) x) (F x)) :
    Calls Try.prog 37 #[v, u] w fun e w' => ∃ v' hs, e = .returned v' ∧ Hst T (rd ts) hs ts.length ∧ Fws w' w'.heap.size v' hs ∧ Below w.heap.size w w' := by
  have HP : Hid (Parts w B v ts) := hp
  have HQ : Hid (Fws w B u fs) := hq
  have HD : Hid (Dis (rd ts) ∧ (∀ p ∈ rd ts, Dis (F p.1)) ∧ thenT (fd fs) = F ∧ T = fun x => tagL (idx (rd ts) x) (F x)) := ⟨hd, hn, hF, hT⟩
  obtain ⟨a, c, rfl, _, hul, _⟩ := hp
  obtain ⟨ua, uc, rfl, _⟩ := hq
  obtain ⟨i0, hi0, hz0, hz1, hz2⟩ := info_parts info32
  obtain ⟨j0, hj0, hy0, hy1, hy2⟩ := info_parts info52
  clear hd hn hF hT
  go_enter Try.func37, Try.ntmps37
  go_wp2
  go_loopw [5, 13] (fun ov iv wr => ∃ (i : Nat) (hs : List Fl), iv = .int .i64 (i : Int) ∧ i ≤ ts.length ∧ Hid (Hst T (rd ts) hs i ∧ Fwr wr w.heap.size ov hs) ∧ Below w.heap.size w wr) (fun _ iv _ => ts.length - (intOf iv).toNat)
  case atStart => exact ⟨0, [], rfl, Nat.zero_le _, ⟨Hst.nil _ _, Fwr.nil _ _⟩, Below.refl _ _⟩
  case round => as_aux_lemma =>
    obtain ⟨i, hs, rfl, hit, HH, bw⟩ := hrel
    have hbs := bw.size
    have HHL : Hid (hs.length ≤ ts.length) := by have := HH.out.1.len (by rw [rd_len]; exact hit); show hs.length ≤ ts.length; omega
    have hpl := HH.out.2.lt
    obtain ⟨pa, pc, rfl⟩ := HH.out.2.slice
    by_cases h1 : i < ts.length
    · obtain ⟨b, o, sa, sc, xs, k, rfl, hb, hs0, c1, c2, hIx⟩ := HP.out.get hB bw h1
      have HS : Hid ((rd ts)[i]? = some (xs, k)) := rd_get hs0
      have HN : Hid (Dis (F xs)) := HD.out.2.1 (xs, k) (List.mem_of_getElem? HS.out)
      have HIx : Hid (Ints wr B B (.slice sa xs.length sc) xs) := hIx
      clear hs0 hIx
      go_wp2_with fail
      have G1 : Below w.heap.size w (wr.alloc (.cells #[.slice sa xs.length sc, .int .i64 k] 32)) := bal bw _
      refine (then_any B B _ _ fs xs _ (Nat.le_trans hB G1.size) (Nat.le_trans hB G1.size) (HQ.out.at hB G1) (HIx.out.at (by omega) (ba _ _)) (F xs) (by rw [HD.out.2.2.1])).mono ?_
      rintro e w3 ⟨rv, us, rfl, hrr, hrp, hb3⟩
      have HU : Hid (rd us = F xs ∧ Parts w3 w3.heap.size rv us) := ⟨hrr, hrp⟩
      obtain ⟨ra, rc, rfl, _, huu, _⟩ := hrp
      obtain ⟨N, hN⟩ : ∃ N, wr.heap.size = N := ⟨_, rfl⟩
      have hs3 : N + 1 ≤ w3.heap.size := by have := hb3.size; rw [← hN]; simpa using this
      have g1 : w3.cell? ⟨N, 0, none⟩ = some (.slice sa xs.length sc) := by rw [← hN]; exact (hb3.cell (p := ⟨wr.heap.size, 0, none⟩) (by simp)).trans (by simp [go_sem])
      have HB3 : Hid (Below wr.heap.size wr w3) := bt (ba _ _) hb3
      have G3 : Below w.heap.size w w3 := bt G1 hb3
      have HF3 : Hid (Fwr w3 w.heap.size (.slice pa hs.length pc) hs) := HH.out.2.keep HB3.out
      have HI3 : Hid (Ints w3 B B (.slice sa xs.length sc) xs) := HIx.out.at (by omega) HB3.out
      obtain ⟨mo, hmo, hmo2, hmg⟩ := own_or2 (v := .slice pa hs.length pc) (lo := w.heap.size) (n := w3.heap.size) (fun g e => ⟨(hpl g e).1, by have := (hpl g e).2; omega⟩) (by omega)
      have HO : Hid (∀ g, (Value.slice pa hs.length pc).ownBlock = some g → mo = g) := hmg
      rw [hN]
      clear hrr hb3 G1 hmg hN
      go_wp2
      go_loopw [8, 23] (fun lv jv wq => ∃ (j : Nat) (ds : List Tr), jv = .int .i64 (j : Int) ∧ j ≤ us.length ∧ Hid (Pgd i (F xs) ds j ∧ Rws wq w3.heap.size lv ds ∧ Frs w3.heap.size ds) ∧ Below w3.heap.size w3 wq) (fun _ jv _ => us.length - (intOf jv).toNat)
      case atStart => exact ⟨0, [], rfl, Nat.zero_le _, ⟨Pgd.nil _ _, Rws.nil _ _, Frs.nil _⟩, Below.refl _ _⟩
      case round => as_aux_lemma =>
        obtain ⟨j, ds, rfl, hjt, HE, hbq⟩ := hrel
        have hqs := hbq.size
        have bq : Below w.heap.size w wr := bt G3 hbq
        have HEL : Hid (ds.length ≤ us.length) := by have := HE.out.1.len; rw [← HU.out.1, rd_len] at this; exact this
        have hpl2 := HE.out.2.1.lt
        obtain ⟨ea, ec, rfl⟩ := HE.out.2.1.slice
        by_cases h2 : j < us.length
        · obtain ⟨yb, yo, ya, yc, ys, q, rfl, hby, hsy, f1, f2, hIy⟩ := HU.out.2.get (Nat.le_refl _) hbq h2
          have HSY : Hid ((F xs)[j]? = some (ys, q)) := by have := rd_get hsy; rw [HU.out.1] at this; exact this
          have hyl : ys.length ≤ 16 := by
            have h6 := dis_okO HN.out (List.mem_of_getElem? HSY.out)
            simp [okO] at h6
            exact h6.1
          obtain ⟨zs, hzs⟩ : ∃ zs, [(i : Int)] ++ ys = zs := ⟨_, rfl⟩
          have HZ : Hid ([(i : Int)] ++ ys = zs ∧ 1 + ys.length = zs.length) := ⟨hzs, by rw [← hzs, List.length_append]; rfl⟩
          obtain ⟨mo3, hm1, hm2, hm3⟩ := own_or2 (v := .slice ea ds.length ec) (lo := w3.heap.size) (n := wr.heap.size + 1) (fun g e => ⟨(hpl2 g e).1, Nat.lt_succ_of_lt (hpl2 g e).2⟩) (by omega)
          have HO2 : Hid (∀ g, (Value.slice ea ds.length ec).ownBlock = some g → w3.heap.size ≤ g ∧ g < wr.heap.size ∧ mo3 = g) := fun g e => ⟨(hpl2 g e).1, (hpl2 g e).2, hm3 g e⟩
          have HIy : Hid (Ints wr w3.heap.size w3.heap.size (.slice ya ys.length yc) ys) := hIy
          clear hsy hIy hpl2 hm3 hzs
          go_wp2_with fail
          generalize hOb : Obj.cells #[Value.slice ya ys.length yc, Value.int IntKind.i64 q] 32 = O
          have d1 : (wr.alloc O).cell? ⟨wr.heap.size, 0, none⟩ = some (.slice ya ys.length yc) := by rw [← hOb]; simp [go_sem]
          have d2 : (wr.alloc O).cell? ⟨wr.heap.size, 1, none⟩ = some (.int .i64 q) := by rw [← hOb]; simp [go_sem]
          have d7 : (wr.alloc O).heap.size = wr.heap.size + 1 := by simp
          obtain ⟨W, hW⟩ : ∃ W, wr.alloc O = W := ⟨_, rfl⟩
          have HBW : Hid (Below wr.heap.size wr W) := hW ▸ ba wr O
          rw [hW] at d1 d2 d7 ⊢
          obtain ⟨WA, hWA0⟩ : ∃ WA, (W.alloc (.cells #[.int .i64 (i : Int)] 3)).drew = WA := ⟨_, rfl⟩
          have hWA : Below W.heap.size W WA := by rw [← hWA0]; exact (bal (Below.refl _ _) _).drew
          have hWAs : WA.heap.size = wr.heap.size + 2 := by rw [← hWA0]; show (W.alloc _).heap.size = _; simp; omega
          have HOA : Hid (WA.ownsRow W.heap.size 3 1 (.slice (some ⟨wr.heap.size + 1, 0, none⟩) 1 1) 1 ([(i : Int)].map (Value.int .i64))) := by
            rw [Hid, ← hWA0, ← d7]
            exact owns_one W _ _ (Nat.le_refl _)
          have HIyA : Hid (Ints WA w3.heap.size w3.heap.size (.slice ya ys.length yc) ys) := (HIy.out.at (by omega) HBW.out).at (by omega) hWA
          have HRw : Hid (Rws W w3.heap.size (.slice ea ds.length ec) ds) := HE.out.2.1.keep HBW.out
          have lw : wr.heap.size < W.heap.size := by omega
          have kA2 : WA.cell? ⟨wr.heap.size, 0, none⟩ = some (.slice ya ys.length yc) := (hWA.cell (p := ⟨wr.heap.size, 0, none⟩) lw).trans d1
          have kA3 : WA.cell? ⟨wr.heap.size, 1, none⟩ = some (.int .i64 q) := (hWA.cell (p := ⟨wr.heap.size, 1, none⟩) lw).trans d2
          have kB2 : (W.alloc (.cells #[.int .i64 (i : Int)] 3)).cell? ⟨wr.heap.size, 0, none⟩ = some (.slice ya ys.length yc) := ((ba W _).cell (p := ⟨wr.heap.size, 0, none⟩) lw).trans d1
          have kB3 : (W.alloc (.cells #[.int .i64 (i : Int)] 3)).cell? ⟨wr.heap.size, 1, none⟩ = some (.int .i64 q) := ((ba W _).cell (p := ⟨wr.heap.size, 1, none⟩) lw).trans d2
          clear hOb hW f1 f2
          go_region_held3 (fun w' => w'.cell? ⟨wr.heap.size, 0, none⟩ = some (.slice ya ys.length yc) ∧ w'.cell? ⟨wr.heap.size, 1, none⟩ = some (.int .i64 q))
            ((go_split_ands; refine ⟨?_, ?_⟩ <;> first | assumption | (simp [go_sem, *]; done)))
            (first
              | (refine step_append_lies _ rfl _ _ 23 rfl w3.heap.size 32 i0 (.agg #[.slice none 0 0, .int .i64 0]) 2 32 Try.underlying23 hi0 hz0 hz1 hz2 rfl (by decide) (.slice ea ds.length ec) ds.length (flat ds) rfl ?_ ⟨w4.heap.size, 0, none⟩ 1 1 [.slice a4 zs.length c4, .int .i64 q] rfl rfl ?_ ?_ (by decide) ?_ ?_ ?_ (w4.heap.size + 1) ?_ ?_; (exact (HRw.out.keep (bal bA4 _)).1); (exact two_cells0 w4 _ q _ rfl); (intro z hz; simp at hz; rcases hz with rfl | rfl <;> rfl); (have := HEL.out; simp [maxLen]; omega); (have := HEL.out; omega); (have := bA4.size; simp; omega); (simp); intro g cap w6 hown hgrow hat hlt6; have m2 : w6.cell? ⟨wr.heap.size, 0, none⟩ = some (.slice ya ys.length yc) := hgrow.cell (((bal bA4 _).cell (p := ⟨wr.heap.size, 0, none⟩) lw).trans d1) (fun e => absurd (HO2.out wr.heap.size e.symm).2.1 (Nat.lt_irrefl _)); have m3 : w6.cell? ⟨wr.heap.size, 1, none⟩ = some (.int .i64 q) := hgrow.cell (((bal bA4 _).cell (p := ⟨wr.heap.size, 1, none⟩) lw).trans d2) (fun e => absurd (HO2.out wr.heap.size e.symm).2.1 (Nat.lt_irrefl _)))
              | (refine step_app_ints WA rfl _ _ rfl W.heap.size w3.heap.size w3.heap.size 1 (some ⟨wr.heap.size + 1, 0, none⟩) 1 [(i : Int)] ys rfl HOA.out (.slice ya ys.length yc) rfl HIyA.out ?_ ?_ zs.length HZ.out.2 ?_; (omega); (omega); intro a4 c4 w4 hown4 hgrow4 hat4; have bA4 : Below W.heap.size W w4 := (hWA.grown hgrow4 (by omega) (owns_block HOA.out)); have j2 : w4.cell? ⟨wr.heap.size, 0, none⟩ = some (.slice ya ys.length yc) := (bA4.cell (p := ⟨wr.heap.size, 0, none⟩) lw).trans d1; have j3 : w4.cell? ⟨wr.heap.size, 1, none⟩ = some (.int .i64 q) := (bA4.cell (p := ⟨wr.heap.size, 1, none⟩) lw).trans d2; have j5 : ∀ O, (w4.alloc O).cell? ⟨wr.heap.size, 0, none⟩ = some (.slice ya ys.length yc) := fun O => ((bal bA4 O).cell (p := ⟨wr.heap.size, 0, none⟩) lw).trans d1; have j6 : ∀ O, (w4.alloc O).cell? ⟨wr.heap.size, 1, none⟩ = some (.int .i64 q) := fun O => ((bal bA4 O).cell (p := ⟨wr.heap.size, 1, none⟩) lw).trans d2))
          have hzl : zs.length ≤ 32 := by have := HZ.out.2; omega
          have hown5 : w4.ownsRow W.heap.size 3 1 (.slice a4 zs.length c4) zs.length (zs.map (Value.int .i64)) := by rw [HZ.out.1] at hown4; exact hown4
          have HI4 : ∀ m, m < W.heap.size → Ints w4 w4.heap.size m (.slice a4 zs.length c4) zs := fun m hm => ints_of_owns (n := zs.length) rfl (by omega) hown5 hm
          have hb6 : Below W.heap.size W (w4.alloc (.cells #[.slice a4 zs.length c4, .int .i64 q] 32)) := bal bA4 _
          have HR3 : Rws (w4.alloc (.cells #[.slice a4 zs.length c4, .int .i64 q] 32)) w3.heap.size (.slice ea ds.length ec) ds := HRw.out.keep hb6
          have HR4 : Hid (Rws w6 w3.heap.size (.slice (some ⟨g, 0, none⟩) (ds.length + 1) cap) (ds ++ [(.slice a4 zs.length c4, zs, q)])) :=
            HR3.more hown hgrow (hat.imp id fun e => by rw [e]; simp) ((HI4 mo3 (by omega)).at2 (ba _ _)) (fun g e => (HO2.out g e).2.2)
          have hb7 : Below w3.heap.size w3 (w4.alloc (.cells #[.slice a4 zs.length c4, .int .i64 q] 32)) := bt (bt hbq HBW.out) hb6
          have B6 : Below w3.heap.size w3 w6 := hb7.grown hgrow hb7.size (owns_block HR3.1)
          have HF6 : Hid (Frs w3.heap.size (ds ++ [(.slice a4 zs.length c4, zs, q)])) := by
            intro t ht
            rcases List.mem_append.1 ht with ht | ht
            · exact HE.out.2.2 t ht
            · simp at ht
              subst ht
              exact fr_of (lo := w3.heap.size) (fun m hm => HI4 m (by omega))
          have HP6 : Hid (Pgd i (F xs) (ds ++ [(.slice a4 zs.length c4, zs, q)]) (j + 1)) := HE.out.1.step HSY.out HZ.out.1
          clear hown hgrow hat hlt6 m2 m3 HR3 HI4 hb6 hb7 hown5 hown4 hgrow4 hat4 bA4 j2 j3 j5 j6 kA2 kA3 kB2 kB3 d1 d2
          go_wp2
          go_roundw
          case rel => exact ⟨j + 1, ds ++ [(.slice a4 zs.length c4, zs, q)], by go_num, h2, ⟨HP6.out, HR4.out, HF6.out⟩, B6⟩
          case measure => simp [intOf]; omega
        · have hrd : rd ds = tagL i (F xs) := HE.out.1.all (by rw [← HU.out.1, rd_len]; omega)
          have HTX : Hid (rd ds = T xs) := by show rd ds = T xs; rw [hrd, HD.out.2.2.2]; simp only [idx_at HD.out.1.rise HS.out]
          have cq := (hbq.cell (p := ⟨N, 0, none⟩) (by show N < w3.heap.size; omega)).trans g1
          have bw3 : Below w3.heap.size w3 (wr.alloc (.cells #[.slice sa xs.length sc, .slice ea ds.length ec] 52)) := bal hbq _
          have HFk : Hid (Fwr (wr.alloc (.cells #[.slice sa xs.length sc, .slice ea ds.length ec] 52)) w.heap.size (.slice pa hs.length pc) hs) := HF3.out.keep bw3
          have HPI : Hid (Ints (wr.alloc (.cells #[.slice sa xs.length sc, .slice ea ds.length ec] 52)) (wr.alloc (.cells #[.slice sa xs.length sc, .slice ea ds.length ec] 52)).heap.size mo (.slice sa xs.length sc) xs) := (HI3.out.at (by omega) bw3).mono (by have := bw3.size; omega) (.inr (by omega))
          have HPN : Hid (PartsN (wr.alloc (.cells #[.slice sa xs.length sc, .slice ea ds.length ec] 52)) (wr.alloc (.cells #[.slice sa xs.length sc, .slice ea ds.length ec] 52)).heap.size mo (.slice ea ds.length ec) ds) := (rws_away HE.out.2.1 HE.out.2.2 hmo2 (by have := HEL.out; omega)).at2 (ba _ _)
          have BB : Hid (Below w.heap.size w (wr.alloc (.cells #[.slice sa xs.length sc, .slice ea ds.length ec] 52))) := bt G3 bw3
          have hhl := HHL.out
          clear hrd bw3
          go_wp2_with (at_builtin; refine wpList_append_lies _ rfl _ _ 41 rfl w.heap.size 52 j0 (.agg #[.slice none 0 0, .slice none 0 0]) 2 48 Try.underlying41 hj0 hy0 hy1 hy2 rfl (by decide) _ _ _ rfl HFk.out.1 ⟨wr.heap.size, 0, none⟩ 1 1 [.slice sa xs.length sc, .slice ea ds.length ec] rfl ?q1 ?q2 ?q3 (by decide) ?q4 ?q5 ?q6 (wr.heap.size + 1) ?q7 ?_)
          case q1 => rfl
          case q2 => exact two_slices _ _ _ _ rfl
          case q3 => intro u hu; simp at hu; rcases hu with rfl | rfl <;> rfl
          case q4 => simp [maxLen]; omega
          case q5 => omega
          case q6 => have := bq.size; simp; omega
          case q7 => simp
          intro g cap w11 hown hgrow hat hlt
          have HFn : Hid (Fwr w11 w.heap.size (.slice (some ⟨g, 0, none⟩) (hs.length + 1) cap) (hs ++ [((.slice sa xs.length sc, xs), (.slice ea ds.length ec, ds))])) :=
            HFk.out.app (f := ((.slice sa xs.length sc, xs), (.slice ea ds.length ec, ds))) hown hgrow (hat.imp (fun e => by rw [e]; rfl) (fun e => by rw [e]; simp [Value.ownBlock])) HPI.out HPN.out HO.out
          have B11 : Below w.heap.size w w11 := BB.out.grown hgrow BB.out.size (owns_block HFk.out.1)
          have HHn : Hid (Hst T (rd ts) (hs ++ [((.slice sa xs.length sc, xs), (.slice ea ds.length ec, ds))]) (i + 1)) := HH.out.1.step (f := ((.slice sa xs.length sc, xs), (.slice ea ds.length ec, ds))) HS.out HTX.out
          clear hown hgrow hat hlt HFk HPI HPN
          go_wp2
          go_roundw
          case rel => exact ⟨i + 1, _, by go_num, h1, ⟨HHn.out, by simpa using HFn.out⟩, B11⟩
          case measure => simp [intOf]; omega
    · obtain rfl : i = ts.length := by omega
      go_wp2
      exact bodyPost_ret (v := .slice pa hs.length pc) (by simp [results, Try.results37, go_sem]) rfl ⟨_, hs, rfl, HH.out.1, HH.out.2.fws (by have := HHL.out; omega), bw⟩
end Go.Proofs.Ytdcdjjemndadaaa
