import Derived.Test.YtcglfojbgdlbhaaMon
import Derived.Deep.DeepCutAuto
import Derived.Deep.AppendLies
namespace Go.Proofs.Ytcglfojbgdlbhaa
open Go.RowKit Go.Proofs.Ytcglfojbgdlbhaa.Ds

set_option maxHeartbeats 8000000 in
set_option maxRecDepth 100000 in
theorem distMonad_walk (B : Nat) (v0 v1 v2 v3 : Value) (ts : List Tr) (fs gs : List Fl) (xs : List Int) (w : World) (hB : B ≤ w.heap.size) (hp : Parts w B v0 ts) (hf : Fws w B v1 fs) (hg : Fws w B v2 gs) (hx : Ints w B B v3 xs) :
    Calls Try.prog 6 #[v0, v1, v2, v3] w fun e w' => e = .returned (.bool true) ∧ Below w.heap.size w w' := by
  have H0 : Hid (Parts w B v0 ts) := hp
  have H1 : Hid (Fws w B v1 fs) := hf
  have H2 : Hid (Fws w B v2 gs) := hg
  have H3 : Hid (Ints w B B v3 xs) := hx
  obtain ⟨a0, c0, rfl, hc0, hl0, _⟩ := hp
  obtain ⟨a1, c1, rfl, _⟩ := hf
  obtain ⟨a2, c2, rfl, _⟩ := hg
  obtain ⟨a3, c3, rfl, _⟩ := hx
  obtain ⟨F, HF⟩ : ∃ F, Hid (thenT (fd fs) = F) := ⟨_, rfl⟩
  obtain ⟨G, HG⟩ : ∃ G, Hid (thenT (fd gs) = G) := ⟨_, rfl⟩
  obtain ⟨⟨ls, es⟩, HS⟩ : ∃ x, Hid (makeT [(xs, 1)] = x) := ⟨_, rfl⟩
  obtain ⟨⟨la, ea⟩, HA⟩ : ∃ x, Hid (bindT ls F = x) := ⟨_, rfl⟩
  obtain ⟨ew, HW⟩ : ∃ x, Hid ((ownT (F xs)).2 = x) := ⟨_, rfl⟩
  obtain ⟨ed, HE⟩ : ∃ x, Hid ((ownT (rd ts)).2 = x) := ⟨_, rfl⟩
  obtain ⟨⟨lf, ef⟩, HDF⟩ : ∃ x, Hid (bindT (rd ts) F = x) := ⟨_, rfl⟩
  obtain ⟨⟨l1, e1⟩, HON⟩ : ∃ x, Hid (bindT lf G = x) := ⟨_, rfl⟩
  obtain ⟨i0, hi0, hz0, hz1, hz2⟩ := info_parts info52
  go_enter Try.func6, Try.ntmps6
  go_wp2_with fail
  refine (alive_any w).mono ?_
  rintro e w0 ⟨rfl, G0⟩
  go_wp2_with fail
  refine (sure_any B B _ xs w0 (Nat.le_trans hB G0.size) (H3.out.at hB G0) ls es HS.out).mono ?_
  rintro e w1 ⟨sv, su, rfl, hsr, hso, hb1⟩
  obtain ⟨sa, sc, rfl⟩ := hso.slice
  have G1 : Below w.heap.size w w1 := bt G0 hb1
  have HSU : Hid (rd su = ls ∧ Parts w1 w1.heap.size (.slice sa su.length sc) su) := ⟨hsr, hso.parts⟩
  clear hsr hso hb1 G0
  go_upto_if 32 with fail
  go_cut [] (fun wx => Below w1.heap.size w1 wx)
  case first => as_aux_lemma =>
    by_cases z : es = 0
    · subst z
      obtain ⟨hls, hok⟩ := sure_is HS.out
      have hbs := bind_sure hok F (hls ▸ HA.out)
      rw [HW.out] at hbs
      have HBS : Hid ((ea = 0 ↔ ew = 0) ∧ (ea = 0 → la = F xs)) := hbs
      clear hls hok hbs
      go_wp2_with fail
      refine (pbind_any w1.heap.size _ _ su fs w1 (Nat.le_refl _) HSU.out.2 ((H1.out.at hB G1).mono (Nat.le_trans hB G1.size)) la ea (by rw [HSU.out.1, HF.out]; exact HA.out)).mono ?_
      rintro e w2 ⟨av, au, rfl, har, hao, hb2, _⟩
      obtain ⟨aa, ac, rfl⟩ := hao.slice
      have HAU : Hid (rd au = la ∧ Parts w2 w2.heap.size (.slice aa au.length ac) au) := ⟨har, hao.parts⟩
      have G2 : Below w.heap.size w w2 := bt G1 hb2
      clear har hao
      go_wp2_with fail
      refine (then_any B B _ _ fs xs w2 (Nat.le_trans hB G2.size) (Nat.le_trans hB G2.size) (H1.out.at hB G2) (H3.out.at hB G2) (F xs) (by rw [HF.out])).mono ?_
      rintro e w3 ⟨tv, tu, rfl, htr, htp, hb3⟩
      have HTU : Hid (rd tu = F xs ∧ Parts w3 w3.heap.size tv tu) := ⟨htr, htp⟩
      obtain ⟨ta, tc, rfl, _⟩ := htp
      clear htr
      have kw := wrong_any w3.heap.size _ tu w3 (Nat.le_refl _) HTU.out.2 ew (by rw [HTU.out.1]; exact HW.out)
      by_cases za : ea = 0
      · obtain rfl : ew = 0 := HBS.out.1.1 za
        have hla := HBS.out.2 za
        subst za
        have ks := fun W h => sameR_any w3.heap.size (.slice aa au.length ac) (.slice ta tu.length tc) au tu W h
        have HPA : Hid (Parts w3 w3.heap.size (.slice aa au.length ac) au ∧ decide (rd au = rd tu) = true) := ⟨(HAU.out.2.at (Nat.le_refl _) hb3).mono hb3.size, decide_eq_true (by rw [HAU.out.1, HTU.out.1, hla])⟩
        clear hla
        go_wp2_with fail
        refine kw.mono ?_
        rintro e w4 ⟨rfl, hb4⟩
        clear kw
        go_wp2_with fail
        refine (ks w4 hb4.size (HPA.out.1.at (Nat.le_refl _) hb4) (HTU.out.2.at (Nat.le_refl _) hb4) true HPA.out.2).mono ?_
        rintro e w5 ⟨rfl, hb5⟩
        clear ks
        go_wp2
        go_meet
        exact bt (bt (bt hb2 hb3) hb4) hb5
      · have zw : ¬ ew = 0 := fun h => za (HBS.out.1.2 h)
        have za' : (ea == 0) = false := by simpa using za
        have zw' : (ew == 0) = false := by simpa using zw
        go_wp2_with fail
        refine kw.mono ?_
        rintro e w4 ⟨rfl, hb4⟩
        clear kw
        go_wp2
        go_meet
        exact bt (bt hb2 hb3) hb4
    · have z' : (es == 0) = false := by simpa using z
      go_wp2
      go_meet
      exact Below.refl _ _
  case rest => as_aux_lemma =>
    have G2 : Below w.heap.size w wc := bt G1 hcut
    clear hcut HSU HS HA HW G1
    have kw := wrong_any B (.slice a0 ts.length c0) ts wc (Nat.le_trans hB G2.size) (H0.out.at hB G2) ed HE.out
    go_wp2_with fail
    refine kw.mono ?_
    rintro e w3 ⟨rfl, hb3⟩
    have G3 : Below w.heap.size w w3 := bt G2 hb3
    clear kw hb3 G2
    by_cases zd : ed = 0
    · subst zd
      have hdis : Dis (rd ts) := (ownT_ok (Prod.ext rfl HE.out : ownT (rd ts) = ((ownT (rd ts)).1, 0))).2
      have HD : Hid (Dis (rd ts)) := hdis
      have kb := pbind_any B (.slice a0 ts.length c0) (.slice none 0 0) ts [] w3 (Nat.le_trans hB G3.size) (H0.out.at hB G3) (fws_nil _ _) (rd ts) 0 (bind_same hdis fun _ => rfl)
      clear hdis
      go_wp2_with fail
      refine kb.mono ?_
      rintro e w4 ⟨mv, mu, rfl, hmr, hmo, hb4, _⟩
      obtain ⟨ma, mc, rfl⟩ := hmo.slice
      have G4 : Below w.heap.size w w4 := bt G3 hb4
      have ks := sameR_any w4.heap.size (.slice ma mu.length mc) (.slice a0 ts.length c0) mu ts w4 (Nat.le_refl _) hmo.parts ((H0.out.at hB G4).mono (Nat.le_trans hB G4.size)) true (decide_eq_true hmr)
      clear kb hmr hmo hb4 G3
      go_wp2_with fail
      refine ks.mono ?_
      rintro e w5 ⟨rfl, hb5⟩
      have G5 : Below w.heap.size w w5 := bt G4 hb5
      clear ks hb5 G4
      go_wp2_with fail
      refine (pbind_any B _ _ ts fs w5 (Nat.le_trans hB G5.size) (H0.out.at hB G5) (H1.out.at hB G5) lf ef (by rw [HF.out]; exact HDF.out)).mono ?_
      rintro e w6 ⟨fv, fu, rfl, hfr, hfo, hb6, _⟩
      obtain ⟨fa, fc, rfl⟩ := hfo.slice
      have HFU : Hid (rd fu = lf ∧ Parts w6 w6.heap.size (.slice fa fu.length fc) fu) := ⟨hfr, hfo.parts⟩
      have G6 : Below w.heap.size w w6 := bt G5 hb6
      clear hfr hfo hb6 G5
      by_cases zf : ef = 0
      · subst zf
        go_wp2_with fail
        refine (pbind_any w6.heap.size _ _ fu gs w6 (Nat.le_refl _) HFU.out.2 ((H2.out.at hB G6).mono (Nat.le_trans hB G6.size)) l1 e1 (by rw [HFU.out.1, HG.out]; exact HON.out)).mono ?_
        rintro e w7 ⟨ov, ou, rfl, hor, hoo, hb7, _⟩
        obtain ⟨oa, oc, rfl⟩ := hoo.slice
        have HOU : Hid (rd ou = l1 ∧ Parts w7 w7.heap.size (.slice oa ou.length oc) ou) := ⟨hor, hoo.parts⟩
        have G7 : Below w.heap.size w w7 := bt G6 hb7
        have t7 : w.heap.size ≤ w7.heap.size := G7.size
        clear hor hoo hb7 G6 HFU
        by_cases z1 : e1 = 0
        · subst z1
          obtain ⟨T, hT⟩ : ∃ T : List Int → List Pt, T = fun x => (bindT (F x) G).1 := ⟨_, rfl⟩
          have HT : Hid (T = fun x => (bindT (F x) G).1) := hT
          clear hT
          go_wp2
          go_loopw [18, 92] (fun hv iv wr => ∃ (i : Nat) (hs : List Fl), iv = .int .i64 (i : Int) ∧ i ≤ ts.length ∧ Hid (Hst T (rd ts) hs i ∧ Fwr wr w7.heap.size hv hs ∧ ∀ p ∈ (rd ts).take i, (bindT (F p.1) G).2 = 0) ∧ Below w7.heap.size w7 wr) (fun _ iv _ => ts.length - (intOf iv).toNat)
          case atStart => exact ⟨0, [], rfl, Nat.zero_le _, ⟨Hst.nil _ _, Fwr.nil _ _, by simp⟩, Below.refl _ _⟩
          case round => as_aux_lemma =>
            obtain ⟨i, hs, rfl, hit, HH, hbl⟩ := hrel
            have hbs := hbl.size
            have G8 : Below w.heap.size w wr := bt G7 hbl
            obtain ⟨ha, hc, rfl⟩ := HH.out.2.1.slice
            by_cases h1 : i < ts.length
            · obtain ⟨b, o, pa, pc, ys, k, rfl, hb, hsg, d1, d2, hIx⟩ := H0.out.get hB G8 h1
              have HSg : Hid ((rd ts)[i]? = some (ys, k)) := rd_get hsg
              have HIx : Hid (Ints wr B B (.slice pa ys.length pc) ys) := hIx
              obtain ⟨⟨lt, et⟩, HBT⟩ : ∃ x, Hid (bindT (F ys) G = x) := ⟨_, rfl⟩
              clear hsg hIx
              go_wp2_with fail
              have G9 : Below w.heap.size w (wr.alloc (.cells #[.slice pa ys.length pc, .int .i64 k] 32)) := bal G8 _
              refine (then_any B B _ _ fs ys _ (Nat.le_trans hB G9.size) (Nat.le_trans hB G9.size) (H1.out.at hB G9) (HIx.out.at (by omega) (ba _ _)) (F ys) (by rw [HF.out])).mono ?_
              rintro e w9 ⟨rv, ru, rfl, hrr, hrp, hb9⟩
              have HRU : Hid (rd ru = F ys ∧ Parts w9 w9.heap.size rv ru) := ⟨hrr, hrp⟩
              obtain ⟨ra, rc, rfl, _⟩ := hrp
              have hs9 : wr.heap.size + 1 ≤ w9.heap.size := by have := hb9.size; simpa using this
              have G10 : Below w.heap.size w w9 := bt G9 hb9
              have c9 : w9.cell? ⟨wr.heap.size, 0, none⟩ = some (.slice pa ys.length pc) := (hb9.cell (p := ⟨wr.heap.size, 0, none⟩) (by simp)).trans (by simp [go_sem])
              have B9 : Hid (Below wr.heap.size wr w9) := bt (ba _ _) hb9
              clear hrr hb9 G9
              go_wp2_with fail
              refine (pbind_any w9.heap.size _ _ ru gs w9 (Nat.le_refl _) HRU.out.2 ((H2.out.at hB G10).mono (Nat.le_trans hB G10.size)) lt et (by rw [HRU.out.1, HG.out]; exact HBT.out)).mono ?_
              rintro e w10 ⟨tv, tu, rfl, htr, hto, hb10, htf⟩
              obtain ⟨ta, tc, rfl⟩ := hto.slice
              have c10 : w10.cell? ⟨wr.heap.size, 0, none⟩ = some (.slice pa ys.length pc) := (hb10.cell (p := ⟨wr.heap.size, 0, none⟩) (by show wr.heap.size < _; omega)).trans c9
              have G11 : Below w.heap.size w w10 := bt G10 hb10
              by_cases zt : et = 0
              · subst zt
                obtain ⟨m, hm1, hm2, hm3⟩ := own_or2 (v := .slice ha hs.length hc) (lo := w7.heap.size) (n := wr.heap.size + 1) (fun g e => ⟨(HH.out.2.1.lt g e).1, Nat.lt_succ_of_lt (HH.out.2.1.lt g e).2⟩) (by omega)
                have bw : Below wr.heap.size wr (w10.alloc (.cells #[.slice pa ys.length pc, .slice ta tu.length tc] 52)) := bal (bt B9.out hb10) _
                have HFk : Hid (Fwr (w10.alloc (.cells #[.slice pa ys.length pc, .slice ta tu.length tc] 52)) w7.heap.size (.slice ha hs.length hc) hs) := HH.out.2.1.keep bw
                have HPI : Hid (Ints (w10.alloc (.cells #[.slice pa ys.length pc, .slice ta tu.length tc] 52)) (w10.alloc (.cells #[.slice pa ys.length pc, .slice ta tu.length tc] 52)).heap.size m (.slice pa ys.length pc) ys) := (HIx.out.at (by omega) bw).mono (by have := bw.size; omega) (.inr (by omega))
                have HPN : Hid (PartsN (w10.alloc (.cells #[.slice pa ys.length pc, .slice ta tu.length tc] 52)) (w10.alloc (.cells #[.slice pa ys.length pc, .slice ta tu.length tc] 52)).heap.size m (.slice ta tu.length tc) tu) := (own_away hto htf (by omega)).at2 (ba _ _)
                have HMM : Hid (∀ g, (Value.slice ha hs.length hc).ownBlock = some g → m = g) := hm3
                have HTR : Hid (rd tu = lt) := htr
                have hhl : hs.length ≤ 1073741824 := by have := HH.out.1.len (by rw [rd_len]; exact hit); omega
                have hw10 : w7.heap.size ≤ w10.heap.size := by have := hb10.size; omega
                have BB : Hid (Below w7.heap.size w7 (w10.alloc (.cells #[.slice pa ys.length pc, .slice ta tu.length tc] 52))) := bt hbl bw
                clear hto htf htr hm3 bw hb10 c9
                go_wp2_with (at_builtin; refine wpList_append_lies _ rfl _ _ 41 rfl w7.heap.size 52 i0 (.agg #[.slice none 0 0, .slice none 0 0]) 2 48 Try.underlying41 hi0 hz0 hz1 hz2 rfl (by decide) _ _ _ rfl HFk.out.1 ⟨w10.heap.size, 0, none⟩ 1 1 [.slice pa ys.length pc, .slice ta tu.length tc] rfl ?q1 ?q2 ?q3 (by decide) ?q4 ?q5 ?q6 (w10.heap.size + 1) ?q7 ?_)
                case q1 => rfl
                case q2 => exact two_slices _ _ _ _ rfl
                case q3 => intro u hu; simp at hu; rcases hu with rfl | rfl <;> rfl
                case q4 => simp [maxLen]; omega
                case q5 => omega
                case q6 => simp; omega
                case q7 => simp
                intro g cap w11 hown hgrow hat hlt
                have HFn : Hid (Fwr w11 w7.heap.size (.slice (some ⟨g, 0, none⟩) (hs.length + 1) cap) (hs ++ [((.slice pa ys.length pc, ys), (.slice ta tu.length tc, tu))])) :=
                  HFk.out.app (f := ((.slice pa ys.length pc, ys), (.slice ta tu.length tc, tu))) hown hgrow (hat.imp (fun e => by rw [e]; rfl) (fun e => by rw [e]; simp [Value.ownBlock])) HPI.out HPN.out HMM.out
                have B11 : Below w7.heap.size w7 w11 := BB.out.grown hgrow (by simp; omega) (owns_block HFk.out.1)
                have HHn : Hid (Hst T (rd ts) (hs ++ [((.slice pa ys.length pc, ys), (.slice ta tu.length tc, tu))]) (i + 1) ∧ ∀ p ∈ (rd ts).take (i + 1), (bindT (F p.1) G).2 = 0) := by
                  refine ⟨HH.out.1.step (f := ((.slice pa ys.length pc, ys), (.slice ta tu.length tc, tu))) HSg.out (by show rd tu = T ys; rw [HTR.out, HT.out]; simp only [HBT.out]), ?_⟩
                  rw [List.take_add_one, HSg.out]
                  intro p hp
                  rcases List.mem_append.1 hp with hp | hp
                  · exact HH.out.2.2 p hp
                  · simp at hp; subst hp; simp only [HBT.out]
                clear hown hgrow hat hlt HFk HPI HPN
                go_wp2
                go_roundw
                case rel => exact ⟨i + 1, _, by go_num, h1, ⟨HHn.out.1, by simpa using HFn.out, HHn.out.2⟩, B11⟩
                case measure => simp [intOf]; omega
              · have zt' : (et == 0) = false := by simpa using zt
                go_wp2
                go_ret
                exact ⟨rfl, G11⟩
            · obtain ⟨⟨l2, e2⟩, HB2⟩ : ∃ x, Hid (bindT (rd ts) (thenT (fd hs)) = x) := ⟨_, rfl⟩
              have hhl : hs.length ≤ 1073741824 := by have := HH.out.1.len (by rw [rd_len]; exact hit); omega
              have kb := pbind_any wr.heap.size (.slice a0 ts.length c0) (.slice ha hs.length hc) ts hs wr (Nat.le_refl _) ((H0.out.at hB G8).mono (Nat.le_trans hB G8.size)) (HH.out.2.1.fws hhl) l2 e2 HB2.out
              go_wp2_with fail
              refine kb.mono ?_
              rintro e w9 ⟨uv, uu, rfl, hur, huo, hb9, _⟩
              obtain ⟨ua, uc, rfl⟩ := huo.slice
              have G9 : Below w.heap.size w w9 := bt G8 hb9
              clear kb
              by_cases z2 : e2 = 0
              · subst z2
                have htk : (rd ts).take i = rd ts := List.take_of_length_le (by rw [rd_len]; omega)
                have hall := HH.out.2.2
                rw [htk] at hall
                have heq : l1 = l2 := bind_assoc (F := F) (G := G) (H := thenT (fd hs)) (t := T) HDF.out HON.out (fun p hp => by rw [HT.out]; exact Prod.ext rfl (hall p hp)) (fun p hp => HH.out.1.all (by rw [rd_len]; omega) hp) HB2.out
                have ks := sameR_any w9.heap.size (.slice oa ou.length oc) (.slice ua uu.length uc) ou uu w9 (Nat.le_refl _) ((HOU.out.2.at (Nat.le_refl _) (bt hbl hb9)).mono (by have := hb9.size; omega)) huo.parts true (decide_eq_true (by rw [HOU.out.1, hur, heq]))
                clear htk hall heq hur huo
                go_wp2_with fail
                refine ks.mono ?_
                rintro e w12 ⟨rfl, hb12⟩
                clear ks
                go_wp2
                go_ret
                exact ⟨rfl, bt G9 hb12⟩
              · have z2' : (e2 == 0) = false := by simpa using z2
                clear hur huo
                go_wp2
                go_ret
                exact ⟨rfl, G9⟩
        · have z1' : (e1 == 0) = false := by simpa using z1
          go_wp2
          go_ret
          exact ⟨rfl, G7⟩
      · have zf' : (ef == 0) = false := by simpa using zf
        go_wp2
        go_ret
        exact ⟨rfl, G6⟩
    · have zd' : (ed == 0) = false := by simpa using zd
      go_wp2
      go_ret
      exact ⟨rfl, G3⟩
end Go.Proofs.Ytcglfojbgdlbhaa
