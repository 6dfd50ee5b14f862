import Derived.Test.YtjnclbhpdaonhaaFdm
import Derived.Test.YtjnclbhpdaonhaaRfr
namespace Go.Proofs.Ytjnclbhpdaonhaa
open Go.RowKit Go.Proofs.Ytjnclbhpdaonhaa.Ds

theorem parts_oneD (w : World) (B nb : Nat) (v : Value) (xs : List Int) (k : Int) (hB : B ≤ w.heap.size) (h : Ints w B nb v xs) :
    Parts (w.alloc (.cells #[v, .int .i64 k] 38)) (w.heap.size + 1) (.slice (some ⟨w.heap.size, 0, none⟩) 1 1) [(v, xs, k)] := by
  refine ⟨_, 1, rfl, by simp, by simp, fun t ht => ?_, fun _ => ⟨w.heap.size, 0, rfl, by omega, fun i t hi => ?_⟩⟩
  · simp at ht; subst ht
    exact (h.at hB (ba _ _)).mono (by omega) (.inr (by omega))
  · match i, hi with
    | 0, hi =>
      simp at hi; subst hi
      exact ⟨nc _ _ 0 _ rfl rfl, nc _ _ 1 _ rfl rfl⟩

set_option maxHeartbeats 4000000 in
set_option maxRecDepth 100000 in
theorem feed_any (B nb : Nat) (v u : Value) (ts : List Tr) (xs : List Int) (w : World) (hB : B ≤ w.heap.size) (hp : Parts w B v ts) (hu : Ints w B nb u xs) (l : List Pt) (er : Int) (hr : feedT (rd ts) xs = (l, er)) :
    Calls Try.prog 12 #[v, u] w (AnsR l er w) := by
  obtain ⟨⟨l0, e0⟩, ho⟩ : ∃ x, ownT (rd ts) = x := ⟨_, rfl⟩
  have kn := new_any B v ts w hB hp l0 e0 ho
  have HV : Hid (Ints w B nb u xs) := hu
  have HO : Hid (ownT (rd ts) = (l0, e0)) := ho
  have HR : Hid (feedT (rd ts) xs = (l, er)) := hr
  obtain ⟨a, c, rfl, hc, hl, _⟩ := hp
  obtain ⟨ua, uc, rfl, huc, hxl, _⟩ := hu
  clear hr ho
  go_enter Try.func12, Try.ntmps12
  go_wp2_with fail
  refine kn.mono ?_
  rintro e w1 ⟨hb1, ⟨h0, rfl⟩ | ⟨rfl, E, ra, rc, us, rfl, h1, h2, h3, h4⟩⟩
  · have h0' : (e0 == 0) = false := by simpa using h0
    have h := HR.out
    simp only [feedT, HO.out, if_neg h0, Prod.mk.injEq] at h
    obtain ⟨rfl, rfl⟩ := h
    clear kn
    go_wp2
    exact bodyPost_ret (v := .tuple #[.slice none 0 0, .int .i64 e0]) (by simp [results, Try.results12, go_sem]) rfl ⟨.slice none 0 0, [], rfl, rfl, parts_nil _ _, hb1⟩
  · obtain ⟨_, hD⟩ := ownT_ok HO.out
    rw [← h1] at hD h2
    have HU : Hid (rd us = rd ts) := h1
    have HD : Hid (Dis (rd us)) := hD
    have hEl := h2.lt
    have hs1 := hb1.size
    have HST : Hid (RoSt w1.heap.size E ra rc us w1 (0, 0, 1)) := RoSt.start hD h2 h3
    have ks := roSure_any w1.heap.size E ra rc us _ 0 0 1 w1 h2 h3 (Nat.le_refl _)
    have HFr : Hid (feedT (rd us) xs = (l, er)) := by rw [Hid, HU.out]; exact HR.out
    have HO2 : Hid ((ownT (rd us)).2 = 0) := by rw [Hid, HU.out, HO.out]
    clear kn h1 h2 h3 hD
    go_wp2_with fail
    refine ks.mono ?_
    rintro e w2 ⟨hb2, hn2, ho2⟩
    have hs2 := hb2.size
    have hbw2 : Below w.heap.size w w2 := bt hb1 hb2
    clear ks
    cases hsu : roSure (rd us) with
    | some o =>
      obtain ⟨sa, sc, rfl, hI⟩ := ho2 o hsu
      have hfe : l = [(o, 0)] ∧ er = 0 := by
        have h := HFr.out
        unfold feedT at h
        rw [if_pos HO2.out] at h
        match e : rd us, hsu with
        | [p], hsu =>
          rw [e] at h
          simp only [roSure, Option.some.injEq] at hsu
          simp only [Prod.mk.injEq] at h
          exact ⟨by rw [← h.1, hsu], h.2.symm⟩
      obtain ⟨rfl, rfl⟩ := hfe
      have HI : Hid (Ints w2 w2.heap.size 0 (.slice sa o.length sc) o) := hI 0 (by omega)
      clear hn2 ho2 hI hsu
      go_wp2
      have hpo := parts_oneD (w2.alloc (.cells #[.slice sa o.length sc, .int .i64 0] 38)) (w2.heap.size + 1) 0 (.slice sa o.length sc) o 0 (by simp) ((HI.out.keep (ba _ _)).mono (by omega) (.inl rfl))
      rw [show (w2.alloc (.cells #[.slice sa o.length sc, .int .i64 0] 38)).heap.size = w2.heap.size + 1 by simp] at hpo
      exact bodyPost_ret (v := .tuple #[.slice (some ⟨w2.heap.size + 1, 0, none⟩) 1 1, .int .i64 0]) (by simp [results, Try.results12, go_sem]) rfl ⟨_, [(.slice sa o.length sc, o, 0)], rfl, rfl, hpo.mono (by simp), bal (bal hbw2 _) _⟩
    | none =>
      have he := hn2 hsu
      subst he
      have hlen2 : 2 ≤ us.length := by
        rcases Nat.lt_or_ge us.length 2 with h1 | h1
        · match us, hsu, HD.out, h1 with
          | [], _, hD, _ => exact absurd rfl hD.ne
          | [t], hs, _, _ => simp [roSure, rd] at hs
        · exact h1
      obtain ⟨T, hTT⟩ : ∃ T, tot (rd us) = T := ⟨_, rfl⟩
      have HT : Hid (tot (rd us) = T) := hTT
      have hTb : 1 ≤ T ∧ T ≤ 1073741824 := by rw [← hTT]; exact ⟨HD.out.tpos, HD.out.le⟩
      have hfe : fdT T (rd us) 1 0 0 (xs.map lowB) = l ∧ er = 0 := by
        have h := HFr.out
        unfold feedT at h
        rw [if_pos HO2.out] at h
        match e : rd us, (by rw [← rd_len us] at hlen2; exact hlen2 : 2 ≤ (rd us).length) with
        | p :: q :: r, _ =>
          rw [e] at h hTT
          simp only [Prod.mk.injEq] at h
          rw [← hTT]
          exact ⟨h.1, h.2.symm⟩
      have HL : Hid (fdT T (rd us) 1 0 0 (xs.map lowB) = l) := hfe.1
      obtain rfl : er = 0 := hfe.2
      have HK : Hid (∀ t ∈ us, 0 ≤ t.2.2 ∧ t.2.2 ≤ 1073741824) := fun t ht => by
        have := HD.out.less (by rw [rd_len]; exact hlen2) t.2 (List.mem_map_of_mem (f := fun t : Tr => t.2) ht)
        rw [hTT] at this
        omega
      have HS2 : Hid (RoSt w1.heap.size E ra rc us w2 (0, 0, 1)) := ⟨HST.out.1.at hb2, HST.out.2.1.keep hb2, HST.out.2.2⟩
      obtain ⟨i0, hi0, hz0, hz1, hz2⟩ := info_parts info38
      have hb2a : Below w1.heap.size w1 (w2.alloc (.cells #[.slice none 0 0, .int .i64 0] 38)) := bal hb2 _
      have HS3 : Hid (RoSt w1.heap.size E ra rc us (w2.alloc (.cells #[.slice none 0 0, .int .i64 0] 38)) (0, 0, 1)) := ⟨HST.out.1.at hb2a, HST.out.2.1.keep hb2a, HST.out.2.2⟩
      clear hn2 ho2 hsu hTT hfe HR HFr HST HS2
      go_wp2
      go_loopw [10, 33] (fun ov iv wr => ∃ (i : Nat) (nd uu pl : Int) (ds : List Tr), iv = .int .i64 (i : Int) ∧ i ≤ xs.length ∧ 0 ≤ uu ∧ uu ≤ i ∧ ds.length ≤ i ∧ Hid (RoSt w1.heap.size E ra rc us wr (nd, uu, pl)) ∧ Hid (Rwd wr w1.heap.size ov ds) ∧ Hid (Frs w1.heap.size ds) ∧ Hid (w1.grownBy wr (some E)) ∧ Hid (rd ds ++ fdT T (rd us) pl nd uu ((xs.map lowB).drop i) = l)) (fun _ iv _ => xs.length - (intOf iv).toNat)
      case atStart => exact ⟨0, 0, 0, 1, [], rfl, Nat.zero_le _, by omega, by omega, by simp, HS3, Rwd.nil _ _, Frs.nil _, gb_below hb2a, by simpa [rd, Hid] using HL.out⟩
      case round =>
        obtain ⟨i, nd, uu, pl, ds, rfl, hix, hu0, hu1, hdl, HSt, HW, HF, HG, HE⟩ := hrel
        have hz := HG.out.size
        have hpl := HW.out.lt
        obtain ⟨pa, pc, rfl⟩ := HW.out.slice
        by_cases h5 : i < xs.length
        · obtain ⟨x, hx⟩ := get_lt h5
          have HX : Hid (xs[i]? = some x) := hx
          have hbB : Below w.heap.size w wr := hb1.trans (below_gb HG.out h4 hs1)
          obtain ⟨_, _, hv', _, _, hcl⟩ := HV.out.at hB hbB
          simp only [Value.slice.injEq] at hv'
          obtain ⟨rfl, _, rfl⟩ := hv'
          obtain ⟨ub, uo, rfl, hubB, _, hcell⟩ := hcl (ne_of_lt h5)
          have c1 := hcell i x hx
          obtain ⟨q1, q2, q3⟩ := HSt.out.2.2 hlen2
          simp only at q1 q2 q3
          rw [HT.out] at q2 q3
          have hnd := q3.le (by omega)
          rw [rd_len] at hnd
          have hfw := HSt.out.2.1.few
          have HSr : Rob wr E (.slice ra us.length rc) T nd uu pl := by have := HSt.out.1; rwa [HT.out] at this
          have kf := roFeed_any w1.heap.size E ra rc us T nd uu pl x (lowB x) wr HSr HSt.out.2.1 hz hlen2 hTb ⟨q1, q2⟩ HK.out ⟨hu0, by omega⟩ ⟨hnd.1, by omega⟩ (lowB_bit x) rfl
          have HQ : Hid (Nd T pl (rd us) nd) := q3
          have HPl : Hid (0 ≤ pl ∧ pl < T) := ⟨q1, q2⟩
          have hdr : Hid ((xs.map lowB).drop i = lowB x :: (xs.map lowB).drop (i + 1)) := by
            rw [Hid, List.drop_eq_getElem_cons (by simpa using h5)]
            simp [(List.getElem?_eq_some_iff.1 hx).2]
          have HPp : Hid (Rop wr w1.heap.size E ra rc us) := HSt.out.2.1
          have HBt : Hid (0 ≤ lowB x ∧ lowB x ≤ 1) := lowB_bit x
          obtain ⟨y, hy⟩ : ∃ y, lowB x = y := ⟨_, rfl⟩
          rw [hy] at kf hdr HBt
          clear hx hcl hcell HSr q1 q2 q3 hnd HSt hy
          go_wp2_with fail
          refine kf.mono ?_
          rintro e w3 ⟨hg3, ⟨rfl, k1, k2⟩ | ⟨fa, fc, o, rfl, k0, k1, k2⟩⟩
          · have hlen := List.getElem?_eq_none_iff.1 k1
            have HR3 : Hid (Rob w3 E (.slice ra us.length rc) (tot (rd us)) (2 * nd + y - (lvT T pl (rd us)).length) (uu + 1) (2 * pl % T)) := by rw [Hid, HT.out]; exact k2
            have HP3 : Hid (Rop w3 w1.heap.size E ra rc us) := HPp.out.gb hg3
            have HN3 : Hid (Nd T (2 * pl % T) (rd us) (2 * nd + y - (lvT T pl (rd us)).length)) := HQ.out.next (by omega) HBt.out (by have h1 := HBt.out; have h2 := HQ.out.le (show 0 < T by omega); omega)
            have HW3 : Hid (Rwd w3 w1.heap.size (.slice pa ds.length pc) ds) := HW.out.gb hg3 hEl HF.out
            have HG3 : Hid (w1.grownBy w3 (some E)) := gb_trans HG.out hg3
            have HE3 : Hid (rd ds ++ fdT T (rd us) (2 * pl % T) (2 * nd + y - (lvT T pl (rd us)).length) (uu + 1) ((xs.map lowB).drop (i + 1)) = l) := by
              have := HE.out
              rw [hdr.out] at this
              simp only [fdT, k1] at this
              exact this
            have hz3 := hg3.size
            clear kf k1 k2 hg3 HW HE HPp hlen hpl
            go_wp2
            go_roundw
            case rel =>
              refine ⟨i + 1, _, uu + 1, 2 * pl % T, ds, by go_num, h5, by omega, by omega, by omega, ⟨HR3.out.alloc _, HP3.out.keep ((ba _ _).mono (by omega)), fun _ => ?_⟩, HW3.out.keep (ba _ _), HF, gb_alloc HG3.out _, HE3⟩
              simp only
              rw [HT.out]
              exact ⟨Int.emod_nonneg _ (by omega), Int.emod_lt_of_pos _ (by omega), HN3.out⟩
            case measure => simp [intOf]; omega
          · have hz3 := hg3.size
            obtain ⟨mo, hmo, hmg⟩ := own_or (n := wr.heap.size) (fun g e => (hpl g e).2) (by omega)
            have HR3 : Hid (Rob w3 E (.slice ra us.length rc) (tot (rd us)) 0 0 1) := by rw [Hid, HT.out]; exact k2
            have HP3 : Hid (Rop w3 w1.heap.size E ra rc us) := HPp.out.gb hg3
            have HW3 : Hid (Rwd w3 w1.heap.size (.slice pa ds.length pc) ds) := HW.out.gb hg3 hEl HF.out
            have HG3 : Hid (w1.grownBy w3 (some E)) := gb_trans HG.out hg3
            have HE3 : Hid (rd (ds ++ [(.slice fa o.length fc, o, uu + 1)]) ++ fdT T (rd us) 1 0 0 ((xs.map lowB).drop (i + 1)) = l) := by
              have := HE.out
              rw [hdr.out] at this
              simp only [fdT, k1] at this
              simpa [Hid, rd] using this
            have HF3 : Hid (Frs w1.heap.size (ds ++ [(.slice fa o.length fc, o, uu + 1)])) := HF.out.snoc (fr_of (w := w3) (B := w3.heap.size) fun m hm => k0 m (by omega))
            have HI3 : Hid (Ints w3 w3.heap.size mo (.slice fa o.length fc) o) := k0 mo hmo
            have HO3 : Hid (Rwd ((w3.alloc (.cells #[.slice fa o.length fc, .int .i64 (uu + 1)] 38)).alloc (.cells #[.slice fa o.length fc, .int .i64 (uu + 1)] 38)) w1.heap.size (.slice pa ds.length pc) ds) := HW3.out.keep (bal (ba _ _) _)
            have HMG : Hid (∀ g, (Value.slice pa ds.length pc).ownBlock = some g → mo = g) := hmg
            clear kf k0 k1 k2 hg3 HW HE HPp hpl hmg HF HW3
            go_wp2_with (at_builtin; refine wpList_append_own_at _ rfl _ _ 25 rfl w1.heap.size 38 i0 (.agg #[.slice none 0 0, .int .i64 0]) 2 32 Try.underlying25 hi0 hz0 hz1 hz2 rfl (by decide) _ _ _ rfl HO3.out.1 ⟨w3.heap.size + 1, 0, none⟩ 1 1 [.slice fa o.length fc, .int .i64 (uu + 1)] rfl ?q1 ?q2 ?q3 ?q4 ?q5 ?q6 ?_)
            case q1 => rfl
            case q2 =>
              intro j u hj
              match j, hj with
              | 0, hj => simp at hj; subst hj; simp [go_sem, Addr.add]
              | 1, hj => simp at hj; subst hj; simp [go_sem, Addr.add]
            case q3 => intro u hu; simp at hu; rcases hu with rfl | rfl <;> rfl
            case q4 => simp [maxLen]; omega
            case q5 => omega
            case q6 => simp; omega
            intro v4 w4 hown4 hgrow hnil hat
            have HW4 : Hid (Rwd w4 w1.heap.size v4 (ds ++ [(.slice fa o.length fc, o, uu + 1)])) := HO3.out.app hown4 hgrow (by simpa using hat) (HI3.out.at2 (bal (ba _ _) _)) HMG.out
            have hb4 : Below w1.heap.size w3 w4 := (((Below.refl w1.heap.size w3).alloc (by omega) _).alloc (by simp; omega) _).grown hgrow (by simp; omega) (owns_block HO3.out.1)
            obtain ⟨a4, c4, rfl⟩ := HW4.out.slice
            have HG4 : Hid (w1.grownBy w4 (some E)) := ⟨hb4.os.trans HG3.out.os, hb4.tape.trans HG3.out.tape, hb4.output.trans HG3.out.output, Nat.le_trans HG3.out.size hb4.size, fun q hq hne => (hb4.block q hq).trans (HG3.out.block q hq hne)⟩
            have HS4 : Hid (RoSt w1.heap.size E ra rc us w4 (0, 0, 1)) := RoSt.start HD.out (HR3.out.keep hb4 hEl) (HP3.out.keep hb4)
            clear hown4 hgrow hnil hat HO3
            go_wp2
            go_roundw
            case rel => exact ⟨i + 1, 0, 0, 1, ds ++ [(.slice fa o.length fc, o, uu + 1)], by go_num, h5, by omega, by omega, by simp; omega, HS4, HW4, HF3, HG4, HE3⟩
            case measure => simp [intOf]; omega
        · have HLl : Hid (rd ds = l) := by
            have := HE.out
            rw [List.drop_eq_nil_of_le (by simp; omega)] at this
            simpa [Hid, fdT] using this
          have HW2 : Hid (Parts wr wr.heap.size (.slice pa ds.length pc) ds) := HW.out.parts (by omega)
          have hbB : Below w.heap.size w wr := hb1.trans (below_gb HG.out h4 hs1)
          clear HW HE hpl
          go_wp2
          exact bodyPost_ret (v := .tuple #[.slice pa ds.length pc, .int .i64 0]) (by simp [results, Try.results12, go_sem]) rfl ⟨_, ds, rfl, HLl.out, HW2.out, hbB⟩
end Go.Proofs.Ytjnclbhpdaonhaa
