import Derived.Test.YtkpjjiomfgkobaaNem
import Derived.Test.YtkpjjiomfgkobaaRfn
namespace Go.Proofs.Ytkpjjiomfgkobaa
open Go.RowKit Go.Proofs.Ytkpjjiomfgkobaa.Ds

theorem rowI_of_owns {w : World} {lo g cap : Nat} {xs : List Int} (h : w.ownsRow lo 3 1 (.slice (some ⟨g, 0, none⟩) xs.length cap) xs.length (xs.map (.int .i64))) : RowI w g xs ∧ xs.length ≤ cap := by
  obtain ⟨_, ⟨hv, _⟩ | ⟨g', cap', cur, hv, hb, hcur, hc, _, hsz, hx⟩⟩ := h
  · simp at hv
  · simp only [Value.slice.injEq, Option.some.injEq, Addr.mk.injEq] at hv
    obtain ⟨⟨rfl, _⟩, _, rfl⟩ := hv
    refine ⟨⟨fun i x hi => ?_, fun i _ => frozen_zero hcur, (Array.getElem?_eq_some_iff.1 hcur).1⟩, hc⟩
    have hi2 : i < xs.length := (List.getElem?_eq_some_iff.1 hi).1
    have : cur[i]? = some (.int .i64 x) := by
      have h1 : (xs.map (Value.int .i64))[i]? = some (.int .i64 x) := by simp [hi]
      have h2 : (cur.toList.take (xs.length * 1))[i]? = some (.int .i64 x) := by rw [hx]; exact h1
      rw [List.getElem?_take_of_lt (by omega)] at h2
      simpa using h2
    simp [World.cell?, hcur, this]

/-- what hushref4.Near answers -/
def RNearP (C : List (List Col × List (List Int))) (w : World) (e : Ending) (w' : World) : Prop :=
  ∃ lv tb, e = .returned lv ∧ Tbs w' w'.heap.size lv tb ∧ tb.map tc = C ∧ Below w.heap.size w w'

set_option maxRecDepth 100000 in
set_option maxHeartbeats 8000000 in
theorem refnear_any (B : Nat) (cu ru : Value) (l : List Col) (ts : List Rw) (w : World) (hB : B ≤ w.heap.size) (hp : Cols w B cu l) (hq : Rws w B ru ts) (C : List (List Col × List (List Int))) (hr : neaT l (rr ts) = C) :
    Calls Try.prog 19 #[.agg #[cu, ru]] w (RNearP C w) := by
  have HP : Hid (Cols w B cu l) := hp
  have HQ : Hid (Rws w B ru ts) := hq
  have HC : Hid (neaT l (rr ts) = C) := hr
  obtain ⟨a, c, rfl, hc, hl⟩ := hp.slice
  obtain ⟨a2, c2, rfl, hc2, hl2⟩ := hq.slice
  obtain ⟨⟨ys, ey⟩, hys⟩ : ∃ q, Hid (cellsR l (rr ts) = q) := ⟨_, rfl⟩
  obtain ⟨W, hW⟩ : ∃ W, w.alloc (.cells #[.slice a l.length c, .slice a2 ts.length c2] 25) = W := ⟨_, rfl⟩
  have hbW : Below w.heap.size w W := by rw [← hW]; exact ba _ _
  have hsW : W.heap.size = w.heap.size + 1 := by rw [← hW]; simp
  have HX : Hid (TwoB W w.heap.size (.slice a l.length c) (.slice a2 ts.length c2)) := by rw [← hW]; exact TwoB.new _ _ _ _ _ rfl
  have p0 := HX.out.c0
  have p1 := HX.out.c1
  have kc := counts_any B _ _ l ts W (by omega) (HP.out.at hB hbW) (HQ.out.at hB hbW) ys ey hys.out
  clear hr
  go_enter Try.func19, Try.ntmps19
  go_wp2_with fail
  clear hW
  refine kc.mono ?_
  rintro e w1 ⟨v1, rfl, hI1, hb1⟩
  have hs1 := hb1.size
  have HI1 : Hid (Ints w1 w1.heap.size w.heap.size v1 ys) := hI1 w.heap.size (by omega)
  obtain ⟨b1, d1, rfl, hd1, hy63⟩ := HI1.out.slice
  have hbw1 : Below w.heap.size w w1 := bt hbW hb1
  have HX1 : Hid (TwoB w1 w.heap.size (.slice a l.length c) (.slice a2 ts.length c2)) := HX.out.below hb1
  clear kc p0 p1 hI1 HX
  by_cases h0 : ey = 0
  · subst h0
    have hwe : wroE l (rr ts) = 0 ∧ celT l (rr ts) = ys := by
      have h := hys.out
      unfold cellsR at h
      split at h
      · rename_i h2; simp only [Prod.mk.injEq] at h; exact ⟨h2, h.1⟩
      · rename_i h2; simp only [Prod.mk.injEq] at h; exact absurd h.2 h2
    have hcl := colE_ok (wroE_ok hwe.1).1
    have hyl : ys.length = prd l := by rw [← hwe.2, celT_len]
    have hy4 : ys.length ≤ 4096 := by rw [hyl]; exact hcl.2.2.2.1
    have HBD : Hid (∀ x ∈ ys, 0 ≤ x ∧ x ≤ 4096) := by
      intro x hx
      rw [← hwe.2] at hx
      have := celT_bd hx
      have := (wroE_ok hwe.1).2.1
      omega
    have HCC : Hid (neaRL l ys ys.length = C) := by rw [Hid, hyl, ← hwe.2, neaT_ref hwe.1]; exact HC.out
    obtain ⟨i3, hi3, hz0, hz1, hz2⟩ := info_parts info3
    obtain ⟨i25, hi25, hy0, hy1, hy2⟩ := info_parts info25
    have hlne : l ≠ [] := by intro h; have := hcl.1; rw [h] at this; simp at this
    clear hwe hcl hyl
    go_wp2
    go_loopw [3, 20] (fun s3 s wr => ∃ (i : Nat) (lv : Value) (tb : List Tb), s3 = lv ∧ s = .int .i64 (i : Int) ∧ i ≤ ys.length ∧ Hid (Tbr wr w1.heap.size lv tb) ∧ Hid (tb.map tc = neaRL l ys i) ∧ Hid (∀ t ∈ tb, AdrT (fun b => b < wr.heap.size) t) ∧ Below w1.heap.size w1 wr) (fun _ s _ => ys.length - (intOf s).toNat)
    case atStart => exact ⟨0, _, [], rfl, rfl, Nat.zero_le _, Tbr.nil _ _, rfl, by simp [Hid], Below.refl _ _⟩
    case round =>
      obtain ⟨i, lv, tb, rfl, rfl, hi, HT, HM, HA, hbl⟩ := hrel
      obtain ⟨la, lc, rfl⟩ := HT.out.slice
      by_cases hi1 : i < ys.length
      · go_wp2
        obtain ⟨wq, hwq⟩ : ∃ wq : World, wq = wr := ⟨_, rfl⟩
        subst hwq
        go_loopw [3, 7] (fun s3 s wr => ∃ (q : Nat) (lv : Value) (tb2 : List Tb), s3 = lv ∧ s = .int .i64 (2 * (q : Int) - 1) ∧ q ≤ 2 ∧ Hid (Tbr wr w1.heap.size lv tb2) ∧ Hid (tb2.map tc = neaRL l ys i ++ ((if 0 < q then neaR1 l ys i (-1) else []) ++ (if 1 < q then neaR1 l ys i 1 else []))) ∧ Hid (∀ t ∈ tb2, AdrT (fun b => b < wr.heap.size) t) ∧ Below w1.heap.size w1 wr) (fun _ s _ => (3 - intOf s).toNat)
        case atStart => exact ⟨0, _, tb, rfl, rfl, by omega, HT, by rw [Hid, HM.out]; simp, HA, hbl⟩
        case round =>
          obtain ⟨q, lv, tb2, rfl, rfl, hq2, HT2, HM2, HA2, hbl2⟩ := hrel
          obtain ⟨na, nc2, rfl⟩ := HT2.out.slice
          by_cases hq1 : q < 2
          · obtain ⟨b, o, x, rfl, hbb, _, hg, e1⟩ := HI1.out.get (Nat.le_refl _) hbl2 hi1
            have hxb := HBD.out x (List.mem_of_getElem? hg)
            have HXD : Hid (ys.getD i 0 = x) := by rw [Hid, List.getD, hg]; rfl
            have HG : Hid (ys[i]? = some x) := hg
            obtain ⟨d, hd⟩ : ∃ d : Int, 2 * (q : Int) - 1 = d := ⟨_, rfl⟩
            have hd1 : d ≤ 1 := by omega
            have hd2 : -1 ≤ d := by omega
            have HD : Hid (2 * (q : Int) - 1 = d) := hd
            have HNX : Hid (neaRL l ys i ++ ((if 0 < q + 1 then neaR1 l ys i (-1) else []) ++ (if 1 < q + 1 then neaR1 l ys i 1 else [])) = (neaRL l ys i ++ ((if 0 < q then neaR1 l ys i (-1) else []) ++ (if 1 < q then neaR1 l ys i 1 else []))) ++ neaR1 l ys i d) := by
              rcases (by omega : q = 0 ∨ q = 1) with rfl | rfl
              · rw [← hd]; simp [Hid]
              · rw [← hd]; simp [Hid]
            obtain ⟨xs, hxs⟩ : ∃ xs, Hid (ys.set i (x + d) = xs) := ⟨_, rfl⟩
            have hxl : Hid (xs.length = ys.length) := by rw [Hid, ← hxs.out]; simp
            have A : Hid (∀ j u, (ys.map (Value.int .i64))[j]? = some u → ∀ ob, (wr.alloc ob).cell? ((⟨b, o, none⟩ : Addr).add j) = some u) := by
              intro j u hj ob
              have hlt : j < ys.length := by have := (List.getElem?_eq_some_iff.1 hj).1; simpa using this
              obtain ⟨b', o', x', he, hb', _, hx', hc'⟩ := HI1.out.get (Nat.le_refl _) hbl2 hlt
              simp only [Option.some.injEq, Addr.mk.injEq] at he
              obtain ⟨rfl, rfl, _⟩ := he
              have hz := hbl2.size
              rw [Addr.add_lit, World.cell?_alloc_lt _ _ _ (by show b < _; omega), hc']
              simpa [hx'] using hj
            have hw1 : IntKind.i64.wrap (x + d) = x + d := by rw [IntKind.wrap_i64]; omega
            have hzr := hbl2.size
            rw [hd]
            clear hg hd
            go_wp2_with (at_builtin; refine wpList_append_own _ rfl _ _ 26 rfl wr.heap.size 3 i3 (.int .i64 0) 1 8 Try.underlying26 hi3 hz0 hz1 hz2 rfl (by decide) _ _ _ rfl (World.ownsRow_made wr #[] 0 (Nat.le_refl _) (Nat.zero_le _) (by simp)) ⟨b, o, none⟩ ys.length d1 (ys.map (Value.int .i64)) rfl ?q1 ?q2 ?q3 ?q4 ?q5 ?q6 ?_)
            case q1 => simp
            case q2 => intro j u hj; exact A.out j u hj _
            case q3 => intro u hu; obtain ⟨x, _, rfl⟩ := List.mem_map.1 hu; rfl
            case q4 => simp [maxLen]; omega
            case q5 => omega
            case q6 => simp
            intro v' w5 hown hgrow hnil
            have hne5 : v' ≠ .slice none 0 0 := hnil
            obtain ⟨g, cap, rfl, hg1, hg2⟩ := owns_some hown hne5
            have hR5 : RowI w5 g ys ∧ ys.length ≤ cap := rowI_of_owns (by simpa using hown)
            have hb5 : Below wr.heap.size wr w5 := ((Below.refl _ wr).alloc (Nat.le_refl _) _).grown hgrow (by simp) (by intro k hk; simp [Value.ownBlock] at hk; omega)
            have p1 := hR5.1.cells i x HG.out
            have p2 := hR5.1.thaw i hi1
            have z1 : (i : Int) < (ys.length : Int) := by omega
            obtain ⟨w6, hw6⟩ : ∃ w6, w5.setCell ⟨g, i, none⟩ (.int .i64 (x + d)) = w6 := ⟨_, rfl⟩
            have hb6 : Below wr.heap.size wr w6 := by rw [← hw6]; exact bs hb5 hg1 _
            have HR6 : Hid (RowI w6 g xs) := by rw [← hw6, ← hxs.out]; exact hR5.1.set i (x + d)
            have hs6 := hb6.size
            have hbw6 : Below w.heap.size w w6 := bt hbw1 (bt hbl2 hb6)
            have HX6 : Hid (TwoB w6 w.heap.size (.slice a l.length c) (.slice a2 ts.length c2)) := HX1.out.below (bt hbl2 hb6)
            have x0 := HX6.out.c0
            have hI6 : Ints w6 w6.heap.size w6.heap.size (.slice (some ⟨g, 0, none⟩) ys.length cap) xs := ⟨_, cap, by rw [hxl.out], by rw [hxl.out]; exact hR5.2, by rw [hxl.out]; omega, fun _ => ⟨g, 0, rfl, HR6.out.lt, by have := HR6.out.lt; omega, fun j y hj => by rw [Nat.zero_add]; exact HR6.out.cells j y hj⟩⟩
            obtain ⟨lc', hlc⟩ : ∃ q, Hid (froC l xs = q) := ⟨_, rfl⟩
            obtain ⟨rs, hrs⟩ : ∃ q, Hid (froT l xs = q) := ⟨_, rfl⟩
            obtain ⟨ef, hef⟩ : ∃ q, Hid (froE l xs = q) := ⟨_, rfl⟩
            have kf := rfromQ_any B w6.heap.size w6.heap.size _ _ l xs w6 (Nat.le_trans hB hbw6.size) (HP.out.at hB hbw6) (Nat.le_refl _) hI6 lc' rs ef hlc.out hrs.out hef.out
            have HT6 : Hid (Tbr w6 w1.heap.size (.slice na tb2.length nc2) tb2) := HT2.out.keep hb6
            have HFr : Hid (∀ g, (Value.slice na tb2.length nc2).ownBlock = some g → w1.heap.size ≤ g ∧ g < wr.heap.size) := HT2.out.1.lt
            have hbl6 : Below w1.heap.size w1 w6 := bt hbl2 hb6
            clear hown hgrow hnil hne5 hR5 hb5 hI6 A e1
            go_wp2_with fail
            clear hw6
            refine kf.mono ?_
            rintro e w7 ⟨cv, rv, us, rfl, hC7, hR7, hr7, hA7, hAR7, hb7⟩
            have hs7 := hb7.size
            obtain ⟨ca, cn, rfl, _, _⟩ := hC7.slice
            obtain ⟨ra, rn, rfl, _, _⟩ := hR7.slice
            obtain ⟨W8, hW8⟩ : ∃ W8, w7.alloc (.cells #[.slice ca lc'.length cn, .slice ra us.length rn] 25) = W8 := ⟨_, rfl⟩
            have hb8 : Below w7.heap.size w7 W8 := by rw [← hW8]; exact ba _ _
            have hz8 : W8.heap.size = w7.heap.size + 1 := by rw [← hW8]; simp
            have HX8 : Hid (TwoB W8 w7.heap.size (.slice ca lc'.length cn) (.slice ra us.length rn)) := by rw [← hW8]; exact TwoB.new _ _ _ _ _ rfl
            have HT8 : Hid (Tbr W8 w1.heap.size (.slice na tb2.length nc2) tb2) := HT6.out.keep (bt hb7 hb8)
            have hbl8 : Below w1.heap.size w1 W8 := bt hbl6 (bt hb7 hb8)
            have HA8 : Hid (∀ t ∈ tb2, AdrT (fun b => b < W8.heap.size) t) := fun t ht => (HA2.out t ht).imp fun b h => by omega
            have HTB : Hid (TbOk W8 W8.heap.size (Tb.mk (.slice ca lc'.length cn) (.slice ra us.length rn) lc' us) ∧ rr us = rs ∧ Adr (fun b => b < B) (.slice ca lc'.length cn) ∧ AdrR (fun b => w6.heap.size ≤ b ∧ b < w7.heap.size) (.slice ra us.length rn) us) := ⟨⟨(hC7.at (Nat.le_refl _) hb8).mono (by omega), (hR7.at (Nat.le_refl _) hb8).mono (by omega)⟩, hr7, hA7, hAR7⟩
            have t0 := HX8.out.c0
            have t1 := HX8.out.c1
            have HZ8 : Hid (W8.heap.size = w7.heap.size + 1) := hz8
            have hz8' : w7.heap.size < W8.heap.size := by omega
            clear kf hz8 hC7 hR7 hr7 hA7 hAR7 hb7 x0 p1 p2
            by_cases hf0 : ef = 0
            · have HMN : Hid (neaR1 l ys i d = [(lc', rs)]) := by rw [Hid, neaR1, HXD.out, hxs.out, hef.out, if_pos hf0, tabOf, hlc.out, hrs.out]
              subst hf0
              have htl : tb2.length ≤ 8192 := by
                have h1 := congrArg List.length HM2.out
                have h2 := neaRL_len l ys i
                have h3 : ∀ (d : Int) (p : Prop) [Decidable p], (if p then neaR1 l ys i d else []).length ≤ 1 := fun d p _ => by unfold neaR1; split <;> (try split) <;> simp
                have h4 := h3 (-1) (0 < q)
                have h5 := h3 1 (1 < q)
                rw [List.length_map, List.length_append, List.length_append] at h1
                omega
              have HOW : Hid ((W8.alloc (.cells #[.slice ca lc'.length cn, .slice ra us.length rn] 25)).ownsRow w1.heap.size 25 2 (.slice na tb2.length nc2) tb2.length (flatT tb2)) := (HT8.out.keep (ba _ _)).1
              go_wp2_with (at_builtin; refine wpList_append_own_at _ rfl _ _ 39 rfl w1.heap.size 25 i25 (.agg #[.slice none 0 0, .slice none 0 0]) 2 48 Try.underlying39 hi25 hy0 hy1 hy2 rfl (by decide) (.slice na tb2.length nc2) tb2.length (flatT tb2) rfl HOW.out ⟨W8.heap.size, 0, none⟩ 1 1 [.slice ca lc'.length cn, .slice ra us.length rn] rfl ?r1 ?r2 ?r3 ?r4 ?r5 ?r6 ?_)
              case r1 => rfl
              case r2 => exact two_cells W8 _ _ _
              case r3 => intro u hu; simp at hu; rcases hu with rfl | rfl <;> rfl
              case r4 => simp [maxLen]; omega
              case r5 => omega
              case r6 => have := hbl8.size; simp; omega
              intro v9 w9 hown9 hgrow9 hnil9 hat9
              obtain ⟨pa, pc, rfl⟩ := owns_slice hown9
              have hs9 := hgrow9.size
              simp only [World.size_alloc] at hs9
              have htlt : ∀ u ∈ tb2 ++ [Tb.mk (.slice ca lc'.length cn) (.slice ra us.length rn) lc' us], AdrT (fun b => b < W8.heap.size) u := by
                intro u hu
                rcases List.mem_append.1 hu with hu | hu
                · exact HA8.out u hu
                · obtain rfl := List.mem_singleton.1 hu
                  exact ⟨HTB.out.2.2.1.imp fun b h => by have := hbw6.size; omega, HTB.out.2.2.2.imp fun b h => by omega⟩
              have HT9 : Hid (Tbr w9 w1.heap.size (.slice pa (tb2.length + 1) pc) (tb2 ++ [Tb.mk (.slice ca lc'.length cn) (.slice ra us.length rn) lc' us])) := by
                refine (HT8.out.keep (ba _ _)).app (t := Tb.mk (.slice ca lc'.length cn) (.slice ra us.length rn) lc' us) hown9 hgrow9 (by simpa using hat9) ?_ ?_ ?_
                · exact (HTB.out.1.keep (ba _ _)).mono (by simp)
                · refine ⟨HTB.out.2.2.1.imp fun b h e => ?_, HTB.out.2.2.2.imp fun b h e => ?_⟩
                  · have := (HFr.out b e).1; have := hbw1.size; omega
                  · have := (HFr.out b e).2; omega
                · exact fun u hu => (htlt u hu).imp fun b h => by simp; omega
              have HM9 : Hid ((tb2 ++ [Tb.mk (.slice ca lc'.length cn) (.slice ra us.length rn) lc' us]).map tc = neaRL l ys i ++ ((if 0 < q + 1 then neaR1 l ys i (-1) else []) ++ (if 1 < q + 1 then neaR1 l ys i 1 else []))) := by
                show _ = _
                rw [HNX.out, HMN.out, List.map_append, HM2.out]
                simp [tc, HTB.out.2.1]
              have HA9 : Hid (∀ t ∈ tb2 ++ [Tb.mk (.slice ca lc'.length cn) (.slice ra us.length rn) lc' us], AdrT (fun b => b < w9.heap.size) t) := fun t ht => (htlt t ht).imp fun b h => by omega
              have hbl9 : Below w1.heap.size w1 w9 := (bal hbl8 _).grown hgrow9 (by have := hbl8.size; simp; omega) (owns_block HT8.out.1)
              have HL9 : Hid ((tb2 ++ [Tb.mk (.slice ca lc'.length cn) (.slice ra us.length rn) lc' us]).length = tb2.length + 1) := by simp [Hid]
              clear hown9 hgrow9 hnil9 hat9 htlt HOW
              go_wp2
              go_roundw
              case rel => exact ⟨q + 1, _, (tb2 ++ [Tb.mk (.slice ca lc'.length cn) (.slice ra us.length rn) lc' us] : List Tb), rfl, by have hh : d + 2 = 2 * ((q + 1 : Nat) : Int) - 1 := (by have := HD.out; omega); first | (rw [← hh]; done) | (rw [← hh]; go_num), by omega, HT9, HM9, HA9, hbl9⟩
              case measure => have := HD.out; simp [intOf]; omega
            · have hfne : (ef == 0) = false := by simpa using hf0
              have HMN : Hid (neaR1 l ys i d = []) := by rw [Hid, neaR1, HXD.out, hxs.out, hef.out, if_neg hf0]
              have HM9 : Hid (tb2.map tc = neaRL l ys i ++ ((if 0 < q + 1 then neaR1 l ys i (-1) else []) ++ (if 1 < q + 1 then neaR1 l ys i 1 else []))) := by
                show _ = _
                rw [HNX.out, HMN.out, List.append_nil, HM2.out]
              go_wp2
              go_roundw
              case rel => exact ⟨q + 1, _, tb2, rfl, by have hh : d + 2 = 2 * ((q + 1 : Nat) : Int) - 1 := (by have := HD.out; omega); first | (rw [← hh]; done) | (rw [← hh]; go_num), by omega, HT8, HM9, HA8, hbl8⟩
              case measure => have := HD.out; simp [intOf]; omega
          · obtain rfl : q = 2 := by omega
            go_wp2
            go_roundw
            case rel => exact ⟨i + 1, _, tb2, rfl, by go_num, hi1, HT2, by rw [Hid, HM2.out]; simp [neaRL], HA2, hbl2⟩
            case measure => simp [intOf]; omega
      · obtain rfl : i = ys.length := by omega
        have htl : tb.length ≤ 8192 := by
          have h1 := congrArg List.length HM.out
          have h2 := neaRL_len l ys ys.length
          simp at h1
          omega
        have HTL : Hid (tb.length ≤ 8192) := htl
        clear htl
        go_wp2
        go_ret
        exact ⟨_, tb, rfl, HT.out.tbs (by have := HTL.out; omega), HM.out.trans HCC.out, bt hbw1 hbl⟩
  · have hne : (ey != 0) = true := by simpa using h0
    have hwe : wroE l (rr ts) ≠ 0 := by
      intro h
      have h2 := hys.out
      rw [cellsR, if_pos h, Prod.mk.injEq] at h2
      exact h0 h2.2.symm
    obtain rfl : [] = C := by rw [← HC.out, neaT, if_neg hwe]
    go_wp2
    go_ret
    exact ⟨_, [], rfl, tbs_nil _ _, rfl, hbw1⟩
end Go.Proofs.Ytkpjjiomfgkobaa
