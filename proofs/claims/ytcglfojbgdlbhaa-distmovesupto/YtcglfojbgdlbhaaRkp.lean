import Derived.Test.YtcglfojbgdlbhaaKef
namespace Go.Proofs.Ytcglfojbgdlbhaa
open Go.RowKit Go.Proofs.Ytcglfojbgdlbhaa.Ds

/-- those so far that are kept -/
def Kpd (kp : List Int → Bool) (l : List Pt) (ds : List Tr) (i : Nat) : Prop := rd ds = (l.take i).filter fun p => kp p.1
theorem Kpd.nil (kp : List Int → Bool) (l : List Pt) : Kpd kp l [] 0 := by simp [Kpd, rd]
theorem Kpd.more {kp : List Int → Bool} {l : List Pt} {ds : List Tr} {i : Nat} {s : Value} {x : List Int} {k : Int} (h : Kpd kp l ds i) (hp : l[i]? = some (x, k)) (hk : kp x = true) : Kpd kp l (ds ++ [(s, x, k)]) (i + 1) := by
  unfold Kpd at *
  rw [rd_snoc, h, List.take_add_one, hp, Option.toList_some, List.filter_append]
  simp [hk]
theorem Kpd.less {kp : List Int → Bool} {l : List Pt} {ds : List Tr} {i : Nat} {x : List Int} {k : Int} (h : Kpd kp l ds i) (hp : l[i]? = some (x, k)) (hk : kp x = false) : Kpd kp l ds (i + 1) := by
  unfold Kpd at *
  rw [h, List.take_add_one, hp, Option.toList_some, List.filter_append]
  simp [hk]
theorem Kpd.len {kp : List Int → Bool} {l : List Pt} {ds : List Tr} {i : Nat} (h : Kpd kp l ds i) : ds.length ≤ l.length := by
  have h1 := congrArg List.length (show rd ds = _ from h)
  rw [rd_len] at h1
  rw [h1]
  exact Nat.le_trans (List.length_filter_le _ _) (by simp; omega)
theorem tot_filter (f : Pt → Bool) {l : List Pt} (h : Nn l) : Nn (l.filter f) ∧ tot (l.filter f) ≤ tot l := by
  refine ⟨fun p hp => h p (List.mem_filter.1 hp).1, ?_⟩
  induction l with
  | nil => simp
  | cons p l ih =>
    have h1 := ih fun q hq => h q (by simp [hq])
    have h2 := h p (by simp)
    by_cases hf : f p = true
    · rw [List.filter_cons_of_pos hf, tot_cons, tot_cons]; omega
    · rw [List.filter_cons_of_neg hf, tot_cons]; omega

set_option maxHeartbeats 2000000 in
set_option maxRecDepth 100000 in
theorem keepR_any (B : Nat) (v u : Value) (ts : List Tr) (zs : List Vl) (w : World) (hB : B ≤ w.heap.size) (hp : Parts w B v ts) (hq : Lsts w B u zs) (hz : zs.length ≤ 1073741824) (l : List Pt) (er : Int) (hr : keepT (rd ts) (zs.map (·.2)) = (l, er)) :
    Calls Try.prog 26 #[v, u] w fun e w' => ∃ v' us, e = .returned (.tuple #[v', .int .i64 er]) ∧ rd us = l ∧ OwnN w' w.heap.size v' us ∧ Below w.heap.size w w' := by
  obtain ⟨e1, ho⟩ : ∃ x, (ownT (rd ts)).2 = x := ⟨_, rfl⟩
  have kc := wrongR_any B v ts w hB hp e1 ho
  have HP : Hid (Parts w B v ts) := hp
  have HQ : Hid (Lsts w B u zs) := hq
  obtain ⟨kp, HK⟩ : ∃ kp, Hid (inL (zs.map (·.2)) = kp) := ⟨_, rfl⟩
  have HR : Hid (keepT (rd ts) (zs.map (·.2)) = (l, er) ∧ (ownT (rd ts)).2 = e1) := ⟨hr, ho⟩
  obtain ⟨a, c, rfl, _, hul, _⟩ := hp
  obtain ⟨ua, uc, rfl, _⟩ := hq
  obtain ⟨i0, hi0, hz0, hz1, hz2⟩ := info_parts info32
  clear hr ho
  go_enter Try.func26, Try.ntmps26
  go_wp2_with fail
  refine kc.mono ?_
  rintro e w1 ⟨rfl, h3⟩
  have hs1 := h3.size
  clear kc
  by_cases h0 : e1 = 0
  · subst h0
    have HM : Hid (lowT (gath ((rd ts).filter fun p => kp p.1)) = (l, er) ∧ Dis (rd ts)) := by
      have hd : Dis (rd ts) := (ownT_ok (Prod.ext rfl HR.out.2 : ownT (rd ts) = ((ownT (rd ts)).1, 0))).2
      have := HR.out.1
      unfold keepT at this
      rw [HR.out.2, HK.out] at this
      simp only [if_true] at this
      unfold makeT at this
      rw [if_pos (by rw [List.all_eq_true]; intro p hp; exact List.all_eq_true.1 hd.ok p (List.mem_filter.1 hp).1)] at this
      exact ⟨this, hd⟩
    go_wp2
    go_loopw [7, 19] (fun pv iv wr => ∃ (i : Nat) (ds : List Tr), iv = .int .i64 (i : Int) ∧ i ≤ ts.length ∧ Hid (Kpd kp (rd ts) ds i ∧ Rws wr w1.heap.size pv ds) ∧ Below w1.heap.size w1 wr) (fun _ iv _ => ts.length - (intOf iv).toNat)
    case atStart => exact ⟨0, [], rfl, Nat.zero_le _, ⟨Kpd.nil _ _, Rws.nil _ _⟩, Below.refl _ _⟩
    case round => as_aux_lemma =>
      obtain ⟨i, ds, rfl, hit, HD, hbl⟩ := hrel
      have hbs := hbl.size
      have bw : Below w.heap.size w wr := bt h3 hbl
      have HDL : Hid (ds.length ≤ ts.length) := by have := HD.out.1.len; rw [rd_len] at this; exact this
      have hpl := HD.out.2.lt
      obtain ⟨pa, pc, rfl⟩ := HD.out.2.slice
      by_cases h1 : i < ts.length
      · obtain ⟨b, o, sa, sc, xs, k, rfl, hb, hs, c1, c2, hIx⟩ := HP.out.get hB bw h1
        have HS : Hid ((rd ts)[i]? = some (xs, k)) := rd_get hs
        obtain ⟨W, hW⟩ : ∃ W, wr.alloc (.cells #[.slice sa xs.length sc, .int .i64 k] 32) = W := ⟨_, rfl⟩
        obtain ⟨N, hN⟩ : ∃ N, wr.heap.size = N := ⟨_, rfl⟩
        have HB : Hid (Below wr.heap.size wr W) := hW ▸ ba wr _
        have hWs : W.heap.size = N + 1 := by rw [← hW, ← hN]; simp
        have g1 : W.cell? ⟨N, 0, none⟩ = some (.slice sa xs.length sc) := by rw [← hW, ← hN]; simp [go_sem]
        have g2 : W.cell? ⟨N, 1, none⟩ = some (.int .i64 k) := by rw [← hW, ← hN]; simp [go_sem]
        have HIx : Hid (Ints W B B (.slice sa xs.length sc) xs) := hIx.at (by omega) HB.out
        have HRw : Hid (Kpd kp (rd ts) ds i ∧ Rws W w1.heap.size (.slice pa ds.length pc) ds) := ⟨HD.out.1, HD.out.2.keep HB.out⟩
        have hbW : Below w1.heap.size w1 W := bt hbl HB.out
        have hsW : w1.heap.size < W.heap.size := by omega
        obtain ⟨mo, hmo, hmo2, hmg⟩ := own_or2 (v := .slice pa ds.length pc) (lo := w1.heap.size) (n := W.heap.size) (fun g e => ⟨(hpl g e).1, by have := (hpl g e).2; omega⟩) hsW
        have HO : Hid (∀ g, (Value.slice pa ds.length pc).ownBlock = some g → mo = g) := hmg
        clear hs hIx hmg HD
        go_upto_region 8 with fail
        clear hW hN
        go_wp2
        go_loopw [7, 25] (fun pv jv wq => pv = .slice pa ds.length pc ∧ ∃ j : Nat, jv = .int .i64 (j : Int) ∧ j ≤ zs.length ∧ Hid (Nol zs j xs) ∧ Below W.heap.size W wq) (fun _ jv _ => zs.length - (intOf jv).toNat)
        case atStart => exact ⟨rfl, 0, rfl, Nat.zero_le _, fun j z h => by omega, Below.refl _ _⟩
        case round => as_aux_lemma =>
          obtain ⟨rfl, j, rfl, hjt, HN, hbq⟩ := hrel
          have hqs := hbq.size
          have bq : Below w.heap.size w wr := bt (bt h3 hbW) hbq
          have k1 := (hbq.cell (p := ⟨N, 0, none⟩) (by show N < W.heap.size; omega)).trans g1
          have k2 := (hbq.cell (p := ⟨N, 1, none⟩) (by show N < W.heap.size; omega)).trans g2
          by_cases h2 : j < zs.length
          · obtain ⟨b', o', ya, yc, ys, rfl, hb', hs', d1, hI⟩ := HQ.out.get hB bq h2
            have HS' : Hid (zs[j]? = some (.slice ya ys.length yc, ys)) := hs'
            obtain ⟨r, hr⟩ : ∃ r, cmpT ys xs = r := ⟨_, rfl⟩
            have HE : Hid (cmpT ys xs = r) := hr
            have kc := refCompare_any B B B (.slice ya ys.length yc) (.slice sa xs.length sc) ys xs wr hI (HIx.out.at (by omega) hbq) r hr
            clear hs' hI hr
            go_wp2_with fail
            refine kc.mono ?_
            rintro e w2 ⟨rfl, q, rfl⟩
            clear kc
            have k3 : (wr.drewN q).cell? ⟨N, 0, none⟩ = some (.slice sa xs.length sc) := k1
            have k4 : (wr.drewN q).cell? ⟨N, 1, none⟩ = some (.int .i64 k) := k2
            have hq0 := below_drewN hbq q
            by_cases hr0 : r = 0
            · subst hr0
              have hkp : kp xs = true := by rw [← HK.out, inL_iff]; exact ⟨_, List.mem_of_getElem? HS'.out, (cmpT_zero _ _).1 HE.out⟩
              have HKn : Hid (Kpd kp (rd ts) (ds ++ [(.slice sa xs.length sc, xs, k)]) (i + 1)) := HRw.out.1.more HS.out hkp
              obtain ⟨w2, hw2⟩ : ∃ w2, wr.drewN q = w2 := ⟨_, rfl⟩
              rw [hw2] at k3 k4 hq0 ⊢
              have hba : Below W.heap.size W (w2.alloc (.cells #[.slice sa xs.length sc, .int .i64 k] 32)) := bal hq0 _
              have HRk : Hid (Rws (w2.alloc (.cells #[.slice sa xs.length sc, .int .i64 k] 32)) w1.heap.size (.slice pa ds.length pc) ds) := HRw.out.2.keep hba
              have HIk : Hid (Ints (w2.alloc (.cells #[.slice sa xs.length sc, .int .i64 k] 32)) (w2.alloc (.cells #[.slice sa xs.length sc, .int .i64 k] 32)).heap.size mo (.slice sa xs.length sc) xs) := (HIx.out.at (by omega) hba).mono (by have := hba.size; omega) (.inr (by omega))
              have BB : Hid (Below w1.heap.size w1 (w2.alloc (.cells #[.slice sa xs.length sc, .int .i64 k] 32))) := bt hbW hba
              have hsw2 : w1.heap.size ≤ w2.heap.size := by have := hq0.size; omega
              have hdl := HDL.out
              clear hkp hba hw2
              go_wp2_with (at_builtin; refine wpList_append_lies _ rfl _ _ 22 rfl w1.heap.size 32 i0 (.agg #[.slice none 0 0, .int .i64 0]) 2 32 Try.underlying22 hi0 hz0 hz1 hz2 rfl (by decide) _ _ _ rfl HRk.out.1 ⟨w2.heap.size, 0, none⟩ 1 1 [.slice sa xs.length sc, .int .i64 k] rfl ?q1 ?q2 ?q3 (by decide) ?q4 ?q5 ?q6 (w2.heap.size + 1) ?q7 ?_)
              case q1 => rfl
              case q2 => exact two_cells w2 _ k _ rfl
              case q3 => intro u hu; simp at hu; rcases hu with rfl | rfl <;> rfl
              case q4 => simp [maxLen]; omega
              case q5 => omega
              case q6 => simp; omega
              case q7 => simp
              intro g cap w4 hown hgrow hat hlt
              have HRn : Hid (Rws w4 w1.heap.size (.slice (some ⟨g, 0, none⟩) (ds.length + 1) cap) (ds ++ [(.slice sa xs.length sc, xs, k)])) := HRk.out.more hown hgrow (hat.imp id fun e => by rw [e]; simp) HIk.out HO.out
              have B4 : Below w1.heap.size w1 w4 := BB.out.grown hgrow (by simp; omega) (owns_block HRk.out.1)
              clear hown hgrow hat hlt HRk HIk k3 k4
              go_wp2
              go_roundw
              case rel => exact ⟨i + 1, ds ++ [(.slice sa xs.length sc, xs, k)], by go_num, h1, ⟨HKn.out, HRn.out⟩, B4⟩
              case measure => simp [intOf]; omega
            · have hr0' : (r == 0) = false := by simpa using hr0
              have HN2 : Hid (Nol zs (j + 1) xs) := by
                intro m z hm hz
                by_cases he : m = j
                · subst he
                  rw [HS'.out] at hz
                  simp at hz
                  subst hz
                  exact fun e => hr0 (by rw [← HE.out]; exact (cmpT_zero _ _).2 e)
                · exact HN.out m z (by omega) hz
              go_wp2
              go_roundw
              case rel => exact ⟨rfl, j + 1, by go_num, h2, HN2, hq0⟩
              case measure => simp [intOf]; omega
          · have hkp : kp xs = false := by
              rw [← HK.out]
              cases h5 : inL (zs.map (·.2)) xs with
              | false => rfl
              | true =>
                obtain ⟨z, hz1, he⟩ := (inL_iff zs xs).1 h5
                obtain ⟨m, hm⟩ := List.getElem?_of_mem hz1
                exact absurd he (HN.out m z (by have := (List.getElem?_eq_some_iff.1 hm).1; omega) hm)
            have HKn : Hid (Kpd kp (rd ts) ds (i + 1) ∧ Rws wr w1.heap.size (.slice pa ds.length pc) ds) := ⟨HRw.out.1.less HS.out hkp, HRw.out.2.keep hbq⟩
            clear hkp
            go_wp2
            go_roundw
            case rel => exact ⟨i + 1, ds, by go_num, h1, HKn, bt hbW hbq⟩
            case measure => simp [intOf]; omega
      · have hrd : rd ds = (rd ts).filter fun p => kp p.1 := by
          have := HD.out.1
          unfold Kpd at this
          rw [List.take_of_length_le (by rw [rd_len]; omega)] at this
          exact this
        obtain ⟨hnn, htt⟩ := tot_filter (fun p => kp p.1) (Nn.of_pos HM.out.2.pos)
        rw [← hrd] at hnn htt
        have kk := tidy_any wr.heap.size (.slice pa ds.length pc) ds wr (Nat.le_refl _) (HD.out.2.parts (by have := HDL.out; omega)) hnn (by have := HM.out.2.le; omega) l er (by rw [hrd]; exact HM.out.1)
        clear hrd hnn htt
        go_wp2_with fail
        refine kk.mono ?_
        rintro e w5 ⟨v5, xs, rfl, k1, k2, k3⟩
        obtain ⟨b5, d5, rfl⟩ := k2.slice
        clear kk
        go_wp2
        exact bodyPost_ret (v := .tuple #[.slice b5 xs.length d5, .int .i64 er]) (by simp [results, Try.results26, go_sem]) rfl ⟨_, xs, rfl, k1, k2.mono (by omega), bt bw k3⟩
  · have h0' : (e1 == 0) = false := by simpa using h0
    have hm := HR.out.1
    unfold keepT at hm
    rw [HR.out.2] at hm
    simp only [h0, if_false, Prod.mk.injEq] at hm
    obtain ⟨rfl, rfl⟩ := hm
    go_wp2
    exact bodyPost_ret (v := .tuple #[.slice none 0 0, .int .i64 e1]) (by simp [results, Try.results26, go_sem]) rfl ⟨_, [], rfl, rfl, .inl ⟨rfl, rfl⟩, h3⟩
end Go.Proofs.Ytcglfojbgdlbhaa
