import Derived.Test.YtcglfojbgdlbhaaRch
namespace Go.Proofs.Ytcglfojbgdlbhaa
open Go.RowKit Go.Proofs.Ytcglfojbgdlbhaa.Ds

theorem one_away (w : World) (B m : Nat) (v : Value) (xs : List Int) (k : Int) (hB : B ≤ w.heap.size) (h : Ints w B B v xs) (h1 : B ≤ m) (h2 : m < w.heap.size) :
    PartsN (w.alloc (.cells #[v, .int .i64 k] 32)) (w.alloc (.cells #[v, .int .i64 k] 32)).heap.size m (.slice (some ⟨w.heap.size, 0, none⟩) 1 1) [(v, xs, k)] := by
  refine ⟨_, 1, rfl, by simp, by simp, fun t ht => ?_, fun _ => ⟨w.heap.size, 0, rfl, by simp, by omega, fun i t hi => ?_⟩⟩
  · simp at ht; subst ht
    exact (h.at hB (ba _ _)).mono (by simp; omega) (.inr h1)
  · match i, hi with
    | 0, hi =>
      simp at hi; subst hi
      exact ⟨by simp [go_sem], by simp [go_sem]⟩

set_option maxHeartbeats 1000000 in
theorem thenR_any (B : Nat) (v u : Value) (fs : List Fl) (xs : List Int) (w : World) (hB : B ≤ w.heap.size) (hp : Fws w B v fs) (hu : Ints w B B u xs) (l : List Pt) (hr : thenT (fd fs) xs = l) :
    Calls Try.prog 59 #[v, u] w fun e w' => ∃ r us, e = .returned r ∧ rd us = l ∧ Parts w' w'.heap.size r us ∧ Below w.heap.size w w' ∧ ∀ m, B ≤ m → m < w.heap.size → PartsN w' w'.heap.size m r us := by
  have HP : Hid (Fws w B v fs) := hp
  have HU : Hid (Ints w B B u xs) := hu
  have HR : Hid (thenT (fd fs) xs = l) := hr
  obtain ⟨a, c, rfl, hc, hl, _⟩ := hp
  obtain ⟨ua, uc, rfl, _⟩ := hu
  clear hr
  go_enter Try.func59, Try.ntmps59
  go_wp2
  go_loopw [9] (fun s wr => ∃ i : Nat, s = .int .i64 (i : Int) ∧ i ≤ fs.length ∧ Hid (NonF fs i xs) ∧ Below w.heap.size w wr) (fun s _ => fs.length - (intOf s).toNat)
  case atStart => exact ⟨0, rfl, Nat.zero_le _, by simp [Hid, NonF], Below.refl _ _⟩
  case round =>
    obtain ⟨i, rfl, hit, HN, hbl⟩ := hrel
    have hbs := hbl.size
    by_cases h1 : i < fs.length
    · obtain ⟨b, o, sa, sc, gs, ta, tc, ts, rfl, hb, hs, d1, d2, hI, hJ⟩ := HP.out.get hB hbl h1
      have HS : Hid (fs[i]? = some ((.slice sa gs.length sc, gs), (.slice ta ts.length tc, ts))) := hs
      have HI : Hid (Ints wr B B (.slice sa gs.length sc) gs) := hI
      have HJ : Hid (Parts wr B (.slice ta ts.length tc) ts) := hJ
      have hb1 : Below wr.heap.size wr (wr.alloc (.cells #[.slice sa gs.length sc, .slice ta ts.length tc] 52)) := ba _ _
      obtain ⟨r, hr⟩ : ∃ r, cmpT gs xs = r := ⟨_, rfl⟩
      have HE : Hid (cmpT gs xs = r) := hr
      have kc := refCompare_any B B B (.slice sa gs.length sc) (.slice ua xs.length uc) gs xs (wr.alloc (.cells #[.slice sa gs.length sc, .slice ta ts.length tc] 52)) (HI.out.at (by omega) hb1) (HU.out.at hB (bt hbl hb1)) r hr
      clear hs hI hJ hr
      go_wp2_with fail
      refine kc.mono ?_
      rintro e w2 ⟨rfl, q, rfl⟩
      clear kc
      by_cases hr0 : r = 0
      · subst hr0
        have hy : rd ts = l := by rw [← HR.out]; exact (HN.out.hit HS.out ((cmpT_zero _ _).1 HE.out)).symm
        have HY : Hid (rd ts = l) := hy
        have hb2 := below_drewN hb1 q
        clear hy
        go_wp2
        go_ret
        exact ⟨_, ts, rfl, HY.out, (HJ.out.at (by omega) hb2).mono (by simp; omega), bt hbl hb2, fun m h1 _ => parts_away (HJ.out.at (by omega) hb2) (by simp; omega) h1⟩
      · have hr0' : (r == 0) = false := by simpa using hr0
        have HN2 : Hid (NonF fs (i + 1) xs) := HN.out.step HS.out (fun e => hr0 (by rw [← HE.out]; exact (cmpT_zero _ _).2 e))
        go_wp2
        go_roundw
        case rel => exact ⟨i + 1, by go_num, h1, HN2, below_drewN (bt hbl hb1) _⟩
        case measure => simp [intOf]; omega
    · have hy : [(xs, 1)] = l := by rw [← HR.out]; exact (HN.out.end (by omega)).symm
      have HY : Hid ([(xs, 1)] = l) := hy
      have HO : Hid (Parts (wr.alloc (.cells #[.slice ua xs.length uc, .int .i64 1] 32)) (wr.heap.size + 1) (.slice (some ⟨wr.heap.size, 0, none⟩) 1 1) [(.slice ua xs.length uc, xs, 1)]) := parts_one wr B B _ xs 1 (by omega) (HU.out.at hB hbl)
      clear hy
      go_wp2
      go_ret
      exact ⟨_, [(.slice ua xs.length uc, xs, 1)], rfl, HY.out, by simpa using HO.out, bal hbl _, fun m h1 h2 => one_away wr B m _ xs 1 (by omega) (HU.out.at hB hbl) h1 (by omega)⟩

/-- as far as one has come -/
def Thd (F : List Int → List Pt) (l : List Pt) (ns : List Dl) (i : Nat) : Prop := ns.map (fun n => rd n.2) = (l.take i).map fun p => F p.1
theorem Thd.nil (F : List Int → List Pt) (l : List Pt) : Thd F l [] 0 := by simp [Thd]
theorem Thd.len {F : List Int → List Pt} {l : List Pt} {ns : List Dl} {i : Nat} (h : Thd F l ns i) (hi : i ≤ l.length) : ns.length = i := by
  have := congrArg List.length (show ns.map _ = _ from h)
  simp at this
  omega
theorem Thd.step {F : List Int → List Pt} {l : List Pt} {ns : List Dl} {i : Nat} {n : Dl} {x : List Int} {k : Int} (h : Thd F l ns i) (hp : l[i]? = some (x, k)) (hn : rd n.2 = F x) : Thd F l (ns ++ [n]) (i + 1) := by
  unfold Thd at *
  rw [List.take_add_one, hp, List.map_append, h]
  simp [hn]

set_option maxHeartbeats 2000000 in
set_option maxRecDepth 100000 in
theorem bindR_any (B : Nat) (v u : Value) (ts : List Tr) (fs : List Fl) (w : World) (hB : B ≤ w.heap.size) (hp : Parts w B v ts) (hq : Fws w B u fs) (l : List Pt) (er : Int) (hr : bindT (rd ts) (thenT (fd fs)) = (l, er)) :
    Calls Try.prog 22 #[v, u] w fun e w' => ∃ v' us, e = .returned (.tuple #[v', .int .i64 er]) ∧ rd us = l ∧ OwnN w' w.heap.size v' us ∧ Below w.heap.size w w' := by
  obtain ⟨e1, ho⟩ : ∃ x, (ownT (rd ts)).2 = x := ⟨_, rfl⟩
  have kc := wrongR_any B v ts w hB hp e1 ho
  have HP : Hid (Parts w B v ts) := hp
  have HQ : Hid (Fws w B u fs) := hq
  obtain ⟨F, HF⟩ : ∃ F, Hid (thenT (fd fs) = F) := ⟨_, rfl⟩
  rw [HF.out] at hr
  have HR : Hid (bindT (rd ts) F = (l, er) ∧ (ownT (rd ts)).2 = e1) := ⟨hr, ho⟩
  obtain ⟨a, c, rfl, _, hul, _⟩ := hp
  obtain ⟨ua, uc, rfl, _⟩ := hq
  obtain ⟨i0, hi0, hz0, hz1, hz2⟩ := info_parts info23
  clear hr ho
  go_enter Try.func22, Try.ntmps22
  go_wp2_with fail
  refine kc.mono ?_
  rintro e w1 ⟨rfl, h3⟩
  have hs1 := h3.size
  clear kc
  by_cases h0 : e1 = 0
  · subst h0
    have HM : Hid (chT (fun x => ownT (F x)) (rd ts) = (l, er) ∧ Dis (rd ts)) := by
      have := HR.out.1
      unfold bindT at this
      rw [HR.out.2] at this
      exact ⟨this, (ownT_ok (Prod.ext rfl HR.out.2 : ownT (rd ts) = ((ownT (rd ts)).1, 0))).2⟩
    go_wp2
    go_loopw [7, 17] (fun pv iv wr => ∃ (i : Nat) (ns : List Dl), iv = .int .i64 (i : Int) ∧ i ≤ ts.length ∧ Hid (Thd F (rd ts) ns i ∧ Dsr wr w1.heap.size pv ns) ∧ Below w1.heap.size w1 wr) (fun _ iv _ => ts.length - (intOf iv).toNat)
    case atStart => exact ⟨0, [], rfl, Nat.zero_le _, ⟨Thd.nil _ _, Dsr.nil _ _⟩, Below.refl _ _⟩
    case round =>
      obtain ⟨i, ns, rfl, hit, HD, hbl⟩ := hrel
      have hbs := hbl.size
      have bw : Below w.heap.size w wr := bt h3 hbl
      have HDL : Hid (ns.length ≤ ts.length) := by have := HD.out.1.len (by rw [rd_len]; exact hit); show ns.length ≤ ts.length; omega
      have hpl := HD.out.2.lt
      obtain ⟨pa, pc, rfl⟩ := HD.out.2.slice
      by_cases h1 : i < ts.length
      · obtain ⟨b, o, sa, sc, xs, k, rfl, hb, hs, c1, c2, hIx⟩ := HP.out.get hB bw h1
        have HS : Hid ((rd ts)[i]? = some (xs, k)) := rd_get hs
        have HIx : Hid (Ints wr B B (.slice sa xs.length sc) xs) := hIx
        obtain ⟨mo, hmo, hmo2, hmg⟩ := own_or2 (v := .slice pa ns.length pc) (lo := w1.heap.size) (n := wr.heap.size + 1) (fun g e => ⟨(hpl g e).1, Nat.lt_succ_of_lt (hpl g e).2⟩) (by omega)
        have HO : Hid (∀ g, (Value.slice pa ns.length pc).ownBlock = some g → mo = g) := hmg
        clear hs hIx hmg
        go_wp2_with fail
        refine (thenR_any B _ _ fs xs _ (by simp; omega) ((HQ.out.at hB bw).at (by omega) (ba _ _)) (HIx.out.at (by omega) (ba _ _)) (F xs) (by rw [HF.out])).mono ?_
        rintro e w3 ⟨rv, ru, rfl, hrr, hrp, hb3, haw⟩
        have HPN : Hid (PartsN w3 w3.heap.size mo rv ru ∧ rd ru = F xs) := ⟨haw mo (by omega) (by simp; omega), hrr⟩
        obtain ⟨ra, rc, rfl, _⟩ := hrp
        have bw3 : Below wr.heap.size wr (w3.alloc (.cells #[.slice ra ru.length rc] 23)) := bal (bt (ba _ _) hb3) _
        have HFk : Hid (Dsr (w3.alloc (.cells #[.slice ra ru.length rc] 23)) w1.heap.size (.slice pa ns.length pc) ns) := HD.out.2.keep bw3
        have BB : Hid (Below w1.heap.size w1 (w3.alloc (.cells #[.slice ra ru.length rc] 23))) := bt hbl bw3
        have hw3 : w1.heap.size ≤ w3.heap.size := by have := hb3.size; simp at this; omega
        have hnl := HDL.out
        clear hrr haw bw3 hb3
        go_wp2_with (at_builtin; refine wpList_append_lies _ rfl _ _ 75 rfl w1.heap.size 23 i0 (.slice none 0 0) 1 24 Try.underlying75 hi0 hz0 hz1 hz2 rfl (by decide) _ _ _ rfl HFk.out.1 ⟨w3.heap.size, 0, none⟩ 1 1 [.slice ra ru.length rc] rfl ?q1 ?q2 ?q3 (by decide) ?q4 ?q5 ?q6 (w3.heap.size + 1) ?q7 ?_)
        case q1 => rfl
        case q2 =>
          intro j u hj
          match j, hj with
          | 0, hj => simp at hj; subst hj; simp [go_sem, Addr.add]
        case q3 => intro u hu; simp at hu; subst hu; rfl
        case q4 => simp [maxLen]; omega
        case q5 => omega
        case q6 => simp; omega
        case q7 => simp
        intro g cap w4 hown hgrow hat hlt
        have HFn : Hid (Dsr w4 w1.heap.size (.slice (some ⟨g, 0, none⟩) (ns.length + 1) cap) (ns ++ [(.slice ra ru.length rc, ru)])) :=
          HFk.out.app (n := (.slice ra ru.length rc, ru)) hown hgrow (hat.imp (fun e => by rw [e]; rfl) (fun e => by rw [e]; simp [Value.ownBlock])) (HPN.out.1.at2 (ba _ _)) HO.out
        have B4 : Below w1.heap.size w1 w4 := BB.out.grown hgrow (by simp; omega) (owns_block HFk.out.1)
        have HTn : Hid (Thd F (rd ts) (ns ++ [(.slice ra ru.length rc, ru)]) (i + 1)) := HD.out.1.step HS.out HPN.out.2
        clear hown hgrow hat hlt HFk
        go_wp2
        go_roundw
        case rel => exact ⟨i + 1, ns ++ [(.slice ra ru.length rc, ru)], by go_num, h1, ⟨HTn.out, HFn.out⟩, B4⟩
        case measure => simp [intOf]; omega
      · have hns : ns.map (fun n => rd n.2) = (rd ts).map fun p => F p.1 := by
          have := HD.out.1
          unfold Thd at this
          rw [List.take_of_length_le (by rw [rd_len]; omega)] at this
          exact this
        have kch := chainR_any F wr.heap.size (.slice a ts.length c) (.slice pa ns.length pc) ts ns wr (Nat.le_refl _) ((HP.out.at hB bw).mono (by omega)) (HD.out.2.dss (by have := HDL.out; omega)) HM.out.2 hns l er HM.out.1
        clear hns
        go_wp2_with fail
        refine kch.mono ?_
        rintro e w5 ⟨v5, xs, rfl, k1, k2, k3⟩
        obtain ⟨b5, d5, rfl⟩ := k2.slice
        clear kch
        go_wp2
        exact bodyPost_ret (v := .tuple #[.slice b5 xs.length d5, .int .i64 er]) (by simp [results, Try.results22, go_sem]) rfl ⟨_, xs, rfl, k1, k2.mono (by omega), bt bw k3⟩
  · have h0' : (e1 == 0) = false := by simpa using h0
    have hm := HR.out.1
    unfold bindT at hm
    rw [HR.out.2] at hm
    simp only [h0, if_false, Prod.mk.injEq] at hm
    obtain ⟨rfl, rfl⟩ := hm
    go_wp2
    exact bodyPost_ret (v := .tuple #[.slice none 0 0, .int .i64 e1]) (by simp [results, Try.results22, go_sem]) rfl ⟨_, [], rfl, rfl, .inl ⟨rfl, rfl⟩, h3⟩
end Go.Proofs.Ytcglfojbgdlbhaa
