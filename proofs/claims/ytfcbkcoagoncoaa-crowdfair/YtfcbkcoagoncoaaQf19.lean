import Derived.Test.YtfcbkcoagoncoaaQf18
namespace Go.Proofs.Ytfcbkcoagoncoaa
open Go.RowKit Go.Proofs.Ytfcbkcoagoncoaa.Ds

theorem take_next {α : Type} {l k : List α} {i : Nat} {x : α} (h : l.take i = k.take i) (hl : l[i]? = some x) (hk : k[i]? = some x) : l.take (i + 1) = k.take (i + 1) := by
  rw [List.take_add_one, List.take_add_one, h, hl, hk]

set_option maxHeartbeats 1000000 in
theorem equal_any (B : Nat) (u v : Value) (ts us : List Tr) (w : World) (hB : B ≤ w.heap.size) (hp : Parts w B u ts) (hq : Parts w B v us) (r : Bool) (hr : decide (rd ts = rd us) = r) :
    Calls Try.prog 55 #[u, v, .func (.func 56) #[] #[]] w fun e w' => e = .returned (.bool r) ∧ Below w.heap.size w w' := by
  have HP : Hid (Parts w B u ts) := hp
  have HQ : Hid (Parts w B v us) := hq
  have HR : Hid (decide (rd ts = rd us) = r) := hr
  obtain ⟨a, c, rfl, hc, hl, _⟩ := hp
  obtain ⟨a2, c2, rfl, hc2, hl2, _⟩ := hq
  clear hr
  by_cases hlen : ts.length = us.length
  · have hle : (((ts.length : Int)) == (us.length : Int)) = true := by simp [hlen]
    have hle2 : (((ts.length : Int)) != (us.length : Int)) = false := by simp [hlen]
    have HLN : Hid (ts.length = us.length) := hlen
    clear hlen
    go_enter Try.func55, Try.ntmps55
    go_wp2
    go_loopw [17] (fun s wr => ∃ i : Nat, s = .int .i64 (i : Int) ∧ i ≤ ts.length ∧ (rd ts).take i = (rd us).take i ∧ Below w.heap.size w wr) (fun s _ => ts.length - (intOf s).toNat)
    case atStart => exact ⟨0, rfl, Nat.zero_le _, by simp, Below.refl _ _⟩
    case round =>
      obtain ⟨i, rfl, hit, htk, hbl⟩ := hrel
      have HT : Hid ((rd ts).take i = (rd us).take i) := htk
      clear htk
      by_cases h1 : i < ts.length
      · obtain ⟨b, o, sa, sc, xs, k, rfl, hb, hs, c1, c2', hI⟩ := HP.out.get hB hbl h1
        obtain ⟨b2, o2, sa2, sc2, xs2, k2, rfl, hb2, hs2, d1, d2, hI2⟩ := HQ.out.get hB hbl (i := i) (by have := HLN.out; omega)
        have HS : Hid ((rd ts)[i]? = some (xs, k)) := rd_get hs
        have HS2 : Hid ((rd us)[i]? = some (xs2, k2)) := rd_get hs2
        have HI : Hid (Ints wr B B (.slice sa xs.length sc) xs) := hI
        have HI2 : Hid (Ints wr B B (.slice sa2 xs2.length sc2) xs2) := hI2
        have hs1 := hbl.size
        have z1 : (i : Int) < (us.length : Int) := by have := HLN.out; omega
        have n1 : b < wr.heap.size := by omega
        have n2 : b2 < wr.heap.size := by omega
        clear hs hs2 hI hI2
        by_cases he : k = k2 ∧ xs = xs2
        · have hd : Hid (decide (k = k2 ∧ xs = xs2) = true) := decide_eq_true he
          have HE : Hid ((xs2, k2) = (xs, k)) := by rw [Hid, he.1, he.2]
          clear he
          go_wp2_with (go_at_call 56; refine (same_any B B B _ _ _ _ xs xs2 _ ?_ ?_ ?_ _ hd.out).mono ?_; (simp; omega); (exact HI.out.at (by omega) (bal (ba _ _) _)); (exact HI2.out.at (by omega) (bal (ba _ _) _)); rintro e w1 ⟨rfl, hb1⟩)
          go_roundw
          case rel => exact ⟨i + 1, by go_num, h1, take_next HT.out HS.out (by rw [HS2.out, HE.out]), bt (bal (bal hbl _) _) hb1⟩
          case measure => simp [intOf]; omega
        · have hd : Hid (decide (k = k2 ∧ xs = xs2) = false) := decide_eq_false he
          have hr1 : r = false := by
            rw [← HR.out]
            refine decide_eq_false fun h => he ?_
            have h2 := HS.out
            rw [h, HS2.out] at h2
            simp only [Option.some.injEq, Prod.mk.injEq] at h2
            exact ⟨h2.2.symm, h2.1.symm⟩
          subst hr1
          clear he
          go_wp2_with (go_at_call 56; refine (same_any B B B _ _ _ _ xs xs2 _ ?_ ?_ ?_ _ hd.out).mono ?_; (simp; omega); (exact HI.out.at (by omega) (bal (ba _ _) _)); (exact HI2.out.at (by omega) (bal (ba _ _) _)); rintro e w1 ⟨rfl, hb1⟩)
          go_ret
          exact ⟨rfl, bt (bal (bal hbl _) _) hb1⟩
      · have hr1 : r = true := by
          rw [← HR.out]
          refine decide_eq_true ?_
          have := HT.out
          rwa [rd_take_all (by omega), rd_take_all (by have := HLN.out; omega)] at this
        subst hr1
        go_wp2
        go_ret
        exact ⟨rfl, hbl⟩
  · have hle : (((ts.length : Int)) == (us.length : Int)) = false := by simp; omega
    have hle2 : (((ts.length : Int)) != (us.length : Int)) = true := by simp; omega
    have hr1 : r = false := by
      rw [← HR.out]
      refine decide_eq_false fun h => hlen ?_
      rw [← rd_len, h, rd_len]
    subst hr1
    go_enter Try.func55, Try.ntmps55
    go_wp2
    go_ret
    exact ⟨rfl, Below.refl _ _⟩

/-- own -/
def ownT (l : List Pt) : List Pt × Int := if (makeT l).2 = 0 then if (makeT l).1 = l then (l, 0) else ([], 2) else ([], (makeT l).2)

theorem lowT_err (l : List Pt) : (lowT l).2 = 0 ∨ (lowT l).1 = [] := by
  unfold lowT; split
  · exact .inr rfl
  · split
    · exact .inr rfl
    · exact .inl rfl
theorem makeT_err (l : List Pt) : (makeT l).2 = 0 ∨ (makeT l).1 = [] := by
  unfold makeT; split
  · exact lowT_err _
  · exact .inr rfl

set_option maxHeartbeats 1000000 in
theorem own_fr (B : Nat) (v : Value) (ts : List Tr) (w : World) (hB : B ≤ w.heap.size) (hp : Parts w B v ts) (l : List Pt) (er : Int) (hr : ownT (rd ts) = (l, er)) :
    Calls Try.prog 42 #[v] w fun e w' => ∃ v' us, e = .returned (.tuple #[v', .int .i64 er]) ∧ rd us = l ∧ OwnN w' w.heap.size v' us ∧ Below w.heap.size w w' ∧ Frs w.heap.size us := by
  have HP : Hid (Parts w B v ts) := hp
  obtain ⟨a, c, rfl, hc, hl, _⟩ := hp
  obtain ⟨⟨m, e1⟩, hm⟩ : ∃ m, makeT (rd ts) = m := ⟨_, rfl⟩
  have kc := make_fr B _ ts w hB HP.out m e1 hm
  have hme := makeT_err (rd ts)
  rw [ownT, hm] at hr
  rw [hm] at hme
  simp only at hr hme
  have HR : Hid ((if e1 = 0 then if m = rd ts then (rd ts, 0) else ([], 2) else ([], e1)) = (l, er) ∧ (e1 = 0 ∨ m = [])) := ⟨hr, hme⟩
  clear hr hme hm
  go_enter Try.func42, Try.ntmps42
  go_wp2_with fail
  refine kc.mono ?_
  rintro e w1 ⟨v1, us, rfl, hrd, ho, hb1, hfr⟩
  have HFR : Hid (Frs w.heap.size us) := hfr
  clear hfr
  have HO : Hid (OwnN w1 w.heap.size v1 us) := ho
  have HD : Hid (rd us = m) := hrd
  obtain ⟨a1, c1, rfl⟩ := ho.slice
  clear ho hrd kc
  by_cases h0 : e1 = 0
  · subst h0
    have hP1 : Parts w1 w1.heap.size (.slice a ts.length c) ts := (HP.out.at hB hb1).mono (Nat.le_trans hB hb1.size)
    by_cases h2 : m = rd ts
    · have h3 := HR.out.1
      rw [if_pos rfl, if_pos h2] at h3
      simp only [Prod.mk.injEq] at h3
      obtain ⟨h3, rfl⟩ := h3
      have HL : Hid (rd us = l) := by rw [Hid, HD.out, h2, h3]
      have ke := equal_any w1.heap.size _ _ ts us w1 (Nat.le_refl _) hP1 HO.out.parts true (decide_eq_true (by rw [HD.out, h2]))
      clear h2 h3 hP1
      go_wp2_with fail
      refine ke.mono ?_
      rintro e w2 ⟨rfl, hb2⟩
      clear ke
      go_wp2
      exact bodyPost_ret (v := .tuple #[.slice a1 us.length c1, .int .i64 0]) (by simp [results, Try.results42, go_sem]) rfl ⟨_, us, rfl, HL.out, HO.out.keep hb2, bt hb1 hb2, HFR.out⟩
    · have h3 := HR.out.1
      rw [if_pos rfl, if_neg h2] at h3
      simp only [Prod.mk.injEq] at h3
      obtain ⟨rfl, rfl⟩ := h3
      have ke := equal_any w1.heap.size _ _ ts us w1 (Nat.le_refl _) hP1 HO.out.parts false (decide_eq_false (by rw [HD.out]; exact fun h => h2 h.symm))
      clear h2 hP1
      go_wp2_with fail
      refine ke.mono ?_
      rintro e w2 ⟨rfl, hb2⟩
      clear ke
      go_wp2
      exact bodyPost_ret (v := .tuple #[.slice none 0 0, .int .i64 2]) (by simp [results, Try.results42, go_sem]) rfl ⟨_, [], rfl, rfl, .inl ⟨rfl, rfl⟩, bt hb1 hb2, Frs.nil _⟩
  · have h3 := HR.out.1
    have h4 := HR.out.2
    rw [if_neg h0] at h3
    simp only [Prod.mk.injEq] at h3
    obtain ⟨rfl, rfl⟩ := h3
    have HL : Hid (rd us = []) := by
      rcases h4 with h | h
      · exact absurd h h0
      · rw [Hid, HD.out, h]
    have h0' : (e1 == 0) = false := by simpa using h0
    clear h4
    go_wp2
    exact bodyPost_ret (v := .tuple #[.slice a1 us.length c1, .int .i64 e1]) (by simp [results, Try.results42, go_sem]) rfl ⟨_, us, rfl, HL.out, HO.out, hb1, HFR.out⟩

theorem own_any (B : Nat) (v : Value) (ts : List Tr) (w : World) (hB : B ≤ w.heap.size) (hp : Parts w B v ts) (l : List Pt) (er : Int) (hr : ownT (rd ts) = (l, er)) :
    Calls Try.prog 42 #[v] w fun e w' => ∃ v' us, e = .returned (.tuple #[v', .int .i64 er]) ∧ rd us = l ∧ OwnN w' w.heap.size v' us ∧ Below w.heap.size w w' :=
  (own_fr B v ts w hB hp l er hr).mono fun _ _ ⟨v', us, h1, h2, h3, h4, _⟩ => ⟨v', us, h1, h2, h3, h4⟩

theorem parts_one (w : World) (B nb : Nat) (v : Value) (xs : List Int) (k : Int) (hB : B ≤ w.heap.size) (h : Ints w B nb v xs) :
    Parts (w.alloc (.cells #[v, .int .i64 k] 37)) (w.heap.size + 1) (.slice (some ⟨w.heap.size, 0, none⟩) 1 1) [(v, xs, k)] := by
  refine ⟨_, 1, rfl, by simp, by simp, fun t ht => ?_, fun _ => ⟨w.heap.size, 0, rfl, by omega, fun i t hi => ?_⟩⟩
  · simp at ht; subst ht
    exact (h.at hB (ba _ _)).mono (by omega) (.inr (by omega))
  · match i, hi with
    | 0, hi =>
      simp at hi; subst hi
      exact ⟨by simp [go_sem], by simp [go_sem]⟩

set_option maxHeartbeats 1000000 in
theorem sure_any (B nb : Nat) (v : Value) (xs : List Int) (w : World) (hB : B ≤ w.heap.size) (hp : Ints w B nb v xs) (l : List Pt) (er : Int) (hr : makeT [(xs, 1)] = (l, er)) :
    Calls Try.prog 17 #[v] w fun e w' => ∃ v' us, e = .returned (.tuple #[v', .int .i64 er]) ∧ rd us = l ∧ OwnN w' w.heap.size v' us ∧ Below w.heap.size w w' := by
  have kc := make_any (w.heap.size + 1) _ _ _ (by simp) (parts_one w B nb v xs 1 hB hp) l er hr
  obtain ⟨a, c, rfl, hc, hl, _⟩ := hp
  clear hr
  go_enter Try.func17, Try.ntmps17
  go_wp2_with fail
  refine kc.mono ?_
  rintro e w1 ⟨v1, us, rfl, hrd, ho, hb1⟩
  have HO : Hid (OwnN w1 w.heap.size v1 us) := ho.mono (by simp)
  have HD : Hid (rd us = l) := hrd
  obtain ⟨a1, c1, rfl⟩ := ho.slice
  clear ho hrd kc
  go_wp2
  exact bodyPost_ret (v := .tuple #[.slice a1 us.length c1, .int .i64 er]) (by simp [results, Try.results17, go_sem]) rfl ⟨_, us, rfl, HD.out, HO.out, bt (ba _ _) hb1⟩
end Go.Proofs.Ytfcbkcoagoncoaa
