import Derived.Test.YtlndlpjadajelaaGreatQa08
import Derived.Test.YtlndlpjadajelaaGreatQa03
namespace Go.Proofs.YtlndlpjadajelaaGreat
open Go.RowKit Go.Proofs.YtlndlpjadajelaaGreat.Ds

theorem take_next {α : Type} {l k : List α} {i : Nat} {x : α} (h : l.take i = k.take i) (hl : l[i]? = some x) (hk : k[i]? = some x) : l.take (i + 1) = k.take (i + 1) := by
  rw [List.take_add_one, List.take_add_one, h, hl, hk]

set_option maxHeartbeats 1000000 in
theorem equal_any (B : Nat) (u v : Value) (ts us : List Tr) (w : World) (hB : B ≤ w.heap.size) (hp : Parts w B u ts) (hq : Parts w B v us) (r : Bool) (hr : decide (rd ts = rd us) = r) :
    Calls Tryz.prog 148 #[u, v, .func (.func 149) #[] #[]] w fun e w' => e = .returned (.bool r) ∧ Below w.heap.size w w' := by
  have HP : Hid (Parts w B u ts) := hp
  have HQ : Hid (Parts w B v us) := hq
  have HR : Hid (decide (rd ts = rd us) = r) := hr
  obtain ⟨a, c, rfl, hc, hl, _⟩ := hp
  obtain ⟨a2, c2, rfl, hc2, hl2, _⟩ := hq
  clear hr
  by_cases hlen : ts.length = us.length
  · have hle : (((ts.length : Int)) == (us.length : Int)) = true := by simp [hlen]
    have hle2 : (((ts.length : Int)) != (us.length : Int)) = false := by simp [hlen]
    have HLN : Hid (ts.length = us.length) := hlen
    clear hlen
    go_enter Tryz.func148, Tryz.ntmps148
    go_wp2
    go_loopw [17] (fun s wr => ∃ i : Nat, s = .int .i64 (i : Int) ∧ i ≤ ts.length ∧ (rd ts).take i = (rd us).take i ∧ Below w.heap.size w wr) (fun s _ => ts.length - (intOf s).toNat)
    case atStart => exact ⟨0, rfl, Nat.zero_le _, by simp, Below.refl _ _⟩
    case round =>
      obtain ⟨i, rfl, hit, htk, hbl⟩ := hrel
      have HT : Hid ((rd ts).take i = (rd us).take i) := htk
      clear htk
      by_cases h1 : i < ts.length
      · obtain ⟨b, o, sa, sc, xs, k, rfl, hb, hs, c1, c2', hI⟩ := HP.out.get hB hbl h1
        obtain ⟨b2, o2, sa2, sc2, xs2, k2, rfl, hb2, hs2, d1, d2, hI2⟩ := HQ.out.get hB hbl (i := i) (by have := HLN.out; omega)
        have HS : Hid ((rd ts)[i]? = some (xs, k)) := rd_get hs
        have HS2 : Hid ((rd us)[i]? = some (xs2, k2)) := rd_get hs2
        have HI : Hid (Ints wr B B (.slice sa xs.length sc) xs) := hI
        have HI2 : Hid (Ints wr B B (.slice sa2 xs2.length sc2) xs2) := hI2
        have hs1 := hbl.size
        have z1 : (i : Int) < (us.length : Int) := by have := HLN.out; omega
        have n1 : b < wr.heap.size := by omega
        have n2 : b2 < wr.heap.size := by omega
        clear hs hs2 hI hI2
        by_cases he : k = k2 ∧ xs = xs2
        · have hd : Hid (decide (k = k2 ∧ xs = xs2) = true) := decide_eq_true he
          have HE : Hid ((xs2, k2) = (xs, k)) := by rw [Hid, he.1, he.2]
          clear he
          go_wp2_with (go_at_call 149; refine (same_any B B B _ _ _ _ xs xs2 _ ?_ ?_ ?_ _ hd.out).mono ?_; (simp; omega); (exact HI.out.at (by omega) (bal (ba _ _) _)); (exact HI2.out.at (by omega) (bal (ba _ _) _)); rintro e w1 ⟨rfl, hb1⟩)
          go_roundw
          case rel => exact ⟨i + 1, by go_num, h1, take_next HT.out HS.out (by rw [HS2.out, HE.out]), bt (bal (bal hbl _) _) hb1⟩
          case measure => simp [intOf]; omega
        · have hd : Hid (decide (k = k2 ∧ xs = xs2) = false) := decide_eq_false he
          have hr1 : r = false := by
            rw [← HR.out]
            refine decide_eq_false fun h => he ?_
            have h2 := HS.out
            rw [h, HS2.out] at h2
            simp only [Option.some.injEq, Prod.mk.injEq] at h2
            exact ⟨h2.2.symm, h2.1.symm⟩
          subst hr1
          clear he
          go_wp2_with (go_at_call 149; refine (same_any B B B _ _ _ _ xs xs2 _ ?_ ?_ ?_ _ hd.out).mono ?_; (simp; omega); (exact HI.out.at (by omega) (bal (ba _ _) _)); (exact HI2.out.at (by omega) (bal (ba _ _) _)); rintro e w1 ⟨rfl, hb1⟩)
          go_ret
          exact ⟨rfl, bt (bal (bal hbl _) _) hb1⟩
      · have hr1 : r = true := by
          rw [← HR.out]
          refine decide_eq_true ?_
          have := HT.out
          rwa [rd_take_all (by omega), rd_take_all (by have := HLN.out; omega)] at this
        subst hr1
        go_wp2
        go_ret
        exact ⟨rfl, hbl⟩
  · have hle : (((ts.length : Int)) == (us.length : Int)) = false := by simp; omega
    have hle2 : (((ts.length : Int)) != (us.length : Int)) = true := by simp; omega
    have hr1 : r = false := by
      rw [← HR.out]
      refine decide_eq_false fun h => hlen ?_
      rw [← rd_len, h, rd_len]
    subst hr1
    go_enter Tryz.func148, Tryz.ntmps148
    go_wp2
    go_ret
    exact ⟨rfl, Below.refl _ _⟩

/-- own -/
def ownT (l : List Pt) : List Pt × Int := if (makeT l).2 = 0 then if (makeT l).1 = l then (l, 0) else ([], 2) else ([], (makeT l).2)

theorem lowT_err (l : List Pt) : (lowT l).2 = 0 ∨ (lowT l).1 = [] := by
  unfold lowT; split
  · exact .inr rfl
  · split
    · exact .inr rfl
    · exact .inl rfl
theorem makeT_err (l : List Pt) : (makeT l).2 = 0 ∨ (makeT l).1 = [] := by
  unfold makeT; split
  · exact lowT_err _
  · exact .inr rfl

set_option maxHeartbeats 1000000 in
theorem own_fr (B : Nat) (v : Value) (ts : List Tr) (w : World) (hB : B ≤ w.heap.size) (hp : Parts w B v ts) (l : List Pt) (er : Int) (hr : ownT (rd ts) = (l, er)) :
    Calls Tryz.prog 86 #[v] w fun e w' => ∃ v' us, e = .returned (.tuple #[v', .int .i64 er]) ∧ rd us = l ∧ OwnN w' w.heap.size v' us ∧ Below w.heap.size w w' ∧ Frs w.heap.size us := by
  have HP : Hid (Parts w B v ts) := hp
  obtain ⟨a, c, rfl, hc, hl, _⟩ := hp
  obtain ⟨⟨m, e1⟩, hm⟩ : ∃ m, makeT (rd ts) = m := ⟨_, rfl⟩
  have kc := make_fr B _ ts w hB HP.out m e1 hm
  have hme := makeT_err (rd ts)
  rw [ownT, hm] at hr
  rw [hm] at hme
  simp only at hr hme
  have HR : Hid ((if e1 = 0 then if m = rd ts then (rd ts, 0) else ([], 2) else ([], e1)) = (l, er) ∧ (e1 = 0 ∨ m = [])) := ⟨hr, hme⟩
  clear hr hme hm
  go_enter Tryz.func86, Tryz.ntmps86
  go_wp2_with fail
  refine kc.mono ?_
  rintro e w1 ⟨v1, us, rfl, hrd, ho, hb1, hfr⟩
  have HFR : Hid (Frs w.heap.size us) := hfr
  clear hfr
  have HO : Hid (OwnN w1 w.heap.size v1 us) := ho
  have HD : Hid (rd us = m) := hrd
  obtain ⟨a1, c1, rfl⟩ := ho.slice
  clear ho hrd kc
  by_cases h0 : e1 = 0
  · subst h0
    have hP1 : Parts w1 w1.heap.size (.slice a ts.length c) ts := (HP.out.at hB hb1).mono (Nat.le_trans hB hb1.size)
    by_cases h2 : m = rd ts
    · have h3 := HR.out.1
      rw [if_pos rfl, if_pos h2] at h3
      simp only [Prod.mk.injEq] at h3
      obtain ⟨h3, rfl⟩ := h3
      have HL : Hid (rd us = l) := by rw [Hid, HD.out, h2, h3]
      have ke := equal_any w1.heap.size _ _ ts us w1 (Nat.le_refl _) hP1 HO.out.parts true (decide_eq_true (by rw [HD.out, h2]))
      clear h2 h3 hP1
      go_wp2_with fail
      refine ke.mono ?_
      rintro e w2 ⟨rfl, hb2⟩
      clear ke
      go_wp2
      exact bodyPost_ret (v := .tuple #[.slice a1 us.length c1, .int .i64 0]) (by simp [results, Tryz.results86, go_sem]) rfl ⟨_, us, rfl, HL.out, HO.out.keep hb2, bt hb1 hb2, HFR.out⟩
    · have h3 := HR.out.1
      rw [if_pos rfl, if_neg h2] at h3
      simp only [Prod.mk.injEq] at h3
      obtain ⟨rfl, rfl⟩ := h3
      have ke := equal_any w1.heap.size _ _ ts us w1 (Nat.le_refl _) hP1 HO.out.parts false (decide_eq_false (by rw [HD.out]; exact fun h => h2 h.symm))
      clear h2 hP1
      go_wp2_with fail
      refine ke.mono ?_
      rintro e w2 ⟨rfl, hb2⟩
      clear ke
      go_wp2
      exact bodyPost_ret (v := .tuple #[.slice none 0 0, .int .i64 2]) (by simp [results, Tryz.results86, go_sem]) rfl ⟨_, [], rfl, rfl, .inl ⟨rfl, rfl⟩, bt hb1 hb2, Frs.nil _⟩
  · have h3 := HR.out.1
    have h4 := HR.out.2
    rw [if_neg h0] at h3
    simp only [Prod.mk.injEq] at h3
    obtain ⟨rfl, rfl⟩ := h3
    have HL : Hid (rd us = []) := by
      rcases h4 with h | h
      · exact absurd h h0
      · rw [Hid, HD.out, h]
    have h0' : (e1 == 0) = false := by simpa using h0
    clear h4
    go_wp2
    exact bodyPost_ret (v := .tuple #[.slice a1 us.length c1, .int .i64 e1]) (by simp [results, Tryz.results86, go_sem]) rfl ⟨_, us, rfl, HL.out, HO.out, hb1, HFR.out⟩

theorem own_any (B : Nat) (v : Value) (ts : List Tr) (w : World) (hB : B ≤ w.heap.size) (hp : Parts w B v ts) (l : List Pt) (er : Int) (hr : ownT (rd ts) = (l, er)) :
    Calls Tryz.prog 86 #[v] w fun e w' => ∃ v' us, e = .returned (.tuple #[v', .int .i64 er]) ∧ rd us = l ∧ OwnN w' w.heap.size v' us ∧ Below w.heap.size w w' :=
  (own_fr B v ts w hB hp l er hr).mono fun _ _ ⟨v', us, h1, h2, h3, h4, _⟩ => ⟨v', us, h1, h2, h3, h4⟩

theorem parts_one (w : World) (B nb : Nat) (v : Value) (xs : List Int) (k : Int) (hB : B ≤ w.heap.size) (h : Ints w B nb v xs) :
    Parts (w.alloc (.cells #[v, .int .i64 k] 82)) (w.heap.size + 1) (.slice (some ⟨w.heap.size, 0, none⟩) 1 1) [(v, xs, k)] := by
  refine ⟨_, 1, rfl, by simp, by simp, fun t ht => ?_, fun _ => ⟨w.heap.size, 0, rfl, by omega, fun i t hi => ?_⟩⟩
  · simp at ht; subst ht
    exact (h.at hB (ba _ _)).mono (by omega) (.inr (by omega))
  · match i, hi with
    | 0, hi =>
      simp at hi; subst hi
      exact ⟨by simp [go_sem], by simp [go_sem]⟩

set_option maxHeartbeats 1000000 in
theorem sure_any (B nb : Nat) (v : Value) (xs : List Int) (w : World) (hB : B ≤ w.heap.size) (hp : Ints w B nb v xs) (l : List Pt) (er : Int) (hr : makeT [(xs, 1)] = (l, er)) :
    Calls Tryz.prog 81 #[v] w fun e w' => ∃ v' us, e = .returned (.tuple #[v', .int .i64 er]) ∧ rd us = l ∧ OwnN w' w.heap.size v' us ∧ Below w.heap.size w w' := by
  have kc := make_any (w.heap.size + 1) _ _ _ (by simp) (parts_one w B nb v xs 1 hB hp) l er hr
  obtain ⟨a, c, rfl, hc, hl, _⟩ := hp
  clear hr
  go_enter Tryz.func81, Tryz.ntmps81
  go_wp2_with fail
  refine kc.mono ?_
  rintro e w1 ⟨v1, us, rfl, hrd, ho, hb1⟩
  have HO : Hid (OwnN w1 w.heap.size v1 us) := ho.mono (by simp)
  have HD : Hid (rd us = l) := hrd
  obtain ⟨a1, c1, rfl⟩ := ho.slice
  clear ho hrd kc
  go_wp2
  exact bodyPost_ret (v := .tuple #[.slice a1 us.length c1, .int .i64 er]) (by simp [results, Tryz.results81, go_sem]) rfl ⟨_, us, rfl, HD.out, HO.out, bt (ba _ _) hb1⟩
end Go.Proofs.YtlndlpjadajelaaGreat

namespace Go.Proofs.YtlndlpjadajelaaGreat
open Go.RowKit

/-- The value of what is told. -/
abbrev rv (n m : Int) : Value := .agg #[.int .i64 n, .int .i64 m]

set_option maxHeartbeats 400000 in
theorem rmake_any (u d n m e : Int) (hu : u ≤ 9223372036854775807) (hd : d ≤ 9223372036854775807) (h : Rt.mkT u d = (n, m, e)) (w : World) :
    Calls Tryz.prog 41 #[.int .i64 u, .int .i64 d] w fun x w' => x = .returned (.tuple #[rv n m, .int .i64 e]) ∧ Below w.heap.size w w' := by
  have H : Hid (Rt.mkT u d = (n, m, e)) := h
  clear h
  by_cases c1 : u < 0
  · have hr : (0, 0, 3) = (n, m, e) := by rw [← H.out]; unfold Rt.mkT; rw [if_pos (.inl c1)]
    simp only [Prod.mk.injEq] at hr
    obtain ⟨rfl, rfl, rfl⟩ := hr
    go_enter Tryz.func41, Tryz.ntmps41
    go_wp2
    exact bodyPost_ret (v := .tuple #[rv 0 0, .int .i64 3]) (by simp [results, Tryz.results41, go_sem]) rfl ⟨rfl, ba _ _⟩
  by_cases c2 : d < 1
  · have hr : (0, 0, 3) = (n, m, e) := by rw [← H.out]; unfold Rt.mkT; rw [if_pos (.inr c2)]
    simp only [Prod.mk.injEq] at hr
    obtain ⟨rfl, rfl, rfl⟩ := hr
    go_enter Tryz.func41, Tryz.ntmps41
    go_wp2
    exact bodyPost_ret (v := .tuple #[rv 0 0, .int .i64 3]) (by simp [results, Tryz.results41, go_sem]) rfl ⟨rfl, ba _ _⟩
  have hm := Rt.mkT_of u d n m e (by omega) (by omega) H.out
  clear H
  obtain ⟨x, rfl⟩ := Int.eq_ofNat_of_zero_le (show 0 ≤ u by omega)
  obtain ⟨y, rfl⟩ := Int.eq_ofNat_of_zero_le (show 0 ≤ d by omega)
  rw [show Int.gcd (x : Int) (y : Int) = Nat.gcd x y from rfl] at hm
  have hg1 : 1 ≤ Nat.gcd x y := Nat.gcd_pos_of_pos_right _ (by omega)
  have hg2 : Nat.gcd x y ≤ y := Nat.gcd_le_right _ (by omega)
  have q1 : 0 ≤ (x : Int) / (Nat.gcd x y : Nat) := Int.ediv_nonneg (by omega) (by omega)
  have q2 : 0 ≤ (y : Int) / (Nat.gcd x y : Nat) := Int.ediv_nonneg (by omega) (by omega)
  have q3 : (x : Int) / (Nat.gcd x y : Nat) ≤ 9223372036854775807 := Int.le_trans (Int.ediv_le_self _ (by omega)) hu
  have q4 : (y : Int) / (Nat.gcd x y : Nat) ≤ 9223372036854775807 := Int.le_trans (Int.ediv_le_self _ (by omega)) hd
  rcases hm with ⟨hc, rfl, rfl, rfl⟩ | ⟨hc1, hc2, rfl, rfl, rfl⟩
  · have hc' : 1073741824 < (x : Int) / (Nat.gcd x y : Nat) ∨ ((x : Int) / (Nat.gcd x y : Nat) ≤ 1073741824 ∧ 1073741824 < (y : Int) / (Nat.gcd x y : Nat)) := by omega
    clear hc
    rcases hc' with hc1 | ⟨hc1, hc2⟩
    all_goals
      go_enter Tryz.func41, Tryz.ntmps41
      go_wp2_with (go_at_call 90; refine (divisor_any _ _ (by omega) (by omega) _).mono ?_; rintro e w' ⟨rfl, hbl⟩)
      obtain ⟨hcell, hfroz⟩ := bcell hbl
      generalize Nat.gcd x y = g at *
      have hz : w.heap.size < w'.heap.size := by have := hbl.size; simp at this; omega
      go_region
      go_wp2
      exact bodyPost_ret (v := .tuple #[rv 0 0, .int .i64 4]) (by simp [results, Tryz.results41, go_sem, hcell, hz]) rfl ⟨rfl, (bal (bs (bs (bt (ba _ _) hbl) (Nat.le_refl _) _) (Nat.le_refl _) _) _).drew⟩
  · go_enter Tryz.func41, Tryz.ntmps41
    go_wp2_with (go_at_call 90; refine (divisor_any _ _ (by omega) (by omega) _).mono ?_; rintro e w' ⟨rfl, hbl⟩)
    obtain ⟨hcell, hfroz⟩ := bcell hbl
    have hz : w.heap.size < w'.heap.size := by have := hbl.size; simp at this; omega
    go_region
    go_wp2
    exact bodyPost_ret (v := .tuple #[rv (x / (Nat.gcd x y : Nat)) (y / (Nat.gcd x y : Nat)), .int .i64 0]) (by simp [results, Tryz.results41, go_sem, hcell, hz]) rfl ⟨rfl, (bal (bs (bs (bt (ba _ _) hbl) (Nat.le_refl _) _) (Nat.le_refl _) _) _).drew⟩
end Go.Proofs.YtlndlpjadajelaaGreat

namespace Go.Proofs.YtlndlpjadajelaaGreat
open Go.RowKit Go.Proofs.YtlndlpjadajelaaGreat.Ds

/-- below i all are less than y, from j on none -/
def Cutp (l : List Pt) (y : List Int) (i j : Nat) : Prop := (∀ q p, q < i → l[q]? = some p → ltL p.1 y) ∧ (∀ q p, j ≤ q → l[q]? = some p → ¬ ltL p.1 y)

theorem rise_get {l : List Pt} (h : Rise l) {i j : Nat} {p q : Pt} (hij : i < j) (hi : l[i]? = some p) (hj : l[j]? = some q) : ltL p.1 q.1 := by
  obtain ⟨h1, rfl⟩ := List.getElem?_eq_some_iff.1 hi
  obtain ⟨h2, rfl⟩ := List.getElem?_eq_some_iff.1 hj
  exact List.pairwise_iff_getElem.1 h i j h1 h2 hij

theorem Cutp.up {l : List Pt} {y : List Int} {i j h : Nat} {p : Pt} (c : Cutp l y i j) (hr : Rise l) (hp : l[h]? = some p) (hlt : ltL p.1 y) : Cutp l y (h + 1) j := by
  refine ⟨fun q r hq hr2 => ?_, c.2⟩
  by_cases hqh : q = h
  · subst hqh; rw [hp] at hr2; simp at hr2; subst hr2; exact hlt
  · exact ltL_trans (rise_get hr (by omega) hr2 hp) hlt

theorem Cutp.down {l : List Pt} {y : List Int} {i j h : Nat} {p : Pt} (c : Cutp l y i j) (hr : Rise l) (hp : l[h]? = some p) (hge : ¬ ltL p.1 y) : Cutp l y i h := by
  refine ⟨c.1, fun q r hq hr2 hlt => ?_⟩
  by_cases hqh : q = h
  · subst hqh; rw [hp] at hr2; simp at hr2; subst hr2; exact hge hlt
  · exact hge (ltL_trans (rise_get hr (by omega) hp hr2) hlt)

/-- what stands at i, or none -/
theorem Cutp.none {l : List Pt} {y : List Int} {i : Nat} (c : Cutp l y i i) (hr : Rise l) (h : ∀ p, l[i]? = some p → p.1 ≠ y) : ∀ p ∈ l, p.1 ≠ y := by
  intro p hp he
  obtain ⟨q, hq, rfl⟩ := List.mem_iff_getElem.1 hp
  have hq2 : l[q]? = some l[q] := List.getElem?_eq_getElem hq
  rcases Nat.lt_trichotomy q i with h1 | h1 | h1
  · have := c.1 q _ h1 hq2; rw [he] at this; exact ltL_irrefl _ this
  · subst h1; exact h _ hq2 he
  · obtain ⟨r, hr2⟩ := get_lt (l := l) (i := i) (by omega)
    have h2 := rise_get hr h1 hr2 hq2
    rw [he] at h2
    exact c.2 i r (Nat.le_refl _) hr2 h2

end Go.Proofs.YtlndlpjadajelaaGreat

namespace Go.Proofs.YtlndlpjadajelaaGreat
open Go.RowKit Go.Proofs.YtlndlpjadajelaaGreat.Ds

/-- a distribution -/
structure Dis (l : List Pt) : Prop where
  rise : Rise l
  pos : Pos l
  le : tot l ≤ 1073741824
  ne : l ≠ []
  ok : l.all okP = true
  few : l.length ≤ 4096
  one : dv l = 1

theorem cut_rise {g : Int} {l : List Pt} (h : Rise l) : Rise (cut g l) := by
  unfold Rise cut
  rw [List.pairwise_map]
  exact h

theorem dv_mul (g : Nat) : ∀ l : List Pt, dv (l.map fun p => (p.1, (g : Int) * p.2)) = g * dv l
  | [] => by simp [dv]
  | p :: l => by
    simp only [List.map_cons, dv, dv_mul g l]
    rw [Int.natAbs_mul, Int.natAbs_natCast, Nat.gcd_mul_left]

theorem cut_back {l : List Pt} {g : Nat} (h : ∀ p ∈ l, (g : Int) ∣ p.2) : (cut g l).map (fun p => (p.1, (g : Int) * p.2)) = l := by
  simp only [cut, List.map_map]
  conv => rhs; rw [← List.map_id l]
  refine List.map_congr_left fun p hp => ?_
  simp only [Function.comp, id]
  rw [Int.mul_ediv_cancel' (h p hp)]

theorem lowT_ok {l m : List Pt} (hp : Pos l) (hr : Rise l) (h : lowT l = (m, 0)) : Rise m ∧ Pos m ∧ tot m ≤ 1073741824 ∧ m ≠ [] ∧ m.length ≤ 4096 ∧ dv m = 1 := by
  unfold lowT at h
  split at h
  · simp at h
  · rename_i hne
    split at h
    · simp at h
    · rename_i hc
      simp only [Prod.mk.injEq, and_true] at h
      subst h
      have hd := dv_pos hp hne
      have hdv : ∀ p ∈ l, ((dv l : Nat) : Int) ∣ p.2 := fun p hp => dv_dvd_int hp
      refine ⟨cut_rise hr, ?_, by omega, ?_, by rw [cut_length]; omega, ?_⟩
      · intro p hpm
        obtain ⟨q, hq, rfl⟩ := List.mem_map.1 hpm
        have h1 := hp q hq
        exact Int.ediv_pos_of_pos_of_dvd h1 (by omega) (hdv q hq)
      · simp [cut, hne]
      · have e := dv_mul (dv l) (cut (dv l) l)
        rw [cut_back hdv] at e
        exact Nat.eq_of_mul_eq_mul_left hd (by rw [← e, Nat.mul_one])

theorem ownT_ok {l m : List Pt} (h : ownT l = (m, 0)) : m = l ∧ Dis l := by
  unfold ownT at h
  split at h
  · rename_i h0
    split at h
    · rename_i h1
      simp only [Prod.mk.injEq, and_true] at h
      have hm : makeT l = (l, 0) := Prod.ext h1 h0
      unfold makeT at hm
      split at hm
      · rename_i hok
        obtain ⟨a, b, c, d, e, f⟩ := lowT_ok (gath_pos (all_okP hok).1) (gath_rise l) hm
        exact ⟨h.symm, a, b, c, d, hok, e, f⟩
      · simp at hm
    · simp at h
  · rename_i h0
    simp only [Prod.mk.injEq] at h
    exact absurd h.2 h0

theorem wt_at {l : List Pt} (h : Rise l) {i : Nat} {p : Pt} (hp : l[i]? = some p) : wt l p.1 = p.2 := by
  induction l generalizing i with
  | nil => simp at hp
  | cons q l ih =>
    cases i with
    | zero => simp at hp; subst hp; exact wt_head h
    | succ i =>
      simp at hp
      rw [wt_cons, ih (rise_tail h) hp, if_neg (ltL_ne ((List.pairwise_cons.1 h).1 p (List.mem_of_getElem? hp)))]
      omega

theorem tot_pos2 {l : List Pt} (h : Pos l) (hne : l ≠ []) : 0 < tot l := by
  cases l with
  | nil => exact absurd rfl hne
  | cons p l => have := h p (by simp); have := tot_pos (l := l) fun q hq => h q (by simp [hq]); rw [tot_cons]; omega

end Go.Proofs.YtlndlpjadajelaaGreat

namespace Go.Proofs.YtlndlpjadajelaaGreat
open Go.RowKit Go.Proofs.YtlndlpjadajelaaGreat.Ds

/-- has it a number there -/
def hasP (place : Int) (p : Pt) : Bool := decide (0 ≤ place ∧ place < (p.1.length : Int))
/-- all numbers there, each times its weight -/
def msum (place : Int) : List Pt → Int
  | [] => 0
  | p :: l => p.1.getD place.toNat 0 * p.2 + msum place l

theorem msum_append (place : Int) (l k : List Pt) : msum place (l ++ k) = msum place l + msum place k := by
  induction l with
  | nil => simp [msum]
  | cons p l ih => simp only [List.cons_append, msum, ih]; omega
theorem msum_take {place : Int} {l : List Pt} {i : Nat} {p : Pt} (h : l[i]? = some p) : msum place (l.take (i + 1)) = msum place (l.take i) + p.1.getD place.toNat 0 * p.2 := by
  rw [List.take_add_one, h, msum_append]; simp [msum]

theorem okN_bd {n : Int} (h : okN n = true) : -1073741824 ≤ n ∧ n ≤ 1073741824 := by
  unfold okN at h; exact of_decide_eq_true h

theorem okP_at {p : Pt} (h : okP p = true) (i : Nat) : -1073741824 ≤ p.1.getD i 0 ∧ p.1.getD i 0 ≤ 1073741824 := by
  have h2 : ∀ x ∈ p.1, okN x = true := by
    unfold okP okO at h
    simp only [Bool.and_eq_true, List.all_eq_true] at h
    exact h.2.2
  rw [List.getD_eq_getElem?_getD]
  cases hx : p.1[i]? with
  | none => simp
  | some x => exact okN_bd (h2 x (List.mem_of_getElem? hx))

theorem mul_le_abs {x k : Int} (h : -1073741824 ≤ x ∧ x ≤ 1073741824) (hk : 0 ≤ k) : -1073741824 * k ≤ x * k ∧ x * k ≤ 1073741824 * k :=
  ⟨Int.mul_le_mul_of_nonneg_right h.1 hk, Int.mul_le_mul_of_nonneg_right h.2 hk⟩

theorem msum_bd {place : Int} {l : List Pt} (ho : l.all okP = true) : -1073741824 * tot l ≤ msum place l ∧ msum place l ≤ 1073741824 * tot l := by
  induction l with
  | nil => simp [msum]
  | cons p l ih =>
    simp only [List.all_cons, Bool.and_eq_true] at ho
    have h1 := ih ho.2
    have hk : 0 ≤ p.2 := (all_okP (l := [p]) (by simp [ho.1])).1 p (by simp)
    have h2 := mul_le_abs (okP_at ho.1 place.toNat) hk
    simp only [msum, tot_cons]
    omega

theorem all_take_true {α : Type} {l : List α} {f : α → Bool} (h : l.all f = true) (i : Nat) : (l.take i).all f = true := by
  rw [List.all_eq_true] at *
  exact fun x hx => h x (List.mem_of_mem_take hx)

theorem tdiv_abs (a b : Int) : (a.tdiv b).natAbs ≤ a.natAbs := by
  rw [Int.natAbs_tdiv]; exact Nat.div_le_self _ _

end Go.Proofs.YtlndlpjadajelaaGreat
