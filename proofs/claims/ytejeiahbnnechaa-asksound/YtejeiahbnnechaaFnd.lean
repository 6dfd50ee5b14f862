import Derived.Test.YtejeiahbnnechaaThr
namespace Go.Proofs.Ytejeiahbnnechaa
open Go.RowKit Go.Proofs.Ytejeiahbnnechaa.Ds

theorem is_any (g : Nat) (n1 n2 : ByteArray) (s1 : Int) (w : World) (hg : g < w.heap.size) (hc : w.cell? ⟨g, 0, none⟩ = some (.string n2)) (r : Bool) (hr : decide (n1 = n2) = r) :
    Calls Try.prog 49 #[.agg #[.string n1, .int .i64 s1], .pointer (some ⟨g, 0, none⟩)] w fun e w' => e = .returned (.bool r) ∧ Below w.heap.size w w' := by
  have hq : (n1.toList == n2.toList) = r := (str_eq _ _).trans hr
  clear hr
  go_enter Try.func49, Try.ntmps49
  go_wp2
  go_ret
  exact ⟨rfl, ba _ _⟩

/-- where it stands, as a number; -1: nowhere -/
def fnI (l : List Col) (s : ByteArray) : Int := match fnd l s with | some i => i | none => -1
theorem fnI_some {l : List Col} {s : ByteArray} {i : Nat} (h : fnd l s = some i) : fnI l s = i := by rw [fnI, h]
theorem fnI_none {l : List Col} {s : ByteArray} (h : fnd l s = none) : fnI l s = -1 := by rw [fnI, h]
theorem fnI_neg {l : List Col} {s : ByteArray} : fnI l s < 0 ↔ (fnd l s).isSome = false := by
  cases h : fnd l s with
  | none => simp [fnI_none h]
  | some i => simp [fnI_some h]

set_option maxHeartbeats 400000 in
theorem indexF_any (B g : Nat) (v : Value) (l : List Col) (nm0 : ByteArray) (w : World) (hB : B ≤ w.heap.size) (hp : Cols w B v l) (hg : g < w.heap.size) (hc0 : w.cell? ⟨g, 0, none⟩ = some (.string nm0)) (r : Int) (hr : fnI l nm0 = r) :
    Calls Try.prog 48 #[v, .func (.func 49) #[] #[.pointer (some ⟨g, 0, none⟩)]] w fun e w' => e = .returned (.int .i64 r) ∧ Below w.heap.size w w' := by
  have HP : Hid (Cols w B v l) := hp
  have HR : Hid (fnI l nm0 = r) := hr
  have HC0 : Hid (w.cell? ⟨g, 0, none⟩ = some (.string nm0)) := hc0
  obtain ⟨a, c, rfl, hc, hl⟩ := hp.slice
  clear hr hc0
  go_enter Try.func48, Try.ntmps48
  go_wp2
  go_loopw [8] (fun s wr => ∃ (i : Nat), s = .int .i64 (i : Int) ∧ i ≤ l.length ∧ Hid (NoC l nm0 i) ∧ Below w.heap.size w wr) (fun s _ => l.length - (intOf s).toNat)
  case atStart => exact ⟨0, rfl, Nat.zero_le _, fun j c hj => by omega, Below.refl _ _⟩
  case round =>
    obtain ⟨i, rfl, hi, HI, hbl⟩ := hrel
    by_cases h1 : i < l.length
    · obtain ⟨b, o, nm, sz, rfl, hb, hgt, c1, c2, hn⟩ := HP.out.get hB hbl h1
      have HG : Hid (l[i]? = some (nm, sz)) := hgt
      clear hgt
      have hgr : g < wr.heap.size := Nat.lt_of_lt_of_le hg hbl.size
      have HCR : Hid (wr.cell? ⟨g, 0, none⟩ = some (.string nm0)) := (hbl.cell (p := ⟨g, 0, none⟩) hg).trans HC0.out
      cases he : decide (nm = nm0) with
      | true =>
        have HE : Hid (decide (nm = nm0) = true) := he
        clear he
        obtain rfl : (i : Int) = r := by rw [← HR.out]; exact (fnI_some (fnd_hit HI.out HG.out (of_decide_eq_true HE.out))).symm
        go_wp2_with fail
        refine (is_any g nm nm0 sz _ hgr HCR.out true HE.out).mono ?_
        rintro e w1 ⟨rfl, hb1⟩
        go_wp2
        go_ret
        exact ⟨rfl, bt hbl hb1⟩
      | false =>
        have HE : Hid (decide (nm = nm0) = false) := he
        clear he
        go_wp2_with fail
        refine (is_any g nm nm0 sz _ hgr HCR.out false HE.out).mono ?_
        rintro e w1 ⟨rfl, hb1⟩
        go_wp2
        go_roundw
        case rel => exact ⟨i + 1, by go_num, h1, HI.out.next HG.out (of_decide_eq_false HE.out), bt hbl hb1⟩
        case measure => simp [intOf]; omega
    · obtain rfl : -1 = r := by rw [← HR.out]; exact (fnI_none (fnd_no (by have := HI.out; rwa [show i = l.length by omega] at this))).symm
      go_wp2
      go_ret
      exact ⟨rfl, hbl⟩

theorem find_ok (B : Nat) (v : Value) (l : List Col) (s : ByteArray) (w : World) (hB : B ≤ w.heap.size) (hp : Cols w B v l) (i : Nat) (hr : fnd l s = some i) :
    Calls Try.prog 27 #[v, .string s] w fun e w' => e = .returned (.int .i64 (i : Int)) ∧ Below w.heap.size w w' := by
  have HI : Hid (fnI l s = (i : Int)) := fnI_some hr
  have k1 := indexF_any B w.heap.size v l s (w.alloc (.cells #[.string s] 9)) (by simp; omega) (hp.at hB (ba _ _)) (by simp) (nc _ _ 0 _ rfl rfl) _ HI.out
  clear hp hr
  have hmf := hmf
  go_enter Try.func27, Try.ntmps27
  go_wp2_with fail
  refine k1.mono ?_
  rintro e w1 ⟨rfl, hb1⟩
  clear k1
  have hbw : Below w.heap.size w w1 := bt (ba _ _) hb1
  clear hb1
  go_wp2_with fail
  refine (must_ok 7 w1).mono ?_
  rintro e w2 ⟨rfl, rfl⟩
  go_wp2
  go_ret
  exact ⟨rfl, hbw⟩
theorem find_no (B : Nat) (v : Value) (l : List Col) (s : ByteArray) (w : World) (hB : B ≤ w.heap.size) (hp : Cols w B v l) (hr : fnd l s = none) :
    Calls Try.prog 27 #[v, .string s] w fun e w' => e = .panicked (chn 7) ∧ Below w.heap.size w w' := by
  have HI : Hid (fnI l s = -1) := fnI_none hr
  have k1 := indexF_any B w.heap.size v l s (w.alloc (.cells #[.string s] 9)) (by simp; omega) (hp.at hB (ba _ _)) (by simp) (nc _ _ 0 _ rfl rfl) _ HI.out
  clear hp hr
  have hmf := hmf
  go_enter Try.func27, Try.ntmps27
  go_wp2_with fail
  refine k1.mono ?_
  rintro e w1 ⟨rfl, hb1⟩
  clear k1
  have hbw : Below w.heap.size w w1 := bt (ba _ _) hb1
  clear hb1
  go_wp2_with fail
  refine (must_no 7 w1).mono ?_
  rintro e w2 ⟨rfl, rfl⟩
  go_wp2
  exact ⟨rfl, rfl, hbw⟩

theorem kids_ok (k : Int) (w : World) (n : Int) (hn : 0 ≤ n) (hk : kidN k = n) : Calls Try.prog 54 #[.int .i64 k] w fun e w' => e = .returned (.int .i64 n) ∧ w' = w := by
  unfold kidN at hk
  go_enter Try.func54, Try.ntmps54
  by_cases h1 : k = 1
  · subst h1; subst hk; go_wp2; go_ret; exact ⟨rfl, rfl⟩
  by_cases h2 : k = 2
  · subst h2; subst hk; go_wp2; go_ret; exact ⟨rfl, rfl⟩
  by_cases h3 : k = 3
  · subst h3; subst hk; go_wp2; go_ret; exact ⟨rfl, rfl⟩
  by_cases h4 : k = 4
  · subst h4; subst hk; go_wp2; go_ret; exact ⟨rfl, rfl⟩
  by_cases h5 : k = 5
  · subst h5; subst hk; go_wp2; go_ret; exact ⟨rfl, rfl⟩
  by_cases h6 : k = 6
  · subst h6; subst hk; go_wp2; go_ret; exact ⟨rfl, rfl⟩
  by_cases h7 : k = 7
  · subst h7; subst hk; go_wp2; go_ret; exact ⟨rfl, rfl⟩
  by_cases h8 : k = 8
  · subst h8; subst hk; go_wp2; go_ret; exact ⟨rfl, rfl⟩
  by_cases h9 : k = 9
  · subst h9; subst hk; go_wp2; go_ret; exact ⟨rfl, rfl⟩
  by_cases h10 : k = 10
  · subst h10; subst hk; go_wp2; go_ret; exact ⟨rfl, rfl⟩
  exfalso; simp [h1, h2, h3, h4, h5, h6, h7, h8, h9, h10] at hk; omega
theorem kids_no (k : Int) (w : World) (hk : kidN k < 0) : Calls Try.prog 54 #[.int .i64 k] w fun e w' => e = .panicked (chn 1) ∧ w' = w := by
  have g1 : (k == 1) = false := by rw [beq_eq_false_iff_ne]; rintro rfl; simp [kidN] at hk
  have g2 : (k == 2) = false := by rw [beq_eq_false_iff_ne]; rintro rfl; simp [kidN] at hk
  have g3 : (k == 3) = false := by rw [beq_eq_false_iff_ne]; rintro rfl; simp [kidN] at hk
  have g4 : (k == 4) = false := by rw [beq_eq_false_iff_ne]; rintro rfl; simp [kidN] at hk
  have g5 : (k == 5) = false := by rw [beq_eq_false_iff_ne]; rintro rfl; simp [kidN] at hk
  have g6 : (k == 6) = false := by rw [beq_eq_false_iff_ne]; rintro rfl; simp [kidN] at hk
  have g7 : (k == 7) = false := by rw [beq_eq_false_iff_ne]; rintro rfl; simp [kidN] at hk
  have g8 : (k == 8) = false := by rw [beq_eq_false_iff_ne]; rintro rfl; simp [kidN] at hk
  have g9 : (k == 9) = false := by rw [beq_eq_false_iff_ne]; rintro rfl; simp [kidN] at hk
  have g10 : (k == 10) = false := by rw [beq_eq_false_iff_ne]; rintro rfl; simp [kidN] at hk
  clear hk
  go_enter Try.func54, Try.ntmps54
  go_wp2
  exact ⟨rfl, rfl, rfl⟩

theorem span_ok (lo hi : Int) (w : World) (h : wrtB lo hi = true) : Calls Try.prog 79 #[.int .i64 lo, .int .i64 hi] w fun e w' => e = .returned (.int .i64 (spn lo hi)) ∧ w' = w := by
  simp only [wrtB, decide_eq_true_eq] at h
  obtain ⟨h1, h2, h3⟩ := h
  go_enter Try.func79, Try.ntmps79
  go_wp2_with fail
  refine (must_ok 3 w).mono ?_
  rintro e w2 ⟨rfl, rfl⟩
  go_wp2
  · go_ret
    exact ⟨by rw [spn, if_pos (by omega)]; rfl, rfl⟩
  · go_ret
    exact ⟨by rw [show spn lo hi = -lo by unfold spn; split <;> omega]; rfl, rfl⟩
theorem span_no (lo hi : Int) (w : World) (h : wrtB lo hi = false) : Calls Try.prog 79 #[.int .i64 lo, .int .i64 hi] w fun e w' => e = .panicked (chn 3) ∧ w' = w := by
  simp only [wrtB, decide_eq_false_iff_not] at h
  go_enter Try.func79, Try.ntmps79
  by_cases h1 : -1048576 ≤ lo
  · by_cases h2 : lo ≤ hi
    · have h3 : ¬ hi ≤ 1048576 := fun h3 => h ⟨h1, h2, h3⟩
      go_wp2_with fail
      refine (must_no 3 w).mono ?_
      rintro e w2 ⟨rfl, rfl⟩
      go_wp2
      exact ⟨rfl, rfl, rfl⟩
    · go_wp2_with fail
      refine (must_no 3 w).mono ?_
      rintro e w2 ⟨rfl, rfl⟩
      go_wp2
      exact ⟨rfl, rfl, rfl⟩
  · go_wp2_with fail
    refine (must_no 3 w).mono ?_
    rintro e w2 ⟨rfl, rfl⟩
    go_wp2
    exact ⟨rfl, rfl, rfl⟩
end Go.Proofs.Ytejeiahbnnechaa
