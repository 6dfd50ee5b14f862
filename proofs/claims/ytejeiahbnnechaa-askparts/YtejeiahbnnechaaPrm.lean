import Derived.Test.YtejeiahbnnechaaAns
import Derived.Test.YtejeiahbnnechaaPrt
namespace Go.Proofs.Ytejeiahbnnechaa
open Go.RowKit Go.Proofs.Ytejeiahbnnechaa.Ds

theorem fst_mem {wh : List Tst} {s : ByteArray} {v : Int} (h : fst wh s = some v) : ∃ t ∈ wh, t.1 = s ∧ t.2.1 = 1 ∧ t.2.2 = v := by
  induction wh with
  | nil => simp [fst] at h
  | cons t r ih =>
    simp only [fst] at h
    split at h
    · rename_i hc; cases h; exact ⟨t, List.mem_cons_self .., hc.1, hc.2, rfl⟩
    · obtain ⟨t', h1, h2⟩ := ih h; exact ⟨t', List.mem_cons_of_mem _ h1, h2⟩
theorem fold_filter (ps : List (Nat × Int × Int)) (f : List Int → Nat × Int) (P : List Int → Bool) (hP : ∀ r, pasB ps r = true → P r = true) (rs : List (List Int)) : ∀ out, rs.foldl (gst ps f) out = (rs.filter P).foldl (gst ps f) out := by
  induction rs with
  | nil => intro out; rfl
  | cons r rs ih =>
    intro out
    by_cases hr : P r = true
    · rw [List.filter_cons_of_pos hr, List.foldl_cons, List.foldl_cons, ih]
    · have hp : ¬ pasB ps r = true := fun h => hr (hP r h)
      rw [List.filter_cons_of_neg hr, List.foldl_cons, ih, gst, if_neg hp]
/-- those rows -/
def isV (i : Nat) (v : Int) (r : List Int) : Bool := r.getD i 0 == v
theorem leaf_isV {l : List Col} {wh : List Tst} {s : ByteArray} {v : Int} {i : Nat} (h : fst wh s = some v) (hf : fnd l s = some i) (r : List Int) (hp : pasB (wh.map (trp l)) r = true) : isV i v r = true := by
  obtain ⟨t, ht, h1, h2, h3⟩ := fst_mem h
  unfold pasB at hp
  have := List.all_eq_true.1 hp (trp l t) (List.mem_map_of_mem ht)
  simp only [trp, h1, hf, h2, h3, tstB, Option.getD_some] at this
  simpa [isV] using this
/-- WHAT SPEAKS OF ONE PART HEARS OF NO OTHER -/
theorem ans_part {l : List Col} {s : ByteArray} {v : Int} {i : Nat} (hf : fnd l s = some i) (rs : List (List Int)) (q : Qu) : Wq q → onl s q = some v → ans l rs q = ans l (rs.filter (isV i v)) q := by
  induction q with
  | none => intro _ _; rfl
  | node k c lo hi wh n x y ihx ihy =>
    rintro ⟨hk, hn2, wx, wy⟩ ho
    simp only [onl] at ho
    have hkc : ¬ kidN k < 0 := by omega
    have leaf : k = 1 ∨ k = 2 ∨ k = 3 → ans l rs (.node k c lo hi wh n x y) = ans l (rs.filter (isV i v)) (.node k c lo hi wh n x y) := fun h => by
      have hn : n = 0 := by rcases h with rfl | rfl | rfl <;> (simp [kidN] at hk; omega)
      rw [if_pos hn] at ho
      rw [ans_leaf _ _ _ _ _ _ _ _ _ h, ans_leaf _ _ _ _ _ _ _ _ _ h]
      exact fold_filter _ _ _ (fun r hr => leaf_isV ho hf r hr) rs _
    have one : n = 1 → ans l rs x = ans l (rs.filter (isV i v)) x := fun hn => by
      rw [if_neg (by omega)] at ho
      refine ihx (wx (by omega)) ?_
      cases hx : onl s x with
      | none => rw [hx] at ho; cases ho
      | some u => rw [hx] at ho; simp only at ho; rw [if_neg (by omega)] at ho; exact ho
    have two : n = 2 → ans l rs x = ans l (rs.filter (isV i v)) x ∧ ans l rs y = ans l (rs.filter (isV i v)) y := fun hn => by
      rw [if_neg (by omega)] at ho
      cases hx : onl s x with
      | none => rw [hx] at ho; cases ho
      | some u =>
        rw [hx] at ho
        simp only at ho
        rw [if_pos hn] at ho
        cases hy : onl s y with
        | none => rw [hy] at ho; cases ho
        | some u' =>
          rw [hy] at ho
          simp only at ho
          split at ho
          · rename_i huu
            cases ho
            subst huu
            exact ⟨ihx (wx (by omega)) hx, ihy (wy (by omega)) hy⟩
          · cases ho
    rcases kidN_cases hkc with rfl | rfl | rfl | rfl | rfl | rfl | rfl | rfl | rfl | rfl
    · exact leaf (by simp)
    · exact leaf (by simp)
    · exact leaf (by simp)
    · have hn : n = 2 := by simp [kidN] at hk; omega
      rw [ans_4, ans_4, (two hn).1, (two hn).2]
    · have hn : n = 2 := by simp [kidN] at hk; omega
      rw [ans_5, ans_5, (two hn).1, (two hn).2]
    · have hn : n = 1 := by simp [kidN] at hk; omega
      rw [ans_6, ans_6, one hn]
    · have hn : n = 2 := by simp [kidN] at hk; omega
      rw [ans_7, ans_7, (two hn).1, (two hn).2]
    · have hn : n = 1 := by simp [kidN] at hk; omega
      rw [ans_8, ans_8, one hn]
    · have hn : n = 1 := by simp [kidN] at hk; omega
      rw [ans_9, ans_9, one hn]
    · have hn : n = 1 := by simp [kidN] at hk; omega
      rw [ans_10, ans_10, one hn]
end Go.Proofs.Ytejeiahbnnechaa
