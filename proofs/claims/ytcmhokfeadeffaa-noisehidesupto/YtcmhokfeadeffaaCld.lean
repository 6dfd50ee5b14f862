import Derived.Test.YtcmhokfeadeffaaRws
namespace Go.Proofs.Ytcmhokfeadeffaa
open Go.RowKit Go.Proofs.Ytcmhokfeadeffaa.Ds

set_option maxRecDepth 100000 in
/-- Clone of parts: nil of none, or a row of one's own. -/
theorem cloneD_any (B : Nat) (v : Value) (ts : List Tr) (w : World) (hB : B ≤ w.heap.size) (hx : Parts w B v ts) :
    Calls Try.prog 41 #[v] w fun e w' => ∃ v', e = .returned v' ∧ Below w.heap.size w w' ∧
      ((ts = [] ∧ v' = .slice none 0 0) ∨ ∃ g cap, v' = .slice (some ⟨g, 0, none⟩) ts.length cap ∧ ts.length ≤ cap ∧ w.heap.size ≤ g ∧ Row w' g 0 ts) := by
  obtain ⟨a, c, rfl, hc, hl, hI, hxx⟩ := hx
  have q23 : ∀ (w : World) (a : Option Addr) (n c n' c' : Nat), (binOp .eql 26 (.slice a n c) (.slice none n' c')).run Try.prog w = .ok (.bool a.isNone) w := fun w a n c n' c' => Lib.run_eql_slice_nil w _ _ a n c n' c' Try.underlying26
  cases a with
  | none =>
    obtain rfl : ts = [] := by
      cases ts with
      | nil => rfl
      | cons x l => obtain ⟨b, o, h, _⟩ := hxx (by simp); cases h
    clear hxx hI
    go_enter Try.func41, Try.ntmps41
    go_wp2
    go_ret
    exact ⟨_, rfl, Below.refl _ _, by simp⟩
  | some ad =>
    have A : Hid (∀ j u, (flat ts)[j]? = some u → ∀ o, (w.alloc o).cell? (ad.add j) = some u) := by
      intro j u hj o
      have hlt : j < ts.length * 2 := by rw [← flat_len]; exact (List.getElem?_eq_some_iff.1 hj).1
      obtain ⟨b, o', he, hb, hcell⟩ := hxx (by rintro rfl; simp at hlt)
      simp only [Option.some.injEq] at he
      subst he
      rw [Addr.add_lit, World.cell?_alloc_lt _ _ _ (by simp; omega)]
      exact flat_cells hcell j u hj
    have A1 : Hid (∀ u ∈ flat ts, u.oneCell' = true) := by
      intro u hu
      obtain ⟨t, ht, hu⟩ := List.mem_flatMap.1 hu
      obtain ⟨sa, sc, he, _⟩ := hI t ht
      simp only [List.mem_cons, List.not_mem_nil, or_false] at hu
      rcases hu with rfl | rfl
      · rw [he]; rfl
      · rfl
    obtain ⟨i0, hi, hz0, hz1, hz2⟩ := info_parts info32
    clear hxx hI
    have hnb : Hid (ts.length * 32 ≤ 140737488355328 ∧ ts.length ≤ maxLen) := ⟨by omega, by simp [maxLen]; omega⟩
    go_enter Try.func41, Try.ntmps41
    go_wp2_with (at_builtin; refine wpList_append_own _ rfl _ _ 26 rfl w.heap.size 49 i0 (.agg #[.slice none 0 0, .int .i64 0]) 2 32 Try.underlying26 hi hz0 hz1 hz2 rfl (by decide) _ _ _ rfl (World.ownsRow_made w #[] 0 (Nat.le_refl _) (Nat.zero_le _) (by simp)) ad ts.length c (flat ts) rfl ?qc1 ?qc2 ?qc3 ?qc4 ?qc5 ?qc6 ?_)
    case qc1 => exact flat_len ts
    case qc2 => intro j u hj; exact A.out j u hj _
    case qc3 => exact A1.out
    case qc4 => rw [Nat.zero_add]; exact hnb.out.2
    case qc5 => rw [Nat.zero_add]; exact hnb.out.1
    case qc6 => simp
    intro v' w1 hown hgrow hnil
    go_wp2
    go_ret
    refine ⟨v', rfl, ?_, .inr ?_⟩
    · exact ((Below.refl _ w).alloc (Nat.le_refl _) _).grown hgrow (by simp) (by intro k hk; simp [Value.ownBlock] at hk; omega)
    · exact row_of_owns (Nat.zero_add _) (by simpa using hown) hnil
end Go.Proofs.Ytcmhokfeadeffaa
