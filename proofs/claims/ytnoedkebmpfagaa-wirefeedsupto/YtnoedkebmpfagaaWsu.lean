import Derived.Test.YtnoedkebmpfagaaWst
/-
  PACKAGE wire, streams: begin, settle, NewStream.
-/
namespace Go.Proofs.Ytnoedkebmpfagaa
open Go.RowKit Wc

theorem begin_due {w : World} {base R : Nat} {h : By} {due : Nat} (s : StM w base R h due false) (hd : 0 < due) :
    Calls Try.prog 43 #[ptR R] w fun e w' => e = .returned (.bool true) ∧ w' = w := by
  have c1 := s.d.c
  have z : (0 : Int) < (due : Int) := by omega
  clear s
  go_enter Try.func43, Try.ntmps43
  go_wp2
  go_ret
  exact ⟨rfl, rfl⟩
theorem begin_few {w : World} {base R : Nat} {h : By} (s : StM w base R h 0 false) (hl : ¬ 4 ≤ h.length) :
    Calls Try.prog 43 #[ptR R] w fun e w' => e = .returned (.bool false) ∧ w' = w := by
  have c1 := s.d.c
  have k := stake_no s 4 hl
  clear s
  go_enter Try.func43, Try.ntmps43
  go_wp2_with fail
  refine k.mono ?_
  rintro e w1 ⟨rfl, rfl⟩
  clear k
  go_wp2
  go_ret
  exact ⟨rfl, rfl⟩
theorem StM.setd {w : World} {base R : Nat} {h : By} {due : Nat} {brk : Bool} (s : StM w base R h due brk) (n : Nat) : StM (w.setCell ⟨R, 1, none⟩ (.int .u64 (n : Int))) base R h n brk := by
  obtain ⟨v, hv, ho⟩ := s.c
  exact ⟨⟨v, hv.oth (.inr (by decide)) _, ho.setR 1 _⟩, s.d.set _, s.k.oth (.inr (by decide)) _, s.b⟩
theorem StM.setb {w : World} {base R : Nat} {h : By} {due : Nat} {brk : Bool} (s : StM w base R h due brk) (b : Bool) : StM (w.setCell ⟨R, 2, none⟩ (.bool b)) base R h due b := by
  obtain ⟨v, hv, ho⟩ := s.c
  exact ⟨⟨v, hv.oth (.inr (by decide)) _, ho.setR 2 _⟩, s.d.oth (.inr (by decide)) _, s.k.set _, s.b⟩
theorem begin_go {w : World} {base R : Nat} {h : By} (s : StM w base R h 0 false) (hl : 4 ≤ h.length) (ok : Bool) (hok : decide (0 < be4 h ∧ be4 h ≤ 65536) = ok) :
    Calls Try.prog 43 #[ptR R] w fun e w' => e = .returned (.bool ok) ∧ StM w' base R (h.drop 4) (be4 h) (!ok) ∧ Fw R w w' := by
  have c1 := s.d.c
  have k := stake_yes s 4 hl
  have k2 := fun W => said_any (h.take 4) (by simp; omega) W
  rw [be4_take hl] at k2
  have k3 := fun W => sendable_any (be4 h) ok hok W
  generalize be4 h = n at *
  clear s hok
  go_enter Try.func43, Try.ntmps43
  go_wp2_with fail
  refine k.mono ?_
  rintro e w1 ⟨rfl, s1, g1⟩
  clear k c1
  go_wp2_with fail
  refine (k2 _).mono ?_
  rintro e w2 ⟨rfl, rfl⟩
  clear k2
  have d1 := s1.d.c
  have d1f := s1.d.f
  have s2 := s1.setd n
  obtain ⟨X, hX⟩ : ∃ X, w2.setCell ⟨R, 1, none⟩ (.int .u64 (n : Int)) = X := ⟨_, rfl⟩
  rw [hX] at s2
  have g2 : Fw R w X := by rw [← hX]; exact g1.trans (Fw.setk R w2 1 (by decide) _)
  have e1 := s2.d.c
  have k3' := k3 X
  go_wp2_with fail
  refine k3'.mono ?_
  rintro e w3 ⟨rfl, rfl⟩
  clear k3 k3' hX d1 d1f
  have e2 := s2.k.c
  have e2f := s2.k.f
  have s3 := s2.setb (!ok)
  have HF : Hid (StM (w3.setCell ⟨R, 2, none⟩ (.bool (!ok))) base R (h.drop 4) n (!ok) ∧ Fw R w (w3.setCell ⟨R, 2, none⟩ (.bool (!ok)))) := ⟨s3, g2.trans (Fw.setk R w3 2 (by decide) _)⟩
  have e3 := s3.k.c
  clear s3 s2 s1 g1 g2
  cases ok with
  | true =>
    go_wp2
    go_ret
    exact ⟨rfl, HF.out.1, HF.out.2⟩
  | false =>
    go_wp2
    go_ret
    exact ⟨rfl, HF.out.1, HF.out.2⟩
theorem settle_no {w : World} (R : Nat) : Calls Try.prog 45 #[ptR R, .int .i64 0] w fun e w' => e = .returned (.tuple #[]) ∧ w' = w := by
  go_enter Try.func45, Try.ntmps45
  go_wp2
  go_end0
  exact ⟨rfl, rfl⟩
set_option maxHeartbeats 1000000 in
theorem settle_yes {w : World} {base R : Nat} {h : By} {due : Nat} (s : StM w base R h due false) (hl : h.length ≤ 1099511627776) (hb : base ≤ w.heap.size) (n : Nat) (hn : 0 < n) :
    Calls Try.prog 45 #[ptR R, .int .i64 (n : Int)] w fun e w' => e = .returned (.tuple #[]) ∧ StM w' base R h due false ∧ Fw R w w' := by
  have z : (0 : Int) < (n : Int) := by omega
  obtain ⟨v, hv, ho⟩ := s.c
  have hR := s.d.lt
  have ho2 := ho
  obtain ⟨a, c, rfl, h2, h3⟩ := ho.sl
  have c0 := hv.c
  have f0 := hv.f
  have HA : ∃ v' w', (Builtin.append_ #[47, 47] 47 #[.slice none 0 0, .slice a h.length c]).run Try.prog w = .ok v' w' ∧ OB w' base R v' h ∧ w.grownBy w' none ∧ (v'.ownBlock = none ∨ v'.ownBlock = some w.heap.size) := by
    cases a with
    | none =>
      have hnil : h = [] := by
        rcases ho2 with ⟨_, e⟩ | ⟨g, o, cap, cur, e, _⟩
        · exact e
        · simp at e
      subst hnil
      refine ⟨.slice none 0 0, w, ?_, .inl ⟨rfl, rfl⟩, gb_refl _ _, .inl rfl⟩
      obtain ⟨i0, hi0, hz0, hz1, hz2⟩ := info_parts infoU
      simp [Builtin.append_, run_underlying Try.underlying47, sizeOf, typeInfo, hi0, Builtin.lenOf, Builtin.firstCells]
    | some ad =>
      obtain ⟨v', w', hr, hO, hg, hw⟩ := run_app_sl w base R (.slice none 0 0) [] (.nil _ _ _) 47 h ad c (by
        intro j u hu
        cases h with
        | nil => simp [bc] at hu
        | cons x r =>
          obtain ⟨g, o, e, -, -, hc⟩ := ho2.cell (by simp)
          simp only [Option.some.injEq] at e
          subst e
          rw [Addr.add_lit]
          have hj : j < (x :: r).length := by have := (List.getElem?_eq_some_iff.1 hu).1; rwa [bc_len] at this
          have h4 : (x :: r)[j]? = some (x :: r)[j] := List.getElem?_eq_getElem hj
          have h5 := bc_get h4
          rw [hu] at h5
          rw [hc j _ h4, ← h5]) (by simp; omega) hb hR
      refine ⟨v', w', hr, by simpa using hO, hg, ?_⟩
      rcases hw with h6 | h6 | h6
      · exact .inl h6
      · exact .inl h6
      · exact .inr h6
  obtain ⟨v', w', hr, hO, hg, hw⟩ := HA
  obtain ⟨a', c', rfl, -, -⟩ := hO.sl
  have hv2 := hv.gb hg (by simp)
  have hd2 := s.d.gb hg (by simp)
  have hk2 := s.k.gb hg (by simp)
  have HF : Hid (StM (w'.setCell ⟨R, 0, none⟩ (.slice a' h.length c')) base R h due false ∧ Fw R w (w'.setCell ⟨R, 0, none⟩ (.slice a' h.length c'))) := by
    refine ⟨⟨⟨_, hv2.set _, hO.setR 0 _⟩, hd2.oth (.inr (by decide)) _, hk2.oth (.inr (by decide)) _, s.b⟩, ?_⟩
    refine Fw.app hv hv2 ⟨hg.os, hg.tape, hg.output, hg.size, fun k hk _ => hg.block k hk (by simp)⟩ ?_
    rcases hw with h6 | h6
    · exact .inl h6
    · exact .inr (.inr h6)
  have c2 := hv2.c
  have f2 := hv2.f
  obtain ⟨L, hL⟩ : ∃ L, h.length = L := ⟨_, rfl⟩
  rw [hL] at HF hr c0 c2
  clear hv hv2 hd2 hk2 ho ho2 hO hw hL s
  go_enter Try.func45, Try.ntmps45
  go_wp2_with (at_builtin; refine wpList_app rfl _ _ 47 47 rfl (.slice none 0 0) (.slice a L c) _ w' rfl rfl hr ?_)
  go_wp2
  go_end0
  exact ⟨rfl, HF.out.1, HF.out.2⟩
theorem newst_any (w : World) : Calls Try.prog 31 #[] w fun e w' => e = .returned (ptR w.heap.size) ∧ StM w' w.heap.size w.heap.size [] 0 false ∧ Below w.heap.size w w' := by
  have hB := Bx.new w [.slice none 0 0, .int .u64 0, .bool false] 86 rfl
  have HF : Hid (StM (w.alloc (.cells #[.slice none 0 0, .int .u64 0, .bool false] 86)) w.heap.size w.heap.size [] 0 false ∧ Below w.heap.size w (w.alloc (.cells #[.slice none 0 0, .int .u64 0, .bool false] 86))) :=
    ⟨⟨⟨_, hB 0 _ rfl, .nil _ _ _⟩, hB 1 _ rfl, hB 2 _ rfl, Nat.le_refl _⟩, ba _ _⟩
  clear hB
  go_enter Try.func31, Try.ntmps31
  go_wp2
  go_ret
  exact ⟨rfl, HF.out.1, HF.out.2⟩
end Go.Proofs.Ytnoedkebmpfagaa
