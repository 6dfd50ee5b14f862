import Derived.Test.YtnoedkebmpfagaaWap
/-
  PACKAGE wire, the writer: fit, put.
-/
namespace Go.Proofs.Ytnoedkebmpfagaa
open Go.RowKit Wc

/-- a writer to which these bytes were written -/
structure WrO (w : World) (base R : Nat) (F : By) : Prop where
  c : ∃ v, Cl w R 0 v ∧ OB w base R v F
  o : Cl w R 1 (.bool false)
  l : F.length ≤ 65536
  b : base ≤ R
/-- one that is over -/
structure WrX (w : World) (base R : Nat) : Prop where
  c : ∃ v t, Cl w R 0 v ∧ OB w base R v t ∧ t.length ≤ 65536
  o : Cl w R 1 (.bool true)
  b : base ≤ R
def Wrt (w : World) (base R : Nat) (F : By) : Prop := WrO w base R F ∨ (WrX w base R ∧ 65536 < F.length)
theorem OB.bel {w w' : World} {base R : Nat} {v : Value} {t : By} (h : OB w base R v t) (hb : Below w.heap.size w w') : OB w' base R v t := h.same fun k hk => hb.block k (h.own k hk).2.2
theorem WrO.at {w w' : World} {base R : Nat} {F : By} (h : WrO w base R F) (hb : Below w.heap.size w w') : WrO w' base R F := by
  obtain ⟨⟨v, h1, h2⟩, h3, h4, h5⟩ := h
  exact ⟨⟨v, h1.at hb, h2.bel hb⟩, h3.at hb, h4, h5⟩
theorem WrX.at {w w' : World} {base R : Nat} (h : WrX w base R) (hb : Below w.heap.size w w') : WrX w' base R := by
  obtain ⟨⟨v, t, h1, h2, h6⟩, h3, h5⟩ := h
  exact ⟨⟨v, t, h1.at hb, h2.bel hb, h6⟩, h3.at hb, h5⟩
theorem Wrt.at {w w' : World} {base R : Nat} {F : By} (h : Wrt w base R F) (hb : Below w.heap.size w w') : Wrt w' base R F := by
  rcases h with h | ⟨h, h2⟩
  · exact .inl (h.at hb)
  · exact .inr ⟨h.at hb, h2⟩
theorem Wrt.lt {w : World} {base R : Nat} {F : By} (h : Wrt w base R F) : R < w.heap.size ∧ base ≤ R := by
  rcases h with h | ⟨h, h2⟩
  · exact ⟨h.o.lt, h.b⟩
  · exact ⟨h.o.lt, h.b⟩

/-- the block of a writer's bytes -/
def rowOf (w : World) (R : Nat) : Option Nat := (w.cell? ⟨R, 0, none⟩).bind Value.ownBlock
/-- all but a writer and its bytes is as it was -/
structure Fw (R : Nat) (w w' : World) : Prop where
  os : w'.os = w.os
  tape : w'.tape = w.tape
  output : w'.output = w.output
  size : w.heap.size ≤ w'.heap.size
  block : ∀ g, g < w.heap.size → g ≠ R → rowOf w R ≠ some g → w'.heap[g]? = w.heap[g]?
  row : ∀ g, rowOf w' R = some g → rowOf w R = some g ∨ w.heap.size ≤ g
theorem Fw.refl (R : Nat) (w : World) : Fw R w w := ⟨rfl, rfl, rfl, Nat.le_refl _, fun _ _ _ _ => rfl, fun _ h => .inl h⟩
theorem Fw.trans {R : Nat} {a b c : World} (h : Fw R a b) (k : Fw R b c) : Fw R a c := by
  refine ⟨k.os.trans h.os, k.tape.trans h.tape, k.output.trans h.output, Nat.le_trans h.size k.size, fun g h1 h2 h3 => ?_, fun g hg => ?_⟩
  · refine (k.block g (Nat.lt_of_lt_of_le h1 h.size) h2 fun e => ?_).trans (h.block g h1 h2 h3)
    rcases h.row g e with h4 | h4
    · exact h3 h4
    · omega
  · rcases k.row g hg with h4 | h4
    · exact h.row g h4
    · exact .inr (Nat.le_trans h.size h4)
theorem Fw.new {R : Nat} {w w' : World} (hR : R < w.heap.size) (hb : Below w.heap.size w w') : Fw R w w' := by
  have e : rowOf w' R = rowOf w R := by unfold rowOf; rw [hb.cell (p := ⟨R, 0, none⟩) hR]
  exact ⟨hb.os, hb.tape, hb.output, hb.size, fun g h1 _ _ => hb.block g h1, fun g hg => .inl (by rw [← e]; exact hg)⟩
theorem Fw.set1 (R : Nat) (w : World) (u : Value) : Fw R w (w.setCell ⟨R, 1, none⟩ u) := by
  have e : rowOf (w.setCell ⟨R, 1, none⟩ u) R = rowOf w R := by unfold rowOf; rw [sc_other (by simp)]
  exact ⟨rfl, rfl, rfl, by simp, fun g _ h2 _ => Below.heap_setCell _ _ _ _ (by simpa using h2), fun g hg => .inl (by rw [← e]; exact hg)⟩
theorem Fw.app {R : Nat} {w w' : World} {v v' : Value} (hv : Cl w R 0 v) (hv2 : Cl w' R 0 v) (hg : w.grownBy w' v.ownBlock) (hn : v'.ownBlock = none ∨ v'.ownBlock = v.ownBlock ∨ v'.ownBlock = some w.heap.size) : Fw R w (w'.setCell ⟨R, 0, none⟩ v') := by
  have e : rowOf w R = v.ownBlock := by unfold rowOf; rw [hv.c]; rfl
  have e2 : rowOf (w'.setCell ⟨R, 0, none⟩ v') R = v'.ownBlock := by unfold rowOf; rw [sc_same hv2.c]; rfl
  refine ⟨hg.os, hg.tape, hg.output, by simpa using hg.size, fun g h1 h2 h3 => ?_, fun g hh => ?_⟩
  · refine (Below.heap_setCell _ _ _ _ (by simpa using h2)).trans (hg.block g h1 fun e3 => h3 ?_)
    rw [e, ← e3]
  · rw [e2] at hh
    rw [e]
    rcases hn with hn | hn | hn
    · rw [hn] at hh; cases hh
    · exact .inl (hn ▸ hh)
    · rw [hn] at hh; simp only [Option.some.injEq] at hh; exact .inr (by omega)
theorem Fw.cl {R : Nat} {w w' : World} {b k : Nat} {v : Value} (h : Fw R w w') (hc : Cl w b k v) (hR : b ≠ R) (hr : rowOf w R ≠ some b) : Cl w' b k v := by
  have hk := h.block b hc.lt hR hr
  exact ⟨(World.cell?_of_block (w := w) (a := ⟨b, k, none⟩) hk).trans hc.c, (World.frozen?_of_block (w := w) (a := ⟨b, k, none⟩) hk).trans hc.f, Nat.lt_of_lt_of_le hc.lt h.size⟩
theorem Fw.rowne {R : Nat} {w w' : World} {b : Nat} (h : Fw R w w') (hb : b < w.heap.size) (hr : rowOf w R ≠ some b) : rowOf w' R ≠ some b := by
  intro e
  rcases h.row b e with h4 | h4
  · exact hr h4
  · omega
theorem Wrt.row {w : World} {base R : Nat} {F : By} (h : Wrt w base R F) : ∀ g, rowOf w R = some g → base ≤ g ∧ g ≠ R ∧ g < w.heap.size := by
  intro g hg
  rcases h with h | ⟨h, -⟩
  · obtain ⟨v, hv, ho⟩ := h.c
    unfold rowOf at hg
    rw [hv.c] at hg
    exact ho.own g hg
  · obtain ⟨v, t, hv, ho, -⟩ := h.c
    unfold rowOf at hg
    rw [hv.c] at hg
    exact ho.own g hg
theorem Wrt.below {w w' : World} {base R : Nat} {F : By} (h : Wrt w base R F) (k : Fw R w w') : Below base w w' :=
  ⟨k.os, k.tape, k.output, k.size, fun g hg => k.block g (by have := h.lt; omega) (by have := h.lt; omega) fun e => by have := (h.row g e).1; omega⟩

theorem fit_yes {w : World} {base R : Nat} {F : By} (h : WrO w base R F) (n : Nat) (hn : F.length + n ≤ 65536) :
    Calls Try.prog 46 #[ptR R, .int .i64 (n : Int)] w fun e w' => e = .returned (.bool true) ∧ WrO w' base R F ∧ Fw R w w' := by
  obtain ⟨v, hv, ho⟩ := h.c
  obtain ⟨a, c, rfl, -, -⟩ := ho.sl
  have c0 := hv.c
  have f0 := hv.f
  have c1 := h.o.c
  have f1 := h.o.f
  have HF : Hid (WrO (w.setCell ⟨R, 1, none⟩ (.bool false)) base R F ∧ Fw R w (w.setCell ⟨R, 1, none⟩ (.bool false))) := ⟨⟨⟨_, hv.oth (.inr (by decide)) _, ho.setR 1 _⟩, h.o.set _, h.l, h.b⟩, Fw.set1 R w _⟩
  have hw1 : IntKind.i64.wrap (65536 - (F.length : Int)) = 65536 - (F.length : Int) := by have := h.l; rw [IntKind.wrap_i64]; omega
  have hx : ¬ (65536 - (F.length : Int) < (n : Int)) := by omega
  obtain ⟨L, hL⟩ : ∃ L, F.length = L := ⟨_, rfl⟩
  rw [hL] at hw1 hx c0 
  clear h hv ho hn hL
  go_enter Try.func46, Try.ntmps46
  go_wp2
  go_ret
  exact ⟨rfl, HF.out.1, HF.out.2⟩
theorem fit_no {w : World} {base R : Nat} {F : By} (h : Wrt w base R F) (n : Nat) (hn : 65536 < F.length + n) :
    Calls Try.prog 46 #[ptR R, .int .i64 (n : Int)] w fun e w' => e = .returned (.bool false) ∧ WrX w' base R ∧ Fw R w w' := by
  rcases h with h | ⟨h, -⟩
  · obtain ⟨v, hv, ho⟩ := h.c
    obtain ⟨a, c, rfl, -, -⟩ := ho.sl
    have c0 := hv.c
    have f0 := hv.f
    have c1 := h.o.c
    have f1 := h.o.f
    have HF : Hid (WrX (w.setCell ⟨R, 1, none⟩ (.bool true)) base R ∧ Fw R w (w.setCell ⟨R, 1, none⟩ (.bool true))) := ⟨⟨⟨_, _, hv.oth (.inr (by decide)) _, ho.setR 1 _, h.l⟩, h.o.set _, h.b⟩, Fw.set1 R w _⟩
    have hw1 : IntKind.i64.wrap (65536 - (F.length : Int)) = 65536 - (F.length : Int) := by have := h.l; rw [IntKind.wrap_i64]; omega
    have hx : (65536 - (F.length : Int) < (n : Int)) := by omega
    obtain ⟨L, hL⟩ : ∃ L, F.length = L := ⟨_, rfl⟩
    rw [hL] at hw1 hx c0
    clear h hv ho hn hL
    go_enter Try.func46, Try.ntmps46
    go_wp2
    go_ret
    exact ⟨rfl, HF.out.1, HF.out.2⟩
  · obtain ⟨v, t, hv, ho, hl⟩ := h.c
    have c1 := h.o.c
    have f1 := h.o.f
    have HF : Hid (WrX (w.setCell ⟨R, 1, none⟩ (.bool true)) base R ∧ Fw R w (w.setCell ⟨R, 1, none⟩ (.bool true))) := ⟨⟨⟨_, _, hv.oth (.inr (by decide)) _, ho.setR 1 _, hl⟩, h.o.set _, h.b⟩, Fw.set1 R w _⟩
    clear h hv ho hn hl
    go_enter Try.func46, Try.ntmps46
    go_wp2
    go_ret
    exact ⟨rfl, HF.out.1, HF.out.2⟩
set_option maxHeartbeats 1000000 in
theorem put_any {w : World} {base R : Nat} {F : By} (hb : base ≤ w.heap.size) (h : Wrt w base R F) (x : UInt8) :
    Calls Try.prog 33 #[ptR R, .int .u8 (x.toNat : Int)] w fun e w' => e = .returned (.tuple #[]) ∧ Wrt w' base R (F ++ [x]) ∧ Fw R w w' := by
  by_cases hc : ∃ _ : WrO w base R F, F.length + 1 ≤ 65536
  · obtain ⟨ho, hl⟩ := hc
    have k := fit_yes ho 1 hl
    clear h ho
    go_enter Try.func33, Try.ntmps33
    go_wp2_with fail
    refine k.mono ?_
    rintro e w1 ⟨rfl, h1, b1⟩
    clear k
    obtain ⟨v, hv, ho⟩ := h1.c
    have c0 := hv.c
    have hR := h1.o.lt
    obtain ⟨W, hW⟩ : ∃ W, w1.alloc (.cells #[.int .u8 (x.toNat : Int)] 5) = W := ⟨_, rfl⟩
    have bW : Below w1.heap.size w1 W := by rw [← hW]; exact ba _ _
    have hsW : W.heap.size = w1.heap.size + 1 := by rw [← hW]; simp
    have h2 := h1.at bW
    obtain ⟨v', w', hr, hO, hg, hn⟩ := run_app_sl W base R v F (ho.bel bW) 47 [x] ⟨w1.heap.size, 0, none⟩ 1 (by
      intro j u hu; rw [← hW]; exact one_cells w1 _ _ _ rfl j u hu) (by simp; omega) (by have := b1.size; omega) (by omega)
    obtain ⟨a', c', rfl, -, -⟩ := hO.sl
    have hv2 := (hv.at bW).gb hg (by intro e; exact ((ho.own R e.symm).2.1) rfl)
    have ho2 := (h1.o.at bW).gb hg (by intro e; exact ((ho.own R e.symm).2.1) rfl)
    have HF : Hid (Wrt (w'.setCell ⟨R, 0, none⟩ (.slice a' (F ++ [x]).length c')) base R (F ++ [x]) ∧ Fw R w (w'.setCell ⟨R, 0, none⟩ (.slice a' (F ++ [x]).length c'))) := by
      refine ⟨.inl ⟨⟨_, hv2.set _, hO.setR 0 _⟩, ho2.oth (.inr (by decide)) _, by simp; omega, h1.b⟩, ?_⟩
      exact (b1.trans (Fw.new hR bW)).trans (Fw.app (hv.at bW) hv2 hg hn)
    have c2 := hv2.c
    have f2 := hv2.f
    have hf0 := hv.f
    obtain ⟨LL, hLL⟩ : ∃ L, (F ++ [x]).length = L := ⟨_, rfl⟩
    rw [hLL] at HF hr
    clear hv hv2 ho2 hO h2 ho hn b1 hLL
    go_wp2_with (at_builtin; refine wpList_app rfl _ _ 47 47 rfl v (.slice (some ⟨w1.heap.size, 0, none⟩) 1 1) _ w' rfl rfl hr ?_)
    go_wp2
    go_end0
    exact ⟨rfl, HF.out.1, HF.out.2⟩
  · have k := fit_no h 1 (by
      rcases h with h | ⟨_, h2⟩
      · have : ¬ F.length + 1 ≤ 65536 := fun e => hc ⟨h, e⟩
        omega
      · omega)
    have hl : 65536 < (F ++ [x]).length := by
      rcases h with h | ⟨_, h2⟩
      · have : ¬ F.length + 1 ≤ 65536 := fun e => hc ⟨h, e⟩
        simp; omega
      · simp; omega
    have HL : Hid (65536 < (F ++ [x]).length) := hl
    clear h hc hl
    go_enter Try.func33, Try.ntmps33
    go_wp2_with fail
    refine k.mono ?_
    rintro e w1 ⟨rfl, h1, b1⟩
    clear k
    go_wp2
    go_end0
    exact ⟨rfl, .inr ⟨h1, HL.out⟩, b1⟩
end Go.Proofs.Ytnoedkebmpfagaa
