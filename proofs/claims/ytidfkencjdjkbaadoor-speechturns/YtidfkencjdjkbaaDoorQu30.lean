import Derived.Test.YtidfkencjdjkbaaDoorQu29
import Derived.Lib.OthersKept
import Derived.Lib.Builder
import Derived.Lib.UnsafeStr
/-
  PACKAGE speech, Print: a writer: a strings.Builder and what was written last, in a block of three cells.
-/
namespace Go.Proofs.YtidfkencjdjkbaaDoor
open Go.RowKit Sp

/-- a writer in block R: what 'addr' holds; the text so far; what was written last -/
def WtA (w : World) (B R : Nat) (p : Value) (t last : By) : Prop :=
  B ≤ R ∧ ∃ v, w.heap[R]? = some (.cells #[p, v, .string (tx last)] 84 (0, 0)) ∧ w.ownsRow B 5 1 v t.length (Lib.byteCells t) ∧ v.ownBlock ≠ some R
def Wtr (w : World) (B R : Nat) (t last : By) : Prop := WtA w B R (.pointer none) t last ∨ WtA w B R (.pointer (some ⟨R, 0, none⟩)) t last
/-- what stays -/
structure Kpw (B R : Nat) (w w' : World) : Prop where
  b : Below B w w'
  o : Lib.OthersKept 5 (some R) w w'
theorem Kpw.refl (B R : Nat) (w : World) : Kpw B R w w := ⟨Below.refl B w, Lib.OthersKept.refl 5 (some R) w⟩
theorem Kpw.trans {B R : Nat} {a b c : World} (h : Kpw B R a b) (k : Kpw B R b c) : Kpw B R a c := ⟨h.b.trans k.b, h.o.trans k.o⟩
theorem WtA.lt {w : World} {B R : Nat} {p : Value} {t last : By} (h : WtA w B R p t last) : R < w.heap.size := by
  obtain ⟨_, v, hb, _⟩ := h
  rcases Nat.lt_or_ge R w.heap.size with h' | h'
  · exact h'
  · simp [Array.getElem?_eq_none h'] at hb
theorem Wtr.lt {w : World} {B R : Nat} {t last : By} (h : Wtr w B R t last) : R < w.heap.size := h.elim (·.lt) (·.lt)
theorem Wtr.one {w : World} {B R : Nat} {t last : By} (h : Wtr w B R t last) : ∃ p, WtA w B R p t last := h.elim (⟨_, ·⟩) (⟨_, ·⟩)
theorem WtA.used {w : World} {B R : Nat} {p : Value} {t last : By} (h : WtA w B R p t last) (q : Value) : WtA (w.setCell ⟨R, 0, none⟩ q) B R q t last := by
  obtain ⟨hB, v, hb, hown, hne⟩ := h
  refine ⟨hB, v, ?_, ?_, hne⟩
  · simp [World.setCell, Array.getElem?_modify, hb]
  · exact hown.kept (row := some R) ⟨rfl, rfl, rfl, by simp [World.setCell], fun k _ hk => Below.heap_setCell _ _ _ _ (fun e => hk (by simp [e]))⟩ (Or.inr hne)
/-- another last piece -/
theorem WtA.last {w : World} {B R : Nat} {p : Value} {t last : By} (h : WtA w B R p t last) (s : By) : WtA (w.setCell ⟨R, 2, none⟩ (.string (tx s))) B R p t s := by
  obtain ⟨hB, v, hb, hown, hne⟩ := h
  refine ⟨hB, v, ?_, ?_, hne⟩
  · simp [World.setCell, Array.getElem?_modify, hb]
  · exact hown.kept (row := some R) ⟨rfl, rfl, rfl, by simp [World.setCell], fun k _ hk => Below.heap_setCell _ _ _ _ (fun e => hk (by simp [e]))⟩ (Or.inr hne)
theorem WtA.put {w : World} {B R : Nat} {p v v' : Value} {t last : By} (hB : B ≤ R) (hb : w.heap[R]? = some (.cells #[p, v, .string (tx last)] 84 (0, 0))) (hown : w.ownsRow B 5 1 v' t.length (Lib.byteCells t)) : WtA (w.setCell ⟨R, 1, none⟩ v') B R p t last := by
  have hne := Lib.ownBlock_ne hown hb (by decide)
  refine ⟨hB, v', ?_, ?_, hne⟩
  · simp [World.setCell, Array.getElem?_modify, hb]
  · exact hown.kept (row := some R) ⟨rfl, rfl, rfl, by simp [World.setCell], fun k _ hk => Below.heap_setCell _ _ _ _ (fun e => hk (by simp [e]))⟩ (Or.inr hne)
/-- a writer stands where other blocks change -/
theorem WtA.kept {w w' : World} {B R : Nat} {p : Value} {t last : By} (h : WtA w B R p t last) (hb : Below w.heap.size w w') : WtA w' B R p t last := by
  obtain ⟨hB, v, hk, hown, hne⟩ := h
  have hlt : R < w.heap.size := WtA.lt ⟨hB, v, hk, hown, hne⟩
  refine ⟨hB, v, (hb.block R hlt).trans hk, hown.kept (row := none) ⟨hb.os, hb.tape, hb.output, hb.size, fun k hk _ => hb.block k hk⟩ ?_, hne⟩
  by_cases e : v.ownBlock = none
  · exact .inl e
  · exact .inr e
theorem Wtr.kept {w w' : World} {B R : Nat} {t last : By} (h : Wtr w B R t last) (hb : Below w.heap.size w w') : Wtr w' B R t last := h.imp (·.kept hb) (·.kept hb)
theorem info82 : (Tryd.prog.info? 82).map (·.size) = some 2 := by kernel_rfl
theorem lies84 : liesAt Tryd.prog Tryd.prog.depth 84 (3 / Tryd.prog.cellsOf 84) 0 82 1 = true := by kernel_rfl
set_option maxHeartbeats 1000000 in
set_option maxRecDepth 100000 in
theorem cc_used (R : Nat) (w : World) (h0 : w.cell? ⟨R, 0, none⟩ = some (.pointer (some ⟨R, 0, none⟩))) : Calls Tryd.prog 84 #[.pointer (some ⟨R, 0, none⟩)] w fun e w' => e = .returned (.tuple #[]) ∧ w' = w := by
  obtain ⟨j, hj, _⟩ := Option.map_eq_some_iff.1 info82
  go_enter Tryd.func84, Tryd.ntmps84
  go_wp2
  rw [Lib.run_neq_ptr_same w _ Tryd.underlying79 hj]
  go_wp2
  go_end0
  exact ⟨rfl, rfl⟩
set_option maxHeartbeats 1000000 in
set_option maxRecDepth 100000 in
theorem cc_fresh (R : Nat) (w : World) (h0 : w.cell? ⟨R, 0, none⟩ = some (.pointer none)) (hsh : w.shape? R = some (84, 3)) (hfz : w.frozen? ⟨R, 0, none⟩ = false) : Calls Tryd.prog 84 #[.pointer (some ⟨R, 0, none⟩)] w fun e w' => e = .returned (.tuple #[]) ∧ w' = w.setCell ⟨R, 0, none⟩ (.pointer (some ⟨R, 0, none⟩)) := by
  obtain ⟨j, hj, hjs⟩ := Option.map_eq_some_iff.1 info82
  go_enter Tryd.func84, Tryd.ntmps84
  go_wp2
  rw [Lib.run_to_unsafe w ⟨R, 0, none⟩ Tryd.underlying79 Tryd.underlying114 hj (by rw [hjs]; decide) hsh (Nat.zero_lt_succ 2)]
  simp only [Result.andThen]
  rw [Oper.upon_value]
  go_wp2
  rw [run_callFunc_extern Tryd.func92 (by kernel_rfl) (by kernel_rfl) (by kernel_rfl) (e := Extern.AbiNoEscape.same) (by kernel_rfl)]
  rw [Lib.run_noEscape]
  simp only [Result.andThen]
  rw [Oper.upon_value]
  go_wp2
  rw [Lib.run_from_unsafe w ⟨R, 0, none⟩ Tryd.underlying114 Tryd.underlying79 hj hsh lies84]
  simp only [Result.andThen]
  rw [Oper.upon_value]
  go_wp2
  go_end0
  exact ⟨rfl, rfl⟩
theorem cc_any {w : World} {B R : Nat} {t last : By} (h : Wtr w B R t last) : Calls Tryd.prog 84 #[.pointer (some ⟨R, 0, none⟩)] w fun e w' => e = .returned (.tuple #[]) ∧ WtA w' B R (.pointer (some ⟨R, 0, none⟩)) t last ∧ Kpw B R w w' := by
  rcases h with h | h
  · obtain ⟨hB, v, hb, _⟩ := id h
    refine (cc_fresh R w (by rw [Lib.cell_of_heap hb]; rfl) (by simp [World.shape?, hb]) (Lib.frozen_of_heap hb 0)).mono ?_
    rintro e w' ⟨rfl, rfl⟩
    exact ⟨rfl, h.used _, (Below.refl B w).setCell (p := ⟨R, 0, none⟩) h.1 _, (Lib.OthersKept.refl _ _ w).setCell ⟨R, 0, none⟩ rfl _⟩
  · obtain ⟨hB, v, hb, _⟩ := id h
    refine (cc_used R w (by rw [Lib.cell_of_heap hb]; rfl)).mono ?_
    rintro e w' ⟨rfl, rfl⟩
    exact ⟨rfl, h, Kpw.refl B R _⟩
theorem len_any {w : World} {B R : Nat} {t last : By} (h : Wtr w B R t last) : Calls Tryd.prog 74 #[.pointer (some ⟨R, 0, none⟩)] w fun e w' => e = .returned (.int .i64 t.length) ∧ w' = w := by
  obtain ⟨p, hB, v, hbk, hown, hne⟩ := h.one
  obtain ⟨ao, cap, rfl⟩ : ∃ ao cap, v = .slice ao t.length cap := by
    rcases hown.2 with ⟨hv, h0⟩ | ⟨g, cap, cur, hv, _⟩
    · exact ⟨none, 0, by rw [hv, h0]⟩
    · exact ⟨_, _, hv⟩
  have c1 : w.cell? ⟨R, 1, none⟩ = some (.slice ao t.length cap) := by rw [Lib.cell_of_heap hbk]; rfl
  go_enter Tryd.func74, Tryd.ntmps74
  go_wp2
  go_ret
  exact ⟨rfl, rfl⟩
theorem ob_row {w : World} {B : Nat} {v : Value} {n : Nat} {xs : List Value} (h : w.ownsRow B 5 1 v n xs) : ∀ g, v.ownBlock = some g → ∃ c fz, w.heap[g]? = some (.cells c 5 fz) := by
  intro g hg
  rcases h.2 with ⟨rfl, _⟩ | ⟨g', cap, cur, rfl, _, hg', _⟩
  · simp [Value.ownBlock] at hg
  · simp only [Value.ownBlock, Option.some.injEq] at hg
    subst hg
    exact ⟨_, _, hg'⟩
set_option maxHeartbeats 2000000 in
set_option maxRecDepth 100000 in
theorem wstr_any {w : World} {B R : Nat} {t last : By} (h : Wtr w B R t last) (s : By) (hlen : t.length + s.length ≤ 140737488355328) (hBw : B ≤ w.heap.size) : Calls Tryd.prog 73 #[.pointer (some ⟨R, 0, none⟩), .string (tx s)] w fun e w' => (∃ x, e = .returned x) ∧ Wtr w' B R (t ++ s) last ∧ Kpw B R w w' := by
  obtain ⟨i0, hi, hz0, hz1, hz2⟩ := info_parts (P := Tryd.prog) (e := 5) (z := .int .u8 0) (size := 1) (bytes := 1) (by kernel_rfl)
  have hss : (tx s).size = s.length := by simp [ByteArray.size]
  go_enter Tryd.func73, Tryd.ntmps73
  go_wp2_with (go_at_call 84; refine (cc_any h).mono ?_)
  rintro e w1 ⟨rfl, ⟨hB, v, hbk, hown, hne⟩, hk1⟩
  have c0 : w1.cell? ⟨R, 0, none⟩ = some (.pointer (some ⟨R, 0, none⟩)) := by rw [Lib.cell_of_heap hbk]; rfl
  have c1 : w1.cell? ⟨R, 1, none⟩ = some v := by rw [Lib.cell_of_heap hbk]; rfl
  go_wp2_with (at_builtin; refine Lib.wpList_append_own_string _ rfl _ _ 80 9 rfl B 5 i0 Tryd.underlying80 Tryd.underlying9 hi hz0 hz1 hz2 _ _ _ rfl hown (tx s) rfl ?c3 ?c4 ?c5 ?_)
  case c3 => rw [hss]; unfold maxLen; omega
  case c4 => rw [hss]; omega
  case c5 => have := hk1.b.size; omega
  intro v' w2 hown' hgrow _
  have hlt : R < w1.heap.size := by
    rcases Nat.lt_or_ge R w1.heap.size with h' | h'
    · exact h'
    · simp [Array.getElem?_eq_none h'] at hbk
  have hb2 : w2.heap[R]? = some (.cells #[.pointer (some ⟨R, 0, none⟩), v, .string (tx last)] 84 (0, 0)) := by
    rw [hgrow.block R hlt (fun e => hne e.symm)]
    exact hbk
  have d0 : w2.cell? ⟨R, 0, none⟩ = some (.pointer (some ⟨R, 0, none⟩)) := by rw [Lib.cell_of_heap hb2]; rfl
  have d1 : w2.cell? ⟨R, 1, none⟩ = some v := by rw [Lib.cell_of_heap hb2]; rfl
  have f1 : w2.frozen? ⟨R, 1, none⟩ = false := Lib.frozen_of_heap hb2 1
  obtain ⟨ao, n', cap, rfl⟩ : ∃ ao n' cap, v' = .slice ao n' cap := by
    rcases hown'.2 with ⟨hv, _⟩ | ⟨g, cap, cur, hv, _⟩
    · exact ⟨_, _, _, hv⟩
    · exact ⟨_, _, _, hv⟩
  go_wp2
  go_ret2
  refine ⟨⟨_, rfl⟩, .inr ?_, ⟨?_, ?_⟩⟩
  · exact WtA.put hB hb2 (t := t ++ s) (by simpa [Lib.byteCells_append, Lib.strCells_eq] using hown')
  · exact (hk1.b.grown hgrow (by have := hk1.b.size; omega) (fun k hk => (hown.lt k hk).1)).setCell (p := ⟨R, 1, none⟩) hB _
  · exact (hk1.o.grown hgrow (ob_row hown)).setCell ⟨R, 1, none⟩ rfl _
end Go.Proofs.YtidfkencjdjkbaaDoor

/-
  PACKAGE speech, Print: pieces are written: apart, put.
-/
namespace Go.Proofs.YtidfkencjdjkbaaDoor
open Go.RowKit Sp

/-- pieces, one behind the other, with spaces where they stand -/
def wrs (last : By) : List By → By
  | [] => []
  | s :: r => (if apt last s then [32] else []) ++ (s ++ wrs s r)
def lsT (last : By) : List By → By
  | [] => last
  | s :: r => lsT s r
theorem wrt_wrs (last : By) (cs : List Ck) : wrt last cs = wrs last (cs.map Ck.txt) := by
  induction cs generalizing last with
  | nil => rfl
  | cons c r ih => simp [wrt, wrs, ih]
theorem wrs_app (last : By) (l r : List By) : wrs last (l ++ r) = wrs last l ++ wrs (lsT last l) r := by
  induction l generalizing last with
  | nil => rfl
  | cons s l ih => simp [wrs, lsT, ih]
theorem lsT_app (last : By) (l r : List By) : lsT last (l ++ r) = lsT (lsT last l) r := by
  induction l generalizing last with
  | nil => rfl
  | cons s l ih => simp [lsT, ih]
/-- texts, a row of one's own -/
def Txs (w : World) (S : Nat) (l : List By) : Prop := w.heap[S]? = some (.cells (l.map fun s => Value.string (tx s)).toArray 9 (0, 0))
theorem Txs.kept {w w' : World} {B R S : Nat} {l : List By} (h : Txs w S l) (hn : S ≠ R) (k : Kpw B R w w') : Txs w' S l :=
  k.o S _ h (by simpa using hn) (by intro c fz e; injection e with _ e2 _; exact absurd e2 (by decide))
theorem Txs.cell {w : World} {S : Nat} {l : List By} (h : Txs w S l) {i : Nat} {s : By} (hi : l[i]? = some s) : w.cell? ⟨S, i, none⟩ = some (.string (tx s)) := by
  rw [Lib.cell_of_heap h]
  simp [hi]
def PtP (B R : Nat) (w : World) (t last : By) (l : List By) (e : Ending) (w' : World) : Prop :=
  (if (t ++ wrs last l).length ≤ 65536 then e = .returned (.tuple #[]) ∧ Wtr w' B R (t ++ wrs last l) (lsT last l) else e = .panicked (chn 4 0)) ∧ Kpw B R w w'
theorem apart_any (x y : By) (b : Bool) (hb : apt x y = b) (w : World) : Calls Tryd.prog 71 #[.string (tx x), .string (tx y)] w fun e w' => e = .returned (.bool b) ∧ w' = w := by
  have HB : Hid (apt x y = b) := hb
  clear hb
  obtain ⟨b1, h1⟩ : ∃ b1, decide (x = []) = b1 := ⟨_, rfl⟩
  obtain ⟨b2, h2⟩ : ∃ b1, decide (x = [40]) = b1 := ⟨_, rfl⟩
  obtain ⟨b3, h3⟩ : ∃ b1, decide (x = [91]) = b1 := ⟨_, rfl⟩
  obtain ⟨b4, h4⟩ : ∃ b1, decide (y = [41]) = b1 := ⟨_, rfl⟩
  obtain ⟨b5, h5⟩ : ∃ b1, decide (y = [93]) = b1 := ⟨_, rfl⟩
  obtain ⟨b6, h6⟩ : ∃ b1, decide (y = [91]) = b1 := ⟨_, rfl⟩
  obtain ⟨b7, h7⟩ : ∃ b1, decide (y = [44]) = b1 := ⟨_, rfl⟩
  have q1 := eqs x _ b1 h1
  have q2 := eqs x _ b2 h2
  have q3 := eqs x _ b3 h3
  have q4 := eqs y _ b4 h4
  have q5 := eqs y _ b5 h5
  have q6 := eqs y _ b6 h6
  have q7 := eqs y _ b7 h7
  have p1 : (x == []) = b1 := by rw [by_beq]; exact h1
  have p2 : (x == [40]) = b2 := by rw [by_beq]; exact h2
  have p3 : (x == [91]) = b3 := by rw [by_beq]; exact h3
  have p4 : (y == [41]) = b4 := by rw [by_beq]; exact h4
  have p5 : (y == [93]) = b5 := by rw [by_beq]; exact h5
  have p6 : (y == [91]) = b6 := by rw [by_beq]; exact h6
  have p7 : (y == [44]) = b7 := by rw [by_beq]; exact h7
  have HE : Hid (b = (!(b1 || (b2 || b3)) && !(b4 || (b5 || (b6 || b7))))) := by
    rw [Hid, ← HB.out, ← h1, ← h2, ← h3, ← h4, ← h5, ← h6, ← h7]
    simp [apt]
  clear h1 h2 h3 h4 h5 h6 h7 HB
  go_enter Tryd.func71, Tryd.ntmps71
  cases b1
  · cases b2
    · cases b3
      · cases b4
        · cases b5
          · cases b6
            · cases b7
              · go_wp2
                go_ret
                exact ⟨by rw [HE.out]; rfl, rfl⟩
              · go_wp2
                go_ret
                exact ⟨by rw [HE.out]; rfl, rfl⟩
            · go_wp2
              go_ret
              exact ⟨by rw [HE.out]; rfl, rfl⟩
          · go_wp2
            go_ret
            exact ⟨by rw [HE.out]; rfl, rfl⟩
        · go_wp2
          go_ret
          exact ⟨by rw [HE.out]; rfl, rfl⟩
      · go_wp2
        go_ret
        exact ⟨by rw [HE.out]; rfl, rfl⟩
    · go_wp2
      go_ret
      exact ⟨by rw [HE.out]; rfl, rfl⟩
  · go_wp2
    go_ret
    exact ⟨by rw [HE.out]; rfl, rfl⟩
/-- one piece -/
theorem wrs_one (last s : By) : wrs last [s] = (if apt last s then [32] else []) ++ s := by simp [wrs]
theorem wbyt_any {w : World} {B R : Nat} {t last : By} (h : Wtr w B R t last) (hlen : t.length + 1 ≤ 140737488355328) (hBw : B ≤ w.heap.size) : Calls Tryd.prog 72 #[.pointer (some ⟨R, 0, none⟩), .int .u8 32] w fun e w' => (∃ x, e = .returned x) ∧ Wtr w' B R (t ++ [32]) last ∧ Kpw B R w w' := by
  obtain ⟨i0, hi, hz0, hz1, hz2⟩ := info_parts (P := Tryd.prog) (e := 5) (z := .int .u8 0) (size := 1) (bytes := 1) (by kernel_rfl)
  go_enter Tryd.func72, Tryd.ntmps72
  go_wp2_with (go_at_call 84; refine (cc_any h).mono ?_)
  rintro e w1 ⟨rfl, ⟨hB, v, hbk, hown, hne⟩, hk1⟩
  have c0 : w1.cell? ⟨R, 0, none⟩ = some (.pointer (some ⟨R, 0, none⟩)) := by rw [Lib.cell_of_heap hbk]; rfl
  have c1 : w1.cell? ⟨R, 1, none⟩ = some v := by rw [Lib.cell_of_heap hbk]; rfl
  have hsz := hk1.b.size
  go_wp2_with (at_builtin; refine wpList_append_own _ rfl _ _ 80 rfl B 5 i0 (.int .u8 0) 1 1 Tryd.underlying80 hi hz0 hz1 hz2 rfl (by decide) _ _ _ rfl (hown.alloc _) ⟨w1.heap.size, 0, none⟩ 1 1 [.int .u8 32] rfl rfl ?c1 ?c2 ?c3 ?c4 ?c5 ?_)
  case c1 =>
    intro j u hj
    match j, hj with
    | 0, hj => simp at hj; subst hj; simp [Addr.add]
  case c2 => intro u hu; simp at hu; subst hu; rfl
  case c3 => unfold maxLen; omega
  case c4 => omega
  case c5 => simp; omega
  intro v' w2 hown' hgrow _
  have hlt : R < w1.heap.size := by
    rcases Nat.lt_or_ge R w1.heap.size with h' | h'
    · exact h'
    · simp [Array.getElem?_eq_none h'] at hbk
  have hb2 : w2.heap[R]? = some (.cells #[.pointer (some ⟨R, 0, none⟩), v, .string (tx last)] 84 (0, 0)) := by
    rw [hgrow.block R (by simp; omega) (fun e => hne e.symm)]
    exact (Lib.alloc_old w1 _ R hlt).trans hbk
  have d0 : w2.cell? ⟨R, 0, none⟩ = some (.pointer (some ⟨R, 0, none⟩)) := by rw [Lib.cell_of_heap hb2]; rfl
  have d1 : w2.cell? ⟨R, 1, none⟩ = some v := by rw [Lib.cell_of_heap hb2]; rfl
  have f1 : w2.frozen? ⟨R, 1, none⟩ = false := Lib.frozen_of_heap hb2 1
  obtain ⟨ao, n', cap, rfl⟩ : ∃ ao n' cap, v' = .slice ao n' cap := by
    rcases hown'.2 with ⟨hv, _⟩ | ⟨g, cap, cur, hv, _⟩
    · exact ⟨_, _, _, hv⟩
    · exact ⟨_, _, _, hv⟩
  go_wp2
  go_ret
  refine ⟨⟨_, rfl⟩, .inr ?_, ⟨?_, ?_⟩⟩
  · exact WtA.put hB hb2 (t := t ++ [32]) (by simpa [Lib.byteCells_append, Lib.byteCells] using hown')
  · exact ((hk1.b.alloc (by omega) _).grown hgrow (by simp; omega) (fun k hk => (hown.lt k hk).1)).setCell (p := ⟨R, 1, none⟩) hB _
  · exact ((hk1.o.alloc _).grown hgrow (ob_row (hown.alloc _))).setCell ⟨R, 1, none⟩ rfl _
end Go.Proofs.YtidfkencjdjkbaaDoor
