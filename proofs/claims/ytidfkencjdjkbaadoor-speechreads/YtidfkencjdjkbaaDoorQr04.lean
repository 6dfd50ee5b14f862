import Derived.Test.YtidfkencjdjkbaaDoorQr03
import Derived.MapKept
import Derived.WideMake
import Derived.ChangeMaps5
import Derived.Deep.WholeRow
/-
  PACKAGE speech, pieces: next, is, step, must, has, take.
-/
namespace Go.Proofs.YtidfkencjdjkbaaDoor
open Go.RowKit Sp

abbrev ptR (R : Nat) : Value := .pointer (some ⟨R, 0, none⟩)
theorem next_any {w : World} {R P0 : Nat} {ps : List Pc} {m : Value} (h : Rdr w R P0 ps m) (x : By) (hx : hd ps = x) : Calls Tryd.prog 29 #[ptR R] w fun e w' => e = .returned (.string (tx x)) ∧ w' = w := by
  obtain ⟨P, o, n, c, -, hn, hc, hc2, c0, f0, p0, p1, -, -, hR, -⟩ := h.head
  rw [hx] at p0
  clear h hx
  have hn1 : (0 : Int) < (n : Int) := by omega
  go_enter Tryd.func29, Tryd.ntmps29
  go_wp2
  go_ret
  exact ⟨rfl, rfl⟩
theorem is_any {w : World} {R P0 : Nat} {ps : List Pc} {m : Value} (h : Rdr w R P0 ps m) (t : By) (b : Bool) (hb : decide (hd ps = t) = b) : Calls Tryd.prog 17 #[ptR R, .string (tx t)] w fun e w' => e = .returned (.bool b) ∧ w' = w := by
  have k := next_any h _ rfl
  have hq := eqs (hd ps) t b hb
  have hq2 : (hd ps == t) = b := by rw [by_beq]; exact hb
  clear hb h
  generalize hd ps = x at *
  go_enter Tryd.func17, Tryd.ntmps17
  go_wp2_with fail
  refine k.mono ?_
  rintro e w1 ⟨rfl, rfl⟩
  clear k
  go_wp2
  go_ret
  exact ⟨rfl, rfl⟩
theorem Fin.two {ps : List Pc} (h : Fin ps) (hd : hd ps ≠ []) : 2 ≤ ps.length := by
  match ps, h with
  | [p], h => exact absurd h hd
  | p :: q :: r, h => simp
theorem step_any {w : World} {R P0 : Nat} {ps : List Pc} {m : Value} (h : Rdr w R P0 ps m) (hne : hd ps ≠ []) : Calls Tryd.prog 28 #[ptR R] w fun e w' => e = .returned (.tuple #[]) ∧ Rdr w' R P0 ps.tail m ∧ w.grownBy w' (some R) := by
  obtain ⟨P, o, n, c, hl, hn, hc, hc2, c0, f0, p0, p1, -, -, hR, -⟩ := h.head
  have HS : Hid (Rdr (w.setCell ⟨R, 0, none⟩ (.slice (some ⟨P, o + 2, none⟩) (n - 1) (c - 1))) R P0 ps.tail m) := h.step hne c0 hl
  have hn1 : (1 : Int) ≤ (n : Int) := by omega
  have hn2 : (1 : Int) ≤ (c : Int) := by omega
  have hn3 : (n : Int) ≤ (c : Int) := by omega
  have hn4 : ¬ c = 1 := by have := h.f.two hne; omega
  clear h hl hne
  go_enter Tryd.func28, Tryd.ntmps28
  go_wp2
  go_end0
  exact ⟨rfl, HS.out, gb_set (gb_refl _ _) 0 _⟩
theorem pmust_ok {w : World} {R P0 : Nat} {ps : List Pc} {m : Value} (h : Rdr w R P0 ps m) (er : Int) : Calls Tryd.prog 16 #[ptR R, .bool true, .int .i64 er] w fun e w' => e = .returned (.tuple #[]) ∧ w' = w := by
  obtain ⟨P, o, n, c, hl, hn, hc, hc2, c0, f0, p0, p1, -, -, hR, -⟩ := h.head
  have hn1 : (0 : Int) < (n : Int) := by omega
  have k := must_ok er (hat ps) w
  clear h hl
  go_enter Tryd.func16, Tryd.ntmps16
  go_wp2_with fail
  refine k.mono ?_
  rintro e w1 ⟨rfl, rfl⟩
  go_wp2
  go_end0
  exact ⟨rfl, rfl⟩
theorem pmust_no {w : World} {R P0 : Nat} {ps : List Pc} {m : Value} (h : Rdr w R P0 ps m) (er : Int) : Calls Tryd.prog 16 #[ptR R, .bool false, .int .i64 er] w fun e w' => e = .panicked (chn er (hat ps)) ∧ w' = w := by
  obtain ⟨P, o, n, c, hl, hn, hc, hc2, c0, f0, p0, p1, -, -, hR, -⟩ := h.head
  have hn1 : (0 : Int) < (n : Int) := by omega
  have k := must_no er (hat ps) w
  clear h hl
  go_enter Tryd.func16, Tryd.ntmps16
  go_wp2_with fail
  refine k.mono ?_
  rintro e w1 ⟨rfl, rfl⟩
  go_wp2
  exact ⟨rfl, rfl, rfl⟩
theorem has_yes {w : World} {R P0 : Nat} {ps : List Pc} {m : Value} (h : Rdr w R P0 ps m) (t : By) (ht : t ≠ []) (hb : hd ps = t) : Calls Tryd.prog 67 #[ptR R, .string (tx t)] w fun e w' => e = .returned (.bool true) ∧ Rdr w' R P0 ps.tail m ∧ w.grownBy w' (some R) := by
  have k := is_any h t true (by simpa using hb)
  have k2 := step_any h (by rw [hb]; exact ht)
  clear h
  go_enter Tryd.func67, Tryd.ntmps67
  go_wp2_with fail
  refine k.mono ?_
  rintro e w1 ⟨rfl, rfl⟩
  clear k
  go_wp2_with fail
  refine k2.mono ?_
  rintro e w2 ⟨rfl, h2, hg⟩
  clear k2
  go_wp2
  go_ret
  exact ⟨rfl, h2, hg⟩
theorem has_no {w : World} {R P0 : Nat} {ps : List Pc} {m : Value} (h : Rdr w R P0 ps m) (t : By) (hb : hd ps ≠ t) : Calls Tryd.prog 67 #[ptR R, .string (tx t)] w fun e w' => e = .returned (.bool false) ∧ w' = w := by
  have k := is_any h t false (by simpa using hb)
  clear h
  go_enter Tryd.func67, Tryd.ntmps67
  go_wp2_with fail
  refine k.mono ?_
  rintro e w1 ⟨rfl, rfl⟩
  clear k
  go_wp2
  go_ret
  exact ⟨rfl, rfl⟩
theorem take_yes {w : World} {R P0 : Nat} {ps : List Pc} {m : Value} (h : Rdr w R P0 ps m) (t : By) (ht : t ≠ []) (hb : hd ps = t) : Calls Tryd.prog 48 #[ptR R, .string (tx t)] w fun e w' => e = .returned (.tuple #[]) ∧ Rdr w' R P0 ps.tail m ∧ w.grownBy w' (some R) := by
  have k := has_yes h t ht hb
  clear h
  go_enter Tryd.func48, Tryd.ntmps48
  go_wp2_with fail
  refine k.mono ?_
  rintro e w1 ⟨rfl, h1, hg⟩
  clear k
  have k2 := pmust_ok h1 2
  go_wp2_with fail
  refine k2.mono ?_
  rintro e w2 ⟨rfl, rfl⟩
  clear k2
  go_wp2
  go_end0
  exact ⟨rfl, h1, hg⟩
theorem take_no {w : World} {R P0 : Nat} {ps : List Pc} {m : Value} (h : Rdr w R P0 ps m) (t : By) (hb : hd ps ≠ t) : Calls Tryd.prog 48 #[ptR R, .string (tx t)] w fun e w' => e = .panicked (chn 2 (hat ps)) ∧ w' = w := by
  have k := has_no h t hb
  have k2 := pmust_no h 2
  clear h
  go_enter Tryd.func48, Tryd.ntmps48
  go_wp2_with fail
  refine k.mono ?_
  rintro e w1 ⟨rfl, rfl⟩
  clear k
  go_wp2_with fail
  refine k2.mono ?_
  rintro e w2 ⟨rfl, rfl⟩
  clear k2
  go_wp2
  exact ⟨rfl, rfl, rfl⟩
end Go.Proofs.YtidfkencjdjkbaaDoor

/-
  PACKAGE speech: two, long.
-/
namespace Go.Proofs.YtidfkencjdjkbaaDoor
open Go.RowKit Sp

theorem two_any (x : By) (b : Bool) (hb : twoB x = b) (w : World) : Calls Tryd.prog 44 #[.string (tx x)] w fun e w' => e = .returned (.bool b) ∧ w' = w := by
  have HB : Hid (twoB x = b) := hb
  clear hb
  obtain ⟨b1, h1⟩ : ∃ b1, decide (x = [46, 46]) = b1 := ⟨_, rfl⟩
  obtain ⟨b2, h2⟩ : ∃ b1, decide (x = [60, 61]) = b1 := ⟨_, rfl⟩
  obtain ⟨b3, h3⟩ : ∃ b1, decide (x = [62, 61]) = b1 := ⟨_, rfl⟩
  obtain ⟨b4, h4⟩ : ∃ b1, decide (x = [60, 62]) = b1 := ⟨_, rfl⟩
  have q1 := eqs x _ b1 h1
  have q2 := eqs x _ b2 h2
  have q3 := eqs x _ b3 h3
  have q4 := eqs x _ b4 h4
  have p1 : (x == [46, 46]) = b1 := by rw [by_beq]; exact h1
  have p2 : (x == [60, 61]) = b2 := by rw [by_beq]; exact h2
  have p3 : (x == [62, 61]) = b3 := by rw [by_beq]; exact h3
  have p4 : (x == [60, 62]) = b4 := by rw [by_beq]; exact h4
  have HE : Hid (b = (b1 || (b2 || (b3 || b4)))) := by
    rw [Hid, ← HB.out, ← h1, ← h2, ← h3, ← h4]
    simp [twoB]
  clear h1 h2 h3 h4 HB
  go_enter Tryd.func44, Tryd.ntmps44
  cases b1
  · cases b2
    · cases b3
      · go_wp2
        go_ret
        exact ⟨by rw [HE.out]; rfl, rfl⟩
      · go_wp2
        go_ret
        exact ⟨by rw [HE.out]; rfl, rfl⟩
    · go_wp2
      go_ret
      exact ⟨by rw [HE.out]; rfl, rfl⟩
  · go_wp2
    go_ret
    exact ⟨by rw [HE.out]; rfl, rfl⟩
end Go.Proofs.YtidfkencjdjkbaaDoor

/-
  PACKAGE speech: the words of the language, and what may be a name.
-/
namespace Go.Proofs.YtidfkencjdjkbaaDoor
open Go.RowKit Sp Go.ChangeMaps

def wEnt (l : List (By × Int)) : List MapEntry := l.zipIdx.map fun x => { key := .string (tx x.1.1), val := .int .i64 x.1.2, born := x.2 }
def wWds : List (By × Int) := [(wCount, 1), (wSum, 2), (wBins, 3), (wTotal, 8), (wJoin, 7), (wClamp, 10), (wWhere, 0), (wAnd, 0), (wIn, 0)]
/-- the words, in memory -/
def Wds (w : World) (b : Nat) : Prop := w.heap[b]? = some (.map (wEnt wWds).toArray 9)
theorem Wds.gb {w w' : World} {b R : Nat} (h : Wds w b) (hg : w.grownBy w' (some R)) (hn : b ≠ R) : Wds w' b := (hg.block b (Array.getElem?_eq_some_iff.1 h).1 (by simpa using hn)).trans h
theorem Wds.at {w w' : World} {b : Nat} (h : Wds w b) (hb : Below w.heap.size w w') : Wds w' b := (hb.block b (Array.getElem?_eq_some_iff.1 h).1).trans h
theorem ba_beq (x t : By) : (tx x == tx t) = decide (x = t) := by
  have h : (tx x == tx t) = true ↔ tx x = tx t := by
    constructor
    · intro e
      have := MapKept.bytes_beq (a := tx x) (b := tx t)
      simp_all
    · intro e
      have := MapKept.bytes_beq (a := tx x) (b := tx t)
      simp_all
  rw [Bool.eq_iff_iff, h, tx_inj]
  simp
theorem ents_snoc (l : List (By × Int)) (t : By) (v : Int) : wEnt (l ++ [(t, v)]) = wEnt l ++ [{ key := .string (tx t), val := .int .i64 v, born := l.length }] := by
  simp [wEnt, List.zipIdx_append]
def fnd (x : By) : List (By × Int) → Nat → Option (Nat × Value)
  | [], _ => none
  | p :: r, i => if x = p.1 then some (i, .int .i64 p.2) else fnd x r (i + 1)
theorem find_now (x : By) : ∀ (l : List (By × Int)) (k i : Nat), Instr.findNow .string (.string (tx x)) ((l.zipIdx k).map fun x => ({ key := .string (tx x.1.1), val := .int .i64 x.1.2, born := x.2 } : MapEntry)) i = some (fnd x l i)
  | [], _, _ => rfl
  | p :: r, k, i => by
    have ih := find_now x r (k + 1) (i + 1)
    simp only [List.zipIdx_cons, List.map_cons, Instr.findNow, Instr.sameNow, fnd]
    rw [ba_beq]
    by_cases h : x = p.1
    · simp [h]
    · simp only [h, decide_false, if_false]
      exact ih
theorem fnd_not (x : By) : ∀ (l : List (By × Int)) (i : Nat), x ∉ l.map Prod.fst → fnd x l i = none
  | [], _, _ => rfl
  | p :: r, i, h => by
    simp only [List.map_cons, List.mem_cons, not_or] at h
    simp only [fnd, if_neg h.1]
    exact fnd_not x r (i + 1) h.2
theorem upd_step (V : World) (b i : Nat) (t : By) (v : Int) (l : List (By × Int)) (hl : l.length = i) (hb : V.heap[b]? = some (.map (wEnt l).toArray i)) (hn : t ∉ l.map Prod.fst) :
    ∃ V', (Instr.mapUpdate 44 (.map (some b)) (.string (tx t)) (.int .i64 v)).run Tryd.prog V = .ok () V' ∧ V'.heap[b]? = some (.map (wEnt (l ++ [(t, v)])).toArray (i + 1)) ∧ V.grownBy V' (some b) := by
  have hf : Instr.findNow .string (.string (tx t)) (wEnt l).toArray.toList 0 = some none := by
    have := find_now t l 0 0
    rw [fnd_not t l 0 hn] at this
    exact this
  have hc : (Instr.checkKey false 10000 9 (.string (tx t))).run Tryd.prog V = .ok () V := MapKept.run_checkKey (k := .string (tx t)) Tryd.underlying9 (by simp [MapKept.IsKey]) false 9999
  refine ⟨setBlock V b (.map ((wEnt l).toArray.push { key := .string (tx t), val := .int .i64 v, born := i }) (i + 1)), ?_, ?_, ⟨rfl, rfl, rfl, by simp [setBlock], fun k _ hk => heap_setBlock_other hb _ (fun e => hk (by rw [e]))⟩⟩
  · simp [Instr.mapUpdate, run_underlying Tryd.underlying44, MapKept.run_getObj_map hb, hc, MapKept.run_findKey Tryd.underlying9 hf, MapKept.run_setObj_map _ hb, Result.andThen, setBlock]
  · rw [heap_setBlock_same hb, ents_snoc, hl]
    simp
theorem known_any (w : World) : Calls Tryd.prog 14 #[] w fun e w' => ∃ b, e = .returned (.map (some b)) ∧ Wds w' b ∧ w.heap.size ≤ b ∧ b < w'.heap.size ∧ Below w.heap.size w w' := by
  obtain ⟨V0, hV0⟩ : ∃ V0, w.alloc (.map #[] 0) = V0 := ⟨_, rfl⟩
  have h0 : V0.heap[w.heap.size]? = some (.map (wEnt []).toArray 0) := hV0 ▸ Go.heap_alloc_last w _
  have g0 : w.grownBy V0 (some w.heap.size) := hV0 ▸ gb_alloc (gb_refl _ _) _
  obtain ⟨V1, e1, h1, g1⟩ := upd_step V0 _ 0 wCount 1 [] rfl h0 (by decide)
  obtain ⟨V2, e2, h2, g2⟩ := upd_step V1 _ 1 wSum 2 _ rfl h1 (by decide)
  obtain ⟨V3, e3, h3, g3⟩ := upd_step V2 _ 2 wBins 3 _ rfl h2 (by decide)
  obtain ⟨V4, e4, h4, g4⟩ := upd_step V3 _ 3 wTotal 8 _ rfl h3 (by decide)
  obtain ⟨V5, e5, h5, g5⟩ := upd_step V4 _ 4 wJoin 7 _ rfl h4 (by decide)
  obtain ⟨V6, e6, h6, g6⟩ := upd_step V5 _ 5 wClamp 10 _ rfl h5 (by decide)
  obtain ⟨V7, e7, h7, g7⟩ := upd_step V6 _ 6 wWhere 0 _ rfl h6 (by decide)
  obtain ⟨V8, e8, h8, g8⟩ := upd_step V7 _ 7 wAnd 0 _ rfl h7 (by decide)
  obtain ⟨V9, e9, h9, g9⟩ := upd_step V8 _ 8 wIn 0 _ rfl h8 (by decide)
  have HW : Hid (Wds V9 w.heap.size) := h9
  have HG : Hid (w.grownBy V9 (some w.heap.size)) := gb_trans g0 (gb_trans g1 (gb_trans g2 (gb_trans g3 (gb_trans g4 (gb_trans g5 (gb_trans g6 (gb_trans g7 (gb_trans g8 g9))))))))
  have hmk := run_makeMap_plain (P := Tryd.prog) (w := w) 44
  rw [hV0] at hmk
  clear h0 g0 h1 g1 h2 g2 h3 g3 h4 g4 h5 g5 h6 g6 h7 g7 h8 g8 h9 g9 hV0
  go_enter Tryd.func14, Tryd.ntmps14
  go_wp2
  go_ret
  exact ⟨_, rfl, HW.out, Nat.le_refl _, (Array.getElem?_eq_some_iff.1 HW.out).1, below_gb HG.out (Nat.le_refl _) (Nat.le_refl _)⟩
/-- a word is looked up -/
theorem fnd_own (x : By) : (fnd x wWds 0 = none ∧ x ∉ owns ∧ kndN x = 0) ∨ ∃ i, fnd x wWds 0 = some (i, .int .i64 (kndN x : Int)) ∧ x ∈ owns := by
  by_cases h1 : x = wCount
  · subst h1; exact .inr ⟨0, by rfl, by decide⟩
  by_cases h2 : x = wSum
  · subst h2; exact .inr ⟨1, by rfl, by decide⟩
  by_cases h3 : x = wBins
  · subst h3; exact .inr ⟨2, by rfl, by decide⟩
  by_cases h4 : x = wTotal
  · subst h4; exact .inr ⟨3, by rfl, by decide⟩
  by_cases h5 : x = wJoin
  · subst h5; exact .inr ⟨4, by rfl, by decide⟩
  by_cases h6 : x = wClamp
  · subst h6; exact .inr ⟨5, by rfl, by decide⟩
  by_cases h7 : x = wWhere
  · subst h7; exact .inr ⟨6, by rfl, by decide⟩
  by_cases h8 : x = wAnd
  · subst h8; exact .inr ⟨7, by rfl, by decide⟩
  by_cases h9 : x = wIn
  · subst h9; exact .inr ⟨8, by rfl, by decide⟩
  refine .inl ⟨by simp [fnd, wWds, h1, h2, h3, h4, h5, h6, h7, h8, h9], by simp [owns, h1, h2, h3, h4, h5, h6, h7, h8, h9], by simp [kndN, h1, h2, h3, h4, h5, h6]⟩
theorem wds_look {w : World} {b : Nat} (h : Wds w b) (x : By) : (Instr.lookup 44 (.map (some b)) (.string (tx x)) false).run Tryd.prog w = .ok (.int .i64 (kndN x : Int)) w ∧ (Instr.lookup 44 (.map (some b)) (.string (tx x)) true).run Tryd.prog w = .ok (.tuple #[.int .i64 (kndN x : Int), .bool (decide (x ∈ owns))]) w := by
  have hf : Instr.findNow .string (.string (tx x)) (wEnt wWds).toArray.toList 0 = some (fnd x wWds 0) := find_now x wWds 0 0
  have hc : (Instr.checkKey (wEnt wWds).toArray.isEmpty 10000 9 (.string (tx x))).run Tryd.prog w = .ok () w := MapKept.run_checkKey (k := .string (tx x)) Tryd.underlying9 (by simp [MapKept.IsKey]) _ 9999
  have hk := MapKept.run_findKey (P := Tryd.prog) (w := w) Tryd.underlying9 hf
  have hg := MapKept.run_getObj_map (P := Tryd.prog) h
  generalize hE : (wEnt wWds).toArray = E at *
  rcases fnd_own x with ⟨q1, q2, q3⟩ | ⟨i, q1, q2⟩
  · rw [q1] at hk
    simp [Instr.lookup, run_underlying Tryd.underlying44, hg, hc, hk, Result.andThen, q2, q3, go_sem]
  · rw [q1] at hk
    simp [Instr.lookup, run_underlying Tryd.underlying44, hg, hc, hk, Result.andThen, q2]
/-- may it be a name of a column? -/
theorem names_any {w : World} {b : Nat} (h : Wds w b) (x : By) (hx : x.length ≤ 65536) (r : Bool) (hr : nmd x = r) : Calls Tryd.prog 39 #[.map (some b), .string (tx x)] w fun e w' => e = .returned (.bool r) ∧ w' = w := by
  obtain ⟨nb, hnb⟩ : ∃ nb, namB x = nb := ⟨_, rfl⟩
  have k := name_any (tx x) (by show x.toArray.size ≤ _; simp; omega) w nb hnb
  have hl := (wds_look h x).2
  obtain ⟨ob, hob⟩ : ∃ ob, decide (x ∈ owns) = ob := ⟨_, rfl⟩
  rw [hob] at hl
  have HR : Hid (r = (nb && !ob)) := by rw [Hid, ← hr, nmd, hnb, hob]
  clear hob hnb hr
  go_enter Tryd.func39, Tryd.ntmps39
  go_wp2_with fail
  refine k.mono ?_
  rintro e w1 ⟨rfl, rfl⟩
  clear k
  cases nb
  · go_wp2
    go_ret
    exact ⟨by rw [HR.out]; rfl, rfl⟩
  · go_wp2
    go_ret
    exact ⟨by rw [HR.out]; rfl, rfl⟩
end Go.Proofs.YtidfkencjdjkbaaDoor
