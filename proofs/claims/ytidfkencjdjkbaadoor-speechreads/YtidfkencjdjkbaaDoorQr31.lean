import Derived.Test.YtidfkencjdjkbaaDoorQr30
/-
  The document's own answer, chapter 15: name, number.
-/
namespace Go.Proofs.YtidfkencjdjkbaaDoor
open Go.RowKit Sp

/-- what a part of the grammar answers -/
def SP {α : Type} (w : World) (R P0 : Nat) (V : World → α → Value → Prop) (G : Value → Prop) (r : PR α) (e : Ending) (w' : World) : Prop :=
  ∃ v, e = .returned v ∧ (match r with | .ok (a, _) => V w' a v | .error _ => G v) ∧ SS w' R P0 (nxS r) ∧ w.grownBy w' (some R)
abbrev VTx : World → By → Value → Prop := fun _ s v => v = .string (tx s)
abbrev GS : Value → Prop := fun v => ∃ s, v = .string (tx s)
abbrev GI : Value → Prop := fun v => ∃ n, v = .int .i64 n
theorem nmP_ok {ps : List Pc} (h : nmd (hd ps) = true) : nmP ps = .ok (hd ps, ps.tail) := by rw [nmP, if_pos h]
theorem nmP_no {ps : List Pc} (h : ¬ nmd (hd ps) = true) : nmP ps = .error (2, hat ps) := by rw [nmP, if_neg h]
theorem pok_len {ps : List Pc} (h : Pok ps) : (hd ps).length ≤ 65536 := by
  cases ps with
  | nil => simp [hd]
  | cons p r => exact (h.2 p (by simp)).2
theorem pok_dig {ps : List Pc} (h : Pok ps) (hf : fstD (hd ps) = true) : (hd ps).all digB = true := by
  cases ps with
  | nil => simp [hd, fstD] at hf
  | cons p r => exact (h.2 p (by simp)).1 hf
theorem nmd_ne {s : By} (h : nmd s = true) : s ≠ [] := by rintro rfl; simp [nmd, namB] at h
set_option maxHeartbeats 2000000 in
set_option maxRecDepth 100000 in
theorem rname69 {w : World} {R P0 : Nat} {st : St} (h : SS w R P0 st) (r : PR By) (hr : onS nmP st = r) : Calls Tryd.prog 69 #[ptR R] w (SP w R P0 VTx GS r) := by
  have HS : Hid (SS w R P0 st) := h
  cases st with
  | error x =>
    obtain rfl : .error x = r := hr
    obtain ⟨q2, hx⟩ := h.dead
    obtain ⟨k, x⟩ := x
    simp only at q2 hx
    have d : (k == 0) = false := by simpa using hx
    have d2 : (k != 0) = true := by simpa using hx
    clear h hx
    go_enter Tryd.func69, Tryd.ntmps69
    go_wp2_with fail
    go_quiet (fail)
    have HS1 : Hid (SS (w.drewN nq) R P0 (.error (k, x))) := HS.out.at (below_drewN (Below.refl _ _) _)
    have kb := bad_any HS1.out 2 (by decide)
    go_wp2_with fail
    refine kb.mono ?_
    rintro e w2 ⟨rfl, hs2, hg2⟩
    go_wp2
    go_ret
    exact ⟨_, rfl, ⟨[], rfl⟩, hs2, gb_trans (gb_below (below_drewN (Below.refl _ _) _)) hg2⟩
  | ok ps =>
    obtain ⟨cc, i, n, q0, q1, q2, q3, hin, hnc, hn6, p0, p1, hPR, hPl, hRl, hpk, hfz⟩ := h.alive
    have hini : (i : Int) < (n : Int) := by omega
    obtain ⟨b, hb⟩ : ∃ b, nmd (hd ps) = b := ⟨_, rfl⟩
    have kn := rnmd_any (hd ps) (pok_len hpk) w.drew b hb
    have HB : Hid (nmd (hd ps) = b) := hb
    have HR : Hid (nmP ps = r) := hr
    obtain ⟨x, hx⟩ : ∃ x, hd ps = x := ⟨_, rfl⟩
    rw [hx] at p0 kn
    have HX : Hid (hd ps = x) := hx
    have z1w : w.frozen? ⟨R, 1, none⟩ = false := (hfz 1).resolve_right (by omega)
    clear h hb hr hx hfz
    go_enter Tryd.func69, Tryd.ntmps69
    go_wp2_with fail
    go_region_held3 (fun w' => w'.cell? ⟨R, 2, none⟩ = some (.int .i64 0) ∧ w'.cell? ⟨R, 0, none⟩ = some (.slice (some ⟨P0, 0, none⟩) n cc) ∧ w'.cell? ⟨R, 1, none⟩ = some (.int .i64 (i : Int)) ∧ w'.cell? ⟨P0, i * 2, none⟩ = some (.string (tx x)))
      ((go_split_ands; refine ⟨?_, ?_, ?_, ?_⟩ <;> first | assumption | (simp [go_sem, *]; done)))
      (first | (go_at_call 83; (with_reducible refine kn.mono ?_); rintro e w1 ⟨rfl, b1⟩; have u2 := (b1.cell (p := ⟨R, 2, none⟩) hRl).trans q2; have u0 := (b1.cell (p := ⟨R, 0, none⟩) hRl).trans q0; have u1 := (b1.cell (p := ⟨R, 1, none⟩) hRl).trans q1; have v0 := (b1.cell (p := ⟨P0, i * 2, none⟩) hPl).trans p0))
    have HB1 : Hid (Below w.heap.size w w1) := (Below.refl _ _).drew.trans b1
    have HS1 : Hid (SS w1 R P0 (.ok ps)) := HS.out.at HB1.out
    have z1 : w1.frozen? ⟨R, 1, none⟩ = false := (HB1.out.frozen (p := ⟨R, 1, none⟩) hRl).trans z1w
    clear b1 kn q0 q1 q2 q3 p0 p1
    cases b with
    | false =>
      obtain rfl : .error (2, hat ps) = r := by rw [← HR.out, nmP_no (by rw [HB.out]; decide)]
      have kb := bad_any HS1.out 2 (by decide)
      go_wp2_with fail
      refine kb.mono ?_
      rintro e w2 ⟨rfl, hs2, hg2⟩
      go_wp2
      go_ret
      exact ⟨_, rfl, ⟨[], rfl⟩, hs2, gb_trans (gb_below HB1.out) hg2⟩
    | true =>
      obtain rfl : .ok (x, ps.tail) = r := by rw [← HR.out, nmP_ok HB.out, HX.out]
      have hw : IntKind.i64.wrap ((i : Int) + 1) = (i : Int) + 1 := by rw [IntKind.wrap_i64]; omega
      have hw2 : IntKind.i64.wrap ((i : Int) + 1 - 1) = (i : Int) := by rw [IntKind.wrap_i64]; omega
      have hw3 : IntKind.i64.wrap (i : Int) = (i : Int) := by rw [IntKind.wrap_i64]; omega
      obtain ⟨W2, hW2⟩ : ∃ W2, w1.setCell ⟨R, 1, none⟩ (.int .i64 ((i : Int) + 1)) = W2 := ⟨_, rfl⟩
      have HF : Hid (SS W2 R P0 (.ok ps.tail)) := hW2 ▸ (show SS (w1.setCell ⟨R, 1, none⟩ (.int .i64 ((i : Int) + 1))) R P0 (.ok ps.tail) from HS1.out.step u1 (nmd_ne HB.out))
      have HG2 : Hid (w.grownBy W2 (some R)) := hW2 ▸ gb_set (gb_below HB1.out) 1 _
      have U0 : W2.cell? ⟨R, 0, none⟩ = some (.slice (some ⟨P0, 0, none⟩) n cc) := hW2 ▸ (sc_other (by intro e; simp only [Addr.mk.injEq] at e; omega)).trans u0
      have U1 : W2.cell? ⟨R, 1, none⟩ = some (.int .i64 ((i : Int) + 1)) := hW2 ▸ sc_same u1
      have V0 : W2.cell? ⟨P0, i * 2, none⟩ = some (.string (tx x)) := hW2 ▸ (sc_other (by intro e; simp only [Addr.mk.injEq] at e; omega)).trans v0
      go_wp2_with fail
      clear hW2
      go_quiet (fail)
      go_wp2
      go_ret
      exact ⟨_, rfl, rfl, HF.out.at (below_drewN (Below.refl _ _) _), gb_trans HG2.out (gb_below (below_drewN (Below.refl _ _) _))⟩
end Go.Proofs.YtidfkencjdjkbaaDoor
