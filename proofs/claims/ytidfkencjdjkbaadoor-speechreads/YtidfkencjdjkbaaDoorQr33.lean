import Derived.Test.YtidfkencjdjkbaaDoorQr32
/-
  The document's own answer, chapter 15: signed, span.
-/
namespace Go.Proofs.YtidfkencjdjkbaaDoor
open Go.RowKit Sp

def ngR (r : PR Int) : PR Int := match r with
  | .ok (n, q) => .ok (-n, q)
  | .error e => .error e
theorem sgnP_plain {ps : List Pc} (h : ¬ hd ps = sMinus) : sgnP ps = numP ps := by rw [sgnP, if_neg h]
set_option maxHeartbeats 1000000 in
set_option maxRecDepth 100000 in
theorem rsgn52 {w : World} {R P0 : Nat} {st : St} (h : SS w R P0 st) (r : PR Int) (hr : onS sgnP st = r) : Calls Tryd.prog 52 #[ptR R] w (SP w R P0 VI GI r) := by
  have HS : Hid (SS w R P0 st) := h
  obtain ⟨b, hb⟩ : ∃ b, nxtB sMinus st = b := ⟨_, rfl⟩
  have kn := rnxt_any h sMinus (by decide) b hb
  have HR : Hid (onS sgnP st = r) := hr
  have HB : Hid (nxtB sMinus st = b) := hb
  clear h hr hb
  go_enter Tryd.func52, Tryd.ntmps52
  go_wp2_with fail
  refine kn.mono ?_
  rintro e w1 ⟨rfl, hb1⟩
  have HS1 : Hid (SS w1 R P0 st) := HS.out.at hb1
  have HG1 : Hid (w.grownBy w1 (some R)) := gb_below hb1
  clear kn hb1
  cases b with
  | false =>
    have k1 := rnum50 HS1.out r (by
      rw [← HR.out]
      cases st with
      | error e => rfl
      | ok ps => simp only [onS]; rw [sgnP_plain (by simpa [nxtB] using HB.out)])
    go_wp2_with fail
    refine k1.mono ?_
    rintro e w2 ⟨v, rfl, hv, hs2, hg2⟩
    have HV : Hid _ := hv
    have HS2 : Hid (SS w2 R P0 (nxS r)) := hs2
    have HG2 : Hid (w.grownBy w2 (some R)) := gb_trans HG1.out hg2
    clear hv hs2 hg2 k1
    go_wp2
    go_ret
    exact ⟨_, rfl, HV.out, HS2.out, HG2.out⟩
  | true =>
    cases st with
    | error e => have := HB.out; cases this
    | ok ps =>
      have h2 : hd ps = sMinus := by simpa [nxtB] using HB.out
      obtain ⟨cc, i, n, q0, q1, q2, q3, hin, hnc, hn6, p0, p1, hPR, hPl, hRl, _, hfz⟩ := HS1.out.alive
      have z1 : w1.frozen? ⟨R, 1, none⟩ = false := (hfz 1).resolve_right (by omega)
      have hw : IntKind.i64.wrap ((i : Int) + 1) = (i : Int) + 1 := by rw [IntKind.wrap_i64]; omega
      obtain ⟨W2, hW2⟩ : ∃ W2, w1.setCell ⟨R, 1, none⟩ (.int .i64 ((i : Int) + 1)) = W2 := ⟨_, rfl⟩
      have hS2 : SS W2 R P0 (.ok ps.tail) := hW2 ▸ (show SS (w1.setCell ⟨R, 1, none⟩ (.int .i64 ((i : Int) + 1))) R P0 (.ok ps.tail) from HS1.out.step q1 (by rw [h2]; decide))
      have HS2 : Hid (SS W2 R P0 (.ok ps.tail)) := hS2
      have HG2 : Hid (w.grownBy W2 (some R)) := hW2 ▸ gb_set HG1.out 1 _
      obtain ⟨b2, hb2⟩ : ∃ b2, nxtB [48] (.ok ps.tail) = b2 := ⟨_, rfl⟩
      have kn := rnxt_any hS2 [48] (by decide) b2 hb2
      have HB2 : Hid (nxtB [48] (.ok ps.tail) = b2) := hb2
      have HR2 : Hid (sgnP ps = r) := HR.out
      have H2 : Hid (hd ps = sMinus) := h2
      clear hfz h2 hS2 hb2 HR
      go_wp2_with fail
      clear hW2
      refine kn.mono ?_
      rintro e w3 ⟨rfl, hb3⟩
      have HS3 : Hid (SS w3 R P0 (.ok ps.tail)) := HS2.out.at hb3
      have HG3 : Hid (w.grownBy w3 (some R)) := gb_trans HG2.out (gb_below hb3)
      clear kn hb3
      cases b2 with
      | true =>
        have h3 : hd ps.tail = [48] := by simpa [nxtB] using HB2.out
        obtain rfl : .error (2, hat ps.tail) = r := by rw [← HR2.out, sgnP, if_pos H2.out, if_pos h3]
        have kb := bad_any HS3.out 2 (by decide)
        clear h3
        go_wp2_with fail
        refine kb.mono ?_
        rintro e w4 ⟨rfl, hs4, hg4⟩
        go_wp2
        go_ret
        exact ⟨_, rfl, ⟨0, rfl⟩, hs4, gb_trans HG3.out hg4⟩
      | false =>
        have h3 : ¬ hd ps.tail = [48] := by simpa [nxtB] using HB2.out
        obtain ⟨r2, hr2⟩ : ∃ r2, numP ps.tail = r2 := ⟨_, rfl⟩
        have k1 := rnum50 HS3.out r2 hr2
        have HE : Hid (r = ngR r2) := by
          rw [Hid, ← HR2.out, sgnP, if_pos H2.out, if_neg h3, ← hr2]
          cases numP ps.tail <;> rfl
        have HN2 : Hid (numP ps.tail = r2) := hr2
        clear h3 hr2
        go_wp2_with fail
        refine k1.mono ?_
        rintro e w4 ⟨v, rfl, hv, hs4, hg4⟩
        have HS4 : Hid (SS w4 R P0 (nxS r2)) := hs4
        have HG4 : Hid (w.grownBy w4 (some R)) := gb_trans HG3.out hg4
        clear hs4 hg4 k1
        cases r2 with
        | error x =>
          obtain ⟨N, rfl⟩ := hv
          obtain rfl : r = .error x := HE.out
          go_wp2
          go_ret
          exact ⟨_, rfl, ⟨_, rfl⟩, HS4.out, HG4.out⟩
        | ok x =>
          obtain ⟨N, q⟩ := x
          obtain rfl : v = .int .i64 N := hv
          obtain ⟨n1, n2⟩ := num_bd HN2.out
          have hng : IntKind.i64.wrap (-N) = -N := by rw [IntKind.wrap_i64]; omega
          obtain rfl : r = .ok (-N, q) := HE.out
          go_wp2
          go_ret
          exact ⟨_, rfl, rfl, HS4.out, HG4.out⟩
abbrev VSp : World → Int × Int → Value → Prop := fun _ ab v => v = .tuple #[.int .i64 ab.1, .int .i64 ab.2]
abbrev GSp : Value → Prop := fun v => ∃ a b, v = .tuple #[.int .i64 a, .int .i64 b]
/-- a part of the grammar, of whatever comes: a value, what is left -/
theorem SP.val {w : World} {R P0 : Nat} {r : PR Int} {e : Ending} {w' : World} (h : SP w R P0 VI GI r e w') : ∃ n, e = .returned (.int .i64 n) ∧ (∀ a q, r = .ok (a, q) → n = a) ∧ SS w' R P0 (nxS r) ∧ w.grownBy w' (some R) := by
  obtain ⟨v, rfl, hv, hs, hg⟩ := h
  cases r with
  | ok x =>
    obtain ⟨a, q⟩ := x
    obtain rfl : v = .int .i64 a := hv
    exact ⟨a, rfl, fun a' q' e => (by cases e; rfl), hs, hg⟩
  | error x =>
    obtain ⟨n, rfl⟩ := hv
    exact ⟨n, rfl, fun a' q' e => (by cases e), hs, hg⟩
set_option maxHeartbeats 1000000 in
set_option maxRecDepth 100000 in
theorem rspn70 {w : World} {R P0 : Nat} {st : St} (h : SS w R P0 st) (r : PR (Int × Int)) (hr : onS spnP st = r) : Calls Tryd.prog 70 #[ptR R] w (SP w R P0 VSp GSp r) := by
  obtain ⟨r1, hr1⟩ : ∃ r1, onS sgnP st = r1 := ⟨_, rfl⟩
  obtain ⟨s2, hs2⟩ : ∃ s2, nxS (onS (tk sDots) (nxS r1)) = s2 := ⟨_, rfl⟩
  obtain ⟨r3, hr3⟩ : ∃ r3, onS sgnP s2 = r3 := ⟨_, rfl⟩
  have HE : Hid ((∀ a b q, r = .ok ((a, b), q) → (∃ q1, r1 = .ok (a, q1)) ∧ ∃ q3, r3 = .ok (b, q3)) ∧ nxS r3 = nxS r) := by
    rw [Hid, ← hr]
    rw [← hr3, ← hs2, ← hr1]
    cases st with
    | error e => exact ⟨fun a b q h => (by cases h), rfl⟩
    | ok ps =>
      simp only [onS, spnP]
      cases h1 : sgnP ps with
      | error e => exact ⟨fun a b q h => (by cases h), rfl⟩
      | ok x =>
        obtain ⟨a1, q1⟩ := x
        simp only [nxS]
        cases h2 : tk sDots q1 with
        | error e => exact ⟨fun a b q h => (by cases h), rfl⟩
        | ok y =>
          obtain ⟨u, q2⟩ := y
          simp only
          cases h3 : sgnP q2 with
          | error e => exact ⟨fun a b q h => (by cases h), rfl⟩
          | ok z =>
            obtain ⟨b1, q3⟩ := z
            exact ⟨fun a b q h => (by cases h; exact ⟨⟨_, rfl⟩, _, rfl⟩), rfl⟩
  have k1 := rsgn52 h r1 hr1
  have HS2 : Hid (nxS (onS (tk sDots) (nxS r1)) = s2) := hs2
  have HR3 : Hid (onS sgnP s2 = r3) := hr3
  clear hr hr1 hs2 hr3
  go_enter Tryd.func70, Tryd.ntmps70
  go_wp2_with fail
  refine k1.mono ?_
  intro e w1 hsp
  obtain ⟨a, rfl, ha, hs1, hg1⟩ := hsp.val
  have HA : Hid (∀ a' q, r1 = .ok (a', q) → a = a') := ha
  have k2 := want_any hs1 sDots (by decide) s2 HS2.out
  have HG1 : Hid (w.grownBy w1 (some R)) := hg1
  clear k1 hs1 hg1 hsp ha
  go_wp2_with fail
  refine k2.mono ?_
  rintro e w2 ⟨rfl, hs2, hg2⟩
  have HG2 : Hid (w.grownBy w2 (some R)) := gb_trans HG1.out hg2
  have k3 := rsgn52 hs2 r3 HR3.out
  clear k2 hs2 hg2
  go_wp2_with fail
  refine k3.mono ?_
  intro e w3 hsp
  obtain ⟨b, rfl, hb, hs3, hg3⟩ := hsp.val
  have HBv : Hid (∀ a' q, r3 = .ok (a', q) → b = a') := hb
  have HS3 : Hid (SS w3 R P0 (nxS r)) := by rw [Hid, ← HE.out.2]; exact hs3
  have HG3 : Hid (w.grownBy w3 (some R)) := gb_trans HG2.out hg3
  clear k3 hs3 hg3 hsp hb
  go_wp2
  go_ret2
  refine ⟨_, rfl, ?_, HS3.out, HG3.out⟩
  cases r with
  | error x => exact ⟨a, b, rfl⟩
  | ok x =>
    obtain ⟨⟨a1, b1⟩, q⟩ := x
    obtain ⟨⟨q1, h1⟩, q3, h3⟩ := HE.out.1 a1 b1 q rfl
    rw [HA.out a1 q1 h1, HBv.out b1 q3 h3]
    rfl
end Go.Proofs.YtidfkencjdjkbaaDoor
