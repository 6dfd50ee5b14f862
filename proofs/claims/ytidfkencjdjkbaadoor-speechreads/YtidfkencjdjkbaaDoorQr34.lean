import Derived.Test.YtidfkencjdjkbaaDoorQr33
import Derived.Test.YtidfkencjdjkbaaDoorQr28
/-
  The document's own answer, chapter 15: tests.
-/
namespace Go.Proofs.YtidfkencjdjkbaaDoor
open Go.RowKit Sp

def stepS (st : St) : St := match st with
  | .ok ps => .ok ps.tail
  | .error e => .error e
def fndS (st : St) : Nat := match st with
  | .ok ps => dng (hd ps)
  | .error _ => 0
def twoS (st : St) : St := if fndS st = 0 then badS 2 st else stepS st
theorem tst_states (ps : List Pc) (r3 : PR Int) (h3 : onS sgnP (twoS (nxS (nmP ps))) = r3) :
    (∀ n q, r3 = .ok (n, q) → ∃ c q1, nmP ps = .ok (c, q1) ∧ tstP ps = .ok ((c, (fndS (nxS (nmP ps)) : Int), n), q)) ∧ (∀ e, r3 = .error e → tstP ps = .error e) := by
  subst h3
  unfold tstP
  cases h1 : nmP ps with
  | error e => exact ⟨fun n q h => (by cases h), fun e' h => (by cases h; rfl)⟩
  | ok x =>
    obtain ⟨c, q1⟩ := x
    by_cases h0 : dng (hd q1) = 0
    · have e2 : twoS (nxS (.ok (c, q1) : PR By)) = .error (2, hat q1) := by
        have h0' : fndS (nxS (.ok (c, q1) : PR By)) = 0 := h0
        rw [twoS, if_pos h0']
        rfl
      rw [e2]
      simp only [if_pos h0]
      exact ⟨fun n q h => (by cases h), fun e' h => (by cases h; rfl)⟩
    · have e2 : twoS (nxS (.ok (c, q1) : PR By)) = .ok q1.tail := by
        have h0' : ¬ fndS (nxS (.ok (c, q1) : PR By)) = 0 := h0
        rw [twoS, if_neg h0']
        rfl
      rw [e2]
      simp only [if_neg h0, onS]
      cases h3 : sgnP q1.tail with
      | error e => exact ⟨fun n q h => (by cases h), fun e' h => (by cases h; rfl)⟩
      | ok y =>
        obtain ⟨n, q⟩ := y
        exact ⟨fun n' q' h => (by cases h; exact ⟨c, q1, rfl, rfl⟩), fun e' h => (by cases h)⟩
def rndT (l : List Tst) (ps : List Pc) : PR (List Tst) := match tstP ps with
  | .error e => .error e
  | .ok (t, q) => andL (63 - l.length) (l ++ [t]) q
theorem whr_rnd {ps : List Pc} (h : hd ps = wWhere) : whrP ps = rndT [] ps.tail := by
  rw [whrP, if_pos h, rndT]
  cases tstP ps.tail with
  | error e => rfl
  | ok x => rfl
theorem and_no {k : Nat} {l : List Tst} {q : List Pc} (h : ¬ hd q = wAnd) : andL k l q = .ok (l, q) := by cases k <;> rw [andL, if_neg h]
theorem and_much {l : List Tst} {q : List Pc} (h : hd q = wAnd) : andL 0 l q = .error (4, hat q) := by rw [andL, if_pos h]
theorem and_more {l : List Tst} {q : List Pc} (h : hd q = wAnd) (hl : l.length ≤ 63) : andL (64 - l.length) l q = rndT l q.tail := by
  rw [show 64 - l.length = (63 - l.length) + 1 by omega, andL, if_pos h, rndT]
  cases tstP q.tail <;> rfl
theorem rnd_ok {l : List Tst} {q q3 : List Pc} {t : Tst} (h : tstP q = .ok (t, q3)) (hl : l.length ≤ 63) : rndT l q = andL (64 - (l ++ [t]).length) (l ++ [t]) q3 := by
  rw [rndT, h]
  simp only [List.length_append, List.length_singleton]
  rw [show 64 - (l.length + 1) = 63 - l.length by omega]
theorem rnd_err {l : List Tst} {q : List Pc} {e : Int × Nat} (h : tstP q = .error e) : rndT l q = .error e := by rw [rndT, h]
/-- a sign is found -/
theorem nxt_sig (st : St) (j : Nat) (x : By) (hx : sigs[j]? = some x) : nxtB x st = decide (fndS st = j + 1) := by
  have hj : j < 6 := (List.getElem?_eq_some_iff.1 hx).1
  cases st with
  | error e => simp [nxtB, fndS]
  | ok ps =>
    show decide (hd ps = x) = decide (fndS (.ok ps) = j + 1)
    apply decide_eq_decide.2
    constructor
    · intro h
      have h2 : sgs[j + 1]? = some x := by
        match j, hx with
        | 0, hx => exact hx
        | 1, hx => exact hx
        | 2, hx => exact hx
        | 3, hx => exact hx
        | 4, hx => exact hx
        | 5, hx => exact hx
        | n + 6, hx => omega
      exact sgs_dng (hd ps) (j + 1) x h2 h.symm
    · intro h0
      have h : dng (hd ps) = j + 1 := h0
      unfold dng at h
      split at h
      · rename_i hm
        simp only [sigs, List.mem_cons, List.not_mem_nil, or_false] at hm
        rcases hm with e | e | e | e | e | e
        · rw [e] at h ⊢
          have e2 : sigs.idxOf ([61] : By) = 0 := by decide
          obtain rfl : j = 0 := by omega
          exact Option.some.inj hx
        · rw [e] at h ⊢
          have e2 : sigs.idxOf ([60] : By) = 1 := by decide
          obtain rfl : j = 1 := by omega
          exact Option.some.inj hx
        · rw [e] at h ⊢
          have e2 : sigs.idxOf ([60, 61] : By) = 2 := by decide
          obtain rfl : j = 2 := by omega
          exact Option.some.inj hx
        · rw [e] at h ⊢
          have e2 : sigs.idxOf ([62] : By) = 3 := by decide
          obtain rfl : j = 3 := by omega
          exact Option.some.inj hx
        · rw [e] at h ⊢
          have e2 : sigs.idxOf ([62, 61] : By) = 4 := by decide
          obtain rfl : j = 4 := by omega
          exact Option.some.inj hx
        · rw [e] at h ⊢
          have e2 : sigs.idxOf ([60, 62] : By) = 5 := by decide
          obtain rfl : j = 5 := by omega
          exact Option.some.inj hx
      · omega
theorem fnd_le (st : St) : fndS st ≤ 6 := by
  cases st with
  | error e => simp [fndS]
  | ok ps => exact dng_le _
theorem Txs.at {w w' : World} {S : Nat} {l : List By} (h : Txs w S l) (hb : Below w.heap.size w w') : Txs w' S l := (hb.block S (Array.getElem?_eq_some_iff.1 h).1).trans h
abbrev GSl : Value → Prop := fun v => ∃ a n c, v = .slice a n c
theorem SP.str {w : World} {R P0 : Nat} {r : PR By} {e : Ending} {w' : World} (h : SP w R P0 VTx GS r e w') : ∃ s, e = .returned (.string (tx s)) ∧ (∀ a q, r = .ok (a, q) → s = a) ∧ SS w' R P0 (nxS r) ∧ w.grownBy w' (some R) := by
  obtain ⟨v, rfl, hv, hs, hg⟩ := h
  cases r with
  | ok x =>
    obtain ⟨a, q⟩ := x
    obtain rfl : v = .string (tx a) := hv
    exact ⟨a, rfl, fun a' q' e => (by cases e; rfl), hs, hg⟩
  | error x =>
    obtain ⟨n, rfl⟩ := hv
    exact ⟨n, rfl, fun a' q' e => (by cases e), hs, hg⟩
theorem sixsig : (sigs.map fun s => Value.string (tx s)).toArray = #[.string (tx [61]), .string (tx [60]), .string (tx [60, 61]), .string (tx [62]), .string (tx [62, 61]), .string (tx [60, 62])] := rfl
set_option maxHeartbeats 4000000 in
set_option maxRecDepth 100000 in
theorem rtst68 {w : World} {R P0 : Nat} {st : St} (h : SS w R P0 st) (r : PR (List Tst)) (hr : onS whrP st = r) : Calls Tryd.prog 68 #[ptR R] w (SP w R P0 (TsV w.heap.size) GSl r) := by
  have HS : Hid (SS w R P0 st) := h
  have hRl := h.lt
  have hPl := h.pl
  obtain ⟨b, hb⟩ : ∃ b, nxtB wWhere st = b := ⟨_, rfl⟩
  have kn := rnxt_any h wWhere (by decide) b hb
  have HR : Hid (onS whrP st = r) := hr
  have HB : Hid (nxtB wWhere st = b) := hb
  obtain ⟨i0, hi0, hz0, hz1, hz2⟩ := info_parts infot61
  clear h hr hb
  go_enter Tryd.func68, Tryd.ntmps68
  go_wp2_with fail
  refine kn.mono ?_
  rintro e w1 ⟨rfl, hb1⟩
  have HS1 : Hid (SS w1 R P0 st) := HS.out.at hb1
  have HG1 : Hid (w.grownBy w1 (some R)) := gb_below hb1
  clear kn hb1
  cases b with
  | false =>
    go_wp2
    go_ret
    refine ⟨_, rfl, ?_, ?_, HG1.out⟩
    · cases st with
      | error e => obtain rfl : .error e = r := HR.out; exact ⟨_, _, _, rfl⟩
      | ok ps =>
        have h2 : ¬ hd ps = wWhere := by simpa [nxtB] using HB.out
        obtain rfl : .ok ([], ps) = r := by rw [← HR.out]; simp only [onS, whrP]; rw [if_neg h2]
        exact .inl ⟨rfl, rfl⟩
    · cases st with
      | error e => obtain rfl : .error e = r := HR.out; exact HS1.out
      | ok ps =>
        have h2 : ¬ hd ps = wWhere := by simpa [nxtB] using HB.out
        obtain rfl : .ok ([], ps) = r := by rw [← HR.out]; simp only [onS, whrP]; rw [if_neg h2]
        exact HS1.out
  | true =>
    cases st with
    | error e => have := HB.out; cases this
    | ok ps =>
      have h2 : hd ps = wWhere := by simpa [nxtB] using HB.out
      obtain ⟨cc, i, n, q0, q1, q2, q3, hin, hnc, hn6, p0, p1, hPR, _, _, _, hfz⟩ := HS1.out.alive
      have z1 : w1.frozen? ⟨R, 1, none⟩ = false := (hfz 1).resolve_right (by omega)
      have hw : IntKind.i64.wrap ((i : Int) + 1) = (i : Int) + 1 := by rw [IntKind.wrap_i64]; omega
      obtain ⟨W2, hW2⟩ : ∃ W2, w1.setCell ⟨R, 1, none⟩ (.int .i64 ((i : Int) + 1)) = W2 := ⟨_, rfl⟩
      have HS2 : Hid (SS W2 R P0 (.ok ps.tail)) := hW2 ▸ (show SS (w1.setCell ⟨R, 1, none⟩ (.int .i64 ((i : Int) + 1))) R P0 (.ok ps.tail) from HS1.out.step q1 (by rw [h2]; decide))
      have HG2 : Hid (w.grownBy W2 (some R)) := hW2 ▸ gb_set HG1.out 1 _
      have HR2 : Hid (rndT [] ps.tail = r) := by rw [Hid, ← whr_rnd h2]; exact HR.out
      clear hfz h2 HR
      go_wp2
      clear hW2 q0 q1 q2 q3 p0 p1 z1 hw
      go_loopw [3] (fun lv wr => ∃ (l : List Tst) (q : List Pc) (la : Option Addr) (lc : Nat), lv = .slice la l.length lc ∧ Hid (l.length ≤ 63) ∧ Hid (rndT l q = r) ∧ Hid (SS wr R P0 (.ok q)) ∧ Hid (w.grownBy wr (some R)) ∧ Hid (wr.ownsRow w.heap.size 61 3 (.slice la l.length lc) l.length (ts3 l))) (fun lv _ => 64 - slN lv)
      case atStart => exact ⟨[], ps.tail, none, 0, rfl, Nat.zero_le _, HR2, HS2, HG2, ⟨rfl, .inl ⟨rfl, rfl⟩⟩⟩
      case round =>
        obtain ⟨l, q, la, lc, rfl, HL, HA, HQ, HG, HO⟩ := hrel
        obtain ⟨ll, hll⟩ : ∃ ll, l.length = ll := ⟨_, rfl⟩
        have HLL : Hid (l.length = ll) := hll
        rw [hll] at HO HL ⊢
        have hl63 := HL.out
        obtain ⟨r1, hr1⟩ : ∃ r1, nmP q = r1 := ⟨_, rfl⟩
        have k1 := rname69 HQ.out r1 hr1
        have HR1 : Hid (nmP q = r1) := hr1
        clear hll hr1
        go_wp2_with fail
        refine k1.mono ?_
        intro e w3 hsp
        obtain ⟨cN, rfl, hc, hs3, hg3⟩ := hsp.str
        have HC : Hid (∀ a q', r1 = .ok (a, q') → cN = a) := hc
        have HS3 : Hid (SS w3 R P0 (nxS r1)) := hs3
        have HG3 : Hid (w.grownBy w3 (some R)) := gb_trans HG.out hg3
        have HO3 : Hid (w3.ownsRow w.heap.size 61 3 (.slice la ll lc) ll (ts3 l)) := row_low HO.out hg3 hRl
        clear k1 hsp hc hs3 hg3 HQ HG HO
        go_wp2
        obtain ⟨W4, hW4⟩ : ∃ W4, w3.alloc (.cells #[.string (tx cN), .int .i64 0, .int .i64 0] 61) = W4 := ⟨_, rfl⟩
        obtain ⟨W5, hW5⟩ : ∃ W5, W4.alloc (.cells #[.string (tx [61]), .string (tx [60]), .string (tx [60, 61]), .string (tx [62]), .string (tx [62, 61]), .string (tx [60, 62])] 9) = W5 := ⟨_, rfl⟩
        rw [hW4, hW5]
        have hsz4 : W4.heap.size = w3.heap.size + 1 := by rw [← hW4]; simp
        obtain ⟨X, hX⟩ : ∃ X, w3.heap.size = X := ⟨_, rfl⟩
        have HX5 : Hid (Bx W5 X [.string (tx cN), .int .i64 0, .int .i64 0]) := by
          rw [Hid, ← hX, ← hW5, ← hW4]
          exact (Bx.new w3 [.string (tx cN), .int .i64 0, .int .i64 0] 61 rfl).at (ba _ _)
        have HT5 : Hid (Txs W5 (X + 1) sigs) := by rw [Hid, ← hX, ← hsz4, ← hW5]; exact Txs.new W4 sigs _ sixsig.symm
        have HB5 : Hid (Below X w3 W5) := by rw [Hid, ← hX, ← hW5, ← hW4]; exact bal (ba _ _) _
        have hsz3 : w.heap.size ≤ X := by rw [← hX]; exact HG3.out.size
        obtain ⟨s1, hs1⟩ : ∃ s1, nxS r1 = s1 := ⟨_, rfl⟩
        have HS1e : Hid (nxS r1 = s1) := hs1
        rw [hs1] at HS3
        obtain ⟨fn, hfn⟩ : ∃ fn, fndS s1 = fn := ⟨_, rfl⟩
        have HFN : Hid (fndS s1 = fn) := hfn
        have hf6 : fn ≤ 6 := by rw [← hfn]; exact fnd_le s1
        rw [hX]
        clear hs1 hfn hW4 hW5 hsz4
        have HXe : Hid (w3.heap.size = X) := hX
        clear hX
        obtain ⟨wq, hwq⟩ : ∃ wq : World, wq = wr := ⟨_, rfl⟩
        subst hwq
        go_loopw [22] (fun jv wr => ∃ j : Nat, jv = .int .i64 (j : Int) ∧ j ≤ 6 ∧ Hid (Bx wr X [.string (tx cN), .int .i64 ((if fn ≤ j then fn else 0 : Nat) : Int), .int .i64 0]) ∧ Hid (Txs wr (X + 1) sigs) ∧ Hid (Below X w3 wr)) (fun jv _ => 6 - (intOf jv).toNat)
        case atStart => exact ⟨0, rfl, by omega, by
          have e : (if fn ≤ 0 then fn else 0 : Nat) = 0 := by split <;> omega
          rw [e]; exact HX5, HT5, HB5⟩
        case round =>
          obtain ⟨j, rfl, hj6, HBx, HTx, HBl⟩ := hrel
          have HSr : Hid (SS wr R P0 s1) := HS3.out.bl HBl.out (by omega) (by omega)
          by_cases cj : j < 6
          · obtain ⟨x, hx⟩ : ∃ x, sigs[j]? = some x := ⟨_, List.getElem?_eq_getElem cj⟩
            have t0 := HTx.out.cell hx
            have cji : (j : Int) < 6 := by omega
            have hnb := nxt_sig s1 j x hx
            rw [HFN.out] at hnb
            have hxne : x ≠ [] := by
              rintro rfl
              match j, hx with
              | 0, hx => cases hx
              | 1, hx => cases hx
              | 2, hx => cases hx
              | 3, hx => cases hx
              | 4, hx => cases hx
              | 5, hx => cases hx
              | n + 6, hx => omega
            obtain ⟨d, hd⟩ : ∃ d : Nat, (if fn ≤ j then fn else 0 : Nat) = d := ⟨_, rfl⟩
            have HD : Hid ((if fn ≤ j then fn else 0 : Nat) = d) := hd
            rw [hd] at HBx
            have u1 := (HBx.out 1 _ rfl).c
            have v1 := (HBx.out 1 _ rfl).f
            have hwj : IntKind.i64.wrap ((j : Int) + 1) = (j : Int) + 1 := by rw [IntKind.wrap_i64]; omega
            by_cases d0 : d = 0
            · have dd : ((d : Int) == 0) = true := by simpa using d0
              obtain ⟨b2, hb2⟩ : ∃ b2, nxtB x s1 = b2 := ⟨_, rfl⟩
              have kn := rnxt_any HSr.out x hxne b2 hb2
              rw [hb2] at hnb
              have HNB : Hid (b2 = decide (fn = j + 1)) := hnb
              have HD0 : Hid (fn = 0 ∨ j < fn) := by
                rw [Hid]
                have := HD.out
                split at this <;> omega
              clear hx hnb hb2 hd d0
              go_wp2_with fail
              refine kn.mono ?_
              rintro e w6 ⟨rfl, hb6⟩
              have HBx6 : Hid (Bx w6 X [.string (tx cN), .int .i64 (d : Int), .int .i64 0]) := HBx.out.at hb6
              have HTx6 : Hid (Txs w6 (X + 1) sigs) := HTx.out.at hb6
              have HBl6 : Hid (Below X w3 w6) := HBl.out.trans (hb6.mono (by have := HBl.out.size; have := HXe.out; omega))
              clear kn hb6 u1 v1 t0
              cases b2 with
              | true =>
                have u1 := (HBx6.out 1 _ rfl).c
                have v1 := (HBx6.out 1 _ rfl).f
                have hfj : fn = j + 1 := by simpa using HNB.out.symm
                obtain ⟨W7, hW7⟩ : ∃ W7, w6.setCell ⟨X, 1, none⟩ (.int .i64 ((j : Int) + 1)) = W7 := ⟨_, rfl⟩
                have HBx7 : Hid (Bx W7 X [.string (tx cN), .int .i64 ((if fn ≤ j + 1 then fn else 0 : Nat) : Int), .int .i64 0]) := by
                  rw [Hid, if_pos (by omega), hfj, ← hW7]
                  exact HBx6.out.set (i := 1) (by simp) _
                have HTx7 : Hid (Txs W7 (X + 1) sigs) := by
                  rw [Hid, ← hW7]
                  exact (Below.heap_setCell _ _ _ _ (by dsimp only; omega)).trans HTx6.out
                have HBl7 : Hid (Below X w3 W7) := hW7 ▸ HBl6.out.setCell (p := ⟨X, 1, none⟩) (Nat.le_refl _) _
                have HFJ : Hid (fn = j + 1) := hfj
                clear hfj
                go_wp2
                clear hW7
                go_roundw
                case rel => exact ⟨j + 1, by go_num, by omega, HBx7, HTx7, HBl7⟩
                case measure => simp [intOf]; omega
              | false =>
                have hfj : ¬ fn = j + 1 := by simpa using HNB.out.symm
                have HBx7 : Hid (Bx w6 X [.string (tx cN), .int .i64 ((if fn ≤ j + 1 then fn else 0 : Nat) : Int), .int .i64 0]) := by
                  have e : (if fn ≤ j + 1 then fn else 0 : Nat) = d := by
                    rw [← HD.out]
                    have := HD0.out
                    split <;> split <;> omega
                  rw [Hid, e]
                  exact HBx6.out
                clear hfj
                go_wp2
                go_roundw
                case rel => exact ⟨j + 1, by go_num, by omega, HBx7, HTx6, HBl6⟩
                case measure => simp [intOf]; omega
            · have dd : ((d : Int) == 0) = false := by simpa using d0
              have HBx7 : Hid (Bx wr X [.string (tx cN), .int .i64 ((if fn ≤ j + 1 then fn else 0 : Nat) : Int), .int .i64 0]) := by
                have e : (if fn ≤ j + 1 then fn else 0 : Nat) = d := by
                  have := HD.out
                  split at this
                  · rw [if_pos (by omega)]; exact this
                  · omega
                rw [Hid, e]
                exact HBx.out
              clear hx hnb hd d0
              go_wp2
              go_roundw
              case rel => exact ⟨j + 1, by go_num, by omega, HBx7, HTx, HBl⟩
              case measure => simp [intOf]; omega
          · obtain rfl : j = 6 := by omega
            rw [if_pos hf6] at HBx
            have hbw : Below w3.heap.size w3 wr := by rw [HXe.out]; exact HBl.out
            have HOr : Hid (wr.ownsRow w.heap.size 61 3 (.slice la ll lc) ll (ts3 l)) := row_gb HO3.out (gb_none hbw) (fun g hg e => by cases e)
            have HLT : Hid (∀ g, (Value.slice la ll lc).ownBlock = some g → g < X) := fun g hg => by have := (row_lt HO3.out hg).2; have := HXe.out; omega
            have HGr : Hid (w.grownBy wr (some R)) := gb_trans HG3.out (gb_below hbw)
            have u1 := (HBx.out 1 _ rfl).c
            have hXr := (HBx.out 0 _ rfl).lt
            clear hbw
            by_cases f0 : fn = 0
            · have dd : ((fn : Int) == 0) = true := by simpa using f0
              have kb := bad_any HSr.out 2 (by decide)
              have HTW : Hid (badS 2 s1 = twoS s1) := by rw [Hid, twoS, if_pos (by rw [HFN.out]; exact f0)]
              clear f0
              go_wp2_with fail
              refine kb.mono ?_
              rintro e wA ⟨rfl, hsA, hgA⟩
              have HSA : Hid (SS wA R P0 (twoS s1)) := by rw [Hid, ← HTW.out]; exact hsA
              have HXA : Hid (Bx wA X [.string (tx cN), .int .i64 (fn : Int), .int .i64 0]) := HBx.out.gb hgA (by omega)
              have HGA : Hid (w.grownBy wA (some R)) := gb_trans HGr.out hgA
              have HOA : Hid (wA.ownsRow w.heap.size 61 3 (.slice la ll lc) ll (ts3 l)) := row_low HOr.out hgA hRl
              have HLTA : Hid (∀ g, (Value.slice la ll lc).ownBlock = some g → g < X) := HLT
              clear kb hsA hgA u1
              obtain ⟨r3, hr3⟩ : ∃ r3, onS sgnP (twoS s1) = r3 := ⟨_, rfl⟩
              have k3 := rsgn52 HSA.out r3 hr3
              have HTS : Hid ((∀ n q', r3 = .ok (n, q') → ∃ c q1, nmP q = .ok (c, q1) ∧ tstP q = .ok ((c, (fn : Int), n), q')) ∧ (∀ e, r3 = .error e → tstP q = .error e)) := by
                have := tst_states q r3 (by rw [HR1.out, HS1e.out]; exact hr3)
                rw [HR1.out, HS1e.out, HFN.out] at this
                rw [Hid, HR1.out]
                exact this
              clear hr3
              go_wp2_with fail
              refine k3.mono ?_
              intro e w8 hsp
              obtain ⟨n3, rfl, hn3, hs8, hg8⟩ := hsp.val
              have HN3 : Hid (∀ a q', r3 = .ok (a, q') → n3 = a) := hn3
              have HX8 : Hid (Bx w8 X [.string (tx cN), .int .i64 (fn : Int), .int .i64 0]) := HXA.out.gb hg8 (by omega)
              have HG8 : Hid (w.grownBy w8 (some R)) := gb_trans HGA.out hg8
              have HO8 : Hid (w8.ownsRow w.heap.size 61 3 (.slice la ll lc) ll (ts3 l)) := row_low HOA.out hg8 hRl
              have HLT8 : Hid (∀ g, (Value.slice la ll lc).ownBlock = some g → g < X) := HLTA
              have hX8 := (HX8.out 0 _ rfl).lt
              obtain ⟨W9, hW9⟩ : ∃ W9, w8.setCell ⟨X, 2, none⟩ (.int .i64 n3) = W9 := ⟨_, rfl⟩
              have HX9 : Hid (Bx W9 X [.string (tx cN), .int .i64 (fn : Int), .int .i64 n3]) := hW9 ▸ HX8.out.set (i := 2) (by simp) _
              have hb9 : Below X w8 W9 := hW9 ▸ (Below.refl X w8).setCell (p := ⟨X, 2, none⟩) (Nat.le_refl _) _
              have HS9 : Hid (SS W9 R P0 (nxS r3)) := hs8.bl hb9 (by omega) (by omega)
              have HG9 : Hid (w.grownBy W9 (some R)) := gb_bl HG8.out (hb9.mono hsz3)
              have HO9 : Hid (W9.ownsRow w.heap.size 61 3 (.slice la ll lc) ll (ts3 l)) := row_same HO8.out fun g hg => hb9.block g (HLT8.out g hg)
              have u0 := (HX9.out 0 _ rfl).c
              have u1 := (HX9.out 1 _ rfl).c
              have u2 := (HX9.out 2 _ rfl).c
              have y2 := (HX8.out 2 _ rfl).c
              have x2 := (HX8.out 2 _ rfl).f
              have hsz9 := HG9.out.size
              have HOa : Hid ((W9.alloc (.cells #[.string (tx cN), .int .i64 (fn : Int), .int .i64 n3] 61)).ownsRow w.heap.size 61 3 (.slice la ll lc) ll (ts3 l)) := row_gb HO9.out (gb_none (ba _ _)) (fun g hg e => by cases e)
              clear k3 hsp hn3 hs8 hg8 hb9
              go_wp2_with (at_builtin; refine wpList_append_own_at _ rfl _ _ 22 rfl w.heap.size 61 i0 (.agg #[.string ⟨#[]⟩, .int .i64 0, .int .i64 0]) 3 32 Tryd.underlying22 hi0 hz0 hz1 hz2 rfl (by decide) (.slice la ll lc) ll (ts3 l) rfl HOa.out ⟨W9.heap.size, 0, none⟩ 1 1 [.string (tx cN), .int .i64 (fn : Int), .int .i64 n3] rfl rfl (three_cells W9 _ _ _ 61 _ rfl) (by intro u hu; simp at hu; rcases hu with rfl | rfl | rfl <;> rfl) (by unfold maxLen; omega) (by omega) (by simp; omega) ?_)
              intro nv wB hown hgrow hnil hat
              obtain ⟨ma, mc, rfl⟩ := row_slice hown
              obtain ⟨L2, hL2⟩ : ∃ L2, l ++ [(cN, (fn : Int), n3)] = L2 := ⟨_, rfl⟩
              have hle : L2.length = ll + 1 := by rw [← hL2, List.length_append, HLL.out]; rfl
              have HOB : Hid (wB.ownsRow w.heap.size 61 3 (.slice ma (ll + 1) mc) (ll + 1) (ts3 L2)) := by
                rw [Hid, ← hL2, ts3_snoc]
                exact hown
              have hbB : Below w.heap.size W9 wB := ((Below.refl _ W9).alloc hsz9 _).grown hgrow (by simp; omega) (fun k e => (row_lt HOa.out e).1)
              have HSB : Hid (SS wB R P0 (nxS r3)) := HS9.out.bl hbB hRl hPl
              have HGB : Hid (w.grownBy wB (some R)) := gb_bl HG9.out hbB
              have HLE : Hid (L2.length = ll + 1) := hle
              have HL2 : Hid (l ++ [(cN, (fn : Int), n3)] = L2) := hL2
              have HRD : Hid ((∀ n q3, r3 = .ok (n, q3) → andL (64 - L2.length) L2 q3 = r) ∧ ∀ e, r3 = .error e → .error e = r) := by
                refine ⟨fun n q3 h3 => ?_, fun e h3 => ?_⟩
                · obtain ⟨c, q1, h1, h2⟩ := HTS.out.1 n q3 h3
                  have e1 : cN = c := HC.out c q1 (by rw [← HR1.out]; exact h1)
                  have e2 : n3 = n := HN3.out n q3 h3
                  rw [← HA.out, rnd_ok h2 (by rw [HLL.out]; exact HL.out), ← e1, ← e2, HL2.out]
                · rw [← HA.out, rnd_err (HTS.out.2 e h3)]
              clear hown hgrow hnil hat hbB hW9 u0 u1 u2 y2 x2 HO9 HOa hL2 hle
              obtain ⟨bA, hbA⟩ : ∃ bA, nxtB wAnd (nxS r3) = bA := ⟨_, rfl⟩
              have kn := rnxt_any HSB.out wAnd (by decide) bA hbA
              have HBA : Hid (nxtB wAnd (nxS r3) = bA) := hbA
              clear hbA
              go_wp2_with fail
              refine kn.mono ?_
              rintro e wC ⟨rfl, hbC⟩
              have HSC : Hid (SS wC R P0 (nxS r3)) := HSB.out.at hbC
              have HGC : Hid (w.grownBy wC (some R)) := gb_trans HGB.out (gb_below hbC)
              have HOC : Hid (wC.ownsRow w.heap.size 61 3 (.slice ma (ll + 1) mc) (ll + 1) (ts3 L2)) := row_gb HOB.out (gb_none hbC) (fun g hg e => by cases e)
              clear kn hbC HSB HGB HOB
              cases bA with
              | false =>
                go_wp2
                go_ret
                refine ⟨_, rfl, ?_, ?_, HGC.out⟩
                · cases r3 with
                  | error e => obtain rfl : .error e = r := HRD.out.2 e rfl; exact ⟨_, _, _, rfl⟩
                  | ok y =>
                    obtain ⟨n, q3⟩ := y
                    obtain rfl : .ok (L2, q3) = r := by rw [← HRD.out.1 n q3 rfl, and_no (by simpa [nxtB, nxS] using HBA.out)]
                    exact row_ts HOC.out HLE.out.symm (by intro e; have := HLE.out; rw [e] at this; simp at this) (by rw [HLE.out]; omega)
                · cases r3 with
                  | error e => obtain rfl : .error e = r := HRD.out.2 e rfl; exact HSC.out
                  | ok y =>
                    obtain ⟨n, q3⟩ := y
                    obtain rfl : .ok (L2, q3) = r := by rw [← HRD.out.1 n q3 rfl, and_no (by simpa [nxtB, nxS] using HBA.out)]
                    exact HSC.out
              | true =>
                cases r3 with
                | error e => have := HBA.out; cases this
                | ok y =>
                  obtain ⟨n, q3⟩ := y
                  have hq3 : hd q3 = wAnd := by simpa [nxtB, nxS] using HBA.out
                  have HSC2 : Hid (SS wC R P0 (.ok q3)) := HSC.out
                  have hres := HRD.out.1 n q3 rfl
                  by_cases c64 : ll + 1 = 64
                  · have kb := bad_any HSC2.out 4 (by decide)
                    obtain rfl : .error (4, hat q3) = r := by rw [← hres, HLE.out, c64, and_much hq3]
                    obtain rfl : ll = 63 := by omega
                    clear hres hq3 c64 HRD
                    go_wp2_with fail
                    refine kb.mono ?_
                    rintro e wD ⟨rfl, hsD, hgD⟩
                    go_wp2
                    go_ret
                    exact ⟨_, rfl, ⟨_, _, _, rfl⟩, hsD, gb_trans HGC.out hgD⟩
                  · have d64 : (((ll : Int) + 1) == 64) = false := by simp; omega
                    have d65 : ¬ (ll : Int) + 1 = 64 := by omega
                    have HA2 : Hid (rndT L2 q3.tail = r) := by rw [Hid, ← hres, and_more hq3 (by rw [HLE.out]; omega)]
                    obtain ⟨cc, i, n', q0, q1, q2, qq3, hin, hnc, hn6, p0, p1, hPR, _, _, _, hfz⟩ := HSC2.out.alive
                    have z1 : wC.frozen? ⟨R, 1, none⟩ = false := (hfz 1).resolve_right (by omega)
                    have hw : IntKind.i64.wrap ((i : Int) + 1) = (i : Int) + 1 := by rw [IntKind.wrap_i64]; omega
                    obtain ⟨WD, hWD⟩ : ∃ WD, wC.setCell ⟨R, 1, none⟩ (.int .i64 ((i : Int) + 1)) = WD := ⟨_, rfl⟩
                    have HSD : Hid (SS WD R P0 (.ok q3.tail)) := hWD ▸ (show SS (wC.setCell ⟨R, 1, none⟩ (.int .i64 ((i : Int) + 1))) R P0 (.ok q3.tail) from HSC2.out.step q1 (by rw [hq3]; decide))
                    have HGD : Hid (w.grownBy WD (some R)) := hWD ▸ gb_set HGC.out 1 _
                    have HOD : Hid (WD.ownsRow w.heap.size 61 3 (.slice ma L2.length mc) L2.length (ts3 L2)) := by
                      rw [Hid, HLE.out, ← hWD]
                      exact row_low HOC.out (gb_set (gb_below (Below.refl _ _)) 1 _) hRl
                    have HLD : Hid (L2.length ≤ 63) := by rw [Hid, HLE.out]; omega
                    have hwl : ((L2.length : Nat) : Int) = (ll : Int) + 1 := by rw [HLE.out]; rfl
                    have hlv : Value.slice ma (ll + 1) mc = Value.slice ma L2.length mc := by rw [HLE.out]
                    clear hres hq3 c64 HRD hfz
                    go_wp2
                    clear hWD
                    go_roundw
                    case rel => exact ⟨L2, q3.tail, ma, mc, by first | rfl | exact hlv, HLD, HA2, HSD, HGD, HOD⟩
                    case measure => simp [slN]; omega
            · have dd : ((fn : Int) == 0) = false := by simpa using f0
              cases s1 with
              | error e => exact absurd HFN.out.symm f0
              | ok q1s =>
                have hne1 : hd q1s ≠ [] := by
                  intro e
                  have h1 := HFN.out
                  rw [fndS, e] at h1
                  exact f0 (by rw [← h1]; decide)
                have HTW : Hid (.ok q1s.tail = twoS (.ok q1s)) := by
                  have h1 : ¬ fndS (.ok q1s) = 0 := by rw [HFN.out]; exact f0
                  rw [Hid, twoS, if_neg h1]
                  rfl
                obtain ⟨ccA, iA, nA, qA0, qA1, qA2, qA3, hinA, hncA, hn6A, pA0, pA1, hPRA, _, _, _, hfzA⟩ := HSr.out.alive
                have zA : wr.frozen? ⟨R, 1, none⟩ = false := (hfzA 1).resolve_right (by omega)
                have hwA : IntKind.i64.wrap ((iA : Int) + 1) = (iA : Int) + 1 := by rw [IntKind.wrap_i64]; omega
                obtain ⟨wA, hwAe⟩ : ∃ wA, wr.setCell ⟨R, 1, none⟩ (.int .i64 ((iA : Int) + 1)) = wA := ⟨_, rfl⟩
                have hgA : wr.grownBy wA (some R) := hwAe ▸ gb_set (gb_below (Below.refl _ _)) 1 _
                have HSA : Hid (SS wA R P0 (twoS (.ok q1s))) := by
                  rw [Hid, ← HTW.out, ← hwAe]
                  exact (show SS (wr.setCell ⟨R, 1, none⟩ (.int .i64 ((iA : Int) + 1))) R P0 (.ok q1s.tail) from HSr.out.step qA1 hne1)
                have HXA : Hid (Bx wA X [.string (tx cN), .int .i64 (fn : Int), .int .i64 0]) := HBx.out.gb hgA (by omega)
                have HGA : Hid (w.grownBy wA (some R)) := gb_trans HGr.out hgA
                have HOA : Hid (wA.ownsRow w.heap.size 61 3 (.slice la ll lc) ll (ts3 l)) := row_low HOr.out hgA hRl
                have HLTA : Hid (∀ g, (Value.slice la ll lc).ownBlock = some g → g < X) := HLT
                clear hgA hfzA hne1 f0
                obtain ⟨r3, hr3⟩ : ∃ r3, onS sgnP (twoS (.ok q1s)) = r3 := ⟨_, rfl⟩
                have k3 := rsgn52 HSA.out r3 hr3
                have HTS : Hid ((∀ n q', r3 = .ok (n, q') → ∃ c q1, nmP q = .ok (c, q1) ∧ tstP q = .ok ((c, (fn : Int), n), q')) ∧ (∀ e, r3 = .error e → tstP q = .error e)) := by
                  have := tst_states q r3 (by rw [HR1.out, HS1e.out]; exact hr3)
                  rw [HR1.out, HS1e.out, HFN.out] at this
                  rw [Hid, HR1.out]
                  exact this
                clear hr3
                go_wp2_with fail
                clear hwAe
                refine k3.mono ?_
                intro e w8 hsp
                obtain ⟨n3, rfl, hn3, hs8, hg8⟩ := hsp.val
                have HN3 : Hid (∀ a q', r3 = .ok (a, q') → n3 = a) := hn3
                have HX8 : Hid (Bx w8 X [.string (tx cN), .int .i64 (fn : Int), .int .i64 0]) := HXA.out.gb hg8 (by omega)
                have HG8 : Hid (w.grownBy w8 (some R)) := gb_trans HGA.out hg8
                have HO8 : Hid (w8.ownsRow w.heap.size 61 3 (.slice la ll lc) ll (ts3 l)) := row_low HOA.out hg8 hRl
                have HLT8 : Hid (∀ g, (Value.slice la ll lc).ownBlock = some g → g < X) := HLTA
                have hX8 := (HX8.out 0 _ rfl).lt
                obtain ⟨W9, hW9⟩ : ∃ W9, w8.setCell ⟨X, 2, none⟩ (.int .i64 n3) = W9 := ⟨_, rfl⟩
                have HX9 : Hid (Bx W9 X [.string (tx cN), .int .i64 (fn : Int), .int .i64 n3]) := hW9 ▸ HX8.out.set (i := 2) (by simp) _
                have hb9 : Below X w8 W9 := hW9 ▸ (Below.refl X w8).setCell (p := ⟨X, 2, none⟩) (Nat.le_refl _) _
                have HS9 : Hid (SS W9 R P0 (nxS r3)) := hs8.bl hb9 (by omega) (by omega)
                have HG9 : Hid (w.grownBy W9 (some R)) := gb_bl HG8.out (hb9.mono hsz3)
                have HO9 : Hid (W9.ownsRow w.heap.size 61 3 (.slice la ll lc) ll (ts3 l)) := row_same HO8.out fun g hg => hb9.block g (HLT8.out g hg)
                have u0 := (HX9.out 0 _ rfl).c
                have u1 := (HX9.out 1 _ rfl).c
                have u2 := (HX9.out 2 _ rfl).c
                have y2 := (HX8.out 2 _ rfl).c
                have x2 := (HX8.out 2 _ rfl).f
                have hsz9 := HG9.out.size
                have HOa : Hid ((W9.alloc (.cells #[.string (tx cN), .int .i64 (fn : Int), .int .i64 n3] 61)).ownsRow w.heap.size 61 3 (.slice la ll lc) ll (ts3 l)) := row_gb HO9.out (gb_none (ba _ _)) (fun g hg e => by cases e)
                clear k3 hsp hn3 hs8 hg8 hb9
                go_wp2_with (at_builtin; refine wpList_append_own_at _ rfl _ _ 22 rfl w.heap.size 61 i0 (.agg #[.string ⟨#[]⟩, .int .i64 0, .int .i64 0]) 3 32 Tryd.underlying22 hi0 hz0 hz1 hz2 rfl (by decide) (.slice la ll lc) ll (ts3 l) rfl HOa.out ⟨W9.heap.size, 0, none⟩ 1 1 [.string (tx cN), .int .i64 (fn : Int), .int .i64 n3] rfl rfl (three_cells W9 _ _ _ 61 _ rfl) (by intro u hu; simp at hu; rcases hu with rfl | rfl | rfl <;> rfl) (by unfold maxLen; omega) (by omega) (by simp; omega) ?_)
                intro nv wB hown hgrow hnil hat
                obtain ⟨ma, mc, rfl⟩ := row_slice hown
                obtain ⟨L2, hL2⟩ : ∃ L2, l ++ [(cN, (fn : Int), n3)] = L2 := ⟨_, rfl⟩
                have hle : L2.length = ll + 1 := by rw [← hL2, List.length_append, HLL.out]; rfl
                have HOB : Hid (wB.ownsRow w.heap.size 61 3 (.slice ma (ll + 1) mc) (ll + 1) (ts3 L2)) := by
                  rw [Hid, ← hL2, ts3_snoc]
                  exact hown
                have hbB : Below w.heap.size W9 wB := ((Below.refl _ W9).alloc hsz9 _).grown hgrow (by simp; omega) (fun k e => (row_lt HOa.out e).1)
                have HSB : Hid (SS wB R P0 (nxS r3)) := HS9.out.bl hbB hRl hPl
                have HGB : Hid (w.grownBy wB (some R)) := gb_bl HG9.out hbB
                have HLE : Hid (L2.length = ll + 1) := hle
                have HL2 : Hid (l ++ [(cN, (fn : Int), n3)] = L2) := hL2
                have HRD : Hid ((∀ n q3, r3 = .ok (n, q3) → andL (64 - L2.length) L2 q3 = r) ∧ ∀ e, r3 = .error e → .error e = r) := by
                  refine ⟨fun n q3 h3 => ?_, fun e h3 => ?_⟩
                  · obtain ⟨c, q1, h1, h2⟩ := HTS.out.1 n q3 h3
                    have e1 : cN = c := HC.out c q1 (by rw [← HR1.out]; exact h1)
                    have e2 : n3 = n := HN3.out n q3 h3
                    rw [← HA.out, rnd_ok h2 (by rw [HLL.out]; exact HL.out), ← e1, ← e2, HL2.out]
                  · rw [← HA.out, rnd_err (HTS.out.2 e h3)]
                clear hown hgrow hnil hat hbB hW9 u0 u1 u2 y2 x2 HO9 HOa hL2 hle
                obtain ⟨bA, hbA⟩ : ∃ bA, nxtB wAnd (nxS r3) = bA := ⟨_, rfl⟩
                have kn := rnxt_any HSB.out wAnd (by decide) bA hbA
                have HBA : Hid (nxtB wAnd (nxS r3) = bA) := hbA
                clear hbA
                go_wp2_with fail
                refine kn.mono ?_
                rintro e wC ⟨rfl, hbC⟩
                have HSC : Hid (SS wC R P0 (nxS r3)) := HSB.out.at hbC
                have HGC : Hid (w.grownBy wC (some R)) := gb_trans HGB.out (gb_below hbC)
                have HOC : Hid (wC.ownsRow w.heap.size 61 3 (.slice ma (ll + 1) mc) (ll + 1) (ts3 L2)) := row_gb HOB.out (gb_none hbC) (fun g hg e => by cases e)
                clear kn hbC HSB HGB HOB
                cases bA with
                | false =>
                  go_wp2
                  go_ret
                  refine ⟨_, rfl, ?_, ?_, HGC.out⟩
                  · cases r3 with
                    | error e => obtain rfl : .error e = r := HRD.out.2 e rfl; exact ⟨_, _, _, rfl⟩
                    | ok y =>
                      obtain ⟨n, q3⟩ := y
                      obtain rfl : .ok (L2, q3) = r := by rw [← HRD.out.1 n q3 rfl, and_no (by simpa [nxtB, nxS] using HBA.out)]
                      exact row_ts HOC.out HLE.out.symm (by intro e; have := HLE.out; rw [e] at this; simp at this) (by rw [HLE.out]; omega)
                  · cases r3 with
                    | error e => obtain rfl : .error e = r := HRD.out.2 e rfl; exact HSC.out
                    | ok y =>
                      obtain ⟨n, q3⟩ := y
                      obtain rfl : .ok (L2, q3) = r := by rw [← HRD.out.1 n q3 rfl, and_no (by simpa [nxtB, nxS] using HBA.out)]
                      exact HSC.out
                | true =>
                  cases r3 with
                  | error e => have := HBA.out; cases this
                  | ok y =>
                    obtain ⟨n, q3⟩ := y
                    have hq3 : hd q3 = wAnd := by simpa [nxtB, nxS] using HBA.out
                    have HSC2 : Hid (SS wC R P0 (.ok q3)) := HSC.out
                    have hres := HRD.out.1 n q3 rfl
                    by_cases c64 : ll + 1 = 64
                    · have kb := bad_any HSC2.out 4 (by decide)
                      obtain rfl : .error (4, hat q3) = r := by rw [← hres, HLE.out, c64, and_much hq3]
                      obtain rfl : ll = 63 := by omega
                      clear hres hq3 c64 HRD
                      go_wp2_with fail
                      refine kb.mono ?_
                      rintro e wD ⟨rfl, hsD, hgD⟩
                      go_wp2
                      go_ret
                      exact ⟨_, rfl, ⟨_, _, _, rfl⟩, hsD, gb_trans HGC.out hgD⟩
                    · have d64 : (((ll : Int) + 1) == 64) = false := by simp; omega
                      have d65 : ¬ (ll : Int) + 1 = 64 := by omega
                      have HA2 : Hid (rndT L2 q3.tail = r) := by rw [Hid, ← hres, and_more hq3 (by rw [HLE.out]; omega)]
                      obtain ⟨cc, i, n', q0, q1, q2, qq3, hin, hnc, hn6, p0, p1, hPR, _, _, _, hfz⟩ := HSC2.out.alive
                      have z1 : wC.frozen? ⟨R, 1, none⟩ = false := (hfz 1).resolve_right (by omega)
                      have hw : IntKind.i64.wrap ((i : Int) + 1) = (i : Int) + 1 := by rw [IntKind.wrap_i64]; omega
                      obtain ⟨WD, hWD⟩ : ∃ WD, wC.setCell ⟨R, 1, none⟩ (.int .i64 ((i : Int) + 1)) = WD := ⟨_, rfl⟩
                      have HSD : Hid (SS WD R P0 (.ok q3.tail)) := hWD ▸ (show SS (wC.setCell ⟨R, 1, none⟩ (.int .i64 ((i : Int) + 1))) R P0 (.ok q3.tail) from HSC2.out.step q1 (by rw [hq3]; decide))
                      have HGD : Hid (w.grownBy WD (some R)) := hWD ▸ gb_set HGC.out 1 _
                      have HOD : Hid (WD.ownsRow w.heap.size 61 3 (.slice ma L2.length mc) L2.length (ts3 L2)) := by
                        rw [Hid, HLE.out, ← hWD]
                        exact row_low HOC.out (gb_set (gb_below (Below.refl _ _)) 1 _) hRl
                      have HLD : Hid (L2.length ≤ 63) := by rw [Hid, HLE.out]; omega
                      have hwl : ((L2.length : Nat) : Int) = (ll : Int) + 1 := by rw [HLE.out]; rfl
                      have hlv : Value.slice ma (ll + 1) mc = Value.slice ma L2.length mc := by rw [HLE.out]
                      clear hres hq3 c64 HRD hfz
                      go_wp2
                      clear hWD
                      go_roundw
                      case rel => exact ⟨L2, q3.tail, ma, mc, by first | rfl | exact hlv, HLD, HA2, HSD, HGD, HOD⟩
                      case measure => simp [slN]; omega
end Go.Proofs.YtidfkencjdjkbaaDoor
