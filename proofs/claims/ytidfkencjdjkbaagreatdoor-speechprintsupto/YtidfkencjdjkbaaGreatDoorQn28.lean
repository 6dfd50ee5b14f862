import Derived.Test.YtidfkencjdjkbaaGreatDoorQn24
import Derived.Test.YtidfkencjdjkbaaGreatDoorQn27
import Derived.Test.YtidfkencjdjkbaaGreatDoorQn20
/-
  The document's own answer, chapter 15, Print: signs and picks, one behind the other.
-/
namespace Go.Proofs.YtidfkencjdjkbaaGreatDoor
open Go.RowKit Sp

theorem below_six {w W : World} {b : Nat} (hb : Below w.heap.size w W) (x0 x1 x2 x3 x4 x5 : Value) (hwb : w.heap.size ≤ b := by omega) : Below w.heap.size w (set6 W b x0 x1 x2 x3 x4 x5) :=
  bs (bs (bs (bs (bs (bs hb (p := ⟨b, 0, none⟩) hwb _) (p := ⟨b, 1, none⟩) hwb _) (p := ⟨b, 2, none⟩) hwb _) (p := ⟨b, 3, none⟩) hwb _) (p := ⟨b, 4, none⟩) hwb _) (p := ⟨b, 5, none⟩) hwb _
set_option maxHeartbeats 4000000 in
set_option maxRecDepth 100000 in
theorem chain_any (q : Qu) (w : World) (B : Nat) (cs : List Value) (hB : B ≤ w.heap.size) (hI : QI w B q cs) (hS : Say q) (hsz : chnN q ≤ 4611686018427387904) : Calls Tryz.prog 42 #[.agg cs.toArray] w fun e w' => e = .returned (.int .i64 (chnN q : Int)) ∧ Below w.heap.size w w' := by
  have HS : Hid (Say q) := hS
  have HI : Hid (QI w B q cs) := hI
  obtain ⟨kd0, c0, lo0, hi0, wa0, wn0, wc0, ka0, kn0, kc0, rfl⟩ := hI.six
  obtain ⟨W0, hW0⟩ : ∃ W0, w.alloc (.cells #[.int .i64 kd0, .string (tx c0), .int .i64 lo0, .int .i64 hi0, .slice wa0 wn0 wc0, .slice ka0 kn0 kc0] 25) = W0 := ⟨_, rfl⟩
  have HB0 : Hid (Below w.heap.size w W0) := hW0 ▸ ba _ _
  have HX0 : Hid (Bx W0 w.heap.size [.int .i64 kd0, .string (tx c0), .int .i64 lo0, .int .i64 hi0, .slice wa0 wn0 wc0, .slice ka0 kn0 kc0]) := hW0 ▸ Bx.new w [.int .i64 kd0, .string (tx c0), .int .i64 lo0, .int .i64 hi0, .slice wa0 wn0 wc0, .slice ka0 kn0 kc0] 25 rfl
  obtain ⟨M, hM⟩ : ∃ M, chnN q = M := ⟨_, rfl⟩
  have HM : Hid (chnN q = M) := hM
  rw [hM] at hsz ⊢
  clear hI hS hM
  go_enter Tryz.func42, Tryz.ntmps42
  go_wp2
  clear hW0
  go_loopw [3] (fun nv wr => ∃ (n : Nat) (q' : Qu) (kd : Int) (c : By) (lo hi : Int) (wa : Option Addr) (wn wc : Nat) (ka : Option Addr) (kn kc : Nat), nv = .int .i64 (n : Int) ∧ (Say q' ∧ M = n + chnN q') ∧ Hid (QI w B q' [.int .i64 kd, .string (tx c), .int .i64 lo, .int .i64 hi, .slice wa wn wc, .slice ka kn kc]) ∧ Hid (Bx wr w.heap.size [.int .i64 kd, .string (tx c), .int .i64 lo, .int .i64 hi, .slice wa wn wc, .slice ka kn kc]) ∧ Below w.heap.size w wr) (fun nv _ => M - (intOf nv).toNat)
  case atStart => exact ⟨0, q, kd0, c0, lo0, hi0, wa0, wn0, wc0, ka0, kn0, kc0, rfl, ⟨HS.out, by have := HM.out; omega⟩, HI, HX0, HB0.out⟩
  case round =>
    obtain ⟨n, q', kd, c, lo, hi, wa, wn, wc, ka, kn, kc, rfl, ⟨hS', hM'⟩, HQ, HX, hbl⟩ := hrel
    cases q' with
    | none => exact hS'.elim
    | node k2 cc l2 h2 wh nn x y =>
      obtain ⟨wv, kav, kcv, he, hTI, hnk, hn63, -, -, -, -, -, -, hkids⟩ := HQ.out
      simp only [List.cons.injEq, Value.int.injEq, true_and, and_true, Value.slice.injEq] at he
      obtain ⟨rfl, -, -, -, -, rfl, rfl, rfl⟩ := he
      have z0 := (HX.out 0 _ rfl).c
      have z1 := (HX.out 1 _ rfl).c
      have z2 := (HX.out 2 _ rfl).c
      have z3 := (HX.out 3 _ rfl).c
      have z4 := (HX.out 4 _ rfl).c
      have z5 := (HX.out 5 _ rfl).c
      have y0 := (HX.out 0 _ rfl).f
      have y1 := (HX.out 1 _ rfl).f
      have y2 := (HX.out 2 _ rfl).f
      have y3 := (HX.out 3 _ rfl).f
      have y4 := (HX.out 4 _ rfl).f
      have y5 := (HX.out 5 _ rfl).f
      by_cases hk : kd = 4
      · obtain rfl : kd = 4 := hk
        obtain ⟨hkn, hSx⟩ : kn = 2 ∧ Say x := by
          rcases hS' with h | h | h | h | h | h | h | h
          all_goals first | exact ⟨h.2.2.2.2.2.1, h.2.2.2.2.2.2.1⟩ | (exfalso; have := h.1; omega)
        have HNX : Hid (Say x ∧ M = n + 1 + chnN x) := ⟨hSx, by rw [hM']; simp [chnN]; omega⟩
        have hnM : n + 1 ≤ M := by have := HNX.out.2; omega
        subst hkn
        have hk0 : (0 : Int) < 2 := by decide
        clear hS' hM' hTI hSx
        obtain ⟨bb, ob, rfl, hbb, ⟨xs, hxs, hxc⟩, -⟩ := hkids (by omega) (by omega)
        obtain ⟨kd2, c2, lo2, hi2, wa2, wn2, wc2, ka2, kn2, kc2, rfl⟩ := hxs.six
        have hbw : bb < w.heap.size := by omega
        have p0 : wr.cell? ⟨bb, ob, none⟩ = some (.int .i64 kd2) := (hbl.cell (p := ⟨bb, ob, none⟩) hbw).trans (hxc 0 _ rfl)
        have p1 : wr.cell? ⟨bb, ob + 1, none⟩ = some (.string (tx c2)) := (hbl.cell (p := ⟨bb, ob + 1, none⟩) hbw).trans (hxc 1 _ rfl)
        have p2 : wr.cell? ⟨bb, ob + 2, none⟩ = some (.int .i64 lo2) := (hbl.cell (p := ⟨bb, ob + 2, none⟩) hbw).trans (hxc 2 _ rfl)
        have p3 : wr.cell? ⟨bb, ob + 3, none⟩ = some (.int .i64 hi2) := (hbl.cell (p := ⟨bb, ob + 3, none⟩) hbw).trans (hxc 3 _ rfl)
        have p4 : wr.cell? ⟨bb, ob + 4, none⟩ = some (.slice wa2 wn2 wc2) := (hbl.cell (p := ⟨bb, ob + 4, none⟩) hbw).trans (hxc 4 _ rfl)
        have p5 : wr.cell? ⟨bb, ob + 5, none⟩ = some (.slice ka2 kn2 kc2) := (hbl.cell (p := ⟨bb, ob + 5, none⟩) hbw).trans (hxc 5 _ rfl)
        obtain ⟨W2, hW2⟩ : ∃ W2, set6 wr w.heap.size (.int .i64 kd2) (.string (tx c2)) (.int .i64 lo2) (.int .i64 hi2) (.slice wa2 wn2 wc2) (.slice ka2 kn2 kc2) = W2 := ⟨_, rfl⟩
        have HX2 : Hid (Bx W2 w.heap.size [.int .i64 kd2, .string (tx c2), .int .i64 lo2, .int .i64 hi2, .slice wa2 wn2 wc2, .slice ka2 kn2 kc2]) := hW2 ▸ set6_bx HX.out _ _ _ _ _ _
        have HB2 : Hid (Below w.heap.size w W2) := hW2 ▸ below_six hbl _ _ _ _ _ _
        have HQ2 : Hid (QI w B x [.int .i64 kd2, .string (tx c2), .int .i64 lo2, .int .i64 hi2, .slice wa2 wn2 wc2, .slice ka2 kn2 kc2]) := hxs
        unfold set6 at hW2
        clear hkids hxc hxs
        go_wp2
        clear hW2
        go_roundw
        case rel => exact ⟨n + 1, x, kd2, c2, lo2, hi2, wa2, wn2, wc2, ka2, kn2, kc2, by go_num, HNX.out, HQ2, HX2, HB2.out⟩
        case measure => simp [intOf]; omega
      by_cases hk5 : kd = 5
      · have hk := hk5
        obtain rfl : kd = 5 := hk
        obtain ⟨hkn, hSx⟩ : kn = 2 ∧ Say x := by
          rcases hS' with h | h | h | h | h | h | h | h
          all_goals first | exact ⟨h.2.2.2.2.2.1, h.2.2.2.2.2.2.1⟩ | (exfalso; have := h.1; omega)
        have HNX : Hid (Say x ∧ M = n + 1 + chnN x) := ⟨hSx, by rw [hM']; simp [chnN]; omega⟩
        have hnM : n + 1 ≤ M := by have := HNX.out.2; omega
        subst hkn
        have hk0 : (0 : Int) < 2 := by decide
        clear hS' hM' hTI hSx
        obtain ⟨bb, ob, rfl, hbb, ⟨xs, hxs, hxc⟩, -⟩ := hkids (by omega) (by omega)
        obtain ⟨kd2, c2, lo2, hi2, wa2, wn2, wc2, ka2, kn2, kc2, rfl⟩ := hxs.six
        have hbw : bb < w.heap.size := by omega
        have p0 : wr.cell? ⟨bb, ob, none⟩ = some (.int .i64 kd2) := (hbl.cell (p := ⟨bb, ob, none⟩) hbw).trans (hxc 0 _ rfl)
        have p1 : wr.cell? ⟨bb, ob + 1, none⟩ = some (.string (tx c2)) := (hbl.cell (p := ⟨bb, ob + 1, none⟩) hbw).trans (hxc 1 _ rfl)
        have p2 : wr.cell? ⟨bb, ob + 2, none⟩ = some (.int .i64 lo2) := (hbl.cell (p := ⟨bb, ob + 2, none⟩) hbw).trans (hxc 2 _ rfl)
        have p3 : wr.cell? ⟨bb, ob + 3, none⟩ = some (.int .i64 hi2) := (hbl.cell (p := ⟨bb, ob + 3, none⟩) hbw).trans (hxc 3 _ rfl)
        have p4 : wr.cell? ⟨bb, ob + 4, none⟩ = some (.slice wa2 wn2 wc2) := (hbl.cell (p := ⟨bb, ob + 4, none⟩) hbw).trans (hxc 4 _ rfl)
        have p5 : wr.cell? ⟨bb, ob + 5, none⟩ = some (.slice ka2 kn2 kc2) := (hbl.cell (p := ⟨bb, ob + 5, none⟩) hbw).trans (hxc 5 _ rfl)
        obtain ⟨W2, hW2⟩ : ∃ W2, set6 wr w.heap.size (.int .i64 kd2) (.string (tx c2)) (.int .i64 lo2) (.int .i64 hi2) (.slice wa2 wn2 wc2) (.slice ka2 kn2 kc2) = W2 := ⟨_, rfl⟩
        have HX2 : Hid (Bx W2 w.heap.size [.int .i64 kd2, .string (tx c2), .int .i64 lo2, .int .i64 hi2, .slice wa2 wn2 wc2, .slice ka2 kn2 kc2]) := hW2 ▸ set6_bx HX.out _ _ _ _ _ _
        have HB2 : Hid (Below w.heap.size w W2) := hW2 ▸ below_six hbl _ _ _ _ _ _
        have HQ2 : Hid (QI w B x [.int .i64 kd2, .string (tx c2), .int .i64 lo2, .int .i64 hi2, .slice wa2 wn2 wc2, .slice ka2 kn2 kc2]) := hxs
        unfold set6 at hW2
        clear hkids hxc hxs
        go_wp2
        clear hW2
        go_roundw
        case rel => exact ⟨n + 1, x, kd2, c2, lo2, hi2, wa2, wn2, wc2, ka2, kn2, kc2, by go_num, HNX.out, HQ2, HX2, HB2.out⟩
        case measure => simp [intOf]; omega
      have e1 : (kd == 4) = false := by simpa using hk
      have e2 : (kd == 5) = false := by simpa using hk5
      obtain rfl : M = n := by rw [hM']; simp [chnN, hk, hk5]
      clear hS' hM' hkids hTI
      go_wp2
      go_ret
      exact ⟨rfl, hbl⟩
set_option maxHeartbeats 4000000 in
set_option maxRecDepth 100000 in
theorem picks_any (q : Qu) (w : World) (B : Nat) (cs : List Value) (hB : B ≤ w.heap.size) (hI : QI w B q cs) (hS : Say q) (hsz : pikN q ≤ 4611686018427387904) : Calls Tryz.prog 44 #[.agg cs.toArray] w fun e w' => e = .returned (.int .i64 (pikN q : Int)) ∧ Below w.heap.size w w' := by
  have HS : Hid (Say q) := hS
  have HI : Hid (QI w B q cs) := hI
  obtain ⟨kd0, c0, lo0, hi0, wa0, wn0, wc0, ka0, kn0, kc0, rfl⟩ := hI.six
  obtain ⟨W0, hW0⟩ : ∃ W0, w.alloc (.cells #[.int .i64 kd0, .string (tx c0), .int .i64 lo0, .int .i64 hi0, .slice wa0 wn0 wc0, .slice ka0 kn0 kc0] 25) = W0 := ⟨_, rfl⟩
  have HB0 : Hid (Below w.heap.size w W0) := hW0 ▸ ba _ _
  have HX0 : Hid (Bx W0 w.heap.size [.int .i64 kd0, .string (tx c0), .int .i64 lo0, .int .i64 hi0, .slice wa0 wn0 wc0, .slice ka0 kn0 kc0]) := hW0 ▸ Bx.new w [.int .i64 kd0, .string (tx c0), .int .i64 lo0, .int .i64 hi0, .slice wa0 wn0 wc0, .slice ka0 kn0 kc0] 25 rfl
  obtain ⟨M, hM⟩ : ∃ M, pikN q = M := ⟨_, rfl⟩
  have HM : Hid (pikN q = M) := hM
  rw [hM] at hsz ⊢
  clear hI hS hM
  go_enter Tryz.func44, Tryz.ntmps44
  go_wp2
  clear hW0
  go_loopw [3] (fun nv wr => ∃ (n : Nat) (q' : Qu) (kd : Int) (c : By) (lo hi : Int) (wa : Option Addr) (wn wc : Nat) (ka : Option Addr) (kn kc : Nat), nv = .int .i64 (n : Int) ∧ (Say q' ∧ M = n + pikN q') ∧ Hid (QI w B q' [.int .i64 kd, .string (tx c), .int .i64 lo, .int .i64 hi, .slice wa wn wc, .slice ka kn kc]) ∧ Hid (Bx wr w.heap.size [.int .i64 kd, .string (tx c), .int .i64 lo, .int .i64 hi, .slice wa wn wc, .slice ka kn kc]) ∧ Below w.heap.size w wr) (fun nv _ => M - (intOf nv).toNat)
  case atStart => exact ⟨0, q, kd0, c0, lo0, hi0, wa0, wn0, wc0, ka0, kn0, kc0, rfl, ⟨HS.out, by have := HM.out; omega⟩, HI, HX0, HB0.out⟩
  case round =>
    obtain ⟨n, q', kd, c, lo, hi, wa, wn, wc, ka, kn, kc, rfl, ⟨hS', hM'⟩, HQ, HX, hbl⟩ := hrel
    cases q' with
    | none => exact hS'.elim
    | node k2 cc l2 h2 wh nn x y =>
      obtain ⟨wv, kav, kcv, he, hTI, hnk, hn63, -, -, -, -, -, -, hkids⟩ := HQ.out
      simp only [List.cons.injEq, Value.int.injEq, true_and, and_true, Value.slice.injEq] at he
      obtain ⟨rfl, -, -, -, -, rfl, rfl, rfl⟩ := he
      have z0 := (HX.out 0 _ rfl).c
      have z1 := (HX.out 1 _ rfl).c
      have z2 := (HX.out 2 _ rfl).c
      have z3 := (HX.out 3 _ rfl).c
      have z4 := (HX.out 4 _ rfl).c
      have z5 := (HX.out 5 _ rfl).c
      have y0 := (HX.out 0 _ rfl).f
      have y1 := (HX.out 1 _ rfl).f
      have y2 := (HX.out 2 _ rfl).f
      have y3 := (HX.out 3 _ rfl).f
      have y4 := (HX.out 4 _ rfl).f
      have y5 := (HX.out 5 _ rfl).f
      by_cases hk : kd = 9
      · obtain rfl : kd = 9 := hk
        obtain ⟨hkn, hSx⟩ : kn = 1 ∧ Say x := by
          rcases hS' with h | h | h | h | h | h | h | h
          all_goals first | exact ⟨h.2.2.2.2.2.1, h.2.2.2.2.2.2.1⟩ | (exfalso; have := h.1; omega)
        have HNX : Hid (Say x ∧ M = n + 1 + pikN x) := ⟨hSx, by rw [hM']; simp [pikN]; omega⟩
        have hnM : n + 1 ≤ M := by have := HNX.out.2; omega
        subst hkn
        have hk0 : (0 : Int) < 1 := by decide
        clear hS' hM' hTI hSx
        obtain ⟨bb, ob, rfl, hbb, ⟨xs, hxs, hxc⟩, -⟩ := hkids (by omega) (by omega)
        obtain ⟨kd2, c2, lo2, hi2, wa2, wn2, wc2, ka2, kn2, kc2, rfl⟩ := hxs.six
        have hbw : bb < w.heap.size := by omega
        have p0 : wr.cell? ⟨bb, ob, none⟩ = some (.int .i64 kd2) := (hbl.cell (p := ⟨bb, ob, none⟩) hbw).trans (hxc 0 _ rfl)
        have p1 : wr.cell? ⟨bb, ob + 1, none⟩ = some (.string (tx c2)) := (hbl.cell (p := ⟨bb, ob + 1, none⟩) hbw).trans (hxc 1 _ rfl)
        have p2 : wr.cell? ⟨bb, ob + 2, none⟩ = some (.int .i64 lo2) := (hbl.cell (p := ⟨bb, ob + 2, none⟩) hbw).trans (hxc 2 _ rfl)
        have p3 : wr.cell? ⟨bb, ob + 3, none⟩ = some (.int .i64 hi2) := (hbl.cell (p := ⟨bb, ob + 3, none⟩) hbw).trans (hxc 3 _ rfl)
        have p4 : wr.cell? ⟨bb, ob + 4, none⟩ = some (.slice wa2 wn2 wc2) := (hbl.cell (p := ⟨bb, ob + 4, none⟩) hbw).trans (hxc 4 _ rfl)
        have p5 : wr.cell? ⟨bb, ob + 5, none⟩ = some (.slice ka2 kn2 kc2) := (hbl.cell (p := ⟨bb, ob + 5, none⟩) hbw).trans (hxc 5 _ rfl)
        obtain ⟨W2, hW2⟩ : ∃ W2, set6 wr w.heap.size (.int .i64 kd2) (.string (tx c2)) (.int .i64 lo2) (.int .i64 hi2) (.slice wa2 wn2 wc2) (.slice ka2 kn2 kc2) = W2 := ⟨_, rfl⟩
        have HX2 : Hid (Bx W2 w.heap.size [.int .i64 kd2, .string (tx c2), .int .i64 lo2, .int .i64 hi2, .slice wa2 wn2 wc2, .slice ka2 kn2 kc2]) := hW2 ▸ set6_bx HX.out _ _ _ _ _ _
        have HB2 : Hid (Below w.heap.size w W2) := hW2 ▸ below_six hbl _ _ _ _ _ _
        have HQ2 : Hid (QI w B x [.int .i64 kd2, .string (tx c2), .int .i64 lo2, .int .i64 hi2, .slice wa2 wn2 wc2, .slice ka2 kn2 kc2]) := hxs
        unfold set6 at hW2
        clear hkids hxc hxs
        go_wp2
        clear hW2
        go_roundw
        case rel => exact ⟨n + 1, x, kd2, c2, lo2, hi2, wa2, wn2, wc2, ka2, kn2, kc2, by go_num, HNX.out, HQ2, HX2, HB2.out⟩
        case measure => simp [intOf]; omega
      have e1 : (kd == 9) = false := by simpa using hk
      obtain rfl : M = n := by rw [hM']; simp [pikN, hk]
      clear hS' hM' hkids hTI
      go_wp2
      go_ret
      exact ⟨rfl, hbl⟩
end Go.Proofs.YtidfkencjdjkbaaGreatDoor

/-
  PACKAGE speech, Print: what a kind of question may have.
-/
namespace Go.Proofs.YtidfkencjdjkbaaGreatDoor
open Go.RowKit Sp

def ShP (w : World) (r : Option Shp) (e : Ending) (w' : World) : Prop := (match r with | some s => e = .returned (shV s) | none => e = .panicked (chn 2 0)) ∧ Below w.heap.size w w'
set_option maxHeartbeats 4000000 in
set_option maxRecDepth 100000 in
theorem shaped_any (kd : Int) (w : World) (r : Option Shp) (hr : shpT kd = r) : Calls Tryz.prog 32 #[.int .i64 kd] w (ShP w r) := by
  obtain ⟨W0, hW0⟩ : ∃ W0, w.alloc (.cells #[.int .i64 0, .bool false, .int .i64 0, .int .i64 0, .int .i64 0, .int .i64 0] 77) = W0 := ⟨_, rfl⟩
  have hb0 : Below w.heap.size w W0 := hW0 ▸ ba _ _
  have HB0 : Hid (Bx W0 w.heap.size [.int .i64 0, .bool false, .int .i64 0, .int .i64 0, .int .i64 0, .int .i64 0]) := hW0 ▸ Bx.new w [.int .i64 0, .bool false, .int .i64 0, .int .i64 0, .int .i64 0, .int .i64 0] 77 rfl
  have HG0 : Hid (w.grownBy W0 none) := gb_none hb0
  have HBL0 : Hid (Below w.heap.size w W0) := hb0
  have z0 := (HB0.out 0 _ rfl).c
  have z1 := (HB0.out 1 _ rfl).c
  have z2 := (HB0.out 2 _ rfl).c
  have z3 := (HB0.out 3 _ rfl).c
  have z4 := (HB0.out 4 _ rfl).c
  have z5 := (HB0.out 5 _ rfl).c
  have y0 := (HB0.out 0 _ rfl).f
  have y1 := (HB0.out 1 _ rfl).f
  have y2 := (HB0.out 2 _ rfl).f
  have y3 := (HB0.out 3 _ rfl).f
  have y4 := (HB0.out 4 _ rfl).f
  have y5 := (HB0.out 5 _ rfl).f
  clear hb0
  by_cases h1 : kd = 1
  · subst h1
    obtain rfl : some (0, false, 0, 0, 0, 64) = r := by rw [← hr]; rfl
    obtain ⟨W7, hW7⟩ : ∃ W7, set6 W0 w.heap.size (.int .i64 (0)) (.bool false) (.int .i64 (0)) (.int .i64 (0)) (.int .i64 (0)) (.int .i64 (64)) = W7 := ⟨_, rfl⟩
    have HB7 : Hid (Bx W7 w.heap.size [(.int .i64 (0)), (.bool false), (.int .i64 (0)), (.int .i64 (0)), (.int .i64 (0)), (.int .i64 (64))]) := hW7 ▸ set6_bx HB0.out _ _ _ _ _ _
    have HG7 : Hid (w.grownBy W7 none) := hW7 ▸ set6_gb HG0.out (Nat.le_refl _) _ _ _ _ _ _
    clear hr
    unfold set6 at hW7
    go_enter Tryz.func32, Tryz.ntmps32
    go_wp2
    have x0 := (HB7.out 0 _ rfl).c
    have x1 := (HB7.out 1 _ rfl).c
    have x2 := (HB7.out 2 _ rfl).c
    have x3 := (HB7.out 3 _ rfl).c
    have x4 := (HB7.out 4 _ rfl).c
    have x5 := (HB7.out 5 _ rfl).c
    exact bodyPost_ret (v := .agg #[(.int .i64 (0)), (.bool false), (.int .i64 (0)), (.int .i64 (0)), (.int .i64 (0)), (.int .i64 (64))]) (by simp [results, Tryz.results32, go_sem, x0, x1, x2, x3, x4, x5]) rfl ⟨rfl, ⟨HG7.out.os, HG7.out.tape, HG7.out.output, HG7.out.size, fun k hk => HG7.out.block k hk (by simp)⟩⟩
  by_cases h2 : kd = 2
  · subst h2
    obtain rfl : some (0, true, -1048576, 1048576, 1048576, 64) = r := by rw [← hr]; rfl
    obtain ⟨W7, hW7⟩ : ∃ W7, set6 W0 w.heap.size (.int .i64 (0)) (.bool true) (.int .i64 (-1048576)) (.int .i64 (1048576)) (.int .i64 (1048576)) (.int .i64 (64)) = W7 := ⟨_, rfl⟩
    have HB7 : Hid (Bx W7 w.heap.size [(.int .i64 (0)), (.bool true), (.int .i64 (-1048576)), (.int .i64 (1048576)), (.int .i64 (1048576)), (.int .i64 (64))]) := hW7 ▸ set6_bx HB0.out _ _ _ _ _ _
    have HG7 : Hid (w.grownBy W7 none) := hW7 ▸ set6_gb HG0.out (Nat.le_refl _) _ _ _ _ _ _
    clear hr
    unfold set6 at hW7
    go_enter Tryz.func32, Tryz.ntmps32
    go_wp2
    have x0 := (HB7.out 0 _ rfl).c
    have x1 := (HB7.out 1 _ rfl).c
    have x2 := (HB7.out 2 _ rfl).c
    have x3 := (HB7.out 3 _ rfl).c
    have x4 := (HB7.out 4 _ rfl).c
    have x5 := (HB7.out 5 _ rfl).c
    exact bodyPost_ret (v := .agg #[(.int .i64 (0)), (.bool true), (.int .i64 (-1048576)), (.int .i64 (1048576)), (.int .i64 (1048576)), (.int .i64 (64))]) (by simp [results, Tryz.results32, go_sem, x0, x1, x2, x3, x4, x5]) rfl ⟨rfl, ⟨HG7.out.os, HG7.out.tape, HG7.out.output, HG7.out.size, fun k hk => HG7.out.block k hk (by simp)⟩⟩
  by_cases h3 : kd = 3
  · subst h3
    obtain rfl : some (0, true, 0, 0, 0, 64) = r := by rw [← hr]; rfl
    obtain ⟨W7, hW7⟩ : ∃ W7, set6 W0 w.heap.size (.int .i64 (0)) (.bool true) (.int .i64 (0)) (.int .i64 (0)) (.int .i64 (0)) (.int .i64 (64)) = W7 := ⟨_, rfl⟩
    have HB7 : Hid (Bx W7 w.heap.size [(.int .i64 (0)), (.bool true), (.int .i64 (0)), (.int .i64 (0)), (.int .i64 (0)), (.int .i64 (64))]) := hW7 ▸ set6_bx HB0.out _ _ _ _ _ _
    have HG7 : Hid (w.grownBy W7 none) := hW7 ▸ set6_gb HG0.out (Nat.le_refl _) _ _ _ _ _ _
    clear hr
    unfold set6 at hW7
    go_enter Tryz.func32, Tryz.ntmps32
    go_wp2
    have x0 := (HB7.out 0 _ rfl).c
    have x1 := (HB7.out 1 _ rfl).c
    have x2 := (HB7.out 2 _ rfl).c
    have x3 := (HB7.out 3 _ rfl).c
    have x4 := (HB7.out 4 _ rfl).c
    have x5 := (HB7.out 5 _ rfl).c
    exact bodyPost_ret (v := .agg #[(.int .i64 (0)), (.bool true), (.int .i64 (0)), (.int .i64 (0)), (.int .i64 (0)), (.int .i64 (64))]) (by simp [results, Tryz.results32, go_sem, x0, x1, x2, x3, x4, x5]) rfl ⟨rfl, ⟨HG7.out.os, HG7.out.tape, HG7.out.output, HG7.out.size, fun k hk => HG7.out.block k hk (by simp)⟩⟩
  by_cases h4 : kd = 4
  · subst h4
    obtain rfl : some (2, false, 0, 0, 0, 0) = r := by rw [← hr]; rfl
    obtain ⟨W7, hW7⟩ : ∃ W7, set6 W0 w.heap.size (.int .i64 (2)) (.bool false) (.int .i64 (0)) (.int .i64 (0)) (.int .i64 (0)) (.int .i64 (0)) = W7 := ⟨_, rfl⟩
    have HB7 : Hid (Bx W7 w.heap.size [(.int .i64 (2)), (.bool false), (.int .i64 (0)), (.int .i64 (0)), (.int .i64 (0)), (.int .i64 (0))]) := hW7 ▸ set6_bx HB0.out _ _ _ _ _ _
    have HG7 : Hid (w.grownBy W7 none) := hW7 ▸ set6_gb HG0.out (Nat.le_refl _) _ _ _ _ _ _
    clear hr
    unfold set6 at hW7
    go_enter Tryz.func32, Tryz.ntmps32
    go_wp2
    have x0 := (HB7.out 0 _ rfl).c
    have x1 := (HB7.out 1 _ rfl).c
    have x2 := (HB7.out 2 _ rfl).c
    have x3 := (HB7.out 3 _ rfl).c
    have x4 := (HB7.out 4 _ rfl).c
    have x5 := (HB7.out 5 _ rfl).c
    exact bodyPost_ret (v := .agg #[(.int .i64 (2)), (.bool false), (.int .i64 (0)), (.int .i64 (0)), (.int .i64 (0)), (.int .i64 (0))]) (by simp [results, Tryz.results32, go_sem, x0, x1, x2, x3, x4, x5]) rfl ⟨rfl, ⟨HG7.out.os, HG7.out.tape, HG7.out.output, HG7.out.size, fun k hk => HG7.out.block k hk (by simp)⟩⟩
  by_cases h5 : kd = 5
  · subst h5
    obtain rfl : some (2, false, 0, 0, 0, 0) = r := by rw [← hr]; rfl
    obtain ⟨W7, hW7⟩ : ∃ W7, set6 W0 w.heap.size (.int .i64 (2)) (.bool false) (.int .i64 (0)) (.int .i64 (0)) (.int .i64 (0)) (.int .i64 (0)) = W7 := ⟨_, rfl⟩
    have HB7 : Hid (Bx W7 w.heap.size [(.int .i64 (2)), (.bool false), (.int .i64 (0)), (.int .i64 (0)), (.int .i64 (0)), (.int .i64 (0))]) := hW7 ▸ set6_bx HB0.out _ _ _ _ _ _
    have HG7 : Hid (w.grownBy W7 none) := hW7 ▸ set6_gb HG0.out (Nat.le_refl _) _ _ _ _ _ _
    clear hr
    unfold set6 at hW7
    go_enter Tryz.func32, Tryz.ntmps32
    go_wp2
    have x0 := (HB7.out 0 _ rfl).c
    have x1 := (HB7.out 1 _ rfl).c
    have x2 := (HB7.out 2 _ rfl).c
    have x3 := (HB7.out 3 _ rfl).c
    have x4 := (HB7.out 4 _ rfl).c
    have x5 := (HB7.out 5 _ rfl).c
    exact bodyPost_ret (v := .agg #[(.int .i64 (2)), (.bool false), (.int .i64 (0)), (.int .i64 (0)), (.int .i64 (0)), (.int .i64 (0))]) (by simp [results, Tryz.results32, go_sem, x0, x1, x2, x3, x4, x5]) rfl ⟨rfl, ⟨HG7.out.os, HG7.out.tape, HG7.out.output, HG7.out.size, fun k hk => HG7.out.block k hk (by simp)⟩⟩
  by_cases h7 : kd = 7
  · subst h7
    obtain rfl : some (2, false, 0, 0, 0, 0) = r := by rw [← hr]; rfl
    obtain ⟨W7, hW7⟩ : ∃ W7, set6 W0 w.heap.size (.int .i64 (2)) (.bool false) (.int .i64 (0)) (.int .i64 (0)) (.int .i64 (0)) (.int .i64 (0)) = W7 := ⟨_, rfl⟩
    have HB7 : Hid (Bx W7 w.heap.size [(.int .i64 (2)), (.bool false), (.int .i64 (0)), (.int .i64 (0)), (.int .i64 (0)), (.int .i64 (0))]) := hW7 ▸ set6_bx HB0.out _ _ _ _ _ _
    have HG7 : Hid (w.grownBy W7 none) := hW7 ▸ set6_gb HG0.out (Nat.le_refl _) _ _ _ _ _ _
    clear hr
    unfold set6 at hW7
    go_enter Tryz.func32, Tryz.ntmps32
    go_wp2
    have x0 := (HB7.out 0 _ rfl).c
    have x1 := (HB7.out 1 _ rfl).c
    have x2 := (HB7.out 2 _ rfl).c
    have x3 := (HB7.out 3 _ rfl).c
    have x4 := (HB7.out 4 _ rfl).c
    have x5 := (HB7.out 5 _ rfl).c
    exact bodyPost_ret (v := .agg #[(.int .i64 (2)), (.bool false), (.int .i64 (0)), (.int .i64 (0)), (.int .i64 (0)), (.int .i64 (0))]) (by simp [results, Tryz.results32, go_sem, x0, x1, x2, x3, x4, x5]) rfl ⟨rfl, ⟨HG7.out.os, HG7.out.tape, HG7.out.output, HG7.out.size, fun k hk => HG7.out.block k hk (by simp)⟩⟩
  by_cases h6 : kd = 6
  · subst h6
    obtain rfl : some (1, false, -1048576, 1048576, 0, 0) = r := by rw [← hr]; rfl
    obtain ⟨W7, hW7⟩ : ∃ W7, set6 W0 w.heap.size (.int .i64 (1)) (.bool false) (.int .i64 (-1048576)) (.int .i64 (1048576)) (.int .i64 (0)) (.int .i64 (0)) = W7 := ⟨_, rfl⟩
    have HB7 : Hid (Bx W7 w.heap.size [(.int .i64 (1)), (.bool false), (.int .i64 (-1048576)), (.int .i64 (1048576)), (.int .i64 (0)), (.int .i64 (0))]) := hW7 ▸ set6_bx HB0.out _ _ _ _ _ _
    have HG7 : Hid (w.grownBy W7 none) := hW7 ▸ set6_gb HG0.out (Nat.le_refl _) _ _ _ _ _ _
    clear hr
    unfold set6 at hW7
    go_enter Tryz.func32, Tryz.ntmps32
    go_wp2
    have x0 := (HB7.out 0 _ rfl).c
    have x1 := (HB7.out 1 _ rfl).c
    have x2 := (HB7.out 2 _ rfl).c
    have x3 := (HB7.out 3 _ rfl).c
    have x4 := (HB7.out 4 _ rfl).c
    have x5 := (HB7.out 5 _ rfl).c
    exact bodyPost_ret (v := .agg #[(.int .i64 (1)), (.bool false), (.int .i64 (-1048576)), (.int .i64 (1048576)), (.int .i64 (0)), (.int .i64 (0))]) (by simp [results, Tryz.results32, go_sem, x0, x1, x2, x3, x4, x5]) rfl ⟨rfl, ⟨HG7.out.os, HG7.out.tape, HG7.out.output, HG7.out.size, fun k hk => HG7.out.block k hk (by simp)⟩⟩
  by_cases h8 : kd = 8
  · subst h8
    obtain rfl : some (1, false, 0, 0, 0, 0) = r := by rw [← hr]; rfl
    obtain ⟨W7, hW7⟩ : ∃ W7, set6 W0 w.heap.size (.int .i64 (1)) (.bool false) (.int .i64 (0)) (.int .i64 (0)) (.int .i64 (0)) (.int .i64 (0)) = W7 := ⟨_, rfl⟩
    have HB7 : Hid (Bx W7 w.heap.size [(.int .i64 (1)), (.bool false), (.int .i64 (0)), (.int .i64 (0)), (.int .i64 (0)), (.int .i64 (0))]) := hW7 ▸ set6_bx HB0.out _ _ _ _ _ _
    have HG7 : Hid (w.grownBy W7 none) := hW7 ▸ set6_gb HG0.out (Nat.le_refl _) _ _ _ _ _ _
    clear hr
    unfold set6 at hW7
    go_enter Tryz.func32, Tryz.ntmps32
    go_wp2
    have x0 := (HB7.out 0 _ rfl).c
    have x1 := (HB7.out 1 _ rfl).c
    have x2 := (HB7.out 2 _ rfl).c
    have x3 := (HB7.out 3 _ rfl).c
    have x4 := (HB7.out 4 _ rfl).c
    have x5 := (HB7.out 5 _ rfl).c
    exact bodyPost_ret (v := .agg #[(.int .i64 (1)), (.bool false), (.int .i64 (0)), (.int .i64 (0)), (.int .i64 (0)), (.int .i64 (0))]) (by simp [results, Tryz.results32, go_sem, x0, x1, x2, x3, x4, x5]) rfl ⟨rfl, ⟨HG7.out.os, HG7.out.tape, HG7.out.output, HG7.out.size, fun k hk => HG7.out.block k hk (by simp)⟩⟩
  by_cases h9 : kd = 9
  · subst h9
    obtain rfl : some (1, false, 0, 1048576, 0, 0) = r := by rw [← hr]; rfl
    obtain ⟨W7, hW7⟩ : ∃ W7, set6 W0 w.heap.size (.int .i64 (1)) (.bool false) (.int .i64 (0)) (.int .i64 (1048576)) (.int .i64 (0)) (.int .i64 (0)) = W7 := ⟨_, rfl⟩
    have HB7 : Hid (Bx W7 w.heap.size [(.int .i64 (1)), (.bool false), (.int .i64 (0)), (.int .i64 (1048576)), (.int .i64 (0)), (.int .i64 (0))]) := hW7 ▸ set6_bx HB0.out _ _ _ _ _ _
    have HG7 : Hid (w.grownBy W7 none) := hW7 ▸ set6_gb HG0.out (Nat.le_refl _) _ _ _ _ _ _
    clear hr
    unfold set6 at hW7
    go_enter Tryz.func32, Tryz.ntmps32
    go_wp2
    have x0 := (HB7.out 0 _ rfl).c
    have x1 := (HB7.out 1 _ rfl).c
    have x2 := (HB7.out 2 _ rfl).c
    have x3 := (HB7.out 3 _ rfl).c
    have x4 := (HB7.out 4 _ rfl).c
    have x5 := (HB7.out 5 _ rfl).c
    exact bodyPost_ret (v := .agg #[(.int .i64 (1)), (.bool false), (.int .i64 (0)), (.int .i64 (1048576)), (.int .i64 (0)), (.int .i64 (0))]) (by simp [results, Tryz.results32, go_sem, x0, x1, x2, x3, x4, x5]) rfl ⟨rfl, ⟨HG7.out.os, HG7.out.tape, HG7.out.output, HG7.out.size, fun k hk => HG7.out.block k hk (by simp)⟩⟩
  by_cases h10 : kd = 10
  · subst h10
    obtain rfl : some (1, false, -1048576, 1048576, 1048576, 0) = r := by rw [← hr]; rfl
    obtain ⟨W7, hW7⟩ : ∃ W7, set6 W0 w.heap.size (.int .i64 (1)) (.bool false) (.int .i64 (-1048576)) (.int .i64 (1048576)) (.int .i64 (1048576)) (.int .i64 (0)) = W7 := ⟨_, rfl⟩
    have HB7 : Hid (Bx W7 w.heap.size [(.int .i64 (1)), (.bool false), (.int .i64 (-1048576)), (.int .i64 (1048576)), (.int .i64 (1048576)), (.int .i64 (0))]) := hW7 ▸ set6_bx HB0.out _ _ _ _ _ _
    have HG7 : Hid (w.grownBy W7 none) := hW7 ▸ set6_gb HG0.out (Nat.le_refl _) _ _ _ _ _ _
    clear hr
    unfold set6 at hW7
    go_enter Tryz.func32, Tryz.ntmps32
    go_wp2
    have x0 := (HB7.out 0 _ rfl).c
    have x1 := (HB7.out 1 _ rfl).c
    have x2 := (HB7.out 2 _ rfl).c
    have x3 := (HB7.out 3 _ rfl).c
    have x4 := (HB7.out 4 _ rfl).c
    have x5 := (HB7.out 5 _ rfl).c
    exact bodyPost_ret (v := .agg #[(.int .i64 (1)), (.bool false), (.int .i64 (-1048576)), (.int .i64 (1048576)), (.int .i64 (1048576)), (.int .i64 (0))]) (by simp [results, Tryz.results32, go_sem, x0, x1, x2, x3, x4, x5]) rfl ⟨rfl, ⟨HG7.out.os, HG7.out.tape, HG7.out.output, HG7.out.size, fun k hk => HG7.out.block k hk (by simp)⟩⟩
  obtain rfl : none = r := by rw [← hr]; simp [shpT, h1, h2, h3, h4, h5, h7, h6, h8, h9, h10]
  have e1 : (kd == 1) = false := by simpa using h1
  have e2 : (kd == 2) = false := by simpa using h2
  have e3 : (kd == 3) = false := by simpa using h3
  have e4 : (kd == 4) = false := by simpa using h4
  have e5 : (kd == 5) = false := by simpa using h5
  have e7 : (kd == 7) = false := by simpa using h7
  have e6 : (kd == 6) = false := by simpa using h6
  have e8 : (kd == 8) = false := by simpa using h8
  have e9 : (kd == 9) = false := by simpa using h9
  have e10 : (kd == 10) = false := by simpa using h10
  clear hr
  go_enter Tryz.func32, Tryz.ntmps32
  go_wp2
  exact ⟨rfl, rfl, HBL0.out⟩
end Go.Proofs.YtidfkencjdjkbaaGreatDoor
