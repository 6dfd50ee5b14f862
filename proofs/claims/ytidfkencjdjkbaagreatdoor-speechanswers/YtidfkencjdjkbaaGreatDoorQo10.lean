import Derived.Test.YtidfkencjdjkbaaGreatDoorQo09
/-
  PACKAGE speech: spans, tests.
-/
namespace Go.Proofs.YtidfkencjdjkbaaGreatDoor
open Go.RowKit Sp

theorem Bx.gb {w w' : World} {R b : Nat} {cs : List Value} (h : Bx w b cs) (hg : w.grownBy w' (some R)) (hn : b ≠ R) : Bx w' b cs := fun k v hk => gb_cell (h k v hk) hg hn
abbrev VP : World → Int × Int → Value → Prop := fun _ p v => v = .tuple #[.int .i64 p.1, .int .i64 p.2]
set_option maxHeartbeats 1000000 in
theorem span_any {w : World} {R b P0 : Nat} {ps : List Pc} {m : Value} (h : Rdr w R P0 ps m) (hX : Cx w R b) (r : PR (Int × Int)) (hr : spnP ps = r) : Calls Tryz.prog 115 #[ptR R] w (RdP w R P0 m VP r) := by
  obtain ⟨r1, hr1⟩ : ∃ r1, sgnP ps = r1 := ⟨_, rfl⟩
  have k1 := signed_any h hX r1 hr1
  unfold spnP at hr
  rw [hr1] at hr
  have HRR : Hid _ := hr
  have HX : Hid (Cx w R b) := hX
  clear h hX hr hr1
  go_enter Tryz.func115, Tryz.ntmps115
  go_wp2_with fail
  refine k1.mono ?_
  rintro e w1 ⟨he, hg1⟩
  have HG1 : Hid (w.grownBy w1 (some R)) := hg1
  clear k1 hg1
  cases r1 with
  | error x =>
    obtain ⟨c, a⟩ := x
    obtain rfl : .error (c, a) = r := HRR.out
    obtain rfl : e = .panicked (chn c a) := he
    go_wp2
    exact ⟨rfl, rfl, HG1.out⟩
  | ok x =>
    obtain ⟨a1, q1⟩ := x
    obtain ⟨⟨v, rfl, rfl⟩, h1⟩ := he
    by_cases c1 : hd q1 = sDots
    · have k2 := take_yes h1 sDots (by decide) c1
      have HT : Hid (tk sDots q1 = .ok ((), q1.tail)) := by rw [Hid, tk, if_pos c1]
      clear h1 c1
      go_wp2_with fail
      refine k2.mono ?_
      rintro e w2 ⟨rfl, h2, hg2⟩
      have HG2 : Hid (w.grownBy w2 (some R)) := gb_trans HG1.out hg2
      clear k2 hg2
      obtain ⟨r3, hr3⟩ : ∃ r3, sgnP q1.tail = r3 := ⟨_, rfl⟩
      have k3 := signed_any h2 (HX.out.gb HG2.out) r3 hr3
      have hq := HRR.out
      simp only [HT.out, hr3] at hq
      have HRR2 : Hid _ := hq
      clear hq
      clear h2 hr3
      go_wp2_with fail
      refine k3.mono ?_
      rintro e w3 ⟨he, hg3⟩
      have HG3 : Hid (w.grownBy w3 (some R)) := gb_trans HG2.out hg3
      clear k3 hg3
      cases r3 with
      | error x =>
        obtain ⟨c, a⟩ := x
        obtain rfl : .error (c, a) = r := HRR2.out
        obtain rfl : e = .panicked (chn c a) := he
        go_wp2
        exact ⟨rfl, rfl, HG3.out⟩
      | ok x =>
        obtain ⟨a3, q3⟩ := x
        obtain ⟨⟨v, rfl, rfl⟩, h3⟩ := he
        obtain rfl : .ok ((a1, a3), q3) = r := HRR2.out
        go_wp2
        exact bodyPost_ret (v := .tuple #[.int .i64 a1, .int .i64 a3]) (by simp [results, Tryz.results115, go_sem]) rfl ⟨⟨⟨_, rfl, rfl⟩, h3⟩, HG3.out⟩
    · have k2 := take_no h1 sDots c1
      have HT : Hid (tk sDots q1 = .error (2, hat q1)) := by rw [Hid, tk, if_neg c1]
      obtain rfl : .error (2, hat q1) = r := by have := HRR.out; simp only [HT.out] at this; exact this
      clear h1 c1
      go_wp2_with fail
      refine k2.mono ?_
      rintro e w2 ⟨rfl, rfl⟩
      go_wp2
      exact ⟨rfl, rfl, HG1.out⟩
abbrev tsA (t : Tst) : Value := .agg #[.string (tx t.1), .int .i64 t.2.1, .int .i64 t.2.2]
abbrev VT : World → Tst → Value → Prop := fun _ t v => v = tsA t
theorem dng_ne {x : By} (h : dng x ≠ 0) : x ≠ [] := by rintro rfl; exact h (by decide)
set_option maxHeartbeats 1000000 in
theorem test_any {w : World} {R b P0 : Nat} {ps : List Pc} (h : Rdr w R P0 ps (.map (some b))) (hX : Cx w R b) (r : PR Tst) (hr : tstP ps = r) : Calls Tryz.prog 129 #[ptR R] w (RdP w R P0 (.map (some b)) VT r) := by
  obtain ⟨W0, hW0⟩ : ∃ W0, w.alloc (.cells #[.string ⟨#[]⟩, .int .i64 0, .int .i64 0] 81) = W0 := ⟨_, rfl⟩
  have hb0 : Below w.heap.size w W0 := hW0 ▸ ba _ _
  have HBX : Hid (Bx W0 w.heap.size [.string ⟨#[]⟩, .int .i64 0, .int .i64 0]) := hW0 ▸ Bx.new w [.string ⟨#[]⟩, .int .i64 0, .int .i64 0] 81 rfl
  have HG0 : Hid (w.grownBy W0 (some R)) := gb_below hb0
  have hRl : w.heap.size ≠ R := by have := h.pl; omega
  have hPl : w.heap.size ≠ P0 := by have := h.pl; omega
  obtain ⟨r1, hr1⟩ : ∃ r1, nmP ps = r1 := ⟨_, rfl⟩
  have k1 := rname_any (h.at hb0) (hX.at hb0) r1 hr1
  unfold tstP at hr
  rw [hr1] at hr
  have HRR : Hid _ := hr
  have HX : Hid (Cx w R b) := hX
  clear h hX hr hr1 hb0
  go_enter Tryz.func129, Tryz.ntmps129
  go_wp2_with fail
  clear hW0
  refine k1.mono ?_
  rintro e w1 ⟨he, hg1⟩
  have HG1 : Hid (w.grownBy w1 (some R)) := gb_trans HG0.out hg1
  have HB1 : Hid (Bx w1 w.heap.size [.string ⟨#[]⟩, .int .i64 0, .int .i64 0]) := HBX.out.gb hg1 hRl
  clear k1 hg1 HBX
  cases r1 with
  | error x =>
    obtain ⟨c, a⟩ := x
    obtain rfl : .error (c, a) = r := HRR.out
    obtain rfl : e = .panicked (chn c a) := he
    go_wp2
    exact ⟨rfl, rfl, HG1.out⟩
  | ok x =>
    obtain ⟨a1, q1⟩ := x
    obtain ⟨⟨v, rfl, rfl⟩, h1⟩ := he
    have k2 := next_any h1 _ rfl
    have k3 := doing_any (HX.out.gb HG1.out).g (hd q1)
    go_wp2_with fail
    refine k2.mono ?_
    rintro e w2 ⟨rfl, rfl⟩
    go_wp2_with fail
    refine k3.mono ?_
    rintro e w3 ⟨rfl, rfl⟩
    clear k2 k3
    by_cases c1 : dng (hd q1) = 0
    · obtain rfl : .error (2, hat q1) = r := by have := HRR.out; simp only [if_pos c1] at this; exact this
      have k4 := pmust_no h1 2
      have c2 : decide (0 < dng (hd q1)) = false := by simp [c1]
      have c3 : ¬ (0 : Int) < (dng (hd q1) : Int) := by omega
      go_wp2_with fail
      refine k4.mono ?_
      rintro e w4 ⟨rfl, rfl⟩
      go_wp2
      exact ⟨rfl, rfl, HG1.out⟩
    · have k4 := pmust_ok h1 2
      obtain ⟨dn, hdn⟩ : ∃ dn, dng (hd q1) = dn := ⟨_, rfl⟩
      have hq := HRR.out
      simp only [if_neg c1] at hq
      rw [hdn] at hq
      have HRR2 : Hid _ := hq
      clear hq
      have HNE : Hid (hd q1 ≠ []) := dng_ne c1
      rw [hdn] at c1
      have c2 : 0 < dn := by omega
      have c3 : (0 : Int) < (dn : Int) := by omega
      have c4 : decide (0 < dn) = true := by simpa using c2
      have H1 : Hid (Rdr w3 R P0 q1 (.map (some b))) := h1
      simp only [hdn]
      clear hdn c1 h1
      go_wp2_with fail
      refine k4.mono ?_
      rintro e w4 ⟨rfl, rfl⟩
      clear k4
      have k5 := step_any H1.out HNE.out
      go_wp2_with fail
      refine k5.mono ?_
      rintro e w5 ⟨rfl, h5, hg5⟩
      have HG5 : Hid (w.grownBy w5 (some R)) := gb_trans HG1.out hg5
      have HB5 : Hid (Bx w5 w.heap.size [.string ⟨#[]⟩, .int .i64 0, .int .i64 0]) := HB1.out.gb hg5 hRl
      obtain ⟨r6, hr6⟩ : ∃ r6, sgnP q1.tail = r6 := ⟨_, rfl⟩
      have k6 := signed_any h5 (HX.out.gb HG5.out) r6 hr6
      have hq := HRR2.out
      rw [hr6] at hq
      have HRR3 : Hid _ := hq
      clear hq
      clear k5 hg5 h5 hr6 HB1
      go_wp2_with fail
      refine k6.mono ?_
      rintro e w6 ⟨he, hg6⟩
      have HG6 : Hid (w.grownBy w6 (some R)) := gb_trans HG5.out hg6
      have HB6 : Hid (Bx w6 w.heap.size [.string ⟨#[]⟩, .int .i64 0, .int .i64 0]) := HB5.out.gb hg6 hRl
      clear k6 hg6 HB5
      cases r6 with
      | error x =>
        obtain ⟨c, a⟩ := x
        obtain rfl : .error (c, a) = r := HRR3.out
        obtain rfl : e = .panicked (chn c a) := he
        go_wp2
        exact ⟨rfl, rfl, HG6.out⟩
      | ok x =>
        obtain ⟨a6, q6⟩ := x
        obtain ⟨⟨v, rfl, rfl⟩, h6⟩ := he
        obtain rfl : .ok ((a1, (dn : Int), a6), q6) = r := HRR3.out
        have z0 := (HB6.out 0 _ rfl).c
        have z1 := (HB6.out 1 _ rfl).c
        have z2 := (HB6.out 2 _ rfl).c
        have y0 := (HB6.out 0 _ rfl).f
        have y1 := (HB6.out 1 _ rfl).f
        have y2 := (HB6.out 2 _ rfl).f
        have H6 : Hid (Rdr w6 R P0 q6 (.map (some b))) := h6
        obtain ⟨W7, hW7⟩ : ∃ W7, ((w6.setCell ⟨w.heap.size, 0, none⟩ (.string (tx a1))).setCell ⟨w.heap.size, 1, none⟩ (.int .i64 (dn : Int))).setCell ⟨w.heap.size, 2, none⟩ (.int .i64 a6) = W7 := ⟨_, rfl⟩
        have HB7 : Hid (Bx W7 w.heap.size [.string (tx a1), .int .i64 (dn : Int), .int .i64 a6]) := hW7 ▸ ((HB6.out.set (i := 0) (by simp) _).set (i := 1) (by simp) _).set (i := 2) (by simp) _
        have HR7 : Hid (Rdr W7 R P0 q6 (.map (some b))) := hW7 ▸ ((H6.out.put hRl hPl 0 _).put hRl hPl 1 _).put hRl hPl 2 _
        have HG7 : Hid (w.grownBy W7 (some R)) := hW7 ▸ gb_new (gb_new (gb_new HG6.out (p := ⟨w.heap.size, 0, none⟩) (Nat.le_refl _) _) (p := ⟨w.heap.size, 1, none⟩) (Nat.le_refl _) _) (p := ⟨w.heap.size, 2, none⟩) (Nat.le_refl _) _
        clear h6
        go_wp2
        have x0 := (HB7.out 0 _ rfl).c
        have x1 := (HB7.out 1 _ rfl).c
        have x2 := (HB7.out 2 _ rfl).c
        exact bodyPost_ret (v := tsA (a1, (dn : Int), a6)) (by simp [results, Tryz.results129, go_sem, x0, x1, x2]) rfl ⟨⟨⟨_, rfl, rfl⟩, HR7.out⟩, HG7.out⟩
end Go.Proofs.YtidfkencjdjkbaaGreatDoor

/-
  PACKAGE speech: the tests of a question.
-/
namespace Go.Proofs.YtidfkencjdjkbaaGreatDoor
open Go.RowKit Sp

def ts3 (l : List Tst) : List Value := l.flatMap fun t => [.string (tx t.1), .int .i64 t.2.1, .int .i64 t.2.2]
theorem ts3_snoc (l : List Tst) (t : Tst) : ts3 (l ++ [t]) = ts3 l ++ [.string (tx t.1), .int .i64 t.2.1, .int .i64 t.2.2] := by simp [ts3]
theorem ts3_at : ∀ (l : List Tst) (i : Nat) (t : Tst) (j : Nat) (u : Value), l[i]? = some t → ([.string (tx t.1), .int .i64 t.2.1, .int .i64 t.2.2] : List Value)[j]? = some u → (ts3 l)[i * 3 + j]? = some u
  | [], i, t, j, u, h, _ => by simp at h
  | s :: l, 0, t, j, u, h, hj => by
    simp only [List.getElem?_cons_zero, Option.some.injEq] at h
    subst h
    have hlt := (List.getElem?_eq_some_iff.1 hj).1
    simp at hlt
    simp only [ts3, List.flatMap_cons, Nat.zero_mul, Nat.zero_add]
    rw [List.getElem?_append_left (by simp; omega)]
    exact hj
  | s :: l, i + 1, t, j, u, h, hj => by
    simp only [List.getElem?_cons_succ] at h
    have ih := ts3_at l i t j u h hj
    simp only [ts3, List.flatMap_cons] at ih ⊢
    rw [List.getElem?_append_right (by simp; omega)]
    simp only [List.length_cons, List.length_nil]
    rw [show (i + 1) * 3 + j - (0 + 1 + 1 + 1) = i * 3 + j by omega]
    exact ih
/-- what lies from block lo on stays as it is -/
def Kp (lo : Nat) (w w' : World) : Prop := w.heap.size ≤ w'.heap.size ∧ ∀ g, lo ≤ g → g < w.heap.size → w'.heap[g]? = w.heap[g]?
theorem Kp.gb {lo R : Nat} {w w' : World} (hg : w.grownBy w' (some R)) (hR : R < lo) : Kp lo w w' := ⟨hg.size, fun g h1 h2 => hg.block g h2 (by simp; omega)⟩
theorem Kp.bl {lo : Nat} {w w' : World} (hb : Below w.heap.size w w') : Kp lo w w' := ⟨hb.size, fun g _ h2 => hb.block g h2⟩
theorem Kp.trans {lo : Nat} {a b c : World} (h : Kp lo a b) (k : Kp lo b c) : Kp lo a c := ⟨Nat.le_trans h.1 k.1, fun g h1 h2 => (k.2 g h1 (Nat.lt_of_lt_of_le h2 h.1)).trans (h.2 g h1 h2)⟩
theorem Kp.put {lo b : Nat} {w : World} (hb : b < lo) (k : Nat) (u : Value) : Kp lo w (w.setCell ⟨b, k, none⟩ u) := ⟨by simp [World.setCell], fun g h1 _ => Below.heap_setCell _ _ _ _ (by dsimp only; omega)⟩
theorem Kp.cell {lo g k : Nat} {w w' : World} (h : Kp lo w w') (h1 : lo ≤ g) (h2 : g < w.heap.size) : w'.cell? ⟨g, k, none⟩ = w.cell? ⟨g, k, none⟩ := World.cell?_of_block (w := w) (a := ⟨g, k, none⟩) (h.2 g h1 h2)
/-- tests in memory, from block lo on -/
def TsV (lo : Nat) (w : World) (l : List Tst) (v : Value) : Prop :=
  (l = [] ∧ v = .slice none 0 0) ∨ ∃ g c, v = .slice (some ⟨g, 0, none⟩) l.length c ∧ l.length ≤ c ∧ l.length ≤ 64 ∧ g < w.heap.size ∧ lo ≤ g ∧ ∀ (i : Nat) t, l[i]? = some t → ∀ (j : Nat) u, ([.string (tx t.1), .int .i64 t.2.1, .int .i64 t.2.2] : List Value)[j]? = some u → w.cell? ⟨g, i * 3 + j, none⟩ = some u
theorem TsV.kp {w w' : World} {lo : Nat} {l : List Tst} {v : Value} (h : TsV lo w l v) (hk : Kp lo w w') : TsV lo w' l v := by
  rcases h with h | ⟨g, c, h1, h2, h3, h4, h5, h6⟩
  · exact .inl h
  · exact .inr ⟨g, c, h1, h2, h3, Nat.lt_of_lt_of_le h4 hk.1, h5, fun i t ht j u hu => (hk.cell h5 h4).trans (h6 i t ht j u hu)⟩
theorem TsV.mono {w : World} {lo lo' : Nat} {l : List Tst} {v : Value} (h : TsV lo w l v) (hl : lo' ≤ lo) : TsV lo' w l v := by
  rcases h with h | ⟨g, c, h1, h2, h3, h4, h5, h6⟩
  · exact .inl h
  · exact .inr ⟨g, c, h1, h2, h3, h4, by omega, h6⟩
theorem TsV.one {w : World} {lo : Nat} {l : List Tst} {v : Value} (h : TsV lo w l v) : ∃ a n c, v = .slice a n c := by
  rcases h with ⟨_, h⟩ | ⟨g, c, h, _⟩
  · exact ⟨_, _, _, h⟩
  · exact ⟨_, _, _, h⟩
theorem infot61 : (Tryz.prog.info? 81).map (fun i => (i.zero, i.size, i.bytes)) = some (some (.agg #[.string ⟨#[]⟩, .int .i64 0, .int .i64 0]), 3, 32) := by kernel_rfl
theorem three_cells (w : World) (a b c : Value) (t : TypeId) (N : Nat) (hN : N = w.heap.size) : ∀ j u, [a, b, c][j]? = some u → (w.alloc (.cells #[a, b, c] t)).cell? ((⟨N, 0, none⟩ : Addr).add j) = some u := by
  intro j u hj
  have e : (⟨N, 0, none⟩ : Addr).add j = ⟨N, j, none⟩ := by unfold Addr.add; split <;> simp_all
  rw [e]
  exact nc _ _ j _ hN (by simpa using hj)
theorem Rdr.bl {w w' : World} {R P0 B : Nat} {ps : List Pc} {m : Value} (h : Rdr w R P0 ps m) (hb : Below B w w') (hR : R < B) (hP : P0 < B) : Rdr w' R P0 ps m := by
  obtain ⟨v, hc, o, c, rfl, h2, h3, h4, h5, h6⟩ := h.c
  have hcl : ∀ (k : Nat) (u : Value), Cl w R k u → Cl w' R k u := fun k u hu => ⟨(hb.cell (p := ⟨R, k, none⟩) hR).trans hu.c, (hb.frozen (p := ⟨R, k, none⟩) hR).trans hu.f, Nat.lt_of_lt_of_le hu.lt hb.size⟩
  refine ⟨⟨_, hcl 0 _ hc, o, c, rfl, h2, h3, Nat.lt_of_lt_of_le h4 hb.size, h5, fun i p hp => ?_⟩, hcl 1 _ h.m, h.f, h.d⟩
  obtain ⟨q1, q2, q3⟩ := h6 i p hp
  exact ⟨(hb.cell (p := ⟨P0, o + i * 2, none⟩) hP).trans q1, (hb.cell (p := ⟨P0, o + i * 2 + 1, none⟩) hP).trans q2, q3⟩
theorem gb_bl {a b c : World} {r : Option Nat} (h : a.grownBy b r) (hb : Below a.heap.size b c) : a.grownBy c r :=
  ⟨hb.os.trans h.os, hb.tape.trans h.tape, hb.output.trans h.output, Nat.le_trans h.size hb.size, fun k hk hr => (hb.block k hk).trans (h.block k hk hr)⟩
def slN : Value → Nat
  | .slice _ n _ => n
  | _ => 0
theorem row_ts {w : World} {base : Nat} {a : Option Addr} {n c : Nat} {l : List Tst} (h : w.ownsRow base 81 3 (.slice a n c) n (ts3 l)) (hn : n = l.length) (hne : l ≠ []) (h64 : l.length ≤ 64) : TsV base w l (.slice a n c) := by
  subst hn
  have hlen : 0 < l.length := List.length_pos_iff.2 hne
  rcases h.2 with ⟨h1, _⟩ | ⟨g, cap, cur, hv, hb, hc, h1, h2, h3, h4⟩
  · simp only [Value.slice.injEq] at h1
    omega
  · simp only [Value.slice.injEq] at hv
    obtain ⟨rfl, -, rfl⟩ := hv
    have hlt := (row_lt h (g := g) rfl).2
    refine .inr ⟨g, c, rfl, by omega, h64, hlt, hb, fun i t ht j u hu => ?_⟩
    obtain ⟨g', hg', _, _, hcell⟩ := row_cell h (ts3_at l i t j u ht hu)
    simp only [Option.some.injEq, Addr.mk.injEq] at hg'
    obtain ⟨rfl, -⟩ := hg'
    exact hcell
set_option maxHeartbeats 2000000 in
theorem tests_any {w : World} {R b P0 : Nat} {ps : List Pc} (h : Rdr w R P0 ps (.map (some b))) (hX : Cx w R b) (r : PR (List Tst)) (hr : whrP ps = r) : Calls Tryz.prog 113 #[ptR R] w (RdP w R P0 (.map (some b)) (TsV w.heap.size) r) := by
  have hpl := h.pl
  unfold whrP at hr
  by_cases h1 : hd ps = wWhere
  · rw [if_pos h1] at hr
    have k1 := has_yes h wWhere (by decide) h1
    have HX : Hid (Cx w R b) := hX
    obtain ⟨r1, hr1⟩ : ∃ r1, tstP ps.tail = r1 := ⟨_, rfl⟩
    rw [hr1] at hr
    have HRR : Hid _ := hr
    have HT1 : Hid (tstP ps.tail = r1) := hr1
    obtain ⟨i0, hi0, hz0, hz1, hz2⟩ := info_parts infot61
    clear h h1 hX hr hr1
    go_enter Tryz.func113, Tryz.ntmps113
    go_wp2_with fail
    refine k1.mono ?_
    rintro e w1 ⟨rfl, h1, hg1⟩
    have HG1 : Hid (w.grownBy w1 (some R)) := hg1
    have k2 := test_any h1 (HX.out.gb hg1) r1 HT1.out
    clear k1 hg1 h1 HT1
    go_wp2_with fail
    refine k2.mono ?_
    rintro e w2 ⟨he, hg2⟩
    have HG2 : Hid (w.grownBy w2 (some R)) := gb_trans HG1.out hg2
    clear k2 hg2
    cases r1 with
    | error x =>
      obtain ⟨c, a⟩ := x
      obtain rfl : .error (c, a) = r := HRR.out
      obtain rfl : e = .panicked (chn c a) := he
      go_wp2
      exact ⟨rfl, rfl, HG2.out⟩
    | ok x =>
      obtain ⟨t1, q1⟩ := x
      obtain ⟨⟨v, rfl, rfl⟩, h2⟩ := he
      have HRR2 : Hid (andL 63 [t1] q1 = r) := HRR.out
      obtain ⟨W3, hW3⟩ : ∃ W3, w2.alloc (.cells #[.string (tx t1.1), .int .i64 t1.2.1, .int .i64 t1.2.2] 81) = W3 := ⟨_, rfl⟩
      have hb3 : Below w2.heap.size w2 W3 := hW3 ▸ ba _ _
      have H3 : Hid (Rdr W3 R P0 q1 (.map (some b))) := h2.at hb3
      have HG3 : Hid (w.grownBy W3 (some R)) := gb_trans HG2.out (gb_below hb3)
      have HO3 : Hid (W3.ownsRow w.heap.size 81 3 (.slice (some ⟨w2.heap.size, 0, none⟩) 1 1) 1 (ts3 [t1])) := by
        rw [Hid, ← hW3]
        exact ⟨by simp [ts3], .inr ⟨w2.heap.size, 1, _, rfl, HG2.out.size, Go.heap_alloc_last _ _, by omega, by unfold maxLen; omega, by simp, by simp [ts3]⟩⟩
      clear h2 HRR
      go_wp2
      clear hW3
      go_loopw [3] (fun lv wr => ∃ (l : List Tst) (q : List Pc) (la : Option Addr) (lc : Nat), lv = .slice la l.length lc ∧ Hid (l ≠ [] ∧ l.length ≤ 64) ∧ Hid (andL (64 - l.length) l q = r) ∧ Hid (Rdr wr R P0 q (.map (some b))) ∧ Hid (w.grownBy wr (some R)) ∧ Hid (wr.ownsRow w.heap.size 81 3 (.slice la l.length lc) l.length (ts3 l))) (fun lv _ => 65 - slN lv)
      case atStart => exact ⟨[t1], q1, _, _, rfl, ⟨by simp, by simp⟩, HRR2, H3, HG3, HO3⟩
      case round =>
        obtain ⟨l, q, la, lc, rfl, HL, HA, HR, HG, HO⟩ := hrel
        have hpq := HR.out.pl
        by_cases c1 : hd q = wAnd
        · have k3 := is_any HR.out wAnd true (by simpa using c1)
          go_wp2_with fail
          refine k3.mono ?_
          rintro e w3 ⟨rfl, rfl⟩
          clear k3
          by_cases c2 : l.length < 64
          · have k4 := pmust_ok HR.out 4
            have d1 : (l.length : Int) < 64 := by omega
            have d2 : decide (l.length < 64) = true := by simpa using c2
            obtain ⟨j, hj⟩ : ∃ j, 64 - l.length = j + 1 := ⟨63 - l.length, by omega⟩
            obtain ⟨r5, hr5⟩ : ∃ r5, tstP q.tail = r5 := ⟨_, rfl⟩
            have hA := HA.out
            rw [hj, andL, if_pos c1, hr5] at hA
            have HA2 : Hid _ := hA
            have HNE : Hid (hd q ≠ []) := by rw [Hid, c1]; decide
            have HT5 : Hid (tstP q.tail = r5) := hr5
            have HJ : Hid (64 - (l.length + 1) = j) := by rw [Hid]; omega
            have HL2 : Hid (l.length < 64) := c2
            clear hA hr5 hj c1 c2 HA
            go_wp2_with fail
            refine k4.mono ?_
            rintro e w4 ⟨rfl, rfl⟩
            clear k4
            have k5 := step_any HR.out HNE.out
            go_wp2_with fail
            refine k5.mono ?_
            rintro e w5 ⟨rfl, h5, hg5⟩
            have HG5 : Hid (w.grownBy w5 (some R)) := gb_trans HG.out hg5
            have HO5 : Hid (w5.ownsRow w.heap.size 81 3 (.slice la l.length lc) l.length (ts3 l)) := row_gb HO.out hg5 (fun g hg e => by have := (row_lt HO.out hg).1; simp only [Option.some.injEq] at e; omega)
            have k6 := test_any h5 (HX.out.gb HG5.out) r5 HT5.out
            clear k5 hg5 h5 HT5 HO HG HR
            go_wp2_with fail
            refine k6.mono ?_
            rintro e w6 ⟨he, hg6⟩
            have HG6 : Hid (w.grownBy w6 (some R)) := gb_trans HG5.out hg6
            have HO6 : Hid (w6.ownsRow w.heap.size 81 3 (.slice la l.length lc) l.length (ts3 l)) := row_gb HO5.out hg6 (fun g hg e => by have := (row_lt HO5.out hg).1; simp only [Option.some.injEq] at e; omega)
            clear k6 hg6 HO5
            cases r5 with
            | error x =>
              obtain ⟨c, a⟩ := x
              obtain rfl : .error (c, a) = r := HA2.out
              obtain rfl : e = .panicked (chn c a) := he
              go_wp2
              exact ⟨rfl, rfl, HG6.out⟩
            | ok x =>
              obtain ⟨t6, q6⟩ := x
              obtain ⟨⟨v, rfl, rfl⟩, h6⟩ := he
              obtain ⟨u1, u2, u3⟩ := t6
              have HA3 : Hid (andL j (l ++ [(u1, u2, u3)]) q6 = r) := HA2.out
              have H6 : Hid (Rdr w6 R P0 q6 (.map (some b))) := h6
              have hsz6 := HG6.out.size
              have HL3 : Hid (l.length + 1 ≤ 64) := HL2.out
              have hl3 : l.length + 1 ≤ 64 := HL2.out
              have HO7 : Hid ((w6.alloc (.cells #[.string (tx u1), .int .i64 u2, .int .i64 u3] 81)).ownsRow w.heap.size 81 3 (.slice la l.length lc) l.length (ts3 l)) := row_gb HO6.out (gb_none (ba _ _)) (fun g hg e => by cases e)
              clear h6 HA2 hpq
              go_wp2_with (at_builtin; refine wpList_append_own_at _ rfl _ _ 22 rfl w.heap.size 81 i0 (.agg #[.string ⟨#[]⟩, .int .i64 0, .int .i64 0]) 3 32 Tryz.underlying22 hi0 hz0 hz1 hz2 rfl (by decide) (.slice la l.length lc) l.length (ts3 l) rfl HO7.out ⟨w6.heap.size, 0, none⟩ 1 1 [.string (tx u1), .int .i64 u2, .int .i64 u3] rfl rfl (three_cells w6 _ _ _ _ _ rfl) (by intro z hz; simp at hz; rcases hz with rfl | rfl | rfl <;> rfl) (by unfold maxLen; omega) (by omega) (by simp; omega) ?_)
              intro nv w8 hown hgrow hnil hat
              obtain ⟨ma, mc, rfl⟩ := row_slice hown
              have HO8 : Hid (w8.ownsRow w.heap.size 81 3 (.slice ma (l ++ [(u1, u2, u3)]).length mc) (l ++ [(u1, u2, u3)]).length (ts3 (l ++ [(u1, u2, u3)]))) := by
                rw [Hid, ts3_snoc, List.length_append]
                exact hown
              have hb8 : Below w.heap.size w6 w8 := ((Below.refl _ w6).alloc hsz6 _).grown hgrow (by simp; omega) (fun k e => (row_lt HO7.out e).1)
              have HR8 : Hid (Rdr w8 R P0 q6 (.map (some b))) := H6.out.bl hb8 hpl.2 hpl.1
              have HG8 : Hid (w.grownBy w8 (some R)) := gb_bl HG6.out hb8
              have HA8 : Hid (andL (64 - (l ++ [(u1, u2, u3)]).length) (l ++ [(u1, u2, u3)]) q6 = r) := by
                rw [Hid, List.length_append, List.length_singleton, HJ.out]
                exact HA3.out
              have HLL : Hid (l ++ [(u1, u2, u3)] ≠ [] ∧ (l ++ [(u1, u2, u3)]).length ≤ 64) := ⟨by simp, by rw [List.length_append, List.length_singleton]; exact hl3⟩
              have hle : (l ++ [(u1, u2, u3)]).length = l.length + 1 := by simp
              clear hown hgrow hnil hat hb8 HO7 HO6 HA3
              go_wp2
              go_roundw
              case rel => exact ⟨l ++ [(u1, u2, u3)], q6, ma, mc, by rw [hle], HLL, HA8, HR8, HG8, HO8⟩
              case measure => simp [slN]; omega
          · have k4 := pmust_no HR.out 4
            have h64 : l.length = 64 := by have := HL.out.2; omega
            have hA := HA.out
            rw [show 64 - l.length = 0 by omega, andL, if_pos c1] at hA
            obtain rfl : .error (4, hat q) = r := hA
            simp only [h64]
            clear HA c1 c2 h64
            go_wp2_with fail
            refine k4.mono ?_
            rintro e w4 ⟨rfl, rfl⟩
            go_wp2
            exact ⟨rfl, rfl, HG.out⟩
        · have k3 := is_any HR.out wAnd false (by simpa using c1)
          have hA : ∀ n, andL n l q = .ok (l, q) := fun n => by cases n <;> rw [andL, if_neg c1]
          obtain rfl : .ok (l, q) = r := (hA _).symm.trans HA.out
          clear hA HA c1
          go_wp2_with fail
          refine k3.mono ?_
          rintro e w3 ⟨rfl, rfl⟩
          clear k3
          go_wp2
          go_ret
          exact ⟨⟨⟨_, rfl, row_ts HO.out rfl HL.out.1 HL.out.2⟩, HR.out⟩, HG.out⟩
  · rw [if_neg h1] at hr
    subst hr
    have k1 := has_no h wWhere h1
    have HR : Hid (Rdr w R P0 ps (.map (some b))) := h
    clear h h1 hX
    go_enter Tryz.func113, Tryz.ntmps113
    go_wp2_with fail
    refine k1.mono ?_
    rintro e w1 ⟨rfl, rfl⟩
    clear k1
    go_wp2
    go_ret
    exact ⟨⟨⟨_, rfl, .inl ⟨rfl, rfl⟩⟩, HR.out⟩, gb_refl _ _⟩
end Go.Proofs.YtidfkencjdjkbaaGreatDoor

/-
  PACKAGE speech: questions in memory.
-/
namespace Go.Proofs.YtidfkencjdjkbaaGreatDoor
open Go.RowKit Sp

/-- a question's six cells; all that it leads to lies from block lo on -/
def QV (lo : Nat) (w : World) : Qu → List Value → Prop
  | .none, _ => False
  | .node k c l h wh n x y, cs => ∃ wv kv, cs = [.int .i64 k, .string (tx c), .int .i64 l, .int .i64 h, wv, kv] ∧ TsV lo w wh wv ∧
    ((n = 0 ∧ kv = .slice none 0 0) ∨ (n = 1 ∧ ∃ g xs, kv = .slice (some ⟨g, 0, none⟩) 1 1 ∧ lo ≤ g ∧ g < w.heap.size ∧ QV lo w x xs ∧ ∀ (j : Nat) u, xs[j]? = some u → w.cell? ⟨g, j, none⟩ = some u) ∨
      (n = 2 ∧ ∃ g xs ys, kv = .slice (some ⟨g, 0, none⟩) 2 2 ∧ lo ≤ g ∧ g < w.heap.size ∧ QV lo w x xs ∧ QV lo w y ys ∧ ∀ (j : Nat) u, (xs ++ ys)[j]? = some u → w.cell? ⟨g, j, none⟩ = some u))
theorem QV.kp {w w' : World} {lo : Nat} (hk : Kp lo w w') : ∀ (q : Qu) {cs : List Value}, QV lo w q cs → QV lo w' q cs
  | .none, _, h => h
  | .node k c l h' wh n x y, cs, h => by
    obtain ⟨wv, kv, h1, h2, h3⟩ := h
    refine ⟨wv, kv, h1, h2.kp hk, ?_⟩
    rcases h3 with h3 | ⟨h3, g, xs, e1, e2, e3, e4, e5⟩ | ⟨h3, g, xs, ys, e1, e2, e3, e4, e5, e6⟩
    · exact .inl h3
    · exact .inr (.inl ⟨h3, g, xs, e1, e2, Nat.lt_of_lt_of_le e3 hk.1, QV.kp hk x e4, fun j u hu => (hk.cell e2 e3).trans (e5 j u hu)⟩)
    · exact .inr (.inr ⟨h3, g, xs, ys, e1, e2, Nat.lt_of_lt_of_le e3 hk.1, QV.kp hk x e4, QV.kp hk y e5, fun j u hu => (hk.cell e2 e3).trans (e6 j u hu)⟩)
theorem QV.mono {w : World} {lo lo' : Nat} (hl : lo' ≤ lo) : ∀ (q : Qu) {cs : List Value}, QV lo w q cs → QV lo' w q cs
  | .none, _, h => h
  | .node k c l h' wh n x y, cs, h => by
    obtain ⟨wv, kv, h1, h2, h3⟩ := h
    refine ⟨wv, kv, h1, h2.mono hl, ?_⟩
    rcases h3 with h3 | ⟨h3, g, xs, e1, e2, e3, e4, e5⟩ | ⟨h3, g, xs, ys, e1, e2, e3, e4, e5, e6⟩
    · exact .inl h3
    · exact .inr (.inl ⟨h3, g, xs, e1, by omega, e3, QV.mono hl x e4, e5⟩)
    · exact .inr (.inr ⟨h3, g, xs, ys, e1, by omega, e3, QV.mono hl x e4, QV.mono hl y e5, e6⟩)
theorem QV.six {w : World} {lo : Nat} {q : Qu} {cs : List Value} (h : QV lo w q cs) : ∃ k c l h a4 n4 c4 a5 n5 c5, cs = [.int .i64 k, .string (tx c), .int .i64 l, .int .i64 h, .slice a4 n4 c4, .slice a5 n5 c5] := by
  match q, h with
  | .node k c l h' wh n x y, h =>
    obtain ⟨wv, kv, h1, h2, h3⟩ := h
    obtain ⟨a4, n4, c4, rfl⟩ := h2.one
    rcases h3 with ⟨_, rfl⟩ | ⟨_, g, xs, rfl, _⟩ | ⟨_, g, xs, ys, rfl, _⟩
    · exact ⟨_, _, _, _, _, _, _, _, _, _, h1⟩
    · exact ⟨_, _, _, _, _, _, _, _, _, _, h1⟩
    · exact ⟨_, _, _, _, _, _, _, _, _, _, h1⟩
def VQ (lo : Nat) (w : World) (q : Qu) (v : Value) : Prop := ∃ cs, v = .agg cs.toArray ∧ QV lo w q cs
/-- six cells, written one behind the other -/
def set6 (w : World) (b : Nat) (a c d e f g : Value) : World := (((((w.setCell ⟨b, 0, none⟩ a).setCell ⟨b, 1, none⟩ c).setCell ⟨b, 2, none⟩ d).setCell ⟨b, 3, none⟩ e).setCell ⟨b, 4, none⟩ f).setCell ⟨b, 5, none⟩ g
theorem set6_bx {w : World} {b : Nat} {o0 o1 o2 o3 o4 o5 : Value} (h : Bx w b [o0, o1, o2, o3, o4, o5]) (a c d e f g : Value) : Bx (set6 w b a c d e f g) b [a, c, d, e, f, g] :=
  (((((h.set (i := 0) (by simp) a).set (i := 1) (by simp) c).set (i := 2) (by simp) d).set (i := 3) (by simp) e).set (i := 4) (by simp) f).set (i := 5) (by simp) g
theorem set6_rd {w : World} {R P0 b : Nat} {ps : List Pc} {m : Value} (h : Rdr w R P0 ps m) (h1 : b ≠ R) (h2 : b ≠ P0) (a c d e f g : Value) : Rdr (set6 w b a c d e f g) R P0 ps m :=
  (((((h.put h1 h2 0 a).put h1 h2 1 c).put h1 h2 2 d).put h1 h2 3 e).put h1 h2 4 f).put h1 h2 5 g
theorem set6_gb {A w : World} {r : Option Nat} {b : Nat} (h : A.grownBy w r) (hb : A.heap.size ≤ b) (a c d e f g : Value) : A.grownBy (set6 w b a c d e f g) r :=
  gb_new (gb_new (gb_new (gb_new (gb_new (gb_new h (p := ⟨b, 0, none⟩) hb a) (p := ⟨b, 1, none⟩) hb c) (p := ⟨b, 2, none⟩) hb d) (p := ⟨b, 3, none⟩) hb e) (p := ⟨b, 4, none⟩) hb f) (p := ⟨b, 5, none⟩) hb g
theorem set6_kp {w : World} {lo b : Nat} (hb : b < lo) (a c d e f g : Value) : Kp lo w (set6 w b a c d e f g) :=
  (((((Kp.put hb 0 a).trans (Kp.put hb 1 c)).trans (Kp.put hb 2 d)).trans (Kp.put hb 3 e)).trans (Kp.put hb 4 f)).trans (Kp.put hb 5 g)
abbrev z6 : List Value := [.int .i64 0, .string ⟨#[]⟩, .int .i64 0, .int .i64 0, .slice none 0 0, .slice none 0 0]
/-- what is asked of a question on level lv -/
def Qc (fn : Nat) (lv : Int) (q : List Pc → PR Qu) : Prop := ∀ (w : World) (R b P0 : Nat) (ps : List Pc) (r : PR Qu), Rdr w R P0 ps (.map (some b)) → Cx w R b → q ps = r → Calls Tryz.prog fn #[ptR R, .int .i64 lv] w (RdP w R P0 (.map (some b)) (VQ w.heap.size) r)
end Go.Proofs.YtidfkencjdjkbaaGreatDoor
