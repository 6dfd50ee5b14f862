import Derived.Test.YtidfkencjdjkbaaDoorQr12
/-
  PACKAGE speech: questions in memory.
-/
namespace Go.Proofs.YtidfkencjdjkbaaDoor
open Go.RowKit Sp

/-- a question's six cells; all that it leads to lies from block lo on -/
def QV (lo : Nat) (w : World) : Qu → List Value → Prop
  | .none, _ => False
  | .node k c l h wh n x y, cs => ∃ wv kv, cs = [.int .i64 k, .string (tx c), .int .i64 l, .int .i64 h, wv, kv] ∧ TsV lo w wh wv ∧
    ((n = 0 ∧ kv = .slice none 0 0) ∨ (n = 1 ∧ ∃ g xs, kv = .slice (some ⟨g, 0, none⟩) 1 1 ∧ lo ≤ g ∧ g < w.heap.size ∧ QV lo w x xs ∧ ∀ (j : Nat) u, xs[j]? = some u → w.cell? ⟨g, j, none⟩ = some u) ∨
      (n = 2 ∧ ∃ g xs ys, kv = .slice (some ⟨g, 0, none⟩) 2 2 ∧ lo ≤ g ∧ g < w.heap.size ∧ QV lo w x xs ∧ QV lo w y ys ∧ ∀ (j : Nat) u, (xs ++ ys)[j]? = some u → w.cell? ⟨g, j, none⟩ = some u))
theorem QV.kp {w w' : World} {lo : Nat} (hk : Kp lo w w') : ∀ (q : Qu) {cs : List Value}, QV lo w q cs → QV lo w' q cs
  | .none, _, h => h
  | .node k c l h' wh n x y, cs, h => by
    obtain ⟨wv, kv, h1, h2, h3⟩ := h
    refine ⟨wv, kv, h1, h2.kp hk, ?_⟩
    rcases h3 with h3 | ⟨h3, g, xs, e1, e2, e3, e4, e5⟩ | ⟨h3, g, xs, ys, e1, e2, e3, e4, e5, e6⟩
    · exact .inl h3
    · exact .inr (.inl ⟨h3, g, xs, e1, e2, Nat.lt_of_lt_of_le e3 hk.1, QV.kp hk x e4, fun j u hu => (hk.cell e2 e3).trans (e5 j u hu)⟩)
    · exact .inr (.inr ⟨h3, g, xs, ys, e1, e2, Nat.lt_of_lt_of_le e3 hk.1, QV.kp hk x e4, QV.kp hk y e5, fun j u hu => (hk.cell e2 e3).trans (e6 j u hu)⟩)
theorem QV.mono {w : World} {lo lo' : Nat} (hl : lo' ≤ lo) : ∀ (q : Qu) {cs : List Value}, QV lo w q cs → QV lo' w q cs
  | .none, _, h => h
  | .node k c l h' wh n x y, cs, h => by
    obtain ⟨wv, kv, h1, h2, h3⟩ := h
    refine ⟨wv, kv, h1, h2.mono hl, ?_⟩
    rcases h3 with h3 | ⟨h3, g, xs, e1, e2, e3, e4, e5⟩ | ⟨h3, g, xs, ys, e1, e2, e3, e4, e5, e6⟩
    · exact .inl h3
    · exact .inr (.inl ⟨h3, g, xs, e1, by omega, e3, QV.mono hl x e4, e5⟩)
    · exact .inr (.inr ⟨h3, g, xs, ys, e1, by omega, e3, QV.mono hl x e4, QV.mono hl y e5, e6⟩)
theorem QV.six {w : World} {lo : Nat} {q : Qu} {cs : List Value} (h : QV lo w q cs) : ∃ k c l h a4 n4 c4 a5 n5 c5, cs = [.int .i64 k, .string (tx c), .int .i64 l, .int .i64 h, .slice a4 n4 c4, .slice a5 n5 c5] := by
  match q, h with
  | .node k c l h' wh n x y, h =>
    obtain ⟨wv, kv, h1, h2, h3⟩ := h
    obtain ⟨a4, n4, c4, rfl⟩ := h2.one
    rcases h3 with ⟨_, rfl⟩ | ⟨_, g, xs, rfl, _⟩ | ⟨_, g, xs, ys, rfl, _⟩
    · exact ⟨_, _, _, _, _, _, _, _, _, _, h1⟩
    · exact ⟨_, _, _, _, _, _, _, _, _, _, h1⟩
    · exact ⟨_, _, _, _, _, _, _, _, _, _, h1⟩
def VQ (lo : Nat) (w : World) (q : Qu) (v : Value) : Prop := ∃ cs, v = .agg cs.toArray ∧ QV lo w q cs
/-- six cells, written one behind the other -/
def set6 (w : World) (b : Nat) (a c d e f g : Value) : World := (((((w.setCell ⟨b, 0, none⟩ a).setCell ⟨b, 1, none⟩ c).setCell ⟨b, 2, none⟩ d).setCell ⟨b, 3, none⟩ e).setCell ⟨b, 4, none⟩ f).setCell ⟨b, 5, none⟩ g
theorem set6_bx {w : World} {b : Nat} {o0 o1 o2 o3 o4 o5 : Value} (h : Bx w b [o0, o1, o2, o3, o4, o5]) (a c d e f g : Value) : Bx (set6 w b a c d e f g) b [a, c, d, e, f, g] :=
  (((((h.set (i := 0) (by simp) a).set (i := 1) (by simp) c).set (i := 2) (by simp) d).set (i := 3) (by simp) e).set (i := 4) (by simp) f).set (i := 5) (by simp) g
theorem set6_rd {w : World} {R P0 b : Nat} {ps : List Pc} {m : Value} (h : Rdr w R P0 ps m) (h1 : b ≠ R) (h2 : b ≠ P0) (a c d e f g : Value) : Rdr (set6 w b a c d e f g) R P0 ps m :=
  (((((h.put h1 h2 0 a).put h1 h2 1 c).put h1 h2 2 d).put h1 h2 3 e).put h1 h2 4 f).put h1 h2 5 g
theorem set6_gb {A w : World} {r : Option Nat} {b : Nat} (h : A.grownBy w r) (hb : A.heap.size ≤ b) (a c d e f g : Value) : A.grownBy (set6 w b a c d e f g) r :=
  gb_new (gb_new (gb_new (gb_new (gb_new (gb_new h (p := ⟨b, 0, none⟩) hb a) (p := ⟨b, 1, none⟩) hb c) (p := ⟨b, 2, none⟩) hb d) (p := ⟨b, 3, none⟩) hb e) (p := ⟨b, 4, none⟩) hb f) (p := ⟨b, 5, none⟩) hb g
theorem set6_kp {w : World} {lo b : Nat} (hb : b < lo) (a c d e f g : Value) : Kp lo w (set6 w b a c d e f g) :=
  (((((Kp.put hb 0 a).trans (Kp.put hb 1 c)).trans (Kp.put hb 2 d)).trans (Kp.put hb 3 e)).trans (Kp.put hb 4 f)).trans (Kp.put hb 5 g)
abbrev z6 : List Value := [.int .i64 0, .string ⟨#[]⟩, .int .i64 0, .int .i64 0, .slice none 0 0, .slice none 0 0]
/-- what is asked of a question on level lv -/
def Qc (fn : Nat) (lv : Int) (q : List Pc → PR Qu) : Prop := ∀ (w : World) (R b P0 : Nat) (ps : List Pc) (r : PR Qu), Rdr w R P0 ps (.map (some b)) → Cx w R b → q ps = r → Calls Tryd.prog fn #[ptR R, .int .i64 lv] w (RdP w R P0 (.map (some b)) (VQ w.heap.size) r)
end Go.Proofs.YtidfkencjdjkbaaDoor

/-
  PACKAGE speech: questions in brackets.
-/
namespace Go.Proofs.YtidfkencjdjkbaaDoor
open Go.RowKit Sp

set_option maxHeartbeats 2000000 in
set_option maxRecDepth 100000 in
theorem brk_of {lv lv1 : Int} {q : List Pc → PR Qu} (hq : Qc 15 lv1 q) (hl : IntKind.i64.wrap (lv + 1) = lv1) : Qc 77 lv (brkP q) := by
  intro w R b P0 ps r h hX hr
  have hpl := h.pl
  obtain ⟨W0, hW0⟩ : ∃ W0, w.alloc (.cells #[.int .i64 0, .string ⟨#[]⟩, .int .i64 0, .int .i64 0, .slice none 0 0, .slice none 0 0] 25) = W0 := ⟨_, rfl⟩
  have hb0 : Below w.heap.size w W0 := hW0 ▸ ba _ _
  have HB0 : Hid (Bx W0 w.heap.size z6) := hW0 ▸ Bx.new w z6 25 rfl
  have hz0 : w.heap.size < W0.heap.size := (HB0.out 0 _ rfl).lt
  have HG0 : Hid (w.grownBy W0 (some R)) := gb_below hb0
  have hRl : w.heap.size ≠ R := by omega
  have hPl : w.heap.size ≠ P0 := by omega
  have H0 : Hid (Rdr W0 R P0 ps (.map (some b))) := h.at hb0
  have HX : Hid (Cx w R b) := hX
  unfold brkP at hr
  clear h hX hb0
  by_cases c1 : hd ps = sOpen
  · have k1 := take_yes H0.out sOpen (by decide) c1
    simp only [tk, if_pos c1] at hr
    obtain ⟨r1, hr1⟩ : ∃ r1, q ps.tail = r1 := ⟨_, rfl⟩
    rw [hr1] at hr
    have HRR : Hid _ := hr
    have HQ1 : Hid (q ps.tail = r1) := hr1
    clear hr hr1 c1 H0
    go_enter Tryd.func77, Tryd.ntmps77
    go_wp2_with fail
    clear hW0
    refine k1.mono ?_
    rintro e w1 ⟨rfl, h1, hg1⟩
    have HG1 : Hid (w.grownBy w1 (some R)) := gb_trans HG0.out hg1
    have HB1 : Hid (Bx w1 w.heap.size z6) := HB0.out.gb hg1 hRl
    have hz1 : w.heap.size < w1.heap.size := Nat.lt_of_lt_of_le hz0 hg1.size
    have k2 := hq w1 R b P0 ps.tail r1 h1 (HX.out.gb HG1.out) HQ1.out
    clear k1 hg1 h1 HB0 hz0 HQ1
    go_wp2_with fail
    refine k2.mono ?_
    rintro e w2 ⟨he, hg2⟩
    have HG2 : Hid (w.grownBy w2 (some R)) := gb_trans HG1.out hg2
    have HB2 : Hid (Bx w2 w.heap.size z6) := HB1.out.gb hg2 hRl
    have hz2 : w1.heap.size ≤ w2.heap.size := hg2.size
    clear k2 hg2 HB1
    cases r1 with
    | error x =>
      obtain ⟨c, a⟩ := x
      obtain rfl : .error (c, a) = r := HRR.out
      obtain rfl : e = .panicked (chn c a) := he
      go_wp2
      exact ⟨rfl, rfl, HG2.out⟩
    | ok x =>
      obtain ⟨a1, q1⟩ := x
      obtain ⟨⟨v, rfl, cs, rfl, hqv⟩, h2⟩ := he
      obtain ⟨xk, xc, xl, xh, xa4, xn4, xc4, xa5, xn5, xc5, rfl⟩ := hqv.six
      have HQV : Hid (QV w1.heap.size w2 a1 [.int .i64 xk, .string (tx xc), .int .i64 xl, .int .i64 xh, .slice xa4 xn4 xc4, .slice xa5 xn5 xc5]) := hqv
      obtain ⟨W3, hW3⟩ : ∃ W3, w2.alloc (.cells #[.int .i64 xk, .string (tx xc), .int .i64 xl, .int .i64 xh, .slice xa4 xn4 xc4, .slice xa5 xn5 xc5] 25) = W3 := ⟨_, rfl⟩
      have hb3 : Below w2.heap.size w2 W3 := hW3 ▸ ba _ _
      have HC3 : Hid (Bx W3 w2.heap.size [.int .i64 xk, .string (tx xc), .int .i64 xl, .int .i64 xh, .slice xa4 xn4 xc4, .slice xa5 xn5 xc5]) := hW3 ▸ Bx.new w2 [.int .i64 xk, .string (tx xc), .int .i64 xl, .int .i64 xh, .slice xa4 xn4 xc4, .slice xa5 xn5 xc5] 25 rfl
      have HB3 : Hid (Bx W3 w.heap.size z6) := HB2.out.at hb3
      have H3 : Hid (Rdr W3 R P0 q1 (.map (some b))) := h2.at hb3
      have HG3 : Hid (w.grownBy W3 (some R)) := gb_trans HG2.out (gb_below hb3)
      have HQ3 : Hid (QV w1.heap.size W3 a1 [.int .i64 xk, .string (tx xc), .int .i64 xl, .int .i64 xh, .slice xa4 xn4 xc4, .slice xa5 xn5 xc5]) := QV.kp (Kp.bl hb3) a1 HQV.out
      clear hqv h2 HB2 HQV hb3
      by_cases c2 : hd q1 = sShut
      · have k3 := take_yes H3.out sShut (by decide) c2
        have hq := HRR.out
        simp only [if_pos c2] at hq
        obtain rfl : .ok (a1, q1.tail) = r := hq
        clear c2 HRR H3
        go_wp2_with fail
        clear hW3
        refine k3.mono ?_
        rintro e w4 ⟨rfl, h4, hg4⟩
        have HG4 : Hid (w.grownBy w4 (some R)) := gb_trans HG3.out hg4
        have HB4 : Hid (Bx w4 w.heap.size z6) := HB3.out.gb hg4 hRl
        have HC4 : Hid (Bx w4 w2.heap.size [.int .i64 xk, .string (tx xc), .int .i64 xl, .int .i64 xh, .slice xa4 xn4 xc4, .slice xa5 xn5 xc5]) := HC3.out.gb hg4 (by omega)
        have HQ4 : Hid (QV w1.heap.size w4 a1 [.int .i64 xk, .string (tx xc), .int .i64 xl, .int .i64 xh, .slice xa4 xn4 xc4, .slice xa5 xn5 xc5]) := QV.kp (Kp.gb hg4 (by omega)) a1 HQ3.out
        have H4 : Hid (Rdr w4 R P0 q1.tail (.map (some b))) := h4
        clear k3 hg4 h4 HB3 HC3 HQ3
        have s0 := (HC4.out 0 _ rfl).c
        have s1 := (HC4.out 1 _ rfl).c
        have s2 := (HC4.out 2 _ rfl).c
        have s3 := (HC4.out 3 _ rfl).c
        have s4 := (HC4.out 4 _ rfl).c
        have s5 := (HC4.out 5 _ rfl).c
        have z0 := (HB4.out 0 _ rfl).c
        have z1 := (HB4.out 1 _ rfl).c
        have z2 := (HB4.out 2 _ rfl).c
        have z3 := (HB4.out 3 _ rfl).c
        have z4 := (HB4.out 4 _ rfl).c
        have z5 := (HB4.out 5 _ rfl).c
        have y0 := (HB4.out 0 _ rfl).f
        have y1 := (HB4.out 1 _ rfl).f
        have y2 := (HB4.out 2 _ rfl).f
        have y3 := (HB4.out 3 _ rfl).f
        have y4 := (HB4.out 4 _ rfl).f
        have y5 := (HB4.out 5 _ rfl).f
        obtain ⟨W7, hW7⟩ : ∃ W7, set6 w4 w.heap.size (.int .i64 xk) (.string (tx xc)) (.int .i64 xl) (.int .i64 xh) (.slice xa4 xn4 xc4) (.slice xa5 xn5 xc5) = W7 := ⟨_, rfl⟩
        have HB7 : Hid (Bx W7 w.heap.size [.int .i64 xk, .string (tx xc), .int .i64 xl, .int .i64 xh, .slice xa4 xn4 xc4, .slice xa5 xn5 xc5]) := hW7 ▸ set6_bx HB4.out _ _ _ _ _ _
        have HR7 : Hid (Rdr W7 R P0 q1.tail (.map (some b))) := hW7 ▸ set6_rd H4.out hRl hPl _ _ _ _ _ _
        have HG7 : Hid (w.grownBy W7 (some R)) := hW7 ▸ set6_gb HG4.out (Nat.le_refl _) _ _ _ _ _ _
        have HQ7 : Hid (QV w.heap.size W7 a1 [.int .i64 xk, .string (tx xc), .int .i64 xl, .int .i64 xh, .slice xa4 xn4 xc4, .slice xa5 xn5 xc5]) := hW7 ▸ QV.mono (by omega) a1 (QV.kp (set6_kp hz1 _ _ _ _ _ _) a1 HQ4.out)
        unfold set6 at hW7
        go_wp2
        have x0 := (HB7.out 0 _ rfl).c
        have x1 := (HB7.out 1 _ rfl).c
        have x2 := (HB7.out 2 _ rfl).c
        have x3 := (HB7.out 3 _ rfl).c
        have x4 := (HB7.out 4 _ rfl).c
        have x5 := (HB7.out 5 _ rfl).c
        exact bodyPost_ret (v := .agg #[.int .i64 xk, .string (tx xc), .int .i64 xl, .int .i64 xh, .slice xa4 xn4 xc4, .slice xa5 xn5 xc5]) (by simp [results, Tryd.results77, go_sem, x0, x1, x2, x3, x4, x5]) rfl ⟨⟨⟨_, rfl, _, rfl, HQ7.out⟩, HR7.out⟩, HG7.out⟩
      · have k3 := take_no H3.out sShut c2
        have hq := HRR.out
        simp only [if_neg c2] at hq
        obtain rfl : .error (2, hat q1) = r := hq
        clear c2 HRR
        go_wp2_with fail
        refine k3.mono ?_
        rintro e w4 ⟨rfl, rfl⟩
        go_wp2
        exact ⟨rfl, rfl, HG3.out⟩
  · have k1 := take_no H0.out sOpen c1
    simp only [tk, if_neg c1] at hr
    obtain rfl : .error (2, hat ps) = r := hr
    clear c1
    go_enter Tryd.func77, Tryd.ntmps77
    go_wp2_with fail
    refine k1.mono ?_
    rintro e w1 ⟨rfl, rfl⟩
    go_wp2
    exact ⟨rfl, rfl, HG0.out⟩
end Go.Proofs.YtidfkencjdjkbaaDoor
