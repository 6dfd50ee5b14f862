import Derived.Test.YtidfkencjdjkbaaDoorQr24
import Derived.Lib.OthersKept
import Derived.Lib.Builder
import Derived.Lib.UnsafeStr
/-
  PACKAGE speech: Read, whole.
-/
namespace Go.Proofs.YtidfkencjdjkbaaDoor
open Go.RowKit Sp

set_option maxHeartbeats 2000000 in
set_option maxRecDepth 100000 in
/-- READ: what a text says, or what is wrong with it, and where -/
theorem read_any (t : By) (htl : t.length ≤ 9223372036854775807) (w : World) (hG : Glo w) : Calls Tryd.prog 5 #[.string (tx t)] w (CaP t w) := by
  have hmf := hmf
  obtain ⟨W0, hW0⟩ : ∃ W0, ((w.alloc (.cells #[.string (tx t)] 9)).alloc (.cells #[.int .i64 0, .string ⟨#[]⟩, .int .i64 0, .int .i64 0, .slice none 0 0, .slice none 0 0] 25)).alloc (.cells #[.int .i64 0, .int .i64 0] 28) = W0 := ⟨_, rfl⟩
  have hb0 : Below w.heap.size w W0 := hW0 ▸ bal (bal (ba _ _) _) _
  have HS0 : Hid (Bx W0 w.heap.size [.string (tx t)]) := hW0 ▸ ((Bx.new w [.string (tx t)] 9 rfl).at (ba _ _)).at (ba _ _)
  have HB0 : Hid (Bx W0 (w.heap.size + 1) z6) := hW0 ▸ (Bx.new (w.alloc (.cells #[.string (tx t)] 9)) z6 25 (by simp)).at (ba _ _)
  have HF0 : Hid (Bx W0 (w.heap.size + 2) f0) := hW0 ▸ Bx.new ((w.alloc (.cells #[.string (tx t)] 9)).alloc (.cells #[.int .i64 0, .string ⟨#[]⟩, .int .i64 0, .int .i64 0, .slice none 0 0, .slice none 0 0] 25)) f0 28 (by simp)
  have hz0 : w.heap.size + 2 < W0.heap.size := (HF0.out 0 _ rfl).lt
  have HBL0 : Hid (Below w.heap.size w W0) := hb0
  have k1 := caughtA_any t htl W0 w.heap.size (HS0.out 0 _ rfl).c (HS0.out 0 _ rfl).lt (hG.at hb0)
  obtain ⟨r, hr⟩ : ∃ r, readT t = r := ⟨_, rfl⟩
  have HRR : Hid (readT t = r) := hr
  clear hb0 hr
  go_enter Tryd.func5, Tryd.ntmps5
  go_wp2_with fail
  clear hW0
  refine k1.mono ?_
  rintro e w1 ⟨he, hb1⟩
  rw [HRR.out] at he
  have HBL1 : Hid (Below w.heap.size w w1) := bt HBL0.out hb1
  have HB1 : Hid (Bx w1 (w.heap.size + 1) z6) := HB0.out.at hb1
  have HF1 : Hid (Bx w1 (w.heap.size + 2) f0) := HF0.out.at hb1
  clear k1 hb1 HB0 HF0 HS0
  cases r with
  | error x =>
    obtain ⟨c, x⟩ := x
    subst he
    have z0 := (HB1.out 0 _ rfl).c
    have z1 := (HB1.out 1 _ rfl).c
    have z2 := (HB1.out 2 _ rfl).c
    have z3 := (HB1.out 3 _ rfl).c
    have z4 := (HB1.out 4 _ rfl).c
    have z5 := (HB1.out 5 _ rfl).c
    have y0 := (HB1.out 0 _ rfl).f
    have y1 := (HB1.out 1 _ rfl).f
    have y2 := (HB1.out 2 _ rfl).f
    have y3 := (HB1.out 3 _ rfl).f
    have y4 := (HB1.out 4 _ rfl).f
    have y5 := (HB1.out 5 _ rfl).f
    have p0 := (HF1.out 0 _ rfl).c
    have p1 := (HF1.out 1 _ rfl).c
    have q0 := (HF1.out 0 _ rfl).f
    have q1 := (HF1.out 1 _ rfl).f
    obtain ⟨W7, hW7⟩ : ∃ W7, ((set6 w1 (w.heap.size + 1) (.int .i64 0) (.string ⟨#[]⟩) (.int .i64 0) (.int .i64 0) (.slice none 0 0) (.slice none 0 0)).setCell ⟨w.heap.size + 2, 0, none⟩ (.int .i64 c)).setCell ⟨w.heap.size + 2, 1, none⟩ (.int .i64 (x : Int)) = W7 := ⟨_, rfl⟩
    have HB7 : Hid (Bx W7 (w.heap.size + 1) [.int .i64 0, .string ⟨#[]⟩, .int .i64 0, .int .i64 0, .slice none 0 0, .slice none 0 0]) := hW7 ▸ ((set6_bx HB1.out _ _ _ _ _ _).oth (by omega) _).oth (by omega) _
    have HF6 : Hid (Bx (set6 w1 (w.heap.size + 1) (.int .i64 0) (.string ⟨#[]⟩) (.int .i64 0) (.int .i64 0) (.slice none 0 0) (.slice none 0 0)) (w.heap.size + 2) f0) := (((((HF1.out.oth (by omega) _).oth (by omega) _).oth (by omega) _).oth (by omega) _).oth (by omega) _).oth (by omega) _
    have HF7 : Hid (Bx W7 (w.heap.size + 2) [.int .i64 c, .int .i64 (x : Int)]) := hW7 ▸ (HF6.out.set (i := 0) (by simp) _).set (i := 1) (by simp) _
    have HG7 : Hid (w.grownBy W7 none) := hW7 ▸ gb_new (gb_new (set6_gb (gb_none HBL1.out) (by omega) _ _ _ _ _ _) (p := ⟨w.heap.size + 2, 0, none⟩) (by dsimp only; omega) _) (p := ⟨w.heap.size + 2, 1, none⟩) (by dsimp only; omega) _
    unfold set6 at hW7
    go_wp2
    have x0 := (HB7.out 0 _ rfl).c
    have x1 := (HB7.out 1 _ rfl).c
    have x2 := (HB7.out 2 _ rfl).c
    have x3 := (HB7.out 3 _ rfl).c
    have x4 := (HB7.out 4 _ rfl).c
    have x5 := (HB7.out 5 _ rfl).c
    have f0 := (HF7.out 0 _ rfl).c
    have f1 := (HF7.out 1 _ rfl).c
    exact bodyPost_ret (v := .tuple #[.agg #[.int .i64 0, .string ⟨#[]⟩, .int .i64 0, .int .i64 0, .slice none 0 0, .slice none 0 0], .agg #[.int .i64 c, .int .i64 (x : Int)]]) (by simp [results, Tryd.results5, go_sem, x0, x1, x2, x3, x4, x5, f0, f1]) rfl ⟨by rw [HRR.out], ⟨HG7.out.os, HG7.out.tape, HG7.out.output, HG7.out.size, fun k hk => HG7.out.block k hk (by simp)⟩⟩
  | ok a1 =>
    obtain ⟨cs, rfl, hqv⟩ := he
    obtain ⟨xk, xc, xl, xh, xa4, xn4, xc4, xa5, xn5, xc5, rfl⟩ := hqv.six
    have HQ1 : Hid (QV W0.heap.size w1 a1 [.int .i64 xk, .string (tx xc), .int .i64 xl, .int .i64 xh, .slice xa4 xn4 xc4, .slice xa5 xn5 xc5]) := hqv
    clear hqv
    have z0 := (HB1.out 0 _ rfl).c
    have z1 := (HB1.out 1 _ rfl).c
    have z2 := (HB1.out 2 _ rfl).c
    have z3 := (HB1.out 3 _ rfl).c
    have z4 := (HB1.out 4 _ rfl).c
    have z5 := (HB1.out 5 _ rfl).c
    have y0 := (HB1.out 0 _ rfl).f
    have y1 := (HB1.out 1 _ rfl).f
    have y2 := (HB1.out 2 _ rfl).f
    have y3 := (HB1.out 3 _ rfl).f
    have y4 := (HB1.out 4 _ rfl).f
    have y5 := (HB1.out 5 _ rfl).f
    have p0 := (HF1.out 0 _ rfl).c
    have p1 := (HF1.out 1 _ rfl).c
    have q0 := (HF1.out 0 _ rfl).f
    have q1 := (HF1.out 1 _ rfl).f
    obtain ⟨W7, hW7⟩ : ∃ W7, ((set6 w1 (w.heap.size + 1) (.int .i64 xk) (.string (tx xc)) (.int .i64 xl) (.int .i64 xh) (.slice xa4 xn4 xc4) (.slice xa5 xn5 xc5)).setCell ⟨w.heap.size + 2, 0, none⟩ (.int .i64 0)).setCell ⟨w.heap.size + 2, 1, none⟩ (.int .i64 0) = W7 := ⟨_, rfl⟩
    have HB7 : Hid (Bx W7 (w.heap.size + 1) [.int .i64 xk, .string (tx xc), .int .i64 xl, .int .i64 xh, .slice xa4 xn4 xc4, .slice xa5 xn5 xc5]) := hW7 ▸ ((set6_bx HB1.out _ _ _ _ _ _).oth (by omega) _).oth (by omega) _
    have HF6 : Hid (Bx (set6 w1 (w.heap.size + 1) (.int .i64 xk) (.string (tx xc)) (.int .i64 xl) (.int .i64 xh) (.slice xa4 xn4 xc4) (.slice xa5 xn5 xc5)) (w.heap.size + 2) f0) := (((((HF1.out.oth (by omega) _).oth (by omega) _).oth (by omega) _).oth (by omega) _).oth (by omega) _).oth (by omega) _
    have HF7 : Hid (Bx W7 (w.heap.size + 2) [.int .i64 0, .int .i64 0]) := hW7 ▸ (HF6.out.set (i := 0) (by simp) _).set (i := 1) (by simp) _
    have HG7 : Hid (w.grownBy W7 none) := hW7 ▸ gb_new (gb_new (set6_gb (gb_none HBL1.out) (by omega) _ _ _ _ _ _) (p := ⟨w.heap.size + 2, 0, none⟩) (by dsimp only; omega) _) (p := ⟨w.heap.size + 2, 1, none⟩) (by dsimp only; omega) _
    have HQ7 : Hid (QV w.heap.size W7 a1 [.int .i64 xk, .string (tx xc), .int .i64 xl, .int .i64 xh, .slice xa4 xn4 xc4, .slice xa5 xn5 xc5]) := hW7 ▸ QV.mono (by omega) a1 (QV.kp (((set6_kp (by omega) _ _ _ _ _ _).trans (Kp.put (by omega) 0 _)).trans (Kp.put (by omega) 1 _)) a1 HQ1.out)
    unfold set6 at hW7
    go_wp2
    have x0 := (HB7.out 0 _ rfl).c
    have x1 := (HB7.out 1 _ rfl).c
    have x2 := (HB7.out 2 _ rfl).c
    have x3 := (HB7.out 3 _ rfl).c
    have x4 := (HB7.out 4 _ rfl).c
    have x5 := (HB7.out 5 _ rfl).c
    have f0 := (HF7.out 0 _ rfl).c
    have f1 := (HF7.out 1 _ rfl).c
    exact bodyPost_ret (v := .tuple #[.agg #[.int .i64 xk, .string (tx xc), .int .i64 xl, .int .i64 xh, .slice xa4 xn4 xc4, .slice xa5 xn5 xc5], .agg #[.int .i64 0, .int .i64 0]]) (by simp [results, Tryd.results5, go_sem, x0, x1, x2, x3, x4, x5, f0, f1]) rfl ⟨by rw [HRR.out]; exact ⟨_, rfl, HQ7.out⟩, ⟨HG7.out.os, HG7.out.tape, HG7.out.output, HG7.out.size, fun k hk => HG7.out.block k hk (by simp)⟩⟩
end Go.Proofs.YtidfkencjdjkbaaDoor

/-
  PACKAGE speech, Print: questions that come in; form, shaped.
-/
namespace Go.Proofs.YtidfkencjdjkbaaDoor
open Go.RowKit Sp

/-- tests that came in -/
def TI (w : World) (B : Nat) (l : List Tst) (v : Value) : Prop :=
  ∃ a c, v = .slice a l.length c ∧ l.length ≤ c ∧ l.length ≤ 9223372036854775807 ∧ (∀ t ∈ l, t.1.length ≤ 9223372036854775807 ∧ (-9223372036854775808 ≤ t.2.1 ∧ t.2.1 ≤ 9223372036854775807) ∧ (-9223372036854775808 ≤ t.2.2 ∧ t.2.2 ≤ 9223372036854775807)) ∧ (l ≠ [] → ∃ b o, a = some ⟨b, o, none⟩ ∧ b < B ∧ ∀ (i : Nat) t, l[i]? = some t → ∀ (j : Nat) u, ([.string (tx t.1), .int .i64 t.2.1, .int .i64 t.2.2] : List Value)[j]? = some u → w.cell? ⟨b, o + i * 3 + j, none⟩ = some u)
theorem TI.keep {w w' : World} {B : Nat} {l : List Tst} {v : Value} (h : TI w B l v) (hb : Below B w w') : TI w' B l v := by
  obtain ⟨a, c, h1, h2, h3, h4, h5⟩ := h
  refine ⟨a, c, h1, h2, h3, h4, fun hne => ?_⟩
  obtain ⟨b, o, e1, e2, e3⟩ := h5 hne
  exact ⟨b, o, e1, e2, fun i t ht j u hu => (hb.cell (p := ⟨b, o + i * 3 + j, none⟩) e2).trans (e3 i t ht j u hu)⟩
/-- a question that came in: its six cells; of kids only the first two are told, and only where there are no more -/
def QI (w : World) (B : Nat) : Qu → List Value → Prop
  | .none, _ => False
  | .node k c l h wh n x y, cs => ∃ wv ka kc, cs = [.int .i64 k, .string (tx c), .int .i64 l, .int .i64 h, wv, .slice ka n kc] ∧ TI w B wh wv ∧ n ≤ kc ∧ n ≤ 9223372036854775807 ∧ c.length ≤ 9223372036854775807 ∧ (-9223372036854775808 ≤ k ∧ k ≤ 9223372036854775807) ∧ (-9223372036854775808 ≤ l ∧ l ≤ 9223372036854775807) ∧ (-9223372036854775808 ≤ h ∧ h ≤ 9223372036854775807) ∧
    (n = 0 → x = .none) ∧ (n ≤ 1 → y = .none) ∧
    (1 ≤ n → n ≤ 2 → ∃ b o, ka = some ⟨b, o, none⟩ ∧ b < B ∧ (∃ xs, QI w B x xs ∧ ∀ (j : Nat) u, xs[j]? = some u → w.cell? ⟨b, o + j, none⟩ = some u) ∧ (2 ≤ n → ∃ ys, QI w B y ys ∧ ∀ (j : Nat) u, ys[j]? = some u → w.cell? ⟨b, o + 6 + j, none⟩ = some u))
theorem QI.keep {w w' : World} {B : Nat} (hb : Below B w w') : ∀ (q : Qu) {cs : List Value}, QI w B q cs → QI w' B q cs
  | .none, _, h => h
  | .node k c l h' wh n x y, cs, h => by
    obtain ⟨wv, ka, kc, h1, h2, h3, h4, h5, h6, h7, h8, h9, h10, h11⟩ := h
    refine ⟨wv, ka, kc, h1, h2.keep hb, h3, h4, h5, h6, h7, h8, h9, h10, fun n1 n2 => ?_⟩
    obtain ⟨b, o, e1, e2, ⟨xs, e3, e4⟩, e5⟩ := h11 n1 n2
    refine ⟨b, o, e1, e2, ⟨xs, QI.keep hb x e3, fun j u hu => (hb.cell (p := ⟨b, o + j, none⟩) e2).trans (e4 j u hu)⟩, fun n3 => ?_⟩
    obtain ⟨ys, e6, e7⟩ := e5 n3
    exact ⟨ys, QI.keep hb y e6, fun j u hu => (hb.cell (p := ⟨b, o + 6 + j, none⟩) e2).trans (e7 j u hu)⟩
end Go.Proofs.YtidfkencjdjkbaaDoor

/-
  PACKAGE speech, Print: a writer: a strings.Builder and what was written last, in a block of three cells.
-/
namespace Go.Proofs.YtidfkencjdjkbaaDoor
open Go.RowKit Sp

end Go.Proofs.YtidfkencjdjkbaaDoor
