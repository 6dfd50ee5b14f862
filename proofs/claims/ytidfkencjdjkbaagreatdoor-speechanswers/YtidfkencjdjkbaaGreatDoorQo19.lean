import Derived.Test.YtidfkencjdjkbaaGreatDoorQo18
import Derived.Lib.OthersKept
import Derived.Lib.Builder
import Derived.Lib.UnsafeStr
/-
  PACKAGE speech: Read, whole.
-/
namespace Go.Proofs.YtidfkencjdjkbaaGreatDoor
open Go.RowKit Sp

set_option maxHeartbeats 2000000 in
set_option maxRecDepth 100000 in
/-- READ: what a text says, or what is wrong with it, and where -/
theorem read_any (t : By) (htl : t.length ≤ 9223372036854775807) (w : World) (hG : Glo w) : Calls Tryz.prog 8 #[.string (tx t)] w (CaP t w) := by
  have hmf := hmf
  obtain ⟨W0, hW0⟩ : ∃ W0, ((w.alloc (.cells #[.string (tx t)] 9)).alloc (.cells #[.int .i64 0, .string ⟨#[]⟩, .int .i64 0, .int .i64 0, .slice none 0 0, .slice none 0 0] 25)).alloc (.cells #[.int .i64 0, .int .i64 0] 36) = W0 := ⟨_, rfl⟩
  have hb0 : Below w.heap.size w W0 := hW0 ▸ bal (bal (ba _ _) _) _
  have HS0 : Hid (Bx W0 w.heap.size [.string (tx t)]) := hW0 ▸ ((Bx.new w [.string (tx t)] 9 rfl).at (ba _ _)).at (ba _ _)
  have HB0 : Hid (Bx W0 (w.heap.size + 1) z6) := hW0 ▸ (Bx.new (w.alloc (.cells #[.string (tx t)] 9)) z6 25 (by simp)).at (ba _ _)
  have HF0 : Hid (Bx W0 (w.heap.size + 2) f0) := hW0 ▸ Bx.new ((w.alloc (.cells #[.string (tx t)] 9)).alloc (.cells #[.int .i64 0, .string ⟨#[]⟩, .int .i64 0, .int .i64 0, .slice none 0 0, .slice none 0 0] 25)) f0 36 (by simp)
  have hz0 : w.heap.size + 2 < W0.heap.size := (HF0.out 0 _ rfl).lt
  have HBL0 : Hid (Below w.heap.size w W0) := hb0
  have k1 := caughtA_any t htl W0 w.heap.size (HS0.out 0 _ rfl).c (HS0.out 0 _ rfl).lt (hG.at hb0)
  obtain ⟨r, hr⟩ : ∃ r, readT t = r := ⟨_, rfl⟩
  have HRR : Hid (readT t = r) := hr
  clear hb0 hr
  go_enter Tryz.func8, Tryz.ntmps8
  go_wp2_with fail
  clear hW0
  refine k1.mono ?_
  rintro e w1 ⟨he, hb1⟩
  rw [HRR.out] at he
  have HBL1 : Hid (Below w.heap.size w w1) := bt HBL0.out hb1
  have HB1 : Hid (Bx w1 (w.heap.size + 1) z6) := HB0.out.at hb1
  have HF1 : Hid (Bx w1 (w.heap.size + 2) f0) := HF0.out.at hb1
  clear k1 hb1 HB0 HF0 HS0
  cases r with
  | error x =>
    obtain ⟨c, x⟩ := x
    subst he
    have z0 := (HB1.out 0 _ rfl).c
    have z1 := (HB1.out 1 _ rfl).c
    have z2 := (HB1.out 2 _ rfl).c
    have z3 := (HB1.out 3 _ rfl).c
    have z4 := (HB1.out 4 _ rfl).c
    have z5 := (HB1.out 5 _ rfl).c
    have y0 := (HB1.out 0 _ rfl).f
    have y1 := (HB1.out 1 _ rfl).f
    have y2 := (HB1.out 2 _ rfl).f
    have y3 := (HB1.out 3 _ rfl).f
    have y4 := (HB1.out 4 _ rfl).f
    have y5 := (HB1.out 5 _ rfl).f
    have p0 := (HF1.out 0 _ rfl).c
    have p1 := (HF1.out 1 _ rfl).c
    have q0 := (HF1.out 0 _ rfl).f
    have q1 := (HF1.out 1 _ rfl).f
    obtain ⟨W7, hW7⟩ : ∃ W7, ((set6 w1 (w.heap.size + 1) (.int .i64 0) (.string ⟨#[]⟩) (.int .i64 0) (.int .i64 0) (.slice none 0 0) (.slice none 0 0)).setCell ⟨w.heap.size + 2, 0, none⟩ (.int .i64 c)).setCell ⟨w.heap.size + 2, 1, none⟩ (.int .i64 (x : Int)) = W7 := ⟨_, rfl⟩
    have HB7 : Hid (Bx W7 (w.heap.size + 1) [.int .i64 0, .string ⟨#[]⟩, .int .i64 0, .int .i64 0, .slice none 0 0, .slice none 0 0]) := hW7 ▸ ((set6_bx HB1.out _ _ _ _ _ _).oth (by omega) _).oth (by omega) _
    have HF6 : Hid (Bx (set6 w1 (w.heap.size + 1) (.int .i64 0) (.string ⟨#[]⟩) (.int .i64 0) (.int .i64 0) (.slice none 0 0) (.slice none 0 0)) (w.heap.size + 2) f0) := (((((HF1.out.oth (by omega) _).oth (by omega) _).oth (by omega) _).oth (by omega) _).oth (by omega) _).oth (by omega) _
    have HF7 : Hid (Bx W7 (w.heap.size + 2) [.int .i64 c, .int .i64 (x : Int)]) := hW7 ▸ (HF6.out.set (i := 0) (by simp) _).set (i := 1) (by simp) _
    have HG7 : Hid (w.grownBy W7 none) := hW7 ▸ gb_new (gb_new (set6_gb (gb_none HBL1.out) (by omega) _ _ _ _ _ _) (p := ⟨w.heap.size + 2, 0, none⟩) (by dsimp only; omega) _) (p := ⟨w.heap.size + 2, 1, none⟩) (by dsimp only; omega) _
    unfold set6 at hW7
    go_wp2
    have x0 := (HB7.out 0 _ rfl).c
    have x1 := (HB7.out 1 _ rfl).c
    have x2 := (HB7.out 2 _ rfl).c
    have x3 := (HB7.out 3 _ rfl).c
    have x4 := (HB7.out 4 _ rfl).c
    have x5 := (HB7.out 5 _ rfl).c
    have f0 := (HF7.out 0 _ rfl).c
    have f1 := (HF7.out 1 _ rfl).c
    exact bodyPost_ret (v := .tuple #[.agg #[.int .i64 0, .string ⟨#[]⟩, .int .i64 0, .int .i64 0, .slice none 0 0, .slice none 0 0], .agg #[.int .i64 c, .int .i64 (x : Int)]]) (by simp [results, Tryz.results8, go_sem, x0, x1, x2, x3, x4, x5, f0, f1]) rfl ⟨by rw [HRR.out], ⟨HG7.out.os, HG7.out.tape, HG7.out.output, HG7.out.size, fun k hk => HG7.out.block k hk (by simp)⟩⟩
  | ok a1 =>
    obtain ⟨cs, rfl, hqv⟩ := he
    obtain ⟨xk, xc, xl, xh, xa4, xn4, xc4, xa5, xn5, xc5, rfl⟩ := hqv.six
    have HQ1 : Hid (QV W0.heap.size w1 a1 [.int .i64 xk, .string (tx xc), .int .i64 xl, .int .i64 xh, .slice xa4 xn4 xc4, .slice xa5 xn5 xc5]) := hqv
    clear hqv
    have z0 := (HB1.out 0 _ rfl).c
    have z1 := (HB1.out 1 _ rfl).c
    have z2 := (HB1.out 2 _ rfl).c
    have z3 := (HB1.out 3 _ rfl).c
    have z4 := (HB1.out 4 _ rfl).c
    have z5 := (HB1.out 5 _ rfl).c
    have y0 := (HB1.out 0 _ rfl).f
    have y1 := (HB1.out 1 _ rfl).f
    have y2 := (HB1.out 2 _ rfl).f
    have y3 := (HB1.out 3 _ rfl).f
    have y4 := (HB1.out 4 _ rfl).f
    have y5 := (HB1.out 5 _ rfl).f
    have p0 := (HF1.out 0 _ rfl).c
    have p1 := (HF1.out 1 _ rfl).c
    have q0 := (HF1.out 0 _ rfl).f
    have q1 := (HF1.out 1 _ rfl).f
    obtain ⟨W7, hW7⟩ : ∃ W7, ((set6 w1 (w.heap.size + 1) (.int .i64 xk) (.string (tx xc)) (.int .i64 xl) (.int .i64 xh) (.slice xa4 xn4 xc4) (.slice xa5 xn5 xc5)).setCell ⟨w.heap.size + 2, 0, none⟩ (.int .i64 0)).setCell ⟨w.heap.size + 2, 1, none⟩ (.int .i64 0) = W7 := ⟨_, rfl⟩
    have HB7 : Hid (Bx W7 (w.heap.size + 1) [.int .i64 xk, .string (tx xc), .int .i64 xl, .int .i64 xh, .slice xa4 xn4 xc4, .slice xa5 xn5 xc5]) := hW7 ▸ ((set6_bx HB1.out _ _ _ _ _ _).oth (by omega) _).oth (by omega) _
    have HF6 : Hid (Bx (set6 w1 (w.heap.size + 1) (.int .i64 xk) (.string (tx xc)) (.int .i64 xl) (.int .i64 xh) (.slice xa4 xn4 xc4) (.slice xa5 xn5 xc5)) (w.heap.size + 2) f0) := (((((HF1.out.oth (by omega) _).oth (by omega) _).oth (by omega) _).oth (by omega) _).oth (by omega) _).oth (by omega) _
    have HF7 : Hid (Bx W7 (w.heap.size + 2) [.int .i64 0, .int .i64 0]) := hW7 ▸ (HF6.out.set (i := 0) (by simp) _).set (i := 1) (by simp) _
    have HG7 : Hid (w.grownBy W7 none) := hW7 ▸ gb_new (gb_new (set6_gb (gb_none HBL1.out) (by omega) _ _ _ _ _ _) (p := ⟨w.heap.size + 2, 0, none⟩) (by dsimp only; omega) _) (p := ⟨w.heap.size + 2, 1, none⟩) (by dsimp only; omega) _
    have HQ7 : Hid (QV w.heap.size W7 a1 [.int .i64 xk, .string (tx xc), .int .i64 xl, .int .i64 xh, .slice xa4 xn4 xc4, .slice xa5 xn5 xc5]) := hW7 ▸ QV.mono (by omega) a1 (QV.kp (((set6_kp (by omega) _ _ _ _ _ _).trans (Kp.put (by omega) 0 _)).trans (Kp.put (by omega) 1 _)) a1 HQ1.out)
    unfold set6 at hW7
    go_wp2
    have x0 := (HB7.out 0 _ rfl).c
    have x1 := (HB7.out 1 _ rfl).c
    have x2 := (HB7.out 2 _ rfl).c
    have x3 := (HB7.out 3 _ rfl).c
    have x4 := (HB7.out 4 _ rfl).c
    have x5 := (HB7.out 5 _ rfl).c
    have f0 := (HF7.out 0 _ rfl).c
    have f1 := (HF7.out 1 _ rfl).c
    exact bodyPost_ret (v := .tuple #[.agg #[.int .i64 xk, .string (tx xc), .int .i64 xl, .int .i64 xh, .slice xa4 xn4 xc4, .slice xa5 xn5 xc5], .agg #[.int .i64 0, .int .i64 0]]) (by simp [results, Tryz.results8, go_sem, x0, x1, x2, x3, x4, x5, f0, f1]) rfl ⟨by rw [HRR.out]; exact ⟨_, rfl, HQ7.out⟩, ⟨HG7.out.os, HG7.out.tape, HG7.out.output, HG7.out.size, fun k hk => HG7.out.block k hk (by simp)⟩⟩
end Go.Proofs.YtidfkencjdjkbaaGreatDoor

/-
  PACKAGE speech, Print: questions that come in; form, shaped.
-/
namespace Go.Proofs.YtidfkencjdjkbaaGreatDoor
open Go.RowKit Sp

/-- tests that came in -/
def TI (w : World) (B : Nat) (l : List Tst) (v : Value) : Prop :=
  ∃ a c, v = .slice a l.length c ∧ l.length ≤ c ∧ l.length ≤ 9223372036854775807 ∧ (∀ t ∈ l, t.1.length ≤ 9223372036854775807 ∧ (-9223372036854775808 ≤ t.2.1 ∧ t.2.1 ≤ 9223372036854775807) ∧ (-9223372036854775808 ≤ t.2.2 ∧ t.2.2 ≤ 9223372036854775807)) ∧ (l ≠ [] → ∃ b o, a = some ⟨b, o, none⟩ ∧ b < B ∧ ∀ (i : Nat) t, l[i]? = some t → ∀ (j : Nat) u, ([.string (tx t.1), .int .i64 t.2.1, .int .i64 t.2.2] : List Value)[j]? = some u → w.cell? ⟨b, o + i * 3 + j, none⟩ = some u)
theorem TI.keep {w w' : World} {B : Nat} {l : List Tst} {v : Value} (h : TI w B l v) (hb : Below B w w') : TI w' B l v := by
  obtain ⟨a, c, h1, h2, h3, h4, h5⟩ := h
  refine ⟨a, c, h1, h2, h3, h4, fun hne => ?_⟩
  obtain ⟨b, o, e1, e2, e3⟩ := h5 hne
  exact ⟨b, o, e1, e2, fun i t ht j u hu => (hb.cell (p := ⟨b, o + i * 3 + j, none⟩) e2).trans (e3 i t ht j u hu)⟩
/-- a question that came in: its six cells; of kids only the first two are told, and only where there are no more -/
def QI (w : World) (B : Nat) : Qu → List Value → Prop
  | .none, _ => False
  | .node k c l h wh n x y, cs => ∃ wv ka kc, cs = [.int .i64 k, .string (tx c), .int .i64 l, .int .i64 h, wv, .slice ka n kc] ∧ TI w B wh wv ∧ n ≤ kc ∧ n ≤ 9223372036854775807 ∧ c.length ≤ 9223372036854775807 ∧ (-9223372036854775808 ≤ k ∧ k ≤ 9223372036854775807) ∧ (-9223372036854775808 ≤ l ∧ l ≤ 9223372036854775807) ∧ (-9223372036854775808 ≤ h ∧ h ≤ 9223372036854775807) ∧
    (n = 0 → x = .none) ∧ (n ≤ 1 → y = .none) ∧
    (1 ≤ n → n ≤ 2 → ∃ b o, ka = some ⟨b, o, none⟩ ∧ b < B ∧ (∃ xs, QI w B x xs ∧ ∀ (j : Nat) u, xs[j]? = some u → w.cell? ⟨b, o + j, none⟩ = some u) ∧ (2 ≤ n → ∃ ys, QI w B y ys ∧ ∀ (j : Nat) u, ys[j]? = some u → w.cell? ⟨b, o + 6 + j, none⟩ = some u))
theorem QI.keep {w w' : World} {B : Nat} (hb : Below B w w') : ∀ (q : Qu) {cs : List Value}, QI w B q cs → QI w' B q cs
  | .none, _, h => h
  | .node k c l h' wh n x y, cs, h => by
    obtain ⟨wv, ka, kc, h1, h2, h3, h4, h5, h6, h7, h8, h9, h10, h11⟩ := h
    refine ⟨wv, ka, kc, h1, h2.keep hb, h3, h4, h5, h6, h7, h8, h9, h10, fun n1 n2 => ?_⟩
    obtain ⟨b, o, e1, e2, ⟨xs, e3, e4⟩, e5⟩ := h11 n1 n2
    refine ⟨b, o, e1, e2, ⟨xs, QI.keep hb x e3, fun j u hu => (hb.cell (p := ⟨b, o + j, none⟩) e2).trans (e4 j u hu)⟩, fun n3 => ?_⟩
    obtain ⟨ys, e6, e7⟩ := e5 n3
    exact ⟨ys, QI.keep hb y e6, fun j u hu => (hb.cell (p := ⟨b, o + 6 + j, none⟩) e2).trans (e7 j u hu)⟩
theorem form_ok (w : World) : Calls Tryz.prog 33 #[.bool true] w fun e w' => e = .returned (.tuple #[]) ∧ w' = w := by
  have k := must_ok 2 0 w
  go_enter Tryz.func33, Tryz.ntmps33
  go_wp2_with fail
  refine k.mono ?_
  rintro e w1 ⟨rfl, rfl⟩
  go_wp2
  go_end0
  exact ⟨rfl, rfl⟩
theorem form_no (w : World) : Calls Tryz.prog 33 #[.bool false] w fun e w' => e = .panicked (chn 2 0) ∧ w' = w := by
  have k := must_no 2 0 w
  go_enter Tryz.func33, Tryz.ntmps33
  go_wp2_with fail
  refine k.mono ?_
  rintro e w1 ⟨rfl, rfl⟩
  go_wp2
  exact ⟨rfl, rfl, rfl⟩
/-- kids, whether it has a column, the least and the greatest Low, how great High may be, how many tests -/
abbrev Shp := Int × Bool × Int × Int × Int × Int
def shpT (k : Int) : Option Shp :=
  if k = 1 then some (0, false, 0, 0, 0, 64) else if k = 2 then some (0, true, -1048576, 1048576, 1048576, 64) else if k = 3 then some (0, true, 0, 0, 0, 64)
  else if k = 4 ∨ k = 5 ∨ k = 7 then some (2, false, 0, 0, 0, 0) else if k = 6 then some (1, false, -1048576, 1048576, 0, 0) else if k = 8 then some (1, false, 0, 0, 0, 0)
  else if k = 9 then some (1, false, 0, 1048576, 0, 0) else if k = 10 then some (1, false, -1048576, 1048576, 1048576, 0) else none
abbrev shV (s : Shp) : Value := .agg #[.int .i64 s.1, .bool s.2.1, .int .i64 s.2.2.1, .int .i64 s.2.2.2.1, .int .i64 s.2.2.2.2.1, .int .i64 s.2.2.2.2.2]
end Go.Proofs.YtidfkencjdjkbaaGreatDoor

/-
  PACKAGE speech, Print: a writer: a strings.Builder and what was written last, in a block of three cells.
-/
namespace Go.Proofs.YtidfkencjdjkbaaGreatDoor
open Go.RowKit Sp

/-- a writer in block R: what 'addr' holds; the text so far; what was written last -/
def WtA (w : World) (B R : Nat) (p : Value) (t last : By) : Prop :=
  B ≤ R ∧ ∃ v, w.heap[R]? = some (.cells #[p, v, .string (tx last)] 87 (0, 0)) ∧ w.ownsRow B 5 1 v t.length (Lib.byteCells t) ∧ v.ownBlock ≠ some R
def Wtr (w : World) (B R : Nat) (t last : By) : Prop := WtA w B R (.pointer none) t last ∨ WtA w B R (.pointer (some ⟨R, 0, none⟩)) t last
/-- what stays -/
structure Kpw (B R : Nat) (w w' : World) : Prop where
  b : Below B w w'
  o : Lib.OthersKept 5 (some R) w w'
theorem Kpw.refl (B R : Nat) (w : World) : Kpw B R w w := ⟨Below.refl B w, Lib.OthersKept.refl 5 (some R) w⟩
theorem Kpw.trans {B R : Nat} {a b c : World} (h : Kpw B R a b) (k : Kpw B R b c) : Kpw B R a c := ⟨h.b.trans k.b, h.o.trans k.o⟩
theorem WtA.lt {w : World} {B R : Nat} {p : Value} {t last : By} (h : WtA w B R p t last) : R < w.heap.size := by
  obtain ⟨_, v, hb, _⟩ := h
  rcases Nat.lt_or_ge R w.heap.size with h' | h'
  · exact h'
  · simp [Array.getElem?_eq_none h'] at hb
theorem Wtr.lt {w : World} {B R : Nat} {t last : By} (h : Wtr w B R t last) : R < w.heap.size := h.elim (·.lt) (·.lt)
theorem Wtr.one {w : World} {B R : Nat} {t last : By} (h : Wtr w B R t last) : ∃ p, WtA w B R p t last := h.elim (⟨_, ·⟩) (⟨_, ·⟩)
theorem WtA.used {w : World} {B R : Nat} {p : Value} {t last : By} (h : WtA w B R p t last) (q : Value) : WtA (w.setCell ⟨R, 0, none⟩ q) B R q t last := by
  obtain ⟨hB, v, hb, hown, hne⟩ := h
  refine ⟨hB, v, ?_, ?_, hne⟩
  · simp [World.setCell, Array.getElem?_modify, hb]
  · exact hown.kept (row := some R) ⟨rfl, rfl, rfl, by simp [World.setCell], fun k _ hk => Below.heap_setCell _ _ _ _ (fun e => hk (by simp [e]))⟩ (Or.inr hne)
/-- another last piece -/
theorem WtA.last {w : World} {B R : Nat} {p : Value} {t last : By} (h : WtA w B R p t last) (s : By) : WtA (w.setCell ⟨R, 2, none⟩ (.string (tx s))) B R p t s := by
  obtain ⟨hB, v, hb, hown, hne⟩ := h
  refine ⟨hB, v, ?_, ?_, hne⟩
  · simp [World.setCell, Array.getElem?_modify, hb]
  · exact hown.kept (row := some R) ⟨rfl, rfl, rfl, by simp [World.setCell], fun k _ hk => Below.heap_setCell _ _ _ _ (fun e => hk (by simp [e]))⟩ (Or.inr hne)
theorem WtA.put {w : World} {B R : Nat} {p v v' : Value} {t last : By} (hB : B ≤ R) (hb : w.heap[R]? = some (.cells #[p, v, .string (tx last)] 87 (0, 0))) (hown : w.ownsRow B 5 1 v' t.length (Lib.byteCells t)) : WtA (w.setCell ⟨R, 1, none⟩ v') B R p t last := by
  have hne := Lib.ownBlock_ne hown hb (by decide)
  refine ⟨hB, v', ?_, ?_, hne⟩
  · simp [World.setCell, Array.getElem?_modify, hb]
  · exact hown.kept (row := some R) ⟨rfl, rfl, rfl, by simp [World.setCell], fun k _ hk => Below.heap_setCell _ _ _ _ (fun e => hk (by simp [e]))⟩ (Or.inr hne)
/-- a writer stands where other blocks change -/
theorem WtA.kept {w w' : World} {B R : Nat} {p : Value} {t last : By} (h : WtA w B R p t last) (hb : Below w.heap.size w w') : WtA w' B R p t last := by
  obtain ⟨hB, v, hk, hown, hne⟩ := h
  have hlt : R < w.heap.size := WtA.lt ⟨hB, v, hk, hown, hne⟩
  refine ⟨hB, v, (hb.block R hlt).trans hk, hown.kept (row := none) ⟨hb.os, hb.tape, hb.output, hb.size, fun k hk _ => hb.block k hk⟩ ?_, hne⟩
  by_cases e : v.ownBlock = none
  · exact .inl e
  · exact .inr e
theorem Wtr.kept {w w' : World} {B R : Nat} {t last : By} (h : Wtr w B R t last) (hb : Below w.heap.size w w') : Wtr w' B R t last := h.imp (·.kept hb) (·.kept hb)
theorem info82 : (Tryz.prog.info? 85).map (·.size) = some 2 := by kernel_rfl
theorem lies84 : liesAt Tryz.prog Tryz.prog.depth 87 (3 / Tryz.prog.cellsOf 87) 0 85 1 = true := by kernel_rfl
set_option maxHeartbeats 1000000 in
set_option maxRecDepth 100000 in
theorem cc_used (R : Nat) (w : World) (h0 : w.cell? ⟨R, 0, none⟩ = some (.pointer (some ⟨R, 0, none⟩))) : Calls Tryz.prog 109 #[.pointer (some ⟨R, 0, none⟩)] w fun e w' => e = .returned (.tuple #[]) ∧ w' = w := by
  obtain ⟨j, hj, _⟩ := Option.map_eq_some_iff.1 info82
  go_enter Tryz.func109, Tryz.ntmps109
  go_wp2
  rw [Lib.run_neq_ptr_same w _ Tryz.underlying82 hj]
  go_wp2
  go_end0
  exact ⟨rfl, rfl⟩
set_option maxHeartbeats 1000000 in
set_option maxRecDepth 100000 in
theorem cc_fresh (R : Nat) (w : World) (h0 : w.cell? ⟨R, 0, none⟩ = some (.pointer none)) (hsh : w.shape? R = some (87, 3)) (hfz : w.frozen? ⟨R, 0, none⟩ = false) : Calls Tryz.prog 109 #[.pointer (some ⟨R, 0, none⟩)] w fun e w' => e = .returned (.tuple #[]) ∧ w' = w.setCell ⟨R, 0, none⟩ (.pointer (some ⟨R, 0, none⟩)) := by
  obtain ⟨j, hj, hjs⟩ := Option.map_eq_some_iff.1 info82
  go_enter Tryz.func109, Tryz.ntmps109
  go_wp2
  rw [Lib.run_to_unsafe w ⟨R, 0, none⟩ Tryz.underlying82 Tryz.underlying147 hj (by rw [hjs]; decide) hsh (Nat.zero_lt_succ 2)]
  simp only [Result.andThen]
  rw [Oper.upon_value]
  go_wp2
  rw [run_callFunc_extern Tryz.func124 (by kernel_rfl) (by kernel_rfl) (by kernel_rfl) (e := Extern.AbiNoEscape.same) (by kernel_rfl)]
  rw [Lib.run_noEscape]
  simp only [Result.andThen]
  rw [Oper.upon_value]
  go_wp2
  rw [Lib.run_from_unsafe w ⟨R, 0, none⟩ Tryz.underlying147 Tryz.underlying82 hj hsh lies84]
  simp only [Result.andThen]
  rw [Oper.upon_value]
  go_wp2
  go_end0
  exact ⟨rfl, rfl⟩
theorem cc_any {w : World} {B R : Nat} {t last : By} (h : Wtr w B R t last) : Calls Tryz.prog 109 #[.pointer (some ⟨R, 0, none⟩)] w fun e w' => e = .returned (.tuple #[]) ∧ WtA w' B R (.pointer (some ⟨R, 0, none⟩)) t last ∧ Kpw B R w w' := by
  rcases h with h | h
  · obtain ⟨hB, v, hb, _⟩ := id h
    refine (cc_fresh R w (by rw [Lib.cell_of_heap hb]; rfl) (by simp [World.shape?, hb]) (Lib.frozen_of_heap hb 0)).mono ?_
    rintro e w' ⟨rfl, rfl⟩
    exact ⟨rfl, h.used _, (Below.refl B w).setCell (p := ⟨R, 0, none⟩) h.1 _, (Lib.OthersKept.refl _ _ w).setCell ⟨R, 0, none⟩ rfl _⟩
  · obtain ⟨hB, v, hb, _⟩ := id h
    refine (cc_used R w (by rw [Lib.cell_of_heap hb]; rfl)).mono ?_
    rintro e w' ⟨rfl, rfl⟩
    exact ⟨rfl, h, Kpw.refl B R _⟩
theorem len_any {w : World} {B R : Nat} {t last : By} (h : Wtr w B R t last) : Calls Tryz.prog 97 #[.pointer (some ⟨R, 0, none⟩)] w fun e w' => e = .returned (.int .i64 t.length) ∧ w' = w := by
  obtain ⟨p, hB, v, hbk, hown, hne⟩ := h.one
  obtain ⟨ao, cap, rfl⟩ : ∃ ao cap, v = .slice ao t.length cap := by
    rcases hown.2 with ⟨hv, h0⟩ | ⟨g, cap, cur, hv, _⟩
    · exact ⟨none, 0, by rw [hv, h0]⟩
    · exact ⟨_, _, hv⟩
  have c1 : w.cell? ⟨R, 1, none⟩ = some (.slice ao t.length cap) := by rw [Lib.cell_of_heap hbk]; rfl
  go_enter Tryz.func97, Tryz.ntmps97
  go_wp2
  go_ret
  exact ⟨rfl, rfl⟩
theorem ob_row {w : World} {B : Nat} {v : Value} {n : Nat} {xs : List Value} (h : w.ownsRow B 5 1 v n xs) : ∀ g, v.ownBlock = some g → ∃ c fz, w.heap[g]? = some (.cells c 5 fz) := by
  intro g hg
  rcases h.2 with ⟨rfl, _⟩ | ⟨g', cap, cur, rfl, _, hg', _⟩
  · simp [Value.ownBlock] at hg
  · simp only [Value.ownBlock, Option.some.injEq] at hg
    subst hg
    exact ⟨_, _, hg'⟩
set_option maxHeartbeats 2000000 in
set_option maxRecDepth 100000 in
theorem wstr_any {w : World} {B R : Nat} {t last : By} (h : Wtr w B R t last) (s : By) (hlen : t.length + s.length ≤ 140737488355328) (hBw : B ≤ w.heap.size) : Calls Tryz.prog 96 #[.pointer (some ⟨R, 0, none⟩), .string (tx s)] w fun e w' => (∃ x, e = .returned x) ∧ Wtr w' B R (t ++ s) last ∧ Kpw B R w w' := by
  obtain ⟨i0, hi, hz0, hz1, hz2⟩ := info_parts (P := Tryz.prog) (e := 5) (z := .int .u8 0) (size := 1) (bytes := 1) (by kernel_rfl)
  have hss : (tx s).size = s.length := by simp [ByteArray.size]
  go_enter Tryz.func96, Tryz.ntmps96
  go_wp2_with (go_at_call 109; refine (cc_any h).mono ?_)
  rintro e w1 ⟨rfl, ⟨hB, v, hbk, hown, hne⟩, hk1⟩
  have c0 : w1.cell? ⟨R, 0, none⟩ = some (.pointer (some ⟨R, 0, none⟩)) := by rw [Lib.cell_of_heap hbk]; rfl
  have c1 : w1.cell? ⟨R, 1, none⟩ = some v := by rw [Lib.cell_of_heap hbk]; rfl
  go_wp2_with (at_builtin; refine Lib.wpList_append_own_string _ rfl _ _ 83 9 rfl B 5 i0 Tryz.underlying83 Tryz.underlying9 hi hz0 hz1 hz2 _ _ _ rfl hown (tx s) rfl ?c3 ?c4 ?c5 ?_)
  case c3 => rw [hss]; unfold maxLen; omega
  case c4 => rw [hss]; omega
  case c5 => have := hk1.b.size; omega
  intro v' w2 hown' hgrow _
  have hlt : R < w1.heap.size := by
    rcases Nat.lt_or_ge R w1.heap.size with h' | h'
    · exact h'
    · simp [Array.getElem?_eq_none h'] at hbk
  have hb2 : w2.heap[R]? = some (.cells #[.pointer (some ⟨R, 0, none⟩), v, .string (tx last)] 87 (0, 0)) := by
    rw [hgrow.block R hlt (fun e => hne e.symm)]
    exact hbk
  have d0 : w2.cell? ⟨R, 0, none⟩ = some (.pointer (some ⟨R, 0, none⟩)) := by rw [Lib.cell_of_heap hb2]; rfl
  have d1 : w2.cell? ⟨R, 1, none⟩ = some v := by rw [Lib.cell_of_heap hb2]; rfl
  have f1 : w2.frozen? ⟨R, 1, none⟩ = false := Lib.frozen_of_heap hb2 1
  obtain ⟨ao, n', cap, rfl⟩ : ∃ ao n' cap, v' = .slice ao n' cap := by
    rcases hown'.2 with ⟨hv, _⟩ | ⟨g, cap, cur, hv, _⟩
    · exact ⟨_, _, _, hv⟩
    · exact ⟨_, _, _, hv⟩
  go_wp2
  go_ret2
  refine ⟨⟨_, rfl⟩, .inr ?_, ⟨?_, ?_⟩⟩
  · exact WtA.put hB hb2 (t := t ++ s) (by simpa [Lib.byteCells_append, Lib.strCells_eq] using hown')
  · exact (hk1.b.grown hgrow (by have := hk1.b.size; omega) (fun k hk => (hown.lt k hk).1)).setCell (p := ⟨R, 1, none⟩) hB _
  · exact (hk1.o.grown hgrow (ob_row hown)).setCell ⟨R, 1, none⟩ rfl _
end Go.Proofs.YtidfkencjdjkbaaGreatDoor

/-
  PACKAGE speech, Print: pieces are written: apart, put.
-/
namespace Go.Proofs.YtidfkencjdjkbaaGreatDoor
open Go.RowKit Sp

/-- pieces, one behind the other, with spaces where they stand -/
def wrs (last : By) : List By → By
  | [] => []
  | s :: r => (if apt last s then [32] else []) ++ (s ++ wrs s r)
def lsT (last : By) : List By → By
  | [] => last
  | s :: r => lsT s r
theorem wrt_wrs (last : By) (cs : List Ck) : wrt last cs = wrs last (cs.map Ck.txt) := by
  induction cs generalizing last with
  | nil => rfl
  | cons c r ih => simp [wrt, wrs, ih]
theorem wrs_app (last : By) (l r : List By) : wrs last (l ++ r) = wrs last l ++ wrs (lsT last l) r := by
  induction l generalizing last with
  | nil => rfl
  | cons s l ih => simp [wrs, lsT, ih]
theorem lsT_app (last : By) (l r : List By) : lsT last (l ++ r) = lsT (lsT last l) r := by
  induction l generalizing last with
  | nil => rfl
  | cons s l ih => simp [lsT, ih]
/-- texts, a row of one's own -/
def Txs (w : World) (S : Nat) (l : List By) : Prop := w.heap[S]? = some (.cells (l.map fun s => Value.string (tx s)).toArray 9 (0, 0))
theorem Txs.kept {w w' : World} {B R S : Nat} {l : List By} (h : Txs w S l) (hn : S ≠ R) (k : Kpw B R w w') : Txs w' S l :=
  k.o S _ h (by simpa using hn) (by intro c fz e; injection e with _ e2 _; exact absurd e2 (by decide))
theorem Txs.cell {w : World} {S : Nat} {l : List By} (h : Txs w S l) {i : Nat} {s : By} (hi : l[i]? = some s) : w.cell? ⟨S, i, none⟩ = some (.string (tx s)) := by
  rw [Lib.cell_of_heap h]
  simp [hi]
def PtP (B R : Nat) (w : World) (t last : By) (l : List By) (e : Ending) (w' : World) : Prop :=
  (if (t ++ wrs last l).length ≤ 65536 then e = .returned (.tuple #[]) ∧ Wtr w' B R (t ++ wrs last l) (lsT last l) else e = .panicked (chn 4 0)) ∧ Kpw B R w w'
theorem apart_any (x y : By) (b : Bool) (hb : apt x y = b) (w : World) : Calls Tryz.prog 94 #[.string (tx x), .string (tx y)] w fun e w' => e = .returned (.bool b) ∧ w' = w := by
  have HB : Hid (apt x y = b) := hb
  clear hb
  obtain ⟨b1, h1⟩ : ∃ b1, decide (x = []) = b1 := ⟨_, rfl⟩
  obtain ⟨b2, h2⟩ : ∃ b1, decide (x = [40]) = b1 := ⟨_, rfl⟩
  obtain ⟨b3, h3⟩ : ∃ b1, decide (x = [91]) = b1 := ⟨_, rfl⟩
  obtain ⟨b4, h4⟩ : ∃ b1, decide (y = [41]) = b1 := ⟨_, rfl⟩
  obtain ⟨b5, h5⟩ : ∃ b1, decide (y = [93]) = b1 := ⟨_, rfl⟩
  obtain ⟨b6, h6⟩ : ∃ b1, decide (y = [91]) = b1 := ⟨_, rfl⟩
  obtain ⟨b7, h7⟩ : ∃ b1, decide (y = [44]) = b1 := ⟨_, rfl⟩
  have q1 := eqs x _ b1 h1
  have q2 := eqs x _ b2 h2
  have q3 := eqs x _ b3 h3
  have q4 := eqs y _ b4 h4
  have q5 := eqs y _ b5 h5
  have q6 := eqs y _ b6 h6
  have q7 := eqs y _ b7 h7
  have p1 : (x == []) = b1 := by rw [by_beq]; exact h1
  have p2 : (x == [40]) = b2 := by rw [by_beq]; exact h2
  have p3 : (x == [91]) = b3 := by rw [by_beq]; exact h3
  have p4 : (y == [41]) = b4 := by rw [by_beq]; exact h4
  have p5 : (y == [93]) = b5 := by rw [by_beq]; exact h5
  have p6 : (y == [91]) = b6 := by rw [by_beq]; exact h6
  have p7 : (y == [44]) = b7 := by rw [by_beq]; exact h7
  have HE : Hid (b = (!(b1 || (b2 || b3)) && !(b4 || (b5 || (b6 || b7))))) := by
    rw [Hid, ← HB.out, ← h1, ← h2, ← h3, ← h4, ← h5, ← h6, ← h7]
    simp [apt]
  clear h1 h2 h3 h4 h5 h6 h7 HB
  go_enter Tryz.func94, Tryz.ntmps94
  cases b1
  · cases b2
    · cases b3
      · cases b4
        · cases b5
          · cases b6
            · cases b7
              · go_wp2
                go_ret
                exact ⟨by rw [HE.out]; rfl, rfl⟩
              · go_wp2
                go_ret
                exact ⟨by rw [HE.out]; rfl, rfl⟩
            · go_wp2
              go_ret
              exact ⟨by rw [HE.out]; rfl, rfl⟩
          · go_wp2
            go_ret
            exact ⟨by rw [HE.out]; rfl, rfl⟩
        · go_wp2
          go_ret
          exact ⟨by rw [HE.out]; rfl, rfl⟩
      · go_wp2
        go_ret
        exact ⟨by rw [HE.out]; rfl, rfl⟩
    · go_wp2
      go_ret
      exact ⟨by rw [HE.out]; rfl, rfl⟩
  · go_wp2
    go_ret
    exact ⟨by rw [HE.out]; rfl, rfl⟩
/-- one piece -/
theorem wrs_one (last s : By) : wrs last [s] = (if apt last s then [32] else []) ++ s := by simp [wrs]
theorem wbyt_any {w : World} {B R : Nat} {t last : By} (h : Wtr w B R t last) (hlen : t.length + 1 ≤ 140737488355328) (hBw : B ≤ w.heap.size) : Calls Tryz.prog 95 #[.pointer (some ⟨R, 0, none⟩), .int .u8 32] w fun e w' => (∃ x, e = .returned x) ∧ Wtr w' B R (t ++ [32]) last ∧ Kpw B R w w' := by
  obtain ⟨i0, hi, hz0, hz1, hz2⟩ := info_parts (P := Tryz.prog) (e := 5) (z := .int .u8 0) (size := 1) (bytes := 1) (by kernel_rfl)
  go_enter Tryz.func95, Tryz.ntmps95
  go_wp2_with (go_at_call 109; refine (cc_any h).mono ?_)
  rintro e w1 ⟨rfl, ⟨hB, v, hbk, hown, hne⟩, hk1⟩
  have c0 : w1.cell? ⟨R, 0, none⟩ = some (.pointer (some ⟨R, 0, none⟩)) := by rw [Lib.cell_of_heap hbk]; rfl
  have c1 : w1.cell? ⟨R, 1, none⟩ = some v := by rw [Lib.cell_of_heap hbk]; rfl
  have hsz := hk1.b.size
  go_wp2_with (at_builtin; refine wpList_append_own _ rfl _ _ 83 rfl B 5 i0 (.int .u8 0) 1 1 Tryz.underlying83 hi hz0 hz1 hz2 rfl (by decide) _ _ _ rfl (hown.alloc _) ⟨w1.heap.size, 0, none⟩ 1 1 [.int .u8 32] rfl rfl ?c1 ?c2 ?c3 ?c4 ?c5 ?_)
  case c1 =>
    intro j u hj
    match j, hj with
    | 0, hj => simp at hj; subst hj; simp [Addr.add]
  case c2 => intro u hu; simp at hu; subst hu; rfl
  case c3 => unfold maxLen; omega
  case c4 => omega
  case c5 => simp; omega
  intro v' w2 hown' hgrow _
  have hlt : R < w1.heap.size := by
    rcases Nat.lt_or_ge R w1.heap.size with h' | h'
    · exact h'
    · simp [Array.getElem?_eq_none h'] at hbk
  have hb2 : w2.heap[R]? = some (.cells #[.pointer (some ⟨R, 0, none⟩), v, .string (tx last)] 87 (0, 0)) := by
    rw [hgrow.block R (by simp; omega) (fun e => hne e.symm)]
    exact (Lib.alloc_old w1 _ R hlt).trans hbk
  have d0 : w2.cell? ⟨R, 0, none⟩ = some (.pointer (some ⟨R, 0, none⟩)) := by rw [Lib.cell_of_heap hb2]; rfl
  have d1 : w2.cell? ⟨R, 1, none⟩ = some v := by rw [Lib.cell_of_heap hb2]; rfl
  have f1 : w2.frozen? ⟨R, 1, none⟩ = false := Lib.frozen_of_heap hb2 1
  obtain ⟨ao, n', cap, rfl⟩ : ∃ ao n' cap, v' = .slice ao n' cap := by
    rcases hown'.2 with ⟨hv, _⟩ | ⟨g, cap, cur, hv, _⟩
    · exact ⟨_, _, _, hv⟩
    · exact ⟨_, _, _, hv⟩
  go_wp2
  go_ret
  refine ⟨⟨_, rfl⟩, .inr ?_, ⟨?_, ?_⟩⟩
  · exact WtA.put hB hb2 (t := t ++ [32]) (by simpa [Lib.byteCells_append, Lib.byteCells] using hown')
  · exact ((hk1.b.alloc (by omega) _).grown hgrow (by simp; omega) (fun k hk => (hown.lt k hk).1)).setCell (p := ⟨R, 1, none⟩) hB _
  · exact ((hk1.o.alloc _).grown hgrow (ob_row (hown.alloc _))).setCell ⟨R, 1, none⟩ rfl _
end Go.Proofs.YtidfkencjdjkbaaGreatDoor
