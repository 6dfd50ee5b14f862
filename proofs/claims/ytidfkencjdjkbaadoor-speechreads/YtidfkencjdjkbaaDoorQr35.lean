import Derived.Test.YtidfkencjdjkbaaDoorQr34
/-
  The document's own answer, chapter 15: questions in memory, by any set of blocks, with any room behind their kids.
-/
namespace Go.Proofs.YtidfkencjdjkbaaDoor
open Go.RowKit Sp

/-- a question's six cells; what it leads to lies in the blocks of G -/
def QN (G : Nat → Prop) (w : World) : Qu → List Value → Prop
  | .none, _ => False
  | .node k c l h wh n x y, cs => ∃ wv kv, cs = [.int .i64 k, .string (tx c), .int .i64 l, .int .i64 h, wv, kv] ∧ TG G w wh wv ∧
    ((n = 0 ∧ kv = .slice none 0 0) ∨ (n = 1 ∧ ∃ g m xs, kv = .slice (some ⟨g, 0, none⟩) 1 m ∧ 1 ≤ m ∧ G g ∧ g < w.heap.size ∧ QN G w x xs ∧ ∀ (j : Nat) u, xs[j]? = some u → w.cell? ⟨g, j, none⟩ = some u) ∨
      (n = 2 ∧ ∃ g m xs ys, kv = .slice (some ⟨g, 0, none⟩) 2 m ∧ 2 ≤ m ∧ G g ∧ g < w.heap.size ∧ QN G w x xs ∧ QN G w y ys ∧ ∀ (j : Nat) u, (xs ++ ys)[j]? = some u → w.cell? ⟨g, j, none⟩ = some u))
theorem QN.kp {w w' : World} {G G' : Nat → Prop} (hk : KG G w w') (hG : ∀ g, G g → g < w.heap.size → G' g) : ∀ (q : Qu) {cs : List Value}, QN G w q cs → QN G' w' q cs
  | .none, _, h => h
  | .node k c l h' wh n x y, cs, h => by
    obtain ⟨wv, kv, h1, h2, h3⟩ := h
    refine ⟨wv, kv, h1, h2.kp hk hG, ?_⟩
    rcases h3 with h3 | ⟨h3, g, m, xs, e1, em, e2, e3, e4, e5⟩ | ⟨h3, g, m, xs, ys, e1, em, e2, e3, e4, e5, e6⟩
    · exact .inl h3
    · exact .inr (.inl ⟨h3, g, m, xs, e1, em, hG g e2 e3, Nat.lt_of_lt_of_le e3 hk.1, QN.kp hk hG x e4, fun j u hu => (hk.cell e2 e3).trans (e5 j u hu)⟩)
    · exact .inr (.inr ⟨h3, g, m, xs, ys, e1, em, hG g e2 e3, Nat.lt_of_lt_of_le e3 hk.1, QN.kp hk hG x e4, QN.kp hk hG y e5, fun j u hu => (hk.cell e2 e3).trans (e6 j u hu)⟩)
theorem QN.six {G : Nat → Prop} {w : World} {q : Qu} {cs : List Value} (h : QN G w q cs) : ∃ (k : Int) (c : By) (l h : Int) (a4 : Option Addr) (n4 c4 : Nat) (a5 : Option Addr) (n5 c5 : Nat), cs = [.int .i64 k, .string (tx c), .int .i64 l, .int .i64 h, .slice a4 n4 c4, .slice a5 n5 c5] := by
  cases q with
  | none => exact h.elim
  | node k c l h' wh n x y =>
    obtain ⟨wv, kv, rfl, h2, h3⟩ := h
    obtain ⟨a4, n4, c4, rfl⟩ : ∃ a n c, wv = .slice a n c := by
      rcases h2 with ⟨_, rfl⟩ | ⟨g, m, rfl, _⟩ <;> exact ⟨_, _, _, rfl⟩
    obtain ⟨a5, n5, c5, rfl⟩ : ∃ a n c, kv = .slice a n c := by
      rcases h3 with ⟨_, rfl⟩ | ⟨_, g, m, xs, rfl, _⟩ | ⟨_, g, m, xs, ys, rfl, _⟩ <;> exact ⟨_, _, _, rfl⟩
    exact ⟨k, c, l, h', a4, n4, c4, a5, n5, c5, rfl⟩
/-- it can come in -/
theorem qi_of_n {G : Nat → Prop} {w : World} : ∀ (q : Qu) {cs : List Value}, QN G w q cs → Say q → QI w w.heap.size q cs
  | .none, _, h, _ => h.elim
  | .node k c l h' wh n x y, cs, h, hs => by
    obtain ⟨wv, kv, rfl, hT, hk⟩ := h
    have hS : WOk wh ∧ c.length ≤ 32 ∧ (0 < k ∧ k ≤ 10) ∧ (-1048576 ≤ l ∧ l ≤ 1048576) ∧ (-1048576 ≤ h' ∧ h' ≤ 1048576) ∧ (n = 0 → x = .none) ∧ (n ≤ 1 → y = .none) ∧ (1 ≤ n → Say x) ∧ (2 ≤ n → Say y) := by
      rcases hs with ⟨rfl, rfl, rfl, rfl, rfl, hwh, rfl, rfl⟩ | ⟨rfl, hc, hlo, hhi, rfl, hwh, rfl, rfl⟩ | ⟨rfl, hc, rfl, rfl, rfl, hwh, rfl, rfl⟩ | ⟨hk4, rfl, rfl, rfl, rfl, rfl, hx, hy⟩ | ⟨rfl, rfl, hlo, rfl, rfl, rfl, hx, rfl⟩ | ⟨rfl, rfl, rfl, rfl, rfl, rfl, hx, rfl⟩ | ⟨rfl, rfl, hlo, rfl, rfl, rfl, hx, rfl⟩ | ⟨rfl, rfl, hlo, hhi, rfl, rfl, hx, rfl⟩
      · exact ⟨hwh, by simp, by omega, by omega, by omega, fun _ => rfl, fun _ => rfl, fun h => by omega, fun h => by omega⟩
      · exact ⟨hwh, nmd_len hc, by omega, hlo, hhi, fun _ => rfl, fun _ => rfl, fun h => by omega, fun h => by omega⟩
      · exact ⟨hwh, nmd_len hc, by omega, by omega, by omega, fun _ => rfl, fun _ => rfl, fun h => by omega, fun h => by omega⟩
      · exact ⟨⟨by simp, by simp⟩, by simp, by rcases hk4 with rfl | rfl | rfl <;> exact ⟨by decide, by decide⟩, by omega, by omega, fun h => by omega, fun h => by omega, fun _ => hx, fun _ => hy⟩
      · exact ⟨⟨by simp, by simp⟩, by simp, by omega, hlo, by omega, fun h => by omega, fun _ => rfl, fun _ => hx, fun h => by omega⟩
      · exact ⟨⟨by simp, by simp⟩, by simp, by omega, by omega, by omega, fun h => by omega, fun _ => rfl, fun _ => hx, fun h => by omega⟩
      · exact ⟨⟨by simp, by simp⟩, by simp, by omega, ⟨by omega, hlo.2⟩, by omega, fun h => by omega, fun _ => rfl, fun _ => hx, fun h => by omega⟩
      · exact ⟨⟨by simp, by simp⟩, by simp, by omega, hlo, hhi, fun h => by omega, fun _ => rfl, fun _ => hx, fun h => by omega⟩
    obtain ⟨hwh, hcl, hkb, hlb, hhb, hx0, hy0, hx, hy⟩ := hS
    have hT1 : TsV 0 w wh wv := by
      rcases hT with hT | ⟨g, m, e1, e2, e3, e4, e5, e6⟩
      · exact .inl hT
      · exact .inr ⟨g, m, e1, e2, e3, e4, Nat.zero_le _, e6⟩
    have hT2 := ti_of hT1 hwh
    rcases hk with ⟨rfl, rfl⟩ | ⟨rfl, g, m, xs, rfl, hm, h1, h2, h3, h4⟩ | ⟨rfl, g, m, xs, ys, rfl, hm, h1, h2, h3, h4, h5⟩
    · exact ⟨wv, none, 0, rfl, hT2, Nat.le_refl _, by omega, by omega, by omega, by omega, by omega, hx0, hy0, fun h => by omega⟩
    · exact ⟨wv, _, m, rfl, hT2, hm, by omega, by omega, by omega, by omega, by omega, hx0, hy0, fun _ _ => ⟨g, 0, rfl, h2, ⟨xs, qi_of_n x h3 (hx (by omega)), fun j u hu => by rw [Nat.zero_add]; exact h4 j u hu⟩, fun h => by omega⟩⟩
    · refine ⟨wv, _, m, rfl, hT2, hm, by omega, by omega, by omega, by omega, by omega, hx0, hy0, fun _ _ => ⟨g, 0, rfl, h2, ⟨xs, qi_of_n x h3 (hx (by omega)), fun j u hu => ?_⟩, fun _ => ⟨ys, qi_of_n y h4 (hy (by omega)), fun j u hu => ?_⟩⟩⟩
      · rw [Nat.zero_add]
        exact h5 j u (by rw [List.getElem?_append_left (List.getElem?_eq_some_iff.1 hu).1]; exact hu)
      · obtain ⟨q1, q2, q3, q4, q5, q6, q7, q8, q9, q10, rfl⟩ := h3.six
        rw [Nat.zero_add]
        refine h5 (6 + j) u ?_
        rw [List.getElem?_append_right (by simp)]
        simpa using hu
/-- what is answered: a question in new memory -/
abbrev VN (lo : Nat) : World → Qu → Value → Prop := fun w q v => ∃ cs : List Value, v = .agg cs.toArray ∧ QN (fun g => lo ≤ g) w q cs
abbrev GN : Value → Prop := fun v => ∃ (k : Int) (c : By) (l h : Int) (a4 : Option Addr) (n4 c4 : Nat) (a5 : Option Addr) (n5 c5 : Nat), v = .agg #[.int .i64 k, .string (tx c), .int .i64 l, .int .i64 h, .slice a4 n4 c4, .slice a5 n5 c5]
/-- .. in letters -/
theorem SP.ask {w : World} {R P0 lo : Nat} {r : PR Qu} {e : Ending} {w' : World} (h : SP w R P0 (VN lo) GN r e w') : ∃ (k : Int) (c : By) (l h : Int) (a4 : Option Addr) (n4 c4 : Nat) (a5 : Option Addr) (n5 c5 : Nat), e = .returned (.agg #[.int .i64 k, .string (tx c), .int .i64 l, .int .i64 h, .slice a4 n4 c4, .slice a5 n5 c5]) ∧ (∀ a q, r = .ok (a, q) → QN (fun g => lo ≤ g) w' a [.int .i64 k, .string (tx c), .int .i64 l, .int .i64 h, .slice a4 n4 c4, .slice a5 n5 c5]) ∧ SS w' R P0 (nxS r) ∧ w.grownBy w' (some R) := by
  obtain ⟨v, rfl, hv, hs, hg⟩ := h
  cases r with
  | ok x =>
    obtain ⟨a, q⟩ := x
    obtain ⟨cs, rfl, hq⟩ := hv
    obtain ⟨k, c, l, h, a4, n4, c4, a5, n5, c5, rfl⟩ := hq.six
    exact ⟨k, c, l, h, a4, n4, c4, a5, n5, c5, rfl, fun a' q' e => (by cases e; exact hq), hs, hg⟩
  | error x =>
    obtain ⟨k, c, l, h, a4, n4, c4, a5, n5, c5, rfl⟩ := hv
    exact ⟨k, c, l, h, a4, n4, c4, a5, n5, c5, rfl, fun a' q' e => (by cases e), hs, hg⟩
theorem SP.tst {w : World} {R P0 lo : Nat} {r : PR (List Tst)} {e : Ending} {w' : World} (h : SP w R P0 (TsV lo) GSl r e w') : ∃ a n c, e = .returned (.slice a n c) ∧ (∀ l q, r = .ok (l, q) → TsV lo w' l (.slice a n c)) ∧ SS w' R P0 (nxS r) ∧ w.grownBy w' (some R) := by
  obtain ⟨v, rfl, hv, hs, hg⟩ := h
  cases r with
  | ok x =>
    obtain ⟨l, q⟩ := x
    have hv' : TsV lo w' l v := hv
    obtain ⟨a, n, c, rfl⟩ : ∃ a n c, v = .slice a n c := by
      rcases hv' with ⟨_, rfl⟩ | ⟨g, c, rfl, _⟩ <;> exact ⟨_, _, _, rfl⟩
    exact ⟨a, n, c, rfl, fun l' q' e => (by cases e; exact hv'), hs, hg⟩
  | error x =>
    obtain ⟨a, n, c, rfl⟩ := hv
    exact ⟨a, n, c, rfl, fun l' q' e => (by cases e), hs, hg⟩
theorem SP.spn {w : World} {R P0 : Nat} {r : PR (Int × Int)} {e : Ending} {w' : World} (h : SP w R P0 VSp GSp r e w') : ∃ a b, e = .returned (.tuple #[.int .i64 a, .int .i64 b]) ∧ (∀ x q, r = .ok (x, q) → x = (a, b)) ∧ SS w' R P0 (nxS r) ∧ w.grownBy w' (some R) := by
  obtain ⟨v, rfl, hv, hs, hg⟩ := h
  cases r with
  | ok x =>
    obtain ⟨⟨a, b⟩, q⟩ := x
    obtain rfl : v = .tuple #[.int .i64 a, .int .i64 b] := hv
    exact ⟨a, b, rfl, fun l' q' e => (by cases e; rfl), hs, hg⟩
  | error x =>
    obtain ⟨a, b, rfl⟩ := hv
    exact ⟨a, b, rfl, fun l' q' e => (by cases e), hs, hg⟩
/-- a part of the grammar that answers questions, on a level -/
def QS (fn : Nat) (lv : Int) (p : List Pc → PR Qu) : Prop := ∀ (w : World) (R P0 : Nat) (st : St) (r : PR Qu), SS w R P0 st → onS p st = r → Calls Tryd.prog fn #[ptR R, .int .i64 lv] w (SP w R P0 (VN w.heap.size) GN r)
/-- .. of a state that goes on alone -/
def QA (fn : Nat) (lv : Int) (p : List Pc → PR Qu) : Prop := ∀ (w : World) (R P0 : Nat) (ps : List Pc) (r : PR Qu), SS w R P0 (.ok ps) → p ps = r → Calls Tryd.prog fn #[ptR R, .int .i64 lv] w (SP w R P0 (VN w.heap.size) GN r)
end Go.Proofs.YtidfkencjdjkbaaDoor

/-
  The document's own answer, chapter 15: times.
-/
namespace Go.Proofs.YtidfkencjdjkbaaDoor
open Go.RowKit Sp

theorem SS.kg {w w' : World} {R P0 : Nat} {st : St} (h : SS w R P0 st) (hk : ∀ g, g = R ∨ g = P0 → w'.heap[g]? = w.heap[g]?) (hsz : w.heap.size ≤ w'.heap.size) : SS w' R P0 st := by
  obtain ⟨c, i, L, er, at', h1, h2, h3, h4, h5⟩ := h
  exact ⟨c, i, L, er, at', fun k v hv => ⟨(World.cell?_of_block (w := w) (a := ⟨R, k, none⟩) (hk R (.inl rfl))).trans (h1 k v hv).c, (World.frozen?_of_block (w := w) (a := ⟨R, k, none⟩) (hk R (.inl rfl))).trans (h1 k v hv).f, Nat.lt_of_lt_of_le (h1 k v hv).lt hsz⟩, fun j p hp => ⟨(World.cell?_of_block (w := w) (a := ⟨P0, j * 2, none⟩) (hk P0 (.inr rfl))).trans (h2 j p hp).1, (World.cell?_of_block (w := w) (a := ⟨P0, j * 2 + 1, none⟩) (hk P0 (.inr rfl))).trans (h2 j p hp).2⟩, h3, Nat.lt_of_lt_of_le h4 hsz, h5⟩
theorem SS.six {w : World} {R P0 b : Nat} {st : St} (h : SS w R P0 st) (hR : b ≠ R) (hP : b ≠ P0) (a c d e f g : Value) : SS (set6 w b a c d e f g) R P0 st :=
  h.kg (fun x hx => (KG.six (G := fun y => y = R ∨ y = P0) (by rintro (rfl | rfl); exact hR rfl; exact hP rfl) a c d e f g).2 x hx (by rcases hx with rfl | rfl; exact h.lt; exact h.pl)) (KG.six (G := fun _ => False) (fun h => h) a c d e f g).1
set_option maxHeartbeats 1000000 in
set_option maxRecDepth 100000 in
theorem times_dead {w : World} {R P0 : Nat} {e : Int × Nat} (h : SS w R P0 (.error e)) (lv : Int) : Calls Tryd.prog 34 #[ptR R, .int .i64 lv] w (SP w R P0 (VN w.heap.size) GN (.error e)) := by
  have HS : Hid (SS w R P0 (.error e)) := h
  obtain ⟨W0, hW0⟩ : ∃ W0, w.alloc (.cells #[.int .i64 0, .string ⟨#[]⟩, .int .i64 0, .int .i64 0, .slice none 0 0, .slice none 0 0] 25) = W0 := ⟨_, rfl⟩
  have hb0 : Below w.heap.size w W0 := hW0 ▸ ba _ _
  have HB0 : Hid (Bx W0 w.heap.size z6) := hW0 ▸ Bx.new w z6 25 rfl
  have HS0 : Hid (SS W0 R P0 (.error e)) := HS.out.at hb0
  obtain ⟨q2, hx⟩ := HS0.out.dead
  obtain ⟨k, x⟩ := e
  simp only at q2 hx
  have d : (k == 0) = false := by simpa using hx
  have d2 : (k != 0) = true := by simpa using hx
  have z0 := (HB0.out 0 _ rfl).c
  have z1 := (HB0.out 1 _ rfl).c
  have z2 := (HB0.out 2 _ rfl).c
  have z3 := (HB0.out 3 _ rfl).c
  have z4 := (HB0.out 4 _ rfl).c
  have z5 := (HB0.out 5 _ rfl).c
  have y0 := (HB0.out 0 _ rfl).f
  have y1 := (HB0.out 1 _ rfl).f
  have y2 := (HB0.out 2 _ rfl).f
  have y3 := (HB0.out 3 _ rfl).f
  have y4 := (HB0.out 4 _ rfl).f
  have y5 := (HB0.out 5 _ rfl).f
  obtain ⟨W7, hW7⟩ : ∃ W7, set6 W0 w.heap.size (.int .i64 0) (.string ⟨#[]⟩) (.int .i64 0) (.int .i64 0) (.slice none 0 0) (.slice none 0 0) = W7 := ⟨_, rfl⟩
  have HB7 : Hid (Bx W7 w.heap.size z6) := hW7 ▸ set6_bx HB0.out _ _ _ _ _ _
  have HS7 : Hid (SS W7 R P0 (.error (k, x))) := hW7 ▸ HS0.out.six (Nat.ne_of_gt HS.out.lt) (Nat.ne_of_gt HS.out.pl) _ _ _ _ _ _
  have HG7 : Hid (w.grownBy W7 (some R)) := hW7 ▸ set6_gb (gb_below hb0) (Nat.le_refl _) _ _ _ _ _ _
  unfold set6 at hW7
  clear h hb0 hx
  go_enter Tryd.func34, Tryd.ntmps34
  go_wp2
  have x0 := (HB7.out 0 _ rfl).c
  have x1 := (HB7.out 1 _ rfl).c
  have x2 := (HB7.out 2 _ rfl).c
  have x3 := (HB7.out 3 _ rfl).c
  have x4 := (HB7.out 4 _ rfl).c
  have x5 := (HB7.out 5 _ rfl).c
  exact bodyPost_ret (v := .agg #[.int .i64 0, .string ⟨#[]⟩, .int .i64 0, .int .i64 0, .slice none 0 0, .slice none 0 0]) (by simp [results, Tryd.results34, go_sem, x0, x1, x2, x3, x4, x5]) rfl ⟨_, rfl, ⟨0, [], 0, 0, none, 0, 0, none, 0, 0, rfl⟩, HS7.out, HG7.out⟩
end Go.Proofs.YtidfkencjdjkbaaDoor
