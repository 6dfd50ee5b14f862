import Derived.Test.YtidfkencjdjkbaaGreatDoorQo10
/-
  PACKAGE speech: questions in memory, by any set of blocks.
-/
namespace Go.Proofs.YtidfkencjdjkbaaGreatDoor
open Go.RowKit Sp

/-- the blocks of a set stay as they are -/
def KG (G : Nat → Prop) (w w' : World) : Prop := w.heap.size ≤ w'.heap.size ∧ ∀ g, G g → g < w.heap.size → w'.heap[g]? = w.heap[g]?
theorem KG.gb {G : Nat → Prop} {R : Nat} {w w' : World} (hg : w.grownBy w' (some R)) (hR : ¬ G R) : KG G w w' := ⟨hg.size, fun g h1 h2 => hg.block g h2 (by intro e; simp only [Option.some.injEq] at e; subst e; exact hR h1)⟩
theorem KG.bl {G : Nat → Prop} {w w' : World} (hb : Below w.heap.size w w') : KG G w w' := ⟨hb.size, fun g _ h2 => hb.block g h2⟩
theorem KG.trans {G : Nat → Prop} {a b c : World} (h : KG G a b) (k : KG G b c) : KG G a c := ⟨Nat.le_trans h.1 k.1, fun g h1 h2 => (k.2 g h1 (Nat.lt_of_lt_of_le h2 h.1)).trans (h.2 g h1 h2)⟩
theorem KG.put {G : Nat → Prop} {b : Nat} {w : World} (hb : ¬ G b) (k : Nat) (u : Value) : KG G w (w.setCell ⟨b, k, none⟩ u) := ⟨by simp [World.setCell], fun g h1 _ => Below.heap_setCell _ _ _ _ (by intro e; dsimp only at e; subst e; exact hb h1)⟩
theorem KG.six {G : Nat → Prop} {b : Nat} {w : World} (hb : ¬ G b) (a c d e f g : Value) : KG G w (set6 w b a c d e f g) :=
  (((((KG.put hb 0 a).trans (KG.put hb 1 c)).trans (KG.put hb 2 d)).trans (KG.put hb 3 e)).trans (KG.put hb 4 f)).trans (KG.put hb 5 g)
theorem KG.cell {G : Nat → Prop} {g k : Nat} {w w' : World} (h : KG G w w') (h1 : G g) (h2 : g < w.heap.size) : w'.cell? ⟨g, k, none⟩ = w.cell? ⟨g, k, none⟩ := World.cell?_of_block (w := w) (a := ⟨g, k, none⟩) (h.2 g h1 h2)
def TG (G : Nat → Prop) (w : World) (l : List Tst) (v : Value) : Prop :=
  (l = [] ∧ v = .slice none 0 0) ∨ ∃ g c, v = .slice (some ⟨g, 0, none⟩) l.length c ∧ l.length ≤ c ∧ l.length ≤ 64 ∧ g < w.heap.size ∧ G g ∧ ∀ (i : Nat) t, l[i]? = some t → ∀ (j : Nat) u, ([.string (tx t.1), .int .i64 t.2.1, .int .i64 t.2.2] : List Value)[j]? = some u → w.cell? ⟨g, i * 3 + j, none⟩ = some u
theorem TG.kp {w w' : World} {G G' : Nat → Prop} {l : List Tst} {v : Value} (h : TG G w l v) (hk : KG G w w') (hG : ∀ g, G g → g < w.heap.size → G' g) : TG G' w' l v := by
  rcases h with h | ⟨g, c, h1, h2, h3, h4, h5, h6⟩
  · exact .inl h
  · exact .inr ⟨g, c, h1, h2, h3, Nat.lt_of_lt_of_le h4 hk.1, hG g h5 h4, fun i t ht j u hu => (hk.cell h5 h4).trans (h6 i t ht j u hu)⟩
/-- a question's six cells; what it leads to lies in the blocks of G -/
def QG (G : Nat → Prop) (w : World) : Qu → List Value → Prop
  | .none, _ => False
  | .node k c l h wh n x y, cs => ∃ wv kv, cs = [.int .i64 k, .string (tx c), .int .i64 l, .int .i64 h, wv, kv] ∧ TG G w wh wv ∧
    ((n = 0 ∧ kv = .slice none 0 0) ∨ (n = 1 ∧ ∃ g xs, kv = .slice (some ⟨g, 0, none⟩) 1 1 ∧ G g ∧ g < w.heap.size ∧ QG G w x xs ∧ ∀ (j : Nat) u, xs[j]? = some u → w.cell? ⟨g, j, none⟩ = some u) ∨
      (n = 2 ∧ ∃ g xs ys, kv = .slice (some ⟨g, 0, none⟩) 2 2 ∧ G g ∧ g < w.heap.size ∧ QG G w x xs ∧ QG G w y ys ∧ ∀ (j : Nat) u, (xs ++ ys)[j]? = some u → w.cell? ⟨g, j, none⟩ = some u))
theorem QG.kp {w w' : World} {G G' : Nat → Prop} (hk : KG G w w') (hG : ∀ g, G g → g < w.heap.size → G' g) : ∀ (q : Qu) {cs : List Value}, QG G w q cs → QG G' w' q cs
  | .none, _, h => h
  | .node k c l h' wh n x y, cs, h => by
    obtain ⟨wv, kv, h1, h2, h3⟩ := h
    refine ⟨wv, kv, h1, h2.kp hk hG, ?_⟩
    rcases h3 with h3 | ⟨h3, g, xs, e1, e2, e3, e4, e5⟩ | ⟨h3, g, xs, ys, e1, e2, e3, e4, e5, e6⟩
    · exact .inl h3
    · exact .inr (.inl ⟨h3, g, xs, e1, hG g e2 e3, Nat.lt_of_lt_of_le e3 hk.1, QG.kp hk hG x e4, fun j u hu => (hk.cell e2 e3).trans (e5 j u hu)⟩)
    · exact .inr (.inr ⟨h3, g, xs, ys, e1, hG g e2 e3, Nat.lt_of_lt_of_le e3 hk.1, QG.kp hk hG x e4, QG.kp hk hG y e5, fun j u hu => (hk.cell e2 e3).trans (e6 j u hu)⟩)
theorem qg_of {w : World} {lo : Nat} : ∀ (q : Qu) {cs : List Value}, QV lo w q cs → QG (fun g => lo ≤ g) w q cs
  | .none, _, h => h
  | .node k c l h' wh n x y, cs, h => by
    obtain ⟨wv, kv, h1, h2, h3⟩ := h
    refine ⟨wv, kv, h1, h2, ?_⟩
    rcases h3 with h3 | ⟨h3, g, xs, e1, e2, e3, e4, e5⟩ | ⟨h3, g, xs, ys, e1, e2, e3, e4, e5, e6⟩
    · exact .inl h3
    · exact .inr (.inl ⟨h3, g, xs, e1, e2, e3, qg_of x e4, e5⟩)
    · exact .inr (.inr ⟨h3, g, xs, ys, e1, e2, e3, qg_of x e4, qg_of y e5, e6⟩)
theorem qv_of {w : World} {lo : Nat} : ∀ (q : Qu) {cs : List Value}, QG (fun g => lo ≤ g) w q cs → QV lo w q cs
  | .none, _, h => h
  | .node k c l h' wh n x y, cs, h => by
    obtain ⟨wv, kv, h1, h2, h3⟩ := h
    refine ⟨wv, kv, h1, h2, ?_⟩
    rcases h3 with h3 | ⟨h3, g, xs, e1, e2, e3, e4, e5⟩ | ⟨h3, g, xs, ys, e1, e2, e3, e4, e5, e6⟩
    · exact .inl h3
    · exact .inr (.inl ⟨h3, g, xs, e1, e2, e3, qv_of x e4, e5⟩)
    · exact .inr (.inr ⟨h3, g, xs, ys, e1, e2, e3, qv_of x e4, qv_of y e5, e6⟩)
end Go.Proofs.YtidfkencjdjkbaaGreatDoor
