import Derived.Test.YtjembpcpefgdpaaDoorQc37
import Derived.Test.YtjembpcpefgdpaaDoorQc38
import Derived.Deep.AppendLies
import Derived.Laws.AppendOwn
import Derived.Maps.AppendAt
namespace Go.Proofs.YtjembpcpefgdpaaDoor
open Go.RowKit Go.Proofs.YtjembpcpefgdpaaDoor.Ds

/-- 5 cells in a block -/
structure FivB (w : World) (R : Nat) (a b c d e : Value) : Prop where
  is : w.heap[R]? = some (.cells #[a, b, c, d, e] 28 (0, 0))
theorem FivB.c0 {w : World} {R : Nat} {a b c d e : Value} (h : FivB w R a b c d e) : w.cell? ⟨R, 0, none⟩ = some a := by simp [World.cell?, h.is]
theorem FivB.f0 {w : World} {R : Nat} {a b c d e : Value} (h : FivB w R a b c d e) : w.frozen? ⟨R, 0, none⟩ = false := by simp [World.frozen?, h.is]
theorem FivB.put0 {w : World} {R : Nat} {a b c d e : Value} (h : FivB w R a b c d e) (x : Value) : FivB (w.setCell ⟨R, 0, none⟩ x) R x b c d e := ⟨by rw [setCell_heap w R 0 x _ _ _ h.is]; rfl⟩
theorem FivB.c1 {w : World} {R : Nat} {a b c d e : Value} (h : FivB w R a b c d e) : w.cell? ⟨R, 1, none⟩ = some b := by simp [World.cell?, h.is]
theorem FivB.f1 {w : World} {R : Nat} {a b c d e : Value} (h : FivB w R a b c d e) : w.frozen? ⟨R, 1, none⟩ = false := by simp [World.frozen?, h.is]
theorem FivB.put1 {w : World} {R : Nat} {a b c d e : Value} (h : FivB w R a b c d e) (x : Value) : FivB (w.setCell ⟨R, 1, none⟩ x) R a x c d e := ⟨by rw [setCell_heap w R 1 x _ _ _ h.is]; rfl⟩
theorem FivB.c2 {w : World} {R : Nat} {a b c d e : Value} (h : FivB w R a b c d e) : w.cell? ⟨R, 2, none⟩ = some c := by simp [World.cell?, h.is]
theorem FivB.f2 {w : World} {R : Nat} {a b c d e : Value} (h : FivB w R a b c d e) : w.frozen? ⟨R, 2, none⟩ = false := by simp [World.frozen?, h.is]
theorem FivB.put2 {w : World} {R : Nat} {a b c d e : Value} (h : FivB w R a b c d e) (x : Value) : FivB (w.setCell ⟨R, 2, none⟩ x) R a b x d e := ⟨by rw [setCell_heap w R 2 x _ _ _ h.is]; rfl⟩
theorem FivB.c3 {w : World} {R : Nat} {a b c d e : Value} (h : FivB w R a b c d e) : w.cell? ⟨R, 3, none⟩ = some d := by simp [World.cell?, h.is]
theorem FivB.f3 {w : World} {R : Nat} {a b c d e : Value} (h : FivB w R a b c d e) : w.frozen? ⟨R, 3, none⟩ = false := by simp [World.frozen?, h.is]
theorem FivB.put3 {w : World} {R : Nat} {a b c d e : Value} (h : FivB w R a b c d e) (x : Value) : FivB (w.setCell ⟨R, 3, none⟩ x) R a b c x e := ⟨by rw [setCell_heap w R 3 x _ _ _ h.is]; rfl⟩
theorem FivB.c4 {w : World} {R : Nat} {a b c d e : Value} (h : FivB w R a b c d e) : w.cell? ⟨R, 4, none⟩ = some e := by simp [World.cell?, h.is]
theorem FivB.f4 {w : World} {R : Nat} {a b c d e : Value} (h : FivB w R a b c d e) : w.frozen? ⟨R, 4, none⟩ = false := by simp [World.frozen?, h.is]
theorem FivB.put4 {w : World} {R : Nat} {a b c d e : Value} (h : FivB w R a b c d e) (x : Value) : FivB (w.setCell ⟨R, 4, none⟩ x) R a b c d x := ⟨by rw [setCell_heap w R 4 x _ _ _ h.is]; rfl⟩
theorem FivB.lt {w : World} {R : Nat} {a b c d e : Value} (h : FivB w R a b c d e) : R < w.heap.size := (Array.getElem?_eq_some_iff.1 h.is).1
theorem FivB.new (w : World) (a b c d e : Value) (R : Nat) (hR : R = w.heap.size) : FivB (w.alloc (.cells #[a, b, c, d, e] 28)) R a b c d e := ⟨by rw [hR]; exact World.alloc_heap_new w _⟩
theorem FivB.same {w w' : World} {R : Nat} {a b c d e : Value} (h : FivB w R a b c d e) (hk : w'.heap[R]? = w.heap[R]?) : FivB w' R a b c d e := ⟨hk.trans h.is⟩
theorem FivB.all {w : World} {R : Nat} {a b c d e : Value} (h : FivB w R a b c d e) : w.cell? ⟨R, 0, none⟩ = some a ∧ w.frozen? ⟨R, 0, none⟩ = false ∧ w.cell? ⟨R, 1, none⟩ = some b ∧ w.frozen? ⟨R, 1, none⟩ = false ∧ w.cell? ⟨R, 2, none⟩ = some c ∧ w.frozen? ⟨R, 2, none⟩ = false ∧ w.cell? ⟨R, 3, none⟩ = some d ∧ w.frozen? ⟨R, 3, none⟩ = false ∧ w.cell? ⟨R, 4, none⟩ = some e ∧ w.frozen? ⟨R, 4, none⟩ = false := ⟨h.c0, h.f0, h.c1, h.f1, h.c2, h.f2, h.c3, h.f3, h.c4, h.f4⟩

/-- all blocks but those of X are as they were -/
structure Kp (A W : World) (X : Nat → Prop) : Prop where
  os : W.os = A.os
  tape : W.tape = A.tape
  output : W.output = A.output
  size : A.heap.size ≤ W.heap.size
  block : ∀ b, b < A.heap.size → ¬ X b → W.heap[b]? = A.heap[b]?
theorem Kp.refl (A : World) (X : Nat → Prop) : Kp A A X := ⟨rfl, rfl, rfl, Nat.le_refl _, fun _ _ _ => rfl⟩
theorem Kp.trans {A B C : World} {X : Nat → Prop} (h : Kp A B X) (k : Kp B C X) : Kp A C X :=
  ⟨k.os.trans h.os, k.tape.trans h.tape, k.output.trans h.output, Nat.le_trans h.size k.size, fun b hb hn => (k.block b (Nat.lt_of_lt_of_le hb h.size) hn).trans (h.block b hb hn)⟩
theorem Kp.gb {A B C : World} {X : Nat → Prop} {r : Option Nat} (h : Kp A B X) (k : B.grownBy C r) (hr : ∀ x, r = some x → x < A.heap.size → X x) : Kp A C X :=
  ⟨k.os.trans h.os, k.tape.trans h.tape, k.output.trans h.output, Nat.le_trans h.size k.size, fun b hb hn => (k.block b (Nat.lt_of_lt_of_le hb h.size) (fun e => hn (hr b e.symm hb))).trans (h.block b hb hn)⟩
theorem Kp.mono {A B : World} {X Y : Nat → Prop} (h : Kp A B X) (hx : ∀ b, b < A.heap.size → X b → Y b) : Kp A B Y := ⟨h.os, h.tape, h.output, h.size, fun b hb hn => h.block b hb (fun c => hn (hx b hb c))⟩
theorem kp_below {A B : World} {X : Nat → Prop} (h : Below A.heap.size A B) : Kp A B X := ⟨h.os, h.tape, h.output, h.size, fun b hb _ => h.block b hb⟩
theorem Kp.below {A B : World} {X : Nat → Prop} {m : Nat} (h : Kp A B X) (hm : m ≤ A.heap.size) (hx : ∀ b, X b → m ≤ b) : Below m A B := ⟨h.os, h.tape, h.output, h.size, fun b hb => h.block b (by omega) (fun c => by have := hx b c; omega)⟩

theorem row_same {w w' : World} {base : Nat} {t : TypeId} {sz : Nat} {v : Value} {n : Nat} {xs : List Value} (h : w.ownsRow base t sz v n xs) (hk : ∀ g, v.ownBlock = some g → w'.heap[g]? = w.heap[g]?) : w'.ownsRow base t sz v n xs := by
  refine ⟨h.1, ?_⟩
  rcases h.2 with h0 | ⟨g, cap, cur, hv, hb, hc, h1, h2, h3, h4⟩
  · exact .inl h0
  · exact .inr ⟨g, cap, cur, hv, hb, (hk g (by rw [hv]; rfl)).trans hc, h1, h2, h3, h4⟩
theorem row_lt {w : World} {base : Nat} {t : TypeId} {sz : Nat} {v : Value} {n : Nat} {xs : List Value} (h : w.ownsRow base t sz v n xs) {g : Nat} (hg : v.ownBlock = some g) : base ≤ g ∧ g < w.heap.size := by
  rcases h.2 with ⟨rfl, _⟩ | ⟨g', cap, cur, rfl, hb, hc, _⟩
  · cases hg
  · simp only [Value.ownBlock, Option.some.injEq] at hg
    subst hg
    exact ⟨hb, (Array.getElem?_eq_some_iff.1 hc).1⟩
theorem row_slice {w : World} {base : Nat} {t : TypeId} {sz : Nat} {v : Value} {n : Nat} {xs : List Value} (h : w.ownsRow base t sz v n xs) : ∃ a c, v = .slice a n c := by
  rcases h.2 with ⟨rfl, rfl⟩ | ⟨g', cap, cur, rfl, _⟩
  · exact ⟨_, _, rfl⟩
  · exact ⟨_, _, rfl⟩
theorem row_gb {W W' : World} {m : Nat} {t : TypeId} {z : Nat} {v : Value} {n : Nat} {xs : List Value} {r : Option Nat} (h : W.ownsRow m t z v n xs) (hg : W.grownBy W' r) (hr : ∀ g, v.ownBlock = some g → r ≠ some g) : W'.ownsRow m t z v n xs :=
  row_same h fun g hg2 => hg.block g (row_lt h hg2).2 (fun e => hr g hg2 e.symm)
theorem row_cell {w : World} {base : Nat} {t : TypeId} {sz : Nat} {a : Option Addr} {n c : Nat} {xs : List Value} (h : w.ownsRow base t sz (.slice a n c) n xs) {j : Nat} {u : Value} (hj : xs[j]? = some u) :
    ∃ g, a = some ⟨g, 0, none⟩ ∧ base ≤ g ∧ g < w.heap.size ∧ w.cell? ⟨g, j, none⟩ = some u := by
  rcases h.2 with ⟨h1, h0⟩ | ⟨g, cap, cur, h1, h2, h3, h4, h5, h6, h7⟩
  · have := h.1
    rw [h0] at this
    obtain rfl : xs = [] := List.eq_nil_of_length_eq_zero (by omega)
    simp at hj
  · simp only [Value.slice.injEq] at h1
    refine ⟨g, h1.1, h2, (Array.getElem?_eq_some_iff.1 h3).1, ?_⟩
    have hlt : j < xs.length := (List.getElem?_eq_some_iff.1 hj).1
    rw [← h7, List.getElem?_take_of_lt (by rw [← h.1]; exact hlt)] at hj
    simp [World.cell?, h3]
    simpa using hj
theorem one_cells (w : World) (a : Value) (t : TypeId) (N : Nat) (hN : N = w.heap.size) : ∀ j u, [a][j]? = some u → (w.alloc (.cells #[a] t)).cell? ((⟨N, 0, none⟩ : Addr).add j) = some u := by
  subst hN
  exact fun j u hu => World.news_of_block (w := w.alloc (.cells #[a] t)) (B := w.heap.size) (cs := #[a]) (t := t) (fr := (0, 0)) (heap_alloc_new w _) j u (by simpa using hu)

/-! ### distributions in blocks from h on, ahead of B -/
def Dsi (w : World) (h B : Nat) (v : Value) (zs : List Dz) : Prop := ∀ W : World, (∀ b, h ≤ b → b < B → W.heap[b]? = w.heap[b]?) → Dss W B v zs
theorem Dsi.same {w w' : World} {h B : Nat} {v : Value} {zs : List Dz} (d : Dsi w h B v zs) (hk : ∀ b, h ≤ b → b < B → w'.heap[b]? = w.heap[b]?) : Dsi w' h B v zs := fun W hW => d W fun b h1 h2 => (hW b h1 h2).trans (hk b h1 h2)
theorem Dsi.dss {w : World} {h B : Nat} {v : Value} {zs : List Dz} (d : Dsi w h B v zs) : Dss w B v zs := d w fun _ _ _ => rfl
theorem Parts.mono' {w : World} {B B' : Nat} {v : Value} {ts : List Tr} (h : Parts w B v ts) (hB : B ≤ B') : Parts w B' v ts := by
  obtain ⟨a, c, hv, hc, hl, hi, hx⟩ := h
  refine ⟨a, c, hv, hc, hl, fun t ht => (hi t ht).mono hB (.inr hB), fun hne => ?_⟩
  obtain ⟨b, o, ha, hb, hcell⟩ := hx hne
  exact ⟨b, o, ha, by omega, hcell⟩
theorem Dss.mono {w : World} {B B' : Nat} {v : Value} {zs : List Dz} (h : Dss w B v zs) (hB : B ≤ B') : Dss w B' v zs := by
  obtain ⟨a, c, hv, hc, hl, hi, hx⟩ := h
  refine ⟨a, c, hv, hc, hl, fun t ht => (hi t ht).mono' hB, fun hne => ?_⟩
  obtain ⟨b, o, ha, hb, hcell⟩ := hx hne
  exact ⟨b, o, ha, by omega, hcell⟩
theorem dsi_of {w : World} {h : Nat} {v : Value} {zs : List Dz} (d : DosN w h v zs) : Dsi w h w.heap.size v zs := by
  intro W hW
  rcases d with ⟨rfl, rfl⟩ | ⟨g, cap, lo, rfl, h1, h2, hr, hg, hlo⟩
  · exact ⟨none, 0, rfl, Nat.le_refl _, by simp, by simp, fun h => absurd rfl h⟩
  · refine ⟨_, cap, rfl, h1, by omega, fun z hz => ?_, fun _ => ⟨g, 0, rfl, hr.lt, fun i z hz => ?_⟩⟩
    · obtain ⟨ho, hf⟩ := hr.el z hz
      rcases ho with ⟨e1, e2⟩ | ⟨b, o, c, e1, hc, hl, hlb, hrow, hi⟩
      · rw [e1, e2]
        exact ⟨none, 0, rfl, Nat.le_refl _, by simp, by simp, fun h => absurd rfl h⟩
      · refine ⟨_, c, e1, hc, hl, fun t ht => ?_, fun _ => ⟨b, o, rfl, hrow.lt, fun i t ht => ?_⟩⟩
        · obtain ⟨a2, c2, hv2, hc2, hl2, hx2⟩ := hi t ht
          refine ⟨a2, c2, hv2, hc2, hl2, fun hne => ?_⟩
          obtain ⟨b2, o2, ha2, hb2, hn2, hcell2⟩ := hx2 hne
          have hlo2 := hf t ht hne b2 o2 none t.2.1.length c2 (by rw [hv2, ha2])
          exact ⟨b2, o2, ha2, hb2, by omega, fun i x hx => (World.cell?_of_block (a := ⟨b2, o2 + i, none⟩) (hW b2 (by omega) hb2)).trans (hcell2 i x hx)⟩
        · have hk := hW b (by omega) hrow.lt
          exact ⟨(World.cell?_of_block (a := ⟨b, o + i * 2, none⟩) hk).trans (hrow.cells i t ht).1, (World.cell?_of_block (a := ⟨b, o + i * 2 + 1, none⟩) hk).trans (hrow.cells i t ht).2⟩
    · rw [Nat.zero_add]
      exact (World.cell?_of_block (a := ⟨g, i, none⟩) (hW g hg hr.lt)).trans (hr.cell i z hz)
end Go.Proofs.YtjembpcpefgdpaaDoor
