import Derived.Test.YtfibbjngllelbaaGreatPsx
import Derived.Deep.RegionLaw
namespace Go.Proofs.YtfibbjngllelbaaGreat
open Go.RowKit Go.Shelf Go.Proofs.YtfibbjngllelbaaGreat.Ds

abbrev nilv : Value := .slice none 0 0
def encI (l : List Int) : List Value := l.map (.int .i64)
theorem encI_len (l : List Int) : (encI l).length = l.length := by simp [encI]
theorem encI_snoc (l : List Int) (x : Int) : encI (l ++ [x]) = encI l ++ [.int .i64 x] := by simp [encI]
theorem info34 : (Tryz.prog.info? 36).map (fun i => (i.zero, i.size, i.bytes)) = some (some (.int .i64 0), 1, 8) := by kernel_rfl
theorem row_same {w w' : World} {base : Nat} {t : TypeId} {sz : Nat} {v : Value} {n : Nat} {xs : List Value} (h : w.ownsRow base t sz v n xs) (hk : ∀ g, v.ownBlock = some g → w'.heap[g]? = w.heap[g]?) : w'.ownsRow base t sz v n xs := by
  refine ⟨h.1, ?_⟩
  rcases h.2 with h0 | ⟨g, cap, cur, hv, hb, hc, h1, h2, h3, h4⟩
  · exact .inl h0
  · exact .inr ⟨g, cap, cur, hv, hb, (hk g (by rw [hv]; rfl)).trans hc, h1, h2, h3, h4⟩
theorem row_lt {w : World} {base : Nat} {t : TypeId} {sz : Nat} {v : Value} {n : Nat} {xs : List Value} (h : w.ownsRow base t sz v n xs) {g : Nat} (hg : v.ownBlock = some g) : base ≤ g ∧ g < w.heap.size := by
  rcases h.2 with ⟨rfl, _⟩ | ⟨g', cap, cur, rfl, hb, hc, _⟩
  · cases hg
  · simp only [Value.ownBlock, Option.some.injEq] at hg
    subst hg
    exact ⟨hb, (Array.getElem?_eq_some_iff.1 hc).1⟩
theorem row_slice {w : World} {base : Nat} {t : TypeId} {sz : Nat} {v : Value} {n : Nat} {xs : List Value} (h : w.ownsRow base t sz v n xs) : ∃ a c, v = .slice a n c := by
  rcases h.2 with ⟨rfl, rfl⟩ | ⟨g', cap, cur, rfl, _⟩
  · exact ⟨_, _, rfl⟩
  · exact ⟨_, _, rfl⟩

/-- blocks that a book may write -/
def Nbk (s : Nat) (er : Value) (k : Nat) : Prop := s + 1 ≤ k ∧ k ≠ s + 3 ∧ k ≠ s + 4 ∧ er.ownBlock ≠ some k
/-- entries, some of them done -/
structure BkL (w wr : World) (l : List En) (k : Nat) (er : Value) : Prop where
  bk : ∃ n v D, BookM wr (Nbk w.heap.size er) (w.heap.size + 2) (w.heap.size + 1) n v D (bookT [] (l.take k)).2
  px : Boxed wr (w.heap.size + 3) 42 (.pointer (some ⟨w.heap.size + 2, 0, none⟩))
  out : SixB wr (w.heap.size + 4) er nilv nilv nilv nilv (.bool false)
  res : SixB wr w.heap.size nilv nilv nilv nilv nilv (.bool false)
  row : wr.ownsRow (w.heap.size + 5) 36 1 er k (encI (bookT [] (l.take k)).1)
  low : Below w.heap.size w wr
  sz : w.heap.size + 5 ≤ wr.heap.size

/-- one entry more is done -/
theorem BkL.next {w wr w5 w6 : World} {l : List En} {k : Nat} {er : Value} {e : En} {g cap : Nat} {o o2 : Obj} (h : BkL w wr l k er) (he : l[k]? = some e)
    (hK : Keeps (wr.alloc o).drew w5 (Nbk w.heap.size er)) (hB : ∃ n v D, BookM w5 (Nbk w.heap.size er) (w.heap.size + 2) (w.heap.size + 1) n v D (stepD (bookT [] (l.take k)).2 e))
    (hown : w6.ownsRow (w.heap.size + 5) 36 1 (.slice (some ⟨g, 0, none⟩) (k + 1) cap) (k + 1) (encI (bookT [] (l.take k)).1 ++ [.int .i64 (doT (bookT [] (l.take k)).2 (nrm e))]))
    (hgr : (w5.alloc o2).grownBy w6 er.ownBlock) (hat : er.ownBlock = some g ∨ g = w5.heap.size + 1) :
    BkL w (w6.setCell ⟨w.heap.size + 4, 0, none⟩ (.slice (some ⟨g, 0, none⟩) (k + 1) cap)) l (k + 1) (.slice (some ⟨g, 0, none⟩) (k + 1) cap) := by
  have hsn : bookT [] (l.take (k + 1)) = ((bookT [] (l.take k)).1 ++ [doT (bookT [] (l.take k)).2 (nrm e)], stepD (bookT [] (l.take k)).2 e) := by
    rw [List.take_add_one, he]; exact book_snoc _ _ _
  have hs1 : wr.heap.size + 1 ≤ w5.heap.size := by have h1 := hK.size; have h2 : (wr.alloc o).drew.heap.size = wr.heap.size + 1 := (by simp [World.drew]); omega
  have hs0 := h.sz
  have hrl := fun g (hg : er.ownBlock = some g) => row_lt h.row hg
  have hgg : w.heap.size + 5 ≤ g := by
    rcases hat with h1 | h1
    · exact (hrl g h1).1
    · omega
  -- a block that is no book's is as it was
  have hsame : ∀ b, b < wr.heap.size → ¬ Nbk w.heap.size er b → er.ownBlock ≠ some b → b ≠ w.heap.size + 4 → (w6.setCell ⟨w.heap.size + 4, 0, none⟩ (.slice (some ⟨g, 0, none⟩) (k + 1) cap)).heap[b]? = wr.heap[b]? := fun b hb hn hne hn4 => by
    rw [show (w6.setCell ⟨w.heap.size + 4, 0, none⟩ (.slice (some ⟨g, 0, none⟩) (k + 1) cap)).heap[b]? = w6.heap[b]? from Below.heap_setCell _ _ _ _ (by exact fun e => hn4 e)]
    rw [hgr.block b (by simp; omega) (fun e => hne e.symm)]
    rw [show (w5.alloc o2).heap[b]? = w5.heap[b]? from Below.heap_alloc _ _ _ (by omega)]
    rw [hK.block b (by show b < (wr.alloc o).heap.size; simp; omega) hn]
    exact Below.heap_alloc _ _ _ hb
  have h4 : ¬ Nbk w.heap.size er (w.heap.size + 4) := fun c => c.2.2.1 rfl
  have h3 : ¬ Nbk w.heap.size er (w.heap.size + 3) := fun c => c.2.1 rfl
  have hno : ∀ b, b < w.heap.size + 5 → er.ownBlock ≠ some b := fun b hb c => by have := (hrl b c).1; omega
  have hg2 : w6.grownBy (w6.setCell ⟨w.heap.size + 4, 0, none⟩ (.slice (some ⟨g, 0, none⟩) (k + 1) cap)) (some (w.heap.size + 4)) := gb_set (gb_refl _ _) 0 _
  have hs6 := hgr.size
  simp only [World.size_alloc] at hs6
  constructor
  · obtain ⟨n, v, D, hb⟩ := hB
    refine ⟨n, v, D, ?_⟩
    rw [hsn]
    have b1 : BookM w5 (fun x => Nbk w.heap.size er x ∧ x ≠ g) (w.heap.size + 2) (w.heap.size + 1) n v D (stepD (bookT [] (l.take k)).2 e) := hb.mono (fun x hx hn => ⟨hn, fun c => by
      rcases hat with h1 | h1
      · exact hn.2.2.2 (by rw [h1, c])
      · omega⟩)
    have b2 := b1.gb (gb_trans (World.grownBy_alloc w5 o2 _) hgr) (fun x hx c => c.1.2.2.2 hx)
    have b3 := b2.gb hg2 (fun x hx c => by simp only [Option.some.injEq] at hx; exact c.1.2.2.1 hx.symm)
    exact b3.mono (fun x _ hn => ⟨hn.1.1, hn.1.2.1, hn.1.2.2.1, by simp [Value.ownBlock]; exact fun c => hn.2 c.symm⟩)
  · exact (hsame _ h.px.lt h3 (hno _ (by omega)) (by omega)).trans h.px
  · have o6 : SixB w6 (w.heap.size + 4) er nilv nilv nilv nilv (.bool false) := by
      refine h.out.same ?_
      rw [hgr.block (w.heap.size + 4) (by simp; omega) (fun e => hno (w.heap.size + 4) (by omega) e.symm), show (w5.alloc o2).heap[w.heap.size + 4]? = w5.heap[w.heap.size + 4]? from Below.heap_alloc _ _ _ (by omega), hK.block (w.heap.size + 4) (by show _ < (wr.alloc o).heap.size; simp; omega) h4]
      exact Below.heap_alloc _ _ _ (by omega)
    exact o6.put0 _
  · exact h.res.same (hsame _ h.res.lt (fun c => by have := c.1; omega) (hno _ (by omega)) (by omega))
  · rw [hsn]
    simp only [encI_snoc]
    exact hown.kept hg2 (.inr (by simp [Value.ownBlock]; omega))
  · refine ⟨?_, ?_, ?_, ?_, fun b hb => ?_⟩
    · exact hgr.os.trans (hK.os.trans h.low.os)
    · exact hgr.tape.trans (hK.tape.trans h.low.tape)
    · exact hgr.output.trans (hK.output.trans h.low.output)
    · have := h.low.size; simp [World.setCell]; omega
    · exact (hsame b (by omega) (fun c => by have := c.1; omega) (hno b (by omega)) (by omega)).trans (h.low.block b hb)
  · simp [World.setCell]; omega
theorem BkL.row5 {w wr X w5 : World} {l : List En} {k : Nat} {er : Value} (h : BkL w wr l k er) (hX : Below wr.heap.size wr X) (hK : Keeps X.drew w5 (Nbk w.heap.size er)) (o : Obj) : (w5.alloc o).ownsRow (w.heap.size + 5) 36 1 er k (encI (bookT [] (l.take k)).1) := by
  have h5 : w5.ownsRow (w.heap.size + 5) 36 1 er k (encI (bookT [] (l.take k)).1) := row_same h.row fun g hg => by
    have hlt := (row_lt h.row hg).2
    exact (hK.block g (Nat.lt_of_lt_of_le hlt hX.size) (fun c => c.2.2.2 hg)).trans (hX.block g hlt)
  refine row_same h5 fun g hg => ?_
  have := (row_lt h5 hg).2
  exact Below.heap_alloc _ _ _ this
theorem one_cells (w : World) (a : Value) (t : TypeId) (N : Nat) (hN : N = w.heap.size) : ∀ j u, [a][j]? = some u → (w.alloc (.cells #[a] t)).cell? ((⟨N, 0, none⟩ : Addr).add j) = some u := by
  subst hN
  exact fun j u hu => World.news_of_block (w := w.alloc (.cells #[a] t)) (B := w.heap.size) (cs := #[a]) (t := t) (fr := (0, 0)) (heap_alloc_new w _) j u (by simpa using hu)
theorem two_cells (w : World) (a b : Value) (t : TypeId) (N : Nat) (hN : N = w.heap.size) : ∀ j u, [a, b][j]? = some u → (w.alloc (.cells #[a, b] t)).cell? ((⟨N, 0, none⟩ : Addr).add j) = some u := by
  subst hN
  exact fun j u hu => World.news_of_block (w := w.alloc (.cells #[a, b] t)) (B := w.heap.size) (cs := #[a, b]) (t := t) (fr := (0, 0)) (heap_alloc_new w _) j u (by simpa using hu)
end Go.Proofs.YtfibbjngllelbaaGreat
