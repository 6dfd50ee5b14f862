import Derived.Test.YtgfndaiilhbkmaaTog
namespace Go.Proofs.Ytgfndaiilhbkmaa
open Go.RowKit Go.Shelf Go.Proofs.Ytgfndaiilhbkmaa.Ds

/-- the marks that ranges over functions leave: one a round -/
def mrk (D : Nat) : Deferred := { target := .collected D, args := #[] }
def Mks (lo : Nat) (w : World) (Ds : List Nat) : Prop := Ds.Nodup ∧ ∀ D ∈ Ds, lo ≤ D ∧ w.heap[D]? = some (.deferred (some []))
theorem Mks.nil (lo : Nat) (w : World) : Mks lo w [] := ⟨List.nodup_nil, fun D hD => by cases hD⟩
theorem Mks.lt {lo : Nat} {w : World} {Ds : List Nat} (h : Mks lo w Ds) {D : Nat} (hD : D ∈ Ds) : D < w.heap.size := (Array.getElem?_eq_some_iff.1 (h.2 D hD).2).1
theorem Mks.same {lo : Nat} {w w' : World} {Ds : List Nat} (h : Mks lo w Ds) (hk : ∀ D ∈ Ds, w'.heap[D]? = w.heap[D]?) : Mks lo w' Ds := ⟨h.1, fun D hD => ⟨(h.2 D hD).1, (hk D hD).trans (h.2 D hD).2⟩⟩
theorem Mks.at {lo : Nat} {w w' : World} {Ds : List Nat} (h : Mks lo w Ds) (hb : Below w.heap.size w w') : Mks lo w' Ds := h.same fun D hD => hb.block D (h.lt hD)
theorem Mks.gb {lo g : Nat} {w w' : World} {Ds : List Nat} {v : Value} (h : Mks lo w Ds) (hb : w.grownBy w' (some g)) (hg : w.cell? ⟨g, 0, none⟩ = some v) : Mks lo w' Ds := h.same fun D hD => hb.block D (h.lt hD) (fun e => by
  simp only [Option.some.injEq] at e
  subst e
  simp [World.cell?, (h.2 _ hD).2] at hg)
theorem Mks.cons {lo D : Nat} {w : World} {Ds : List Nat} (h : Mks lo w Ds) (hlo : lo ≤ D) (hD : w.heap[D]? = some (.deferred (some []))) (hn : ∀ E ∈ Ds, E ≠ D) : Mks lo w (D :: Ds) :=
  ⟨List.nodup_cons.2 ⟨fun hm => hn D hm rfl, h.1⟩, fun E hE => by
    rcases List.mem_cons.1 hE with rfl | hE
    · exact ⟨hlo, hD⟩
    · exact h.2 E hE⟩
theorem gb_put {a b : World} {r : Option Nat} (h : a.grownBy b r) {D : Nat} (hD : a.heap.size ≤ D) (o : Obj) : a.grownBy (b.putObj D o) r :=
  ⟨h.os, h.tape, h.output, by simpa using h.size, fun i hi hr => (World.putObj_heap_other (by omega)).trans (h.block i hi hr)⟩
theorem Arr.put {w : World} {g n D : Nat} {f : Nat → Int} (h : Arr w g n f) (o : Obj) (hD : D ≠ g) : Arr (w.putObj D o) g n f := h.same (World.putObj_heap_other (fun e => hD e.symm))
/-- a function that answers nothing leaves, with marks alone -/
theorem leaves_marks {fn : Func} {tmps : Array Value} {R : Ending → World → Prop} (hr : fn.results = #[]) (W0 : World) (g n : Nat) (F : Nat → Int) (hg : g < W0.heap.size) (hR : ∀ W', Arr W' g n F → W0.grownBy W' (some g) → R (.returned (.tuple #[])) W') :
    ∀ (Ds : List Nat) (W : World), Mks W0.heap.size W Ds → Arr W g n F → W0.grownBy W (some g) → LeavesInM Fence.wide 5 Try.prog fn tmps R (Ds.map mrk) .returning W
  | [], W, _, hA, hG => ⟨.tuple #[], by simp [results, hr], hR W hA hG⟩
  | D :: Ds, W, hM, hA, hG => by
    have hd := hM.2 D (by simp)
    refine ⟨by simp, .inl ⟨D, _, rfl, run_takeDeferred hd.2, ?_⟩⟩
    refine leaves_marks hr W0 g n F hg hR Ds _ ⟨(List.nodup_cons.1 hM.1).2, fun E hE => ?_⟩ (hA.put _ (by omega)) (gb_put hG hd.1 _)
    have hne : E ≠ D := fun e => (List.nodup_cons.1 hM.1).1 (by rw [← e]; exact hE)
    have h2 := hM.2 E (by simp [hE])
    exact ⟨h2.1, (World.putObj_heap_other hne).trans h2.2⟩
/-- how the body of settle may be left -/
def StQ (W0 : World) (g n : Nat) (F : Nat → Int) : Exit → Act → World → Prop
  | .normal, a, w | .ret, a, w => Arr w g n F ∧ W0.grownBy w (some g) ∧ ∃ Ds, a.defers = Ds.map mrk ∧ Mks W0.heap.size w Ds
  | _, _, _ => False
theorem StQ.imp {W0 : World} {g n : Nat} {F : Nat → Int} {fn : Func} {R : Ending → World → Prop} (hr : fn.results = #[]) (hg : g < W0.heap.size) (hR : ∀ W', Arr W' g n F → W0.grownBy W' (some g) → R (.returned (.tuple #[])) W') (e : Exit) (a : Act) (w : World) (h : StQ W0 g n F e a w) : bodyPostM Fence.wide 5 Try.prog fn R e a w := by
  cases e with
  | normal => obtain ⟨h1, h2, Ds, h3, h4⟩ := h; show LeavesInM _ _ _ _ _ _ a.defers _ _; rw [h3]; exact leaves_marks hr W0 g n F hg hR Ds w h4 h1 h2
  | ret => obtain ⟨h1, h2, Ds, h3, h4⟩ := h; show LeavesInM _ _ _ _ _ _ a.defers _ _; rw [h3]; exact leaves_marks hr W0 g n F hg hR Ds w h4 h1 h2
  | panic c => exact h.elim
  | outgrown => exact h.elim
  | exit id => exact h.elim
  | goto l => exact h.elim
end Go.Proofs.Ytgfndaiilhbkmaa
