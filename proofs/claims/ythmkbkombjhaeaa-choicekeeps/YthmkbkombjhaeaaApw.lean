import Derived.Test.YthmkbkombjhaeaaApa
namespace Go.Proofs.Ythmkbkombjhaeaa
open Go.RowKit Go.Shelf Go.Proofs.Ythmkbkombjhaeaa.Ds
attribute [local go_sem] Oper.semAt_some

/-- the two parts of a round, in their boxes -/
def Two2 {w : World} {B : Nat} {M : Int} (W : World) (Bx : Nat) (x : PP w B M) : Prop :=
  W.heap[Bx]? = some (.cells #[x.1.1.1, .int .i64 x.1.1.2.2] 55 (0, 0)) ∧ W.heap[Bx + 1]? = some (.cells #[x.1.2.1, .int .i64 x.1.2.2.2] 55 (0, 0))

theorem Two2.own {w : World} {B : Nat} {M : Int} {W W' : World} {Bx : Nat} {x : PP w B M} {row : Option Nat} (h : Two2 W Bx x) (hg : W.grownBy W' row) (hr : ∀ r, row = some r → ∃ o : Obj, W.heap[r]? = some o ∧ o.isCells = false) : Two2 W' Bx x := by
  have key : ∀ (k : Nat) (o : Obj), W.heap[k]? = some o → o.isCells = true → W'.heap[k]? = some o := by
    intro k o hk ho
    rw [hg.block k (Array.getElem?_eq_some_iff.1 hk).1 ?_, hk]
    intro e
    obtain ⟨o', h1, h2⟩ := hr k e.symm
    rw [hk] at h1
    simp only [Option.some.injEq] at h1
    subst h1
    rw [ho] at h2
    cases h2
  exact ⟨key _ _ h.1 rfl, key _ _ h.2 rfl⟩

theorem Two2.cells {w : World} {B : Nat} {M : Int} {W : World} {Bx : Nat} {x : PP w B M} (h : Two2 W Bx x) :
    W.cell? ⟨Bx, 0, none⟩ = some x.1.1.1 ∧ W.cell? ⟨Bx, 1, none⟩ = some (.int .i64 x.1.1.2.2) ∧ W.cell? ⟨Bx + 1, 0, none⟩ = some x.1.2.1 ∧ W.cell? ⟨Bx + 1, 1, none⟩ = some (.int .i64 x.1.2.2.2) := by
  obtain ⟨h1, h2⟩ := h
  simp [World.cell?, h1, h2]

theorem two2_new {w : World} {B : Nat} {M : Int} (W : World) (x : PP w B M) : Two2 ((W.alloc (.cells #[x.1.1.1, .int .i64 x.1.1.2.2] 55)).alloc (.cells #[x.1.2.1, .int .i64 x.1.2.2.2] 55)) W.heap.size x := by
  refine ⟨?_, ?_⟩
  · rw [Below.heap_alloc _ _ _ (by simp)]; exact World.alloc_heap_new W _
  · have := World.alloc_heap_new (W.alloc (.cells #[x.1.1.1, .int .i64 x.1.1.2.2] 55)) (.cells #[x.1.2.1, .int .i64 x.1.2.2.2] 55)
    rwa [World.size_alloc] at this

theorem wrap_wrap (a b : Int) : wrap64 (wrap64 a + b) = wrap64 (a + b) := by
  unfold wrap64; omega
theorem wrap_id {a : Int} (h : -9223372036854775808 ≤ a ∧ a ≤ 9223372036854775807) : wrap64 a = a := by
  unfold wrap64; omega

/-- the sum so far -/
def sumPP {w : World} {B : Nat} {M : Int} (Ta Tb : Int) (pre : List (PP w B M)) : Int := apS Ta Tb (pre.map fun x => bare x.1)
theorem sumPP_snoc {w : World} {B : Nat} {M : Int} (Ta Tb : Int) (pre : List (PP w B M)) (x : PP w B M) : sumPP Ta Tb (pre ++ [x]) = sumPP Ta Tb pre + max 0 (x.1.1.2.2 * Tb - x.1.2.2.2 * Ta) := by
  simp only [sumPP, List.map_append, apS_append, List.map_cons, List.map_nil, apS, bare]; omega

end Go.Proofs.Ythmkbkombjhaeaa
