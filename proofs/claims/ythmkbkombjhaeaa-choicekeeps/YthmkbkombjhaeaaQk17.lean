import Derived.Test.YthmkbkombjhaeaaQk16
import Derived.Shelf.Bits.Mul64
import Derived.Shelf.SlGeneric
import Derived.Ground.NamesProg
import Derived.Test.YthmkbkombjhaeaaProg
namespace Go.Proofs.Ythmkbkombjhaeaa
open Go.RowKit Go.Shelf Go.Proofs.Ythmkbkombjhaeaa.Ds
attribute [local go_sem] Oper.semAt_some

/-- all that two may be, in order -/
def mrgP : List Pt → List Pt → List (Pt × Pt)
  | [], [] => []
  | [], b :: bs => (([], 0), b) :: mrgP [] bs
  | a :: az, [] => (a, ([], 0)) :: mrgP az []
  | a :: az, b :: bs => if cmpT a.1 b.1 < 0 then (a, ([], 0)) :: mrgP az (b :: bs) else if 0 < cmpT a.1 b.1 then (([], 0), b) :: mrgP (a :: az) bs else (a, b) :: mrgP az bs
termination_by az bs => az.length + bs.length

/-- what is handed on, without its memory -/
def bare (p : Tr × Tr) : Pt × Pt := (p.1.2, p.2.2)

theorem mrg_rd (az bz : List Tr) : (mrg az bz).map bare = mrgP (rd az) (rd bz) := by
  induction az, bz using mrg.induct with
  | case1 => simp [mrg, mrgP, rd]
  | case2 b bs ih => rw [mrg]; simp only [rd, List.map_cons, List.map_nil] at *; rw [mrgP, ih]; rfl
  | case3 a az ih => rw [mrg]; simp only [rd, List.map_cons, List.map_nil] at *; rw [mrgP, ih]; rfl
  | case4 a az b bs h ih => rw [mrg_lt h]; simp only [rd, List.map_cons] at *; rw [mrgP, if_pos h, ih]; rfl
  | case5 a az b bs h1 h2 ih => rw [mrg_gt h2]; simp only [rd, List.map_cons] at *; rw [mrgP, if_neg h1, if_pos h2, ih]; rfl
  | case6 a az b bs h1 h2 ih => rw [mrg_eq (by omega)]; simp only [rd, List.map_cons] at *; rw [mrgP, if_neg h1, if_neg h2, ih]; rfl

/-- all that is likelier in a -/
def apS (Ta Tb : Int) : List (Pt × Pt) → Int
  | [] => 0
  | p :: l => max 0 (p.1.2 * Tb - p.2.2 * Ta) + apS Ta Tb l

theorem apS_append (Ta Tb : Int) (l m : List (Pt × Pt)) : apS Ta Tb (l ++ m) = apS Ta Tb l + apS Ta Tb m := by
  induction l with
  | nil => simp [apS]
  | cons p l ih => simp only [List.cons_append, apS, ih]; omega

/-- Apart -/
def apartT (l m : List Pt) : Int × Int × Int :=
  if twoE l m = 0 then Rt.mkT (apS (tot l) (tot m) (mrgP l m)) (tot l * tot m) else (0, 0, twoE l m)

theorem apS_nn (Ta Tb : Int) (l : List (Pt × Pt)) : 0 ≤ apS Ta Tb l := by
  induction l with
  | nil => simp [apS]
  | cons p l ih => simp only [apS]; omega

/-- what stands in two lists' pairs is in order and of weights of theirs -/
theorem mrgP_mem {az bz : List Pt} {p : Pt × Pt} (h : p ∈ mrgP az bz) : (p.1 ∈ az ∨ p.1 = ([], 0)) ∧ (p.2 ∈ bz ∨ p.2 = ([], 0)) := by
  induction az, bz using mrgP.induct with
  | case1 => simp [mrgP] at h
  | case2 b bs ih =>
    rw [mrgP] at h
    rcases List.mem_cons.1 h with rfl | h
    · exact ⟨.inr rfl, .inl (by simp)⟩
    · have := ih h; simp at this ⊢; rcases this with ⟨h1, h2 | h2⟩ <;> simp_all
  | case3 a az ih =>
    rw [mrgP] at h
    rcases List.mem_cons.1 h with rfl | h
    · exact ⟨.inl (by simp), .inr rfl⟩
    · have := ih h; simp at this ⊢; rcases this with ⟨h1 | h1, h2⟩ <;> simp_all
  | case4 a az b bs h1 ih =>
    rw [mrgP, if_pos h1] at h
    rcases List.mem_cons.1 h with rfl | h
    · exact ⟨.inl (by simp), .inr rfl⟩
    · obtain ⟨h2, h3⟩ := ih h
      exact ⟨h2.imp (fun h => by simp [h]) id, h3⟩
  | case5 a az b bs h1 h2 ih =>
    rw [mrgP, if_neg h1, if_pos h2] at h
    rcases List.mem_cons.1 h with rfl | h
    · exact ⟨.inr rfl, .inl (by simp)⟩
    · obtain ⟨h2, h3⟩ := ih h
      exact ⟨h2, h3.imp (fun h => by simp [h]) id⟩
  | case6 a az b bs h1 h2 ih =>
    rw [mrgP, if_neg h1, if_neg h2] at h
    rcases List.mem_cons.1 h with rfl | h
    · exact ⟨.inl (by simp), .inl (by simp)⟩
    · obtain ⟨h2, h3⟩ := ih h
      exact ⟨h2.imp (fun h => by simp [h]) id, h3.imp (fun h => by simp [h]) id⟩

/-- all that is likelier is at most all -/
theorem apS_le {az bz : List Pt} {Ta Tb : Int} (ha : Nn az) (hb : Nn bz) (hTa : 0 ≤ Ta) (hTb : 0 ≤ Tb) : apS Ta Tb (mrgP az bz) ≤ tot az * Tb := by
  induction az, bz using mrgP.induct with
  | case1 => simp [mrgP, apS]
  | case2 b bs ih =>
    have := ih ha fun q hq => hb q (by simp [hq])
    have h1 : 0 ≤ b.2 * Ta := Int.mul_nonneg (hb b (by simp)) hTa
    rw [mrgP]; simp only [apS, tot_nil]
    simp at this ⊢
    omega
  | case3 a az ih =>
    have := ih (fun q hq => ha q (by simp [hq])) hb
    have h1 : 0 ≤ a.2 * Tb := Int.mul_nonneg (ha a (by simp)) hTb
    rw [mrgP, tot_cons, Int.add_mul]; simp only [apS]
    simp at this ⊢
    omega
  | case4 a az b bs h1 ih =>
    have := ih (fun q hq => ha q (by simp [hq])) hb
    have h1' : 0 ≤ a.2 * Tb := Int.mul_nonneg (ha a (by simp)) hTb
    rw [mrgP, if_pos h1, tot_cons, Int.add_mul]; simp only [apS]
    simp at this ⊢
    omega
  | case5 a az b bs h1 h2 ih =>
    have := ih ha fun q hq => hb q (by simp [hq])
    have h1' : 0 ≤ b.2 * Ta := Int.mul_nonneg (hb b (by simp)) hTa
    rw [mrgP, if_neg h1, if_pos h2]; simp only [apS]
    simp at this ⊢
    omega
  | case6 a az b bs h1 h2 ih =>
    have := ih (fun q hq => ha q (by simp [hq])) (fun q hq => hb q (by simp [hq]))
    have h1' : 0 ≤ a.2 * Tb := Int.mul_nonneg (ha a (by simp)) hTb
    have h2' : 0 ≤ b.2 * Ta := Int.mul_nonneg (hb b (by simp)) hTa
    rw [mrgP, if_neg h1, if_neg h2, tot_cons, Int.add_mul]; simp only [apS]
    omega

theorem apS_prefix {Ta Tb : Int} {l m : List (Pt × Pt)} (h : l <+: m) : apS Ta Tb l ≤ apS Ta Tb m := by
  obtain ⟨k, rfl⟩ := h
  have := apS_nn Ta Tb k
  rw [apS_append]; omega
end Go.Proofs.Ythmkbkombjhaeaa

namespace Go.Proofs.Ythmkbkombjhaeaa
open Go.RowKit Go.Shelf Go.Proofs.Ythmkbkombjhaeaa.Ds
attribute [local go_sem] Oper.semAt_some

/-- the two parts of a round, in their boxes -/
def Two2 {w : World} {B : Nat} {M : Int} (W : World) (Bx : Nat) (x : PP w B M) : Prop :=
  W.heap[Bx]? = some (.cells #[x.1.1.1, .int .i64 x.1.1.2.2] 55 (0, 0)) ∧ W.heap[Bx + 1]? = some (.cells #[x.1.2.1, .int .i64 x.1.2.2.2] 55 (0, 0))

theorem Two2.own {w : World} {B : Nat} {M : Int} {W W' : World} {Bx : Nat} {x : PP w B M} {row : Option Nat} (h : Two2 W Bx x) (hg : W.grownBy W' row) (hr : ∀ r, row = some r → ∃ o : Obj, W.heap[r]? = some o ∧ o.isCells = false) : Two2 W' Bx x := by
  have key : ∀ (k : Nat) (o : Obj), W.heap[k]? = some o → o.isCells = true → W'.heap[k]? = some o := by
    intro k o hk ho
    rw [hg.block k (Array.getElem?_eq_some_iff.1 hk).1 ?_, hk]
    intro e
    obtain ⟨o', h1, h2⟩ := hr k e.symm
    rw [hk] at h1
    simp only [Option.some.injEq] at h1
    subst h1
    rw [ho] at h2
    cases h2
  exact ⟨key _ _ h.1 rfl, key _ _ h.2 rfl⟩

theorem Two2.cells {w : World} {B : Nat} {M : Int} {W : World} {Bx : Nat} {x : PP w B M} (h : Two2 W Bx x) :
    W.cell? ⟨Bx, 0, none⟩ = some x.1.1.1 ∧ W.cell? ⟨Bx, 1, none⟩ = some (.int .i64 x.1.1.2.2) ∧ W.cell? ⟨Bx + 1, 0, none⟩ = some x.1.2.1 ∧ W.cell? ⟨Bx + 1, 1, none⟩ = some (.int .i64 x.1.2.2.2) := by
  obtain ⟨h1, h2⟩ := h
  simp [World.cell?, h1, h2]

theorem two2_new {w : World} {B : Nat} {M : Int} (W : World) (x : PP w B M) : Two2 ((W.alloc (.cells #[x.1.1.1, .int .i64 x.1.1.2.2] 55)).alloc (.cells #[x.1.2.1, .int .i64 x.1.2.2.2] 55)) W.heap.size x := by
  refine ⟨?_, ?_⟩
  · rw [Below.heap_alloc _ _ _ (by simp)]; exact World.alloc_heap_new W _
  · have := World.alloc_heap_new (W.alloc (.cells #[x.1.1.1, .int .i64 x.1.1.2.2] 55)) (.cells #[x.1.2.1, .int .i64 x.1.2.2.2] 55)
    rwa [World.size_alloc] at this

theorem wrap_wrap (a b : Int) : wrap64 (wrap64 a + b) = wrap64 (a + b) := by
  unfold wrap64; omega
theorem wrap_id {a : Int} (h : -9223372036854775808 ≤ a ∧ a ≤ 9223372036854775807) : wrap64 a = a := by
  unfold wrap64; omega

/-- the sum so far -/
def sumPP {w : World} {B : Nat} {M : Int} (Ta Tb : Int) (pre : List (PP w B M)) : Int := apS Ta Tb (pre.map fun x => bare x.1)
theorem sumPP_snoc {w : World} {B : Nat} {M : Int} (Ta Tb : Int) (pre : List (PP w B M)) (x : PP w B M) : sumPP Ta Tb (pre ++ [x]) = sumPP Ta Tb pre + max 0 (x.1.1.2.2 * Tb - x.1.2.2.2 * Ta) := by
  simp only [sumPP, List.map_append, apS_append, List.map_cons, List.map_nil, apS, bare]; omega

end Go.Proofs.Ythmkbkombjhaeaa

/-
  DERIVED: THE SHELF's CONTRACTS AT THIS DUMP, IN PLAIN WORDS (tools/lay-plain.mjs out of 'YthmkbkombjhaeaaShelf2.lean', which tools/lay-shelf.mjs wrote): THE SAME DECLARATIONS UNDER THE SAME NAMES: 'import', 'namespace', 'open', 'def', 'theorem' AND NOTHING ELSE: no command of the shelf's: FOR A HAND-IN. Each laying: the table of numbers ('.._ren') and one theorem, a field a fact of the dump's own or the kernel's comparison; each contract: ONE APPLICATION.
-/
namespace Go.Proofs
open Go.Shelf
def Try.mul64_ren : Go.Shelf.Ren := ⟨fun | 264 => 71 | n => n, fun | 53 => 94 | 46 => 101 | n => n, fun | n => n⟩
theorem Try.mul64 : Go.Proofs.Lays.n264 Try.prog Try.mul64_ren := {
  mixed := by kernel_rfl
  f264 := Try.func71.trans (congrArg some (by kernel_rfl))
  t46 := Try.underlying101
  a46 := Try.isAgg101
  z46 := Try.sizeOf101
  v46 := Try.zeroValue101
  t53 := Try.underlying94
  a53 := Try.isAgg94
  z53 := Try.sizeOf94
  v53 := Try.zeroValue94 }
end Go.Proofs
