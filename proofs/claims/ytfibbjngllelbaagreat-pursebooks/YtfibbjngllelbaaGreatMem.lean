import Derived.Test.YtfibbjngllelbaaGreatRows
import Derived.Test.YtfibbjngllelbaaGreatLst
import Derived.WalkKit
import Derived.WalkSpells
import Derived.Deep.QuietTactic
import Derived.BigQuiet
import Derived.WalkSmall
namespace Go.Proofs.YtfibbjngllelbaaGreat
open Go.RowKit Go.Proofs.YtfibbjngllelbaaGreat.Ds

/-- THE NUMBERS BEHIND A SLICE, in a block below B that is not nb. -/
def Ints (w : World) (B nb : Nat) (v : Value) (xs : List Int) : Prop :=
  ∃ a c, v = .slice a xs.length c ∧ xs.length ≤ c ∧ xs.length ≤ 9223372036854775807 ∧
    (xs ≠ [] → ∃ b o, a = some ⟨b, o, none⟩ ∧ b < B ∧ b ≠ nb ∧ ∀ i x, xs[i]? = some x → w.cell? ⟨b, o + i, none⟩ = some (.int .i64 x))

theorem Ints.keep {w w' : World} {B nb : Nat} {v : Value} {xs : List Int} (h : Ints w B nb v xs) (hb : Below B w w') : Ints w' B nb v xs := by
  obtain ⟨a, c, hv, hc, hl, hx⟩ := h
  refine ⟨a, c, hv, hc, hl, fun hne => ?_⟩
  obtain ⟨b, o, ha, hB, hn, hcell⟩ := hx hne
  exact ⟨b, o, ha, hB, hn, fun i x hi => (hb.cell (p := ⟨b, o + i, none⟩) hB).trans (hcell i x hi)⟩

theorem Ints.mono {w : World} {B B' nb nb' : Nat} {v : Value} {xs : List Int} (h : Ints w B nb v xs) (hB : B ≤ B') (hn : nb' = nb ∨ B ≤ nb') : Ints w B' nb' v xs := by
  obtain ⟨a, c, hv, hc, hl, hx⟩ := h
  refine ⟨a, c, hv, hc, hl, fun hne => ?_⟩
  obtain ⟨b, o, ha, hb, hnb, hcell⟩ := hx hne
  exact ⟨b, o, ha, by omega, by rcases hn with h | h <;> omega, hcell⟩

theorem get_lt {α : Type} {l : List α} {i : Nat} (h : i < l.length) : ∃ x, l[i]? = some x := ⟨l[i], List.getElem?_eq_getElem h⟩
theorem ne_of_lt {α : Type} {l : List α} {i : Nat} (h : i < l.length) : l ≠ [] := by rintro rfl; simp at h
theorem ret_b {a b : Bool} (h : a = b) : Ending.returned (.bool a) = .returned (.bool b) := by rw [h]

theorem dr2 (w : World) (a b c : Nat) : ∃ q, ((w.drewN a).drewN b).drewN c = w.drewN q := by simp only [World.drewN_drewN]; exact ⟨_, rfl⟩
theorem dr1 (w : World) (a b : Nat) : ∃ q, (w.drewN a).drewN b = w.drewN q := by simp only [World.drewN_drewN]; exact ⟨_, rfl⟩

/-! ### comparing -/

theorem cmpT_step {x y : List Int} {i : Nat} {a b : Int} (hx : x[i]? = some a) (hy : y[i]? = some b) :
    cmpT (x.drop i) (y.drop i) = if a < b then -1 else if b < a then 1 else cmpT (x.drop (i + 1)) (y.drop (i + 1)) := by
  rw [List.drop_eq_getElem_cons (List.getElem?_eq_some_iff.1 hx).1, List.drop_eq_getElem_cons (List.getElem?_eq_some_iff.1 hy).1, (List.getElem?_eq_some_iff.1 hx).2, (List.getElem?_eq_some_iff.1 hy).2]
  rfl

end Go.Proofs.YtfibbjngllelbaaGreat
