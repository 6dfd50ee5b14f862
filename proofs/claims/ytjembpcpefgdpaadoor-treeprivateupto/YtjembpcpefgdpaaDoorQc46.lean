import Derived.Test.YtjembpcpefgdpaaDoorQc39
import Derived.OrdersHeld
import Derived.OrdersIn
namespace Go.Proofs.YtjembpcpefgdpaaDoor
open Go.RowKit Go.Proofs.YtjembpcpefgdpaaDoor.Ds

/-! ### loads that are taken first, though at last a store turns what they read: whoever spoils S waits for them -/
section
variable {P : Program} {ops : Array Oper} {Q : Exit → Act → World → Prop} {md : Region.Mode} {S : World → Prop} {J : Nat → Bool}
def wpAnyJ (P : Program) (md : Region.Mode) (ops : Array Oper) (Q : Exit → Act → World → Prop) (S : World → Prop) (J : Nat → Bool) : Nat → Array Bool → Act → World → Prop
  | 0, listed, a, w => Region.ready md ops listed = [] ∧ Q .normal a w
  | fuel + 1, listed, a, w => (Region.ready md ops listed = [] → Q .normal a w) ∧
    ∀ i ∈ Region.ready md ops listed, wpOp P ops Q i (fun a' w' => (J i = true → S w') ∧ wpAnyJ P md ops Q S J fuel (listed.setIfInBounds i true) a' w') a w
theorem wpAny_of_J : ∀ (fuel : Nat) (listed : Array Bool) (a : Act) (w : World), wpAnyJ P md ops Q S J fuel listed a w → wpAny P md ops Q fuel listed a w
  | 0, _, _, _, h => h
  | fuel + 1, _, _, _, h => ⟨h.1, fun i hi => wpOp_mono (fun a' w' h' => wpAny_of_J fuel _ a' w' h'.2) (h.2 i hi)⟩
/-- what is not in J waits for i -/
def Waits (md : Region.Mode) (ops : Array Oper) (J : Nat → Bool) (i : Nat) : Prop := ∀ j oj, ops[j]? = some oj → J j = false → ∃ e ∈ oj.after, Region.binds md e = true ∧ e.on = i
theorem wpAnyJ_first {i : Nat} {oi : Oper} {v : Value} (hi : ops[i]? = some oi) (hJi : J i = true) (hW : Waits md ops J i) (hsel : ∀ (j : Nat) (o : Oper) cs b, ops[j]? = some o → o.op ≠ .select cs b)
    (hQ : ∀ c a w, Q (.panic c) (a.put oi.dst v) w → Q (.panic c) a w) :
    ∀ (fuel : Nat) (listed : Array Bool) (a : Act) (w : World),
      (∀ j oj, ops[j]? = some oj → j ≠ i → listed.getD j true = false → (∀ e ∈ oj.after, Region.binds md e = true → e.on ≠ i) → oi.apart ops oj = true) →
      i ∈ Region.ready md ops listed → YieldsIf P ops S oi v a → S w →
      wpAnyJ P md ops Q S J fuel (listed.setIfInBounds i true) (a.put oi.dst v) w → wpAnyJ P md ops Q S J (fuel + 1) listed a w := by
  intro fuel
  induction fuel with
  | zero =>
    intro listed a w _ hr hy hS H
    refine ⟨fun h => (by rw [h] at hr; cases hr), fun j hj => ?_⟩
    by_cases hji : j = i
    · subst hji; exact hy.wpOp hi hS ⟨fun _ => hS, H⟩
    · have h0 := ready_mono hj hji
      rw [H.1] at h0
      cases h0
  | succ fuel ih =>
    intro listed a w hfree hr hy hS H
    refine ⟨fun h => (by rw [h] at hr; cases hr), fun j hj => ?_⟩
    by_cases hji : j = i
    · subst hji; exact hy.wpOp hi hS ⟨fun _ => hS, H⟩
    · obtain ⟨hjun, oj, hoj, hall⟩ := mem_ready.1 hj
      have hun := (mem_ready.1 hr).1
      have hnot : ∀ e ∈ oj.after, Region.binds md e = true → e.on ≠ i := fun e he hb heq => by
        have h1 := hall e he hb
        rw [heq] at h1
        rcases Nat.lt_or_ge i listed.size with h' | h'
        · simp [h'] at hun h1; rw [hun] at h1; cases h1
        · simp [Array.getElem?_eq_none h'] at h1
      have hJj : J j = true := by
        cases hc : J j with
        | true => rfl
        | false => obtain ⟨e, he, hb, heq⟩ := hW j oj hoj hc; exact absurd heq (hnot e he hb)
      have h2 := wpOp_putIf hoj (hfree j oj hoj hji hjun hnot) (fun cs b => hsel i oi cs b hi) (fun cs b => hsel j oj cs b hoj) hQ hy (H.2 j (ready_mono hj hji))
      have hfree' : ∀ k ok, ops[k]? = some ok → k ≠ i → (listed.setIfInBounds j true).getD k true = false →
          (∀ e ∈ ok.after, Region.binds md e = true → e.on ≠ i) → oi.apart ops ok = true := fun k ok hk hki hun' hno => by
        refine hfree k ok hk hki ?_ hno
        by_cases hjk : j = k
        · subst hjk; exact hjun
        · rwa [getD_set_ne true hjk] at hun'
      refine wpOp_mono (fun a' w' h3 => ⟨fun _ => h3.2.1 hJj, ih (listed.setIfInBounds j true) a' w' hfree' (ready_mono hr (Ne.symm hji)) h3.1 (h3.2.1 hJj) ?_⟩) h2
      rw [Array.setIfInBounds_comm _ _ hji]
      exact h3.2.2
theorem wpAnyJ_take {i : Nat} {oi : Oper} {v : Value} {fuel : Nat} {listed : Array Bool} {a : Act} {w : World} (hi : ops[i]? = some oi) (hJi : J i = true) (hW : Waits md ops J i)
    (hs : Region.noSelect ops = true) (hf : Region.free md ops listed i = true) (hr : (Region.ready md ops listed).contains i = true)
    (hQ : ∀ c a w, Q (.panic c) (a.put oi.dst v) w → Q (.panic c) a w) (hy : YieldsIf P ops S oi v a) (hS : S w)
    (h : wpAnyJ P md ops Q S J fuel (listed.setIfInBounds i true) (a.put oi.dst v) w) : wpAnyJ P md ops Q S J (fuel + 1) listed a w :=
  wpAnyJ_first hi hJi hW (Region.noSelect_spec hs) hQ fuel listed a w (Region.free_spec hi hf) (by simpa using hr) hy hS h
theorem wpAnyJ_done {listed : Array Bool} {a : Act} {w : World} (hr : Region.ready md ops listed = []) (h : Q .normal a w) : ∀ fuel, wpAnyJ P md ops Q S J fuel listed a w
  | 0 => ⟨hr, h⟩
  | _ + 1 => ⟨fun _ => h, by rw [hr]; simp⟩
/-- each of the operations rs comes up next -/
def AllJ (P : Program) (md : Region.Mode) (ops : Array Oper) (Q : Exit → Act → World → Prop) (S : World → Prop) (J : Nat → Bool) (fuel : Nat) (listed : Array Bool) (a : Act) (w : World) (rs : List Nat) : Prop :=
  ∀ i ∈ rs, wpOp P ops Q i (fun a' w' => (J i = true → S w') ∧ wpAnyJ P md ops Q S J fuel (listed.setIfInBounds i true) a' w') a w
theorem AllJ.nil {fuel : Nat} {listed : Array Bool} {a : Act} {w : World} : AllJ P md ops Q S J fuel listed a w [] := fun _ h => by cases h
theorem AllJ.cons {fuel : Nat} {listed : Array Bool} {a : Act} {w : World} {i : Nat} {o : Oper} {rs : List Nat} (ho : ops[i]? = some o)
    (h : ∀ K' : Act → World → Prop, Shut (∀ a w, (J i = true → S w) → wpAnyJ P md ops Q S J fuel (listed.setIfInBounds i true) a w → K' a w) → if Region.wanted o (yielded ops a.tmps) = true then Oper.wp P o a w K' Q else K' (a.put o.dst undef) w)
    (hs : AllJ P md ops Q S J fuel listed a w rs) : AllJ P md ops Q S J fuel listed a w (i :: rs) := fun j hj => by
  rcases List.mem_cons.1 hj with rfl | hj
  · exact wpOp_step ho (fun K' hK => h K' (fun a w hS hW => hK a w ⟨hS, hW⟩))
  · exact hs j hj
theorem wpAnyJ_ready {rs : List Nat} {fuel : Nat} {listed : Array Bool} {a : Act} {w : World} (hr : Region.ready md ops listed = rs) (hne : rs ≠ []) (h : AllJ P md ops Q S J fuel listed a w rs) : wpAnyJ P md ops Q S J (fuel + 1) listed a w :=
  ⟨fun h0 => absurd (hr ▸ h0) hne, hr ▸ h⟩
/-- the beginning: a statement that draws its order -/
theorem wp_region_Jp {id : Nat} {a : Act} {w : World} (hm : P.follows .mixedOrders = true)
    (h : wpAnyJ P .any ops Q S J ops.size (Array.replicate ops.size false) a w.drew) : (Code.region id ops true).wp P Q a w :=
  wp_region_any hm (wpAny_of_J _ _ _ _ h)
end
/-- what is not in J waits for i: reckoned -/
def waitsB (md : Region.Mode) (ops : Array Oper) (J : Nat → Bool) (i : Nat) : Bool := (List.range ops.size).all fun j => J j || match ops[j]? with | some oj => oj.after.any (fun e => Region.binds md e && e.on == i) | none => true
theorem waits_of {md : Region.Mode} {ops : Array Oper} {J : Nat → Bool} {i : Nat} (h : waitsB md ops J i = true) : Waits md ops J i := by
  intro j oj hj hJ
  have hlt : j < ops.size := (Array.getElem?_eq_some_iff.1 hj).1
  have h1 := List.all_eq_true.1 h j (List.mem_range.2 hlt)
  simp only [hJ, Bool.false_or, hj] at h1
  obtain ⟨k, hk, he⟩ := Array.any_eq_true.1 h1
  simp only [Bool.and_eq_true, beq_iff_eq] at he
  exact ⟨_, Array.getElem_mem hk, he.1, he.2⟩

theorem info33 : (Tryd.prog.info? 33).map (fun i => (i.zero, i.size, i.bytes)) = some (some (.slice none 0 0), 1, 24) := by kernel_rfl
theorem info29 : (Tryd.prog.info? 29).map (fun i => (i.zero, i.size, i.bytes)) = some (some (.int .i64 0), 1, 8) := by kernel_rfl
/-- two rows that grow, in blocks of their own from m on, behind a block P; all else as it was in A -/
structure Two9 (A W : World) (P m nt ne : Nat) (TV EV tv ev : Value) (tl el : List Value) (x y z : Value) : Prop where
  bx : FivB W P TV EV x y z
  t : W.ownsRow m 33 1 tv nt tl
  e : W.ownsRow m 29 1 ev ne el
  k : Kp A W (fun b => b = P ∨ TV.ownBlock = some b ∨ EV.ownBlock = some b)
  ta : ∀ g, tv.ownBlock = some g → TV.ownBlock = some g ∨ A.heap.size ≤ g
  ea : ∀ g, ev.ownBlock = some g → EV.ownBlock = some g ∨ A.heap.size ≤ g
  ds : ∀ g, tv.ownBlock = some g → ev.ownBlock ≠ some g
theorem Two9.none {A W W' : World} {P m nt ne : Nat} {TV EV tv ev : Value} {tl el : List Value} {x y z : Value} (h : Two9 A W P m nt ne TV EV tv ev tl el x y z) (hg : W.grownBy W' none) : Two9 A W' P m nt ne TV EV tv ev tl el x y z :=
  ⟨h.bx.same (hg.block P h.bx.lt (by simp)), row_gb h.t hg (by simp), row_gb h.e hg (by simp), h.k.gb hg (by simp), h.ta, h.ea, h.ds⟩
theorem Two9.told {A W W' : World} {P m n ne g c : Nat} {TV EV ev v : Value} {tl el : List Value} {x y z : Value} (h : Two9 A W P m n ne TV EV TV ev tl el x y z) (hg : W.grownBy W' TV.ownBlock)
    (ho : W'.ownsRow m 33 1 (.slice (some ⟨g, 0, Option.none⟩) (n + 1) c) (n + 1) (tl ++ [v])) (ha : TV.ownBlock = some g ∨ g = W.heap.size) (hP : P < m) (hT : ∀ g, TV.ownBlock = some g → m ≤ g ∧ g < A.heap.size) (_hE : ∀ g, EV.ownBlock = some g → m ≤ g ∧ g < A.heap.size) :
    Two9 A W' P m (n + 1) ne TV EV (.slice (some ⟨g, 0, Option.none⟩) (n + 1) c) ev (tl ++ [v]) el x y z := by
  refine ⟨h.bx.same (hg.block P h.bx.lt (fun e => by have := (hT P e.symm).1; omega)), ho, row_gb h.e hg (fun g h1 e => h.ds g e h1), h.k.gb hg (fun x e _ => .inr (.inl e)), fun g' e => ?_, h.ea, fun g' e h2 => ?_⟩
  · simp only [Value.ownBlock, Option.some.injEq] at e
    subst e
    rcases ha with h1 | h1
    · exact .inl h1
    · have := h.k.size; exact .inr (by omega)
  · simp only [Value.ownBlock, Option.some.injEq] at e
    subst e
    rcases ha with h1 | h1
    · exact h.ds g h1 h2
    · have := (row_lt h.e h2).2; omega
theorem Two9.errs {A W W' : World} {P m n nt g c : Nat} {TV EV tv v : Value} {tl el : List Value} {x y z : Value} (h : Two9 A W P m nt n TV EV tv EV tl el x y z) (hg : W.grownBy W' EV.ownBlock)
    (ho : W'.ownsRow m 29 1 (.slice (some ⟨g, 0, Option.none⟩) (n + 1) c) (n + 1) (el ++ [v])) (ha : EV.ownBlock = some g ∨ g = W.heap.size) (hP : P < m) (_hT : ∀ g, TV.ownBlock = some g → m ≤ g ∧ g < A.heap.size) (hE : ∀ g, EV.ownBlock = some g → m ≤ g ∧ g < A.heap.size) :
    Two9 A W' P m nt (n + 1) TV EV tv (.slice (some ⟨g, 0, Option.none⟩) (n + 1) c) tl (el ++ [v]) x y z := by
  refine ⟨h.bx.same (hg.block P h.bx.lt (fun e => by have := (hE P e.symm).1; omega)), row_gb h.t hg (fun g h1 e => h.ds g h1 e), ho, h.k.gb hg (fun x e _ => .inr (.inr e)), h.ta, fun g' e => ?_, fun g' h2 e => ?_⟩
  · simp only [Value.ownBlock, Option.some.injEq] at e
    subst e
    rcases ha with h1 | h1
    · exact .inl h1
    · have := h.k.size; exact .inr (by omega)
  · simp only [Value.ownBlock, Option.some.injEq] at e
    subst e
    rcases ha with h1 | h1
    · exact h.ds g h2 h1
    · have := (row_lt h.t h2).2; omega
end Go.Proofs.YtjembpcpefgdpaaDoor
