import Derived.Test.YtfcbkcoagoncoaaQk36
import Derived.Sort.BigQuietIn
namespace Go.Proofs.Ytfcbkcoagoncoaa
open Go.RowKit Go.Shelf

/-- no operation puts a call off -/
def noDefer : Op → Bool
  | .defer _ => false
  | _ => true

section
variable {F : Fence} {n : Nat} {P : Program} {ops : Array Oper} {C : World → Prop}

theorem quiet_oper {o : Oper} {a : Act} {K : Act → Prop} {K' : Act → World → Prop} {Q' : Exit → Act → World → Prop} {w : World} (hd : noDefer o.op = true) (hw : C w)
    (h : ∀ a w', C w' → K a → K' a w') (ha : o.askedIn F P a C) (hh : o.quietIn F n P a C K) : o.wpIn F n P a w K' Q' := by
  refine ⟨ha w hw, ?_⟩
  rw [Oper.semAt_eq _ _ _ (fun c e => by rw [e] at hd; cases hd)]
  obtain ⟨v, h1, h2⟩ := hh
  have h3 := h1 w hw
  unfold Oper.quietAtIn at h3
  revert h3
  generalize (execOp a.eval o).run P w = r
  intro h3
  rcases r with ⟨x, w'⟩ | ⟨x, w'⟩
  · cases x <;> simp only [Oper.quietUponIn] at h3 <;> simp only [Oper.uponIn]
    · rw [h3.1, h3.2]; exact h _ _ hw h2
    · rw [h3.1, ← h3.2]; exact h _ _ hw h2
    · rw [h3.1]
      exact ⟨h3.2.1, h3.2.2.mono fun e w'' he => by obtain ⟨rfl, hc⟩ := he; exact h _ _ hc h2⟩
  · simp only [Oper.quietUponIn] at h3

theorem quiet_any {Q : Act → Prop} {Q' : Exit → Act → World → Prop} (hd : ops.toList.all (fun o => noDefer o.op) = true) (hQ : ∀ a w, C w → Q a → Q' .normal a w) :
    ∀ (fuel : Nat) (listed : Array Bool) (a : Act) (w : World), C w → wpAnyQIn F n P .any ops C Q fuel listed a → wpAnyIn F n P .any ops Q' fuel listed a w := by
  intro fuel
  induction fuel with
  | zero => intro _ a w hw h; exact ⟨h.1, hQ _ _ hw h.2⟩
  | succ fuel ih =>
    intro listed a w hw h
    refine ⟨fun h0 => hQ _ _ hw (h.1 h0), fun i hi => ?_⟩
    have hh := h.2 i hi
    unfold qOpIn at hh
    unfold wpOpIn
    cases ho : ops[i]? with
    | none => simp only [ho] at hh ⊢; exact ih _ _ _ hw hh
    | some o =>
      simp only [ho] at hh ⊢
      have hdo : noDefer o.op = true := List.all_eq_true.1 hd o (by
        rw [Array.mem_toList_iff]; exact Array.mem_of_getElem? ho)
      by_cases hq : Region.wanted o (yielded ops a.tmps) = true
      · rw [if_pos hq] at hh ⊢
        exact quiet_oper hdo hw (fun a' w' hw' h' => ih _ a' w' hw' h') hh.1 hh.2
      · rw [if_neg hq] at hh ⊢
        exact ⟨hh.1 w hw, ih _ _ _ hw hh.2⟩

/-- a region that draws, and only reads, in a round -/
theorem quiet_region {id : Nat} {Q : Exit → Act → World → Prop} {a : Act} {w : World} {l : List Oper} (hd : l.all (fun o => noDefer o.op) = true) (hm : P.follows .mixedOrders = true)
    (hB : Region.lexB .any l.toArray = true)
    (h : wpQuietIn F n P l.toArray (fun w' => ∃ n, w' = w.drewN n) (fun a' => ∀ w', (∃ n, w' = w.drewN n) → Q .normal a' w') l a) : (Code.region id l.toArray true).wpIn F n P Q a w := by
  simp only [Region.lexB, Bool.and_eq_true] at hB
  refine wpIn_region_any hm (quiet_any (C := fun w' => ∃ n, w' = w.drewN n) (Q := fun a' => ∀ w', (∃ n, w' = w.drewN n) → Q .normal a' w') (by simpa using hd) (fun _ w' hw' h => h w' hw') _ _ _ _ ⟨1, rfl⟩ ?_)
  have := wpAnyQIn_lex (F := F) (n := n) (C := fun w' => ∃ n, w' = w.drewN n) (md := .any) hB.1 l 0 (Array.replicate l.toArray.size false) a (by simp) (by simpa using hB.2) h
  simpa using this
end
end Go.Proofs.Ytfcbkcoagoncoaa
