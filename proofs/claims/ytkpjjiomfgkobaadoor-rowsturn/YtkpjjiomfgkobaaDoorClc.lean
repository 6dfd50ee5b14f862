import Derived.Test.YtkpjjiomfgkobaaDoorRfr
namespace Go.Proofs.YtkpjjiomfgkobaaDoor
open Go.RowKit Go.Proofs.YtkpjjiomfgkobaaDoor.Ds

/-- where a slice lies, if it lies anywhere -/
def Adr (P : Nat → Prop) (v : Value) : Prop := ∀ b o n c, v = .slice (some ⟨b, o, none⟩) n c → P b
theorem adr_nil (P : Nat → Prop) {n c : Nat} : Adr P (.slice none n c) := fun b o n c e => by simp at e
theorem Adr.imp {P P' : Nat → Prop} {v : Value} (h : Adr P v) (k : ∀ b, P b → P' b) : Adr P' v := fun b o n c e => k b (h b o n c e)
theorem adr_at {P : Nat → Prop} {b o n c : Nat} (h : P b) : Adr P (.slice (some ⟨b, o, none⟩) n c) := fun b' o' n' c' e => by
  simp only [Value.slice.injEq, Option.some.injEq, Addr.mk.injEq] at e
  rw [← e.1.1]; exact h
theorem Ints.gb {w w' : World} {B nb : Nat} {v : Value} {xs : List Int} {row : Option Nat} (h : Ints w B nb v xs) (hg : w.grownBy w' row) (ha : Adr (fun b => row ≠ some b) v) : Ints w' B nb v xs := by
  obtain ⟨a, c, hv, hc, hl, hx⟩ := h
  refine ⟨a, c, hv, hc, hl, fun hne => ?_⟩
  obtain ⟨b, o, e, hb, hn, hcell⟩ := hx hne
  refine ⟨b, o, e, hb, hn, fun i x hi => hg.cell (hcell i x hi) fun e2 => ?_⟩
  exact ha b o _ _ (by rw [hv, e]) e2.symm
theorem Cols.gb {w w' : World} {B : Nat} {v : Value} {l : List Col} {row : Option Nat} (h : Cols w B v l) (hg : w.grownBy w' row) (ha : Adr (fun b => row ≠ some b) v) : Cols w' B v l := by
  obtain ⟨a, c, hv, hc, hl, hn, hx⟩ := h
  refine ⟨a, c, hv, hc, hl, hn, fun hne => ?_⟩
  obtain ⟨b, o, e, hb, hcell⟩ := hx hne
  have hne2 : row ≠ some b := ha b o _ _ (by rw [hv, e])
  exact ⟨b, o, e, hb, fun i x hi => ⟨hg.cell (hcell i x hi).1 (fun e2 => hne2 e2.symm), hg.cell (hcell i x hi).2 (fun e2 => hne2 e2.symm)⟩⟩
/-- where rows lie -/
def AdrR (P : Nat → Prop) (v : Value) (ts : List Rw) : Prop := Adr P v ∧ ∀ t ∈ ts, Adr P t.1
theorem AdrR.imp {P P' : Nat → Prop} {v : Value} {ts : List Rw} (h : AdrR P v ts) (k : ∀ b, P b → P' b) : AdrR P' v ts := ⟨h.1.imp k, fun t ht => (h.2 t ht).imp k⟩
theorem Rws.gb {w w' : World} {B : Nat} {v : Value} {ts : List Rw} {row : Option Nat} (h : Rws w B v ts) (hg : w.grownBy w' row) (ha : AdrR (fun b => row ≠ some b) v ts) : Rws w' B v ts := by
  obtain ⟨a, c, hv, hc, hl, hi, hx⟩ := h
  refine ⟨a, c, hv, hc, hl, fun t ht => (hi t ht).gb hg (ha.2 t ht), fun hne => ?_⟩
  obtain ⟨b, o, e, hb, hcell⟩ := hx hne
  have hne2 : row ≠ some b := ha.1 b o _ _ (by rw [hv, e])
  exact ⟨b, o, e, hb, fun i t ht => hg.cell (hcell i t ht) (fun e2 => hne2 e2.symm)⟩
theorem Rwr.adr {w : World} {lo : Nat} {v : Value} {ts : List Rw} (h : Rwr w lo v ts) (hs : Som lo ts) : AdrR (fun b => lo ≤ b) v ts :=
  ⟨fun b o n c e => owns_block h.1 b (by rw [e]; obtain ⟨g, c', e', _⟩ := owns_some h.1 (by rw [e]; simp); rw [e] at e'; simp at e'; rw [e'.1.2]; rfl), fun t ht => by
    obtain ⟨b, o, n, c, e, hb⟩ := hs t ht
    rw [e]; exact adr_at hb⟩

end Go.Proofs.YtkpjjiomfgkobaaDoor
