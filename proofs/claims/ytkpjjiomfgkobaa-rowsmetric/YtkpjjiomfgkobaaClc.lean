import Derived.Test.YtkpjjiomfgkobaaRfm
namespace Go.Proofs.Ytkpjjiomfgkobaa
open Go.RowKit Go.Proofs.Ytkpjjiomfgkobaa.Ds

/-- where a slice lies, if it lies anywhere -/
def Adr (P : Nat → Prop) (v : Value) : Prop := ∀ b o n c, v = .slice (some ⟨b, o, none⟩) n c → P b
theorem adr_nil (P : Nat → Prop) {n c : Nat} : Adr P (.slice none n c) := fun b o n c e => by simp at e
theorem Adr.imp {P P' : Nat → Prop} {v : Value} (h : Adr P v) (k : ∀ b, P b → P' b) : Adr P' v := fun b o n c e => k b (h b o n c e)
theorem adr_at {P : Nat → Prop} {b o n c : Nat} (h : P b) : Adr P (.slice (some ⟨b, o, none⟩) n c) := fun b' o' n' c' e => by
  simp only [Value.slice.injEq, Option.some.injEq, Addr.mk.injEq] at e
  rw [← e.1.1]; exact h
theorem Ints.gb {w w' : World} {B nb : Nat} {v : Value} {xs : List Int} {row : Option Nat} (h : Ints w B nb v xs) (hg : w.grownBy w' row) (ha : Adr (fun b => row ≠ some b) v) : Ints w' B nb v xs := by
  obtain ⟨a, c, hv, hc, hl, hx⟩ := h
  refine ⟨a, c, hv, hc, hl, fun hne => ?_⟩
  obtain ⟨b, o, e, hb, hn, hcell⟩ := hx hne
  refine ⟨b, o, e, hb, hn, fun i x hi => hg.cell (hcell i x hi) fun e2 => ?_⟩
  exact ha b o _ _ (by rw [hv, e]) e2.symm
theorem Cols.gb {w w' : World} {B : Nat} {v : Value} {l : List Col} {row : Option Nat} (h : Cols w B v l) (hg : w.grownBy w' row) (ha : Adr (fun b => row ≠ some b) v) : Cols w' B v l := by
  obtain ⟨a, c, hv, hc, hl, hn, hx⟩ := h
  refine ⟨a, c, hv, hc, hl, hn, fun hne => ?_⟩
  obtain ⟨b, o, e, hb, hcell⟩ := hx hne
  have hne2 : row ≠ some b := ha b o _ _ (by rw [hv, e])
  exact ⟨b, o, e, hb, fun i x hi => ⟨hg.cell (hcell i x hi).1 (fun e2 => hne2 e2.symm), hg.cell (hcell i x hi).2 (fun e2 => hne2 e2.symm)⟩⟩
/-- where rows lie -/
def AdrR (P : Nat → Prop) (v : Value) (ts : List Rw) : Prop := Adr P v ∧ ∀ t ∈ ts, Adr P t.1
theorem AdrR.imp {P P' : Nat → Prop} {v : Value} {ts : List Rw} (h : AdrR P v ts) (k : ∀ b, P b → P' b) : AdrR P' v ts := ⟨h.1.imp k, fun t ht => (h.2 t ht).imp k⟩
theorem Rws.gb {w w' : World} {B : Nat} {v : Value} {ts : List Rw} {row : Option Nat} (h : Rws w B v ts) (hg : w.grownBy w' row) (ha : AdrR (fun b => row ≠ some b) v ts) : Rws w' B v ts := by
  obtain ⟨a, c, hv, hc, hl, hi, hx⟩ := h
  refine ⟨a, c, hv, hc, hl, fun t ht => (hi t ht).gb hg (ha.2 t ht), fun hne => ?_⟩
  obtain ⟨b, o, e, hb, hcell⟩ := hx hne
  have hne2 : row ≠ some b := ha.1 b o _ _ (by rw [hv, e])
  exact ⟨b, o, e, hb, fun i t ht => hg.cell (hcell i t ht) (fun e2 => hne2 e2.symm)⟩
theorem Rwr.adr {w : World} {lo : Nat} {v : Value} {ts : List Rw} (h : Rwr w lo v ts) (hs : Som lo ts) : AdrR (fun b => lo ≤ b) v ts :=
  ⟨fun b o n c e => owns_block h.1 b (by rw [e]; obtain ⟨g, c', e', _⟩ := owns_some h.1 (by rw [e]; simp); rw [e] at e'; simp at e'; rw [e'.1.2]; rfl), fun t ht => by
    obtain ⟨b, o, n, c, e, hb⟩ := hs t ht
    rw [e]; exact adr_at hb⟩

set_option maxHeartbeats 1000000 in
set_option maxRecDepth 100000 in
theorem cloneC_new (B : Nat) (v : Value) (l : List Col) (w : World) (hB : B ≤ w.heap.size) (hx : Cols w B v l) (hsm : l.length ≤ 1073741824) :
    Calls Try.prog 32 #[v] w fun e w' => ∃ v', e = .returned v' ∧ Cols w' w'.heap.size v' l ∧ Adr (fun b => w.heap.size ≤ b) v' ∧ Below w.heap.size w w' := by
  obtain ⟨a, c, rfl, hc, hl, hnm, hxx⟩ := hx
  have q22 : ∀ (w : World) (a : Option Addr) (n c n' c' : Nat), (binOp .eql 22 (.slice a n c) (.slice none n' c')).run Try.prog w = .ok (.bool a.isNone) w := fun w a n c n' c' => Lib.run_eql_slice_nil w _ _ a n c n' c' Try.underlying22
  cases a with
  | none =>
    obtain rfl : l = [] := by
      cases l with
      | nil => rfl
      | cons x l => obtain ⟨b, o, h, _⟩ := hxx (by simp); cases h
    clear hxx
    go_enter Try.func32, Try.ntmps32
    go_wp2
    go_ret
    exact ⟨_, rfl, ⟨none, 0, rfl, Nat.le_refl _, by simp, hnm, fun h => absurd rfl h⟩, adr_nil _, Below.refl _ _⟩
  | some ad =>
    have A : Hid (∀ j u, (flatC l)[j]? = some u → ∀ o, (w.alloc o).cell? (ad.add j) = some u) := by
      intro j u hj o
      have hlt : j < l.length * 2 := by rw [← flatC_len]; exact (List.getElem?_eq_some_iff.1 hj).1
      obtain ⟨b, o', he, hb, hcell⟩ := hxx (ne_of_lt (i := j / 2) (by omega))
      simp only [Option.some.injEq] at he
      subst he
      rw [Addr.add_lit, World.cell?_alloc_lt _ _ _ (by simp; omega)]
      exact flatC_cells hcell j u hj
    obtain ⟨i0, hi, hz0, hz1, hz2⟩ := info_parts info47
    have HNM : Hid (∀ x ∈ l, x.1.size ≤ 9223372036854775807) := hnm
    clear hxx hnm
    have hnb : Hid (l.length * 24 ≤ 140737488355328 ∧ l.length ≤ maxLen) := ⟨by omega, by simp [maxLen]; omega⟩
    go_enter Try.func32, Try.ntmps32
    go_wp2_with (at_builtin; refine wpList_append_own _ rfl _ _ 22 rfl w.heap.size 47 i0 (.agg #[.string ByteArray.empty, .int .i64 0]) 2 24 Try.underlying22 hi hz0 hz1 hz2 rfl (by decide) _ _ _ rfl (World.ownsRow_made w #[] 0 (Nat.le_refl _) (Nat.zero_le _) (by simp)) ad l.length c (flatC l) rfl ?qc1 ?qc2 ?qc3 ?qc4 ?qc5 ?qc6 ?_)
    case qc1 => exact flatC_len l
    case qc2 => intro j u hj; exact A.out j u hj _
    case qc3 => intro u hu; obtain ⟨x, _, hx⟩ := List.mem_flatMap.1 hu; simp at hx; rcases hx with rfl | rfl <;> rfl
    case qc4 => rw [Nat.zero_add]; exact hnb.out.2
    case qc5 => rw [Nat.zero_add]; exact hnb.out.1
    case qc6 => simp
    intro v' w1 hown hgrow hnil
    go_wp2
    go_ret
    have hadr : Adr (fun b => w.heap.size ≤ b) v' := fun b o n c e => owns_block hown b (by rw [e]; rfl)
    refine ⟨v', rfl, ?_, hadr, ((Below.refl _ w).alloc (Nat.le_refl _) _).grown hgrow (by simp) (by intro k hk; simp [Value.ownBlock] at hk; omega)⟩
    obtain ⟨_, ⟨hv, h0⟩ | ⟨g, cap, cur, hv, hb, hcur, hc, _, hsz, hx⟩⟩ := hown
    · obtain rfl : l = [] := List.length_eq_zero_iff.1 (by omega)
      exact ⟨none, 0, hv, Nat.le_refl _, by simp, HNM.out, fun h => absurd rfl h⟩
    · refine ⟨_, cap, hv, hc, hl, HNM.out, fun _ => ⟨g, 0, rfl, (Array.getElem?_eq_some_iff.1 hcur).1, fun i x hi => ?_⟩⟩
      have hi2 : i < l.length := (List.getElem?_eq_some_iff.1 hi).1
      have hget : ∀ j u, (flatC l)[j]? = some u → w1.cell? ⟨g, 0 + j, none⟩ = some u := by
        intro j u hj
        have hj2 : j < l.length * 2 := by rw [← flatC_len]; exact (List.getElem?_eq_some_iff.1 hj).1
        have : cur[j]? = some u := by
          have h2 : (cur.toList.take (l.length * 2))[j]? = some u := by rw [hx]; simpa using hj
          rw [List.getElem?_take_of_lt hj2] at h2
          simpa using h2
        simp [World.cell?, hcur, this]
      have hg := flatC_get l i
      exact ⟨hget _ _ (by rw [hg.1, hi]; rfl), by rw [Nat.add_assoc]; exact hget _ _ (by rw [hg.2, hi]; rfl)⟩
end Go.Proofs.Ytkpjjiomfgkobaa
