import Derived.Test.YtkpjjiomfgkobaaNrr
import Derived.Test.YtkpjjiomfgkobaaNeb
import Derived.Test.YtkpjjiomfgkobaaCmr
import Derived.Maps.OwnIn
import Derived.BigRegionIn
namespace Go.Proofs.Ytkpjjiomfgkobaa
open Go.RowKit Go.Shelf Go.Proofs.Ytkpjjiomfgkobaa.Ds
attribute [local go_sem] Oper.semAt_some

/-- the tables that are near -/
def tabOf (l : List Col) (xs : List Int) : List Col × List (List Int) := (froC l xs, froT l xs)
def neaT (l : List Col) (rs : List (List Int)) : List (List Col × List (List Int)) :=
  if wroE l rs = 0 then (nbL (celT l rs) (decide (rs.length < 4096)) (prd l)).map (tabOf l) else []
theorem nbL_count (cs : List Int) (room : Bool) (k : Nat) : (nbL cs room k).length ≤ 2 * k := by
  induction k with
  | zero => simp [nbL]
  | succ k ih =>
    have : (nb1 cs room k).length ≤ 2 := by unfold nb1; split <;> split <;> simp
    simp only [nbL, List.length_append]
    omega
theorem two_cells (w : World) (x y : Value) (t : TypeId) : ∀ j u, [x, y][j]? = some u → (w.alloc (.cells #[x, y] t)).cell? ((⟨w.heap.size, 0, none⟩ : Addr).add j) = some u := by
  intro j u hj
  rw [Addr.add_lit]
  have hj2 : j < 2 := by have := (List.getElem?_eq_some_iff.1 hj).1; simpa using this
  rcases (by omega : j = 0 ∨ j = 1) with rfl | rfl
  · simp at hj; subst hj; exact nc _ _ 0 _ rfl rfl
  · simp at hj; subst hj; exact nc _ _ 1 _ rfl rfl

/-- nobody: the iterator of a wrong table -/
theorem none_any (v : Value) (w : World) : Calls Try.prog 42 #[v] w fun e w' => (∃ u, e = .returned u) ∧ w' = w := by
  go_enter Try.func42, Try.ntmps42
  go_wp2
  go_end0
  exact ⟨⟨_, rfl⟩, rfl⟩
theorem none_seq {β : Type} (n : Nat) (Hd : β → World → World → Array Value → Prop) (K : Nat → Prop) (W0 : World) : SeqW n 42 #[] Hd K [] W0 := by
  intro y J Jx _ _ hst _
  refine (callsIn_wide.2 (none_any (.func (.yield y) #[] #[]) W0)).mono ?_
  rintro e w' ⟨⟨u, rfl⟩, rfl⟩
  exact ⟨⟨u, rfl⟩, w'.heap.size, Nat.le_refl _, .inl (hst w' (gb_refl _ _))⟩

/-- what plain.Near answers -/
def NearP (C : List (List Col × List (List Int))) (w : World) (e : Ending) (w' : World) : Prop :=
  ∃ lv tb, e = .returned (.tuple #[lv, .bool true]) ∧ Tbs w' w'.heap.size lv tb ∧ tb.map tc = C ∧ Below w.heap.size w w'

/-- all that has come so far -/
def PnI (lB n00 : Nat) (w00 : World) (l : List Col) (NF : World → Prop) (m : Nat) (pre : List (List Int)) (W : World) : Prop :=
  (∃ lv tb, Boxed W lB 39 lv ∧ Tbr W m lv tb ∧ tb.map tc = pre.map (tabOf l) ∧ ∀ t ∈ tb, AdrT (fun b => m ≤ b ∧ b < W.heap.size) t) ∧ NF W ∧ Below n00 w00 W
theorem pnI_clo {lB n00 lo : Nat} {w00 : World} {l : List Col} {NF : World → Prop} (h1 : lB < lo) (h2 : n00 ≤ lo) (h3 : n00 ≤ w00.heap.size) (hN : ∀ A B row, NF A → A.grownBy B row → (∀ r, row = some r → lo ≤ r) → NF B) : Clo lo (PnI lB n00 w00 l NF) := by
  rintro m pre A B row hm ⟨⟨lv, tb, hb, ht, hc, ha⟩, hn, hbl⟩ hg hr
  refine ⟨⟨lv, tb, boxed_gb hb hg (fun e => by have := hr _ e; omega), ht.gb hg (fun g e e2 => ?_) (fun t h => (ha t h).imp fun b hb' e => ?_), hc, fun t h => (ha t h).imp fun b hb' => ⟨hb'.1, Nat.lt_of_lt_of_le hb'.2 hg.size⟩⟩, hN A B row hn hg (fun r e => (hr r e).1), hbl.grown hg (Nat.le_trans h3 hbl.size) (fun k e => by have := hr k e; omega)⟩
  · have h4 := owns_block ht.1 g e
    have := hr g e2
    omega
  · have := hr b e
    omega
theorem Tbs.kpt {K : Nat → Prop} {w w' : World} {B : Nat} {v : Value} {tb : List Tb} (h : Tbs w B v tb) (k : Kpt K w w') (ha : Adr K v) (hat : ∀ t ∈ tb, AdrT K t) : Tbs w' B v tb := by
  obtain ⟨a, c, hv, hc, hl, hi, hx⟩ := h
  refine ⟨a, c, hv, hc, hl, fun t ht => ⟨?_, (hi t ht).2.kpt k (hat t ht).2⟩, fun hne => ?_⟩
  · obtain ⟨a', c', hv', hc', hl', hn', hx'⟩ := (hi t ht).1
    refine ⟨a', c', hv', hc', hl', hn', fun hne => ?_⟩
    obtain ⟨b, o, e, hb, hcell⟩ := hx' hne
    have hKb : K b := (hat t ht).1 b o _ _ (by rw [hv', e])
    exact ⟨b, o, e, hb, fun i x hi => ⟨(World.cell?_of_block (w := w) (a := ⟨b, o + i * 2, none⟩) (k.same _ hKb)).trans (hcell i x hi).1, (World.cell?_of_block (w := w) (a := ⟨b, o + i * 2 + 1, none⟩) (k.same _ hKb)).trans (hcell i x hi).2⟩⟩
  · obtain ⟨b, o, e, hb, hcell⟩ := hx hne
    have hKb : K b := ha b o _ _ (by rw [hv, e])
    exact ⟨b, o, e, hb, fun i t ht => ⟨(World.cell?_of_block (w := w) (a := ⟨b, o + i * 2, none⟩) (k.same _ hKb)).trans (hcell i t ht).1, (World.cell?_of_block (w := w) (a := ⟨b, o + i * 2 + 1, none⟩) (k.same _ hKb)).trans (hcell i t ht).2⟩⟩
theorem Tbr.adr {w : World} {lo : Nat} {v : Value} {tb : List Tb} (h : Tbr w lo v tb) : Adr (fun b => lo ≤ b ∧ b < w.heap.size) v := by
  intro b o n c e
  obtain ⟨g, c', e', h1, h2⟩ := owns_some h.1 (by rw [e]; simp)
  rw [e] at e'
  simp at e'
  omega

/-- what the second pass finds: what it counts, and the tables as they lay -/
structure PnS (ob nob kB lB n6 n00 D : Nat) (w00 : World) (lv : Value) (tb : List Tb) (W : World) : Prop where
  okb : Boxed W ob 4 (.bool true)
  lbx : Boxed W lB 39 lv
  tbs : Tbs W n6 lv tb
  dfr : W.heap[D]? = some (.deferred (some []))
  low : Below n00 w00 W
  sz : n6 ≤ W.heap.size
def PnJ (ob nob kB lB n6 n00 D : Nat) (w00 : World) (lv : Value) (tb : List Tb) (_ : Nat) (pre : List (List Int)) (W : World) : Prop :=
  PnS ob nob kB lB n6 n00 D w00 lv tb W ∧ Boxed W nob 4 (.bool false) ∧ Boxed W kB 3 (.int .i64 ((pre.length : Nat) : Int))
def PnX (ob nob kB lB n6 n00 D : Nat) (w00 : World) (lv : Value) (tb : List Tb) (_ : Nat) (_ : List (List Int)) (W : World) : Prop := PnS ob nob kB lB n6 n00 D w00 lv tb W
theorem PnS.gb {ob nob kB lB n6 n00 D : Nat} {w00 : World} {lv : Value} {tb : List Tb} {A B : World} {row : Option Nat} (h : PnS ob nob kB lB n6 n00 D w00 lv tb A) (hg : A.grownBy B row) (hr : ∀ r, row = some r → n6 ≤ r) (h1 : ob < n6) (h2 : lB < n6) (h3 : D < n6) (h4 : n00 ≤ n6) (h5 : n00 ≤ w00.heap.size) (h6 : Adr (fun b => b < n6) lv) (h7 : ∀ t ∈ tb, AdrT (fun b => b < n6) t) : PnS ob nob kB lB n6 n00 D w00 lv tb B := by
  have hn := h.sz
  have hk : Kpt (fun b => b < n6) A B := ⟨hg.size, fun b hb => hg.block b (by omega) (fun e => by have := hr b e.symm; omega)⟩
  exact ⟨boxed_kpt h.okb hk h1, boxed_kpt h.lbx hk h2, h.tbs.kpt hk h6 h7, (hk.same D h3).trans h.dfr, h.low.grown hg (Nat.le_trans h5 h.low.size) (fun k e => by have := hr k e; omega), Nat.le_trans hn hg.size⟩
end Go.Proofs.Ytkpjjiomfgkobaa
