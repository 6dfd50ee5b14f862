import Derived.Test.YtjembpcpefgdpaaDoorQc24
namespace Go.Proofs.YtjembpcpefgdpaaDoor
open Go.RowKit Go.Proofs.YtjembpcpefgdpaaDoor.Ds

theorem Ints.away {w : World} {B nb m : Nat} {s : Value} {xs : List Int} (h : Ints w B nb s xs) (hx : xs ≠ [] → ∀ b o sp n c, s = .slice (some ⟨b, o, sp⟩) n c → b ≠ m) : Ints w B m s xs := by
  obtain ⟨a, c, hv, hc, hl, hy⟩ := h
  refine ⟨a, c, hv, hc, hl, fun hne => ?_⟩
  obtain ⟨b, o, ha, hb, _, hcell⟩ := hy hne
  exact ⟨b, o, ha, hb, hx hne b o none xs.length c (by rw [hv, ha]), hcell⟩

def PartsN (w : World) (B nb : Nat) (v : Value) (ts : List Tr) : Prop :=
  ∃ a c, v = .slice a ts.length c ∧ ts.length ≤ c ∧ ts.length ≤ 1073741824 ∧ (∀ t ∈ ts, Ints w B nb t.1 t.2.1) ∧
    (ts ≠ [] → ∃ b o, a = some ⟨b, o, none⟩ ∧ b < B ∧ b ≠ nb ∧ Cells w b o ts)

theorem PartsN.parts {w : World} {nb : Nat} {v : Value} {ts : List Tr} (h : PartsN w w.heap.size nb v ts) : Parts w w.heap.size v ts := by
  obtain ⟨a, c, hv, hc, hl, hi, hx⟩ := h
  refine ⟨a, c, hv, hc, hl, fun t ht => (hi t ht).mono (Nat.le_refl _) (.inr (Nat.le_refl _)), fun hne => ?_⟩
  obtain ⟨b, o, ha, hb, _, hcell⟩ := hx hne
  exact ⟨b, o, ha, hb, hcell⟩

theorem PartsN.at2 {w w' : World} {nb : Nat} {v : Value} {ts : List Tr} (h : PartsN w w.heap.size nb v ts) (hb : Below w.heap.size w w') : PartsN w' w'.heap.size nb v ts := by
  obtain ⟨a, c, hv, hc, hl, hi, hx⟩ := h
  refine ⟨a, c, hv, hc, hl, fun t ht => (hi t ht).at2 hb, fun hne => ?_⟩
  obtain ⟨b, o, ha, hB, hn, hcell⟩ := hx hne
  exact ⟨b, o, ha, Nat.lt_of_lt_of_le hB hb.size, hn, hcell.keep hb hB⟩

theorem PartsN.grow {W w' : World} {m m' : Nat} {v : Value} {ts : List Tr} {row : Option Nat} (h : PartsN W W.heap.size m v ts) (hg : W.grownBy w' row) (hrow : ∀ g, row = some g → m = g) (hm : m' = m ∨ W.heap.size ≤ m') : PartsN w' w'.heap.size m' v ts := by
  obtain ⟨a, c, hv, hc, hl, hi, hx⟩ := h
  refine ⟨a, c, hv, hc, hl, fun t ht => (hi t ht).grow hg (Nat.le_refl _) hrow hm, fun hne => ?_⟩
  obtain ⟨b, o, ha, hb, hn, hcell⟩ := hx hne
  have := hg.size
  refine ⟨b, o, ha, by omega, by rcases hm with h | h <;> omega, fun i t ht => ?_⟩
  have hne' : some b ≠ row := fun e => hn (hrow b e.symm).symm
  exact ⟨hg.cell (hcell i t ht).1 hne', hg.cell (hcell i t ht).2 hne'⟩

theorem own_away {w : World} {lo m : Nat} {v : Value} {ts : List Tr} (h : OwnN w lo v ts) (hf : Frs lo ts) (hm : m < lo) : PartsN w w.heap.size m v ts := by
  rcases h with ⟨rfl, rfl⟩ | ⟨b, o, c, rfl, hc, hl, hlo, hr, hi⟩
  · exact ⟨none, 0, rfl, Nat.le_refl _, by simp, by simp, fun h => absurd rfl h⟩
  · refine ⟨_, c, rfl, hc, hl, fun t ht => (hi t ht).away fun hne b o sp n c e => ?_, fun _ => ⟨b, o, rfl, hr.lt, by omega, hr.cells⟩⟩
    have := hf t ht hne b o sp n c e
    omega

/-! ### a growing row of them -/

theorem own_or2 {v : Value} {lo n : Nat} (h : ∀ g, v.ownBlock = some g → lo ≤ g ∧ g < n) (hn : lo < n) : ∃ m, lo ≤ m ∧ m < n ∧ ∀ g, v.ownBlock = some g → m = g := by
  cases e : v.ownBlock with
  | none => exact ⟨lo, Nat.le_refl _, hn, fun g e => by cases e⟩
  | some g => exact ⟨g, (h g e).1, (h g e).2, fun g' e => by simpa using e⟩

abbrev Dl := Value × List Tr

def Dss (w : World) (B : Nat) (v : Value) (ns : List Dl) : Prop :=
  ∃ a c, v = .slice a ns.length c ∧ ns.length ≤ c ∧ ns.length ≤ 1073741824 ∧ (∀ n ∈ ns, Parts w B n.1 n.2) ∧
    (ns ≠ [] → ∃ b o, a = some ⟨b, o, none⟩ ∧ b < B ∧ ∀ i n, ns[i]? = some n → w.cell? ⟨b, o + i, none⟩ = some n.1)

theorem Dss.keep {w w' : World} {B : Nat} {v : Value} {ns : List Dl} (h : Dss w B v ns) (hb : Below B w w') : Dss w' B v ns := by
  obtain ⟨a, c, hv, hc, hl, hi, hx⟩ := h
  refine ⟨a, c, hv, hc, hl, fun t ht => (hi t ht).keep hb, fun hne => ?_⟩
  obtain ⟨b, o, ha, hB, hcell⟩ := hx hne
  exact ⟨b, o, ha, hB, fun i z hz => (hb.cell (p := ⟨b, o + i, none⟩) hB).trans (hcell i z hz)⟩

theorem Dss.at {w w' : World} {B : Nat} {v : Value} {ns : List Dl} (h : Dss w B v ns) (hB : B ≤ w.heap.size) (hb : Below w.heap.size w w') : Dss w' B v ns := h.keep (hb.mono hB)

theorem Dss.get {w wr : World} {B : Nat} {a : Option Addr} {n c : Nat} {ns : List Dl} (hp : Dss w B (.slice a n c) ns) (hB : B ≤ w.heap.size) (hbl : Below w.heap.size w wr) {i : Nat} (h : i < ns.length) :
    ∃ b o na nc us, a = some ⟨b, o, none⟩ ∧ b < w.heap.size ∧ ns[i]? = some (.slice na us.length nc, us) ∧ wr.cell? ⟨b, o + i, none⟩ = some (.slice na us.length nc) ∧ Parts wr B (.slice na us.length nc) us := by
  obtain ⟨a', c', hv, hc, hl, hi, hx⟩ := hp
  simp only [Value.slice.injEq] at hv
  obtain ⟨rfl, rfl, rfl⟩ := hv
  obtain ⟨b, o, ha, hb, hcell⟩ := hx (ne_of_lt h)
  obtain ⟨⟨s, us⟩, hs⟩ := get_lt h
  have hI := hi _ (List.mem_of_getElem? hs)
  have hI2 := hI.at hB hbl
  obtain ⟨na, nc, he, _⟩ := hI
  simp only at he
  subst he
  have hlt : b < w.heap.size := by omega
  exact ⟨b, o, na, nc, us, ha, hlt, hs, (hbl.cell (p := ⟨b, o + i, none⟩) hlt).trans (hcell i _ hs), hI2⟩

def Dsr (w : World) (lo : Nat) (v : Value) (ns : List Dl) : Prop :=
  w.ownsRow lo 43 1 v ns.length (ns.map (·.1)) ∧ ∀ n ∈ ns, ∃ m, PartsN w w.heap.size m n.1 n.2 ∧ ∀ g, v.ownBlock = some g → m = g

theorem Dsr.nil (w : World) (lo : Nat) : Dsr w lo (.slice none 0 0) [] := ⟨⟨rfl, .inl ⟨rfl, rfl⟩⟩, fun t ht => by cases ht⟩

theorem Dsr.keep {w w' : World} {lo : Nat} {v : Value} {ns : List Dl} (h : Dsr w lo v ns) (hb : Below w.heap.size w w') : Dsr w' lo v ns :=
  ⟨owns_below h.1 hb, fun t ht => let ⟨m, h1, h2⟩ := h.2 t ht; ⟨m, h1.at2 hb, h2⟩⟩

theorem Dsr.slice {w : World} {lo : Nat} {v : Value} {ns : List Dl} (h : Dsr w lo v ns) : ∃ a c, v = .slice a ns.length c := owns_slice h.1

theorem Dsr.lt {w : World} {lo : Nat} {v : Value} {ns : List Dl} (h : Dsr w lo v ns) : ∀ g, v.ownBlock = some g → lo ≤ g ∧ g < w.heap.size := h.1.lt

theorem Dsr.app {W w' : World} {lo : Nat} {v v' : Value} {ns : List Dl} {n : Dl} {m : Nat} (h : Dsr W lo v ns) (hown : w'.ownsRow lo 43 1 v' (ns.length + 1) (ns.map (·.1) ++ [n.1])) (hg : W.grownBy w' v.ownBlock)
    (hat : v'.ownBlock = v.ownBlock ∨ v'.ownBlock = some W.heap.size) (hp : PartsN W W.heap.size m n.1 n.2) (hm : ∀ g, v.ownBlock = some g → m = g) : Dsr w' lo v' (ns ++ [n]) := by
  refine ⟨by simpa using hown, fun t ht => ?_⟩
  have key : ∀ (m : Nat) (t : Dl), PartsN W W.heap.size m t.1 t.2 → (∀ g, v.ownBlock = some g → m = g) → ∃ m', PartsN w' w'.heap.size m' t.1 t.2 ∧ ∀ g, v'.ownBlock = some g → m' = g := by
    intro m t h3 h2
    rcases hat with hat | hat
    · exact ⟨m, h3.grow hg h2 (.inl rfl), by rw [hat]; exact h2⟩
    · exact ⟨W.heap.size, h3.grow hg h2 (.inr (Nat.le_refl _)), by rw [hat]; intro g e; simpa using e⟩
  rcases List.mem_append.1 ht with ht | ht
  · obtain ⟨m, h1, h2⟩ := h.2 t ht
    exact key m t h1 h2
  · obtain rfl : t = n := by simpa using ht
    exact key m t hp hm

theorem Dsr.dss {w : World} {lo : Nat} {v : Value} {ns : List Dl} (h : Dsr w lo v ns) (hl : ns.length ≤ 1073741824) : Dss w w.heap.size v ns := by
  have hi : ∀ t ∈ ns, Parts w w.heap.size t.1 t.2 := fun t ht => let ⟨m, h1, _⟩ := h.2 t ht; h1.parts
  obtain ⟨hlen, ⟨hv, h0⟩ | ⟨g, cap, cur, hv, hb, hcur, hc, _, hsz, hx⟩⟩ := h.1
  · obtain rfl : ns = [] := List.length_eq_zero_iff.1 h0
    exact ⟨none, 0, hv, Nat.le_refl _, hl, hi, fun h => absurd rfl h⟩
  · refine ⟨_, cap, hv, hc, hl, hi, fun _ => ⟨g, 0, rfl, (Array.getElem?_eq_some_iff.1 hcur).1, fun i t ht => ?_⟩⟩
    have hi2 : i < ns.length := (List.getElem?_eq_some_iff.1 ht).1
    have : cur[i]? = some t.1 := by
      have h1 : (ns.map (·.1))[i]? = some t.1 := by simp [ht]
      rw [← hx, List.getElem?_take_of_lt (by omega)] at h1
      simpa using h1
    simp [World.cell?, hcur, this]

/-! ### .. that lie in no older block -/
theorem Ints.grow2 {W w' : World} {m m0 : Nat} {s : Value} {xs : List Int} {row : Option Nat} (h : Ints W W.heap.size m s xs) (h0 : Ints W W.heap.size m0 s xs) (hg : W.grownBy w' row) (hrow : ∀ g, row = some g → m0 = g) : Ints w' w'.heap.size m s xs := by
  obtain ⟨a, c, hv, hc, hl, hx⟩ := h
  obtain ⟨a0, c0, hv0, _, _, hx0⟩ := h0
  refine ⟨a, c, hv, hc, hl, fun hne => ?_⟩
  obtain ⟨b, o, ha, hb, hn, hcell⟩ := hx hne
  obtain ⟨b0, o0, ha0, _, hn0, _⟩ := hx0 hne
  rw [hv, ha, ha0] at hv0
  simp only [Value.slice.injEq, Option.some.injEq, Addr.mk.injEq] at hv0
  have hbb := hv0.1.1
  have := hg.size
  exact ⟨b, o, ha, by omega, hn, fun i x hi => hg.cell (hcell i x hi) fun e => hn0 (by rw [← hbb]; exact (hrow b e.symm).symm)⟩
theorem PartsN.grow2 {W w' : World} {m m0 : Nat} {v : Value} {ts : List Tr} {row : Option Nat} (h : PartsN W W.heap.size m v ts) (h0 : PartsN W W.heap.size m0 v ts) (hg : W.grownBy w' row) (hrow : ∀ g, row = some g → m0 = g) : PartsN w' w'.heap.size m v ts := by
  obtain ⟨a, c, hv, hc, hl, hi, hx⟩ := h
  obtain ⟨a0, c0, hv0, _, _, hi0, hx0⟩ := h0
  refine ⟨a, c, hv, hc, hl, fun t ht => (hi t ht).grow2 (hi0 t ht) hg hrow, fun hne => ?_⟩
  obtain ⟨b, o, ha, hb, hn, hcell⟩ := hx hne
  obtain ⟨b0, o0, ha0, _, hn0, _⟩ := hx0 hne
  rw [hv, ha, ha0] at hv0
  simp only [Value.slice.injEq, Option.some.injEq, Addr.mk.injEq] at hv0
  have hbb := hv0.1.1
  have hne' : some b ≠ row := fun e => hn0 (by rw [← hbb]; exact (hrow b e.symm).symm)
  have := hg.size
  exact ⟨b, o, ha, by omega, hn, fun i t ht => ⟨hg.cell (hcell i t ht).1 hne', hg.cell (hcell i t ht).2 hne'⟩⟩
def DssA (w : World) (h : Nat) (v : Value) (zs : List Dz) : Prop :=
  ∃ a c, v = .slice a zs.length c ∧ zs.length ≤ c ∧ zs.length ≤ 1073741824 ∧ (∀ z ∈ zs, ∀ m, m < h → PartsN w w.heap.size m z.1 z.2) ∧
    (zs ≠ [] → ∃ b o, a = some ⟨b, o, none⟩ ∧ h ≤ b ∧ b < w.heap.size ∧ ∀ i z, zs[i]? = some z → w.cell? ⟨b, o + i, none⟩ = some z.1)
theorem DssA.nil (w : World) (h : Nat) : DssA w h (.slice none 0 0) [] := ⟨none, 0, rfl, Nat.le_refl _, by simp, by simp, fun h => absurd rfl h⟩
theorem DssA.keep {w w' : World} {h : Nat} {v : Value} {zs : List Dz} (d : DssA w h v zs) (hb : Below w.heap.size w w') : DssA w' h v zs := by
  obtain ⟨a, c, hv, hc, hl, hi, hx⟩ := d
  refine ⟨a, c, hv, hc, hl, fun z hz m hm => (hi z hz m hm).at2 hb, fun hne => ?_⟩
  obtain ⟨b, o, ha, h1, h2, hcell⟩ := hx hne
  exact ⟨b, o, ha, h1, Nat.lt_of_lt_of_le h2 hb.size, fun i z hz => (hb.cell (p := ⟨b, o + i, none⟩) h2).trans (hcell i z hz)⟩
theorem DssA.mono {w : World} {h h' : Nat} {v : Value} {zs : List Dz} (d : DssA w h v zs) (hl : h' ≤ h) : DssA w h' v zs := by
  obtain ⟨a, c, hv, hc, hl', hi, hx⟩ := d
  exact ⟨a, c, hv, hc, hl', fun z hz m hm => hi z hz m (by omega), fun hne => let ⟨b, o, ha, h1, h2⟩ := hx hne; ⟨b, o, ha, by omega, h2⟩⟩
theorem DssA.dss {w : World} {h : Nat} {v : Value} {zs : List Dz} (d : DssA w h v zs) (h0 : 0 < h) : Dss w w.heap.size v zs := by
  obtain ⟨a, c, hv, hc, hl, hi, hx⟩ := d
  exact ⟨a, c, hv, hc, hl, fun z hz => (hi z hz 0 h0).parts, fun hne => let ⟨b, o, ha, _, h2, h3⟩ := hx hne; ⟨b, o, ha, h2, h3⟩⟩
/-- a store into an older block -/
theorem DssA.set {w : World} {h g k : Nat} {v x : Value} {zs : List Dz} (d : DssA w h v zs) (hg : g < h) : DssA (w.setCell ⟨g, k, none⟩ x) h v zs := by
  obtain ⟨a, c, hv, hc, hl, hi, hx⟩ := d
  refine ⟨a, c, hv, hc, hl, fun z hz m hm => (hi z hz m hm).grow2 (hi z hz g hg) (gb_setc w g k x) (fun g' e => by simpa using e), fun hne => ?_⟩
  obtain ⟨b, o, ha, h1, h2, hcell⟩ := hx hne
  exact ⟨b, o, ha, h1, by simpa using h2, fun i z hz => (gb_setc w g k x).cell (hcell i z hz) (by simp; omega)⟩
theorem Dsr.dssA {w : World} {lo h : Nat} {v : Value} {ns : List Dl} (d : Dsr w lo v ns) (hl : ns.length ≤ 1073741824) (hlo : h ≤ lo) (hA : ∀ z ∈ ns, ∀ m, m < h → PartsN w w.heap.size m z.1 z.2) : DssA w h v ns := by
  obtain ⟨a, c, hv, hc, _, _, hx⟩ := d.dss hl
  refine ⟨a, c, hv, hc, hl, hA, fun hne => ?_⟩
  obtain ⟨b, o, ha, hb, hcell⟩ := hx hne
  refine ⟨b, o, ha, ?_, hb, hcell⟩
  have := (d.lt b (by rw [hv, ha]; rfl)).1
  omega
theorem DosN.dssA {w : World} {h : Nat} {v : Value} {zs : List Dz} (d : DosN w h v zs) : DssA w h v zs := by
  rcases d with ⟨rfl, rfl⟩ | ⟨g, cap, lo, rfl, h1, h2, hr, hg, hlo⟩
  · exact DssA.nil w h
  · exact ⟨_, cap, rfl, h1, by omega, fun z hz m hm => own_away (hr.el z hz).1 (hr.el z hz).2 (by omega), fun _ => ⟨g, 0, rfl, hg, hr.lt, fun i z hz => by rw [Nat.zero_add]; exact hr.cell i z hz⟩⟩
end Go.Proofs.YtjembpcpefgdpaaDoor
