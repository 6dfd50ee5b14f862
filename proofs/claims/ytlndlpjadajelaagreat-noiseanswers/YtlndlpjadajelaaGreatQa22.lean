import Derived.Test.YtlndlpjadajelaaGreatQa20
import Derived.Test.YtlndlpjadajelaaGreatQa19
import Derived.Test.YtlndlpjadajelaaGreatQa21
namespace Go.Proofs.YtlndlpjadajelaaGreat
open Go.RowKit Go.Proofs.YtlndlpjadajelaaGreat.Ds

theorem Ints.away {w : World} {B nb m : Nat} {s : Value} {xs : List Int} (h : Ints w B nb s xs) (hx : xs ≠ [] → ∀ b o sp n c, s = .slice (some ⟨b, o, sp⟩) n c → b ≠ m) : Ints w B m s xs := by
  obtain ⟨a, c, hv, hc, hl, hy⟩ := h
  refine ⟨a, c, hv, hc, hl, fun hne => ?_⟩
  obtain ⟨b, o, ha, hb, _, hcell⟩ := hy hne
  exact ⟨b, o, ha, hb, hx hne b o none xs.length c (by rw [hv, ha]), hcell⟩

def PartsN (w : World) (B nb : Nat) (v : Value) (ts : List Tr) : Prop :=
  ∃ a c, v = .slice a ts.length c ∧ ts.length ≤ c ∧ ts.length ≤ 1073741824 ∧ (∀ t ∈ ts, Ints w B nb t.1 t.2.1) ∧
    (ts ≠ [] → ∃ b o, a = some ⟨b, o, none⟩ ∧ b < B ∧ b ≠ nb ∧ Cells w b o ts)

theorem PartsN.parts {w : World} {nb : Nat} {v : Value} {ts : List Tr} (h : PartsN w w.heap.size nb v ts) : Parts w w.heap.size v ts := by
  obtain ⟨a, c, hv, hc, hl, hi, hx⟩ := h
  refine ⟨a, c, hv, hc, hl, fun t ht => (hi t ht).mono (Nat.le_refl _) (.inr (Nat.le_refl _)), fun hne => ?_⟩
  obtain ⟨b, o, ha, hb, _, hcell⟩ := hx hne
  exact ⟨b, o, ha, hb, hcell⟩

theorem PartsN.at2 {w w' : World} {nb : Nat} {v : Value} {ts : List Tr} (h : PartsN w w.heap.size nb v ts) (hb : Below w.heap.size w w') : PartsN w' w'.heap.size nb v ts := by
  obtain ⟨a, c, hv, hc, hl, hi, hx⟩ := h
  refine ⟨a, c, hv, hc, hl, fun t ht => (hi t ht).at2 hb, fun hne => ?_⟩
  obtain ⟨b, o, ha, hB, hn, hcell⟩ := hx hne
  exact ⟨b, o, ha, Nat.lt_of_lt_of_le hB hb.size, hn, hcell.keep hb hB⟩

theorem PartsN.grow {W w' : World} {m m' : Nat} {v : Value} {ts : List Tr} {row : Option Nat} (h : PartsN W W.heap.size m v ts) (hg : W.grownBy w' row) (hrow : ∀ g, row = some g → m = g) (hm : m' = m ∨ W.heap.size ≤ m') : PartsN w' w'.heap.size m' v ts := by
  obtain ⟨a, c, hv, hc, hl, hi, hx⟩ := h
  refine ⟨a, c, hv, hc, hl, fun t ht => (hi t ht).grow hg (Nat.le_refl _) hrow hm, fun hne => ?_⟩
  obtain ⟨b, o, ha, hb, hn, hcell⟩ := hx hne
  have := hg.size
  refine ⟨b, o, ha, by omega, by rcases hm with h | h <;> omega, fun i t ht => ?_⟩
  have hne' : some b ≠ row := fun e => hn (hrow b e.symm).symm
  exact ⟨hg.cell (hcell i t ht).1 hne', hg.cell (hcell i t ht).2 hne'⟩

theorem own_away {w : World} {lo m : Nat} {v : Value} {ts : List Tr} (h : OwnN w lo v ts) (hf : Frs lo ts) (hm : m < lo) : PartsN w w.heap.size m v ts := by
  rcases h with ⟨rfl, rfl⟩ | ⟨b, o, c, rfl, hc, hl, hlo, hr, hi⟩
  · exact ⟨none, 0, rfl, Nat.le_refl _, by simp, by simp, fun h => absurd rfl h⟩
  · refine ⟨_, c, rfl, hc, hl, fun t ht => (hi t ht).away fun hne b o sp n c e => ?_, fun _ => ⟨b, o, rfl, hr.lt, by omega, hr.cells⟩⟩
    have := hf t ht hne b o sp n c e
    omega

/-! ### a growing row of them -/

theorem own_or2 {v : Value} {lo n : Nat} (h : ∀ g, v.ownBlock = some g → lo ≤ g ∧ g < n) (hn : lo < n) : ∃ m, lo ≤ m ∧ m < n ∧ ∀ g, v.ownBlock = some g → m = g := by
  cases e : v.ownBlock with
  | none => exact ⟨lo, Nat.le_refl _, hn, fun g e => by cases e⟩
  | some g => exact ⟨g, (h g e).1, (h g e).2, fun g' e => by simpa using e⟩

abbrev Dl := Value × List Tr

def Dss (w : World) (B : Nat) (v : Value) (ns : List Dl) : Prop :=
  ∃ a c, v = .slice a ns.length c ∧ ns.length ≤ c ∧ ns.length ≤ 1073741824 ∧ (∀ n ∈ ns, Parts w B n.1 n.2) ∧
    (ns ≠ [] → ∃ b o, a = some ⟨b, o, none⟩ ∧ b < B ∧ ∀ i n, ns[i]? = some n → w.cell? ⟨b, o + i, none⟩ = some n.1)

theorem Dss.keep {w w' : World} {B : Nat} {v : Value} {ns : List Dl} (h : Dss w B v ns) (hb : Below B w w') : Dss w' B v ns := by
  obtain ⟨a, c, hv, hc, hl, hi, hx⟩ := h
  refine ⟨a, c, hv, hc, hl, fun t ht => (hi t ht).keep hb, fun hne => ?_⟩
  obtain ⟨b, o, ha, hB, hcell⟩ := hx hne
  exact ⟨b, o, ha, hB, fun i z hz => (hb.cell (p := ⟨b, o + i, none⟩) hB).trans (hcell i z hz)⟩

theorem Dss.at {w w' : World} {B : Nat} {v : Value} {ns : List Dl} (h : Dss w B v ns) (hB : B ≤ w.heap.size) (hb : Below w.heap.size w w') : Dss w' B v ns := h.keep (hb.mono hB)

theorem Dss.get {w wr : World} {B : Nat} {a : Option Addr} {n c : Nat} {ns : List Dl} (hp : Dss w B (.slice a n c) ns) (hB : B ≤ w.heap.size) (hbl : Below w.heap.size w wr) {i : Nat} (h : i < ns.length) :
    ∃ b o na nc us, a = some ⟨b, o, none⟩ ∧ b < w.heap.size ∧ ns[i]? = some (.slice na us.length nc, us) ∧ wr.cell? ⟨b, o + i, none⟩ = some (.slice na us.length nc) ∧ Parts wr B (.slice na us.length nc) us := by
  obtain ⟨a', c', hv, hc, hl, hi, hx⟩ := hp
  simp only [Value.slice.injEq] at hv
  obtain ⟨rfl, rfl, rfl⟩ := hv
  obtain ⟨b, o, ha, hb, hcell⟩ := hx (ne_of_lt h)
  obtain ⟨⟨s, us⟩, hs⟩ := get_lt h
  have hI := hi _ (List.mem_of_getElem? hs)
  have hI2 := hI.at hB hbl
  obtain ⟨na, nc, he, _⟩ := hI
  simp only at he
  subst he
  have hlt : b < w.heap.size := by omega
  exact ⟨b, o, na, nc, us, ha, hlt, hs, (hbl.cell (p := ⟨b, o + i, none⟩) hlt).trans (hcell i _ hs), hI2⟩

def Dsr (w : World) (lo : Nat) (v : Value) (ns : List Dl) : Prop :=
  w.ownsRow lo 44 1 v ns.length (ns.map (·.1)) ∧ ∀ n ∈ ns, ∃ m, PartsN w w.heap.size m n.1 n.2 ∧ ∀ g, v.ownBlock = some g → m = g

theorem Dsr.nil (w : World) (lo : Nat) : Dsr w lo (.slice none 0 0) [] := ⟨⟨rfl, .inl ⟨rfl, rfl⟩⟩, fun t ht => by cases ht⟩

theorem Dsr.keep {w w' : World} {lo : Nat} {v : Value} {ns : List Dl} (h : Dsr w lo v ns) (hb : Below w.heap.size w w') : Dsr w' lo v ns :=
  ⟨owns_below h.1 hb, fun t ht => let ⟨m, h1, h2⟩ := h.2 t ht; ⟨m, h1.at2 hb, h2⟩⟩

theorem Dsr.slice {w : World} {lo : Nat} {v : Value} {ns : List Dl} (h : Dsr w lo v ns) : ∃ a c, v = .slice a ns.length c := owns_slice h.1

theorem Dsr.lt {w : World} {lo : Nat} {v : Value} {ns : List Dl} (h : Dsr w lo v ns) : ∀ g, v.ownBlock = some g → lo ≤ g ∧ g < w.heap.size := h.1.lt

theorem Dsr.app {W w' : World} {lo : Nat} {v v' : Value} {ns : List Dl} {n : Dl} {m : Nat} (h : Dsr W lo v ns) (hown : w'.ownsRow lo 44 1 v' (ns.length + 1) (ns.map (·.1) ++ [n.1])) (hg : W.grownBy w' v.ownBlock)
    (hat : v'.ownBlock = v.ownBlock ∨ v'.ownBlock = some W.heap.size) (hp : PartsN W W.heap.size m n.1 n.2) (hm : ∀ g, v.ownBlock = some g → m = g) : Dsr w' lo v' (ns ++ [n]) := by
  refine ⟨by simpa using hown, fun t ht => ?_⟩
  have key : ∀ (m : Nat) (t : Dl), PartsN W W.heap.size m t.1 t.2 → (∀ g, v.ownBlock = some g → m = g) → ∃ m', PartsN w' w'.heap.size m' t.1 t.2 ∧ ∀ g, v'.ownBlock = some g → m' = g := by
    intro m t h3 h2
    rcases hat with hat | hat
    · exact ⟨m, h3.grow hg h2 (.inl rfl), by rw [hat]; exact h2⟩
    · exact ⟨W.heap.size, h3.grow hg h2 (.inr (Nat.le_refl _)), by rw [hat]; intro g e; simpa using e⟩
  rcases List.mem_append.1 ht with ht | ht
  · obtain ⟨m, h1, h2⟩ := h.2 t ht
    exact key m t h1 h2
  · obtain rfl : t = n := by simpa using ht
    exact key m t hp hm

theorem Dsr.dss {w : World} {lo : Nat} {v : Value} {ns : List Dl} (h : Dsr w lo v ns) (hl : ns.length ≤ 1073741824) : Dss w w.heap.size v ns := by
  have hi : ∀ t ∈ ns, Parts w w.heap.size t.1 t.2 := fun t ht => let ⟨m, h1, _⟩ := h.2 t ht; h1.parts
  obtain ⟨hlen, ⟨hv, h0⟩ | ⟨g, cap, cur, hv, hb, hcur, hc, _, hsz, hx⟩⟩ := h.1
  · obtain rfl : ns = [] := List.length_eq_zero_iff.1 h0
    exact ⟨none, 0, hv, Nat.le_refl _, hl, hi, fun h => absurd rfl h⟩
  · refine ⟨_, cap, hv, hc, hl, hi, fun _ => ⟨g, 0, rfl, (Array.getElem?_eq_some_iff.1 hcur).1, fun i t ht => ?_⟩⟩
    have hi2 : i < ns.length := (List.getElem?_eq_some_iff.1 ht).1
    have : cur[i]? = some t.1 := by
      have h1 : (ns.map (·.1))[i]? = some t.1 := by simp [ht]
      rw [← hx, List.getElem?_take_of_lt (by omega)] at h1
      simpa using h1
    simp [World.cell?, hcur, this]

/-! ### .. that lie in no older block -/
theorem Ints.grow2 {W w' : World} {m m0 : Nat} {s : Value} {xs : List Int} {row : Option Nat} (h : Ints W W.heap.size m s xs) (h0 : Ints W W.heap.size m0 s xs) (hg : W.grownBy w' row) (hrow : ∀ g, row = some g → m0 = g) : Ints w' w'.heap.size m s xs := by
  obtain ⟨a, c, hv, hc, hl, hx⟩ := h
  obtain ⟨a0, c0, hv0, _, _, hx0⟩ := h0
  refine ⟨a, c, hv, hc, hl, fun hne => ?_⟩
  obtain ⟨b, o, ha, hb, hn, hcell⟩ := hx hne
  obtain ⟨b0, o0, ha0, _, hn0, _⟩ := hx0 hne
  rw [hv, ha, ha0] at hv0
  simp only [Value.slice.injEq, Option.some.injEq, Addr.mk.injEq] at hv0
  have hbb := hv0.1.1
  have := hg.size
  exact ⟨b, o, ha, by omega, hn, fun i x hi => hg.cell (hcell i x hi) fun e => hn0 (by rw [← hbb]; exact (hrow b e.symm).symm)⟩
theorem PartsN.grow2 {W w' : World} {m m0 : Nat} {v : Value} {ts : List Tr} {row : Option Nat} (h : PartsN W W.heap.size m v ts) (h0 : PartsN W W.heap.size m0 v ts) (hg : W.grownBy w' row) (hrow : ∀ g, row = some g → m0 = g) : PartsN w' w'.heap.size m v ts := by
  obtain ⟨a, c, hv, hc, hl, hi, hx⟩ := h
  obtain ⟨a0, c0, hv0, _, _, hi0, hx0⟩ := h0
  refine ⟨a, c, hv, hc, hl, fun t ht => (hi t ht).grow2 (hi0 t ht) hg hrow, fun hne => ?_⟩
  obtain ⟨b, o, ha, hb, hn, hcell⟩ := hx hne
  obtain ⟨b0, o0, ha0, _, hn0, _⟩ := hx0 hne
  rw [hv, ha, ha0] at hv0
  simp only [Value.slice.injEq, Option.some.injEq, Addr.mk.injEq] at hv0
  have hbb := hv0.1.1
  have hne' : some b ≠ row := fun e => hn0 (by rw [← hbb]; exact (hrow b e.symm).symm)
  have := hg.size
  exact ⟨b, o, ha, by omega, hn, fun i t ht => ⟨hg.cell (hcell i t ht).1 hne', hg.cell (hcell i t ht).2 hne'⟩⟩
def DssA (w : World) (h : Nat) (v : Value) (zs : List Dz) : Prop :=
  ∃ a c, v = .slice a zs.length c ∧ zs.length ≤ c ∧ zs.length ≤ 1073741824 ∧ (∀ z ∈ zs, ∀ m, m < h → PartsN w w.heap.size m z.1 z.2) ∧
    (zs ≠ [] → ∃ b o, a = some ⟨b, o, none⟩ ∧ h ≤ b ∧ b < w.heap.size ∧ ∀ i z, zs[i]? = some z → w.cell? ⟨b, o + i, none⟩ = some z.1)
theorem DssA.nil (w : World) (h : Nat) : DssA w h (.slice none 0 0) [] := ⟨none, 0, rfl, Nat.le_refl _, by simp, by simp, fun h => absurd rfl h⟩
theorem DssA.keep {w w' : World} {h : Nat} {v : Value} {zs : List Dz} (d : DssA w h v zs) (hb : Below w.heap.size w w') : DssA w' h v zs := by
  obtain ⟨a, c, hv, hc, hl, hi, hx⟩ := d
  refine ⟨a, c, hv, hc, hl, fun z hz m hm => (hi z hz m hm).at2 hb, fun hne => ?_⟩
  obtain ⟨b, o, ha, h1, h2, hcell⟩ := hx hne
  exact ⟨b, o, ha, h1, Nat.lt_of_lt_of_le h2 hb.size, fun i z hz => (hb.cell (p := ⟨b, o + i, none⟩) h2).trans (hcell i z hz)⟩
theorem DssA.mono {w : World} {h h' : Nat} {v : Value} {zs : List Dz} (d : DssA w h v zs) (hl : h' ≤ h) : DssA w h' v zs := by
  obtain ⟨a, c, hv, hc, hl', hi, hx⟩ := d
  exact ⟨a, c, hv, hc, hl', fun z hz m hm => hi z hz m (by omega), fun hne => let ⟨b, o, ha, h1, h2⟩ := hx hne; ⟨b, o, ha, by omega, h2⟩⟩
theorem DssA.dss {w : World} {h : Nat} {v : Value} {zs : List Dz} (d : DssA w h v zs) (h0 : 0 < h) : Dss w w.heap.size v zs := by
  obtain ⟨a, c, hv, hc, hl, hi, hx⟩ := d
  exact ⟨a, c, hv, hc, hl, fun z hz => (hi z hz 0 h0).parts, fun hne => let ⟨b, o, ha, _, h2, h3⟩ := hx hne; ⟨b, o, ha, h2, h3⟩⟩
/-- a store into an older block -/
theorem DssA.set {w : World} {h g k : Nat} {v x : Value} {zs : List Dz} (d : DssA w h v zs) (hg : g < h) : DssA (w.setCell ⟨g, k, none⟩ x) h v zs := by
  obtain ⟨a, c, hv, hc, hl, hi, hx⟩ := d
  refine ⟨a, c, hv, hc, hl, fun z hz m hm => (hi z hz m hm).grow2 (hi z hz g hg) (gb_setc w g k x) (fun g' e => by simpa using e), fun hne => ?_⟩
  obtain ⟨b, o, ha, h1, h2, hcell⟩ := hx hne
  exact ⟨b, o, ha, h1, by simpa using h2, fun i z hz => (gb_setc w g k x).cell (hcell i z hz) (by simp; omega)⟩
theorem Dsr.dssA {w : World} {lo h : Nat} {v : Value} {ns : List Dl} (d : Dsr w lo v ns) (hl : ns.length ≤ 1073741824) (hlo : h ≤ lo) (hA : ∀ z ∈ ns, ∀ m, m < h → PartsN w w.heap.size m z.1 z.2) : DssA w h v ns := by
  obtain ⟨a, c, hv, hc, _, _, hx⟩ := d.dss hl
  refine ⟨a, c, hv, hc, hl, hA, fun hne => ?_⟩
  obtain ⟨b, o, ha, hb, hcell⟩ := hx hne
  refine ⟨b, o, ha, ?_, hb, hcell⟩
  have := (d.lt b (by rw [hv, ha]; rfl)).1
  omega
theorem DosN.dssA {w : World} {h : Nat} {v : Value} {zs : List Dz} (d : DosN w h v zs) : DssA w h v zs := by
  rcases d with ⟨rfl, rfl⟩ | ⟨g, cap, lo, rfl, h1, h2, hr, hg, hlo⟩
  · exact DssA.nil w h
  · exact ⟨_, cap, rfl, h1, by omega, fun z hz m hm => own_away (hr.el z hz).1 (hr.el z hz).2 (by omega), fun _ => ⟨g, 0, rfl, hg, hr.lt, fun i z hz => by rw [Nat.zero_add]; exact hr.cell i z hz⟩⟩
end Go.Proofs.YtlndlpjadajelaaGreat

namespace Go.Proofs.YtlndlpjadajelaaGreat
open Go.RowKit Go.Proofs.YtlndlpjadajelaaGreat.Ds

def HidsR (w : World) (l : List (List Pt)) (er : Int) (e : Ending) (w' : World) : Prop :=
  ∃ v zs, e = .returned (.tuple #[v, .int .i64 er]) ∧ rds zs = l ∧ DssA w' w.heap.size v zs ∧ Below w.heap.size w w'
theorem dss_nil (w : World) : Dss w w.heap.size (.slice none 0 0) [] := ⟨none, 0, rfl, Nat.le_refl _, by simp, by simp, fun h => absurd rfl h⟩
set_option maxHeartbeats 4000000 in
set_option maxRecDepth 100000 in
/-- the reference's HideAll -/
theorem rhideAll_any (B nb : Nat) (u d lo hi : Int) (v : Value) (ns : List Int) (w : World) (hB : B ≤ w.heap.size) (hx : Ints w B nb v ns) (hlen : ns.length ≤ 1048576) (l : List (List Pt)) (er : Int) (hr : hidsT u d lo hi ns = (l, er)) :
    Calls Tryz.prog 31 #[rv u d, .int .i64 lo, .int .i64 hi, v] w (HidsR w l er) := by
  have HX : Hid (Ints w B nb v ns) := hx
  have HR : Hid (hidsT u d lo hi ns = (l, er)) := hr
  obtain ⟨va, vc, rfl, _⟩ := hx
  obtain ⟨i0, hi0, hz0, hz1, hz2⟩ := info_parts info26
  clear hr
  obtain ⟨w0, hw0⟩ : ∃ w0, w.alloc (.cells #[.int .i64 u, .int .i64 d] 23) = w0 := ⟨_, rfl⟩
  have hb0 : Below w.heap.size w w0 := hw0 ▸ ba w _
  have hs0 : w.heap.size < w0.heap.size := by rw [← hw0]; simp
  have p1 : w0.cell? ⟨w.heap.size, 0, none⟩ = some (.int .i64 u) := by rw [← hw0]; simp [go_sem]
  have p2 : w0.cell? ⟨w.heap.size, 1, none⟩ = some (.int .i64 d) := by rw [← hw0]; simp [go_sem]
  go_enter Tryz.func31, Tryz.ntmps31
  go_wp2_with fail
  clear hw0
  go_loopw [10, 17] (fun pv s wr => ∃ (i : Nat) (zs : List Dz), s = .int .i64 (i : Int) ∧ i ≤ ns.length ∧ Hid (zs.length = i ∧ rds zs = (ns.take i).map (fun n => (hideT u d lo hi n).1) ∧ ∀ x ∈ ns.take i, (hideT u d lo hi x).2 = 0) ∧ Hid (Dsr wr w0.heap.size pv zs) ∧ Hid (∀ z ∈ zs, ∀ m, m < w.heap.size → PartsN wr wr.heap.size m z.1 z.2) ∧ Below w0.heap.size w0 wr) (fun _ s _ => ns.length - (intOf s).toNat)
  case atStart => exact ⟨0, [], rfl, Nat.zero_le _, ⟨rfl, by simp [rds], by simp⟩, Dsr.nil _ _, fun z hz => by (cases hz), Below.refl _ _⟩
  case round =>
    obtain ⟨i, zs, rfl, hit, HZ, HD, HAw, hbl⟩ := hrel
    have hbs := hbl.size
    have hpl := HD.out.lt
    obtain ⟨pa, pc, rfl⟩ := HD.out.slice
    have hbw : Below w.heap.size w wr := hb0.trans (hbl.mono hb0.size)
    have HDL : Hid (zs.length ≤ 1048576) := by have := HZ.out.1; show zs.length ≤ 1048576; omega
    by_cases h1 : i < ns.length
    · obtain ⟨b, o, x, rfl, hb, hxi, hcx⟩ := HX.out.get' hB hbw h1
      have HX1 : Hid (ns[i]? = some x) := hxi
      obtain ⟨⟨l1, e1⟩, hh⟩ : ∃ y, hideT u d lo hi x = y := ⟨_, rfl⟩
      have kh := rhide_any u d lo hi x l1 e1 hh
      have HH : Hid (hideT u d lo hi x = (l1, e1)) := hh
      have c1 : wr.cell? ⟨w.heap.size, 0, none⟩ = some (.int .i64 u) := (hbl.cell (p := ⟨w.heap.size, 0, none⟩) hs0).trans p1
      have c2 : wr.cell? ⟨w.heap.size, 1, none⟩ = some (.int .i64 d) := (hbl.cell (p := ⟨w.heap.size, 1, none⟩) hs0).trans p2
      obtain ⟨mo, hmo, hmg⟩ := own_or3 (n := wr.heap.size) (fun g e => (hpl g e).2) (by omega)
      have HO : Hid (∀ g, (Value.slice pa zs.length pc).ownBlock = some g → mo = g) := hmg
      clear hxi hh hmg
      go_wp2_with fail
      refine (kh _).mono ?_
      rintro e w2 ⟨v2, us, rfl, k1, k2, k3, k4⟩
      obtain ⟨a2, c2', hv2⟩ := k2.slice
      subst hv2
      by_cases he1 : e1 = 0
      · subst he1
        have HPN : Hid (PartsN w2 w2.heap.size mo (.slice a2 us.length c2') us ∧ rd us = l1) := ⟨own_away k2 k4 hmo, k1⟩
        have bw3 : Below wr.heap.size wr (w2.alloc (.cells #[.slice a2 us.length c2'] 44)) := bal k3 _
        have HFk : Hid (Dsr (w2.alloc (.cells #[.slice a2 us.length c2'] 44)) w0.heap.size (.slice pa zs.length pc) zs) := HD.out.keep bw3
        have BB : Hid (Below w0.heap.size w0 (w2.alloc (.cells #[.slice a2 us.length c2'] 44))) := bt hbl bw3
        have hw3 : w0.heap.size ≤ w2.heap.size := by have := k3.size; omega
        have hnl := HDL.out
        have HAW2 : Hid (∀ m, m < w.heap.size → PartsN w2 w2.heap.size m (.slice a2 us.length c2') us) := fun m hm => own_away k2 k4 (by omega)
        have bw3' : Hid (Below wr.heap.size wr (w2.alloc (.cells #[.slice a2 us.length c2'] 44))) := bw3
        clear k1 k2 k3 k4 bw3 kh
        go_wp2_with (at_builtin; refine wpList_append_lies _ rfl _ _ 32 rfl w0.heap.size 44 i0 (.slice none 0 0) 1 24 Tryz.underlying32 hi0 hz0 hz1 hz2 rfl (by decide) _ _ _ rfl HFk.out.1 ⟨w2.heap.size, 0, none⟩ 1 1 [.slice a2 us.length c2'] rfl ?q1 ?q2 ?q3 (by decide) ?q4 ?q5 ?q6 (w2.heap.size + 1) ?q7 ?_)
        case q1 => rfl
        case q2 =>
          intro j u hj
          match j, hj with
          | 0, hj => simp at hj; subst hj; simp [go_sem, Addr.add]
        case q3 => intro u hu; simp at hu; subst hu; rfl
        case q4 => simp [maxLen]; omega
        case q5 => omega
        case q6 => simp; omega
        case q7 => simp
        intro g cap w4 hown hgrow hat hlt
        have HFn : Hid (Dsr w4 w0.heap.size (.slice (some ⟨g, 0, none⟩) (zs.length + 1) cap) (zs ++ [(.slice a2 us.length c2', us)])) :=
          HFk.out.app (n := (.slice a2 us.length c2', us)) hown hgrow (hat.imp (fun e => by rw [e]; rfl) (fun e => by rw [e]; simp [Value.ownBlock])) (HPN.out.1.at2 (ba _ _)) HO.out
        have HAw4 : Hid (∀ z ∈ zs ++ [((.slice a2 us.length c2', us) : Dz)], ∀ m, m < w.heap.size → PartsN w4 w4.heap.size m z.1 z.2) := by
          intro z hz m hm
          rcases List.mem_append.1 hz with h | h
          · obtain ⟨m0, h1, h2⟩ := HFk.out.2 z h
            exact ((HAw.out z h m hm).at2 bw3'.out).grow2 h1 hgrow h2
          · obtain rfl : z = (.slice a2 us.length c2', us) := by simpa using h
            exact ((HAW2.out m hm).at2 (ba _ _)).grow2 (HPN.out.1.at2 (ba _ _)) hgrow HO.out
        have B4 : Below w0.heap.size w0 w4 := BB.out.grown hgrow (by simp; omega) (owns_block HFk.out.1)
        have HZ4 : Hid ((zs ++ [((.slice a2 us.length c2', us) : Dz)]).length = i + 1 ∧ rds (zs ++ [(.slice a2 us.length c2', us)]) = (ns.take (i + 1)).map (fun n => (hideT u d lo hi n).1) ∧ ∀ y ∈ ns.take (i + 1), (hideT u d lo hi y).2 = 0) := by
          refine ⟨by simp [HZ.out.1], ?_, ?_⟩
          · have h5 := HZ.out.2.1
            rw [List.take_add_one, HX1.out]
            simp only [rds, List.map_append] at h5 ⊢
            rw [h5]
            simp [HH.out, HPN.out.2]
          · intro y hy
            rw [List.take_add_one, HX1.out] at hy
            rcases List.mem_append.1 hy with h6 | h6
            · exact HZ.out.2.2 y h6
            · obtain rfl : y = x := by simpa using h6
              rw [HH.out]
        clear hown hgrow hat hlt HFk
        go_wp2
        go_roundw
        case rel => exact ⟨i + 1, _, by go_num, h1, HZ4, HFn, HAw4, B4⟩
        case measure => simp [intOf]; omega
      · have hne1 : (e1 == 0) = false := by simpa using he1
        have hne2 : (e1 != 0) = true := by simpa using he1
        have hE := hids_err HZ.out.2.2 HX1.out (e := e1) (by rw [HH.out]) he1
        rw [hE] at HR
        have hR' := HR.out
        simp only [Prod.mk.injEq] at hR'
        obtain ⟨rfl, rfl⟩ := hR'
        have hbw2 := bt hbw k3
        clear k1 k2 k4 kh hE HH HD
        go_wp2
        exact bodyPost_ret (v := .tuple #[.slice none 0 0, .int .i64 e1]) (by simp [results, Tryz.results31, go_sem]) rfl ⟨_, [], rfl, rfl, DssA.nil _ _, hbw2⟩
    · have hall : ∀ n ∈ ns, (hideT u d lo hi n).2 = 0 := by have := HZ.out.2.2; rwa [List.take_of_length_le (by omega)] at this
      have hE := hids_ok hall
      rw [hE] at HR
      have hR' := HR.out
      simp only [Prod.mk.injEq] at hR'
      obtain ⟨rfl, rfl⟩ := hR'
      have HZZ : Hid (HidsR w (ns.map fun n => (hideT u d lo hi n).1) 0 (.returned (.tuple #[.slice pa zs.length pc, .int .i64 0])) wr) := by
        refine ⟨_, zs, rfl, ?_, HD.out.dssA (by have := HDL.out; omega) (by omega) HAw.out, hbw⟩
        have h5 := HZ.out.2.1
        rwa [List.take_of_length_le (by omega)] at h5
      clear HD HR hE
      go_wp2
      exact bodyPost_ret (v := .tuple #[.slice pa zs.length pc, .int .i64 0]) (by simp [results, Tryz.results31, go_sem]) rfl HZZ.out

/-- as far as one has looked they are the same -/
theorem rds_len (zs : List Dz) : (rds zs).length = zs.length := by simp [rds]
theorem rds_get {zs : List Dz} {i : Nat} {z : Dz} (h : zs[i]? = some z) : (rds zs)[i]? = some (rd z.2) := by simp [rds, h]
theorem pfx_step {α : Type} {x y : List α} {i : Nat} {a : α} (h : x.take i = y.take i) (hx : x[i]? = some a) (hy : y[i]? = some a) : x.take (i + 1) = y.take (i + 1) := by
  rw [List.take_add_one, List.take_add_one, h, hx, hy]

set_option maxHeartbeats 2000000 in
/-- SameDists -/
theorem sameDists_any (B : Nat) (u v : Value) (zs ys : List Dz) (w : World) (hB : B ≤ w.heap.size) (hp : Dss w B u zs) (hq : Dss w B v ys) (hl1 : zs.length ≤ 1048576) (_hl2 : ys.length ≤ 1048576) (hr : rds zs = rds ys) :
    Calls Tryz.prog 10 #[u, v] w fun e w' => e = .returned (.bool true) ∧ Below w.heap.size w w' := by
  have HP : Hid (Dss w B u zs) := hp
  have HQ : Hid (Dss w B v ys) := hq
  have HR : Hid (rds zs = rds ys) := hr
  have hlen : zs.length = ys.length := by have := congrArg List.length hr; rwa [rds_len, rds_len] at this
  obtain ⟨a, c, rfl, hc, _⟩ := hp
  obtain ⟨a', c', rfl, hc', _⟩ := hq
  have hle : ((zs.length : Int) != (ys.length : Int)) = false := by simp [hlen]
  have HL : Hid (zs.length = ys.length) := hlen
  clear hr hlen
  go_enter Tryz.func10, Tryz.ntmps10
  go_wp2
  go_loopw [5, 13] (fun _ s wr => ∃ i : Nat, s = .int .i64 (i : Int) ∧ i ≤ zs.length ∧ Below w.heap.size w wr) (fun _ s _ => zs.length - (intOf s).toNat)
  case atStart => exact ⟨0, rfl, Nat.zero_le _, Below.refl _ _⟩
  case round =>
    obtain ⟨i, rfl, hit, hbl⟩ := hrel
    have hbs := hbl.size
    by_cases h1 : i < zs.length
    · have h2 : i < ys.length := by have := HL.out; omega
      obtain ⟨b, o, sa, sc, xs, rfl, hb, hs, c1, hI⟩ := HP.out.get hB hbl h1
      obtain ⟨b2, o2, sa2, sc2, xs2, rfl, hb2, hs2, c2, hI2⟩ := HQ.out.get hB hbl h2
      have he : rd xs = rd xs2 := by
        have e1 := rds_get hs
        have e2 := rds_get hs2
        rw [HR.out, e2] at e1
        simpa using e1.symm
      have ks := sameR_any B _ _ xs xs2 wr.drew (by show B ≤ wr.heap.size; omega) (hI.at (by omega) (Below.refl _ _).drew) (hI2.at (by omega) (Below.refl _ _).drew) true (by simp [he])
      have g1 : (0 : Int) ≤ (i : Int) := by omega
      have g2 : (i : Int) < (zs.length : Int) := by omega
      have g3 : (i : Int) < (ys.length : Int) := by omega
      have lw1 : b < wr.heap.size := by omega
      have lw2 : b2 < wr.heap.size := by omega
      clear hs hs2 hI hI2 he
      go_wp2_with fail
      go_region_held3 (fun w' => w'.cell? ⟨b, o + i, none⟩ = some (.slice sa xs.length sc) ∧ w'.cell? ⟨b2, o2 + i, none⟩ = some (.slice sa2 xs2.length sc2))
        ((go_split_ands; refine ⟨?_, ?_⟩ <;> first | assumption | (simp [go_sem, *]; done)))
        ((go_at_call 22; refine ks.mono ?_; rintro x3 w3 ⟨rfl, hb3⟩; obtain ⟨hc3, hf3⟩ := bcell hb3; have q1 : w3.cell? ⟨b, o + i, none⟩ = some (.slice sa xs.length sc) := (hc3 _ _ lw1).trans c1; have q2 : w3.cell? ⟨b2, o2 + i, none⟩ = some (.slice sa2 xs2.length sc2) := (hc3 _ _ lw2).trans c2; clear hc3 hf3))
      have HB3 : Hid (Below w.heap.size w w3) := bt hbl (bt (Below.refl _ _).drew hb3)
      clear hb3 ks
      go_wp2
      go_roundw
      case rel => exact ⟨i + 1, by go_num, h1, HB3.out⟩
      case measure => simp [intOf]; omega
    · go_wp2
      go_ret
      exact ⟨rfl, hbl⟩
end Go.Proofs.YtlndlpjadajelaaGreat
