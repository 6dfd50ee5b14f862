import Derived.Test.YtejeiahbnnechaaFnd
namespace Go.Proofs.Ytejeiahbnnechaa
open Go.RowKit Go.Proofs.Ytejeiahbnnechaa.Ds

/-- TESTS BEHIND A SLICE, in a block below B. -/
def Tss (w : World) (B : Nat) (v : Value) (l : List Tst) : Prop :=
  ∃ a c, v = .slice a l.length c ∧ l.length ≤ c ∧ l.length ≤ 9223372036854775807 ∧ (∀ x ∈ l, x.1.size ≤ 9223372036854775807) ∧
    (l ≠ [] → ∃ b o, a = some ⟨b, o, none⟩ ∧ b < B ∧ ∀ i x, l[i]? = some x → w.cell? ⟨b, o + i * 3, none⟩ = some (.string x.1) ∧ w.cell? ⟨b, o + i * 3 + 1, none⟩ = some (.int .i64 x.2.1) ∧ w.cell? ⟨b, o + i * 3 + 2, none⟩ = some (.int .i64 x.2.2))
theorem Tss.keep {w w' : World} {B : Nat} {v : Value} {l : List Tst} (h : Tss w B v l) (hb : Below B w w') : Tss w' B v l := by
  obtain ⟨a, c, hv, hc, hl, hn, hx⟩ := h
  refine ⟨a, c, hv, hc, hl, hn, fun hne => ?_⟩
  obtain ⟨b, o, ha, hB, hcell⟩ := hx hne
  exact ⟨b, o, ha, hB, fun i x hi => ⟨(hb.cell (p := ⟨b, o + i * 3, none⟩) hB).trans (hcell i x hi).1, (hb.cell (p := ⟨b, o + i * 3 + 1, none⟩) hB).trans (hcell i x hi).2.1, (hb.cell (p := ⟨b, o + i * 3 + 2, none⟩) hB).trans (hcell i x hi).2.2⟩⟩
theorem Tss.at {w w' : World} {B : Nat} {v : Value} {l : List Tst} (h : Tss w B v l) (hB : B ≤ w.heap.size) (hb : Below w.heap.size w w') : Tss w' B v l := h.keep (hb.mono hB)
theorem Tss.mono {w : World} {B B' : Nat} {v : Value} {l : List Tst} (h : Tss w B v l) (hB : B ≤ B') : Tss w B' v l := by
  obtain ⟨a, c, hv, hc, hl, hn, hx⟩ := h
  refine ⟨a, c, hv, hc, hl, hn, fun hne => ?_⟩
  obtain ⟨b, o, ha, hb, hcell⟩ := hx hne
  exact ⟨b, o, ha, by omega, hcell⟩
theorem Tss.slice {w : World} {B : Nat} {v : Value} {l : List Tst} (h : Tss w B v l) : ∃ a c, v = .slice a l.length c ∧ l.length ≤ c ∧ l.length ≤ 9223372036854775807 := by
  obtain ⟨a, c, hv, hc, hl, _⟩ := h
  exact ⟨a, c, hv, hc, hl⟩
theorem Tss.get {w wr : World} {B : Nat} {a : Option Addr} {n c : Nat} {l : List Tst} (h : Tss w B (.slice a n c) l) (hB : B ≤ w.heap.size) (hb : Below w.heap.size w wr) {i : Nat} (hi : i < l.length) :
    ∃ b o nm d z, a = some ⟨b, o, none⟩ ∧ b < B ∧ l[i]? = some (nm, d, z) ∧ wr.cell? ⟨b, o + i * 3, none⟩ = some (.string nm) ∧ wr.cell? ⟨b, o + i * 3 + 1, none⟩ = some (.int .i64 d) ∧ wr.cell? ⟨b, o + i * 3 + 2, none⟩ = some (.int .i64 z) ∧ nm.size ≤ 9223372036854775807 := by
  obtain ⟨a', c', hv, _, _, hn, hx⟩ := h.at hB hb
  simp only [Value.slice.injEq] at hv
  obtain ⟨rfl, rfl, rfl⟩ := hv
  obtain ⟨b, o, rfl, hbB, hcell⟩ := hx (ne_of_lt hi)
  obtain ⟨⟨nm, d, z⟩, hx⟩ := get_lt hi
  exact ⟨b, o, nm, d, z, rfl, hbB, hx, (hcell i _ hx).1, (hcell i _ hx).2.1, (hcell i _ hx).2.2, hn _ (List.mem_of_getElem? hx)⟩

/-- a question as it lies in six cells -/
def At6 (w : World) (b o : Nat) (v0 v1 v2 v3 v4 v5 : Value) : Prop :=
  w.cell? ⟨b, o, none⟩ = some v0 ∧ w.cell? ⟨b, o + 1, none⟩ = some v1 ∧ w.cell? ⟨b, o + 2, none⟩ = some v2 ∧ w.cell? ⟨b, o + 3, none⟩ = some v3 ∧ w.cell? ⟨b, o + 4, none⟩ = some v4 ∧ w.cell? ⟨b, o + 5, none⟩ = some v5
theorem At6.keep {w w' : World} {B b o : Nat} {v0 v1 v2 v3 v4 v5 : Value} (h : At6 w b o v0 v1 v2 v3 v4 v5) (hb : Below B w w') (hB : b < B) : At6 w' b o v0 v1 v2 v3 v4 v5 :=
  ⟨(hb.cell (p := ⟨b, o, none⟩) hB).trans h.1, (hb.cell (p := ⟨b, o + 1, none⟩) hB).trans h.2.1, (hb.cell (p := ⟨b, o + 2, none⟩) hB).trans h.2.2.1, (hb.cell (p := ⟨b, o + 3, none⟩) hB).trans h.2.2.2.1, (hb.cell (p := ⟨b, o + 4, none⟩) hB).trans h.2.2.2.2.1, (hb.cell (p := ⟨b, o + 5, none⟩) hB).trans h.2.2.2.2.2⟩

/-- A QUESTION: its fields; its kids behind a slice, in blocks below B. -/
def Qm (w : World) (B : Nat) : Qu → Value → Value → Value → Value → Value → Value → Prop
  | .none, _, _, _, _, _, _ => False
  | .node k c lo hi wh n x y, v0, v1, v2, v3, v4, v5 =>
    (v0 = .int .i64 k ∧ v1 = .string c ∧ v2 = .int .i64 lo ∧ v3 = .int .i64 hi ∧ c.size ≤ 9223372036854775807 ∧ Tss w B v4 wh ∧ ∃ a cap, v5 = .slice a n cap ∧ n ≤ cap ∧ n ≤ 9223372036854775807 ∧
      (1 ≤ n → n ≤ 2 → ∃ b o, a = some ⟨b, o, none⟩ ∧ b < B ∧ (∃ u0 u1 u2 u3 u4 u5, At6 w b o u0 u1 u2 u3 u4 u5 ∧ Qm w B x u0 u1 u2 u3 u4 u5) ∧
        (2 ≤ n → ∃ u0 u1 u2 u3 u4 u5, At6 w b (o + 6) u0 u1 u2 u3 u4 u5 ∧ Qm w B y u0 u1 u2 u3 u4 u5)))
theorem Qm.keep {w w' : World} {B : Nat} (hb : Below B w w') (q : Qu) : ∀ {v0 v1 v2 v3 v4 v5 : Value}, Qm w B q v0 v1 v2 v3 v4 v5 → Qm w' B q v0 v1 v2 v3 v4 v5 := by
  induction q with
  | none => intro v0 v1 v2 v3 v4 v5 h; exact h
  | node k c lo hi wh n x y ihx ihy =>
    rintro v0 v1 v2 v3 v4 v5 ⟨h0, h1, h2, h3, hc, hw, a, cap, h5, hn, hm, hk⟩
    refine ⟨h0, h1, h2, h3, hc, hw.keep hb, a, cap, h5, hn, hm, fun g1 g2 => ?_⟩
    obtain ⟨b, o, ha, hB, ⟨u0, u1, u2, u3, u4, u5, hx, hq⟩, h2⟩ := hk g1 g2
    refine ⟨b, o, ha, hB, ⟨u0, u1, u2, u3, u4, u5, hx.keep hb hB, ihx hq⟩, fun g => ?_⟩
    obtain ⟨u0, u1, u2, u3, u4, u5, hx, hq⟩ := h2 g
    exact ⟨u0, u1, u2, u3, u4, u5, hx.keep hb hB, ihy hq⟩
theorem Qm.at {w w' : World} {B : Nat} {q : Qu} {v0 v1 v2 v3 v4 v5 : Value} (h : Qm w B q v0 v1 v2 v3 v4 v5) (hB : B ≤ w.heap.size) (hb : Below w.heap.size w w') : Qm w' B q v0 v1 v2 v3 v4 v5 := Qm.keep (hb.mono hB) q h
end Go.Proofs.Ytejeiahbnnechaa
