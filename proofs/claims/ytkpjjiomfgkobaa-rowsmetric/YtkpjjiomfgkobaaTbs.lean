import Derived.Test.YtkpjjiomfgkobaaNea
namespace Go.Proofs.Ytkpjjiomfgkobaa
open Go.RowKit Go.Proofs.Ytkpjjiomfgkobaa.Ds

/-- a table in memory: the value of its columns, of its rows; its columns, its rows -/
structure Tb where
  cv : Value
  rv : Value
  l : List Col
  ts : List Rw
def TbOk (w : World) (B : Nat) (t : Tb) : Prop := Cols w B t.cv t.l ∧ Rws w B t.rv t.ts
theorem TbOk.keep {w w' : World} {B : Nat} {t : Tb} (h : TbOk w B t) (hb : Below B w w') : TbOk w' B t := ⟨h.1.keep hb, h.2.keep hb⟩
theorem TbOk.mono {w : World} {B B' : Nat} {t : Tb} (h : TbOk w B t) (hB : B ≤ B') : TbOk w B' t := ⟨h.1.mono hB, h.2.mono hB⟩
/-- where a table lies -/
def AdrT (P : Nat → Prop) (t : Tb) : Prop := Adr P t.cv ∧ AdrR P t.rv t.ts
theorem AdrT.imp {P P' : Nat → Prop} {t : Tb} (h : AdrT P t) (k : ∀ b, P b → P' b) : AdrT P' t := ⟨h.1.imp k, h.2.imp k⟩
theorem TbOk.gb {w w' : World} {B : Nat} {t : Tb} {row : Option Nat} (h : TbOk w B t) (hg : w.grownBy w' row) (ha : AdrT (fun b => row ≠ some b) t) : TbOk w' B t := ⟨h.1.gb hg ha.1, h.2.gb hg ha.2⟩
/-- its content -/
def tc (t : Tb) : List Col × List (List Int) := (t.l, rr t.ts)
/-- TABLES BEHIND A SLICE. -/
def Tbs (w : World) (B : Nat) (v : Value) (tb : List Tb) : Prop :=
  ∃ a c, v = .slice a tb.length c ∧ tb.length ≤ c ∧ tb.length ≤ 9223372036854775807 ∧ (∀ t ∈ tb, TbOk w B t) ∧
    (tb ≠ [] → ∃ b o, a = some ⟨b, o, none⟩ ∧ b < B ∧ ∀ i t, tb[i]? = some t → w.cell? ⟨b, o + i * 2, none⟩ = some t.cv ∧ w.cell? ⟨b, o + i * 2 + 1, none⟩ = some t.rv)
theorem Tbs.keep {w w' : World} {B : Nat} {v : Value} {tb : List Tb} (h : Tbs w B v tb) (hb : Below B w w') : Tbs w' B v tb := by
  obtain ⟨a, c, hv, hc, hl, hi, hx⟩ := h
  refine ⟨a, c, hv, hc, hl, fun t ht => (hi t ht).keep hb, fun hne => ?_⟩
  obtain ⟨b, o, ha, hB, hcell⟩ := hx hne
  exact ⟨b, o, ha, hB, fun i t ht => ⟨(hb.cell (p := ⟨b, o + i * 2, none⟩) hB).trans (hcell i t ht).1, (hb.cell (p := ⟨b, o + i * 2 + 1, none⟩) hB).trans (hcell i t ht).2⟩⟩
theorem Tbs.at {w w' : World} {B : Nat} {v : Value} {tb : List Tb} (h : Tbs w B v tb) (hB : B ≤ w.heap.size) (hb : Below w.heap.size w w') : Tbs w' B v tb := h.keep (hb.mono hB)
theorem Tbs.mono {w : World} {B B' : Nat} {v : Value} {tb : List Tb} (h : Tbs w B v tb) (hB : B ≤ B') : Tbs w B' v tb := by
  obtain ⟨a, c, hv, hc, hl, hi, hx⟩ := h
  refine ⟨a, c, hv, hc, hl, fun t ht => (hi t ht).mono hB, fun hne => ?_⟩
  obtain ⟨b, o, ha, hb, hcell⟩ := hx hne
  exact ⟨b, o, ha, by omega, hcell⟩
theorem Tbs.slice {w : World} {B : Nat} {v : Value} {tb : List Tb} (h : Tbs w B v tb) : ∃ a c, v = .slice a tb.length c ∧ tb.length ≤ c ∧ tb.length ≤ 9223372036854775807 := by
  obtain ⟨a, c, hv, hc, hl, _⟩ := h
  exact ⟨a, c, hv, hc, hl⟩
theorem tbs_nil (w : World) (B : Nat) : Tbs w B (.slice none 0 0) [] := ⟨none, 0, rfl, Nat.le_refl _, by simp, by simp, fun h => absurd rfl h⟩
theorem Tbs.get {w wr : World} {B : Nat} {a : Option Addr} {n c : Nat} {tb : List Tb} (h : Tbs w B (.slice a n c) tb) (hB : B ≤ w.heap.size) (hb : Below w.heap.size w wr) {i : Nat} (hi : i < tb.length) :
    ∃ b o t ca cc ra rc, a = some ⟨b, o, none⟩ ∧ b < B ∧ tb[i]? = some t ∧ t.cv = .slice ca t.l.length cc ∧ t.rv = .slice ra t.ts.length rc ∧ wr.cell? ⟨b, o + i * 2, none⟩ = some (.slice ca t.l.length cc) ∧ wr.cell? ⟨b, o + i * 2 + 1, none⟩ = some (.slice ra t.ts.length rc) ∧ TbOk wr B t := by
  obtain ⟨a', c', hv, _, _, hin, hx⟩ := h.at hB hb
  simp only [Value.slice.injEq] at hv
  obtain ⟨rfl, rfl, rfl⟩ := hv
  obtain ⟨b, o, rfl, hbB, hcell⟩ := hx (ne_of_lt hi)
  obtain ⟨t, ht⟩ := get_lt hi
  have hI := hin _ (List.mem_of_getElem? ht)
  obtain ⟨ca, cc, e1, _⟩ := hI.1.slice
  obtain ⟨ra, rc, e2, _⟩ := hI.2.slice
  have hc := hcell i t ht
  exact ⟨b, o, t, ca, cc, ra, rc, rfl, hbB, ht, e1, e2, by rw [hc.1, e1], by rw [hc.2, e2], hI⟩

/-- the cells of tables -/
def flatT (tb : List Tb) : List Value := tb.flatMap fun t => [t.cv, t.rv]
theorem flatT_len (l : List Tb) : (flatT l).length = l.length * 2 := by
  induction l with
  | nil => rfl
  | cons t l ih => simp [flatT] at *; omega
theorem flatT_get (l : List Tb) (i : Nat) : (flatT l)[i * 2]? = l[i]?.map (·.cv) ∧ (flatT l)[i * 2 + 1]? = l[i]?.map (·.rv) := by
  induction l generalizing i with
  | nil => simp [flatT]
  | cons t l ih =>
    cases i with
    | zero => simp [flatT]
    | succ i =>
      have h := ih i
      have e : flatT (t :: l) = t.cv :: t.rv :: flatT l := rfl
      rw [e, show (i + 1) * 2 = i * 2 + 1 + 1 by omega, show i * 2 + 1 + 1 + 1 = (i * 2 + 1) + 1 + 1 by omega]
      simpa using h
theorem flatT_snoc (l : List Tb) (t : Tb) : flatT (l ++ [t]) = flatT l ++ [t.cv, t.rv] := by simp [flatT]

/-- TABLES OF ONE's OWN THAT GROW, in a block from lo on; each table's memory is another one -/
def Tbr (w : World) (lo : Nat) (v : Value) (tb : List Tb) : Prop :=
  w.ownsRow lo 25 2 v tb.length (flatT tb) ∧ ∀ t ∈ tb, TbOk w w.heap.size t ∧ AdrT (fun b => v.ownBlock ≠ some b) t
theorem Tbr.nil (w : World) (lo : Nat) : Tbr w lo (.slice none 0 0) [] := ⟨⟨rfl, .inl ⟨rfl, rfl⟩⟩, fun t ht => by cases ht⟩
theorem Tbr.slice {w : World} {lo : Nat} {v : Value} {tb : List Tb} (h : Tbr w lo v tb) : ∃ a c, v = .slice a tb.length c := owns_slice h.1
theorem Tbr.keep {w w' : World} {lo : Nat} {v : Value} {tb : List Tb} (h : Tbr w lo v tb) (hb : Below w.heap.size w w') : Tbr w' lo v tb :=
  ⟨owns_below h.1 hb, fun t ht => ⟨((h.2 t ht).1.keep hb).mono hb.size, (h.2 t ht).2⟩⟩
/-- another block is written -/
theorem Tbr.gb {w w' : World} {lo : Nat} {v : Value} {tb : List Tb} {row : Option Nat} (h : Tbr w lo v tb) (hg : w.grownBy w' row) (hr : ∀ g, v.ownBlock = some g → row ≠ some g) (ha : ∀ t ∈ tb, AdrT (fun b => row ≠ some b) t) : Tbr w' lo v tb :=
  ⟨owns_gb h.1 hg hr, fun t ht => ⟨((h.2 t ht).1.gb hg (ha t ht)).mono hg.size, (h.2 t ht).2⟩⟩
theorem Tbr.app {W w' : World} {lo : Nat} {v v' : Value} {tb : List Tb} {t : Tb} (h : Tbr W lo v tb) (hown : w'.ownsRow lo 25 2 v' (tb.length + 1) (flatT tb ++ [t.cv, t.rv])) (hg : W.grownBy w' v.ownBlock)
    (hat : v'.ownBlock = v.ownBlock ∨ v'.ownBlock = some W.heap.size) (ht : TbOk W W.heap.size t) (ha : AdrT (fun b => v.ownBlock ≠ some b) t) (hlt : ∀ u ∈ tb ++ [t], AdrT (fun b => b < W.heap.size) u) : Tbr w' lo v' (tb ++ [t]) := by
  refine ⟨by rw [flatT_snoc]; simpa using hown, fun u hu => ?_⟩
  have key : TbOk W W.heap.size u ∧ AdrT (fun b => v.ownBlock ≠ some b) u := by
    rcases List.mem_append.1 hu with hu | hu
    · exact h.2 u hu
    · obtain rfl := List.mem_singleton.1 hu; exact ⟨ht, ha⟩
  refine ⟨(key.1.gb hg key.2).mono hg.size, ?_⟩
  rcases hat with e | e
  · rw [e]; exact key.2
  · rw [e]; exact (hlt u hu).imp fun b hb => by simp; omega
theorem Tbr.tbs {w : World} {lo : Nat} {v : Value} {tb : List Tb} (h : Tbr w lo v tb) (hl : tb.length ≤ 9223372036854775807) : Tbs w w.heap.size v tb := by
  obtain ⟨_, ⟨hv, h0⟩ | ⟨g, cap, cur, hv, hb, hcur, hc, _, hsz, hx⟩⟩ := h.1
  · obtain rfl : tb = [] := List.length_eq_zero_iff.1 h0
    subst hv
    exact tbs_nil w _
  · refine ⟨_, cap, hv, hc, hl, fun t ht => (h.2 t ht).1, fun _ => ⟨g, 0, rfl, (Array.getElem?_eq_some_iff.1 hcur).1, fun i t ht => ?_⟩⟩
    have hi2 : i < tb.length := (List.getElem?_eq_some_iff.1 ht).1
    have hget : ∀ j u, (flatT tb)[j]? = some u → w.cell? ⟨g, 0 + j, none⟩ = some u := by
      intro j u hj
      have hj2 : j < tb.length * 2 := by rw [← flatT_len]; exact (List.getElem?_eq_some_iff.1 hj).1
      have : cur[j]? = some u := by
        have h2 : (cur.toList.take (tb.length * 2))[j]? = some u := by rw [hx]; exact hj
        rw [List.getElem?_take_of_lt hj2] at h2
        simpa using h2
      simp [World.cell?, hcur, this]
    have hg := flatT_get tb i
    exact ⟨hget _ _ (by rw [hg.1, ht]; rfl), by rw [Nat.add_assoc]; exact hget _ _ (by rw [hg.2, ht]; rfl)⟩
end Go.Proofs.Ytkpjjiomfgkobaa
