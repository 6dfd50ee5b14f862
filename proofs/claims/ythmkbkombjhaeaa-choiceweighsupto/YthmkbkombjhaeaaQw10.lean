import Derived.Test.YthmkbkombjhaeaaQw09
import Derived.Laws.IdiomCopy
import Derived.Test.YthmkbkombjhaeaaQw08
import Derived.Test.YthmkbkombjhaeaaQw01
namespace Go.Proofs.Ythmkbkombjhaeaa
open Go.RowKit Go.Proofs.Ythmkbkombjhaeaa.Ds

theorem sc_other {w : World} {a b : Addr} {v : Value} (h : a ≠ b) : (w.setCell a v).cell? b = w.cell? b := World.cell?_setCell_other _ _ _ _ h
theorem sc_same {w : World} {a : Addr} {u v : Value} (h : w.cell? a = some u) : (w.setCell a v).cell? a = some v := World.cell?_setCell_same _ _ _ h
theorem sc_frozen {w : World} {a b : Addr} {v : Value} : (w.setCell a v).frozen? b = w.frozen? b := World.frozen?_setCell _ _ _ _

/-- A ROW OF PARTS THAT MAY BE WRITTEN. -/
structure Row (w : World) (b o : Nat) (us : List Tr) : Prop where
  cells : Cells w b o us
  thaw : ∀ j, j < us.length * 2 → w.frozen? ⟨b, o + j, none⟩ = false
  lt : b < w.heap.size

theorem Row.keep {w w' : World} {b o : Nat} {us : List Tr} (h : Row w b o us) (hb : Below w.heap.size w w') : Row w' b o us :=
  ⟨h.cells.keep hb h.lt, fun j hj => (hb.frozen (p := ⟨b, o + j, none⟩) h.lt).trans (h.thaw j hj), Nat.lt_of_lt_of_le h.lt hb.size⟩

/-- .. where some block alone has turned, another one -/
theorem Row.beside {w w' : World} {b o g : Nat} {us : List Tr} (h : Row w b o us) (hg : w.grownBy w' (some g)) (hne : b ≠ g) : Row w' b o us := by
  have hk : w'.heap[b]? = w.heap[b]? := hg.block b h.lt (by simp; omega)
  exact ⟨fun i t ht => ⟨(World.cell?_of_block (w := w) (a := ⟨b, o + i * 2, none⟩) hk).trans (h.cells i t ht).1, (World.cell?_of_block (w := w) (a := ⟨b, o + i * 2 + 1, none⟩) hk).trans (h.cells i t ht).2⟩,
    fun j hj => (World.frozen?_of_block (w := w) (a := ⟨b, o + j, none⟩) hk).trans (h.thaw j hj), Nat.lt_of_lt_of_le h.lt hg.size⟩

theorem Cells.len_cell {w : World} {b o : Nat} {us : List Tr} (h : Cells w b o us) {i : Nat} (hi : i < us.length) : (w.cell? ⟨b, o + i * 2, none⟩).isSome = true ∧ (w.cell? ⟨b, o + i * 2 + 1, none⟩).isSome = true := by
  obtain ⟨t, ht⟩ := get_lt hi
  obtain ⟨h1, h2⟩ := h i t ht
  exact ⟨by rw [h1]; rfl, by rw [h2]; rfl⟩

/-- a weight is stored -/
theorem Row.setW {w : World} {b o : Nat} {us : List Tr} (h : Row w b o us) {i : Nat} {t : Tr} (ht : us[i]? = some t) (k : Int) :
    Row (w.setCell ⟨b, o + i * 2 + 1, none⟩ (.int .i64 k)) b o (us.set i (t.1, t.2.1, k)) := by
  have hi := (List.getElem?_eq_some_iff.1 ht).1
  refine ⟨fun j u hu => ?_, fun j hj => by rw [sc_frozen]; exact h.thaw j (by simpa using hj), by simpa using h.lt⟩
  by_cases hj : i = j
  · subst hj
    rw [List.getElem?_set_self hi] at hu
    obtain rfl : (t.1, t.2.1, k) = u := by simpa using hu
    have c := h.cells i t ht
    exact ⟨by rw [sc_other (by simp)]; exact c.1, sc_same c.2⟩
  · rw [List.getElem?_set_ne hj] at hu
    have c := h.cells j u hu
    exact ⟨by rw [sc_other (by simp <;> omega)]; exact c.1, by rw [sc_other (by simp <;> omega)]; exact c.2⟩

/-- a part is stored -/
theorem Row.setP {w : World} {b o : Nat} {us : List Tr} (h : Row w b o us) {i : Nat} (hi : i < us.length) (t : Tr) :
    Row (w.setCells b (o + i * 2) [t.1, .int .i64 t.2.2]) b o (us.set i t) := by
  have hs := h.cells.len_cell hi
  have e1 : ∀ a : Addr, (w.setCells b (o + i * 2) [t.1, .int .i64 t.2.2]).cell? a = ((w.setCell ⟨b, o + i * 2, none⟩ t.1).setCell ⟨b, o + i * 2 + 1, none⟩ (.int .i64 t.2.2)).cell? a := fun a => rfl
  refine ⟨fun j u hu => ?_, fun j hj => by rw [World.frozen?_setCells]; exact h.thaw j (by simpa using hj), ?_⟩
  · rw [e1, e1]
    by_cases hj : i = j
    · subst hj
      rw [List.getElem?_set_self hi] at hu
      obtain rfl : t = u := by simpa using hu
      refine ⟨?_, ?_⟩
      · rw [sc_other (by simp)]
        exact World.cell?_setCell_same' _ _ _ hs.1
      · refine World.cell?_setCell_same' _ _ _ ?_
        rw [sc_other (by simp)]
        exact hs.2
    · rw [List.getElem?_set_ne hj] at hu
      have c := h.cells j u hu
      exact ⟨by rw [sc_other (by simp <;> omega), sc_other (by simp <;> omega)]; exact c.1, by rw [sc_other (by simp <;> omega), sc_other (by simp <;> omega)]; exact c.2⟩
  · show b < (((w.setCell ⟨b, o + i * 2, none⟩ t.1).setCell ⟨b, o + i * 2 + 1, none⟩ (.int .i64 t.2.2))).heap.size
    simpa using h.lt

/-- PARTS IN MEMORY OF ONE's OWN, from block lo on; their lists lie elsewhere. -/
def Own (w : World) (lo : Nat) (v : Value) (ts : List Tr) : Prop :=
  ∃ b o c, v = .slice (some ⟨b, o, none⟩) ts.length c ∧ ts.length ≤ c ∧ ts.length ≤ 1073741824 ∧ lo ≤ b ∧ Row w b o ts ∧ ∀ t ∈ ts, Ints w w.heap.size b t.1 t.2.1

theorem Own.parts {w : World} {lo : Nat} {v : Value} {ts : List Tr} (h : Own w lo v ts) : Parts w w.heap.size v ts := by
  obtain ⟨b, o, c, hv, hc, hl, _, hr, hi⟩ := h
  refine ⟨_, c, hv, hc, hl, fun t ht => ?_, fun _ => ⟨b, o, rfl, hr.lt, hr.cells⟩⟩
  exact (hi t ht).mono (Nat.le_refl _) (.inr (Nat.le_refl _))

theorem Own.keep {w w' : World} {lo : Nat} {v : Value} {ts : List Tr} (h : Own w lo v ts) (hb : Below w.heap.size w w') : Own w' lo v ts := by
  obtain ⟨b, o, c, hv, hc, hl, hlo, hr, hi⟩ := h
  exact ⟨b, o, c, hv, hc, hl, hlo, hr.keep hb, fun t ht => ((hi t ht).keep hb).mono hb.size (.inl rfl)⟩

theorem Own.mono {w : World} {lo lo' : Nat} {v : Value} {ts : List Tr} (h : Own w lo v ts) (hl : lo' ≤ lo) : Own w lo' v ts := by
  obtain ⟨b, o, c, hv, hc, hl', hlo, hr, hi⟩ := h
  exact ⟨b, o, c, hv, hc, hl', by omega, hr, hi⟩

/-- the lists lie in blocks from lo on -/
def Frs (lo : Nat) (ts : List Tr) : Prop := ∀ t ∈ ts, t.2.1 ≠ [] → ∀ b o sp n c, t.1 = .slice (some ⟨b, o, sp⟩) n c → lo ≤ b
theorem Frs.mono {lo lo' : Nat} {ts : List Tr} (h : Frs lo ts) (hl : lo' ≤ lo) : Frs lo' ts := fun t ht hne b o sp n c e => Nat.le_trans hl (h t ht hne b o sp n c e)
theorem Frs.of {lo : Nat} {ts us : List Tr} (h : Frs lo ts) (hu : ∀ t ∈ us, ∃ u ∈ ts, t.1 = u.1 ∧ t.2.1 = u.2.1) : Frs lo us := by
  intro t ht hne b o sp n c e
  obtain ⟨u, hu1, e1, e2⟩ := hu t ht
  exact h u hu1 (e2 ▸ hne) b o sp n c (e1 ▸ e)
theorem Frs.nil (lo : Nat) : Frs lo [] := fun t ht => by cases ht
theorem fr_of {w : World} {B lo : Nat} {s : Value} {xs : List Int} (h : ∀ m, m < lo → Ints w B m s xs) : xs ≠ [] → ∀ b o sp n c, s = .slice (some ⟨b, o, sp⟩) n c → lo ≤ b := by
  intro hne b o sp n c e
  rcases Nat.lt_or_ge b lo with hb | hb
  · obtain ⟨a, c', hv, _, _, hx⟩ := h b hb
    obtain ⟨b', o', ha, _, hn, _⟩ := hx hne
    rw [hv, ha] at e
    simp only [Value.slice.injEq, Option.some.injEq, Addr.mk.injEq] at e
    exact absurd e.1.1 hn
  · exact hb

theorem parts_nil (w : World) (B : Nat) : Parts w B (.slice none 0 0) [] := ⟨none, 0, rfl, Nat.le_refl _, by simp, by simp, fun h => absurd rfl h⟩

end Go.Proofs.Ythmkbkombjhaeaa

namespace Go.Proofs.Ythmkbkombjhaeaa
open Go.RowKit Go.Proofs.Ythmkbkombjhaeaa.Ds

theorem infoI : (Try.prog.info? 3).map (fun i => (i.zero, i.size, i.bytes)) = some (some (.int .i64 0), 1, 8) := by kernel_rfl
theorem infoB : (Try.prog.info? 4).map (fun i => (i.zero, i.size, i.bytes)) = some (some (.bool false), 1, 1) := by kernel_rfl
/-- a row of numbers that may be written -/
structure RowI (w : World) (g : Nat) (xs : List Int) : Prop where
  cells : ∀ i x, xs[i]? = some x → w.cell? ⟨g, i, none⟩ = some (.int .i64 x)
  thaw : ∀ i, i < xs.length → w.frozen? ⟨g, i, none⟩ = false
  lt : g < w.heap.size
theorem RowI.keep {w w' : World} {g N : Nat} {xs : List Int} (h : RowI w g xs) (hb : Below N w w') (hg : g < N) : RowI w' g xs :=
  ⟨fun i x hi => (hb.cell (p := ⟨g, i, none⟩) hg).trans (h.cells i x hi), fun i hi => (hb.frozen (p := ⟨g, i, none⟩) hg).trans (h.thaw i hi), Nat.lt_of_lt_of_le h.lt hb.size⟩
theorem RowI.set {w : World} {g : Nat} {xs : List Int} (h : RowI w g xs) (i : Nat) (k : Int) : RowI (w.setCell ⟨g, i, none⟩ (.int .i64 k)) g (xs.set i k) := by
  refine ⟨fun j x hj => ?_, fun j hj => by rw [sc_frozen]; exact h.thaw j (by simpa using hj), by simpa using h.lt⟩
  by_cases e : i = j
  · subst e
    have hi : i < xs.length := by have := (List.getElem?_eq_some_iff.1 hj).1; simpa using this
    rw [List.getElem?_set_self hi] at hj
    obtain rfl : k = x := by simpa using hj
    obtain ⟨y, hy⟩ := get_lt hi
    exact sc_same (h.cells i y hy)
  · rw [List.getElem?_set_ne e] at hj
    rw [sc_other (fun h => e (congrArg Addr.off h))]
    exact h.cells j x hj
theorem RowI.made (w : World) (n : Nat) : RowI (w.alloc (.cells (madeCells #[.int .i64 0] n) 3)) w.heap.size (List.replicate n 0) := by
  refine ⟨fun i x hi => ?_, fun i _ => World.frozen?_alloc_at _ _ _ _ rfl, by simp⟩
  have h1 : i < n := by have := (List.getElem?_eq_some_iff.1 hi).1; simpa using this
  obtain rfl : x = 0 := by
    have := (List.getElem?_eq_some_iff.1 hi).2; simp at this; exact this.symm
  rw [World.cell?_alloc_at _ _ _ _ rfl]
  simp [madeCells, h1, Nat.mod_one]
theorem RowI.ints {w : World} {g : Nat} {xs : List Int} (h : RowI w g xs) (hl : xs.length ≤ 1073741824) : ∀ m, m < g → Ints w w.heap.size m (.slice (some ⟨g, 0, none⟩) xs.length xs.length) xs :=
  fun m hm => ⟨_, _, rfl, Nat.le_refl _, hl, fun _ => ⟨g, 0, rfl, h.lt, by omega, fun i x hi => by rw [Nat.zero_add]; exact h.cells i x hi⟩⟩

/-- 'make' of n numbers -/
theorem make_ints (n : Nat) (hn : n ≤ 1073741824) (u : World) : (Instr.makeSlice 24 (.int .i64 (n : Int)) (.int .i64 (n : Int))).run Try.prog u =
    .ok (.slice (some ⟨u.heap.size, 0, none⟩) n n) (u.alloc (.cells (madeCells #[.int .i64 0] n) 3)) := by
  obtain ⟨i0, hi, hz0, hz1, hz2⟩ := info_parts infoI
  have h := run_make (P := Try.prog) u 24 3 i0 (.int .i64 0) Try.underlying24 hi hz0 .i64 .i64 (n : Int) (n : Int) (by omega) (Int.le_refl _) (by rw [hz2]; omega) (by omega)
  rw [Int.toNat_natCast] at h
  simpa [hz1, Value.cells] using h

theorem RowI.num {w : World} {g : Nat} {xs : List Int} (h : RowI w g xs) (hl : xs.length ≤ 1073741824) {B : Nat} (hB : g < B) : Num w B (.slice (some ⟨g, 0, none⟩) xs.length xs.length) xs :=
  ⟨_, _, rfl, Nat.le_refl _, by omega, fun _ => ⟨g, 0, rfl, hB, fun i x hi => by rw [Nat.zero_add]; exact h.cells i x hi⟩⟩
theorem RowI.beside {w : World} {g : Nat} {xs : List Int} (h : RowI w g xs) {p : Addr} (hp : p.block ≠ g) (u : Value) : RowI (w.setCell p u) g xs :=
  ⟨fun i x hi => by rw [sc_other (fun e => hp (congrArg Addr.block e))]; exact h.cells i x hi, fun i hi => by rw [sc_frozen]; exact h.thaw i hi, by simpa using h.lt⟩

/-- a row of yes and no that may be written -/
structure RowB (w : World) (g : Nat) (xs : List Bool) : Prop where
  cells : ∀ i x, xs[i]? = some x → w.cell? ⟨g, i, none⟩ = some (.bool x)
  thaw : ∀ i, i < xs.length → w.frozen? ⟨g, i, none⟩ = false
  lt : g < w.heap.size
theorem RowB.keep {w w' : World} {g N : Nat} {xs : List Bool} (h : RowB w g xs) (hb : Below N w w') (hg : g < N) : RowB w' g xs :=
  ⟨fun i x hi => (hb.cell (p := ⟨g, i, none⟩) hg).trans (h.cells i x hi), fun i hi => (hb.frozen (p := ⟨g, i, none⟩) hg).trans (h.thaw i hi), Nat.lt_of_lt_of_le h.lt hb.size⟩
theorem RowB.set {w : World} {g : Nat} {xs : List Bool} (h : RowB w g xs) (i : Nat) (k : Bool) : RowB (w.setCell ⟨g, i, none⟩ (.bool k)) g (xs.set i k) := by
  refine ⟨fun j x hj => ?_, fun j hj => by rw [sc_frozen]; exact h.thaw j (by simpa using hj), by simpa using h.lt⟩
  by_cases e : i = j
  · subst e
    have hi : i < xs.length := by have := (List.getElem?_eq_some_iff.1 hj).1; simpa using this
    rw [List.getElem?_set_self hi] at hj
    obtain rfl : k = x := by simpa using hj
    obtain ⟨y, hy⟩ := get_lt hi
    exact sc_same (h.cells i y hy)
  · rw [List.getElem?_set_ne e] at hj
    rw [sc_other (fun h => e (congrArg Addr.off h))]
    exact h.cells j x hj
theorem RowB.beside {w : World} {g : Nat} {xs : List Bool} (h : RowB w g xs) {p : Addr} (hp : p.block ≠ g) (u : Value) : RowB (w.setCell p u) g xs :=
  ⟨fun i x hi => by rw [sc_other (fun e => hp (congrArg Addr.block e))]; exact h.cells i x hi, fun i hi => by rw [sc_frozen]; exact h.thaw i hi, by simpa using h.lt⟩
theorem RowB.made (w : World) (n : Nat) : RowB (w.alloc (.cells (madeCells #[.bool false] n) 4)) w.heap.size (List.replicate n false) := by
  refine ⟨fun i x hi => ?_, fun i _ => World.frozen?_alloc_at _ _ _ _ rfl, by simp⟩
  have h1 : i < n := by have := (List.getElem?_eq_some_iff.1 hi).1; simpa using this
  obtain rfl : x = false := by
    have := (List.getElem?_eq_some_iff.1 hi).2; simp at this; exact this
  rw [World.cell?_alloc_at _ _ _ _ rfl]
  simp [madeCells, h1, Nat.mod_one]
/-- 'make' of n yes or no -/
theorem make_bools (n : Nat) (hn : n ≤ 1073741824) (u : World) : (Instr.makeSlice 57 (.int .i64 (n : Int)) (.int .i64 (n : Int))).run Try.prog u =
    .ok (.slice (some ⟨u.heap.size, 0, none⟩) n n) (u.alloc (.cells (madeCells #[.bool false] n) 4)) := by
  obtain ⟨i0, hi, hz0, hz1, hz2⟩ := info_parts infoB
  have h := run_make (P := Try.prog) u 57 4 i0 (.bool false) Try.underlying57 hi hz0 .i64 .i64 (n : Int) (n : Int) (by omega) (Int.le_refl _) (by rw [hz2]; omega) (by omega)
  rw [Int.toNat_natCast] at h
  simpa [hz1, Value.cells] using h

/-! ### a list that is made place by place -/
def mkd (f : Nat → Int) (n k : Nat) : List Int := (List.range n).map fun i => if i < k then f i else 0
theorem mkd_len (f : Nat → Int) (n k : Nat) : (mkd f n k).length = n := by simp [mkd]
theorem mkd_zero (f : Nat → Int) (n : Nat) : mkd f n 0 = List.replicate n 0 := by
  unfold mkd
  refine List.ext_getElem (by simp) fun i h1 h2 => by simp
theorem mkd_all (f : Nat → Int) {n k : Nat} (h : n ≤ k) : mkd f n k = (List.range n).map f := by
  unfold mkd
  refine List.map_congr_left fun i hi => ?_
  have := List.mem_range.1 hi
  rw [if_pos (by omega)]
theorem mkd_get (f : Nat → Int) {n k i : Nat} (hi : i < n) : (mkd f n k)[i]? = some (if i < k then f i else 0) := by
  simp [mkd, hi]
theorem mkd_set (f : Nat → Int) {n k : Nat} (h : k < n) : (mkd f n k).set k (f k) = mkd f n (k + 1) := by
  refine List.ext_getElem? fun i => ?_
  by_cases e : k = i
  · subst e
    rw [List.getElem?_set_self (by rw [mkd_len]; exact h), mkd_get f h, if_pos (by omega)]
  · rw [List.getElem?_set_ne e]
    by_cases hi : i < n
    · rw [mkd_get f hi, mkd_get f hi]
      by_cases c : i < k
      · rw [if_pos c, if_pos (by omega)]
      · rw [if_neg c, if_neg (by omega)]
    · rw [List.getElem?_eq_none (by rw [mkd_len]; omega), List.getElem?_eq_none (by rw [mkd_len]; omega)]
end Go.Proofs.Ythmkbkombjhaeaa

namespace Go.Proofs.Ythmkbkombjhaeaa
open Go.Proofs.Ythmkbkombjhaeaa.Ds

/-! ### MIDDLE -/
/-- what is ahead less what is behind -/
def midF (l : List Int) (i : Nat) : Int := (l.take i).sum - (l.drop (i + 1)).sum
def midS (l : List Int) (i : Nat) : Int := l.getD i 0 - max (l.getD i 0) (max (midF l i) (-(midF l i)))
def midE (l : List Int) : Int := if l.all (fun n => decide (0 ≤ n ∧ n ≤ 4096)) = true then (if 4096 < l.length then 5 else 0) else 3
def midT (l : List Int) : List Int × Int := if midE l ≠ 0 then ([], midE l) else ((List.range l.length).map (midS l), 0)
theorem mid_le (l : List Int) (i : Nat) : midS l i ≤ 0 := by unfold midS; omega
theorem sum_set (l : List Int) (k : Nat) (z : Int) (h : k < l.length) : (l.set k (l.getD k 0 + z)).sum = l.sum + z := by
  induction l generalizing k with
  | nil => simp at h
  | cons a l ih =>
    cases k with
    | zero => simp only [List.set_cons_zero, List.sum_cons, List.getD_cons_zero]; omega
    | succ k => simp only [List.set_cons_succ, List.sum_cons, List.getD_cons_succ]; rw [ih k (by simpa using h)]; omega
theorem take_set' (l : List Int) (i k : Nat) (z : Int) (h : k < l.length) : ((l.set k (l.getD k 0 + z)).take i).sum = (l.take i).sum + (if k < i then z else 0) := by
  induction l generalizing i k with
  | nil => simp at h
  | cons a l ih =>
    cases i with
    | zero => simp
    | succ i =>
      cases k with
      | zero => simp only [List.set_cons_zero, List.take_succ_cons, List.sum_cons, List.getD_cons_zero]; rw [if_pos (by omega)]; omega
      | succ k =>
        simp only [List.set_cons_succ, List.take_succ_cons, List.sum_cons, List.getD_cons_succ]
        rw [ih i k (by simpa using h)]
        by_cases c : k < i
        · rw [if_pos c, if_pos (by omega)]; omega
        · rw [if_neg c, if_neg (by omega)]; omega
theorem drop_set' (l : List Int) (i k : Nat) (z : Int) (h : k < l.length) : ((l.set k (l.getD k 0 + z)).drop i).sum = (l.drop i).sum + (if k < i then 0 else z) := by
  have h1 := take_set' l i k z h
  have h2 := sum_set l k z h
  have e1 : ∀ m : List Int, m.sum = (m.take i).sum + (m.drop i).sum := fun m => by rw [← List.sum_append_int, List.take_append_drop]
  have e2 := e1 l
  have e3 := e1 (l.set k (l.getD k 0 + z))
  split at h1 <;> rename_i c
  · rw [if_pos c]; omega
  · rw [if_neg c]; omega
/-- one more moves no score by more than 1 -/
theorem mid_near (l : List Int) (k : Nat) (h : k < l.length) (i : Nat) : midS l i - midS (l.set k (l.getD k 0 + 1)) i ≤ 1 ∧ midS (l.set k (l.getD k 0 + 1)) i - midS l i ≤ 1 := by
  unfold midS midF
  have h1 := take_set' l i k 1 h
  have h2 := drop_set' l (i + 1) k 1 h
  have h3 : (l.set k (l.getD k 0 + 1)).getD i 0 = if k = i then l.getD i 0 + 1 else l.getD i 0 := by
    by_cases c : k = i
    · subst c; rw [if_pos rfl]; simp [List.getD, h]
    · rw [if_neg c]; simp [List.getD, c]
  by_cases c1 : k < i
  · rw [if_pos c1] at h1
    rw [if_pos (show k < i + 1 by omega)] at h2
    rw [if_neg (show ¬ k = i by omega)] at h3
    rw [h1, h2, h3]
    omega
  · rw [if_neg c1] at h1
    by_cases c2 : k = i
    · rw [if_pos (show k < i + 1 by omega)] at h2
      rw [if_pos c2] at h3
      rw [h1, h2, h3]
      omega
    · rw [if_neg (show ¬ k < i + 1 by omega)] at h2
      rw [if_neg c2] at h3
      rw [h1, h2, h3]
      omega
end Go.Proofs.Ythmkbkombjhaeaa
