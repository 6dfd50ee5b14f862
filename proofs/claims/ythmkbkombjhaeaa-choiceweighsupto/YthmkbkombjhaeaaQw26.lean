import Derived.Test.YthmkbkombjhaeaaQw24
import Derived.Test.YthmkbkombjhaeaaQw25
import Derived.Test.YthmkbkombjhaeaaQw10
import Derived.Test.YthmkbkombjhaeaaQw16
namespace Go.Proofs.Ythmkbkombjhaeaa
open Go.RowKit Go.Proofs.Ythmkbkombjhaeaa.Ds

/-! ### one order, place by place -/
/-- what those that are left give to i, if all ahead of them weigh c -/
def fl (U D : Nat → Int) (c : Int) : List Nat → Nat → Int
  | [], _ => 0
  | a :: p, i => (if a = i then c * D i * Ps.pI U p else 0) + fl U D (c * (U a - D a)) p i
theorem fl_none {U D : Nat → Int} {i : Nat} : ∀ {p : List Nat} (c : Int), i ∉ p → fl U D c p i = 0
  | [], _, _ => rfl
  | a :: p, c, h => by
    have h1 : ¬ a = i := fun e => h (e ▸ List.mem_cons_self ..)
    rw [fl, if_neg h1, fl_none _ fun h2 => h (List.mem_cons_of_mem _ h2)]
    rfl
theorem fl_is {U D : Nat → Int} {i : Nat} : ∀ {p : List Nat} (c : Int), p.Nodup → fl U D c p i = c * Ps.valI U D i p
  | [], c, _ => by simp [fl, Ps.valI]
  | a :: p, c, h => by
    have hn := List.nodup_cons.1 h
    rw [fl, Ps.valI]
    by_cases e : a = i
    · subst e
      rw [if_pos rfl, if_pos rfl, fl_none _ hn.1, Int.add_zero, Int.mul_assoc]
    · rw [if_neg e, if_neg e, fl_is _ hn.2, Int.zero_add, Int.mul_assoc]
theorem fl_nn {U D : Nat → Int} (hD : ∀ a, 0 ≤ D a) (hU : ∀ a, D a ≤ U a) (h1 : ∀ a, 1 ≤ U a) {i : Nat} : ∀ {p : List Nat} {c : Int}, 0 ≤ c → 0 ≤ fl U D c p i
  | [], _, _ => Int.le_refl _
  | a :: p, c, hc => by
    have h2 := Ps.pI_nn (l := p) h1
    have h3 := fl_nn hD hU h1 (i := i) (p := p) (c := c * (U a - D a)) (Int.mul_nonneg hc (by have := hU a; omega))
    rw [fl]
    split
    · have := Int.mul_nonneg (Int.mul_nonneg hc (hD i)) (show 0 ≤ Ps.pI U p by omega)
      omega
    · omega
/-- so far -/
structure Sof (U D : Nat → Int) (p : List Nat) (k : Nat) (c : Int) (ws : List Int) (T : Nat → Int) : Prop where
  eq : ∀ i, i < ws.length → ws.getD i 0 + fl U D c (p.drop k) i = T i
  c0 : 0 ≤ c
  c1 : c * Ps.pI U (p.drop k) ≤ Ps.pI U p
theorem Sof.step {U D : Nat → Int} (hD : ∀ a, 0 ≤ D a) (hU : ∀ a, D a ≤ U a) (h1 : ∀ a, 1 ≤ U a) {p : List Nat} {k a : Nat} {c : Int} {ws : List Int} {T : Nat → Int} (h : Sof U D p k c ws T) (ha : p[k]? = some a) (hal : a < ws.length) :
    Sof U D p (k + 1) (c * (U a - D a)) (ws.set a (ws.getD a 0 + c * D a * Ps.pI U (p.drop (k + 1)))) T := by
  have hd : p.drop k = a :: p.drop (k + 1) := by
    obtain ⟨h2, h3⟩ := List.getElem?_eq_some_iff.1 ha
    rw [List.drop_eq_getElem_cons h2, h3]
  have hUa := hU a
  have hDa := hD a
  refine ⟨fun i hi => ?_, Int.mul_nonneg h.c0 (by omega), ?_⟩
  · have h4 := h.eq i (by simpa using hi)
    rw [hd, fl] at h4
    by_cases e : a = i
    · subst e
      rw [if_pos rfl] at h4
      have h5 : (ws.set a (ws.getD a 0 + c * D a * Ps.pI U (p.drop (k + 1)))).getD a 0 = ws.getD a 0 + c * D a * Ps.pI U (p.drop (k + 1)) := by simp [List.getD, hal]
      rw [h5]
      omega
    · rw [if_neg e] at h4
      have h5 : (ws.set a (ws.getD a 0 + c * D a * Ps.pI U (p.drop (k + 1)))).getD i 0 = ws.getD i 0 := by simp [List.getD, e]
      rw [h5]
      omega
  · have h6 := h.c1
    rw [hd, Ps.pI_cons] at h6
    have hp := Ps.pI_nn (l := p.drop (k + 1)) h1
    have h7 : c * (U a - D a) * Ps.pI U (p.drop (k + 1)) ≤ c * U a * Ps.pI U (p.drop (k + 1)) := Int.mul_le_mul_of_nonneg_right (Int.mul_le_mul_of_nonneg_left (by omega) h.c0) (by omega)
    rw [Int.mul_assoc c (U a)] at h7
    omega
theorem Sof.start {U D : Nat → Int} {p : List Nat} {ws : List Int} (hn : p.Nodup) : Sof U D p 0 1 ws (fun i => ws.getD i 0 + Ps.valI U D i p) :=
  ⟨fun i _ => by rw [List.drop_zero, fl_is _ hn, Int.one_mul], by omega, by rw [List.drop_zero, Int.one_mul]; exact Int.le_refl _⟩
theorem Sof.all {U D : Nat → Int} {p : List Nat} {k : Nat} {c : Int} {ws : List Int} {T : Nat → Int} (h : Sof U D p k c ws T) (hk : p.length ≤ k) : ∀ i, i < ws.length → ws.getD i 0 = T i := by
  intro i hi
  have := h.eq i hi
  rw [List.drop_eq_nil_of_le hk, fl] at this
  omega
/-- what a step reckons is small -/
theorem Sof.bds {U D : Nat → Int} (hD : ∀ a, 0 ≤ D a) (hU : ∀ a, D a ≤ U a) (h1 : ∀ a, 1 ≤ U a) {p : List Nat} {k a : Nat} {c : Int} {ws : List Int} {T : Nat → Int} (h : Sof U D p k c ws T) (ha : p[k]? = some a) (hal : a < ws.length) {A : Int} (hpA : Ps.pI U p ≤ A) (hT : ∀ i, i < ws.length → T i ≤ A) :
    c ≤ A ∧ 0 ≤ c * D a ∧ c * D a ≤ A ∧ 0 ≤ c * D a * Ps.pI U (p.drop (k + 1)) ∧ c * D a * Ps.pI U (p.drop (k + 1)) ≤ A ∧ ws.getD a 0 + c * D a * Ps.pI U (p.drop (k + 1)) ≤ A ∧ 0 ≤ c * (U a - D a) ∧ c * (U a - D a) ≤ A := by
  have hs := h.step hD hU h1 ha hal
  have hd : p.drop k = a :: p.drop (k + 1) := by
    obtain ⟨h2, h3⟩ := List.getElem?_eq_some_iff.1 ha
    rw [List.drop_eq_getElem_cons h2, h3]
  have h6 := h.c1
  rw [hd, Ps.pI_cons] at h6
  have hUa := hU a
  have hDa := hD a
  have hU1 := h1 a
  have hc := h.c0
  have hp := Ps.pI_nn (l := p.drop (k + 1)) h1
  obtain ⟨R, hR⟩ : ∃ R, Ps.pI U (p.drop (k + 1)) = R := ⟨_, rfl⟩
  rw [hR] at h6 hp hs ⊢
  have m1 : 1 ≤ U a * R := mul1 hU1 hp
  have m2 := Int.mul_le_mul_of_nonneg_left m1 hc
  have m3 : U a ≤ U a * R := by have := Int.mul_le_mul_of_nonneg_left hp (show 0 ≤ U a by omega); omega
  have m4 := Int.mul_le_mul_of_nonneg_left m3 hc
  have m5 := Int.mul_le_mul_of_nonneg_left hUa hc
  have m6 := Int.mul_nonneg hc hDa
  have m7 := Int.mul_nonneg m6 (show 0 ≤ R by omega)
  have m8 : c * D a * R ≤ c * U a * R := Int.mul_le_mul_of_nonneg_right m5 (by omega)
  rw [Int.mul_assoc c (U a)] at m8
  have m9 := hs.eq a (by simpa using hal)
  have m10 := fl_nn hD hU h1 (i := a) (p := p.drop (k + 1)) hs.c0
  have m11 : (ws.set a (ws.getD a 0 + c * D a * R)).getD a 0 = ws.getD a 0 + c * D a * R := by simp [List.getD, hal]
  rw [m11] at m9
  have m12 := hT a hal
  have m13 : c * (U a - D a) ≤ c * U a := Int.mul_le_mul_of_nonneg_left (by omega) hc
  refine ⟨by omega, m6, by omega, m7, by omega, by omega, hs.c0, by omega⟩

/-- but for one block -/
structure Oth (gw : Nat) (w w' : World) : Prop where
  size : w.heap.size ≤ w'.heap.size
  cell : ∀ b o, b ≠ gw → b < w.heap.size → w'.cell? ⟨b, o, none⟩ = w.cell? ⟨b, o, none⟩
theorem Oth.refl (gw : Nat) (w : World) : Oth gw w w := ⟨Nat.le_refl _, fun _ _ _ _ => rfl⟩
theorem Oth.drew {gw : Nat} {w w' : World} (h : Oth gw w w') : Oth gw w w'.drew := ⟨h.size, h.cell⟩
theorem Oth.set {gw : Nat} {w w' : World} (h : Oth gw w w') (i : Nat) (u : Value) : Oth gw w (w'.setCell ⟨gw, i, none⟩ u) :=
  ⟨by simpa using h.size, fun b o hb hl => by rw [sc_other (fun e => hb (congrArg Addr.block e).symm)]; exact h.cell b o hb hl⟩
/-- the weights so far -/
def Wts (u d : Int) (s : List Nat) (ps : List (List Nat)) (j : Nat) (ws : List Int) : Prop := ws.length = s.length ∧ ∀ i, i < s.length → ws.getD i 0 = Ps.sumI (Ps.valI (upW u s) (upW d s) i) (ps.take j)
theorem Wts.step {u d : Int} {s : List Nat} {ps : List (List Nat)} {j : Nat} {ws ws' : List Int} {p : List Nat} (h : Wts u d s ps j ws) (hp : ps[j]? = some p) (hl : ws'.length = s.length) (h' : ∀ i, i < s.length → ws'.getD i 0 = ws.getD i 0 + Ps.valI (upW u s) (upW d s) i p) : Wts u d s ps (j + 1) ws' := by
  refine ⟨hl, fun i hi => ?_⟩
  rw [h' i hi, h.2 i hi, List.take_add_one, hp, Ps.sumI_append]
  simp [Ps.sumI]
theorem sumI_take_le {f : List Nat → Int} {ps : List (List Nat)} (hf : ∀ p, 0 ≤ f p) (j : Nat) : Ps.sumI f (ps.take j) ≤ Ps.sumI f ps := by
  have h1 := Ps.sumI_append f (ps.take j) (ps.drop j)
  rw [List.take_append_drop] at h1
  have h2 := Ps.sumI_nn (l := ps.drop j) fun p _ => hf p
  omega
/-- no weight is more than all -/
theorem wts_bd {u d : Int} (hd : 1 ≤ d) (hu : d ≤ u) (s : List Nat) (j i : Nat) : 0 ≤ Ps.sumI (Ps.valI (upW u s) (upW d s) i) ((Ps.ordL (List.range s.length).reverse).take j) ∧ Ps.sumI (Ps.valI (upW u s) (upW d s) i) ((Ps.ordL (List.range s.length).reverse).take j) ≤ wayN u s s.length := by
  have hD : ∀ a, 0 ≤ upW d s a := fun a => by have := up_pos hd s a; omega
  have h1 : ∀ a, 1 ≤ upW u s a := fun a => up_pos (by omega) s a
  refine ⟨Ps.sumI_nn fun p _ => (Ps.valI_bd hD (up_le hd hu s) h1 i p).1, ?_⟩
  refine Int.le_trans (sumI_take_le (fun p => (Ps.valI_bd hD (up_le hd hu s) h1 i p).1) j) ?_
  have h2 := (Ps.inc_bd hD (up_le hd hu s) h1 i (List.range s.length).reverse).2
  unfold Ps.incI at h2
  rw [List.length_reverse, List.length_range, Ps.pI_perm _ (List.reverse_perm _)] at h2
  exact h2
theorem pI_le_way {u : Int} (hu : 1 ≤ u) {s : List Nat} {p : List Nat} (h : p ∈ Ps.ordL (List.range s.length).reverse) : Ps.pI (upW u s) p ≤ wayN u s s.length := by
  rw [Ps.pI_perm _ ((Ps.ord_perm h).trans (List.reverse_perm _))]
  unfold wayN
  have h1 := fact1 s.length
  have h2 : 1 ≤ Ps.pI (upW u s) (List.range s.length) := Ps.pI_nn fun a => up_pos hu s a
  have := Int.mul_le_mul_of_nonneg_right h1 (show 0 ≤ Ps.pI (upW u s) (List.range s.length) by omega)
  rw [Int.one_mul] at this
  exact this
theorem wts_all {u d : Int} {s : List Nat} {j : Nat} {ws : List Int} (h : Wts u d s (Ps.ordL (List.range s.length).reverse) j ws) (hj : (Ps.ordL (List.range s.length).reverse).length ≤ j) : ws = (List.range s.length).map (Ps.flW u d s) := by
  obtain ⟨h1, h2⟩ := h
  refine List.ext_getElem? fun i => ?_
  by_cases hi : i < s.length
  · have h3 := h2 i hi
    rw [List.take_of_length_le hj] at h3
    have h4 : ws[i]? = some (ws.getD i 0) := by simp [List.getD, List.getElem?_eq_getElem (show i < ws.length by omega)]
    rw [h4, h3]
    simp [hi]
    rfl
  · rw [List.getElem?_eq_none (by omega), List.getElem?_eq_none (by simp; omega)]
theorem pI_take {U : Nat → Int} (h1 : ∀ a, 1 ≤ U a) {q : List Nat} {t b : Nat} (hb : q[t]? = some b) : Ps.pI U (q.take (t + 1)) = Ps.pI U (q.take t) * U b ∧ 1 ≤ Ps.pI U (q.take t) ∧ Ps.pI U (q.take t) * U b ≤ Ps.pI U q ∧ U b ≤ Ps.pI U q := by
  have app : ∀ (x y : List Nat), Ps.pI U (x ++ y) = Ps.pI U x * Ps.pI U y := by
    intro x y
    induction x with
    | nil => show _ = 1 * _; rw [Int.one_mul]; rfl
    | cons a x ih => rw [List.cons_append, Ps.pI_cons, Ps.pI_cons, ih, Int.mul_assoc]
  have h2 : Ps.pI U (q.take (t + 1)) = Ps.pI U (q.take t) * U b := by
    rw [List.take_add_one, hb, app]
    show _ * (U b * 1) = _
    rw [Int.mul_one]
  have h3 := Ps.pI_nn (l := q.take t) h1
  have h4 := Ps.pI_nn (l := q.drop (t + 1)) h1
  have h5 : Ps.pI U q = Ps.pI U (q.take (t + 1)) * Ps.pI U (q.drop (t + 1)) := by rw [← app, List.take_append_drop]
  have h6 := h1 b
  have h7 : 1 ≤ Ps.pI U (q.take t) * U b := mul1 h3 h6
  have h8 := Int.mul_le_mul_of_nonneg_left h4 (show 0 ≤ Ps.pI U (q.take t) * U b by omega)
  have h9 := Int.mul_le_mul_of_nonneg_right h3 (show 0 ≤ U b by omega)
  rw [h2] at h5
  exact ⟨h2, h3, by omega, by omega⟩
end Go.Proofs.Ythmkbkombjhaeaa

namespace Go.Proofs.Ythmkbkombjhaeaa
open Go.RowKit Go.Proofs.Ythmkbkombjhaeaa.Ds

/-- numbers of some weights, as far as one has come -/
def numP (ws : List Int) : List Pt := (List.range ws.length).map fun (i : Nat) => ([(i : Int)], ws.getD i 0)
theorem num_take {ws : List Int} {i : Nat} {x : Int} (h : ws[i]? = some x) : (numP ws)[i]? = some ([(i : Int)], x) := by
  have hi := (List.getElem?_eq_some_iff.1 h).1
  have e : ws[i] = x := (List.getElem?_eq_some_iff.1 h).2
  simp [numP, hi, List.getD, e]
theorem num_plen (ws : List Int) : (numP ws).length = ws.length := by simp [numP]

set_option maxHeartbeats 1000000 in
set_option maxRecDepth 100000 in
theorem numbered_fr (B : Nat) (v : Value) (ws : List Int) (w : World) (h : Num w B v ws) (hB : B ≤ w.heap.size) (hl8 : ws.length ≤ 8) (l : List Pt) (er : Int) (hr : makeT (numP ws) = (l, er)) :
    Calls Try.prog 26 #[v] w fun e w' => ∃ v' us, e = .returned (.tuple #[v', .int .i64 er]) ∧ rd us = l ∧ OwnN w' w.heap.size v' us ∧ Below w.heap.size w w' ∧ Frs w.heap.size us := by
  have HN : Hid (Num w B v ws) := h
  have HR : Hid (makeT (numP ws) = (l, er)) := hr
  obtain ⟨a, c, rfl, hc, hl, _⟩ := h
  obtain ⟨i0, hi, hz0, hz1, hz2⟩ := info_parts info32
  have hmk : ∀ u : World, (Instr.makeSlice 25 (.int .i64 (ws.length : Int)) (.int .i64 (ws.length : Int))).run Try.prog u =
      .ok (.slice (some ⟨u.heap.size, 0, none⟩) ws.length ws.length) (u.alloc (.cells (madeCells #[.slice none 0 0, .int .i64 0] (ws.length * 2)) 55)) := fun u => by
    have h := run_make (P := Try.prog) u 25 55 i0 (.agg #[.slice none 0 0, .int .i64 0]) Try.underlying25 hi hz0 .i64 .i64 (ws.length : Int) (ws.length : Int) (by omega) (Int.le_refl _) (by rw [hz2]; omega) (by omega)
    rw [Int.toNat_natCast] at h
    simpa [hz1, Value.cells] using h
  clear hr
  go_enter Try.func26, Try.ntmps26
  go_wp2
  go_loopw [12] (fun s wr => ∃ (i : Nat) (us : List Tr), s = .int .i64 (i : Int) ∧ i ≤ ws.length ∧ us.length = ws.length ∧ Hid ((rd us).take i = (numP ws).take i) ∧ Hid (Row wr w.heap.size 0 us) ∧ Hid (∀ t ∈ us, Ints wr wr.heap.size w.heap.size t.1 t.2.1) ∧ Below w.heap.size w wr ∧ Hid (Frs w.heap.size us)) (fun s _ => ws.length - (intOf s).toNat)
  case atStart =>
    refine ⟨0, List.replicate ws.length no, rfl, Nat.zero_le _, by simp, (by show _ = _; simp), row_made _ _, fun t ht => ?_, ba _ _, fun t ht hne => ?_⟩
    · rw [List.eq_of_mem_replicate ht]
      exact ints_nil _ _ _
    · rw [List.eq_of_mem_replicate ht] at hne
      exact absurd rfl hne
  case round =>
    obtain ⟨i, us, rfl, hit, hul, HT, HRow, HI, hbl, HFR⟩ := hrel
    have HU : Hid (us.length = ws.length) := hul
    by_cases h1 : i < ws.length
    · obtain ⟨b, o, c', x, he, _, hbB, hx, hcx⟩ := (HN.out.at hB hbl).get h1
      simp only [Value.slice.injEq] at he
      obtain ⟨rfl, -, rfl⟩ := he
      obtain ⟨t0, ht0⟩ := get_lt (l := us) (i := i) (by omega)
      have r1 := HRow.out.cells i t0 ht0
      have r2 := HRow.out.thaw (i * 2) (by omega)
      have r3 := HRow.out.thaw (i * 2 + 1) (by omega)
      have hlt := HRow.out.lt
      obtain ⟨r4, r5⟩ := r1
      simp only [Nat.zero_add] at r2 r3 r4 r5
      obtain ⟨v0, hv0⟩ : ∃ v0, t0.1 = v0 := ⟨_, rfl⟩
      rw [hv0] at r4
      have HX : Hid (ws[i]? = some x) := hx
      have hbB2 : b < wr.heap.size := by have := hbl.size; omega
      clear hul ht0 hv0 hx
      go_wp2
      go_roundw
      case rel =>
        obtain ⟨W, hW⟩ : ∃ W, (wr.setCell ⟨w.heap.size, i * 2, none⟩ (.slice (some ⟨wr.heap.size, 0, none⟩) 1 1)).setCell ⟨w.heap.size, i * 2 + 1, none⟩ (.int .i64 x) = W := ⟨_, rfl⟩
        have hWs : W.heap.size = wr.heap.size := by rw [← hW]; simp
        have hWR : Row W w.heap.size 0 (us.set i (.slice (some ⟨wr.heap.size, 0, none⟩) 1 1, [(i : Int)], x)) := by
          rw [← hW]; exact HRow.out.set0 (by rw [HU.out]; exact h1) (.slice (some ⟨wr.heap.size, 0, none⟩) 1 1) [(i : Int)] x
        have hWI : ∀ t ∈ us, Ints W W.heap.size w.heap.size t.1 t.2.1 := by
          intro t ht
          have := ((HI.out t ht).set (p := ⟨w.heap.size, i * 2, none⟩) rfl (.slice (some ⟨wr.heap.size, 0, none⟩) 1 1)).set (p := ⟨w.heap.size, i * 2 + 1, none⟩) rfl (.int .i64 x)
          rw [hW, ← hWs] at this
          exact this
        have hWB : Below w.heap.size w W := by rw [← hW]; exact bs (bs hbl (Nat.le_refl _) _) (Nat.le_refl _) _
        rw [hW]
        refine ⟨i + 1, us.set i (.slice (some ⟨wr.heap.size, 0, none⟩) 1 1, [(i : Int)], x), by go_num, h1, by simp [HU.out], ?_, hWR.keep (ba _ _), fun t ht => ?_, bal hWB _, fun t ht => ?_⟩
        · show _ = _
          rw [rd_set, take_set_succ _ (by rw [rd_len, HU.out]; exact h1), HT.out, List.take_add_one, num_take HX.out]; rfl
        · rcases List.mem_or_eq_of_mem_set ht with h | rfl
          · exact (hWI t h).at2 (ba _ _)
          · refine ⟨_, 1, rfl, Nat.le_refl _, by simp, fun _ => ⟨wr.heap.size, 0, rfl, by simp; omega, by omega, fun j z hj => ?_⟩⟩
            match j, hj with
            | 0, hj => simp at hj; subst hj; rw [← hWs]; simp [go_sem]
        · rcases List.mem_or_eq_of_mem_set ht with h | rfl
          · exact HFR.out t h
          · intro _ b o sp n c e
            simp only [Value.slice.injEq, Option.some.injEq, Addr.mk.injEq] at e
            have := hbl.size
            omega
      case measure => simp [intOf]; omega
    · have hii : i = ws.length := by omega
      have HD : Hid (rd us = numP ws) := by
        have := HT.out
        rw [List.take_of_length_le (by rw [rd_len]; omega), List.take_of_length_le (by rw [num_plen]; omega)] at this
        exact this
      have hpp : Parts wr wr.heap.size (.slice (some ⟨w.heap.size, 0, none⟩) ws.length ws.length) us := by
        have := Own.parts (w := wr) (lo := w.heap.size) (v := .slice (some ⟨w.heap.size, 0, none⟩) us.length us.length) (ts := us) ⟨w.heap.size, 0, us.length, rfl, Nat.le_refl _, by omega, Nat.le_refl _, HRow.out, HI.out⟩
        rw [hul] at this
        exact this
      have kc := make_fr wr.heap.size _ us wr (Nat.le_refl _) hpp l er (by rw [HD.out]; exact HR.out)
      clear hul hpp HD
      go_wp2_with fail
      refine kc.mono ?_
      rintro e w5 ⟨v5, xs, rfl, k1, k2, k3, k4⟩
      obtain ⟨b5, d5, rfl⟩ := k2.slice
      clear kc
      have hsz := hbl.size
      go_wp2
      exact bodyPost_ret (v := .tuple #[.slice b5 xs.length d5, .int .i64 er]) (by simp [results, Try.results26, go_sem]) rfl ⟨_, xs, rfl, k1, k2.mono hsz, bt hbl k3, k4.mono hsz⟩
end Go.Proofs.Ythmkbkombjhaeaa
