import Derived.Test.YtkpjjiomfgkobaaDoorApa
namespace Go.Proofs.YtkpjjiomfgkobaaDoor
open Go.RowKit Go.Proofs.YtkpjjiomfgkobaaDoor.Ds

theorem togS_nn {xs : List Int} (h : ∀ x ∈ xs, 0 ≤ x) : 0 ≤ togS xs := by
  induction xs with
  | nil => simp [togS]
  | cons a r ih => simp only [togS]; have := h a (by simp); have := ih fun x hx => h x (by simp [hx]); omega
theorem togS_set {xs : List Int} {i : Nat} {x : Int} (h : xs[i]? = some x) (y : Int) : togS (xs.set i y) = togS xs - x + y := by
  induction xs generalizing i with
  | nil => simp at h
  | cons n r ih =>
    cases i with
    | zero => simp at h; subst h; simp only [List.set_cons_zero, togS]; omega
    | succ i => simp at h; simp only [List.set_cons_succ, togS, ih h]; omega
theorem togS_rep (n : Nat) : togS (List.replicate n 0) = 0 := by
  induction n with
  | zero => rfl
  | succ n ih => simp [List.replicate_succ, togS, ih]
theorem celT_sum {l : List Col} (hs : Szs l) : ∀ (n : Nat) (rs : List (List Int)), rs.length = n → (∀ r ∈ rs, RowOk l r) → togS (celT l rs) = rs.length := by
  intro n
  induction n with
  | zero =>
    intro rs h _
    obtain rfl : rs = [] := List.length_eq_zero_iff.1 h
    rw [celT_nil, togS_rep]; rfl
  | succ n ih =>
    intro rs h hr
    obtain ⟨pre, x, rfl⟩ : ∃ pre x, rs = pre ++ [x] := ⟨rs.dropLast, rs.getLast (by rintro rfl; simp at h), (List.dropLast_concat_getLast _).symm⟩
    have hx := hr x (by simp)
    have hp := ih pre (by simp at h; exact h) (fun r hr' => hr r (by simp [hr']))
    rw [celT_snoc hs hx]
    obtain ⟨y, hy⟩ := get_lt (l := celT l pre) (i := plc l x) (by rw [celT_len]; exact plc_lt hx)
    rw [cadd_get hy, togS_set hy, hp]
    simp
    omega

theorem apaS_nn (x y : List Int) : 0 ≤ apaS x y := by
  induction x generalizing y with
  | nil => cases y <;> simp [apaS]
  | cons a x ih => cases y with
    | nil => simp [apaS]
    | cons b y => simp only [apaS]; have := ih y; omega
theorem apaS_zero {x y : List Int} (h : x.length = y.length) : apaS x y = 0 ↔ x = y := by
  induction x generalizing y with
  | nil => cases y with
    | nil => simp [apaS]
    | cons b y => simp at h
  | cons a x ih => cases y with
    | nil => simp at h
    | cons b y =>
      simp only [apaS]
      have h1 := apaS_nn x y
      simp at h
      constructor
      · intro h2
        have h3 : apaS x y = 0 := by omega
        rw [(ih h).1 h3, show a = b by omega]
      · intro h2
        injection h2 with h3 h4
        rw [(ih h).2 h4, h3]; omega
/-- what is made of numbers has these numbers -/
theorem froR_mem {rows : List (List Int)} {cells r : List Int} (h : r ∈ froR rows cells) : r ∈ rows := by
  obtain ⟨p, hp, h2⟩ := List.mem_flatMap.1 h
  rw [(List.mem_replicate.1 h2).2]
  exact (List.of_mem_zip hp).1
theorem froR_count {rows : List (List Int)} {cells : List Int} (hinj : ∀ (i j : Nat) (x : List Int), rows[i]? = some x → rows[j]? = some x → i = j) (hl : rows.length = cells.length) {i : Nat} {r : List Int} {n : Int} (hr : rows[i]? = some r) (hn : cells[i]? = some n) : (froR rows cells).count r = n.toNat := by
  induction rows generalizing cells i with
  | nil => simp at hr
  | cons p rows ih =>
    cases cells with
    | nil => simp at hn
    | cons c cells =>
      have e : froR (p :: rows) (c :: cells) = List.replicate c.toNat p ++ froR rows cells := rfl
      have hinj2 : ∀ (i j : Nat) (x : List Int), rows[i]? = some x → rows[j]? = some x → i = j := fun i j x h1 h2 => by
        have := hinj (i + 1) (j + 1) x (by simpa using h1) (by simpa using h2); omega
      have hp : p ∉ rows := fun hm => by
        obtain ⟨j, hj⟩ := List.mem_iff_getElem?.1 hm
        have := hinj 0 (j + 1) p rfl (by simpa using hj)
        omega
      rw [e, List.count_append]
      cases i with
      | zero =>
        simp at hr hn; subst hr; subst hn
        rw [List.count_replicate_self, List.count_eq_zero.2 (fun h => hp (froR_mem h))]; omega
      | succ i =>
        simp at hr hn
        have hne : p ≠ r := by rintro rfl; exact hp (List.mem_of_getElem? hr)
        rw [ih hinj2 (by simpa using hl) hr hn, List.count_eq_zero.2 (fun h => hne (List.mem_replicate.1 h).2.symm)]; omega
theorem allT_inj {l : List Col} (hs : Szs l) (i j : Nat) (x : List Int) (h1 : (allT l)[i]? = some x) (h2 : (allT l)[j]? = some x) : i = j := by
  have hi : i < prd l := by have := (List.getElem?_eq_some_iff.1 h1).1; rwa [allT_len] at this
  have hj : j < prd l := by have := (List.getElem?_eq_some_iff.1 h2).1; rwa [allT_len] at this
  rw [allT_get hi] at h1
  rw [allT_get hj] at h2
  have e := congrArg (plc l) ((Option.some.inj h1).trans (Option.some.inj h2).symm)
  rw [plc_cel hs, plc_cel hs, Nat.mod_eq_of_lt hi, Nat.mod_eq_of_lt hj] at e
  exact e
theorem celT_fro {l : List Col} (hs : Szs l) {xs : List Int} (hl : xs.length = prd l) (hnn : ∀ x ∈ xs, 0 ≤ x) : celT l (froR (allT l) xs) = xs := by
  refine List.ext_getElem? fun i => ?_
  by_cases hi : i < prd l
  · obtain ⟨n, hn⟩ := get_lt (l := xs) (i := i) (by omega)
    rw [celT_get hi, hn, cntT, froR_count (allT_inj hs) (by rw [allT_len, hl]) (allT_get hi) hn]
    have := hnn n (List.mem_of_getElem? hn)
    congr 1; omega
  · rw [List.getElem?_eq_none (by rw [celT_len]; omega), List.getElem?_eq_none (by omega)]
theorem froR_len {rows : List (List Int)} {cells : List Int} (hl : rows.length = cells.length) (hnn : ∀ x ∈ cells, 0 ≤ x) : ((froR rows cells).length : Int) = togS cells := by
  induction rows generalizing cells with
  | nil => cases cells with
    | nil => rfl
    | cons c cells => simp at hl
  | cons p rows ih =>
    cases cells with
    | nil => simp at hl
    | cons c cells =>
      have e : froR (p :: rows) (c :: cells) = List.replicate c.toNat p ++ froR rows cells := rfl
      rw [e, List.length_append, List.length_replicate, togS]
      have := ih (by simpa using hl) (fun x h => hnn x (by simp [h]))
      have := hnn c (by simp)
      omega

theorem apaE_of {a : List Col} {ra rb : List (List Int)} (h1 : wroE a ra = 0) (h2 : wroE a rb = 0) : apaE a a ra rb = 0 := by
  rw [apaE, if_pos h1, if_pos h2, if_pos rfl]
end Go.Proofs.YtkpjjiomfgkobaaDoor
