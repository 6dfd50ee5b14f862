import Derived.Test.YtkpjjiomfgkobaaNem
namespace Go.Proofs.Ytkpjjiomfgkobaa
open Go.RowKit Go.Proofs.Ytkpjjiomfgkobaa.Ds

theorem apaS_swap (x y : List Int) : apaS x y = apaS y x := by
  induction x generalizing y with
  | nil => cases y <;> rfl
  | cons a x ih => cases y with
    | nil => rfl
    | cons b y => simp only [apaS]; rw [ih y, Int.max_comm]
theorem apaS_nn (x y : List Int) : 0 ≤ apaS x y := by
  induction x generalizing y with
  | nil => cases y <;> simp [apaS]
  | cons a x ih => cases y with
    | nil => simp [apaS]
    | cons b y => simp only [apaS]; have := ih y; omega
theorem apaS_zero {x y : List Int} (h : x.length = y.length) : apaS x y = 0 ↔ x = y := by
  induction x generalizing y with
  | nil => cases y with
    | nil => simp [apaS]
    | cons b y => simp at h
  | cons a x ih => cases y with
    | nil => simp at h
    | cons b y =>
      simp only [apaS]
      have h1 := apaS_nn x y
      simp at h
      constructor
      · intro h2
        have h3 : apaS x y = 0 := by omega
        rw [(ih h).1 h3, show a = b by omega]
      · intro h2
        injection h2 with h3 h4
        rw [(ih h).2 h4, h3]; omega
theorem apaS_tri {x y z : List Int} (h1 : x.length = y.length) (h2 : y.length = z.length) : apaS x z ≤ apaS x y + apaS y z := by
  induction x generalizing y z with
  | nil =>
    have := apaS_nn y z
    cases z <;> cases y <;> simp [apaS] at * <;> omega
  | cons a x ih => cases y with
    | nil => simp at h1
    | cons b y => cases z with
      | nil => simp at h2
      | cons c z =>
        simp at h1 h2
        simp only [apaS]
        have := ih h1 h2
        omega
theorem apaS_sum {x y : List Int} (hx : ∀ a ∈ x, 0 ≤ a) (hy : ∀ a ∈ y, 0 ≤ a) : apaS x y ≤ togS x + togS y := by
  induction x generalizing y with
  | nil => have := togS_nn hy; cases y <;> simp [apaS, togS] at * ; omega
  | cons a x ih => cases y with
    | nil => have := togS_nn hx; simp [apaS, togS] at *; omega
    | cons b y =>
      simp only [apaS, togS]
      have := ih (fun a h => hx a (by simp [h])) (fun a h => hy a (by simp [h])) (y := y)
      have := hx a (by simp)
      have := hy b (by simp)
      omega
theorem apaS_set {x : List Int} {i : Nat} {a : Int} (h : x[i]? = some a) (b : Int) : apaS x (x.set i b) = max (a - b) (b - a) := by
  induction x generalizing i with
  | nil => simp at h
  | cons n r ih =>
    cases i with
    | zero =>
      simp at h; subst h
      simp only [List.set_cons_zero, apaS]
      rw [(apaS_zero rfl).2 rfl]; omega
    | succ i =>
      simp at h
      simp only [List.set_cons_succ, apaS, ih h]; omega
theorem apaS_one {x y : List Int} (hl : x.length = y.length) (h : apaS x y = 1) : ∃ i a b, x[i]? = some a ∧ y[i]? = some b ∧ (b = a - 1 ∨ b = a + 1) ∧ y = x.set i b := by
  induction x generalizing y with
  | nil => cases y <;> simp [apaS] at h
  | cons a x ih => cases y with
    | nil => simp at hl
    | cons b y =>
      simp only [apaS] at h
      simp at hl
      have hn := apaS_nn x y
      by_cases e : a = b
      · subst e
        obtain ⟨i, c, d, h1, h2, h3, h4⟩ := ih hl (by omega)
        exact ⟨i + 1, c, d, by simpa using h1, by simpa using h2, h3, by simp [← h4]⟩
      · have h0 : apaS x y = 0 := by omega
        have := (apaS_zero hl).1 h0
        subst this
        exact ⟨0, a, b, rfl, rfl, by omega, rfl⟩

/-- what is near is one apart -/
theorem nb1_one {cs : List Int} {room : Bool} {k : Nat} (hk : k < cs.length) {xs : List Int} (h : xs ∈ nb1 cs room k) : apaS cs xs = 1 ∧ ∃ y, xs = cs.set k y := by
  obtain ⟨x, hx⟩ := get_lt hk
  have hxD : cs.getD k 0 = x := by rw [List.getD, hx]; rfl
  rw [nb1, hxD] at h
  rcases List.mem_append.1 h with h | h
  · split at h
    · obtain rfl := List.mem_singleton.1 h
      exact ⟨by rw [apaS_set hx]; omega, _, rfl⟩
    · cases h
  · split at h
    · obtain rfl := List.mem_singleton.1 h
      exact ⟨by rw [apaS_set hx]; omega, _, rfl⟩
    · cases h
theorem nbL_one {cs : List Int} {room : Bool} {k : Nat} (hk : k ≤ cs.length) {xs : List Int} (h : xs ∈ nbL cs room k) : apaS cs xs = 1 := by
  induction k with
  | zero => cases h
  | succ k ih =>
    rcases List.mem_append.1 h with h | h
    · exact ih (by omega) h
    · exact (nb1_one (by omega) h).1
theorem nb1_count {cs : List Int} {room : Bool} {k i : Nat} {a b : Int} (hk : k < cs.length) (hi : cs[i]? = some a) (hb : b = a - 1 ∨ b = a + 1) (h0 : 0 ≤ b) (hr : b = a + 1 → room = true) : (nb1 cs room k).count (cs.set i b) = if k = i then 1 else 0 := by
  have hil := (List.getElem?_eq_some_iff.1 hi).1
  by_cases e : k = i
  · subst e
    have hxD : cs.getD k 0 = a := by rw [List.getD, hi]; rfl
    have hne : ∀ p q : Int, p ≠ q → cs.set k p ≠ cs.set k q := by
      intro p q hpq h
      have h2 : (cs.set k p)[k]? = (cs.set k q)[k]? := by rw [h]
      rw [List.getElem?_set_self hil, List.getElem?_set_self hil] at h2
      exact hpq (Option.some.inj h2)
    rw [nb1, hxD, if_pos rfl, List.count_append]
    rcases hb with rfl | rfl
    · rw [if_pos (by omega)]
      have h1 : ([cs.set k (a - 1)] : List (List Int)).count (cs.set k (a - 1)) = 1 := by simp
      have h2 : (if room = true then [cs.set k (a + 1)] else []).count (cs.set k (a - 1)) = 0 := by
        split
        · exact List.count_eq_zero.2 (by simp; exact hne _ _ (by omega))
        · rfl
      omega
    · rw [if_pos (hr rfl)]
      have h1 : ([cs.set k (a + 1)] : List (List Int)).count (cs.set k (a + 1)) = 1 := by simp
      have h2 : (if 0 < a then [cs.set k (a - 1)] else []).count (cs.set k (a + 1)) = 0 := by
        split
        · exact List.count_eq_zero.2 (by simp; exact hne _ _ (by omega))
        · rfl
      omega
  · rw [if_neg e]
    refine List.count_eq_zero.2 fun h => ?_
    obtain ⟨_, y, hy⟩ := nb1_one hk h
    have h2 : (cs.set i b)[i]? = (cs.set k y)[i]? := by rw [hy]
    rw [List.getElem?_set_self hil, List.getElem?_set_ne e, hi] at h2
    have := Option.some.inj h2
    omega
theorem nbL_count1 {cs : List Int} {room : Bool} {k i : Nat} {a b : Int} (hk : k ≤ cs.length) (hi : cs[i]? = some a) (hb : b = a - 1 ∨ b = a + 1) (h0 : 0 ≤ b) (hr : b = a + 1 → room = true) : (nbL cs room k).count (cs.set i b) = if i < k then 1 else 0 := by
  induction k with
  | zero => simp [nbL]
  | succ k ih =>
    rw [nbL, List.count_append, ih (by omega), nb1_count (by omega) hi hb h0 hr]
    by_cases h1 : i < k
    · rw [if_pos h1, if_neg (by omega), if_pos (by omega)]
    · rw [if_neg h1]
      by_cases h2 : k = i
      · rw [if_pos h2, if_pos (by omega)]
      · rw [if_neg h2, if_neg (by omega)]

/-- what is made of numbers has these numbers -/
theorem froR_count {rows : List (List Int)} {cells : List Int} (hinj : ∀ (i j : Nat) (x : List Int), rows[i]? = some x → rows[j]? = some x → i = j) (hl : rows.length = cells.length) {i : Nat} {r : List Int} {n : Int} (hr : rows[i]? = some r) (hn : cells[i]? = some n) : (froR rows cells).count r = n.toNat := by
  induction rows generalizing cells i with
  | nil => simp at hr
  | cons p rows ih =>
    cases cells with
    | nil => simp at hn
    | cons c cells =>
      have e : froR (p :: rows) (c :: cells) = List.replicate c.toNat p ++ froR rows cells := rfl
      have hinj2 : ∀ (i j : Nat) (x : List Int), rows[i]? = some x → rows[j]? = some x → i = j := fun i j x h1 h2 => by
        have := hinj (i + 1) (j + 1) x (by simpa using h1) (by simpa using h2); omega
      have hp : p ∉ rows := fun hm => by
        obtain ⟨j, hj⟩ := List.mem_iff_getElem?.1 hm
        have := hinj 0 (j + 1) p rfl (by simpa using hj)
        omega
      rw [e, List.count_append]
      cases i with
      | zero =>
        simp at hr hn; subst hr; subst hn
        rw [List.count_replicate_self, List.count_eq_zero.2 (fun h => hp (froR_mem h))]; omega
      | succ i =>
        simp at hr hn
        have hne : p ≠ r := by rintro rfl; exact hp (List.mem_of_getElem? hr)
        rw [ih hinj2 (by simpa using hl) hr hn, List.count_eq_zero.2 (fun h => hne (List.mem_replicate.1 h).2.symm)]; omega
theorem allT_inj {l : List Col} (hs : Szs l) (i j : Nat) (x : List Int) (h1 : (allT l)[i]? = some x) (h2 : (allT l)[j]? = some x) : i = j := by
  have hi : i < prd l := by have := (List.getElem?_eq_some_iff.1 h1).1; rwa [allT_len] at this
  have hj : j < prd l := by have := (List.getElem?_eq_some_iff.1 h2).1; rwa [allT_len] at this
  rw [allT_get hi] at h1
  rw [allT_get hj] at h2
  have e := congrArg (plc l) ((Option.some.inj h1).trans (Option.some.inj h2).symm)
  rw [plc_cel hs, plc_cel hs, Nat.mod_eq_of_lt hi, Nat.mod_eq_of_lt hj] at e
  exact e
theorem celT_fro {l : List Col} (hs : Szs l) {xs : List Int} (hl : xs.length = prd l) (hnn : ∀ x ∈ xs, 0 ≤ x) : celT l (froR (allT l) xs) = xs := by
  refine List.ext_getElem? fun i => ?_
  by_cases hi : i < prd l
  · obtain ⟨n, hn⟩ := get_lt (l := xs) (i := i) (by omega)
    rw [celT_get hi, hn, cntT, froR_count (allT_inj hs) (by rw [allT_len, hl]) (allT_get hi) hn]
    have := hnn n (List.mem_of_getElem? hn)
    congr 1; omega
  · rw [List.getElem?_eq_none (by rw [celT_len]; omega), List.getElem?_eq_none (by omega)]
theorem froR_len {rows : List (List Int)} {cells : List Int} (hl : rows.length = cells.length) (hnn : ∀ x ∈ cells, 0 ≤ x) : ((froR rows cells).length : Int) = togS cells := by
  induction rows generalizing cells with
  | nil => cases cells with
    | nil => rfl
    | cons c cells => simp at hl
  | cons p rows ih =>
    cases cells with
    | nil => simp at hl
    | cons c cells =>
      have e : froR (p :: rows) (c :: cells) = List.replicate c.toNat p ++ froR rows cells := rfl
      rw [e, List.length_append, List.length_replicate, togS]
      have := ih (by simpa using hl) (fun x h => hnn x (by simp [h]))
      have := hnn c (by simp)
      omega

/-- a near table: right, and one apart -/
theorem near_ok {l : List Col} {rs : List (List Int)} (h : wroE l rs = 0) {xs : List Int} (hx : xs ∈ nbL (celT l rs) (decide (rs.length < 4096)) (prd l)) :
    tabOf l xs = (l, froR (allT l) xs) ∧ wroE l (froR (allT l) xs) = 0 ∧ celT l (froR (allT l) xs) = xs ∧ apaS (celT l rs) xs = 1 ∧ xs.length = prd l := by
  obtain ⟨h1, h2, h3⟩ := wroE_ok h
  obtain ⟨_, _, hs, _, _⟩ := colE_ok h1
  have hlen : xs.length = prd l := by rw [nbL_len hx, celT_len]
  have hone := nbL_one (by rw [celT_len]; exact Nat.le_refl _) hx
  have hfe : froE l xs = 0 := by
    have hm : tabOf l xs ∈ neaRL l (celT l rs) (prd l) := by rw [neaRL_eq h (Nat.le_refl _)]; exact List.mem_map_of_mem hx
    have key : ∀ k, k ≤ prd l → ∀ ys ∈ nbL (celT l rs) (decide (rs.length < 4096)) k, froE l ys = 0 := by
      intro k hk
      induction k with
      | zero => intro ys hy; cases hy
      | succ k ih =>
        intro ys hy
        rcases List.mem_append.1 hy with hy | hy
        · exact ih (by omega) ys hy
        · obtain ⟨x, hx'⟩ := get_lt (l := celT l rs) (i := k) (by rw [celT_len]; omega)
          have hxD : (celT l rs).getD k 0 = x := by rw [List.getD, hx']; rfl
          have hnn : ∀ x ∈ celT l rs, 0 ≤ x := fun x hx => (celT_bd hx).1
          have hsum := celT_sum hs rs.length rs rfl h3
          have hx0 := hnn x (List.mem_of_getElem? hx')
          have hfy : ∀ y, froE l ((celT l rs).set k y) = togE 0 ((celT l rs).set k y) := fun y => by rw [froE, if_pos h1, if_pos (by simp [celT_len])]
          have hset : ∀ y, 0 ≤ y → ∀ z ∈ (celT l rs).set k y, 0 ≤ z := fun y h0 z hz => by
            rcases mem_set_cases hz with h | h
            · exact hnn z h
            · omega
          rw [nb1, hxD] at hy
          rcases List.mem_append.1 hy with hy | hy
          · split at hy
            · obtain rfl := List.mem_singleton.1 hy
              rw [hfy, togE_iff (hset _ (by omega)) (by omega), togS_set hx', hsum]; omega
            · cases hy
          · split at hy
            · rename_i hroom
              have hroom : rs.length < 4096 := of_decide_eq_true hroom
              obtain rfl := List.mem_singleton.1 hy
              rw [hfy, togE_iff (hset _ (by omega)) (by omega), togS_set hx', hsum]; omega
            · cases hy
    exact key (prd l) (Nat.le_refl _) xs hx
  have htog : togE 0 xs = 0 := by rw [froE, if_pos h1, if_pos hlen] at hfe; exact hfe
  have hnn : ∀ x ∈ xs, 0 ≤ x := by
    intro x hx
    rcases Int.lt_or_le x 0 with h | h
    · exact absurd htog (togE_neg hx h 0)
    · exact h
  have hle : togS xs ≤ 4096 := by have := (togE_iff hnn (a := 0) (by omega)).1 htog; omega
  refine ⟨by rw [tabOf, froC, froT, if_pos hfe, if_pos hfe], ?_, celT_fro hs hlen hnn, hone, hlen⟩
  refine wroE_of h1 ?_ (fun r hr => allT_mem hs (froR_mem hr))
  have := froR_len (rows := allT l) (cells := xs) (by rw [allT_len, hlen]) hnn
  omega

theorem apaE_is {a b : List Col} {ra rb : List (List Int)} (h : apaE a b ra rb = 0) : wroE a ra = 0 ∧ wroE b rb = 0 ∧ a = b := by
  unfold apaE at h
  split at h
  · split at h
    · split at h
      · exact ⟨by assumption, by assumption, by assumption⟩
      · cases h
    · rename_i h1 h2; exact absurd h h2
  · rename_i h1; exact absurd h h1
theorem apaE_of {a : List Col} {ra rb : List (List Int)} (h1 : wroE a ra = 0) (h2 : wroE a rb = 0) : apaE a a ra rb = 0 := by
  rw [apaE, if_pos h1, if_pos h2, if_pos rfl]
theorem apaE_swap {a b : List Col} {ra rb : List (List Int)} : apaE a b ra rb = 0 ↔ apaE b a rb ra = 0 := by
  constructor
  · intro h; obtain ⟨h1, h2, rfl⟩ := apaE_is h; exact apaE_of h2 h1
  · intro h; obtain ⟨h1, h2, rfl⟩ := apaE_is h; exact apaE_of h2 h1
theorem apaT_swap {a b : List Col} {ra rb : List (List Int)} : apaT a b ra rb = apaT b a rb ra := by
  unfold apaT
  by_cases h : apaE a b ra rb = 0
  · rw [if_pos h, if_pos (apaE_swap.1 h), apaS_swap]
  · rw [if_neg h, if_neg (fun h2 => h (apaE_swap.1 h2))]
theorem apaT_bd (a b : List Col) (ra rb : List (List Int)) : 0 ≤ apaT a b ra rb ∧ apaT a b ra rb ≤ 8192 := by
  unfold apaT
  split
  · rename_i h
    obtain ⟨h1, h2, rfl⟩ := apaE_is h
    obtain ⟨c1, n1, r1⟩ := wroE_ok h1
    obtain ⟨_, n2, r2⟩ := wroE_ok h2
    obtain ⟨_, _, hs, _, _⟩ := colE_ok c1
    have := apaS_sum (x := celT a ra) (y := celT a rb) (fun x hx => (celT_bd hx).1) (fun x hx => (celT_bd hx).1)
    rw [celT_sum hs ra.length ra rfl r1, celT_sum hs rb.length rb rfl r2] at this
    exact ⟨apaS_nn _ _, by omega⟩
  · omega
/-- how often b's cells are among those near a -/
theorem near_count {l : List Col} {ra rb : List (List Int)} (h1 : wroE l ra = 0) (h2 : wroE l rb = 0) :
    (nbL (celT l ra) (decide (ra.length < 4096)) (prd l)).count (celT l rb) = if apaS (celT l ra) (celT l rb) = 1 then 1 else 0 := by
  obtain ⟨c1, n1, r1⟩ := wroE_ok h1
  obtain ⟨_, n2, r2⟩ := wroE_ok h2
  obtain ⟨_, _, hs, _, _⟩ := colE_ok c1
  by_cases h : apaS (celT l ra) (celT l rb) = 1
  · rw [if_pos h]
    obtain ⟨i, a, b, ha, hb, hab, he⟩ := apaS_one (by rw [celT_len, celT_len]) h
    have hil : i < prd l := by have := (List.getElem?_eq_some_iff.1 ha).1; rwa [celT_len] at this
    have hb0 := (celT_bd (List.mem_of_getElem? hb)).1
    have hs1 := celT_sum hs ra.length ra rfl r1
    have hs2 := celT_sum hs rb.length rb rfl r2
    rw [he]
    rw [he, togS_set ha, hs1] at hs2
    rw [nbL_count1 (by rw [celT_len]; exact Nat.le_refl _) ha hab hb0 (fun e => decide_eq_true (by omega)), if_pos hil]
  · rw [if_neg h]
    exact List.count_eq_zero.2 fun hm => h (nbL_one (by rw [celT_len]; exact Nat.le_refl _) hm)
end Go.Proofs.Ytkpjjiomfgkobaa
