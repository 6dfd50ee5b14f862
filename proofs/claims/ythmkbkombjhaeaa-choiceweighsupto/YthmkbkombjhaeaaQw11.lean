import Derived.Test.YthmkbkombjhaeaaQw10
namespace Go.Proofs.Ythmkbkombjhaeaa
open Go.RowKit Go.Proofs.Ythmkbkombjhaeaa.Ds

def okC (n : Int) : Bool := decide (0 ≤ n ∧ n ≤ 4096)
/-- those ahead of k are right -/
def Rgt (xs : List Int) (k : Nat) : Prop := (xs.take k).all okC = true
theorem Rgt.step {xs : List Int} {k : Nat} {x : Int} (h : Rgt xs k) (hx : xs[k]? = some x) (hb : 0 ≤ x ∧ x ≤ 4096) : Rgt xs (k + 1) := by
  unfold Rgt at *
  rw [List.take_add_one, hx, List.all_append, h]
  simp [okC, hb]
theorem Rgt.hit {xs : List Int} {k : Nat} {x : Int} (hx : xs[k]? = some x) (hb : ¬ (0 ≤ x ∧ x ≤ 4096)) : midE xs = 3 := by
  unfold midE
  rw [if_neg]
  rw [List.all_eq_true]
  intro h
  exact hb (of_decide_eq_true (h x (List.mem_of_getElem? hx)))
theorem Rgt.all {xs : List Int} {k : Nat} (h : Rgt xs k) (hk : xs.length ≤ k) : ∀ x ∈ xs, 0 ≤ x ∧ x ≤ 4096 := by
  unfold Rgt at h
  rw [List.take_of_length_le hk, List.all_eq_true] at h
  exact fun x hx => of_decide_eq_true (h x hx)
theorem sum_bd {xs : List Int} (h : ∀ x ∈ xs, 0 ≤ x ∧ x ≤ 4096) : 0 ≤ xs.sum ∧ xs.sum ≤ 4096 * xs.length := by
  induction xs with
  | nil => simp
  | cons a xs ih =>
    have h1 := h a (List.mem_cons_self ..)
    have h2 := ih fun x hx => h x (List.mem_cons_of_mem _ hx)
    simp only [List.sum_cons, List.length_cons]
    omega
theorem take_sum {xs : List Int} {k : Nat} {x : Int} (hx : xs[k]? = some x) : (xs.take (k + 1)).sum = (xs.take k).sum + x := by
  rw [List.take_add_one, hx, List.sum_append_int]
  simp
theorem drop_sum {xs : List Int} {k : Nat} {x : Int} (hx : xs[k]? = some x) : (xs.drop k).sum = x + (xs.drop (k + 1)).sum := by
  obtain ⟨h1, h2⟩ := List.getElem?_eq_some_iff.1 hx
  rw [List.drop_eq_getElem_cons h1, h2, List.sum_cons]
/-- what is behind, as far as it is told -/
def Sm (xs : List Int) (k : Nat) (z : Int) : Prop := k ≤ 4096 → z = (xs.take k).sum
/-- what is ahead and what is behind -/
def Ab (xs : List Int) (k : Nat) (a b : Int) : Prop := a = (xs.take k).sum ∧ b = (xs.drop k).sum
theorem Ab.step {xs : List Int} {k : Nat} {x a b : Int} (h : Ab xs k a b) (hx : xs[k]? = some x) : Ab xs (k + 1) (a + x) (b - x) := by
  obtain ⟨rfl, rfl⟩ := h
  exact ⟨(take_sum hx).symm, by rw [drop_sum hx]; omega⟩
theorem Ab.mid {xs : List Int} {k : Nat} {x a b : Int} (h : Ab xs k a b) (hx : xs[k]? = some x) : midS xs k = if (x - if a - (b - x) < b - x - a then b - x - a else a - (b - x)) < 0 then x - if a - (b - x) < b - x - a then b - x - a else a - (b - x) else 0 := by
  obtain ⟨rfl, rfl⟩ := h
  unfold midS midF
  have e : xs.getD k 0 = x := by simp [List.getD, hx]
  rw [e, drop_sum hx]
  generalize (xs.take k).sum = a
  generalize (xs.drop (k + 1)).sum = b
  have e1 : x + b - x = b := by omega
  rw [e1]
  by_cases c : a - b < b - a
  · rw [if_pos c]
    split <;> omega
  · rw [if_neg c]
    split <;> omega

set_option maxHeartbeats 1000000 in
set_option maxRecDepth 100000 in
theorem middle_any (B : Nat) (v : Value) (xs : List Int) (w : World) (h : Num w B v xs) (hB : B ≤ w.heap.size) (ys : List Int) (er : Int) (hr : midT xs = (ys, er)) :
    Calls Try.prog 14 #[v] w fun e w' => ∃ v', e = .returned (.tuple #[v', .int .i64 er]) ∧ Num w' w'.heap.size v' ys ∧ Below w.heap.size w w' := by
  have HN : Hid (Num w B v xs) := h
  have HR : Hid (midT xs = (ys, er)) := hr
  obtain ⟨a, c, rfl, hc, hl, _⟩ := h
  have nnil : ∀ u : World, Num u u.heap.size (.slice none 0 0) [] := fun u => ⟨none, 0, rfl, Nat.le_refl _, by simp, fun h => absurd rfl h⟩
  clear hr
  go_enter Try.func14, Try.ntmps14
  go_wp2
  go_loop [4, 14] (fun m i => ∃ (k : Nat) (z : Int), k ≤ xs.length ∧ Hid (Rgt xs k) ∧ Hid (Sm xs k z) ∧ m = .int .i64 z ∧ i = .int .i64 (k : Int)) (fun _ i => xs.length - (intOf i).toNat)
  case atStart => exact ⟨0, 0, Nat.zero_le _, rfl, fun _ => rfl, rfl, rfl⟩
  case round =>
    obtain ⟨k, z, hk, HK, HS, rfl, rfl⟩ := hrel
    by_cases h1 : k < xs.length
    · obtain ⟨b, o, c', x, he, _, _, hx, hcx⟩ := HN.out.get h1
      simp only [Value.slice.injEq] at he
      obtain ⟨rfl, _, rfl⟩ := he
      by_cases c1 : x < 0
      · have h3 := Rgt.hit hx (by omega)
        have hm := HR.out
        unfold midT at hm
        rw [h3] at hm
        simp at hm
        obtain ⟨rfl, rfl⟩ := hm
        clear hx h3
        go_wp2
        exact bodyPost_ret (v := .tuple #[.slice none 0 0, .int .i64 3]) (by simp [results, Try.results14, go_sem]) rfl ⟨_, rfl, nnil _, Below.refl _ _⟩
      · by_cases c2 : 4096 < x
        · have h3 := Rgt.hit hx (by omega)
          have hm := HR.out
          unfold midT at hm
          rw [h3] at hm
          simp at hm
          obtain ⟨rfl, rfl⟩ := hm
          clear hx h3
          go_wp2
          exact bodyPost_ret (v := .tuple #[.slice none 0 0, .int .i64 3]) (by simp [results, Try.results14, go_sem]) rfl ⟨_, rfl, nnil _, Below.refl _ _⟩
        · have HK2 : Hid (Rgt xs (k + 1)) := HK.out.step hx ⟨by omega, by omega⟩
          by_cases c3 : k < 4096
          · have hz := HS.out (by omega)
            have hb := sum_bd (xs := xs.take k) (fun x hx => Rgt.all (k := (xs.take k).length) (by unfold Rgt; rw [List.take_length]; exact HK.out) (Nat.le_refl _) x hx)
            rw [← hz, List.length_take] at hb
            have b0 : 0 ≤ z := hb.1
            have b1 : z ≤ 16777216 := by omega
            have HS2 : Hid (Sm xs (k + 1) (z + x)) := fun _ => by rw [take_sum hx, hz]
            clear hz hb hx
            go_wp2
            go_round
            case rel => exact ⟨k + 1, z + x, h1, HK2, HS2, by first | rfl | go_num, by go_num⟩
            case measure => simp [intOf]; omega
          · clear hx
            go_wp2
            go_round
            case rel => exact ⟨k + 1, _, h1, HK2, fun h => absurd h (by omega), rfl, by go_num⟩
            case measure => simp [intOf]; omega
    · have hkl : k = xs.length := by omega
      have hall := HK.out.all (by omega)
      have hma : xs.all (fun n => decide (0 ≤ n ∧ n ≤ 4096)) = true := by
        rw [List.all_eq_true]; exact fun x hx => decide_eq_true (hall x hx)
      by_cases c1 : 4096 < xs.length
      · have hm := HR.out
        unfold midT midE at hm
        rw [if_pos hma, if_pos c1] at hm
        simp at hm
        obtain ⟨rfl, rfl⟩ := hm
        clear HS hma hall
        go_wp2
        exact bodyPost_ret (v := .tuple #[.slice none 0 0, .int .i64 5]) (by simp [results, Try.results14, go_sem]) rfl ⟨_, rfl, nnil _, Below.refl _ _⟩
      · have hm := HR.out
        unfold midT midE at hm
        rw [if_pos hma, if_neg c1] at hm
        simp only [ne_eq, not_true_eq_false, if_false, Prod.mk.injEq] at hm
        obtain ⟨hys, rfl⟩ := hm
        have HY : Hid (mkd (midS xs) xs.length xs.length = ys) := by show _ = _; rw [mkd_all _ (Nat.le_refl _)]; exact hys
        have hz := HS.out (by omega)
        have HA : Hid (Ab xs 0 0 z) := ⟨by simp, by rw [hz, hkl, List.take_length, List.drop_zero]⟩
        have HB2 : Hid (∀ k, 0 ≤ (xs.take k).sum ∧ (xs.take k).sum ≤ 16777216 ∧ 0 ≤ (xs.drop k).sum ∧ (xs.drop k).sum ≤ 16777216) := by
          intro k
          have t1 := sum_bd (xs := xs.take k) fun x hx => hall x (List.mem_of_mem_take hx)
          have t2 := sum_bd (xs := xs.drop k) fun x hx => hall x (List.mem_of_mem_drop hx)
          rw [List.length_take] at t1
          rw [List.length_drop] at t2
          omega
        have HL : Hid (∀ x ∈ xs, 0 ≤ x ∧ x ≤ 4096) := hall
        have hmk := make_ints xs.length (by omega) w
        clear hys hz hma hall HS HK HR
        subst hkl
        go_wp2
        go_loopw [4, 8, 36] (fun bv av i wr => ∃ (k : Nat) (p q : Int), k ≤ xs.length ∧ Hid (Ab xs k p q) ∧ av = .int .i64 p ∧ bv = .int .i64 q ∧ i = .int .i64 (k : Int) ∧ Hid (RowI wr w.heap.size (mkd (midS xs) xs.length k)) ∧ Below w.heap.size w wr) (fun _ _ i _ => xs.length - (intOf i).toNat)
        case atStart => exact ⟨0, 0, z, Nat.zero_le _, HA, rfl, rfl, rfl, by show RowI _ _ _; rw [mkd_zero]; exact RowI.made _ _, ba _ _⟩
        case round =>
          obtain ⟨k, p, q, hk2, HAb, rfl, rfl, rfl, HRow, hbl⟩ := hrel
          by_cases h2 : k < xs.length
          · obtain ⟨b, o, c', x, he, _, hbB, hx, hcx⟩ := (HN.out.at hB hbl).get h2
            simp only [Value.slice.injEq] at he
            obtain ⟨rfl, _, rfl⟩ := he
            have hx1 := HL.out x (List.mem_of_getElem? hx)
            have hbd := HB2.out k
            rw [← HAb.out.1, ← HAb.out.2] at hbd
            obtain ⟨p0, p1, q0, q1⟩ := hbd
            obtain ⟨x0, x1⟩ := hx1
            have HA2 : Hid (Ab xs (k + 1) (p + x) (q - x)) := HAb.out.step hx
            have HM : Hid (midS xs k = if (x - if p - (q - x) < q - x - p then q - x - p else p - (q - x)) < 0 then x - if p - (q - x) < q - x - p then q - x - p else p - (q - x) else 0) := HAb.out.mid hx
            have r1 := HRow.out.cells k 0 (by rw [mkd_get _ h2]; simp)
            have r2 := HRow.out.thaw k (by rw [mkd_len]; exact h2)
            have hlt := HRow.out.lt
            have HRow2 : Hid (RowI (wr.setCell ⟨w.heap.size, k, none⟩ (.int .i64 (if (x - if p - (q - x) < q - x - p then q - x - p else p - (q - x)) < 0 then x - if p - (q - x) < q - x - p then q - x - p else p - (q - x) else 0))) w.heap.size (mkd (midS xs) xs.length (k + 1))) := by
              have := HRow.out.set k (midS xs k)
              rw [mkd_set _ h2] at this
              rw [HM.out] at this
              exact this
            clear hx HAb HRow HM
            go_wp2
            go_roundw
            case rel => exact ⟨k + 1, p + x, q - x, h2, HA2, by first | rfl | go_num, by first | rfl | go_num, by go_num, HRow2, bs hbl (Nat.le_refl _) _⟩
            case measure => simp [intOf]; omega
          · have : k = xs.length := by omega
            subst this
            have HF : Hid (RowI wr w.heap.size ys) := by show RowI _ _ _; rw [← HY.out]; exact HRow.out
            have hyl : ys.length = xs.length := by rw [← HY.out, mkd_len]
            have HG : Hid (Num wr wr.heap.size (.slice (some ⟨w.heap.size, 0, none⟩) xs.length xs.length) ys) := by
              have := HF.out.num (by omega) HF.out.lt
              rw [hyl] at this
              exact this
            clear HRow HF hyl HAb
            go_wp2
            exact bodyPost_ret (v := .tuple #[.slice (some ⟨w.heap.size, 0, none⟩) xs.length xs.length, .int .i64 0]) (by simp [results, Try.results14, go_sem]) rfl ⟨_, rfl, HG.out, hbl⟩
end Go.Proofs.Ythmkbkombjhaeaa
