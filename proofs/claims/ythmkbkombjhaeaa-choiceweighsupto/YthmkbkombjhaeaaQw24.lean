import Derived.Test.YthmkbkombjhaeaaQw22
import Derived.Test.YthmkbkombjhaeaaQw23
import Derived.Deep.RegionHeld3
namespace Go.Proofs.Ythmkbkombjhaeaa
open Go.RowKit Go.Proofs.Ythmkbkombjhaeaa.Ds

/-! ### all orders, as lists of numbers -/
def insI (x : Int) (o : List Int) : List (List Int) := (List.range (o.length + 1)).map fun k => o.take k ++ x :: o.drop k
theorem ins_is {α : Type} (x : α) : ∀ (l : List α), Ps.ins x l = (List.range (l.length + 1)).map fun k => l.take k ++ x :: l.drop k
  | [] => by simp [Ps.ins]
  | a :: l => by
    rw [Ps.ins, ins_is x l, List.length_cons]
    conv => rhs; rw [List.range_succ_eq_map, List.map_cons, List.map_map]
    simp [Function.comp_def]
theorem ins_as (x : Nat) (o : List Nat) : (Ps.ins x o).map asI = insI x (asI o) := by
  rw [ins_is]
  unfold insI
  rw [List.map_map, asI_len]
  refine List.map_congr_left fun k _ => ?_
  simp [asI]
def ordI (n : Nat) : List (List Int) := (Ps.ordL (List.range n).reverse).map asI
theorem ordI_zero : ordI 0 = [[]] := rfl
theorem ordI_succ (n : Nat) : ordI (n + 1) = (ordI n).flatMap (insI n) := by
  unfold ordI
  rw [List.range_succ, List.reverse_append]
  show ((Ps.ordL (List.range n).reverse).flatMap (Ps.ins n)).map asI = _
  rw [List.map_flatMap, List.flatMap_map]
  congr 1
  exact funext fun o => ins_as n o
theorem ordI_len {n : Nat} {o : List Int} (h : o ∈ ordI n) : o.length = n := by
  obtain ⟨p, hp, rfl⟩ := List.mem_map.1 h
  rw [asI_len, (Ps.ord_perm hp).length_eq]
  simp
theorem fact_le : ∀ n, n ≤ 8 → Ps.fact n ≤ 40320
  | 0, _ => by decide
  | 1, _ => by decide
  | 2, _ => by decide
  | 3, _ => by decide
  | 4, _ => by decide
  | 5, _ => by decide
  | 6, _ => by decide
  | 7, _ => by decide
  | 8, _ => by decide
  | n + 9, h => absurd h (by omega)
theorem ordI_many {n : Nat} (hn : n ≤ 8) : (ordI n).length ≤ 40320 := by
  unfold ordI
  rw [List.length_map, Ps.ord_len, List.length_reverse, List.length_range]
  exact fact_le n hn
/-- as far as one has come -/
def Don (n : Nat) (is : List (List Int)) (i : Nat) (o : List Int) (k : Nat) (ds : List Ol) : Prop := ds.map (·.2) = (is.take i).flatMap (insI n) ++ (insI n o).take k
theorem insI_len (x : Int) (o : List Int) : (insI x o).length = o.length + 1 := by simp [insI]
theorem insI_get {x : Int} {o : List Int} {k : Nat} (h : k ≤ o.length) : (insI x o)[k]? = some (o.take k ++ x :: o.drop k) := by
  have : k < o.length + 1 := by omega
  simp [insI, this]
theorem Don.step {n : Nat} {is : List (List Int)} {i : Nat} {o : List Int} {k : Nat} {ds : List Ol} {t : Value} (h : Don n is i o k ds) (hk : k ≤ o.length) {M : List Int} (hM : o.take k ++ (n : Int) :: o.drop k = M) : Don n is i o (k + 1) (ds ++ [(t, M)]) := by
  unfold Don at *
  rw [List.map_append, h, List.take_add_one, insI_get hk, hM, List.append_assoc]
  rfl
theorem Don.next {n : Nat} {is : List (List Int)} {i : Nat} {o : List Int} {k : Nat} {ds : List Ol} (h : Don n is i o k ds) (hk : o.length + 1 ≤ k) (ho : is[i]? = some o) (o' : List Int) : Don n is (i + 1) o' 0 ds := by
  unfold Don at *
  rw [h, List.take_of_length_le (l := insI n o) (by rw [insI_len]; exact hk)]
  simp [List.take_add_one, ho]
theorem Don.all {n : Nat} {i : Nat} {o : List Int} {ds : List Ol} (h : Don n (ordI n) i o 0 ds) (hi : (ordI n).length ≤ i) : ds.map (·.2) = ordI (n + 1) := by
  unfold Don at h
  rw [h, List.take_of_length_le hi, ordI_succ]
  simp

/-- all of them lie in blocks from lo on -/
def Ful (lo : Nat) (os : List Ol) : Prop := ∀ t ∈ os, ∀ g n c, t.1 = .slice (some ⟨g, 0, none⟩) n c → lo ≤ g
theorem ful_app {w : World} {lo lo' n c : Nat} {a : Option Addr} {os : List Ol} {M : List Int} (h : Ful lo os) (ho : Ow w lo' (.slice a n c) M) (hM : 0 < M.length) (hl : lo ≤ lo') : Ful lo (os ++ [(.slice a n c, M)]) := by
  intro t ht g n' c' e
  rcases List.mem_append.1 ht with h1 | h1
  · exact h t h1 g n' c' e
  · obtain rfl : t = (.slice a n c, M) := by simpa using h1
    have hn : n = M.length := by
      obtain ⟨_, _, e2⟩ := ho.slice
      simp only [Value.slice.injEq] at e2
      exact e2.2.1
    subst hn
    obtain ⟨g2, cap, hv, _, hg, _⟩ := rowi_of_owns rfl ho (owns_some ho hM)
    simp only at e
    rw [hv] at e
    simp only [Value.slice.injEq, Option.some.injEq, Addr.mk.injEq] at e
    omega

set_option maxHeartbeats 4000000 in
set_option maxRecDepth 100000 in
theorem orders_any : ∀ (n : Nat), n ≤ 8 → ∀ (ni : Int) (w : World), ni = (n : Int) → Calls Try.prog 33 #[.int .i64 ni] w fun e w' => ∃ v os, e = .returned v ∧ os.map (·.2) = ordI n ∧ Lls w' w.heap.size v os ∧ Ful w.heap.size os ∧ Below w.heap.size w w' := by
  intro n
  induction n with
  | zero =>
    intro _ ni w hni
    have hz : (ni == 0) = true := by simpa using hni
    clear hni
    go_enter Try.func33, Try.ntmps33
    go_wp2
    go_ret
    refine ⟨_, [(.slice (some ⟨w.heap.size, 0, none⟩) 0 0, [])], rfl, rfl, ⟨⟨rfl, .inr ⟨w.heap.size + 1, 1, #[.slice (some ⟨w.heap.size, 0, none⟩) 0 0], by simp, by omega, ?_, Nat.le_refl _, by decide, by simp, by simp⟩⟩, fun t ht => ?_⟩, fun t ht g n c e => ?_, bal (ba _ _) _⟩
    · have := heap_alloc_new (w.alloc (.cells #[] 3)) (.cells #[.slice (some ⟨w.heap.size, 0, none⟩) 0 0] 24)
      simpa using this
    · simp at ht
      subst ht
      exact ⟨w.heap.size + 1, ⟨w.heap.size, 0, rfl, Nat.le_refl _, by simp, by simp <;> omega, by omega, fun i x hi => by simp at hi⟩, fun g e => by simp [Value.ownBlock] at e; omega⟩
    · simp at ht
      subst ht
      simp only [Value.slice.injEq, Option.some.injEq, Addr.mk.injEq] at e
      omega
  | succ n ih =>
    intro hn ni w hni
    have ko := ih (by omega) (ni - 1) w (by omega)
    have n1 : 1 ≤ ni := by omega
    have n8 : ni ≤ 8 := by omega
    have n0 : ¬ ni = 0 := by omega
    have n0' : (ni == 0) = false := by simpa using n0
    have HNi : Hid (ni - 1 = (n : Int)) := by show _ = _; omega
    have hn7 : n ≤ 7 := by omega
    clear ih hni hn
    go_enter Try.func33, Try.ntmps33
    go_wp2_with fail
    refine ko.mono ?_
    rintro e w1 ⟨v1, os, rfl, h1, hl1, _, hb1⟩
    clear ko
    obtain ⟨oa, oc, rfl⟩ := hl1.slice
    have HOs : Hid (os.map (·.2) = ordI n) := h1
    have hlen : os.length ≤ 40320 := by
      have := congrArg List.length h1
      rw [List.length_map] at this
      rw [this]
      exact ordI_many (by omega)
    have HL1 : Hid (Lls w1 w.heap.size (.slice oa os.length oc) os) := hl1
    clear h1 hl1
    go_wp2
    go_loopw [3, 15] (fun pv iv wr => ∃ (i : Nat) (ds : List Ol), i ≤ os.length ∧ iv = .int .i64 (i : Int) ∧ Hid (Don n (ordI n) i [] 0 ds) ∧ ds.length ≤ 9 * i ∧ Hid (Lls wr w1.heap.size pv ds) ∧ Hid (Ful w1.heap.size ds) ∧ Below w1.heap.size w1 wr) (fun _ iv _ => os.length - (intOf iv).toNat)
    case atStart => exact ⟨0, [], Nat.zero_le _, rfl, rfl, by simp, Lls.nil _ _, (fun t ht => by cases ht), Below.refl _ _⟩
    case round =>
      obtain ⟨i, ds, hi, rfl, HD, hdl, HD1, HFu, hbl⟩ := hrel
      obtain ⟨pa, pc, rfl⟩ := HD1.out.slice
      by_cases h2 : i < os.length
      · obtain ⟨b, c, g, cap, xs, he, hc, hb, hbl2, ht, hct, hxc, hxl, hg, hx⟩ := (HL1.out.keep hbl).get h2
        simp only [Value.slice.injEq] at he
        obtain ⟨rfl, -, rfl⟩ := he
        have hix : (ordI n)[i]? = some xs := by rw [← HOs.out]; simp [ht]
        have hxn : xs.length = n := ordI_len (List.mem_of_getElem? hix)
        have HIx : Hid ((ordI n)[i]? = some xs ∧ xs.length = n) := ⟨hix, hxn⟩
        have hgw : g < w1.heap.size := by
          obtain ⟨m, ⟨g', cap', hv, _, _, hg', _, _⟩, _⟩ := HL1.out.2 _ (List.mem_of_getElem? ht)
          simp only [Value.slice.injEq, Option.some.injEq, Addr.mk.injEq] at hv
          obtain ⟨⟨rfl, -, -⟩, -, rfl⟩ := hv
          exact hg'
        have hbw : b < w1.heap.size := by
          have := HL1.out.1.lt b rfl
          omega
        have HX : Hid (∀ j x, xs[j]? = some x → w1.cell? ⟨g, j, none⟩ = some (.int .i64 x)) := fun j x hj => (hbl.cell (p := ⟨g, j, none⟩) hgw).symm.trans (hx j x hj)
        have hct1 : w1.cell? ⟨b, i, none⟩ = some (.slice (some ⟨g, 0, none⟩) xs.length cap) := (hbl.cell (p := ⟨b, i, none⟩) hbw).symm.trans hct
        clear hix hxn ht hx
        obtain ⟨wo, hwo⟩ : ∃ wo : World, wo = wr := ⟨_, rfl⟩
        subst hwo
        go_wp2
        go_loopw [3, 6] (fun pv kv wr => ∃ (k : Nat) (es : List Ol), k ≤ xs.length + 1 ∧ kv = .int .i64 (k : Int) ∧ Hid (Don n (ordI n) i xs k es) ∧ es.length ≤ 9 * i + k ∧ Hid (Lls wr w1.heap.size pv es) ∧ Hid (Ful w1.heap.size es) ∧ Below w1.heap.size w1 wr) (fun _ kv _ => xs.length + 1 - (intOf kv).toNat)
        case atStart => exact ⟨0, ds, Nat.zero_le _, rfl, (by have := HD.out; unfold Don at this ⊢; rw [List.take_zero, List.append_nil] at this ⊢; exact this), by omega, HD1, HFu, hbl⟩
        case round =>
          obtain ⟨k, es, hk, rfl, HE, hel, HE1, HFe, hbl3⟩ := hrel
          obtain ⟨qa, qc, rfl⟩ := HE1.out.slice
          by_cases h3 : k ≤ xs.length
          · have sfact : ∀ W', Below wr.heap.size wr W' → W'.cell? ⟨b, i, none⟩ = some (.slice (some ⟨g, 0, none⟩) xs.length cap) := fun W' hb => ((bt hbl3 hb).cell (p := ⟨b, i, none⟩) hbw).trans hct1
            have hct3 := sfact wr (Below.refl _ _)
            have i1 : (k : Int) ≤ (xs.length : Int) := by omega
            have i2 : (0 : Int) ≤ (k : Int) := by omega
            have i3 : (k : Int) ≤ (cap : Int) := by omega
            obtain ⟨nm, hnm⟩ : ∃ z, ni - 1 = z := ⟨_, rfl⟩
            have hwr : IntKind.i64.wrap (ni - 1) = nm := by rw [IntKind.wrap_i64]; omega
            have HNm : Hid (nm = (n : Int)) := by show _ = _; rw [← hnm]; exact HNi.out
            obtain ⟨L1, hL1⟩ : ∃ z, xs.take k = z := ⟨_, rfl⟩
            obtain ⟨L2, hL2⟩ : ∃ z, xs.drop k = z := ⟨_, rfl⟩
            obtain ⟨M1, hM1⟩ : ∃ z, L1 ++ [nm] = z := ⟨_, rfl⟩
            obtain ⟨M2, hM2⟩ : ∃ z, M1 ++ L2 = z := ⟨_, rfl⟩
            have HL1x : Hid (L1.length = k) := by show _ = _; rw [← hL1, List.length_take]; omega
            have HL2 : Hid (L2.length = xs.length - k) := by show _ = _; rw [← hL2, List.length_drop]
            have HM1 : Hid (L1 ++ [nm] = M1 ∧ M1.length = k + 1) := ⟨hM1, by rw [← hM1, List.length_append, HL1x.out]; rfl⟩
            have HM2 : Hid (M1 ++ L2 = M2 ∧ 0 < M2.length ∧ M2.length ≤ 1073741824) := ⟨hM2, by rw [← hM2, List.length_append, HM1.out.2]; omega, by rw [← hM2, List.length_append, HM1.out.2, HL2.out]; have := HIx.out.2; omega⟩
            have HMi : Hid (xs.take k ++ (n : Int) :: xs.drop k = M2) := by
              show _ = _
              rw [← hM2, ← hM1, hL1, hL2, HNm.out, List.append_assoc]
              rfl
            have HN1 : Hid (∀ W', Below wr.heap.size wr W' → Num W' wr.heap.size (.slice (some ⟨g, 0, none⟩) k cap) L1) := by
              intro W' hb
              have hsz := hbl3.size
              refine ⟨_, cap, by rw [HL1x.out], by rw [HL1x.out]; omega, by rw [HL1x.out]; omega, fun _ => ⟨g, 0, rfl, by omega, fun j x hj => ?_⟩⟩
              rw [Nat.zero_add]
              refine ((bt hbl3 hb).cell (p := ⟨g, j, none⟩) hgw).trans (HX.out j x ?_)
              rw [← hL1, List.getElem?_take] at hj
              split at hj
              · exact hj
              · cases hj
            have HN2 : Hid (∀ W', Below wr.heap.size wr W' → Num W' wr.heap.size (.slice (if cap = k then some ⟨g, 0, none⟩ else some ⟨g, k, none⟩) (xs.length - k) (cap - k)) L2) := by
              intro W' hb
              have hsz := hbl3.size
              refine ⟨_, cap - k, by rw [HL2.out], by rw [HL2.out]; omega, by rw [HL2.out]; omega, fun hne => ?_⟩
              have hlt : 0 < L2.length := List.length_pos_iff.2 hne
              have hne2 : ¬ cap = k := by have := HL2.out; omega
              rw [if_neg hne2]
              refine ⟨g, k, rfl, by omega, fun j x hj => ?_⟩
              refine ((bt hbl3 hb).cell (p := ⟨g, k + j, none⟩) hgw).trans (HX.out (k + j) x ?_)
              rw [← hL2, List.getElem?_drop] at hj
              exact hj
            have BA3 : Hid (Below wr.heap.size wr (wr.alloc (.cells #[] 3)).drew) := (ba _ _).drew
            have BA2 : Hid (Below wr.heap.size wr ((wr.alloc (.cells #[] 3)).alloc (.cells #[.int .i64 nm] 3)).drew) := (bal (ba _ _) _).drew
            have BA1 : Hid (Below wr.heap.size wr ((wr.alloc (.cells #[.int .i64 nm] 3)).alloc (.cells #[] 3)).drew) := (bal (ba _ _) _).drew
            have HA3 : Hid (Ow (wr.alloc (.cells #[] 3)).drew wr.heap.size (.slice (some ⟨wr.heap.size, 0, none⟩) 0 0) []) := Ow.keep (owns_zero wr wr.heap.size (Nat.le_refl _)) (Below.refl _ _).drew
            have HA2 : Hid (Ow ((wr.alloc (.cells #[] 3)).alloc (.cells #[.int .i64 nm] 3)).drew wr.heap.size (.slice (some ⟨wr.heap.size, 0, none⟩) 0 0) []) := Ow.keep (owns_zero wr wr.heap.size (Nat.le_refl _)) (ba _ _).drew
            have HA1 : Hid (Ow ((wr.alloc (.cells #[.int .i64 nm] 3)).alloc (.cells #[] 3)).drew wr.heap.size (.slice (some ⟨wr.heap.size + 1, 0, none⟩) 0 0) []) := by
              have h7 := owns_zero (wr.alloc (.cells #[.int .i64 nm] 3)) wr.heap.size (by simp)
              have h8 : Ow ((wr.alloc (.cells #[.int .i64 nm] 3)).alloc (.cells #[] 3)) wr.heap.size (.slice (some ⟨wr.heap.size + 1, 0, none⟩) 0 0) [] := by unfold Ow; simpa using h7
              exact h8.keep (Below.refl _ _).drew
            have hqlt := HE1.out.lt
            obtain ⟨mo, hmo, hmg'⟩ : ∃ m, m < wr.heap.size ∧ ∀ g, (Value.slice qa es.length qc).ownBlock = some g → m = g := by
              cases e : (Value.slice qa es.length qc).ownBlock with
              | none => exact ⟨0, by have := hbl3.size; omega, fun g e => by cases e⟩
              | some g => exact ⟨g, (hqlt g e).2, fun g' e => by simpa using e⟩
            have hmg : Hid (∀ g, (Value.slice qa es.length qc).ownBlock = some g → mo = g) := hmg'
            have sA3 := sfact _ BA3.out
            clear hnm hL1 hL2 hM1 hM2 hqlt hmg'
            go_wp2
            go_region_held3 (fun w' => w'.cell? ⟨b, i, none⟩ = some (.slice (some ⟨g, 0, none⟩) xs.length cap))
              ((first | assumption | (exact s5a _) | (exact s3a _) | (refine sfact _ ?_; (repeat (first | exact Below.refl _ _ | apply Below.drew | refine bal ?_ _)); done)))
              (first
                | (refine step_lls (w5.alloc (.cells #[.slice a5 (xs.length + 1) c5] 24)) rfl _ _ rfl w1.heap.size es.length qa qc es (es ++ [(.slice a5 (xs.length + 1) c5, M2)]) rfl rfl (HE1.out.keep (bal B5 _)) ⟨w5.heap.size, 0, none⟩ rfl (.slice a5 (xs.length + 1) c5) M2 ?_ rfl ⟨mo, (oe_of_ow hO5 HM2.out.2.1 HM2.out.2.2 mo hmo).keep (ba _ _), hmg.out⟩ rfl ?_ ?_ (es.length + 1) rfl ?_; (simp [go_sem, Addr.add]); (have := HIx.out.2; omega); (have := B5.size; have := hbl3.size; simp; omega); intro a6 c6 w6 hL6 hG6 hB6; have B6 : Below w1.heap.size w1 w6 := ((bal (bt hbl3 B5) _).trans hB6); have s6 : w6.cell? ⟨b, i, none⟩ = some (.slice (some ⟨g, 0, none⟩) xs.length cap) := (B6.cell (p := ⟨b, i, none⟩) hbw).trans hct1)
                | (refine step_ow w4 rfl _ _ rfl wr.heap.size wr.heap.size (k + 1) a4 c4 M1 L2 M2 rfl HM1.out.2 hO4 (.slice (if cap = k then some ⟨g, 0, none⟩ else some ⟨g, k, none⟩) (xs.length - k) (cap - k)) rfl (HN2.out _ B4) HM2.out.1 ?_ ?_ (xs.length + 1) ?_ ?_; (have := HL2.out; omega); (have := B4.size; omega); (have := HL2.out; omega); intro a5 c5 w5 hO5 hG5 hB5; have B5 : Below wr.heap.size wr w5 := (B4.trans hB5); have s5 : w5.cell? ⟨b, i, none⟩ = some (.slice (some ⟨g, 0, none⟩) xs.length cap) := sfact _ B5; have s5a : ∀ O, (w5.alloc O).cell? ⟨b, i, none⟩ = some (.slice (some ⟨g, 0, none⟩) xs.length cap) := fun O => sfact _ (bal B5 O))
                | (refine step_ow (w3.alloc (.cells #[.int .i64 nm] 3)) rfl _ _ rfl wr.heap.size (w3.heap.size + 1) k a3 c3 L1 [nm] M1 rfl HL1x.out (hO3.keep (ba _ _)) (.slice (some ⟨w3.heap.size, 0, none⟩) 1 1) rfl (num_one w3 nm) HM1.out.1 ?_ ?_ (k + 1) rfl ?_; (simp; omega); (have := B3.size; first | omega | (simp; omega)); intro a4 c4 w4 hO4 hG4 hB4; have B4 : Below wr.heap.size wr w4 := ((bal B3 _).trans hB4); have s4 : w4.cell? ⟨b, i, none⟩ = some (.slice (some ⟨g, 0, none⟩) xs.length cap) := sfact _ B4)
                | (refine step_ow (w3.alloc (.cells #[.int .i64 nm] 3)).drew rfl _ _ rfl wr.heap.size (w3.heap.size + 1) k a3 c3 L1 [nm] M1 rfl HL1x.out ((hO3.keep (ba _ _)).keep (Below.refl _ _).drew) (.slice (some ⟨w3.heap.size, 0, none⟩) 1 1) rfl ((num_one w3 nm).keep (Below.refl _ _).drew) HM1.out.1 ?_ ?_ (k + 1) rfl ?_; (simp; omega); (have := B3.size; first | omega | (simp; omega)); intro a4 c4 w4 hO4 hG4 hB4; have B4 : Below wr.heap.size wr w4 := ((bal B3 _).drew.trans hB4); have s4 : w4.cell? ⟨b, i, none⟩ = some (.slice (some ⟨g, 0, none⟩) xs.length cap) := sfact _ B4)
                | (refine step_ow w3 rfl _ _ rfl wr.heap.size (wr.heap.size + 1) k a3 c3 L1 [nm] M1 rfl HL1x.out hO3 (.slice (some ⟨wr.heap.size, 0, none⟩) 1 1) rfl (num_cell e1 (by omega)) HM1.out.1 ?_ ?_ (k + 1) rfl ?_; (simp; omega); (have := B3.size; first | omega | (simp; omega)); intro a4 c4 w4 hO4 hG4 hB4; have B4 : Below wr.heap.size wr w4 := (B3.trans hB4); have s4 : w4.cell? ⟨b, i, none⟩ = some (.slice (some ⟨g, 0, none⟩) xs.length cap) := sfact _ B4)
                | (refine step_ow w3 rfl _ _ rfl wr.heap.size (wr.heap.size + 2) k a3 c3 L1 [nm] M1 rfl HL1x.out hO3 (.slice (some ⟨wr.heap.size + 1, 0, none⟩) 1 1) rfl (num_cell e2 (by omega)) HM1.out.1 ?_ ?_ (k + 1) rfl ?_; (simp; omega); (have := B3.size; first | omega | (simp; omega)); intro a4 c4 w4 hO4 hG4 hB4; have B4 : Below wr.heap.size wr w4 := (B3.trans hB4); have s4 : w4.cell? ⟨b, i, none⟩ = some (.slice (some ⟨g, 0, none⟩) xs.length cap) := sfact _ B4)
                | (refine step_ow (wr.alloc (.cells #[] 3)).drew rfl _ _ rfl wr.heap.size wr.heap.size 0 (some ⟨wr.heap.size, 0, none⟩) 0 [] L1 L1 rfl rfl HA3.out (.slice (some ⟨g, 0, none⟩) k cap) rfl (HN1.out _ BA3.out) rfl ?_ ?_ k ?_ ?_; (have := HL1x.out; omega); (have := BA3.out.size; omega); (have := HL1x.out; omega); intro a3 c3 w3 hO3 hG3 hB3; have B3 : Below wr.heap.size wr w3 := (BA3.out.trans hB3); have s3 : w3.cell? ⟨b, i, none⟩ = some (.slice (some ⟨g, 0, none⟩) xs.length cap) := sfact _ B3; have s3a : ∀ O, (w3.alloc O).cell? ⟨b, i, none⟩ = some (.slice (some ⟨g, 0, none⟩) xs.length cap) := fun O => sfact _ (bal B3 O))
                | (refine step_ow ((wr.alloc (.cells #[] 3)).alloc (.cells #[.int .i64 nm] 3)).drew rfl _ _ rfl wr.heap.size wr.heap.size 0 (some ⟨wr.heap.size, 0, none⟩) 0 [] L1 L1 rfl rfl HA2.out (.slice (some ⟨g, 0, none⟩) k cap) rfl (HN1.out _ BA2.out) rfl ?_ ?_ k ?_ ?_; (have := HL1x.out; omega); (have := BA2.out.size; omega); (have := HL1x.out; omega); intro a3 c3 w3 hO3 hG3 hB3; have B3 : Below wr.heap.size wr w3 := (BA2.out.trans hB3); have s3 : w3.cell? ⟨b, i, none⟩ = some (.slice (some ⟨g, 0, none⟩) xs.length cap) := sfact _ B3; have s3a : ∀ O, (w3.alloc O).cell? ⟨b, i, none⟩ = some (.slice (some ⟨g, 0, none⟩) xs.length cap) := fun O => sfact _ (bal B3 O); have e2 : w3.cell? ⟨wr.heap.size + 1, 0, none⟩ = some (.int .i64 nm) := hG3.cell (by simp [go_sem]) (by simp [Value.ownBlock]))
                | (refine step_ow ((wr.alloc (.cells #[.int .i64 nm] 3)).alloc (.cells #[] 3)).drew rfl _ _ rfl wr.heap.size wr.heap.size 0 (some ⟨wr.heap.size + 1, 0, none⟩) 0 [] L1 L1 rfl rfl HA1.out (.slice (some ⟨g, 0, none⟩) k cap) rfl (HN1.out _ BA1.out) rfl ?_ ?_ k ?_ ?_; (have := HL1x.out; omega); (have := BA1.out.size; omega); (have := HL1x.out; omega); intro a3 c3 w3 hO3 hG3 hB3; have B3 : Below wr.heap.size wr w3 := (BA1.out.trans hB3); have s3 : w3.cell? ⟨b, i, none⟩ = some (.slice (some ⟨g, 0, none⟩) xs.length cap) := sfact _ B3; have s3a : ∀ O, (w3.alloc O).cell? ⟨b, i, none⟩ = some (.slice (some ⟨g, 0, none⟩) xs.length cap) := fun O => sfact _ (bal B3 O); have e1 : w3.cell? ⟨wr.heap.size, 0, none⟩ = some (.int .i64 nm) := hG3.cell (by simp [go_sem]) (by simp [Value.ownBlock])))
            all_goals
              have HD6 : Hid (Don n (ordI n) i xs (k + 1) (es ++ [(.slice a5 (xs.length + 1) c5, M2)])) := HE.out.step h3 HMi.out
              have HL6 : Hid (Lls w6 w1.heap.size (.slice a6 (es.length + 1) c6) (es ++ [(.slice a5 (xs.length + 1) c5, M2)])) := hL6
              have HB6 : Hid (Below w1.heap.size w1 w6) := B6
              have HF6 : Hid (Ful w1.heap.size (es ++ [(.slice a5 (xs.length + 1) c5, M2)])) := ful_app HFe.out hO5 HM2.out.2.1 hbl3.size
              clear hL6 hG6 hB6 B6 s6 hO5 hG5 hB5 B5 hO4 hO3 sfact
              go_wp2
              go_roundw
              case rel => exact ⟨k + 1, es ++ [(.slice a5 (xs.length + 1) c5, M2)], by omega, by go_num, HD6, by simp; omega, HL6, HF6, HB6.out⟩
              case measure => simp [intOf]; omega
          · have HD7 : Hid (Don n (ordI n) (i + 1) [] 0 es) := HE.out.next (by omega) HIx.out.1 []
            have i4 : ¬ (k : Int) ≤ (xs.length : Int) := by omega
            have hk9 : k ≤ 9 := by have := HIx.out.2; omega
            clear HE
            go_wp2
            go_roundw
            case rel => exact ⟨i + 1, es, h2, by go_num, HD7, by omega, HE1, HFe, hbl3⟩
            case measure => simp [intOf]; omega
      · have hol : (ordI n).length = os.length := by rw [← HOs.out, List.length_map]
        have HF : Hid (ds.map (·.2) = ordI (n + 1)) := HD.out.all (by omega)
        have HLf : Hid (Lls wr w.heap.size (.slice pa ds.length pc) ds) := by
          have h5 := HD1.out
          refine ⟨⟨h5.1.1, ?_⟩, h5.2⟩
          rcases h5.1.2 with h6 | ⟨g, cap, cur, h7, h8, h9⟩
          · exact .inl h6
          · exact .inr ⟨g, cap, cur, h7, by have := hb1.size; omega, h9⟩
        have G2 := bt hb1 hbl
        clear HD HD1 hol
        go_wp2
        go_ret
        exact ⟨_, ds, rfl, HF.out, HLf.out, fun t ht g n c e => Nat.le_trans hb1.size (HFu.out t ht g n c e), G2⟩
end Go.Proofs.Ythmkbkombjhaeaa
