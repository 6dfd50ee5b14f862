import Derived.Test.YtidfkencjdjkbaaGreatDoorQo05
import Derived.Lib.AtoiErrMem
import Derived.Test.YtidfkencjdjkbaaGreatDoorQo01
import Derived.OrdersHeld
import Derived.OrdersIn
/-
  PACKAGE speech: numbers.
-/
namespace Go.Proofs.YtidfkencjdjkbaaGreatDoor
open Go.RowKit Sp

theorem fold_ge : ∀ (l : By) (a : Nat), a ≤ l.foldl (fun n c => n * 10 + (c.toNat - 48)) a
  | [], a => Nat.le_refl _
  | c :: r, a => by
    have := fold_ge r (a * 10 + (c.toNat - 48))
    simp only [List.foldl_cons]
    omega
theorem parse_val : ∀ (l : By) (a : Nat), l.all digB = true → a < 18446744073709551616 → Lib.parseUint10 a l = if l.foldl (fun n c => n * 10 + (c.toNat - 48)) a < 18446744073709551616 then .ok (l.foldl (fun n c => n * 10 + (c.toNat - 48)) a) else .range
  | [], a, _, ha => by simp [Lib.parseUint10, ha]
  | c :: r, a, h, ha => by
    simp only [List.all_cons, Bool.and_eq_true] at h
    obtain ⟨h1, h2⟩ := h
    simp only [digB, Bool.and_eq_true, decide_eq_true_eq] at h1
    have hg := fold_ge r (a * 10 + (c.toNat - 48))
    obtain ⟨V, hV⟩ : ∃ V, r.foldl (fun n c => n * 10 + (c.toNat - 48)) (a * 10 + (c.toNat - 48)) = V := ⟨_, rfl⟩
    have ih := fun h => parse_val r (a * 10 + (c.toNat - 48)) h2 h
    have e : (c :: r).foldl (fun n c => n * 10 + (c.toNat - 48)) a = V := hV
    rw [e]
    rw [hV] at ih hg
    unfold Lib.parseUint10
    rw [if_pos h1]
    by_cases c1 : 1844674407370955162 ≤ a
    · rw [if_pos c1, if_neg (by omega)]
    · rw [if_neg c1]
      by_cases c2 : 18446744073709551616 ≤ a * 10 + (c.toNat - 48)
      · rw [if_pos c2, if_neg (by omega)]
      · rw [if_neg c2]
        exact ih (by omega)
theorem atoi_val (x : By) (hx : fstD x = true) (h : x.all digB = true) : Lib.atoiAll x = if valN x < 9223372036854775808 then .ok (valN x : Int) else .range := by
  match x, hx with
  | c :: r, hx =>
    have hc : digB c = true := hx
    simp only [digB, Bool.and_eq_true, decide_eq_true_eq] at hc
    have hp := parse_val (c :: r) 0 h (by omega)
    have hv : (c :: r).foldl (fun n c => n * 10 + (c.toNat - 48)) 0 = valN (c :: r) := rfl
    rw [hv] at hp
    have h1 : ¬ (c.toNat = 43 ∨ c.toNat = 45) := by omega
    have h2 : ¬ c.toNat = 45 := by omega
    simp only [Lib.atoiAll]
    rw [if_neg h1]
    simp only [Lib.parseMag, hp]
    by_cases c1 : valN (c :: r) < 18446744073709551616
    · rw [if_pos c1]
      simp only [h2, List.cons_ne_nil, not_false_iff, true_and, if_false, false_and]
      by_cases c2 : valN (c :: r) < 9223372036854775808
      · rw [if_pos c2, if_neg (by omega)]
      · rw [if_neg c2, if_pos (by omega)]
    · rw [if_neg c1]
      simp
      omega
theorem run_fst (x : By) : (0 < runL digB x) ↔ fstD x = true := by
  match x with
  | [] => simp [runL, fstD]
  | c :: r =>
    simp only [runL, fstD]
    by_cases h : digB c = true
    · simp [h]
    · simp [h]
/-- a number that can be told -/
theorem number_ok {w : World} {R P0 : Nat} {ps : List Pc} {m : Value} (h : Rdr w R P0 ps m) (hf : fstD (hd ps) = true) (hz : zeroA (hd ps) = false) (hv : valN (hd ps) ≤ 1048576) : Calls Tryz.prog 104 #[ptR R] w fun e w' => e = .returned (.int .i64 (valN (hd ps) : Int)) ∧ Rdr w' R P0 ps.tail m ∧ w.grownBy w' (some R) := by
  have hne : hd ps ≠ [] := by intro e; rw [e] at hf; simp [fstD] at hf
  have hdg : (hd ps).all digB = true := by
    obtain ⟨p, r, rfl⟩ := List.exists_cons_of_ne_nil h.f.ne
    exact h.d p (by simp) hf
  obtain ⟨P, o, n, c, -, -, -, -, -, -, -, -, hlen, -, hR, -⟩ := h.head
  have k1 := next_any h _ rfl
  obtain ⟨x, hx⟩ : ∃ x, hd ps = x := ⟨_, rfl⟩
  rw [hx] at hf hz hv hdg hlen k1 ⊢
  have hat2 := atoi_val x hf hdg
  rw [if_pos (by omega)] at hat2
  obtain ⟨nd, hnd⟩ : ∃ nd, runL digB x = nd := ⟨_, rfl⟩
  have k2 := fun u : World => digits_any (tx x) (by show x.toArray.size ≤ _; simp; omega) u nd hnd
  have hnd2 : (0 : Int) < (nd : Int) := by have := (run_fst x).2 hf; omega
  have hnd3 : 0 < nd := by omega
  have hnd4 : decide (0 < nd) = true := by simpa using hnd3
  have HR : Hid (Rdr w R P0 ps m) := h
  have HX : Hid (hd ps = x) := hx
  have HNE : Hid (hd ps ≠ []) := hne
  obtain ⟨V, hV⟩ : ∃ V, valN x = V := ⟨_, rfl⟩
  rw [hV] at hv hat2 ⊢
  have k4 := fun u : World => Tryz.strconv_Atoi_ok (tx x) (by show x.toArray.size ≤ _; simp; omega) (V : Int) hat2 u
  obtain ⟨a, r, rfl⟩ : ∃ a r, x = a :: r := by
    cases x with
    | nil => exact absurd hf (by decide)
    | cons a r => exact ⟨a, r, rfl⟩
  have hv2 : (V : Int) ≤ 1048576 := by omega
  have hcs : a.toNat ≠ 48 ∨ (a.toNat = 48 ∧ r = []) := by
    by_cases c : a.toNat = 48
    · right
      refine ⟨c, ?_⟩
      cases r with
      | nil => rfl
      | cons b r' =>
        have c2 : a = 48 := UInt8.toNat_inj.1 c
        rw [c2] at hz
        exact absurd hz (by simp [zeroA])
    · exact .inl c
  clear hdg hf hnd hz hV hat2 hx hne hlen
  go_enter Tryz.func104, Tryz.ntmps104
  go_wp2_with fail
  refine k1.mono ?_
  rintro e w1 ⟨rfl, rfl⟩
  clear k1
  have e0 : ∀ h, (tx (a :: r))[0]'h = a := fun _ => rfl
  rcases hcs with hc | ⟨hc, rfl⟩
  · have hc2 : ¬ (a.toNat : Int) = 48 := by omega
    have hc3 : ((a.toNat : Int) == 48) = false := by simpa using hc2
    have hc4 : ((a.toNat : Int) != 48) = true := by simpa using hc2
    go_wp2_with fail
    go_quiet ((first | (go_at_call 81; refine Calls.quiet_of_same (k2 _)) | (go_at_call 23; refine Calls.quiet_of_same (pmust_ok (HR.out.at (below_drewN (Below.refl _ _) _)) 2))))
    have HB3 : Hid (Below w1.heap.size w1 (w1.drewN nq)) := below_drewN (Below.refl _ _) _
    generalize w1.drewN nq = w3 at HB3 ⊢
    have k5 := k4 w3
    go_wp2_with fail
    refine k5.mono ?_
    rintro e w4 ⟨rfl, hw4⟩
    have HB4 : Hid (Below w1.heap.size w1 w4) := by
      rcases hw4 with rfl | ⟨t, rfl⟩
      · exact HB3.out
      · exact bt HB3.out (Lib.bytesWorld_below _ _ _)
    have HR4 : Hid (Rdr w4 R P0 ps m) := HR.out.at HB4.out
    clear k5 hw4 k4
    go_wp2_with fail
    go_quiet ((go_at_call 23; refine Calls.quiet_of_same (pmust_ok (HR4.out.at (below_drewN (Below.refl _ _) _)) 3)))
    have HB5 : Hid (Below w1.heap.size w1 (w4.drewN nq)) := bt HB4.out (below_drewN (Below.refl _ _) _)
    generalize w4.drewN nq = w5 at HB5 ⊢
    have k6 := step_any (HR.out.at HB5.out) HNE.out
    go_wp2_with fail
    refine k6.mono ?_
    rintro e w6 ⟨rfl, h6, hg6⟩
    go_wp2
    go_ret
    exact ⟨rfl, h6, gb_trans (gb_below HB5.out) hg6⟩
  · have hc2 : (a.toNat : Int) = 48 := by omega
    have hc3 : ((a.toNat : Int) == 48) = true := by simpa using hc2
    have hc4 : ((a.toNat : Int) != 48) = false := by simpa using hc2
    go_wp2_with fail
    go_quiet ((first | (go_at_call 81; refine Calls.quiet_of_same (k2 _)) | (go_at_call 23; refine Calls.quiet_of_same (pmust_ok (HR.out.at (below_drewN (Below.refl _ _) _)) 2))))
    have HB3 : Hid (Below w1.heap.size w1 (w1.drewN nq)) := below_drewN (Below.refl _ _) _
    generalize w1.drewN nq = w3 at HB3 ⊢
    have k5 := k4 w3
    go_wp2_with fail
    refine k5.mono ?_
    rintro e w4 ⟨rfl, hw4⟩
    have HB4 : Hid (Below w1.heap.size w1 w4) := by
      rcases hw4 with rfl | ⟨t, rfl⟩
      · exact HB3.out
      · exact bt HB3.out (Lib.bytesWorld_below _ _ _)
    have HR4 : Hid (Rdr w4 R P0 ps m) := HR.out.at HB4.out
    clear k5 hw4 k4
    go_wp2_with fail
    go_quiet ((go_at_call 23; refine Calls.quiet_of_same (pmust_ok (HR4.out.at (below_drewN (Below.refl _ _) _)) 3)))
    have HB5 : Hid (Below w1.heap.size w1 (w4.drewN nq)) := bt HB4.out (below_drewN (Below.refl _ _) _)
    generalize w4.drewN nq = w5 at HB5 ⊢
    have k6 := step_any (HR.out.at HB5.out) HNE.out
    go_wp2_with fail
    refine k6.mono ?_
    rintro e w6 ⟨rfl, h6, hg6⟩
    go_wp2
    go_ret
    exact ⟨rfl, h6, gb_trans (gb_below HB5.out) hg6⟩
end Go.Proofs.YtidfkencjdjkbaaGreatDoor

namespace Go.Proofs.YtidfkencjdjkbaaGreatDoor
open Go.RowKit

/-! ### a statement that draws its order, within a round of a range over a function -/
/-! ### loads that are taken first, though at last a store turns what they read: whoever spoils S waits for them -/
section
variable {P : Program} {ops : Array Oper} {Q : Exit → Act → World → Prop} {md : Region.Mode} {S : World → Prop} {J : Nat → Bool}
def wpAnyJ (P : Program) (md : Region.Mode) (ops : Array Oper) (Q : Exit → Act → World → Prop) (S : World → Prop) (J : Nat → Bool) : Nat → Array Bool → Act → World → Prop
  | 0, listed, a, w => Region.ready md ops listed = [] ∧ Q .normal a w
  | fuel + 1, listed, a, w => (Region.ready md ops listed = [] → Q .normal a w) ∧
    ∀ i ∈ Region.ready md ops listed, wpOp P ops Q i (fun a' w' => (J i = true → S w') ∧ wpAnyJ P md ops Q S J fuel (listed.setIfInBounds i true) a' w') a w
theorem wpAny_of_J : ∀ (fuel : Nat) (listed : Array Bool) (a : Act) (w : World), wpAnyJ P md ops Q S J fuel listed a w → wpAny P md ops Q fuel listed a w
  | 0, _, _, _, h => h
  | fuel + 1, _, _, _, h => ⟨h.1, fun i hi => wpOp_mono (fun a' w' h' => wpAny_of_J fuel _ a' w' h'.2) (h.2 i hi)⟩
/-- what is not in J waits for i -/
def Waits (md : Region.Mode) (ops : Array Oper) (J : Nat → Bool) (i : Nat) : Prop := ∀ j oj, ops[j]? = some oj → J j = false → ∃ e ∈ oj.after, Region.binds md e = true ∧ e.on = i
theorem wpAnyJ_first {i : Nat} {oi : Oper} {v : Value} (hi : ops[i]? = some oi) (hJi : J i = true) (hW : Waits md ops J i) (hsel : ∀ (j : Nat) (o : Oper) cs b, ops[j]? = some o → o.op ≠ .select cs b)
    (hQ : ∀ c a w, Q (.panic c) (a.put oi.dst v) w → Q (.panic c) a w) :
    ∀ (fuel : Nat) (listed : Array Bool) (a : Act) (w : World),
      (∀ j oj, ops[j]? = some oj → j ≠ i → listed.getD j true = false → (∀ e ∈ oj.after, Region.binds md e = true → e.on ≠ i) → oi.apart ops oj = true) →
      i ∈ Region.ready md ops listed → YieldsIf P ops S oi v a → S w →
      wpAnyJ P md ops Q S J fuel (listed.setIfInBounds i true) (a.put oi.dst v) w → wpAnyJ P md ops Q S J (fuel + 1) listed a w := by
  intro fuel
  induction fuel with
  | zero =>
    intro listed a w _ hr hy hS H
    refine ⟨fun h => (by rw [h] at hr; cases hr), fun j hj => ?_⟩
    by_cases hji : j = i
    · subst hji; exact hy.wpOp hi hS ⟨fun _ => hS, H⟩
    · have h0 := ready_mono hj hji
      rw [H.1] at h0
      cases h0
  | succ fuel ih =>
    intro listed a w hfree hr hy hS H
    refine ⟨fun h => (by rw [h] at hr; cases hr), fun j hj => ?_⟩
    by_cases hji : j = i
    · subst hji; exact hy.wpOp hi hS ⟨fun _ => hS, H⟩
    · obtain ⟨hjun, oj, hoj, hall⟩ := mem_ready.1 hj
      have hun := (mem_ready.1 hr).1
      have hnot : ∀ e ∈ oj.after, Region.binds md e = true → e.on ≠ i := fun e he hb heq => by
        have h1 := hall e he hb
        rw [heq] at h1
        rcases Nat.lt_or_ge i listed.size with h' | h'
        · simp [h'] at hun h1; rw [hun] at h1; cases h1
        · simp [Array.getElem?_eq_none h'] at h1
      have hJj : J j = true := by
        cases hc : J j with
        | true => rfl
        | false => obtain ⟨e, he, hb, heq⟩ := hW j oj hoj hc; exact absurd heq (hnot e he hb)
      have h2 := wpOp_putIf hoj (hfree j oj hoj hji hjun hnot) (fun cs b => hsel i oi cs b hi) (fun cs b => hsel j oj cs b hoj) hQ hy (H.2 j (ready_mono hj hji))
      have hfree' : ∀ k ok, ops[k]? = some ok → k ≠ i → (listed.setIfInBounds j true).getD k true = false →
          (∀ e ∈ ok.after, Region.binds md e = true → e.on ≠ i) → oi.apart ops ok = true := fun k ok hk hki hun' hno => by
        refine hfree k ok hk hki ?_ hno
        by_cases hjk : j = k
        · subst hjk; exact hjun
        · rwa [getD_set_ne true hjk] at hun'
      refine wpOp_mono (fun a' w' h3 => ⟨fun _ => h3.2.1 hJj, ih (listed.setIfInBounds j true) a' w' hfree' (ready_mono hr (Ne.symm hji)) h3.1 (h3.2.1 hJj) ?_⟩) h2
      rw [Array.setIfInBounds_comm _ _ hji]
      exact h3.2.2
theorem wpAnyJ_take {i : Nat} {oi : Oper} {v : Value} {fuel : Nat} {listed : Array Bool} {a : Act} {w : World} (hi : ops[i]? = some oi) (hJi : J i = true) (hW : Waits md ops J i)
    (hs : Region.noSelect ops = true) (hf : Region.free md ops listed i = true) (hr : (Region.ready md ops listed).contains i = true)
    (hQ : ∀ c a w, Q (.panic c) (a.put oi.dst v) w → Q (.panic c) a w) (hy : YieldsIf P ops S oi v a) (hS : S w)
    (h : wpAnyJ P md ops Q S J fuel (listed.setIfInBounds i true) (a.put oi.dst v) w) : wpAnyJ P md ops Q S J (fuel + 1) listed a w :=
  wpAnyJ_first hi hJi hW (Region.noSelect_spec hs) hQ fuel listed a w (Region.free_spec hi hf) (by simpa using hr) hy hS h
theorem wpAnyJ_done {listed : Array Bool} {a : Act} {w : World} (hr : Region.ready md ops listed = []) (h : Q .normal a w) : ∀ fuel, wpAnyJ P md ops Q S J fuel listed a w
  | 0 => ⟨hr, h⟩
  | _ + 1 => ⟨fun _ => h, by rw [hr]; simp⟩
/-- each of the operations rs comes up next -/
def AllJ (P : Program) (md : Region.Mode) (ops : Array Oper) (Q : Exit → Act → World → Prop) (S : World → Prop) (J : Nat → Bool) (fuel : Nat) (listed : Array Bool) (a : Act) (w : World) (rs : List Nat) : Prop :=
  ∀ i ∈ rs, wpOp P ops Q i (fun a' w' => (J i = true → S w') ∧ wpAnyJ P md ops Q S J fuel (listed.setIfInBounds i true) a' w') a w
theorem AllJ.nil {fuel : Nat} {listed : Array Bool} {a : Act} {w : World} : AllJ P md ops Q S J fuel listed a w [] := fun _ h => by cases h
theorem AllJ.cons {fuel : Nat} {listed : Array Bool} {a : Act} {w : World} {i : Nat} {o : Oper} {rs : List Nat} (ho : ops[i]? = some o)
    (h : ∀ K' : Act → World → Prop, Shut (∀ a w, (J i = true → S w) → wpAnyJ P md ops Q S J fuel (listed.setIfInBounds i true) a w → K' a w) → if Region.wanted o (yielded ops a.tmps) = true then Oper.wp P o a w K' Q else K' (a.put o.dst undef) w)
    (hs : AllJ P md ops Q S J fuel listed a w rs) : AllJ P md ops Q S J fuel listed a w (i :: rs) := fun j hj => by
  rcases List.mem_cons.1 hj with rfl | hj
  · exact wpOp_step ho (fun K' hK => h K' (fun a w hS hW => hK a w ⟨hS, hW⟩))
  · exact hs j hj
theorem wpAnyJ_ready {rs : List Nat} {fuel : Nat} {listed : Array Bool} {a : Act} {w : World} (hr : Region.ready md ops listed = rs) (hne : rs ≠ []) (h : AllJ P md ops Q S J fuel listed a w rs) : wpAnyJ P md ops Q S J (fuel + 1) listed a w :=
  ⟨fun h0 => absurd (hr ▸ h0) hne, hr ▸ h⟩
end
/-- what is not in J waits for i: reckoned -/
def waitsB (md : Region.Mode) (ops : Array Oper) (J : Nat → Bool) (i : Nat) : Bool := (List.range ops.size).all fun j => J j || match ops[j]? with | some oj => oj.after.any (fun e => Region.binds md e && e.on == i) | none => true
theorem waits_of {md : Region.Mode} {ops : Array Oper} {J : Nat → Bool} {i : Nat} (h : waitsB md ops J i = true) : Waits md ops J i := by
  intro j oj hj hJ
  have hlt : j < ops.size := (Array.getElem?_eq_some_iff.1 hj).1
  have h1 := List.all_eq_true.1 h j (List.mem_range.2 hlt)
  simp only [hJ, Bool.false_or, hj] at h1
  obtain ⟨k, hk, he⟩ := Array.any_eq_true.1 h1
  simp only [Bool.and_eq_true, beq_iff_eq] at he
  exact ⟨_, Array.getElem_mem hk, he.1, he.2⟩
end Go.Proofs.YtidfkencjdjkbaaGreatDoor
