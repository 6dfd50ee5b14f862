import Derived.Test.YtfcbkcoagoncoaaQh07
import Derived.Test.YtfcbkcoagoncoaaQh33
import Derived.Test.YtfcbkcoagoncoaaQh25
namespace Go.Proofs.Ytfcbkcoagoncoaa
open Go.RowKit Go.Proofs.Ytfcbkcoagoncoaa.Ds Go.Proofs.Ytfcbkcoagoncoaa.Crd

namespace Crd
/-- how many ways there are -/
theorem cnts_many {n : Nat} (hn : n ≤ 12) : ∀ k, (cnts n k).length ≤ 13 ^ k := by
  intro k
  induction k generalizing n with
  | zero => simp [cnts]
  | succ k ih =>
    simp only [cnts, List.length_flatMap, List.length_map]
    have key : ∀ r : List Nat, (r.map fun i => (cnts (n - i) k).length).sum ≤ r.length * 13 ^ k := by
      intro r
      induction r with
      | nil => simp
      | cons x r ihr =>
        have := ih (n := n - x) (by omega)
        rw [List.map_cons, List.sum_cons, List.length_cons, Nat.add_mul]
        omega
    have h1 := key (List.range (n + 1))
    rw [List.length_range] at h1
    have h2 : (n + 1) * 13 ^ k ≤ 13 * 13 ^ k := Nat.mul_le_mul_right _ (by omega)
    rw [Nat.pow_succ, Nat.mul_comm (13 ^ k)]
    exact Nat.le_trans h1 h2
theorem cnts_few {n k : Nat} (hn : n ≤ 12) (hk : k ≤ 6) : (cnts n k).length ≤ 4826809 := Nat.le_trans (cnts_many hn k) (Nat.le_trans (Nat.pow_le_pow_right (by omega) hk) (by decide))
/-- the ways up to a first number -/
def pre (n k i : Nat) : List (List Int) := (List.range i).flatMap fun i => (cnts (n - i) k).map fun l => (i : Int) :: l
theorem pre_all (n k : Nat) : pre n k (n + 1) = cnts n (k + 1) := rfl
theorem pre_succ (n k i : Nat) : pre n k (i + 1) = pre n k i ++ (cnts (n - i) k).map fun l => (i : Int) :: l := by
  unfold pre
  rw [List.range_succ, List.flatMap_append]
  simp
theorem take_next' {α β : Type} (f : α → β) {l : List α} {j : Nat} {x : α} (h : l[j]? = some x) : (l.map f).take (j + 1) = (l.map f).take j ++ [f x] := by
  rw [List.take_add_one]
  congr 1
  simp [h]
end Crd

/-- each lies in a block of one's own -/
def Ful (lo : Nat) (os : List Ol) : Prop := ∀ t ∈ os, ∀ g n c, t.1 = .slice (some ⟨g, 0, none⟩) n c → lo ≤ g
theorem Ful.mono {lo lo' : Nat} {os : List Ol} (h : Ful lo os) (hl : lo' ≤ lo) : Ful lo' os := fun t ht g n c e => Nat.le_trans hl (h t ht g n c e)
theorem ful_app {w : World} {lo lo' n c : Nat} {a : Option Addr} {os : List Ol} {M : List Int} (h : Ful lo os) (ho : Ow w lo' (.slice a n c) M) (hM : 0 < M.length) (hl : lo ≤ lo') : Ful lo (os ++ [(.slice a n c, M)]) := by
  intro t ht g n' c' e
  rcases List.mem_append.1 ht with h1 | h1
  · exact h t h1 g n' c' e
  · obtain rfl : t = (.slice a n c, M) := by simpa using h1
    have hn : n = M.length := by
      obtain ⟨_, _, e2⟩ := ho.slice
      simp only [Value.slice.injEq] at e2
      exact e2.2.1
    subst hn
    obtain ⟨g2, cap, hv, _, hg, _⟩ := rowi_of_owns rfl ho (owns_some ho hM)
    simp only at e
    rw [hv] at e
    simp only [Value.slice.injEq, Option.some.injEq, Addr.mk.injEq] at e
    omega
theorem ow_one (w : World) (x : Int) : Ow (w.alloc (.cells #[.int .i64 x] 3)) w.heap.size (.slice (some ⟨w.heap.size, 0, none⟩) 1 1) [x] :=
  ⟨by simp, .inr ⟨w.heap.size, 1, #[.int .i64 x], rfl, Nat.le_refl _, heap_alloc_new w _, Nat.le_refl _, by decide, by simp, by simp⟩⟩

set_option maxHeartbeats 2000000 in
set_option maxRecDepth 100000 in
/-- the reference's Counts -/
theorem counts_any : ∀ (k n : Nat), k ≤ 7 → n ≤ 12 → ∀ (w : World), Calls Try.prog 21 #[.int .i64 (n : Int), .int .i64 ((k : Int) + 1)] w fun e w' => ∃ v os, e = .returned v ∧ os.map (·.2) = cnts n k ∧ Lls w' w.heap.size v os ∧ Ful w.heap.size os ∧ Below w.heap.size w w' := by
  intro k
  induction k with
  | zero =>
    intro n _ hn w
    go_enter Try.func21, Try.ntmps21
    go_wp2
    go_ret
    refine ⟨_, [(.slice (some ⟨w.heap.size, 0, none⟩) 1 1, [(n : Int)])], rfl, rfl, ⟨⟨rfl, .inr ⟨w.heap.size + 1, 1, #[.slice (some ⟨w.heap.size, 0, none⟩) 1 1], by simp, by omega, ?_, Nat.le_refl _, by decide, by simp, by simp⟩⟩, fun t ht => ?_⟩, fun t ht g n c e => ?_, bal (ba _ _) _⟩
    · have := heap_alloc_new (w.alloc (.cells #[.int .i64 (n : Int)] 3)) (.cells #[.slice (some ⟨w.heap.size, 0, none⟩) 1 1] 24)
      simpa using this
    · simp at ht
      subst ht
      refine ⟨w.heap.size + 1, ⟨w.heap.size, 1, rfl, Nat.le_refl _, by simp, by simp <;> omega, by omega, fun i x hi => ?_⟩, fun g e => by simp [Value.ownBlock] at e; omega⟩
      match i, hi with
      | 0, hi => simp at hi; subst hi; simp [go_sem]
    · simp at ht
      subst ht
      simp only [Value.slice.injEq, Option.some.injEq, Addr.mk.injEq] at e
      omega
  | succ k ih =>
    intro n hk hn w
    have IH : Hid (∀ m : Nat, m ≤ 12 → ∀ (w : World), Calls Try.prog 21 #[.int .i64 (m : Int), .int .i64 ((k : Int) + 1)] w fun e w' => ∃ v os, e = .returned v ∧ os.map (·.2) = cnts m k ∧ Lls w' w.heap.size v os ∧ Ful w.heap.size os ∧ Below w.heap.size w w') := fun m hm => ih m (by omega) hm
    obtain ⟨i0, hi0, hz0, hz1, hz2⟩ := info_parts info24
    have ek : (((k + 1 : Nat) : Int) + 1) = (k : Int) + 2 := by omega
    rw [ek]
    have c1 : (((k : Int) + 2) == 1) = false := by simp; omega
    have f1 : IntKind.i64.wrap ((k : Int) + 2 - 1) = (k : Int) + 1 := by rw [IntKind.wrap_i64]; omega
    clear ih ek
    go_enter Try.func21, Try.ntmps21
    go_wp2_with fail
    go_loopw [5, 6] (fun pv s wr => ∃ (i : Nat) (ds : List Ol), s = .int .i64 (i : Int) ∧ i ≤ n + 1 ∧ Hid (ds.map (·.2) = pre n k i ∧ ds.length ≤ i * 4826809) ∧ Hid (Lls wr w.heap.size pv ds) ∧ Hid (Ful w.heap.size ds) ∧ Below w.heap.size w wr) (fun _ s _ => n + 1 - (intOf s).toNat)
    case atStart => exact ⟨0, [], rfl, Nat.zero_le _, ⟨rfl, by simp⟩, Lls.nil _ _, (fun t ht => by cases ht), Below.refl _ _⟩
    case round =>
      obtain ⟨wA, rfl⟩ : ∃ wA : World, wA = wr := ⟨_, rfl⟩
      obtain ⟨i, ds, rfl, hit, HD, HW, HFd, hbl⟩ := hrel
      have hbs := hbl.size
      obtain ⟨pa, pc, rfl⟩ := HW.out.slice
      by_cases h1 : i ≤ n
      · obtain ⟨m, hm⟩ : ∃ m, n - i = m := ⟨_, rfl⟩
        have hmi : IntKind.i64.wrap ((n : Int) - (i : Int)) = (m : Int) := by rw [IntKind.wrap_i64]; omega
        have hm12 : m ≤ 12 := by omega
        have HMi : Hid (n - i = m) := hm
        have h1' : (i : Int) ≤ (n : Int) := by omega
        have kc := IH.out m hm12 wA
        clear hm
        go_wp2_with fail
        refine kc.mono ?_
        rintro e w1 ⟨v1, os, rfl, ho1, hl1, hf1, hb1⟩
        clear kc
        obtain ⟨oa, oc, rfl⟩ := hl1.slice
        have hb1s := hb1.size
        have hfew : os.length ≤ 4826809 := by
          have := congrArg List.length ho1
          rw [List.length_map] at this
          rw [this]
          exact cnts_few hm12 (by omega)
        have HOs : Hid (os.map (·.2) = cnts m k) := ho1
        have HL1 : Hid (Lls w1 wA.heap.size (.slice oa os.length oc) os) := hl1
        have HF1 : Hid (Ful wA.heap.size os) := hf1
        have HW1 : Hid (Lls w1 w.heap.size (.slice pa ds.length pc) ds) := HW.out.keep hb1
        have hbl1 : Below w.heap.size w w1 := bt hbl hb1
        have HPL : Hid (∀ g, (Value.slice pa ds.length pc).ownBlock = some g → g < wA.heap.size) := fun g e => (HW.out.lt g e).2
        clear ho1 hl1 hf1 HW
        go_wp2_with fail
        go_loopw [5, 26] (fun pv s wq => ∃ (j : Nat) (es : List Ol), s = .int .i64 (j : Int) ∧ j ≤ os.length ∧ Hid (es.map (·.2) = pre n k i ++ ((cnts m k).map fun l => (i : Int) :: l).take j ∧ es.length ≤ i * 4826809 + j) ∧ Hid (Lls wq w.heap.size pv es) ∧ Hid (Ful w.heap.size es) ∧ Below w.heap.size w wq ∧ Hid (∀ b o x, wA.heap.size ≤ b → b < w1.heap.size → w1.cell? ⟨b, o, none⟩ = some x → wq.cell? ⟨b, o, none⟩ = some x) ∧ Hid (∀ g, pv.ownBlock = some g → g < wA.heap.size ∨ w1.heap.size ≤ g) ∧ w1.heap.size ≤ wq.heap.size) (fun _ s _ => os.length - (intOf s).toNat)
        case atStart => exact ⟨0, ds, rfl, Nat.zero_le _, ⟨by rw [HD.out.1, List.take_zero, List.append_nil], Nat.le_trans HD.out.2 (Nat.le_add_right _ _)⟩, HW1, HFd, hbl1, fun b o x _ _ h => h, fun g e => .inl (HPL.out g e), Nat.le_refl _⟩
        case round =>
          obtain ⟨j, es, rfl, hjt, HE, HWq, HFq, hbq, HK, HPq, hwq⟩ := hrel
          have hbqs := hbq.size
          obtain ⟨qa, qc, rfl⟩ := HWq.out.slice
          by_cases h2 : j < os.length
          · obtain ⟨b, c, g, cap, xs, he, hc, hb0, hb2, ht, hct, hxc, hxl, hg, hx⟩ := HL1.out.get h2
            simp only [Value.slice.injEq, true_and] at he
            obtain ⟨rfl, rfl⟩ := he
            have hgf : wA.heap.size ≤ g := HF1.out _ (List.mem_of_getElem? ht) g _ _ rfl
            have hix : (cnts m k)[j]? = some xs := by rw [← HOs.out]; simp [ht]
            have hxn : xs.length = k + 1 := cnts_len (List.mem_of_getElem? hix)
            have hx8 : xs.length ≤ 8 := by omega
            have HIx : Hid ((cnts m k)[j]? = some xs) := hix
            have hct2 := HK.out b j _ hb0 hb2 hct
            have HNX : Hid (Num (wr.alloc (.cells #[.int .i64 (i : Int)] 3)) (wr.heap.size + 1) (.slice (some ⟨g, 0, none⟩) xs.length cap) xs) := by
              refine ⟨_, cap, rfl, hxc, by omega, fun _ => ⟨g, 0, rfl, by omega, fun q x hq => ?_⟩⟩
              rw [Nat.zero_add]
              exact (World.cell?_alloc_lt _ _ _ (by show g < _; omega)).trans (HK.out g q _ hgf hg (hx q x hq))
            have HO1 : Hid (Ow (wr.alloc (.cells #[.int .i64 (i : Int)] 3)) wr.heap.size (.slice (some ⟨wr.heap.size, 0, none⟩) 1 1) [(i : Int)]) := ow_one wr (i : Int)
            obtain ⟨mo, hmo, hmg⟩ := own_or3 (n := wr.heap.size) (fun g e => (HWq.out.lt g e).2) (by omega)
            have HMG : Hid (∀ g, (Value.slice qa es.length qc).ownBlock = some g → mo = g) := hmg
            have HEL : Hid (es.length ≤ 70000000) := by
              have h4 := HE.out.2
              have h5 : i * 4826809 ≤ 12 * 4826809 := Nat.mul_le_mul_right _ (by omega)
              show es.length ≤ 70000000
              omega
            clear ht hct hx hix hxn hmg
            go_wp2_with (at_builtin; refine wpList_ow _ rfl _ _ rfl wr.heap.size (wr.heap.size + 1) 1 (some ⟨wr.heap.size, 0, none⟩) 1 [(i : Int)] xs ((i : Int) :: xs) rfl rfl HO1.out (.slice (some ⟨g, 0, none⟩) xs.length cap) rfl HNX.out rfl ?p1 ?p2 (xs.length + 1) ?p3 ?_)
            case p1 => omega
            case p2 => simp
            case p3 => omega
            intro a3 c3 w3 hO3 hG3 hB3
            have hb3 : Below wr.heap.size wr w3 := (ba _ _).trans hB3
            have hb3s := hb3.size
            have HO3 : Hid (Ow w3 wr.heap.size (.slice a3 (xs.length + 1) c3) ((i : Int) :: xs)) := hO3
            have HI3 : Hid (OE (w3.alloc (.cells #[.slice a3 (xs.length + 1) c3] 24)) mo (.slice a3 (xs.length + 1) c3) ((i : Int) :: xs)) := (oe_of_ow hO3 (by simp) (by simp; omega) mo hmo).keep (ba _ _)
            have HWb : Hid (Lls (w3.alloc (.cells #[.slice a3 (xs.length + 1) c3] 24)) w.heap.size (.slice qa es.length qc) es) := HWq.out.keep (bal hb3 _)
            clear hO3 hG3 hB3
            go_wp2_with (at_builtin; refine wpList_append_own_at _ rfl _ _ 48 rfl w.heap.size 24 i0 (.slice none 0 0) 1 24 Try.underlying48 hi0 hz0 hz1 hz2 rfl (by decide) _ _ _ rfl HWb.out.1 ⟨w3.heap.size, 0, none⟩ 1 1 [.slice a3 (xs.length + 1) c3] rfl ?q1 ?q2 ?q3 ?q4 ?q5 ?q6 ?_)
            case q1 => rfl
            case q2 =>
              intro j u hj
              match j, hj with
              | 0, hj => simp at hj; subst hj; simp [go_sem, Addr.add]
            case q3 => intro u hu; simp at hu; subst hu; rfl
            case q4 => have := HEL.out; simp [maxLen]; omega
            case q5 => have := HEL.out; omega
            case q6 => simp; omega
            intro v4 w4 hown4 hgrow hnil hat
            have HW4 : Hid (Lls w4 w.heap.size v4 (es ++ [(.slice a3 (xs.length + 1) c3, (i : Int) :: xs)])) := HWb.out.app hown4 hgrow (by simpa using hat) HI3.out HMG.out
            have hb4 : Below w.heap.size w w4 := (bal (bt hbq hb3) _).grown hgrow (by simp; omega) (owns_block HWb.out.1)
            have hs4 := hgrow.size
            have HF4 : Hid (Ful w.heap.size (es ++ [(.slice a3 (xs.length + 1) c3, (i : Int) :: xs)])) := ful_app HFq.out HO3.out (by simp) hbqs
            have HK4 : Hid (∀ b o x, wA.heap.size ≤ b → b < w1.heap.size → w1.cell? ⟨b, o, none⟩ = some x → w4.cell? ⟨b, o, none⟩ = some x) := by
              intro b' o' x' h5 h6 h7
              have h8 := HK.out b' o' x' h5 h6 h7
              have h9 : w3.cell? ⟨b', o', none⟩ = some x' := (hb3.cell (p := ⟨b', o', none⟩) (by show b' < _; omega)).trans h8
              refine hgrow.cell ((World.cell?_alloc_lt _ _ _ (by show b' < _; omega)).trans h9) fun e => ?_
              have := HPq.out b' e.symm
              omega
            have HP4 : Hid (∀ g, v4.ownBlock = some g → g < wA.heap.size ∨ w1.heap.size ≤ g) := by
              intro g' e'
              rcases hat with hat | hat
              · rw [hat] at e'; exact HPq.out g' e'
              · rw [hat] at e'
                simp at e'
                right; omega
            have hw4 : w1.heap.size ≤ w4.heap.size := by simp at hs4; omega
            obtain ⟨a4, c4, rfl⟩ := HW4.out.slice
            have HE4 : Hid ((es ++ [((.slice a3 (xs.length + 1) c3, (i : Int) :: xs) : Ol)]).map (·.2) = pre n k i ++ ((cnts m k).map fun l => (i : Int) :: l).take (j + 1) ∧ (es ++ [((.slice a3 (xs.length + 1) c3, (i : Int) :: xs) : Ol)]).length ≤ i * 4826809 + (j + 1)) := by
              refine ⟨?_, by have := HE.out.2; simp; omega⟩
              rw [take_next' (fun l => (i : Int) :: l) HIx.out, ← List.append_assoc, ← HE.out.1]
              simp
            clear hown4 hgrow hnil hat HWb
            go_wp2
            go_roundw
            case rel => exact ⟨j + 1, _, by go_num, by omega, HE4, HW4, HF4, hb4, HK4, HP4, hw4⟩
            case measure => simp [intOf]; omega
          · have hj : j = os.length := by omega
            have HE4 : Hid (es.map (·.2) = pre n k (i + 1) ∧ es.length ≤ (i + 1) * 4826809) := by
              refine ⟨?_, by have := HE.out.2; rw [Nat.add_mul]; omega⟩
              rw [pre_succ, HMi.out, HE.out.1]
              congr 1
              refine List.take_of_length_le ?_
              rw [List.length_map, ← HOs.out, List.length_map, hj]
              exact Nat.le_refl _
            clear HK HPq
            go_wp2
            go_roundw
            case rel => exact ⟨i + 1, es, by go_num, by omega, HE4, HWq, HFq, hbq⟩
            case measure => simp [intOf]; omega
      · have hi : i = n + 1 := by omega
        have HE4 : ds.map (·.2) = cnts n (k + 1) := by rw [HD.out.1, hi, pre_all]
        have HE5 : Hid (ds.map (·.2) = cnts n (k + 1)) := HE4
        have h1' : ¬ (i : Int) ≤ (n : Int) := by omega
        clear HE4 hi HD
        go_wp2
        go_ret
        exact ⟨_, rfl, ds, HE5.out, HW.out, HFd.out, hbl⟩
end Go.Proofs.Ytfcbkcoagoncoaa
