import Derived.Test.YtnoedkebmpfagaaWpl
import Derived.Test.YtnoedkebmpfagaaWup
/-
  CHAPTER 16: what is packed is unpacked, and the other way round: Pack and Unpack together.
-/
namespace Go.Proofs.Ytnoedkebmpfagaa
open Go.RowKit Wc

/-- a message whose numbers are ints -/
structure MsgN (m : Msg) : Prop where
  num : I64 m.num
  ru : I64 m.ru
  rd : I64 m.rd
  low : I64 m.low
  high : I64 m.high
  err : I64 m.err
  lu : I64 m.lu
  ld : I64 m.ld
  vs : ∀ x ∈ m.vals, I64 x
theorem i64_0 : I64 0 := by unfold I64; omega
theorem rtR_i64 (t : By) : I64 (rtR t).1.1 ∧ I64 (rtR t).1.2 := ⟨nmR_i64 _, nmR_i64 _⟩
theorem nsR_i64 : ∀ (n : Nat) (t : By), ∀ x ∈ (nsR n t).1, I64 x
  | 0, t, x, hx => by simp [nsR] at hx
  | n + 1, t, x, hx => by
    simp only [nsR, bd, mp, List.mem_cons] at hx
    rcases hx with rfl | hx
    · exact nmR_i64 _
    · exact nsR_i64 n _ x hx
theorem vsR_i64 (t : By) : ∀ x ∈ (vsR t).1, I64 x := by
  intro x hx
  simp only [vsR, bd] at hx
  split at hx
  · exact nsR_i64 _ _ x hx
  · simp at hx
theorem nm_i {t q : By} {n : Int} {f : Bool} (h : nmR t = (n, q, f)) : I64 n := by have := nmR_i64 t; rw [h] at this; exact this
theorem rt_i {t q : By} {n : Int × Int} {f : Bool} (h : rtR t = (n, q, f)) : I64 n.1 ∧ I64 n.2 := by have := rtR_i64 t; rw [h] at this; exact this
theorem vs_i {t q : By} {n : List Int} {f : Bool} (h : vsR t = (n, q, f)) : ∀ x ∈ n, I64 x := by have := vsR_i64 t; rw [h] at this; exact this
theorem msgR_num (t : By) : MsgN (msgR t).1 := by
  obtain ⟨m, r, f, hr⟩ : ∃ m r f, msgR t = (m, r, f) := ⟨_, _, _, rfl⟩
  rw [hr]
  show MsgN m
  obtain ⟨c, t1, f1, h1⟩ : ∃ c q f, nxR t = (c, q, f) := ⟨_, _, _, rfl⟩
  obtain ⟨s, t2, f2, h2⟩ : ∃ c q f, tnR t1 = (c, q, f) := ⟨_, _, _, rfl⟩
  obtain ⟨n, t3, f3, h3⟩ : ∃ c q f, nmR t2 = (c, q, f) := ⟨_, _, _, rfl⟩
  simp only [msgR, bd, h1, h2, h3] at hr
  by_cases k1 : c.toNat = 1
  · obtain ⟨p, t4, f4, h4⟩ : ∃ c q f, tnR t3 = (c, q, f) := ⟨_, _, _, rfl⟩
    obtain ⟨x, t5, f5, h5⟩ : ∃ c q f, tnR t4 = (c, q, f) := ⟨_, _, _, rfl⟩
    obtain ⟨⟨ru, rd⟩, t6, f6, h6⟩ : ∃ c q f, rtR t5 = (c, q, f) := ⟨_, _, _, rfl⟩
    obtain ⟨lo, t7, f7, h7⟩ : ∃ c q f, nmR t6 = (c, q, f) := ⟨_, _, _, rfl⟩
    obtain ⟨hi, t8, f8, h8⟩ : ∃ c q f, nmR t7 = (c, q, f) := ⟨_, _, _, rfl⟩
    simp only [if_pos k1, askR, bd, mp, h4, h5, h6, h7, h8, Prod.mk.injEq] at hr
    obtain ⟨rfl, rfl, rfl⟩ := hr
    exact ⟨nm_i h3, (rt_i h6).1, (rt_i h6).2, nm_i h7, nm_i h8, i64_0, i64_0, i64_0, by intro x hx; simp [msg0] at hx⟩
  · by_cases k2 : c.toNat = 2
    · obtain ⟨er, t4, f4, h4⟩ : ∃ c q f, nmR t3 = (c, q, f) := ⟨_, _, _, rfl⟩
      obtain ⟨l, t5, f5, h5⟩ : ∃ c q f, vsR t4 = (c, q, f) := ⟨_, _, _, rfl⟩
      obtain ⟨⟨lu, ld⟩, t6, f6, h6⟩ : ∃ c q f, rtR t5 = (c, q, f) := ⟨_, _, _, rfl⟩
      simp only [if_neg k1, if_pos k2, rplR, bd, mp, h4, h5, h6, Prod.mk.injEq] at hr
      obtain ⟨rfl, rfl, rfl⟩ := hr
      exact ⟨nm_i h3, i64_0, i64_0, i64_0, i64_0, nm_i h4, (rt_i h6).1, (rt_i h6).2, vs_i h5⟩
    · simp only [if_neg k1, if_neg k2, Prod.mk.injEq] at hr
      obtain ⟨rfl, rfl, rfl⟩ := hr
      exact ⟨nm_i h3, i64_0, i64_0, i64_0, i64_0, i64_0, i64_0, i64_0, by intro x hx; simp [msg0] at hx⟩
/-- how long the parts are -/
theorem msgT_len {m : Msg} (hf : formB m = true) : m.ses.length ≤ (msgT m).length ∧ m.pur.length ≤ (msgT m).length ∧ m.txt.length ≤ (msgT m).length ∧ m.vals.length ≤ (msgT m).length := by
  unfold formB at hf
  unfold msgT
  split at hf
  · rename_i h1
    rw [if_pos h1]
    simp only [Bool.and_eq_true, decide_eq_true_eq] at hf
    simp only [askT, hdT, tnT, List.length_append]
    omega
  · rename_i h1
    split at hf
    · rw [if_neg h1]
      simp only [Bool.and_eq_true, decide_eq_true_eq] at hf
      have e1 := congrArg List.length hf.1
      have e2 := congrArg List.length hf.2.1
      have e3 := nsT_len m.vals
      simp only [List.length_nil] at e1 e2
      simp only [rplT, hdT, tnT, List.length_append]
      omega
    · cases hf
theorem unp_pack {m : Msg} {s : By} (hm : OkM m) (hp : packT m = (s, 0)) : unpT s = (m, 0) := by
  unfold packT at hp
  split at hp
  · rename_i hf
    split at hp
    · simp at hp
    · rename_i hl
      simp only [Prod.mk.injEq, and_true] at hp
      subst hp
      unfold unpT
      rw [if_neg hl, msgR_msg hf hm]
      simp
  · simp at hp
theorem pack_unp {m : Msg} {t : By} (hu : unpT t = (m, 0)) : packT m = (t, 0) ∧ MsgN m ∧ formB m = true ∧ msgT m = t := by
  unfold unpT at hu
  split at hu
  · simp at hu
  · rename_i hl
    split at hu
    · simp at hu
    · rename_i hc
      simp only [Prod.mk.injEq, and_true] at hu
      simp only [not_or, Bool.not_eq_true, Classical.not_not] at hc
      have h : msgR t = (m, [], false) := by rw [← hu, ← hc.1, ← hc.2]
      obtain ⟨h1, h2, -⟩ := msgR_inv h
      refine ⟨?_, by rw [← hu]; exact msgR_num t, h2, h1⟩
      unfold packT
      rw [if_pos h2, h1, if_neg hl]
theorem msgI_unp {m : Msg} {t : By} {sv : Value} {w : World} (hu : unpT t = (m, 0)) (ht : t.length ≤ 9223372036854775807) (hn : Num w w.heap.size sv m.vals) : MsgI w w.heap.size m sv := by
  obtain ⟨-, hN, hf, hT⟩ := pack_unp hu
  have hl := msgT_len hf
  rw [hT] at hl
  exact ⟨by omega, by omega, by omega, hn, hN.num, hN.ru, hN.rd, hN.low, hN.high, hN.err, hN.lu, hN.ld, hN.vs⟩
theorem pack_er (m : Msg) : (packT m).2 = 0 ∨ (packT m).2 = 2 ∨ (packT m).2 = 4 := by
  unfold packT
  split
  · split <;> simp
  · simp
theorem unp_er (t : By) : (unpT t).2 = 0 ∨ (unpT t).2 = 2 ∨ (unpT t).2 = 4 := by
  unfold unpT
  split
  · simp
  · split <;> simp
end Go.Proofs.Ytnoedkebmpfagaa
