import Derived.Test.YtjnclbhpdaonhaaRwd
import Derived.Test.YtjnclbhpdaonhaaRfo
import Derived.Test.YtjnclbhpdaonhaaRfs
import Derived.Test.YtjnclbhpdaonhaaRls
namespace Go.Proofs.Ytjnclbhpdaonhaa
open Go.RowKit Go.Proofs.Ytjnclbhpdaonhaa.Ds

/-- WHAT THE DOCUMENT's Rolls AND Evens ANSWER -/
def AnsR (l : List Pt) (er : Int) (w : World) (e : Ending) (w' : World) : Prop :=
  ∃ v' ds, e = .returned (.tuple #[v', .int .i64 er]) ∧ rd ds = l ∧ Parts w' w'.heap.size v' ds ∧ Below w.heap.size w w'

/-- the bits that are left -/
theorem Ints.rest {w : World} {B nb : Nat} {a : Option Addr} {c : Nat} {xs : List Int} (h : Ints w B nb (.slice a xs.length c) xs) (j : Nat) (hj : j ≤ xs.length) (s : Option Addr)
    (hs : ∀ b o, a = some ⟨b, o, none⟩ → s = if c = j then some ⟨b, o, none⟩ else some ⟨b, o + j, none⟩) : Ints w B nb (.slice s (xs.length - j) (c - j)) (xs.drop j) := by
  by_cases hne : xs.drop j = []
  · have hl : xs.length - j = 0 := by have := congrArg List.length hne; simpa using this
    rw [hl, hne]
    exact ⟨s, c - j, rfl, by simp, by simp, fun h => absurd rfl h⟩
  · have hne' : xs ≠ [] := by rintro rfl; simp at hne
    obtain ⟨a', c', hv, _, _, hx⟩ := id h
    simp only [Value.slice.injEq] at hv
    obtain ⟨rfl, _, rfl⟩ := hv
    obtain ⟨b, o, rfl, _⟩ := hx hne'
    have h2 := h.drop2 j hj
    rw [List.length_drop] at h2
    rw [hs b o rfl]
    exact h2

set_option maxHeartbeats 4000000 in
set_option maxRecDepth 100000 in
theorem rollsR_any (B nb : Nat) (v u : Value) (ts : List Tr) (bits : List Int) (times : Int) (w : World) (hB : B ≤ w.heap.size) (hp : Parts w B v ts) (hv : Ints w B nb u bits) (ht : -9223372036854775808 ≤ times ∧ times ≤ 9223372036854775807) (l : List Pt) (er : Int) (hr : rollsT (rd ts) bits times = (l, er)) :
    Calls Try.prog 8 #[v, u, .int .i64 times] w (AnsR l er w) := by
  obtain ⟨⟨l0, e0⟩, ho⟩ : ∃ x, ownT (rd ts) = x := ⟨_, rfl⟩
  have kw := wrongR_any B v ts w hB hp e0 (by rw [ho])
  have HP : Hid (Parts w B v ts) := hp
  have HV : Hid (Ints w B nb u bits) := hv
  have HO : Hid (ownT (rd ts) = (l0, e0)) := ho
  have HR : Hid (rollsT (rd ts) bits times = (l, er)) := hr
  obtain ⟨a, c, rfl, hc, hl, _⟩ := hp
  obtain ⟨ua, uc, rfl, huc, _⟩ := hv
  clear hr ho
  go_enter Try.func8, Try.ntmps8
  go_wp2_with fail
  refine kw.mono ?_
  rintro e w1 ⟨rfl, hb1⟩
  clear kw
  by_cases h0 : ¬ e0 = 0
  · have h0' : (e0 == 0) = false := by simpa using h0
    have h := HR.out
    simp only [rollsT, HO.out, if_neg h0, Prod.mk.injEq] at h
    obtain ⟨rfl, rfl⟩ := h
    go_wp2
    exact bodyPost_ret (v := .tuple #[.slice none 0 0, .int .i64 e0]) (by simp [results, Try.results8, go_sem]) rfl ⟨.slice none 0 0, [], rfl, rfl, parts_nil _ _, hb1⟩
  obtain rfl : e0 = 0 := by omega
  have HD : Hid (Dis (rd ts)) := (ownT_ok HO.out).2
  have hs1 := hb1.size
  obtain ⟨r, hr⟩ : ∃ r, wrB bits times = r := ⟨_, rfl⟩
  have HRr : Hid (wrB bits times = r) := hr
  have kb := wrongB_any B nb (.slice ua bits.length uc) bits times w1 (HV.out.at hB hb1) r hr
  clear h0 hr
  go_wp2_with fail
  refine kb.mono ?_
  rintro e w1' ⟨rfl, hw1⟩
  subst hw1
  clear kb
  by_cases h1 : ¬ r = 0
  · have h1' : (r == 0) = false := by simpa using h1
    have h := HR.out
    simp only [rollsT, HO.out, if_true, drawsT, HRr.out, if_neg h1, Prod.mk.injEq] at h
    obtain ⟨rfl, rfl⟩ := h
    go_wp2
    exact bodyPost_ret (v := .tuple #[.slice none 0 0, .int .i64 r]) (by simp [results, Try.results8, go_sem]) rfl ⟨.slice none 0 0, [], rfl, rfl, parts_nil _ _, hb1⟩
  obtain rfl : r = 0 := by omega
  have hwr := HRr.out
  unfold wrB at hwr
  have hlen : bits.length ≤ 65536 := by
    rcases Nat.lt_or_ge 65536 bits.length with h | h
    · rw [if_pos h] at hwr; omega
    · exact h
  rw [if_neg (by omega)] at hwr
  have hcon : ¬ (times < 0 ∨ 4096 < times ∨ badB bits = true) := fun h => by rw [if_pos h] at hwr; omega
  have HBad : Hid (badB bits = false) := by
    cases hb : badB bits with
    | true => exact absurd (.inr (.inr hb)) hcon
    | false => rfl
  have htt : 0 ≤ times ∧ times ≤ 4096 := ⟨by rcases Int.lt_or_le times 0 with h | h; exact absurd (.inl h) hcon; exact h, by rcases Int.lt_or_le 4096 times with h | h; exact absurd (.inr (.inl h)) hcon; exact h⟩
  obtain ⟨T, rfl⟩ := Int.eq_ofNat_of_zero_le htt.1
  have h := HR.out
  simp only [rollsT, HO.out, if_true, drawsT, HRr.out, Prod.mk.injEq, Int.toNat_natCast] at h
  have HL : Hid (drT (roN (rd ts)) T bits = l) := h.1
  obtain rfl : (0 : Int) = er := h.2
  have hT : T ≤ 4096 := by omega
  have HVL : Hid (Ints w1' B nb (.slice ua bits.length uc) bits) := HV.out.at hB hb1
  have hbw : Below w.heap.size w w1' := hb1
  obtain ⟨i0, hi0, hz0, hz1, hz2⟩ := info_parts info38
  clear h hcon hwr h1 HR HRr htt
  go_wp2
  go_loopw [1, 10] (fun bv ov wr => ∃ (j : Nat) (ds : List Tr) (a' : Option Addr) (c' : Nat), bv = .slice a' (bits.drop j).length c' ∧ Hid (Ints wr B nb bv (bits.drop j)) ∧ ds.length ≤ T ∧ Hid (Rwd wr w.heap.size ov ds) ∧ Below w.heap.size w wr ∧ Hid (rd ds ++ drT (roN (rd ts)) (T - ds.length) (bits.drop j) = l)) (fun _ ov _ => T - slen ov)
  case atStart => exact ⟨0, [], ua, uc, by simp, by rw [List.drop_zero]; exact HVL, Nat.zero_le _, Rwd.nil _ _, hbw, by simpa [rd, Hid] using HL.out⟩
  case round =>
    obtain ⟨j, ds, a', c', rfl, HVj, hdT, HW, hbl, HLj⟩ := hrel
    have hz := hbl.size
    have hpl := HW.out.lt
    obtain ⟨pa, pc, rfl⟩ := HW.out.slice
    have hbl2 : (bits.drop j).length ≤ 65536 := by simp; omega
    have HBj : Hid (badB (bits.drop j) = false) := bad_drop HBad.out j
    obtain ⟨bj, hbj⟩ : ∃ bj, bits.drop j = bj := ⟨_, rfl⟩
    rw [hbj] at hbl2 HBj HVj HLj ⊢
    have HJ : Hid (bits.drop j = bj) := hbj
    clear hbj
    by_cases h4 : ds.length < T
    · have kc := one_any w.heap.size B nb (.slice a ts.length c) (.slice a' bj.length c') ts bj wr (by omega) hB (HP.out.at hB hbl) HVj.out HD.out HBj.out hbl2
      go_wp2_with fail
      refine kc.mono ?_
      rintro e w2 ⟨hb2, ⟨h5, rfl⟩ | ⟨ra, rc, o, j', h5, hj', rfl, h6⟩⟩
      · have HLl : Hid (rd ds = l) := by have := HLj.out; rw [drT_none h5, List.append_nil] at this; exact this
        have HW2 : Hid (Parts w2 w2.heap.size (.slice pa ds.length pc) ds) := (HW.out.keep hb2).parts (by omega)
        have hbw2 : Below w.heap.size w w2 := bt hbl hb2
        clear kc h5 HW HLj
        go_wp2
        exact bodyPost_ret (v := .tuple #[.slice pa ds.length pc, .int .i64 0]) (by simp [results, Try.results8, go_sem]) rfl ⟨_, ds, rfl, HLl.out, (HW2.out.keep (ba _ _)).mono (by simp), bal hbw2 _⟩
      · have hzz := hb2.size
        obtain ⟨mo, hmo, hmg⟩ : ∃ mo, ((w.heap.size ≤ mo ∧ mo < wr.heap.size) ∨ mo = w2.heap.size) ∧ ∀ g, (Value.slice pa ds.length pc).ownBlock = some g → mo = g := by
          cases e : (Value.slice pa ds.length pc).ownBlock with
          | none => exact ⟨w2.heap.size, .inr rfl, fun g e => by cases e⟩
          | some g => exact ⟨g, .inl (hpl g e), fun g' e => by simpa using e⟩
        have HW2 : Hid (Rwd w2 w.heap.size (.slice pa ds.length pc) ds) := HW.out.keep hb2
        have HL2 : Hid (rd (ds ++ [(.slice ra o.length rc, o, (j' : Int))]) ++ drT (roN (rd ts)) (T - (ds ++ [((.slice ra o.length rc, o, (j' : Int)) : Tr)]).length) (bj.drop j') = l) := by
          have := HLj.out
          rw [show T - ds.length = (T - (ds.length + 1)) + 1 by omega, drT_some h5] at this
          simpa [Hid, rd] using this
        have HI2 : Hid (Ints w2 w2.heap.size mo (.slice ra o.length rc) o) := h6 mo hmo
        have HV2 : Hid (Ints w2 B nb (.slice a' bj.length c') bj) := HVj.out.at (by omega) hb2
        have HO2 : Hid (Rwd ((w2.alloc (.cells #[.slice ra o.length rc, .int .i64 (j' : Int)] 38)).alloc (.cells #[.slice ra o.length rc, .int .i64 (j' : Int)] 38)) w.heap.size (.slice pa ds.length pc) ds) := HW2.out.keep (bal (ba _ _) _)
        have HMG : Hid (∀ g, (Value.slice pa ds.length pc).ownBlock = some g → mo = g) := hmg
        have HPL : Hid (∀ g, (Value.slice pa ds.length pc).ownBlock = some g → g < wr.heap.size) := fun g e => (hpl g e).2
        have HC2 : Hid (((w2.alloc (.cells #[.slice ra o.length rc, .int .i64 (j' : Int)] 38)).alloc (.cells #[.slice ra o.length rc, .int .i64 (j' : Int)] 38)).cell? ⟨w2.heap.size, 1, none⟩ = some (.int .i64 (j' : Int))) := ((Rv.new w2 (.slice ra o.length rc) (j' : Int) 38 w2.heap.size rfl).alloc _).c1
        have hbw2 : Below w.heap.size w w2 := bt hbl hb2
        have hjl : bj.length ≤ c' := by
          obtain ⟨_, _, hv', hc', _⟩ := HV2.out
          simp only [Value.slice.injEq] at hv'
          omega
        have HCS : Hid (∀ b o, a' = some ⟨b, o, none⟩ → True) := fun _ _ _ => trivial
        clear kc h5 h6 HW HLj hmg hpl hb2 HVj HBj HCS
        cases a' with
        | none =>
          have hb0 : bj = [] := by
            rcases bj with _ | ⟨x, r⟩
            · rfl
            · obtain ⟨_, _, hv', _, _, hx⟩ := HV2.out
              obtain ⟨b, o, ha, _⟩ := hx (by simp)
              simp only [Value.slice.injEq] at hv'
              rw [ha] at hv'
              cases hv'.1
          subst hb0
          obtain rfl : j' = 0 := by simpa using hj'
          go_wp2_with (at_builtin; refine wpList_append_own_at _ rfl _ _ 25 rfl w.heap.size 38 i0 (.agg #[.slice none 0 0, .int .i64 0]) 2 32 Try.underlying25 hi0 hz0 hz1 hz2 rfl (by decide) _ _ _ rfl HO2.out.1 ⟨w2.heap.size + 1, 0, none⟩ 1 1 [.slice ra o.length rc, .int .i64 ((0 : Nat) : Int)] rfl ?q1 ?q2 ?q3 ?q4 ?q5 ?q6 ?_)
          case q1 => rfl
          case q2 =>
            intro j u hj
            match j, hj with
            | 0, hj => simp at hj; subst hj; simp [go_sem, Addr.add]
            | 1, hj => simp at hj; subst hj; simp [go_sem, Addr.add]
          case q3 => intro u hu; simp at hu; rcases hu with rfl | rfl <;> rfl
          case q4 => simp [maxLen]; omega
          case q5 => omega
          case q6 => simp; omega
          intro v3 w3 hown3 hgrow hnil hat
          have HW3 : Hid (Rwd w3 w.heap.size v3 (ds ++ [(.slice ra o.length rc, o, ((0 : Nat) : Int))])) := HO2.out.app hown3 hgrow (by simpa using hat) (HI2.out.at2 (bal (ba _ _) _)) HMG.out
          have hb3 : Below w.heap.size w2 w3 := (((Below.refl w.heap.size w2).alloc (by omega) _).alloc (by simp; omega) _).grown hgrow (by simp; omega) (owns_block HO2.out.1)
          have c3 : w3.cell? ⟨w2.heap.size, 1, none⟩ = some (.int .i64 ((0 : Nat) : Int)) := hgrow.cell HC2.out (fun e => by have := HPL.out w2.heap.size e.symm; omega)
          obtain ⟨a3, c3', rfl⟩ := HW3.out.slice
          have hbw3 : Below w.heap.size w w3 := hbw2.trans hb3
          have HV3 : Hid (Ints w3 B nb (.slice none ([] : List Int).length c') ([] : List Int)) := HV2.out.keep (hb3.mono hB)
          clear hown3 hgrow hnil hat HO2 HW2 HC2
          go_wp2
          go_roundw
          case rel => exact ⟨j, ds ++ [(.slice ra o.length rc, o, ((0 : Nat) : Int))], none, c', by rw [HJ.out]; rfl, by rw [HJ.out]; exact HV3, by simp; omega, HW3, hbw3, by rw [HJ.out]; simpa using HL2⟩
          case measure => simp [slen]; omega
        | some ad =>
          have hsp : ∃ b o, ad = ⟨b, o, none⟩ ∨ bj = [] := by
            rcases bj with _ | ⟨x, r⟩
            · exact ⟨0, 0, .inr rfl⟩
            · obtain ⟨_, _, hv', _, _, hx⟩ := HV2.out
              obtain ⟨b, o, ha, _⟩ := hx (by simp)
              simp only [Value.slice.injEq] at hv'
              rw [ha] at hv'
              exact ⟨b, o, .inl (by simpa using hv'.1)⟩
          go_wp2_with (at_builtin; refine wpList_append_own_at _ rfl _ _ 25 rfl w.heap.size 38 i0 (.agg #[.slice none 0 0, .int .i64 0]) 2 32 Try.underlying25 hi0 hz0 hz1 hz2 rfl (by decide) _ _ _ rfl HO2.out.1 ⟨w2.heap.size + 1, 0, none⟩ 1 1 [.slice ra o.length rc, .int .i64 (j' : Int)] rfl ?q1 ?q2 ?q3 ?q4 ?q5 ?q6 ?_)
          case q1 => rfl
          case q2 =>
            intro j u hj
            match j, hj with
            | 0, hj => simp at hj; subst hj; simp [go_sem, Addr.add]
            | 1, hj => simp at hj; subst hj; simp [go_sem, Addr.add]
          case q3 => intro u hu; simp at hu; rcases hu with rfl | rfl <;> rfl
          case q4 => simp [maxLen]; omega
          case q5 => omega
          case q6 => simp; omega
          intro v3 w3 hown3 hgrow hnil hat
          have HW3 : Hid (Rwd w3 w.heap.size v3 (ds ++ [(.slice ra o.length rc, o, (j' : Int))])) := HO2.out.app hown3 hgrow (by simpa using hat) (HI2.out.at2 (bal (ba _ _) _)) HMG.out
          have hb3 : Below w.heap.size w2 w3 := (((Below.refl w.heap.size w2).alloc (by omega) _).alloc (by simp; omega) _).grown hgrow (by simp; omega) (owns_block HO2.out.1)
          have c3 : w3.cell? ⟨w2.heap.size, 1, none⟩ = some (.int .i64 (j' : Int)) := hgrow.cell HC2.out (fun e => by have := HPL.out w2.heap.size e.symm; omega)
          obtain ⟨a3, c3', rfl⟩ := HW3.out.slice
          have hbw3 : Below w.heap.size w w3 := hbw2.trans hb3
          have HV3 : Hid (Ints w3 B nb (.slice (some ad) bj.length c') bj) := HV2.out.keep (hb3.mono hB)
          clear hown3 hgrow hnil hat HO2 HW2 HC2
          go_wp2
          go_roundw
          case rel =>
            have HJ2 : bits.drop (j + j') = bj.drop j' := by rw [← HJ.out, List.drop_drop]
            refine ⟨j + j', ds ++ [(.slice ra o.length rc, o, (j' : Int))], (if c' = j' then some ad else some (ad.add j')), c' - j', by rw [HJ2, List.length_drop], ?_, by simp; omega, HW3, hbw3, by rw [HJ2]; exact HL2⟩
            rw [HJ2]
            exact HV3.out.rest j' hj' _ fun b o h => by
              simp only [Option.some.injEq] at h
              subst h
              rw [Addr.add_lit]
          case measure => simp [slen]; omega
    · have HLl : Hid (rd ds = l) := by have := HLj.out; rw [show T - ds.length = 0 by omega] at this; simpa [Hid, drT] using this
      have HW2 : Hid (Parts wr wr.heap.size (.slice pa ds.length pc) ds) := HW.out.parts (by omega)
      clear HW HLj hpl
      go_wp2
      exact bodyPost_ret (v := .tuple #[.slice pa ds.length pc, .int .i64 0]) (by simp [results, Try.results8, go_sem]) rfl ⟨_, ds, rfl, HLl.out, HW2.out, hbl⟩
end Go.Proofs.Ytjnclbhpdaonhaa
