import Derived.Test.YtjnclbhpdaonhaaRwd
import Derived.Test.YtjnclbhpdaonhaaBad
import Derived.Test.YtjnclbhpdaonhaaNxr
namespace Go.Proofs.Ytjnclbhpdaonhaa
open Go.RowKit Go.Proofs.Ytjnclbhpdaonhaa.Ds

set_option maxHeartbeats 2000000 in
set_option maxRecDepth 100000 in
theorem draws_r (B N E : Nat) {S : Type} (St : World → S → Prop) (go : S → Nx) (us : S → Int) (s0 : S) (sur : Option (List Int)) (D : Drw N E 24 23 St go us s0 sur) (v : Value) (bits : List Int) (times : Int) (w : World) (hB : B ≤ N) (hN : N ≤ w.heap.size) (hs : St w s0) (hv : Ints w B E v bits) (ht : -9223372036854775808 ≤ times ∧ times ≤ 9223372036854775807) (l : List Pt) (er : Int) (hr : drawsT (nxT go s0 sur) bits times = (l, er)) :
    Calls Try.prog 19 #[.iface 45 (.pointer (some ⟨E, 0, none⟩)), v, .int .i64 times] w (DrawsP E l er w) := by
  have HV : Hid (Ints w B E v bits) := hv
  have HD : Hid (Drw N E 24 23 St go us s0 sur) := D
  have HS : Hid (St w s0) := hs
  have HR : Hid (drawsT (nxT go s0 sur) bits times = (l, er)) := hr
  have lt := D.lt
  obtain ⟨a, c, rfl, hc, hl, _⟩ := hv
  clear D hs hr
  by_cases h1 : 65536 < bits.length
  · have h := HR.out
    simp only [drawsT, wrB, if_pos h1] at h
    simp at h
    obtain ⟨rfl, rfl⟩ := h
    go_enter Try.func19, Try.ntmps19
    go_wp2
    exact bodyPost_ret (v := .tuple #[.slice none 0 0, .int .i64 5]) (by simp [results, Try.results19, go_sem]) rfl ⟨.slice none 0 0, ([] : List Tr), rfl, rfl, parts_nil _ _, gb_refl _ _, NewAt.nil _⟩
  by_cases h2 : times < 0
  · have h := HR.out
    simp only [drawsT, wrB, if_neg h1, if_pos (show times < 0 ∨ 4096 < times ∨ badB bits = true from .inl h2)] at h
    simp at h
    obtain ⟨rfl, rfl⟩ := h
    go_enter Try.func19, Try.ntmps19
    go_wp2
    exact bodyPost_ret (v := .tuple #[.slice none 0 0, .int .i64 3]) (by simp [results, Try.results19, go_sem]) rfl ⟨.slice none 0 0, ([] : List Tr), rfl, rfl, parts_nil _ _, gb_refl _ _, NewAt.nil _⟩
  by_cases h3 : 4096 < times
  · have h := HR.out
    simp only [drawsT, wrB, if_neg h1, if_pos (show times < 0 ∨ 4096 < times ∨ badB bits = true from .inr (.inl h3))] at h
    simp at h
    obtain ⟨rfl, rfl⟩ := h
    go_enter Try.func19, Try.ntmps19
    go_wp2
    exact bodyPost_ret (v := .tuple #[.slice none 0 0, .int .i64 3]) (by simp [results, Try.results19, go_sem]) rfl ⟨.slice none 0 0, ([] : List Tr), rfl, rfl, parts_nil _ _, gb_refl _ _, NewAt.nil _⟩
  cases hbad : badB bits with
  | true =>
    have h := HR.out
    simp only [drawsT, wrB, if_neg h1, if_pos (show times < 0 ∨ 4096 < times ∨ badB bits = true from .inr (.inr hbad))] at h
    simp at h
    obtain ⟨rfl, rfl⟩ := h
    have kc := containsB_any B E _ bits w HV.out false (by have := bad_all bits; rw [hbad] at this; simpa using this.symm)
    clear hbad
    go_enter Try.func19, Try.ntmps19
    go_wp2_with fail
    refine kc.mono ?_
    rintro e w1 ⟨rfl, rfl⟩
    clear kc
    go_wp2
    exact bodyPost_ret (v := .tuple #[.slice none 0 0, .int .i64 3]) (by simp [results, Try.results19, go_sem]) rfl ⟨.slice none 0 0, ([] : List Tr), rfl, rfl, parts_nil _ _, gb_refl _ _, NewAt.nil _⟩
  | false =>
    have HBad : Hid (badB bits = false) := hbad
    have h := HR.out
    simp only [drawsT, wrB, if_neg h1, if_neg (show ¬ (times < 0 ∨ 4096 < times ∨ badB bits = true) from by simp [hbad]; omega)] at h
    simp at h
    have HL : Hid (drT (nxT go s0 sur) times.toNat bits = l) := h.1
    obtain rfl : (0 : Int) = er := h.2
    obtain ⟨T, rfl⟩ := Int.eq_ofNat_of_zero_le (show 0 ≤ times by omega)
    rw [Int.toNat_natCast] at HL
    have kc := containsB_any B E _ bits w HV.out true (by have := bad_all bits; rw [hbad] at this; simpa using this.symm)
    obtain ⟨i0, hi0, hz0, hz1, hz2⟩ := info_parts info38
    clear hbad h HR
    have hT : T ≤ 4096 := by omega
    go_enter Try.func19, Try.ntmps19
    go_wp2_with fail
    refine kc.mono ?_
    rintro e w1 ⟨rfl, rfl⟩
    clear kc
    go_wp2
    go_loopw [1, 8] (fun bv ov wr => ∃ (j : Nat) (ds : List Tr) (a' : Option Addr) (c' : Nat), bv = .slice a' (bits.drop j).length c' ∧ Hid (Ints wr B E bv (bits.drop j)) ∧ ds.length ≤ T ∧ Hid (Rwd wr w1.heap.size ov ds) ∧ Hid (Frs w1.heap.size ds) ∧ Hid (St wr s0) ∧ Hid (w1.grownBy wr (some E)) ∧ Hid (rd ds ++ drT (nxT go s0 sur) (T - ds.length) (bits.drop j) = l)) (fun _ ov _ => T - slen ov)
    case atStart => exact ⟨0, [], a, c, by simp, by rw [List.drop_zero]; exact HV, Nat.zero_le _, Rwd.nil _ _, Frs.nil _, HS, gb_refl _ _, by simpa [rd, Hid] using HL.out⟩
    case round =>
      obtain ⟨j, ds, a', c', rfl, HVj, hdT, HW, HF, HSj, HG, HLj⟩ := hrel
      have hz := HG.out.size
      have hpl := HW.out.lt
      obtain ⟨pa, pc, rfl⟩ := HW.out.slice
      have HNA : Hid (NewAt w1.heap.size (.slice pa ds.length pc) ds) := ⟨fun g e => (hpl g e).1, HF.out⟩
      have hbl : (bits.drop j).length ≤ 65536 := by simp; omega
      have HBj : Hid (badB (bits.drop j) = false) := bad_drop HBad.out j
      obtain ⟨bj, hbj⟩ : ∃ bj, bits.drop j = bj := ⟨_, rfl⟩
      rw [hbj] at hbl HBj HVj HLj ⊢
      have HJ : Hid (bits.drop j = bj) := hbj
      clear hbj
      by_cases h4 : ds.length < T
      · have kc := next_r B N E St go us s0 sur HD.out (.slice a' bj.length c') bj wr hB (by omega) HSj.out HVj.out HBj.out hbl
        obtain ⟨mo, hmo, hmg⟩ := own_or (n := wr.heap.size) (fun g e => (hpl g e).2) (by omega)
        go_wp2_with fail
        refine kc.mono ?_
        rintro e w2 ⟨hg2, ⟨h5, rfl⟩ | ⟨ra, rc, o, k, ra', rc', j', h5, rfl, h6, h7, h8⟩⟩
        · have HLl : Hid (rd ds = l) := by have := HLj.out; rw [drT_none h5, List.append_nil] at this; exact this
          have HW2 : Hid (Parts w2 w2.heap.size (.slice pa ds.length pc) ds) := (HW.out.gb hg2 (by omega) HF.out).parts (by omega)
          have HG2 : Hid (w1.grownBy w2 (some E)) := gb_trans HG.out hg2
          clear kc hg2 h5 HW HLj
          go_wp2
          exact bodyPost_ret (v := .tuple #[.slice pa ds.length pc, .int .i64 0]) (by simp [results, Try.results19, go_sem]) rfl ⟨_, ds, rfl, HLl.out, (HW2.out.keep (ba _ _)).mono (by simp), gb_alloc HG2.out _, HNA.out⟩
        · have HW2 : Hid (Rwd w2 w1.heap.size (.slice pa ds.length pc) ds) := HW.out.gb hg2 (by omega) HF.out
          have HG2 : Hid (w1.grownBy w2 (some E)) := gb_trans HG.out hg2
          have HL2 : Hid (rd (ds ++ [(.slice ra o.length rc, o, k)]) ++ drT (nxT go s0 sur) (T - (ds ++ [((.slice ra o.length rc, o, k) : Tr)]).length) (bj.drop j') = l) := by
            have := HLj.out
            rw [show T - ds.length = (T - (ds.length + 1)) + 1 by omega, drT_some h5] at this
            simpa [Hid, rd] using this
          have HF2 : Hid (Frs w1.heap.size (ds ++ [(.slice ra o.length rc, o, k)])) := HF.out.snoc (fr_of (w := w2) (B := w2.heap.size) fun m hm => h6 m (by omega))
          have hzz := hg2.size
          have HI2 : Hid (Ints w2 w2.heap.size mo (.slice ra o.length rc) o) := h6 mo hmo
          have HV2 : Hid (Ints w2 B E (.slice ra' (bj.drop j').length rc') (bj.drop j')) := h7
          have HS2 : Hid (St w2 s0) := h8
          have HO2 : Hid (Rwd ((w2.alloc (.cells #[.slice ra o.length rc, .int .i64 k] 38)).alloc (.cells #[.slice ra o.length rc, .int .i64 k] 38)) w1.heap.size (.slice pa ds.length pc) ds) := HW2.out.keep (bal (ba _ _) _)
          have HMG : Hid (∀ g, (Value.slice pa ds.length pc).ownBlock = some g → mo = g) := hmg
          obtain ⟨bk, hbk⟩ : ∃ bk, bj.drop j' = bk := ⟨_, rfl⟩
          have HJ2 : Hid (bk = bits.drop (j + j')) := by rw [Hid, ← hbk, ← HJ.out, List.drop_drop]
          rw [hbk] at HL2 HV2 ⊢
          clear hbk kc hg2 h5 h6 h7 h8 HW HLj hmg HF HSj HVj HBj
          go_wp2_with (at_builtin; refine wpList_append_own_at _ rfl _ _ 25 rfl w1.heap.size 38 i0 (.agg #[.slice none 0 0, .int .i64 0]) 2 32 Try.underlying25 hi0 hz0 hz1 hz2 rfl (by decide) _ _ _ rfl HO2.out.1 ⟨w2.heap.size + 1, 0, none⟩ 1 1 [.slice ra o.length rc, .int .i64 k] rfl ?q1 ?q2 ?q3 ?q4 ?q5 ?q6 ?_)
          case q1 => rfl
          case q2 =>
            intro j u hj
            match j, hj with
            | 0, hj => simp at hj; subst hj; simp [go_sem, Addr.add]
            | 1, hj => simp at hj; subst hj; simp [go_sem, Addr.add]
          case q3 => intro u hu; simp at hu; rcases hu with rfl | rfl <;> rfl
          case q4 => simp [maxLen]; omega
          case q5 => omega
          case q6 => simp; omega
          intro v3 w3 hown3 hgrow hnil hat
          have HW3 : Hid (Rwd w3 w1.heap.size v3 (ds ++ [(.slice ra o.length rc, o, k)])) := HO2.out.app hown3 hgrow (by simpa using hat) (HI2.out.at2 (bal (ba _ _) _)) HMG.out
          have hb3 : Below w1.heap.size w2 w3 := (((Below.refl w1.heap.size w2).alloc (by omega) _).alloc (by simp; omega) _).grown hgrow (by simp; omega) (owns_block HO2.out.1)
          obtain ⟨a3, c3, rfl⟩ := HW3.out.slice
          have HG3 : Hid (w1.grownBy w3 (some E)) := ⟨hb3.os.trans HG2.out.os, hb3.tape.trans HG2.out.tape, hb3.output.trans HG2.out.output, Nat.le_trans HG2.out.size hb3.size, fun q hq hne => (hb3.block q hq).trans (HG2.out.block q hq hne)⟩
          have HS3 : Hid (St w3 s0) := HD.out.keep HS2.out (hb3.mono hN) (by omega)
          have HV3 : Hid (Ints w3 B E (.slice ra' bk.length rc') bk) := HV2.out.keep (hb3.mono (by omega))
          clear hown3 hgrow hnil hat HO2 HW2
          go_wp2
          go_roundw
          case rel => exact ⟨j + j', ds ++ [(.slice ra o.length rc, o, k)], ra', rc', by rw [← HJ2.out], by rw [← HJ2.out]; exact HV3, by simp; omega, HW3, HF2, HS3, HG3, by rw [← HJ2.out]; exact HL2⟩
          case measure => simp [slen]; omega
      · have HLl : Hid (rd ds = l) := by have := HLj.out; rw [show T - ds.length = 0 by omega] at this; simpa [Hid, drT] using this
        have HW2 : Hid (Parts wr wr.heap.size (.slice pa ds.length pc) ds) := HW.out.parts (by omega)
        clear HW HLj hpl
        go_wp2
        exact bodyPost_ret (v := .tuple #[.slice pa ds.length pc, .int .i64 0]) (by simp [results, Try.results19, go_sem]) rfl ⟨_, ds, rfl, HLl.out, HW2.out, HG.out, HNA.out⟩
end Go.Proofs.Ytjnclbhpdaonhaa
