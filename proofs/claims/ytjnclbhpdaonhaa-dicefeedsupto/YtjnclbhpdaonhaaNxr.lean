import Derived.Test.YtjnclbhpdaonhaaDrw
namespace Go.Proofs.Ytjnclbhpdaonhaa
open Go.RowKit Go.Proofs.Ytjnclbhpdaonhaa.Ds

set_option maxHeartbeats 1000000 in
set_option maxRecDepth 100000 in
theorem next_r (B N E : Nat) {S : Type} (St : World → S → Prop) (go : S → Nx) (us : S → Int) (s0 : S) (sur : Option (List Int)) (D : Drw N E 24 23 St go us s0 sur) (v : Value) (bits : List Int) (w : World) (hB : B ≤ N) (hN : N ≤ w.heap.size) (hs : St w s0) (hv : Ints w B E v bits) (hbad : badB bits = false) (hlen : bits.length ≤ 65536) :
    Calls Try.prog 33 #[.iface 45 (.pointer (some ⟨E, 0, none⟩)), v] w (NextP B E St (nxT go s0 sur) s0 bits w) := by
  have hm1 : ∀ w : World, (method 231 45 (.pointer (some ⟨E, 0, none⟩)) "Sure").run Try.prog w = .ok (23, .pointer (some ⟨E, 0, none⟩)) w := fun _ => by kernel_rfl
  have hm2 : ∀ w : World, (method 231 45 (.pointer (some ⟨E, 0, none⟩)) "Feed").run Try.prog w = .ok (24, .pointer (some ⟨E, 0, none⟩)) w := fun _ => by kernel_rfl
  have HV : Hid (Ints w B E v bits) := hv
  have HD : Hid (Drw N E 24 23 St go us s0 sur) := D
  have HS : Hid (St w s0) := hs
  have HBad : Hid (badB bits = false) := hbad
  have lt := D.lt
  obtain ⟨a, c, rfl, hc, hl, _⟩ := hv
  have hb0 : Below w.heap.size w (w.alloc (.cells #[.slice none 0 0, .int .i64 0] 38)) := ba _ _
  have kc := D.sure (w.alloc (.cells #[.slice none 0 0, .int .i64 0] 38)) s0 (D.keep hs (hb0.mono hN) hN) (by simp; omega)
  have HR0 : Hid (Rv (w.alloc (.cells #[.slice none 0 0, .int .i64 0] 38)) w.heap.size (.slice none 0 0) 0) := Rv.new _ _ _ _ _ rfl
  clear D hs hbad hb0
  go_enter Try.func33, Try.ntmps33
  go_wp2_with fail
  refine kc.mono ?_
  rintro e w1 ⟨hb1, hs0, hs1⟩
  clear kc
  have hz1 : w.heap.size + 1 ≤ w1.heap.size := by simpa using hb1.size
  have HR : Hid (Rv w1 w.heap.size (.slice none 0 0) 0) := HR0.out.below hb1
  have HG : Hid (w.grownBy w1 (some E)) := gb_below (bt (ba _ _) hb1)
  cases hsur : sur with
  | some o =>
    obtain ⟨sa, sc, rfl, hI⟩ := hs1 o hsur
    have HI : Hid (∀ m, m < w.heap.size + 1 → Ints w1 w1.heap.size m (.slice sa o.length sc) o) := fun m hm => hI m (by simpa using hm)
    have HS1 : Hid (St w1 s0) := HD.out.keep HS.out ((bt (ba _ _) hb1).mono hN) hN
    clear hs0 hs1 hI
    subst hsur
    obtain ⟨r0, r1, r2, r3, r4⟩ := HR.out
    have ne1 : ¬ w.heap.size = w1.heap.size := by omega
    go_wp2
    generalize hX : ((w1.setCell ⟨w.heap.size, 0, none⟩ (.slice sa o.length sc)).setCell ⟨w.heap.size, 1, none⟩ (.int .i64 0)).alloc (.cells #[.slice sa o.length sc, .int .i64 0] 38) = X
    have hbX : Below w.heap.size w X := hX ▸ bal (bs (bs (bt (ba _ _) hb1) (p := ⟨w.heap.size, 0, none⟩) (Nat.le_refl _) _) (p := ⟨w.heap.size, 1, none⟩) (Nat.le_refl _) _) _
    have HRX : Rv X w.heap.size (.slice sa o.length sc) 0 := hX ▸ ((HR.out.put _ _).alloc _)
    have HIX : Hid (∀ m, m < w.heap.size + 1 → Ints X X.heap.size m (.slice sa o.length sc) o) := by
      have h1 := Ints.setm (Ints.setm HI.out w.heap.size 0 (by omega) (.slice sa o.length sc)) w.heap.size 1 (by omega) (.int .i64 0)
      intro m hm
      have h2 := h1 m hm
      rw [show w1.heap.size = ((w1.setCell ⟨w.heap.size, 0, none⟩ (.slice sa o.length sc)).setCell ⟨w.heap.size, 1, none⟩ (.int .i64 0)).heap.size by simp] at h2
      rw [← hX]
      exact (h2.keep (ba _ _)).mono (by simp) (.inl rfl)
    have HVX : Hid (Ints X B E (.slice a bits.length c) bits) := HV.out.at (by omega) hbX
    have HSX : Hid (St X s0) := HD.out.keep HS.out (hbX.mono hN) hN
    clear hX
    obtain ⟨x0, x1, _, _, _⟩ := HRX
    refine bodyPost_ret (v := .tuple #[.agg #[.slice sa o.length sc, .int .i64 0], .slice a bits.length c, .bool true]) (by simp [results, Try.results33, go_sem, x0, x1]) rfl ⟨gb_below hbX, .inr ⟨sa, sc, o, 0, a, c, 0, rfl, rfl, fun m hm => HIX.out m (by omega), HVX.out, HSX.out⟩⟩
  | none =>
    have he := hs0 hsur
    subst he
    subst hsur
    have HS1 : Hid (St w1 s0) := HD.out.keep HS.out ((bt (ba _ _) hb1).mono hN) hN
    clear hs0 hs1
    obtain ⟨r0, r1, r2, r3, r4⟩ := HR.out
    go_wp2
    generalize hX : w1.alloc (.cells #[.slice none 0 0, .int .i64 0] 38) = X
    have hbX : Below w.heap.size w X := hX ▸ bal (bt (ba _ _) hb1) _
    have HRX : Hid (Rv X w.heap.size (.slice none 0 0) 0) := hX ▸ HR.out.alloc _
    have HSX : Hid (St X s0) := HD.out.keep HS.out (hbX.mono hN) hN
    clear hX hb1 r0 r1 r2 r3 r4 HR HR0 HS1 HG hz1
    go_loopw [23] (fun iv wr => ∃ (i : Nat) (s : S), iv = .int .i64 (i : Int) ∧ i ≤ bits.length ∧ Hid (St wr s ∧ us s = i ∧ go s0 bits = go s (bits.drop i)) ∧ Hid (w.grownBy wr (some E)) ∧ Hid (Rv wr w.heap.size (.slice none 0 0) 0)) (fun iv _ => bits.length - (intOf iv).toNat)
    case atStart => exact ⟨0, s0, rfl, Nat.zero_le _, ⟨HSX.out, HD.out.u0, by simp⟩, gb_below hbX, HRX⟩
    case round =>
      obtain ⟨i, s, rfl, hit, HI, HG, HR⟩ := hrel
      have hz : w.heap.size + 1 ≤ wr.heap.size := HR.out.lt
      by_cases h1 : i < bits.length
      · obtain ⟨b, hb⟩ := get_lt h1
        have HB : Hid (bits[i]? = some b) := hb
        have HVr : Hid (Ints wr B E (.slice a bits.length c) bits) := HV.out.gb HG.out
        obtain ⟨_, _, hv', _, _, hx⟩ := HVr.out
        simp only [Value.slice.injEq] at hv'
        obtain ⟨rfl, _, rfl⟩ := hv'
        obtain ⟨bb, bo, rfl, hbB, hbE, hcell⟩ := hx (ne_of_lt h1)
        have c1 := hcell i b hb
        have hbit := bad_get HBad.out hb
        have kc := HD.out.feed rfl wr s b HI.out.1 (by omega) hbit (by rw [HI.out.2.1]; omega)
        clear hb hx hcell
        go_wp2_with fail
        refine kc.mono ?_
        rintro e w2 ⟨hg2, ⟨rfl, s', h2, h3, h4⟩ | ⟨ra, rc, o, rfl, h2, h3, h4⟩⟩
        · have HI2 : Hid (St w2 s' ∧ us s' = (i + 1 : Nat) ∧ go s0 bits = go s' (bits.drop (i + 1))) := ⟨h2, by rw [h3, HI.out.2.1]; omega, by
            rw [HI.out.2.2, List.drop_eq_getElem_cons h1, ← h4]
            have := (List.getElem?_eq_some_iff.1 HB.out).2
            rw [this]⟩
          have HR2 : Hid (Rv w2 w.heap.size (.slice none 0 0) 0) := HR.out.gb hg2 (by omega)
          have HG2 : Hid (w.grownBy w2 (some E)) := gb_trans HG.out hg2
          have hz2 : wr.heap.size ≤ w2.heap.size := hg2.size
          clear kc h2 h3 h4 hg2 HI HG HR
          obtain ⟨r0, r1, r2, r3, r4⟩ := HR2.out
          go_wp2
          go_roundw
          case rel => exact ⟨i + 1, s', by go_num, h1, ⟨HD.out.keep HI2.out.1 ((ba _ _).mono (by omega)) (by omega), HI2.out.2⟩, gb_alloc HG2.out _, HR2.out.alloc _⟩
          case measure => simp [intOf]; omega
        · have HI2 : Hid (go s0 bits = some (o, (i : Int) + 1, bits.drop (i + 1))) := by
            have := (List.getElem?_eq_some_iff.1 HB.out).2
            rw [Hid, HI.out.2.2, List.drop_eq_getElem_cons h1, this, h4, HI.out.2.1]
          have HS2 : Hid (St w2 s0) := h3
          have hu : us s = (i : Int) := HI.out.2.1
          rw [hu]
          have HR2 : Hid (Rv w2 w.heap.size (.slice none 0 0) 0) := HR.out.gb hg2 (by omega)
          have HG2 : Hid (w.grownBy w2 (some E)) := gb_trans HG.out hg2
          have hz2 : wr.heap.size ≤ w2.heap.size := hg2.size
          have HO : Hid (∀ m, m < wr.heap.size → Ints w2 w2.heap.size m (.slice ra o.length rc) o) := h2
          have HV2 : Hid (Ints w2 B E (.slice (some ⟨bb, bo, none⟩) bits.length c) bits) := HVr.out.gb hg2
          clear kc h2 h3 h4 hg2 HI HG HR hu
          obtain ⟨r0, r1, r2, r3, r4⟩ := HR2.out
          have ne1 : ¬ w.heap.size = w2.heap.size := by omega
          have ne2 : ¬ w2.heap.size = w.heap.size := by omega
          go_wp2
          go_region
          generalize hX : (((w2.setCell ⟨w.heap.size, 0, none⟩ (.slice ra o.length rc)).setCell ⟨w.heap.size, 1, none⟩ (.int .i64 ((i : Int) + 1))).alloc (.cells #[.slice ra o.length rc, .int .i64 ((i : Int) + 1)] 38)).drew = X
          have hgX : w.grownBy X (some E) := hX ▸ gb_drew (gb_alloc (gb_new (gb_new HG2.out (p := ⟨w.heap.size, 0, none⟩) (Nat.le_refl _) _) (p := ⟨w.heap.size, 1, none⟩) (Nat.le_refl _) _) _)
          have hbX : Below w.heap.size w2 X := hX ▸ (((((Below.refl w.heap.size w2).setCell (p := ⟨w.heap.size, 0, none⟩) (Nat.le_refl _) _).setCell (p := ⟨w.heap.size, 1, none⟩) (Nat.le_refl _) _).alloc (by simp; omega) _).drew)
          have HRX : Rv X w.heap.size (.slice ra o.length rc) ((i : Int) + 1) := hX ▸ ((HR2.out.put _ _).alloc _).drew
          have HIX : Hid (∀ m, m < w.heap.size + 1 → Ints X X.heap.size m (.slice ra o.length rc) o) := by
            have h1 := Ints.setm (Ints.setm (fun m hm => HO.out m (by omega)) w.heap.size 0 (show w.heap.size < w.heap.size + 1 by omega) (.slice ra o.length rc)) w.heap.size 1 (by omega) (.int .i64 ((i : Int) + 1))
            intro m hm
            have h2 := h1 m hm
            rw [show w2.heap.size = ((w2.setCell ⟨w.heap.size, 0, none⟩ (.slice ra o.length rc)).setCell ⟨w.heap.size, 1, none⟩ (.int .i64 ((i : Int) + 1))).heap.size by simp] at h2
            rw [← hX]
            exact (h2.keep (ba _ _).drew).mono (by simp) (.inl rfl)
          have HVX : Hid (Ints X B E _ (bits.drop (i + 1))) := ((HV2.out.drop2 (i + 1) h1).keep (hbX.mono (by omega)))
          have HSX : Hid (St X s0) := HD.out.keep HS2.out (hbX.mono (by omega)) (by omega)
          rw [List.length_drop] at HVX
          clear hX
          obtain ⟨x0, x1, _, _, _⟩ := HRX
          generalize hsl : (if c = i + 1 then some (⟨bb, bo, none⟩ : Addr) else some ⟨bb, bo + (i + 1), none⟩) = sl at HVX ⊢
          clear hsl
          go_wp2
          exact bodyPost_ret (v := .tuple #[.agg #[.slice ra o.length rc, .int .i64 ((i : Int) + 1)], .slice sl (bits.length - (i + 1)) (c - (i + 1)), .bool true]) (by simp [results, Try.results33, go_sem, x0, x1]) rfl
            ⟨hgX, .inr ⟨ra, rc, o, _, _, _, i + 1, HI2.out, by rw [List.length_drop], fun m hm => HIX.out m (by omega), by rw [List.length_drop]; exact HVX.out, HSX.out⟩⟩
      · have HI2 : Hid (go s0 bits = none) := by rw [Hid, HI.out.2.2, List.drop_eq_nil_of_le (by omega), HD.out.nil]
        have HR2 := HR.out.put (.slice none 0 0) 0
        obtain ⟨r0, r1, r2, r3, r4⟩ := HR.out
        obtain ⟨x0, x1, _, _, _⟩ := HR2
        go_wp2
        exact bodyPost_ret (v := .tuple #[noD, .slice none 0 0, .bool false]) (by simp [results, Try.results33, go_sem, x0, x1]) rfl
          ⟨gb_new (gb_new HG.out (p := ⟨w.heap.size, 0, none⟩) (Nat.le_refl _) _) (p := ⟨w.heap.size, 1, none⟩) (Nat.le_refl _) _, .inl ⟨HI2.out, rfl⟩⟩
end Go.Proofs.Ytjnclbhpdaonhaa
