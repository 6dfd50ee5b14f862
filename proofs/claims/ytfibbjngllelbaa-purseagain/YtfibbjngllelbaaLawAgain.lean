import Derived.Test.YtfibbjngllelbaaPlw
namespace Go.Proofs.Ytfibbjngllelbaa
open Go.RowKit Go.Shelf Go.Proofs.Ytfibbjngllelbaa.Ds

set_option maxRecDepth 100000 in
set_option maxHeartbeats 4000000 in
theorem purseAgain_walk (B : Nat) (lv : Value) (l : List En) (w : World) (hB : B ≤ w.heap.size) (hx : Ents w B lv l) (hbd : ∀ e ∈ l, -9223372036854775808 ≤ e.2.2.1 ∧ e.2.2.1 ≤ 9223372036854775807) (hln : l.length ≤ 4398046511104) :
    Calls Try.prog 4 #[lv] w fun e w' => e = .returned (.bool true) ∧ Below w.heap.size w w' := by
  have HX : Hid (Ents w B lv l) := hx
  have kal := fun W => alive_any W
  have kb := fun W (hW : B ≤ W.heap.size) (h : Ents W B lv l) => pbook_any B lv l W hW h hln hbd
  obtain ⟨a, c, rfl, hc, hl⟩ := hx.slice
  obtain ⟨dn, hdn⟩ : ∃ dn, Hid ((bookT [] l).2 = dn) := ⟨_, rfl⟩
  have HAG : Hid (bookT [] dn = (List.replicate dn.length 0, dn)) := by have h := book_again l; rw [hdn.out] at h; exact h
  have hinv : Inv dn := by have h := inv_book inv_nil l; rw [hdn.out] at h; exact h
  have HINV : Hid (Inv dn) := hinv
  have hdl := hinv.len
  have hnl : (nLs dn).length ≤ 64 := by rw [nLs_len]; exact hinv.ops
  clear hx hbd hinv
  go_enter Try.func4, Try.ntmps4
  go_wp2_with fail
  refine (kal _).mono ?_
  rintro e0 w0 ⟨rfl, hb0⟩
  have hs0 := hb0.size
  go_wp2_with fail
  refine (kb _ (by omega) (HX.out.at hB hb0)).mono ?_
  rintro e1 w1 ⟨er, en, nv, sv, bv, rfl, hb1, r0, r1, r2, r3, r4⟩
  rw [hdn.out] at r1 r2 r3 r4
  have hs1 := hb1.size
  obtain ⟨a0, c0, rfl⟩ := row_slice r0
  obtain ⟨a1, c1, rfl⟩ := row_slice r1
  obtain ⟨a2, c2, rfl⟩ := row_slice r2
  obtain ⟨a3, c3, rfl⟩ := row_slice r3
  obtain ⟨a4, c4, rfl⟩ := row_slice r4
  obtain ⟨A1, hA1⟩ : ∃ A1, w1.alloc (.cells #[.slice a0 l.length c0, .slice a1 dn.length c1, .slice a2 (nLs dn).length c2, .slice a3 (nLs dn).length c3, .slice a4 (nLs dn).length c4, .bool true] 28) = A1 := ⟨_, rfl⟩
  have hb1A : Below w1.heap.size w1 A1 := by rw [← hA1]; exact ba _ _
  have hsA1 : A1.heap.size = w1.heap.size + 1 := by rw [← hA1]; simp
  have S1 : SixB A1 w1.heap.size (.slice a0 l.length c0) (.slice a1 dn.length c1) (.slice a2 (nLs dn).length c2) (.slice a3 (nLs dn).length c3) (.slice a4 (nLs dn).length c4) (.bool true) := by rw [← hA1]; exact SixB.new _ _ _ _ _ _ _ _ rfl
  have HE1 : Hid (Ents A1 A1.heap.size (.slice a1 dn.length c1) dn) := (ents_of_row (row_gb r1 (gb_none hb1A) (by simp)) (by omega) (fun x hx => by have := inv_names HINV.out x hx; omega))
  have HN1 : Hid (A1.ownsRow w0.heap.size 9 1 (.slice a2 (nLs dn).length c2) (nLs dn).length ((nLs dn).map encStr)) := row_gb r2 (gb_none hb1A) (by simp)
  have HP1 : Hid (A1.ownsRow w0.heap.size 31 2 (.slice a3 (nLs dn).length c3) (nLs dn).length (encQ ((nLs dn).map (spQ dn)))) := row_gb r3 (gb_none hb1A) (by simp)
  have HQ1 : Hid (A1.ownsRow w0.heap.size 31 2 (.slice a4 (nLs dn).length c4) (nLs dn).length (encQ ((nLs dn).map (buQ dn)))) := row_gb r4 (gb_none hb1A) (by simp)
  have BA1 : Below w.heap.size w A1 := bt (bt hb0 hb1) hb1A
  have s11 := S1.c1
  have HS1 : Hid (SixB A1 w1.heap.size (.slice a0 l.length c0) (.slice a1 dn.length c1) (.slice a2 (nLs dn).length c2) (.slice a3 (nLs dn).length c3) (.slice a4 (nLs dn).length c4) (.bool true)) := S1
  have kb2 := pbook_any A1.heap.size (.slice a1 dn.length c1) dn A1 (Nat.le_refl _) HE1.out (by omega) (fun e he => by have := inv_part HINV.out e he; omega)
  clear r0 r1 r2 r3 r4 kb kal S1
  go_wp2_with fail
  refine kb2.mono ?_
  rintro e2 w2 ⟨er2, en2, nv2, sv2, bv2, rfl, hb2, r0, r1, r2, r3, r4⟩
  simp only [HAG.out, ] at r0 r1 r2 r3 r4
  have hs2 := hb2.size
  obtain ⟨p0, d0, rfl⟩ := row_slice r0
  obtain ⟨p1, d1, rfl⟩ := row_slice r1
  obtain ⟨p2, d2, rfl⟩ := row_slice r2
  obtain ⟨p3, d3, rfl⟩ := row_slice r3
  obtain ⟨p4, d4, rfl⟩ := row_slice r4
  obtain ⟨A2, hA2⟩ : ∃ A2, w2.alloc (.cells #[.slice p0 dn.length d0, .slice p1 dn.length d1, .slice p2 (nLs dn).length d2, .slice p3 (nLs dn).length d3, .slice p4 (nLs dn).length d4, .bool true] 28) = A2 := ⟨_, rfl⟩
  have hb2A : Below w2.heap.size w2 A2 := by rw [← hA2]; exact ba _ _
  have hsA2 : A2.heap.size = w2.heap.size + 1 := by rw [← hA2]; simp
  have hb12 : Below A1.heap.size A1 A2 := bt hb2 hb2A
  have S2 : SixB A2 w2.heap.size (.slice p0 dn.length d0) (.slice p1 dn.length d1) (.slice p2 (nLs dn).length d2) (.slice p3 (nLs dn).length d3) (.slice p4 (nLs dn).length d4) (.bool true) := by rw [← hA2]; exact SixB.new _ _ _ _ _ _ _ _ rfl
  have HS12 : Hid (SixB A2 w1.heap.size (.slice a0 l.length c0) (.slice a1 dn.length c1) (.slice a2 (nLs dn).length c2) (.slice a3 (nLs dn).length c3) (.slice a4 (nLs dn).length c4) (.bool true)) := HS1.out.below hb12
  have HS2 : Hid (SixB A2 w2.heap.size (.slice p0 dn.length d0) (.slice p1 dn.length d1) (.slice p2 (nLs dn).length d2) (.slice p3 (nLs dn).length d3) (.slice p4 (nLs dn).length d4) (.bool true)) := S2
  have HR0 : Hid (A2.ownsRow A1.heap.size 34 1 (.slice p0 dn.length d0) dn.length (encI (List.replicate dn.length 0))) := row_gb r0 (gb_none hb2A) (by simp)
  have HE2 : Hid (Ents A2 A2.heap.size (.slice p1 dn.length d1) dn) := ents_of_row (row_gb r1 (gb_none hb2A) (by simp)) (by omega) (fun x hx => by have := inv_names HINV.out x hx; omega)
  have HN2 : Hid (A2.ownsRow A1.heap.size 9 1 (.slice p2 (nLs dn).length d2) (nLs dn).length ((nLs dn).map encStr)) := row_gb r2 (gb_none hb2A) (by simp)
  have HP2 : Hid (A2.ownsRow A1.heap.size 31 2 (.slice p3 (nLs dn).length d3) (nLs dn).length (encQ ((nLs dn).map (spQ dn)))) := row_gb r3 (gb_none hb2A) (by simp)
  have HQ2 : Hid (A2.ownsRow A1.heap.size 31 2 (.slice p4 (nLs dn).length d4) (nLs dn).length (encQ ((nLs dn).map (buQ dn)))) := row_gb r4 (gb_none hb2A) (by simp)
  have HN12 : Hid (A2.ownsRow w0.heap.size 9 1 (.slice a2 (nLs dn).length c2) (nLs dn).length ((nLs dn).map encStr)) := row_gb HN1.out (gb_none hb12) (by simp)
  have HP12 : Hid (A2.ownsRow w0.heap.size 31 2 (.slice a3 (nLs dn).length c3) (nLs dn).length (encQ ((nLs dn).map (spQ dn)))) := row_gb HP1.out (gb_none hb12) (by simp)
  have HQ12 : Hid (A2.ownsRow w0.heap.size 31 2 (.slice a4 (nLs dn).length c4) (nLs dn).length (encQ ((nLs dn).map (buQ dn)))) := row_gb HQ1.out (gb_none hb12) (by simp)
  have BA2 : Below w.heap.size w A2 := bt BA1 hb12
  have z0 := S2.c0
  have z1 := S2.c1
  have z2 := S2.c2
  have y1 := HS12.out.c1
  have y2 := HS12.out.c2
  have ksm := sameEntries_any A2.heap.size (.slice a1 dn.length c1) (.slice p1 dn.length d1) dn dn A2 (Nat.le_refl _) ((HE1.out.at (Nat.le_refl _) hb12).mono (by omega)) HE2.out true (by simp)
  clear r0 r1 r2 r3 r4 kb2 S2 hA1 s11
  go_wp2_with fail
  go_loopw [18] (fun s wr => ∃ (i : Nat), s = .int .i64 (i : Int) ∧ i ≤ dn.length ∧ wr = A2) (fun s _ => dn.length - (intOf s).toNat)
  case atStart => exact ⟨0, rfl, Nat.zero_le _, rfl⟩
  case round =>
    obtain ⟨i, rfl, hi, rfl⟩ := hrel
    by_cases h1 : i < dn.length
    · obtain ⟨g, rfl, _, hgl, hcell⟩ := row_cell HR0.out (j := i) (u := .int .i64 0) (by simp [encI, h1])
      go_wp2
      go_roundw
      case rel => exact ⟨i + 1, by go_num, by omega, by first | rfl | trivial⟩
      case measure => simp [intOf]; omega
    · have hi' : i = dn.length := by omega
      subst hi'
      go_wp2_with fail
      refine ksm.mono ?_
      rintro e3 w3 ⟨rfl, hb3⟩
      have BA3 : Below w.heap.size w w3 := bt BA2 hb3
      have S23 := HS2.out.below hb3
      have S13 := HS12.out.below hb3
      have x2 := S23.c2
      have x3 := S23.c3
      have x4 := S23.c4
      have v2 := S13.c2
      have v3 := S13.c3
      have v4 := S13.c4
      have HN23 : Hid (w3.ownsRow A1.heap.size 9 1 (.slice p2 (nLs dn).length d2) (nLs dn).length ((nLs dn).map encStr)) := row_gb HN2.out (gb_none hb3) (by simp)
      have HP23 : Hid (w3.ownsRow A1.heap.size 31 2 (.slice p3 (nLs dn).length d3) (nLs dn).length (encQ ((nLs dn).map (spQ dn)))) := row_gb HP2.out (gb_none hb3) (by simp)
      have HQ23 : Hid (w3.ownsRow A1.heap.size 31 2 (.slice p4 (nLs dn).length d4) (nLs dn).length (encQ ((nLs dn).map (buQ dn)))) := row_gb HQ2.out (gb_none hb3) (by simp)
      have HN13 : Hid (w3.ownsRow w0.heap.size 9 1 (.slice a2 (nLs dn).length c2) (nLs dn).length ((nLs dn).map encStr)) := row_gb HN12.out (gb_none hb3) (by simp)
      have HP13 : Hid (w3.ownsRow w0.heap.size 31 2 (.slice a3 (nLs dn).length c3) (nLs dn).length (encQ ((nLs dn).map (spQ dn)))) := row_gb HP12.out (gb_none hb3) (by simp)
      have HQ13 : Hid (w3.ownsRow w0.heap.size 31 2 (.slice a4 (nLs dn).length c4) (nLs dn).length (encQ ((nLs dn).map (buQ dn)))) := row_gb HQ12.out (gb_none hb3) (by simp)
      clear ksm S23 S13
      go_wp2_with fail
      have HSS : Hid (SixB w3 w1.heap.size (.slice a0 l.length c0) (.slice a1 dn.length c1) (.slice a2 (nLs dn).length c2) (.slice a3 (nLs dn).length c3) (.slice a4 (nLs dn).length c4) (.bool true) ∧ SixB w3 w2.heap.size (.slice p0 dn.length d0) (.slice p1 dn.length d1) (.slice p2 (nLs dn).length d2) (.slice p3 (nLs dn).length d3) (.slice p4 (nLs dn).length d4) (.bool true)) := ⟨HS12.out.below hb3, HS2.out.below hb3⟩
      clear x2 x3 x4 v2 v3 v4
      go_loopw [43] (fun s wr => ∃ (i : Nat), s = .int .i64 (i : Int) ∧ i ≤ (nLs dn).length ∧ Below w3.heap.size w3 wr) (fun s _ => (nLs dn).length - (intOf s).toNat)
      case atStart => exact ⟨0, rfl, Nat.zero_le _, Below.refl _ _⟩
      case round =>
        obtain ⟨i, rfl, hi, hbr⟩ := hrel
        by_cases h1 : i < (nLs dn).length
        · obtain ⟨x, hx⟩ := get_lt h1
          obtain ⟨sp, hsp⟩ : ∃ sp, spQ dn x = sp := ⟨_, rfl⟩
          obtain ⟨bu, hbu⟩ : ∃ bu, buQ dn x = bu := ⟨_, rfl⟩
          have gs := encQ_get (l := (nLs dn).map (spQ dn)) (i := i) (x := sp) (by simp [hx, hsp])
          have gb' := encQ_get (l := (nLs dn).map (buQ dn)) (i := i) (x := bu) (by simp [hx, hbu])
          have gn : ((nLs dn).map encStr)[i]? = some (encStr x) := by simp [hx]
          have g0 : w3.grownBy wr none := gb_none hbr
          have hri := @row_gb
          obtain ⟨n1, rfl, _, _, k1⟩ := row_cell (row_gb HN13.out g0 (by simp)) gn
          obtain ⟨n2, rfl, _, _, k2⟩ := row_cell (row_gb HN23.out g0 (by simp)) gn
          obtain ⟨n3, rfl, _, _, k3⟩ := row_cell (row_gb HP13.out g0 (by simp)) gs.1
          obtain ⟨n3', e3', _, _, k3'⟩ := row_cell (row_gb HP13.out g0 (by simp)) gs.2
          obtain ⟨n4, rfl, _, _, k4⟩ := row_cell (row_gb HP23.out g0 (by simp)) gs.1
          obtain ⟨n4', e4', _, _, k4'⟩ := row_cell (row_gb HP23.out g0 (by simp)) gs.2
          obtain ⟨n5, rfl, _, _, k5⟩ := row_cell (row_gb HQ13.out g0 (by simp)) gb'.1
          obtain ⟨n5', e5', _, _, k5'⟩ := row_cell (row_gb HQ13.out g0 (by simp)) gb'.2
          obtain ⟨n6, rfl, _, _, k6⟩ := row_cell (row_gb HQ23.out g0 (by simp)) gb'.1
          obtain ⟨n6', e6', _, _, k6'⟩ := row_cell (row_gb HQ23.out g0 (by simp)) gb'.2
          simp only [Option.some.injEq, Addr.mk.injEq, and_true] at e3' e4' e5' e6'
          subst e3' e4' e5' e6'
          have S13 := HSS.out.1.below hbr
          have S23 := HSS.out.2.below hbr
          have x2 := S23.c2
          have x3 := S23.c3
          have x4 := S23.c4
          have v2 := S13.c2
          have v3 := S13.c3
          have v4 := S13.c4
          have hne1 := fun W => rat_neq sp.1 sp.2 sp.1 sp.2 false (by simp) W
          have hne2 := fun W => rat_neq bu.1 bu.2 bu.1 bu.2 false (by simp) W
          have z1 : (i : Int) < ((nLs dn).length : Int) := by omega
          clear gs gb' gn hx hsp hbu S13 S23 g0 hri HX HAG HINV
          go_wp2
          go_quiet (fail)
          go_wp2
          go_roundw
          case rel => exact ⟨i + 1, by go_num, by omega, below_drewN hbr _⟩
          case measure => simp [intOf]; omega
        · have hi' : i = (nLs dn).length := by omega
          subst hi'
          go_wp2
          go_ret
          exact ⟨rfl, bt BA3 hbr⟩
end Go.Proofs.Ytfibbjngllelbaa
