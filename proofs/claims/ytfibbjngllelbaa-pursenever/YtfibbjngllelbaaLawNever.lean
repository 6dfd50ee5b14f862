import Derived.Test.YtfibbjngllelbaaPlw
import Derived.Test.YtfibbjngllelbaaRpt
import Derived.Test.YtfibbjngllelbaaRpd
namespace Go.Proofs.Ytfibbjngllelbaa
open Go.RowKit Go.Shelf Go.Proofs.Ytfibbjngllelbaa.Ds

theorem book_err {l : List En} {i : Nat} {e : En} (h : l[i]? = some e) : (bookT [] l).1[i]? = some (doT (bookT [] (l.take i)).2 (nrm e)) := by
  have hlt : i < l.length := (List.getElem?_eq_some_iff.1 h).1
  have hs : l = l.take i ++ (e :: l.drop (i + 1)) := by
    have h1 : l[i] = e := (List.getElem?_eq_some_iff.1 h).2
    rw [← h1, List.getElem_cons_drop, List.take_append_drop]
  have hl : (bookT [] (l.take i)).1.length = i := by rw [book_len]; simp; omega
  have h2 : (bookT [] l).1 = (bookT [] (l.take i)).1 ++ (bookT (bookT [] (l.take i)).2 (e :: l.drop (i + 1))).1 := by
    conv => lhs; rw [hs]
    rw [book_app]
  rw [h2, List.getElem?_append_right (by omega), hl]
  simp [bookT]
theorem book_step {l : List En} {i : Nat} {e : En} (h : l[i]? = some e) : (bookT [] (l.take (i + 1))).2 = stepD (bookT [] (l.take i)).2 e := by
  rw [List.take_add_one, h]
  have := book_snoc [] (l.take i) e
  simp only [Option.toList_some]
  rw [this]
theorem le_dec {a b : Rq} (h : LeR a b) : decide (a.1 * b.2 ≤ b.1 * a.2) = true := decide_eq_true h

set_option maxRecDepth 100000 in
set_option maxHeartbeats 4000000 in
theorem purseNever_walk (B : Nat) (lv : Value) (l : List En) (w : World) (hB : B ≤ w.heap.size) (hx : Ents w B lv l) (hbd : ∀ e ∈ l, -9223372036854775808 ≤ e.2.2.1 ∧ e.2.2.1 ≤ 9223372036854775807) (hln : l.length ≤ 4398046511104) :
    Calls Try.prog 3 #[lv] w fun e w' => e = .returned (.bool true) ∧ Below w.heap.size w w' := by
  have HX : Hid (Ents w B lv l) := hx
  have kal := fun W => alive_any W
  have kb := fun W (hW : B ≤ W.heap.size) (h : Ents W B lv l) => pbook_any B lv l W hW h hln hbd
  obtain ⟨a, c, rfl, hc, hl⟩ := hx.slice
  obtain ⟨dn, hdn⟩ : ∃ dn, Hid ((bookT [] l).2 = dn) := ⟨_, rfl⟩
  have hinv : Inv dn := by have h := inv_book inv_nil l; rw [hdn.out] at h; exact h
  have HINV : Hid (Inv dn) := hinv
  have hdl := hinv.len
  obtain ⟨i33, hi33, hz0, hz1, hz2⟩ := info_parts info33
  clear hx hbd hinv
  go_enter Try.func3, Try.ntmps3
  go_wp2_with fail
  refine (kal _).mono ?_
  rintro e0 w0 ⟨rfl, hb0⟩
  have hs0 := hb0.size
  go_wp2_with fail
  refine (kb _ (by omega) (HX.out.at hB hb0)).mono ?_
  rintro e1 w1 ⟨er, en, nv, sv, bv, rfl, hb1, r0, r1, r2, r3, r4⟩
  rw [hdn.out] at r1 r2 r3 r4
  have hs1 := hb1.size
  obtain ⟨a0, c0, rfl⟩ := row_slice r0
  obtain ⟨a1, c1, rfl⟩ := row_slice r1
  obtain ⟨a2, c2, rfl⟩ := row_slice r2
  obtain ⟨a3, c3, rfl⟩ := row_slice r3
  obtain ⟨a4, c4, rfl⟩ := row_slice r4
  obtain ⟨A1, hA1⟩ : ∃ A1, w1.alloc (.cells #[.slice a0 l.length c0, .slice a1 dn.length c1, .slice a2 (nLs dn).length c2, .slice a3 (nLs dn).length c3, .slice a4 (nLs dn).length c4, .bool true] 28) = A1 := ⟨_, rfl⟩
  have hb1A : Below w1.heap.size w1 A1 := by rw [← hA1]; exact ba _ _
  have hsA1 : A1.heap.size = w1.heap.size + 1 := by rw [← hA1]; simp
  have S1 : SixB A1 w1.heap.size (.slice a0 l.length c0) (.slice a1 dn.length c1) (.slice a2 (nLs dn).length c2) (.slice a3 (nLs dn).length c3) (.slice a4 (nLs dn).length c4) (.bool true) := by rw [← hA1]; exact SixB.new _ _ _ _ _ _ _ _ rfl
  have HE1 : Hid (Ents A1 A1.heap.size (.slice a1 dn.length c1) dn) := (ents_of_row (row_gb r1 (gb_none hb1A) (by simp)) (by omega) (fun x hx => by have := inv_names HINV.out x hx; omega))
  have HR0 : Hid (A1.ownsRow w0.heap.size 34 1 (.slice a0 l.length c0) l.length (encI (bookT [] l).1)) := row_gb r0 (gb_none hb1A) (by simp)
  have BA1 : Below w.heap.size w A1 := bt (bt hb0 hb1) hb1A
  have HS1 : Hid (SixB A1 w1.heap.size (.slice a0 l.length c0) (.slice a1 dn.length c1) (.slice a2 (nLs dn).length c2) (.slice a3 (nLs dn).length c3) (.slice a4 (nLs dn).length c4) (.bool true)) := S1
  have s10 := S1.c0
  clear r0 r1 r2 r3 r4 kb kal S1
  go_wp2_with fail
  go_loopw [4, 28] (fun dv s wr => ∃ (i : Nat) (da : Option Addr) (dc : Nat) (ds : List En), s = .int .i64 (i : Int) ∧ dv = .slice da ds.length dc ∧ i ≤ l.length ∧ Hid ((bookT [] (l.take i)).2 = ds) ∧ ds.length ≤ 4096 ∧ Hid (wr.ownsRow A1.heap.size 33 5 (.slice da ds.length dc) ds.length (enc ds)) ∧ Below A1.heap.size A1 wr) (fun _ s _ => l.length - (intOf s).toNat)
  case atStart => exact ⟨0, none, 0, [], rfl, rfl, Nat.zero_le _, by simp [Hid, bookT], by simp, ⟨rfl, .inl ⟨rfl, rfl⟩⟩, Below.refl _ _⟩
  case round =>
    obtain ⟨i, da, dc, ds, rfl, rfl, hi, HD, hds, HW, hbl⟩ := hrel
    have hbw : Below w.heap.size w wr := bt BA1 hbl
    have hrs := hbl.size
    have y0 := (HS1.out.below hbl).c0
    by_cases h1 : i < l.length
    · obtain ⟨b, o, d, nm, p, u, v, rfl, hb, hg, e0, e1, e2, e3, e4, hnm⟩ := HX.out.get hB hbw h1
      obtain ⟨er, her⟩ : ∃ er, doT (bookT [] (l.take i)).2 (nrm (d, nm, p, u, v)) = er := ⟨_, rfl⟩
      have hge := book_err hg
      rw [her] at hge
      obtain ⟨ge, rfl, _, hgel, hce⟩ := row_cell (row_gb HR0.out (gb_none hbl) (by simp)) (j := i) (u := .int .i64 er) (by simp [encI, hge])
      have HST : Hid ((bookT [] (l.take (i + 1))).2 = if er = 0 then ds ++ [nrm (d, nm, p, u, v)] else ds) := by
        rw [Hid, book_step hg]
        unfold stepD
        rw [her, HD.out]
      have HI2 : Hid ((bookT [] (l.take (i + 1))).2.length ≤ 4096) := (inv_book inv_nil (l.take (i + 1))).len
      have z1 : (i : Int) < (l.length : Int) := by omega
      obtain ⟨X, hX⟩ : ∃ X, wr.alloc (.cells #[.int .i64 d, .string nm, .int .i64 p, .int .i64 u, .int .i64 v] 33) = X := ⟨_, rfl⟩
      have hbX : Below wr.heap.size wr X := by rw [← hX]; exact ba _ _
      have hzX : X.heap.size = wr.heap.size + 1 := by rw [← hX]; simp
      have VX := FivB.new wr (.int .i64 d) (.string nm) (.int .i64 p) (.int .i64 u) (.int .i64 v) 33 _ rfl
      rw [hX] at VX
      have HVX : Hid (FivB X wr.heap.size (.int .i64 d) (.string nm) (.int .i64 p) (.int .i64 u) (.int .i64 v)) := VX
      have hsX : A1.heap.size ≤ wr.heap.size := hrs
      have y0X := (HS1.out.below (bt hbl hbX)).c0
      have hceX : X.cell? ⟨ge, i, none⟩ = some (.int .i64 er) := (hbX.cell (p := ⟨ge, i, none⟩) hgel).trans hce
      have HWX : Hid (X.ownsRow A1.heap.size 33 5 (.slice da ds.length dc) ds.length (enc ds)) := row_gb HW.out (gb_none hbX) (by simp)
      have BX : Below A1.heap.size A1 X := bt hbl hbX
      obtain ⟨x0, x1, x2, x3, x4, f0, f1, f2, f3, f4, hlx⟩ := VX
      clear hg her hge
      by_cases hez : er = 0
      · subst hez
        rw [if_pos rfl] at HST
        by_cases hd : d = 3
        · have hdn3 : (d != 3) = false := by simp [hd]
          have hnr : Hid (nrm (d, nm, p, u, v) = (d, nm, p, u, v)) := by rw [Hid]; simp [nrm, hd]
          clear hd
          have HOW : Hid ((X.alloc (.cells #[.int .i64 d, .string nm, .int .i64 p, .int .i64 u, .int .i64 v] 33)).ownsRow A1.heap.size 33 5 (.slice da ds.length dc) ds.length (enc ds)) := row_gb HWX.out (gb_none (ba _ _)) (by simp)
          have hlds : ds.length + 1 ≤ 4096 := by have h := HI2.out; rw [HST.out] at h; simpa using h
          go_wp2_with (at_builtin; refine wpList_append_own_at _ rfl _ _ 22 rfl A1.heap.size 33 i33 (.agg #[.int .i64 0, .string ⟨#[]⟩, .int .i64 0, .int .i64 0, .int .i64 0]) 5 48 Try.underlying22 hi33 hz0 hz1 hz2 rfl (by decide) (.slice da ds.length dc) ds.length (enc ds) rfl HOW.out ⟨wr.heap.size + 1, 0, none⟩ 1 1 [.int .i64 d, .string nm, .int .i64 p, .int .i64 u, .int .i64 v] rfl ?q1 ?q2 ?q3 ?q4 ?q5 ?q6 ?_)
          case q1 => rfl
          case q2 => exact five_cells X _ _ _ _ _ _ _ hzX.symm
          case q3 => intro z hz; simp at hz; rcases hz with rfl | rfl | rfl | rfl | rfl <;> rfl
          case q4 => unfold maxLen; omega
          case q5 => omega
          case q6 => simp; omega
          intro nv' w5 hown hgrow hnil hat
          have hlow : Below A1.heap.size A1 w5 := by
            refine ⟨hgrow.os.trans BX.os, hgrow.tape.trans BX.tape, hgrow.output.trans BX.output, by have := hgrow.size; simp at this; omega, fun k hk => ?_⟩
            refine (hgrow.block k (by simp; omega) (fun e => ?_)).trans ((Below.heap_alloc _ _ _ (by omega)).trans (BX.block k hk))
            have := (row_lt HWX.out e.symm).1
            omega
          obtain ⟨na, ncc, rfl⟩ := row_slice hown
          have HRW : Hid (w5.ownsRow A1.heap.size 33 5 (.slice na (ds ++ [nrm (d, nm, p, u, v)]).length ncc) (ds ++ [nrm (d, nm, p, u, v)]).length (enc (ds ++ [nrm (d, nm, p, u, v)]))) := by
            rw [Hid, hnr.out, enc_snoc, List.length_append, hsA1]
            exact hown
          clear hown hgrow hnil hat
          go_wp2
          go_roundw
          case rel => exact ⟨i + 1, na, ncc, ds ++ [nrm (d, nm, p, u, v)], by go_num, by simp, by omega, HST, by simp; omega, HRW, hlow⟩
          case measure => simp [intOf]; omega
        · have hdn3 : (d != 3) = true := by simp [hd]
          have hnr : Hid (nrm (d, nm, p, u, v) = (d, nm, 0, u, v)) := by rw [Hid]; simp [nrm, hd]
          clear hd
          obtain ⟨Y, hY⟩ : ∃ Y, X.setCell ⟨wr.heap.size, 2, none⟩ (.int .i64 0) = Y := ⟨_, rfl⟩
          have hzY : Y.heap.size = wr.heap.size + 1 := by rw [← hY]; simpa using hzX
          have gY : X.grownBy Y (some wr.heap.size) := by rw [← hY]; exact gb_set (gb_refl _ _) 2 _
          have HWY : Hid (Y.ownsRow A1.heap.size 33 5 (.slice da ds.length dc) ds.length (enc ds)) := row_gb HWX.out gY (fun g hg e => by have := (row_lt HW.out hg).2; simp only [Option.some.injEq] at e; omega)
          have BY : Below A1.heap.size A1 Y := by rw [← hY]; exact BX.setCell (p := ⟨wr.heap.size, 2, none⟩) hrs _
          have z0 : Y.cell? ⟨wr.heap.size, 0, none⟩ = some (.int .i64 d) := by rw [← hY]; exact (sc_other (by simp)).trans HVX.out.c0
          have z1' : Y.cell? ⟨wr.heap.size, 1, none⟩ = some (.string nm) := by rw [← hY]; exact (sc_other (by simp)).trans HVX.out.c1
          have z2 : Y.cell? ⟨wr.heap.size, 2, none⟩ = some (.int .i64 0) := by rw [← hY]; exact sc_same HVX.out.c2
          have z3 : Y.cell? ⟨wr.heap.size, 3, none⟩ = some (.int .i64 u) := by rw [← hY]; exact (sc_other (by simp)).trans HVX.out.c3
          have z4 : Y.cell? ⟨wr.heap.size, 4, none⟩ = some (.int .i64 v) := by rw [← hY]; exact (sc_other (by simp)).trans HVX.out.c4
          have HOW : Hid ((Y.alloc (.cells #[.int .i64 d, .string nm, .int .i64 0, .int .i64 u, .int .i64 v] 33)).ownsRow A1.heap.size 33 5 (.slice da ds.length dc) ds.length (enc ds)) := row_gb HWY.out (gb_none (ba _ _)) (by simp)
          have hlds : ds.length + 1 ≤ 4096 := by have h := HI2.out; rw [HST.out] at h; simpa using h
          go_wp2_with (at_builtin; refine wpList_append_own_at _ rfl _ _ 22 rfl A1.heap.size 33 i33 (.agg #[.int .i64 0, .string ⟨#[]⟩, .int .i64 0, .int .i64 0, .int .i64 0]) 5 48 Try.underlying22 hi33 hz0 hz1 hz2 rfl (by decide) (.slice da ds.length dc) ds.length (enc ds) rfl HOW.out ⟨wr.heap.size + 1, 0, none⟩ 1 1 [.int .i64 d, .string nm, .int .i64 0, .int .i64 u, .int .i64 v] rfl ?q1 ?q2 ?q3 ?q4 ?q5 ?q6 ?_)
          case q1 => rfl
          case q2 => exact five_cells Y _ _ _ _ _ _ _ hzY.symm
          case q3 => intro z hz; simp at hz; rcases hz with rfl | rfl | rfl | rfl | rfl <;> rfl
          case q4 => unfold maxLen; omega
          case q5 => omega
          case q6 => simp; omega
          intro nv' w5 hown hgrow hnil hat
          have hlow : Below A1.heap.size A1 w5 := by
            refine ⟨hgrow.os.trans BY.os, hgrow.tape.trans BY.tape, hgrow.output.trans BY.output, by have := hgrow.size; simp at this; omega, fun k hk => ?_⟩
            refine (hgrow.block k (by simp; omega) (fun e => ?_)).trans ((Below.heap_alloc _ _ _ (by omega)).trans (BY.block k hk))
            have := (row_lt HWY.out e.symm).1
            omega
          obtain ⟨na, ncc, rfl⟩ := row_slice hown
          have HRW : Hid (w5.ownsRow A1.heap.size 33 5 (.slice na (ds ++ [nrm (d, nm, p, u, v)]).length ncc) (ds ++ [nrm (d, nm, p, u, v)]).length (enc (ds ++ [nrm (d, nm, p, u, v)]))) := by
            rw [Hid, hnr.out, enc_snoc, List.length_append, hsA1]
            exact hown
          clear hown hgrow hnil hat
          go_wp2
          go_roundw
          case rel => exact ⟨i + 1, na, ncc, ds ++ [nrm (d, nm, p, u, v)], by go_num, by simp, by omega, HST, by simp; omega, HRW, hlow⟩
          case measure => simp [intOf]; omega
      · have hez' : (er == 0) = false := by simpa using hez
        rw [if_neg hez] at HST
        go_wp2
        go_roundw
        case rel => exact ⟨i + 1, da, dc, ds, by go_num, rfl, by omega, HST, hds, HWX, BX⟩
        case measure => simp [intOf]; omega
    · have hi' : i = l.length := by omega
      subst hi'
      obtain rfl : ds = dn := by have h := HD.out; rw [List.take_length, hdn.out] at h; exact h.symm
      have ksm := sameEntries_any wr.heap.size (.slice a1 ds.length c1) (.slice da ds.length dc) ds ds wr (Nat.le_refl _) ((HE1.out.at (Nat.le_refl _) hbl).mono hbl.size) (ents_of_row HW.out (by omega) (fun x hx => by have := inv_names HINV.out x hx; omega)) true (by simp)
      have HED : Hid (Ents wr wr.heap.size (.slice da ds.length dc) ds) := ents_of_row HW.out (by omega) (fun x hx => by have := inv_names HINV.out x hx; omega)
      have y1 := (HS1.out.below hbl).c1
      go_wp2_with fail
      refine ksm.mono ?_
      rintro e3 w3 ⟨rfl, hb3⟩
      have hs3 := hb3.size
      have BA3 : Below w.heap.size w w3 := bt hbw hb3
      have HE3 : Hid (Ents w3 w3.heap.size (.slice da ds.length dc) ds) := (HED.out.at (Nat.le_refl _) hb3).mono hs3
      clear ksm y1 y0
      go_wp2_with fail
      go_loopw [55] (fun s wr => ∃ (i : Nat), s = .int .i64 (i : Int) ∧ i ≤ ds.length ∧ Below w3.heap.size w3 wr) (fun s _ => ds.length - (intOf s).toNat)
      case atStart => exact ⟨0, rfl, Nat.zero_le _, Below.refl _ _⟩
      case round =>
        obtain ⟨i, rfl, hi, hbr⟩ := hrel
        obtain ⟨wq, hwq⟩ : ∃ wq : World, wq = wr := ⟨_, rfl⟩
        subst hwq
        have hsr := hbr.size
        by_cases h1 : i < ds.length
        · obtain ⟨b, o, d, nm, p, u, v, rfl, hb, hg, e0, e1, e2, e3, e4, hnm⟩ := HE3.out.get (Nat.le_refl _) hbr h1
          have hmem : (d, nm, p, u, v) ∈ ds := List.mem_of_getElem? hg
          have HMEM : Hid ((d, nm, p, u, v) ∈ ds) := hmem
          clear hg hmem
          by_cases hd : d = 1
          · subst hd
            obtain ⟨al, hal⟩ : ∃ al, (allP ds nm).1 = al := ⟨_, rfl⟩
            have HAL : Hid ((allP ds nm).1 = al) := hal
            have hokl : OkR (u, v) := (bad_ok (HINV.out.bad _ HMEM.out).1).2.2.2
            have hoka : OkR al := by rw [← hal]; exact (HINV.out.all nm).2
            have hple := never_all HINV.out HMEM.out rfl
            simp only [hal] at hple
            have lbd := hokl.bd
            have abd := hoka.bd
            have hpal : prodT oneQ (lss ds nm 2 0) = (al, 0) := by
              have h := (HINV.out.all nm).1
              exact Prod.ext hal h
            obtain ⟨X2, hX2⟩ : ∃ X2, wq.alloc (.cells #[.int .i64 1, .string nm, .int .i64 p, .int .i64 u, .int .i64 v] 33) = X2 := ⟨_, rfl⟩
            have hbX2 : Below wq.heap.size wq X2 := by rw [← hX2]; exact ba _ _
            have VX2 := FivB.new wq (.int .i64 1) (.string nm) (.int .i64 p) (.int .i64 u) (.int .i64 v) 33 _ rfl
            rw [hX2] at VX2
            have HVX2 : Hid (FivB X2 wq.heap.size (.int .i64 1) (.string nm) (.int .i64 p) (.int .i64 u) (.int .i64 v)) := VX2
            have b32 : Below w3.heap.size w3 X2 := bt hbr hbX2
            have kp := product_any X2.heap.size (.slice (some ⟨b, o, none⟩) ds.length dc) ds nm 2 0 X2 (Nat.le_refl _) ((HE3.out.at (Nat.le_refl _) b32).mono b32.size) al 0 hpal
            obtain ⟨x0, x1, x2, x3, x4, _, _, _, _, _, hlx⟩ := VX2
            clear hal hpal
            go_wp2_with fail
            refine kp.mono ?_
            rintro e5 w4 ⟨rfl, hb4⟩
            have hs4 := hb4.size
            obtain ⟨X3, hX3⟩ : ∃ X3, w4.alloc (.cells #[.int .i64 al.1, .int .i64 al.2] 31) = X3 := ⟨_, rfl⟩
            have hbX3 : Below w4.heap.size w4 X3 := by rw [← hX3]; exact ba _ _
            have hzX3 : X3.heap.size = w4.heap.size + 1 := by rw [← hX3]; simp
            have HT3 : Hid (TwoB X3 w4.heap.size (.int .i64 al.1) (.int .i64 al.2)) := by rw [← hX3]; exact TwoB.new _ _ _ 31 _ rfl
            have HV3 : Hid (FivB X3 wq.heap.size (.int .i64 1) (.string nm) (.int .i64 p) (.int .i64 u) (.int .i64 v)) := (HVX2.out.below hb4).below hbX3
            have b33 : Below w3.heap.size w3 X3 := bt (bt b32 hb4) hbX3
            obtain ⟨c0', c1', c2', c3', c4', _, _, _, _, _, hlx3⟩ := HV3.out
            obtain ⟨t0, t1, _, _, hlt3⟩ := HT3.out
            have km := fun W => refMost_any al.1 al.2 u v abd.1 abd.2.1 (by omega) abd.2.2.2 lbd.1 lbd.2.1 (by have := lbd.2.2.1; omega) lbd.2.2.2 true (le_dec hple) W
            clear kp x0 x1 x2 x3 x4
            go_wp2_with fail
            refine (km _).mono ?_
            rintro e6 w5 ⟨rfl, hb5⟩
            have hs5 := hb5.size
            have b35 : Below w3.heap.size w3 w5 := bt b33 hb5
            have HV5 : Hid (FivB w5 wq.heap.size (.int .i64 1) (.string nm) (.int .i64 p) (.int .i64 u) (.int .i64 v)) := HV3.out.below hb5
            have HT5 : Hid (TwoB w5 w4.heap.size (.int .i64 al.1) (.int .i64 al.2)) := HT3.out.below hb5
            obtain ⟨c0', c1', c2', c3', c4', _, _, _, _, _, hlx5⟩ := HV5.out
            have kpp := parts_any w5.heap.size (.slice (some ⟨b, o, none⟩) ds.length dc) ds nm w5 (Nat.le_refl _) ((HE3.out.at (Nat.le_refl _) b35).mono b35.size) (by omega)
            clear km
            go_wp2_with fail
            refine kpp.mono ?_
            rintro e7 w6 ⟨pv, rfl, hrow6, hb6⟩
            have hs6 := hb6.size
            obtain ⟨pa, pc, rfl⟩ := row_slice hrow6
            have HROW6 : Hid (w6.ownsRow w5.heap.size 3 1 (.slice pa (parT ds nm).length pc) (parT ds nm).length ((parT ds nm).map (.int .i64))) := hrow6
            have b36 : Below w3.heap.size w3 w6 := bt b35 hb6
            have HV6 : Hid (FivB w6 wq.heap.size (.int .i64 1) (.string nm) (.int .i64 p) (.int .i64 u) (.int .i64 v)) := HV5.out.below hb6
            have HT6 : Hid (TwoB w6 w4.heap.size (.int .i64 al.1) (.int .i64 al.2)) := HT5.out.below hb6
            have hpl : (parT ds nm).length ≤ 64 := HINV.out.par nm
            have hlq6 : wq.heap.size < w6.heap.size := HV6.out.lt
            have hl46 : w4.heap.size < w6.heap.size := HT6.out.lt
            clear kpp hrow6 c0' c1' c2' c3' c4' t0 t1
            go_wp2_with fail
            go_loopw [83] (fun s wr => ∃ (j : Nat), s = .int .i64 (j : Int) ∧ j ≤ (parT ds nm).length ∧ Below w6.heap.size w6 wr) (fun s _ => (parT ds nm).length - (intOf s).toNat)
            case atStart => exact ⟨0, rfl, Nat.zero_le _, Below.refl _ _⟩
            case round =>
              obtain ⟨j, rfl, hj, hbj⟩ := hrel
              have hsj := hbj.size
              by_cases hj1 : j < (parT ds nm).length
              · obtain ⟨pj, hpj⟩ := get_lt hj1
                have hpm : pj ∈ parT ds nm := List.mem_of_getElem? hpj
                obtain ⟨gp, rfl, _, _, hcp⟩ := row_cell (row_gb HROW6.out (gb_none hbj) (by simp)) (j := j) (u := .int .i64 pj) (by simp [hpj])
                obtain ⟨ow, how⟩ : ∃ ow, (prtP ds nm pj).1 = ow := ⟨_, rfl⟩
                have hoko : OkR ow := by rw [← how]; exact (HINV.out.prt nm pj).2
                have hppr : prodT oneQ (lss ds nm 3 pj) = (ow, 0) := by
                  have h := (HINV.out.prt nm pj).1
                  exact Prod.ext how h
                obtain ⟨⟨rs, re⟩, hre⟩ : ∃ x, mulT al ow = x := ⟨_, rfl⟩
                have hle2 : re = 0 → LeR rs (u, v) ∧ OkR rs := by
                  intro h0
                  have h1 := never_part HINV.out HMEM.out rfl hpm (by rw [HAL.out, how, hre]; exact h0)
                  simp only [HAL.out, how, hre] at h1
                  rcases mul_cases hoka hoko with ⟨_, k, _⟩ | k
                  · rw [hre] at k; exact ⟨h1, k⟩
                  · rw [hre] at k; simp only [Prod.mk.injEq] at k; omega
                have htm : Rt.timesT al.1 al.2 ow.1 ow.2 = (rs.1, rs.2, re) := by
                  rw [mulT_is al ow, hre]
                have kp := product_any wr.heap.size (.slice (some ⟨b, o, none⟩) ds.length dc) ds nm 3 pj wr (Nat.le_refl _) ((HE3.out.at (Nat.le_refl _) (bt b36 hbj)).mono (bt b36 hbj).size) ow 0 hppr
                have kt := fun W => refTimes_any al.1 al.2 ow.1 ow.2 rs.1 rs.2 re htm W
                have HVj : Hid (FivB wr wq.heap.size (.int .i64 1) (.string nm) (.int .i64 p) (.int .i64 u) (.int .i64 v)) := HV6.out.below hbj
                have HTj : Hid (TwoB wr w4.heap.size (.int .i64 al.1) (.int .i64 al.2)) := HT6.out.below hbj
                obtain ⟨d0', d1', d2', d3', d4', _, _, _, _, _, hlj⟩ := HVj.out
                have z1 : (j : Int) < ((parT ds nm).length : Int) := by omega
                clear hpj hpm how hppr hre htm
                go_wp2_with fail
                refine kp.mono ?_
                rintro e8 w7 ⟨rfl, hb7⟩
                have hs7 := hb7.size
                obtain ⟨X7, hX7⟩ : ∃ X7, w7.alloc (.cells #[.int .i64 ow.1, .int .i64 ow.2] 31) = X7 := ⟨_, rfl⟩
                have hbX7 : Below w7.heap.size w7 X7 := by rw [← hX7]; exact ba _ _
                have HT7 : Hid (TwoB X7 w7.heap.size (.int .i64 ow.1) (.int .i64 ow.2)) := by rw [← hX7]; exact TwoB.new _ _ _ 31 _ rfl
                have HA7 : Hid (TwoB X7 w4.heap.size (.int .i64 al.1) (.int .i64 al.2)) := (HTj.out.below hb7).below hbX7
                have HV7 : Hid (FivB X7 wq.heap.size (.int .i64 1) (.string nm) (.int .i64 p) (.int .i64 u) (.int .i64 v)) := (HVj.out.below hb7).below hbX7
                have b67 : Below w6.heap.size w6 X7 := bt (bt hbj hb7) hbX7
                obtain ⟨t0, t1, _, _, hlt7⟩ := HT7.out
                obtain ⟨q0, q1, _, _, hlt4⟩ := HA7.out
                clear kp d0' d1' d2' d3' d4'
                go_wp2_with fail
                refine (kt _).mono ?_
                rintro e9 w8 ⟨rfl, hb8⟩
                obtain ⟨X8, hX8⟩ : ∃ X8, w8.alloc (.cells #[.int .i64 rs.1, .int .i64 rs.2] 31) = X8 := ⟨_, rfl⟩
                have hbX8 : Below w8.heap.size w8 X8 := by rw [← hX8]; exact ba _ _
                have HT8 : Hid (TwoB X8 w8.heap.size (.int .i64 rs.1) (.int .i64 rs.2)) := by rw [← hX8]; exact TwoB.new _ _ _ 31 _ rfl
                have HV8 : Hid (FivB X8 wq.heap.size (.int .i64 1) (.string nm) (.int .i64 p) (.int .i64 u) (.int .i64 v)) := (HV7.out.below hb8).below hbX8
                have b68 : Below w6.heap.size w6 X8 := bt (bt b67 hb8) hbX8
                obtain ⟨d0', d1', d2', d3', d4', _, _, _, _, _, hl8⟩ := HV8.out
                obtain ⟨s0', s1', _, _, hlt8⟩ := HT8.out
                clear kt t0 t1 q0 q1
                by_cases hr0 : re = 0
                · subst hr0
                  obtain ⟨hle3, hokr⟩ := hle2 rfl
                  have rbd := hokr.bd
                  have km := fun W => refMost_any rs.1 rs.2 u v rbd.1 rbd.2.1 (by omega) rbd.2.2.2 lbd.1 lbd.2.1 (by have := lbd.2.2.1; omega) lbd.2.2.2 true (le_dec hle3) W
                  go_wp2_with fail
                  refine (km _).mono ?_
                  rintro e10 w9 ⟨rfl, hb9⟩
                  have b69 : Below w6.heap.size w6 w9 := bt b68 hb9
                  clear km
                  go_wp2
                  go_roundw
                  case rel => exact ⟨j + 1, by go_num, by omega, b69⟩
                  case measure => simp [intOf]; omega
                · have hr0' : (re == 0) = false := by simpa using hr0
                  go_wp2
                  go_roundw
                  case rel => exact ⟨j + 1, by go_num, by omega, b68⟩
                  case measure => simp [intOf]; omega
              · have hj' : j = (parT ds nm).length := by omega
                subst hj'
                go_wp2
                go_roundw
                case rel => exact ⟨i + 1, by go_num, by omega, bt b36 hbj⟩
                case measure => simp [intOf]; omega
          · have hd1 : (d != 1) = true := by simpa using hd
            go_wp2
            go_roundw
            case rel => exact ⟨i + 1, by go_num, by omega, bal hbr _⟩
            case measure => simp [intOf]; omega
        · have hi' : i = ds.length := by omega
          subst hi'
          go_wp2
          go_ret
          exact ⟨rfl, bt BA3 hbr⟩
end Go.Proofs.Ytfibbjngllelbaa
