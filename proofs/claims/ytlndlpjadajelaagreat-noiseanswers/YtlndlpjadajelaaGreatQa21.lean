import Derived.Test.YtlndlpjadajelaaGreatQa20
namespace Go.Proofs.YtlndlpjadajelaaGreat
open Go.RowKit Go.Proofs.YtlndlpjadajelaaGreat.Ds
open Go.Maps (Keyed int_keyed keyOf_int_mk)

theorem info26 : (Tryz.prog.info? 44).map (fun i => (i.zero, i.size, i.bytes)) = some (some (.slice none 0 0), 1, 24) := by kernel_rfl
def I64 (z : Int) : Prop := -9223372036854775808 ≤ z ∧ z ≤ 9223372036854775807
theorem Ints.get' {w wr : World} {B nb : Nat} {a : Option Addr} {n c : Nat} {xs : List Int} (hp : Ints w B nb (.slice a n c) xs) (hB : B ≤ w.heap.size) (hbl : Below w.heap.size w wr) {i : Nat} (h : i < xs.length) :
    ∃ b o x, a = some ⟨b, o, none⟩ ∧ b < w.heap.size ∧ xs[i]? = some x ∧ wr.cell? ⟨b, o + i, none⟩ = some (.int .i64 x) := by
  obtain ⟨a', c', hv, hc, hl, hx⟩ := hp
  simp only [Value.slice.injEq] at hv
  obtain ⟨rfl, rfl, rfl⟩ := hv
  obtain ⟨b, o, ha, hb, hn, hcell⟩ := hx (ne_of_lt h)
  obtain ⟨x, hxx⟩ := get_lt h
  exact ⟨b, o, x, ha, by omega, hxx, (hbl.cell (p := ⟨b, o + i, none⟩) (by show b < w.heap.size; omega)).trans (hcell i x hxx)⟩

set_option maxHeartbeats 4000000 in
set_option maxRecDepth 100000 in
/-- HideAll -/
theorem hideAll_any (B nb : Nat) (u d lo hi : Int) (v : Value) (ns : List Int) (w : World) (hB : B ≤ w.heap.size) (hx : Ints w B nb v ns) (hlo : I64 lo) (hhi : I64 hi) (hns : ∀ n ∈ ns, I64 n) (hlen : ns.length ≤ 1048576) (l : List (List Pt)) (er : Int) (hr : hidsT u d lo hi ns = (l, er)) :
    Calls Tryz.prog 28 #[rv u d, .int .i64 lo, .int .i64 hi, v] w (HidsP w l er) := by
  have HX : Hid (Ints w B nb v ns) := hx
  have HR : Hid (hidsT u d lo hi ns = (l, er)) := hr
  have HNS : Hid ((∀ n ∈ ns, I64 n) ∧ I64 lo ∧ I64 hi) := ⟨hns, hlo, hhi⟩
  obtain ⟨va, vc, rfl, _⟩ := hx
  obtain ⟨i0, hi0, hz0, hz1, hz2⟩ := info_parts info26
  have hmk : ∀ u : World, (Instr.makeSlice 32 (.int .i64 (ns.length : Int)) (.int .i64 (ns.length : Int))).run Tryz.prog u =
      .ok (.slice (some ⟨u.heap.size, 0, none⟩) ns.length ns.length) (u.alloc (.cells (madeCells #[.slice none 0 0] ns.length) 44)) := fun u => by
    have h := run_make (P := Tryz.prog) u 32 44 i0 (.slice none 0 0) Tryz.underlying32 hi0 hz0 .i64 .i64 (ns.length : Int) (ns.length : Int) (by omega) (Int.le_refl _) (by rw [hz2]; omega) (by omega)
    rw [Int.toNat_natCast] at h
    simpa [hz1, Value.cells] using h
  have hmm := @run_makeMap Tryz.prog
  have q26 : ∀ (w : World) (a : Option Addr) (n c n' c' : Nat), (binOp .eql 44 (.slice a n c) (.slice none n' c')).run Tryz.prog w = .ok (.bool a.isNone) w := fun w a n c n' c' => Lib.run_eql_slice_nil w _ _ a n c n' c' Tryz.underlying44
  clear hr hns hlo hhi
  go_enter Tryz.func28, Tryz.ntmps28
  go_wp2
  go_loopw [23] (fun s wr => ∃ (i : Nat) (zs : List Dz) (D : DataW Value) (m : Nat), s = .int .i64 (i : Int) ∧ i ≤ ns.length ∧ Hid (zs.length = ns.length ∧ rds (zs.take i) = (ns.take i).map (fun n => (hideT u d lo hi n).1) ∧ ∀ x ∈ ns.take i, (hideT u d lo hi x).2 = 0) ∧ Hid (RowD wr (w.heap.size + 1 + 1) (w.heap.size + 1 + 1 + 1) zs) ∧ Hid (Mpi wr (w.heap.size + 1) m (w.heap.size + 1 + 1 + 1) D u d lo hi) ∧ m ≤ i ∧ Below w.heap.size w wr ∧ w.heap.size + 1 + 1 + 1 ≤ wr.heap.size ∧ wr.cell? ⟨w.heap.size, 0, none⟩ = some (.int .i64 u) ∧ wr.cell? ⟨w.heap.size, 1, none⟩ = some (.int .i64 d)) (fun s _ => ns.length - (intOf s).toNat)
  case atStart =>
    refine ⟨0, List.replicate ns.length (.slice none 0 0, []), .map [], 0, rfl, Nat.zero_le _, ⟨by simp, by simp [rds], by simp⟩, ?_, ?_, Nat.le_refl _, bal (bal (ba _ _) _) _, by simp, by simp [go_sem], by simp [go_sem]⟩
    · have := rowD_made ((w.alloc (.cells #[.int .i64 u, .int .i64 d] 23)).alloc (.map #[] 0)) ns.length (w.heap.size + 1 + 1 + 1)
      simpa [Hid] using this
    · have := (Mpi.made (w.alloc (.cells #[.int .i64 u, .int .i64 d] 23)) (w.heap.size + 1 + 1 + 1) u d lo hi).keep (ba _ (.cells (madeCells #[.slice none 0 0] ns.length) 44))
      simpa [Hid] using this
  case round =>
    obtain ⟨i, zs, D, m, rfl, hit, HZ, HRw, HMp, hmi, hbl, hsz, c1, c2⟩ := hrel
    by_cases h1 : i < ns.length
    · obtain ⟨b, o, x, rfl, hb, hxi, hcx⟩ := HX.out.get' hB hbl h1
      have HX1 : Hid (ns[i]? = some x) := hxi
      obtain ⟨p, hp0⟩ : ∃ p, plcT lo hi x = p := ⟨_, rfl⟩
      have HPX : Hid (plcT lo hi x = p) := hp0
      have hp : (Lit.int .i64 p).wf = true := by
        have h2 := HNS.out.1 x (List.mem_of_getElem? hxi)
        have h3 := HNS.out.2
        unfold I64 at h2 h3
        refine WalkArith.wf_i64 ?_
        rw [← hp0]
        unfold plcT
        omega
      have ki := into_any x lo hi wr
      rw [hp0] at ki
      obtain ⟨vv, hvv, hor⟩ := HMp.out.el p
      have hrun1 := HMp.out.look hp hvv
      have HVV0 : Hid (D.atKey (.int .i64 p) (.held (.slice none 0 0)) = .held vv) := hvv
      clear hxi hp0 hvv
      rcases hor with rfl | ⟨us, hdd, hne, hhp⟩
      · obtain ⟨⟨l1, e1⟩, hh⟩ : ∃ y, hideT u d lo hi p = y := ⟨_, rfl⟩
        have kh := hide_fr u d lo hi p l1 e1 hh
        have HH : Hid (hideT u d lo hi p = (l1, e1)) := hh
        clear hh
        go_wp2_with fail
        refine ki.mono ?_
        rintro e w1 ⟨rfl, rfl⟩
        go_wp2_with fail
        refine (kh _).mono ?_
        rintro e w2 ⟨v2, us, rfl, k1, k2, k3, k4⟩
        obtain ⟨a2, c2', hv2⟩ := k2.slice
        subst hv2
        have hbw2 := bt hbl k3
        by_cases he1 : e1 = 0
        · subst he1
          have hs2 := k3.size
          have HM2 : Hid (Mpi w2 (w.heap.size + 1) m (w.heap.size + 1 + 1 + 1) D u d lo hi) := HMp.out.keep k3
          have HR2 : Hid (RowD w2 (w.heap.size + 1 + 1) (w.heap.size + 1 + 1 + 1) zs) := HRw.out.keep k3
          have HD2 : Hid (Dd w2 (w.heap.size + 1 + 1 + 1) (.slice a2 us.length c2') us) := (show Dd w2 w1.heap.size (.slice a2 us.length c2') us from ⟨k2, k4⟩).mono hsz
          have HHV : Hid (hideT u d lo hi p = (rd us, 0)) := by rw [Hid, k1]; exact HH.out
          have hne : Hid (us ≠ []) := by intro h; have := hide_ne HHV.out; rw [h] at this; exact this rfl
          have f1 : w2.cell? ⟨w.heap.size, 0, none⟩ = some (.int .i64 u) := ((bcell k3).1 _ _ (by omega)).trans c1
          have f2 : w2.cell? ⟨w.heap.size, 1, none⟩ = some (.int .i64 d) := ((bcell k3).1 _ _ (by omega)).trans c2
          clear k1 k2 k3 k4 kh hrun1 ki
          go_wp2_with (at_mapUpdate; refine wpList_mapUpdate_own _ rfl _ _ _ 121 rfl 3 44 law3 Tryz.underlying121 hR (w.heap.size + 1) m D rfl HM2.out.own (by unfold maxLen; omega) _ _ (.int .i64 p) rfl rfl (keyOf_int_mk Tryz.underlying3 hp) (.held (.slice a2 us.length c2')) [] rfl ?_)
          intro w4 hown4 hgrow4
          have hs4' := hgrow4.size
          have HMW : Hid (Mpi w4 (w.heap.size + 1) (m + 1) (w.heap.size + 1 + 1 + 1) (D.put (.int .i64 p) (.held (.slice a2 us.length c2'))) u d lo hi) := HM2.out.put hgrow4 (by omega) hown4 HD2.out hne.out HHV.out
          have HRW : Hid (RowD w4 (w.heap.size + 1 + 1) (w.heap.size + 1 + 1 + 1) zs) := HR2.out.beside hgrow4 (by omega) (by omega)
          have HDV : Hid (Dd w4 (w.heap.size + 1 + 1 + 1) (.slice a2 us.length c2') us) := HD2.out.beside hgrow4 (by omega)
          have HVV : Hid ((D.put (.int .i64 p) (.held (.slice a2 us.length c2'))).atKey (.int .i64 p) (.held (.slice none 0 0)) = .held (.slice a2 us.length c2')) := Maps.atKey_put_same (k := .int .i64 p) HM2.out.own.isMap True.intro _ _
          have hbW : Below w.heap.size w w4 := hbw2.grown hgrow4 (by omega) (fun j hj => by cases hj; omega)
          have d1 : w4.cell? ⟨w.heap.size, 0, none⟩ = some (.int .i64 u) := hgrow4.cell f1 (by simp)
          have d2 : w4.cell? ⟨w.heap.size, 1, none⟩ = some (.int .i64 d) := hgrow4.cell f2 (by simp)
          clear hown4 hgrow4 HM2 HR2 HD2 f1 f2 HRw HMp
          have hrun2 := HMW.out.look hp HVV.out
          have kcp := ncopied_fr w4.heap.size _ us w4 (Nat.le_refl _) HDV.out.1.parts
          obtain ⟨z0, hz0⟩ := get_lt (l := zs) (i := i) (by rw [HZ.out.1]; exact h1)
          have r1 := HRW.out.cell i z0 hz0
          have r2 := HRW.out.thaw i (by rw [HZ.out.1]; exact h1)
          have hsW := HRW.out.lt
          obtain ⟨z1, hz1'⟩ : ∃ z1, z0.1 = z1 := ⟨_, rfl⟩
          rw [hz1'] at r1
          clear hz0 hz1'
          go_wp2_with fail
          refine kcp.mono ?_
          rintro e w3 ⟨v3, us3, rfl, k1, k2, k3, k4⟩
          obtain ⟨a3, c3, hv3⟩ := k1.slice
          subst hv3
          have hs3 := k3.size
          have q1 : w3.cell? ⟨w.heap.size + 1 + 1, i, none⟩ = some z1 := ((bcell k3).1 _ _ hsW).trans r1
          have q2 : w3.frozen? ⟨w.heap.size + 1 + 1, i, none⟩ = false := ((bcell k3).2 _ _ hsW).trans r2
          have hlW : w.heap.size + 1 + 1 + 1 ≤ w4.heap.size := by omega
          have HD3 : Hid (Dd w3 (w.heap.size + 1 + 1 + 1) (.slice a3 us3.length c3) us3) := (show Dd w3 w4.heap.size (.slice a3 us3.length c3) us3 from ⟨k1, k4⟩).mono hlW
          have HR3 : Hid (RowD (w3.setCell ⟨w.heap.size + 1 + 1, i, none⟩ (.slice a3 us3.length c3)) (w.heap.size + 1 + 1) (w.heap.size + 1 + 1 + 1) (zs.set i (.slice a3 us3.length c3, us3))) := (HRW.out.keep k3).set (by rw [HZ.out.1]; exact h1) (by omega) HD3.out
          have HM3 : Hid (Mpi (w3.setCell ⟨w.heap.size + 1 + 1, i, none⟩ (.slice a3 us3.length c3)) (w.heap.size + 1) (m + 1) (w.heap.size + 1 + 1 + 1) (D.put (.int .i64 p) (.held (.slice a2 us.length c2'))) u d lo hi) := (HMW.out.keep k3).beside (gb_setc w3 (w.heap.size + 1 + 1) i _) (by omega) (by omega)
          have HB3 : Hid (Below w.heap.size w (w3.setCell ⟨w.heap.size + 1 + 1, i, none⟩ (.slice a3 us3.length c3))) := bs (bt hbW k3) (by dsimp only; omega) _
          have HZ3 : Hid ((zs.set i (.slice a3 us3.length c3, us3)).length = ns.length ∧ rds ((zs.set i (.slice a3 us3.length c3, us3)).take (i + 1)) = (ns.take (i + 1)).map (fun n => (hideT u d lo hi n).1) ∧ ∀ x ∈ ns.take (i + 1), (hideT u d lo hi x).2 = 0) := by
            have hx := HHV.out
            rw [← HPX.out, hide_plc] at hx
            refine ⟨by simp [HZ.out.1], ?_, ?_⟩
            · rw [take_set_succ _ (by rw [HZ.out.1]; exact h1), List.take_add_one, HX1.out]
              have h5 := HZ.out.2.1
              simp only [rds, List.map_append] at h5 ⊢
              rw [h5]
              simp [hx, k2]
            · intro y hy
              rw [List.take_add_one, HX1.out] at hy
              rcases List.mem_append.1 hy with h6 | h6
              · exact HZ.out.2.2 y h6
              · obtain rfl : y = x := by simpa using h6
                rw [hx]
          have hs4 : w.heap.size + 1 + 1 + 1 ≤ (w3.setCell ⟨w.heap.size + 1 + 1, i, none⟩ (.slice a3 us3.length c3)).heap.size := by simp; omega
          have e1 : (w3.setCell ⟨w.heap.size + 1 + 1, i, none⟩ (.slice a3 us3.length c3)).cell? ⟨w.heap.size, 0, none⟩ = some (.int .i64 u) := by rw [sc_other (by simp), (bcell k3).1 _ _ (by omega)]; exact d1
          have e2 : (w3.setCell ⟨w.heap.size + 1 + 1, i, none⟩ (.slice a3 us3.length c3)).cell? ⟨w.heap.size, 1, none⟩ = some (.int .i64 d) := by rw [sc_other (by simp), (bcell k3).1 _ _ (by omega)]; exact d2
          clear k1 k3 k4 kcp hrun2 d1 d2
          go_wp2
          go_roundw
          case rel => exact ⟨i + 1, _, _, _, by go_num, h1, HZ3, HR3, HM3, by omega, HB3.out, hs4, e1, e2⟩
          case measure => simp [intOf]; omega
        · have hne1 : (e1 == 0) = false := by simpa using he1
          have hne2 : (e1 != 0) = true := by simpa using he1
          have hh := HH.out
          rw [← HPX.out, hide_plc] at hh
          have hE := hids_err HZ.out.2.2 HX1.out (e := e1) (by rw [hh]) he1
          rw [hE] at HR
          have hR' := HR.out
          simp only [Prod.mk.injEq] at hR'
          obtain ⟨rfl, rfl⟩ := hR'
          clear k1 k2 k4 kh hrun1 ki hE hh HH HVV0
          go_wp2
          exact bodyPost_ret (v := .tuple #[.slice none 0 0, .int .i64 e1]) (by simp [results, Tryz.results28, go_sem]) rfl ⟨_, [], rfl, rfl, .inl ⟨rfl, rfl⟩, hbw2⟩
      · have HMW : Hid (Mpi wr (w.heap.size + 1) m (w.heap.size + 1 + 1 + 1) D u d lo hi) := HMp
        have HRW : Hid (RowD wr (w.heap.size + 1 + 1) (w.heap.size + 1 + 1 + 1) zs) := HRw
        have HDV : Hid (Dd wr (w.heap.size + 1 + 1 + 1) vv us) := hdd
        have HHV : Hid (hideT u d lo hi p = (rd us, 0)) := hhp
        have HVV : Hid (D.atKey (.int .i64 p) (.held (.slice none 0 0)) = .held vv) := HVV0
        have hbW := hbl
        have d1 := c1
        have d2 := c2
        obtain ⟨gs, go, vc', rfl⟩ : ∃ g o c, vv = .slice (some ⟨g, o, none⟩) us.length c := by
          rcases hdd.1 with ⟨_, h⟩ | ⟨b, o, c, h, _⟩
          · exact absurd h hne
          · exact ⟨b, o, c, h⟩
        clear hdd hhp HMp HRw HVV0
        go_wp2_with fail
        refine ki.mono ?_
        rintro e w1 ⟨rfl, rfl⟩
        have hrun2 := HMW.out.look hp HVV.out
        have kcp := ncopied_fr w1.heap.size _ us w1 (Nat.le_refl _) HDV.out.1.parts
        obtain ⟨z0, hz0⟩ := get_lt (l := zs) (i := i) (by rw [HZ.out.1]; exact h1)
        have r1 := HRW.out.cell i z0 hz0
        have r2 := HRW.out.thaw i (by rw [HZ.out.1]; exact h1)
        have hsW := HRW.out.lt
        obtain ⟨z1, hz1'⟩ : ∃ z1, z0.1 = z1 := ⟨_, rfl⟩
        rw [hz1'] at r1
        clear hz0 hz1'
        go_wp2_with fail
        refine kcp.mono ?_
        rintro e w3 ⟨v3, us3, rfl, k1, k2, k3, k4⟩
        obtain ⟨a3, c3, hv3⟩ := k1.slice
        subst hv3
        have hs3 := k3.size
        have q1 : w3.cell? ⟨w.heap.size + 1 + 1, i, none⟩ = some z1 := ((bcell k3).1 _ _ hsW).trans r1
        have q2 : w3.frozen? ⟨w.heap.size + 1 + 1, i, none⟩ = false := ((bcell k3).2 _ _ hsW).trans r2
        have hlW : w.heap.size + 1 + 1 + 1 ≤ w1.heap.size := by omega
        have HD3 : Hid (Dd w3 (w.heap.size + 1 + 1 + 1) (.slice a3 us3.length c3) us3) := (show Dd w3 w1.heap.size (.slice a3 us3.length c3) us3 from ⟨k1, k4⟩).mono hlW
        have HR3 : Hid (RowD (w3.setCell ⟨w.heap.size + 1 + 1, i, none⟩ (.slice a3 us3.length c3)) (w.heap.size + 1 + 1) (w.heap.size + 1 + 1 + 1) (zs.set i (.slice a3 us3.length c3, us3))) := (HRW.out.keep k3).set (by rw [HZ.out.1]; exact h1) (by omega) HD3.out
        have HM3 : Hid (Mpi (w3.setCell ⟨w.heap.size + 1 + 1, i, none⟩ (.slice a3 us3.length c3)) (w.heap.size + 1) m (w.heap.size + 1 + 1 + 1) D u d lo hi) := (HMW.out.keep k3).beside (gb_setc w3 (w.heap.size + 1 + 1) i _) (by omega) (by omega)
        have HB3 : Hid (Below w.heap.size w (w3.setCell ⟨w.heap.size + 1 + 1, i, none⟩ (.slice a3 us3.length c3))) := bs (bt hbW k3) (by dsimp only; omega) _
        have HZ3 : Hid ((zs.set i (.slice a3 us3.length c3, us3)).length = ns.length ∧ rds ((zs.set i (.slice a3 us3.length c3, us3)).take (i + 1)) = (ns.take (i + 1)).map (fun n => (hideT u d lo hi n).1) ∧ ∀ x ∈ ns.take (i + 1), (hideT u d lo hi x).2 = 0) := by
          have hx := HHV.out
          rw [← HPX.out, hide_plc] at hx
          refine ⟨by simp [HZ.out.1], ?_, ?_⟩
          · rw [take_set_succ _ (by rw [HZ.out.1]; exact h1), List.take_add_one, HX1.out]
            have h5 := HZ.out.2.1
            simp only [rds, List.map_append] at h5 ⊢
            rw [h5]
            simp [hx, k2]
          · intro y hy
            rw [List.take_add_one, HX1.out] at hy
            rcases List.mem_append.1 hy with h6 | h6
            · exact HZ.out.2.2 y h6
            · obtain rfl : y = x := by simpa using h6
              rw [hx]
        have hs4 : w.heap.size + 1 + 1 + 1 ≤ (w3.setCell ⟨w.heap.size + 1 + 1, i, none⟩ (.slice a3 us3.length c3)).heap.size := by simp; omega
        have e1 : (w3.setCell ⟨w.heap.size + 1 + 1, i, none⟩ (.slice a3 us3.length c3)).cell? ⟨w.heap.size, 0, none⟩ = some (.int .i64 u) := by rw [sc_other (by simp), (bcell k3).1 _ _ (by omega)]; exact d1
        have e2 : (w3.setCell ⟨w.heap.size + 1 + 1, i, none⟩ (.slice a3 us3.length c3)).cell? ⟨w.heap.size, 1, none⟩ = some (.int .i64 d) := by rw [sc_other (by simp), (bcell k3).1 _ _ (by omega)]; exact d2
        clear k1 k3 k4 kcp hrun2 d1 d2 hrun1 ki
        go_wp2
        go_roundw
        case rel => exact ⟨i + 1, _, _, _, by go_num, h1, HZ3, HR3, HM3, by omega, HB3.out, hs4, e1, e2⟩
        case measure => simp [intOf]; omega
    · have hall : ∀ n ∈ ns, (hideT u d lo hi n).2 = 0 := by have := HZ.out.2.2; rwa [List.take_of_length_le (by omega)] at this
      have hE := hids_ok hall
      rw [hE] at HR
      have hR' := HR.out
      simp only [Prod.mk.injEq] at hR'
      obtain ⟨rfl, rfl⟩ := hR'
      have HZZ : Hid (HidsP w (ns.map fun n => (hideT u d lo hi n).1) 0 (.returned (.tuple #[.slice (some ⟨w.heap.size + 1 + 1, 0, none⟩) ns.length ns.length, .int .i64 0])) wr) := by
        refine ⟨_, zs, rfl, ?_, .inr ⟨_, ns.length, _, by rw [HZ.out.1], by rw [HZ.out.1]; exact Nat.le_refl _, by rw [HZ.out.1]; exact hlen, HRw.out, by omega, by omega⟩, hbl⟩
        have h5 := HZ.out.2.1
        rwa [List.take_of_length_le (by rw [HZ.out.1]; omega), List.take_of_length_le (by omega)] at h5
      clear HRw HMp HR hE
      go_wp2
      exact bodyPost_ret (v := .tuple #[.slice (some ⟨w.heap.size + 1 + 1, 0, none⟩) ns.length ns.length, .int .i64 0]) (by simp [results, Tryz.results28, go_sem]) rfl HZZ.out
end Go.Proofs.YtlndlpjadajelaaGreat
