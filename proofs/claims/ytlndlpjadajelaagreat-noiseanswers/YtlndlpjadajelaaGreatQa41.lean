import Derived.Test.YtlndlpjadajelaaGreatQa40
namespace Go.Proofs.YtlndlpjadajelaaGreat.K
open Go.RowKit Go.Proofs.YtlndlpjadajelaaGreat.K.Ds

set_option maxHeartbeats 4000000 in
set_option maxRecDepth 100000 in
theorem ran2_any (c : ByteArray) (lo hi : Int) (cv rv wv kv : Value) (w : World) (B : Nat) (l : List Col) (ts : List Rw) (wh : List Tst) (hB : B ≤ w.heap.size) (hp : Cols w B cv l) (hr : Rws w B rv ts) (hw : Tss w B wv wh) (hlen : ts.length ≤ 4096) (hok : ∀ r ∈ rr ts, RowOk l r) (hkv : ∃ a n cc, kv = .slice a n cc) (hwe : whE l wh = 0) (at' : Nat) (hf : fnd l c = some at') (hwr : wrtB lo hi = true) :
    Calls Tryz.prog 77 #[.agg #[cv, rv], .agg #[.int .i64 2, .string c, .int .i64 lo, .int .i64 hi, wv, kv]] w (AnsR w (gat 1 (wh.map (trp l)) (stp 2 at' lo hi) (rr ts))) := by
  have ab := Rb.new w cv rv 2 c lo hi wv kv
  have hb0 := b2a w (.cells #[cv, rv] 27) (.cells #[.int .i64 2, .string c, .int .i64 lo, .int .i64 hi, wv, kv] 31)
  obtain ⟨W0, hW0⟩ : ∃ W0, ((w.alloc (.cells #[cv, rv] 27)).alloc (.cells #[.int .i64 2, .string c, .int .i64 lo, .int .i64 hi, wv, kv] 31)) = W0 := ⟨_, rfl⟩
  rw [hW0] at ab hb0
  have HW0 : Hid (((w.alloc (.cells #[cv, rv] 27)).alloc (.cells #[.int .i64 2, .string c, .int .i64 lo, .int .i64 hi, wv, kv] 31)) = W0) := hW0
  have HAB : Hid (Rb W0 w.heap.size cv rv 2 c lo hi wv kv) := ab
  have HP : Hid (Cols w B cv l) := hp
  have HQ : Hid (Rws w B rv ts) := hr
  have HW : Hid (Tss w B wv wh) := hw
  have HWE : Hid (whE l wh = 0) := hwe
  have HOKS : Hid (∀ r ∈ rr ts, RowOk l r) := hok
  have hal := fnd_lt hf
  have hspn := spn_bd hwr
  have k1 := rkids_any 2 W0 0 rfl
  have k2 := rcol_any B cv l c W0 (Nat.le_trans hB hb0.size) (hp.at hB hb0) (at' : Int) (fnI_some hf)
  obtain ⟨ca, ccp, rfl, _⟩ := hp.slice
  obtain ⟨ra, rc, rfl, _⟩ := hr.slice
  obtain ⟨wa, wc, rfl, _⟩ := hw.slice
  obtain ⟨ka, kn, kc', rfl⟩ := hkv
  have m0 := ab.a0.c
  have m1 := ab.t0.c
  have m2 := ab.a1.c
  have hm : ∀ u : World, (Instr.makeSlice 65 (.int .i64 1) (.int .i64 1)).run Tryz.prog u = .ok (.slice (some ⟨u.heap.size, 0, none⟩) 1 1) (u.alloc (.cells (madeCells #[.int .i64 0] 1) 3)) := fun u => make_ints 1 (by decide) u
  clear hp hr hw hok hwe ab hf
  go_enter Tryz.func77, Tryz.ntmps77
  go_wp2_with fail
  refine k1.mono ?_
  rintro e w0 ⟨rfl, hw0⟩
  subst hw0
  clear k1
  go_wp2_with fail
  refine k2.mono ?_
  rintro e w1 ⟨rfl, hb1⟩
  clear k2 m0 m1 m2
  have hbw1 := bt hb0 hb1
  have HB1 : Hid (Rb w1 w.heap.size (.slice ca l.length ccp) (.slice ra ts.length rc) 2 c lo hi (.slice wa wh.length wc) (.slice ka kn kc')) := HAB.out.at hb1
  have hs1 : Hid (w.heap.size ≤ w1.heap.size) := hbw1.size
  have HA0 : Hid (Arw (w1.alloc (.cells (madeCells #[.int .i64 0] 1) 3)) w.heap.size w1.heap.size 1 (gat 1 (wh.map (trp l)) (stp 2 at' lo hi) ((rr ts).take 0))) := by
    have := Arw.made w1 w.heap.size 1 hs1.out (by omega); simpa [Hid, gat] using this
  obtain ⟨g, hg⟩ : ∃ g, w1.heap.size = g := ⟨_, rfl⟩
  have hgw : Hid (w1.heap.size ≤ g) := by show _ ≤ _; omega
  have hgl : Hid (w.heap.size ≤ g) := by have := hs1.out; show _ ≤ _; omega
  have hm2 := hm w1
  rw [hg] at HA0
  have m0 := HB1.out.a0.c
  have m1 := (HB1.out.at (ba w1 (.cells (madeCells #[.int .i64 0] 1) 3))).t1.c
  go_wp2
  clear hg
  go_loopw [41] (fun s' wr => ∃ (i : Nat), s' = .int .i64 (i : Int) ∧ i ≤ ts.length ∧ Hid (Arw wr w.heap.size g 1 (gat 1 (wh.map (trp l)) (stp 2 at' lo hi) ((rr ts).take i))) ∧ Below w1.heap.size w1 wr) (fun s' _ => ts.length - (intOf s').toNat)
  case atStart => exact ⟨0, rfl, Nat.zero_le _, HA0, ba _ _⟩
  case round =>
    obtain ⟨i, rfl, hin, HA, hbr⟩ := hrel
    clear hm2 hm m0 m1
    have hbwr : Below w.heap.size w wr := bt hbw1 hbr
    by_cases h1 : i < ts.length
    · have hsr := hbwr.size
      obtain ⟨b, o, sa, sc, row, rfl, hbB, hgt, hcell, hrow⟩ := HQ.out.get hB hbwr h1
      have HG : Hid ((rr ts)[i]? = some row) := rr_get hgt
      have HRW : Hid (Ints wr B B (.slice sa row.length sc) row) := hrow
      have HOK : Hid (RowOk l row) := HOKS.out _ (List.mem_of_getElem? HG.out)
      obtain ⟨pb, hpb⟩ : ∃ pb, pasB (wh.map (trp l)) row = pb := ⟨_, rfl⟩
      have k2 := rpasses_any B B _ _ _ l wh row wr (by omega) (HP.out.at hB hbwr) (HW.out.at hB hbwr) hrow HWE.out HOK.out pb hpb
      have HPB : Hid (pasB (wh.map (trp l)) row = pb) := hpb
      have HBr := HB1.out.at hbr
      have m0 := HBr.t0.c
      have m1 := HBr.a4.c
      clear hgt hrow hpb HBr
      go_wp2_with fail
      refine k2.mono ?_
      rintro e w5 ⟨rfl, hb5⟩
      clear k2 m0 m1
      have HA5 : Hid (Arw w5 w.heap.size g 1 (gat 1 (wh.map (trp l)) (stp 2 at' lo hi) ((rr ts).take i))) := HA.out.at hb5
      have hbr5 : Below w1.heap.size w1 w5 := bt hbr hb5
      have HB5 := HB1.out.at hbr5
      have m0 := HB5.a0.c
      clear HB5
      cases pb with
      | false =>
        have HA6 : Hid (Arw w5 w.heap.size g 1 (gat 1 (wh.map (trp l)) (stp 2 at' lo hi) ((rr ts).take (i + 1)))) := by rw [gat_step HG.out, gst, HPB.out]; exact HA5.out
        go_wp2
        go_roundw
        case rel => exact ⟨i + 1, by go_num, h1, HA6, hbr5⟩
        case measure => simp [intOf]; omega
      | true =>
        have hgbd : Bdd (4096 * 1048576) (gat 1 (wh.map (trp l)) (stp 2 at' lo hi) ((rr ts).take i)) := gat_bd (by decide) (fun r _ => by have h1 := inT_bd (v := r.getD at' 0) hwr; have h2 := spn_bd hwr; rw [show (stp 2 at' lo hi r).2 = inT lo hi (r.getD at' 0) by simp [stp]]; omega) (by simp [rr]; omega)
        obtain ⟨x, hx0⟩ := get_lt (l := gat 1 (wh.map (trp l)) (stp 2 at' lo hi) ((rr ts).take i)) (i := 0) (by rw [gat_len]; decide)
        have hxb : -4611686018427387904 ≤ x ∧ x ≤ 4611686018427387904 := by have := hgbd.get hx0; omega
        obtain ⟨b2, o2, y, rfl, _, _, _, _, hgd, hcy⟩ := (HRW.out.at (by omega) hb5).got (i := at') (by have := HOK.out.len; omega)
        have hrl : at' < row.length := by have := HOK.out.len; omega
        have hin := inT_bd (v := y) hwr
        have kt := rinto_any lo hi y w5.drew
        obtain ⟨z, hz⟩ : ∃ z, inT lo hi y = z := ⟨_, rfl⟩
        have HA6 : Hid (Arw (w5.setCell ⟨g, 0, none⟩ (.int .i64 (x + z))).drew w.heap.size g 1 (gat 1 (wh.map (trp l)) (stp 2 at' lo hi) ((rr ts).take (i + 1)))) := by
          have he : gat 1 (wh.map (trp l)) (stp 2 at' lo hi) ((rr ts).take (i + 1)) = (gat 1 (wh.map (trp l)) (stp 2 at' lo hi) ((rr ts).take i)).set 0 (x + z) := by
            rw [gat_step HG.out, gst, HPB.out]
            show addAt _ _ = _
            unfold addAt
            rw [show stp 2 at' lo hi row = (0, z) by simp only [stp]; rw [hgd, hz]; simp]
            have hgd : (gat 1 (wh.map (trp l)) (stp 2 at' lo hi) ((rr ts).take i)).getD 0 0 = x := by rw [List.getD, hx0]; rfl
            dsimp only
            rw [hgd]
          rw [he]
          exact (HA5.out.set 0 _).at (Below.refl _ _).drew
        have hb6 : Below w1.heap.size w1 (w5.setCell ⟨g, 0, none⟩ (.int .i64 (x + z))).drew := (hbr5.setCell (by simpa using hgw.out) _).drew
        rw [hz] at kt hin
        have q0 := HA5.out.cell hx0
        have q1 := HA5.out.fz 0
        obtain ⟨x1, x2⟩ := hxb
        obtain ⟨y1, y2⟩ := hin
        have hw1 : IntKind.i64.wrap (x + z) = x + z := by rw [IntKind.wrap_i64]; have := wrap_id (a := x + z) (by omega); unfold wrap64 at this; omega
        have hj1 : (0 : Int) ≤ (at' : Int) := by omega
        have hj2 : (at' : Int) < (row.length : Int) := by omega
        have HB5 := HB1.out.at hbr5
        have m2 := HB5.a2.c
        have m3 := HB5.a3.c
        clear hx0 hgbd hgd hz HB5
        go_wp2
        go_region_law (first | (go_simp; go_at_call 144; refine kt.mono ?_; rintro x3 w3 ⟨rfl, hw3⟩; subst hw3; go_wp2_with fail))
        all_goals
          go_wp2
          go_roundw
          case rel => exact ⟨i + 1, by go_num, h1, HA6, hb6⟩
          case measure => simp [intOf]; omega
    · have HA6 : Hid (Arw wr w.heap.size g 1 (gat 1 (wh.map (trp l)) (stp 2 at' lo hi) (rr ts))) := by have := HA.out; rwa [List.take_of_length_le (by rw [rr_len]; omega)] at this
      go_wp2
      go_ret
      refine ⟨some ⟨g, 0, none⟩, 1, by rw [gat_len]; rfl, ?_, hbwr⟩
      exact HA6.out.ints _ (Nat.ne_of_lt HA6.out.lt.2)
end Go.Proofs.YtlndlpjadajelaaGreat.K

namespace Go.Proofs.YtlndlpjadajelaaGreat.K
open Go.RowKit Go.Proofs.YtlndlpjadajelaaGreat.K.Ds

set_option maxHeartbeats 4000000 in
set_option maxRecDepth 100000 in
theorem ran3_any (c : ByteArray) (lo hi : Int) (cv rv wv kv : Value) (w : World) (B : Nat) (l : List Col) (ts : List Rw) (wh : List Tst) (hB : B ≤ w.heap.size) (hp : Cols w B cv l) (hr : Rws w B rv ts) (hw : Tss w B wv wh) (hlen : ts.length ≤ 4096) (hok : ∀ r ∈ rr ts, RowOk l r) (hkv : ∃ a n cc, kv = .slice a n cc) (hwe : whE l wh = 0) (at' : Nat) (hf : fnd l c = some at') (n : Nat) (hn : n ≤ 4096) (hnc : szC l at' = (n : Int)) :
    Calls Tryz.prog 77 #[.agg #[cv, rv], .agg #[.int .i64 3, .string c, .int .i64 lo, .int .i64 hi, wv, kv]] w (AnsR w (gat n (wh.map (trp l)) (stp 3 at' 0 0) (rr ts))) := by
  have ab := Rb.new w cv rv 3 c lo hi wv kv
  have hb0 := b2a w (.cells #[cv, rv] 27) (.cells #[.int .i64 3, .string c, .int .i64 lo, .int .i64 hi, wv, kv] 31)
  obtain ⟨W0, hW0⟩ : ∃ W0, ((w.alloc (.cells #[cv, rv] 27)).alloc (.cells #[.int .i64 3, .string c, .int .i64 lo, .int .i64 hi, wv, kv] 31)) = W0 := ⟨_, rfl⟩
  rw [hW0] at ab hb0
  have HW0 : Hid (((w.alloc (.cells #[cv, rv] 27)).alloc (.cells #[.int .i64 3, .string c, .int .i64 lo, .int .i64 hi, wv, kv] 31)) = W0) := hW0
  have HAB : Hid (Rb W0 w.heap.size cv rv 3 c lo hi wv kv) := ab
  have HP : Hid (Cols w B cv l) := hp
  have HQ : Hid (Rws w B rv ts) := hr
  have HW : Hid (Tss w B wv wh) := hw
  have HWE : Hid (whE l wh = 0) := hwe
  have HOKS : Hid (∀ r ∈ rr ts, RowOk l r) := hok
  have hal := fnd_lt hf
  have HNC : Hid (szC l at' = (n : Int)) := hnc
  have k1 := rkids_any 3 W0 0 rfl
  have k2 := rcol_any B cv l c W0 (Nat.le_trans hB hb0.size) (hp.at hB hb0) (at' : Int) (fnI_some hf)
  obtain ⟨ca, ccp, rfl, _⟩ := hp.slice
  obtain ⟨ra, rc, rfl, _⟩ := hr.slice
  obtain ⟨wa, wc, rfl, _⟩ := hw.slice
  obtain ⟨ka, kn, kc', rfl⟩ := hkv
  have m0 := ab.a0.c
  have m1 := ab.t0.c
  have m2 := ab.a1.c
  have hm : ∀ u : World, (Instr.makeSlice 65 (.int .i64 (n : Int)) (.int .i64 (n : Int))).run Tryz.prog u = .ok (.slice (some ⟨u.heap.size, 0, none⟩) n n) (u.alloc (.cells (madeCells #[.int .i64 0] n) 3)) := fun u => make_ints n (by omega) u
  clear hp hr hw hok hwe ab hf hnc
  go_enter Tryz.func77, Tryz.ntmps77
  go_wp2_with fail
  refine k1.mono ?_
  rintro e w0 ⟨rfl, hw0⟩
  subst hw0
  clear k1
  go_wp2_with fail
  refine k2.mono ?_
  rintro e w1 ⟨rfl, hb1⟩
  clear k2 m0 m1 m2
  have hbw1 := bt hb0 hb1
  have HB1 : Hid (Rb w1 w.heap.size (.slice ca l.length ccp) (.slice ra ts.length rc) 3 c lo hi (.slice wa wh.length wc) (.slice ka kn kc')) := HAB.out.at hb1
  obtain ⟨bC, oC, nm, sz, rfl, hbC, hgC, cC1, cC2, hnm⟩ := HP.out.get hB hbw1 hal
  obtain rfl : sz = (n : Int) := by have := HNC.out; simpa [szC, hgC] using this
  have HCC : Hid (l[at']? = some (nm, (n : Int))) := hgC
  clear hgC HNC
  have hj1 : (0 : Int) ≤ (at' : Int) := by omega
  have hj2 : (at' : Int) < (l.length : Int) := by omega
  have hs1 : Hid (w.heap.size ≤ w1.heap.size) := hbw1.size
  have HA0 : Hid (Arw (w1.alloc (.cells (madeCells #[.int .i64 0] n) 3)) w.heap.size w1.heap.size n (gat n (wh.map (trp l)) (stp 3 at' 0 0) ((rr ts).take 0))) := by
    have := Arw.made w1 w.heap.size n hs1.out (by omega); simpa [Hid, gat] using this
  obtain ⟨g, hg⟩ : ∃ g, w1.heap.size = g := ⟨_, rfl⟩
  have hgw : Hid (w1.heap.size ≤ g) := by show _ ≤ _; omega
  have hgl : Hid (w.heap.size ≤ g) := by have := hs1.out; show _ ≤ _; omega
  have hm2 := hm w1
  rw [hg] at HA0
  have m0 := HB1.out.a0.c
  have m2 := HB1.out.t0.c
  have m1 := (HB1.out.at (ba w1 (.cells (madeCells #[.int .i64 0] n) 3))).t1.c
  go_wp2
  clear hg
  go_loopw [41] (fun s' wr => ∃ (i : Nat), s' = .int .i64 (i : Int) ∧ i ≤ ts.length ∧ Hid (Arw wr w.heap.size g n (gat n (wh.map (trp l)) (stp 3 at' 0 0) ((rr ts).take i))) ∧ Below w1.heap.size w1 wr) (fun s' _ => ts.length - (intOf s').toNat)
  case atStart => exact ⟨0, rfl, Nat.zero_le _, HA0, ba _ _⟩
  case round =>
    obtain ⟨i, rfl, hin, HA, hbr⟩ := hrel
    clear hm2 hm m0 m1 m2 cC1 cC2
    have hbwr : Below w.heap.size w wr := bt hbw1 hbr
    by_cases h1 : i < ts.length
    · have hsr := hbwr.size
      obtain ⟨b, o, sa, sc, row, rfl, hbB, hgt, hcell, hrow⟩ := HQ.out.get hB hbwr h1
      have HG : Hid ((rr ts)[i]? = some row) := rr_get hgt
      have HRW : Hid (Ints wr B B (.slice sa row.length sc) row) := hrow
      have HOK : Hid (RowOk l row) := HOKS.out _ (List.mem_of_getElem? HG.out)
      obtain ⟨pb, hpb⟩ : ∃ pb, pasB (wh.map (trp l)) row = pb := ⟨_, rfl⟩
      have k2 := rpasses_any B B _ _ _ l wh row wr (by omega) (HP.out.at hB hbwr) (HW.out.at hB hbwr) hrow HWE.out HOK.out pb hpb
      have HPB : Hid (pasB (wh.map (trp l)) row = pb) := hpb
      have HBr := HB1.out.at hbr
      have m0 := HBr.t0.c
      have m1 := HBr.a4.c
      clear hgt hrow hpb HBr
      go_wp2_with fail
      refine k2.mono ?_
      rintro e w5 ⟨rfl, hb5⟩
      clear k2 m0 m1
      have HA5 : Hid (Arw w5 w.heap.size g n (gat n (wh.map (trp l)) (stp 3 at' 0 0) ((rr ts).take i))) := HA.out.at hb5
      have hbr5 : Below w1.heap.size w1 w5 := bt hbr hb5
      have HB5 := HB1.out.at hbr5
      have m0 := HB5.a0.c
      clear HB5
      cases pb with
      | false =>
        have HA6 : Hid (Arw w5 w.heap.size g n (gat n (wh.map (trp l)) (stp 3 at' 0 0) ((rr ts).take (i + 1)))) := by rw [gat_step HG.out, gst, HPB.out]; exact HA5.out
        go_wp2
        go_roundw
        case rel => exact ⟨i + 1, by go_num, h1, HA6, hbr5⟩
        case measure => simp [intOf]; omega
      | true =>
        have hgbd : Bdd (4096 * 1) (gat n (wh.map (trp l)) (stp 3 at' 0 0) ((rr ts).take i)) := gat_bd (by decide) (fun r _ => by simp [stp]) (by simp [rr]; omega)
        have hvv := rowOk_get HOK.out HCC.out
        obtain ⟨b2, o2, y, rfl, _, _, _, _, hgd, hcy⟩ := (HRW.out.at (by omega) hb5).got (i := at') (by have := HOK.out.len; omega)
        have hrl : at' < row.length := by have := HOK.out.len; omega
        rw [hgd] at hvv
        simp only at hvv
        obtain ⟨j, rfl⟩ : ∃ j : Nat, y = (j : Int) := ⟨y.toNat, by omega⟩
        have hjn : j < n := by omega
        obtain ⟨x, hx0⟩ := get_lt (l := gat n (wh.map (trp l)) (stp 3 at' 0 0) ((rr ts).take i)) (i := j) (by rw [gat_len]; omega)
        have hxb : -4611686018427387904 ≤ x ∧ x ≤ 4611686018427387904 := by have := hgbd.get hx0; omega
        have HA6 : Hid (Arw (w5.setCell ⟨g, j, none⟩ (.int .i64 (x + 1))) w.heap.size g n (gat n (wh.map (trp l)) (stp 3 at' 0 0) ((rr ts).take (i + 1)))) := by
          have he : gat n (wh.map (trp l)) (stp 3 at' 0 0) ((rr ts).take (i + 1)) = (gat n (wh.map (trp l)) (stp 3 at' 0 0) ((rr ts).take i)).set j (x + 1) := by
            rw [gat_step HG.out, gst, HPB.out]
            show addAt _ _ = _
            unfold addAt
            rw [show stp 3 at' 0 0 row = (j, 1) by simp only [stp]; rw [hgd]; simp]
            have hgd : (gat n (wh.map (trp l)) (stp 3 at' 0 0) ((rr ts).take i)).getD j 0 = x := by rw [List.getD, hx0]; rfl
            dsimp only
            rw [hgd]
          rw [he]
          exact HA5.out.set _ _
        have hb6 : Below w1.heap.size w1 (w5.setCell ⟨g, j, none⟩ (.int .i64 (x + 1))) := hbr5.setCell (by simpa using hgw.out) _
        have q0 := HA5.out.cell hx0
        have q1 := HA5.out.fz j
        obtain ⟨x1, x2⟩ := hxb
        have hv1 : (0 : Int) ≤ (at' : Int) := by omega
        have hv2 : (at' : Int) < (row.length : Int) := by omega
        have hv3 : (0 : Int) ≤ (j : Int) := by omega
        have hv4 : (j : Int) < (n : Int) := by omega
        clear hx0 hgbd hgd hvv
        go_wp2
        go_region_law (fail)
        all_goals
          go_wp2
          go_roundw
          case rel => exact ⟨i + 1, by go_num, h1, by first | exact HA6 | exact HA6.out.at (Below.refl _ _).drew, by first | exact hb6 | exact hb6.drew⟩
          case measure => simp [intOf]; omega
    · have HA6 : Hid (Arw wr w.heap.size g n (gat n (wh.map (trp l)) (stp 3 at' 0 0) (rr ts))) := by have := HA.out; rwa [List.take_of_length_le (by rw [rr_len]; omega)] at this
      go_wp2
      go_ret
      refine ⟨some ⟨g, 0, none⟩, n, by rw [gat_len]; rfl, ?_, hbwr⟩
      exact HA6.out.ints _ (Nat.ne_of_lt HA6.out.lt.2)
end Go.Proofs.YtlndlpjadajelaaGreat.K
