import Derived.Test.YtlndlpjadajelaaGreatQt43
import Derived.Deep.AppendLies
import Derived.Deep.RegionHeld3
import Derived.Deep.RegionLaw
namespace Go.Proofs.YtlndlpjadajelaaGreat.K
open Go.RowKit Go.Proofs.YtlndlpjadajelaaGreat.K.Ds

set_option maxHeartbeats 4000000 in
set_option maxRecDepth 100000 in
theorem ran3_any (c : ByteArray) (lo hi : Int) (cv rv wv kv : Value) (w : World) (B : Nat) (l : List Col) (ts : List Rw) (wh : List Tst) (hB : B ≤ w.heap.size) (hp : Cols w B cv l) (hr : Rws w B rv ts) (hw : Tss w B wv wh) (hlen : ts.length ≤ 4096) (hok : ∀ r ∈ rr ts, RowOk l r) (hkv : ∃ a n cc, kv = .slice a n cc) (hwe : whE l wh = 0) (at' : Nat) (hf : fnd l c = some at') (n : Nat) (hn : n ≤ 4096) (hnc : szC l at' = (n : Int)) :
    Calls Tryz.prog 77 #[.agg #[cv, rv], .agg #[.int .i64 3, .string c, .int .i64 lo, .int .i64 hi, wv, kv]] w (AnsR w (gat n (wh.map (trp l)) (stp 3 at' 0 0) (rr ts))) := by
  have ab := Rb.new w cv rv 3 c lo hi wv kv
  have hb0 := b2a w (.cells #[cv, rv] 27) (.cells #[.int .i64 3, .string c, .int .i64 lo, .int .i64 hi, wv, kv] 31)
  obtain ⟨W0, hW0⟩ : ∃ W0, ((w.alloc (.cells #[cv, rv] 27)).alloc (.cells #[.int .i64 3, .string c, .int .i64 lo, .int .i64 hi, wv, kv] 31)) = W0 := ⟨_, rfl⟩
  rw [hW0] at ab hb0
  have HW0 : Hid (((w.alloc (.cells #[cv, rv] 27)).alloc (.cells #[.int .i64 3, .string c, .int .i64 lo, .int .i64 hi, wv, kv] 31)) = W0) := hW0
  have HAB : Hid (Rb W0 w.heap.size cv rv 3 c lo hi wv kv) := ab
  have HP : Hid (Cols w B cv l) := hp
  have HQ : Hid (Rws w B rv ts) := hr
  have HW : Hid (Tss w B wv wh) := hw
  have HWE : Hid (whE l wh = 0) := hwe
  have HOKS : Hid (∀ r ∈ rr ts, RowOk l r) := hok
  have hal := fnd_lt hf
  have HNC : Hid (szC l at' = (n : Int)) := hnc
  have k1 := rkids_any 3 W0 0 rfl
  have k2 := rcol_any B cv l c W0 (Nat.le_trans hB hb0.size) (hp.at hB hb0) (at' : Int) (fnI_some hf)
  obtain ⟨ca, ccp, rfl, _⟩ := hp.slice
  obtain ⟨ra, rc, rfl, _⟩ := hr.slice
  obtain ⟨wa, wc, rfl, _⟩ := hw.slice
  obtain ⟨ka, kn, kc', rfl⟩ := hkv
  have m0 := ab.a0.c
  have m1 := ab.t0.c
  have m2 := ab.a1.c
  have hm : ∀ u : World, (Instr.makeSlice 65 (.int .i64 (n : Int)) (.int .i64 (n : Int))).run Tryz.prog u = .ok (.slice (some ⟨u.heap.size, 0, none⟩) n n) (u.alloc (.cells (madeCells #[.int .i64 0] n) 3)) := fun u => make_ints n (by omega) u
  clear hp hr hw hok hwe ab hf hnc
  go_enter Tryz.func77, Tryz.ntmps77
  go_wp2_with fail
  refine k1.mono ?_
  rintro e w0 ⟨rfl, hw0⟩
  subst hw0
  clear k1
  go_wp2_with fail
  refine k2.mono ?_
  rintro e w1 ⟨rfl, hb1⟩
  clear k2 m0 m1 m2
  have hbw1 := bt hb0 hb1
  have HB1 : Hid (Rb w1 w.heap.size (.slice ca l.length ccp) (.slice ra ts.length rc) 3 c lo hi (.slice wa wh.length wc) (.slice ka kn kc')) := HAB.out.at hb1
  obtain ⟨bC, oC, nm, sz, rfl, hbC, hgC, cC1, cC2, hnm⟩ := HP.out.get hB hbw1 hal
  obtain rfl : sz = (n : Int) := by have := HNC.out; simpa [szC, hgC] using this
  have HCC : Hid (l[at']? = some (nm, (n : Int))) := hgC
  clear hgC HNC
  have hj1 : (0 : Int) ≤ (at' : Int) := by omega
  have hj2 : (at' : Int) < (l.length : Int) := by omega
  have hs1 : Hid (w.heap.size ≤ w1.heap.size) := hbw1.size
  have HA0 : Hid (Arw (w1.alloc (.cells (madeCells #[.int .i64 0] n) 3)) w.heap.size w1.heap.size n (gat n (wh.map (trp l)) (stp 3 at' 0 0) ((rr ts).take 0))) := by
    have := Arw.made w1 w.heap.size n hs1.out (by omega); simpa [Hid, gat] using this
  obtain ⟨g, hg⟩ : ∃ g, w1.heap.size = g := ⟨_, rfl⟩
  have hgw : Hid (w1.heap.size ≤ g) := by show _ ≤ _; omega
  have hgl : Hid (w.heap.size ≤ g) := by have := hs1.out; show _ ≤ _; omega
  have hm2 := hm w1
  rw [hg] at HA0
  have m0 := HB1.out.a0.c
  have m2 := HB1.out.t0.c
  have m1 := (HB1.out.at (ba w1 (.cells (madeCells #[.int .i64 0] n) 3))).t1.c
  go_wp2
  clear hg
  go_loopw [41] (fun s' wr => ∃ (i : Nat), s' = .int .i64 (i : Int) ∧ i ≤ ts.length ∧ Hid (Arw wr w.heap.size g n (gat n (wh.map (trp l)) (stp 3 at' 0 0) ((rr ts).take i))) ∧ Below w1.heap.size w1 wr) (fun s' _ => ts.length - (intOf s').toNat)
  case atStart => exact ⟨0, rfl, Nat.zero_le _, HA0, ba _ _⟩
  case round =>
    obtain ⟨i, rfl, hin, HA, hbr⟩ := hrel
    clear hm2 hm m0 m1 m2 cC1 cC2
    have hbwr : Below w.heap.size w wr := bt hbw1 hbr
    by_cases h1 : i < ts.length
    · have hsr := hbwr.size
      obtain ⟨b, o, sa, sc, row, rfl, hbB, hgt, hcell, hrow⟩ := HQ.out.get hB hbwr h1
      have HG : Hid ((rr ts)[i]? = some row) := rr_get hgt
      have HRW : Hid (Ints wr B B (.slice sa row.length sc) row) := hrow
      have HOK : Hid (RowOk l row) := HOKS.out _ (List.mem_of_getElem? HG.out)
      obtain ⟨pb, hpb⟩ : ∃ pb, pasB (wh.map (trp l)) row = pb := ⟨_, rfl⟩
      have k2 := rpasses_any B B _ _ _ l wh row wr (by omega) (HP.out.at hB hbwr) (HW.out.at hB hbwr) hrow HWE.out HOK.out pb hpb
      have HPB : Hid (pasB (wh.map (trp l)) row = pb) := hpb
      have HBr := HB1.out.at hbr
      have m0 := HBr.t0.c
      have m1 := HBr.a4.c
      clear hgt hrow hpb HBr
      go_wp2_with fail
      refine k2.mono ?_
      rintro e w5 ⟨rfl, hb5⟩
      clear k2 m0 m1
      have HA5 : Hid (Arw w5 w.heap.size g n (gat n (wh.map (trp l)) (stp 3 at' 0 0) ((rr ts).take i))) := HA.out.at hb5
      have hbr5 : Below w1.heap.size w1 w5 := bt hbr hb5
      have HB5 := HB1.out.at hbr5
      have m0 := HB5.a0.c
      clear HB5
      cases pb with
      | false =>
        have HA6 : Hid (Arw w5 w.heap.size g n (gat n (wh.map (trp l)) (stp 3 at' 0 0) ((rr ts).take (i + 1)))) := by rw [gat_step HG.out, gst, HPB.out]; exact HA5.out
        go_wp2
        go_roundw
        case rel => exact ⟨i + 1, by go_num, h1, HA6, hbr5⟩
        case measure => simp [intOf]; omega
      | true =>
        have hgbd : Bdd (4096 * 1) (gat n (wh.map (trp l)) (stp 3 at' 0 0) ((rr ts).take i)) := gat_bd (by decide) (fun r _ => by simp [stp]) (by simp [rr]; omega)
        have hvv := rowOk_get HOK.out HCC.out
        obtain ⟨b2, o2, y, rfl, _, _, _, _, hgd, hcy⟩ := (HRW.out.at (by omega) hb5).got (i := at') (by have := HOK.out.len; omega)
        have hrl : at' < row.length := by have := HOK.out.len; omega
        rw [hgd] at hvv
        simp only at hvv
        obtain ⟨j, rfl⟩ : ∃ j : Nat, y = (j : Int) := ⟨y.toNat, by omega⟩
        have hjn : j < n := by omega
        obtain ⟨x, hx0⟩ := get_lt (l := gat n (wh.map (trp l)) (stp 3 at' 0 0) ((rr ts).take i)) (i := j) (by rw [gat_len]; omega)
        have hxb : -4611686018427387904 ≤ x ∧ x ≤ 4611686018427387904 := by have := hgbd.get hx0; omega
        have HA6 : Hid (Arw (w5.setCell ⟨g, j, none⟩ (.int .i64 (x + 1))) w.heap.size g n (gat n (wh.map (trp l)) (stp 3 at' 0 0) ((rr ts).take (i + 1)))) := by
          have he : gat n (wh.map (trp l)) (stp 3 at' 0 0) ((rr ts).take (i + 1)) = (gat n (wh.map (trp l)) (stp 3 at' 0 0) ((rr ts).take i)).set j (x + 1) := by
            rw [gat_step HG.out, gst, HPB.out]
            show addAt _ _ = _
            unfold addAt
            rw [show stp 3 at' 0 0 row = (j, 1) by simp only [stp]; rw [hgd]; simp]
            have hgd : (gat n (wh.map (trp l)) (stp 3 at' 0 0) ((rr ts).take i)).getD j 0 = x := by rw [List.getD, hx0]; rfl
            dsimp only
            rw [hgd]
          rw [he]
          exact HA5.out.set _ _
        have hb6 : Below w1.heap.size w1 (w5.setCell ⟨g, j, none⟩ (.int .i64 (x + 1))) := hbr5.setCell (by simpa using hgw.out) _
        have q0 := HA5.out.cell hx0
        have q1 := HA5.out.fz j
        obtain ⟨x1, x2⟩ := hxb
        have hv1 : (0 : Int) ≤ (at' : Int) := by omega
        have hv2 : (at' : Int) < (row.length : Int) := by omega
        have hv3 : (0 : Int) ≤ (j : Int) := by omega
        have hv4 : (j : Int) < (n : Int) := by omega
        clear hx0 hgbd hgd hvv
        go_wp2
        go_region_law (fail)
        all_goals
          go_wp2
          go_roundw
          case rel => exact ⟨i + 1, by go_num, h1, by first | exact HA6 | exact HA6.out.at (Below.refl _ _).drew, by first | exact hb6 | exact hb6.drew⟩
          case measure => simp [intOf]; omega
    · have HA6 : Hid (Arw wr w.heap.size g n (gat n (wh.map (trp l)) (stp 3 at' 0 0) (rr ts))) := by have := HA.out; rwa [List.take_of_length_le (by rw [rr_len]; omega)] at this
      go_wp2
      go_ret
      refine ⟨some ⟨g, 0, none⟩, n, by rw [gat_len]; rfl, ?_, hbwr⟩
      exact HA6.out.ints _ (Nat.ne_of_lt HA6.out.lt.2)
end Go.Proofs.YtlndlpjadajelaaGreat.K

namespace Go.Proofs.YtlndlpjadajelaaGreat.K
open Go.RowKit Go.Proofs.YtlndlpjadajelaaGreat.K.Ds

theorem gro_bel {a b : World} {O lo : Nat} {row : Option Nat} (h : a.grownBy b row) (hr : ∀ g, row = some g → lo ≤ g) (hO : O ≤ lo) (hs : O ≤ a.heap.size) : Below O a b :=
  ⟨h.os, h.tape, h.output, h.size, fun k hk => h.block k (by omega) (fun e => by have := hr k e.symm; omega)⟩
theorem owns_ints {w : World} {base n : Nat} {v : Value} {xs : List Int} (hn : n = xs.length) (hl : xs.length ≤ 9223372036854775807) (h : w.ownsRow base 3 1 v n (xs.map (.int .i64))) (hb : 0 < base) : Ints w w.heap.size w.heap.size v xs :=
  (ints_of_owns hn hl h hb).mono (Nat.le_refl _) (.inr (Nat.le_refl _))
theorem take_more {R : List Int} {i : Nat} {z : Int} (h : R[i]? = some z) : (R.take (i + 1)).map (Value.int .i64) = (R.take i).map (Value.int .i64) ++ [.int .i64 z] := by
  rw [List.take_add_one, h, List.map_append]; rfl
theorem one_cell (w : World) (z : Int) (t : TypeId) : ∀ j u, [Value.int .i64 z][j]? = some u → (w.alloc (.cells #[.int .i64 z] t)).cell? ((⟨w.heap.size, 0, none⟩ : Addr).add j) = some u := cell_one_new _ _ _

set_option maxHeartbeats 4000000 in
set_option maxRecDepth 100000 in
theorem ran4_any (c : ByteArray) (lo hi : Int) (cv rv wv : Value) (b o cap : Nat) (w : World) (B : Nat) (l : List Col) (ts : List Rw) (wh : List Tst) (hB : B ≤ w.heap.size) (hp : Cols w B cv l) (hr : Rws w B rv ts) (hw : Tss w B wv wh) (hbB : b < B) (x : Qu) (u0 u1 u2 u3 u4 u5 : Value) (hu : At6 w b o u0 u1 u2 u3 u4 u5) (hqx : Qm w B x u0 u1 u2 u3 u4 u5) (xs : List Int) (kx : ∀ W, Below w.heap.size w W → Calls Tryz.prog 77 #[.agg #[cv, rv], .agg #[u0, u1, u2, u3, u4, u5]] W (AnsR W xs)) (y : Qu) (z0 z1 z2 z3 z4 z5 : Value) (hz : At6 w b (o + 6) z0 z1 z2 z3 z4 z5) (hqy : Qm w B y z0 z1 z2 z3 z4 z5) (ys : List Int) (ky : ∀ W, Below w.heap.size w W → Calls Tryz.prog 77 #[.agg #[cv, rv], .agg #[z0, z1, z2, z3, z4, z5]] W (AnsR W ys)) (hbx : Bdd 1099511627776 xs) (hby : Bdd 1099511627776 ys) (hl : xs.length = ys.length) (hxl : xs.length ≤ 4096) :
    Calls Tryz.prog 77 #[.agg #[cv, rv], .agg #[.int .i64 4, .string c, .int .i64 lo, .int .i64 hi, wv, .slice (some ⟨b, o, none⟩) 2 cap]] w (AnsR w (List.zipWith (· + ·) xs ys)) := by
  have ab := Rb.new w cv rv 4 c lo hi wv (.slice (some ⟨b, o, none⟩) 2 cap)
  have hb0 := b2a w (.cells #[cv, rv] 27) (.cells #[.int .i64 4, .string c, .int .i64 lo, .int .i64 hi, wv, .slice (some ⟨b, o, none⟩) 2 cap] 31)
  obtain ⟨W0, hW0⟩ : ∃ W0, ((w.alloc (.cells #[cv, rv] 27)).alloc (.cells #[.int .i64 4, .string c, .int .i64 lo, .int .i64 hi, wv, .slice (some ⟨b, o, none⟩) 2 cap] 31)) = W0 := ⟨_, rfl⟩
  rw [hW0] at ab hb0
  have HW0 : Hid (((w.alloc (.cells #[cv, rv] 27)).alloc (.cells #[.int .i64 4, .string c, .int .i64 lo, .int .i64 hi, wv, .slice (some ⟨b, o, none⟩) 2 cap] 31)) = W0) := hW0
  have HAB : Hid (Rb W0 w.heap.size cv rv 4 c lo hi wv (.slice (some ⟨b, o, none⟩) 2 cap)) := ab
  have k1 := rkids_any 4 W0 2 rfl
  have k2 := kx W0.drew hb0.drew
  have lb : b < W0.heap.size := Nat.lt_of_lt_of_le hbB (Nat.le_trans hB hb0.size)
  obtain ⟨xc3, xc4, xc5, xc6, xc7, xc8⟩ := hu.keep hb0 (Nat.lt_of_lt_of_le hbB hB)
  have HZ : Hid (At6 W0 b (o + 6) z0 z1 z2 z3 z4 z5) := hz.keep hb0 (Nat.lt_of_lt_of_le hbB hB)
  obtain ⟨ca, ccp, rfl, _⟩ := hp.slice
  obtain ⟨ra, rc, rfl, _⟩ := hr.slice
  obtain ⟨wa, wc, rfl, _⟩ := hw.slice
  obtain ⟨ukk, ukc, ukl, ukh, uka, ukn, ukd, ukb, ukm, ukp, rfl, rfl, rfl, rfl, rfl, rfl⟩ := hqx.shape
  obtain ⟨zkk, zkc, zkl, zkh, zka, zkn, zkd, zkb, zkm, zkp, rfl, rfl, rfl, rfl, rfl, rfl⟩ := hqy.shape
  have xc0 := ab.t0.c
  have xc1 := ab.t1.c
  have xc2 := ab.a5.c
  have m0 := ab.a0.c
  have lN := ab.t0.lt
  have lN1 := ab.a5.lt
  have hnk1 : (0 : Int) ≤ 0 := by decide
  have hnk2 : (0 : Int) < (2 : Int) := by decide
  have HBB : Hid (b < B ∧ B ≤ w.heap.size) := ⟨hbB, hB⟩
  clear hp hr hw hu hqx kx ab hz hqy
  obtain ⟨R, hR⟩ : ∃ R, List.zipWith (· + ·) xs ys = R := ⟨_, rfl⟩
  rw [hR]
  have HRR : Hid (List.zipWith (· + ·) xs ys = R) := hR
  have HRL : Hid (R.length = xs.length) := by show _ = _; rw [← hR]; first | (simp; done) | (simp; omega)
  clear hR
  have HLN : Hid (xs.length = ys.length) := hl
  clear hl
  go_enter Tryz.func77, Tryz.ntmps77
  go_wp2_with fail
  refine k1.mono ?_
  rintro e w0 ⟨rfl, hw0⟩
  subst hw0
  clear k1 hW0
  go_wp2
  go_region_held3 (fun w' => w'.cell? ⟨w.heap.size, 0, none⟩ = some (.slice ca l.length ccp) ∧ w'.cell? ⟨w.heap.size, 1, none⟩ = some (.slice ra ts.length rc) ∧ w'.cell? ⟨w.heap.size + 1, 5, none⟩ = some (.slice (some ⟨b, o, none⟩) 2 cap) ∧ w'.cell? ⟨b, o, none⟩ = some (.int .i64 ukk) ∧ w'.cell? ⟨b, o + 1, none⟩ = some (.string ukc) ∧ w'.cell? ⟨b, o + 2, none⟩ = some (.int .i64 ukl) ∧ w'.cell? ⟨b, o + 3, none⟩ = some (.int .i64 ukh) ∧ w'.cell? ⟨b, o + 4, none⟩ = some (.slice uka ukn ukd) ∧ w'.cell? ⟨b, o + 5, none⟩ = some (.slice ukb ukm ukp)) (first | assumption | (simp [go_sem, *]; done)) ((go_at_call 77; refine k2.mono ?_; rintro x3 w1 hA; obtain ⟨x1a, x1c, rfl, x1I, x1b⟩ := hA; have w1z0 := (x1b.cell (p := ⟨w.heap.size, 0, none⟩) lN).trans xc0; have w1z1 := (x1b.cell (p := ⟨w.heap.size, 1, none⟩) lN).trans xc1; have w1z2 := (x1b.cell (p := ⟨w.heap.size + 1, 5, none⟩) lN1).trans xc2; have w1z3 := (x1b.cell (p := ⟨b, o, none⟩) lb).trans xc3; have w1z4 := (x1b.cell (p := ⟨b, o + 1, none⟩) lb).trans xc4; have w1z5 := (x1b.cell (p := ⟨b, o + 2, none⟩) lb).trans xc5; have w1z6 := (x1b.cell (p := ⟨b, o + 3, none⟩) lb).trans xc6; have w1z7 := (x1b.cell (p := ⟨b, o + 4, none⟩) lb).trans xc7; have w1z8 := (x1b.cell (p := ⟨b, o + 5, none⟩) lb).trans xc8))
  have hbw1 : Below w.heap.size w w1 := bt hb0.drew x1b
  have HB1 : Hid (Rb w1 w.heap.size (.slice ca l.length ccp) (.slice ra ts.length rc) 4 c lo hi (.slice wa wh.length wc) (.slice (some ⟨b, o, none⟩) 2 cap)) := (HAB.out.at (Below.refl _ _).drew).at x1b
  have HX1 : Hid (Ints w1 w1.heap.size w1.heap.size (.slice x1a xs.length x1c) xs) := x1I
  have m1 := HB1.out.a0.c
  clear k2 m0 xc0 xc1 xc2 xc3 xc4 xc5 xc6 xc7 xc8 w1z0 w1z1 w1z2 w1z3 w1z4 w1z5 w1z6 w1z7 w1z8 x1I
  obtain ⟨yc3, yc4, yc5, yc6, yc7, yc8⟩ := (HZ.out.keep (Below.refl _ _).drew lb).keep x1b lb
  have yc0 := HB1.out.t0.c
  have yc1 := HB1.out.t1.c
  have yc2 := HB1.out.a5.c
  have k3 := ky w1.drew hbw1.drew
  have lN := HB1.out.t0.lt
  have lN1 := HB1.out.a5.lt
  have lb : b < w1.heap.size := Nat.lt_of_lt_of_le lb x1b.size
  have hnk1 : (0 : Int) ≤ 1 := by decide
  have hnk2 : (1 : Int) < (2 : Int) := by decide
  clear ky x1b
  go_wp2
  go_region_held3 (fun w' => w'.cell? ⟨w.heap.size, 0, none⟩ = some (.slice ca l.length ccp) ∧ w'.cell? ⟨w.heap.size, 1, none⟩ = some (.slice ra ts.length rc) ∧ w'.cell? ⟨w.heap.size + 1, 5, none⟩ = some (.slice (some ⟨b, o, none⟩) 2 cap) ∧ w'.cell? ⟨b, o + 6, none⟩ = some (.int .i64 zkk) ∧ w'.cell? ⟨b, o + 6 + 1, none⟩ = some (.string zkc) ∧ w'.cell? ⟨b, o + 6 + 2, none⟩ = some (.int .i64 zkl) ∧ w'.cell? ⟨b, o + 6 + 3, none⟩ = some (.int .i64 zkh) ∧ w'.cell? ⟨b, o + 6 + 4, none⟩ = some (.slice zka zkn zkd) ∧ w'.cell? ⟨b, o + 6 + 5, none⟩ = some (.slice zkb zkm zkp)) (first | assumption | (simp [go_sem, *]; done)) ((go_at_call 77; refine k3.mono ?_; rintro x3 w2 hA; obtain ⟨y1a, y1c, rfl, y1I, y1b⟩ := hA; have w2z0 := (y1b.cell (p := ⟨w.heap.size, 0, none⟩) lN).trans yc0; have w2z1 := (y1b.cell (p := ⟨w.heap.size, 1, none⟩) lN).trans yc1; have w2z2 := (y1b.cell (p := ⟨w.heap.size + 1, 5, none⟩) lN1).trans yc2; have w2z3 := (y1b.cell (p := ⟨b, o + 6, none⟩) lb).trans yc3; have w2z4 := (y1b.cell (p := ⟨b, o + 6 + 1, none⟩) lb).trans yc4; have w2z5 := (y1b.cell (p := ⟨b, o + 6 + 2, none⟩) lb).trans yc5; have w2z6 := (y1b.cell (p := ⟨b, o + 6 + 3, none⟩) lb).trans yc6; have w2z7 := (y1b.cell (p := ⟨b, o + 6 + 4, none⟩) lb).trans yc7; have w2z8 := (y1b.cell (p := ⟨b, o + 6 + 5, none⟩) lb).trans yc8))
  have hbw2 : Below w.heap.size w w2 := bt hbw1.drew y1b
  have HB2 : Hid (Rb w2 w.heap.size (.slice ca l.length ccp) (.slice ra ts.length rc) 4 c lo hi (.slice wa wh.length wc) (.slice (some ⟨b, o, none⟩) 2 cap)) := (HB1.out.at (Below.refl _ _).drew).at y1b
  have HX2 : Hid (Ints w2 w2.heap.size w2.heap.size (.slice x1a xs.length x1c) xs) := ((HX1.out.at2 (Below.refl _ _).drew).at2 y1b).mono (Nat.le_refl _) (.inr (Nat.le_refl _))
  have HY2 : Hid (Ints w2 w2.heap.size w2.heap.size (.slice y1a ys.length y1c) ys) := y1I
  have m2 := HB2.out.a0.c
  have l0 : 0 < w2.heap.size := Nat.lt_of_le_of_lt (Nat.zero_le _) HB2.out.t0.lt
  clear k3 m1 yc0 yc1 yc2 yc3 yc4 yc5 yc6 yc7 yc8 w2z0 w2z1 w2z2 w2z3 w2z4 w2z5 w2z6 w2z7 w2z8 y1I
  obtain ⟨i0, hi0, hz0, hz1, hz2⟩ := info_parts info3
  go_wp2
  go_loopw [11, 131] (fun ov s' wr => ∃ (i : Nat) (va : Option Addr) (vc : Nat), ov = .slice va i vc ∧ s' = .int .i64 (i : Int) ∧ i ≤ xs.length ∧ Hid (wr.ownsRow w2.heap.size 3 1 (.slice va i vc) i ((R.take i).map (.int .i64))) ∧ Below w2.heap.size w2 wr) (fun _ s' _ => xs.length - (intOf s').toNat)
  case atStart => exact ⟨0, none, 0, rfl, rfl, Nat.zero_le _, ⟨rfl, .inl ⟨rfl, rfl⟩⟩, Below.refl _ _⟩
  case round =>
    obtain ⟨i, va, vc, rfl, rfl, hil, HR, hbl⟩ := hrel
    have hsl := hbl.size
    by_cases h1 : i < xs.length
    · obtain ⟨b1, o1, p, rfl, _, hb1, _, hg1, _, hc1⟩ := (HX2.out.keep hbl).got h1
      obtain ⟨b2, o2, q, rfl, _, hb2, _, hg2, _, hc2⟩ := (HY2.out.keep hbl).got (i := i) (by have := HLN.out; omega)
      have bp := hbx.get hg1
      have bq := hby.get hg2
      have HGR : Hid (R[i]? = some (p + q)) := by rw [← HRR.out]; show (List.zipWith _ xs ys)[i]? = _; rw [List.getElem?_zipWith, hg1, hg2]
      have hw1 : IntKind.i64.wrap (p + q) = p + q := by rw [IntKind.wrap_i64]; have := wrap_id (a := p + q) (by omega); unfold wrap64 at this; omega
      have hj1 : (0 : Int) ≤ (i : Int) := by omega
      have hj2 : (i : Int) < (xs.length : Int) := by omega
      have hj3 : (i : Int) < (ys.length : Int) := by have := HLN.out; omega
      have m3 := (HB2.out.at hbl).a0.c
      have lb1 : b1 < wr.heap.size := by omega
      have lb2 : b2 < wr.heap.size := by omega
      have hc1d : wr.drew.cell? ⟨b1, o1 + i, none⟩ = some (.int .i64 p) := hc1
      have hc2d : wr.drew.cell? ⟨b2, o2 + i, none⟩ = some (.int .i64 q) := hc2
      clear hg1 hg2 m2
      go_wp2_with fail
      go_region_held3 (fun w' => w'.cell? ⟨b1, o1 + i, none⟩ = some (.int .i64 p) ∧ w'.cell? ⟨b2, o2 + i, none⟩ = some (.int .i64 q)) (first | assumption | (simp [go_sem, *]; done)) ((refine step_append_lies _ rfl _ _ 65 rfl w2.heap.size 3 i0 (.int .i64 0) 1 8 Tryz.underlying65 hi0 hz0 hz1 hz2 rfl (by decide) (.slice va i vc) i ((R.take i).map (.int .i64)) rfl ?_ ⟨wr.heap.size, 0, none⟩ 1 1 [.int .i64 (p + q)] rfl rfl ?_ ?_ (by decide) ?_ ?_ ?_ (wr.heap.size + 1) ?_ ?_; (exact owns_below HR.out (bal (Below.refl _ _).drew _)); (exact one_cell _ _ _); (intro u hu; simp at hu; subst hu; rfl); (unfold maxLen; omega); (omega); (simp; omega); (simp); intro g cap' w4 hown hgrow hat hlt; have k70 : w4.cell? ⟨b1, o1 + i, none⟩ = some (.int .i64 p) := hgrow.cell (((ba _ _).cell (p := ⟨b1, o1 + i, none⟩) lb1).trans hc1d) (fun e => absurd (owns_block HR.out _ e.symm) (Nat.not_le_of_lt hb1)); have k71 : w4.cell? ⟨b2, o2 + i, none⟩ = some (.int .i64 q) := hgrow.cell (((ba _ _).cell (p := ⟨b2, o2 + i, none⟩) lb2).trans hc2d) (fun e => absurd (owns_block HR.out _ e.symm) (Nat.not_le_of_lt hb2))))
      have HR4 : Hid (w4.ownsRow w2.heap.size 3 1 (.slice (some ⟨g, 0, none⟩) (i + 1) cap') (i + 1) ((R.take (i + 1)).map (.int .i64))) := by
        show World.ownsRow _ _ _ _ _ _ _
        rw [take_more HGR.out]; exact hown
      have HB4 : Below w2.heap.size w2 w4 := hbl.trans (((bal (Below.refl _ _).drew _).mono hsl).trans (gro_bel hgrow (owns_block HR.out) (Nat.le_refl _) (by simp; omega)))
      clear hown hgrow hat hlt
      go_wp2
      go_roundw
      case rel => exact ⟨i + 1, _, _, rfl, by go_num, h1, HR4, HB4⟩
      case measure => simp [intOf]; omega
    · obtain rfl : i = xs.length := by omega
      have HR2 : Hid (wr.ownsRow w2.heap.size 3 1 (.slice va R.length vc) R.length (R.map (.int .i64))) := by
        have := HR.out
        rw [List.take_of_length_le (by have := HRL.out; omega)] at this
        show World.ownsRow _ _ _ _ _ _ _
        rw [HRL.out]; exact this
      go_wp2
      go_ret
      exact ⟨va, vc, by rw [HRL.out]; rfl, owns_ints rfl (by have := HRL.out; omega) HR2.out l0, bt hbw2 hbl⟩

set_option maxHeartbeats 4000000 in
set_option maxRecDepth 100000 in
theorem ran5_any (c : ByteArray) (lo hi : Int) (cv rv wv : Value) (b o cap : Nat) (w : World) (B : Nat) (l : List Col) (ts : List Rw) (wh : List Tst) (hB : B ≤ w.heap.size) (hp : Cols w B cv l) (hr : Rws w B rv ts) (hw : Tss w B wv wh) (hbB : b < B) (x : Qu) (u0 u1 u2 u3 u4 u5 : Value) (hu : At6 w b o u0 u1 u2 u3 u4 u5) (hqx : Qm w B x u0 u1 u2 u3 u4 u5) (xs : List Int) (kx : ∀ W, Below w.heap.size w W → Calls Tryz.prog 77 #[.agg #[cv, rv], .agg #[u0, u1, u2, u3, u4, u5]] W (AnsR W xs)) (y : Qu) (z0 z1 z2 z3 z4 z5 : Value) (hz : At6 w b (o + 6) z0 z1 z2 z3 z4 z5) (hqy : Qm w B y z0 z1 z2 z3 z4 z5) (ys : List Int) (ky : ∀ W, Below w.heap.size w W → Calls Tryz.prog 77 #[.agg #[cv, rv], .agg #[z0, z1, z2, z3, z4, z5]] W (AnsR W ys)) (hbx : Bdd 1099511627776 xs) (hby : Bdd 1099511627776 ys) (hl : xs.length = ys.length) (hxl : xs.length ≤ 4096) :
    Calls Tryz.prog 77 #[.agg #[cv, rv], .agg #[.int .i64 5, .string c, .int .i64 lo, .int .i64 hi, wv, .slice (some ⟨b, o, none⟩) 2 cap]] w (AnsR w (List.zipWith (· - ·) xs ys)) := by
  have ab := Rb.new w cv rv 5 c lo hi wv (.slice (some ⟨b, o, none⟩) 2 cap)
  have hb0 := b2a w (.cells #[cv, rv] 27) (.cells #[.int .i64 5, .string c, .int .i64 lo, .int .i64 hi, wv, .slice (some ⟨b, o, none⟩) 2 cap] 31)
  obtain ⟨W0, hW0⟩ : ∃ W0, ((w.alloc (.cells #[cv, rv] 27)).alloc (.cells #[.int .i64 5, .string c, .int .i64 lo, .int .i64 hi, wv, .slice (some ⟨b, o, none⟩) 2 cap] 31)) = W0 := ⟨_, rfl⟩
  rw [hW0] at ab hb0
  have HW0 : Hid (((w.alloc (.cells #[cv, rv] 27)).alloc (.cells #[.int .i64 5, .string c, .int .i64 lo, .int .i64 hi, wv, .slice (some ⟨b, o, none⟩) 2 cap] 31)) = W0) := hW0
  have HAB : Hid (Rb W0 w.heap.size cv rv 5 c lo hi wv (.slice (some ⟨b, o, none⟩) 2 cap)) := ab
  have k1 := rkids_any 5 W0 2 rfl
  have k2 := kx W0.drew hb0.drew
  have lb : b < W0.heap.size := Nat.lt_of_lt_of_le hbB (Nat.le_trans hB hb0.size)
  obtain ⟨xc3, xc4, xc5, xc6, xc7, xc8⟩ := hu.keep hb0 (Nat.lt_of_lt_of_le hbB hB)
  have HZ : Hid (At6 W0 b (o + 6) z0 z1 z2 z3 z4 z5) := hz.keep hb0 (Nat.lt_of_lt_of_le hbB hB)
  obtain ⟨ca, ccp, rfl, _⟩ := hp.slice
  obtain ⟨ra, rc, rfl, _⟩ := hr.slice
  obtain ⟨wa, wc, rfl, _⟩ := hw.slice
  obtain ⟨ukk, ukc, ukl, ukh, uka, ukn, ukd, ukb, ukm, ukp, rfl, rfl, rfl, rfl, rfl, rfl⟩ := hqx.shape
  obtain ⟨zkk, zkc, zkl, zkh, zka, zkn, zkd, zkb, zkm, zkp, rfl, rfl, rfl, rfl, rfl, rfl⟩ := hqy.shape
  have xc0 := ab.t0.c
  have xc1 := ab.t1.c
  have xc2 := ab.a5.c
  have m0 := ab.a0.c
  have lN := ab.t0.lt
  have lN1 := ab.a5.lt
  have hnk1 : (0 : Int) ≤ 0 := by decide
  have hnk2 : (0 : Int) < (2 : Int) := by decide
  have HBB : Hid (b < B ∧ B ≤ w.heap.size) := ⟨hbB, hB⟩
  clear hp hr hw hu hqx kx ab hz hqy
  obtain ⟨R, hR⟩ : ∃ R, List.zipWith (· - ·) xs ys = R := ⟨_, rfl⟩
  rw [hR]
  have HRR : Hid (List.zipWith (· - ·) xs ys = R) := hR
  have HRL : Hid (R.length = xs.length) := by show _ = _; rw [← hR]; first | (simp; done) | (simp; omega)
  clear hR
  have HLN : Hid (xs.length = ys.length) := hl
  clear hl
  go_enter Tryz.func77, Tryz.ntmps77
  go_wp2_with fail
  refine k1.mono ?_
  rintro e w0 ⟨rfl, hw0⟩
  subst hw0
  clear k1 hW0
  go_wp2
  go_region_held3 (fun w' => w'.cell? ⟨w.heap.size, 0, none⟩ = some (.slice ca l.length ccp) ∧ w'.cell? ⟨w.heap.size, 1, none⟩ = some (.slice ra ts.length rc) ∧ w'.cell? ⟨w.heap.size + 1, 5, none⟩ = some (.slice (some ⟨b, o, none⟩) 2 cap) ∧ w'.cell? ⟨b, o, none⟩ = some (.int .i64 ukk) ∧ w'.cell? ⟨b, o + 1, none⟩ = some (.string ukc) ∧ w'.cell? ⟨b, o + 2, none⟩ = some (.int .i64 ukl) ∧ w'.cell? ⟨b, o + 3, none⟩ = some (.int .i64 ukh) ∧ w'.cell? ⟨b, o + 4, none⟩ = some (.slice uka ukn ukd) ∧ w'.cell? ⟨b, o + 5, none⟩ = some (.slice ukb ukm ukp)) (first | assumption | (simp [go_sem, *]; done)) ((go_at_call 77; refine k2.mono ?_; rintro x3 w1 hA; obtain ⟨x1a, x1c, rfl, x1I, x1b⟩ := hA; have w1z0 := (x1b.cell (p := ⟨w.heap.size, 0, none⟩) lN).trans xc0; have w1z1 := (x1b.cell (p := ⟨w.heap.size, 1, none⟩) lN).trans xc1; have w1z2 := (x1b.cell (p := ⟨w.heap.size + 1, 5, none⟩) lN1).trans xc2; have w1z3 := (x1b.cell (p := ⟨b, o, none⟩) lb).trans xc3; have w1z4 := (x1b.cell (p := ⟨b, o + 1, none⟩) lb).trans xc4; have w1z5 := (x1b.cell (p := ⟨b, o + 2, none⟩) lb).trans xc5; have w1z6 := (x1b.cell (p := ⟨b, o + 3, none⟩) lb).trans xc6; have w1z7 := (x1b.cell (p := ⟨b, o + 4, none⟩) lb).trans xc7; have w1z8 := (x1b.cell (p := ⟨b, o + 5, none⟩) lb).trans xc8))
  have hbw1 : Below w.heap.size w w1 := bt hb0.drew x1b
  have HB1 : Hid (Rb w1 w.heap.size (.slice ca l.length ccp) (.slice ra ts.length rc) 5 c lo hi (.slice wa wh.length wc) (.slice (some ⟨b, o, none⟩) 2 cap)) := (HAB.out.at (Below.refl _ _).drew).at x1b
  have HX1 : Hid (Ints w1 w1.heap.size w1.heap.size (.slice x1a xs.length x1c) xs) := x1I
  have m1 := HB1.out.a0.c
  clear k2 m0 xc0 xc1 xc2 xc3 xc4 xc5 xc6 xc7 xc8 w1z0 w1z1 w1z2 w1z3 w1z4 w1z5 w1z6 w1z7 w1z8 x1I
  obtain ⟨yc3, yc4, yc5, yc6, yc7, yc8⟩ := (HZ.out.keep (Below.refl _ _).drew lb).keep x1b lb
  have yc0 := HB1.out.t0.c
  have yc1 := HB1.out.t1.c
  have yc2 := HB1.out.a5.c
  have k3 := ky w1.drew hbw1.drew
  have lN := HB1.out.t0.lt
  have lN1 := HB1.out.a5.lt
  have lb : b < w1.heap.size := Nat.lt_of_lt_of_le lb x1b.size
  have hnk1 : (0 : Int) ≤ 1 := by decide
  have hnk2 : (1 : Int) < (2 : Int) := by decide
  clear ky x1b
  go_wp2
  go_region_held3 (fun w' => w'.cell? ⟨w.heap.size, 0, none⟩ = some (.slice ca l.length ccp) ∧ w'.cell? ⟨w.heap.size, 1, none⟩ = some (.slice ra ts.length rc) ∧ w'.cell? ⟨w.heap.size + 1, 5, none⟩ = some (.slice (some ⟨b, o, none⟩) 2 cap) ∧ w'.cell? ⟨b, o + 6, none⟩ = some (.int .i64 zkk) ∧ w'.cell? ⟨b, o + 6 + 1, none⟩ = some (.string zkc) ∧ w'.cell? ⟨b, o + 6 + 2, none⟩ = some (.int .i64 zkl) ∧ w'.cell? ⟨b, o + 6 + 3, none⟩ = some (.int .i64 zkh) ∧ w'.cell? ⟨b, o + 6 + 4, none⟩ = some (.slice zka zkn zkd) ∧ w'.cell? ⟨b, o + 6 + 5, none⟩ = some (.slice zkb zkm zkp)) (first | assumption | (simp [go_sem, *]; done)) ((go_at_call 77; refine k3.mono ?_; rintro x3 w2 hA; obtain ⟨y1a, y1c, rfl, y1I, y1b⟩ := hA; have w2z0 := (y1b.cell (p := ⟨w.heap.size, 0, none⟩) lN).trans yc0; have w2z1 := (y1b.cell (p := ⟨w.heap.size, 1, none⟩) lN).trans yc1; have w2z2 := (y1b.cell (p := ⟨w.heap.size + 1, 5, none⟩) lN1).trans yc2; have w2z3 := (y1b.cell (p := ⟨b, o + 6, none⟩) lb).trans yc3; have w2z4 := (y1b.cell (p := ⟨b, o + 6 + 1, none⟩) lb).trans yc4; have w2z5 := (y1b.cell (p := ⟨b, o + 6 + 2, none⟩) lb).trans yc5; have w2z6 := (y1b.cell (p := ⟨b, o + 6 + 3, none⟩) lb).trans yc6; have w2z7 := (y1b.cell (p := ⟨b, o + 6 + 4, none⟩) lb).trans yc7; have w2z8 := (y1b.cell (p := ⟨b, o + 6 + 5, none⟩) lb).trans yc8))
  have hbw2 : Below w.heap.size w w2 := bt hbw1.drew y1b
  have HB2 : Hid (Rb w2 w.heap.size (.slice ca l.length ccp) (.slice ra ts.length rc) 5 c lo hi (.slice wa wh.length wc) (.slice (some ⟨b, o, none⟩) 2 cap)) := (HB1.out.at (Below.refl _ _).drew).at y1b
  have HX2 : Hid (Ints w2 w2.heap.size w2.heap.size (.slice x1a xs.length x1c) xs) := ((HX1.out.at2 (Below.refl _ _).drew).at2 y1b).mono (Nat.le_refl _) (.inr (Nat.le_refl _))
  have HY2 : Hid (Ints w2 w2.heap.size w2.heap.size (.slice y1a ys.length y1c) ys) := y1I
  have m2 := HB2.out.a0.c
  have l0 : 0 < w2.heap.size := Nat.lt_of_le_of_lt (Nat.zero_le _) HB2.out.t0.lt
  clear k3 m1 yc0 yc1 yc2 yc3 yc4 yc5 yc6 yc7 yc8 w2z0 w2z1 w2z2 w2z3 w2z4 w2z5 w2z6 w2z7 w2z8 y1I
  obtain ⟨i0, hi0, hz0, hz1, hz2⟩ := info_parts info3
  go_wp2
  go_loopw [11, 131] (fun ov s' wr => ∃ (i : Nat) (va : Option Addr) (vc : Nat), ov = .slice va i vc ∧ s' = .int .i64 (i : Int) ∧ i ≤ xs.length ∧ Hid (wr.ownsRow w2.heap.size 3 1 (.slice va i vc) i ((R.take i).map (.int .i64))) ∧ Below w2.heap.size w2 wr) (fun _ s' _ => xs.length - (intOf s').toNat)
  case atStart => exact ⟨0, none, 0, rfl, rfl, Nat.zero_le _, ⟨rfl, .inl ⟨rfl, rfl⟩⟩, Below.refl _ _⟩
  case round =>
    obtain ⟨i, va, vc, rfl, rfl, hil, HR, hbl⟩ := hrel
    have hsl := hbl.size
    by_cases h1 : i < xs.length
    · obtain ⟨b1, o1, p, rfl, _, hb1, _, hg1, _, hc1⟩ := (HX2.out.keep hbl).got h1
      obtain ⟨b2, o2, q, rfl, _, hb2, _, hg2, _, hc2⟩ := (HY2.out.keep hbl).got (i := i) (by have := HLN.out; omega)
      have bp := hbx.get hg1
      have bq := hby.get hg2
      have HGR : Hid (R[i]? = some (p - q)) := by rw [← HRR.out]; show (List.zipWith _ xs ys)[i]? = _; rw [List.getElem?_zipWith, hg1, hg2]
      have hw1 : IntKind.i64.wrap (p - q) = p - q := by rw [IntKind.wrap_i64]; have := wrap_id (a := p - q) (by omega); unfold wrap64 at this; omega
      have hj1 : (0 : Int) ≤ (i : Int) := by omega
      have hj2 : (i : Int) < (xs.length : Int) := by omega
      have hj3 : (i : Int) < (ys.length : Int) := by have := HLN.out; omega
      have m3 := (HB2.out.at hbl).a0.c
      have lb1 : b1 < wr.heap.size := by omega
      have lb2 : b2 < wr.heap.size := by omega
      have hc1d : wr.drew.cell? ⟨b1, o1 + i, none⟩ = some (.int .i64 p) := hc1
      have hc2d : wr.drew.cell? ⟨b2, o2 + i, none⟩ = some (.int .i64 q) := hc2
      clear hg1 hg2 m2
      go_wp2_with fail
      go_region_held3 (fun w' => w'.cell? ⟨b1, o1 + i, none⟩ = some (.int .i64 p) ∧ w'.cell? ⟨b2, o2 + i, none⟩ = some (.int .i64 q)) (first | assumption | (simp [go_sem, *]; done)) ((refine step_append_lies _ rfl _ _ 65 rfl w2.heap.size 3 i0 (.int .i64 0) 1 8 Tryz.underlying65 hi0 hz0 hz1 hz2 rfl (by decide) (.slice va i vc) i ((R.take i).map (.int .i64)) rfl ?_ ⟨wr.heap.size, 0, none⟩ 1 1 [.int .i64 (p - q)] rfl rfl ?_ ?_ (by decide) ?_ ?_ ?_ (wr.heap.size + 1) ?_ ?_; (exact owns_below HR.out (bal (Below.refl _ _).drew _)); (exact one_cell _ _ _); (intro u hu; simp at hu; subst hu; rfl); (unfold maxLen; omega); (omega); (simp; omega); (simp); intro g cap' w4 hown hgrow hat hlt; have k70 : w4.cell? ⟨b1, o1 + i, none⟩ = some (.int .i64 p) := hgrow.cell (((ba _ _).cell (p := ⟨b1, o1 + i, none⟩) lb1).trans hc1d) (fun e => absurd (owns_block HR.out _ e.symm) (Nat.not_le_of_lt hb1)); have k71 : w4.cell? ⟨b2, o2 + i, none⟩ = some (.int .i64 q) := hgrow.cell (((ba _ _).cell (p := ⟨b2, o2 + i, none⟩) lb2).trans hc2d) (fun e => absurd (owns_block HR.out _ e.symm) (Nat.not_le_of_lt hb2))))
      have HR4 : Hid (w4.ownsRow w2.heap.size 3 1 (.slice (some ⟨g, 0, none⟩) (i + 1) cap') (i + 1) ((R.take (i + 1)).map (.int .i64))) := by
        show World.ownsRow _ _ _ _ _ _ _
        rw [take_more HGR.out]; exact hown
      have HB4 : Below w2.heap.size w2 w4 := hbl.trans (((bal (Below.refl _ _).drew _).mono hsl).trans (gro_bel hgrow (owns_block HR.out) (Nat.le_refl _) (by simp; omega)))
      clear hown hgrow hat hlt
      go_wp2
      go_roundw
      case rel => exact ⟨i + 1, _, _, rfl, by go_num, h1, HR4, HB4⟩
      case measure => simp [intOf]; omega
    · obtain rfl : i = xs.length := by omega
      have HR2 : Hid (wr.ownsRow w2.heap.size 3 1 (.slice va R.length vc) R.length (R.map (.int .i64))) := by
        have := HR.out
        rw [List.take_of_length_le (by have := HRL.out; omega)] at this
        show World.ownsRow _ _ _ _ _ _ _
        rw [HRL.out]; exact this
      go_wp2
      go_ret
      exact ⟨va, vc, by rw [HRL.out]; rfl, owns_ints rfl (by have := HRL.out; omega) HR2.out l0, bt hbw2 hbl⟩

end Go.Proofs.YtlndlpjadajelaaGreat.K
