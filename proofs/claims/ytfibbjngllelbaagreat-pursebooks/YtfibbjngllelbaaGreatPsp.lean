import Derived.Test.YtfibbjngllelbaaGreatPsa
namespace Go.Proofs.YtfibbjngllelbaaGreat
open Go.RowKit Go.Proofs.YtfibbjngllelbaaGreat.Ds

theorem intKeys_len {w : World} {b n : Nat} {D : DataW Value} (h : w.ownsMap Tryz.prog 3 hR b n D) : (intKeys D).length ≤ n := by
  have h1 := h.size_le
  obtain ⟨es, rfl, _⟩ := h.keysOf
  simpa [intKeys, Maps.size] using h1
theorem top_step {f : Int → Rq} {xs : List Int} {i : Nat} {z : Int} {m : Rq} (h : Top f (fun q => q ∈ xs.take i) m) (hz : xs[i]? = some z) (ho : OkR (f z)) : Top f (fun q => q ∈ xs.take (i + 1)) (if LeR (f z) m then m else f z) := by
  have h1 := h.more (p := z) ho
  rw [pick_same h.ok ho] at h1
  refine h1.congr (fun q => ?_) (fun _ _ => rfl)
  rw [List.take_add_one, hz]
  simp

set_option maxHeartbeats 1000000 in
set_option maxRecDepth 100000 in
/-- what is spent of a purse -/
theorem spent_any (bud al : Rq) (bm n : Nat) (D : DataW Value) (P : Int → Prop) (f : Int → Rq) (w : World) (hp : Pts w bm n D P f) (hn : n ≤ 1048576) (m : Rq) (ht : Top f P m) (r : Rq) (e : Int) (hr : mulT al m = (r, e)) :
    Calls Tryz.prog 28 #[pv bud al bm] w fun x w' => x = .returned (.tuple #[rvq r, .int .i64 e]) ∧ Below w.heap.size w w' := by
  have HP : Hid (Pts w bm n D P f) := hp
  have HT : Hid (Top f P m) := ht
  have HR : Hid (mulT al m = (r, e)) := hr
  have hbm := hp.own.lt
  clear hp ht hr
  go_enter Tryz.func28, Tryz.ntmps28
  go_wp2_with fail
  refine (one_any _).mono ?_
  rintro e1 w1 ⟨rfl, hb1⟩
  have hz1 : w.heap.size + 1 + 1 ≤ w1.heap.size := by have := hb1.size; simpa using this
  have hz0 : w.heap.size < w1.heap.size := by omega
  have hz2 : w.heap.size + 1 < w1.heap.size := by omega
  have k0 : w1.cell? ⟨w.heap.size, 2, none⟩ = some (.int .i64 al.1) := by rw [hb1.cell (p := ⟨w.heap.size, 2, none⟩) (by simp <;> omega)]; simp [go_sem]
  have k1 : w1.cell? ⟨w.heap.size, 3, none⟩ = some (.int .i64 al.2) := by rw [hb1.cell (p := ⟨w.heap.size, 3, none⟩) (by simp <;> omega)]; simp [go_sem]
  have k4 : w1.cell? ⟨w.heap.size, 4, none⟩ = some (.map (some bm)) := by rw [hb1.cell (p := ⟨w.heap.size, 4, none⟩) (by simp <;> omega)]; simp [go_sem]
  have G1 := bt (bal (ba _ _) _) hb1
  go_wp2_with fail
  refine (keysI_any _ _).mono ?_
  rintro e2 w2 ⟨rfl, rfl⟩
  have HP2 : Hid (Pts ((w1.alloc (.cells #[.int .i64 1, .int .i64 1] 35)).alloc (.cells #[.map (some bm)] 61)) bm n D P f) := (HP.out.keep (bal (bal G1 _) _))
  go_wp2_with fail
  refine (sortedI_any _ bm n D hR _ (by simp) (nc _ _ 0 _ (by simp) rfl) HP2.out.own hn).mono ?_
  rintro e3 w3 ⟨v, ss, rfl, hperm, hrow, hb3⟩
  obtain ⟨xs, hxs⟩ : ∃ xs, ss.mergeSort (fun x y => decide (x ≤ y)) = xs := ⟨_, rfl⟩
  have hlen : ss.length = xs.length := by rw [← hxs, List.length_mergeSort]
  have hmem : ∀ q, q ∈ xs ↔ P q := fun q => by
    rw [← hxs, List.mem_mergeSort, hperm.mem_iff, intKeys_has HP2.out.own, HP2.out.is]
  have hxl : xs.length ≤ 1048576 := by rw [← hlen, hperm.length_eq]; exact Nat.le_trans (intKeys_len HP2.out.own) hn
  rw [hxs, hlen] at hrow
  have HI : Hid (Ints w3 w3.heap.size w1.heap.size v xs) := ints_of_owns rfl (by omega) hrow (by simp; omega)
  have HM : Hid (∀ q, q ∈ xs ↔ P q) := hmem
  have hz3 : w1.heap.size + 1 + 1 ≤ w3.heap.size := by have := hb3.size; simpa using this
  have HP3 : Hid (Pts w3 bm n D P f) := HP2.out.keep hb3
  have T3 : TwoB w3 w1.heap.size (.int .i64 1) (.int .i64 1) := (((TwoB.new w1 (.int .i64 1) (.int .i64 1) 35 _ rfl).below (ba _ _)).below hb3)
  have R3 : TwoB w3 (w.heap.size + 1) (.int .i64 0) (.int .i64 0) := ((((TwoB.new (w.alloc (.cells #[.int .i64 bud.1, .int .i64 bud.2, .int .i64 al.1, .int .i64 al.2, .map (some bm)] 63)) (.int .i64 0) (.int .i64 0) 35 _ (by simp)).below hb1).below (bal (ba _ _) _)).below hb3)
  have A0 : w3.cell? ⟨w.heap.size, 2, none⟩ = some (.int .i64 al.1) := by rw [hb3.cell (p := ⟨w.heap.size, 2, none⟩) (by simp <;> omega)]; simp [go_sem, hz0, k0]
  have A1 : w3.cell? ⟨w.heap.size, 3, none⟩ = some (.int .i64 al.2) := by rw [hb3.cell (p := ⟨w.heap.size, 3, none⟩) (by simp <;> omega)]; simp [go_sem, hz0, k1]
  have A4 : w3.cell? ⟨w.heap.size, 4, none⟩ = some (.map (some bm)) := by rw [hb3.cell (p := ⟨w.heap.size, 4, none⟩) (by simp <;> omega)]; simp [go_sem, hz0, k4]
  have B3 : Below w.heap.size w w3 := bt (bal (bal G1 _) _) hb3
  have T0 : Top f (fun q => q ∈ xs.take 0) oneQ := (top_none f).congr (fun q => by simp) (fun _ _ => rfl)
  obtain ⟨a, c, rfl, hc, _⟩ := id HI.out
  clear hperm hrow hmem hxs hlen k0 k1 k4
  go_wp2_with fail
  go_loopw [14] (fun s wr => ∃ (i : Nat) (mi : Rq), s = .int .i64 (i : Int) ∧ i ≤ xs.length ∧ Hid (Top f (fun q => q ∈ xs.take i) mi) ∧ Hid (w3.grownBy wr (some w1.heap.size)) ∧ Hid (TwoB wr w1.heap.size (.int .i64 mi.1) (.int .i64 mi.2))) (fun s _ => xs.length - (intOf s).toNat)
  case atStart => exact ⟨0, oneQ, rfl, Nat.zero_le _, T0, gb_refl _ _, T3⟩
  case round =>
    obtain ⟨i, mi, rfl, hi, HTi, HG, HB⟩ := hrel
    have a0 := HG.out.cell A0 (by simp; omega)
    have a1 := HG.out.cell A1 (by simp; omega)
    have a4 := HG.out.cell A4 (by simp; omega)
    have hzr := HG.out.size
    obtain ⟨c0, c1, f0, f1, hlt⟩ := HB.out
    by_cases h1 : i < xs.length
    · obtain ⟨b, o, z, rfl, hb, hzi, hcz⟩ := (HI.out.gbk HG.out).get h1
      have HZ : Hid (xs[i]? = some z) := hzi
      have hPz : P z := (HM.out z).1 (List.mem_of_getElem? hzi)
      have hok : OkR (f z) := HT.out.oks z hPz
      have hlk := fun W (hW : Below wr.heap.size wr W) => ((HP3.out.gb HG.out (by simp; omega)).keep hW).look hPz
      have hlk0 := hlk wr (Below.refl _ _)
      clear hzi
      cases hle : decide (LeR (f z) mi) with
      | true =>
        have km := more_any (f z) mi hok HTi.out.ok false hle
        have HL : Hid (LeR (f z) mi) := (of_decide_eq_true hle : LeR (f z) mi)
        clear hle
        go_wp2_with fail
        refine (km _).mono ?_
        rintro e4 w4 ⟨rfl, hb4⟩
        have hs4 := hb4.size
        go_wp2_with fail
        go_roundw
        case rel => exact ⟨i + 1, mi, by go_num, by omega, by have := top_step HTi.out HZ.out hok; rw [if_pos HL.out] at this; exact this, gb_trans HG.out (gb_below (bt (ba _ _) hb4)), (HB.out.below (ba _ _)).below hb4⟩
        case measure => simp [intOf]; omega
      | false =>
        have km := more_any (f z) mi hok HTi.out.ok true hle
        have HL : Hid (¬ LeR (f z) mi) := (of_decide_eq_false hle : ¬ LeR (f z) mi)
        clear hle
        go_wp2_with fail
        refine (km _).mono ?_
        rintro e4 w4 ⟨rfl, hb4⟩
        have hs4 := hb4.size
        have HB4 : Hid (TwoB w4 w1.heap.size (.int .i64 mi.1) (.int .i64 mi.2)) := (HB.out.below (ba _ _)).below hb4
        obtain ⟨d0, d1, g0, g1, hlt4⟩ := HB4.out
        have HN4 : TwoB w4 wr.heap.size (.int .i64 (f z).1) (.int .i64 (f z).2) := (TwoB.new wr _ _ 35 _ rfl).below hb4
        obtain ⟨n0, n1, _, _, hltn⟩ := HN4
        go_wp2_with fail
        go_roundw
        case rel => exact ⟨i + 1, f z, by go_num, by omega, by have := top_step HTi.out HZ.out hok; rw [if_neg HL.out] at this; exact this, gb_set (gb_set (gb_trans HG.out (gb_below (bt (ba _ _) hb4))) _ _) _ _, HB4.out.put _ _⟩
        case measure => simp [intOf]; omega
    · have hi' : i = xs.length := by omega
      subst hi'
      have hmi : mi = m := by
        have h2 := HTi.out
        rw [List.take_length] at h2
        exact (h2.congr HM.out (fun _ _ => rfl)).uniq HT.out
      subst hmi
      have kt := times_any al.1 al.2 mi.1 mi.2 r.1 r.2 e (by rw [mulT_is, HR.out])
      have R4 := HB.out
      have HRr : Hid (TwoB wr (w.heap.size + 1) (.int .i64 0) (.int .i64 0)) := by
        have hk : wr.heap[w.heap.size + 1]? = w3.heap[w.heap.size + 1]? := HG.out.block _ R3.lt (by simp; omega)
        exact ⟨(World.cell?_of_block (w := w3) (a := ⟨w.heap.size + 1, 0, none⟩) hk).trans R3.c0, (World.cell?_of_block (w := w3) (a := ⟨w.heap.size + 1, 1, none⟩) hk).trans R3.c1, (World.frozen?_of_block (w := w3) (a := ⟨w.heap.size + 1, 0, none⟩) hk).trans R3.f0, (World.frozen?_of_block (w := w3) (a := ⟨w.heap.size + 1, 1, none⟩) hk).trans R3.f1, by omega⟩
      go_wp2_with fail
      refine (kt _).mono ?_
      rintro e5 w5 ⟨rfl, hb5⟩
      obtain ⟨r0, r1, q0, q1, hlt5⟩ := HRr.out.below hb5
      have Bz : Below w.heap.size w w5 := bt (B3.trans (below_gb HG.out (by omega) (by omega))) hb5
      go_wp2_with fail
      exact bodyPost_ret (v := .tuple #[rvq r, .int .i64 e]) (by simp [results, Tryz.results28, go_sem, r0, r1]) rfl ⟨rfl, bs (bs Bz (by simp) _) (by simp) _⟩
end Go.Proofs.YtfibbjngllelbaaGreat
