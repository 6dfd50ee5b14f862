import Derived.Test.YtfibbjngllelbaaGreatPdx
import Derived.Deep.RegionLaw
namespace Go.Proofs.YtfibbjngllelbaaGreat
open Go.RowKit Go.Proofs.YtfibbjngllelbaaGreat.Ds

set_option maxHeartbeats 2000000 in
set_option maxRecDepth 100000 in
theorem doYes_any (N : Nat → Prop) (bk bm n : Nat) (v : Value) (D : DataW Value) (done : List En) (e : En) (w : World) (hB : BookM w N bk bm n v D done) (hs : e.2.1.size ≤ 4294967296) (hN : ∀ k, w.heap.size ≤ k → N k) (hbad : badT e = 0) (hl : done.length < 4096) (hpI : -9223372036854775808 ≤ e.2.2.1 ∧ e.2.2.1 ≤ 9223372036854775807) (her : doT done (nrm e) = 0) :
    Calls Tryz.prog 12 #[.pointer (some ⟨bk, 0, none⟩), ev e] w (DoP w N bk bm done e) := by
  have kw := fun W => wrong_any e (by omega) W 0 hbad
  have ka := fun W (hW : BookM W N bk bm n v D done) (hNW : ∀ k, W.heap.size ≤ k → N k) => after_any N bk bm n v D done e W hW hs hNW hbad hl hpI 0 her
  have kr := fun W => written_any e (by omega) W
  have HB : Hid (BookM w N bk bm n v D done) := hB
  have hbk := hB.two.lt
  obtain ⟨va, vc, rfl⟩ := hB.slice
  have hq : decide ((4096 : Int) ≤ (done.length : Int)) = false := decide_eq_false (by omega)
  obtain ⟨e', he'⟩ : ∃ e', nrm e = e' := ⟨_, rfl⟩
  have HE : Hid (nrm e = e') := he'
  have HD : Hid (doT done e' = 0) := by rw [← he']; exact her
  simp only [he'] at ka kr
  have hnm : e'.2.1 = e.2.1 := by rw [← he']; exact nrm_n e
  obtain ⟨d, nm, p, u, v'⟩ := e
  obtain ⟨d', nm', p', u', v''⟩ := e'
  simp only at hnm hs
  subst hnm
  obtain ⟨i0, hi0, hz0, hz1, hz2⟩ := info_parts info33
  have V0 : Hid (FivB (w.alloc (.cells #[.int .i64 d, .string nm', .int .i64 p, .int .i64 u, .int .i64 v'] 45)) w.heap.size (.int .i64 d) (.string nm') (.int .i64 p) (.int .i64 u) (.int .i64 v')) := FivB.new _ _ _ _ _ _ 45 _ rfl
  clear hbad her hB he'
  go_enter Tryz.func12, Tryz.ntmps12
  go_wp2_with fail
  refine (kw _).mono ?_
  rintro e1 w1 ⟨rfl, hb1⟩
  have B1 := bt (ba _ _) hb1
  have BK1 := HB.out.keep B1
  obtain ⟨t0, t1, tf0, tf1, htl⟩ := BK1.two
  obtain ⟨c0, c1, c2, c3, c4, f0, f1, f2, f3, f4, hl0⟩ := V0.out.below hb1
  go_wp2_with fail
  refine (ka _ BK1 (fun k hk => hN k (Nat.le_trans B1.size hk))).mono ?_
  rintro e2 w2 ⟨hb2, ⟨hz, _⟩ | ⟨_, b, bp, np, Dp, rfl, hbud, hPt, hnp, hszp, hNp, hpk, hpm⟩⟩
  · exact absurd rfl hz
  obtain ⟨al, hal⟩ : ∃ al, (allP (done ++ [(d', nm', p', u', v'')]) nm').1 = al := ⟨_, rfl⟩
  have HAL : Hid ((allP (done ++ [(d', nm', p', u', v'')]) nm').1 = al) := hal
  simp only [hal]
  have HPT : Hid (Pts w2 bp np Dp (fun p => p ∈ prs (done ++ [(d', nm', p', u', v'')]) nm') (fun y => (prtP (done ++ [(d', nm', p', u', v'')]) nm' y).1) ∧ np ≤ done.length + 1 ∧ Maps.size Dp = (parT (done ++ [(d', nm', p', u', v'')]) nm').length ∧ N bp ∧ bp ≠ bk ∧ bp ≠ bm ∧ budT (done ++ [(d', nm', p', u', v'')]) nm' = some b) := ⟨hPt, hnp, hszp, hNp, hpk, hpm, hbud⟩
  have hbp2 : bp < w2.heap.size := hPt.own.lt
  clear hPt hnp hszp hNp hpk hpm hbud hal
  obtain ⟨c0, c1, c2, c3, c4, f0, f1, f2, f3, f4, hl0⟩ := (V0.out.below hb1).below hb2
  go_wp2_with fail
  refine (kr _).mono ?_
  rintro e3 w3 ⟨rfl, hb3⟩
  have hs1 : w.heap.size < w1.heap.size := by have := hb1.size; simp at this; omega
  have hs2 := hb2.size
  have hs3 : w2.heap.size < w3.heap.size := by have := hb3.size; simp at this; omega
  obtain ⟨c0, c1, c2, c3, c4, f0, f1, f2, f3, f4, hl0⟩ := (((V0.out.below hb1).below hb2).below (ba _ (.cells #[.int .i64 b.1, .int .i64 b.2, .int .i64 al.1, .int .i64 al.2, .map (some bp)] 63))).below hb3
  obtain ⟨X, hX⟩ : ∃ X, ((((w3.setCell ⟨w.heap.size, 0, none⟩ (.int .i64 d')).setCell ⟨w.heap.size, 1, none⟩ (.string nm')).setCell ⟨w.heap.size, 2, none⟩ (.int .i64 p')).setCell ⟨w.heap.size, 3, none⟩ (.int .i64 u')).setCell ⟨w.heap.size, 4, none⟩ (.int .i64 v'') = X := ⟨_, rfl⟩
  have gX : w3.grownBy X (some w.heap.size) := by rw [← hX]; exact gb_set (gb_set (gb_set (gb_set (gb_set (gb_refl _ _) _ _) _ _) _ _) _ _) _ _
  have B3 : Below w.heap.size w X := by
    rw [← hX]; exact bs5 (bt (bal (bt B1 hb2) _) hb3) (Nat.le_refl _) _ _ _ _ _
  have VX0 : Hid (FivB X w.heap.size (.int .i64 d') (.string nm') (.int .i64 p') (.int .i64 u') (.int .i64 v'')) := by
    rw [← hX]; constructor <;> simp [World.cell?_setCell_other, World.frozen?_setCell, sc_same, c0, c1, c2, c3, c4, f0, f1, f2, f3, f4, hl0, go_sem]
  have VXp : Hid (FivB X w2.heap.size (.int .i64 b.1) (.int .i64 b.2) (.int .i64 al.1) (.int .i64 al.2) (.map (some bp))) := ((FivB.new w2 _ _ _ _ _ 63 _ rfl).below hb3).gb gX (by simp; omega)
  have BKX : Hid (BookM X N bk bm n (.slice va done.length vc) D done) := HB.out.keep B3
  have PX : Hid (Pts X bp np Dp (fun p => p ∈ prs (done ++ [(d', nm', p', u', v'')]) nm') (fun y => (prtP (done ++ [(d', nm', p', u', v'')]) nm' y).1)) := (HPT.out.1.keep (bt (ba _ _) hb3)).gb gX (fun e' => by
    simp only [Option.some.injEq] at e'
    obtain ⟨es, clock, hb, _⟩ := HPT.out.1.own
    have h1 := f0
    have h2 := ((V0.out.below hb1).below hb2).c0
    rw [← e'] at h2
    simp [World.cell?, hb] at h2)
  have hln := HB.out.cnt
  obtain ⟨w5, hup, own5, gU⟩ := (BKX.out.own.drew).update law9 Tryz.underlying58 (by unfold maxLen; omega) (val := pv b al bp) (d := .held (pv b al bp)) (ps := []) (Go.WideMaps.keyOf_string_mk Tryz.underlying9 (s := nm') (by unfold maxLen; omega)) rfl
  have g5 : X.grownBy w5 (some bm) := gb_trans (gb_drew (gb_refl X (some bm))) gU
  obtain ⟨x0, x1, x2, x3, x4, y0, y1, y2, y3, y4, hlx⟩ := VX0.out
  obtain ⟨q0, q1, q2, q3, q4, r0, r1, r2, r3, r4, hlq⟩ := VXp.out
  obtain ⟨t0, t1, tf0, tf1, htl⟩ := BKX.out.two
  go_wp2_with fail
  go_region
  obtain ⟨hl1, hl2, hl3, hl4⟩ := BKX.out.lob
  have T5 : Hid (TwoB w5 bk (.map (some bm)) (.slice va done.length vc)) := BKX.out.two.gb g5 (by simpa using hl3)
  have V5 : Hid (FivB w5 w.heap.size (.int .i64 d') (.string nm') (.int .i64 p') (.int .i64 u') (.int .i64 v'')) := VX0.out.gb g5 (by have := HB.out.own.lt; simp; omega)
  have HRW : Hid (w5.ownsRow 0 45 5 (.slice va done.length vc) done.length (enc done)) := BKX.out.row.kept g5 (by
    cases hv : (Value.slice va done.length vc).ownBlock with
    | none => exact .inl rfl
    | some g => right; intro e'; exact (hl4 g hv).2.2 (by simpa using e'))
  have HO : Hid (∀ g, (Value.slice va done.length vc).ownBlock = some g → g ≠ bk ∧ g ≠ w.heap.size) := fun g hg => ⟨(hl4 g hg).2.1, fun c => by
    have h1 := HB.out.row
    rcases h1.2 with ⟨h2, _⟩ | ⟨g', c', cur, h2, _, hc, _⟩
    · rw [h2] at hg; cases hg
    · rw [h2] at hg
      simp only [Value.ownBlock, Option.some.injEq] at hg
      have := (Array.getElem?_eq_some_iff.1 hc).1
      omega⟩
  obtain ⟨k0, k1, kf0, kf1, hk5⟩ := T5.out
  obtain ⟨m0, m1, m2, m3, m4, mf0, mf1, mf2, mf3, mf4, hm5⟩ := V5.out
  go_wp2_with fail
  go_region_law (refine step_append_lies _ rfl _ _ 22 rfl 0 45 i0 (.agg #[.int .i64 0, .string ⟨#[]⟩, .int .i64 0, .int .i64 0, .int .i64 0]) 5 48 Tryz.underlying22 hi0 hz0 hz1 hz2 rfl (by decide) (.slice va done.length vc) done.length (enc done) rfl ?_ ⟨w5.heap.size, 0, none⟩ 1 1 [.int .i64 d', .string nm', .int .i64 p', .int .i64 u', .int .i64 v''] rfl rfl ?_ ?_ (by decide) ?_ ?_ ?_ (w5.heap.size + 1) ?_ ?_; (exact HRW.out.kept (gb_alloc (gb_drew (gb_refl w5 none)) _) (by simp [Classical.em])); (exact five_cells w5.drew _ _ _ _ _ 45 _ rfl); (intro z hz; simp at hz; rcases hz with rfl | rfl | rfl | rfl | rfl <;> rfl); (unfold maxLen; omega); (omega); (simp); (simp); intro g cap w6 hown hgrow hat hlt; have z0 : w6.cell? ⟨bk, 1, none⟩ = some (.slice va done.length vc) := (hgrow.cell_far ⟨bk, 1, none⟩ (by simp; omega) (fun e' => (HO.out bk e'.symm).1 rfl)).trans (((ba w5.drew _).cell (p := ⟨bk, 1, none⟩) hk5).trans k1); have z1 : w6.frozen? ⟨bk, 1, none⟩ = false := (hgrow.frozen_far ⟨bk, 1, none⟩ (by simp; omega) (fun e' => (HO.out bk e'.symm).1 rfl)).trans (((ba w5.drew _).frozen (p := ⟨bk, 1, none⟩) hk5).trans kf1); have z2 : w6.cell? ⟨w.heap.size, 0, none⟩ = some (.int .i64 d') := (hgrow.cell_far ⟨w.heap.size, 0, none⟩ (by simp; omega) (fun e' => (HO.out w.heap.size e'.symm).2 rfl)).trans (((ba w5.drew _).cell (p := ⟨w.heap.size, 0, none⟩) hm5).trans m0); have z3 : w6.cell? ⟨w.heap.size, 1, none⟩ = some (.string nm') := (hgrow.cell_far ⟨w.heap.size, 1, none⟩ (by simp; omega) (fun e' => (HO.out w.heap.size e'.symm).2 rfl)).trans (((ba w5.drew _).cell (p := ⟨w.heap.size, 1, none⟩) hm5).trans m1); have z4 : w6.cell? ⟨w.heap.size, 2, none⟩ = some (.int .i64 p') := (hgrow.cell_far ⟨w.heap.size, 2, none⟩ (by simp; omega) (fun e' => (HO.out w.heap.size e'.symm).2 rfl)).trans (((ba w5.drew _).cell (p := ⟨w.heap.size, 2, none⟩) hm5).trans m2); have z5 : w6.cell? ⟨w.heap.size, 3, none⟩ = some (.int .i64 u') := (hgrow.cell_far ⟨w.heap.size, 3, none⟩ (by simp; omega) (fun e' => (HO.out w.heap.size e'.symm).2 rfl)).trans (((ba w5.drew _).cell (p := ⟨w.heap.size, 3, none⟩) hm5).trans m3); have z6 : w6.cell? ⟨w.heap.size, 4, none⟩ = some (.int .i64 v'') := (hgrow.cell_far ⟨w.heap.size, 4, none⟩ (by simp; omega) (fun e' => (HO.out w.heap.size e'.symm).2 rfl)).trans (((ba w5.drew _).cell (p := ⟨w.heap.size, 4, none⟩) hm5).trans m4))
  all_goals go_wp2_with fail
  all_goals
    go_ret
    have hgb : w5.grownBy w6 (Value.slice va done.length vc).ownBlock := gb_trans (gb_drew (gb_alloc (gb_refl _ _) _)) hgrow
    have hN5 : ∀ k, w5.heap.size ≤ k → N k := fun k hk => hN k (by have := B3.size; have := g5.size; omega)
    have hal2 := HAL.out
    have hst : stepD done (d, nm', p, u, v') = done ++ [(d', nm', p', u', v'')] := by unfold stepD; rw [HE.out, if_pos HD.out]
    have hnn : nrm (d', nm', p', u', v'') = (d', nm', p', u', v'') := by rw [← HE.out, nrm_nrm]
    refine ⟨by rw [HE.out, HD.out]; rfl, ?_, n + 1, .slice (some ⟨g, 0, none⟩) (done.length + 1) cap, D.put (kN nm') (.held (pv b (allP (done ++ [(d', nm', p', u', v'')]) nm').1 bp)), ?_⟩
    · exact keeps_after (keeps_after (keeps_after (keeps_below B3) g5 (fun k hk => by simp only [Option.some.injEq] at hk; exact .inl (hk ▸ hl2))) hgb (fun k hk => .inl (hl4 k hk).1)) (gb_set (gb_refl _ (some bk)) _ _) (fun k hk => by simp only [Option.some.injEq] at hk; exact .inl (hk ▸ hl1))
    · rw [hst]
      rw [← hal2] at own5
      have := bookM_next (e := (d', nm', p', u', v'')) BKX.out hN5 HD.out hnn HPT.out.2.2.2.2.2.2 PX.out HPT.out.2.1 HPT.out.2.2.1 HPT.out.2.2.2.1 HPT.out.2.2.2.2.1 HPT.out.2.2.2.2.2.1 own5 g5 hown hgb (hat.imp id (fun h => by omega))
      exact this

theorem do_any (N : Nat → Prop) (bk bm n : Nat) (v : Value) (D : DataW Value) (done : List En) (e : En) (w : World) (hB : BookM w N bk bm n v D done) (hs : e.2.1.size ≤ 9223372036854775807) (hN : ∀ k, w.heap.size ≤ k → N k) (hpI : -9223372036854775808 ≤ e.2.2.1 ∧ e.2.2.1 ≤ 9223372036854775807) :
    Calls Tryz.prog 12 #[.pointer (some ⟨bk, 0, none⟩), ev e] w (DoP w N bk bm done e) := by
  by_cases hb : badT e ≠ 0 ∨ 4096 ≤ done.length
  · refine (doBad_any N bk bm n v D done e w hB hs hb).mono ?_
    rintro x w' ⟨h1, h2⟩
    have hst : stepD done e = done := by
      unfold stepD
      rw [if_neg]
      intro h0
      obtain ⟨h3, h4⟩ := doT_bad h0
      rw [bad_nrm] at h3
      omega
    exact ⟨h1, keeps_below h2, n, v, D, by rw [hst]; exact hB.keep h2⟩
  · have hbad : badT e = 0 := by omega
    have hs : e.2.1.size ≤ 4294967296 := by
      have h1 := (bad_ok hbad).2.2.1
      unfold namB at h1
      simp only [Bool.and_eq_true, decide_eq_true_eq] at h1
      have h2 := h1.1.2
      rw [Array.length_toList] at h2
      show e.2.1.data.size ≤ _
      omega
    have hl : done.length < 4096 := by omega
    by_cases h0 : doT done (nrm e) = 0
    · exact doYes_any N bk bm n v D done e w hB hs hN hbad hl hpI h0
    · refine (doNo_any N bk bm n v D done e w hB hs hN hbad hl hpI _ rfl h0).mono ?_
      rintro x w' ⟨h1, h2⟩
      exact ⟨h1, keeps_below h2, n, v, D, by unfold stepD; rw [if_neg h0]; exact hB.keep h2⟩
end Go.Proofs.YtfibbjngllelbaaGreat
