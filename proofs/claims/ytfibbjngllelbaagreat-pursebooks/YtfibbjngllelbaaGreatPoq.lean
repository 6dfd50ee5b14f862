import Derived.Test.YtfibbjngllelbaaGreatPop
namespace Go.Proofs.YtfibbjngllelbaaGreat
open Go.RowKit Go.Proofs.YtfibbjngllelbaaGreat.Ds

set_option maxHeartbeats 2000000 in
set_option maxRecDepth 100000 in
theorem onPartNew_any (bud al ls fp : Rq) (bm n cnt : Nat) (D : DataW Value) (P : Int → Prop) (f : Int → Rq) (part : Int) (w : World) (hp : Pts w bm n D P f) (hn : n + 1 ≤ 1048576) (hsz : Maps.size D = cnt) (hpr : 0 ≤ part ∧ part ≤ 1073741824) (hth : ¬ P part) (hfp : fp = oneQ) (hof : OkR fp) (m : Rq)
    (ht : (mulT fp ls).2 = 0 → Top (fun y => if y = part then (mulT fp ls).1 else f y) (fun y => P y ∨ y = part) m) (ha : OkR al) (hbu : OkR bud) (hls : OkR ls) (er : Int) (hr : onpT bud al fp ls m false cnt part = er) :
    Calls Tryz.prog 36 #[pv bud al bm, .int .i64 part, rvq ls] w (PartP w bud al n cnt false P f part (mulT fp ls).1 er) := by
  have hbm := hp.own.lt
  have hr' : (if false = false ∧ 64 ≤ cnt then 5 else if (mulT fp ls).2 = 0 then chkT bud al m else (mulT fp ls).2) = er := by rw [← hr, onpT, if_neg (show ¬ (part < 0 ∨ 1073741824 < part) by omega)]
  clear hr
  obtain ⟨⟨q, e⟩, hm⟩ : ∃ y, mulT fp ls = y := ⟨_, rfl⟩
  have kt := times_any 1 1 ls.1 ls.2 q.1 q.2 e (by subst hfp; have h0 := mulT_is oneQ ls; rw [hm] at h0; exact h0)
  have HP : Hid (Pts w bm n D P f) := hp
  have hcase : (false = false ∧ 64 ≤ cnt ∧ er = 5) ∨ (¬ (false = false ∧ 64 ≤ cnt) ∧ e = 4 ∧ er = 4) ∨ (¬ (false = false ∧ 64 ≤ cnt) ∧ e = 0 ∧ OkR q ∧ chkT bud al m = er) := by
    rw [hm] at hr'
    by_cases c : false = false ∧ 64 ≤ cnt
    · rw [if_pos c] at hr'; exact .inl ⟨c.1, c.2, hr'.symm⟩
    rw [if_neg c] at hr'
    rcases mul_cases hof hls with ⟨h1, h2, _⟩ | h1
    · rw [hm] at h1 h2
      simp only at h1 h2 hr'
      rw [if_pos h1] at hr'
      exact .inr (.inr ⟨c, h1, h2, hr'⟩)
    · rw [hm] at h1
      simp only [Prod.mk.injEq] at h1
      obtain ⟨_, rfl⟩ := h1
      right; left
      exact ⟨c, rfl, by simpa using hr'.symm⟩
  rw [hm] at ht
  rw [hm]
  simp only at ht
  clear hp hr' hm
  obtain ⟨w0, hw0⟩ : ∃ w0, ((w.alloc (.cells #[.int .i64 bud.1, .int .i64 bud.2, .int .i64 al.1, .int .i64 al.2, .map (some bm)] 63)).alloc (.cells #[.int .i64 ls.1, .int .i64 ls.2] 35)).alloc (.cells #[.int .i64 0, .int .i64 0, .int .i64 0, .int .i64 0, .map none] 63) = w0 := ⟨_, rfl⟩
  have hz0 : w0.heap.size = w.heap.size + 1 + 1 + 1 := by rw [← hw0]; simp
  have B0 : Below w.heap.size w w0 := by rw [← hw0]; exact bal (bal (ba _ _) _) _
  have V0 : Hid (FivB w0 w.heap.size (.int .i64 bud.1) (.int .i64 bud.2) (.int .i64 al.1) (.int .i64 al.2) (.map (some bm))) := by rw [← hw0]; exact ((FivB.new _ _ _ _ _ _ 63 _ rfl).below (ba _ _)).below (ba _ _)
  have V1 : Hid (TwoB w0 (w.heap.size + 1) (.int .i64 ls.1) (.int .i64 ls.2)) := by rw [← hw0]; exact (TwoB.new _ _ _ 35 _ (by simp)).below (ba _ _)
  have V2 : Hid (FivB w0 (w.heap.size + 1 + 1) (.int .i64 0) (.int .i64 0) (.int .i64 0) (.int .i64 0) (.map none)) := by rw [← hw0]; exact FivB.new _ _ _ _ _ _ 63 _ (by simp)
  have P0 : Hid (Pts w0 bm n D P f) := HP.out.keep B0
  have q1 : ¬ part < 0 := by omega
  have q2 : ¬ 1073741824 < part := by omega
  have hlk : (Instr.lookup 61 (.map (some bm)) (.int .i64 part) true).run Tryz.prog w0 = .ok (.tuple #[rv 0 0, .bool false]) w0 := by
    rcases P0.out.lookOk hpr with ⟨h1, h2⟩ | ⟨h1, h2⟩
    · exact absurd h1 hth
    · exact h2
  obtain ⟨c0, c1, c2, c3, c4, f0, f1, f2, f3, f4, hl0⟩ := V0.out
  obtain ⟨l0, l1, lf0, lf1, hl1⟩ := V1.out
  obtain ⟨d0, d1, d2, d3, d4, g0, g1, g2, g3, g4, hl2⟩ := V2.out
  go_enter Tryz.func36, Tryz.ntmps36
  go_wp2_with fail
  refine (one_any _).mono ?_
  rintro e1 w1 ⟨rfl, hb1⟩
  have hz1 : w0.heap.size < w1.heap.size := by have := hb1.size; simp at this; omega
  have BY : Below w0.heap.size w0 w1 := bt (ba _ _) hb1
  have VY3 : TwoB w1 (w.heap.size + 1 + 1 + 1) (.int .i64 0) (.int .i64 0) := (TwoB.new _ _ _ 35 _ hz0.symm).below hb1
  obtain ⟨y0, y1, yf0, yf1, hy⟩ := VY3
  obtain ⟨X, hX⟩ : ∃ X, (w1.setCell ⟨w.heap.size + 1 + 1 + 1, 0, none⟩ (.int .i64 1)).setCell ⟨w.heap.size + 1 + 1 + 1, 1, none⟩ (.int .i64 1) = X := ⟨_, rfl⟩
  have BX : Below w0.heap.size w0 X := by rw [← hX]; exact bs (bs BY (by simp; omega) _) (by simp; omega) _
  have VX0 : Hid (FivB X w.heap.size (.int .i64 bud.1) (.int .i64 bud.2) (.int .i64 al.1) (.int .i64 al.2) (.map (some bm))) := V0.out.below BX
  have VX1 : Hid (TwoB X (w.heap.size + 1) (.int .i64 ls.1) (.int .i64 ls.2)) := V1.out.below BX
  have VX2 : Hid (FivB X (w.heap.size + 1 + 1) (.int .i64 0) (.int .i64 0) (.int .i64 0) (.int .i64 0) (.map none)) := V2.out.below BX
  have VX3 : Hid (TwoB X (w.heap.size + 1 + 1 + 1) (.int .i64 1) (.int .i64 1)) := by rw [← hX]; exact TwoB.put ⟨y0, y1, yf0, yf1, hy⟩ _ _
  have PX : Hid (Pts X bm n D P f) := P0.out.keep BX
  have BwX : Below w.heap.size w X := bt B0 BX
  have hlen := PX.out.own.len Tryz.underlying61 3
  rw [hsz] at hlen
  have hsb : cnt ≤ 1048576 := by rw [← hsz]; exact Nat.le_trans HP.out.own.size_le (by omega)
  clear c0 c1 c2 c3 l0 l1 d0 d1 d2 d3 d4 lf0 lf1 f0 f1 f2 f3 f4 g0 g1 g2 g3 g4
  obtain ⟨x0, x1, x2, x3, x4, xf0, xf1, xf2, xf3, xf4, hlx0⟩ := VX0.out
  obtain ⟨l0, l1, lf0, lf1, hlx1⟩ := VX1.out
  obtain ⟨d0, d1, d2, d3, d4, g0, g1, g2, g3, g4, hlx2⟩ := VX2.out
  obtain ⟨t0, t1, tf0, tf1, hlx3⟩ := VX3.out
  rcases hcase with ⟨hca, hcb, rfl⟩ | ⟨hca, rfl, rfl⟩ | ⟨hca, rfl, hok, hck⟩
  · have hcb' : decide ((64 : Int) ≤ (cnt : Int)) = true := decide_eq_true (by omega)
    go_wp2_with fail
    exact bodyPost_ret (v := .tuple #[zp, .int .i64 5]) (by simp [results, Tryz.results36, go_sem, d0, d1, d2, d3, d4]) rfl ⟨bs5 BwX (by omega) _ _ _ _ _, .inl ⟨by decide, rfl⟩⟩
  · have hcb' : decide ((64 : Int) ≤ (cnt : Int)) = false := decide_eq_false (by simp at hca; omega)
    go_wp2_with fail
    refine (kt _).mono ?_
    rintro e2 w2 ⟨rfl, hb2⟩
    have Bw2 := bt BwX hb2
    obtain ⟨m0, m1, m2, m3, m4, h0, h1, h2, h3, h4, hl5⟩ := VX2.out.below hb2
    go_wp2_with fail
    exact bodyPost_ret (v := .tuple #[zp, .int .i64 4]) (by simp [results, Tryz.results36, go_sem, m0, m1, m2, m3, m4, hl5]) rfl ⟨bal (bs5 Bw2 (by omega) _ _ _ _ _) _, .inl ⟨by decide, rfl⟩⟩
  · have hcb' : decide ((64 : Int) ≤ (cnt : Int)) = false := decide_eq_false (by simp at hca; omega)
    go_wp2_with fail
    refine (kt _).mono ?_
    rintro e2 w2 ⟨rfl, hb2⟩
    obtain ⟨W3, hW3⟩ : ∃ W3, w2.alloc (.cells #[.int .i64 q.1, .int .i64 q.2] 35) = W3 := ⟨_, rfl⟩
    have B3 : Below X.heap.size X W3 := by rw [← hW3]; exact bal hb2 _
    have T3 : Hid (TwoB W3 w2.heap.size (.int .i64 q.1) (.int .i64 q.2)) := by rw [← hW3]; exact TwoB.new _ _ _ 35 _ rfl
    have P3 : Hid (Pts W3 bm n D P f) := PX.out.keep B3
    obtain ⟨n0, n1, n2, n3, n4, nf0, nf1, nf2, nf3, nf4, hn0⟩ := VX0.out.below B3
    go_wp2_with fail
    refine (cloneM_any hR bm n D _ P3.out.own).mono ?_
    rintro e4 w4 ⟨rfl, hcl, hb4, hlt4⟩
    have P4 : Hid (Pts w4 W3.heap.size n D P f) := ⟨hcl, P3.out.is, P3.out.el, P3.out.rng⟩
    have V40 : Hid (FivB w4 w.heap.size (.int .i64 bud.1) (.int .i64 bud.2) (.int .i64 al.1) (.int .i64 al.2) (.map (some bm))) := (VX0.out.below B3).below hb4
    have hs3 := B3.size
    have hs4 := hb4.size
    have hsx := BwX.size
    obtain ⟨Y, hY⟩ : ∃ Y, w4.setCell ⟨w.heap.size, 4, none⟩ (.map (some W3.heap.size)) = Y := ⟨_, rfl⟩
    have gY : w4.grownBy Y (some w.heap.size) := by rw [← hY]; exact gb_set (gb_refl _ _) _ _
    have PY : Hid (Pts Y W3.heap.size n D P f) := P4.out.gb gY (by simp; omega)
    obtain ⟨w5, hup, P5, g5⟩ := PY.out.put (by omega) hpr q
    have T5 : TwoB Y w2.heap.size (.int .i64 q.1) (.int .i64 q.2) := by
      obtain ⟨a1, a2, a3, a4, a5⟩ := T3.out.below hb4
      have hk : Y.heap[w2.heap.size]? = w4.heap[w2.heap.size]? := gY.block _ a5 (by have := hb2.size; simp; omega)
      exact ⟨(World.cell?_of_block (w := w4) (a := ⟨w2.heap.size, 0, none⟩) hk).trans a1, (World.cell?_of_block (w := w4) (a := ⟨w2.heap.size, 1, none⟩) hk).trans a2, (World.frozen?_of_block (w := w4) (a := ⟨w2.heap.size, 0, none⟩) hk).trans a3, (World.frozen?_of_block (w := w4) (a := ⟨w2.heap.size, 1, none⟩) hk).trans a4, Nat.lt_of_lt_of_le a5 gY.size⟩
    have VY : Hid (FivB Y w.heap.size (.int .i64 bud.1) (.int .i64 bud.2) (.int .i64 al.1) (.int .i64 al.2) (.map (some W3.heap.size))) := by
      rw [← hY]
      obtain ⟨a0, a1, a2, a3, a4, b0, b1, b2, b3, b4, b5⟩ := V40.out
      exact ⟨(sc_other (by simp)).trans a0, (sc_other (by simp)).trans a1, (sc_other (by simp)).trans a2, (sc_other (by simp)).trans a3, sc_same a4, sc_frozen.trans b0, sc_frozen.trans b1, sc_frozen.trans b2, sc_frozen.trans b3, sc_frozen.trans b4, by simpa using b5⟩
    have V5 : Hid (FivB w5 w.heap.size (.int .i64 bud.1) (.int .i64 bud.2) (.int .i64 al.1) (.int .i64 al.2) (.map (some W3.heap.size))) := VY.out.gb g5 (by simp; omega)
    have R5 : Hid (FivB w5 (w.heap.size + 1 + 1) (.int .i64 0) (.int .i64 0) (.int .i64 0) (.int .i64 0) (.map none)) := ((((VX2.out.below B3).below hb4).gb gY (by simp; omega)).gb g5 (by have := hlx2; simp; omega))
    have B5 : Below w.heap.size w w5 := ((bt BwX (bt B3 hb4)).trans (below_gb gY (Nat.le_refl _) (by omega))).trans (below_gb g5 (by omega) (by have := gY.size; omega))
    obtain ⟨tq0, tq1, _, _, tql⟩ := T5
    obtain ⟨z0, z1, z2, z3, z4, zf0, zf1, zf2, zf3, zf4, hz⟩ := V40.out
    obtain ⟨u0, u1, u2, u3, u4, uf0, uf1, uf2, uf3, uf4, hu⟩ := VY.out
    obtain ⟨v0, v1, v2, v3, v4, vf0, vf1, vf2, vf3, vf4, hv⟩ := V5.out
    have kc := fun W (hW : Pts W W3.heap.size (n + 1) _ (fun y => P y ∨ y = part) (fun y => if y = part then q else f y)) => checked_any bud al W3.heap.size (n + 1) (D.put (.int .i64 part) (.held (rvq q))) _ _ W hW (by omega) m (ht (by simp)) ha hbu er hck
    have HP5 := P5
    have HSZ : Hid (Maps.size (D.put (.int .i64 part) (.held (rvq q))) = if false then cnt else cnt + 1) := by
      rw [Hid, Maps.size_put (HP.out.own.tidy law3), hsz]
      rw [show Maps.has D (.int .i64 part) = false from by cases h : Maps.has D (.int .i64 part) with | false => rfl | true => exact absurd ((HP.out.is part).1 h) hth]
    clear hck ht gY g5 hcl P5
    by_cases her : er = 0
    · subst her
      simp only [↓reduceIte] at kc
      go_wp2_with fail
      refine (kc _ HP5).mono ?_
      rintro e6 w6 ⟨rfl, hb6⟩
      obtain ⟨s0, s1, s2, s3, s4, sf0, sf1, sf2, sf3, sf4, hs⟩ := R5.out.below hb6
      go_wp2_with fail
      exact bodyPost_ret (v := .tuple #[pv bud al W3.heap.size, .int .i64 0]) (by simp [results, Tryz.results36, go_sem, s0, s1, s2, s3, s4]) rfl ⟨bs5 (bt B5 hb6) (by omega) _ _ _ _ _, .inr ⟨rfl, W3.heap.size, _, rfl, by omega, (HP5.keep hb6).gb (gb_set (gb_set (gb_set (gb_set (gb_set (gb_refl _ _) _ _) _ _) _ _) _ _) _ _) (by have := hlx2; simp; omega), HSZ.out⟩⟩
    · simp only [her, ↓reduceIte] at kc
      go_wp2_with fail
      refine (kc _ HP5).mono ?_
      rintro e6 w6 ⟨rfl, hb6⟩
      obtain ⟨s0, s1, s2, s3, s4, sf0, sf1, sf2, sf3, sf4, hs⟩ := R5.out.below hb6
      go_wp2_with fail
      exact bodyPost_ret (v := .tuple #[zp, .int .i64 er]) (by simp [results, Tryz.results36, go_sem, s0, s1, s2, s3, s4]) rfl ⟨bs5 (bt B5 hb6) (by omega) _ _ _ _ _, .inl ⟨her, rfl⟩⟩

end Go.Proofs.YtfibbjngllelbaaGreat
