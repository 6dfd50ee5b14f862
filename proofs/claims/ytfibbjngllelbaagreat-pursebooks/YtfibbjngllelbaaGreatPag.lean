import Derived.Test.YtfibbjngllelbaaGreatPaf
namespace Go.Proofs.YtfibbjngllelbaaGreat
open Go.RowKit Go.Proofs.YtfibbjngllelbaaGreat.Ds

set_option maxHeartbeats 1000000 in
set_option maxRecDepth 100000 in
theorem onPartOut_any (bud al ls : Rq) (bm : Nat) (part : Int) (w : World) (hp : part < 0 ∨ 1073741824 < part) :
    Calls Tryz.prog 36 #[pv bud al bm, .int .i64 part, rvq ls] w fun x w' => x = .returned (.tuple #[zp, .int .i64 3]) ∧ Below w.heap.size w w' := by
  by_cases h : part < 0
  · clear hp
    go_enter Tryz.func36, Tryz.ntmps36
    go_wp2_with fail
    exact bodyPost_ret (v := .tuple #[zp, .int .i64 3]) (by simp [results, Tryz.results36, go_sem]) rfl ⟨rfl, bal (bal (ba _ _) _) _⟩
  · have h2 : 1073741824 < part := by omega
    clear hp
    go_enter Tryz.func36, Tryz.ntmps36
    go_wp2_with fail
    exact bodyPost_ret (v := .tuple #[zp, .int .i64 3]) (by simp [results, Tryz.results36, go_sem]) rfl ⟨rfl, bal (bal (ba _ _) _) _⟩

set_option maxHeartbeats 800000 in
set_option maxRecDepth 100000 in
theorem after31_any (N : Nat → Prop) (bk bm n : Nat) (v : Value) (D : DataW Value) (done : List En) (nm : ByteArray) (p u v' : Int) (w : World) (hB : BookM w N bk bm n v D done) (hs : nm.size ≤ 4294967296) (b : Rq) (hbud : budT done nm = some b) (fp : Rq) (hfp : (prtP done nm p).1 = fp) (m : Rq) (ht : (mulT fp (u, v')).2 = 0 → Top (fun y => if y = p then (mulT fp (u, v')).1 else (prtP done nm y).1) (fun y => y ∈ prs done nm ∨ y = p) m) (hob : OkR b) (hls : OkR (u, v')) (er : Int) (her : onpT b (allP done nm).1 fp (u, v') m (decide (p ∈ prs done nm)) (parT done nm).length p = er) (hpI : -9223372036854775808 ≤ p ∧ p ≤ 9223372036854775807) :
    Calls Tryz.prog 23 #[.pointer (some ⟨bk, 0, none⟩), ev (3, nm, p, u, v')] w (Aft31 w done nm b (allP done nm).1 (mulT fp (u, v')).1 p er) := by
  have HB : Hid (BookM w N bk bm n v D done) := hB
  obtain ⟨w0, hw0⟩ : ∃ w0, (w.alloc (.cells #[.int .i64 3, .string nm, .int .i64 p, .int .i64 u, .int .i64 v'] 45)).alloc (.cells #[.int .i64 0, .int .i64 0, .int .i64 0, .int .i64 0, .map none] 63) = w0 := ⟨_, rfl⟩
  have hz0 : w0.heap.size = w.heap.size + 1 + 1 := by rw [← hw0]; simp
  have B0 : Below w.heap.size w w0 := by rw [← hw0]; exact bal (ba _ _) _
  have V0 : Hid (FivB w0 w.heap.size (.int .i64 3) (.string nm) (.int .i64 p) (.int .i64 u) (.int .i64 v')) := by rw [← hw0]; exact (FivB.new _ _ _ _ _ _ 45 _ rfl).below (ba _ _)
  have V1 : Hid (FivB w0 (w.heap.size + 1) (.int .i64 0) (.int .i64 0) (.int .i64 0) (.int .i64 0) (.map none)) := by rw [← hw0]; exact FivB.new _ _ _ _ _ _ 63 _ (by simp)
  have BK : Hid (BookM w0 N bk bm n v D done) := hB.keep B0
  obtain ⟨bp, np, Dp, hat, hPp, hnp, hszp, hlop, hbpk, hbpm⟩ := (hB.el nm b hbud).ex
  have hhas : Maps.has D (kN nm) = true := (hB.is nm).2 ⟨b, hbud⟩
  have HX : Hid (np ≤ done.length ∧ Maps.size Dp = (parT done nm).length ∧ N bp ∧ bp ≠ bk ∧ bp ≠ bm) := ⟨hnp, hszp, hlop, hbpk, hbpm⟩
  have HPp : Hid (Pts w bp np Dp (fun p => p ∈ prs done nm) (fun p => (prtP done nm p).1)) := hPp
  have HBU : Hid (budT done nm = some b) := hbud
  clear hnp hszp hlop hbpk hbpm hPp hbud
  obtain ⟨al, hal⟩ : ∃ al, (allP done nm).1 = al := ⟨_, rfl⟩
  have HAL : Hid ((allP done nm).1 = al) := hal
  rw [hal] at hat
  clear hal
  have hlk1 := BK.out.lookAt hs hat hhas (gb_drew (gb_refl w0 none))
  have hlk2 := BK.out.lookAt hs hat hhas (gb_drew (gb_alloc (gb_refl w0 none) (.cells #[.int .i64 0, .int .i64 0, .int .i64 0, .int .i64 0, .map none] 63)))
  obtain ⟨c0, c1, c2, c3, c4, f0, f1, f2, f3, f4, hl0⟩ := V0.out
  obtain ⟨d0, d1, d2, d3, d4, g0, g1, g2, g3, g4, hl1⟩ := V1.out
  obtain ⟨t0, t1, tf0, tf1, htl⟩ := BK.out.two
  have hbk : bk < w.heap.size := HB.out.two.lt
  have hbk2 : bk < w.heap.size + 1 + 1 := by omega
  clear hB hat hhas
  rw [HAL.out] at her
  rw [HAL.out]
  have hal1 : OkR al := HAL.out ▸ (HB.out.inv.all nm).2
  have hln := HB.out.inv.len
  have hof : OkR fp := hfp ▸ (HB.out.inv.prt nm p).2
  have hnpb : np + 1 ≤ 1048576 := by have := HX.out.1; omega
  have ko : ∀ W, Pts W bp np Dp (fun p => p ∈ prs done nm) (fun p => (prtP done nm p).1) → Calls Tryz.prog 36 #[pv b al bp, .int .i64 p, rvq (u, v')] W (PartP W b al np (parT done nm).length (decide (p ∈ prs done nm)) (fun p => p ∈ prs done nm) (fun p => (prtP done nm p).1) p (mulT fp (u, v')).1 er) := fun W hW => by
    by_cases hr : 0 ≤ p ∧ p ≤ 1073741824
    · cases hth : decide (p ∈ prs done nm) with
      | true =>
        rw [hth] at her
        exact onPartOld_any b al (u, v') fp bp np _ Dp _ _ p W hW hnpb HX.out.2.1 hr (of_decide_eq_true hth) hfp hof m ht hal1 hob hls er her
      | false =>
        rw [hth] at her
        have hno : ¬ p ∈ prs done nm := of_decide_eq_false hth
        exact onPartNew_any b al (u, v') fp bp np _ Dp _ _ p W hW hnpb HX.out.2.1 hr hno (by rw [← hfp, prt_none hno]) hof m ht hal1 hob hls er her
    · have he3 : 3 = er := by rw [← her, onpT, if_pos (by omega)]
      subst he3
      refine (onPartOut_any b al (u, v') bp p W (by omega)).mono ?_
      rintro x w' ⟨h1, h2⟩
      exact ⟨h2, .inl ⟨by decide, h1⟩⟩
  have P1 : Hid (Pts (w0.alloc (.cells #[.int .i64 b.1, .int .i64 b.2, .int .i64 al.1, .int .i64 al.2, .map (some bp)] 63)).drew bp np Dp (fun p => p ∈ prs done nm) (fun p => (prtP done nm p).1)) := (HPp.out.keep (bal B0 _)).gb (gb_drew (gb_refl _ none)) (by simp)
  have W1 : Hid (FivB (w0.alloc (.cells #[.int .i64 b.1, .int .i64 b.2, .int .i64 al.1, .int .i64 al.2, .map (some bp)] 63)).drew (w.heap.size + 1) (.int .i64 0) (.int .i64 0) (.int .i64 0) (.int .i64 0) (.map none)) := (V1.out.below (ba _ _)).gb (gb_drew (gb_refl _ none)) (by simp)
  have hbpl : bp < w.heap.size := HPp.out.own.lt
  clear her hln ht hfp
  go_enter Tryz.func23, Tryz.ntmps23
  go_wp2_with fail
  go_region
  all_goals
    go_wp2_with fail
    refine (ko _ P1.out).mono ?_
    rintro e1 w1 ⟨hb1, ⟨hne, rfl⟩ | ⟨rfl, b2, D2, rfl, hlo2, hP2, hsz2⟩⟩
    · obtain ⟨x0, x1, x2, x3, x4, y0, y1, y2, y3, y4, hx⟩ := W1.out.below hb1
      go_wp2_with fail
      exact bodyPost_ret (v := .tuple #[zp, .int .i64 er]) (by simp [results, Tryz.results23, go_sem, x0, x1, x2, x3, x4]) rfl ⟨bs5 (bt (bal B0 _).drew hb1) (by omega) _ _ _ _ _, .inl ⟨hne, rfl⟩⟩
    · obtain ⟨x0, x1, x2, x3, x4, y0, y1, y2, y3, y4, hx⟩ := W1.out.below hb1
      have hlo3 : w.heap.size + 1 + 1 < b2 := by simp [hz0] at hlo2; omega
      go_wp2_with fail
      exact bodyPost_ret (v := .tuple #[pv b al b2, .int .i64 0]) (by simp [results, Tryz.results23, go_sem, x0, x1, x2, x3, x4]) rfl ⟨bs5 (bt (bal B0 _).drew hb1) (by omega) _ _ _ _ _, .inr ⟨rfl, b2, np, D2, rfl, hP2.gb (gb_set (gb_set (gb_set (gb_set (gb_set (gb_refl _ _) _ _) _ _) _ _) _ _) _ _) (by simp; omega), HX.out.1, hsz2, by omega⟩⟩

end Go.Proofs.YtfibbjngllelbaaGreat
