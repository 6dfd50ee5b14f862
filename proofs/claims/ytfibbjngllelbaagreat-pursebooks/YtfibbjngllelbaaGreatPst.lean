import Derived.Test.YtfibbjngllelbaaGreatPen
namespace Go.Proofs.YtfibbjngllelbaaGreat
open Go.RowKit Go.Proofs.YtfibbjngllelbaaGreat.Ds

set_option maxHeartbeats 1000000 in
set_option maxRecDepth 100000 in
theorem bspentNo_any (N : Nat → Prop) (bk bm n : Nat) (v : Value) (D : DataW Value) (done : List En) (nm : ByteArray) (w : World) (hB : BookM w N bk bm n v D done) (hs : nm.size ≤ 4294967296) (hbud : budT done nm = none) :
    Calls Tryz.prog 15 #[.pointer (some ⟨bk, 0, none⟩), .string nm] w fun x w' => x = .returned (.tuple #[rv 0 0, rv 0 0, .int .i64 7]) ∧ Below w.heap.size w w' := by
  obtain ⟨hhas, hat⟩ := hB.has_no hbud
  obtain ⟨w0, hw0⟩ : ∃ w0, (w.alloc (.cells #[.int .i64 0, .int .i64 0] 35)).alloc (.cells #[.int .i64 0, .int .i64 0] 35) = w0 := ⟨_, rfl⟩
  have B0 : Below w.heap.size w w0 := by rw [← hw0]; exact bal (ba _ _) _
  have hz0 : w0.heap.size = w.heap.size + 1 + 1 := by rw [← hw0]; simp
  have V0 : TwoB w0 w.heap.size (.int .i64 0) (.int .i64 0) := by rw [← hw0]; exact (TwoB.new _ _ _ 35 _ rfl).below (ba _ _)
  have V1 : TwoB w0 (w.heap.size + 1) (.int .i64 0) (.int .i64 0) := by rw [← hw0]; exact TwoB.new _ _ _ 35 _ (by simp)
  have hlk := hB.lookAt hs hat hhas (gb_none B0)
  obtain ⟨t0, t1, tf0, tf1, htl⟩ := (hB.keep B0).two
  obtain ⟨c0, c1, f0, f1, hl0⟩ := V0
  obtain ⟨d0, d1, g0, g1, hl1⟩ := V1
  have hbk : bk < w.heap.size := hB.two.lt
  have hbk2 : bk < w.heap.size + 1 + 1 := by omega
  clear hB hat hhas hbud
  go_enter Tryz.func15, Tryz.ntmps15
  go_wp2
  exact bodyPost_ret (v := .tuple #[rv 0 0, rv 0 0, .int .i64 7]) (by simp [results, Tryz.results15, go_sem, c0, c1, d0, d1, hz0]) rfl ⟨rfl, bal (bs (bs (bs (bs B0 (by simp) _) (by simp) _) (by simp) _) (by simp) _) _⟩

set_option maxHeartbeats 1000000 in
set_option maxRecDepth 100000 in
theorem bspent_any (N : Nat → Prop) (bk bm n : Nat) (v : Value) (D : DataW Value) (done : List En) (nm : ByteArray) (w : World) (hB : BookM w N bk bm n v D done) (hs : nm.size ≤ 4294967296) (b : Rq) (hbud : budT done nm = some b) (sp : Rq) (hsp : (spentT done nm).1 = sp) :
    Calls Tryz.prog 15 #[.pointer (some ⟨bk, 0, none⟩), .string nm] w fun x w' => x = .returned (.tuple #[rvq sp, rvq b, .int .i64 0]) ∧ Below w.heap.size w w' := by
  obtain ⟨bp, np, Dp, hat, hPp, hnp, _⟩ := (hB.el nm b hbud).ex
  have hhas : Maps.has D (kN nm) = true := (hB.is nm).2 ⟨b, hbud⟩
  have hinv := hB.inv
  have hln := hinv.len
  obtain ⟨al, hal⟩ : ∃ al, (allP done nm).1 = al := ⟨_, rfl⟩
  rw [hal] at hat
  have hmu : mulT al (mostT (prtP done nm) oneQ (prs done nm)).1 = (sp, 0) := by
    have h1 := hinv.spent nm
    rw [hal] at h1
    rw [← h1, ← hsp]
    exact Prod.ext rfl (hinv.ok nm)
  have ks := fun W (hW : Pts W bp np Dp (fun p => p ∈ prs done nm) (fun p => (prtP done nm p).1)) => spent_any b al bp np Dp _ _ W hW (by omega) _ (hinv.top nm).2 sp 0 hmu
  obtain ⟨w0, hw0⟩ : ∃ w0, (w.alloc (.cells #[.int .i64 0, .int .i64 0] 35)).alloc (.cells #[.int .i64 0, .int .i64 0] 35) = w0 := ⟨_, rfl⟩
  have B0 : Below w.heap.size w w0 := by rw [← hw0]; exact bal (ba _ _) _
  have hz0 : w0.heap.size = w.heap.size + 1 + 1 := by rw [← hw0]; simp
  have V0 : Hid (TwoB w0 w.heap.size (.int .i64 0) (.int .i64 0)) := by rw [← hw0]; exact (TwoB.new _ _ _ 35 _ rfl).below (ba _ _)
  have V1 : Hid (TwoB w0 (w.heap.size + 1) (.int .i64 0) (.int .i64 0)) := by rw [← hw0]; exact TwoB.new _ _ _ 35 _ (by simp)
  have hlk := hB.lookAt hs hat hhas (gb_none B0)
  have P1 : Hid (Pts (w0.alloc (.cells #[.int .i64 b.1, .int .i64 b.2, .int .i64 al.1, .int .i64 al.2, .map (some bp)] 63)) bp np Dp (fun p => p ∈ prs done nm) (fun p => (prtP done nm p).1)) := hPp.keep (bal B0 _)
  obtain ⟨t0, t1, tf0, tf1, htl⟩ := (hB.keep B0).two
  have hbk : bk < w.heap.size := hB.two.lt
  have hbk2 : bk < w.heap.size + 1 + 1 := by omega
  clear hB hat hhas hbud hPp hinv hal hsp hmu
  go_enter Tryz.func15, Tryz.ntmps15
  go_wp2_with fail
  refine (ks _ P1.out).mono ?_
  rintro e1 w1 ⟨rfl, hb1⟩
  have V3 : FivB w1 (w.heap.size + 1 + 1) (.int .i64 b.1) (.int .i64 b.2) (.int .i64 al.1) (.int .i64 al.2) (.map (some bp)) := (FivB.new w0 _ _ _ _ _ 63 _ hz0.symm).below hb1
  obtain ⟨c0, c1, f0, f1, hl0⟩ := (V0.out.below (ba _ _)).below hb1
  obtain ⟨d0, d1, g0, g1, hl1⟩ := (V1.out.below (ba _ _)).below hb1
  obtain ⟨x0, x1, x2, x3, x4, _, _, _, _, _, hx⟩ := V3
  have B1 : Below w.heap.size w w1 := bt (bal B0 _) hb1
  obtain ⟨y0, y1, _, _, _⟩ := ((((V0.out.below (ba _ _)).below hb1).put (.int .i64 sp.1) (.int .i64 sp.2)).put (.int .i64 sp.1) (.int .i64 sp.2))
  go_wp2_with fail
  go_region
  all_goals go_wp2_with fail
  all_goals exact bodyPost_ret (v := .tuple #[rvq sp, rvq b, .int .i64 0]) (by simp [results, Tryz.results15, go_sem, y0, y1, d0, d1]) rfl ⟨rfl, Below.drew (bs (bs (bs (bs (bs (bs B1 (by simp) _) (by simp) _) (by simp) _) (by simp) _) (by simp) _) (by simp) _)⟩
end Go.Proofs.YtfibbjngllelbaaGreat
