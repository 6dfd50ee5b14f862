import Derived.Test.YtfibbjngllelbaaGreatPck
namespace Go.Proofs.YtfibbjngllelbaaGreat
open Go.RowKit Go.Proofs.YtfibbjngllelbaaGreat.Ds

/-- what is answered when a loss more is spent on all -/
def onaT (bud al ls m : Rq) : Int := if (mulT al ls).2 = 0 then chkT bud (mulT al ls).1 m else (mulT al ls).2

set_option maxHeartbeats 1000000 in
set_option maxRecDepth 100000 in
theorem onAll_any (bud al ls : Rq) (bm n : Nat) (D : DataW Value) (P : Int → Prop) (f : Int → Rq) (w : World) (hp : Pts w bm n D P f) (hn : n ≤ 1048576) (m : Rq) (ht : Top f P m) (ha : OkR al) (hbu : OkR bud) (hls : OkR ls) (er : Int) (hr : onaT bud al ls m = er) :
    Calls Tryz.prog 35 #[pv bud al bm, rvq ls] w fun x w' => x = .returned (.tuple #[if er = 0 then pv bud (mulT al ls).1 bm else zp, .int .i64 er]) ∧ Below w.heap.size w w' := by
  obtain ⟨⟨q, e⟩, hm⟩ : ∃ y, mulT al ls = y := ⟨_, rfl⟩
  have kt := times_any al.1 al.2 ls.1 ls.2 q.1 q.2 e (by rw [mulT_is, hm])
  have HP : Hid (Pts w bm n D P f) := hp
  have hcase : (e = 4 ∧ er = 4) ∨ (e = 0 ∧ OkR q ∧ chkT bud q m = er) := by
    unfold onaT at hr
    rw [hm] at hr
    rcases mul_cases ha hls with ⟨h1, h2, _⟩ | h1
    · rw [hm] at h1 h2
      simp only at h1 h2 hr
      rw [if_pos h1] at hr
      exact .inr ⟨h1, h2, hr⟩
    · rw [hm] at h1
      simp only [Prod.mk.injEq] at h1
      obtain ⟨_, rfl⟩ := h1
      left
      simpa using hr.symm
  rw [hm]
  clear hp hr hm
  have V2 : Hid (FivB (((w.alloc (.cells #[.int .i64 bud.1, .int .i64 bud.2, .int .i64 al.1, .int .i64 al.2, .map (some bm)] 63)).alloc (.cells #[.int .i64 ls.1, .int .i64 ls.2] 35)).alloc (.cells #[.int .i64 0, .int .i64 0, .int .i64 0, .int .i64 0, .map none] 63)) (w.heap.size + 1 + 1) (.int .i64 0) (.int .i64 0) (.int .i64 0) (.int .i64 0) (.map none)) := FivB.new _ _ _ _ _ _ 63 _ (by simp)
  have V0 : Hid (FivB (((w.alloc (.cells #[.int .i64 bud.1, .int .i64 bud.2, .int .i64 al.1, .int .i64 al.2, .map (some bm)] 63)).alloc (.cells #[.int .i64 ls.1, .int .i64 ls.2] 35)).alloc (.cells #[.int .i64 0, .int .i64 0, .int .i64 0, .int .i64 0, .map none] 63)) w.heap.size (.int .i64 bud.1) (.int .i64 bud.2) (.int .i64 al.1) (.int .i64 al.2) (.map (some bm))) := ((FivB.new _ _ _ _ _ _ 63 _ rfl).below (ba _ _)).below (ba _ _)
  go_enter Tryz.func35, Tryz.ntmps35
  go_wp2_with fail
  refine (kt _).mono ?_
  rintro e1 w1 ⟨rfl, hb1⟩
  have Bw := bt (bal (bal (ba _ _) _) _) hb1
  obtain ⟨c0, c1, c2, c3, c4, f0, f1, f2, f3, f4, hl0⟩ := V0.out.below hb1
  obtain ⟨d0, d1, d2, d3, d4, g0, g1, g2, g3, g4, hl1⟩ := V2.out.below hb1
  rcases hcase with ⟨rfl, rfl⟩ | ⟨rfl, hok, hck⟩
  · go_wp2_with fail
    exact bodyPost_ret (v := .tuple #[zp, .int .i64 4]) (by simp [results, Tryz.results35, go_sem, d0, d1, d2, d3, d4, hl1]) rfl ⟨by simp, bal (bs5 Bw (by omega) _ _ _ _ _) _⟩
  · have kc := fun W (hW : Pts W bm n D P f) => checked_any bud q bm n D P f W hW hn m ht hok hbu er hck
    clear hck
    have hbm := HP.out.own.lt
    have P1 : Hid (Pts w1 bm n D P f) := HP.out.keep Bw
    have hg : w1.grownBy (((w1.setCell ⟨w.heap.size, 2, none⟩ (.int .i64 q.1)).setCell ⟨w.heap.size, 3, none⟩ (.int .i64 q.2)).alloc (.cells #[.int .i64 q.1, .int .i64 q.2] 35)) (some w.heap.size) := gb_alloc (gb_set (gb_set (gb_refl _ _) _ _) _ _) _
    have HX : Hid (FivB (((w1.setCell ⟨w.heap.size, 2, none⟩ (.int .i64 q.1)).setCell ⟨w.heap.size, 3, none⟩ (.int .i64 q.2)).alloc (.cells #[.int .i64 q.1, .int .i64 q.2] 35)) (w.heap.size + 1 + 1) (.int .i64 0) (.int .i64 0) (.int .i64 0) (.int .i64 0) (.map none)) := (V2.out.below hb1).gb hg (by simp; omega)
    have P2 : Hid (Pts (((w1.setCell ⟨w.heap.size, 2, none⟩ (.int .i64 q.1)).setCell ⟨w.heap.size, 3, none⟩ (.int .i64 q.2)).alloc (.cells #[.int .i64 q.1, .int .i64 q.2] 35)) bm n D P f) := P1.out.gb hg (by simp; omega)
    have BX : Below w.heap.size w (((w1.setCell ⟨w.heap.size, 2, none⟩ (.int .i64 q.1)).setCell ⟨w.heap.size, 3, none⟩ (.int .i64 q.2)).alloc (.cells #[.int .i64 q.1, .int .i64 q.2] 35)) := bal (bs (bs Bw (Nat.le_refl _) _) (Nat.le_refl _) _) _
    clear hg
    by_cases her : er = 0
    · subst her
      simp only [↓reduceIte] at kc
      go_wp2_with fail
      refine (kc _ P2.out).mono ?_
      rintro e2 w2 ⟨rfl, hb2⟩
      obtain ⟨x0, x1, x2, x3, x4, y0, y1, y2, y3, y4, hx⟩ := HX.out.below hb2
      go_wp2_with fail
      exact bodyPost_ret (v := .tuple #[pv bud q bm, .int .i64 0]) (by simp [results, Tryz.results35, go_sem, x0, x1, x2, x3, x4]) rfl ⟨by simp, bs5 (bt BX hb2) (by omega) _ _ _ _ _⟩
    · simp only [her, ↓reduceIte] at kc
      go_wp2_with fail
      refine (kc _ P2.out).mono ?_
      rintro e2 w2 ⟨rfl, hb2⟩
      obtain ⟨x0, x1, x2, x3, x4, y0, y1, y2, y3, y4, hx⟩ := HX.out.below hb2
      go_wp2_with fail
      exact bodyPost_ret (v := .tuple #[zp, .int .i64 er]) (by simp [results, Tryz.results35, go_sem, x0, x1, x2, x3, x4]) rfl ⟨by simp, bs5 (bt BX hb2) (by omega) _ _ _ _ _⟩

/-- a store into the map of parts -/
theorem Pts.put {w : World} {b n : Nat} {D : DataW Value} {P : Int → Prop} {f : Int → Rq} (h : Pts w b n D P f) (hn : n ≤ 1048576) {z : Int} (hz : 0 ≤ z ∧ z ≤ 1073741824) (q : Rq) :
    ∃ w', (Instr.mapUpdate 61 (.map (some b)) (.int .i64 z) (rvq q)).run Tryz.prog w = .ok () w' ∧ Pts w' b (n + 1) (D.put (.int .i64 z) (.held (rvq q))) (fun y => P y ∨ y = z) (fun y => if y = z then q else f y) ∧ w.grownBy w' (some b) := by
  have hwf : (Lit.int .i64 z).wf = true := WalkArith.wf_i64 (by omega)
  obtain ⟨w', hrun, hown, hg⟩ := h.own.update law3 Tryz.underlying61 (by unfold maxLen; omega) (val := rvq q) (d := .held (rvq q)) (ps := []) (Go.Maps.keyOf_int_mk Tryz.underlying3 hwf) rfl
  refine ⟨w', hrun, ⟨hown, fun y => ?_, fun y hy => ?_, fun y hy => ?_⟩, hg⟩
  · by_cases hy : y = z
    · subst hy; simp [Maps.has_put_same h.own.isMap (k := .int .i64 y) True.intro]
    · rw [Maps.has_put_other (by simpa using hy), h.is y]; simp [hy]
  · by_cases hyz : y = z
    · subst hyz; simp [Maps.atKey_put_same (k := .int .i64 y) h.own.isMap True.intro]
    · rw [Maps.atKey_put_other (by simpa using hyz), h.el y (by rcases hy with hy | hy; exact hy; exact absurd hy hyz)]; simp [hyz]
  · rcases hy with hy | rfl
    · exact h.rng y hy
    · exact hz
theorem Pts.lookOk {w : World} {b n : Nat} {D : DataW Value} {P : Int → Prop} {f : Int → Rq} (h : Pts w b n D P f) {z : Int} (hr : 0 ≤ z ∧ z ≤ 1073741824) :
    (P z ∧ (Instr.lookup 61 (.map (some b)) (.int .i64 z) true).run Tryz.prog w = .ok (.tuple #[rvq (f z), .bool true]) w) ∨ (¬ P z ∧ (Instr.lookup 61 (.map (some b)) (.int .i64 z) true).run Tryz.prog w = .ok (.tuple #[rv 0 0, .bool false]) w) := by
  have hwf : (Lit.int .i64 z).wf = true := WalkArith.wf_i64 (by omega)
  obtain ⟨v', ps, hrun, hat⟩ := h.own.look_ok law3 Tryz.underlying61 (zero31 w) (zd := .held (rv 0 0)) (zp := []) rfl (Go.Maps.keyOf_int_mk Tryz.underlying3 hwf)
  cases hh : Maps.has D (.int .i64 z) with
  | true =>
    left
    have hz := (h.is z).1 hh
    rw [h.el z hz] at hat
    simp [hR] at hat
    exact ⟨hz, by rw [hrun, hat.1, hh]⟩
  | false =>
    right
    have hz : ¬ P z := fun c => by rw [(h.is z).2 c] at hh; cases hh
    have h2 : D.atKey (.int .i64 z) (.held (rv 0 0)) = .held (rv 0 0) := Maps.atKey_of_not_has hh _
    rw [h2] at hat
    simp [hR] at hat
    exact ⟨hz, by rw [hrun, hat.1, hh]⟩
end Go.Proofs.YtfibbjngllelbaaGreat
