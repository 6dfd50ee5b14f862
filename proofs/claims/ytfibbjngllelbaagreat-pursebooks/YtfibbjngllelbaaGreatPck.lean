import Derived.Test.YtfibbjngllelbaaGreatPsp
namespace Go.Proofs.YtfibbjngllelbaaGreat
open Go.RowKit Go.Proofs.YtfibbjngllelbaaGreat.Ds

abbrev zp : Value := .agg #[.int .i64 0, .int .i64 0, .int .i64 0, .int .i64 0, .map none]
/-- what is answered when so much were spent -/
def chkT (bud al m : Rq) : Int := if (mulT al m).2 = 0 then (if LeR (mulT al m).1 bud then 0 else 10) else (mulT al m).2
/-- five cells in a block -/
structure FivB (w : World) (R : Nat) (a b c d e : Value) : Prop where
  c0 : w.cell? ⟨R, 0, none⟩ = some a
  c1 : w.cell? ⟨R, 1, none⟩ = some b
  c2 : w.cell? ⟨R, 2, none⟩ = some c
  c3 : w.cell? ⟨R, 3, none⟩ = some d
  c4 : w.cell? ⟨R, 4, none⟩ = some e
  f0 : w.frozen? ⟨R, 0, none⟩ = false
  f1 : w.frozen? ⟨R, 1, none⟩ = false
  f2 : w.frozen? ⟨R, 2, none⟩ = false
  f3 : w.frozen? ⟨R, 3, none⟩ = false
  f4 : w.frozen? ⟨R, 4, none⟩ = false
  lt : R < w.heap.size
theorem FivB.gb {w w' : World} {R : Nat} {a b c d e : Value} {r : Option Nat} (h : FivB w R a b c d e) (hg : w.grownBy w' r) (hne : some R ≠ r) : FivB w' R a b c d e := by
  have hk : w'.heap[R]? = w.heap[R]? := hg.block R h.lt hne
  have hc := fun o => World.cell?_of_block (w := w) (w' := w') (a := ⟨R, o, none⟩) hk
  have hf := fun o => World.frozen?_of_block (w := w) (w' := w') (a := ⟨R, o, none⟩) hk
  exact ⟨(hc 0).trans h.c0, (hc 1).trans h.c1, (hc 2).trans h.c2, (hc 3).trans h.c3, (hc 4).trans h.c4, (hf 0).trans h.f0, (hf 1).trans h.f1, (hf 2).trans h.f2, (hf 3).trans h.f3, (hf 4).trans h.f4, Nat.lt_of_lt_of_le h.lt hg.size⟩
theorem FivB.below {w w' : World} {R : Nat} {a b c d e : Value} (h : FivB w R a b c d e) (hb : Below w.heap.size w w') : FivB w' R a b c d e := h.gb (gb_none hb) (by simp)
theorem FivB.new (w : World) (a b c d e : Value) (t : TypeId) (N : Nat) (hN : N = w.heap.size) : FivB (w.alloc (.cells #[a, b, c, d, e] t)) N a b c d e :=
  ⟨nc _ _ 0 _ hN rfl, nc _ _ 1 _ hN rfl, nc _ _ 2 _ hN rfl, nc _ _ 3 _ hN rfl, nc _ _ 4 _ hN rfl, nf _ _ 0 hN, nf _ _ 1 hN, nf _ _ 2 hN, nf _ _ 3 hN, nf _ _ 4 hN, by simp; omega⟩
theorem bs5 {w w1 : World} {R : Nat} (h : Below w.heap.size w w1) (hR : w.heap.size ≤ R) (a b c d e : Value) : Below w.heap.size w (((((w1.setCell ⟨R, 0, none⟩ a).setCell ⟨R, 1, none⟩ b).setCell ⟨R, 2, none⟩ c).setCell ⟨R, 3, none⟩ d).setCell ⟨R, 4, none⟩ e) :=
  bs (bs (bs (bs (bs h hR _) hR _) hR _) hR _) hR _

set_option maxHeartbeats 1000000 in
set_option maxRecDepth 100000 in
theorem checked_any (bud al : Rq) (bm n : Nat) (D : DataW Value) (P : Int → Prop) (f : Int → Rq) (w : World) (hp : Pts w bm n D P f) (hn : n ≤ 1048576) (m : Rq) (ht : Top f P m) (ha : OkR al) (hbu : OkR bud) (er : Int) (hr : chkT bud al m = er) :
    Calls Tryz.prog 50 #[pv bud al bm] w fun x w' => x = .returned (.tuple #[if er = 0 then pv bud al bm else zp, .int .i64 er]) ∧ Below w.heap.size w w' := by
  obtain ⟨⟨r, e⟩, hm⟩ : ∃ y, mulT al m = y := ⟨_, rfl⟩
  have ks := fun W (hW : Pts W bm n D P f) => spent_any bud al bm n D P f W hW hn m ht r e hm
  have HP : Hid (Pts w bm n D P f) := hp
  have hcase : (e = 4 ∧ er = 4) ∨ (e = 0 ∧ OkR r ∧ ((LeR r bud ∧ er = 0) ∨ (¬ LeR r bud ∧ er = 10))) := by
    unfold chkT at hr
    rw [hm] at hr
    rcases mul_cases ha ht.ok with ⟨h1, h2, _⟩ | h1
    · rw [hm] at h1 h2
      simp only at h1 h2
      right
      refine ⟨h1, h2, ?_⟩
      rw [if_pos h1] at hr
      by_cases c : LeR r bud
      · left; rw [if_pos c] at hr; exact ⟨c, hr.symm⟩
      · right; rw [if_neg c] at hr; exact ⟨c, hr.symm⟩
    · rw [hm] at h1
      simp only [Prod.mk.injEq] at h1
      obtain ⟨_, rfl⟩ := h1
      left
      simpa using hr.symm
  clear hp ht hr hm
  have P0 : Hid (Pts ((w.alloc (.cells #[.int .i64 bud.1, .int .i64 bud.2, .int .i64 al.1, .int .i64 al.2, .map (some bm)] 63)).alloc (.cells #[.int .i64 0, .int .i64 0, .int .i64 0, .int .i64 0, .map none] 63)) bm n D P f) := HP.out.keep (bal (ba _ _) _)
  have V0 : Hid (FivB ((w.alloc (.cells #[.int .i64 bud.1, .int .i64 bud.2, .int .i64 al.1, .int .i64 al.2, .map (some bm)] 63)).alloc (.cells #[.int .i64 0, .int .i64 0, .int .i64 0, .int .i64 0, .map none] 63)) w.heap.size (.int .i64 bud.1) (.int .i64 bud.2) (.int .i64 al.1) (.int .i64 al.2) (.map (some bm))) := (FivB.new _ _ _ _ _ _ 63 _ rfl).below (ba _ _)
  have V1 : Hid (FivB ((w.alloc (.cells #[.int .i64 bud.1, .int .i64 bud.2, .int .i64 al.1, .int .i64 al.2, .map (some bm)] 63)).alloc (.cells #[.int .i64 0, .int .i64 0, .int .i64 0, .int .i64 0, .map none] 63)) (w.heap.size + 1) (.int .i64 0) (.int .i64 0) (.int .i64 0) (.int .i64 0) (.map none)) := FivB.new _ _ _ _ _ _ 63 _ (by simp)
  go_enter Tryz.func50, Tryz.ntmps50
  go_wp2_with fail
  refine (ks _ P0.out).mono ?_
  rintro e1 w1 ⟨rfl, hb1⟩
  have Bw := bt (bal (ba _ _) _) hb1
  obtain ⟨c0, c1, c2, c3, c4, f0, f1, f2, f3, f4, hl0⟩ := V0.out.below hb1
  obtain ⟨d0, d1, d2, d3, d4, g0, g1, g2, g3, g4, hl1⟩ := V1.out.below hb1
  rcases hcase with ⟨rfl, rfl⟩ | ⟨rfl, hok, ⟨hle, rfl⟩ | ⟨hle, rfl⟩⟩
  · go_wp2_with fail
    exact bodyPost_ret (v := .tuple #[zp, .int .i64 4]) (by simp [results, Tryz.results50, go_sem, d0, d1, d2, d3, d4, hl1]) rfl ⟨by simp, bal (bs5 Bw (by omega) _ _ _ _ _) _⟩
  · have km := more_any r bud hok hbu false (by simpa using hle)
    go_wp2_with fail
    refine (km _).mono ?_
    rintro e2 w2 ⟨rfl, hb2⟩
    obtain ⟨c0, c1, c2, c3, c4, f0, f1, f2, f3, f4, hl0⟩ := ((V0.out.below hb1).below (ba _ _)).below hb2
    obtain ⟨d0, d1, d2, d3, d4, g0, g1, g2, g3, g4, hl1⟩ := ((V1.out.below hb1).below (ba _ _)).below hb2
    go_wp2_with fail
    exact bodyPost_ret (v := .tuple #[pv bud al bm, .int .i64 0]) (by simp [results, Tryz.results50, go_sem, d0, d1, d2, d3, d4]) rfl ⟨by simp, bs5 (bt (bal Bw _) hb2) (by omega) _ _ _ _ _⟩
  · have km := more_any r bud hok hbu true (by simpa using hle)
    go_wp2_with fail
    refine (km _).mono ?_
    rintro e2 w2 ⟨rfl, hb2⟩
    obtain ⟨d0, d1, d2, d3, d4, g0, g1, g2, g3, g4, hl1⟩ := ((V1.out.below hb1).below (ba _ _)).below hb2
    go_wp2_with fail
    exact bodyPost_ret (v := .tuple #[zp, .int .i64 10]) (by simp [results, Tryz.results50, go_sem, d0, d1, d2, d3, d4]) rfl ⟨by simp, bs5 (bt (bal Bw _) hb2) (by omega) _ _ _ _ _⟩
end Go.Proofs.YtfibbjngllelbaaGreat
