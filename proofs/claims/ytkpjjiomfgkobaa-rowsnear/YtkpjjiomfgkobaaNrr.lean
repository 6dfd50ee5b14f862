import Derived.Test.YtkpjjiomfgkobaaTbs
namespace Go.Proofs.Ytkpjjiomfgkobaa
open Go.RowKit Go.Shelf Go.Proofs.Ytkpjjiomfgkobaa.Ds

theorem boxed_below {w w' : World} {B : Nat} {t : TypeId} {v : Value} (h : Boxed w B t v) (hb : Below w.heap.size w w') : Boxed w' B t v := h.kept (grown_of_below hb) (by simp)
theorem boxed_drew {w : World} {B : Nat} {t : TypeId} {v : Value} (h : Boxed w B t v) : Boxed w.drew B t v := h

theorem ca_old {w : World} {o : Obj} {b k : Nat} (h : b < w.heap.size) : (w.alloc o).cell? ⟨b, k, none⟩ = w.cell? ⟨b, k, none⟩ := (ba w o).cell (p := ⟨b, k, none⟩) h
theorem boxed_new1 (w : World) (o : Obj) (t : TypeId) (v : Value) : Boxed ((w.alloc o).alloc (.cells #[v] t)) (w.heap.size + 1) t v := by
  have h := Boxed.new (w.alloc o) t v
  rwa [World.size_alloc] at h
theorem boxed_gb {w w' : World} {B : Nat} {t : TypeId} {v : Value} {row : Option Nat} (h : Boxed w B t v) (hg : w.grownBy w' row) (hne : row ≠ some B) : Boxed w' B t v := h.kept hg (fun e => hne e.symm)
/-- two boxes are filled -/
theorem two_put {u W1 : World} {B1 B2 : Nat} {t1 t2 : TypeId} {x1 x2 y1 y2 cv : Value} {l : List Col} (h1 : Boxed u B1 t1 x1) (h2 : Boxed u B2 t2 x2) (hne : B1 ≠ B2) (hc : Cols u u.heap.size cv l) (ha : Adr (fun b => W1.heap.size ≤ b ∧ b ≠ B1 ∧ b ≠ B2) cv) (hb : Below W1.heap.size W1 u) (l1 : W1.heap.size ≤ B1) (l2 : W1.heap.size ≤ B2) :
    Boxed ((u.setCell ⟨B1, 0, none⟩ y1).setCell ⟨B2, 0, none⟩ y2) B1 t1 y1 ∧ Boxed ((u.setCell ⟨B1, 0, none⟩ y1).setCell ⟨B2, 0, none⟩ y2) B2 t2 y2 ∧ Cols ((u.setCell ⟨B1, 0, none⟩ y1).setCell ⟨B2, 0, none⟩ y2) ((u.setCell ⟨B1, 0, none⟩ y1).setCell ⟨B2, 0, none⟩ y2).heap.size cv l ∧ Adr (fun b => W1.heap.size ≤ b) cv ∧ Below W1.heap.size W1 ((u.setCell ⟨B1, 0, none⟩ y1).setCell ⟨B2, 0, none⟩ y2) := by
  have g1 : u.grownBy (u.setCell ⟨B1, 0, none⟩ y1) (some B1) := gb_set (gb_refl _ _) 0 _
  have g2 : (u.setCell ⟨B1, 0, none⟩ y1).grownBy ((u.setCell ⟨B1, 0, none⟩ y1).setCell ⟨B2, 0, none⟩ y2) (some B2) := gb_set (gb_refl _ _) 0 _
  refine ⟨boxed_gb (Boxed.set _ h1) g2 (by simpa using fun e => hne e.symm), Boxed.set _ (boxed_gb h2 g1 (by simpa using hne)), ?_, ha.imp fun b h => h.1, (hb.setCell (p := ⟨B1, 0, none⟩) l1 _).setCell (p := ⟨B2, 0, none⟩) l2 _⟩
  exact ((hc.gb g1 (ha.imp fun b h => by simp; exact fun e => h.2.1 e.symm)).gb g2 (ha.imp fun b h => by simp; exact fun e => h.2.2 e.symm)).mono (by simp)
/-- one box is filled, one is made -/
theorem one_put {u W1 : World} {B1 : Nat} {t1 t2 : TypeId} {x1 y1 y2 cv : Value} {l : List Col} (h1 : Boxed u B1 t1 x1) (hc : Cols u u.heap.size cv l) (ha : Adr (fun b => W1.heap.size ≤ b ∧ b ≠ B1) cv) (hb : Below W1.heap.size W1 u) (l1 : W1.heap.size ≤ B1) :
    Boxed ((u.setCell ⟨B1, 0, none⟩ y1).alloc (.cells #[y2] t2)) B1 t1 y1 ∧ Boxed ((u.setCell ⟨B1, 0, none⟩ y1).alloc (.cells #[y2] t2)) u.heap.size t2 y2 ∧ Cols ((u.setCell ⟨B1, 0, none⟩ y1).alloc (.cells #[y2] t2)) ((u.setCell ⟨B1, 0, none⟩ y1).alloc (.cells #[y2] t2)).heap.size cv l ∧ Adr (fun b => W1.heap.size ≤ b) cv ∧ Below W1.heap.size W1 ((u.setCell ⟨B1, 0, none⟩ y1).alloc (.cells #[y2] t2)) := by
  have g1 : u.grownBy (u.setCell ⟨B1, 0, none⟩ y1) (some B1) := gb_set (gb_refl _ _) 0 _
  have hz : (u.setCell ⟨B1, 0, none⟩ y1).heap.size = u.heap.size := by simp
  have hn := Boxed.new (u.setCell ⟨B1, 0, none⟩ y1) t2 y2
  rw [hz] at hn
  refine ⟨(Boxed.set _ h1).alloc _, hn, ?_, ha.imp fun b h => h.1, bal (hb.setCell (p := ⟨B1, 0, none⟩) l1 _) _⟩
  exact (((hc.gb g1 (ha.imp fun b h => by simp; exact fun e => h.2 e.symm)).mono g1.size).at (Nat.le_refl _) (ba _ _)).mono (by simp)
/-- what rows.Near answers where nothing is wrong: a closure over counts, room, columns; all new -/
def NearQ (l : List Col) (cs : List Int) (room : Bool) (w : World) (e : Ending) (w' : World) : Prop :=
  ∃ Bc Br Bk b o c kb ko kc, e = .returned (.func (.func 43) #[] #[.pointer (some ⟨Bc, 0, none⟩), .pointer (some ⟨Br, 0, none⟩), .pointer (some ⟨Bk, 0, none⟩)]) ∧ NeaF Bc Br Bk b o c kb ko kc cs room l w' ∧ cs.length ≤ c ∧ l.length ≤ kc ∧ NmS l ∧
    (∀ x, x = Bc ∨ x = Br ∨ x = b ∨ x = Bk ∨ x = kb → w.heap.size ≤ x ∧ x < w'.heap.size) ∧ Below w.heap.size w w'

set_option maxRecDepth 100000 in
set_option maxHeartbeats 4000000 in
theorem rnear_any (B : Nat) (cu ru : Value) (l : List Col) (ts : List Rw) (w : World) (hB : B ≤ w.heap.size) (hp : Cols w B cu l) (hq : Rws w B ru ts) (er : Int) (hr : wroE l (rr ts) = er) :
    Calls Try.prog 37 #[.agg #[cu, ru]] w fun e w' => (er ≠ 0 ∧ e = .returned (.func (.func 42) #[] #[]) ∧ Below w.heap.size w w') ∨ (er = 0 ∧ NearQ l (celT l (rr ts)) (decide (ts.length < 4096)) w e w') := by
  have HP : Hid (Cols w B cu l) := hp
  have HQ : Hid (Rws w B ru ts) := hq
  have HE : Hid (wroE l (rr ts) = er) := hr
  obtain ⟨a, c, rfl, hc, hl⟩ := hp.slice
  obtain ⟨a2, c2, rfl, hc2, hl2⟩ := hq.slice
  obtain ⟨⟨ys, ey⟩, hys⟩ : ∃ q, Hid (cellsR l (rr ts) = q) := ⟨_, rfl⟩
  have hey : ey = er := by
    have := hys.out
    unfold cellsR at this
    split at this
    · rename_i h; rw [hr] at h; simp only [Prod.mk.injEq] at this; omega
    · simp only [Prod.mk.injEq] at this; rw [← this.2, hr]
  subst hey
  obtain ⟨W, hW⟩ : ∃ W, w.alloc (.cells #[.slice a l.length c, .slice a2 ts.length c2] 25) = W := ⟨_, rfl⟩
  have hbW : Below w.heap.size w W := by rw [← hW]; exact ba _ _
  have hsW : W.heap.size = w.heap.size + 1 := by rw [← hW]; simp
  have HX : Hid (TwoB W w.heap.size (.slice a l.length c) (.slice a2 ts.length c2)) := by rw [← hW]; exact TwoB.new _ _ _ _ _ rfl
  have p0 := HX.out.c0
  have p1 := HX.out.c1
  have kc := cells_any B _ _ l ts W (by omega) (HP.out.at hB hbW) (HQ.out.at hB hbW) ys ey hys.out
  clear hr
  go_enter Try.func37, Try.ntmps37
  go_wp2_with fail
  clear hW
  refine kc.mono ?_
  rintro e w1 ⟨v1, rfl, hI1, hb1⟩
  have hs1 := hb1.size
  have HI1 : Hid (NewI W.heap.size w1 v1 ys) := hI1
  obtain ⟨b1, d1, rfl, hd1, _⟩ := (hI1 w.heap.size (by omega)).slice
  obtain ⟨W1, hW1⟩ : ∃ W1, w1.alloc (.cells #[.slice b1 ys.length d1] 26) = W1 := ⟨_, rfl⟩
  have hbW1 : Below w1.heap.size w1 W1 := by rw [← hW1]; exact ba _ _
  have hsW1 : W1.heap.size = w1.heap.size + 1 := by rw [← hW1]; simp
  have HBc : Hid (Boxed W1 w1.heap.size 26 (.slice b1 ys.length d1)) := by rw [← hW1]; exact Boxed.new _ _ _
  have hbw1 : Below w.heap.size w W1 := bt hbW (bt hb1 hbW1)
  have HX1 : Hid (TwoB W1 w.heap.size (.slice a l.length c) (.slice a2 ts.length c2)) := HX.out.below (bt hb1 hbW1)
  have q0 := HX1.out.c0
  have q1 := HX1.out.c1
  clear kc p0 p1 hI1 HX
  by_cases h0 : ey = 0
  · subst h0
    have hxs : celT l (rr ts) = ys := by
      have := hys.out
      rw [cellsR, if_pos HE.out, Prod.mk.injEq] at this
      exact this.1
    have HC := colE_ok (wroE_ok HE.out).1
    have HO : Hid (l.length ≤ 6 ∧ 1 ≤ l.length) := ⟨HC.2.1, HC.1⟩
    have HYS : Hid (celT l (rr ts) = ys) := hxs
    clear hxs HC
    have l0 : w.heap.size < W1.heap.size := by omega
    have HS1 : Hid (W1.heap.size = w1.heap.size + 1) := hsW1
    clear hsW1
    have a0 : ∀ O, (W1.alloc O).cell? ⟨w.heap.size, 0, none⟩ = some (.slice a l.length c) := fun O => ((ba W1 O).cell (p := ⟨w.heap.size, 0, none⟩) l0).trans q0
    have a1 : ∀ O, (W1.alloc O).cell? ⟨w.heap.size, 1, none⟩ = some (.slice a2 ts.length c2) := fun O => ((ba W1 O).cell (p := ⟨w.heap.size, 1, none⟩) l0).trans q1
    have aa0 : ∀ O O', ((W1.alloc O).alloc O').cell? ⟨w.heap.size, 0, none⟩ = some (.slice a l.length c) := fun O O' => ((bal (ba W1 O) O').cell (p := ⟨w.heap.size, 0, none⟩) l0).trans q0
    have aa1 : ∀ O O', ((W1.alloc O).alloc O').cell? ⟨w.heap.size, 1, none⟩ = some (.slice a2 ts.length c2) := fun O O' => ((bal (ba W1 O) O').cell (p := ⟨w.heap.size, 1, none⟩) l0).trans q1
    go_wp2_with fail
    clear hW1
    go_cut [5, 6] (fun p5 p6 wx => ∃ Bk Br ca cc, p5 = .pointer (some ⟨Bk, 0, none⟩) ∧ p6 = .pointer (some ⟨Br, 0, none⟩) ∧ Boxed wx Bk 22 (.slice ca l.length cc) ∧ Boxed wx Br 4 (.bool (decide ((ts.length : Int) < 4096))) ∧ Cols wx wx.heap.size (.slice ca l.length cc) l ∧ Adr (fun b => W1.heap.size ≤ b) (.slice ca l.length cc) ∧ W1.heap.size ≤ Bk ∧ W1.heap.size ≤ Br ∧ Below W1.heap.size W1 wx)
    case first =>
      go_region_held3 (fun w' => w'.cell? ⟨w.heap.size, 0, none⟩ = some (.slice a l.length c) ∧ w'.cell? ⟨w.heap.size, 1, none⟩ = some (.slice a2 ts.length c2))
        ((refine ⟨?_, ?_⟩ <;> (first | with_reducible assumption | with_reducible exact a0 _ | with_reducible exact a1 _ | with_reducible exact aa0 _ _ | with_reducible exact aa1 _ _ | with_reducible exact b0 _ | with_reducible exact b1 _ | with_reducible exact bb0 _ _ | with_reducible exact bb1 _ _ | ((with_reducible refine (cell_drew_own _ _).trans ?_); (first | with_reducible assumption | with_reducible exact a0 _ | with_reducible exact a1 _ | with_reducible exact aa0 _ _ | with_reducible exact aa1 _ _ | with_reducible exact b0 _ | with_reducible exact b1 _ | with_reducible exact bb0 _ _ | with_reducible exact bb1 _ _ | ((with_reducible refine (cell_drew_own _ _).trans ?_); (first | with_reducible assumption | with_reducible exact a0 _ | with_reducible exact a1 _ | with_reducible exact aa0 _ _ | with_reducible exact aa1 _ _ | with_reducible exact b0 _ | with_reducible exact b1 _ | with_reducible exact bb0 _ _ | with_reducible exact bb1 _ _ | ((with_reducible refine (cell_drew_own _ _).trans ?_); (first | with_reducible assumption | with_reducible exact a0 _ | with_reducible exact a1 _ | with_reducible exact aa0 _ _ | with_reducible exact aa1 _ _ | with_reducible exact b0 _ | with_reducible exact b1 _ | with_reducible exact bb0 _ _ | with_reducible exact bb1 _ _)) | ((with_reducible refine (sc_other ?_).trans ?_); (intro e; have e2 := congrArg Addr.block e; dsimp only at e2; omega); (first | with_reducible assumption | with_reducible exact a0 _ | with_reducible exact a1 _ | with_reducible exact aa0 _ _ | with_reducible exact aa1 _ _ | with_reducible exact b0 _ | with_reducible exact b1 _ | with_reducible exact bb0 _ _ | with_reducible exact bb1 _ _)) | ((with_reducible refine (ca_old ?_).trans ?_); (first | omega | (simp; omega)); (first | with_reducible assumption | with_reducible exact a0 _ | with_reducible exact a1 _ | with_reducible exact aa0 _ _ | with_reducible exact aa1 _ _ | with_reducible exact b0 _ | with_reducible exact b1 _ | with_reducible exact bb0 _ _ | with_reducible exact bb1 _ _)))) | ((with_reducible refine (sc_other ?_).trans ?_); (intro e; have e2 := congrArg Addr.block e; dsimp only at e2; omega); (first | with_reducible assumption | with_reducible exact a0 _ | with_reducible exact a1 _ | with_reducible exact aa0 _ _ | with_reducible exact aa1 _ _ | with_reducible exact b0 _ | with_reducible exact b1 _ | with_reducible exact bb0 _ _ | with_reducible exact bb1 _ _ | ((with_reducible refine (cell_drew_own _ _).trans ?_); (first | with_reducible assumption | with_reducible exact a0 _ | with_reducible exact a1 _ | with_reducible exact aa0 _ _ | with_reducible exact aa1 _ _ | with_reducible exact b0 _ | with_reducible exact b1 _ | with_reducible exact bb0 _ _ | with_reducible exact bb1 _ _)) | ((with_reducible refine (sc_other ?_).trans ?_); (intro e; have e2 := congrArg Addr.block e; dsimp only at e2; omega); (first | with_reducible assumption | with_reducible exact a0 _ | with_reducible exact a1 _ | with_reducible exact aa0 _ _ | with_reducible exact aa1 _ _ | with_reducible exact b0 _ | with_reducible exact b1 _ | with_reducible exact bb0 _ _ | with_reducible exact bb1 _ _)) | ((with_reducible refine (ca_old ?_).trans ?_); (first | omega | (simp; omega)); (first | with_reducible assumption | with_reducible exact a0 _ | with_reducible exact a1 _ | with_reducible exact aa0 _ _ | with_reducible exact aa1 _ _ | with_reducible exact b0 _ | with_reducible exact b1 _ | with_reducible exact bb0 _ _ | with_reducible exact bb1 _ _)))) | ((with_reducible refine (ca_old ?_).trans ?_); (first | omega | (simp; omega)); (first | with_reducible assumption | with_reducible exact a0 _ | with_reducible exact a1 _ | with_reducible exact aa0 _ _ | with_reducible exact aa1 _ _ | with_reducible exact b0 _ | with_reducible exact b1 _ | with_reducible exact bb0 _ _ | with_reducible exact bb1 _ _ | ((with_reducible refine (cell_drew_own _ _).trans ?_); (first | with_reducible assumption | with_reducible exact a0 _ | with_reducible exact a1 _ | with_reducible exact aa0 _ _ | with_reducible exact aa1 _ _ | with_reducible exact b0 _ | with_reducible exact b1 _ | with_reducible exact bb0 _ _ | with_reducible exact bb1 _ _)) | ((with_reducible refine (sc_other ?_).trans ?_); (intro e; have e2 := congrArg Addr.block e; dsimp only at e2; omega); (first | with_reducible assumption | with_reducible exact a0 _ | with_reducible exact a1 _ | with_reducible exact aa0 _ _ | with_reducible exact aa1 _ _ | with_reducible exact b0 _ | with_reducible exact b1 _ | with_reducible exact bb0 _ _ | with_reducible exact bb1 _ _)) | ((with_reducible refine (ca_old ?_).trans ?_); (first | omega | (simp; omega)); (first | with_reducible assumption | with_reducible exact a0 _ | with_reducible exact a1 _ | with_reducible exact aa0 _ _ | with_reducible exact aa1 _ _ | with_reducible exact b0 _ | with_reducible exact b1 _ | with_reducible exact bb0 _ _ | with_reducible exact bb1 _ _)))))) | ((with_reducible refine (sc_other ?_).trans ?_); (intro e; have e2 := congrArg Addr.block e; dsimp only at e2; omega); (first | with_reducible assumption | with_reducible exact a0 _ | with_reducible exact a1 _ | with_reducible exact aa0 _ _ | with_reducible exact aa1 _ _ | with_reducible exact b0 _ | with_reducible exact b1 _ | with_reducible exact bb0 _ _ | with_reducible exact bb1 _ _ | ((with_reducible refine (cell_drew_own _ _).trans ?_); (first | with_reducible assumption | with_reducible exact a0 _ | with_reducible exact a1 _ | with_reducible exact aa0 _ _ | with_reducible exact aa1 _ _ | with_reducible exact b0 _ | with_reducible exact b1 _ | with_reducible exact bb0 _ _ | with_reducible exact bb1 _ _ | ((with_reducible refine (cell_drew_own _ _).trans ?_); (first | with_reducible assumption | with_reducible exact a0 _ | with_reducible exact a1 _ | with_reducible exact aa0 _ _ | with_reducible exact aa1 _ _ | with_reducible exact b0 _ | with_reducible exact b1 _ | with_reducible exact bb0 _ _ | with_reducible exact bb1 _ _)) | ((with_reducible refine (sc_other ?_).trans ?_); (intro e; have e2 := congrArg Addr.block e; dsimp only at e2; omega); (first | with_reducible assumption | with_reducible exact a0 _ | with_reducible exact a1 _ | with_reducible exact aa0 _ _ | with_reducible exact aa1 _ _ | with_reducible exact b0 _ | with_reducible exact b1 _ | with_reducible exact bb0 _ _ | with_reducible exact bb1 _ _)) | ((with_reducible refine (ca_old ?_).trans ?_); (first | omega | (simp; omega)); (first | with_reducible assumption | with_reducible exact a0 _ | with_reducible exact a1 _ | with_reducible exact aa0 _ _ | with_reducible exact aa1 _ _ | with_reducible exact b0 _ | with_reducible exact b1 _ | with_reducible exact bb0 _ _ | with_reducible exact bb1 _ _)))) | ((with_reducible refine (sc_other ?_).trans ?_); (intro e; have e2 := congrArg Addr.block e; dsimp only at e2; omega); (first | with_reducible assumption | with_reducible exact a0 _ | with_reducible exact a1 _ | with_reducible exact aa0 _ _ | with_reducible exact aa1 _ _ | with_reducible exact b0 _ | with_reducible exact b1 _ | with_reducible exact bb0 _ _ | with_reducible exact bb1 _ _ | ((with_reducible refine (cell_drew_own _ _).trans ?_); (first | with_reducible assumption | with_reducible exact a0 _ | with_reducible exact a1 _ | with_reducible exact aa0 _ _ | with_reducible exact aa1 _ _ | with_reducible exact b0 _ | with_reducible exact b1 _ | with_reducible exact bb0 _ _ | with_reducible exact bb1 _ _)) | ((with_reducible refine (sc_other ?_).trans ?_); (intro e; have e2 := congrArg Addr.block e; dsimp only at e2; omega); (first | with_reducible assumption | with_reducible exact a0 _ | with_reducible exact a1 _ | with_reducible exact aa0 _ _ | with_reducible exact aa1 _ _ | with_reducible exact b0 _ | with_reducible exact b1 _ | with_reducible exact bb0 _ _ | with_reducible exact bb1 _ _)) | ((with_reducible refine (ca_old ?_).trans ?_); (first | omega | (simp; omega)); (first | with_reducible assumption | with_reducible exact a0 _ | with_reducible exact a1 _ | with_reducible exact aa0 _ _ | with_reducible exact aa1 _ _ | with_reducible exact b0 _ | with_reducible exact b1 _ | with_reducible exact bb0 _ _ | with_reducible exact bb1 _ _)))) | ((with_reducible refine (ca_old ?_).trans ?_); (first | omega | (simp; omega)); (first | with_reducible assumption | with_reducible exact a0 _ | with_reducible exact a1 _ | with_reducible exact aa0 _ _ | with_reducible exact aa1 _ _ | with_reducible exact b0 _ | with_reducible exact b1 _ | with_reducible exact bb0 _ _ | with_reducible exact bb1 _ _ | ((with_reducible refine (cell_drew_own _ _).trans ?_); (first | with_reducible assumption | with_reducible exact a0 _ | with_reducible exact a1 _ | with_reducible exact aa0 _ _ | with_reducible exact aa1 _ _ | with_reducible exact b0 _ | with_reducible exact b1 _ | with_reducible exact bb0 _ _ | with_reducible exact bb1 _ _)) | ((with_reducible refine (sc_other ?_).trans ?_); (intro e; have e2 := congrArg Addr.block e; dsimp only at e2; omega); (first | with_reducible assumption | with_reducible exact a0 _ | with_reducible exact a1 _ | with_reducible exact aa0 _ _ | with_reducible exact aa1 _ _ | with_reducible exact b0 _ | with_reducible exact b1 _ | with_reducible exact bb0 _ _ | with_reducible exact bb1 _ _)) | ((with_reducible refine (ca_old ?_).trans ?_); (first | omega | (simp; omega)); (first | with_reducible assumption | with_reducible exact a0 _ | with_reducible exact a1 _ | with_reducible exact aa0 _ _ | with_reducible exact aa1 _ _ | with_reducible exact b0 _ | with_reducible exact b1 _ | with_reducible exact bb0 _ _ | with_reducible exact bb1 _ _)))))) | ((with_reducible refine (ca_old ?_).trans ?_); (first | omega | (simp; omega)); (first | with_reducible assumption | with_reducible exact a0 _ | with_reducible exact a1 _ | with_reducible exact aa0 _ _ | with_reducible exact aa1 _ _ | with_reducible exact b0 _ | with_reducible exact b1 _ | with_reducible exact bb0 _ _ | with_reducible exact bb1 _ _ | ((with_reducible refine (cell_drew_own _ _).trans ?_); (first | with_reducible assumption | with_reducible exact a0 _ | with_reducible exact a1 _ | with_reducible exact aa0 _ _ | with_reducible exact aa1 _ _ | with_reducible exact b0 _ | with_reducible exact b1 _ | with_reducible exact bb0 _ _ | with_reducible exact bb1 _ _ | ((with_reducible refine (cell_drew_own _ _).trans ?_); (first | with_reducible assumption | with_reducible exact a0 _ | with_reducible exact a1 _ | with_reducible exact aa0 _ _ | with_reducible exact aa1 _ _ | with_reducible exact b0 _ | with_reducible exact b1 _ | with_reducible exact bb0 _ _ | with_reducible exact bb1 _ _)) | ((with_reducible refine (sc_other ?_).trans ?_); (intro e; have e2 := congrArg Addr.block e; dsimp only at e2; omega); (first | with_reducible assumption | with_reducible exact a0 _ | with_reducible exact a1 _ | with_reducible exact aa0 _ _ | with_reducible exact aa1 _ _ | with_reducible exact b0 _ | with_reducible exact b1 _ | with_reducible exact bb0 _ _ | with_reducible exact bb1 _ _)) | ((with_reducible refine (ca_old ?_).trans ?_); (first | omega | (simp; omega)); (first | with_reducible assumption | with_reducible exact a0 _ | with_reducible exact a1 _ | with_reducible exact aa0 _ _ | with_reducible exact aa1 _ _ | with_reducible exact b0 _ | with_reducible exact b1 _ | with_reducible exact bb0 _ _ | with_reducible exact bb1 _ _)))) | ((with_reducible refine (sc_other ?_).trans ?_); (intro e; have e2 := congrArg Addr.block e; dsimp only at e2; omega); (first | with_reducible assumption | with_reducible exact a0 _ | with_reducible exact a1 _ | with_reducible exact aa0 _ _ | with_reducible exact aa1 _ _ | with_reducible exact b0 _ | with_reducible exact b1 _ | with_reducible exact bb0 _ _ | with_reducible exact bb1 _ _ | ((with_reducible refine (cell_drew_own _ _).trans ?_); (first | with_reducible assumption | with_reducible exact a0 _ | with_reducible exact a1 _ | with_reducible exact aa0 _ _ | with_reducible exact aa1 _ _ | with_reducible exact b0 _ | with_reducible exact b1 _ | with_reducible exact bb0 _ _ | with_reducible exact bb1 _ _)) | ((with_reducible refine (sc_other ?_).trans ?_); (intro e; have e2 := congrArg Addr.block e; dsimp only at e2; omega); (first | with_reducible assumption | with_reducible exact a0 _ | with_reducible exact a1 _ | with_reducible exact aa0 _ _ | with_reducible exact aa1 _ _ | with_reducible exact b0 _ | with_reducible exact b1 _ | with_reducible exact bb0 _ _ | with_reducible exact bb1 _ _)) | ((with_reducible refine (ca_old ?_).trans ?_); (first | omega | (simp; omega)); (first | with_reducible assumption | with_reducible exact a0 _ | with_reducible exact a1 _ | with_reducible exact aa0 _ _ | with_reducible exact aa1 _ _ | with_reducible exact b0 _ | with_reducible exact b1 _ | with_reducible exact bb0 _ _ | with_reducible exact bb1 _ _)))) | ((with_reducible refine (ca_old ?_).trans ?_); (first | omega | (simp; omega)); (first | with_reducible assumption | with_reducible exact a0 _ | with_reducible exact a1 _ | with_reducible exact aa0 _ _ | with_reducible exact aa1 _ _ | with_reducible exact b0 _ | with_reducible exact b1 _ | with_reducible exact bb0 _ _ | with_reducible exact bb1 _ _ | ((with_reducible refine (cell_drew_own _ _).trans ?_); (first | with_reducible assumption | with_reducible exact a0 _ | with_reducible exact a1 _ | with_reducible exact aa0 _ _ | with_reducible exact aa1 _ _ | with_reducible exact b0 _ | with_reducible exact b1 _ | with_reducible exact bb0 _ _ | with_reducible exact bb1 _ _)) | ((with_reducible refine (sc_other ?_).trans ?_); (intro e; have e2 := congrArg Addr.block e; dsimp only at e2; omega); (first | with_reducible assumption | with_reducible exact a0 _ | with_reducible exact a1 _ | with_reducible exact aa0 _ _ | with_reducible exact aa1 _ _ | with_reducible exact b0 _ | with_reducible exact b1 _ | with_reducible exact bb0 _ _ | with_reducible exact bb1 _ _)) | ((with_reducible refine (ca_old ?_).trans ?_); (first | omega | (simp; omega)); (first | with_reducible assumption | with_reducible exact a0 _ | with_reducible exact a1 _ | with_reducible exact aa0 _ _ | with_reducible exact aa1 _ _ | with_reducible exact b0 _ | with_reducible exact b1 _ | with_reducible exact bb0 _ _ | with_reducible exact bb1 _ _)))))))))
        ((go_at_call 32; refine (cloneC_new B _ l _ ?_ ?_ (by have := HO.out.1; omega)).mono ?_; (exact Nat.le_trans (Nat.le_trans hB hbw1.size) (by first | with_reducible exact (Below.refl W1.heap.size W1).drew | with_reducible exact (ba W1 _).drew | with_reducible exact (bal (ba W1 _) _).drew : Below W1.heap.size W1 _).size); (exact HP.out.at hB (bt hbw1 (by first | with_reducible exact (Below.refl W1.heap.size W1).drew | with_reducible exact (ba W1 _).drew | with_reducible exact (bal (ba W1 _) _).drew))); rintro x4 w4 ⟨cv, rfl, hC4, hA4, hb4⟩; have hb14 : Below W1.heap.size W1 w4 := (bt (by first | with_reducible exact (Below.refl W1.heap.size W1).drew | with_reducible exact (ba W1 _).drew | with_reducible exact (bal (ba W1 _) _).drew) hb4); have s14 := hb14.size; obtain ⟨ca, cc, hcv, _, _⟩ := hC4.slice; subst hcv; (first | (have kT : Boxed w4 W1.heap.size 22 (.slice none 0 0) := boxed_below (boxed_drew (Boxed.new W1 22 (.slice none 0 0))) hb4; have t1 := kT.cell; have t2 := kT.frozen; have t5 := kT.lt) | (have kT : Boxed w4 W1.heap.size 4 (.bool false) := boxed_below (boxed_drew (Boxed.new W1 4 (.bool false))) hb4; have t1 := kT.cell; have t2 := kT.frozen; have t5 := kT.lt) | (have kT : Boxed w4 W1.heap.size 22 (.slice none 0 0) := boxed_below (boxed_drew ((Boxed.new W1 22 (.slice none 0 0)).alloc (.cells #[.bool false] 4))) hb4; have kU : Boxed w4 (W1.heap.size + 1) 4 (.bool false) := boxed_below (boxed_drew (boxed_new1 W1 (.cells #[.slice none 0 0] 22) 4 (.bool false))) hb4; have t1 := kT.cell; have t2 := kT.frozen; have t3 := kU.cell; have t4 := kU.frozen; have t5 := kT.lt; have t6 := kU.lt) | (have kT : Boxed w4 W1.heap.size 4 (.bool false) := boxed_below (boxed_drew ((Boxed.new W1 4 (.bool false)).alloc (.cells #[.slice none 0 0] 22))) hb4; have kU : Boxed w4 (W1.heap.size + 1) 22 (.slice none 0 0) := boxed_below (boxed_drew (boxed_new1 W1 (.cells #[.bool false] 4) 22 (.slice none 0 0))) hb4; have t1 := kT.cell; have t2 := kT.frozen; have t3 := kU.cell; have t4 := kU.frozen; have t5 := kT.lt; have t6 := kU.lt) | skip); have g0 : w4.cell? ⟨w.heap.size, 0, none⟩ = some (.slice a l.length c) := (hb14.cell (p := ⟨w.heap.size, 0, none⟩) l0).trans q0; have g1 : w4.cell? ⟨w.heap.size, 1, none⟩ = some (.slice a2 ts.length c2) := (hb14.cell (p := ⟨w.heap.size, 1, none⟩) l0).trans q1; have b0 : ∀ O, (w4.alloc O).cell? ⟨w.heap.size, 0, none⟩ = some (.slice a l.length c) := fun O => ((bal hb14 O).cell (p := ⟨w.heap.size, 0, none⟩) l0).trans q0; have b1 : ∀ O, (w4.alloc O).cell? ⟨w.heap.size, 1, none⟩ = some (.slice a2 ts.length c2) := fun O => ((bal hb14 O).cell (p := ⟨w.heap.size, 1, none⟩) l0).trans q1; have bb0 : ∀ O O', ((w4.alloc O).alloc O').cell? ⟨w.heap.size, 0, none⟩ = some (.slice a l.length c) := fun O O' => ((bal (bal hb14 O) O').cell (p := ⟨w.heap.size, 0, none⟩) l0).trans q0; have bb1 : ∀ O O', ((w4.alloc O).alloc O').cell? ⟨w.heap.size, 1, none⟩ = some (.slice a2 ts.length c2) := fun O O' => ((bal (bal hb14 O) O').cell (p := ⟨w.heap.size, 1, none⟩) l0).trans q1))
      · go_wp2
        go_meet
        exact ⟨_, _, ca, cc, rfl, rfl, (Boxed.new w4 22 _).alloc _, boxed_new1 _ _ _ _, (hC4.at (Nat.le_refl _) (bal (ba w4 _) _)).mono (by simp; omega), hA4, s14, by omega, bal (bal hb14 _) _⟩
      · go_wp2
        go_meet
        exact ⟨_, _, ca, cc, rfl, rfl, boxed_new1 _ _ _ _, (Boxed.new w4 4 _).alloc _, (hC4.at (Nat.le_refl _) (bal (ba w4 _) _)).mono (by simp; omega), hA4, by omega, s14, bal (bal hb14 _) _⟩
      · have hA5 : Adr (fun b => W1.heap.size ≤ b ∧ b ≠ W1.heap.size) (.slice ca l.length cc) := hA4.imp fun b h => by simp at h; omega
        have hM := one_put (t2 := 4) (y1 := .slice ca l.length cc) (y2 := .bool (decide ((ts.length : Int) < 4096))) kT hC4 hA5 hb14 (Nat.le_refl _)
        go_wp2
        go_meet
        exact ⟨_, _, ca, cc, rfl, rfl, hM.1, hM.2.1, hM.2.2.1, hM.2.2.2.1, Nat.le_refl _, s14, hM.2.2.2.2⟩
      · have hA5 : Adr (fun b => W1.heap.size ≤ b ∧ b ≠ W1.heap.size ∧ b ≠ W1.heap.size + 1) (.slice ca l.length cc) := hA4.imp fun b h => by simp at h; omega
        have hM := two_put (y1 := .slice ca l.length cc) (y2 := .bool (decide ((ts.length : Int) < 4096))) kT kU (by omega) hC4 hA5 hb14 (Nat.le_refl _) (by omega)
        go_wp2
        go_meet
        exact ⟨_, _, ca, cc, rfl, rfl, hM.1, hM.2.1, hM.2.2.1, hM.2.2.2.1, Nat.le_refl _, by omega, hM.2.2.2.2⟩
      · have hA5 : Adr (fun b => W1.heap.size ≤ b ∧ b ≠ W1.heap.size) (.slice ca l.length cc) := hA4.imp fun b h => by simp at h; omega
        have hM := one_put (t2 := 22) (y1 := .bool (decide ((ts.length : Int) < 4096))) (y2 := .slice ca l.length cc) kT hC4 hA5 hb14 (Nat.le_refl _)
        go_wp2
        go_meet
        exact ⟨_, _, ca, cc, rfl, rfl, hM.2.1, hM.1, hM.2.2.1, hM.2.2.2.1, s14, Nat.le_refl _, hM.2.2.2.2⟩
      · have hA5 : Adr (fun b => W1.heap.size ≤ b ∧ b ≠ W1.heap.size + 1 ∧ b ≠ W1.heap.size) (.slice ca l.length cc) := hA4.imp fun b h => by simp at h; omega
        have hM := two_put (y1 := .slice ca l.length cc) (y2 := .bool (decide ((ts.length : Int) < 4096))) kU kT (by omega) hC4 hA5 hb14 (by omega) (Nat.le_refl _)
        go_wp2
        go_meet
        exact ⟨_, _, ca, cc, rfl, rfl, hM.1, hM.2.1, hM.2.2.1, hM.2.2.2.1, by omega, Nat.le_refl _, hM.2.2.2.2⟩
    case rest =>
      obtain ⟨Bk, Br, ca, cc, rfl, rfl, hBk, hBr, hCk, hAk, lk, lr, hbc⟩ := hcut
      have hbwc : Below w.heap.size w wc := bt hbw1 hbc
      have HBk : Hid (Boxed wc Bk 22 (.slice ca l.length cc)) := hBk
      have HBr : Hid (Boxed wc Br 4 (.bool (decide ((ts.length : Int) < 4096)))) := hBr
      have HCk : Hid (Cols wc wc.heap.size (.slice ca l.length cc) l) := hCk
      have HAk : Hid (Adr (fun b => W1.heap.size ≤ b) (.slice ca l.length cc)) := hAk
      have HBcc : Hid (Boxed wc w1.heap.size 26 (.slice b1 ys.length d1)) := boxed_below HBc.out hbc
      have hsc := hbc.size
      clear hBk hBr hCk hAk
      go_wp2
      go_ret
      have hbk := HBk.out.lt
      have hbr := HBr.out.lt
      have hs1' := HS1.out
      obtain ⟨a', c', e', hc', _, hnm', hx'⟩ := HCk.out
      simp only [Value.slice.injEq] at e'
      obtain ⟨rfl, _, rfl⟩ := e'
      have hlne : l ≠ [] := by intro h; have := HO.out.2; rw [h] at this; simp at this
      obtain ⟨kb, ko, rfl, hkb, hcl⟩ := hx' hlne
      have hkb1 : W1.heap.size ≤ kb := HAk.out kb ko _ _ rfl
      have hyne : ys ≠ [] := by
        intro h
        have h2 := congrArg List.length HYS.out
        rw [h, celT_len] at h2
        have := prd_pos (colE_ok (wroE_ok HE.out).1).2.2.1
        simp at h2
        omega
      have hI0 := (HI1.out w.heap.size (by omega)).at2 (bt hbW1 hbc)
      obtain ⟨a0', c0', e0', hc0', _, hx0'⟩ := hI0
      simp only [Value.slice.injEq] at e0'
      obtain ⟨rfl, _, rfl⟩ := e0'
      obtain ⟨yb, yo, rfl, hyb, _, hyc⟩ := hx0' hyne
      have hyb1 : W.heap.size ≤ yb := by
        rcases Nat.lt_or_ge yb W.heap.size with h | h
        · obtain ⟨_, _, e2, _, _, hx2⟩ := HI1.out yb h
          simp only [Value.slice.injEq] at e2
          obtain ⟨e3, _⟩ := e2
          obtain ⟨b3, o3, e4, _, hn3, _⟩ := hx2 hyne
          rw [← e3] at e4
          simp only [Option.some.injEq, Addr.mk.injEq] at e4
          exact absurd e4.1 (Ne.symm hn3)
        · exact h
      have hdec : decide ((ts.length : Int) < 4096) = decide (ts.length < 4096) := by rw [Bool.eq_iff_iff, decide_eq_true_iff, decide_eq_true_iff]; omega
      refine ⟨w1.heap.size, Br, Bk, yb, yo, d1, kb, ko, cc, rfl, ?_, ?_, hc', hnm', ?_, hbwc⟩
      · rw [HYS.out]
        exact ⟨⟨HBcc.out.cell, by rw [← hdec]; exact HBr.out.cell, hyc⟩, HBk.out.cell, hcl⟩
      · rw [HYS.out]; exact hc0'
      · rintro x (rfl | rfl | rfl | rfl | rfl) <;> omega
  · have hne : (ey != 0) = true := by simpa using h0
    go_wp2
    go_ret
    exact .inl ⟨h0, rfl, hbw1⟩
end Go.Proofs.Ytkpjjiomfgkobaa
