import Derived.Test.YtfibbjngllelbaaGreatPdo
namespace Go.Proofs.YtfibbjngllelbaaGreat
open Go.RowKit Go.Proofs.YtfibbjngllelbaaGreat.Ds

theorem five_cells (w : World) (a b c d e : Value) (t : TypeId) (N : Nat) (hN : N = w.heap.size) : ∀ j u, [a, b, c, d, e][j]? = some u → (w.alloc (.cells #[a, b, c, d, e] t)).cell? ((⟨N, 0, none⟩ : Addr).add j) = some u := by
  subst hN
  exact fun j u hu => World.news_of_block (w := w.alloc (.cells #[a, b, c, d, e] t)) (B := w.heap.size) (cs := #[a, b, c, d, e]) (t := t) (fr := (0, 0)) (heap_alloc_new w _) j u (by simpa using hu)
theorem kN_ne {x y : ByteArray} (h : x ≠ y) : kN x ≠ kN y := by
  intro e
  simp only [Lit.string.injEq] at e
  apply h
  apply ByteArray.ext
  exact Array.toList_inj.1 e
theorem TwoB.gb {w w' : World} {R : Nat} {x y : Value} {r : Option Nat} (h : TwoB w R x y) (hg : w.grownBy w' r) (hne : some R ≠ r) : TwoB w' R x y := by
  have hk : w'.heap[R]? = w.heap[R]? := hg.block R h.lt hne
  exact ⟨(World.cell?_of_block (w := w) (a := ⟨R, 0, none⟩) hk).trans h.c0, (World.cell?_of_block (w := w) (a := ⟨R, 1, none⟩) hk).trans h.c1, (World.frozen?_of_block (w := w) (a := ⟨R, 0, none⟩) hk).trans h.f0, (World.frozen?_of_block (w := w) (a := ⟨R, 1, none⟩) hk).trans h.f1, Nat.lt_of_lt_of_le h.lt hg.size⟩
theorem TwoB.set1 {w : World} {R : Nat} {x y : Value} (h : TwoB w R x y) (u : Value) : TwoB (w.setCell ⟨R, 1, none⟩ u) R x u :=
  ⟨(sc_other (by simp)).trans h.c0, sc_same h.c1, sc_frozen.trans h.f0, sc_frozen.trans h.f1, by simpa using h.lt⟩
theorem bud_other {done : List En} {e : En} {x : ByteArray} (h : x ≠ e.2.1) : budT (done ++ [e]) x = budT done x := by
  rw [bud_snoc, if_neg (fun c => h c.2.symm)]; cases budT done x <;> rfl

theorem bookM_next {X w5 w6 : World} {N : Nat → Prop} {bk bm n : Nat} {v : Value} {D : DataW Value} {done : List En} {e : En} {b : Rq} {bp np : Nat} {Dp : DataW Value} {g cap : Nat}
    (hX : BookM X N bk bm n v D done) (hN : ∀ k, w5.heap.size ≤ k → N k) (hd : doT done e = 0) (hn : nrm e = e)
    (hbud : budT (done ++ [e]) e.2.1 = some b) (hP : Pts X bp np Dp (fun p => p ∈ prs (done ++ [e]) e.2.1) (fun p => (prtP (done ++ [e]) e.2.1 p).1)) (hnp : np ≤ done.length + 1) (hszp : Maps.size Dp = (parT (done ++ [e]) e.2.1).length) (hNp : N bp) (hpk : bp ≠ bk) (hpm : bp ≠ bm)
    (own5 : w5.ownsMap Tryz.prog 9 hR bm (n + 1) (D.put (kN e.2.1) (.held (pv b (allP (done ++ [e]) e.2.1).1 bp)))) (g5 : X.grownBy w5 (some bm))
    (row6 : w6.ownsRow 0 45 5 (.slice (some ⟨g, 0, none⟩) (done.length + 1) cap) (done.length + 1) (enc done ++ encE e)) (g6 : w5.grownBy w6 v.ownBlock) (hg6 : v.ownBlock = some g ∨ w5.heap.size ≤ g) :
    BookM (w6.setCell ⟨bk, 1, none⟩ (.slice (some ⟨g, 0, none⟩) (done.length + 1) cap)) N bk bm (n + 1) (.slice (some ⟨g, 0, none⟩) (done.length + 1) cap) (D.put (kN e.2.1) (.held (pv b (allP (done ++ [e]) e.2.1).1 bp))) (done ++ [e]) := by
  obtain ⟨hl1, hl2, hl3, hl4⟩ := hX.lob
  have hbk5 : bk < w5.heap.size := Nat.lt_of_lt_of_le hX.two.lt g5.size
  have hbm5 : bm < w5.heap.size := own5.lt
  have hgk : N g ∧ g ≠ bk ∧ g ≠ bm := by
    rcases hg6 with h | h
    · exact hl4 g h
    · exact ⟨hN g h, by omega, by omega⟩
  have g7 : w6.grownBy (w6.setCell ⟨bk, 1, none⟩ (.slice (some ⟨g, 0, none⟩) (done.length + 1) cap)) (some bk) := gb_set (gb_refl _ _) _ _
  have ob : ∀ k, v.ownBlock = some k → k ≠ bk ∧ k ≠ bm := fun k hk => (hl4 k hk).2
  -- of what is a map nothing turns by an append
  have keepP : ∀ {bq nq : Nat} {Dq : DataW Value} {P : Int → Prop} {f : Int → Rq}, Pts X bq nq Dq P f → bq ≠ bk → bq ≠ bm → Pts (w6.setCell ⟨bk, 1, none⟩ (.slice (some ⟨g, 0, none⟩) (done.length + 1) cap)) bq nq Dq P f := fun {bq} {_} {_} {_} {_} h h1 h2 => by
    refine ((h.gb g5 (by simpa using h2)).gb g6 (fun e' => ?_)).gb g7 (by simpa using h1)
    -- a row of entries is no map
    rcases hX.row.2 with ⟨rfl, _⟩ | ⟨g', c', cur, rfl, _, hc, _⟩
    · cases e'
    · simp only [Value.ownBlock, Option.some.injEq] at e'
      subst e'
      obtain ⟨es, clock, hb, _⟩ := h.own
      rw [hc] at hb
      cases hb
  obtain ⟨k1, k2, k3⟩ := doT_ok hd
  refine ⟨inv_snoc hX.inv hd hn, ?_, ?_, ?_, ?_, fun x => ?_, fun x b' hx => ?_, ?_, hl1, hl2, hl3, fun g' hg' => ?_⟩
  · exact ((hX.two.gb g5 (by simpa using hl3)).gb g6 (fun e' => (ob bk e'.symm).1 rfl)).set1 _
  · exact (own5.kept g6 (fun e' => (ob bm e'.symm).2 rfl)).kept g7 (by simpa using fun h => hl3 h.symm)
  · have := row6.kept g7 (.inr (by simpa [Value.ownBlock] using hgk.2.1))
    rw [enc_snoc]; simpa using this
  · simp; have := hX.cnt; omega
  · by_cases hxe : x = e.2.1
    · subst hxe
      rw [Maps.has_put_same hX.own.isMap (k := kN e.2.1) True.intro]
      simp [hbud]
    · rw [Maps.has_put_other (kN_ne hxe), hX.is x, bud_other hxe]
  · by_cases hxe : x = e.2.1
    · subst hxe
      rw [hbud] at hx
      simp only [Option.some.injEq] at hx
      subst hx
      exact ⟨bp, np, Dp, Maps.atKey_put_same (k := kN e.2.1) hX.own.isMap True.intro _ _, keepP hP hpk hpm, by simpa using hnp, hszp, hNp, hpk, hpm⟩
    · rw [bud_other hxe] at hx
      obtain ⟨bq, nq, Dq, j1, j2, j3, j4, j5, j6, j7⟩ := (hX.el x b' hx).ex
      have hne : ∀ q, ¬ (e.2.1 = x ∧ q) := fun q c => hxe c.1.symm
      have e1 : allP (done ++ [e]) x = allP done x := all_other (hne _)
      have e2 : prs (done ++ [e]) x = prs done x := prs_other (hne _)
      have e3 : prtP (done ++ [e]) x = prtP done x := funext fun y => prt_other (hne _)
      exact ⟨bq, nq, Dq, by rw [Maps.atKey_put_other (kN_ne hxe), e1]; exact j1, by simp only [e2, e3]; exact keepP j2 j6 j7, by simp; omega, by unfold parT; rw [e2]; exact j4, j5, j6, j7⟩
  · rw [Maps.size_put (hX.own.tidy law9), hX.sz, ops_snoc]
    rcases k3 with ⟨c1, c2, _⟩ | ⟨c1, b0, c2, _⟩
    · rw [if_pos c1, (hX.has_no c2).1]; simp
    · rw [if_neg c1, (hX.is e.2.1).2 ⟨b0, c2⟩]; simp
  · simp only [Value.ownBlock, Option.some.injEq] at hg'
    subst hg'
    exact hgk
end Go.Proofs.YtfibbjngllelbaaGreat
