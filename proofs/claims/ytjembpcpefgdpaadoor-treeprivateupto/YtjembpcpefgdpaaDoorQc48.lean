import Derived.Test.YtjembpcpefgdpaaDoorQc47
namespace Go.Proofs.YtjembpcpefgdpaaDoor
open Go.RowKit Go.Proofs.YtjembpcpefgdpaaDoor.Ds

/-- what a counter tells of the first i items; what is wrong with them -/
def toL (k : Nat) (u d lo hi : Int) (xs : List Int) (i : Nat) : List (List (List Pt)) := (List.range i).map fun j => (stT k u d lo hi (camT k (xs.take j)) (xs.getD j 0)).1
def erL (k : Nat) (u d lo hi : Int) (xs : List Int) (i : Nat) : List Int := (List.range i).map fun j => (stT k u d lo hi (camT k (xs.take j)) (xs.getD j 0)).2
theorem toL_succ {k : Nat} {u d lo hi : Int} {xs : List Int} {i : Nat} {x : Int} {l : List (List Pt)} {er : Int} (hx : xs[i]? = some x) (h : stT k u d lo hi (camT k (xs.take i)) x = (l, er)) : toL k u d lo hi xs (i + 1) = toL k u d lo hi xs i ++ [l] ∧ erL k u d lo hi xs (i + 1) = erL k u d lo hi xs i ++ [er] := by
  unfold toL erL
  rw [List.range_succ, List.map_append, List.map_append]
  simp [hx, h]
theorem toL_len (k : Nat) (u d lo hi : Int) (xs : List Int) (i : Nat) : (toL k u d lo hi xs i).length = i := by simp [toL]
theorem erL_len (k : Nat) (u d lo hi : Int) (xs : List Int) (i : Nat) : (erL k u d lo hi xs i).length = i := by simp [erL]
abbrev Tl := Value × List Dz
/-- what was told, told apart: in blocks of its own -/
def Eln (W : World) (P : Nat) (tv ev : Value) (t : Tl) : Prop := ∃ h B, P < h ∧ B ≤ W.heap.size ∧ Dsi W h B t.1 t.2 ∧ (∀ g, tv.ownBlock = some g → g < h ∨ B ≤ g) ∧ (∀ g, ev.ownBlock = some g → g < h ∨ B ≤ g)
/-- a counter, i items behind -/
structure CtS (wA : World) (R P k : Nat) (u d lo hi : Int) (xs : List Int) (i : Nat) (tv ev : Value) (tls : List Tl) (g cap : Nat) (W : World) : Prop where
  ctr : Ctr W wA.heap.size R k u d lo hi (camT k (xs.take i)).length g cap (opL k (camT k (xs.take i)))
  gt : tv.ownBlock ≠ some g
  ge : ev.ownBlock ≠ some g
  gP : g ≠ P
  out : FivB W P tv ev (.int .i64 0) (.int .i64 0) (.int .i64 0)
  trow : W.ownsRow (P + 1) 33 1 tv i (tls.map (·.1))
  erow : W.ownsRow (P + 1) 29 1 ev i ((erL k u d lo hi xs i).map (.int .i64))
  dis : ∀ g, tv.ownBlock = some g → ev.ownBlock ≠ some g
  el : ∀ t ∈ tls, Eln W P tv ev t
  told : tls.map (fun t => rds t.2) = toL k u d lo hi xs i
  tb : TabAt 1 Lib.deBruijn64tab W
  low : Below wA.heap.size wA W

theorem CtS.two {wA W W1 : World} {R P k : Nat} {u d lo hi : Int} {xs : List Int} {i : Nat} {tv ev : Value} {tls : List Tl} {g cap : Nat} (h : CtS wA R P k u d lo hi xs i tv ev tls g cap W) (hRP : R < P) (hg : W.grownBy W1 (some R)) :
    Two9 W1 W1 P (P + 1) i i tv ev tv ev (tls.map (·.1)) ((erL k u d lo hi xs i).map (.int .i64)) (.int .i64 0) (.int .i64 0) (.int .i64 0) :=
  ⟨h.out.same (hg.block P h.out.lt (by simp; omega)), row_gb h.trow hg (fun g e e2 => by have := (row_lt h.trow e).1; simp only [Option.some.injEq] at e2; omega), row_gb h.erow hg (fun g e e2 => by have := (row_lt h.erow e).1; simp only [Option.some.injEq] at e2; omega), Kp.refl _ _, fun g e => .inl e, fun g e => .inl e, h.dis⟩

theorem CtS.next {wA W W1 W2 : World} {R P k : Nat} {u d lo hi : Int} {xs : List Int} {i : Nat} {tv ev tv' ev' v : Value} {tls : List Tl} {g cap g' cap' : Nat} {x er : Int} {zs : List Dz} (h : CtS wA R P k u d lo hi xs i tv ev tls g cap W) (hRP : R < P) (hN : 2 ≤ wA.heap.size)
    (hx : xs[i]? = some x) (hst : stT k u d lo hi (camT k (xs.take i)) x = (rds zs, er)) (hd : DosN W1 W.heap.size v zs) (hg : W.grownBy W1 (some R)) (hc : Ctr W1 wA.heap.size R k u d lo hi (nxT k (camT k (xs.take i)) x).length g' cap' (opL k (nxT k (camT k (xs.take i)) x))) (hgg : g' = g ∨ W.heap.size ≤ g')
    (h2 : Two9 W1 W2 P (P + 1) (i + 1) (i + 1) tv ev tv' ev' (tls.map (·.1) ++ [v]) ((erL k u d lo hi xs i).map (.int .i64) ++ [.int .i64 er]) (.int .i64 0) (.int .i64 0) (.int .i64 0)) :
    CtS wA R P k u d lo hi xs (i + 1) tv' ev' (tls ++ [(v, zs)]) g' cap' ((W2.setCell ⟨P, 0, none⟩ tv').setCell ⟨P, 1, none⟩ ev') := by
  have hP := h.out.lt
  have hs1 := hg.size
  have tl1 := fun g e => row_lt h.trow (g := g) e
  have el1 := fun g e => row_lt h.erow (g := g) e
  obtain ⟨W3, hW3⟩ : ∃ W3, (W2.setCell ⟨P, 0, none⟩ tv').setCell ⟨P, 1, none⟩ ev' = W3 := ⟨_, rfl⟩
  have g23 : W2.grownBy W3 (some P) := by rw [← hW3]; exact gb_trans (gb_setc _ _ _ _) (gb_setc _ _ _ _)
  have K3 : Kp W1 W3 (fun b => b = P ∨ tv.ownBlock = some b ∨ ev.ownBlock = some b) := h2.k.gb g23 (fun x e _ => .inl (by simpa using e.symm))
  have out3 : FivB W3 P tv' ev' (.int .i64 0) (.int .i64 0) (.int .i64 0) := by rw [← hW3]; exact (h2.bx.put0 _).put1 _
  rw [hW3]
  have hs3 := K3.size
  have nR : ¬ (R = P ∨ tv.ownBlock = some R ∨ ev.ownBlock = some R) := by
    rintro (e | e | e)
    · omega
    · have := (tl1 R e).1; omega
    · have := (el1 R e).1; omega
  have nG : ¬ (g' = P ∨ tv.ownBlock = some g' ∨ ev.ownBlock = some g') := by
    rcases hgg with rfl | hgg
    · rintro (e | e | e)
      · exact h.gP e
      · exact h.gt e
      · exact h.ge e
    · rintro (e | e | e)
      · omega
      · have := (tl1 _ e).2; omega
      · have := (el1 _ e).2; omega
  have kR := K3.block R hc.box.lt nR
  have kG := K3.block g' hc.row.lt nG
  have nlow : ∀ b, ¬ b = R → b < W.heap.size → ¬ (b = P ∨ tv.ownBlock = some b ∨ ev.ownBlock = some b) → W3.heap[b]? = W.heap[b]? := fun b h1 h2 h3 => (K3.block b (by omega) h3).trans (hg.block b h2 (by simpa using h1))
  have hn := toL_succ hx hst
  refine ⟨?_, ?_, ?_, ?_, out3, ?_, ?_, ?_, ?_, ?_, ?_, ?_⟩
  · rw [camT_succ hx]
    exact ⟨hc.box.same kR, ⟨fun j y hj => (World.cell?_of_block (a := ⟨g', j, none⟩) kG).trans (hc.row.cells j y hj), fun j hj => (World.frozen?_of_block (a := ⟨g', j, none⟩) kG).trans (hc.row.thaw j hj), Nat.lt_of_lt_of_le hc.row.lt hs3⟩, hc.len, hc.cap, hc.nR, hc.ng, hc.ne⟩
  · intro e
    rcases h2.ta _ e with e2 | e2
    · exact nG (.inr (.inl e2))
    · have := hc.row.lt; omega
  · intro e
    rcases h2.ea _ e with e2 | e2
    · exact nG (.inr (.inr e2))
    · have := hc.row.lt; omega
  · exact fun e => nG (.inl e)
  · rw [List.map_append]
    exact row_gb h2.t g23 (fun g e e2 => by have := (row_lt h2.t e).1; simp only [Option.some.injEq] at e2; omega)
  · rw [hn.2, List.map_append]
    exact row_gb h2.e g23 (fun g e e2 => by have := (row_lt h2.e e).1; simp only [Option.some.injEq] at e2; omega)
  · exact h2.ds
  · intro t ht
    rcases List.mem_append.1 ht with ht | ht
    · obtain ⟨b0, B, c1, c2, c3, c4, c5⟩ := h.el t ht
      refine ⟨b0, B, c1, by omega, c3.same fun b e1 e2 => nlow b (by omega) (by omega) ?_, fun y e => ?_, fun y e => ?_⟩
      · rintro (e | e | e)
        · omega
        · rcases c4 b e with e3 | e3 <;> omega
        · rcases c5 b e with e3 | e3 <;> omega
      · rcases h2.ta y e with e2 | e2
        · exact c4 y e2
        · right; omega
      · rcases h2.ea y e with e2 | e2
        · exact c5 y e2
        · right; omega
    · obtain rfl : t = (v, zs) := by simpa using ht
      refine ⟨W.heap.size, W1.heap.size, hP, hs3, (dsi_of hd).same fun b e1 e2 => K3.block b e2 ?_, fun y e => ?_, fun y e => ?_⟩
      · rintro (e | e | e)
        · omega
        · have := (tl1 b e).2; omega
        · have := (el1 b e).2; omega
      · rcases h2.ta y e with e2 | e2
        · left; exact (tl1 y e2).2
        · right; exact e2
      · rcases h2.ea y e with e2 | e2
        · left; exact (el1 y e2).2
        · right; exact e2
  · rw [hn.1, List.map_append, h.told]; rfl
  · have nR1 := hc.nR
    have t1 := tab_gb h.tb hg (by simp; omega)
    intro j hj
    refine (World.cell?_of_block (a := ⟨1, j, none⟩) (K3.block 1 (tab_lt t1) ?_)).trans (t1 j hj)
    rintro (e | e | e)
    · omega
    · have := (tl1 1 e).1; omega
    · have := (el1 1 e).1; omega
  · have nR1 := hc.nR
    refine ⟨K3.os.trans (hg.os.trans h.low.os), K3.tape.trans (hg.tape.trans h.low.tape), K3.output.trans (hg.output.trans h.low.output), by have := h.low.size; omega, fun b hb => ?_⟩
    refine (nlow b (by omega) (by have := h.low.size; omega) ?_).trans (h.low.block b hb)
    rintro (e | e | e)
    · omega
    · have := (tl1 b e).1; omega
    · have := (el1 b e).1; omega

/-! ### what Count answers -/
def Tll (w : World) (v : Value) (tls : List Tl) : Prop :=
  ∃ a c, v = .slice a tls.length c ∧ (∀ t ∈ tls, Dss w w.heap.size t.1 t.2) ∧ (tls ≠ [] → ∃ b, a = some ⟨b, 0, none⟩ ∧ b < w.heap.size ∧ ∀ (i : Nat) t, tls[i]? = some t → w.cell? ⟨b, i, none⟩ = some t.1)
def Erl (w : World) (v : Value) (es : List Int) : Prop :=
  ∃ a c, v = .slice a es.length c ∧ (es ≠ [] → ∃ b, a = some ⟨b, 0, none⟩ ∧ b < w.heap.size ∧ ∀ (i : Nat) x, es[i]? = some x → w.cell? ⟨b, i, none⟩ = some (.int .i64 x))
theorem Tll.keep {w w' : World} {v : Value} {tls : List Tl} (h : Tll w v tls) (hb : Below w.heap.size w w') : Tll w' v tls := by
  obtain ⟨a, c, hv, he, hx⟩ := h
  refine ⟨a, c, hv, fun t ht => ((he t ht).keep hb).mono hb.size, fun hne => ?_⟩
  obtain ⟨b, ha, hl, hc⟩ := hx hne
  exact ⟨b, ha, Nat.lt_of_lt_of_le hl hb.size, fun i t ht => (hb.cell (p := ⟨b, i, none⟩) hl).trans (hc i t ht)⟩
theorem Erl.keep {w w' : World} {v : Value} {es : List Int} (h : Erl w v es) (hb : Below w.heap.size w w') : Erl w' v es := by
  obtain ⟨a, c, hv, hx⟩ := h
  refine ⟨a, c, hv, fun hne => ?_⟩
  obtain ⟨b, ha, hl, hc⟩ := hx hne
  exact ⟨b, ha, Nat.lt_of_lt_of_le hl hb.size, fun i t ht => (hb.cell (p := ⟨b, i, none⟩) hl).trans (hc i t ht)⟩
theorem Tll.slice {w : World} {v : Value} {tls : List Tl} (h : Tll w v tls) : ∃ a c, v = .slice a tls.length c := by
  obtain ⟨a, c, hv, _⟩ := h; exact ⟨a, c, hv⟩
theorem Erl.slice {w : World} {v : Value} {es : List Int} (h : Erl w v es) : ∃ a c, v = .slice a es.length c := by
  obtain ⟨a, c, hv, _⟩ := h; exact ⟨a, c, hv⟩
theorem tll_of {Z : World} {m : Nat} {tv ev : Value} {tls : List Tl} {es : List Int} {i : Nat} (hl : tls.length = i) (he : es.length = i) (ht : Z.ownsRow m 33 1 tv i (tls.map (·.1))) (hE : Z.ownsRow m 29 1 ev i (es.map (.int .i64))) (hel : ∀ t ∈ tls, Dss Z Z.heap.size t.1 t.2) : Tll Z tv tls ∧ Erl Z ev es := by
  constructor
  · obtain ⟨a, c, rfl⟩ := row_slice ht
    refine ⟨a, c, by rw [hl], hel, fun hne => ?_⟩
    obtain ⟨t0, ht0⟩ := get_lt (l := tls) (i := 0) (by cases tls with | nil => exact absurd rfl hne | cons t l => simp)
    obtain ⟨b, rfl, _, hb, _⟩ := row_cell ht (j := 0) (u := t0.1) (by simp [ht0])
    refine ⟨b, rfl, hb, fun j t h2 => ?_⟩
    obtain ⟨b', e', _, _, hc⟩ := row_cell ht (j := j) (u := t.1) (by simp [h2])
    simp only [Option.some.injEq, Addr.mk.injEq, and_true] at e'
    subst e'
    exact hc
  · obtain ⟨a, c, rfl⟩ := row_slice hE
    refine ⟨a, c, by rw [he], fun hne => ?_⟩
    obtain ⟨t0, ht0⟩ := get_lt (l := es) (i := 0) (by cases es with | nil => exact absurd rfl hne | cons t l => simp)
    obtain ⟨b, rfl, _, hb, _⟩ := row_cell hE (j := 0) (u := .int .i64 t0) (by simp [ht0])
    refine ⟨b, rfl, hb, fun j t h2 => ?_⟩
    obtain ⟨b', e', _, _, hc⟩ := row_cell hE (j := j) (u := .int .i64 t) (by simp [h2])
    simp only [Option.some.injEq, Addr.mk.injEq, and_true] at e'
    subst e'
    exact hc
theorem CtS.tll {wA W Z : World} {R P k : Nat} {u d lo hi : Int} {xs : List Int} {i : Nat} {tv ev : Value} {tls : List Tl} {g cap : Nat} (h : CtS wA R P k u d lo hi xs i tv ev tls g cap W) (hk : Kp W Z (fun b => b ≤ P)) : Tll Z tv tls ∧ Erl Z ev (erL k u d lo hi xs i) := by
  have hl : tls.length = i := by have := congrArg List.length h.told; simpa [toL_len] using this
  refine tll_of (m := P + 1) hl (erL_len ..) (row_same h.trow fun g e => ?_) (row_same h.erow fun g e => ?_) fun t ht => ?_
  · have := row_lt h.trow e; exact hk.block g this.2 (by omega)
  · have := row_lt h.erow e; exact hk.block g this.2 (by omega)
  · obtain ⟨b0, B, c1, c2, c3, _⟩ := h.el t ht
    exact (c3.same fun b e1 e2 => hk.block b (by omega) (by omega)).dss.mono (Nat.le_trans c2 hk.size)
end Go.Proofs.YtjembpcpefgdpaaDoor
