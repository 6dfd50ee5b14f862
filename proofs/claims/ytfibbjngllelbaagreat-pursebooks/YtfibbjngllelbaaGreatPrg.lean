import Derived.Test.YtfibbjngllelbaaGreatPnm
import Derived.RangeFuncNested
import Derived.RangeFuncBound
import Derived.RangeFuncCalls
import Derived.RangeFuncLeaves
import Derived.Shelf.Abstract
import Derived.Shelf.RegionOpen
import Derived.OwnWalkIn
import Derived.TacticsInMore
import Derived.LoopNIn
import Derived.LoopIn
namespace Go.Proofs.YtfibbjngllelbaaGreat
open Go.RowKit Go.Shelf Go.Proofs.YtfibbjngllelbaaGreat.Ds

/-- some blocks are as they were -/
structure Kpt (K : Nat → Prop) (W W' : World) : Prop where
  size : W.heap.size ≤ W'.heap.size
  same : ∀ b, K b → W'.heap[b]? = W.heap[b]?
theorem Kpt.refl (K : Nat → Prop) (W : World) : Kpt K W W := ⟨Nat.le_refl _, fun _ _ => rfl⟩
theorem Kpt.trans {K : Nat → Prop} {A B C : World} (h : Kpt K A B) (k : Kpt K B C) : Kpt K A C := ⟨Nat.le_trans h.size k.size, fun b hb => (k.same b hb).trans (h.same b hb)⟩
theorem Kpt.imp {K K' : Nat → Prop} {A B : World} (h : Kpt K A B) (hk : ∀ b, K' b → K b) : Kpt K' A B := ⟨h.size, fun b hb => h.same b (hk b hb)⟩
theorem Kpt.put {K : Nat → Prop} (W : World) (l : Nat) (o : Obj) (h : ¬ K l) : Kpt K W (W.putObj l o) := ⟨by simp, fun b hb => World.putObj_heap_other (fun e => h (by rw [← e]; exact hb))⟩
theorem Kpt.of_below {K : Nat → Prop} {n₀ : Nat} {A B : World} (h : Below n₀ A B) (hK : ∀ b, K b → b < n₀) : Kpt K A B := ⟨h.size, fun b hb => h.block b (hK b hb)⟩
theorem Kpt.of_gb {K : Nat → Prop} {A B : World} {row : Option Nat} (h : A.grownBy B row) (hK : ∀ b, K b → b < A.heap.size ∧ row ≠ some b) : Kpt K A B := ⟨h.size, fun b hb => h.block b (hK b hb).1 (fun e => (hK b hb).2 e.symm)⟩

/-- what lies in blocks lo .. m may be written -/
def Clo {β : Type} (lo : Nat) (J : Nat → List β → World → Prop) : Prop :=
  ∀ m pre A B row, lo ≤ m → J m pre A → A.grownBy B row → (∀ r, row = some r → lo ≤ r ∧ r < m) → J m pre B
theorem Clo.put {β : Type} {lo m l : Nat} {J : Nat → List β → World → Prop} {pre : List β} {A : World} (h : Clo lo J) (hJ : J m pre A) (hlo : lo ≤ l) (hl : l < m) (o : Obj) : J m pre (A.putObj l o) :=
  h m pre A _ _ (by omega) hJ (grownBy_putObj' A l o) (fun r e => by cases e; exact ⟨hlo, hl⟩)

/-- AN ITERATOR THAT WRITES INTO MEMORY OF ITS OWN between two rounds: blocks from W0's end to m, all made ahead of the first round -/
def SeqW (n fid : Nat) (lb : Array Value) {β : Type} (Hd : β → World → World → Array Value → Prop) (K : Nat → Prop) (S : List β) (W0 : World) : Prop :=
  ∀ (y : Nat) (J Jx : Nat → List β → World → Prop), Clo W0.heap.size J → Clo W0.heap.size Jx →
    (∀ W', W0.grownBy W' none → J W'.heap.size [] W') →
    (∀ m pre x Wc W1 args, W0.heap.size ≤ m → m ≤ Wc.heap.size → pre ++ [x] <+: S → J m pre Wc → Below Wc.heap.size Wc W1 → Hd x Wc W1 args →
      YieldAt Fence.wide (n - 1) Tryz.prog y args W1 fun e W' =>
        (e = .returned (.bool true) ∧ J m (pre ++ [x]) W' ∧ Kpt (fun b => K b ∨ (W0.heap.size ≤ b ∧ b < m)) W1 W') ∨
        (e = .returned (.bool false) ∧ Jx m (pre ++ [x]) W' ∧ Kpt (fun b => K b ∨ (W0.heap.size ≤ b ∧ b < m)) W1 W')) →
    CallsIn Fence.wide n Tryz.prog fid (#[.func (.yield y) #[] #[]] ++ lb) W0 fun e W' => (∃ v, e = .returned v) ∧ ∃ m, W0.heap.size ≤ m ∧ (J m S W' ∨ ∃ pre, Jx m pre W')

/-- how a round is left -/
def postW {β : Type} (K : Nat → Prop) (I Ix : Nat → List β → World → Prop) (m : Nat) (xs : List β) (W : World) : Exit → Act → World → Prop
  | .normal, _, W' => I m xs W' ∧ Kpt K W W'
  | .ret, _, W' => Ix m xs W' ∧ Kpt K W W'
  | _, _, _ => False

/-- a range over such an iterator -/
theorem rangeW {β : Type} {n : Nat} {g : Operand} {ps : Array Tmp} {assign body : Code} {Q : Exit → Act → World → Prop} {a : Act} {w : World} (h1 : 1 ≤ n) {gf : Nat} {lb : Array Value}
    (hg : a.eval g = .func (.func gf) #[] lb) (eg : ∀ args w, (callFunc gf args).run Tryz.prog w = .ok (.enter gf args) w)
    {Hd : β → World → World → Array Value → Prop} {K : Nat → Prop} {S : List β}
    (hseq : ∀ W0, w.grownBy W0 none → W0.heap.size = w.heap.size + 2 → SeqW (n - 1) gf lb Hd K S W0)
    (hK : ∀ b, K b → b < w.heap.size) (hps : ∀ x Wc W1 args, Hd x Wc W1 args → args.size = ps.size)
    (I Ix : Nat → List β → World → Prop) (hI : Clo w.heap.size I) (hIx : Clo w.heap.size Ix) (h0 : ∀ W', w.grownBy W' none → I W'.heap.size [] W')
    (Ax : Nat → List β → β → Act → World → World → Prop)
    (hAx : ∀ m pre x a' Wc W o, w.heap.size + 2 ≤ m → m ≤ Wc.heap.size → Below Wc.heap.size Wc W → Ax m pre x a' Wc W → Ax m pre x a' (Wc.putObj (w.heap.size + 1) o) (W.putObj (w.heap.size + 1) o))
    (hassign : ∀ (l m : Nat) (pre : List β) (x : β) (Wc W1 : World) (args : Array Value), w.heap.size + 2 ≤ m → m ≤ Wc.heap.size → pre ++ [x] <+: S → I m pre Wc → Below Wc.heap.size Wc W1 → Hd x Wc W1 args →
      assign.wpIn (Fence.wide.inRound l) (n - 1 - 1) Tryz.prog (Exit.then (fun a' W2 => Below W1.heap.size W1 W2 ∧ Ax m pre x a' Wc W2) (fun _ _ _ => False)) { tmps := (ps.zip args).foldl (fun t (p, v) => t.setIfInBounds p v) a.tmps, defers := [] } W1)
    (hbody : ∀ (l m : Nat) (pre : List β) (x : β) (a' : Act) (Wc W2 : World), w.heap.size + 2 ≤ m → m ≤ Wc.heap.size → pre ++ [x] <+: S → Below Wc.heap.size Wc W2 → Ax m pre x a' Wc W2 →
      body.wpIn (Fence.wide.inRound l) (n - 1 - 1) Tryz.prog (postW (fun b => K b ∨ (w.heap.size ≤ b ∧ b < m)) I Ix m (pre ++ [x]) W2) a' W2)
    (hdone : ∀ (D m : Nat) (W : World), w.heap.size ≤ D → D < m → I m S W → W.heap[D]? = some (.deferred (some [])) → Q .normal { a with defers := { target := .collected D, args := #[] } :: a.defers } W)
    (hstop : ∀ (D m : Nat) (pre : List β) (W : World), w.heap.size ≤ D → D < m → Ix m pre W → W.heap[D]? = some (.deferred (some [])) → Code.ret.wpIn Fence.wide n Tryz.prog Q { a with defers := { target := .collected D, args := #[] } :: a.defers } W) :
    (Code.rangeFunc g ps assign body).wpIn Fence.wide n Tryz.prog Q a w := by
  refine wpIn_rangeFunc fun fn hfn => ?_
  obtain ⟨W0, hW0⟩ : ∃ W0, (w.alloc (.deferred (some []))).alloc (.loop { state := .ready, pending := none, fn := fn, tmps := a.tmps, params := ps, assign := assign, body := body, defers := w.heap.size }) = W0 := ⟨_, rfl⟩
  have hz : W0.heap.size = w.heap.size + 2 := by rw [← hW0]; simp
  have hgr : w.grownBy W0 none := by rw [← hW0]; exact gb_alloc (World.grownBy_alloc w _ none) _
  have hL0 : W0.heap[w.heap.size + 1]? = some (.loop { state := .ready, pending := none, fn := fn, tmps := a.tmps, params := ps, assign := assign, body := body, defers := w.heap.size }) := by
    have h := World.alloc_heap_new (w.alloc (.deferred (some []))) (.loop { state := .ready, pending := none, fn := fn, tmps := a.tmps, params := ps, assign := assign, body := body, defers := w.heap.size })
    rw [World.size_alloc] at h
    rw [← hW0]; exact h
  have hD0 : W0.heap[w.heap.size]? = some (.deferred (some [])) := by
    rw [← hW0]; exact (Below.heap_alloc _ _ _ (by simp)).trans (World.alloc_heap_new w _)
  refine ⟨w.heap.size + 1, [{ target := .collected w.heap.size, args := #[] }], W0, { target := .fn (.func gf) lb, args := #[.func (.yield (w.heap.size + 1)) #[] #[]] }, W0, gf, #[.func (.yield (w.heap.size + 1)) #[] #[]] ++ lb, W0, by rw [← hW0]; exact run_enterLoop_outer _ _ _ _ _, by simp only [resolve, hg]; simp [go_sem], fun _ _ => trivial, by simp [invoke, go_sem, eg], fun _ => h1, ?_⟩
  refine (hseq W0 hgr hz (w.heap.size + 1)
    (fun m pre W => I m pre W ∧ W.heap[w.heap.size + 1]? = some (.loop { state := .ready, pending := none, fn := fn, tmps := a.tmps, params := ps, assign := assign, body := body, defers := w.heap.size }) ∧ W.heap[w.heap.size]? = some (.deferred (some [])))
    (fun m pre W => Ix m pre W ∧ W.heap[w.heap.size + 1]? = some (.loop { state := .done, pending := some .ret, fn := fn, tmps := a.tmps, params := ps, assign := assign, body := body, defers := w.heap.size }) ∧ W.heap[w.heap.size]? = some (.deferred (some [])))
    ?cl ?clx ?st ?yi).mono ?_
  case cl =>
    intro m pre A B row hm hJ hg2 hr
    refine ⟨hI m pre A B row (by omega) hJ.1 hg2 (fun r e => by have := hr r e; omega), (hg2.block _ (Array.getElem?_eq_some_iff.1 hJ.2.1).1 (fun e => by have := hr _ e.symm; omega)).trans hJ.2.1, (hg2.block _ (Array.getElem?_eq_some_iff.1 hJ.2.2).1 (fun e => by have := hr _ e.symm; omega)).trans hJ.2.2⟩
  case clx =>
    intro m pre A B row hm hJ hg2 hr
    refine ⟨hIx m pre A B row (by omega) hJ.1 hg2 (fun r e => by have := hr r e; omega), (hg2.block _ (Array.getElem?_eq_some_iff.1 hJ.2.1).1 (fun e => by have := hr _ e.symm; omega)).trans hJ.2.1, (hg2.block _ (Array.getElem?_eq_some_iff.1 hJ.2.2).1 (fun e => by have := hr _ e.symm; omega)).trans hJ.2.2⟩
  case st =>
    intro W' hg2
    exact ⟨h0 W' (gb_trans hgr hg2), (hg2.block _ (by omega) (by simp)).trans hL0, (hg2.block _ (by omega) (by simp)).trans hD0⟩
  case yi =>
    rintro m pre x Wc W1 args hm hmc hpx ⟨hi, hl, hd⟩ hb hH
    have hlc : w.heap.size + 1 < Wc.heap.size := by omega
    have hl1 := (hb.block _ hlc).trans hl
    have hy := run_yield (P := Tryz.prog) (args := args) hl1 (hps x Wc W1 args hH)
    refine ⟨fn, _, assign, body, hy, roundIn_of_wpIn hfn ?_⟩
    refine wpIn_mono (hassign (w.heap.size + 1) m pre x Wc W1 args (by omega) hmc hpx hi hb hH) ?_
    rintro e a' W2 he
    cases e with
    | normal =>
      obtain ⟨hb2, hax⟩ := he
      have hlw1 : w.heap.size + 1 < W1.heap.size := by have := hb.size; omega
      have hl2 := (hb2.block _ hlw1).trans hl1
      have hd2 : W2.heap[w.heap.size]? = some (.deferred (some [])) := (hb2.block _ (by omega)).trans ((hb.block _ (by omega)).trans hd)
      refine ⟨_, run_beginRound hl2 rfl, ?_⟩
      obtain ⟨Wb, hWb⟩ : ∃ Wb, W2.putObj (w.heap.size + 1) (.loop { state := .busy, pending := none, fn := fn, tmps := a.tmps, params := ps, assign := assign, body := body, defers := w.heap.size }) = Wb := ⟨_, rfl⟩
      obtain ⟨Wd, hWd⟩ : ∃ Wd, Wc.putObj (w.heap.size + 1) (.loop { state := .busy, pending := none, fn := fn, tmps := a.tmps, params := ps, assign := assign, body := body, defers := w.heap.size }) = Wd := ⟨_, rfl⟩
      have hs2 : w.heap.size + 1 < W2.heap.size := by have := hb2.size; omega
      have hlb : Wb.heap[w.heap.size + 1]? = some (.loop { state := .busy, pending := none, fn := fn, tmps := a.tmps, params := ps, assign := assign, body := body, defers := w.heap.size }) := by rw [← hWb]; exact World.putObj_heap_same hs2
      have hdb : Wb.heap[w.heap.size]? = some (.deferred (some [])) := by rw [← hWb]; exact (World.putObj_heap_other (by omega)).trans hd2
      have hzd : Wd.heap.size = Wc.heap.size := by rw [← hWd]; simp
      have hbc2 : Below Wc.heap.size Wc W2 := bt hb hb2
      have hbd : Below Wd.heap.size Wd Wb := by
        rw [hzd, ← hWb, ← hWd]
        refine ⟨hbc2.os, hbc2.tape, hbc2.output, by simpa using hbc2.size, fun k hk => ?_⟩
        by_cases e : k = w.heap.size + 1
        · subst e
          rw [World.putObj_heap_same hs2, World.putObj_heap_same hlc]
        · rw [World.putObj_heap_other e, World.putObj_heap_other e]
          exact hbc2.block k hk
      have hax2 : Ax m pre x a' Wd Wb := by rw [← hWb, ← hWd]; exact hAx m pre x a' Wc W2 _ (by omega) hmc hbc2 hax
      show body.wpIn (Fence.wide.inRound (w.heap.size + 1)) _ _ _ a' (W2.putObj (w.heap.size + 1) (.loop { state := .busy, pending := none, fn := fn, tmps := a.tmps, params := ps, assign := assign, body := body, defers := w.heap.size }))
      rw [hWb]
      refine wpIn_mono (hbody (w.heap.size + 1) m pre x a' Wd Wb (by omega) (by omega) hpx hbd hax2) ?_
      have hKw1 : ∀ b, (K b ∨ (W0.heap.size ≤ b ∧ b < m)) → b < W1.heap.size := by
        intro b h
        have := hb.size
        rcases h with h | h
        · have := hK b h; omega
        · omega
      have hKl : ¬ (K (w.heap.size + 1) ∨ (W0.heap.size ≤ w.heap.size + 1 ∧ w.heap.size + 1 < m)) := by
        rintro (h | h)
        · have := hK _ h; omega
        · omega
      have kin : Kpt (fun b => K b ∨ (W0.heap.size ≤ b ∧ b < m)) W1 Wb := by
        have k1 : Kpt (fun b => K b ∨ (W0.heap.size ≤ b ∧ b < m)) W1 W2 := Kpt.of_below hb2 hKw1
        rw [← hWb]
        exact k1.trans (Kpt.put _ _ _ hKl)
      have kout : ∀ (W3 : World) (o : Obj), Kpt (fun b => K b ∨ (w.heap.size ≤ b ∧ b < m)) Wb W3 → Kpt (fun b => K b ∨ (W0.heap.size ≤ b ∧ b < m)) W1 (W3.putObj (w.heap.size + 1) o) := fun W3 o k =>
        (kin.trans (k.imp fun b h => h.imp id (fun h => by omega))).trans (Kpt.put _ _ _ hKl)
      rintro e a3 W3 hp
      cases e with
      | normal =>
        obtain ⟨hi3, hk3⟩ := hp
        have hl3 := (hk3.same (w.heap.size + 1) (.inr (by omega))).trans hlb
        have hd3 := (hk3.same w.heap.size (.inr (by omega))).trans hdb
        refine ⟨_, _, run_endRound none hl3, .inl ⟨rfl, ⟨hI.put hi3 (by omega) (by omega) _, World.putObj_heap_same (Array.getElem?_eq_some_iff.1 hl3).1, (World.putObj_heap_other (by omega)).trans hd3⟩, kout W3 _ hk3⟩⟩
      | ret =>
        obtain ⟨hi3, hk3⟩ := hp
        have hl3 := (hk3.same (w.heap.size + 1) (.inr (by omega))).trans hlb
        have hd3 := (hk3.same w.heap.size (.inr (by omega))).trans hdb
        refine ⟨_, _, run_endRound (some .ret) hl3, .inr ⟨rfl, ⟨hIx.put hi3 (by omega) (by omega) _, World.putObj_heap_same (Array.getElem?_eq_some_iff.1 hl3).1, (World.putObj_heap_other (by omega)).trans hd3⟩, kout W3 _ hk3⟩⟩
      | exit id => exact hp.elim
      | goto t => exact hp.elim
      | panic ch => exact hp.elim
      | outgrown => exact hp.elim
    | exit id => exact he.elim
    | goto t => exact he.elim
    | ret => exact he.elim
    | panic ch => exact he.elim
    | outgrown => exact he.elim
  · rintro e W2 ⟨⟨v, rfl⟩, m, hm, ⟨hi, hl, hd⟩ | ⟨pre, hi, hl, hd⟩⟩
    · exact ⟨none, _, run_endLoop (P := Tryz.prog) hl (by simp), hdone _ m _ (Nat.le_refl _) (by omega) (hI.put hi (by omega) (by omega) _) ((World.putObj_heap_other (by omega)).trans hd)⟩
    · exact ⟨some .ret, _, run_endLoop (P := Tryz.prog) hl (by simp), hstop _ m pre _ (Nat.le_refl _) (by omega) (hIx.put hi (by omega) (by omega) _) ((World.putObj_heap_other (by omega)).trans hd)⟩
end Go.Proofs.YtfibbjngllelbaaGreat
