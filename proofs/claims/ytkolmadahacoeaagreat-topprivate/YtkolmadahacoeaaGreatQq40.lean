import Derived.Test.YtkolmadahacoeaaGreatQq39
import Derived.RangeFuncNested
import Derived.RangeFuncBound
import Derived.RangeFuncCalls
import Derived.RangeFuncLeaves
import Derived.Shelf.Abstract
import Derived.Shelf.RegionOpen
import Derived.OwnWalkIn
import Derived.TacticsInMore
import Derived.LoopNIn
import Derived.LoopIn
namespace Go.Proofs.YtkolmadahacoeaaGreat.K.P
open Go.RowKit Go.Proofs.YtkolmadahacoeaaGreat.K.Ds
set_option maxHeartbeats 1000000 in
set_option maxRecDepth 100000 in
theorem bspentNo_any (N : Nat → Prop) (bk bm n : Nat) (v : Value) (D : DataW Value) (done : List En) (nm : ByteArray) (w : World) (hB : BookM w N bk bm n v D done) (hs : nm.size ≤ 4294967296) (hbud : budT done nm = none) :
  Calls Tryz.prog 33 #[.pointer (some ⟨bk, 0, none⟩), .string nm] w fun x w' => x = .returned (.tuple #[rv 0 0, rv 0 0, .int .i64 7]) ∧ Below w.heap.size w w' := by
 obtain ⟨hhas, hat⟩ := hB.has_no hbud
 obtain ⟨w0, hw0⟩ : ∃ w0, (w.alloc (.cells #[.int .i64 0, .int .i64 0] 28)).alloc (.cells #[.int .i64 0, .int .i64 0] 28) = w0 := ⟨_, rfl⟩
 have B0 : Below w.heap.size w w0 := by rw [← hw0]; exact bal (ba _ _) _
 have hz0 : w0.heap.size = w.heap.size + 1 + 1 := by rw [← hw0]; simp
 have V0 : TwoB w0 w.heap.size (.int .i64 0) (.int .i64 0) := by rw [← hw0]; exact (TwoB.new _ _ _ 28 _ rfl).below (ba _ _)
 have V1 : TwoB w0 (w.heap.size + 1) (.int .i64 0) (.int .i64 0) := by rw [← hw0]; exact TwoB.new _ _ _ 28 _ (by simp)
 have hlk := hB.lookAt hs hat hhas (gb_none B0)
 obtain ⟨t0, t1, tf0, tf1, htl⟩ := (hB.keep B0).two
 obtain ⟨c0, c1, f0, f1, hl0⟩ := V0
 obtain ⟨d0, d1, g0, g1, hl1⟩ := V1
 have hbk : bk < w.heap.size := hB.two.lt
 have hbk2 : bk < w.heap.size + 1 + 1 := by omega
 clear hB hat hhas hbud
 go_enter Tryz.func33, Tryz.ntmps33
 go_wp2
 exact bodyPost_ret (v := .tuple #[rv 0 0, rv 0 0, .int .i64 7]) (by simp [results, Tryz.results33, go_sem, c0, c1, d0, d1, hz0]) rfl ⟨rfl, bal (bs (bs (bs (bs B0 (by simp) _) (by simp) _) (by simp) _) (by simp) _) _⟩
set_option maxHeartbeats 1000000 in
set_option maxRecDepth 100000 in
theorem bspent_any (N : Nat → Prop) (bk bm n : Nat) (v : Value) (D : DataW Value) (done : List En) (nm : ByteArray) (w : World) (hB : BookM w N bk bm n v D done) (hs : nm.size ≤ 4294967296) (b : Rq) (hbud : budT done nm = some b) (sp : Rq) (hsp : (spentT done nm).1 = sp) :
  Calls Tryz.prog 33 #[.pointer (some ⟨bk, 0, none⟩), .string nm] w fun x w' => x = .returned (.tuple #[rvq sp, rvq b, .int .i64 0]) ∧ Below w.heap.size w w' := by
 obtain ⟨bp, np, Dp, hat, hPp, hnp, _⟩ := (hB.el nm b hbud).ex
 have hhas : Maps.has D (kN nm) = true := (hB.is nm).2 ⟨b, hbud⟩
 have hinv := hB.inv
 have hln := hinv.len
 obtain ⟨al, hal⟩ : ∃ al, (allP done nm).1 = al := ⟨_, rfl⟩
 rw [hal] at hat
 have hmu : mulT al (mostT (prtP done nm) oneQ (prs done nm)).1 = (sp, 0) := by
  have h1 := hinv.spent nm
  rw [hal] at h1
  rw [← h1, ← hsp]
  exact Prod.ext rfl (hinv.ok nm)
 have ks := fun W (hW : Pts W bp np Dp (fun p => p ∈ prs done nm) (fun p => (prtP done nm p).1)) => spent_any b al bp np Dp _ _ W hW (by omega) _ (hinv.top nm).2 sp 0 hmu
 obtain ⟨w0, hw0⟩ : ∃ w0, (w.alloc (.cells #[.int .i64 0, .int .i64 0] 28)).alloc (.cells #[.int .i64 0, .int .i64 0] 28) = w0 := ⟨_, rfl⟩
 have B0 : Below w.heap.size w w0 := by rw [← hw0]; exact bal (ba _ _) _
 have hz0 : w0.heap.size = w.heap.size + 1 + 1 := by rw [← hw0]; simp
 have V0 : Hid (TwoB w0 w.heap.size (.int .i64 0) (.int .i64 0)) := by rw [← hw0]; exact (TwoB.new _ _ _ 28 _ rfl).below (ba _ _)
 have V1 : Hid (TwoB w0 (w.heap.size + 1) (.int .i64 0) (.int .i64 0)) := by rw [← hw0]; exact TwoB.new _ _ _ 28 _ (by simp)
 have hlk := hB.lookAt hs hat hhas (gb_none B0)
 have P1 : Hid (Pts (w0.alloc (.cells #[.int .i64 b.1, .int .i64 b.2, .int .i64 al.1, .int .i64 al.2, .map (some bp)] 129)) bp np Dp (fun p => p ∈ prs done nm) (fun p => (prtP done nm p).1)) := hPp.keep (bal B0 _)
 obtain ⟨t0, t1, tf0, tf1, htl⟩ := (hB.keep B0).two
 have hbk : bk < w.heap.size := hB.two.lt
 have hbk2 : bk < w.heap.size + 1 + 1 := by omega
 clear hB hat hhas hbud hPp hinv hal hsp hmu
 go_enter Tryz.func33, Tryz.ntmps33
 go_wp2_with fail
 refine (ks _ P1.out).mono ?_
 rintro e1 w1 ⟨rfl, hb1⟩
 have V3 : FivB w1 (w.heap.size + 1 + 1) (.int .i64 b.1) (.int .i64 b.2) (.int .i64 al.1) (.int .i64 al.2) (.map (some bp)) := (FivB.new w0 _ _ _ _ _ 129 _ hz0.symm).below hb1
 obtain ⟨c0, c1, f0, f1, hl0⟩ := (V0.out.below (ba _ _)).below hb1
 obtain ⟨d0, d1, g0, g1, hl1⟩ := (V1.out.below (ba _ _)).below hb1
 obtain ⟨x0, x1, x2, x3, x4, _, _, _, _, _, hx⟩ := V3
 have B1 : Below w.heap.size w w1 := bt (bal B0 _) hb1
 obtain ⟨y0, y1, _, _, _⟩ := ((((V0.out.below (ba _ _)).below hb1).put (.int .i64 sp.1) (.int .i64 sp.2)).put (.int .i64 sp.1) (.int .i64 sp.2))
 go_wp2_with fail
 go_region
 all_goals go_wp2_with fail
 all_goals exact bodyPost_ret (v := .tuple #[rvq sp, rvq b, .int .i64 0]) (by simp [results, Tryz.results33, go_sem, y0, y1, d0, d1]) rfl ⟨rfl, Below.drew (bs (bs (bs (bs (bs (bs B1 (by simp) _) (by simp) _) (by simp) _) (by simp) _) (by simp) _) (by simp) _)⟩
open Go.Maps Go.Sort
def nLs (done : List En) : List (List UInt8) := ((opsT done).map (fun x => x.data.toList)).mergeSort (fun x y => decide (x ≤ y))
theorem nLs_len (done : List En) : (nLs done).length = (opsT done).length := by simp [nLs]
theorem nLs_mem (done : List En) (x : List UInt8) : x ∈ nLs done ↔ ∃ y ∈ opsT done, y.data.toList = x := by simp [nLs]
theorem nLs_of {w : World} {N : Nat → Prop} {bk bm n : Nat} {v : Value} {D : DataW Value} {done : List En} (h : BookM w N bk bm n v D done) {ss : List (List UInt8)} (hs : ss.Perm (strKeys D)) : ss.mergeSort (fun x y => decide (x ≤ y)) = nLs done := by
 have hp : ((opsT done).map (fun x => x.data.toList)).Perm (strKeys D) := by
  obtain ⟨es, rfl, hko⟩ := h.own.keysOf
  obtain ⟨es', hD', hpw, _⟩ := h.own.entries law9
  obtain rfl : es = es' := by simpa using hD'
  refine perm_strKeys hpw (fun p hp => by obtain ⟨v, hv⟩ := hko p hp; obtain ⟨y, _, hy, _⟩ := Maps.keyOf_str Tryz.underlying9 hv; exact ⟨y, hy⟩) ?_ (fun x => ?_)
  ·refine List.pairwise_map.2 (h.inv.nod.imp fun {a b} hab e => hab ?_)
   apply ByteArray.ext
   exact Array.toList_inj.1 e
  ·constructor
   ·intro hx
    obtain ⟨y, hy, rfl⟩ := List.mem_map.1 hx
    refine (h.is y).2 ?_
    cases hb : budT done y with
    | some b => exact ⟨b, rfl⟩
    | none => exact absurd hy ((bud_ops done y).1 hb)
   ·intro hx
    have h1 : Maps.has (DataW.map es) (kN ⟨x.toArray⟩) = true := by simpa [kN] using hx
    obtain ⟨b, hb⟩ := (h.is ⟨x.toArray⟩).1 h1
    have : (⟨x.toArray⟩ : ByteArray) ∈ opsT done := by
     refine Classical.byContradiction fun hn => ?_
     rw [(bud_ops done _).2 hn] at hb
     cases hb
    exact List.mem_map.2 ⟨_, this, by simp⟩
 exact mergeSort_of_perm (hs.trans hp.symm)
set_option maxHeartbeats 1000000 in
theorem names_any (N : Nat → Prop) (bk bm n : Nat) (v : Value) (D : DataW Value) (done : List En) (w : World) (hB : BookM w N bk bm n v D done) :
  Calls Tryz.prog 32 #[.pointer (some ⟨bk, 0, none⟩)] w fun x w' => ∃ g r, x = .returned (.func (.func 59) #[] #[.pointer (some ⟨g, 0, none⟩)]) ∧ Below w.heap.size w w' ∧ w.heap.size ≤ g ∧ g < w'.heap.size ∧ w'.cell? ⟨g, 0, none⟩ = some r ∧ w'.ownsRow w.heap.size 9 1 r (nLs done).length ((nLs done).map encStr) := by
 have HB : Hid (BookM w N bk bm n v D done) := hB
 have hln := hB.inv.len
 have hcn := hB.cnt
 obtain ⟨t0, t1, tf0, tf1, htl⟩ := hB.two
 clear hB
 go_enter Tryz.func32, Tryz.ntmps32
 go_wp2_with fail
 refine (keysS_any _ _).mono ?_
 rintro e1 w1 ⟨rfl, rfl⟩
 go_wp2_with fail
 refine (sortedS_any _ bm n D hR _ (by simp) (nc _ _ 0 _ rfl rfl) (HB.out.own.alloc _) (by omega)).mono ?_
 rintro e2 w2 ⟨r, ss, rfl, hp, hrow, hb2⟩
 have hss := nLs_of HB.out hp
 have hsl : ss.length = (nLs done).length := by rw [← hss, List.length_mergeSort]
 rw [hss, hsl] at hrow
 have HR : Hid (w2.ownsRow (w.alloc (.cells #[.map (some bm)] 124)).heap.size 9 1 r (nLs done).length ((nLs done).map encStr)) := hrow
 obtain ⟨ra, rc, rfl⟩ : ∃ a c, r = .slice a (nLs done).length c := by
  rcases hrow.2 with ⟨h1, h2⟩ | ⟨g, cap, cur, h1, _⟩
  ·exact ⟨none, 0, by rw [h1, h2]⟩
  ·exact ⟨_, _, h1⟩
 clear hp hss hsl hrow
 go_wp2
 go_ret
 refine ⟨_, _, rfl, bal (bt (ba _ _) hb2) _, ?_, by simp, nc _ _ 0 _ rfl rfl, ?_⟩
 ·have := hb2.size; simp at this; omega
 ·exact ownsRow_base_a ((HR.out).kept (World.grownBy_alloc w2 _ none) (by cases h : (Value.slice ra (nLs done).length rc).ownBlock <;> simp)) (by simp)
end Go.Proofs.YtkolmadahacoeaaGreat.K.P
namespace Go.Proofs.YtkolmadahacoeaaGreat.K.P
open Go.RowKit Go.Shelf Go.Proofs.YtkolmadahacoeaaGreat.K.Ds
structure Kpt (K : Nat → Prop) (W W' : World) : Prop where
 size : W.heap.size ≤ W'.heap.size
 same : ∀ b, K b → W'.heap[b]? = W.heap[b]?
theorem Kpt.trans {K : Nat → Prop} {A B C : World} (h : Kpt K A B) (k : Kpt K B C) : Kpt K A C := ⟨Nat.le_trans h.size k.size, fun b hb => (k.same b hb).trans (h.same b hb)⟩
theorem Kpt.imp {K K' : Nat → Prop} {A B : World} (h : Kpt K A B) (hk : ∀ b, K' b → K b) : Kpt K' A B := ⟨h.size, fun b hb => h.same b (hk b hb)⟩
theorem Kpt.put {K : Nat → Prop} (W : World) (l : Nat) (o : Obj) (h : ¬ K l) : Kpt K W (W.putObj l o) := ⟨by simp, fun b hb => World.putObj_heap_other (fun e => h (by rw [← e]; exact hb))⟩
theorem Kpt.of_below {K : Nat → Prop} {n₀ : Nat} {A B : World} (h : Below n₀ A B) (hK : ∀ b, K b → b < n₀) : Kpt K A B := ⟨h.size, fun b hb => h.block b (hK b hb)⟩
theorem Kpt.of_gb {K : Nat → Prop} {A B : World} {row : Option Nat} (h : A.grownBy B row) (hK : ∀ b, K b → b < A.heap.size ∧ row ≠ some b) : Kpt K A B := ⟨h.size, fun b hb => h.block b (hK b hb).1 (fun e => (hK b hb).2 e.symm)⟩
def Clo {β : Type} (lo : Nat) (J : Nat → List β → World → Prop) : Prop :=
 ∀ m pre A B row, lo ≤ m → J m pre A → A.grownBy B row → (∀ r, row = some r → lo ≤ r ∧ r < m) → J m pre B
theorem Clo.put {β : Type} {lo m l : Nat} {J : Nat → List β → World → Prop} {pre : List β} {A : World} (h : Clo lo J) (hJ : J m pre A) (hlo : lo ≤ l) (hl : l < m) (o : Obj) : J m pre (A.putObj l o) :=
 h m pre A _ _ (by omega) hJ (grownBy_putObj' A l o) (fun r e => by cases e; exact ⟨hlo, hl⟩)
def SeqW (n fid : Nat) (lb : Array Value) {β : Type} (Hd : β → World → World → Array Value → Prop) (K : Nat → Prop) (S : List β) (W0 : World) : Prop :=
 ∀ (y : Nat) (J Jx : Nat → List β → World → Prop), Clo W0.heap.size J → Clo W0.heap.size Jx →
  (∀ W', W0.grownBy W' none → J W'.heap.size [] W') →
  (∀ m pre x Wc W1 args, W0.heap.size ≤ m → m ≤ Wc.heap.size → pre ++ [x] <+: S → J m pre Wc → Below Wc.heap.size Wc W1 → Hd x Wc W1 args →
   YieldAt Fence.wide (n - 1) Tryz.prog y args W1 fun e W' =>
    (e = .returned (.bool true) ∧ J m (pre ++ [x]) W' ∧ Kpt (fun b => K b ∨ (W0.heap.size ≤ b ∧ b < m)) W1 W') ∨
    (e = .returned (.bool false) ∧ Jx m (pre ++ [x]) W' ∧ Kpt (fun b => K b ∨ (W0.heap.size ≤ b ∧ b < m)) W1 W')) →
  CallsIn Fence.wide n Tryz.prog fid (#[.func (.yield y) #[] #[]] ++ lb) W0 fun e W' => (∃ v, e = .returned v) ∧ ∃ m, W0.heap.size ≤ m ∧ (J m S W' ∨ ∃ pre, Jx m pre W')
def postW {β : Type} (K : Nat → Prop) (I Ix : Nat → List β → World → Prop) (m : Nat) (xs : List β) (W : World) : Exit → Act → World → Prop
 | .normal, _, W' => I m xs W' ∧ Kpt K W W'
 | .ret, _, W' => Ix m xs W' ∧ Kpt K W W'
 | _, _, _ => False
theorem rangeW {β : Type} {n : Nat} {g : Operand} {ps : Array Tmp} {assign body : Code} {Q : Exit → Act → World → Prop} {a : Act} {w : World} (h1 : 1 ≤ n) {gf : Nat} {lb : Array Value}
  (hg : a.eval g = .func (.func gf) #[] lb) (eg : ∀ args w, (callFunc gf args).run Tryz.prog w = .ok (.enter gf args) w)
  {Hd : β → World → World → Array Value → Prop} {K : Nat → Prop} {S : List β}
  (hseq : ∀ W0, w.grownBy W0 none → W0.heap.size = w.heap.size + 2 → SeqW (n - 1) gf lb Hd K S W0)
  (hK : ∀ b, K b → b < w.heap.size) (hps : ∀ x Wc W1 args, Hd x Wc W1 args → args.size = ps.size)
  (I Ix : Nat → List β → World → Prop) (hI : Clo w.heap.size I) (hIx : Clo w.heap.size Ix) (h0 : ∀ W', w.grownBy W' none → I W'.heap.size [] W')
  (Ax : Nat → List β → β → Act → World → World → Prop)
  (hAx : ∀ m pre x a' Wc W o, w.heap.size + 2 ≤ m → m ≤ Wc.heap.size → Below Wc.heap.size Wc W → Ax m pre x a' Wc W → Ax m pre x a' (Wc.putObj (w.heap.size + 1) o) (W.putObj (w.heap.size + 1) o))
  (hassign : ∀ (l m : Nat) (pre : List β) (x : β) (Wc W1 : World) (args : Array Value), w.heap.size + 2 ≤ m → m ≤ Wc.heap.size → pre ++ [x] <+: S → I m pre Wc → Below Wc.heap.size Wc W1 → Hd x Wc W1 args →
   assign.wpIn (Fence.wide.inRound l) (n - 1 - 1) Tryz.prog (Exit.then (fun a' W2 => Below W1.heap.size W1 W2 ∧ Ax m pre x a' Wc W2) (fun _ _ _ => False)) { tmps := (ps.zip args).foldl (fun t (p, v) => t.setIfInBounds p v) a.tmps, defers := [] } W1)
  (hbody : ∀ (l m : Nat) (pre : List β) (x : β) (a' : Act) (Wc W2 : World), w.heap.size + 2 ≤ m → m ≤ Wc.heap.size → pre ++ [x] <+: S → Below Wc.heap.size Wc W2 → Ax m pre x a' Wc W2 →
   body.wpIn (Fence.wide.inRound l) (n - 1 - 1) Tryz.prog (postW (fun b => K b ∨ (w.heap.size ≤ b ∧ b < m)) I Ix m (pre ++ [x]) W2) a' W2)
  (hdone : ∀ (D m : Nat) (W : World), w.heap.size ≤ D → D < m → I m S W → W.heap[D]? = some (.deferred (some [])) → Q .normal { a with defers := { target := .collected D, args := #[] } :: a.defers } W)
  (hstop : ∀ (D m : Nat) (pre : List β) (W : World), w.heap.size ≤ D → D < m → Ix m pre W → W.heap[D]? = some (.deferred (some [])) → Code.ret.wpIn Fence.wide n Tryz.prog Q { a with defers := { target := .collected D, args := #[] } :: a.defers } W) :
  (Code.rangeFunc g ps assign body).wpIn Fence.wide n Tryz.prog Q a w := by
 refine wpIn_rangeFunc fun fn hfn => ?_
 obtain ⟨W0, hW0⟩ : ∃ W0, (w.alloc (.deferred (some []))).alloc (.loop { state := .ready, pending := none, fn := fn, tmps := a.tmps, params := ps, assign := assign, body := body, defers := w.heap.size }) = W0 := ⟨_, rfl⟩
 have hz : W0.heap.size = w.heap.size + 2 := by rw [← hW0]; simp
 have hgr : w.grownBy W0 none := by rw [← hW0]; exact gb_alloc (World.grownBy_alloc w _ none) _
 have hL0 : W0.heap[w.heap.size + 1]? = some (.loop { state := .ready, pending := none, fn := fn, tmps := a.tmps, params := ps, assign := assign, body := body, defers := w.heap.size }) := by
  have h := World.alloc_heap_new (w.alloc (.deferred (some []))) (.loop { state := .ready, pending := none, fn := fn, tmps := a.tmps, params := ps, assign := assign, body := body, defers := w.heap.size })
  rw [World.size_alloc] at h
  rw [← hW0]; exact h
 have hD0 : W0.heap[w.heap.size]? = some (.deferred (some [])) := by
  rw [← hW0]; exact (Below.heap_alloc _ _ _ (by simp)).trans (World.alloc_heap_new w _)
 refine ⟨w.heap.size + 1, [{ target := .collected w.heap.size, args := #[] }], W0, { target := .fn (.func gf) lb, args := #[.func (.yield (w.heap.size + 1)) #[] #[]] }, W0, gf, #[.func (.yield (w.heap.size + 1)) #[] #[]] ++ lb, W0, by rw [← hW0]; exact run_enterLoop_outer _ _ _ _ _, by simp only [resolve, hg]; simp [go_sem], fun _ _ => trivial, by simp [invoke, go_sem, eg], fun _ => h1, ?_⟩
 refine (hseq W0 hgr hz (w.heap.size + 1)
  (fun m pre W => I m pre W ∧ W.heap[w.heap.size + 1]? = some (.loop { state := .ready, pending := none, fn := fn, tmps := a.tmps, params := ps, assign := assign, body := body, defers := w.heap.size }) ∧ W.heap[w.heap.size]? = some (.deferred (some [])))
  (fun m pre W => Ix m pre W ∧ W.heap[w.heap.size + 1]? = some (.loop { state := .done, pending := some .ret, fn := fn, tmps := a.tmps, params := ps, assign := assign, body := body, defers := w.heap.size }) ∧ W.heap[w.heap.size]? = some (.deferred (some [])))
  ?cl ?clx ?st ?yi).mono ?_
 case cl =>
  intro m pre A B row hm hJ hg2 hr
  refine ⟨hI m pre A B row (by omega) hJ.1 hg2 (fun r e => by have := hr r e; omega), (hg2.block _ (Array.getElem?_eq_some_iff.1 hJ.2.1).1 (fun e => by have := hr _ e.symm; omega)).trans hJ.2.1, (hg2.block _ (Array.getElem?_eq_some_iff.1 hJ.2.2).1 (fun e => by have := hr _ e.symm; omega)).trans hJ.2.2⟩
 case clx =>
  intro m pre A B row hm hJ hg2 hr
  refine ⟨hIx m pre A B row (by omega) hJ.1 hg2 (fun r e => by have := hr r e; omega), (hg2.block _ (Array.getElem?_eq_some_iff.1 hJ.2.1).1 (fun e => by have := hr _ e.symm; omega)).trans hJ.2.1, (hg2.block _ (Array.getElem?_eq_some_iff.1 hJ.2.2).1 (fun e => by have := hr _ e.symm; omega)).trans hJ.2.2⟩
 case st =>
  intro W' hg2
  exact ⟨h0 W' (gb_trans hgr hg2), (hg2.block _ (by omega) (by simp)).trans hL0, (hg2.block _ (by omega) (by simp)).trans hD0⟩
 case yi =>
  rintro m pre x Wc W1 args hm hmc hpx ⟨hi, hl, hd⟩ hb hH
  have hlc : w.heap.size + 1 < Wc.heap.size := by omega
  have hl1 := (hb.block _ hlc).trans hl
  have hy := run_yield (P := Tryz.prog) (args := args) hl1 (hps x Wc W1 args hH)
  refine ⟨fn, _, assign, body, hy, roundIn_of_wpIn hfn ?_⟩
  refine wpIn_mono (hassign (w.heap.size + 1) m pre x Wc W1 args (by omega) hmc hpx hi hb hH) ?_
  rintro e a' W2 he
  cases e with
  | normal =>
   obtain ⟨hb2, hax⟩ := he
   have hlw1 : w.heap.size + 1 < W1.heap.size := by have := hb.size; omega
   have hl2 := (hb2.block _ hlw1).trans hl1
   have hd2 : W2.heap[w.heap.size]? = some (.deferred (some [])) := (hb2.block _ (by omega)).trans ((hb.block _ (by omega)).trans hd)
   refine ⟨_, run_beginRound hl2 rfl, ?_⟩
   obtain ⟨Wb, hWb⟩ : ∃ Wb, W2.putObj (w.heap.size + 1) (.loop { state := .busy, pending := none, fn := fn, tmps := a.tmps, params := ps, assign := assign, body := body, defers := w.heap.size }) = Wb := ⟨_, rfl⟩
   obtain ⟨Wd, hWd⟩ : ∃ Wd, Wc.putObj (w.heap.size + 1) (.loop { state := .busy, pending := none, fn := fn, tmps := a.tmps, params := ps, assign := assign, body := body, defers := w.heap.size }) = Wd := ⟨_, rfl⟩
   have hs2 : w.heap.size + 1 < W2.heap.size := by have := hb2.size; omega
   have hlb : Wb.heap[w.heap.size + 1]? = some (.loop { state := .busy, pending := none, fn := fn, tmps := a.tmps, params := ps, assign := assign, body := body, defers := w.heap.size }) := by rw [← hWb]; exact World.putObj_heap_same hs2
   have hdb : Wb.heap[w.heap.size]? = some (.deferred (some [])) := by rw [← hWb]; exact (World.putObj_heap_other (by omega)).trans hd2
   have hzd : Wd.heap.size = Wc.heap.size := by rw [← hWd]; simp
   have hbc2 : Below Wc.heap.size Wc W2 := bt hb hb2
   have hbd : Below Wd.heap.size Wd Wb := by
    rw [hzd, ← hWb, ← hWd]
    refine ⟨hbc2.os, hbc2.tape, hbc2.output, by simpa using hbc2.size, fun k hk => ?_⟩
    by_cases e : k = w.heap.size + 1
    ·subst e
     rw [World.putObj_heap_same hs2, World.putObj_heap_same hlc]
    ·rw [World.putObj_heap_other e, World.putObj_heap_other e]
     exact hbc2.block k hk
   have hax2 : Ax m pre x a' Wd Wb := by rw [← hWb, ← hWd]; exact hAx m pre x a' Wc W2 _ (by omega) hmc hbc2 hax
   show body.wpIn (Fence.wide.inRound (w.heap.size + 1)) _ _ _ a' (W2.putObj (w.heap.size + 1) (.loop { state := .busy, pending := none, fn := fn, tmps := a.tmps, params := ps, assign := assign, body := body, defers := w.heap.size }))
   rw [hWb]
   refine wpIn_mono (hbody (w.heap.size + 1) m pre x a' Wd Wb (by omega) (by omega) hpx hbd hax2) ?_
   have hKw1 : ∀ b, (K b ∨ (W0.heap.size ≤ b ∧ b < m)) → b < W1.heap.size := by
    intro b h
    have := hb.size
    rcases h with h | h
    ·have := hK b h; omega
    ·omega
   have hKl : ¬ (K (w.heap.size + 1) ∨ (W0.heap.size ≤ w.heap.size + 1 ∧ w.heap.size + 1 < m)) := by
    rintro (h | h)
    ·have := hK _ h; omega
    ·omega
   have kin : Kpt (fun b => K b ∨ (W0.heap.size ≤ b ∧ b < m)) W1 Wb := by
    have k1 : Kpt (fun b => K b ∨ (W0.heap.size ≤ b ∧ b < m)) W1 W2 := Kpt.of_below hb2 hKw1
    rw [← hWb]
    exact k1.trans (Kpt.put _ _ _ hKl)
   have kout : ∀ (W3 : World) (o : Obj), Kpt (fun b => K b ∨ (w.heap.size ≤ b ∧ b < m)) Wb W3 → Kpt (fun b => K b ∨ (W0.heap.size ≤ b ∧ b < m)) W1 (W3.putObj (w.heap.size + 1) o) := fun W3 o k =>
    (kin.trans (k.imp fun b h => h.imp id (fun h => by omega))).trans (Kpt.put _ _ _ hKl)
   rintro e a3 W3 hp
   cases e with
   | normal =>
    obtain ⟨hi3, hk3⟩ := hp
    have hl3 := (hk3.same (w.heap.size + 1) (.inr (by omega))).trans hlb
    have hd3 := (hk3.same w.heap.size (.inr (by omega))).trans hdb
    refine ⟨_, _, run_endRound none hl3, .inl ⟨rfl, ⟨hI.put hi3 (by omega) (by omega) _, World.putObj_heap_same (Array.getElem?_eq_some_iff.1 hl3).1, (World.putObj_heap_other (by omega)).trans hd3⟩, kout W3 _ hk3⟩⟩
   | ret =>
    obtain ⟨hi3, hk3⟩ := hp
    have hl3 := (hk3.same (w.heap.size + 1) (.inr (by omega))).trans hlb
    have hd3 := (hk3.same w.heap.size (.inr (by omega))).trans hdb
    refine ⟨_, _, run_endRound (some .ret) hl3, .inr ⟨rfl, ⟨hIx.put hi3 (by omega) (by omega) _, World.putObj_heap_same (Array.getElem?_eq_some_iff.1 hl3).1, (World.putObj_heap_other (by omega)).trans hd3⟩, kout W3 _ hk3⟩⟩
   | exit id => exact hp.elim
   | goto t => exact hp.elim
   | panic ch => exact hp.elim
   | outgrown => exact hp.elim
  | exit id => exact he.elim
  | goto t => exact he.elim
  | ret => exact he.elim
  | panic ch => exact he.elim
  | outgrown => exact he.elim
 ·rintro e W2 ⟨⟨v, rfl⟩, m, hm, ⟨hi, hl, hd⟩ | ⟨pre, hi, hl, hd⟩⟩
  ·exact ⟨none, _, run_endLoop (P := Tryz.prog) hl (by simp), hdone _ m _ (Nat.le_refl _) (by omega) (hI.put hi (by omega) (by omega) _) ((World.putObj_heap_other (by omega)).trans hd)⟩
  ·exact ⟨some .ret, _, run_endLoop (P := Tryz.prog) hl (by simp), hstop _ m pre _ (Nat.le_refl _) (by omega) (hIx.put hi (by omega) (by omega) _) ((World.putObj_heap_other (by omega)).trans hd)⟩
attribute [local go_sem] Oper.semAt_some
structure NamF (w : World) (g b : Nat) (a : Option Addr) (c : Nat) (xs : List (List UInt8)) : Prop where
 cc : w.cell? ⟨g, 0, none⟩ = some (.slice a xs.length c)
 ax : xs ≠ [] → a = some ⟨b, 0, none⟩
 cx : ∀ i x, xs[i]? = some x → w.cell? ⟨b, i, none⟩ = some (encStr x)
theorem NamF.kpt {w w' : World} {g b : Nat} {a : Option Addr} {c : Nat} {xs : List (List UInt8)} {K : Nat → Prop} (h : NamF w g b a c xs) (k : Kpt K w w') (h1 : K g) (h2 : K b) : NamF w' g b a c xs :=
 ⟨(World.cell?_of_block (w := w) (a := ⟨g, 0, none⟩) (k.same _ h1)).trans h.cc, h.ax, fun i x hi => (World.cell?_of_block (w := w) (a := ⟨b, i, none⟩) (k.same _ h2)).trans (h.cx i x hi)⟩
def HdN (x : List UInt8) (Wc W1 : World) (args : Array Value) : Prop := W1 = Wc ∧ args = #[encStr x]
set_option maxRecDepth 100000 in
set_option maxHeartbeats 2000000 in
theorem nseq (n : Nat) (hn : 1 ≤ n) (g b : Nat) (a : Option Addr) (c : Nat) (xs : List (List UInt8)) (K : Nat → Prop) (W0 : World) (hsm : xs.length ≤ 4096) (hf : NamF W0 g b a c xs) (kg : K g) (kb : K b) :
  SeqW n 59 #[.pointer (some ⟨g, 0, none⟩)] HdN K xs W0 := by
 intro y J Jx hJ hJx hst hY
 have HF0 : Hid (NamF W0 g b a c xs) := hf
 have c0 := hf.cc
 have HJ0 : Hid (J W0.heap.size [] W0) := hst W0 (gb_refl _ _)
 obtain ⟨m, hm⟩ : ∃ m, W0.heap.size = m := ⟨_, rfl⟩
 have HM0 : Hid (m ≤ W0.heap.size) := by rw [Hid, hm]; exact Nat.le_refl _
 rw [hm] at HJ0
 have hm0 : W0.heap.size ≤ m := by omega
 clear hf hm
 refine callsIn_of_wp Tryz.func59 rfl trivial ?_ rfl
 simp only [Tryz.ntmps59, List.size_toArray, List.length_cons, List.length_nil, Nat.reduceAdd, Nat.reduceSub, Array.replicate_succ, Array.replicate_zero, List.push_toArray, List.append_toArray, List.nil_append, List.cons_append]
 gi_wp2
 gi_loopw [7] (fun s wr => ∃ (k : Nat), s = .int .i64 (k : Int) ∧ k ≤ xs.length ∧ Hid (J m (xs.take k) wr) ∧ Hid (NamF wr g b a c xs) ∧ Hid (m ≤ wr.heap.size)) (fun s _ => xs.length - (intOf s).toNat)
 case atStart => exact ⟨0, rfl, Nat.zero_le _, HJ0, HF0, HM0⟩
 case round =>
  obtain ⟨k, rfl, hk, HJ, HF, HM⟩ := hrel
  by_cases hk1 : k < xs.length
  ·obtain ⟨x, hx⟩ := get_lt hk1
   obtain rfl := HF.out.ax (ne_of_lt hk1)
   have e1 := HF.out.cx k x hx
   have e0 := HF.out.cc
   have z1 : (k : Int) < (xs.length : Int) := by omega
   have htk : xs.take (k + 1) = xs.take k ++ [x] := by rw [List.take_add_one, hx]; rfl
   have HTK : Hid (xs.take (k + 1) = xs.take k ++ [x]) := htk
   have hpx : xs.take k ++ [x] <+: xs := by rw [← htk]; exact List.take_prefix _ _
   obtain ⟨fn, tmps, assign, body, hy, hR⟩ := hY m (xs.take k) x wr wr #[encStr x] hm0 HM.out hpx HJ.out (Below.refl _ _) ⟨rfl, rfl⟩
   clear hx htk hpx
   gi_wp2
   refine hR.mono ?_
   rintro e W5 (⟨rfl, hJ5, hk5⟩ | ⟨rfl, hJx5, hk5⟩)
   ·have HF5 : Hid (NamF W5 g b (some ⟨b, 0, none⟩) c xs) := HF.out.kpt hk5 (.inl kg) (.inl kb)
    have HM5 : Hid (m ≤ W5.heap.size) := Nat.le_trans HM.out hk5.size
    have HJ5 : Hid (J m (xs.take (k + 1)) W5) := by rw [Hid, HTK.out]; exact hJ5
    clear hJ5
    gi_wp2
    go_roundw
    case rel => exact ⟨k + 1, by go_num, by omega, HJ5, HF5, HM5⟩
    case measure => simp [intOf]; omega
   ·gi_wp2
    refine bodyPost_ret (results_none rfl _ _ _) rfl ?_
    exact ⟨⟨_, rfl⟩, m, hm0, .inr ⟨_, hJx5⟩⟩
  ·have hk2 : k = xs.length := by omega
   subst hk2
   have e0 := HF.out.cc
   gi_wp2
   go_end0
   exact ⟨⟨_, rfl⟩, m, hm0, .inl (by have := HJ.out; rwa [List.take_length] at this)⟩
set_option maxRecDepth 100000 in
set_option maxHeartbeats 2000000 in
theorem nfun (n : Nat) (hn : 1 ≤ n) (g b : Nat) (a : Option Addr) (c : Nat) (xs : List (List UInt8)) (K : Nat → Prop) (W0 : World) (hsm : xs.length ≤ 4096) (hf : NamF W0 g b a c xs) (kg : K g) (kb : K b) (lb : Array Value) (J Jx : Nat → List (List UInt8) → World → Prop) (hst : ∀ W', W0.grownBy W' none → J W'.heap.size [] W')
  (hY : ∀ m pre x Wc, W0.heap.size ≤ m → m ≤ Wc.heap.size → pre ++ [x] <+: xs → J m pre Wc →
   Calls Tryz.prog 34 (#[encStr x] ++ lb) Wc fun e W' =>
    (e = .returned (.bool true) ∧ J m (pre ++ [x]) W' ∧ Kpt (fun b => K b ∨ (W0.heap.size ≤ b ∧ b < m)) Wc W') ∨
    (e = .returned (.bool false) ∧ Jx m (pre ++ [x]) W' ∧ Kpt (fun b => K b ∨ (W0.heap.size ≤ b ∧ b < m)) Wc W')) :
  CallsIn Fence.wide n Tryz.prog 59 #[.func (.func 34) #[] lb, .pointer (some ⟨g, 0, none⟩)] W0 fun e W' => (∃ v, e = .returned v) ∧ ∃ m, W0.heap.size ≤ m ∧ (J m xs W' ∨ ∃ pre, Jx m pre W') := by
 have HF0 : Hid (NamF W0 g b a c xs) := hf
 have c0 := hf.cc
 have HJ0 : Hid (J W0.heap.size [] W0) := hst W0 (gb_refl _ _)
 obtain ⟨m, hm⟩ : ∃ m, W0.heap.size = m := ⟨_, rfl⟩
 have HM0 : Hid (m ≤ W0.heap.size) := by rw [Hid, hm]; exact Nat.le_refl _
 rw [hm] at HJ0
 have hm0 : W0.heap.size ≤ m := by omega
 clear hf hm
 refine callsIn_of_wp Tryz.func59 rfl trivial ?_ rfl
 simp only [Tryz.ntmps59, List.size_toArray, List.length_cons, List.length_nil, Nat.reduceAdd, Nat.reduceSub, Array.replicate_succ, Array.replicate_zero, List.push_toArray, List.append_toArray, List.nil_append, List.cons_append]
 gi_wp2
 gi_loopw [7] (fun s wr => ∃ (k : Nat), s = .int .i64 (k : Int) ∧ k ≤ xs.length ∧ Hid (J m (xs.take k) wr) ∧ Hid (NamF wr g b a c xs) ∧ Hid (m ≤ wr.heap.size)) (fun s _ => xs.length - (intOf s).toNat)
 case atStart => exact ⟨0, rfl, Nat.zero_le _, HJ0, HF0, HM0⟩
 case round =>
  obtain ⟨k, rfl, hk, HJ, HF, HM⟩ := hrel
  by_cases hk1 : k < xs.length
  ·obtain ⟨x, hx⟩ := get_lt hk1
   obtain rfl := HF.out.ax (ne_of_lt hk1)
   have e1 := HF.out.cx k x hx
   have e0 := HF.out.cc
   have z1 : (k : Int) < (xs.length : Int) := by omega
   have htk : xs.take (k + 1) = xs.take k ++ [x] := by rw [List.take_add_one, hx]; rfl
   have HTK : Hid (xs.take (k + 1) = xs.take k ++ [x]) := htk
   have hpx : xs.take k ++ [x] <+: xs := by rw [← htk]; exact List.take_prefix _ _
   have hR := hY m (xs.take k) x wr hm0 HM.out hpx HJ.out
   clear hx htk hpx
   gi_wp2_with fail
   refine ⟨trivial, ?_⟩
   refine (callsIn_wide.2 hR).mono ?_
   rintro e W5 (⟨rfl, hJ5, hk5⟩ | ⟨rfl, hJx5, hk5⟩)
   ·have HF5 : Hid (NamF W5 g b (some ⟨b, 0, none⟩) c xs) := HF.out.kpt hk5 (.inl kg) (.inl kb)
    have HM5 : Hid (m ≤ W5.heap.size) := Nat.le_trans HM.out hk5.size
    have HJ5 : Hid (J m (xs.take (k + 1)) W5) := by rw [Hid, HTK.out]; exact hJ5
    clear hJ5
    gi_wp2
    go_roundw
    case rel => exact ⟨k + 1, by go_num, by omega, HJ5, HF5, HM5⟩
    case measure => simp [intOf]; omega
   ·gi_wp2
    refine bodyPost_ret (results_none rfl _ _ _) rfl ?_
    exact ⟨⟨_, rfl⟩, m, hm0, .inr ⟨_, hJx5⟩⟩
  ·have hk2 : k = xs.length := by omega
   subst hk2
   have e0 := HF.out.cc
   gi_wp2
   go_end0
   exact ⟨⟨_, rfl⟩, m, hm0, .inl (by have := HJ.out; rwa [List.take_length] at this)⟩
set_option maxRecDepth 100000 in
set_option maxHeartbeats 1000000 in
theorem book1_any (E Bn Bk nb nc i : Nat) (xs : List (List UInt8)) (x : List UInt8) (w : World) (hi : i < xs.length) (hsm : xs.length ≤ 4096)
  (h5 : w.cell? ⟨E, 5, none⟩ = some (.bool true)) (f5 : w.frozen? ⟨E, 5, none⟩ = false) (h2 : w.cell? ⟨E, 2, none⟩ = some (.slice (some ⟨nb, 0, none⟩) xs.length nc)) (hx : w.cell? ⟨nb, i, none⟩ = some (encStr x))
  (hn : w.cell? ⟨Bn, 0, none⟩ = some (.bool false)) (fn : w.frozen? ⟨Bn, 0, none⟩ = false) (hk : w.cell? ⟨Bk, 0, none⟩ = some (.int .i64 (i : Int))) (fk : w.frozen? ⟨Bk, 0, none⟩ = false)
  (d1 : E ≠ Bn) (d2 : E ≠ Bk) (d3 : Bn ≠ Bk) (r : Bool) (hr : decide (xs.length / 2 < i + 1) = !r) :
  Calls Tryz.prog 34 #[encStr x, .pointer (some ⟨E, 0, none⟩), .pointer (some ⟨Bn, 0, none⟩), .pointer (some ⟨Bk, 0, none⟩)] w fun e w' =>
   e = .returned (.bool r) ∧ w' = ((w.setCell ⟨E, 5, none⟩ (.bool true)).setCell ⟨Bk, 0, none⟩ (.int .i64 ((i : Int) + 1))).setCell ⟨Bn, 0, none⟩ (.bool (!r)) := by
 have ht : (xs.length : Int).tdiv 2 = ((xs.length / 2 : Nat) : Int) := by rw [Int.tdiv_eq_ediv_of_nonneg (by omega)]; rfl
 have hw : IntKind.i64.wrap ((i : Int) + 1) = (i : Int) + 1 := by rw [IntKind.wrap_i64]; omega
 have hil : (i : Int) < (xs.length : Int) := by omega
 have hd1 : Bn ≠ E := fun e => d1 e.symm
 have hd2 : Bk ≠ E := fun e => d2 e.symm
 have hd3 : Bk ≠ Bn := fun e => d3 e.symm
 obtain ⟨hf, hhf⟩ : ∃ hf, xs.length / 2 = hf := ⟨_, rfl⟩
 rw [hhf] at ht hr
 have hhb : hf ≤ 4096 := by omega
 clear hhf
 cases r with
 | true =>
  have hq : decide ((hf : Int) < (i : Int) + 1) = false := decide_eq_false (by have := of_decide_eq_false (by simpa using hr : decide (hf < i + 1) = false); omega)
  clear hr
  go_enter Tryz.func34, Tryz.ntmps34
  go_wp2
  go_ret
  exact ⟨rfl, rfl⟩
 | false =>
  have hq : decide ((hf : Int) < (i : Int) + 1) = true := decide_eq_true (by have := of_decide_eq_true (by simpa using hr : decide (hf < i + 1) = true); omega)
  clear hr
  go_enter Tryz.func34, Tryz.ntmps34
  go_wp2
  go_ret
  exact ⟨rfl, rfl⟩
end Go.Proofs.YtkolmadahacoeaaGreat.K.P
