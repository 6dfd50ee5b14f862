import Derived.Test.YtnoedkebmpfagaaWrd
/-
  PACKAGE wire, the reader: values.
-/
namespace Go.Proofs.Ytnoedkebmpfagaa
open Go.RowKit Wc

theorem infoI : (Try.prog.info? 3).map (fun i => (i.zero, i.size, i.bytes)) = some (some (.int .i64 0), 1, 8) := by kernel_rfl
/-- n numbers that may be written, from the head of a block on -/
structure Arr (w : World) (g n : Nat) (f : Nat → Int) : Prop where
  cells : ∀ i, i < n → w.cell? ⟨g, i, none⟩ = some (.int .i64 (f i))
  thaw : ∀ i, i < n → w.frozen? ⟨g, i, none⟩ = false
  lt : g < w.heap.size
theorem Arr.same {w w' : World} {g n : Nat} {f : Nat → Int} (h : Arr w g n f) (hk : w'.heap[g]? = w.heap[g]?) : Arr w' g n f :=
  ⟨fun i hi => (World.cell?_of_block (w := w) (a := ⟨g, i, none⟩) hk).trans (h.cells i hi), fun i hi => (World.frozen?_of_block (w := w) (a := ⟨g, i, none⟩) hk).trans (h.thaw i hi), by
    have h1 := h.lt
    rw [Array.getElem?_eq_getElem h1] at hk
    exact (Array.getElem?_eq_some_iff.1 hk).1⟩
theorem Arr.keep {w w' : World} {g n N : Nat} {f : Nat → Int} (h : Arr w g n f) (hb : Below N w w') (hg : g < N) : Arr w' g n f := h.same (hb.block g hg)
theorem Arr.at {w w' : World} {g n : Nat} {f : Nat → Int} (h : Arr w g n f) (hb : Below w.heap.size w w') : Arr w' g n f := h.keep hb h.lt
theorem Arr.gb {w w' : World} {g n : Nat} {row : Option Nat} {f : Nat → Int} (h : Arr w g n f) (hb : w.grownBy w' row) (hne : row ≠ some g) : Arr w' g n f := h.same (hb.block g h.lt (fun e => hne e.symm))
theorem Arr.congr {w : World} {g n : Nat} {f f' : Nat → Int} (h : Arr w g n f) (hf : ∀ i, i < n → f i = f' i) : Arr w g n f' := ⟨fun i hi => by rw [← hf i hi]; exact h.cells i hi, h.thaw, h.lt⟩
def upd (f : Nat → Int) (i : Nat) (x : Int) (j : Nat) : Int := if j = i then x else f j
theorem Arr.set {w : World} {g n : Nat} {f : Nat → Int} (h : Arr w g n f) (i : Nat) (hi : i < n) (x : Int) : Arr (w.setCell ⟨g, i, none⟩ (.int .i64 x)) g n (upd f i x) := by
  refine ⟨fun j hj => ?_, fun j hj => by rw [sc_frozen]; exact h.thaw j hj, by simpa using h.lt⟩
  by_cases e : j = i
  · subst e
    rw [upd, if_pos rfl]
    exact sc_same (h.cells j hi)
  · rw [upd, if_neg e, sc_other (fun h => e (congrArg Addr.off h).symm)]
    exact h.cells j hj
theorem Arr.beside {w : World} {g n : Nat} {f : Nat → Int} (h : Arr w g n f) {p : Addr} (hp : p.block ≠ g) (u : Value) : Arr (w.setCell p u) g n f :=
  ⟨fun i hi => by rw [sc_other (fun e => hp (congrArg Addr.block e))]; exact h.cells i hi, fun i hi => by rw [sc_frozen]; exact h.thaw i hi, by simpa using h.lt⟩
theorem Arr.made (w : World) (n g : Nat) (hg : g = w.heap.size) : Arr (w.alloc (.cells (madeCells #[.int .i64 0] n) 3)) g n (fun _ => 0) := by
  subst hg
  refine ⟨fun i hi => ?_, fun i _ => World.frozen?_alloc_at _ _ _ _ rfl, by simp⟩
  rw [World.cell?_alloc_at _ _ _ _ rfl]
  simp [madeCells, hi, Nat.mod_one]
theorem Arr.num {w : World} {g n c : Nat} {f : Nat → Int} (h : Arr w g n f) (hc : n ≤ c) (hn : n ≤ 9223372036854775807) : Num w w.heap.size (.slice (some ⟨g, 0, none⟩) n c) ((List.range n).map f) := by
  refine ⟨some ⟨g, 0, none⟩, c, by simp, by simpa using hc, by simpa using hn, fun _ => ⟨g, 0, rfl, h.lt, fun i x hi => ?_⟩⟩
  have h1 : i < n := by have := (List.getElem?_eq_some_iff.1 hi).1; simpa using this
  simp [h1] at hi
  rw [Nat.zero_add, h.cells i h1, hi]
/-- 'make' of n numbers -/
theorem make_ints (n : Nat) (hn : n ≤ 1073741824) (u : World) : (Instr.makeSlice 25 (.int .u64 (n : Int)) (.int .u64 (n : Int))).run Try.prog u =
    .ok (.slice (some ⟨u.heap.size, 0, none⟩) n n) (u.alloc (.cells (madeCells #[.int .i64 0] n) 3)) := by
  obtain ⟨i0, hi, hz0, hz1, hz2⟩ := info_parts infoI
  have h := run_make (P := Try.prog) u 25 3 i0 (.int .i64 0) Try.underlying25 hi hz0 .u64 .u64 (n : Int) (n : Int) (by omega) (Int.le_refl _) (by rw [hz2]; omega) (by omega)
  rw [Int.toNat_natCast] at h
  simpa [hz1, Value.cells] using h
theorem nsR_get : ∀ (n i : Nat) (t : By), i < n → ∃ q, (nsR n t).1[i]? = some (nmR q).1
  | n + 1, 0, t, _ => ⟨t, by simp [nsR, bd, mp]⟩
  | n + 1, i + 1, t, h => by
    obtain ⟨q, hq⟩ := nsR_get n i (nmR t).2.1 (by omega)
    exact ⟨q, by simpa [nsR, bd, mp] using hq⟩
/-- one number more -/
theorem nsR_succ : ∀ (i : Nat) (t : By), nsR (i + 1) t = bd (nsR i t) fun l r => mp (nmR r) fun x => l ++ [x]
  | 0, t => by simp [nsR, bd, mp]
  | i + 1, t => by
    have ih := nsR_succ i (nmR t).2.1
    have e1 : nsR (i + 1 + 1) t = bd (nmR t) fun x r => mp (nsR (i + 1) r) (x :: ·) := rfl
    have e2 : nsR (i + 1) t = bd (nmR t) fun x r => mp (nsR i r) (x :: ·) := rfl
    rw [e1, e2]
    simp only [bd, mp] at ih ⊢
    rw [ih]
    simp [Bool.or_assoc]
set_option maxHeartbeats 2000000 in
theorem rvalues_any {w : World} {R : Nat} {t : By} {b : Bool} (h : Rdm w R t b) (l : List Int) (r : By) (f : Bool) (hr : vsR t = (l, r, f)) :
    Calls Try.prog 42 #[ptR R] w fun e w' => ∃ a c, e = .returned (.slice a l.length c) ∧ Num w' w'.heap.size (.slice a l.length c) l ∧ (∀ g, a = some g → w.heap.size ≤ g.block) ∧ Rdm w' R r (b || f) ∧ w.grownBy w' (some R) := by
  obtain ⟨n, q, f1, hc⟩ : ∃ n q f1, ctR t = (n, q, f1) := ⟨_, _, _, rfl⟩
  have hlq : q.length ≤ 65536 := by have h1 := ctR_len t; rw [hc] at h1; have := h.l; simp only at h1; omega
  have k := rcount_any h n q f1 hc
  clear h
  go_enter Try.func42, Try.ntmps42
  go_wp2_with fail
  refine k.mono ?_
  rintro e w1 ⟨rfl, h1, g1⟩
  clear k
  obtain ⟨v, hv, ho⟩ := h1.c
  obtain ⟨a, c, rfl, q1, q2, -⟩ := ho
  have k := has_any hv (by omega) n _ rfl
  by_cases hn : n ≤ q.length
  · rw [decide_eq_true hn] at k
    go_wp2_with fail
    refine k.mono ?_
    rintro e w2 ⟨rfl, rfl⟩
    clear k
    have k := must_any h1 true (b || f1) (by simp)
    go_wp2_with fail
    refine k.mono ?_
    rintro e w2 ⟨rfl, h2, g2⟩
    clear k hv h1
    have e : nsR n q = (l, r, (nsR n q).2.2) ∧ (f1 || (nsR n q).2.2) = f := by
      unfold vsR bd at hr
      rw [hc] at hr
      simp only [if_pos hn, Prod.mk.injEq] at hr
      exact ⟨by rw [← hr.1, ← hr.2.1], hr.2.2⟩
    obtain ⟨e1, e2⟩ := e
    have hll : l.length = n := by have := (nsR_len n q).2; rw [e1] at this; exact this
    have HE : Hid (nsR n q = (l, r, (nsR n q).2.2) ∧ (f1 || (nsR n q).2.2) = f ∧ l.length = n) := ⟨e1, e2, hll⟩
    have mk := make_ints n (by omega)
    obtain ⟨W, hW⟩ : ∃ W, w2.alloc (.cells (madeCells #[.int .i64 0] n) 3) = W := ⟨_, rfl⟩
    have bW : Below w2.heap.size w2 W := by rw [← hW]; exact ba _ _
    have hA0 : Arr W w2.heap.size n (fun _ => 0) := by rw [← hW]; exact Arr.made w2 n _ rfl
    have H0 : Hid (Rdm W R q (b || f1) ∧ Arr W w2.heap.size n (fun j => ([] : List Int).getD j 0) ∧ w.grownBy W (some R)) := ⟨h2.gbn bW, hA0.congr (fun i _ => by simp), gb_trans (gb_trans g1 g2) (gb_below bW)⟩
    have hR : R < w2.heap.size := h2.f.lt
    have hsz : w.heap.size ≤ w2.heap.size := Nat.le_trans g1.size g2.size
    clear e1 e2 hll hr hc hA0 h2 g1 g2 bW
    go_wp2_with fail
    go_loopw [20] (fun iv wr => ∃ (i : Nat) (ls : List Int) (q' : By) (f' : Bool), iv = .int .i64 (i : Int) ∧ i ≤ n ∧ Hid (nsR i q = (ls, q', f') ∧ ls.length = i) ∧ Hid (Rdm wr R q' (b || (f1 || f')) ∧ Arr wr w2.heap.size n (fun j => ls.getD j 0) ∧ w.grownBy wr (some R))) (fun iv _ => n - (intOf iv).toNat)
    case atStart => exact ⟨0, [], q, false, rfl, Nat.zero_le _, ⟨rfl, rfl⟩, by simpa using H0⟩
    case round =>
      obtain ⟨i, ls, q', f', rfl, hi, HS, HR⟩ := hrel
      by_cases c1 : i < n
      · have z1 : (i : Int) < (n : Int) := by omega
        obtain ⟨x, q2, f2, hx⟩ : ∃ x q2 f2, nmR q' = (x, q2, f2) := ⟨_, _, _, rfl⟩
        have HS2 : Hid (nsR (i + 1) q = (ls ++ [x], q2, f' || f2) ∧ (ls ++ [x]).length = i + 1) := by
          refine ⟨?_, by simp [HS.out.2]⟩
          rw [nsR_succ, HS.out.1]
          simp [bd, mp, hx]
        have k := rnumber_any HR.out.1 x q2 f2 hx
        go_wp2_with fail
        refine k.mono ?_
        rintro e w3 ⟨rfl, h3, g3⟩
        clear k hx
        have hA := HR.out.2.1.gb g3 (by simp; omega)
        have cc := hA.cells i c1
        have ff := hA.thaw i c1
        have HR2 : Hid (Rdm (w3.setCell ⟨w2.heap.size, i, none⟩ (.int .i64 x)) R q2 (b || (f1 || (f' || f2))) ∧ Arr (w3.setCell ⟨w2.heap.size, i, none⟩ (.int .i64 x)) w2.heap.size n (fun j => (ls ++ [x]).getD j 0) ∧ w.grownBy (w3.setCell ⟨w2.heap.size, i, none⟩ (.int .i64 x)) (some R)) := by
          refine ⟨?_, (hA.set i c1 x).congr fun j hj => ?_, gb_new (gb_trans HR.out.2.2 g3) hsz _⟩
          · have e : (b || (f1 || (f' || f2))) = (b || (f1 || f') || f2) := by simp [Bool.or_assoc]
            rw [e]
            exact h3.high (hset (Below.refl _ _) hR i _)
          · have hl := HS.out.2
            unfold upd
            by_cases ej : j = i
            · subst ej
              simp [List.getD, ← hl]
            · rw [if_neg ej]
              rcases Nat.lt_or_ge j ls.length with h4 | h4
              · simp [List.getD, List.getElem?_append_left h4]
              · have h5 : (ls ++ [x]).length ≤ j := by simp; omega
                show ls.getD j 0 = (ls ++ [x]).getD j 0
                rw [List.getD_eq_getElem?_getD, List.getD_eq_getElem?_getD, List.getElem?_eq_none h4, List.getElem?_eq_none h5]
        clear h3 g3 hA HR
        go_wp2
        go_roundw
        case rel => exact ⟨i + 1, ls ++ [x], q2, f' || f2, by go_num, c1, HS2, HR2⟩
        case measure => simp [intOf]; omega
      · obtain rfl : i = n := by omega
        have z1 : ¬ (i : Int) < (i : Int) := by omega
        go_wp2
        go_ret
        obtain ⟨q1', q2', q3'⟩ := HE.out
        have e := HS.out.1
        rw [q1'] at e
        simp only [Prod.mk.injEq] at e
        obtain ⟨rfl, rfl, e3⟩ := e
        rw [e3] at q2'
        have hm := HR.out.2.1.num (c := i) (Nat.le_refl _) (by omega)
        have el : (List.range i).map (fun j => l.getD j 0) = l := by
          apply List.ext_getElem?
          intro j
          rcases Nat.lt_or_ge j i with h4 | h4
          · have h5 : j < l.length := by omega
            simp [h4, List.getD, List.getElem?_eq_getElem h5]
          · rw [List.getElem?_eq_none (by simp; omega), List.getElem?_eq_none (by omega)]
        rw [el] at hm
        rw [q3']
        refine ⟨_, _, rfl, hm, fun g hg => ?_, by rw [← q2']; exact HR.out.1, HR.out.2.2⟩
        simp only [Option.some.injEq] at hg
        subst hg
        exact hsz
  · rw [decide_eq_false hn] at k
    have e : l = [] ∧ q = r ∧ true = f := by
      unfold vsR bd at hr
      rw [hc] at hr
      simp only [if_neg hn, Prod.mk.injEq, Bool.or_true] at hr
      exact ⟨hr.1.symm, hr.2⟩
    obtain ⟨rfl, rfl, rfl⟩ := e
    go_wp2_with fail
    refine k.mono ?_
    rintro e w2 ⟨rfl, rfl⟩
    clear k
    have k := must_any h1 false (b || true) (by simp)
    go_wp2_with fail
    refine k.mono ?_
    rintro e w2 ⟨rfl, h2, g2⟩
    clear k
    go_wp2
    go_ret
    exact ⟨none, 0, rfl, ⟨none, 0, rfl, Nat.le_refl _, by simp, fun h => absurd rfl h⟩, (by intro g hg; cases hg), h2, gb_trans g1 g2⟩
end Go.Proofs.Ytnoedkebmpfagaa
