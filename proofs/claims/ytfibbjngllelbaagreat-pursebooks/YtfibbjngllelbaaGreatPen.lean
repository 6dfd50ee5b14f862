import Derived.Test.YtfibbjngllelbaaGreatPdy
import Derived.Laws.CopyOwn
namespace Go.Proofs.YtfibbjngllelbaaGreat
open Go.RowKit Go.Proofs.YtfibbjngllelbaaGreat.Ds

set_option maxHeartbeats 1000000 in
theorem new_any (N : Nat → Prop) (w : World) (hN : ∀ k, w.heap.size ≤ k → N k) : Calls Tryz.prog 11 #[] w fun x w' => x = .returned (.pointer (some ⟨w.heap.size + 1, 0, none⟩)) ∧ Below w.heap.size w w' ∧ w'.heap.size = w.heap.size + 1 + 1 ∧ BookM w' N (w.heap.size + 1) w.heap.size 0 (.slice none 0 0) (.map []) [] := by
  have hmm := @run_makeMap Tryz.prog
  go_enter Tryz.func11, Tryz.ntmps11
  go_wp2
  go_ret
  refine ⟨rfl, bal (ba _ _) _, by simp, ⟨inv_nil, ?_, ?_, ?_, Nat.le_refl _, fun x => ?_, fun x b hx => ?_, ?_, hN _ (by omega), hN _ (by omega), by omega, fun g hg => by cases hg⟩⟩
  · exact TwoB.new _ _ _ _ _ (by simp)
  · exact (World.ownsMap_made w Tryz.prog 9 hR).alloc _
  · exact ⟨rfl, .inl ⟨rfl, rfl⟩⟩
  · simp [Maps.has, budT]
  · simp [budT] at hx
  · simp [Maps.size, opsT]

/-- copy, of entries -/
theorem run_copy5 (w : World) (ty : TypeId) (g n : Nat) (a : Addr) (sCap : Nat) (cur : Array Value) (cs : List Value) (hg : w.heap[g]? = some (.cells cur 45 (0, 0))) (hn : cs.length = n * 5)
    (hsrc : ∀ j v, cs[j]? = some v → w.cell? (a.add j) = some v) (hfit : cs.length ≤ cur.size) (h1 : ∀ v ∈ cs, v.oneCell' = true) :
    (Builtin.copy_ #[22, 22] ty #[.slice (some ⟨g, 0, none⟩) n n, .slice (some a) n sCap]).run Tryz.prog w = .ok (goInt n) (w.setRow g (cs ++ cur.toList.drop cs.length).toArray) := by
  have hl := run_loadCells_list (P := Tryz.prog) w a cs hsrc
  have hst := run_storeCells_at Tryz.prog g 0 45 cs 0 cur w hg (by simpa using hfit) h1
  obtain ⟨i0, hi, _, hz1, _⟩ := info_parts info33
  have hm : Nat.min n n = n := Nat.min_self n
  simp only [Nat.zero_add, Nat.add_zero, List.take_zero, List.nil_append] at hst
  simp [Builtin.copy_, run_underlying Tryz.underlying22, Builtin.lenOf, Builtin.firstCells, sizeOf, typeInfo, hi, hz1, ← hn, hl, hst]
theorem run_copy5' (w : World) (ty : TypeId) (g n : Nat) (ad : Option Addr) (sCap : Nat) (cur : Array Value) (hg : w.heap[g]? = some (.cells cur 45 (0, 0))) (cs : List Value) (hn : cs.length = n * 5) (hsrc : (ad = none ∧ n = 0 ∧ sCap = 0) ∨ ∃ b, ad = some b ∧ ∀ j v, cs[j]? = some v → w.cell? (b.add j) = some v) (hfit : cs.length = cur.size) (h1 : ∀ v ∈ cs, v.oneCell' = true) :
    (Builtin.copy_ #[22, 22] ty #[.slice (some ⟨g, 0, none⟩) n n, .slice ad n sCap]).run Tryz.prog w = .ok (goInt n) (w.setRow g cs.toArray) := by
  rcases hsrc with ⟨rfl, rfl, rfl⟩ | ⟨b, rfl, hsrc⟩
  · have hrun := run_copy_nil (P := Tryz.prog) w 22 22 ty 45 ⟨g, 0, none⟩ 0 0 Tryz.underlying22 (by obtain ⟨i0, hi, _⟩ := info_parts info33; rw [hi]; rfl)
    have hcs : cs = [] := List.eq_nil_of_length_eq_zero (by omega)
    subst hcs
    have hcur : cur = #[] := Array.eq_empty_of_size_eq_zero (by simpa using hfit.symm)
    subst hcur
    rw [show ([] : List Value).toArray = #[] from rfl, setRow_self w g #[] 45 (0, 0) hg]
    exact hrun
  · have hrun := run_copy5 w ty g n b sCap cur cs hg hn hsrc (by omega) h1
    rw [List.drop_of_length_le (by rw [Array.length_toList]; omega), List.append_nil] at hrun
    exact hrun

theorem enc_one (l : List En) : ∀ v ∈ enc l, v.oneCell' = true := by
  intro v hv
  simp only [enc, List.mem_flatMap] at hv
  obtain ⟨e, _, he⟩ := hv
  simp [encE] at he
  rcases he with rfl | rfl | rfl | rfl | rfl <;> rfl
theorem row_src {w : World} {v : Value} {n : Nat} {xs : List Value} {base : Nat} (h : w.ownsRow base 45 5 v n xs) : ∃ ad c, v = .slice ad n c ∧ ((ad = none ∧ n = 0 ∧ c = 0) ∨ ∃ b, ad = some b ∧ ∀ j u, xs[j]? = some u → w.cell? (b.add j) = some u) := by
  rcases h.2 with ⟨rfl, rfl⟩ | ⟨g, cap, cur, rfl, _, hc, _, _, _, hx⟩
  · exact ⟨none, 0, rfl, .inl ⟨rfl, rfl, rfl⟩⟩
  · refine ⟨_, _, rfl, .inr ⟨_, rfl, fun j u hj => ?_⟩⟩
    refine World.news_of_block hc j u ?_
    rw [← hx] at hj
    rw [List.getElem?_take] at hj
    split at hj
    · exact hj
    · cases hj

set_option maxHeartbeats 1000000 in
set_option maxRecDepth 100000 in
theorem entries_any (N : Nat → Prop) (bk bm n : Nat) (v : Value) (D : DataW Value) (done : List En) (w : World) (hB : BookM w N bk bm n v D done) :
    Calls Tryz.prog 13 #[.pointer (some ⟨bk, 0, none⟩)] w fun x w' => ∃ r, x = .returned r ∧ w'.ownsRow w.heap.size 45 5 r done.length (enc done) ∧ Below w.heap.size w w' := by
  obtain ⟨t0, t1, tf0, tf1, htl⟩ := hB.two
  have hrow := hB.row
  have hlen := hB.inv.len
  clear hB
  obtain ⟨ad, c, rfl, hsrc⟩ := row_src hrow
  obtain ⟨i0, hi, hz0, hz1, hz2⟩ := info_parts info33
  have hmk : ∀ u : World, (Instr.makeSlice 22 (.int .i64 (done.length : Int)) (.int .i64 (done.length : Int))).run Tryz.prog u =
      .ok (.slice (some ⟨u.heap.size, 0, none⟩) done.length done.length) (u.alloc (.cells (madeCells #[.int .i64 0, .string ⟨#[]⟩, .int .i64 0, .int .i64 0, .int .i64 0] (done.length * 5)) 45)) := fun u => by
    have h := run_make (P := Tryz.prog) u 22 45 i0 (.agg #[.int .i64 0, .string ⟨#[]⟩, .int .i64 0, .int .i64 0, .int .i64 0]) Tryz.underlying22 hi hz0 .i64 .i64 (done.length : Int) (done.length : Int) (by omega) (Int.le_refl _) (by rw [hz2]; omega) (by omega)
    rw [Int.toNat_natCast] at h
    simpa [hz1, Value.cells] using h
  have HS : Hid ((ad = none ∧ done.length = 0 ∧ c = 0) ∨ ∃ b, ad = some b ∧ ∀ j u, (enc done)[j]? = some u → (w.alloc (.cells (madeCells #[.int .i64 0, .string ⟨#[]⟩, .int .i64 0, .int .i64 0, .int .i64 0] (done.length * 5)) 45)).cell? (b.add j) = some u) := by
    rcases hsrc with h | ⟨b, h1, h2⟩
    · exact .inl h
    · exact .inr ⟨b, h1, fun j u hj => (World.grownBy_alloc w _ none).cell (h2 j u hj) (by simp)⟩
  have hcp := run_copy5' (w.alloc (.cells (madeCells #[.int .i64 0, .string ⟨#[]⟩, .int .i64 0, .int .i64 0, .int .i64 0] (done.length * 5)) 45)) 3 w.heap.size done.length ad c _ (heap_alloc_new w _) (enc done) (enc_len done) HS.out (by simp [enc_len, size_madeCells]) (enc_one done)
  obtain ⟨W, hW⟩ : ∃ W, (w.alloc (.cells (madeCells #[.int .i64 0, .string ⟨#[]⟩, .int .i64 0, .int .i64 0, .int .i64 0] (done.length * 5)) 45)).setRow w.heap.size (enc done).toArray = W := ⟨_, rfl⟩
  have HWB : Hid (Below w.heap.size w W) := by rw [← hW]; exact below_setRow (ba _ _) (Nat.le_refl _) _
  have HWR : Hid (W.heap[w.heap.size]? = some (.cells (enc done).toArray 45 (0, 0))) := by
    show _ = _
    rw [← hW]; exact setRow_heap _ _ _ _ 45 (0, 0) (heap_alloc_new w _)
  rw [hW] at hcp
  clear hsrc hrow hW
  go_enter Tryz.func13, Tryz.ntmps13
  go_wp2
  go_ret
  refine ⟨_, rfl, ⟨by rw [enc_len], .inr ⟨w.heap.size, done.length, _, rfl, Nat.le_refl _, HWR.out, Nat.le_refl _, by unfold maxLen; omega, by simp [enc_len], ?_⟩⟩, HWB.out⟩
  rw [List.toList_toArray, List.take_of_length_le (by rw [enc_len]; exact Nat.le_refl _)]
end Go.Proofs.YtfibbjngllelbaaGreat
