import Derived.Test.YtfibbjngllelbaaGreatPst
namespace Go.Proofs.YtfibbjngllelbaaGreat
open Go.RowKit Go.Proofs.YtfibbjngllelbaaGreat.Ds
open Go.Maps Go.Sort

/-- the purses' names, in order -/
def nLs (done : List En) : List (List UInt8) := ((opsT done).map (fun x => x.data.toList)).mergeSort (fun x y => decide (x ≤ y))
theorem nLs_len (done : List En) : (nLs done).length = (opsT done).length := by simp [nLs]
theorem nLs_mem (done : List En) (x : List UInt8) : x ∈ nLs done ↔ ∃ y ∈ opsT done, y.data.toList = x := by simp [nLs]
theorem nLs_of {w : World} {N : Nat → Prop} {bk bm n : Nat} {v : Value} {D : DataW Value} {done : List En} (h : BookM w N bk bm n v D done) {ss : List (List UInt8)} (hs : ss.Perm (strKeys D)) : ss.mergeSort (fun x y => decide (x ≤ y)) = nLs done := by
  have hp : ((opsT done).map (fun x => x.data.toList)).Perm (strKeys D) := by
    obtain ⟨es, rfl, hko⟩ := h.own.keysOf
    obtain ⟨es', hD', hpw, _⟩ := h.own.entries law9
    obtain rfl : es = es' := by simpa using hD'
    refine perm_strKeys hpw (fun p hp => by obtain ⟨v, hv⟩ := hko p hp; obtain ⟨y, _, hy, _⟩ := Maps.keyOf_str Tryz.underlying9 hv; exact ⟨y, hy⟩) ?_ (fun x => ?_)
    · refine List.pairwise_map.2 (h.inv.nod.imp fun {a b} hab e => hab ?_)
      apply ByteArray.ext
      exact Array.toList_inj.1 e
    · constructor
      · intro hx
        obtain ⟨y, hy, rfl⟩ := List.mem_map.1 hx
        refine (h.is y).2 ?_
        cases hb : budT done y with
        | some b => exact ⟨b, rfl⟩
        | none => exact absurd hy ((bud_ops done y).1 hb)
      · intro hx
        have h1 : Maps.has (DataW.map es) (kN ⟨x.toArray⟩) = true := by simpa [kN] using hx
        obtain ⟨b, hb⟩ := (h.is ⟨x.toArray⟩).1 h1
        have : (⟨x.toArray⟩ : ByteArray) ∈ opsT done := by
          refine Classical.byContradiction fun hn => ?_
          rw [(bud_ops done _).2 hn] at hb
          cases hb
        exact List.mem_map.2 ⟨_, this, by simp⟩
  exact mergeSort_of_perm (hs.trans hp.symm)

set_option maxHeartbeats 1000000 in
theorem names_any (N : Nat → Prop) (bk bm n : Nat) (v : Value) (D : DataW Value) (done : List En) (w : World) (hB : BookM w N bk bm n v D done) :
    Calls Tryz.prog 14 #[.pointer (some ⟨bk, 0, none⟩)] w fun x w' => ∃ g r, x = .returned (.func (.func 27) #[] #[.pointer (some ⟨g, 0, none⟩)]) ∧ Below w.heap.size w w' ∧ w.heap.size ≤ g ∧ g < w'.heap.size ∧ w'.cell? ⟨g, 0, none⟩ = some r ∧ w'.ownsRow w.heap.size 9 1 r (nLs done).length ((nLs done).map encStr) := by
  have HB : Hid (BookM w N bk bm n v D done) := hB
  have hln := hB.inv.len
  have hcn := hB.cnt
  obtain ⟨t0, t1, tf0, tf1, htl⟩ := hB.two
  clear hB
  go_enter Tryz.func14, Tryz.ntmps14
  go_wp2_with fail
  refine (keysS_any _ _).mono ?_
  rintro e1 w1 ⟨rfl, rfl⟩
  go_wp2_with fail
  refine (sortedS_any _ bm n D hR _ (by simp) (nc _ _ 0 _ rfl rfl) (HB.out.own.alloc _) (by omega)).mono ?_
  rintro e2 w2 ⟨r, ss, rfl, hp, hrow, hb2⟩
  have hss := nLs_of HB.out hp
  have hsl : ss.length = (nLs done).length := by rw [← hss, List.length_mergeSort]
  rw [hss, hsl] at hrow
  have HR : Hid (w2.ownsRow (w.alloc (.cells #[.map (some bm)] 58)).heap.size 9 1 r (nLs done).length ((nLs done).map encStr)) := hrow
  obtain ⟨ra, rc, rfl⟩ : ∃ a c, r = .slice a (nLs done).length c := by
    rcases hrow.2 with ⟨h1, h2⟩ | ⟨g, cap, cur, h1, _⟩
    · exact ⟨none, 0, by rw [h1, h2]⟩
    · exact ⟨_, _, h1⟩
  clear hp hss hsl hrow
  go_wp2
  go_ret
  refine ⟨_, _, rfl, bal (bt (ba _ _) hb2) _, ?_, by simp, nc _ _ 0 _ rfl rfl, ?_⟩
  · have := hb2.size; simp at this; omega
  · exact ownsRow_base_a ((HR.out).kept (World.grownBy_alloc w2 _ none) (by cases h : (Value.slice ra (nLs done).length rc).ownBlock <;> simp)) (by simp)
end Go.Proofs.YtfibbjngllelbaaGreat
