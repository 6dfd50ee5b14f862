import Derived.Test.YtejeiahbnnechaaAn2
namespace Go.Proofs.Ytejeiahbnnechaa
open Go.RowKit Go.Proofs.Ytejeiahbnnechaa.Ds

set_option maxHeartbeats 2000000 in
set_option maxRecDepth 100000 in
theorem ans9_any (c : ByteArray) (lo hi : Int) (cv rv wv : Value) (b o cap : Nat) (w : World) (B : Nat) (l : List Col) (ts : List Rw) (wh : List Tst) (hB : B ≤ w.heap.size) (hp : Cols w B cv l) (hr : Rws w B rv ts) (hw : Tss w B wv wh) (hbB : b < B) (x : Qu) (u0 u1 u2 u3 u4 u5 : Value) (hu : At6 w b o u0 u1 u2 u3 u4 u5) (hqx : Qm w B x u0 u1 u2 u3 u4 u5) (xs : List Int) (kx : ∀ W, Below w.heap.size w W → Calls Try.prog 36 #[.agg #[cv, rv], .agg #[u0, u1, u2, u3, u4, u5]] W (AnsP W xs)) (j : Nat) (z : Int) (hlj : lo = (j : Int)) (hj : xs[j]? = some z) :
    Calls Try.prog 36 #[.agg #[cv, rv], .agg #[.int .i64 9, .string c, .int .i64 lo, .int .i64 hi, wv, .slice (some ⟨b, o, none⟩) 1 cap]] w (AnsP w ([z])) := by
  subst hlj
  have ab := Ab.new w cv rv 9 c (j : Int) hi wv (.slice (some ⟨b, o, none⟩) 1 cap)
  have hb0 := b3a w (.cells #[cv, rv] 37) (.cells #[.int .i64 9, .string c, .int .i64 (j : Int), .int .i64 hi, wv, .slice (some ⟨b, o, none⟩) 1 cap] 26) (.cells #[.func (.func 56) #[] #[.pointer (some ⟨w.heap.size + 1, 0, none⟩)]] 68)
  obtain ⟨W0, hW0⟩ : ∃ W0, (((w.alloc (.cells #[cv, rv] 37)).alloc (.cells #[.int .i64 9, .string c, .int .i64 (j : Int), .int .i64 hi, wv, .slice (some ⟨b, o, none⟩) 1 cap] 26)).alloc (.cells #[.func (.func 56) #[] #[.pointer (some ⟨w.heap.size + 1, 0, none⟩)]] 68)) = W0 := ⟨_, rfl⟩
  rw [hW0] at ab hb0
  have HW0 : Hid ((((w.alloc (.cells #[cv, rv] 37)).alloc (.cells #[.int .i64 9, .string c, .int .i64 (j : Int), .int .i64 hi, wv, .slice (some ⟨b, o, none⟩) 1 cap] 26)).alloc (.cells #[.func (.func 56) #[] #[.pointer (some ⟨w.heap.size + 1, 0, none⟩)]] 68)) = W0) := hW0
  have k1 := kid0_any w.heap.size (w.heap.size + 1) cv rv b o 1 cap (by omega) xs W0 ab.t0.c ab.t1.c ab.a5.c B x u0 u1 u2 u3 u4 u5 (hu.keep hb0 (Nat.lt_of_lt_of_le hbB hB)) (hqx.at hB hb0) l ts (hp.at hB hb0) (hr.at hB hb0) (kx _ hb0.drew)
  have HAB : Hid (Ab W0 w.heap.size cv rv 9 c (j : Int) hi wv (.slice (some ⟨b, o, none⟩) 1 cap)) := ab
  obtain ⟨ca, ccp, rfl, _⟩ := hp.slice
  obtain ⟨ra, rc, rfl, _⟩ := hr.slice
  obtain ⟨wa, wc, rfl, _⟩ := hw.slice
  have hmf := hmf
  have m0 := HAB.out.a0.c
  have k1' := kid0_any w.heap.size (w.heap.size + 1) _ _ b o 1 cap (by omega) xs W0.drew HAB.out.t0.c HAB.out.t1.c HAB.out.a5.c B x u0 u1 u2 u3 u4 u5 (hu.keep hb0.drew (Nat.lt_of_lt_of_le hbB hB)) (hqx.at hB hb0.drew) l ts (hp.at hB hb0.drew) (hr.at hB hb0.drew) (kx _ hb0.drew.drew)
  clear hp hr hw hu hqx kx ab k1
  go_enter Try.func36, Try.ntmps36
  have a2 := HAB.out.a2.c
  have l2 := HAB.out.a2.lt
  have hjl : j < xs.length := (List.getElem?_eq_some_iff.1 hj).1
  have hjl1 : (0 : Int) ≤ (j : Int) := by omega
  have hjl2 : (j : Int) < (xs.length : Int) := by omega
  have k1d : Calls Try.prog 57 #[.int .i64 0, .pointer (some ⟨w.heap.size, 0, none⟩), .pointer (some ⟨w.heap.size + 1, 0, none⟩)] W0.drew (AnsP W0.drew xs) := k1'
  go_wp2
  go_region_law (first | (go_simp; go_at_call 57; refine k1d.mono ?_; rintro x3 w1 hA; obtain ⟨g1, c1, rfl, hA1, hb1⟩ := hA; have q0 : w1.cell? ⟨g1, j, none⟩ = some (.int .i64 z) := hA1.cell hj; have q1 : w1.cell? ⟨w.heap.size + 1, 2, none⟩ = some (.int .i64 (j : Int)) := (hb1.cell (p := ⟨w.heap.size + 1, 2, none⟩) l2).trans a2; go_wp2_with fail))
  all_goals
    go_wp2
    go_ret
    exact ⟨w1.heap.size, 1, rfl, Arw.lit _ _ _ (Nat.le_trans hb0.drew.size hb1.size), bt hb0.drew (bal hb1 _)⟩
set_option maxHeartbeats 2000000 in
set_option maxRecDepth 100000 in
theorem ans10_any (c : ByteArray) (lo hi : Int) (cv rv wv : Value) (b o cap : Nat) (w : World) (B : Nat) (l : List Col) (ts : List Rw) (wh : List Tst) (hB : B ≤ w.heap.size) (hp : Cols w B cv l) (hr : Rws w B rv ts) (hw : Tss w B wv wh) (hbB : b < B) (x : Qu) (u0 u1 u2 u3 u4 u5 : Value) (hu : At6 w b o u0 u1 u2 u3 u4 u5) (hqx : Qm w B x u0 u1 u2 u3 u4 u5) (xs : List Int) (kx : ∀ W, Below w.heap.size w W → Calls Try.prog 36 #[.agg #[cv, rv], .agg #[u0, u1, u2, u3, u4, u5]] W (AnsP W xs)) (hbx : Bdd 1099511627776 xs) (hle : lo ≤ hi) :
    Calls Try.prog 36 #[.agg #[cv, rv], .agg #[.int .i64 10, .string c, .int .i64 lo, .int .i64 hi, wv, .slice (some ⟨b, o, none⟩) 1 cap]] w (AnsP w (xs.map (inT lo hi))) := by
  have ab := Ab.new w cv rv 10 c lo hi wv (.slice (some ⟨b, o, none⟩) 1 cap)
  have hb0 := b3a w (.cells #[cv, rv] 37) (.cells #[.int .i64 10, .string c, .int .i64 lo, .int .i64 hi, wv, .slice (some ⟨b, o, none⟩) 1 cap] 26) (.cells #[.func (.func 56) #[] #[.pointer (some ⟨w.heap.size + 1, 0, none⟩)]] 68)
  obtain ⟨W0, hW0⟩ : ∃ W0, (((w.alloc (.cells #[cv, rv] 37)).alloc (.cells #[.int .i64 10, .string c, .int .i64 lo, .int .i64 hi, wv, .slice (some ⟨b, o, none⟩) 1 cap] 26)).alloc (.cells #[.func (.func 56) #[] #[.pointer (some ⟨w.heap.size + 1, 0, none⟩)]] 68)) = W0 := ⟨_, rfl⟩
  rw [hW0] at ab hb0
  have HW0 : Hid ((((w.alloc (.cells #[cv, rv] 37)).alloc (.cells #[.int .i64 10, .string c, .int .i64 lo, .int .i64 hi, wv, .slice (some ⟨b, o, none⟩) 1 cap] 26)).alloc (.cells #[.func (.func 56) #[] #[.pointer (some ⟨w.heap.size + 1, 0, none⟩)]] 68)) = W0) := hW0
  have k1 := kid0_any w.heap.size (w.heap.size + 1) cv rv b o 1 cap (by omega) xs W0 ab.t0.c ab.t1.c ab.a5.c B x u0 u1 u2 u3 u4 u5 (hu.keep hb0 (Nat.lt_of_lt_of_le hbB hB)) (hqx.at hB hb0) l ts (hp.at hB hb0) (hr.at hB hb0) (kx _ hb0.drew)
  have HAB : Hid (Ab W0 w.heap.size cv rv 10 c lo hi wv (.slice (some ⟨b, o, none⟩) 1 cap)) := ab
  obtain ⟨ca, ccp, rfl, _⟩ := hp.slice
  obtain ⟨ra, rc, rfl, _⟩ := hr.slice
  obtain ⟨wa, wc, rfl, _⟩ := hw.slice
  have hmf := hmf
  have m0 := HAB.out.a0.c
  have k1' := kid0_any w.heap.size (w.heap.size + 1) _ _ b o 1 cap (by omega) xs W0.drew HAB.out.t0.c HAB.out.t1.c HAB.out.a5.c B x u0 u1 u2 u3 u4 u5 (hu.keep hb0.drew (Nat.lt_of_lt_of_le hbB hB)) (hqx.at hB hb0.drew) l ts (hp.at hB hb0.drew) (hr.at hB hb0.drew) (kx _ hb0.drew.drew)
  clear hp hr hw hu hqx kx ab k1
  go_enter Try.func36, Try.ntmps36
  have f0 := HAB.out.f0.c
  have lf := HAB.out.f0.lt
  go_wp2
  go_region_law (first | (go_simp; go_at_call 57; refine k1'.mono ?_; rintro x3 w1 hA; obtain ⟨g1, c1, rfl, hA1, hb1⟩ := hA; have q0 : w1.cell? ⟨w.heap.size + 1 + 1, 0, none⟩ = some (.func (.func 56) #[] #[.pointer (some ⟨w.heap.size + 1, 0, none⟩)]) := (hb1.cell (p := ⟨w.heap.size + 1 + 1, 0, none⟩) lf).trans f0; go_wp2_with fail) | (go_simp; go_at_call 65; refine (eachC_any W0.drew.heap.size g1 c1 (w.heap.size + 1) xs w1 hA1 lo hi hbx ((HAB.out.at (Below.refl _ _).drew).at hb1).a2.c ((HAB.out.at (Below.refl _ _).drew).at hb1).a3.c hle (by have := HAB.out.a2.lt; have := hA1.lt.1; intro e; subst e; exact Nat.lt_irrefl _ (Nat.lt_of_lt_of_le HAB.out.a2.lt hA1.lt.1))).mono ?_; rintro x4 w2 hE; obtain ⟨rfl, hA2, hgr⟩ := hE; go_wp2_with fail))
  all_goals
    go_wp2
    go_ret
    have hfin := grown_ans hb0.drew hb1 hA1.lt.1 hgr hA2
    rw [List.length_map] at hfin
    exact hfin
end Go.Proofs.Ytejeiahbnnechaa
