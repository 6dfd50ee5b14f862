import Derived.Test.YtlndlpjadajelaaGreatQt38
import Derived.Deep.AppendLies
namespace Go.Proofs.YtlndlpjadajelaaGreat.K
open Go.RowKit Go.Proofs.YtlndlpjadajelaaGreat.K.Ds

/-- the cells that answer makes -/
structure Ab (W : World) (N : Nat) (cv rv : Value) (k : Int) (c : ByteArray) (lo hi : Int) (wv kv : Value) : Prop where
  t0 : Cl W N 0 cv
  t1 : Cl W N 1 rv
  a0 : Cl W (N + 1) 0 (.int .i64 k)
  a1 : Cl W (N + 1) 1 (.string c)
  a2 : Cl W (N + 1) 2 (.int .i64 lo)
  a3 : Cl W (N + 1) 3 (.int .i64 hi)
  a4 : Cl W (N + 1) 4 wv
  a5 : Cl W (N + 1) 5 kv
  f0 : Cl W (N + 1 + 1) 0 (.func (.func 126) #[] #[.pointer (some ⟨N + 1, 0, none⟩)])
theorem Ab.at {W W' : World} {N : Nat} {cv rv : Value} {k : Int} {c : ByteArray} {lo hi : Int} {wv kv : Value} (h : Ab W N cv rv k c lo hi wv kv) (hb : Below W.heap.size W W') : Ab W' N cv rv k c lo hi wv kv :=
  ⟨h.t0.at hb, h.t1.at hb, h.a0.at hb, h.a1.at hb, h.a2.at hb, h.a3.at hb, h.a4.at hb, h.a5.at hb, h.f0.at hb⟩
theorem Ab.new (w : World) (cv rv : Value) (k : Int) (c : ByteArray) (lo hi : Int) (wv kv : Value) : Ab (((w.alloc (.cells #[cv, rv] 27)).alloc (.cells #[.int .i64 k, .string c, .int .i64 lo, .int .i64 hi, wv, kv] 31)).alloc (.cells #[.func (.func 126) #[] #[.pointer (some ⟨w.heap.size + 1, 0, none⟩)]] 162)) w.heap.size cv rv k c lo hi wv kv := by
  constructor
  all_goals first
    | exact ((Cl.new _ 27 _ _ rfl rfl).at (ba _ _)).at (ba _ _)
    | exact (Cl.new _ 31 _ _ (by simp) rfl).at (ba _ _)
    | exact Cl.new _ 162 _ _ (by simp) rfl
theorem b3a (w : World) (o1 o2 o3 : Obj) : Below w.heap.size w (((w.alloc o1).alloc o2).alloc o3) := bal (bal (ba _ _) _) _

set_option maxHeartbeats 2000000 in
set_option maxRecDepth 100000 in
theorem ans1_any (c : ByteArray) (lo hi : Int) (cv rv wv kv : Value) (w : World) (B : Nat) (l : List Col) (ts : List Rw) (wh : List Tst) (hB : B ≤ w.heap.size) (hp : Cols w B cv l) (hr : Rws w B rv ts) (hw : Tss w B wv wh) (hlen : ts.length ≤ 4096) (hok : ∀ r ∈ rr ts, RowOk l r) (hkv : ∃ a n cc, kv = .slice a n cc) (hwe : whE l wh = 0) :
    Calls Tryz.prog 73 #[.agg #[cv, rv], .agg #[.int .i64 1, .string c, .int .i64 lo, .int .i64 hi, wv, kv]] w (AnsP w (gat 1 (wh.map (trp l)) (stp 1 0 0 0) (rr ts))) := by
  have ab := Ab.new w cv rv 1 c lo hi wv kv
  have hb0 := b3a w (.cells #[cv, rv] 27) (.cells #[.int .i64 1, .string c, .int .i64 lo, .int .i64 hi, wv, kv] 31) (.cells #[.func (.func 126) #[] #[.pointer (some ⟨w.heap.size + 1, 0, none⟩)]] 162)
  have k1 := gather1_any B cv rv wv l ts wh (((w.alloc (.cells #[cv, rv] 27)).alloc (.cells #[.int .i64 1, .string c, .int .i64 lo, .int .i64 hi, wv, kv] 31)).alloc (.cells #[.func (.func 126) #[] #[.pointer (some ⟨w.heap.size + 1, 0, none⟩)]] 162)) (Nat.le_trans hB hb0.size) (hp.at hB hb0) (hr.at hB hb0) (hw.at hB hb0) hwe hlen hok
  obtain ⟨ca, ccp, rfl, hcc1, hcc2⟩ := hp.slice
  obtain ⟨ra, rc, rfl, _⟩ := hr.slice
  obtain ⟨wa, wc, rfl, _⟩ := hw.slice
  obtain ⟨ka, kn, kc', rfl⟩ := hkv
  have hmf := hmf
  clear hp hr hw hok ab hwe
  go_enter Tryz.func73, Tryz.ntmps73
  go_wp2_with fail
  refine k1.mono ?_
  rintro e w1 ⟨g, cc, rfl, hA, hb1⟩
  clear k1
  go_wp2
  go_ret
  exact AnsP.up ⟨g, cc, rfl, hA, hb1⟩ hb0
set_option maxHeartbeats 2000000 in
set_option maxRecDepth 100000 in
theorem ans2_any (c : ByteArray) (lo hi : Int) (cv rv wv kv : Value) (w : World) (B : Nat) (l : List Col) (ts : List Rw) (wh : List Tst) (hB : B ≤ w.heap.size) (hp : Cols w B cv l) (hr : Rws w B rv ts) (hw : Tss w B wv wh) (hlen : ts.length ≤ 4096) (hok : ∀ r ∈ rr ts, RowOk l r) (hkv : ∃ a n cc, kv = .slice a n cc) (hwe : whE l wh = 0) (at' : Nat) (hf : fnd l c = some at') (hwr : wrtB lo hi = true) :
    Calls Tryz.prog 73 #[.agg #[cv, rv], .agg #[.int .i64 2, .string c, .int .i64 lo, .int .i64 hi, wv, kv]] w (AnsP w (gat 1 (wh.map (trp l)) (stp 2 at' lo hi) (rr ts))) := by
  have ab := Ab.new w cv rv 2 c lo hi wv kv
  have hb0 := b3a w (.cells #[cv, rv] 27) (.cells #[.int .i64 2, .string c, .int .i64 lo, .int .i64 hi, wv, kv] 31) (.cells #[.func (.func 126) #[] #[.pointer (some ⟨w.heap.size + 1, 0, none⟩)]] 162)
  have k1 := find_ok B cv l c (((w.alloc (.cells #[cv, rv] 27)).alloc (.cells #[.int .i64 2, .string c, .int .i64 lo, .int .i64 hi, wv, kv] 31)).alloc (.cells #[.func (.func 126) #[] #[.pointer (some ⟨w.heap.size + 1, 0, none⟩)]] 162)) (Nat.le_trans hB hb0.size) (hp.at hB hb0) at' hf
  have HP : Hid (Cols w B cv l) := hp
  have HR : Hid (Rws w B rv ts) := hr
  have HW : Hid (Tss w B wv wh) := hw
  have HOK : Hid (∀ r ∈ rr ts, RowOk l r) := hok
  have hal := fnd_lt hf
  obtain ⟨ca, ccp, rfl, hcc1, hcc2⟩ := hp.slice
  obtain ⟨ra, rc, rfl, _⟩ := hr.slice
  obtain ⟨wa, wc, rfl, _⟩ := hw.slice
  obtain ⟨ka, kn, kc', rfl⟩ := hkv
  have hmf := hmf
  clear hp hr hw hok hf
  go_enter Tryz.func73, Tryz.ntmps73
  go_wp2_with fail
  refine k1.mono ?_
  rintro e w1 ⟨rfl, hb1⟩
  clear k1
  have hb2 := bal hb1 (.cells #[.int .i64 (at' : Int)] 3)
  have ab2 := ab.at hb2
  have hbw := bt hb0 hb2
  have hI : Cl (w1.alloc (.cells #[.int .i64 (at' : Int)] 3)) w1.heap.size 0 (.int .i64 (at' : Int)) := Cl.new _ 3 _ _ rfl rfl
  have k2 := gather2_any B _ _ _ l ts wh _ (Nat.le_trans hB hbw.size) (HP.out.at hB hbw) (HR.out.at hB hbw) (HW.out.at hB hbw) hwe hlen HOK.out _ _ _ at' lo hi ab2.f0 hI ab2.a2 ab2.a3 hwr hal
  have m0 := ab2.t0.c
  have m1 := ab2.t1.c
  have m2 := ab2.a4.c
  clear ab ab2 hI hb1 hb2 hb0
  go_wp2_with fail
  refine k2.mono ?_
  rintro e w3 ⟨g, cc, rfl, hA, hb3⟩
  clear k2
  go_wp2
  go_ret
  exact AnsP.up ⟨g, cc, rfl, hA, hb3⟩ hbw
set_option maxHeartbeats 2000000 in
set_option maxRecDepth 100000 in
theorem ans3_any (c : ByteArray) (lo hi : Int) (cv rv wv kv : Value) (w : World) (B : Nat) (l : List Col) (ts : List Rw) (wh : List Tst) (hB : B ≤ w.heap.size) (hp : Cols w B cv l) (hr : Rws w B rv ts) (hw : Tss w B wv wh) (hlen : ts.length ≤ 4096) (hok : ∀ r ∈ rr ts, RowOk l r) (hkv : ∃ a n cc, kv = .slice a n cc) (hwe : whE l wh = 0) (at' : Nat) (hf : fnd l c = some at') (n : Nat) (hn : n ≤ 4096) (hnc : szC l at' = (n : Int)) :
    Calls Tryz.prog 73 #[.agg #[cv, rv], .agg #[.int .i64 3, .string c, .int .i64 lo, .int .i64 hi, wv, kv]] w (AnsP w (gat n (wh.map (trp l)) (stp 3 at' 0 0) (rr ts))) := by
  have ab := Ab.new w cv rv 3 c lo hi wv kv
  have hb0 := b3a w (.cells #[cv, rv] 27) (.cells #[.int .i64 3, .string c, .int .i64 lo, .int .i64 hi, wv, kv] 31) (.cells #[.func (.func 126) #[] #[.pointer (some ⟨w.heap.size + 1, 0, none⟩)]] 162)
  have k1 := find_ok B cv l c (((w.alloc (.cells #[cv, rv] 27)).alloc (.cells #[.int .i64 3, .string c, .int .i64 lo, .int .i64 hi, wv, kv] 31)).alloc (.cells #[.func (.func 126) #[] #[.pointer (some ⟨w.heap.size + 1, 0, none⟩)]] 162)) (Nat.le_trans hB hb0.size) (hp.at hB hb0) at' hf
  have HP : Hid (Cols w B cv l) := hp
  have HR : Hid (Rws w B rv ts) := hr
  have HW : Hid (Tss w B wv wh) := hw
  have HOK : Hid (∀ r ∈ rr ts, RowOk l r) := hok
  have hal := fnd_lt hf
  have HNC : Hid (szC l at' = (n : Int)) := hnc
  obtain ⟨ca, ccp, rfl, hcc1, hcc2⟩ := hp.slice
  obtain ⟨ra, rc, rfl, _⟩ := hr.slice
  obtain ⟨wa, wc, rfl, _⟩ := hw.slice
  obtain ⟨ka, kn, kc', rfl⟩ := hkv
  have hmf := hmf
  clear hp hr hw hok hf hnc
  go_enter Tryz.func73, Tryz.ntmps73
  go_wp2_with fail
  refine k1.mono ?_
  rintro e w1 ⟨rfl, hb1⟩
  clear k1
  have hb2 := bal hb1 (.cells #[.int .i64 (at' : Int)] 3)
  have ab2 := ab.at hb2
  have hbw := bt hb0 hb2
  have hI : Cl (w1.alloc (.cells #[.int .i64 (at' : Int)] 3)) w1.heap.size 0 (.int .i64 (at' : Int)) := Cl.new _ 3 _ _ rfl rfl
  obtain ⟨b, o, nm, sz, rfl, hb, hgt, c1, c2, hnm⟩ := HP.out.get hB hbw hal
  obtain rfl : sz = (n : Int) := by have := HNC.out; simpa [szC, hgt] using this
  obtain ⟨W2, hW2⟩ : ∃ W2, w1.alloc (.cells #[.int .i64 (at' : Int)] 3) = W2 := ⟨_, rfl⟩
  have hbd : Below w.heap.size w W2.drew := by rw [← hW2]; exact hbw.drew
  have abd : Ab W2.drew w.heap.size (.slice (some ⟨b, o, none⟩) l.length ccp) (.slice ra ts.length rc) 3 c lo hi (.slice wa wh.length wc) (.slice ka kn kc') := by rw [← hW2]; exact ab2.at (Below.refl _ _).drew
  have hId : Cl W2.drew w1.heap.size 0 (.int .i64 (at' : Int)) := by rw [← hW2]; exact hI.at (Below.refl _ _).drew
  have k2 := gather3_any B _ _ _ l ts wh n hn W2.drew (Nat.le_trans hB hbd.size) (HP.out.at hB hbd) (HR.out.at hB hbd) (HW.out.at hB hbd) hwe hlen HOK.out w1.heap.size at' (nm, (n : Int)) hId hgt rfl
  have HW2 : Hid (w1.alloc (.cells #[.int .i64 (at' : Int)] 3) = W2) := hW2
  have d0 : W2.drew.cell? ⟨b, o + at' * 2 + 1, none⟩ = some (.int .i64 (n : Int)) := by rw [← hW2]; exact c2
  rw [hW2] at c1 c2 hbw
  have m0 : W2.cell? ⟨w.heap.size, 0, none⟩ = _ := abd.t0.c
  have m1 : W2.cell? ⟨w.heap.size, 1, none⟩ = _ := abd.t1.c
  have m2 : W2.cell? ⟨w.heap.size + 1, 4, none⟩ = _ := abd.a4.c
  have m3 : W2.cell? ⟨w1.heap.size, 0, none⟩ = _ := hId.c
  have lN : w.heap.size < W2.heap.size := abd.t0.lt
  have lN1 : w.heap.size + 1 < W2.heap.size := abd.a4.lt
  have lI : w1.heap.size < W2.heap.size := hId.lt
  have lb : b < W2.heap.size := Nat.lt_of_lt_of_le hb (Nat.le_trans hB hbd.size)
  have hbI : (0 : Int) ≤ (at' : Int) := by omega
  have hbI2 : (at' : Int) < (l.length : Int) := by omega
  clear ab ab2 hI hb1 hb2 hb0 abd hId hgt d0 HNC
  go_wp2
  clear HW2 hW2
  go_region_held3 (fun w' => w'.cell? ⟨w.heap.size, 0, none⟩ = some (.slice (some ⟨b, o, none⟩) l.length ccp) ∧ w'.cell? ⟨w.heap.size, 1, none⟩ = some (.slice ra ts.length rc) ∧ w'.cell? ⟨w.heap.size + 1, 4, none⟩ = some (.slice wa wh.length wc) ∧ w'.cell? ⟨w1.heap.size, 0, none⟩ = some (.int .i64 (at' : Int)) ∧ w'.cell? ⟨b, o + at' * 2 + 1, none⟩ = some (.int .i64 (n : Int))) (first | assumption | (simp [go_sem, *]; done)) ((go_at_call 128; refine k2.mono ?_; rintro x3 w3 hA; obtain ⟨g3, c3', rfl, hA3, hb3⟩ := hA; have z0 := (hb3.cell (p := ⟨w.heap.size, 0, none⟩) lN).trans m0; have z1 := (hb3.cell (p := ⟨w.heap.size, 1, none⟩) lN).trans m1; have z2 := (hb3.cell (p := ⟨w.heap.size + 1, 4, none⟩) lN1).trans m2; have z3 := (hb3.cell (p := ⟨w1.heap.size, 0, none⟩) lI).trans m3; have z4 := (hb3.cell (p := ⟨b, o + at' * 2 + 1, none⟩) lb).trans c2))
  go_wp2
  go_ret
  exact AnsP.up ⟨g3, c3', rfl, hA3, hb3⟩ hbd
end Go.Proofs.YtlndlpjadajelaaGreat.K

namespace Go.Proofs.YtlndlpjadajelaaGreat.K
open Go.RowKit Go.Proofs.YtlndlpjadajelaaGreat.K.Ds

theorem grown_ans {w W w1 w2 : World} {xs : List Int} {g c : Nat} (hW : Below w.heap.size w W) (hb1 : Below W.heap.size W w1) (hg : W.heap.size ≤ g) (hgr : w1.grownBy w2 (some g)) (hA : Arw w2 W.heap.size g c xs) : AnsP w xs (.returned (.slice (some ⟨g, 0, none⟩) xs.length c)) w2 :=
  ⟨g, c, rfl, hA.mono hW.size, (bt hW hb1).trans (below_gb hgr (Nat.le_trans hW.size hg) (Nat.le_trans hW.size hb1.size))⟩

set_option maxHeartbeats 2000000 in
set_option maxRecDepth 100000 in
theorem ans4_any (c : ByteArray) (lo hi : Int) (cv rv wv : Value) (b o cap : Nat) (w : World) (B : Nat) (l : List Col) (ts : List Rw) (wh : List Tst) (hB : B ≤ w.heap.size) (hp : Cols w B cv l) (hr : Rws w B rv ts) (hw : Tss w B wv wh) (hbB : b < B) (x : Qu) (u0 u1 u2 u3 u4 u5 : Value) (hu : At6 w b o u0 u1 u2 u3 u4 u5) (hqx : Qm w B x u0 u1 u2 u3 u4 u5) (xs : List Int) (kx : ∀ W, Below w.heap.size w W → Calls Tryz.prog 73 #[.agg #[cv, rv], .agg #[u0, u1, u2, u3, u4, u5]] W (AnsP W xs)) (y : Qu) (z0 z1 z2 z3 z4 z5 : Value) (hz : At6 w b (o + 6) z0 z1 z2 z3 z4 z5) (hqy : Qm w B y z0 z1 z2 z3 z4 z5) (ys : List Int) (ky : ∀ W, Below w.heap.size w W → Calls Tryz.prog 73 #[.agg #[cv, rv], .agg #[z0, z1, z2, z3, z4, z5]] W (AnsP W ys)) (hbx : Bdd 1099511627776 xs) (hby : Bdd 1099511627776 ys) (hl : xs.length = ys.length) :
    Calls Tryz.prog 73 #[.agg #[cv, rv], .agg #[.int .i64 4, .string c, .int .i64 lo, .int .i64 hi, wv, .slice (some ⟨b, o, none⟩) 2 cap]] w (AnsP w (List.zipWith (· + ·) xs ys)) := by
  have ab := Ab.new w cv rv 4 c lo hi wv (.slice (some ⟨b, o, none⟩) 2 cap)
  have hb0 := b3a w (.cells #[cv, rv] 27) (.cells #[.int .i64 4, .string c, .int .i64 lo, .int .i64 hi, wv, .slice (some ⟨b, o, none⟩) 2 cap] 31) (.cells #[.func (.func 126) #[] #[.pointer (some ⟨w.heap.size + 1, 0, none⟩)]] 162)
  obtain ⟨W0, hW0⟩ : ∃ W0, (((w.alloc (.cells #[cv, rv] 27)).alloc (.cells #[.int .i64 4, .string c, .int .i64 lo, .int .i64 hi, wv, .slice (some ⟨b, o, none⟩) 2 cap] 31)).alloc (.cells #[.func (.func 126) #[] #[.pointer (some ⟨w.heap.size + 1, 0, none⟩)]] 162)) = W0 := ⟨_, rfl⟩
  rw [hW0] at ab hb0
  have HW0 : Hid ((((w.alloc (.cells #[cv, rv] 27)).alloc (.cells #[.int .i64 4, .string c, .int .i64 lo, .int .i64 hi, wv, .slice (some ⟨b, o, none⟩) 2 cap] 31)).alloc (.cells #[.func (.func 126) #[] #[.pointer (some ⟨w.heap.size + 1, 0, none⟩)]] 162)) = W0) := hW0
  have k1 := kid0_any w.heap.size (w.heap.size + 1) cv rv b o 2 cap (by omega) xs W0 ab.t0.c ab.t1.c ab.a5.c B x u0 u1 u2 u3 u4 u5 (hu.keep hb0 (Nat.lt_of_lt_of_le hbB hB)) (hqx.at hB hb0) l ts (hp.at hB hb0) (hr.at hB hb0) (kx _ hb0.drew)
  have HK : ∀ w1, Below W0.heap.size W0 w1 → Calls Tryz.prog 127 #[.int .i64 1, .pointer (some ⟨w.heap.size, 0, none⟩), .pointer (some ⟨w.heap.size + 1, 0, none⟩)] w1 (AnsP w1 ys) := fun w1 hb1 =>
    kid1_any w.heap.size (w.heap.size + 1) cv rv b o 2 cap (by omega) ys w1 (ab.at hb1).t0.c (ab.at hb1).t1.c (ab.at hb1).a5.c B y z0 z1 z2 z3 z4 z5 (hz.keep (bt hb0 hb1) (Nat.lt_of_lt_of_le hbB hB)) (hqy.at hB (bt hb0 hb1)) l ts (hp.at hB (bt hb0 hb1)) (hr.at hB (bt hb0 hb1)) (ky _ (bt hb0 hb1).drew)
  have HAB : Hid (Ab W0 w.heap.size cv rv 4 c lo hi wv (.slice (some ⟨b, o, none⟩) 2 cap)) := ab
  obtain ⟨ca, ccp, rfl, _⟩ := hp.slice
  obtain ⟨ra, rc, rfl, _⟩ := hr.slice
  obtain ⟨wa, wc, rfl, _⟩ := hw.slice
  have hmf := hmf
  have m0 := HAB.out.a0.c
  clear hp hr hw hu hqx kx ab hz hqy ky
  go_enter Tryz.func73, Tryz.ntmps73
  have HL : Hid (xs.length = ys.length) := hl
  clear hl
  go_wp2_with fail
  refine k1.mono ?_
  rintro e w1 ⟨g1, c1, rfl, hA1, hb1⟩
  clear k1
  have hg1 := hA1.lt
  have k2 := HK w1 hb1
  clear HK
  go_wp2_with fail
  refine k2.mono ?_
  rintro e w2 ⟨g2, c2, rfl, hA2, hb2⟩
  clear k2
  have hg2 := hA2.lt
  have hA12 := hA1.at hb2
  have hbw := bt hb1 hb2
  have k3 := pairP_any W0.heap.size g1 c1 w2.heap.size _ xs ys w2 hA12 (hA2.ints g1 (by omega)) HL.out hbx hby
  go_wp2_with fail
  refine k3.mono ?_
  rintro e w3 ⟨rfl, hA3, hgr⟩
  clear k3
  go_wp2
  go_ret
  have hle : (List.zipWith (· + ·) xs ys).length = xs.length := by rw [List.length_zipWith]; have := HL.out; omega
  have := grown_ans hb0 hbw hg1.1 hgr hA3
  rw [hle] at this
  exact this
set_option maxHeartbeats 2000000 in
set_option maxRecDepth 100000 in
theorem ans5_any (c : ByteArray) (lo hi : Int) (cv rv wv : Value) (b o cap : Nat) (w : World) (B : Nat) (l : List Col) (ts : List Rw) (wh : List Tst) (hB : B ≤ w.heap.size) (hp : Cols w B cv l) (hr : Rws w B rv ts) (hw : Tss w B wv wh) (hbB : b < B) (x : Qu) (u0 u1 u2 u3 u4 u5 : Value) (hu : At6 w b o u0 u1 u2 u3 u4 u5) (hqx : Qm w B x u0 u1 u2 u3 u4 u5) (xs : List Int) (kx : ∀ W, Below w.heap.size w W → Calls Tryz.prog 73 #[.agg #[cv, rv], .agg #[u0, u1, u2, u3, u4, u5]] W (AnsP W xs)) (y : Qu) (z0 z1 z2 z3 z4 z5 : Value) (hz : At6 w b (o + 6) z0 z1 z2 z3 z4 z5) (hqy : Qm w B y z0 z1 z2 z3 z4 z5) (ys : List Int) (ky : ∀ W, Below w.heap.size w W → Calls Tryz.prog 73 #[.agg #[cv, rv], .agg #[z0, z1, z2, z3, z4, z5]] W (AnsP W ys)) (hbx : Bdd 1099511627776 xs) (hby : Bdd 1099511627776 ys) (hl : xs.length = ys.length) :
    Calls Tryz.prog 73 #[.agg #[cv, rv], .agg #[.int .i64 5, .string c, .int .i64 lo, .int .i64 hi, wv, .slice (some ⟨b, o, none⟩) 2 cap]] w (AnsP w (List.zipWith (· - ·) xs ys)) := by
  have ab := Ab.new w cv rv 5 c lo hi wv (.slice (some ⟨b, o, none⟩) 2 cap)
  have hb0 := b3a w (.cells #[cv, rv] 27) (.cells #[.int .i64 5, .string c, .int .i64 lo, .int .i64 hi, wv, .slice (some ⟨b, o, none⟩) 2 cap] 31) (.cells #[.func (.func 126) #[] #[.pointer (some ⟨w.heap.size + 1, 0, none⟩)]] 162)
  obtain ⟨W0, hW0⟩ : ∃ W0, (((w.alloc (.cells #[cv, rv] 27)).alloc (.cells #[.int .i64 5, .string c, .int .i64 lo, .int .i64 hi, wv, .slice (some ⟨b, o, none⟩) 2 cap] 31)).alloc (.cells #[.func (.func 126) #[] #[.pointer (some ⟨w.heap.size + 1, 0, none⟩)]] 162)) = W0 := ⟨_, rfl⟩
  rw [hW0] at ab hb0
  have HW0 : Hid ((((w.alloc (.cells #[cv, rv] 27)).alloc (.cells #[.int .i64 5, .string c, .int .i64 lo, .int .i64 hi, wv, .slice (some ⟨b, o, none⟩) 2 cap] 31)).alloc (.cells #[.func (.func 126) #[] #[.pointer (some ⟨w.heap.size + 1, 0, none⟩)]] 162)) = W0) := hW0
  have k1 := kid0_any w.heap.size (w.heap.size + 1) cv rv b o 2 cap (by omega) xs W0 ab.t0.c ab.t1.c ab.a5.c B x u0 u1 u2 u3 u4 u5 (hu.keep hb0 (Nat.lt_of_lt_of_le hbB hB)) (hqx.at hB hb0) l ts (hp.at hB hb0) (hr.at hB hb0) (kx _ hb0.drew)
  have HK : ∀ w1, Below W0.heap.size W0 w1 → Calls Tryz.prog 127 #[.int .i64 1, .pointer (some ⟨w.heap.size, 0, none⟩), .pointer (some ⟨w.heap.size + 1, 0, none⟩)] w1 (AnsP w1 ys) := fun w1 hb1 =>
    kid1_any w.heap.size (w.heap.size + 1) cv rv b o 2 cap (by omega) ys w1 (ab.at hb1).t0.c (ab.at hb1).t1.c (ab.at hb1).a5.c B y z0 z1 z2 z3 z4 z5 (hz.keep (bt hb0 hb1) (Nat.lt_of_lt_of_le hbB hB)) (hqy.at hB (bt hb0 hb1)) l ts (hp.at hB (bt hb0 hb1)) (hr.at hB (bt hb0 hb1)) (ky _ (bt hb0 hb1).drew)
  have HAB : Hid (Ab W0 w.heap.size cv rv 5 c lo hi wv (.slice (some ⟨b, o, none⟩) 2 cap)) := ab
  obtain ⟨ca, ccp, rfl, _⟩ := hp.slice
  obtain ⟨ra, rc, rfl, _⟩ := hr.slice
  obtain ⟨wa, wc, rfl, _⟩ := hw.slice
  have hmf := hmf
  have m0 := HAB.out.a0.c
  clear hp hr hw hu hqx kx ab hz hqy ky
  go_enter Tryz.func73, Tryz.ntmps73
  have HL : Hid (xs.length = ys.length) := hl
  clear hl
  go_wp2_with fail
  refine k1.mono ?_
  rintro e w1 ⟨g1, c1, rfl, hA1, hb1⟩
  clear k1
  have hg1 := hA1.lt
  have k2 := HK w1 hb1
  clear HK
  go_wp2_with fail
  refine k2.mono ?_
  rintro e w2 ⟨g2, c2, rfl, hA2, hb2⟩
  clear k2
  have hg2 := hA2.lt
  have hA12 := hA1.at hb2
  have hbw := bt hb1 hb2
  have k3 := pairM_any W0.heap.size g1 c1 w2.heap.size _ xs ys w2 hA12 (hA2.ints g1 (by omega)) HL.out hbx hby
  go_wp2_with fail
  refine k3.mono ?_
  rintro e w3 ⟨rfl, hA3, hgr⟩
  clear k3
  go_wp2
  go_ret
  have hle : (List.zipWith (· - ·) xs ys).length = xs.length := by rw [List.length_zipWith]; have := HL.out; omega
  have := grown_ans hb0 hbw hg1.1 hgr hA3
  rw [hle] at this
  exact this
set_option maxHeartbeats 2000000 in
set_option maxRecDepth 100000 in
theorem ans6_any (c : ByteArray) (lo hi : Int) (cv rv wv : Value) (b o cap : Nat) (w : World) (B : Nat) (l : List Col) (ts : List Rw) (wh : List Tst) (hB : B ≤ w.heap.size) (hp : Cols w B cv l) (hr : Rws w B rv ts) (hw : Tss w B wv wh) (hbB : b < B) (x : Qu) (u0 u1 u2 u3 u4 u5 : Value) (hu : At6 w b o u0 u1 u2 u3 u4 u5) (hqx : Qm w B x u0 u1 u2 u3 u4 u5) (xs : List Int) (kx : ∀ W, Below w.heap.size w W → Calls Tryz.prog 73 #[.agg #[cv, rv], .agg #[u0, u1, u2, u3, u4, u5]] W (AnsP W xs)) (hbx : Bdd 1099511627776 xs) (hlo : -1048576 ≤ lo ∧ lo ≤ 1048576) :
    Calls Tryz.prog 73 #[.agg #[cv, rv], .agg #[.int .i64 6, .string c, .int .i64 lo, .int .i64 hi, wv, .slice (some ⟨b, o, none⟩) 1 cap]] w (AnsP w (xs.map (lo * ·))) := by
  have ab := Ab.new w cv rv 6 c lo hi wv (.slice (some ⟨b, o, none⟩) 1 cap)
  have hb0 := b3a w (.cells #[cv, rv] 27) (.cells #[.int .i64 6, .string c, .int .i64 lo, .int .i64 hi, wv, .slice (some ⟨b, o, none⟩) 1 cap] 31) (.cells #[.func (.func 126) #[] #[.pointer (some ⟨w.heap.size + 1, 0, none⟩)]] 162)
  obtain ⟨W0, hW0⟩ : ∃ W0, (((w.alloc (.cells #[cv, rv] 27)).alloc (.cells #[.int .i64 6, .string c, .int .i64 lo, .int .i64 hi, wv, .slice (some ⟨b, o, none⟩) 1 cap] 31)).alloc (.cells #[.func (.func 126) #[] #[.pointer (some ⟨w.heap.size + 1, 0, none⟩)]] 162)) = W0 := ⟨_, rfl⟩
  rw [hW0] at ab hb0
  have HW0 : Hid ((((w.alloc (.cells #[cv, rv] 27)).alloc (.cells #[.int .i64 6, .string c, .int .i64 lo, .int .i64 hi, wv, .slice (some ⟨b, o, none⟩) 1 cap] 31)).alloc (.cells #[.func (.func 126) #[] #[.pointer (some ⟨w.heap.size + 1, 0, none⟩)]] 162)) = W0) := hW0
  have k1 := kid0_any w.heap.size (w.heap.size + 1) cv rv b o 1 cap (by omega) xs W0 ab.t0.c ab.t1.c ab.a5.c B x u0 u1 u2 u3 u4 u5 (hu.keep hb0 (Nat.lt_of_lt_of_le hbB hB)) (hqx.at hB hb0) l ts (hp.at hB hb0) (hr.at hB hb0) (kx _ hb0.drew)
  have HAB : Hid (Ab W0 w.heap.size cv rv 6 c lo hi wv (.slice (some ⟨b, o, none⟩) 1 cap)) := ab
  obtain ⟨ca, ccp, rfl, _⟩ := hp.slice
  obtain ⟨ra, rc, rfl, _⟩ := hr.slice
  obtain ⟨wa, wc, rfl, _⟩ := hw.slice
  have hmf := hmf
  have m0 := HAB.out.a0.c
  clear hp hr hw hu hqx kx ab
  go_enter Tryz.func73, Tryz.ntmps73
  go_wp2_with fail
  refine k1.mono ?_
  rintro e w1 ⟨g1, c1, rfl, hA1, hb1⟩
  clear k1
  have hg1 := hA1.lt
  have ab1 := HAB.out.at hb1
  have k3 := eachT_any W0.heap.size g1 c1 (w.heap.size + 1) xs w1 hA1 lo hbx ab1.a2.c hlo (by have := HAB.out.a2.lt; omega)
  clear ab1
  go_wp2_with fail
  refine k3.mono ?_
  rintro e w3 ⟨rfl, hA3, hgr⟩
  clear k3
  go_wp2
  go_ret
  have := grown_ans hb0 hb1 hg1.1 hgr hA3
  rw [List.length_map] at this
  exact this
set_option maxHeartbeats 2000000 in
set_option maxRecDepth 100000 in
theorem ans7_any (c : ByteArray) (lo hi : Int) (cv rv wv : Value) (b o cap : Nat) (w : World) (B : Nat) (l : List Col) (ts : List Rw) (wh : List Tst) (hB : B ≤ w.heap.size) (hp : Cols w B cv l) (hr : Rws w B rv ts) (hw : Tss w B wv wh) (hbB : b < B) (x : Qu) (u0 u1 u2 u3 u4 u5 : Value) (hu : At6 w b o u0 u1 u2 u3 u4 u5) (hqx : Qm w B x u0 u1 u2 u3 u4 u5) (xs : List Int) (kx : ∀ W, Below w.heap.size w W → Calls Tryz.prog 73 #[.agg #[cv, rv], .agg #[u0, u1, u2, u3, u4, u5]] W (AnsP W xs)) (y : Qu) (z0 z1 z2 z3 z4 z5 : Value) (hz : At6 w b (o + 6) z0 z1 z2 z3 z4 z5) (hqy : Qm w B y z0 z1 z2 z3 z4 z5) (ys : List Int) (ky : ∀ W, Below w.heap.size w W → Calls Tryz.prog 73 #[.agg #[cv, rv], .agg #[z0, z1, z2, z3, z4, z5]] W (AnsP W ys)) (hl : xs.length + ys.length ≤ 1048576) :
    Calls Tryz.prog 73 #[.agg #[cv, rv], .agg #[.int .i64 7, .string c, .int .i64 lo, .int .i64 hi, wv, .slice (some ⟨b, o, none⟩) 2 cap]] w (AnsP w (xs ++ ys)) := by
  have ab := Ab.new w cv rv 7 c lo hi wv (.slice (some ⟨b, o, none⟩) 2 cap)
  have hb0 := b3a w (.cells #[cv, rv] 27) (.cells #[.int .i64 7, .string c, .int .i64 lo, .int .i64 hi, wv, .slice (some ⟨b, o, none⟩) 2 cap] 31) (.cells #[.func (.func 126) #[] #[.pointer (some ⟨w.heap.size + 1, 0, none⟩)]] 162)
  obtain ⟨W0, hW0⟩ : ∃ W0, (((w.alloc (.cells #[cv, rv] 27)).alloc (.cells #[.int .i64 7, .string c, .int .i64 lo, .int .i64 hi, wv, .slice (some ⟨b, o, none⟩) 2 cap] 31)).alloc (.cells #[.func (.func 126) #[] #[.pointer (some ⟨w.heap.size + 1, 0, none⟩)]] 162)) = W0 := ⟨_, rfl⟩
  rw [hW0] at ab hb0
  have HW0 : Hid ((((w.alloc (.cells #[cv, rv] 27)).alloc (.cells #[.int .i64 7, .string c, .int .i64 lo, .int .i64 hi, wv, .slice (some ⟨b, o, none⟩) 2 cap] 31)).alloc (.cells #[.func (.func 126) #[] #[.pointer (some ⟨w.heap.size + 1, 0, none⟩)]] 162)) = W0) := hW0
  have k1 := kid0_any w.heap.size (w.heap.size + 1) cv rv b o 2 cap (by omega) xs W0 ab.t0.c ab.t1.c ab.a5.c B x u0 u1 u2 u3 u4 u5 (hu.keep hb0 (Nat.lt_of_lt_of_le hbB hB)) (hqx.at hB hb0) l ts (hp.at hB hb0) (hr.at hB hb0) (kx _ hb0.drew)
  have HK : ∀ w1, Below W0.heap.size W0 w1 → Calls Tryz.prog 127 #[.int .i64 1, .pointer (some ⟨w.heap.size, 0, none⟩), .pointer (some ⟨w.heap.size + 1, 0, none⟩)] w1 (AnsP w1 ys) := fun w1 hb1 =>
    kid1_any w.heap.size (w.heap.size + 1) cv rv b o 2 cap (by omega) ys w1 (ab.at hb1).t0.c (ab.at hb1).t1.c (ab.at hb1).a5.c B y z0 z1 z2 z3 z4 z5 (hz.keep (bt hb0 hb1) (Nat.lt_of_lt_of_le hbB hB)) (hqy.at hB (bt hb0 hb1)) l ts (hp.at hB (bt hb0 hb1)) (hr.at hB (bt hb0 hb1)) (ky _ (bt hb0 hb1).drew)
  have HAB : Hid (Ab W0 w.heap.size cv rv 7 c lo hi wv (.slice (some ⟨b, o, none⟩) 2 cap)) := ab
  obtain ⟨ca, ccp, rfl, _⟩ := hp.slice
  obtain ⟨ra, rc, rfl, _⟩ := hr.slice
  obtain ⟨wa, wc, rfl, _⟩ := hw.slice
  have hmf := hmf
  have m0 := HAB.out.a0.c
  clear hp hr hw hu hqx kx ab hz hqy ky
  go_enter Tryz.func73, Tryz.ntmps73
  obtain ⟨i0, hi0, hz0, hz1, hz2⟩ := info_parts info3
  have HL : Hid (xs.length + ys.length ≤ 1048576) := hl
  clear hl
  go_wp2_with fail
  refine k1.mono ?_
  rintro e w1 ⟨g1, c1, rfl, hA1, hb1⟩
  clear k1
  have hg1 := hA1.lt
  have k2 := HK w1 hb1
  clear HK
  go_wp2_with fail
  refine k2.mono ?_
  rintro e w2 ⟨g2, c2, rfl, hA2, hb2⟩
  clear k2
  have hg2 := hA2.lt
  have hA12 := hA1.at hb2
  have hbw := bt hb1 hb2
  have HA2 : Hid (Arw w2 w1.heap.size g2 c2 ys) := hA2
  have HA12 : Hid (Arw w2 W0.heap.size g1 c1 xs) := hA12
  have hs2 : Hid (W0.heap.size ≤ w2.heap.size) := hbw.size
  clear hA1 hA2 hA12
  go_wp2_with (at_builtin; refine wpList_append_own _ rfl _ _ 65 rfl W0.heap.size 3 i0 (.int .i64 0) 1 8 Tryz.underlying65 hi0 hz0 hz1 hz2 rfl (by decide) _ _ _ rfl HA12.out ⟨g2, 0, none⟩ ys.length c2 (ys.map (.int .i64)) rfl ?q1 ?q2 ?q3 ?q4 ?q5 ?q6 ?_)
  case q1 => simp
  case q2 => exact World.ownsRow.cells HA2.out rfl
  case q3 => intro u hu; obtain ⟨z, _, rfl⟩ := List.mem_map.1 hu; rfl
  case q4 => have := HL.out; simp [maxLen]; omega
  case q5 => have := HL.out; omega
  case q6 => exact hs2.out
  intro v3 w3 hown3 hgrow hnil
  obtain ⟨g3, c3, rfl, hg3, _⟩ := owns_some hown3 hnil
  have hA3 : Arw w3 W0.heap.size g3 c3 (xs ++ ys) := by simpa [Arw] using hown3
  have hbw3 : Below w.heap.size w w3 := (bt hb0 hbw).trans (below_gb (E := g1) hgrow (Nat.le_trans hb0.size hg1.1) (Nat.le_trans hb0.size hs2.out))
  clear hgrow hnil hown3
  go_wp2
  go_ret
  exact ⟨g3, c3, by rw [List.length_append]; rfl, hA3.mono hb0.size, hbw3⟩
set_option maxHeartbeats 2000000 in
set_option maxRecDepth 100000 in
theorem ans8_any (c : ByteArray) (lo hi : Int) (cv rv wv : Value) (b o cap : Nat) (w : World) (B : Nat) (l : List Col) (ts : List Rw) (wh : List Tst) (hB : B ≤ w.heap.size) (hp : Cols w B cv l) (hr : Rws w B rv ts) (hw : Tss w B wv wh) (hbB : b < B) (x : Qu) (u0 u1 u2 u3 u4 u5 : Value) (hu : At6 w b o u0 u1 u2 u3 u4 u5) (hqx : Qm w B x u0 u1 u2 u3 u4 u5) (xs : List Int) (kx : ∀ W, Below w.heap.size w W → Calls Tryz.prog 73 #[.agg #[cv, rv], .agg #[u0, u1, u2, u3, u4, u5]] W (AnsP W xs)) (hbx : Bdd 1099511627776 xs) (hl : xs.length ≤ 4096) :
    Calls Tryz.prog 73 #[.agg #[cv, rv], .agg #[.int .i64 8, .string c, .int .i64 lo, .int .i64 hi, wv, .slice (some ⟨b, o, none⟩) 1 cap]] w (AnsP w ([smL xs])) := by
  have ab := Ab.new w cv rv 8 c lo hi wv (.slice (some ⟨b, o, none⟩) 1 cap)
  have hb0 := b3a w (.cells #[cv, rv] 27) (.cells #[.int .i64 8, .string c, .int .i64 lo, .int .i64 hi, wv, .slice (some ⟨b, o, none⟩) 1 cap] 31) (.cells #[.func (.func 126) #[] #[.pointer (some ⟨w.heap.size + 1, 0, none⟩)]] 162)
  obtain ⟨W0, hW0⟩ : ∃ W0, (((w.alloc (.cells #[cv, rv] 27)).alloc (.cells #[.int .i64 8, .string c, .int .i64 lo, .int .i64 hi, wv, .slice (some ⟨b, o, none⟩) 1 cap] 31)).alloc (.cells #[.func (.func 126) #[] #[.pointer (some ⟨w.heap.size + 1, 0, none⟩)]] 162)) = W0 := ⟨_, rfl⟩
  rw [hW0] at ab hb0
  have HW0 : Hid ((((w.alloc (.cells #[cv, rv] 27)).alloc (.cells #[.int .i64 8, .string c, .int .i64 lo, .int .i64 hi, wv, .slice (some ⟨b, o, none⟩) 1 cap] 31)).alloc (.cells #[.func (.func 126) #[] #[.pointer (some ⟨w.heap.size + 1, 0, none⟩)]] 162)) = W0) := hW0
  have k1 := kid0_any w.heap.size (w.heap.size + 1) cv rv b o 1 cap (by omega) xs W0 ab.t0.c ab.t1.c ab.a5.c B x u0 u1 u2 u3 u4 u5 (hu.keep hb0 (Nat.lt_of_lt_of_le hbB hB)) (hqx.at hB hb0) l ts (hp.at hB hb0) (hr.at hB hb0) (kx _ hb0.drew)
  have HAB : Hid (Ab W0 w.heap.size cv rv 8 c lo hi wv (.slice (some ⟨b, o, none⟩) 1 cap)) := ab
  obtain ⟨ca, ccp, rfl, _⟩ := hp.slice
  obtain ⟨ra, rc, rfl, _⟩ := hr.slice
  obtain ⟨wa, wc, rfl, _⟩ := hw.slice
  have hmf := hmf
  have m0 := HAB.out.a0.c
  clear hp hr hw hu hqx kx ab
  go_enter Tryz.func73, Tryz.ntmps73
  go_wp2_with fail
  refine k1.mono ?_
  rintro e w1 ⟨g1, c1, rfl, hA1, hb1⟩
  clear k1
  have hg1 := hA1.lt
  have k3 := total_any w1.heap.size w1.heap.size _ xs w1 (Nat.le_refl _) (hA1.ints w1.heap.size (by omega)) hl hbx _ rfl
  go_wp2_with fail
  refine k3.mono ?_
  rintro e w3 ⟨rfl, hw3⟩
  subst hw3
  clear k3
  go_wp2
  go_ret
  exact ⟨w3.heap.size, 1, rfl, Arw.lit _ _ _ (Nat.le_trans hb0.size hb1.size), bt hb0 (bal hb1 _)⟩
end Go.Proofs.YtlndlpjadajelaaGreat.K
