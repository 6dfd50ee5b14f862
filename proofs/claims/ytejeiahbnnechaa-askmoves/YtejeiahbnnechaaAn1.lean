import Derived.Test.YtejeiahbnnechaaKid
import Derived.Test.YtejeiahbnnechaaPai
namespace Go.Proofs.Ytejeiahbnnechaa
open Go.RowKit Go.Proofs.Ytejeiahbnnechaa.Ds

/-- the cells that answer makes -/
structure Ab (W : World) (N : Nat) (cv rv : Value) (k : Int) (c : ByteArray) (lo hi : Int) (wv kv : Value) : Prop where
  t0 : Cl W N 0 cv
  t1 : Cl W N 1 rv
  a0 : Cl W (N + 1) 0 (.int .i64 k)
  a1 : Cl W (N + 1) 1 (.string c)
  a2 : Cl W (N + 1) 2 (.int .i64 lo)
  a3 : Cl W (N + 1) 3 (.int .i64 hi)
  a4 : Cl W (N + 1) 4 wv
  a5 : Cl W (N + 1) 5 kv
  f0 : Cl W (N + 1 + 1) 0 (.func (.func 56) #[] #[.pointer (some ⟨N + 1, 0, none⟩)])
theorem Ab.at {W W' : World} {N : Nat} {cv rv : Value} {k : Int} {c : ByteArray} {lo hi : Int} {wv kv : Value} (h : Ab W N cv rv k c lo hi wv kv) (hb : Below W.heap.size W W') : Ab W' N cv rv k c lo hi wv kv :=
  ⟨h.t0.at hb, h.t1.at hb, h.a0.at hb, h.a1.at hb, h.a2.at hb, h.a3.at hb, h.a4.at hb, h.a5.at hb, h.f0.at hb⟩
theorem Ab.new (w : World) (cv rv : Value) (k : Int) (c : ByteArray) (lo hi : Int) (wv kv : Value) : Ab (((w.alloc (.cells #[cv, rv] 37)).alloc (.cells #[.int .i64 k, .string c, .int .i64 lo, .int .i64 hi, wv, kv] 26)).alloc (.cells #[.func (.func 56) #[] #[.pointer (some ⟨w.heap.size + 1, 0, none⟩)]] 68)) w.heap.size cv rv k c lo hi wv kv := by
  constructor
  all_goals first
    | exact ((Cl.new _ 37 _ _ rfl rfl).at (ba _ _)).at (ba _ _)
    | exact (Cl.new _ 26 _ _ (by simp) rfl).at (ba _ _)
    | exact Cl.new _ 68 _ _ (by simp) rfl
theorem b3a (w : World) (o1 o2 o3 : Obj) : Below w.heap.size w (((w.alloc o1).alloc o2).alloc o3) := bal (bal (ba _ _) _) _

set_option maxHeartbeats 2000000 in
set_option maxRecDepth 100000 in
theorem ans1_any (c : ByteArray) (lo hi : Int) (cv rv wv kv : Value) (w : World) (B : Nat) (l : List Col) (ts : List Rw) (wh : List Tst) (hB : B ≤ w.heap.size) (hp : Cols w B cv l) (hr : Rws w B rv ts) (hw : Tss w B wv wh) (hlen : ts.length ≤ 4096) (hok : ∀ r ∈ rr ts, RowOk l r) (hkv : ∃ a n cc, kv = .slice a n cc) (hwe : whE l wh = 0) :
    Calls Try.prog 36 #[.agg #[cv, rv], .agg #[.int .i64 1, .string c, .int .i64 lo, .int .i64 hi, wv, kv]] w (AnsP w (gat 1 (wh.map (trp l)) (stp 1 0 0 0) (rr ts))) := by
  have ab := Ab.new w cv rv 1 c lo hi wv kv
  have hb0 := b3a w (.cells #[cv, rv] 37) (.cells #[.int .i64 1, .string c, .int .i64 lo, .int .i64 hi, wv, kv] 26) (.cells #[.func (.func 56) #[] #[.pointer (some ⟨w.heap.size + 1, 0, none⟩)]] 68)
  have k1 := gather1_any B cv rv wv l ts wh (((w.alloc (.cells #[cv, rv] 37)).alloc (.cells #[.int .i64 1, .string c, .int .i64 lo, .int .i64 hi, wv, kv] 26)).alloc (.cells #[.func (.func 56) #[] #[.pointer (some ⟨w.heap.size + 1, 0, none⟩)]] 68)) (Nat.le_trans hB hb0.size) (hp.at hB hb0) (hr.at hB hb0) (hw.at hB hb0) hwe hlen hok
  obtain ⟨ca, ccp, rfl, hcc1, hcc2⟩ := hp.slice
  obtain ⟨ra, rc, rfl, _⟩ := hr.slice
  obtain ⟨wa, wc, rfl, _⟩ := hw.slice
  obtain ⟨ka, kn, kc', rfl⟩ := hkv
  have hmf := hmf
  clear hp hr hw hok ab hwe
  go_enter Try.func36, Try.ntmps36
  go_wp2_with fail
  refine k1.mono ?_
  rintro e w1 ⟨g, cc, rfl, hA, hb1⟩
  clear k1
  go_wp2
  go_ret
  exact AnsP.up ⟨g, cc, rfl, hA, hb1⟩ hb0
set_option maxHeartbeats 2000000 in
set_option maxRecDepth 100000 in
theorem ans2_any (c : ByteArray) (lo hi : Int) (cv rv wv kv : Value) (w : World) (B : Nat) (l : List Col) (ts : List Rw) (wh : List Tst) (hB : B ≤ w.heap.size) (hp : Cols w B cv l) (hr : Rws w B rv ts) (hw : Tss w B wv wh) (hlen : ts.length ≤ 4096) (hok : ∀ r ∈ rr ts, RowOk l r) (hkv : ∃ a n cc, kv = .slice a n cc) (hwe : whE l wh = 0) (at' : Nat) (hf : fnd l c = some at') (hwr : wrtB lo hi = true) :
    Calls Try.prog 36 #[.agg #[cv, rv], .agg #[.int .i64 2, .string c, .int .i64 lo, .int .i64 hi, wv, kv]] w (AnsP w (gat 1 (wh.map (trp l)) (stp 2 at' lo hi) (rr ts))) := by
  have ab := Ab.new w cv rv 2 c lo hi wv kv
  have hb0 := b3a w (.cells #[cv, rv] 37) (.cells #[.int .i64 2, .string c, .int .i64 lo, .int .i64 hi, wv, kv] 26) (.cells #[.func (.func 56) #[] #[.pointer (some ⟨w.heap.size + 1, 0, none⟩)]] 68)
  have k1 := find_ok B cv l c (((w.alloc (.cells #[cv, rv] 37)).alloc (.cells #[.int .i64 2, .string c, .int .i64 lo, .int .i64 hi, wv, kv] 26)).alloc (.cells #[.func (.func 56) #[] #[.pointer (some ⟨w.heap.size + 1, 0, none⟩)]] 68)) (Nat.le_trans hB hb0.size) (hp.at hB hb0) at' hf
  have HP : Hid (Cols w B cv l) := hp
  have HR : Hid (Rws w B rv ts) := hr
  have HW : Hid (Tss w B wv wh) := hw
  have HOK : Hid (∀ r ∈ rr ts, RowOk l r) := hok
  have hal := fnd_lt hf
  obtain ⟨ca, ccp, rfl, hcc1, hcc2⟩ := hp.slice
  obtain ⟨ra, rc, rfl, _⟩ := hr.slice
  obtain ⟨wa, wc, rfl, _⟩ := hw.slice
  obtain ⟨ka, kn, kc', rfl⟩ := hkv
  have hmf := hmf
  clear hp hr hw hok hf
  go_enter Try.func36, Try.ntmps36
  go_wp2_with fail
  refine k1.mono ?_
  rintro e w1 ⟨rfl, hb1⟩
  clear k1
  have hb2 := bal hb1 (.cells #[.int .i64 (at' : Int)] 3)
  have ab2 := ab.at hb2
  have hbw := bt hb0 hb2
  have hI : Cl (w1.alloc (.cells #[.int .i64 (at' : Int)] 3)) w1.heap.size 0 (.int .i64 (at' : Int)) := Cl.new _ 3 _ _ rfl rfl
  have k2 := gather2_any B _ _ _ l ts wh _ (Nat.le_trans hB hbw.size) (HP.out.at hB hbw) (HR.out.at hB hbw) (HW.out.at hB hbw) hwe hlen HOK.out _ _ _ at' lo hi ab2.f0 hI ab2.a2 ab2.a3 hwr hal
  have m0 := ab2.t0.c
  have m1 := ab2.t1.c
  have m2 := ab2.a4.c
  clear ab ab2 hI hb1 hb2 hb0
  go_wp2_with fail
  refine k2.mono ?_
  rintro e w3 ⟨g, cc, rfl, hA, hb3⟩
  clear k2
  go_wp2
  go_ret
  exact AnsP.up ⟨g, cc, rfl, hA, hb3⟩ hbw
set_option maxHeartbeats 2000000 in
set_option maxRecDepth 100000 in
theorem ans3_any (c : ByteArray) (lo hi : Int) (cv rv wv kv : Value) (w : World) (B : Nat) (l : List Col) (ts : List Rw) (wh : List Tst) (hB : B ≤ w.heap.size) (hp : Cols w B cv l) (hr : Rws w B rv ts) (hw : Tss w B wv wh) (hlen : ts.length ≤ 4096) (hok : ∀ r ∈ rr ts, RowOk l r) (hkv : ∃ a n cc, kv = .slice a n cc) (hwe : whE l wh = 0) (at' : Nat) (hf : fnd l c = some at') (n : Nat) (hn : n ≤ 4096) (hnc : szC l at' = (n : Int)) :
    Calls Try.prog 36 #[.agg #[cv, rv], .agg #[.int .i64 3, .string c, .int .i64 lo, .int .i64 hi, wv, kv]] w (AnsP w (gat n (wh.map (trp l)) (stp 3 at' 0 0) (rr ts))) := by
  have ab := Ab.new w cv rv 3 c lo hi wv kv
  have hb0 := b3a w (.cells #[cv, rv] 37) (.cells #[.int .i64 3, .string c, .int .i64 lo, .int .i64 hi, wv, kv] 26) (.cells #[.func (.func 56) #[] #[.pointer (some ⟨w.heap.size + 1, 0, none⟩)]] 68)
  have k1 := find_ok B cv l c (((w.alloc (.cells #[cv, rv] 37)).alloc (.cells #[.int .i64 3, .string c, .int .i64 lo, .int .i64 hi, wv, kv] 26)).alloc (.cells #[.func (.func 56) #[] #[.pointer (some ⟨w.heap.size + 1, 0, none⟩)]] 68)) (Nat.le_trans hB hb0.size) (hp.at hB hb0) at' hf
  have HP : Hid (Cols w B cv l) := hp
  have HR : Hid (Rws w B rv ts) := hr
  have HW : Hid (Tss w B wv wh) := hw
  have HOK : Hid (∀ r ∈ rr ts, RowOk l r) := hok
  have hal := fnd_lt hf
  have HNC : Hid (szC l at' = (n : Int)) := hnc
  obtain ⟨ca, ccp, rfl, hcc1, hcc2⟩ := hp.slice
  obtain ⟨ra, rc, rfl, _⟩ := hr.slice
  obtain ⟨wa, wc, rfl, _⟩ := hw.slice
  obtain ⟨ka, kn, kc', rfl⟩ := hkv
  have hmf := hmf
  clear hp hr hw hok hf hnc
  go_enter Try.func36, Try.ntmps36
  go_wp2_with fail
  refine k1.mono ?_
  rintro e w1 ⟨rfl, hb1⟩
  clear k1
  have hb2 := bal hb1 (.cells #[.int .i64 (at' : Int)] 3)
  have ab2 := ab.at hb2
  have hbw := bt hb0 hb2
  have hI : Cl (w1.alloc (.cells #[.int .i64 (at' : Int)] 3)) w1.heap.size 0 (.int .i64 (at' : Int)) := Cl.new _ 3 _ _ rfl rfl
  obtain ⟨b, o, nm, sz, rfl, hb, hgt, c1, c2, hnm⟩ := HP.out.get hB hbw hal
  obtain rfl : sz = (n : Int) := by have := HNC.out; simpa [szC, hgt] using this
  obtain ⟨W2, hW2⟩ : ∃ W2, w1.alloc (.cells #[.int .i64 (at' : Int)] 3) = W2 := ⟨_, rfl⟩
  have hbd : Below w.heap.size w W2.drew := by rw [← hW2]; exact hbw.drew
  have abd : Ab W2.drew w.heap.size (.slice (some ⟨b, o, none⟩) l.length ccp) (.slice ra ts.length rc) 3 c lo hi (.slice wa wh.length wc) (.slice ka kn kc') := by rw [← hW2]; exact ab2.at (Below.refl _ _).drew
  have hId : Cl W2.drew w1.heap.size 0 (.int .i64 (at' : Int)) := by rw [← hW2]; exact hI.at (Below.refl _ _).drew
  have k2 := gather3_any B _ _ _ l ts wh n hn W2.drew (Nat.le_trans hB hbd.size) (HP.out.at hB hbd) (HR.out.at hB hbd) (HW.out.at hB hbd) hwe hlen HOK.out w1.heap.size at' (nm, (n : Int)) hId hgt rfl
  have HW2 : Hid (w1.alloc (.cells #[.int .i64 (at' : Int)] 3) = W2) := hW2
  have d0 : W2.drew.cell? ⟨b, o + at' * 2 + 1, none⟩ = some (.int .i64 (n : Int)) := by rw [← hW2]; exact c2
  rw [hW2] at c1 c2 hbw
  have m0 : W2.cell? ⟨w.heap.size, 0, none⟩ = _ := abd.t0.c
  have m1 : W2.cell? ⟨w.heap.size, 1, none⟩ = _ := abd.t1.c
  have m2 : W2.cell? ⟨w.heap.size + 1, 4, none⟩ = _ := abd.a4.c
  have m3 : W2.cell? ⟨w1.heap.size, 0, none⟩ = _ := hId.c
  have lN : w.heap.size < W2.heap.size := abd.t0.lt
  have lN1 : w.heap.size + 1 < W2.heap.size := abd.a4.lt
  have lI : w1.heap.size < W2.heap.size := hId.lt
  have lb : b < W2.heap.size := Nat.lt_of_lt_of_le hb (Nat.le_trans hB hbd.size)
  have hbI : (0 : Int) ≤ (at' : Int) := by omega
  have hbI2 : (at' : Int) < (l.length : Int) := by omega
  clear ab ab2 hI hb1 hb2 hb0 abd hId hgt d0 HNC
  go_wp2
  clear HW2 hW2
  go_region_held3 (fun w' => w'.cell? ⟨w.heap.size, 0, none⟩ = some (.slice (some ⟨b, o, none⟩) l.length ccp) ∧ w'.cell? ⟨w.heap.size, 1, none⟩ = some (.slice ra ts.length rc) ∧ w'.cell? ⟨w.heap.size + 1, 4, none⟩ = some (.slice wa wh.length wc) ∧ w'.cell? ⟨w1.heap.size, 0, none⟩ = some (.int .i64 (at' : Int)) ∧ w'.cell? ⟨b, o + at' * 2 + 1, none⟩ = some (.int .i64 (n : Int))) (first | assumption | (simp [go_sem, *]; done)) ((go_at_call 58; refine k2.mono ?_; rintro x3 w3 hA; obtain ⟨g3, c3', rfl, hA3, hb3⟩ := hA; have z0 := (hb3.cell (p := ⟨w.heap.size, 0, none⟩) lN).trans m0; have z1 := (hb3.cell (p := ⟨w.heap.size, 1, none⟩) lN).trans m1; have z2 := (hb3.cell (p := ⟨w.heap.size + 1, 4, none⟩) lN1).trans m2; have z3 := (hb3.cell (p := ⟨w1.heap.size, 0, none⟩) lI).trans m3; have z4 := (hb3.cell (p := ⟨b, o + at' * 2 + 1, none⟩) lb).trans c2))
  go_wp2
  go_ret
  exact AnsP.up ⟨g3, c3', rfl, hA3, hb3⟩ hbd
end Go.Proofs.Ytejeiahbnnechaa
