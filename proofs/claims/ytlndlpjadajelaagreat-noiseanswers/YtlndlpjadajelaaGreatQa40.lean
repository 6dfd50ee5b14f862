import Derived.Test.YtlndlpjadajelaaGreatQa38
import Derived.Test.YtlndlpjadajelaaGreatQa39
import Derived.Test.YtlndlpjadajelaaGreatQa36
import Derived.Deep.RegionLaw
namespace Go.Proofs.YtlndlpjadajelaaGreat.K
open Go.RowKit Go.Proofs.YtlndlpjadajelaaGreat.K.Ds

/-- the cells that answer makes -/
structure Ab (W : World) (N : Nat) (cv rv : Value) (k : Int) (c : ByteArray) (lo hi : Int) (wv kv : Value) : Prop where
  t0 : Cl W N 0 cv
  t1 : Cl W N 1 rv
  a0 : Cl W (N + 1) 0 (.int .i64 k)
  a1 : Cl W (N + 1) 1 (.string c)
  a2 : Cl W (N + 1) 2 (.int .i64 lo)
  a3 : Cl W (N + 1) 3 (.int .i64 hi)
  a4 : Cl W (N + 1) 4 wv
  a5 : Cl W (N + 1) 5 kv
  f0 : Cl W (N + 1 + 1) 0 (.func (.func 126) #[] #[.pointer (some ⟨N + 1, 0, none⟩)])
theorem Ab.at {W W' : World} {N : Nat} {cv rv : Value} {k : Int} {c : ByteArray} {lo hi : Int} {wv kv : Value} (h : Ab W N cv rv k c lo hi wv kv) (hb : Below W.heap.size W W') : Ab W' N cv rv k c lo hi wv kv :=
  ⟨h.t0.at hb, h.t1.at hb, h.a0.at hb, h.a1.at hb, h.a2.at hb, h.a3.at hb, h.a4.at hb, h.a5.at hb, h.f0.at hb⟩
theorem Ab.new (w : World) (cv rv : Value) (k : Int) (c : ByteArray) (lo hi : Int) (wv kv : Value) : Ab (((w.alloc (.cells #[cv, rv] 27)).alloc (.cells #[.int .i64 k, .string c, .int .i64 lo, .int .i64 hi, wv, kv] 31)).alloc (.cells #[.func (.func 126) #[] #[.pointer (some ⟨w.heap.size + 1, 0, none⟩)]] 162)) w.heap.size cv rv k c lo hi wv kv := by
  constructor
  all_goals first
    | exact ((Cl.new _ 27 _ _ rfl rfl).at (ba _ _)).at (ba _ _)
    | exact (Cl.new _ 31 _ _ (by simp) rfl).at (ba _ _)
    | exact Cl.new _ 162 _ _ (by simp) rfl
theorem b3a (w : World) (o1 o2 o3 : Obj) : Below w.heap.size w (((w.alloc o1).alloc o2).alloc o3) := bal (bal (ba _ _) _) _

set_option maxHeartbeats 2000000 in
set_option maxRecDepth 100000 in
theorem ans1_any (c : ByteArray) (lo hi : Int) (cv rv wv kv : Value) (w : World) (B : Nat) (l : List Col) (ts : List Rw) (wh : List Tst) (hB : B ≤ w.heap.size) (hp : Cols w B cv l) (hr : Rws w B rv ts) (hw : Tss w B wv wh) (hlen : ts.length ≤ 4096) (hok : ∀ r ∈ rr ts, RowOk l r) (hkv : ∃ a n cc, kv = .slice a n cc) (hwe : whE l wh = 0) :
    Calls Tryz.prog 73 #[.agg #[cv, rv], .agg #[.int .i64 1, .string c, .int .i64 lo, .int .i64 hi, wv, kv]] w (AnsP w (gat 1 (wh.map (trp l)) (stp 1 0 0 0) (rr ts))) := by
  have ab := Ab.new w cv rv 1 c lo hi wv kv
  have hb0 := b3a w (.cells #[cv, rv] 27) (.cells #[.int .i64 1, .string c, .int .i64 lo, .int .i64 hi, wv, kv] 31) (.cells #[.func (.func 126) #[] #[.pointer (some ⟨w.heap.size + 1, 0, none⟩)]] 162)
  have k1 := gather1_any B cv rv wv l ts wh (((w.alloc (.cells #[cv, rv] 27)).alloc (.cells #[.int .i64 1, .string c, .int .i64 lo, .int .i64 hi, wv, kv] 31)).alloc (.cells #[.func (.func 126) #[] #[.pointer (some ⟨w.heap.size + 1, 0, none⟩)]] 162)) (Nat.le_trans hB hb0.size) (hp.at hB hb0) (hr.at hB hb0) (hw.at hB hb0) hwe hlen hok
  obtain ⟨ca, ccp, rfl, hcc1, hcc2⟩ := hp.slice
  obtain ⟨ra, rc, rfl, _⟩ := hr.slice
  obtain ⟨wa, wc, rfl, _⟩ := hw.slice
  obtain ⟨ka, kn, kc', rfl⟩ := hkv
  have hmf := hmf
  clear hp hr hw hok ab hwe
  go_enter Tryz.func73, Tryz.ntmps73
  go_wp2_with fail
  refine k1.mono ?_
  rintro e w1 ⟨g, cc, rfl, hA, hb1⟩
  clear k1
  go_wp2
  go_ret
  exact AnsP.up ⟨g, cc, rfl, hA, hb1⟩ hb0
set_option maxHeartbeats 2000000 in
set_option maxRecDepth 100000 in
theorem ans2_any (c : ByteArray) (lo hi : Int) (cv rv wv kv : Value) (w : World) (B : Nat) (l : List Col) (ts : List Rw) (wh : List Tst) (hB : B ≤ w.heap.size) (hp : Cols w B cv l) (hr : Rws w B rv ts) (hw : Tss w B wv wh) (hlen : ts.length ≤ 4096) (hok : ∀ r ∈ rr ts, RowOk l r) (hkv : ∃ a n cc, kv = .slice a n cc) (hwe : whE l wh = 0) (at' : Nat) (hf : fnd l c = some at') (hwr : wrtB lo hi = true) :
    Calls Tryz.prog 73 #[.agg #[cv, rv], .agg #[.int .i64 2, .string c, .int .i64 lo, .int .i64 hi, wv, kv]] w (AnsP w (gat 1 (wh.map (trp l)) (stp 2 at' lo hi) (rr ts))) := by
  have ab := Ab.new w cv rv 2 c lo hi wv kv
  have hb0 := b3a w (.cells #[cv, rv] 27) (.cells #[.int .i64 2, .string c, .int .i64 lo, .int .i64 hi, wv, kv] 31) (.cells #[.func (.func 126) #[] #[.pointer (some ⟨w.heap.size + 1, 0, none⟩)]] 162)
  have k1 := find_ok B cv l c (((w.alloc (.cells #[cv, rv] 27)).alloc (.cells #[.int .i64 2, .string c, .int .i64 lo, .int .i64 hi, wv, kv] 31)).alloc (.cells #[.func (.func 126) #[] #[.pointer (some ⟨w.heap.size + 1, 0, none⟩)]] 162)) (Nat.le_trans hB hb0.size) (hp.at hB hb0) at' hf
  have HP : Hid (Cols w B cv l) := hp
  have HR : Hid (Rws w B rv ts) := hr
  have HW : Hid (Tss w B wv wh) := hw
  have HOK : Hid (∀ r ∈ rr ts, RowOk l r) := hok
  have hal := fnd_lt hf
  obtain ⟨ca, ccp, rfl, hcc1, hcc2⟩ := hp.slice
  obtain ⟨ra, rc, rfl, _⟩ := hr.slice
  obtain ⟨wa, wc, rfl, _⟩ := hw.slice
  obtain ⟨ka, kn, kc', rfl⟩ := hkv
  have hmf := hmf
  clear hp hr hw hok hf
  go_enter Tryz.func73, Tryz.ntmps73
  go_wp2_with fail
  refine k1.mono ?_
  rintro e w1 ⟨rfl, hb1⟩
  clear k1
  have hb2 := bal hb1 (.cells #[.int .i64 (at' : Int)] 3)
  have ab2 := ab.at hb2
  have hbw := bt hb0 hb2
  have hI : Cl (w1.alloc (.cells #[.int .i64 (at' : Int)] 3)) w1.heap.size 0 (.int .i64 (at' : Int)) := Cl.new _ 3 _ _ rfl rfl
  have k2 := gather2_any B _ _ _ l ts wh _ (Nat.le_trans hB hbw.size) (HP.out.at hB hbw) (HR.out.at hB hbw) (HW.out.at hB hbw) hwe hlen HOK.out _ _ _ at' lo hi ab2.f0 hI ab2.a2 ab2.a3 hwr hal
  have m0 := ab2.t0.c
  have m1 := ab2.t1.c
  have m2 := ab2.a4.c
  clear ab ab2 hI hb1 hb2 hb0
  go_wp2_with fail
  refine k2.mono ?_
  rintro e w3 ⟨g, cc, rfl, hA, hb3⟩
  clear k2
  go_wp2
  go_ret
  exact AnsP.up ⟨g, cc, rfl, hA, hb3⟩ hbw
set_option maxHeartbeats 2000000 in
set_option maxRecDepth 100000 in
theorem ans3_any (c : ByteArray) (lo hi : Int) (cv rv wv kv : Value) (w : World) (B : Nat) (l : List Col) (ts : List Rw) (wh : List Tst) (hB : B ≤ w.heap.size) (hp : Cols w B cv l) (hr : Rws w B rv ts) (hw : Tss w B wv wh) (hlen : ts.length ≤ 4096) (hok : ∀ r ∈ rr ts, RowOk l r) (hkv : ∃ a n cc, kv = .slice a n cc) (hwe : whE l wh = 0) (at' : Nat) (hf : fnd l c = some at') (n : Nat) (hn : n ≤ 4096) (hnc : szC l at' = (n : Int)) :
    Calls Tryz.prog 73 #[.agg #[cv, rv], .agg #[.int .i64 3, .string c, .int .i64 lo, .int .i64 hi, wv, kv]] w (AnsP w (gat n (wh.map (trp l)) (stp 3 at' 0 0) (rr ts))) := by
  have ab := Ab.new w cv rv 3 c lo hi wv kv
  have hb0 := b3a w (.cells #[cv, rv] 27) (.cells #[.int .i64 3, .string c, .int .i64 lo, .int .i64 hi, wv, kv] 31) (.cells #[.func (.func 126) #[] #[.pointer (some ⟨w.heap.size + 1, 0, none⟩)]] 162)
  have k1 := find_ok B cv l c (((w.alloc (.cells #[cv, rv] 27)).alloc (.cells #[.int .i64 3, .string c, .int .i64 lo, .int .i64 hi, wv, kv] 31)).alloc (.cells #[.func (.func 126) #[] #[.pointer (some ⟨w.heap.size + 1, 0, none⟩)]] 162)) (Nat.le_trans hB hb0.size) (hp.at hB hb0) at' hf
  have HP : Hid (Cols w B cv l) := hp
  have HR : Hid (Rws w B rv ts) := hr
  have HW : Hid (Tss w B wv wh) := hw
  have HOK : Hid (∀ r ∈ rr ts, RowOk l r) := hok
  have hal := fnd_lt hf
  have HNC : Hid (szC l at' = (n : Int)) := hnc
  obtain ⟨ca, ccp, rfl, hcc1, hcc2⟩ := hp.slice
  obtain ⟨ra, rc, rfl, _⟩ := hr.slice
  obtain ⟨wa, wc, rfl, _⟩ := hw.slice
  obtain ⟨ka, kn, kc', rfl⟩ := hkv
  have hmf := hmf
  clear hp hr hw hok hf hnc
  go_enter Tryz.func73, Tryz.ntmps73
  go_wp2_with fail
  refine k1.mono ?_
  rintro e w1 ⟨rfl, hb1⟩
  clear k1
  have hb2 := bal hb1 (.cells #[.int .i64 (at' : Int)] 3)
  have ab2 := ab.at hb2
  have hbw := bt hb0 hb2
  have hI : Cl (w1.alloc (.cells #[.int .i64 (at' : Int)] 3)) w1.heap.size 0 (.int .i64 (at' : Int)) := Cl.new _ 3 _ _ rfl rfl
  obtain ⟨b, o, nm, sz, rfl, hb, hgt, c1, c2, hnm⟩ := HP.out.get hB hbw hal
  obtain rfl : sz = (n : Int) := by have := HNC.out; simpa [szC, hgt] using this
  obtain ⟨W2, hW2⟩ : ∃ W2, w1.alloc (.cells #[.int .i64 (at' : Int)] 3) = W2 := ⟨_, rfl⟩
  have hbd : Below w.heap.size w W2.drew := by rw [← hW2]; exact hbw.drew
  have abd : Ab W2.drew w.heap.size (.slice (some ⟨b, o, none⟩) l.length ccp) (.slice ra ts.length rc) 3 c lo hi (.slice wa wh.length wc) (.slice ka kn kc') := by rw [← hW2]; exact ab2.at (Below.refl _ _).drew
  have hId : Cl W2.drew w1.heap.size 0 (.int .i64 (at' : Int)) := by rw [← hW2]; exact hI.at (Below.refl _ _).drew
  have k2 := gather3_any B _ _ _ l ts wh n hn W2.drew (Nat.le_trans hB hbd.size) (HP.out.at hB hbd) (HR.out.at hB hbd) (HW.out.at hB hbd) hwe hlen HOK.out w1.heap.size at' (nm, (n : Int)) hId hgt rfl
  have HW2 : Hid (w1.alloc (.cells #[.int .i64 (at' : Int)] 3) = W2) := hW2
  have d0 : W2.drew.cell? ⟨b, o + at' * 2 + 1, none⟩ = some (.int .i64 (n : Int)) := by rw [← hW2]; exact c2
  rw [hW2] at c1 c2 hbw
  have m0 : W2.cell? ⟨w.heap.size, 0, none⟩ = _ := abd.t0.c
  have m1 : W2.cell? ⟨w.heap.size, 1, none⟩ = _ := abd.t1.c
  have m2 : W2.cell? ⟨w.heap.size + 1, 4, none⟩ = _ := abd.a4.c
  have m3 : W2.cell? ⟨w1.heap.size, 0, none⟩ = _ := hId.c
  have lN : w.heap.size < W2.heap.size := abd.t0.lt
  have lN1 : w.heap.size + 1 < W2.heap.size := abd.a4.lt
  have lI : w1.heap.size < W2.heap.size := hId.lt
  have lb : b < W2.heap.size := Nat.lt_of_lt_of_le hb (Nat.le_trans hB hbd.size)
  have hbI : (0 : Int) ≤ (at' : Int) := by omega
  have hbI2 : (at' : Int) < (l.length : Int) := by omega
  clear ab ab2 hI hb1 hb2 hb0 abd hId hgt d0 HNC
  go_wp2
  clear HW2 hW2
  go_region_held3 (fun w' => w'.cell? ⟨w.heap.size, 0, none⟩ = some (.slice (some ⟨b, o, none⟩) l.length ccp) ∧ w'.cell? ⟨w.heap.size, 1, none⟩ = some (.slice ra ts.length rc) ∧ w'.cell? ⟨w.heap.size + 1, 4, none⟩ = some (.slice wa wh.length wc) ∧ w'.cell? ⟨w1.heap.size, 0, none⟩ = some (.int .i64 (at' : Int)) ∧ w'.cell? ⟨b, o + at' * 2 + 1, none⟩ = some (.int .i64 (n : Int))) (first | assumption | (simp [go_sem, *]; done)) ((go_at_call 128; refine k2.mono ?_; rintro x3 w3 hA; obtain ⟨g3, c3', rfl, hA3, hb3⟩ := hA; have z0 := (hb3.cell (p := ⟨w.heap.size, 0, none⟩) lN).trans m0; have z1 := (hb3.cell (p := ⟨w.heap.size, 1, none⟩) lN).trans m1; have z2 := (hb3.cell (p := ⟨w.heap.size + 1, 4, none⟩) lN1).trans m2; have z3 := (hb3.cell (p := ⟨w1.heap.size, 0, none⟩) lI).trans m3; have z4 := (hb3.cell (p := ⟨b, o + at' * 2 + 1, none⟩) lb).trans c2))
  go_wp2
  go_ret
  exact AnsP.up ⟨g3, c3', rfl, hA3, hb3⟩ hbd
end Go.Proofs.YtlndlpjadajelaaGreat.K

namespace Go.Proofs.YtlndlpjadajelaaGreat.K
open Go.RowKit Go.Proofs.YtlndlpjadajelaaGreat.K.Ds

/-- what the reference answers: numbers somewhere -/
def AnsR (w : World) (xs : List Int) (e : Ending) (w' : World) : Prop := ∃ a c, e = .returned (.slice a xs.length c) ∧ Ints w' w'.heap.size w'.heap.size (.slice a xs.length c) xs ∧ Below w.heap.size w w'
theorem AnsR.up {w W : World} {xs : List Int} {e : Ending} {w' : World} (h : AnsR W xs e w') (hb : Below w.heap.size w W) : AnsR w xs e w' := by
  obtain ⟨a, c, he, hi, hbw⟩ := h
  exact ⟨a, c, he, hi, bt hb hbw⟩
/-- the cells that the reference's answer makes -/
structure Rb (W : World) (N : Nat) (cv rv : Value) (k : Int) (c : ByteArray) (lo hi : Int) (wv kv : Value) : Prop where
  t0 : Cl W N 0 cv
  t1 : Cl W N 1 rv
  a0 : Cl W (N + 1) 0 (.int .i64 k)
  a1 : Cl W (N + 1) 1 (.string c)
  a2 : Cl W (N + 1) 2 (.int .i64 lo)
  a3 : Cl W (N + 1) 3 (.int .i64 hi)
  a4 : Cl W (N + 1) 4 wv
  a5 : Cl W (N + 1) 5 kv
theorem Rb.at {W W' : World} {N : Nat} {cv rv : Value} {k : Int} {c : ByteArray} {lo hi : Int} {wv kv : Value} (h : Rb W N cv rv k c lo hi wv kv) (hb : Below W.heap.size W W') : Rb W' N cv rv k c lo hi wv kv :=
  ⟨h.t0.at hb, h.t1.at hb, h.a0.at hb, h.a1.at hb, h.a2.at hb, h.a3.at hb, h.a4.at hb, h.a5.at hb⟩
theorem Rb.new (w : World) (cv rv : Value) (k : Int) (c : ByteArray) (lo hi : Int) (wv kv : Value) : Rb ((w.alloc (.cells #[cv, rv] 27)).alloc (.cells #[.int .i64 k, .string c, .int .i64 lo, .int .i64 hi, wv, kv] 31)) w.heap.size cv rv k c lo hi wv kv := by
  constructor
  all_goals first
    | exact (Cl.new _ 27 _ _ rfl rfl).at (ba _ _)
    | exact Cl.new _ 31 _ _ (by simp) rfl
theorem b2a (w : World) (o1 o2 : Obj) : Below w.heap.size w ((w.alloc o1).alloc o2) := bal (ba _ _) _

set_option maxHeartbeats 4000000 in
set_option maxRecDepth 100000 in
theorem ran1_any (c : ByteArray) (lo hi : Int) (cv rv wv kv : Value) (w : World) (B : Nat) (l : List Col) (ts : List Rw) (wh : List Tst) (hB : B ≤ w.heap.size) (hp : Cols w B cv l) (hr : Rws w B rv ts) (hw : Tss w B wv wh) (hlen : ts.length ≤ 4096) (hok : ∀ r ∈ rr ts, RowOk l r) (hkv : ∃ a n cc, kv = .slice a n cc) (hwe : whE l wh = 0) :
    Calls Tryz.prog 77 #[.agg #[cv, rv], .agg #[.int .i64 1, .string c, .int .i64 lo, .int .i64 hi, wv, kv]] w (AnsR w (gat 1 (wh.map (trp l)) (stp 1 0 0 0) (rr ts))) := by
  have ab := Rb.new w cv rv 1 c lo hi wv kv
  have hb0 := b2a w (.cells #[cv, rv] 27) (.cells #[.int .i64 1, .string c, .int .i64 lo, .int .i64 hi, wv, kv] 31)
  obtain ⟨W0, hW0⟩ : ∃ W0, ((w.alloc (.cells #[cv, rv] 27)).alloc (.cells #[.int .i64 1, .string c, .int .i64 lo, .int .i64 hi, wv, kv] 31)) = W0 := ⟨_, rfl⟩
  rw [hW0] at ab hb0
  have HW0 : Hid (((w.alloc (.cells #[cv, rv] 27)).alloc (.cells #[.int .i64 1, .string c, .int .i64 lo, .int .i64 hi, wv, kv] 31)) = W0) := hW0
  have HAB : Hid (Rb W0 w.heap.size cv rv 1 c lo hi wv kv) := ab
  have HP : Hid (Cols w B cv l) := hp
  have HQ : Hid (Rws w B rv ts) := hr
  have HW : Hid (Tss w B wv wh) := hw
  have HWE : Hid (whE l wh = 0) := hwe
  have HOKS : Hid (∀ r ∈ rr ts, RowOk l r) := hok
  obtain ⟨fi, hfi⟩ : ∃ fi, fnI l c = fi := ⟨_, rfl⟩
  have k1 := rkids_any 1 W0 0 rfl
  have k2 := rcol_any B cv l c W0 (Nat.le_trans hB hb0.size) (hp.at hB hb0) fi hfi
  obtain ⟨ca, ccp, rfl, _⟩ := hp.slice
  obtain ⟨ra, rc, rfl, _⟩ := hr.slice
  obtain ⟨wa, wc, rfl, _⟩ := hw.slice
  obtain ⟨ka, kn, kc', rfl⟩ := hkv
  have m0 := ab.a0.c
  have m1 := ab.t0.c
  have m2 := ab.a1.c
  have hm : ∀ u : World, (Instr.makeSlice 65 (.int .i64 1) (.int .i64 1)).run Tryz.prog u = .ok (.slice (some ⟨u.heap.size, 0, none⟩) 1 1) (u.alloc (.cells (madeCells #[.int .i64 0] 1) 3)) := fun u => make_ints 1 (by decide) u
  clear hp hr hw hok hwe ab hfi
  go_enter Tryz.func77, Tryz.ntmps77
  go_wp2_with fail
  refine k1.mono ?_
  rintro e w0 ⟨rfl, hw0⟩
  subst hw0
  clear k1
  go_wp2_with fail
  refine k2.mono ?_
  rintro e w1 ⟨rfl, hb1⟩
  clear k2 m0 m1 m2
  have hbw1 := bt hb0 hb1
  have HB1 : Hid (Rb w1 w.heap.size (.slice ca l.length ccp) (.slice ra ts.length rc) 1 c lo hi (.slice wa wh.length wc) (.slice ka kn kc')) := HAB.out.at hb1
  have hs1 : Hid (w.heap.size ≤ w1.heap.size) := hbw1.size
  have HA0 : Hid (Arw (w1.alloc (.cells (madeCells #[.int .i64 0] 1) 3)) w.heap.size w1.heap.size 1 (gat 1 (wh.map (trp l)) (stp 1 0 0 0) ((rr ts).take 0))) := by
    have := Arw.made w1 w.heap.size 1 hs1.out (by omega); simpa [Hid, gat] using this
  obtain ⟨g, hg⟩ : ∃ g, w1.heap.size = g := ⟨_, rfl⟩
  have hgw : Hid (w1.heap.size ≤ g) := by show _ ≤ _; omega
  have hgl : Hid (w.heap.size ≤ g) := by have := hs1.out; show _ ≤ _; omega
  have hm2 := hm w1
  rw [hg] at HA0
  have m0 := HB1.out.a0.c
  have m1 := (HB1.out.at (ba w1 (.cells (madeCells #[.int .i64 0] 1) 3))).t1.c
  go_wp2
  clear hg
  go_loopw [41] (fun s' wr => ∃ (i : Nat), s' = .int .i64 (i : Int) ∧ i ≤ ts.length ∧ Hid (Arw wr w.heap.size g 1 (gat 1 (wh.map (trp l)) (stp 1 0 0 0) ((rr ts).take i))) ∧ Below w1.heap.size w1 wr) (fun s' _ => ts.length - (intOf s').toNat)
  case atStart => exact ⟨0, rfl, Nat.zero_le _, HA0, ba _ _⟩
  case round =>
    obtain ⟨i, rfl, hin, HA, hbr⟩ := hrel
    clear hm2 hm m0 m1
    have hbwr : Below w.heap.size w wr := bt hbw1 hbr
    by_cases h1 : i < ts.length
    · have hsr := hbwr.size
      obtain ⟨b, o, sa, sc, row, rfl, hbB, hgt, hcell, hrow⟩ := HQ.out.get hB hbwr h1
      have HG : Hid ((rr ts)[i]? = some row) := rr_get hgt
      have HOK : Hid (RowOk l row) := HOKS.out _ (List.mem_of_getElem? HG.out)
      obtain ⟨pb, hpb⟩ : ∃ pb, pasB (wh.map (trp l)) row = pb := ⟨_, rfl⟩
      have k2 := rpasses_any B B _ _ _ l wh row wr (by omega) (HP.out.at hB hbwr) (HW.out.at hB hbwr) hrow HWE.out HOK.out pb hpb
      have HPB : Hid (pasB (wh.map (trp l)) row = pb) := hpb
      have HBr := HB1.out.at hbr
      have m0 := HBr.t0.c
      have m1 := HBr.a4.c
      clear hgt hrow hpb HBr
      go_wp2_with fail
      refine k2.mono ?_
      rintro e w5 ⟨rfl, hb5⟩
      clear k2 m0 m1
      have HA5 : Hid (Arw w5 w.heap.size g 1 (gat 1 (wh.map (trp l)) (stp 1 0 0 0) ((rr ts).take i))) := HA.out.at hb5
      have hbr5 : Below w1.heap.size w1 w5 := bt hbr hb5
      have HB5 := HB1.out.at hbr5
      have m0 := HB5.a0.c
      clear HB5
      cases pb with
      | false =>
        have HA6 : Hid (Arw w5 w.heap.size g 1 (gat 1 (wh.map (trp l)) (stp 1 0 0 0) ((rr ts).take (i + 1)))) := by rw [gat_step HG.out, gst, HPB.out]; exact HA5.out
        go_wp2
        go_roundw
        case rel => exact ⟨i + 1, by go_num, h1, HA6, hbr5⟩
        case measure => simp [intOf]; omega
      | true =>
        have hgbd : Bdd (4096 * 1) (gat 1 (wh.map (trp l)) (stp 1 0 0 0) ((rr ts).take i)) := gat_bd (by decide) (fun r _ => by simp [stp]) (by simp [rr]; omega)
        obtain ⟨x, hx0⟩ := get_lt (l := gat 1 (wh.map (trp l)) (stp 1 0 0 0) ((rr ts).take i)) (i := 0) (by rw [gat_len]; decide)
        have hxb : -4611686018427387904 ≤ x ∧ x ≤ 4611686018427387904 := by have := hgbd.get hx0; omega
        have HA6 : Hid (Arw (w5.setCell ⟨g, 0, none⟩ (.int .i64 (x + 1))) w.heap.size g 1 (gat 1 (wh.map (trp l)) (stp 1 0 0 0) ((rr ts).take (i + 1)))) := by
          have he : gat 1 (wh.map (trp l)) (stp 1 0 0 0) ((rr ts).take (i + 1)) = (gat 1 (wh.map (trp l)) (stp 1 0 0 0) ((rr ts).take i)).set 0 (x + 1) := by
            rw [gat_step HG.out, gst, HPB.out]
            show addAt _ _ = _
            unfold addAt
            rw [show stp 1 0 0 0 row = (0, 1) by simp [stp]]
            have hgd : (gat 1 (wh.map (trp l)) (stp 1 0 0 0) ((rr ts).take i)).getD 0 0 = x := by rw [List.getD, hx0]; rfl
            dsimp only
            rw [hgd]
          rw [he]
          exact HA5.out.set 0 _
        have hb6 : Below w1.heap.size w1 (w5.setCell ⟨g, 0, none⟩ (.int .i64 (x + 1))) := hbr5.setCell (by simpa using hgw.out) _
        have q0 := HA5.out.cell hx0
        have q1 := HA5.out.fz 0
        obtain ⟨x1, x2⟩ := hxb
        clear hx0 hgbd
        go_wp2
        go_roundw
        case rel => exact ⟨i + 1, by go_num, h1, HA6, hb6⟩
        case measure => simp [intOf]; omega
    · have HA6 : Hid (Arw wr w.heap.size g 1 (gat 1 (wh.map (trp l)) (stp 1 0 0 0) (rr ts))) := by have := HA.out; rwa [List.take_of_length_le (by rw [rr_len]; omega)] at this
      go_wp2
      go_ret
      refine ⟨some ⟨g, 0, none⟩, 1, by rw [gat_len]; rfl, ?_, hbwr⟩
      exact HA6.out.ints _ (Nat.ne_of_lt HA6.out.lt.2)
end Go.Proofs.YtlndlpjadajelaaGreat.K
