import Derived.Test.YtkpjjiomfgkobaaDoorNum
namespace Go.Proofs.YtkpjjiomfgkobaaDoor
open Go.RowKit Go.Proofs.YtkpjjiomfgkobaaDoor.Ds

set_option maxHeartbeats 1000000 in
theorem column_any (R : Nat) (T : ByteArray) (p : Nat) (nm : ByteArray) (sz : Int) (c : UInt8) (rest : List UInt8) (w : World) (h : Rdr w R T p (wordC (nm, sz) ++ c :: rest)) (hc : digB c = false) (hn : namB nm.data.toList = true) (h0 : 0 ≤ sz) (h1 : sz ≤ 4096) :
    Calls Tryd.prog 58 #[.pointer (some ⟨R, 0, none⟩)] w fun e w' => e = .returned (.tuple #[.agg #[.string nm, .int .i64 sz], .bool true]) ∧ Rdr w' R T (p + (wordC (nm, sz)).length) (c :: rest) ∧ w.grownBy w' (some R) := by
  obtain ⟨u, rfl⟩ : ∃ u : Nat, sz = (u : Int) := ⟨sz.toNat, by omega⟩
  have hw : wordC (nm, (u : Int)) = nm.data.toList ++ 58 :: Lib.decDigits u := by rw [wordC, itoa_nat]
  have HR : Hid (Rdr w R T p (nm.data.toList ++ 58 :: (Lib.decDigits u ++ c :: rest))) := by
    rw [hw] at h
    simpa [Hid] using h
  have HWL : Hid (p + (wordC (nm, (u : Int))).length = p + nm.data.toList.length + 1 + (Lib.decDigits u).length) := by show _ = _; rw [hw]; simp; omega
  have HC : Hid (digB c = false) := hc
  obtain ⟨W, hW⟩ : ∃ W, w.alloc (.cells #[.string { data := #[] }, .int .i64 0] 52) = W := ⟨_, rfl⟩
  have hbW : Below w.heap.size w W := hW ▸ ba _ _
  have hRl : R < w.heap.size := HR.out.two.lt
  have hzW : w.heap.size < W.heap.size := by rw [← hW]; simp
  have HZ : Hid (TwoB W w.heap.size (.string { data := #[] }) (.int .i64 0)) := hW ▸ TwoB.new w _ _ 52 _ rfl
  have hRZ : (some R : Option Nat) ≠ some w.heap.size := by simp; omega
  have hgW : w.grownBy W (some R) := gb_below hbW
  have kn := name_any R T p nm 58 (Lib.decDigits u ++ c :: rest) W (HR.out.at hbW) (by decide) hn
  clear h hw hc hn
  go_enter Tryd.func58, Tryd.ntmps58
  go_wp2_with fail
  refine kn.mono ?_
  rintro e w1 ⟨rfl, hr1, hg1⟩
  have HR1 : Hid (Rdr w1 R T (p + nm.data.toList.length) (58 :: (Lib.decDigits u ++ c :: rest))) := hr1
  have HZ1 : Hid (TwoB w1 w.heap.size (.string { data := #[] }) (.int .i64 0)) := HZ.out.gb hg1 hRZ
  have hgw1 := gb_trans hgW hg1
  clear kn hr1 hg1 HZ
  go_wp2_with fail
  have kh : Calls Tryd.prog 57 #[.pointer (some ⟨R, 0, none⟩), .int .u8 58] w1 fun e w' => e = .returned (.bool true) ∧ Rdr w' R T (p + nm.data.toList.length + 1) (Lib.decDigits u ++ c :: rest) ∧ w1.grownBy w' (some R) := has_yes R T _ 58 _ w1 HR1.out
  refine kh.mono ?_
  rintro e w2 ⟨rfl, hr2, hg2⟩
  have HZ2 : Hid (TwoB w2 w.heap.size (.string { data := #[] }) (.int .i64 0)) := HZ1.out.gb hg2 hRZ
  have hgw2 := gb_trans hgw1 hg2
  have kn := number_any R T _ u c rest w2 hr2 HC.out (by omega)
  clear kh hr2 hg2 HZ1 HR1 hgw1
  go_wp2_with fail
  refine kn.mono ?_
  rintro e w3 ⟨rfl, hr3, hg3⟩
  have HR3 : Hid (Rdr w3 R T (p + nm.data.toList.length + 1 + (Lib.decDigits u).length) (c :: rest)) := hr3
  have HZ3 : Hid (TwoB w3 w.heap.size (.string { data := #[] }) (.int .i64 0)) := HZ2.out.gb hg3 hRZ
  have HG3 := gb_trans hgw2 hg3
  have q0 := HZ3.out.c0
  have q1 := HZ3.out.c1
  have q2 := HZ3.out.f0
  have q3 := HZ3.out.f1
  clear kn hr3 hg3 HZ2 hgw2
  go_wp2_with fail
  obtain ⟨W4, hW4⟩ : ∃ W4, (w3.setCell ⟨w.heap.size, 0, none⟩ (.string nm)).setCell ⟨w.heap.size, 1, none⟩ (.int .i64 (u : Int)) = W4 := ⟨_, rfl⟩
  have HP4 : TwoB W4 w.heap.size (.string nm) (.int .i64 (u : Int)) := hW4 ▸ HZ3.out.put _ _
  have HRF : Rdr W4 R T (p + (wordC (nm, (u : Int))).length) (c :: rest) := by
    rw [HWL.out, ← hW4]
    have hr := HR3.out
    exact ⟨(hr.two.other (p := ⟨w.heap.size, 0, none⟩) (by simp; omega) _).other (p := ⟨w.heap.size, 1, none⟩) (by simp; omega) _, hr.left, hr.le, hr.small⟩
  have HGF : w.grownBy W4 (some R) := by
    rw [← hW4]
    have hz := HZ3.out.lt
    refine gb_grow HG3 (row := some w.heap.size) ?_ (fun g e => by simp at e; omega)
    exact gb_set (gb_set (gb_refl _ _) 0 _) 1 _
  rw [hW4]
  exact bodyPost_ret (v := .tuple #[.agg #[.string nm, .int .i64 (u : Int)], .bool true]) (by simp [results, Tryd.results58, go_sem, HP4.c0, HP4.c1]) rfl ⟨rfl, HRF, HGF⟩
end Go.Proofs.YtkpjjiomfgkobaaDoor
