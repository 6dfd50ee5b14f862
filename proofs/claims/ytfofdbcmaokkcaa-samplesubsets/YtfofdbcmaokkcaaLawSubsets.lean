import Derived.Test.YtfofdbcmaokkcaaSbs
import Derived.Test.YtfofdbcmaokkcaaSbt
import Derived.Test.YtfofdbcmaokkcaaSbq
namespace Go.Proofs.Ytfofdbcmaokkcaa
open Go.RowKit Go.Proofs.Ytfofdbcmaokkcaa.Ds

set_option maxHeartbeats 2000000 in
theorem sampleSubsets_walk (u d m x y : Int) (w : World) :
    Calls Try.prog 3 #[rv u d, .int .i64 m, rv x y] w fun e w' => e = .returned (.bool true) ∧ Below w.heap.size w w' := by
  obtain ⟨⟨l, er⟩, HS⟩ : ∃ z, Hid (Sb.subT u d m = z) := ⟨_, rfl⟩
  obtain ⟨⟨n, k, el⟩, HL⟩ : ∃ z, Hid (Sb.losT u d x y = z) := ⟨_, rfl⟩
  obtain ⟨W0, hW0⟩ : ∃ W0, (w.alloc (.cells #[.int .i64 u, .int .i64 d] 23)).alloc (.cells #[.int .i64 x, .int .i64 y] 23) = W0 := ⟨_, rfl⟩
  have G0 : Below w.heap.size w W0 := hW0 ▸ bal (ba _ _) _
  have s0 : w.heap.size + 1 < W0.heap.size := by rw [← hW0]; simp
  have A0 : Hid (Fc w.heap.size u d W0) := hW0 ▸ (fc_new w u d).at (ba _ _) (by simp)
  have B0 : Hid (Fc (w.heap.size + 1) x y W0) := by
    have := fc_new (w.alloc (.cells #[.int .i64 u, .int .i64 d] 23)) x y
    rw [hW0] at this
    rw [Hid]
    simpa using this
  obtain ⟨a1, a2, _, _⟩ := A0.out
  have z1 : (er != er) = false := by simp
  have z2 : (el == el) = true := by simp
  go_enter Try.func3, Try.ntmps3
  go_wp2_with fail
  clear hW0
  refine (subsets_any u d m l er HS.out W0).mono ?_
  rintro e w1 ⟨v1, us, rfl, k1, k2, hb1, _⟩
  have HU : Hid (Parts w1 w1.heap.size v1 us ∧ rd us = l) := ⟨k2.parts, k1⟩
  obtain ⟨p1, c1, rfl⟩ := k2.slice
  have A1 : Hid (Fc w.heap.size u d w1) := A0.out.at hb1 (by omega)
  have B1 : Hid (Fc (w.heap.size + 1) x y w1) := B0.out.at hb1 s0
  have G1 := bt G0 hb1
  have s1 : w.heap.size + 1 < w1.heap.size := Nat.lt_of_lt_of_le s0 hb1.size
  clear k1 k2 hb1 a1 a2 A0 B0
  obtain ⟨a1, a2, _, _⟩ := A1.out
  go_wp2_with fail
  refine (rsubsets_any u d m l er HS.out w1).mono ?_
  rintro e w2 ⟨v2, us2, rfl, k1, k2, hb2⟩
  have HU2 : Hid (Parts w2 w2.heap.size v2 us2 ∧ rd us2 = l) := ⟨k2.parts, k1⟩
  have HU1 : Hid (Parts w2 w2.heap.size (.slice p1 us.length c1) us) := (HU.out.1.keep hb2).mono hb2.size
  obtain ⟨p2, c2, rfl⟩ := k2.slice
  have A2 : Hid (Fc w.heap.size u d w2) := A1.out.at hb2 (by omega)
  have B2 : Hid (Fc (w.heap.size + 1) x y w2) := B1.out.at hb2 s1
  have G2 := bt G1 hb2
  have s2 : w.heap.size + 1 < w2.heap.size := Nat.lt_of_lt_of_le s1 hb2.size
  have ks := sameR_any w2.heap.size (.slice p1 us.length c1) (.slice p2 us2.length c2) us us2 w2 (Nat.le_refl _) HU1.out HU2.out.1 true (by rw [HU.out.2, HU2.out.2]; simp)
  clear k1 k2 hb2 a1 a2 A1 B1
  go_wp2_with fail
  refine ks.mono ?_
  rintro e w3 ⟨rfl, hb3⟩
  have A3 : Hid (Fc w.heap.size u d w3) := A2.out.at hb3 (by omega)
  have B3 : Hid (Fc (w.heap.size + 1) x y w3) := B2.out.at hb3 s2
  have G3 := bt G2 hb3
  have s3 : w.heap.size + 1 < w3.heap.size := Nat.lt_of_lt_of_le s2 hb3.size
  obtain ⟨a1, a2, _, _⟩ := A3.out
  obtain ⟨b1, b2, _, _⟩ := B3.out
  clear ks hb3 A2 B2
  go_wp2_with fail
  refine (slost_any u d x y n k el HL.out w3).mono ?_
  rintro e w4 ⟨rfl, hb4⟩
  obtain ⟨W4, hW4⟩ : ∃ W4, w4.alloc (.cells #[.int .i64 n, .int .i64 k] 23) = W4 := ⟨_, rfl⟩
  have hbW : Below w4.heap.size w4 W4 := hW4 ▸ ba _ _
  have hbb := bt hb4 hbW
  have A4 : Hid (Fc w.heap.size u d W4) := A3.out.at hbb (by omega)
  have B4 : Hid (Fc (w.heap.size + 1) x y W4) := B3.out.at hbb s3
  have C4 : Hid (Fc w4.heap.size n k W4) := hW4 ▸ fc_new w4 n k
  have G4 := bt G3 hbb
  have s4 : w4.heap.size < W4.heap.size := by rw [← hW4]; simp
  clear a1 a2 b1 b2 A3 B3 hb4 hbW hbb
  obtain ⟨a1, a2, _, _⟩ := A4.out
  obtain ⟨b1, b2, _, _⟩ := B4.out
  go_wp2_with fail
  clear hW4
  refine (rslost_any u d x y n k el HL.out W4).mono ?_
  rintro e w5 ⟨rfl, hb5⟩
  obtain ⟨W5, hW5⟩ : ∃ W5, w5.alloc (.cells #[.int .i64 n, .int .i64 k] 23) = W5 := ⟨_, rfl⟩
  have hbW : Below w5.heap.size w5 W5 := hW5 ▸ ba _ _
  have C5 : Hid (Fc w4.heap.size n k W5) := C4.out.at (bt hb5 hbW) s4
  have D5 : Hid (Fc w5.heap.size n k W5) := hW5 ▸ fc_new w5 n k
  have G5 := bt G4 (bt hb5 hbW)
  clear a1 a2 b1 b2 A4 B4 C4
  obtain ⟨a1, a2, _, _⟩ := C5.out
  obtain ⟨b1, b2, _, _⟩ := D5.out
  go_wp2
  go_ret
  exact ⟨by first | rfl | simp, G5⟩
end Go.Proofs.Ytfofdbcmaokkcaa
