import Derived.Test.YtfofdbcmaokkcaaRop
import Derived.Test.YtfofdbcmaokkcaaAlv
import Derived.Test.YtfofdbcmaokkcaaSbm
namespace Go.Proofs.Ytfofdbcmaokkcaa
open Go.RowKit Go.Proofs.Ytfofdbcmaokkcaa.Ds

/-- what is wrong with a chance -/
theorem swrong_any (u d er : Int) (h : Sb.chE u d = er) (w : World) :
    Calls Try.prog 9 #[rv u d] w fun e w' => e = .returned (.int .i64 er) ∧ Below w.heap.size w w' := by
  obtain ⟨b, hb⟩ : ∃ b, Rt.rightB u d = b := ⟨_, rfl⟩
  rw [Sb.chE, hb] at h
  have HB := ba w (.cells #[.int .i64 u, .int .i64 d] 23)
  have kc := right_any u d b hb (w.alloc (.cells #[.int .i64 u, .int .i64 d] 23))
  clear hb
  cases b with
  | false =>
    simp at h; subst h
    go_enter Try.func9, Try.ntmps9
    go_wp2_with fail
    refine kc.mono ?_
    rintro e w1 ⟨rfl, hb1⟩
    have G1 := bt HB hb1
    go_wp2
    go_ret
    exact ⟨rfl, G1⟩
  | true =>
    simp at h
    by_cases c : d < u
    · rw [if_pos c] at h
      subst h
      go_enter Try.func9, Try.ntmps9
      go_wp2_with fail
      refine kc.mono ?_
      rintro e w1 ⟨rfl, hb1⟩
      have G1 := bt HB hb1
      obtain ⟨hc1, hf1⟩ := bcell hb1
      go_wp2
      go_ret
      exact ⟨rfl, G1⟩
    · rw [if_neg c] at h
      subst h
      go_enter Try.func9, Try.ntmps9
      go_wp2_with fail
      refine kc.mono ?_
      rintro e w1 ⟨rfl, hb1⟩
      have G1 := bt HB hb1
      obtain ⟨hc1, hf1⟩ := bcell hb1
      go_wp2
      go_ret
      exact ⟨rfl, G1⟩


set_option maxHeartbeats 1000000 in
theorem slost_any (u d x y n m er : Int) (h : Sb.losT u d x y = (n, m, er)) (w : World) :
    Calls Try.prog 7 #[rv u d, rv x y] w fun e w' => e = .returned (.tuple #[rv n m, .int .i64 er]) ∧ Below w.heap.size w w' := by
  obtain ⟨e0, he0⟩ : ∃ e0, Sb.chE u d = e0 := ⟨_, rfl⟩
  rw [Sb.losT, he0] at h
  have kc := swrong_any u d e0 he0
  obtain ⟨W0, hW0⟩ : ∃ W0, ((w.alloc (.cells #[.int .i64 u, .int .i64 d] 23)).alloc (.cells #[.int .i64 x, .int .i64 y] 23)).alloc (.cells #[.int .i64 0, .int .i64 0] 23) = W0 := ⟨_, rfl⟩
  have G0 : Below w.heap.size w W0 := hW0 ▸ bal (bal (ba _ _) _) _
  have s0 : w.heap.size + 1 + 1 < W0.heap.size := by rw [← hW0]; simp
  have A0 : Hid (Fc w.heap.size u d W0) := hW0 ▸ ((fc_new w u d).at (ba _ _) (by simp)).at (ba _ _) (by simp; omega)
  have B0 : Hid (Fc (w.heap.size + 1) x y W0) := by
    have := (fc_new (w.alloc (.cells #[.int .i64 u, .int .i64 d] 23)) x y).at (ba _ (.cells #[.int .i64 0, .int .i64 0] 23)) (by simp)
    rw [hW0] at this
    rw [Hid]
    simpa using this
  have C0 : Hid (Fc (w.heap.size + 1 + 1) 0 0 W0) := by
    have := fc_new ((w.alloc (.cells #[.int .i64 u, .int .i64 d] 23)).alloc (.cells #[.int .i64 x, .int .i64 y] 23)) 0 0
    rw [hW0] at this
    rw [Hid]
    simpa using this
  go_enter Try.func7, Try.ntmps7
  obtain ⟨z1, z2, _, _⟩ := A0.out
  have HL : Hid _ := h
  clear h
  go_wp2_with fail
  clear hW0 z1 z2
  have h := HL.out
  clear HL
  refine (kc _).mono ?_
  rintro e w1 ⟨rfl, hb1⟩
  have G1 := bt G0 hb1
  have s1 : w.heap.size + 1 + 1 < w1.heap.size := Nat.lt_of_lt_of_le s0 hb1.size
  have A1 : Hid (Fc w.heap.size u d w1) := A0.out.at hb1 (by omega)
  have B1 : Hid (Fc (w.heap.size + 1) x y w1) := B0.out.at hb1 (by omega)
  have C1 : Hid (Fc (w.heap.size + 1 + 1) 0 0 w1) := C0.out.at hb1 s0
  clear A0 B0 C0 kc hb1
  by_cases c : e0 = 0
  · subst c
    rw [if_neg (by simp)] at h
    obtain ⟨a, b, e1, h1⟩ : ∃ a b e1, Rt.minusT x y 1 1 = (a, b, e1) := ⟨_, _, _, rfl⟩
    rw [h1] at h
    simp only at h
    have km := minus_any x y 1 1 a b e1 h1
    obtain ⟨W1, hW1⟩ : ∃ W1, w1.alloc (.cells #[.int .i64 1, .int .i64 1] 23) = W1 := ⟨_, rfl⟩
    have hbW1 : Below w1.heap.size w1 W1 := hW1 ▸ ba _ _
    have s1' : w1.heap.size < W1.heap.size := by rw [← hW1]; simp
    have A2 : Hid (Fc w.heap.size u d W1) := A1.out.at hbW1 (by omega)
    have B2 : Hid (Fc (w.heap.size + 1) x y W1) := B1.out.at hbW1 (by omega)
    have C2 : Hid (Fc (w.heap.size + 1 + 1) 0 0 W1) := C1.out.at hbW1 s1
    have D2 : Hid (Fc w1.heap.size 1 1 W1) := hW1 ▸ fc_new w1 1 1
    have HH : Hid (Rt.minusT x y 1 1 = (a, b, e1)) := h1
    have G2 := bt G1 hbW1
    obtain ⟨b1, b2, _, _⟩ := B2.out
    obtain ⟨d1, d2, _, _⟩ := D2.out
    clear A1 B1 C1 h1 he0 hbW1
    have HL : Hid _ := h
    clear h
    go_wp2_with fail
    clear hW1
    have h := HL.out
    clear HL
    refine (km _).mono ?_
    rintro e w2 ⟨rfl, hb2⟩
    have hs2 := hb2.size
    obtain ⟨W2, hW2⟩ : ∃ W2, w2.alloc (.cells #[.int .i64 a, .int .i64 b] 23) = W2 := ⟨_, rfl⟩
    have hbW2 : Below w2.heap.size w2 W2 := hW2 ▸ ba _ _
    have s2' : w2.heap.size < W2.heap.size := by rw [← hW2]; simp
    have hbb := bt hb2 hbW2
    have A3 : Hid (Fc w.heap.size u d W2) := A2.out.at hbb (by omega)
    have C3 : Hid (Fc (w.heap.size + 1 + 1) 0 0 W2) := C2.out.at hbb (by omega)
    have D3 : Hid (Fc w1.heap.size 1 1 W2) := D2.out.at hbb s1'
    have E3 : Hid (Fc w2.heap.size a b W2) := hW2 ▸ fc_new w2 a b
    have G3 := bt G2 hbb
    obtain ⟨a1, a2, _, _⟩ := A3.out
    obtain ⟨g1, g2, _, _⟩ := E3.out
    obtain ⟨c1, c2, c3, c4⟩ := C3.out
    clear A2 B2 C2 D2 b1 b2 d1 d2 km hbb hbW2 hb2
    by_cases k1 : e1 = 0
    · subst k1
      rw [if_neg (by simp)] at h
      obtain ⟨a', b', e2, h2⟩ : ∃ a' b' e2, Rt.timesT u d a b = (a', b', e2) := ⟨_, _, _, rfl⟩
      rw [h2] at h
      simp only at h
      have kt := times_any u d a b a' b' e2 h2
      clear h2 c1 c2 c3 c4
      have HL : Hid _ := h
      clear h
      go_wp2_with fail
      clear hW2
      have h := HL.out
      clear HL
      refine (kt _).mono ?_
      rintro e w3 ⟨rfl, hb3⟩
      have hs3 := hb3.size
      obtain ⟨W3, hW3⟩ : ∃ W3, w3.alloc (.cells #[.int .i64 a', .int .i64 b'] 23) = W3 := ⟨_, rfl⟩
      have hbW3 : Below w3.heap.size w3 W3 := hW3 ▸ ba _ _
      have s3' : w3.heap.size < W3.heap.size := by rw [← hW3]; simp
      have hbb := bt hb3 hbW3
      have C4 : Hid (Fc (w.heap.size + 1 + 1) 0 0 W3) := C3.out.at hbb (by omega)
      have D4 : Hid (Fc w1.heap.size 1 1 W3) := D3.out.at hbb (by omega)
      have E4 : Hid (Fc w3.heap.size a' b' W3) := hW3 ▸ fc_new w3 a' b'
      have G4 := bt G3 hbb
      obtain ⟨d1, d2, _, _⟩ := D4.out
      obtain ⟨g1', g2', _, _⟩ := E4.out
      obtain ⟨c1, c2, c3, c4⟩ := C4.out
      clear A3 C3 D3 E3 a1 a2 g1 g2 kt hbb hbW3 hb3
      by_cases k2 : e2 = 0
      · subst k2
        rw [if_neg (by simp)] at h
        have kp := plus_any 1 1 a' b' n m er h
        clear h c1 c2 c3 c4
        go_wp2_with fail
        clear hW3
        refine (kp _).mono ?_
        rintro e w4 ⟨rfl, hb4⟩
        have C5 : Hid (Fc (w.heap.size + 1 + 1) 0 0 w4) := C4.out.at hb4 (by omega)
        obtain ⟨c1, c2, c3, c4⟩ := C5.out
        have G5 := bt G4 hb4
        go_wp2_with fail
        exact bodyPost_ret (v := .tuple #[rv n m, .int .i64 er]) (by simp [results, Try.results7, go_sem, c1, c2]) rfl ⟨rfl, bs (bs G5 (by dsimp only; omega) _) (by dsimp only; omega) _⟩
      · have h5 : (e2 == 0) = false := by simpa using k2
        have h6 : (e2 != 0) = true := by simpa using k2
        rw [if_pos k2] at h
        simp only [Prod.mk.injEq] at h
        obtain ⟨rfl, rfl, rfl⟩ := h
        go_wp2_with fail
        clear hW3
        exact bodyPost_ret (v := .tuple #[rv 0 0, .int .i64 e2]) (by simp [results, Try.results7, go_sem, c1, c2]) rfl ⟨rfl, bs (bs G4 (by dsimp only; omega) _) (by dsimp only; omega) _⟩
    · have h5 : (e1 == 0) = false := by simpa using k1
      have h6 : (e1 != 0) = true := by simpa using k1
      rw [if_pos k1] at h
      simp only [Prod.mk.injEq] at h
      obtain ⟨rfl, rfl, rfl⟩ := h
      go_wp2_with fail
      clear hW2
      exact bodyPost_ret (v := .tuple #[rv 0 0, .int .i64 e1]) (by simp [results, Try.results7, go_sem, c1, c2]) rfl ⟨rfl, bs (bs G3 (by dsimp only; omega) _) (by dsimp only; omega) _⟩
  · have h5 : (e0 == 0) = false := by simpa using c
    have h6 : (e0 != 0) = true := by simpa using c
    rw [if_pos c] at h
    simp only [Prod.mk.injEq] at h
    obtain ⟨rfl, rfl, rfl⟩ := h
    obtain ⟨c1, c2, c3, c4⟩ := C1.out
    go_wp2_with fail
    exact bodyPost_ret (v := .tuple #[rv 0 0, .int .i64 e0]) (by simp [results, Try.results7, go_sem, c1, c2]) rfl ⟨rfl, bs (bs G1 (by dsimp only; omega) _) (by dsimp only; omega) _⟩
end Go.Proofs.Ytfofdbcmaokkcaa
