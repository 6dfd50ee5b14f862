import Derived.Test.YtlndlpjadajelaaGreatQl21
import Derived.Test.YtlndlpjadajelaaGreatQl01
import Derived.Test.YtlndlpjadajelaaGreatQl07
import Derived.Test.YtlndlpjadajelaaGreatQl10
import Derived.Test.YtlndlpjadajelaaGreatQl14
import Derived.Test.YtlndlpjadajelaaGreatQl17
namespace Go.Proofs.YtlndlpjadajelaaGreat
open Go.RowKit Go.Proofs.YtlndlpjadajelaaGreat.Ds

/-- what is wrong with a chance -/
theorem swrong_any (u d er : Int) (h : Sb.chE u d = er) (w : World) :
    Calls Tryz.prog 65 #[rv u d] w fun e w' => e = .returned (.int .i64 er) ∧ Below w.heap.size w w' := by
  obtain ⟨b, hb⟩ : ∃ b, Rt.rightB u d = b := ⟨_, rfl⟩
  rw [Sb.chE, hb] at h
  have HB := ba w (.cells #[.int .i64 u, .int .i64 d] 23)
  have kc := right_any u d b hb (w.alloc (.cells #[.int .i64 u, .int .i64 d] 23))
  clear hb
  cases b with
  | false =>
    simp at h; subst h
    go_enter Tryz.func65, Tryz.ntmps65
    go_wp2_with fail
    refine kc.mono ?_
    rintro e w1 ⟨rfl, hb1⟩
    have G1 := bt HB hb1
    go_wp2
    go_ret
    exact ⟨rfl, G1⟩
  | true =>
    simp at h
    by_cases c : d < u
    · rw [if_pos c] at h
      subst h
      go_enter Tryz.func65, Tryz.ntmps65
      go_wp2_with fail
      refine kc.mono ?_
      rintro e w1 ⟨rfl, hb1⟩
      have G1 := bt HB hb1
      obtain ⟨hc1, hf1⟩ := bcell hb1
      go_wp2
      go_ret
      exact ⟨rfl, G1⟩
    · rw [if_neg c] at h
      subst h
      go_enter Tryz.func65, Tryz.ntmps65
      go_wp2_with fail
      refine kc.mono ?_
      rintro e w1 ⟨rfl, hb1⟩
      have G1 := bt HB hb1
      obtain ⟨hc1, hf1⟩ := bcell hb1
      go_wp2
      go_ret
      exact ⟨rfl, G1⟩


set_option maxHeartbeats 1000000 in
theorem slost_any (u d x y n m er : Int) (h : Sb.losT u d x y = (n, m, er)) (w : World) :
    Calls Tryz.prog 26 #[rv u d, rv x y] w fun e w' => e = .returned (.tuple #[rv n m, .int .i64 er]) ∧ Below w.heap.size w w' := by
  obtain ⟨e0, he0⟩ : ∃ e0, Sb.chE u d = e0 := ⟨_, rfl⟩
  rw [Sb.losT, he0] at h
  have kc := swrong_any u d e0 he0
  obtain ⟨W0, hW0⟩ : ∃ W0, ((w.alloc (.cells #[.int .i64 u, .int .i64 d] 23)).alloc (.cells #[.int .i64 x, .int .i64 y] 23)).alloc (.cells #[.int .i64 0, .int .i64 0] 23) = W0 := ⟨_, rfl⟩
  have G0 : Below w.heap.size w W0 := hW0 ▸ bal (bal (ba _ _) _) _
  have s0 : w.heap.size + 1 + 1 < W0.heap.size := by rw [← hW0]; simp
  have A0 : Hid (Fc w.heap.size u d W0) := hW0 ▸ ((fc_new w u d).at (ba _ _) (by simp)).at (ba _ _) (by simp; omega)
  have B0 : Hid (Fc (w.heap.size + 1) x y W0) := by
    have := (fc_new (w.alloc (.cells #[.int .i64 u, .int .i64 d] 23)) x y).at (ba _ (.cells #[.int .i64 0, .int .i64 0] 23)) (by simp)
    rw [hW0] at this
    rw [Hid]
    simpa using this
  have C0 : Hid (Fc (w.heap.size + 1 + 1) 0 0 W0) := by
    have := fc_new ((w.alloc (.cells #[.int .i64 u, .int .i64 d] 23)).alloc (.cells #[.int .i64 x, .int .i64 y] 23)) 0 0
    rw [hW0] at this
    rw [Hid]
    simpa using this
  go_enter Tryz.func26, Tryz.ntmps26
  obtain ⟨z1, z2, _, _⟩ := A0.out
  have HL : Hid _ := h
  clear h
  go_wp2_with fail
  clear hW0 z1 z2
  have h := HL.out
  clear HL
  refine (kc _).mono ?_
  rintro e w1 ⟨rfl, hb1⟩
  have G1 := bt G0 hb1
  have s1 : w.heap.size + 1 + 1 < w1.heap.size := Nat.lt_of_lt_of_le s0 hb1.size
  have A1 : Hid (Fc w.heap.size u d w1) := A0.out.at hb1 (by omega)
  have B1 : Hid (Fc (w.heap.size + 1) x y w1) := B0.out.at hb1 (by omega)
  have C1 : Hid (Fc (w.heap.size + 1 + 1) 0 0 w1) := C0.out.at hb1 s0
  clear A0 B0 C0 kc hb1
  by_cases c : e0 = 0
  · subst c
    rw [if_neg (by simp)] at h
    obtain ⟨a, b, e1, h1⟩ : ∃ a b e1, Rt.minusT x y 1 1 = (a, b, e1) := ⟨_, _, _, rfl⟩
    rw [h1] at h
    simp only at h
    have km := minus_any x y 1 1 a b e1 h1
    obtain ⟨W1, hW1⟩ : ∃ W1, w1.alloc (.cells #[.int .i64 1, .int .i64 1] 23) = W1 := ⟨_, rfl⟩
    have hbW1 : Below w1.heap.size w1 W1 := hW1 ▸ ba _ _
    have s1' : w1.heap.size < W1.heap.size := by rw [← hW1]; simp
    have A2 : Hid (Fc w.heap.size u d W1) := A1.out.at hbW1 (by omega)
    have B2 : Hid (Fc (w.heap.size + 1) x y W1) := B1.out.at hbW1 (by omega)
    have C2 : Hid (Fc (w.heap.size + 1 + 1) 0 0 W1) := C1.out.at hbW1 s1
    have D2 : Hid (Fc w1.heap.size 1 1 W1) := hW1 ▸ fc_new w1 1 1
    have HH : Hid (Rt.minusT x y 1 1 = (a, b, e1)) := h1
    have G2 := bt G1 hbW1
    obtain ⟨b1, b2, _, _⟩ := B2.out
    obtain ⟨d1, d2, _, _⟩ := D2.out
    clear A1 B1 C1 h1 he0 hbW1
    have HL : Hid _ := h
    clear h
    go_wp2_with fail
    clear hW1
    have h := HL.out
    clear HL
    refine (km _).mono ?_
    rintro e w2 ⟨rfl, hb2⟩
    have hs2 := hb2.size
    obtain ⟨W2, hW2⟩ : ∃ W2, w2.alloc (.cells #[.int .i64 a, .int .i64 b] 23) = W2 := ⟨_, rfl⟩
    have hbW2 : Below w2.heap.size w2 W2 := hW2 ▸ ba _ _
    have s2' : w2.heap.size < W2.heap.size := by rw [← hW2]; simp
    have hbb := bt hb2 hbW2
    have A3 : Hid (Fc w.heap.size u d W2) := A2.out.at hbb (by omega)
    have C3 : Hid (Fc (w.heap.size + 1 + 1) 0 0 W2) := C2.out.at hbb (by omega)
    have D3 : Hid (Fc w1.heap.size 1 1 W2) := D2.out.at hbb s1'
    have E3 : Hid (Fc w2.heap.size a b W2) := hW2 ▸ fc_new w2 a b
    have G3 := bt G2 hbb
    obtain ⟨a1, a2, _, _⟩ := A3.out
    obtain ⟨g1, g2, _, _⟩ := E3.out
    obtain ⟨c1, c2, c3, c4⟩ := C3.out
    clear A2 B2 C2 D2 b1 b2 d1 d2 km hbb hbW2 hb2
    by_cases k1 : e1 = 0
    · subst k1
      rw [if_neg (by simp)] at h
      obtain ⟨a', b', e2, h2⟩ : ∃ a' b' e2, Rt.timesT u d a b = (a', b', e2) := ⟨_, _, _, rfl⟩
      rw [h2] at h
      simp only at h
      have kt := times_any u d a b a' b' e2 h2
      clear h2 c1 c2 c3 c4
      have HL : Hid _ := h
      clear h
      go_wp2_with fail
      clear hW2
      have h := HL.out
      clear HL
      refine (kt _).mono ?_
      rintro e w3 ⟨rfl, hb3⟩
      have hs3 := hb3.size
      obtain ⟨W3, hW3⟩ : ∃ W3, w3.alloc (.cells #[.int .i64 a', .int .i64 b'] 23) = W3 := ⟨_, rfl⟩
      have hbW3 : Below w3.heap.size w3 W3 := hW3 ▸ ba _ _
      have s3' : w3.heap.size < W3.heap.size := by rw [← hW3]; simp
      have hbb := bt hb3 hbW3
      have C4 : Hid (Fc (w.heap.size + 1 + 1) 0 0 W3) := C3.out.at hbb (by omega)
      have D4 : Hid (Fc w1.heap.size 1 1 W3) := D3.out.at hbb (by omega)
      have E4 : Hid (Fc w3.heap.size a' b' W3) := hW3 ▸ fc_new w3 a' b'
      have G4 := bt G3 hbb
      obtain ⟨d1, d2, _, _⟩ := D4.out
      obtain ⟨g1', g2', _, _⟩ := E4.out
      obtain ⟨c1, c2, c3, c4⟩ := C4.out
      clear A3 C3 D3 E3 a1 a2 g1 g2 kt hbb hbW3 hb3
      by_cases k2 : e2 = 0
      · subst k2
        rw [if_neg (by simp)] at h
        have kp := plus_any 1 1 a' b' n m er h
        clear h c1 c2 c3 c4
        go_wp2_with fail
        clear hW3
        refine (kp _).mono ?_
        rintro e w4 ⟨rfl, hb4⟩
        have C5 : Hid (Fc (w.heap.size + 1 + 1) 0 0 w4) := C4.out.at hb4 (by omega)
        obtain ⟨c1, c2, c3, c4⟩ := C5.out
        have G5 := bt G4 hb4
        go_wp2_with fail
        exact bodyPost_ret (v := .tuple #[rv n m, .int .i64 er]) (by simp [results, Tryz.results26, go_sem, c1, c2]) rfl ⟨rfl, bs (bs G5 (by dsimp only; omega) _) (by dsimp only; omega) _⟩
      · have h5 : (e2 == 0) = false := by simpa using k2
        have h6 : (e2 != 0) = true := by simpa using k2
        rw [if_pos k2] at h
        simp only [Prod.mk.injEq] at h
        obtain ⟨rfl, rfl, rfl⟩ := h
        go_wp2_with fail
        clear hW3
        exact bodyPost_ret (v := .tuple #[rv 0 0, .int .i64 e2]) (by simp [results, Tryz.results26, go_sem, c1, c2]) rfl ⟨rfl, bs (bs G4 (by dsimp only; omega) _) (by dsimp only; omega) _⟩
    · have h5 : (e1 == 0) = false := by simpa using k1
      have h6 : (e1 != 0) = true := by simpa using k1
      rw [if_pos k1] at h
      simp only [Prod.mk.injEq] at h
      obtain ⟨rfl, rfl, rfl⟩ := h
      go_wp2_with fail
      clear hW2
      exact bodyPost_ret (v := .tuple #[rv 0 0, .int .i64 e1]) (by simp [results, Tryz.results26, go_sem, c1, c2]) rfl ⟨rfl, bs (bs G3 (by dsimp only; omega) _) (by dsimp only; omega) _⟩
  · have h5 : (e0 == 0) = false := by simpa using c
    have h6 : (e0 != 0) = true := by simpa using c
    rw [if_pos c] at h
    simp only [Prod.mk.injEq] at h
    obtain ⟨rfl, rfl, rfl⟩ := h
    obtain ⟨c1, c2, c3, c4⟩ := C1.out
    go_wp2_with fail
    exact bodyPost_ret (v := .tuple #[rv 0 0, .int .i64 e0]) (by simp [results, Tryz.results26, go_sem, c1, c2]) rfl ⟨rfl, bs (bs G1 (by dsimp only; omega) _) (by dsimp only; omega) _⟩
end Go.Proofs.YtlndlpjadajelaaGreat

namespace Go.Proofs.YtlndlpjadajelaaGreat
open Go.RowKit Go.Proofs.YtlndlpjadajelaaGreat.Ds

theorem powT_one {d m : Int} (h1 : 1 ≤ d) (h2 : d ≤ 1073741824) (h3 : 0 ≤ m) (h4 : m ≤ 10) : (Rt.powT 1 d m).2.2 = if 1073741824 < d ^ m.toNat then 4 else 0 := by
  have hr : Rt.rightB 1 d = true := by
    unfold Rt.rightB Rt.mx
    simp
    omega
  unfold Rt.powT Rt.mx
  rw [if_pos hr, if_neg (by omega), Int.one_pow]
  by_cases c : 1073741824 < d ^ m.toNat
  · rw [if_pos (.inr c), if_pos c]
  · rw [if_neg (by omega), if_neg c]

theorem smuch_any (d m er : Int) (h1 : 1 ≤ d) (h2 : d ≤ 1073741824) (h3 : 0 ≤ m) (h4 : m ≤ 10) (h : (if 1073741824 < d ^ m.toNat then 4 else 0) = er) (w : World) :
    Calls Tryz.prog 112 #[.int .i64 d, .int .i64 m] w fun e w' => e = .returned (.int .i64 er) ∧ Below w.heap.size w w' := by
  rw [← powT_one h1 h2 h3 h4] at h
  obtain ⟨p, q, e0, hp⟩ : ∃ p q e0, Rt.powT 1 d m = (p, q, e0) := ⟨_, _, _, rfl⟩
  rw [hp] at h
  simp only at h
  subst h
  have kc := power_any 1 d m p q e0 hp
  clear hp
  go_enter Tryz.func112, Tryz.ntmps112
  go_wp2_with fail
  refine (kc _).mono ?_
  rintro e w1 ⟨rfl, hb1⟩
  have G1 := bal hb1 (.cells #[.int .i64 p, .int .i64 q] 23)
  go_wp2
  go_ret
  exact ⟨rfl, G1⟩

/-- what Subsets leaves -/
def SubP (w : World) (l : List Pt) (er : Int) (e : Ending) (w' : World) : Prop :=
  ∃ v us, e = .returned (.tuple #[v, .int .i64 er]) ∧ rd us = l ∧ OwnN w' w.heap.size v us ∧ Below w.heap.size w w' ∧ Frs w.heap.size us
theorem SubP.err {w w' : World} {er : Int} (hb : Below w.heap.size w w') : SubP w [] er (.returned (.tuple #[.slice none 0 0, .int .i64 er])) w' :=
  ⟨_, [], rfl, rfl, .inl ⟨rfl, rfl⟩, hb, Frs.nil _⟩

set_option maxHeartbeats 1000000 in
theorem subsets_any (u d m : Int) (l : List Pt) (er : Int) (h : Sb.subT u d m = (l, er)) (w : World) :
    Calls Tryz.prog 59 #[rv u d, .int .i64 m] w (SubP w l er) := by
  obtain ⟨e0, he0⟩ : ∃ e0, Sb.chE u d = e0 := ⟨_, rfl⟩
  rw [Sb.subT, he0] at h
  have kc := swrong_any u d e0 he0
  by_cases c : e0 = 0
  · subst c
    obtain ⟨hr, hu, hud, hd1, hd⟩ := Sb.ch_ok he0
    rw [if_neg (by simp)] at h
    by_cases c1 : m < 0 ∨ 10 < m
    · rw [if_pos c1] at h
      simp only [Prod.mk.injEq] at h
      obtain ⟨rfl, rfl⟩ := h
      clear he0 hr
      by_cases c2 : m < 0
      · clear c1
        go_enter Tryz.func59, Tryz.ntmps59
        go_wp2_with fail
        refine (kc _).mono ?_
        rintro e w1 ⟨rfl, hb1⟩
        have G1 := bt (ba _ _) hb1
        go_wp2
        exact bodyPost_ret (v := .tuple #[.slice none 0 0, .int .i64 5]) (by simp [results, Tryz.results59, go_sem]) rfl (SubP.err G1)
      · have c3 : 10 < m := by omega
        clear c1
        go_enter Tryz.func59, Tryz.ntmps59
        go_wp2_with fail
        refine (kc _).mono ?_
        rintro e w1 ⟨rfl, hb1⟩
        have G1 := bt (ba _ _) hb1
        go_wp2
        exact bodyPost_ret (v := .tuple #[.slice none 0 0, .int .i64 5]) (by simp [results, Tryz.results59, go_sem]) rfl (SubP.err G1)
    · rw [if_neg c1] at h
      have c2 : 0 ≤ m := by omega
      have c3 : m ≤ 10 := by omega
      obtain ⟨k, rfl⟩ := Int.eq_ofNat_of_zero_le c2
      obtain ⟨em, hem⟩ : ∃ em : Int, (if 1073741824 < d ^ ((k : Int)).toNat then 4 else 0) = em := ⟨_, rfl⟩
      have km := smuch_any d k em hd1 hd c2 c3 hem
      by_cases c4 : 1073741824 < d ^ ((k : Int)).toNat
      · rw [if_pos c4] at h hem
        simp only [Prod.mk.injEq] at h
        obtain ⟨rfl, rfl⟩ := h
        subst hem
        clear he0 hr c1 c4
        go_enter Tryz.func59, Tryz.ntmps59
        go_wp2_with fail
        refine (kc _).mono ?_
        rintro e w1 ⟨rfl, hb1⟩
        have G1 := bt (ba _ _) hb1
        obtain ⟨hc1, hf1⟩ := bcell hb1
        go_wp2_with fail
        refine (km _).mono ?_
        rintro e w2 ⟨rfl, hb2⟩
        have G2 := bt G1 hb2
        go_wp2
        exact bodyPost_ret (v := .tuple #[.slice none 0 0, .int .i64 4]) (by simp [results, Tryz.results59, go_sem]) rfl (SubP.err G2)
      · rw [if_neg c4] at h hem
        subst hem
        rw [Int.toNat_natCast] at h c4
        have kw := weighed_any u d k (by omega) hu hud hd1 hd (by omega)
        have HM : Hid (makeT (Sb.lst u d k) = (l, er)) := h
        clear he0 hr c1 c4 h
        go_enter Tryz.func59, Tryz.ntmps59
        go_wp2_with fail
        refine (kc _).mono ?_
        rintro e w1 ⟨rfl, hb1⟩
        have G1 := bt (ba _ _) hb1
        obtain ⟨hc1, hf1⟩ := bcell hb1
        go_wp2_with fail
        refine (km _).mono ?_
        rintro e w2 ⟨rfl, hb2⟩
        have G2 := bt G1 hb2
        obtain ⟨hc2, hf2⟩ := bcell hb2
        have hz1 : w.heap.size < w1.heap.size := by have := hb1.size; simp at this; omega
        go_wp2_with fail
        refine (kw _).mono ?_
        rintro e w3 ⟨v3, ts, rfl, q1, q2, hb3⟩
        have G3 := bt G2 hb3
        have kk := make_fr w3.heap.size v3 ts w3 (Nat.le_refl _) q2 l er (by rw [q1]; exact HM.out)
        obtain ⟨a3, n3, rfl, _⟩ := q2
        clear q1 kw hc1 hf1 hc2 hf2
        go_wp2_with fail
        refine kk.mono ?_
        rintro e w4 ⟨v4, us, rfl, r1, r2, r3, r4⟩
        have G4 := bt G3 r3
        have hs := G3.size
        obtain ⟨a4, n4, rfl⟩ := r2.slice
        have HZ : Hid (SubP w l er (.returned (.tuple #[.slice a4 us.length n4, .int .i64 er])) w4) := ⟨_, us, rfl, r1, r2.mono hs, G4, r4.mono hs⟩
        clear r1 r2 r3 r4 kk
        go_wp2
        exact bodyPost_ret (v := .tuple #[.slice a4 us.length n4, .int .i64 er]) (by simp [results, Tryz.results59, go_sem]) rfl HZ.out
  · simp only [ne_eq, c, not_false_eq_true, if_true, Prod.mk.injEq] at h
    obtain ⟨rfl, rfl⟩ := h
    have c1 : (e0 == 0) = false := by simpa using c
    have c2 : (e0 != 0) = true := by simpa using c
    clear he0
    go_enter Tryz.func59, Tryz.ntmps59
    go_wp2_with fail
    refine (kc _).mono ?_
    rintro e w1 ⟨rfl, hb1⟩
    have G1 := bt (ba _ _) hb1
    go_wp2
    exact bodyPost_ret (v := .tuple #[.slice none 0 0, .int .i64 e0]) (by simp [results, Tryz.results59, go_sem]) rfl (SubP.err G1)

end Go.Proofs.YtlndlpjadajelaaGreat

namespace Go.Proofs.YtlndlpjadajelaaGreat
open Go.RowKit Go.Shelf Go.Proofs.YtlndlpjadajelaaGreat.Ds
attribute [local go_sem] Oper.semAt_some

/-- two parts as one -/
def addTr (p : Tr × Tr) : Tr := (if p.1.2.2 = 0 then p.2.1 else p.1.1, if p.1.2.2 = 0 then p.2.2.1 else p.1.2.1, p.1.2.2 + p.2.2.2)
/-- .. all so far -/
def plsL {w : World} {B : Nat} {M : Int} (pre : List (PP w B M)) : List Tr := pre.map fun x => addTr x.1
theorem plsL_len {w : World} {B : Nat} {M : Int} (pre : List (PP w B M)) : (plsL pre).length = pre.length := by simp [plsL]
theorem plsL_snoc {w : World} {B : Nat} {M : Int} (pre : List (PP w B M)) (x : PP w B M) : plsL (pre ++ [x]) = plsL pre ++ [addTr x.1] := by simp [plsL]

theorem mrg_length (az bz : List Tr) : (mrg az bz).length ≤ az.length + bz.length := by
  induction az, bz using mrg.induct with
  | case1 => simp [mrg]
  | case2 b bs ih => rw [mrg]; simp at *; omega
  | case3 a az ih => rw [mrg]; simp at *; omega
  | case4 a az b bs h ih => rw [mrg_lt h]; simp at *; omega
  | case5 a az b bs h1 h2 ih => rw [mrg_gt h2]; simp at *; omega
  | case6 a az b bs h1 h2 ih => rw [mrg_eq (by omega)]; simp at *; omega

theorem boxed_uniq {W : World} {B : Nat} {t : TypeId} {u v : Value} (h : Boxed W B t u) (k : Boxed W B t v) : u = v := by
  have := (show W.heap[B]? = _ from h).symm.trans (show W.heap[B]? = _ from k)
  simpa using this
theorem two_cells0 (W : World) (s : Value) (k : Int) (n : Nat) (hn : W.heap.size = n) : ∀ j u, [s, Value.int .i64 k][j]? = some u → (W.alloc (.cells #[s, .int .i64 k] 82)).cell? ((⟨n, 0, none⟩ : Addr).add j) = some u := by
  subst hn
  intro j u hj
  match j, hj with
  | 0, hj => simp at hj; subst hj; simp [go_sem, Addr.add]
  | 1, hj => simp at hj; subst hj; simp [go_sem, Addr.add]
theorem two_one (a : Option Addr) (n c : Nat) (k : Int) : ∀ u ∈ [Value.slice a n c, Value.int .i64 k], u.oneCell' = true := by
  intro u hu
  simp at hu
  rcases hu with rfl | rfl <;> rfl
theorem addTr_zero (a b : Value) (x y : List Int) (k : Int) : addTr ((a, x, 0), (b, y, k)) = (b, y, 0 + k) := by simp [addTr]
theorem addTr_pos {a b : Value} {x y : List Int} {j k : Int} (h : ¬ j = 0) : addTr ((a, x, j), (b, y, k)) = (a, x, j + k) := by simp [addTr, h]
theorem flat_one (ds : List Tr) (t : Tr) : flat (ds ++ [t]) = flat ds ++ [t.1, .int .i64 t.2.2] := by simp [flat]

set_option maxHeartbeats 4000000 in
set_option maxRecDepth 100000 in
theorem plus_new (B : Nat) (u v : Value) (ts us : List Tr) (w : World) (hB : B ≤ w.heap.size) (hp : Parts w B u ts) (hq : Parts w B v us) (hl1 : ts.length ≤ 4096) (hl2 : us.length ≤ 4096)
    (hm1 : ∀ t ∈ ts, 0 ≤ t.2.2 ∧ t.2.2 ≤ (1152921504606846976 : Int)) (hm2 : ∀ t ∈ us, 0 ≤ t.2.2 ∧ t.2.2 ≤ (1152921504606846976 : Int)) (xs : List Tr) (hx : (mrg ts us).map addTr = xs) :
    Calls Tryz.prog 161 #[u, v] w fun e w' => ∃ v', e = .returned v' ∧ w'.ownsRow w.heap.size 82 2 v' xs.length (flat xs) ∧ (∀ t ∈ xs, Ints w' w.heap.size w.heap.size t.1 t.2.1) ∧ Below w.heap.size w w' := by
  have HP : Hid (Parts w B u ts) := hp
  have HQ : Hid (Parts w B v us) := hq
  have HX : Hid ((mrg ts us).map addTr = xs) := hx
  have HM1 : Hid (∀ t ∈ ts, 0 ≤ t.2.2 ∧ t.2.2 ≤ (1152921504606846976 : Int)) := hm1
  have HM2 : Hid (∀ t ∈ us, 0 ≤ t.2.2 ∧ t.2.2 ≤ (1152921504606846976 : Int)) := hm2
  obtain ⟨a, c, rfl, _⟩ := hp
  obtain ⟨a', c', rfl, _⟩ := hq
  obtain ⟨i0, hi0, hz0, hz1, hz2⟩ := info_parts info32
  obtain ⟨w1, hmk, hown1, hgr1⟩ := run_make_own (P := Tryz.prog) w w.heap.size 44 82 i0 (.agg #[.slice none 0 0, .int .i64 0]) 2 Tryz.underlying44 hi0 hz0 hz1 .i64 .i64 (ts.length + us.length) (by rw [hz2]; omega) (by unfold maxLen; omega) (Nat.le_refl _)
  have hmk' : (Instr.makeSlice 44 (.int .i64 0) (.int .i64 ((ts.length : Int) + (us.length : Int)))).run Tryz.prog w = .ok (.slice (some ⟨w.heap.size, 0, none⟩) 0 (ts.length + us.length)) w1 := by
    rw [← Int.natCast_add]; exact hmk
  have hd : decide (4096 < (ts.length : Int)) = false := decide_eq_false (by omega)
  have hd' : ¬ 4096 < (ts.length : Int) := by omega
  clear hx hm1 hm2 hmk
  refine (callsIn_wide (n := 5)).1 ?_
  refine callsIn_of_wp_marks Tryz.func161 rfl trivial ?_ rfl
  simp only [Tryz.ntmps161, List.size_toArray, List.length_cons, List.length_nil, Nat.reduceAdd, Nat.reduceSub, Array.replicate_succ, Array.replicate_zero, List.push_toArray, List.append_toArray, List.nil_append, List.cons_append]
  gi_wp2_with fail
  refine ⟨trivial, ?_⟩
  refine (pairs_in _ _ _ _ _ _ _ _).mono ?_
  rintro e w4 ⟨rfl, hw4⟩
  gi_wp2_with fail
  clear hw4
  obtain ⟨W0, hW0⟩ : ∃ W0, (((w1.alloc (Obj.cells #[Value.slice (some ⟨w.heap.size, 0, none⟩) 0 (ts.length + us.length)] 44)).alloc (Obj.cells #[Value.slice a ts.length c] 44)).alloc (Obj.cells #[Value.slice a' us.length c'] 44)) = W0 := ⟨_, rfl⟩
  have hs1 := hgr1.size
  have hsz : W0.heap.size = w1.heap.size + 3 := by rw [← hW0]; simp
  have gB : Boxed W0 w1.heap.size 44 (.slice (some ⟨w.heap.size, 0, none⟩) 0 (ts.length + us.length)) := by rw [← hW0]; exact ((Boxed.new w1 44 _).alloc _).alloc _
  have gR : W0.ownsRow w.heap.size 82 2 (.slice (some ⟨w.heap.size, 0, none⟩) 0 (ts.length + us.length)) 0 [] := by rw [← hW0]; exact ((hown1.alloc _).alloc _).alloc _
  have g4 : W0.cell? ⟨w1.heap.size + 1, 0, none⟩ = some (.slice a ts.length c) := by rw [← hW0]; simp [go_sem]
  have g5 : W0.cell? ⟨w1.heap.size + 1 + 1, 0, none⟩ = some (.slice a' us.length c') := by rw [← hW0]; simp [go_sem]
  have hb0 : Below w.heap.size w W0 := by
    rw [← hW0]
    have h1 : Below w.heap.size w w1 := (Below.refl _ _).grown hgr1 (Nat.le_refl _) (by intro k e; cases e)
    exact bal (bal (bal h1 _) _) _
  have hX1 : Parts W0 w.heap.size (.slice a ts.length c) ts := (HP.out.at hB hb0).mono hB
  have hX2 : Parts W0 w.heap.size (.slice a' us.length c') us := (HQ.out.at hB hb0).mono hB
  rw [hW0]
  clear hW0 hown1
  refine wpIn_rangeFunc_ownH rfl (by decide) (gf := 87) (lb := #[.pointer (some ⟨w1.heap.size + 1, 0, none⟩), .pointer (some ⟨w1.heap.size + 1 + 1, 0, none⟩)]) rfl trivial (enters_of Tryz.func87 (by kernel_rfl) rfl)
    (pairs_stops 4 (by decide) (w1.heap.size + 1) (w1.heap.size + 1 + 1) w.heap.size 1152921504606846976 (by decide) (.slice a ts.length c) (.slice a' us.length c') ts us W0 (by omega) (by omega) (by omega) g4 g5 hX1 hX2 HM1.out HM2.out) belowK_t (belowK_b (by omega)) (Below.refl _ _) (fun _ => rfl)
    (fun pre W => (∃ v, Boxed W w1.heap.size 44 v ∧ W.ownsRow w.heap.size 82 2 v pre.length (flat (plsL pre)) ∧ True) ∧ Below w.heap.size W0 W)
    (fun _ _ _ => False)
    (OwnFrom.and (Own.from (holdsRow_own w.heap.size w1.heap.size 44 82 2 (fun pre => pre.length) (fun pre => flat (plsL pre)) (fun _ _ => True)) _) (ownFrom_below (by omega) (by omega)))
    (fun _ _ _ _ _ hs _ _ => hs)
    ⟨⟨_, gB, gR, trivial⟩, Below.refl _ _⟩
    (fun x act W => ∃ Bx v0, W0.heap.size ≤ Bx ∧ Two2 W Bx x ∧ Boxed W w1.heap.size 44 v0 ∧ v0.ownBlock ≠ some Bx ∧ act = { tmps := #[.slice a ts.length c, .slice a' us.length c', undef, undef, .slice none 0 0, .pointer (some ⟨w1.heap.size, 0, none⟩), .pointer (some ⟨Bx, 0, none⟩), .pointer (some ⟨Bx + 1, 0, none⟩), .slice a ts.length c, .int .i64 (ts.length : Int), .bool false, undef, .slice a ts.length c, .int .i64 (ts.length : Int), .slice a' us.length c', .int .i64 (us.length : Int), .int .i64 ((ts.length : Int) + (us.length : Int)), .slice (some ⟨w.heap.size, 0, none⟩) 0 (ts.length + us.length), .slice a ts.length c, .slice a' us.length c', .func (.func 87) #[] #[.pointer (some ⟨w1.heap.size + 1, 0, none⟩), .pointer (some ⟨w1.heap.size + 1 + 1, 0, none⟩)], .agg #[x.1.1.1, .int .i64 x.1.1.2.2], .agg #[x.1.2.1, .int .i64 x.1.2.2.2], undef, undef, undef, undef, undef, undef, undef, undef, undef, undef, undef, undef, undef, undef, undef, undef, undef, undef], defers := [] })
    (fun x act _ X Y row hs hg hr => by obtain ⟨Bx, v0, h1, h2, h4, h5, h3⟩ := hs; exact ⟨Bx, v0, h1, h2.own hg (fun r e => (hr r e).2), h4.kept hg (fun e => by obtain ⟨_, o, ho, hc⟩ := hr _ e.symm; rw [show X.heap[w1.heap.size]? = _ from h4] at ho; cases ho; cases hc), h5, h3⟩)
    ?assign ?body ?done ?stop
  case assign =>
    rintro l pre x W K ⟨⟨v, hv, hrow, _⟩, hB1⟩ hK
    have hs := hB1.size
    have hlt : ∀ g, v.ownBlock = some g → g < W.heap.size := fun g e => (hrow.lt g e).2
    obtain ⟨⟨⟨xv, xo, xk⟩, ⟨yv, yo, yk⟩⟩, hx⟩ := x
    obtain ⟨sa, sc, e1, _⟩ := hx.1
    obtain ⟨sa', sc', e2, _⟩ := hx.2.1
    simp only at e1 e2
    subst e1 e2
    simp only [encPP]
    gi_wp2
    exact hK _ _ (((KeepsOthers.alloc _ _).trans (KeepsOthers.alloc _ _)).from _) (((Below.refl _ W).alloc (by omega) _).alloc (by simp; omega) _) ⟨⟨v, (hv.alloc _).alloc _, (hrow.alloc _).alloc _, trivial⟩, (hB1.alloc (by omega) _).alloc (by simp; omega) _⟩ ⟨W.heap.size, v, hs, two2_new W ⟨((.slice sa xo.length sc, xo, xk), (.slice sa' yo.length sc', yo, yk)), hx⟩, (hv.alloc _).alloc _, (fun e => Nat.lt_irrefl _ (hlt _ e)), rfl⟩
  case body =>
    rintro l pre x act W hl ⟨r, hr⟩ ⟨⟨v, hv, hrow, _⟩, hB1⟩ ⟨Bx, v0, hBx, bX, hv0, hne0, rfl⟩ hlt
    obtain rfl := boxed_uniq hv hv0
    obtain ⟨k1, k2, k3, k4⟩ := bX.cells
    have k5 : W.frozen? ⟨Bx, 0, none⟩ = false := by simp [World.frozen?, bX.1]
    have hs := hB1.size
    have hbxl : Bx < W.heap.size := (Array.getElem?_eq_some_iff.1 bX.1).1
    have hc := hv.cell
    have hneb : ¬ w1.heap.size = Bx := by omega
    obtain ⟨⟨⟨xv, xo, xk⟩, ⟨yv, yo, yk⟩⟩, hx⟩ := x
    obtain ⟨sa, sc, e1, _⟩ := hx.1
    obtain ⟨sa', sc', e2, _⟩ := hx.2.1
    have hxx := hx.2.2
    simp only at e1 e2 k1 k2 k3 k4 hxx
    obtain ⟨⟨hx1, hx2⟩, ⟨hy1, hy2⟩⟩ := hxx
    subst e1 e2
    obtain ⟨va, vc, rfl⟩ := owns_slice hrow
    clear bX hv0
    by_cases hz : xk = 0
    · subst hz
      obtain ⟨W1, hW1⟩ : ∃ W1, W.setCell ⟨Bx, 0, none⟩ (.slice sa' yo.length sc') = W1 := ⟨_, rfl⟩
      have r1 : W1.cell? ⟨Bx, 0, none⟩ = some (.slice sa' yo.length sc') := by rw [← hW1]; exact sc_same k1
      have r2 : W1.cell? ⟨Bx, 1, none⟩ = some (.int .i64 0) := by rw [← hW1]; exact (sc_other (by simp)).trans k2
      have r3 : W1.cell? ⟨Bx + 1, 1, none⟩ = some (.int .i64 yk) := by rw [← hW1]; exact (sc_other (by simp)).trans k4
      have hvS : Boxed W1 w1.heap.size 44 (.slice va pre.length vc) := by rw [← hW1]; exact hv.kept (grownBy_setCell' W Bx _) (by simp; omega)
      have hrowS : W1.ownsRow w.heap.size 82 2 (.slice va pre.length vc) pre.length (flat (plsL pre)) := by rw [← hW1]; exact hrow.kept (grownBy_setCell' W Bx _) (.inr hne0)
      have hkS : KeepsOthers W W1 := hW1 ▸ KeepsOthers.setCell _ _ _
      have hbS : Below w.heap.size W W1 := by rw [← hW1]; exact (Below.refl _ W).setCell (p := ⟨Bx, 0, none⟩) (by show w.heap.size ≤ Bx; omega) _
      have hsS : W1.heap.size = W.heap.size := by rw [← hW1]; simp
      have hcS := hvS.cell
      clear hv hrow hc
      gi_wp2_with (gi_at_builtin; refine wpListIn_append_own _ rfl _ _ 44 rfl w.heap.size 82 i0 (.agg #[.slice none 0 0, .int .i64 0]) 2 32 Tryz.underlying44 hi0 hz0 hz1 hz2 rfl (by decide) _ _ _ rfl (hrowS.alloc _) ⟨W.heap.size, 0, none⟩ 1 1 [.slice sa' yo.length sc', .int .i64 yk] rfl rfl (two_cells0 W1 _ _ _ hsS) (two_one _ _ _ _) (by unfold maxLen; omega) (by omega) (by simp; omega) ?_; intro v' w5 hown' hgrow _; obtain ⟨g', cap', rfl⟩ := ownsRow_succ hown'; obtain ⟨hv1, hv2, hr2, hk2, hb2⟩ := hvS.appended (by decide) hrowS (by omega) (by omega) hown' hgrow; have hc1 := hv1.cell; have hf1 := hv1.frozen)
      refine ⟨(hkS.trans hk2).from _, hbS.trans hb2, ⟨⟨_, hv2, ?_⟩, (hB1.trans hbS).trans hb2⟩⟩
      rw [plsL_snoc, flat_one, addTr_zero]
      simpa using hr2
    · have hz' : (xk == 0) = false := by simpa using hz
      have hk0 : 0 ≤ xk + yk ∧ xk + yk ≤ 4611686018427387904 := by omega
      gi_wp2_with (gi_at_builtin; refine wpListIn_append_own _ rfl _ _ 44 rfl w.heap.size 82 i0 (.agg #[.slice none 0 0, .int .i64 0]) 2 32 Tryz.underlying44 hi0 hz0 hz1 hz2 rfl (by decide) _ _ _ rfl (hrow.alloc _) ⟨W.heap.size, 0, none⟩ 1 1 [.slice sa xo.length sc, .int .i64 (xk + yk)] rfl rfl (two_cells0 W _ _ _ rfl) (two_one _ _ _ _) (by unfold maxLen; omega) (by omega) (by simp; omega) ?_; intro v' w5 hown' hgrow _; obtain ⟨g', cap', rfl⟩ := ownsRow_succ hown'; obtain ⟨hv1, hv2, hr2, hk2, hb2⟩ := hv.appended (by decide) hrow (by omega) (by omega) hown' hgrow; have hc1 := hv1.cell; have hf1 := hv1.frozen)
      refine ⟨hk2.from _, hb2, ⟨⟨_, hv2, ?_⟩, hB1.trans hb2⟩⟩
      rw [plsL_snoc, flat_one, addTr_pos hz]
      simpa using hr2
  case done =>
    rintro D ys W hD hS ⟨⟨v, hv, hrow, _⟩, hB1⟩ hK
    have hc := hv.cell
    have hpx : plsL ys = xs := by rw [← HX.out, ← hS, List.map_map]; rfl
    have hlx : ys.length = xs.length := by rw [← hpx, plsL_len]
    have hI : ∀ t ∈ xs, Ints W0 w.heap.size w.heap.size t.1 t.2.1 := by
      rw [← hpx]
      intro t ht
      obtain ⟨x, _, rfl⟩ := List.mem_map.1 ht
      unfold addTr
      split
      · exact x.2.2.1
      · exact x.2.1
    obtain ⟨va, vc, rfl⟩ := owns_slice hrow
    have HI : Hid (∀ t ∈ xs, Ints W0 w.heap.size w.heap.size t.1 t.2.1) := hI
    have HRW : Hid (W.ownsRow w.heap.size 82 2 (.slice va ys.length vc) xs.length (flat xs)) := by rw [Hid, ← hpx, plsL_len]; exact hrow
    have HK : Hid (W.heap[D]? = some (.deferred (some []))) := hK
    clear hI hpx hlx hrow hS
    gi_wp2
    refine ⟨by simp, .inl ⟨_, _, rfl, run_takeDeferred HK.out, ?_⟩⟩
    have hbD := belowK_b (w := w) (Nat.le_refl _) W D _ (.deferred none) (by omega) HK.out rfl rfl
    exact ⟨_, results_tmp rfl _ _ _, _, rfl, ownsRow_putObj HRW.out _ HK.out rfl, fun t ht => (HI.out t ht).keep (hB1.trans hbD), (hb0.trans hB1).trans hbD⟩
  case stop =>
    rintro D c pre W _ _ h _
    exact h.elim
end Go.Proofs.YtlndlpjadajelaaGreat
