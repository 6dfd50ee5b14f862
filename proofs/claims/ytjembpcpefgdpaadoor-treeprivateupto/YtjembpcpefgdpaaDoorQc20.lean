import Derived.Test.YtjembpcpefgdpaaDoorQc19
import Derived.Shelf.Spec.TrailingZeros
import Derived.Ground.Names7Prog
import Derived.Test.YtjembpcpefgdpaaDoorProg
namespace Go.Proofs.YtjembpcpefgdpaaDoor
open Go.RowKit Go.Proofs.YtjembpcpefgdpaaDoor.Ds

set_option maxHeartbeats 1000000 in
theorem sure_fr (B nb : Nat) (v : Value) (xs : List Int) (w : World) (hB : B ≤ w.heap.size) (hp : Ints w B nb v xs) (l : List Pt) (er : Int) (hr : makeT [(xs, 1)] = (l, er)) :
    Calls Tryd.prog 47 #[v] w fun e w' => ∃ v' us, e = .returned (.tuple #[v', .int .i64 er]) ∧ rd us = l ∧ OwnN w' w.heap.size v' us ∧ Below w.heap.size w w' ∧ Frs w.heap.size us := by
  have kc := make_fr (w.heap.size + 1) _ _ _ (by simp) (parts_one w B nb v xs 1 hB hp) l er hr
  obtain ⟨a, c, rfl, hc, hl, _⟩ := hp
  clear hr
  go_enter Tryd.func47, Tryd.ntmps47
  go_wp2_with fail
  refine kc.mono ?_
  rintro e w1 ⟨v1, us, rfl, hrd, ho, hb1, hfr⟩
  have HO : Hid (OwnN w1 w.heap.size v1 us) := ho.mono (by simp)
  have HF : Hid (Frs w.heap.size us) := hfr.mono (by simp)
  have HD : Hid (rd us = l) := hrd
  obtain ⟨a1, c1, rfl⟩ := ho.slice
  clear ho hrd kc hfr
  go_wp2
  exact bodyPost_ret (v := .tuple #[.slice a1 us.length c1, .int .i64 er]) (by simp [results, Tryd.results47, go_sem]) rfl ⟨_, us, rfl, HD.out, HO.out, bt (ba _ _) hb1, HF.out⟩

/-- what a distribution is that is told -/
def DistP (w : World) (l : List Pt) (er : Int) (e : Ending) (w' : World) : Prop :=
  ∃ v' us, e = .returned (.tuple #[v', .int .i64 er]) ∧ rd us = l ∧ OwnN w' w.heap.size v' us ∧ Below w.heap.size w w' ∧ Frs w.heap.size us
theorem DistP.err {w w' : World} {er : Int} (hb : Below w.heap.size w w') : DistP w [] er (.returned (.tuple #[.slice none 0 0, .int .i64 er])) w' :=
  ⟨_, [], rfl, rfl, .inl ⟨rfl, rfl⟩, hb, Frs.nil _⟩

set_option maxHeartbeats 2000000 in
/-- Hide -/
theorem hide_fr (u d lo hi n : Int) (l : List Pt) (er : Int) (hr : hideT u d lo hi n = (l, er)) (w : World) :
    Calls Tryd.prog 30 #[rv u d, .int .i64 lo, .int .i64 hi, .int .i64 n] w (DistP w l er) := by
  obtain ⟨e0, he0⟩ : ∃ e0, lossE u d = e0 := ⟨_, rfl⟩
  have kc := noLoss_any u d e0 he0
  rw [hideT, he0] at hr
  by_cases c : e0 = 0
  · subst c
    obtain ⟨hrt, hdu, hd1, hu1⟩ := loss_ok he0
    rw [if_neg (by simp)] at hr
    by_cases cb : -1073741824 ≤ lo ∧ lo ≤ hi ∧ hi ≤ 1073741824 ∧ hi - lo ≤ 64
    · obtain ⟨b1, b2, b3, b4⟩ := cb
      rw [if_neg (by simp; omega)] at hr
      by_cases ce : lo = hi
      · subst ce
        rw [if_pos rfl] at hr
        have ks := fun W : World => sure_fr (W.heap.size + 1) (W.heap.size + 1) _ [lo] (W.alloc (.cells #[.int .i64 lo] 3)) (by simp) (ints_one W lo (W.heap.size + 1) (by omega)) l er hr
        clear he0 hrt hr
        go_enter Tryd.func30, Tryd.ntmps30
        go_wp2_with fail
        refine (kc _).mono ?_
        rintro e w1 ⟨rfl, hb1⟩
        have G1 := bt (ba _ _) hb1
        obtain ⟨hc1, hf1⟩ := bcell hb1
        go_wp2_with fail
        refine (ks _).mono ?_
        rintro e w2 ⟨v2, us, rfl, k1, k2, k3, k4⟩
        obtain ⟨a2, c2, rfl⟩ := k2.slice
        have hz1 : w.heap.size ≤ w1.heap.size + 1 := by have := G1.size; omega
        have HZ : Hid (DistP w l er (.returned (.tuple #[.slice a2 us.length c2, .int .i64 er])) w2) := ⟨_, us, rfl, k1, k2.mono (by simpa using hz1), bt G1 (bt (ba _ _) k3), k4.mono (by simpa using hz1)⟩
        clear k1 k2 k3 k4 ks
        go_wp2
        exact bodyPost_ret (v := .tuple #[.slice a2 us.length c2, .int .i64 er]) (by simp [results, Tryd.results30, go_sem]) rfl HZ.out
      · rw [if_neg ce] at hr
        obtain ⟨R, hR⟩ : ∃ R : Nat, hi - lo = (R : Int) := ⟨(hi - lo).toNat, by omega⟩
        obtain rfl : hi = lo + (R : Int) := by omega
        obtain ⟨A, hA⟩ : ∃ A : Nat, plcT lo (lo + (R : Int)) n = lo + (A : Int) := ⟨(plcT lo (lo + (R : Int)) n - lo).toNat, by unfold plcT; omega⟩
        have hA2 : A ≤ R := by have : plcT lo (lo + (R : Int)) n ≤ lo + (R : Int) := by unfold plcT; omega
                               omega
        rw [hA, show (lo + (R : Int) - lo).toNat = R by omega, show (lo + (A : Int) - lo).toNat = A by omega] at hr
        have hR1 : 1 ≤ R := by omega
        have HA : Hid (plcT lo (lo + (R : Int)) n = lo + (A : Int)) := hA
        have ki : ∀ W, Calls Tryd.prog 50 #[.int .i64 n, .int .i64 lo, .int .i64 (lo + (R : Int))] W fun e w' => e = .returned (.int .i64 (lo + (A : Int))) ∧ w' = W := fun W => by
          have := into_any n lo (lo + (R : Int)) W
          rw [HA.out] at this
          exact this
        have wE : lo + (R : Int) - lo = (R : Int) := by omega
        have km : ∀ (m : Int) (W : World) (b : Bool), m = (R : Int) → decide (1073741824 < (u + d) * u ^ R) = b → Calls Tryd.prog 48 #[rv u d, .int .i64 m] W fun e w' => e = .returned (.bool b) ∧ Below W.heap.size W w' := fun m W b hm hb => by subst hm; exact much_any u d R (by omega) hd1 hu1 hdu b hR1 hb W
        have ce' : (lo == lo + (R : Int)) = false := by simp; omega
        by_cases cm : 1073741824 < (u + d) * u ^ R
        · rw [if_pos cm] at hr
          simp only [Prod.mk.injEq] at hr
          obtain ⟨rfl, rfl⟩ := hr
          have CM : Hid (decide (1073741824 < (u + d) * u ^ R) = true) := decide_eq_true cm
          clear cm he0 hrt hA hR wE
          go_enter Tryd.func30, Tryd.ntmps30
          go_wp2_with fail
          refine (kc _).mono ?_
          rintro e w1 ⟨rfl, hb1⟩
          have G1 := bt (ba _ _) hb1
          obtain ⟨hc1, hf1⟩ := bcell hb1
          go_wp2_with fail
          refine (km _ _ true (by omega) CM.out).mono ?_
          rintro e w2 ⟨rfl, hb2⟩
          have G2 := bt G1 hb2
          go_wp2
          exact bodyPost_ret (v := .tuple #[.slice none 0 0, .int .i64 4]) (by simp [results, Tryd.results30, go_sem]) rfl (DistP.err G2)
        · rw [if_neg cm] at hr
          have CM : Hid (decide (1073741824 < (u + d) * u ^ R) = false) := decide_eq_false cm
          have kh := hidden_fr u d lo R A hR1 (by omega) hA2 hd1 hdu hu1 (by omega) b1 b3 l er hr
          clear cm he0 hrt hA hR hr wE
          go_enter Tryd.func30, Tryd.ntmps30
          go_wp2_with fail
          refine (kc _).mono ?_
          rintro e w1 ⟨rfl, hb1⟩
          have G1 := bt (ba _ _) hb1
          obtain ⟨hc1, hf1⟩ := bcell hb1
          go_wp2_with fail
          refine (km _ _ false (by omega) CM.out).mono ?_
          rintro e w2 ⟨rfl, hb2⟩
          have G2 := bt G1 hb2
          obtain ⟨hc2, hf2⟩ := bcell hb2
          have hz1 : w.heap.size < w1.heap.size := by have := hb1.size; simp at this; omega
          have d1 : w2.cell? ⟨w.heap.size, 0, none⟩ = some (.int .i64 u) := by rw [hc2 _ _ hz1, hc1 _ _ (by simp)]; simp [go_sem]
          have d2 : w2.cell? ⟨w.heap.size, 1, none⟩ = some (.int .i64 d) := by rw [hc2 _ _ hz1, hc1 _ _ (by simp)]; simp [go_sem]
          have lw : w.heap.size < w2.heap.size := by have := hb2.size; omega
          clear hc1 hf1 hc2 hf2
          go_wp2_with fail
          go_region_held3 (fun w' => w'.cell? ⟨w.heap.size, 0, none⟩ = some (.int .i64 u) ∧ w'.cell? ⟨w.heap.size, 1, none⟩ = some (.int .i64 d))
            ((go_split_ands; refine ⟨?_, ?_⟩ <;> first | assumption | (simp [go_sem, *]; done)))
            (first
              | (go_at_call 50; refine (ki _).mono ?_; rintro x3 w3 ⟨rfl, rfl⟩)
              | (go_at_call 49; refine (kh _).mono ?_; rintro x4 w4 ⟨v4, us, rfl, k1, k2, k3, k4⟩; obtain ⟨a2, c2, hv4⟩ := k2.slice; subst hv4; obtain ⟨hc4, hf4⟩ := bcell k3; have q1 : w4.cell? ⟨w.heap.size, 0, none⟩ = some (.int .i64 u) := (hc4 _ _ lw).trans d1; have q2 : w4.cell? ⟨w.heap.size, 1, none⟩ = some (.int .i64 d) := (hc4 _ _ lw).trans d2; clear hc4 hf4))
          have HZ : Hid (DistP w l er (.returned (.tuple #[.slice a2 us.length c2, .int .i64 er])) w4) := ⟨_, us, rfl, k1, k2.mono G2.size, bt G2 (bt (Below.refl _ _).drew k3), k4.mono G2.size⟩
          clear k1 k2 k3 k4 kh
          go_wp2
          exact bodyPost_ret (v := .tuple #[.slice a2 us.length c2, .int .i64 er]) (by simp [results, Tryd.results30, go_sem]) rfl HZ.out
    · rw [if_pos cb] at hr
      simp only [Prod.mk.injEq] at hr
      obtain ⟨rfl, rfl⟩ := hr
      clear he0 hrt
      by_cases b1 : lo < -1073741824
      · clear cb
        go_enter Tryd.func30, Tryd.ntmps30
        go_wp2_with fail
        refine (kc _).mono ?_
        rintro e w1 ⟨rfl, hb1⟩
        have G1 := bt (ba _ _) hb1
        obtain ⟨hc1, hf1⟩ := bcell hb1
        go_wp2
        exact bodyPost_ret (v := .tuple #[.slice none 0 0, .int .i64 3]) (by simp [results, Tryd.results30, go_sem]) rfl (DistP.err G1)
      · by_cases b2 : hi < lo
        · clear cb
          go_enter Tryd.func30, Tryd.ntmps30
          go_wp2_with fail
          refine (kc _).mono ?_
          rintro e w1 ⟨rfl, hb1⟩
          have G1 := bt (ba _ _) hb1
          obtain ⟨hc1, hf1⟩ := bcell hb1
          go_wp2
          exact bodyPost_ret (v := .tuple #[.slice none 0 0, .int .i64 3]) (by simp [results, Tryd.results30, go_sem]) rfl (DistP.err G1)
        · by_cases b3 : 1073741824 < hi
          · clear cb
            go_enter Tryd.func30, Tryd.ntmps30
            go_wp2_with fail
            refine (kc _).mono ?_
            rintro e w1 ⟨rfl, hb1⟩
            have G1 := bt (ba _ _) hb1
            obtain ⟨hc1, hf1⟩ := bcell hb1
            go_wp2
            exact bodyPost_ret (v := .tuple #[.slice none 0 0, .int .i64 3]) (by simp [results, Tryd.results30, go_sem]) rfl (DistP.err G1)
          · have b4 : 64 < hi - lo := by omega
            clear cb
            go_enter Tryd.func30, Tryd.ntmps30
            go_wp2_with fail
            refine (kc _).mono ?_
            rintro e w1 ⟨rfl, hb1⟩
            have G1 := bt (ba _ _) hb1
            obtain ⟨hc1, hf1⟩ := bcell hb1
            go_wp2
            exact bodyPost_ret (v := .tuple #[.slice none 0 0, .int .i64 3]) (by simp [results, Tryd.results30, go_sem]) rfl (DistP.err G1)
  · rw [if_pos c] at hr
    simp only [Prod.mk.injEq] at hr
    obtain ⟨rfl, rfl⟩ := hr
    have c1 : (e0 == 0) = false := by simpa using c
    have c2 : (e0 != 0) = true := by simpa using c
    clear he0
    go_enter Tryd.func30, Tryd.ntmps30
    go_wp2_with fail
    refine (kc _).mono ?_
    rintro e w1 ⟨rfl, hb1⟩
    have G1 := bt (ba _ _) hb1
    obtain ⟨hc1, hf1⟩ := bcell hb1
    go_wp2
    exact bodyPost_ret (v := .tuple #[.slice none 0 0, .int .i64 e0]) (by simp [results, Tryd.results30, go_sem]) rfl (DistP.err G1)
end Go.Proofs.YtjembpcpefgdpaaDoor

namespace Go.Proofs.YtjembpcpefgdpaaDoor
open Go.RowKit Go.Proofs.YtjembpcpefgdpaaDoor.Ds

/-- a fraction in a cell of one's own -/
def Fc (b : Nat) (n m : Int) (W : World) : Prop :=
  W.cell? ⟨b, 0, none⟩ = some (.int .i64 n) ∧ W.cell? ⟨b, 1, none⟩ = some (.int .i64 m) ∧ W.frozen? ⟨b, 0, none⟩ = false ∧ W.frozen? ⟨b, 1, none⟩ = false
theorem fc_new (w : World) (n m : Int) : Fc w.heap.size n m (w.alloc (.cells #[.int .i64 n, .int .i64 m] 23)) := by
  refine ⟨?_, ?_, ?_, ?_⟩ <;> simp [go_sem]
theorem Fc.at {b : Nat} {n m : Int} {W W' : World} (h : Fc b n m W) (hb : Below W.heap.size W W') (hl : b < W.heap.size) : Fc b n m W' := by
  obtain ⟨h1, h2, h3, h4⟩ := h
  obtain ⟨hc, hf⟩ := bcell hb
  exact ⟨(hc _ 0 hl).trans h1, (hc _ 1 hl).trans h2, (hf _ 0 hl).trans h3, (hf _ 1 hl).trans h4⟩
theorem Fc.set {b : Nat} {n m : Int} {W : World} (h : Fc b n m W) (n' m' : Int) : Fc b n' m' ((W.setCell ⟨b, 0, none⟩ (.int .i64 n')).setCell ⟨b, 1, none⟩ (.int .i64 m')) := by
  obtain ⟨h1, h2, h3, h4⟩ := h
  refine ⟨(sc_other (by simp)).trans (sc_same h1), sc_same (u := .int .i64 m) ((sc_other (by simp)).trans h2), ?_, ?_⟩
  · rw [sc_frozen, sc_frozen]; exact h3
  · rw [sc_frozen, sc_frozen]; exact h4
theorem Fc.beside {b b' : Nat} {n m : Int} {W : World} (h : Fc b n m W) (hne : b ≠ b') (o : Nat) (u : Value) : Fc b n m (W.setCell ⟨b', o, none⟩ u) := by
  obtain ⟨h1, h2, h3, h4⟩ := h
  refine ⟨(sc_other (by simp)).trans h1, (sc_other (by simp)).trans h2, ?_, ?_⟩
  · rw [sc_frozen]; exact h3
  · rw [sc_frozen]; exact h4

theorem hide_alive : hideT 2 1 0 1 0 = ([([0], 2), ([1], 1)], 0) := by decide

end Go.Proofs.YtjembpcpefgdpaaDoor

/-
  DERIVED: THE SHELF's CONTRACTS AT THIS DUMP, IN PLAIN WORDS (tools/lay-plain.mjs out of 'YtjembpcpefgdpaaDoorShelf3.lean', which tools/lay-shelf.mjs wrote): THE SAME DECLARATIONS UNDER THE SAME NAMES: 'import', 'namespace', 'open', 'def', 'theorem' AND NOTHING ELSE: no command of the shelf's: FOR A HAND-IN. Each laying: the table of numbers ('.._ren') and one theorem, a field a fact of the dump's own or the kernel's comparison; each contract: ONE APPLICATION.
-/
namespace Go.Proofs
open Go.Shelf
def Tryd.tz_ren : Go.Shelf.Ren := ⟨fun | 27 => 53 | 28 => 64 | 29 => 65 | n => n, fun | 25 => 92 | 3 => 3 | 27 => 101 | 22 => 85 | 4 => 4 | 53 => 110 | 0 => 0 | 5 => 5 | 54 => 111 | n => n, fun | 0 => 0 | 1 => 1 | n => n⟩
theorem Tryd.tz : Go.Proofs.Lays7.n27 Tryd.prog Tryd.tz_ren := {
  mixed := by kernel_rfl
  f27 := Tryd.func53.trans (congrArg some (by kernel_rfl))
  f28 := Tryd.func64.trans (congrArg some (by kernel_rfl))
  f29 := Tryd.func65.trans (congrArg some (by kernel_rfl))
  t0 := Tryd.underlying0
  a0 := Tryd.isAgg0
  z0 := Tryd.sizeOf0
  v0 := Tryd.zeroValue0
  i0 := by kernel_rfl
  t3 := Tryd.underlying3
  a3 := Tryd.isAgg3
  z3 := Tryd.sizeOf3
  v3 := Tryd.zeroValue3
  i3 := by kernel_rfl
  t4 := Tryd.underlying4
  a4 := Tryd.isAgg4
  z4 := Tryd.sizeOf4
  v4 := Tryd.zeroValue4
  i4 := by kernel_rfl
  t5 := Tryd.underlying5
  a5 := Tryd.isAgg5
  z5 := Tryd.sizeOf5
  v5 := Tryd.zeroValue5
  i5 := by kernel_rfl
  t22 := Tryd.underlying85
  a22 := Tryd.isAgg85
  z22 := Tryd.sizeOf85
  v22 := Tryd.zeroValue85
  i22 := by kernel_rfl
  t25 := Tryd.underlying92
  a25 := Tryd.isAgg92
  z25 := Tryd.sizeOf92
  v25 := Tryd.zeroValue92
  i25 := by kernel_rfl
  t27 := Tryd.underlying101
  a27 := Tryd.isAgg101
  z27 := Tryd.sizeOf101
  v27 := Tryd.zeroValue101
  i27 := by kernel_rfl
  t53 := Tryd.underlying110
  a53 := Tryd.isAgg110
  z53 := Tryd.sizeOf110
  v53 := Tryd.zeroValue110
  i53 := by kernel_rfl
  t54 := Tryd.underlying111
  a54 := Tryd.isAgg111
  z54 := Tryd.sizeOf111
  g0 := by kernel_rfl
  g1 := by kernel_rfl }
end Go.Proofs
