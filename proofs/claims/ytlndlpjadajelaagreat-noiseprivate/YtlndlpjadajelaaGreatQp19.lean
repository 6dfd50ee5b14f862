import Derived.Test.YtlndlpjadajelaaGreatQp18
import Derived.Test.YtlndlpjadajelaaGreatQp16
namespace Go.Proofs.YtlndlpjadajelaaGreat
open Go.RowKit Go.Proofs.YtlndlpjadajelaaGreat.Ds

set_option maxHeartbeats 1000000 in
theorem sure_fr (B nb : Nat) (v : Value) (xs : List Int) (w : World) (hB : B ≤ w.heap.size) (hp : Ints w B nb v xs) (l : List Pt) (er : Int) (hr : makeT [(xs, 1)] = (l, er)) :
    Calls Tryz.prog 81 #[v] w fun e w' => ∃ v' us, e = .returned (.tuple #[v', .int .i64 er]) ∧ rd us = l ∧ OwnN w' w.heap.size v' us ∧ Below w.heap.size w w' ∧ Frs w.heap.size us := by
  have kc := make_fr (w.heap.size + 1) _ _ _ (by simp) (parts_one w B nb v xs 1 hB hp) l er hr
  obtain ⟨a, c, rfl, hc, hl, _⟩ := hp
  clear hr
  go_enter Tryz.func81, Tryz.ntmps81
  go_wp2_with fail
  refine kc.mono ?_
  rintro e w1 ⟨v1, us, rfl, hrd, ho, hb1, hfr⟩
  have HO : Hid (OwnN w1 w.heap.size v1 us) := ho.mono (by simp)
  have HF : Hid (Frs w.heap.size us) := hfr.mono (by simp)
  have HD : Hid (rd us = l) := hrd
  obtain ⟨a1, c1, rfl⟩ := ho.slice
  clear ho hrd kc hfr
  go_wp2
  exact bodyPost_ret (v := .tuple #[.slice a1 us.length c1, .int .i64 er]) (by simp [results, Tryz.results81, go_sem]) rfl ⟨_, us, rfl, HD.out, HO.out, bt (ba _ _) hb1, HF.out⟩

/-- what a distribution is that is told -/
def DistP (w : World) (l : List Pt) (er : Int) (e : Ending) (w' : World) : Prop :=
  ∃ v' us, e = .returned (.tuple #[v', .int .i64 er]) ∧ rd us = l ∧ OwnN w' w.heap.size v' us ∧ Below w.heap.size w w' ∧ Frs w.heap.size us
theorem DistP.err {w w' : World} {er : Int} (hb : Below w.heap.size w w') : DistP w [] er (.returned (.tuple #[.slice none 0 0, .int .i64 er])) w' :=
  ⟨_, [], rfl, rfl, .inl ⟨rfl, rfl⟩, hb, Frs.nil _⟩

set_option maxHeartbeats 2000000 in
/-- Hide -/
theorem hide_fr (u d lo hi n : Int) (l : List Pt) (er : Int) (hr : hideT u d lo hi n = (l, er)) (w : World) :
    Calls Tryz.prog 34 #[rv u d, .int .i64 lo, .int .i64 hi, .int .i64 n] w (DistP w l er) := by
  obtain ⟨e0, he0⟩ : ∃ e0, lossE u d = e0 := ⟨_, rfl⟩
  have kc := noLoss_any u d e0 he0
  rw [hideT, he0] at hr
  by_cases c : e0 = 0
  · subst c
    obtain ⟨hrt, hdu, hd1, hu1⟩ := loss_ok he0
    rw [if_neg (by simp)] at hr
    by_cases cb : -1073741824 ≤ lo ∧ lo ≤ hi ∧ hi ≤ 1073741824 ∧ hi - lo ≤ 64
    · obtain ⟨b1, b2, b3, b4⟩ := cb
      rw [if_neg (by simp; omega)] at hr
      by_cases ce : lo = hi
      · subst ce
        rw [if_pos rfl] at hr
        have ks := fun W : World => sure_fr (W.heap.size + 1) (W.heap.size + 1) _ [lo] (W.alloc (.cells #[.int .i64 lo] 3)) (by simp) (ints_one W lo (W.heap.size + 1) (by omega)) l er hr
        clear he0 hrt hr
        go_enter Tryz.func34, Tryz.ntmps34
        go_wp2_with fail
        refine (kc _).mono ?_
        rintro e w1 ⟨rfl, hb1⟩
        have G1 := bt (ba _ _) hb1
        obtain ⟨hc1, hf1⟩ := bcell hb1
        go_wp2_with fail
        refine (ks _).mono ?_
        rintro e w2 ⟨v2, us, rfl, k1, k2, k3, k4⟩
        obtain ⟨a2, c2, rfl⟩ := k2.slice
        have hz1 : w.heap.size ≤ w1.heap.size + 1 := by have := G1.size; omega
        have HZ : Hid (DistP w l er (.returned (.tuple #[.slice a2 us.length c2, .int .i64 er])) w2) := ⟨_, us, rfl, k1, k2.mono (by simpa using hz1), bt G1 (bt (ba _ _) k3), k4.mono (by simpa using hz1)⟩
        clear k1 k2 k3 k4 ks
        go_wp2
        exact bodyPost_ret (v := .tuple #[.slice a2 us.length c2, .int .i64 er]) (by simp [results, Tryz.results34, go_sem]) rfl HZ.out
      · rw [if_neg ce] at hr
        obtain ⟨R, hR⟩ : ∃ R : Nat, hi - lo = (R : Int) := ⟨(hi - lo).toNat, by omega⟩
        obtain rfl : hi = lo + (R : Int) := by omega
        obtain ⟨A, hA⟩ : ∃ A : Nat, plcT lo (lo + (R : Int)) n = lo + (A : Int) := ⟨(plcT lo (lo + (R : Int)) n - lo).toNat, by unfold plcT; omega⟩
        have hA2 : A ≤ R := by have : plcT lo (lo + (R : Int)) n ≤ lo + (R : Int) := by unfold plcT; omega
                               omega
        rw [hA, show (lo + (R : Int) - lo).toNat = R by omega, show (lo + (A : Int) - lo).toNat = A by omega] at hr
        have hR1 : 1 ≤ R := by omega
        have HA : Hid (plcT lo (lo + (R : Int)) n = lo + (A : Int)) := hA
        have ki : ∀ W, Calls Tryz.prog 74 #[.int .i64 n, .int .i64 lo, .int .i64 (lo + (R : Int))] W fun e w' => e = .returned (.int .i64 (lo + (A : Int))) ∧ w' = W := fun W => by
          have := into_any n lo (lo + (R : Int)) W
          rw [HA.out] at this
          exact this
        have wE : lo + (R : Int) - lo = (R : Int) := by omega
        have km : ∀ (m : Int) (W : World) (b : Bool), m = (R : Int) → decide (1073741824 < (u + d) * u ^ R) = b → Calls Tryz.prog 82 #[rv u d, .int .i64 m] W fun e w' => e = .returned (.bool b) ∧ Below W.heap.size W w' := fun m W b hm hb => by subst hm; exact much_any u d R (by omega) hd1 hu1 hdu b hR1 hb W
        have ce' : (lo == lo + (R : Int)) = false := by simp; omega
        by_cases cm : 1073741824 < (u + d) * u ^ R
        · rw [if_pos cm] at hr
          simp only [Prod.mk.injEq] at hr
          obtain ⟨rfl, rfl⟩ := hr
          have CM : Hid (decide (1073741824 < (u + d) * u ^ R) = true) := decide_eq_true cm
          clear cm he0 hrt hA hR wE
          go_enter Tryz.func34, Tryz.ntmps34
          go_wp2_with fail
          refine (kc _).mono ?_
          rintro e w1 ⟨rfl, hb1⟩
          have G1 := bt (ba _ _) hb1
          obtain ⟨hc1, hf1⟩ := bcell hb1
          go_wp2_with fail
          refine (km _ _ true (by omega) CM.out).mono ?_
          rintro e w2 ⟨rfl, hb2⟩
          have G2 := bt G1 hb2
          go_wp2
          exact bodyPost_ret (v := .tuple #[.slice none 0 0, .int .i64 4]) (by simp [results, Tryz.results34, go_sem]) rfl (DistP.err G2)
        · rw [if_neg cm] at hr
          have CM : Hid (decide (1073741824 < (u + d) * u ^ R) = false) := decide_eq_false cm
          have kh := hidden_fr u d lo R A hR1 (by omega) hA2 hd1 hdu hu1 (by omega) b1 b3 l er hr
          clear cm he0 hrt hA hR hr wE
          go_enter Tryz.func34, Tryz.ntmps34
          go_wp2_with fail
          refine (kc _).mono ?_
          rintro e w1 ⟨rfl, hb1⟩
          have G1 := bt (ba _ _) hb1
          obtain ⟨hc1, hf1⟩ := bcell hb1
          go_wp2_with fail
          refine (km _ _ false (by omega) CM.out).mono ?_
          rintro e w2 ⟨rfl, hb2⟩
          have G2 := bt G1 hb2
          obtain ⟨hc2, hf2⟩ := bcell hb2
          have hz1 : w.heap.size < w1.heap.size := by have := hb1.size; simp at this; omega
          have d1 : w2.cell? ⟨w.heap.size, 0, none⟩ = some (.int .i64 u) := by rw [hc2 _ _ hz1, hc1 _ _ (by simp)]; simp [go_sem]
          have d2 : w2.cell? ⟨w.heap.size, 1, none⟩ = some (.int .i64 d) := by rw [hc2 _ _ hz1, hc1 _ _ (by simp)]; simp [go_sem]
          have lw : w.heap.size < w2.heap.size := by have := hb2.size; omega
          clear hc1 hf1 hc2 hf2
          go_wp2_with fail
          go_region_held3 (fun w' => w'.cell? ⟨w.heap.size, 0, none⟩ = some (.int .i64 u) ∧ w'.cell? ⟨w.heap.size, 1, none⟩ = some (.int .i64 d))
            ((go_split_ands; refine ⟨?_, ?_⟩ <;> first | assumption | (simp [go_sem, *]; done)))
            (first
              | (go_at_call 74; refine (ki _).mono ?_; rintro x3 w3 ⟨rfl, rfl⟩)
              | (go_at_call 83; refine (kh _).mono ?_; rintro x4 w4 ⟨v4, us, rfl, k1, k2, k3, k4⟩; obtain ⟨a2, c2, hv4⟩ := k2.slice; subst hv4; obtain ⟨hc4, hf4⟩ := bcell k3; have q1 : w4.cell? ⟨w.heap.size, 0, none⟩ = some (.int .i64 u) := (hc4 _ _ lw).trans d1; have q2 : w4.cell? ⟨w.heap.size, 1, none⟩ = some (.int .i64 d) := (hc4 _ _ lw).trans d2; clear hc4 hf4))
          have HZ : Hid (DistP w l er (.returned (.tuple #[.slice a2 us.length c2, .int .i64 er])) w4) := ⟨_, us, rfl, k1, k2.mono G2.size, bt G2 (bt (Below.refl _ _).drew k3), k4.mono G2.size⟩
          clear k1 k2 k3 k4 kh
          go_wp2
          exact bodyPost_ret (v := .tuple #[.slice a2 us.length c2, .int .i64 er]) (by simp [results, Tryz.results34, go_sem]) rfl HZ.out
    · rw [if_pos cb] at hr
      simp only [Prod.mk.injEq] at hr
      obtain ⟨rfl, rfl⟩ := hr
      clear he0 hrt
      by_cases b1 : lo < -1073741824
      · clear cb
        go_enter Tryz.func34, Tryz.ntmps34
        go_wp2_with fail
        refine (kc _).mono ?_
        rintro e w1 ⟨rfl, hb1⟩
        have G1 := bt (ba _ _) hb1
        obtain ⟨hc1, hf1⟩ := bcell hb1
        go_wp2
        exact bodyPost_ret (v := .tuple #[.slice none 0 0, .int .i64 3]) (by simp [results, Tryz.results34, go_sem]) rfl (DistP.err G1)
      · by_cases b2 : hi < lo
        · clear cb
          go_enter Tryz.func34, Tryz.ntmps34
          go_wp2_with fail
          refine (kc _).mono ?_
          rintro e w1 ⟨rfl, hb1⟩
          have G1 := bt (ba _ _) hb1
          obtain ⟨hc1, hf1⟩ := bcell hb1
          go_wp2
          exact bodyPost_ret (v := .tuple #[.slice none 0 0, .int .i64 3]) (by simp [results, Tryz.results34, go_sem]) rfl (DistP.err G1)
        · by_cases b3 : 1073741824 < hi
          · clear cb
            go_enter Tryz.func34, Tryz.ntmps34
            go_wp2_with fail
            refine (kc _).mono ?_
            rintro e w1 ⟨rfl, hb1⟩
            have G1 := bt (ba _ _) hb1
            obtain ⟨hc1, hf1⟩ := bcell hb1
            go_wp2
            exact bodyPost_ret (v := .tuple #[.slice none 0 0, .int .i64 3]) (by simp [results, Tryz.results34, go_sem]) rfl (DistP.err G1)
          · have b4 : 64 < hi - lo := by omega
            clear cb
            go_enter Tryz.func34, Tryz.ntmps34
            go_wp2_with fail
            refine (kc _).mono ?_
            rintro e w1 ⟨rfl, hb1⟩
            have G1 := bt (ba _ _) hb1
            obtain ⟨hc1, hf1⟩ := bcell hb1
            go_wp2
            exact bodyPost_ret (v := .tuple #[.slice none 0 0, .int .i64 3]) (by simp [results, Tryz.results34, go_sem]) rfl (DistP.err G1)
  · rw [if_pos c] at hr
    simp only [Prod.mk.injEq] at hr
    obtain ⟨rfl, rfl⟩ := hr
    have c1 : (e0 == 0) = false := by simpa using c
    have c2 : (e0 != 0) = true := by simpa using c
    clear he0
    go_enter Tryz.func34, Tryz.ntmps34
    go_wp2_with fail
    refine (kc _).mono ?_
    rintro e w1 ⟨rfl, hb1⟩
    have G1 := bt (ba _ _) hb1
    obtain ⟨hc1, hf1⟩ := bcell hb1
    go_wp2
    exact bodyPost_ret (v := .tuple #[.slice none 0 0, .int .i64 e0]) (by simp [results, Tryz.results34, go_sem]) rfl (DistP.err G1)
end Go.Proofs.YtlndlpjadajelaaGreat

namespace Go.Proofs.YtlndlpjadajelaaGreat
open Go.RowKit Go.Proofs.YtlndlpjadajelaaGreat.Ds

/-- a fraction in a cell of one's own -/
def Fc (b : Nat) (n m : Int) (W : World) : Prop :=
  W.cell? ⟨b, 0, none⟩ = some (.int .i64 n) ∧ W.cell? ⟨b, 1, none⟩ = some (.int .i64 m) ∧ W.frozen? ⟨b, 0, none⟩ = false ∧ W.frozen? ⟨b, 1, none⟩ = false
theorem fc_new (w : World) (n m : Int) : Fc w.heap.size n m (w.alloc (.cells #[.int .i64 n, .int .i64 m] 23)) := by
  refine ⟨?_, ?_, ?_, ?_⟩ <;> simp [go_sem]
theorem Fc.at {b : Nat} {n m : Int} {W W' : World} (h : Fc b n m W) (hb : Below W.heap.size W W') (hl : b < W.heap.size) : Fc b n m W' := by
  obtain ⟨h1, h2, h3, h4⟩ := h
  obtain ⟨hc, hf⟩ := bcell hb
  exact ⟨(hc _ 0 hl).trans h1, (hc _ 1 hl).trans h2, (hf _ 0 hl).trans h3, (hf _ 1 hl).trans h4⟩
theorem Fc.set {b : Nat} {n m : Int} {W : World} (h : Fc b n m W) (n' m' : Int) : Fc b n' m' ((W.setCell ⟨b, 0, none⟩ (.int .i64 n')).setCell ⟨b, 1, none⟩ (.int .i64 m')) := by
  obtain ⟨h1, h2, h3, h4⟩ := h
  refine ⟨(sc_other (by simp)).trans (sc_same h1), sc_same (u := .int .i64 m) ((sc_other (by simp)).trans h2), ?_, ?_⟩
  · rw [sc_frozen, sc_frozen]; exact h3
  · rw [sc_frozen, sc_frozen]; exact h4
theorem Fc.beside {b b' : Nat} {n m : Int} {W : World} (h : Fc b n m W) (hne : b ≠ b') (o : Nat) (u : Value) : Fc b n m (W.setCell ⟨b', o, none⟩ u) := by
  obtain ⟨h1, h2, h3, h4⟩ := h
  refine ⟨(sc_other (by simp)).trans h1, (sc_other (by simp)).trans h2, ?_, ?_⟩
  · rw [sc_frozen]; exact h3
  · rw [sc_frozen]; exact h4

theorem hide_alive : hideT 2 1 0 1 0 = ([([0], 2), ([1], 1)], 0) := by decide

theorem alive_any (w : World) : Calls Tryz.prog 11 #[] w fun x w' => x = .returned (.bool true) ∧ Below w.heap.size w w' := by
  have kc := hide_fr 2 1 0 1 0 _ 0 hide_alive
  go_enter Tryz.func11, Tryz.ntmps11
  go_wp2_with fail
  refine (kc _).mono ?_
  rintro x w1 ⟨v, us, rfl, hr, ho, hb, _⟩
  clear kc
  obtain ⟨a, c, rfl⟩ := ho.slice
  have hl : us.length = 2 := by have := congrArg List.length hr; simpa [rd] using this
  have hbw : Below w.heap.size w w1 := hb
  rw [hl]
  clear hr ho hl
  go_wp2
  go_ret
  exact ⟨rfl, hbw⟩
end Go.Proofs.YtlndlpjadajelaaGreat

namespace Go.Proofs.YtlndlpjadajelaaGreat
open Go.RowKit Go.Proofs.YtlndlpjadajelaaGreat.Ds

set_option maxHeartbeats 1000000 in
theorem makeR_any (B : Nat) (v : Value) (ts : List Tr) (w : World) (hB : B ≤ w.heap.size) (hp : Parts w B v ts) (l : List Pt) (er : Int) (hr : makeT (rd ts) = (l, er)) :
    Calls Tryz.prog 109 #[v] w fun e w' => ∃ v' us, e = .returned (.tuple #[v', .int .i64 er]) ∧ rd us = l ∧ OwnN w' w.heap.size v' us ∧ Below w.heap.size w w' := by
  have HP : Hid (Parts w B v ts) := hp
  obtain ⟨a, c, rfl, hc, hl, _⟩ := hp
  have HR : Hid (makeT (rd ts) = (l, er)) := hr
  clear hr
  go_enter Tryz.func109, Tryz.ntmps109
  go_wp2
  go_loopw [8] (fun s wr => ∃ i : Nat, s = .int .i64 (i : Int) ∧ i ≤ ts.length ∧ ((rd ts).take i).all okP = true ∧ Below w.heap.size w wr) (fun s _ => ts.length - (intOf s).toNat)
  case atStart => exact ⟨0, rfl, Nat.zero_le _, by simp, Below.refl _ _⟩
  case round =>
    obtain ⟨i, rfl, hix, hall, hbl⟩ := hrel
    have HA : Hid (((rd ts).take i).all okP = true) := hall
    clear hall
    by_cases h1 : i < ts.length
    · obtain ⟨b, o, sa, sc, xs, k, rfl, hb, hs, c1, c2, hI⟩ := HP.out.get hB hbl h1
      have HZ : Hid ((rd ts)[i]? = some (xs, k)) := rd_get hs
      have HI : Hid (Ints wr B B (.slice sa xs.length sc) xs) := hI
      have hs1 := hbl.size
      clear hs hI
      have bad : okP (xs, k) = false → Hid (l = [] ∧ er = 3) := by
        intro h
        have h2 := HR.out
        rw [makeT, all_false HZ.out h] at h2
        simp only [Bool.false_eq_true, if_false, Prod.mk.injEq] at h2
        exact ⟨h2.1.symm, h2.2.symm⟩
      obtain ⟨r0, HO⟩ : ∃ r0, Hid (okO xs = r0) := ⟨_, rfl⟩
      have ks := fun W h => small_any B B (.slice sa xs.length sc) xs W h r0 HO.out
      cases r0 with
      | false =>
        obtain ⟨rfl, rfl⟩ := (bad (by unfold okP; rw [show okO (xs, k).1 = false from HO.out, Bool.and_false])).out
        clear bad
        go_wp2_with (go_at_call 170; refine (ks _ ?_).mono ?_; (exact HI.out.at (by omega) (ba _ _)); rintro e w1 ⟨rfl, rfl⟩)
        exact bodyPost_ret (v := .tuple #[.slice none 0 0, .int .i64 3]) (by simp [results, Tryz.results109, go_sem]) rfl ⟨_, [], rfl, rfl, .inl ⟨rfl, rfl⟩, bal hbl _⟩
      | true =>
        by_cases hk1 : k < 0
        · obtain ⟨rfl, rfl⟩ := (bad (by unfold okP; rw [show decide (0 ≤ (xs, k).2 ∧ (xs, k).2 ≤ 1073741824) = false from decide_eq_false (by simp; omega), Bool.false_and])).out
          clear bad
          go_wp2_with (go_at_call 170; refine (ks _ ?_).mono ?_; (exact HI.out.at (by omega) (ba _ _)); rintro e w1 ⟨rfl, rfl⟩)
          exact bodyPost_ret (v := .tuple #[.slice none 0 0, .int .i64 3]) (by simp [results, Tryz.results109, go_sem]) rfl ⟨_, [], rfl, rfl, .inl ⟨rfl, rfl⟩, bal hbl _⟩
        · by_cases hk2 : 1073741824 < k
          · obtain ⟨rfl, rfl⟩ := (bad (by unfold okP; rw [show decide (0 ≤ (xs, k).2 ∧ (xs, k).2 ≤ 1073741824) = false from decide_eq_false (by simp; omega), Bool.false_and])).out
            clear bad
            go_wp2_with (go_at_call 170; refine (ks _ ?_).mono ?_; (exact HI.out.at (by omega) (ba _ _)); rintro e w1 ⟨rfl, rfl⟩)
            exact bodyPost_ret (v := .tuple #[.slice none 0 0, .int .i64 3]) (by simp [results, Tryz.results109, go_sem]) rfl ⟨_, [], rfl, rfl, .inl ⟨rfl, rfl⟩, bal hbl _⟩
          · have HN : Hid (((rd ts).take (i + 1)).all okP = true) := by
              rw [Hid, all_take HZ.out, HA.out]
              unfold okP
              rw [show okO (xs, k).1 = true from HO.out, show decide (0 ≤ (xs, k).2 ∧ (xs, k).2 ≤ 1073741824) = true from decide_eq_true (by simp; omega)]
              rfl
            clear bad
            go_wp2_with (go_at_call 170; refine (ks _ ?_).mono ?_; (exact HI.out.at (by omega) (ba _ _)); rintro e w1 ⟨rfl, rfl⟩)
            go_roundw
            case rel => exact ⟨i + 1, by go_num, h1, HN.out, bal hbl _⟩
            case measure => simp [intOf]; omega
    · have hA : (rd ts).all okP = true := by have := HA.out; rwa [rd_take_all (by omega)] at this
      have h2 := HR.out
      rw [makeT, hA] at h2
      simp only [if_true] at h2
      have kt := tidy_any B _ ts wr (Nat.le_trans hB hbl.size) (HP.out.at hB hbl) (all_okP hA).1 (tot_ok hA (by rw [rd_len]; exact hl)) l er h2
      have hs1 := hbl.size
      clear hA h2
      go_wp2_with fail
      refine kt.mono ?_
      rintro e w3 ⟨v3, us3, rfl, hrd3, ho3, hb3⟩
      obtain ⟨a3, c3, rfl⟩ := ho3.slice
      have HO3 : Hid (OwnN w3 w.heap.size (.slice a3 us3.length c3) us3) := ho3.mono hs1
      have HR3 : Hid (rd us3 = l) := hrd3
      clear ho3 hrd3 kt
      go_wp2
      exact bodyPost_ret (v := .tuple #[.slice a3 us3.length c3, .int .i64 er]) (by simp [results, Tryz.results109, go_sem]) rfl ⟨_, us3, rfl, HR3.out, HO3.out, bt hbl hb3⟩

set_option maxHeartbeats 1000000 in
theorem sameR_any (B : Nat) (u v : Value) (ts us : List Tr) (w : World) (hB : B ≤ w.heap.size) (hp : Parts w B u ts) (hq : Parts w B v us) (r : Bool) (hr : decide (rd ts = rd us) = r) :
    Calls Tryz.prog 22 #[u, v] w fun e w' => e = .returned (.bool r) ∧ Below w.heap.size w w' := by
  have HP : Hid (Parts w B u ts) := hp
  have HQ : Hid (Parts w B v us) := hq
  have HR : Hid (decide (rd ts = rd us) = r) := hr
  obtain ⟨a, c, rfl, hc, hl, _⟩ := hp
  obtain ⟨a2, c2, rfl, hc2, hl2, _⟩ := hq
  clear hr
  by_cases hlen : ts.length = us.length
  · have hle : (((ts.length : Int)) == (us.length : Int)) = true := by simp [hlen]
    have hle2 : (((ts.length : Int)) != (us.length : Int)) = false := by simp [hlen]
    have HLN : Hid (ts.length = us.length) := hlen
    clear hlen
    go_enter Tryz.func22, Tryz.ntmps22
    go_wp2
    go_loopw [13] (fun s wr => ∃ i : Nat, s = .int .i64 (i : Int) ∧ i ≤ ts.length ∧ (rd ts).take i = (rd us).take i ∧ Below w.heap.size w wr) (fun s _ => ts.length - (intOf s).toNat)
    case atStart => exact ⟨0, rfl, Nat.zero_le _, by simp, Below.refl _ _⟩
    case round =>
      obtain ⟨i, rfl, hit, htk, hbl⟩ := hrel
      have HT : Hid ((rd ts).take i = (rd us).take i) := htk
      clear htk
      by_cases h1 : i < ts.length
      · obtain ⟨b, o, sa, sc, xs, k, rfl, hb, hs, c1, c2', hI⟩ := HP.out.get hB hbl h1
        obtain ⟨b2, o2, sa2, sc2, xs2, k2, rfl, hb2, hs2, d1, d2, hI2⟩ := HQ.out.get hB hbl (i := i) (by have := HLN.out; omega)
        have HS : Hid ((rd ts)[i]? = some (xs, k)) := rd_get hs
        have HS2 : Hid ((rd us)[i]? = some (xs2, k2)) := rd_get hs2
        have HI : Hid (Ints wr B B (.slice sa xs.length sc) xs) := hI
        have HI2 : Hid (Ints wr B B (.slice sa2 xs2.length sc2) xs2) := hI2
        have hs1 := hbl.size
        have z0 : (0 : Int) ≤ (i : Int) := by omega
        have z1 : (i : Int) < (us.length : Int) := by have := HLN.out; omega
        have z2 : (i : Int) < (ts.length : Int) := by omega
        obtain ⟨r1, HC⟩ : ∃ r1, Hid (cmpT xs xs2 = r1) := ⟨_, rfl⟩
        clear hs hs2 hI hI2
        by_cases hk : k = k2
        · subst hk
          have hkk : (k != k) = false := by simp
          have hdd : decide (k = k) = true := decide_eq_true rfl
          by_cases he : r1 = 0
          · have hx : Hid (xs2 = xs) := ((cmpT_zero _ _).1 (HC.out.trans he)).symm
            subst he
            go_wp2_with fail
            go_quiet ((go_at_call 58; refine Calls.quiet_of (refCompare_any B B B _ _ xs xs2 _ ?_ ?_ 0 HC.out); exact HI.out.keep (below_drewN (Below.refl _ _) _); exact HI2.out.keep (below_drewN (Below.refl _ _) _)))
            go_wp2
            go_roundw
            case rel => exact ⟨i + 1, by go_num, h1, take_next HT.out HS.out (by rw [HS2.out, hx.out]), below_drewN hbl _⟩
            case measure => simp [intOf]; omega
          · have he' : (r1 != 0) = true := by simpa using he
            have hr1 : r = false := by
              rw [← HR.out]
              refine decide_eq_false fun h => he ?_
              have h2 := HS.out
              rw [h, HS2.out] at h2
              simp only [Option.some.injEq, Prod.mk.injEq] at h2
              rw [← HC.out, h2.1]; exact cmpT_self _
            subst hr1
            go_wp2_with fail
            go_quiet ((go_at_call 58; refine Calls.quiet_of (refCompare_any B B B _ _ xs xs2 _ ?_ ?_ r1 HC.out); exact HI.out.keep (below_drewN (Below.refl _ _) _); exact HI2.out.keep (below_drewN (Below.refl _ _) _)))
            go_wp2
            go_ret
            exact ⟨rfl, below_drewN hbl _⟩
        · have hkk : (k != k2) = true := by simpa using hk
          have hdd : decide (k = k2) = false := decide_eq_false hk
          have hr1 : r = false := by
            rw [← HR.out]
            refine decide_eq_false fun h => hk ?_
            have h2 := HS.out
            rw [h, HS2.out] at h2
            simp only [Option.some.injEq, Prod.mk.injEq] at h2
            exact h2.2.symm
          subst hr1
          go_wp2_with fail
          go_quiet (fail)
          go_wp2
          go_ret
          exact ⟨rfl, below_drewN hbl _⟩
      · have hr1 : r = true := by
          rw [← HR.out]
          refine decide_eq_true ?_
          have := HT.out
          rwa [rd_take_all (by omega), rd_take_all (by have := HLN.out; omega)] at this
        subst hr1
        go_wp2
        go_ret
        exact ⟨rfl, hbl⟩
  · have hle : (((ts.length : Int)) == (us.length : Int)) = false := by simp; omega
    have hle2 : (((ts.length : Int)) != (us.length : Int)) = true := by simp; omega
    have hr1 : r = false := by
      rw [← HR.out]
      refine decide_eq_false fun h => hlen ?_
      rw [← rd_len, h, rd_len]
    subst hr1
    go_enter Tryz.func22, Tryz.ntmps22
    go_wp2
    go_ret
    exact ⟨rfl, Below.refl _ _⟩

end Go.Proofs.YtlndlpjadajelaaGreat
