import Derived.Test.YtlndlpjadajelaaGreatQt41
import Derived.Test.YtlndlpjadajelaaGreatQt38
import Derived.Test.YtlndlpjadajelaaGreatQt40
import Derived.Test.YtlndlpjadajelaaGreatQt29
namespace Go.Proofs.YtlndlpjadajelaaGreat.K
open Go.RowKit Go.Proofs.YtlndlpjadajelaaGreat.K.Ds

theorem rec_ne {l : List Col} {k : Int} {c : ByteArray} {lo hi : Int} {wh : List Tst} {x y : Bnd} {e : Int} (h : rec l k c lo hi wh x y = .error e) : e ≠ 0 := by
  unfold rec ifW at h
  repeat' split at h
  all_goals first
    | cases h; done
    | (simp only [Except.error.injEq] at h; omega)
theorem bnd_ne {l : List Col} (q : Qu) : ∀ (lv : Nat) (e : Int), bnd l lv q = .error e → e ≠ 0 := by
  induction q with
  | none => intro lv e h; simp only [bnd] at h; cases h
  | node k c lo hi wh n x y ihx ihy =>
    intro lv e h
    simp only [bnd] at h
    split at h
    · cases h; decide
    · split at h
      · cases h; decide
      · split at h
        · split at h
          · rename_i er hbx
            cases h
            unfold ifK at hbx
            split at hbx
            · exact ihx _ _ hbx
            · cases hbx
          · rename_i bx hbx
            split at h
            · rename_i er hby
              cases h
              unfold ifK at hby
              split at hby
              · exact ihy _ _ hby
              · cases hby
            · rename_i b' hby
              split at h
              · rename_i er hr
                cases h
                exact rec_ne hr
              · unfold lim at h
                split at h
                · cases h
                · cases h; decide
        · cases h; decide
/-- a bound in a block -/
structure T3 (W : World) (A : Nat) (x : Bnd) : Prop where
  c0 : Cl W A 0 (.int .i64 x.1)
  c1 : Cl W A 1 (.int .i64 x.2.1)
  c2 : Cl W A 2 (.int .i64 x.2.2)
theorem T3.at {W W' : World} {A : Nat} {x : Bnd} (h : T3 W A x) (hb : Below W.heap.size W W') : T3 W' A x := ⟨h.c0.at hb, h.c1.at hb, h.c2.at hb⟩
theorem T3.new (W : World) (A : Nat) (hA : A = W.heap.size) (b1 b2 b3 : Int) : T3 (W.alloc (.cells #[.int .i64 b1, .int .i64 b2, .int .i64 b3] 61)) A (b1, b2, b3) := by
  constructor <;> exact Cl.new _ 61 _ _ hA rfl
theorem T3.set {W : World} {A : Nat} {x : Bnd} (h : T3 W A x) (b1 b2 b3 : Int) : T3 (((W.setCell ⟨A, 0, none⟩ (.int .i64 b1)).setCell ⟨A, 1, none⟩ (.int .i64 b2)).setCell ⟨A, 2, none⟩ (.int .i64 b3)) A (b1, b2, b3) := by
  refine ⟨?_, ?_, ?_⟩
  · exact ((h.c0.set _).oth (.inr (by decide)) _).oth (.inr (by decide)) _
  · exact (Cl.set (h.c1.oth (.inr (by decide)) _) _).oth (.inr (by decide)) _
  · exact Cl.set ((h.c2.oth (.inr (by decide)) _).oth (.inr (by decide)) _) _
theorem T3.oth {W : World} {A A' : Nat} {x : Bnd} (h : T3 W A x) (hne : A' ≠ A) (u1 u2 u3 : Value) : T3 (((W.setCell ⟨A', 0, none⟩ u1).setCell ⟨A', 1, none⟩ u2).setCell ⟨A', 2, none⟩ u3) A x :=
  ⟨h.c0.set3 hne _ _ _, h.c1.set3 hne _ _ _, h.c2.set3 hne _ _ _⟩
theorem typV_err {er : Int} {b1 b2 b3 e : Int} (h : typV (.error er) = ((b1, b2, b3), e)) : 0 = b1 ∧ 0 = b2 ∧ 0 = b3 ∧ er = e := by
  simp only [typV, Prod.mk.injEq] at h; exact ⟨h.1.1, h.1.2.1, h.1.2.2, h.2⟩
theorem typV_ok {c1 c2 c3 b1 b2 b3 e : Int} (h : typV (.ok (c1, c2, c3)) = ((b1, b2, b3), e)) : c1 = b1 ∧ c2 = b2 ∧ c3 = b3 ∧ 0 = e := by
  simp only [typV, Prod.mk.injEq] at h; exact ⟨h.1.1, h.1.2.1, h.1.2.2, h.2⟩

set_option maxHeartbeats 4000000 in
set_option maxRecDepth 100000 in
theorem rbound_any (l : List Col) (hs : Szs l) (q : Qu) : ∀ (lev : Nat) (w : World) (B : Nat) (lv v0 v1 v2 v3 v4 v5 : Value) (b1 b2 b3 er : Int), lev ≤ 100 → B ≤ w.heap.size → Cols w B lv l → Qm w B q v0 v1 v2 v3 v4 v5 → typV (bnd l lev q) = ((b1, b2, b3), er) →
    Calls Tryz.prog 79 #[lv, .agg #[v0, v1, v2, v3, v4, v5], .int .i64 (lev : Int)] w fun e w' => e = .returned (.tuple #[.agg #[.int .i64 b1, .int .i64 b2, .int .i64 b3], .int .i64 er]) ∧ Below w.heap.size w w' := by
  induction q with
  | none => intro lev w B lv v0 v1 v2 v3 v4 v5 b1 b2 b3 er _ _ _ h; exact h.elim
  | node k c lo hi wh n x y ihx ihy =>
    rintro lev w B lv _ _ _ _ v4 _ b1 b2 b3 er hlev hB hp ⟨rfl, rfl, rfl, rfl, hc, hw, a, cap, rfl, hn, hm, hk⟩ hr
    obtain ⟨r, hrr⟩ : ∃ r, bnd l lev (.node k c lo hi wh n x y) = r := ⟨_, rfl⟩
    rw [hrr] at hr
    have HV : Hid (typV r = ((b1, b2, b3), er)) := hr
    have HP : Hid (Cols w B lv l) := hp
    have HW : Hid (Tss w B v4 wh) := hw
    have HR : Hid (bnd l lev (.node k c lo hi wh n x y) = r) := hrr
    have HK : Hid (1 ≤ n → n ≤ 2 → ∃ b o, a = some ⟨b, o, none⟩ ∧ b < B ∧ (∃ u0 u1 u2 u3 u4 u5, At6 w b o u0 u1 u2 u3 u4 u5 ∧ Qm w B x u0 u1 u2 u3 u4 u5) ∧
        (2 ≤ n → ∃ u0 u1 u2 u3 u4 u5, At6 w b (o + 6) u0 u1 u2 u3 u4 u5 ∧ Qm w B y u0 u1 u2 u3 u4 u5)) := hk
    obtain ⟨wa, wc, rfl, _⟩ := hw.slice
    obtain ⟨la, lc, rfl, _⟩ := hp.slice
    have HBQ : Hid (Bq ((w.alloc (.cells #[.int .i64 k, .string c, .int .i64 lo, .int .i64 hi, .slice wa wh.length wc, .slice a n cap] 31)).alloc (.cells #[.int .i64 0, .int .i64 0, .int .i64 0] 61)) w.heap.size (.int .i64 k) (.string c) (.int .i64 lo) (.int .i64 hi) (.slice wa wh.length wc) (.slice a n cap)) := Bq.new _ _ _ _ _ _ _
    clear hk hr hp hw hrr
    have hb2 : Below w.heap.size w ((w.alloc (.cells #[.int .i64 k, .string c, .int .i64 lo, .int .i64 hi, .slice wa wh.length wc, .slice a n cap] 31)).alloc (.cells #[.int .i64 0, .int .i64 0, .int .i64 0] 61)) := bal (ba _ _) _
    go_enter Tryz.func79, Tryz.ntmps79
    by_cases h64 : 64 < lev
    · obtain rfl : Except.error 4 = r := by rw [← HR.out, bnd, if_pos h64]
      obtain ⟨rfl, rfl, rfl, rfl⟩ := typV_err HV.out
      have hle : (64 : Int) < (lev : Int) := by omega
      go_wp2
      exact bodyPost_ret (v := .tuple #[.agg #[.int .i64 (0), .int .i64 (0), .int .i64 (0)], .int .i64 (4)]) (by simp [results, Tryz.results79, go_sem]) rfl ⟨rfl, hb2⟩
    have hle : ¬ (64 : Int) < (lev : Int) := by omega
    obtain ⟨kn, hkk⟩ : ∃ kn, kidN k = kn := ⟨_, rfl⟩
    have k1 := fun W => rkids_any k W kn hkk
    go_wp2_with fail
    refine (k1 _).mono ?_
    rintro e w2 ⟨rfl, hw2⟩
    rw [← hw2] at hb2 HBQ
    have hs2 : Hid (w2.heap.size = w.heap.size + 2) := by show _ = _; rw [hw2]; simp
    clear hw2
    have t0 := HBQ.out.a0.c
    have t5 := HBQ.out.a5.c
    have v0 := HBQ.out.e0.c
    have v1 := HBQ.out.e1.c
    have v2 := HBQ.out.e2.c
    have n0 := HBQ.out.e0.f
    have n1 := HBQ.out.e1.f
    have n2 := HBQ.out.e2.f
    by_cases hkn : kn < 0
    · obtain rfl : Except.error 1 = r := by rw [← HR.out, bnd, if_neg h64, if_pos (by rw [hkk]; exact hkn)]
      obtain ⟨rfl, rfl, rfl, rfl⟩ := typV_err HV.out
      go_wp2
      exact bodyPost_ret (v := .tuple #[.agg #[.int .i64 (0), .int .i64 (0), .int .i64 (0)], .int .i64 (1)]) (by simp [results, Tryz.results79, go_sem, v0, v1, v2]) rfl ⟨rfl, bs3 hb2 (Nat.le_succ _) _ _ _⟩
    by_cases hne : (n : Int) = kn
    · subst hne
      have hq : ((n : Int) != (n : Int)) = false := by simp
      clear v0 v1 v2 n0 n1 n2
      go_wp2
      go_region_held3 (fun w' => w'.cell? ⟨w.heap.size, 0, none⟩ = some (.int .i64 k) ∧ w'.cell? ⟨w.heap.size, 5, none⟩ = some (.slice a n cap)) (first | assumption | (simp [go_sem, *]; done)) ((go_at_call 141; refine (k1 _).mono ?_; rintro x3 w3 ⟨rfl, hw3⟩; subst hw3))
      have hb3 : Below w.heap.size w w2.drew := hb2.drew
      have hs3 : Hid (w2.drew.heap.size = w.heap.size + 2) := hs2
      have HBQ3 : Hid (Bq w2.drew w.heap.size (.int .i64 k) (.string c) (.int .i64 lo) (.int .i64 hi) (.slice wa wh.length wc) (.slice a n cap)) := HBQ.out.at (Below.refl _ _).drew
      obtain ⟨w3, hw3⟩ : ∃ w3, w2.drew = w3 := ⟨_, rfl⟩
      rename_i hHeld
      rw [hw3] at hb3 hs3 HBQ3 hHeld ⊢
      clear hw3 HBQ hs2 hb2 t0 t5 hHeld
      have hn2 : n ≤ 2 := by have := hkk; unfold kidN at this; repeat' split at this; all_goals omega
      have HR2 : Hid ((match ifK (1 ≤ n) (bnd l (lev + 1) x) with
        | .error e => .error e
        | .ok bx => match ifK (2 ≤ n) (bnd l (lev + 1) y) with
          | .error e => .error e
          | .ok b' => match rec l k c lo hi wh bx b' with
            | .error e => .error e
            | .ok b => lim b) = r) := by
        have := HR.out
        rwa [bnd, if_neg h64, if_neg (by omega), if_pos hkk.symm] at this
      clear HR
      have HX0 : Hid (T3 ((w3.alloc (.cells #[.int .i64 0, .int .i64 0, .int .i64 0] 61)).alloc (.cells #[.int .i64 0, .int .i64 0, .int .i64 0] 61)) w3.heap.size (0, 0, 0)) := (T3.new _ _ rfl _ _ _).at (ba _ _)
      have HY0 : Hid (T3 ((w3.alloc (.cells #[.int .i64 0, .int .i64 0, .int .i64 0] 61)).alloc (.cells #[.int .i64 0, .int .i64 0, .int .i64 0] 61)) (w3.heap.size + 1) (0, 0, 0)) := T3.new _ _ (by simp) _ _ _
      have HB0 : Hid (Bq ((w3.alloc (.cells #[.int .i64 0, .int .i64 0, .int .i64 0] 61)).alloc (.cells #[.int .i64 0, .int .i64 0, .int .i64 0] 61)) w.heap.size (.int .i64 k) (.string c) (.int .i64 lo) (.int .i64 hi) (.slice wa wh.length wc) (.slice a n cap)) := HBQ3.out.at (bal (ba _ _) _)
      have t5 := HB0.out.a5.c
      have hlv1 : (((lev + 1 : Nat)) : Int) = (lev : Int) + 1 := by omega
      go_wp2
      go_loopw [37] (fun s wr => ∃ (i : Nat) (bx b' : Bnd), s = .int .i64 (i : Int) ∧ i ≤ n ∧ Hid (Bq wr w.heap.size (.int .i64 k) (.string c) (.int .i64 lo) (.int .i64 hi) (.slice wa wh.length wc) (.slice a n cap)) ∧ Hid (T3 wr w3.heap.size bx) ∧ Hid (T3 wr (w3.heap.size + 1) b') ∧ Hid (St l lev x y i bx b') ∧ Below w.heap.size w wr) (fun s _ => n - (intOf s).toNat)
      case atStart => exact ⟨0, (0, 0, 0), (0, 0, 0), rfl, Nat.zero_le _, HB0, HX0, HY0, ⟨fun h => absurd h (by decide), fun _ => rfl, fun h => absurd h (by decide), fun _ => rfl⟩, bt hb3 (bal (ba _ _) _)⟩
      case round =>
        obtain ⟨i, bx, b', rfl, hin, HB, HX, HY, HS, hbr⟩ := hrel
        have hszr := hbr.size
        clear t5
        by_cases h1 : i < n
        · rcases (show i = 0 ∨ i = 1 by omega) with rfl | rfl
          ·
            obtain ⟨b, o, rfl, hbB, ⟨u0, u1, u2, u3, u4, u5, hu, hqm⟩, _⟩ := HK.out (by omega) hn2
            obtain ⟨kk, kc, kl, kh, ka, kn', kd, kb, km, kp, rfl, rfl, rfl, rfl, rfl, rfl⟩ := hqm.shape
            obtain ⟨c0, c1, c2, c3, c4, c5⟩ := hu.keep hbr (Nat.lt_of_lt_of_le hbB hB)
            obtain ⟨r1, hr1⟩ : ∃ r1, bnd l (lev + 1) x = r1 := ⟨_, rfl⟩
            obtain ⟨g1, g2, g3, ge, hg⟩ : ∃ g1 g2 g3 ge, typV r1 = ((g1, g2, g3), ge) := ⟨_, _, _, _, rfl⟩
            have k2 := ihx (lev + 1) (wr.alloc (.cells #[.int .i64 kk, .string kc, .int .i64 kl, .int .i64 kh, .slice ka kn' kd, .slice kb km kp] 31)) B (.slice la l.length lc) _ _ _ _ _ _ g1 g2 g3 ge (by omega) (by simp; omega) ((HP.out.at hB hbr).at (by omega) (ba _ _)) ((hqm.at hB hbr).at (by omega) (ba _ _)) (by rw [hr1]; exact hg)
            rw [hlv1] at k2
            have HR1 : Hid (bnd l (lev + 1) x = r1) := hr1
            have HG : Hid (typV r1 = ((g1, g2, g3), ge)) := hg
            clear hr1 hqm hu hg
            go_wp2_with fail
            refine k2.mono ?_
            rintro e w5 ⟨rfl, hb5⟩
            clear k2
            have hb5' : Below wr.heap.size wr w5 := bt (ba _ _) hb5
            have hb6 : Below wr.heap.size wr (w5.alloc (.cells #[.int .i64 g1, .int .i64 g2, .int .i64 g3] 61)) := bal hb5' _
            have h6n : Hid (T3 (w5.alloc (.cells #[.int .i64 g1, .int .i64 g2, .int .i64 g3] 61)) w5.heap.size (g1, g2, g3)) := T3.new _ _ rfl _ _ _
            have hs5 : Hid (wr.heap.size ≤ w5.heap.size) := hb5'.size
            have hw6s : Hid ((w5.alloc (.cells #[.int .i64 g1, .int .i64 g2, .int .i64 g3] 61)).heap.size = w5.heap.size + 1) := by show _ = _; simp
            have HB6 : Hid (Bq (w5.alloc (.cells #[.int .i64 g1, .int .i64 g2, .int .i64 g3] 61)) w.heap.size (.int .i64 k) (.string c) (.int .i64 lo) (.int .i64 hi) (.slice wa wh.length wc) (.slice (some ⟨b, o, none⟩) n cap)) := HB.out.at hb6
            have HX6 : Hid (T3 (w5.alloc (.cells #[.int .i64 g1, .int .i64 g2, .int .i64 g3] 61)) w3.heap.size bx) := HX.out.at hb6
            have HY6 : Hid (T3 (w5.alloc (.cells #[.int .i64 g1, .int .i64 g2, .int .i64 g3] 61)) (w3.heap.size + 1) b') := HY.out.at hb6
            have hbw6 : Below w.heap.size w (w5.alloc (.cells #[.int .i64 g1, .int .i64 g2, .int .i64 g3] 61)) := bt hbr hb6
            have v0 := HB6.out.e0.c
            have v1 := HB6.out.e1.c
            have v2 := HB6.out.e2.c
            have n0 := HB6.out.e0.f
            have n1 := HB6.out.e1.f
            have n2 := HB6.out.e2.f
            have s0 := HX6.out.c0.c
            have s1 := HX6.out.c1.c
            have s2 := HX6.out.c2.c
            have f0 := HX6.out.c0.f
            have f1 := HX6.out.c1.f
            have f2 := HX6.out.c2.f
            have s3 := HY6.out.c0.c
            have s4 := HY6.out.c1.c
            have s5 := HY6.out.c2.c
            have f3 := HY6.out.c0.f
            have f4 := HY6.out.c1.f
            have f5 := HY6.out.c2.f
            cases r1 with
            | error er =>
              obtain ⟨rfl, rfl, rfl, rfl⟩ := typV_err HG.out
              have hne : (er != 0) = true := by have := bnd_ne x _ _ HR1.out; simpa using this
              have hrr : Except.error er = r := by
                rw [← HR2.out]
                have h1 := HR1.out
                rw [ifK, if_pos (by omega), h1]
              have hv := HV.out
              rw [← hrr] at hv
              obtain ⟨rfl, rfl, rfl, rfl⟩ := typV_err hv
              clear hrr hv
              go_wp2
              exact bodyPost_ret (v := .tuple #[.agg #[.int .i64 (0), .int .i64 (0), .int .i64 (0)], .int .i64 (er)]) (by simp [results, Tryz.results79, go_sem, v0, v1, v2]) rfl ⟨rfl, bs3 hbw6 (Nat.le_succ _) _ _ _⟩
            | ok bq =>
              obtain ⟨j1, j2, j3⟩ := bq
              obtain ⟨rfl, rfl, rfl, rfl⟩ := typV_ok HG.out
              have HS2 : Hid (St l lev x y 1 (j1, j2, j3) b') := ⟨fun _ => HR1.out, fun h => absurd h (by decide), fun h => absurd h (by decide), fun _ => HS.out.2.2.2 (by decide)⟩
              go_wp2
              go_roundw
              case rel => exact ⟨1, (j1, j2, j3), b', rfl, by omega, HB6.out.set3 (by have := hs3.out; omega) (by have := hs3.out; omega) _ _ _, HX6.out.set _ _ _, HY6.out.oth (by omega) _ _ _, HS2, bs3 hbw6 (by have := hs3.out; omega) _ _ _⟩
              case measure => simp [intOf]; omega
          ·
            obtain ⟨b, o, rfl, hbB, _, hk2⟩ := HK.out (by omega) hn2
            obtain ⟨u0, u1, u2, u3, u4, u5, hu, hqm⟩ := hk2 (by omega)
            obtain ⟨kk, kc, kl, kh, ka, kn', kd, kb, km, kp, rfl, rfl, rfl, rfl, rfl, rfl⟩ := hqm.shape
            obtain ⟨c0, c1, c2, c3, c4, c5⟩ := hu.keep hbr (Nat.lt_of_lt_of_le hbB hB)
            obtain ⟨r1, hr1⟩ : ∃ r1, bnd l (lev + 1) y = r1 := ⟨_, rfl⟩
            obtain ⟨g1, g2, g3, ge, hg⟩ : ∃ g1 g2 g3 ge, typV r1 = ((g1, g2, g3), ge) := ⟨_, _, _, _, rfl⟩
            have k2 := ihy (lev + 1) (wr.alloc (.cells #[.int .i64 kk, .string kc, .int .i64 kl, .int .i64 kh, .slice ka kn' kd, .slice kb km kp] 31)) B (.slice la l.length lc) _ _ _ _ _ _ g1 g2 g3 ge (by omega) (by simp; omega) ((HP.out.at hB hbr).at (by omega) (ba _ _)) ((hqm.at hB hbr).at (by omega) (ba _ _)) (by rw [hr1]; exact hg)
            rw [hlv1] at k2
            have HR1 : Hid (bnd l (lev + 1) y = r1) := hr1
            have HG : Hid (typV r1 = ((g1, g2, g3), ge)) := hg
            clear hr1 hqm hu hg
            go_wp2_with fail
            refine k2.mono ?_
            rintro e w5 ⟨rfl, hb5⟩
            clear k2
            have hb5' : Below wr.heap.size wr w5 := bt (ba _ _) hb5
            have hb6 : Below wr.heap.size wr (w5.alloc (.cells #[.int .i64 g1, .int .i64 g2, .int .i64 g3] 61)) := bal hb5' _
            have h6n : Hid (T3 (w5.alloc (.cells #[.int .i64 g1, .int .i64 g2, .int .i64 g3] 61)) w5.heap.size (g1, g2, g3)) := T3.new _ _ rfl _ _ _
            have hs5 : Hid (wr.heap.size ≤ w5.heap.size) := hb5'.size
            have hw6s : Hid ((w5.alloc (.cells #[.int .i64 g1, .int .i64 g2, .int .i64 g3] 61)).heap.size = w5.heap.size + 1) := by show _ = _; simp
            have HB6 : Hid (Bq (w5.alloc (.cells #[.int .i64 g1, .int .i64 g2, .int .i64 g3] 61)) w.heap.size (.int .i64 k) (.string c) (.int .i64 lo) (.int .i64 hi) (.slice wa wh.length wc) (.slice (some ⟨b, o, none⟩) n cap)) := HB.out.at hb6
            have HX6 : Hid (T3 (w5.alloc (.cells #[.int .i64 g1, .int .i64 g2, .int .i64 g3] 61)) w3.heap.size bx) := HX.out.at hb6
            have HY6 : Hid (T3 (w5.alloc (.cells #[.int .i64 g1, .int .i64 g2, .int .i64 g3] 61)) (w3.heap.size + 1) b') := HY.out.at hb6
            have hbw6 : Below w.heap.size w (w5.alloc (.cells #[.int .i64 g1, .int .i64 g2, .int .i64 g3] 61)) := bt hbr hb6
            have v0 := HB6.out.e0.c
            have v1 := HB6.out.e1.c
            have v2 := HB6.out.e2.c
            have n0 := HB6.out.e0.f
            have n1 := HB6.out.e1.f
            have n2 := HB6.out.e2.f
            have s0 := HX6.out.c0.c
            have s1 := HX6.out.c1.c
            have s2 := HX6.out.c2.c
            have f0 := HX6.out.c0.f
            have f1 := HX6.out.c1.f
            have f2 := HX6.out.c2.f
            have s3 := HY6.out.c0.c
            have s4 := HY6.out.c1.c
            have s5 := HY6.out.c2.c
            have f3 := HY6.out.c0.f
            have f4 := HY6.out.c1.f
            have f5 := HY6.out.c2.f
            cases r1 with
            | error er =>
              obtain ⟨rfl, rfl, rfl, rfl⟩ := typV_err HG.out
              have hne : (er != 0) = true := by have := bnd_ne y _ _ HR1.out; simpa using this
              have hrr : Except.error er = r := by
                rw [← HR2.out]
                have h1 := HR1.out
                have h0 := HS.out.1 (by omega)
                rw [ifK, if_pos (by omega), h0]
                dsimp only
                rw [ifK, if_pos (by omega), h1]
              have hv := HV.out
              rw [← hrr] at hv
              obtain ⟨rfl, rfl, rfl, rfl⟩ := typV_err hv
              clear hrr hv
              go_wp2
              exact bodyPost_ret (v := .tuple #[.agg #[.int .i64 (0), .int .i64 (0), .int .i64 (0)], .int .i64 (er)]) (by simp [results, Tryz.results79, go_sem, v0, v1, v2]) rfl ⟨rfl, bs3 hbw6 (Nat.le_succ _) _ _ _⟩
            | ok bq =>
              obtain ⟨j1, j2, j3⟩ := bq
              obtain ⟨rfl, rfl, rfl, rfl⟩ := typV_ok HG.out
              have HS2 : Hid (St l lev x y 2 bx (j1, j2, j3)) := ⟨fun _ => HS.out.1 (by decide), fun h => absurd h (by decide), fun _ => HR1.out, fun h => absurd h (by decide)⟩
              go_wp2
              go_roundw
              case rel => exact ⟨2, bx, (j1, j2, j3), rfl, by omega, HB6.out.set3 (by have := hs3.out; omega) (by have := hs3.out; omega) _ _ _, HX6.out.oth (by omega) _ _ _, HY6.out.set _ _ _, HS2, bs3 hbw6 (by have := hs3.out; omega) _ _ _⟩
              case measure => simp [intOf]; omega
        · obtain rfl : i = n := by omega
          obtain ⟨bdx, bdy⟩ := HS.out.bd hs
          obtain ⟨kx, ky⟩ := HS.out.kx hn2
          obtain ⟨x1, x2, x3⟩ := bx
          obtain ⟨y1, y2, y3⟩ := b'
          have HR3 : Hid ((match rec l k c lo hi wh (x1, x2, x3) (y1, y2, y3) with
            | .error e => .error e
            | .ok b => lim b) = r) := by
            have := HR2.out
            rw [kx] at this
            dsimp only at this
            rw [ky] at this
            exact this
          clear HR2 kx ky HK
          obtain ⟨rr, hrr⟩ : ∃ rr, rec l k c lo hi wh (x1, x2, x3) (y1, y2, y3) = rr := ⟨_, rfl⟩
          have kr := row_any k (by omega) (.slice la l.length lc) c lo hi (.slice wa wh.length wc) (.slice a i cap) (x1, x2, x3) (y1, y2, y3) bdx bdy wr B l wh (by omega) (HP.out.at hB hbr) (HW.out.at hB hbr) rr hrr
          rw [hrr] at HR3
          clear hrr bdx bdy HS
          have m0 := HB.out.a0.c
          have m1 := HB.out.a1.c
          have m2 := HB.out.a2.c
          have m3 := HB.out.a3.c
          have m4 := HB.out.a4.c
          have m5 := HB.out.a5.c
          have q0 := HX.out.c0.c
          have q1 := HX.out.c1.c
          have q2 := HX.out.c2.c
          have q3 := HY.out.c0.c
          have q4 := HY.out.c1.c
          have q5 := HY.out.c2.c
          go_wp2_with fail
          refine kr.mono ?_
          rintro e w6 ⟨d1, d2, d3, de, rfl, hb6, hob⟩
          clear kr m0 m1 m2 m3 m4 m5 q0 q1 q2 q3 q4 q5
          have hb7 : Below wr.heap.size wr (w6.alloc (.cells #[.int .i64 d1, .int .i64 d2, .int .i64 d3] 61)) := bal hb6 _
          have hbw7 : Below w.heap.size w (w6.alloc (.cells #[.int .i64 d1, .int .i64 d2, .int .i64 d3] 61)) := bt hbr hb7
          have HB7 : Hid (Bq (w6.alloc (.cells #[.int .i64 d1, .int .i64 d2, .int .i64 d3] 61)) w.heap.size (.int .i64 k) (.string c) (.int .i64 lo) (.int .i64 hi) (.slice wa wh.length wc) (.slice a i cap)) := HB.out.at hb7
          clear HB HX HY hb6 hb7
          have v0 := HB7.out.e0.c
          have v1 := HB7.out.e1.c
          have v2 := HB7.out.e2.c
          have n0 := HB7.out.e0.f
          have n1 := HB7.out.e1.f
          have n2 := HB7.out.e2.f
          cases rr with
          | error c1 =>
            obtain ⟨rfl, hc1⟩ := hob
            have hrr : Except.error de = r := HR3.out
            have hv := HV.out
            rw [← hrr] at hv
            obtain ⟨rfl, rfl, rfl, rfl⟩ := typV_err hv
            clear hrr hv HR3
            have hn1 : (de != 0) = true := by simpa using hc1
            have hn2' : (de == 0) = false := by simpa using hc1
            go_wp2
            exact bodyPost_ret (v := .tuple #[.agg #[.int .i64 (0), .int .i64 (0), .int .i64 (0)], .int .i64 (de)]) (by simp [results, Tryz.results79, go_sem, v0, v1, v2]) rfl ⟨rfl, bs3 hbw7 (Nat.le_succ _) _ _ _⟩
          | ok bb =>
            obtain ⟨rfl, hbb⟩ := hob
            subst hbb
            have HR4 : Hid (lim (d1, d2, d3) = r) := HR3.out
            clear HR3
            by_cases hl : limB (d1, d2, d3) = true
            · have hrr : Except.ok (d1, d2, d3) = r := by rw [← HR4.out, lim, if_pos hl]
              have hv := HV.out
              rw [← hrr] at hv
              obtain ⟨rfl, rfl, rfl, rfl⟩ := typV_ok hv
              clear hrr hv HR4
              simp only [limB, decide_eq_true_eq] at hl
              obtain ⟨l1, l2, l3⟩ := hl
              have l1' : ¬ 4096 < d1 := by omega
              have l2' : ¬ 1099511627776 < d2 := by omega
              have l3' : ¬ 1099511627776 < d3 := by omega
              have l4' : decide (1099511627776 < d3) = false := decide_eq_false l3'
              go_wp2
              exact bodyPost_ret (v := .tuple #[.agg #[.int .i64 (d1), .int .i64 (d2), .int .i64 (d3)], .int .i64 (0)]) (by simp [results, Tryz.results79, go_sem, v0, v1, v2]) rfl ⟨rfl, bs3 hbw7 (Nat.le_succ _) _ _ _⟩
            · have hrr : Except.error 4 = r := by rw [← HR4.out, lim, if_neg hl]
              have hv := HV.out
              rw [← hrr] at hv
              obtain ⟨rfl, rfl, rfl, rfl⟩ := typV_err hv
              clear hrr hv HR4
              simp only [limB, decide_eq_true_eq] at hl
              by_cases l1 : 4096 < d1
              · go_wp2
                exact bodyPost_ret (v := .tuple #[.agg #[.int .i64 (0), .int .i64 (0), .int .i64 (0)], .int .i64 (4)]) (by simp [results, Tryz.results79, go_sem, v0, v1, v2]) rfl ⟨rfl, bs3 hbw7 (Nat.le_succ _) _ _ _⟩
              · by_cases l2 : 1099511627776 < d2
                · go_wp2
                  exact bodyPost_ret (v := .tuple #[.agg #[.int .i64 (0), .int .i64 (0), .int .i64 (0)], .int .i64 (4)]) (by simp [results, Tryz.results79, go_sem, v0, v1, v2]) rfl ⟨rfl, bs3 hbw7 (Nat.le_succ _) _ _ _⟩
                · have l3 : 1099511627776 < d3 := by omega
                  clear hl
                  go_wp2
                  exact bodyPost_ret (v := .tuple #[.agg #[.int .i64 (0), .int .i64 (0), .int .i64 (0)], .int .i64 (4)]) (by simp [results, Tryz.results79, go_sem, v0, v1, v2]) rfl ⟨rfl, bs3 hbw7 (Nat.le_succ _) _ _ _⟩
    · obtain rfl : Except.error 5 = r := by rw [← HR.out, bnd, if_neg h64, if_neg (by omega), if_neg (by rw [hkk]; exact hne)]
      obtain ⟨rfl, rfl, rfl, rfl⟩ := typV_err HV.out
      have hq : (kn != (n : Int)) = true := by simpa using fun h : kn = (n : Int) => hne h.symm
      go_wp2
      go_region_held3 (fun w' => w'.cell? ⟨w.heap.size, 0, none⟩ = some (.int .i64 k) ∧ w'.cell? ⟨w.heap.size, 5, none⟩ = some (.slice a n cap)) (first | assumption | (simp [go_sem, *]; done)) ((go_at_call 141; refine (k1 _).mono ?_; rintro x3 w3 ⟨rfl, hw3⟩; subst hw3))
      go_wp2
      exact bodyPost_ret (v := .tuple #[.agg #[.int .i64 (0), .int .i64 (0), .int .i64 (0)], .int .i64 (5)]) (by simp [results, Tryz.results79, go_sem, v0, v1, v2]) rfl ⟨rfl, bs3 hb2.drew (Nat.le_succ _) _ _ _⟩
end Go.Proofs.YtlndlpjadajelaaGreat.K

namespace Go.Proofs.YtlndlpjadajelaaGreat.K
open Go.RowKit Go.Proofs.YtlndlpjadajelaaGreat.K.Ds

/-- what Run says -/
def runT (l : List Col) (rs : List (List Int)) (q : Qu) : Except Int (List Int) :=
  if wroE l rs = 0 then (match bnd l 1 q with | .ok _ => .ok (ans l rs q) | .error e => .error e) else .error (wroE l rs)
def RunQ (w : World) : Except Int (List Int) → Ending → World → Prop
  | .ok xs, e, w' => AnsP w xs e w'
  | .error c, e, w' => e = .panicked (chn c) ∧ Below w.heap.size w w'

set_option maxHeartbeats 2000000 in
set_option maxRecDepth 100000 in
theorem run1_any (l : List Col) (ts : List Rw) (q : Qu) (w : World) (B T N : Nat) (cv rv v0 v1 v2 v3 v4 v5 : Value) (r : Except Int (List Int)) (hB : B ≤ w.heap.size) (hp : Cols w B cv l) (hrw : Rws w B rv ts) (hq : Qm w B q v0 v1 v2 v3 v4 v5) (hr : runT l (rr ts) q = r) (hT0 : Cl w T 0 cv) (hT1 : Cl w T 1 rv) (hN : Bx w N v0 v1 v2 v3 v4 v5) :
    Calls Tryz.prog 69 #[.pointer (some ⟨T, 0, none⟩), .pointer (some ⟨N, 0, none⟩)] w (RunQ w r) := by
  have HP : Hid (Cols w B cv l) := hp
  have HRW : Hid (Rws w B rv ts) := hrw
  have HQ : Hid (Qm w B q v0 v1 v2 v3 v4 v5) := hq
  have HR : Hid (runT l (rr ts) q = r) := hr
  obtain ⟨la, lc, rfl, _⟩ := hp.slice
  obtain ⟨ra, rc, rfl, _⟩ := hrw.slice
  obtain ⟨kk, kc, kl, kh, ka, kn', kd, kb, km, kp, rfl, rfl, rfl, rfl, rfl, rfl⟩ := hq.shape
  have HT : Hid (Cl w T 0 (.slice la l.length lc) ∧ Cl w T 1 (.slice ra ts.length rc)) := ⟨hT0, hT1⟩
  have HN : Hid (Bx w N (.int .i64 kk) (.string kc) (.int .i64 kl) (.int .i64 kh) (.slice ka kn' kd) (.slice kb km kp)) := hN
  obtain ⟨ew, hew⟩ : ∃ ew, wroE l (rr ts) = ew := ⟨_, rfl⟩
  have k1 := wrong_any B _ _ l ts w hB hp hrw ew hew
  have HEW : Hid (wroE l (rr ts) = ew) := hew
  have m0 := hT0.c
  have m1 := hT1.c
  clear hp hrw hq hr hT0 hT1 hN hew
  go_enter Tryz.func69, Tryz.ntmps69
  go_wp2_with fail
  refine k1.mono ?_
  rintro e w1 ⟨rfl, hb1⟩
  clear k1 m0 m1
  have hs1 := hb1.size
  by_cases he : ew = 0
  · subst he
    obtain ⟨hce, hle, hok⟩ := wroE_ok HEW.out
    have hsz : Szs l := (colE_ok hce).2.2.1
    obtain ⟨rb, hrb⟩ : ∃ rb, bnd l 1 q = rb := ⟨_, rfl⟩
    have k2 := bound_any l hsz q 1 w1 B (.slice la l.length lc) _ _ _ _ _ _ rb (by decide) (by omega) (HP.out.at hB hb1) (HQ.out.at hB hb1) hrb
    have HRB : Hid (bnd l 1 q = rb) := hrb
    have HHH : Hid (Szs l ∧ ts.length ≤ 4096 ∧ ∀ r ∈ rr ts, RowOk l r) := ⟨hsz, by rw [← rr_len]; exact hle, hok⟩
    clear hrb hsz hce hle hok
    have hT1 := HT.out.1.at hb1
    have hN1 := HN.out.at hb1
    have m0 := hN1.a0.c
    have m1 := hN1.a1.c
    have m2 := hN1.a2.c
    have m3 := hN1.a3.c
    have m4 := hN1.a4.c
    have m5 := hN1.a5.c
    have m6 := hT1.c
    clear hT1 hN1
    go_wp2_with fail
    refine (check_ok w1).mono ?_
    rintro e w2 ⟨rfl, hw2⟩
    subst hw2
    go_wp2_with fail
    refine k2.mono ?_
    rintro e w3 ⟨he, hb3⟩
    clear k2 m0 m1 m2 m3 m4 m5 m6
    have hbw := bt hb1 hb3
    have hs3 := hbw.size
    cases rb with
    | error er =>
      obtain rfl : Except.error er = r := by rw [← HR.out, runT, if_pos HEW.out, HRB.out]
      obtain rfl : e = .panicked (chn er) := he
      go_wp2
      exact ⟨rfl, rfl, hbw⟩
    | ok bb =>
      obtain ⟨xs, hxs⟩ : ∃ xs, ans l (rr ts) q = xs := ⟨_, rfl⟩
      obtain rfl : Except.ok xs = r := by rw [← HR.out, runT, if_pos HEW.out, HRB.out, hxs]
      obtain ⟨b1, b2, b3⟩ := bb
      obtain rfl : e = .returned (.agg #[.int .i64 b1, .int .i64 b2, .int .i64 b3]) := he
      have k3 := answer_any HHH.out.1 HHH.out.2.1 HHH.out.2.2 q 1 w3 B _ _ _ _ _ _ _ _ _ (by omega) (HP.out.at hB hbw) (HRW.out.at hB hbw) (HQ.out.at hB hbw) HRB.out
      have hT1 := HT.out.1.at hbw
      have hT2 := HT.out.2.at hbw
      have hN1 := HN.out.at hbw
      have m0 := hN1.a0.c
      have m1 := hN1.a1.c
      have m2 := hN1.a2.c
      have m3 := hN1.a3.c
      have m4 := hN1.a4.c
      have m5 := hN1.a5.c
      have m6 := hT1.c
      have m7 := hT2.c
      clear hT1 hT2 hN1
      rw [hxs] at k3
      clear hxs HR
      go_wp2_with fail
      refine k3.mono ?_
      rintro e w4 ⟨g, c4, rfl, hA, hb4⟩
      clear k3
      go_wp2
      go_ret
      exact AnsP.up ⟨g, c4, rfl, hA, hb4⟩ hbw
  · obtain rfl : Except.error ew = r := by rw [← HR.out, runT, HEW.out, if_neg he]
    go_wp2_with fail
    refine (check_no ew he w1).mono ?_
    rintro e w2 ⟨rfl, rfl⟩
    go_wp2
    exact ⟨rfl, rfl, hb1⟩

/-- what Run answers -/
def runV : Except Int (List Int) → List Int × Int
  | .error e => ([], e)
  | .ok xs => (xs, 0)
def RunP (w : World) (xs : List Int) (er : Int) (e : Ending) (w' : World) : Prop :=
  ∃ a c, e = .returned (.tuple #[.slice a xs.length c, .int .i64 er]) ∧ Ints w' w'.heap.size w'.heap.size (.slice a xs.length c) xs ∧ Below w.heap.size w w'
set_option maxHeartbeats 1000000 in
set_option maxRecDepth 100000 in
theorem askRun_any (l : List Col) (ts : List Rw) (q : Qu) (w : World) (B : Nat) (cv rv v0 v1 v2 v3 v4 v5 : Value) (xs : List Int) (er : Int) (hB : B ≤ w.heap.size) (hp : Cols w B cv l) (hrw : Rws w B rv ts) (hq : Qm w B q v0 v1 v2 v3 v4 v5) (hr : runV (runT l (rr ts) q) = (xs, er)) :
    Calls Tryz.prog 27 #[.agg #[cv, rv], .agg #[v0, v1, v2, v3, v4, v5]] w (RunP w xs er) := by
  have hb0 : Below w.heap.size w ((w.alloc (.cells #[cv, rv] 27)).alloc (.cells #[v0, v1, v2, v3, v4, v5] 31)) := bal (ba _ _) _
  have hT0 : Cl ((w.alloc (.cells #[cv, rv] 27)).alloc (.cells #[v0, v1, v2, v3, v4, v5] 31)) w.heap.size 0 cv := (Cl.new _ 27 _ _ rfl rfl).at (ba _ _)
  have hT1 : Cl ((w.alloc (.cells #[cv, rv] 27)).alloc (.cells #[v0, v1, v2, v3, v4, v5] 31)) w.heap.size 1 rv := (Cl.new _ 27 _ _ rfl rfl).at (ba _ _)
  have hN : Bx ((w.alloc (.cells #[cv, rv] 27)).alloc (.cells #[v0, v1, v2, v3, v4, v5] 31)) (w.heap.size + 1) v0 v1 v2 v3 v4 v5 := Bx.new _ _ (by simp) _ _ _ _ _ _
  have kc : Calls Tryz.prog 68 #[.func (.func 69) #[] #[.pointer (some ⟨w.heap.size, 0, none⟩), .pointer (some ⟨w.heap.size + 1, 0, none⟩)]] ((w.alloc (.cells #[cv, rv] 27)).alloc (.cells #[v0, v1, v2, v3, v4, v5] 31)) (RunP ((w.alloc (.cells #[cv, rv] 27)).alloc (.cells #[v0, v1, v2, v3, v4, v5] 31)) xs er) := by
    generalize hW : ((w.alloc (.cells #[cv, rv] 27)).alloc (.cells #[v0, v1, v2, v3, v4, v5] 31)) = W at *
    have inner : ∀ r, runT l (rr ts) q = r → ∀ W', Below W.heap.size W W' → W.heap.size + 1 ≤ W'.heap.size → Calls Tryz.prog 69 #[.pointer (some ⟨w.heap.size, 0, none⟩), .pointer (some ⟨w.heap.size + 1, 0, none⟩)] W' (RunQ W' r) := by
      intro r hr W' hW' hs
      have hsz := hb0.size
      exact run1_any l ts q W' B _ _ cv rv v0 v1 v2 v3 v4 v5 r (by omega) ((hp.at hB hb0).at (by omega) hW') ((hrw.at hB hb0).at (by omega) hW') ((hq.at hB hb0).at (by omega) hW') hr (hT0.at hW') (hT1.at hW') (hN.at hW')
    cases ht : runT l (rr ts) q with
    | error e1 =>
      rw [ht] at hr
      simp only [runV, Prod.mk.injEq] at hr
      obtain ⟨rfl, rfl⟩ := hr
      refine (caughtL_no _ e1 W (inner _ ht)).mono ?_
      rintro e w' ⟨rfl, hb⟩
      exact ⟨none, 0, rfl, ⟨none, 0, rfl, Nat.le_refl _, by simp, fun h => absurd rfl h⟩, hb⟩
    | ok ys =>
      rw [ht] at hr
      simp only [runV, Prod.mk.injEq] at hr
      obtain ⟨rfl, rfl⟩ := hr
      refine (caughtL_ok _ (fun V w' => ∃ g c, V = .slice (some ⟨g, 0, none⟩) ys.length c ∧ Arw w' (W.heap.size + 1) g c ys) W fun W' h1 h2 => (inner _ ht W' h1 h2).mono fun e w' h => ?_).mono ?_
      · obtain ⟨g, c, rfl, hA, hb⟩ := h
        exact ⟨_, rfl, ⟨g, c, rfl, hA.mono h2⟩, hb⟩
      · rintro e w' ⟨V, w1, rfl, ⟨g, c, rfl, hA⟩, hb, rfl⟩
        have hg := hA.lt
        have hA2 := hA.oth (b := W.heap.size) (k := 0) (by omega) (.int .i64 0)
        refine ⟨some ⟨g, 0, none⟩, c, rfl, hA2.ints _ (Nat.ne_of_lt hA2.lt.2), bs hb (Nat.le_refl _) _⟩
  obtain ⟨la, lc, rfl, _⟩ := hp.slice
  obtain ⟨ra, rc, rfl, _⟩ := hrw.slice
  obtain ⟨kk, kc', kl, kh, ka, kn', kd, kb, km, kp, rfl, rfl, rfl, rfl, rfl, rfl⟩ := hq.shape
  have hmf := hmf
  clear hp hq hrw hr hT0 hT1 hN
  go_enter Tryz.func27, Tryz.ntmps27
  go_wp2_with fail
  refine kc.mono ?_
  rintro e w1 ⟨a, c, rfl, hI, hb1⟩
  clear kc
  have hbw : Below w.heap.size w w1 := bt hb0 hb1
  go_wp2
  exact bodyPost_ret (v := .tuple #[.slice a xs.length c, .int .i64 er]) (by simp [results, Tryz.results27, go_sem]) rfl ⟨a, c, rfl, hI, hbw⟩
end Go.Proofs.YtlndlpjadajelaaGreat.K
