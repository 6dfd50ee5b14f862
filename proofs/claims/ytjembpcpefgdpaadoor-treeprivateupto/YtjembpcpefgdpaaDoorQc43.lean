import Derived.Test.YtjembpcpefgdpaaDoorQc42
import Derived.Test.YtjembpcpefgdpaaDoorQc25
import Derived.Test.YtjembpcpefgdpaaDoorQc38
namespace Go.Proofs.YtjembpcpefgdpaaDoor
open Go.RowKit Go.Proofs.YtjembpcpefgdpaaDoor.Ds

set_option maxHeartbeats 4000000 in
set_option maxRecDepth 100000 in
/-- the reference's Hide -/
theorem rhide_any (u d lo hi n : Int) (l : List Pt) (er : Int) (hr : hideT u d lo hi n = (l, er)) (w : World) :
    Calls Tryd.prog 18 #[rv u d, .int .i64 lo, .int .i64 hi, .int .i64 n] w (DistR w l er) := by
  obtain ⟨e0, he0⟩ : ∃ e0, lossE u d = e0 := ⟨_, rfl⟩
  have kc := rloss_any u d e0 he0
  rw [hideT, he0] at hr
  by_cases c : e0 = 0
  · subst c
    obtain ⟨hrt, hdu, hd1, hu1⟩ := loss_ok he0
    rw [if_neg (by simp)] at hr
    by_cases cb : -1073741824 ≤ lo ∧ lo ≤ hi ∧ hi ≤ 1073741824 ∧ hi - lo ≤ 64
    · obtain ⟨b1, b2, b3, b4⟩ := cb
      rw [if_neg (by simp; omega)] at hr
      by_cases ce : lo = hi
      · subst ce
        rw [if_pos rfl] at hr
        have ks : ∀ W : World, Calls Tryd.prog 37 #[.slice (some ⟨W.heap.size + 1, 0, none⟩) 1 1] ((W.alloc (.cells #[.int .i64 lo] 3)).alloc (.cells #[.slice (some ⟨W.heap.size, 0, none⟩) 1 1, .int .i64 1] 68)) (fun e w' => ∃ v' us, e = .returned (.tuple #[v', .int .i64 er]) ∧ rd us = l ∧ OwnN w' W.heap.size v' us ∧ Below W.heap.size W w' ∧ Frs W.heap.size us) := fun W => by
          have h1 := parts_one (W.alloc (.cells #[.int .i64 lo] 3)) (W.heap.size + 1) (W.heap.size + 1) _ [lo] 1 (by simp) (ints_one W lo (W.heap.size + 1) (by omega))
          rw [show (W.alloc (.cells #[.int .i64 lo] 3)).heap.size = W.heap.size + 1 by simp] at h1
          refine (makeR_fr (W.heap.size + 1 + 1) _ _ _ (by simp) h1 l er hr).mono fun e w' h2 => ?_
          obtain ⟨v', us, q1, q2, q3, q4, q5⟩ := h2
          refine ⟨v', us, q1, q2, q3.mono (by simp; omega), bt (bal (ba _ _) _) q4, fun t ht _ b o sp n c e => ?_⟩
          obtain ⟨y, h3, h4, _⟩ := q5 t ht
          obtain rfl : y = (.slice (some ⟨W.heap.size, 0, none⟩) 1 1, [lo], 1) := by simpa using h3
          rw [← h4] at e
          simp only [Value.slice.injEq, Option.some.injEq, Addr.mk.injEq] at e
          omega
        clear he0 hrt hr
        go_enter Tryd.func18, Tryd.ntmps18
        go_wp2_with fail
        refine (kc _).mono ?_
        rintro e w1 ⟨rfl, hb1⟩
        have G1 := bt (ba _ _) hb1
        obtain ⟨hc1, hf1⟩ := bcell hb1
        go_wp2_with fail
        refine (ks _).mono ?_
        rintro e w2 ⟨v2, us, rfl, k1, k2, k3, k4⟩
        obtain ⟨a2, c2, rfl⟩ := k2.slice
        have HZ : Hid (DistR w l er (.returned (.tuple #[.slice a2 us.length c2, .int .i64 er])) w2) := ⟨_, us, rfl, k1, k2.mono G1.size, bt G1 k3, k4.mono G1.size⟩
        clear k1 k2 k3 k4 ks
        go_wp2
        exact bodyPost_ret (v := .tuple #[.slice a2 us.length c2, .int .i64 er]) (by simp [results, Tryd.results18, go_sem]) rfl HZ.out
      · rw [if_neg ce] at hr
        obtain ⟨R, hR⟩ : ∃ R : Nat, hi - lo = (R : Int) := ⟨(hi - lo).toNat, by omega⟩
        obtain rfl : hi = lo + (R : Int) := by omega
        obtain ⟨A, hA⟩ : ∃ A : Nat, plcT lo (lo + (R : Int)) n = lo + (A : Int) := ⟨(plcT lo (lo + (R : Int)) n - lo).toNat, by unfold plcT; omega⟩
        have hA2 : A ≤ R := by have : plcT lo (lo + (R : Int)) n ≤ lo + (R : Int) := by unfold plcT; omega
                               omega
        rw [hA, show (lo + (R : Int) - lo).toNat = R by omega, show (lo + (A : Int) - lo).toNat = A by omega] at hr
        by_cases cm : 1073741824 < (u + d) * u ^ R
        · rw [if_pos cm] at hr
          simp only [Prod.mk.injEq] at hr
          obtain ⟨rfl, rfl⟩ := hr
          have ce' : (lo == lo + (R : Int)) = false := by simp; omega
          have wA : IntKind.i64.wrap (lo + (R : Int) - lo) = lo + (R : Int) - lo := by rw [IntKind.wrap_i64]; omega
          have wB : IntKind.i64.wrap (u + d) = u + d := by rw [IntKind.wrap_i64]; omega
          by_cases cx : u ^ R ≤ 1073741824
          · obtain ⟨X, hX⟩ : ∃ X, u ^ R = X := ⟨_, rfl⟩
            rw [hX] at cx cm
            have hX0 : 1 ≤ X := by rw [← hX]; exact pow_pos' (by omega) R
            have hX3 : 0 ≤ X * (u + d) := Int.mul_nonneg (by omega) (by omega)
            have hX4 : X * (u + d) ≤ 1073741824 * 2147483648 := Int.mul_le_mul cx (by omega) (by omega) (by omega)
            rw [Int.mul_comm] at cm
            have hx4 : decide (1073741824 < X) = false := by simp; omega
            have hx5 : decide (1073741824 < X * (u + d)) = true := by simpa using cm
            have wC : IntKind.i64.wrap (X * (u + d)) = X * (u + d) := by rw [IntKind.wrap_i64]; omega
            have kp : ∀ (m : Int) (W : World), m = (R : Int) → Calls Tryd.prog 38 #[.int .i64 u, .int .i64 m] W fun e w' => e = .returned (.int .i64 X) ∧ w' = W := fun m W hm => by
              subst hm
              exact rpow_any u R (by omega) (by omega) hu1 X (by rw [hX, lim_id cx]) W
            clear he0 hrt hA hR hX
            go_enter Tryd.func18, Tryd.ntmps18
            go_wp2_with fail
            refine (kc _).mono ?_
            rintro e w1 ⟨rfl, hb1⟩
            have G1 := bt (ba _ _) hb1
            obtain ⟨hc1, hf1⟩ := bcell hb1
            have d1 : w1.cell? ⟨w.heap.size, 0, none⟩ = some (.int .i64 u) := by rw [hc1 _ _ (by simp)]; simp [go_sem]
            have d2 : w1.cell? ⟨w.heap.size, 1, none⟩ = some (.int .i64 d) := by rw [hc1 _ _ (by simp)]; simp [go_sem]
            clear hc1 hf1 kc hb1
            go_wp2_with fail
            go_region_held3 (fun w' => w'.cell? ⟨w.heap.size, 0, none⟩ = some (.int .i64 u) ∧ w'.cell? ⟨w.heap.size, 1, none⟩ = some (.int .i64 d))
              ((go_split_ands; refine ⟨?_, ?_⟩ <;> first | assumption | (simp [go_sem, *]; done)))
              ((go_at_call 38; refine (kp _ _ (by omega)).mono ?_; rintro x1 w2 ⟨rfl, rfl⟩))
            have G2 := bt G1 (Below.refl w1.heap.size w1).drew
            go_wp2
            exact bodyPost_ret (v := .tuple #[.slice none 0 0, .int .i64 4]) (by simp [results, Tryd.results18, go_sem]) rfl (DistR.err G2)
          · obtain ⟨X, hX⟩ : ∃ X : Int, 1073741825 = X := ⟨_, rfl⟩
            have kp : ∀ (m : Int) (W : World), m = (R : Int) → Calls Tryd.prog 38 #[.int .i64 u, .int .i64 m] W fun e w' => e = .returned (.int .i64 X) ∧ w' = W := fun m W hm => by
              subst hm
              exact rpow_any u R (by omega) (by omega) hu1 X (by rw [← hX]; exact if_neg cx) W
            have hX0 : 1 ≤ X := by omega
            have hX1 : X ≤ 1073741825 := by omega
            have hX3 : 0 ≤ X * (u + d) := Int.mul_nonneg (by omega) (by omega)
            have hX4 : X * (u + d) ≤ 1073741825 * 2147483648 := Int.mul_le_mul hX1 (by omega) (by omega) (by omega)
            have hx4 : 1073741824 < X := by omega
            have wC : IntKind.i64.wrap (X * (u + d)) = X * (u + d) := by rw [IntKind.wrap_i64]; omega
            clear he0 hrt hA hR cx cm hX
            go_enter Tryd.func18, Tryd.ntmps18
            go_wp2_with fail
            refine (kc _).mono ?_
            rintro e w1 ⟨rfl, hb1⟩
            have G1 := bt (ba _ _) hb1
            obtain ⟨hc1, hf1⟩ := bcell hb1
            have d1 : w1.cell? ⟨w.heap.size, 0, none⟩ = some (.int .i64 u) := by rw [hc1 _ _ (by simp)]; simp [go_sem]
            have d2 : w1.cell? ⟨w.heap.size, 1, none⟩ = some (.int .i64 d) := by rw [hc1 _ _ (by simp)]; simp [go_sem]
            clear hc1 hf1 kc hb1
            go_wp2_with fail
            go_quiet ((go_at_call 38; refine Calls.quiet_of_same (kp _ _ (by omega))))
            go_wp2
            exact bodyPost_ret (v := .tuple #[.slice none 0 0, .int .i64 4]) (by simp [results, Tryd.results18, go_sem]) rfl (DistR.err (below_drewN G1 _))
        · rw [if_neg cm] at hr
          exact rhide_main u d lo n R A (by omega) (by omega) hA2 hA he0 hd1 hdu hu1 (by omega) b1 b3 l er hr w
    · rw [if_pos cb] at hr
      simp only [Prod.mk.injEq] at hr
      obtain ⟨rfl, rfl⟩ := hr
      clear he0 hrt
      by_cases b1 : lo < -1073741824
      · clear cb
        go_enter Tryd.func18, Tryd.ntmps18
        go_wp2_with fail
        refine (kc _).mono ?_
        rintro e w1 ⟨rfl, hb1⟩
        have G1 := bt (ba _ _) hb1
        obtain ⟨hc1, hf1⟩ := bcell hb1
        go_wp2
        exact bodyPost_ret (v := .tuple #[.slice none 0 0, .int .i64 3]) (by simp [results, Tryd.results18, go_sem]) rfl (DistR.err G1)
      · by_cases b2 : 1073741824 < hi
        · clear cb
          go_enter Tryd.func18, Tryd.ntmps18
          go_wp2_with fail
          refine (kc _).mono ?_
          rintro e w1 ⟨rfl, hb1⟩
          have G1 := bt (ba _ _) hb1
          obtain ⟨hc1, hf1⟩ := bcell hb1
          go_wp2
          exact bodyPost_ret (v := .tuple #[.slice none 0 0, .int .i64 3]) (by simp [results, Tryd.results18, go_sem]) rfl (DistR.err G1)
        · by_cases b3 : hi < lo
          · clear cb
            go_enter Tryd.func18, Tryd.ntmps18
            go_wp2_with fail
            refine (kc _).mono ?_
            rintro e w1 ⟨rfl, hb1⟩
            have G1 := bt (ba _ _) hb1
            obtain ⟨hc1, hf1⟩ := bcell hb1
            go_wp2
            exact bodyPost_ret (v := .tuple #[.slice none 0 0, .int .i64 3]) (by simp [results, Tryd.results18, go_sem]) rfl (DistR.err G1)
          · have b4 : lo + 64 < hi := by omega
            clear cb
            go_enter Tryd.func18, Tryd.ntmps18
            go_wp2_with fail
            refine (kc _).mono ?_
            rintro e w1 ⟨rfl, hb1⟩
            have G1 := bt (ba _ _) hb1
            obtain ⟨hc1, hf1⟩ := bcell hb1
            go_wp2
            exact bodyPost_ret (v := .tuple #[.slice none 0 0, .int .i64 3]) (by simp [results, Tryd.results18, go_sem]) rfl (DistR.err G1)
  · rw [if_pos c] at hr
    simp only [Prod.mk.injEq] at hr
    obtain ⟨rfl, rfl⟩ := hr
    have c1 : (e0 == 0) = false := by simpa using c
    have c2 : (e0 != 0) = true := by simpa using c
    clear he0
    go_enter Tryd.func18, Tryd.ntmps18
    go_wp2_with fail
    refine (kc _).mono ?_
    rintro e w1 ⟨rfl, hb1⟩
    have G1 := bt (ba _ _) hb1
    obtain ⟨hc1, hf1⟩ := bcell hb1
    go_wp2
    exact bodyPost_ret (v := .tuple #[.slice none 0 0, .int .i64 e0]) (by simp [results, Tryd.results18, go_sem]) rfl (DistR.err G1)
end Go.Proofs.YtjembpcpefgdpaaDoor

namespace Go.Proofs.YtjembpcpefgdpaaDoor
open Go.RowKit Go.Proofs.YtjembpcpefgdpaaDoor.Ds

def HidsR (w : World) (l : List (List Pt)) (er : Int) (e : Ending) (w' : World) : Prop :=
  ∃ v zs, e = .returned (.tuple #[v, .int .i64 er]) ∧ rds zs = l ∧ DssA w' w.heap.size v zs ∧ Below w.heap.size w w'
theorem dss_nil (w : World) : Dss w w.heap.size (.slice none 0 0) [] := ⟨none, 0, rfl, Nat.le_refl _, by simp, by simp, fun h => absurd rfl h⟩
/-- as far as one has looked they are the same -/
theorem rds_len (zs : List Dz) : (rds zs).length = zs.length := by simp [rds]
theorem rds_get {zs : List Dz} {i : Nat} {z : Dz} (h : zs[i]? = some z) : (rds zs)[i]? = some (rd z.2) := by simp [rds, h]
theorem pfx_step {α : Type} {x y : List α} {i : Nat} {a : α} (h : x.take i = y.take i) (hx : x[i]? = some a) (hy : y[i]? = some a) : x.take (i + 1) = y.take (i + 1) := by
  rw [List.take_add_one, List.take_add_one, h, hx, hy]

set_option maxHeartbeats 2000000 in
/-- SameDists -/
theorem sameDists_any (B : Nat) (u v : Value) (zs ys : List Dz) (w : World) (hB : B ≤ w.heap.size) (hp : Dss w B u zs) (hq : Dss w B v ys) (hl1 : zs.length ≤ 1048576) (_hl2 : ys.length ≤ 1048576) (hr : rds zs = rds ys) :
    Calls Tryd.prog 8 #[u, v] w fun e w' => e = .returned (.bool true) ∧ Below w.heap.size w w' := by
  have HP : Hid (Dss w B u zs) := hp
  have HQ : Hid (Dss w B v ys) := hq
  have HR : Hid (rds zs = rds ys) := hr
  have hlen : zs.length = ys.length := by have := congrArg List.length hr; rwa [rds_len, rds_len] at this
  obtain ⟨a, c, rfl, hc, _⟩ := hp
  obtain ⟨a', c', rfl, hc', _⟩ := hq
  have hle : ((zs.length : Int) != (ys.length : Int)) = false := by simp [hlen]
  have HL : Hid (zs.length = ys.length) := hlen
  clear hr hlen
  go_enter Tryd.func8, Tryd.ntmps8
  go_wp2
  go_loopw [5, 13] (fun _ s wr => ∃ i : Nat, s = .int .i64 (i : Int) ∧ i ≤ zs.length ∧ Below w.heap.size w wr) (fun _ s _ => zs.length - (intOf s).toNat)
  case atStart => exact ⟨0, rfl, Nat.zero_le _, Below.refl _ _⟩
  case round =>
    obtain ⟨i, rfl, hit, hbl⟩ := hrel
    have hbs := hbl.size
    by_cases h1 : i < zs.length
    · have h2 : i < ys.length := by have := HL.out; omega
      obtain ⟨b, o, sa, sc, xs, rfl, hb, hs, c1, hI⟩ := HP.out.get hB hbl h1
      obtain ⟨b2, o2, sa2, sc2, xs2, rfl, hb2, hs2, c2, hI2⟩ := HQ.out.get hB hbl h2
      have he : rd xs = rd xs2 := by
        have e1 := rds_get hs
        have e2 := rds_get hs2
        rw [HR.out, e2] at e1
        simpa using e1.symm
      have ks := sameR_any B _ _ xs xs2 wr.drew (by show B ≤ wr.heap.size; omega) (hI.at (by omega) (Below.refl _ _).drew) (hI2.at (by omega) (Below.refl _ _).drew) true (by simp [he])
      have g1 : (0 : Int) ≤ (i : Int) := by omega
      have g2 : (i : Int) < (zs.length : Int) := by omega
      have g3 : (i : Int) < (ys.length : Int) := by omega
      have lw1 : b < wr.heap.size := by omega
      have lw2 : b2 < wr.heap.size := by omega
      clear hs hs2 hI hI2 he
      go_wp2_with fail
      go_region_held3 (fun w' => w'.cell? ⟨b, o + i, none⟩ = some (.slice sa xs.length sc) ∧ w'.cell? ⟨b2, o2 + i, none⟩ = some (.slice sa2 xs2.length sc2))
        ((go_split_ands; refine ⟨?_, ?_⟩ <;> first | assumption | (simp [go_sem, *]; done)))
        ((go_at_call 20; refine ks.mono ?_; rintro x3 w3 ⟨rfl, hb3⟩; obtain ⟨hc3, hf3⟩ := bcell hb3; have q1 : w3.cell? ⟨b, o + i, none⟩ = some (.slice sa xs.length sc) := (hc3 _ _ lw1).trans c1; have q2 : w3.cell? ⟨b2, o2 + i, none⟩ = some (.slice sa2 xs2.length sc2) := (hc3 _ _ lw2).trans c2; clear hc3 hf3))
      have HB3 : Hid (Below w.heap.size w w3) := bt hbl (bt (Below.refl _ _).drew hb3)
      clear hb3 ks
      go_wp2
      go_roundw
      case rel => exact ⟨i + 1, by go_num, h1, HB3.out⟩
      case measure => simp [intOf]; omega
    · go_wp2
      go_ret
      exact ⟨rfl, hbl⟩
end Go.Proofs.YtjembpcpefgdpaaDoor
