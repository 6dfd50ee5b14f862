import Derived.Test.YtlndlpjadajelaaGreatQt14
import Derived.Test.YtlndlpjadajelaaGreatQt23
import Derived.Deep.AppendLies
import Derived.Deep.DeepCutAuto
import Derived.Deep.CutRange
import Derived.Test.YtlndlpjadajelaaGreatQt07
namespace Go.Proofs.YtlndlpjadajelaaGreat
open Go.RowKit Go.Proofs.YtlndlpjadajelaaGreat.Ds

/-- what a distribution is that the reference tells -/
def DistR (w : World) (l : List Pt) (er : Int) (e : Ending) (w' : World) : Prop :=
  ∃ v' us, e = .returned (.tuple #[v', .int .i64 er]) ∧ rd us = l ∧ OwnN w' w.heap.size v' us ∧ Below w.heap.size w w' ∧ Frs w.heap.size us
theorem DistR.err {w w' : World} {er : Int} (hb : Below w.heap.size w w') : DistR w [] er (.returned (.tuple #[.slice none 0 0, .int .i64 er])) w' :=
  ⟨_, [], rfl, rfl, .inl ⟨rfl, rfl⟩, hb, Frs.nil _⟩

theorem lim_id {x : Int} (h : x ≤ 1073741824) : lim x = x := if_pos h
/-- the reference's power as it is asked for -/
theorem rpowK_any (x m : Int) (h0 : 0 ≤ m) (hn : m ≤ 4096) (hx : 1 ≤ x) (h : x ≤ 1073741824) (hp : powI x m ≤ 1073741824) (w : World) :
    Calls Tryz.prog 108 #[.int .i64 x, .int .i64 m] w fun e w' => e = .returned (.int .i64 (powI x m)) ∧ w' = w := by
  obtain ⟨n, rfl⟩ := Int.eq_ofNat_of_zero_le h0
  exact rpow_any x n (by omega) hx h _ (lim_id hp) w

theorem two_cells (W : World) (s : Value) (k : Int) (n : Nat) (hn : W.heap.size = n) : ∀ j u, [s, Value.int .i64 k][j]? = some u → (W.alloc (.cells #[s, .int .i64 k] 82)).cell? ((⟨n, 0, none⟩ : Addr).add j) = some u := by
  subst hn
  intro j u hj
  match j, hj with
  | 0, hj => simp at hj; subst hj; simp [go_sem, Addr.add]
  | 1, hj => simp at hj; subst hj; simp [go_sem, Addr.add]

set_option maxHeartbeats 8000000 in
set_option maxRecDepth 100000 in
theorem rhide_main (u d lo n : Int) (R a : Nat) (hR1 : 1 ≤ R) (hR : R ≤ 64) (ha : a ≤ R) (hpl : plcT lo (lo + (R : Int)) n = lo + (a : Int)) (he : lossE u d = 0) (hd : 1 ≤ d) (hdu : d ≤ u) (hu : u ≤ 1073741824) (hm : (u + d) * u ^ R ≤ 1073741824) (hlo : -1073741824 ≤ lo) (hhi : lo + (R : Int) ≤ 1073741824) (l : List Pt) (er : Int) (hr : makeT (hidL u d lo R a) = (l, er)) (w : World) :
    Calls Tryz.prog 54 #[rv u d, .int .i64 lo, .int .i64 (lo + (R : Int)), .int .i64 n] w (DistR w l er) := by
  have kc := rloss_any u d 0 he
  have HM : Hid ((u + d) * u ^ R ≤ 1073741824) := hm
  have HR : Hid (makeT (hidL u d lo R a) = (l, er)) := hr
  have HPL : Hid (plcT lo (lo + (R : Int)) n = lo + (a : Int)) := hpl
  obtain ⟨i0, hi0, hz0, hz1, hz2⟩ := info_parts info32
  have ce' : (lo == lo + (R : Int)) = false := by simp; omega
  obtain ⟨X, hX⟩ : ∃ X, u ^ R = X := ⟨_, rfl⟩
  have hX0 : 1 ≤ X := by rw [← hX]; exact pow_pos' (by omega) R
  have hX2 : X * (u + d) ≤ 1073741824 := by rw [Int.mul_comm, ← hX]; exact hm
  have hX1 : X ≤ 1073741824 := by have := Int.mul_le_mul_of_nonneg_left (show 1 ≤ u + d by omega) (show 0 ≤ X by omega); omega
  have hX3 : 0 ≤ X * (u + d) := by have := Int.mul_le_mul_of_nonneg_left (show 1 ≤ u + d by omega) (show 0 ≤ X by omega); omega
  have hx4 : decide (1073741824 < X) = false := by simp; omega
  have hx5 : decide (1073741824 < X * (u + d)) = false := by simp; omega
  have kp : ∀ (m : Int) (W : World), m = (R : Int) → Calls Tryz.prog 108 #[.int .i64 u, .int .i64 m] W fun e w' => e = .returned (.int .i64 X) ∧ w' = W := fun m W hm => by
    subst hm
    exact rpow_any u R (by omega) (by omega) hu X (by rw [hX, lim_id hX1]) W
  have wA : IntKind.i64.wrap (lo + (R : Int) - lo) = lo + (R : Int) - lo := by rw [IntKind.wrap_i64]; omega
  have wB : IntKind.i64.wrap (u + d) = u + d := by rw [IntKind.wrap_i64]; omega
  have wC : IntKind.i64.wrap (X * (u + d)) = X * (u + d) := by rw [IntKind.wrap_i64]; omega
  clear he hX hr hpl hm
  go_enter Tryz.func54, Tryz.ntmps54
  go_wp2_with fail
  refine (kc _).mono ?_
  rintro e w1 ⟨rfl, hb1⟩
  have G1 := bt (ba _ _) hb1
  obtain ⟨hc1, hf1⟩ := bcell hb1
  have d1 : w1.cell? ⟨w.heap.size, 0, none⟩ = some (.int .i64 u) := by rw [hc1 _ _ (by simp)]; simp [go_sem]
  have d2 : w1.cell? ⟨w.heap.size, 1, none⟩ = some (.int .i64 d) := by rw [hc1 _ _ (by simp)]; simp [go_sem]
  have hz1' : w.heap.size < w1.heap.size := by have := hb1.size; simp at this; omega
  clear hc1 hf1 kc hb1
  go_wp2_with fail
  go_region_held3 (fun w' => w'.cell? ⟨w.heap.size, 0, none⟩ = some (.int .i64 u) ∧ w'.cell? ⟨w.heap.size, 1, none⟩ = some (.int .i64 d))
    ((go_split_ands; refine ⟨?_, ?_⟩ <;> first | assumption | (simp [go_sem, *]; done)))
    ((go_at_call 108; refine (kp _ _ (by omega)).mono ?_; rintro x1 w2 ⟨rfl, rfl⟩))
  obtain ⟨w2, hw2⟩ : ∃ w2, w1.drew = w2 := ⟨_, rfl⟩
  have hb2 : Below w1.heap.size w1 w2 := hw2 ▸ (Below.refl _ _).drew
  rw [hw2]
  have G2 := bt G1 hb2
  have p1 : w2.cell? ⟨w.heap.size, 0, none⟩ = some (.int .i64 u) := (hb2.cell (p := ⟨w.heap.size, 0, none⟩) hz1').trans d1
  have p2 : w2.cell? ⟨w.heap.size, 1, none⟩ = some (.int .i64 d) := (hb2.cell (p := ⟨w.heap.size, 1, none⟩) hz1').trans d2
  have hz2' : w.heap.size < w2.heap.size := by have := hb2.size; omega
  clear hw2 kp wA wB wC hX0 hX1 hX2 hX3 d1 d2 G1 hb2
  go_upto_if 71 with fail
  go_cut [3] (fun nv wx => nv = .int .i64 (max n lo) ∧ w2 = wx)
  case first =>
    by_cases hn : n < lo
    · go_wp2
      go_meet
      case rel => exact ⟨by congr 1; omega, rfl⟩
    · go_wp2
      go_meet
      case rel => exact ⟨by congr 1; omega, rfl⟩
  case rest =>
  obtain ⟨rfl, rfl⟩ := hcut
  go_upto_if 75 with fail
  go_cut [3] (fun nv wx => nv = .int .i64 (lo + (a : Int)) ∧ w2 = wx)
  case first =>
    by_cases hn : lo + (R : Int) < max n lo
    · go_wp2
      go_meet
      case rel => exact ⟨by congr 1; have := HPL.out; unfold plcT at this; omega, rfl⟩
    · go_wp2
      go_meet
      case rel => exact ⟨by congr 1; have := HPL.out; unfold plcT at this; omega, rfl⟩
  case rest =>
  obtain ⟨rfl, rfl⟩ := hcut
  clear HPL
  go_wp2_with fail
  go_loopw [11, 12] (fun pv zv wr => ∃ (i : Nat) (ds : List Tr), zv = .int .i64 (lo + (i : Int)) ∧ i ≤ R + 1 ∧ Hid (rd ds = (hidL u d lo R a).take i ∧ ds.length = i) ∧ Hid (Rws wr w2.heap.size pv ds) ∧ Hid (Frs w.heap.size ds) ∧ Below w2.heap.size w2 wr) (fun _ zv _ => ((lo + (R : Int) + 1) - intOf zv).toNat)
  case atStart => exact ⟨0, [], by simp, Nat.zero_le _, ⟨by simp [rd], rfl⟩, Rws.nil _ _, Frs.nil _, Below.refl _ _⟩
  case round =>
    obtain ⟨i, ds, rfl, hit, HD, HW, HFs, hbl⟩ := hrel
    have hbs := hbl.size
    have hpl := HW.out.lt
    obtain ⟨pa, pc, rfl⟩ := HW.out.slice
    have HDL : Hid (ds.length ≤ 65) := by have := HD.out.2; show ds.length ≤ 65; omega
    have c1 : wr.cell? ⟨w.heap.size, 0, none⟩ = some (.int .i64 u) := (hbl.cell (p := ⟨w.heap.size, 0, none⟩) hz2').trans p1
    have c2 : wr.cell? ⟨w.heap.size, 1, none⟩ = some (.int .i64 d) := (hbl.cell (p := ⟨w.heap.size, 1, none⟩) hz2').trans p2
    by_cases h1 : i ≤ R
    · have k5 : ∀ A B, ((wr.drew.alloc A).alloc B).cell? ⟨w.heap.size, 0, none⟩ = some (.int .i64 u) := fun A B => ((bal (bal (Below.refl wr.heap.size wr).drew A) B).cell (p := ⟨w.heap.size, 0, none⟩) (show w.heap.size < wr.heap.size by omega)).trans c1
      have k6 : ∀ A B, ((wr.drew.alloc A).alloc B).cell? ⟨w.heap.size, 1, none⟩ = some (.int .i64 d) := fun A B => ((bal (bal (Below.refl wr.heap.size wr).drew A) B).cell (p := ⟨w.heap.size, 1, none⟩) (show w.heap.size < wr.heap.size by omega)).trans c2
      have k3 : ∀ A, (wr.drew.alloc A).cell? ⟨w.heap.size, 0, none⟩ = some (.int .i64 u) := fun A => ((bal (Below.refl wr.heap.size wr).drew A).cell (p := ⟨w.heap.size, 0, none⟩) (show w.heap.size < wr.heap.size by omega)).trans c1
      have k4 : ∀ A, (wr.drew.alloc A).cell? ⟨w.heap.size, 1, none⟩ = some (.int .i64 d) := fun A => ((bal (Below.refl wr.heap.size wr).drew A).cell (p := ⟨w.heap.size, 1, none⟩) (show w.heap.size < wr.heap.size by omega)).trans c2
      have HPL2 : Hid (∀ g, (Value.slice pa ds.length pc).ownBlock = some g → w2.heap.size ≤ g) := fun g e => (hpl g e).1
      obtain ⟨mo, hmo, hmg⟩ := own_or3 (n := wr.heap.size) (fun g e => (hpl g e).2) (by omega)
      have HMG : Hid (∀ g, (Value.slice pa ds.length pc).ownBlock = some g → mo = g) := hmg
      have HI : Hid (Ints (wr.drew.alloc (.cells #[.int .i64 (lo + (i : Int))] 3)) (wr.drew.alloc (.cells #[.int .i64 (lo + (i : Int))] 3)).heap.size mo (.slice (some ⟨wr.heap.size, 0, none⟩) 1 1) [lo + (i : Int)]) := by
        have := ints_one wr.drew (lo + (i : Int)) mo (by show mo ≠ wr.heap.size; omega)
        rw [Hid, show (wr.drew.alloc (.cells #[.int .i64 (lo + (i : Int))] 3)).heap.size = wr.drew.heap.size + 1 by simp]
        exact this
      clear hpl hmg HR
      obtain ⟨M, hM⟩ : ∃ M : Int, M = max (lo + (i : Int) - (lo + (a : Int))) (lo + (a : Int) - (lo + (i : Int))) := ⟨_, rfl⟩
      have HMx : Hid (M = max (lo + (i : Int) - (lo + (a : Int))) (lo + (a : Int) - (lo + (i : Int)))) := hM
      have hM0 : 0 ≤ M := by omega
      have hM1 : M = lo + (i : Int) - (lo + (a : Int)) ∨ M = lo + (a : Int) - (lo + (i : Int)) := by omega
      clear hM
      obtain ⟨V, HV⟩ : ∃ V : Int, Hid (V = if i = 0 ∨ i = R then u else u - d) := ⟨_, rfl⟩
      have hV0 : 0 ≤ V := by rw [HV.out]; split <;> omega
      have hV1 : V ≤ 1073741824 := by rw [HV.out]; split <;> omega
      go_upto_if 87 with fail
      go_cut [13] from 78 to 125 (fun kv wx => kv = .int .i64 M ∧ wr = wx)
      case first =>
        by_cases hk : lo + (i : Int) - (lo + (a : Int)) < 0
        · go_wp2
          go_meet
          case rel => exact ⟨by congr 1; have := HMx.out; omega, rfl⟩
        · go_wp2
          go_meet
          case rel => exact ⟨by congr 1; have := HMx.out; omega, rfl⟩
      case rest =>
      obtain ⟨rfl, rfl⟩ := hcut
      clear HMx
      obtain ⟨bz, HBZ⟩ : ∃ bz : Bool, Hid (bz = decide (i = 0 ∨ i = R)) := ⟨_, rfl⟩
      go_upto_region 22 with fail
      go_cut [102] from 78 to 125 (fun cv wx => cv = .bool bz ∧ wr = wx)
      case first =>
        by_cases e1 : i = 0
        · have y1 : (lo + (i : Int) == lo) = true := by simp; omega
          have E1 : Hid (bz = true) := by rw [Hid, HBZ.out]; exact decide_eq_true (.inl e1)
          clear e1
          go_wp2
          go_meet
          case rel => exact ⟨by rw [E1.out], rfl⟩
        · by_cases e2 : i = R
          · have y1 : (lo + (i : Int) == lo) = false := by simp; omega
            have y2 : (lo + (i : Int) == lo + (R : Int)) = true := by simp; omega
            have E1 : Hid (bz = true) := by rw [Hid, HBZ.out]; exact decide_eq_true (.inr e2)
            clear e2
            go_wp2
            go_meet
            case rel => exact ⟨by rw [E1.out], rfl⟩
          · have y1 : (lo + (i : Int) == lo) = false := by simp; omega
            have y2 : (lo + (i : Int) == lo + (R : Int)) = false := by simp; omega
            have E1 : Hid (bz = false) := by rw [Hid, HBZ.out]; exact decide_eq_false (by omega)
            go_wp2
            go_meet
            case rel => exact ⟨by rw [E1.out], rfl⟩
      case rest =>
      obtain ⟨rfl, rfl⟩ := hcut
      go_upto_if 102 with fail
      go_cut [14] from 78 to 125 (fun vv wx => vv = .int .i64 V ∧ wr = wx)
      case first =>
        cases bz with
        | true =>
          have E1 : Hid (V = u) := by rw [Hid, HV.out, if_pos (of_decide_eq_true HBZ.out.symm)]
          clear HBZ
          go_wp2
          go_meet
          case rel => exact ⟨by rw [E1.out], rfl⟩
        | false =>
          have E1 : Hid (V = u - d) := by rw [Hid, HV.out, if_neg (of_decide_eq_false HBZ.out.symm)]
          clear HBZ
          go_wp2
          go_meet
          case rel => exact ⟨by rw [E1.out], rfl⟩
      case rest =>
      obtain ⟨rfl, rfl⟩ := hcut
      have hP1 : 1 ≤ powI d M := pow_pos' hd _
      have hS1 : 1 ≤ powI u (lo + (R : Int) - lo - M) := pow_pos' (by omega) _
      have e1 : gk u d R (i - a + (a - i)) = powI d M * powI u (lo + (R : Int) - lo - M) := by
        unfold gk powI
        rw [show M.toNat = i - a + (a - i) by omega, show (lo + (R : Int) - lo - M).toNat = R - (i - a + (a - i)) by omega]
      have HG : Hid (hwt u d R a i = V * powI d M * powI u (lo + (R : Int) - lo - M)) := by
        show _ = _
        unfold hwt
        rw [← HV.out, e1, Int.mul_comm, Int.mul_assoc]
      have hgk : powI d M * powI u (lo + (R : Int) - lo - M) ≤ 1073741824 := by
        have b1 := gk_anti hd hdu (R := R) (k := 0) (s := i - a + (a - i)) (by omega)
        rw [Nat.zero_add, gk_zero, e1] at b1
        have b2 := pow_pos' (show 1 ≤ u by omega) R
        have b3 := Int.mul_le_mul_of_nonneg_right (show 1 ≤ u + d by omega) (show 0 ≤ u ^ R by omega)
        have := HM.out
        omega
      have hPb : powI d M ≤ 1073741824 := by
        have := Int.mul_le_mul_of_nonneg_left hS1 (show 0 ≤ powI d M by omega); omega
      have hSb : powI u (lo + (R : Int) - lo - M) ≤ 1073741824 := by
        have := Int.mul_le_mul_of_nonneg_right hP1 (show 0 ≤ powI u (lo + (R : Int) - lo - M) by omega); omega
      have hVP0 : 0 ≤ V * powI d M := Int.mul_nonneg hV0 (by omega)
      have hVP1 : V * powI d M ≤ 1073741824 * 1073741824 := Int.mul_le_mul (by omega) hPb (by omega) (by omega)
      have hVS : 0 ≤ V * powI d M * powI u (lo + (R : Int) - lo - M) ∧ V * powI d M * powI u (lo + (R : Int) - lo - M) ≤ 1073741824 := by
        have e1 := hwt_nn hd hdu R a i
        have e2 := hwt_le hd hdu ha hR1 h1
        have := HM.out
        rw [HG.out] at e1 e2
        omega
      have hE1 : M ≤ 4096 := by omega
      have hF0 : 0 ≤ lo + (R : Int) - lo - M := by omega
      have hF1 : lo + (R : Int) - lo - M ≤ 4096 := by omega
      have wE : IntKind.i64.wrap (lo + (R : Int) - lo) = lo + (R : Int) - lo := by rw [IntKind.wrap_i64]; omega
      have wF : IntKind.i64.wrap (lo + (R : Int) - lo - M) = lo + (R : Int) - lo - M := by rw [IntKind.wrap_i64]; omega
      have wP : IntKind.i64.wrap (V * powI d M) = V * powI d M := by rw [IntKind.wrap_i64]; omega
      have wQ : IntKind.i64.wrap (V * powI d M * powI u (lo + (R : Int) - lo - M)) = V * powI d M * powI u (lo + (R : Int) - lo - M) := by rw [IntKind.wrap_i64]; omega
      clear hVS hgk hVP0 hVP1 e1
      go_wp2_with fail
      go_region_held3 (fun w' => w'.cell? ⟨w.heap.size, 0, none⟩ = some (.int .i64 u) ∧ w'.cell? ⟨w.heap.size, 1, none⟩ = some (.int .i64 d))
        ((go_split_ands; refine ⟨?_, ?_⟩ <;> first | assumption | (exact k3 _) | (exact k4 _) | (exact k5 _ _) | (exact k6 _ _) | (simp [go_sem, *]; done)))
        (first
          | (go_at_call 108; refine (rpowK_any _ _ ?_ ?_ ?_ ?_ ?_ _).mono ?_; (assumption); (assumption); (omega); (omega); (assumption); rintro x3 w3 ⟨rfl, rfl⟩)
          | (refine step_append_lies _ rfl _ _ 43 rfl w2.heap.size 82 i0 (.agg #[.slice none 0 0, .int .i64 0]) 2 32 Tryz.underlying43 hi0 hz0 hz1 hz2 rfl (by decide) (.slice pa ds.length pc) ds.length (flat ds) rfl ?_ ⟨wr.heap.size + 1, 0, none⟩ 1 1 [.slice (some ⟨wr.heap.size, 0, none⟩) 1 1, .int .i64 (V * powI d M * powI u (lo + (R : Int) - lo - M))] rfl rfl ?_ ?_ (by decide) ?_ ?_ ?_ (wr.heap.size + 1 + 1) ?_ ?_; (exact (HW.out.keep (bal (bal (Below.refl _ _).drew _) _)).1); (exact two_cells _ _ _ _ (by simp)); (intro u hu; simp at hu; rcases hu with rfl | rfl <;> rfl); (have := HDL.out; simp [maxLen]; omega); (have := HDL.out; omega); (simp; omega); (simp); intro g cap w4 hown hgrow hat hlt; have k7 : w4.cell? ⟨w.heap.size, 0, none⟩ = some (.int .i64 u) := hgrow.cell (k5 _ _) (fun e => absurd (HPL2.out w.heap.size e.symm) (Nat.not_le_of_lt hz2')); have k8 : w4.cell? ⟨w.heap.size, 1, none⟩ = some (.int .i64 d) := hgrow.cell (k6 _ _) (fun e => absurd (HPL2.out w.heap.size e.symm) (Nat.not_le_of_lt hz2'))))
      all_goals
        have hb4 : Below wr.heap.size wr ((wr.drew.alloc (.cells #[.int .i64 (lo + (i : Int))] 3)).alloc (.cells #[.slice (some ⟨wr.heap.size, 0, none⟩) 1 1, .int .i64 (V * powI d M * powI u (lo + (R : Int) - lo - M))] 82)) := bal (bal (Below.refl _ _).drew _) _
        have HR3 : Hid (Rws ((wr.drew.alloc (.cells #[.int .i64 (lo + (i : Int))] 3)).alloc (.cells #[.slice (some ⟨wr.heap.size, 0, none⟩) 1 1, .int .i64 (V * powI d M * powI u (lo + (R : Int) - lo - M))] 82)) w2.heap.size (.slice pa ds.length pc) ds) := HW.out.keep hb4
        have HR4 : Hid (Rws w4 w2.heap.size (.slice (some ⟨g, 0, none⟩) (ds.length + 1) cap) (ds ++ [(.slice (some ⟨wr.heap.size, 0, none⟩) 1 1, [lo + (i : Int)], V * powI d M * powI u (lo + (R : Int) - lo - M))])) :=
          HR3.out.more hown hgrow (hat.imp id fun e => by rw [e]; simp) (HI.out.at2 (ba _ _)) HMG.out
        have HB4 : Hid (Below w2.heap.size w2 w4) := (bt hbl hb4).grown hgrow (by simp; omega) (owns_block HR3.out.1)
        have HD4 : Hid (rd (ds ++ [((.slice (some ⟨wr.heap.size, 0, none⟩) 1 1, [lo + (i : Int)], V * powI d M * powI u (lo + (R : Int) - lo - M)) : Tr)]) = (hidL u d lo R a).take (i + 1) ∧ (ds ++ [((.slice (some ⟨wr.heap.size, 0, none⟩) 1 1, [lo + (i : Int)], V * powI d M * powI u (lo + (R : Int) - lo - M)) : Tr)]).length = i + 1) := by
          refine ⟨?_, by simp [HD.out.2]⟩
          rw [hid_take h1, ← HD.out.1, HG.out]
          simp only [rd, List.map_append, List.map_cons, List.map_nil]
        have HF4 : Hid (Frs w.heap.size (ds ++ [(.slice (some ⟨wr.heap.size, 0, none⟩) 1 1, [lo + (i : Int)], V * powI d M * powI u (lo + (R : Int) - lo - M))])) := by
          intro t ht
          rcases List.mem_append.1 ht with h | h
          · exact HFs.out t h
          · obtain rfl : t = (.slice (some ⟨wr.heap.size, 0, none⟩) 1 1, [lo + (i : Int)], V * powI d M * powI u (lo + (R : Int) - lo - M)) := by simpa using h
            intro _ b o sp n c e
            simp only [Value.slice.injEq, Option.some.injEq, Addr.mk.injEq] at e
            omega
        clear hb4 HR3 hown hgrow hat hlt k7 k8 wE wF wP wQ HW HD
        go_wp2
        go_roundw
        case rel => exact ⟨i + 1, _, by go_num, by omega, HD4, HR4, HF4, HB4.out⟩
        case measure => simp [intOf]; omega
    · have HF : Hid (rd ds = hidL u d lo R a) := by rw [Hid, HD.out.1, hid_all (by omega)]
      have HP2 : Hid (Parts wr wr.heap.size (.slice pa ds.length pc) ds) := HW.out.parts (by have := HDL.out; omega)
      have kc := makeR_fr wr.heap.size (.slice pa ds.length pc) ds wr (Nat.le_refl _) HP2.out l er (by rw [HF.out]; exact HR.out)
      clear HW HD hpl HF HM HR
      go_wp2_with fail
      refine kc.mono ?_
      rintro e w5 ⟨v5, xs, rfl, k1, k2, k3, k4⟩
      obtain ⟨b5, d5, rfl⟩ := k2.slice
      have hzz : w.heap.size ≤ wr.heap.size := by omega
      have HZ : Hid (DistR w l er (.returned (.tuple #[.slice b5 xs.length d5, .int .i64 er])) w5) := ⟨_, xs, rfl, k1, k2.mono hzz, bt (bt G2 hbl) k3, HFs.out.of fun t ht => let ⟨y, h1, h2, h3⟩ := k4 t ht; ⟨y, h1, h2.symm, h3.symm⟩⟩
      clear kc k1 k2 k3 k4
      go_wp2
      exact bodyPost_ret (v := .tuple #[.slice b5 xs.length d5, .int .i64 er]) (by simp [results, Tryz.results54, go_sem]) rfl HZ.out
end Go.Proofs.YtlndlpjadajelaaGreat

namespace Go.Proofs.YtlndlpjadajelaaGreat
open Go.RowKit Go.Proofs.YtlndlpjadajelaaGreat.Ds

set_option maxHeartbeats 1000000 in
theorem wrongR_any (B : Nat) (v : Value) (ts : List Tr) (w : World) (hB : B ≤ w.heap.size) (hp : Parts w B v ts) (er : Int) (hr : (ownT (rd ts)).2 = er) :
    Calls Tryz.prog 110 #[v] w fun e w' => e = .returned (.int .i64 er) ∧ Below w.heap.size w w' := by
  have HP : Hid (Parts w B v ts) := hp
  obtain ⟨a, c, rfl, hc, hl, _⟩ := hp
  obtain ⟨⟨m, e1⟩, hm⟩ : ∃ m, makeT (rd ts) = m := ⟨_, rfl⟩
  have kc := makeR_any B _ ts w hB HP.out m e1 hm
  rw [ownT, hm] at hr
  simp only at hr
  have HR : Hid ((if e1 = 0 then if m = rd ts then (rd ts, 0) else ([], 2) else ([], e1)).2 = er) := hr
  clear hr hm
  go_enter Tryz.func110, Tryz.ntmps110
  go_wp2_with fail
  refine kc.mono ?_
  rintro e w1 ⟨v1, us, rfl, hrd, ho, hb1⟩
  have HO : Hid (OwnN w1 w.heap.size v1 us) := ho
  have HD : Hid (rd us = m) := hrd
  obtain ⟨a1, c1, rfl⟩ := ho.slice
  clear ho hrd kc
  by_cases h0 : e1 = 0
  · subst h0
    have hP1 : Parts w1 w1.heap.size (.slice a ts.length c) ts := (HP.out.at hB hb1).mono (Nat.le_trans hB hb1.size)
    by_cases h2 : m = rd ts
    · have h3 := HR.out
      rw [if_pos rfl, if_pos h2] at h3
      simp only at h3
      subst h3
      have ke := sameR_any w1.heap.size _ _ ts us w1 (Nat.le_refl _) hP1 HO.out.parts true (decide_eq_true (by rw [HD.out, h2]))
      clear h2 hP1
      go_wp2_with fail
      refine ke.mono ?_
      rintro e w2 ⟨rfl, hb2⟩
      clear ke
      go_wp2
      go_ret
      exact ⟨rfl, bt hb1 hb2⟩
    · have h3 := HR.out
      rw [if_pos rfl, if_neg h2] at h3
      simp only at h3
      subst h3
      have ke := sameR_any w1.heap.size _ _ ts us w1 (Nat.le_refl _) hP1 HO.out.parts false (decide_eq_false (by rw [HD.out]; exact fun h => h2 h.symm))
      clear h2 hP1
      go_wp2_with fail
      refine ke.mono ?_
      rintro e w2 ⟨rfl, hb2⟩
      clear ke
      go_wp2
      go_ret
      exact ⟨rfl, bt hb1 hb2⟩
  · have h3 := HR.out
    rw [if_neg h0] at h3
    simp only at h3
    subst h3
    have h0' : (e1 == 0) = false := by simpa using h0
    have h0'' : (e1 != 0) = true := by simpa using h0
    go_wp2
    go_ret
    exact ⟨rfl, hb1⟩

end Go.Proofs.YtlndlpjadajelaaGreat
