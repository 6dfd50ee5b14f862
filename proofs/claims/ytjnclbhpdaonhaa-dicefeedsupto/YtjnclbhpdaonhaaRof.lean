import Derived.Test.YtjnclbhpdaonhaaRol
import Derived.Laws.Bits
import Derived.Deep.RegionWith
namespace Go.Proofs.Ytjnclbhpdaonhaa
open Go.RowKit Go.Proofs.Ytjnclbhpdaonhaa.Ds

/-- WHAT A ROLLER's Feed ANSWERS -/
def RofP (E : Nat) (v : Value) (l : List Pt) (T nd u pl b : Int) (w : World) (e : Ending) (w' : World) : Prop :=
  w.grownBy w' (some E) ∧
    ((e = .returned (.tuple #[noD, .bool false]) ∧ (lvT T pl l)[(2 * nd + b).toNat]? = none ∧ Rob w' E v T (2 * nd + b - (lvT T pl l).length) (u + 1) (2 * pl % T)) ∨
     (∃ a c o, e = .returned (.tuple #[.agg #[.slice a (o : List Int).length c, .int .i64 (u + 1)], .bool true]) ∧ (∀ m, m < w.heap.size → Ints w' w'.heap.size m (.slice a o.length c) o) ∧ (lvT T pl l)[(2 * nd + b).toNat]? = some o ∧ Rob w' E v T 0 0 1))

set_option maxHeartbeats 2000000 in
set_option maxRecDepth 100000 in
theorem roFeed_any (N E : Nat) (a : Option Addr) (c : Nat) (ts : List Tr) (T nd u pl β b : Int) (w : World) (hR : Rob w E (.slice a ts.length c) T nd u pl) (hP : Rop w N E a c ts) (hN : N ≤ w.heap.size) (h2 : 2 ≤ ts.length) (hT : 1 ≤ T ∧ T ≤ 1073741824) (hp : 0 ≤ pl ∧ pl < T) (hk : ∀ t ∈ ts, 0 ≤ t.2.2 ∧ t.2.2 ≤ 1073741824) (hu : 0 ≤ u ∧ u ≤ 4611686018427387904) (hnd : 0 ≤ nd ∧ nd ≤ 4096) (hb : 0 ≤ b ∧ b ≤ 1) (hβ : bits .and .i64 β 1 = b) :
    Calls Try.prog 24 #[.pointer (some ⟨E, 0, none⟩), .int .i64 β] w (RofP E (.slice a ts.length c) (rd ts) T nd u pl b w) := by
  have HR : Hid (Rob w E (.slice a ts.length c) T nd u pl) := hR
  have HP : Hid (Rop w N E a c ts) := hP
  have HK : Hid (∀ t ∈ ts, 0 ≤ t.2.2 ∧ t.2.2 ≤ 1073741824) := hk
  have hfw := hP.few
  obtain ⟨c0, c1, c2, c3, c4, fz, lt⟩ := hR
  have f2 := fz 2
  have f3 := fz 3
  clear hP hk fz
  go_enter Try.func24, Try.ntmps24
  go_wp2
  generalize hX : ((w.setCell ⟨E, 3, none⟩ (.int .i64 (u + 1))).setCell ⟨E, 2, none⟩ (.int .i64 (2 * nd + b))).alloc (.cells #[.slice none 0 0, .int .i64 0] 38) = X
  have HRX : Hid (Rob X E (.slice a ts.length c) T (2 * nd + b) (u + 1) pl) := hX ▸ ((HR.out.s3 (u + 1)).s2 (2 * nd + b)).alloc _
  have HGX : Hid (w.grownBy X (some E)) := hX ▸ gb_alloc (gb_s (gb_s (gb_refl w (some E)) 3 _) 2 _) _
  have HVX : Hid (Rv X w.heap.size (.slice none 0 0) 0) := hX ▸ Rv.new _ _ _ _ _ (by simp)
  clear hX c0 c1 c2 c3 c4 f2 f3 HR hβ
  obtain ⟨m, hm⟩ := Int.eq_ofNat_of_zero_le (show 0 ≤ 2 * nd + b by omega)
  have hm4 : m ≤ 8193 := by omega
  rw [hm] at HRX ⊢
  have HM : Hid (2 * nd + b = (m : Int)) := hm
  clear hm
  go_loopw [43] (fun iv wr => ∃ (i : Nat), iv = .int .i64 (i : Int) ∧ i ≤ ts.length ∧ Hid ((lvT T pl (rd (ts.take i))).length ≤ m) ∧ Hid (Rob wr E (.slice a ts.length c) T ((m : Int) - (lvT T pl (rd (ts.take i))).length) (u + 1) pl) ∧ Hid (w.grownBy wr (some E)) ∧ Hid (Rv wr w.heap.size (.slice none 0 0) 0)) (fun iv _ => ts.length - (intOf iv).toNat)
  case atStart => exact ⟨0, rfl, Nat.zero_le _, by simp [Hid, rd, lvT], by simpa [rd, lvT] using HRX, HGX, HVX⟩
  case round =>
    obtain ⟨i, rfl, hit, HL, HR, HG, HV⟩ := hrel
    obtain ⟨q, hq⟩ : ∃ q, (lvT T pl (rd (ts.take i))).length = q := ⟨_, rfl⟩
    have HQ : Hid ((lvT T pl (rd (ts.take i))).length = q) := hq
    rw [hq] at HL HR
    clear hq
    have hqm : q ≤ m := HL.out
    have hz : w.heap.size + 1 ≤ wr.heap.size := HV.out.lt
    by_cases h1 : i < ts.length
    · have HPr : Hid (Rop wr N E a c ts) := HP.out.gb HG.out
      obtain ⟨bb, bo, sa, sc, xs, k, rfl, hbN, hbE, hs, d1, d2, hI⟩ := HPr.out.get h1
      have HS : Hid (ts[i]? = some (.slice sa xs.length sc, xs, k)) := hs
      have hkk := HK.out _ (List.mem_of_getElem? hs)
      simp only at hkk
      have HI : Hid (Ints wr N E (.slice sa xs.length sc) xs) := hI
      clear hs hI
      generalize hO : Obj.cells #[Value.slice sa xs.length sc, Value.int IntKind.i64 k] 40 = O
      have HRO : Hid (Rob (wr.alloc O) E (.slice (some ⟨bb, bo, none⟩) ts.length c) T ((m : Int) - q) (u + 1) pl) := HR.out.alloc O
      have HVO : Hid (Rv (wr.alloc O) w.heap.size (.slice none 0 0) 0) := HV.out.alloc O
      have HSO : Hid (Rv (wr.alloc O) wr.heap.size (.slice sa xs.length sc) k) := hO ▸ Rv.new _ _ _ _ _ rfl
      cases hlf : decide (T ≤ 2 * rm T pl k) with
      | false =>
        have kc := leaf_any E (.slice (some ⟨bb, bo, none⟩) ts.length c) (.slice sa xs.length sc) T ((m : Int) - q) (u + 1) pl k (wr.alloc O) HRO.out ⟨_, _, _, rfl⟩ hT hp hkk false hlf
        subst hO
        have HQ2 : Hid ((lvT T pl (rd (ts.take (i + 1)))).length = q) := by
          rw [Hid, lvT_take HS.out, if_neg (by simpa using hlf), List.append_nil]; exact HQ.out
        clear hlf
        go_wp2_with fail
        refine kc.mono ?_
        rintro e w2 ⟨rfl, hb2⟩
        have HG2 : Hid (w.grownBy w2 (some E)) := gb_trans HG.out (gb_below (bt (ba _ _) hb2))
        have HR2 : Hid (Rob w2 E (.slice (some ⟨bb, bo, none⟩) ts.length c) T ((m : Int) - q) (u + 1) pl) := HRO.out.at hb2
        have HV2 : Hid (Rv w2 w.heap.size (.slice none 0 0) 0) := HVO.out.below hb2
        clear kc
        go_wp2
        go_roundw
        case rel => exact ⟨i + 1, by go_num, h1, by rw [HQ2.out]; exact hqm, by rw [HQ2.out]; exact HR2, HG2, HV2⟩
        case measure => simp [intOf]; omega
      | true =>
        have kc := leaf_any E (.slice (some ⟨bb, bo, none⟩) ts.length c) (.slice sa xs.length sc) T ((m : Int) - q) (u + 1) pl k (wr.alloc O) HRO.out ⟨_, _, _, rfl⟩ hT hp hkk true hlf
        subst hO
        have HQ2 : Hid ((lvT T pl (rd (ts.take (i + 1)))).length = q + 1) := by
          rw [Hid, lvT_take HS.out, if_pos (by simpa using hlf), List.length_append, HQ.out]; rfl
        have HE : Hid ((lvT T pl (rd ts))[q]? = some xs) := by
          have := lvT_at HS.out (by simpa using hlf : T ≤ 2 * rm T pl k)
          rw [HQ.out] at this; exact this
        clear hlf
        go_wp2_with fail
        refine kc.mono ?_
        rintro e w2 ⟨rfl, hb2⟩
        have HG2 : Hid (w.grownBy w2 (some E)) := gb_trans HG.out (gb_below (bt (ba _ _) hb2))
        have HR2 : Hid (Rob w2 E (.slice (some ⟨bb, bo, none⟩) ts.length c) T ((m : Int) - q) (u + 1) pl) := HRO.out.at hb2
        have HV2 : Hid (Rv w2 w.heap.size (.slice none 0 0) 0) := HVO.out.below hb2
        have HS2 : Hid (Rv w2 wr.heap.size (.slice sa xs.length sc) k) := HSO.out.below hb2
        have hz2 : wr.heap.size + 1 ≤ w2.heap.size := by simpa using hb2.size
        have HI2 : Hid (Ints w2 N E (.slice sa xs.length sc) xs) := HI.out.at (by omega) (bt (ba _ _) hb2)
        clear kc
        obtain ⟨e0, e1, e2, e3, e4, ez, e5⟩ := id HR2.out
        by_cases h3 : m = q
        · subst h3
          have h4 : (m : Int) - m = 0 := by omega
          rw [h4] at e2
          obtain ⟨r0, r1, r2, r3, r4⟩ := id HV2.out
          obtain ⟨g0, g1, g2, g3, g4⟩ := id HS2.out
          go_wp2
          have eo3 : ∀ o, (w2.alloc o).cell? ⟨E, 3, none⟩ = some (.int .i64 (u + 1)) := fun o => (HR2.out.alloc o).c3
          have go0 : ∀ o, (w2.alloc o).cell? ⟨wr.heap.size, 0, none⟩ = some (.slice sa xs.length sc) := fun o => (HS2.out.alloc o).c0
          have l2 : E < w2.heap.size := e5
          go_region_with (go_at_call 30; refine (cloneN_any N E _ xs _ ?_ ?_).mono ?_; (first | (show N ≤ w2.heap.size; omega) | (simp; omega)); (first | exact HI2.out.at (by omega) (Below.refl _ _).drew | exact HI2.out.at (by omega) (ba _ _).drew | exact HI2.out.at (by omega) ((Below.refl _ _).drew.alloc (Nat.le_refl _) _)); rintro x3 w3 ⟨v3, rfl, hI3, hb3⟩; obtain ⟨av, cv, hv3, _⟩ := hI3 0 (by first | (show 0 < w2.heap.size; omega) | (simp)); subst hv3; obtain ⟨hc3, hf3⟩ := bcell hb3; have l3 : E < w3.heap.size := (Nat.lt_of_lt_of_le (by first | exact l2 | (simp; omega)) hb3.size); have k1 : w3.cell? ⟨E, 3, none⟩ = some (.int .i64 (u + 1)) := (hc3 E 3 (by first | exact l2 | (simp; omega))).trans (by first | exact e3 | exact eo3 _); have k2 : ∀ o, (w3.alloc o).cell? ⟨E, 3, none⟩ = some (.int .i64 (u + 1)) := (fun o => ((ba w3 o).cell (p := ⟨E, 3, none⟩) l3).trans k1); (first | (have k3 : w3.cell? ⟨w2.heap.size, 0, none⟩ = some (.slice none 0 0) := (hc3 w2.heap.size 0 (by simp)).trans (nc _ _ 0 _ rfl rfl); have k4 : w3.cell? ⟨w2.heap.size, 1, none⟩ = some (.int .i64 0) := (hc3 w2.heap.size 1 (by simp)).trans (nc _ _ 1 _ rfl rfl); have k5 : w3.frozen? ⟨w2.heap.size, 0, none⟩ = false := (hf3 w2.heap.size 0 (by simp)).trans (nf _ _ 0 rfl); have k6 : w3.frozen? ⟨w2.heap.size, 1, none⟩ = false := (hf3 w2.heap.size 1 (by simp)).trans (nf _ _ 1 rfl)) | skip); clear hc3 hf3)
          all_goals first
            | (have hmark := k3
               clear hmark
               generalize hY : (w3.setCell ⟨w2.heap.size, 0, none⟩ (.slice av xs.length cv)).setCell ⟨w2.heap.size, 1, none⟩ (.int .i64 (u + 1)) = Y
               have hb32 : Below w2.heap.size w2 w3 := (ba w2 (.cells #[.slice none 0 0, .int .i64 0] 38)).drew.trans (hb3.mono (show w2.heap.size ≤ (w2.alloc (.cells #[.slice none 0 0, .int .i64 0] 38)).heap.size by simp))
               have hl3 : w2.heap.size < w3.heap.size := by have h : (w2.alloc (.cells #[.slice none 0 0, .int .i64 0] 38)).heap.size ≤ w3.heap.size := hb3.size; simp at h; omega
               have hbY : Below w2.heap.size w2 Y := hY ▸ ((hb32.setCell (p := ⟨w2.heap.size, 0, none⟩) (Nat.le_refl _) _).setCell (p := ⟨w2.heap.size, 1, none⟩) (Nat.le_refl _) _)
               have HDY : Hid (Rv Y w2.heap.size (.slice av xs.length cv) (u + 1)) := hY ▸ (show Rv w3 w2.heap.size (.slice none 0 0) 0 from ⟨k3, k4, k5, k6, hl3⟩).put _ _
               have HIY : Hid (∀ m, m < w2.heap.size + 1 → Ints Y Y.heap.size m (.slice av xs.length cv) xs) := by
                 have h1 := Ints.setm (Ints.setm (fun m (hm : m < w2.heap.size + 1) => hI3 m (show m < (w2.alloc (.cells #[.slice none 0 0, .int .i64 0] 38)).heap.size by simpa using hm)) w2.heap.size 0 (by omega) (.slice av xs.length cv)) w2.heap.size 1 (by omega) (.int .i64 (u + 1))
                 intro m hm
                 have h2 := h1 m hm
                 rw [← hY]
                 simpa using h2
               clear hY k3 k4 k5 k6
               generalize hR8 : w2.heap.size = R8 at HDY ⊢
               have hR9 : w2.heap.size ≤ R8 := by omega)
            | (generalize hY : w3.alloc (.cells #[.slice av xs.length cv, .int .i64 (u + 1)] 38) = Y
               have hb32 : Below w2.heap.size w2 w3 := (Below.refl w2.heap.size w2).drew.trans hb3
               have hbY : Below w2.heap.size w2 Y := hY ▸ bal hb32 _
               have HDY : Hid (Rv Y w3.heap.size (.slice av xs.length cv) (u + 1)) := hY ▸ Rv.new _ _ _ _ _ rfl
               have HIY : Hid (∀ m, m < w2.heap.size → Ints Y Y.heap.size m (.slice av xs.length cv) xs) := fun m hm => hY ▸ (hI3 m hm).at2 (ba _ _)
               have hl3 : w2.heap.size ≤ w3.heap.size := hb32.size
               clear hY
               generalize hR8 : w3.heap.size = R8 at HDY ⊢
               have hR9 : w2.heap.size ≤ R8 := by omega)
          all_goals
            have HRY : Hid (Rob Y E (.slice (some ⟨bb, bo, none⟩) ts.length c) T ((m : Int) - m) (u + 1) pl) := HR2.out.at hbY
            have HVY : Hid (Rv Y w.heap.size (.slice none 0 0) 0) := HV2.out.below hbY
            have HGY : Hid (w.grownBy Y (some E)) := gb_trans HG2.out (gb_below hbY)
            have HFY : Hid (∀ m, m < w.heap.size + 1 → Ints Y Y.heap.size m (.slice av xs.length cv) xs) := fun m hm => HIY.out m (by omega)
            clear hb3 hI3 k1 k2 HIY HR2 HV2 HG2 HS2 e0 e1 e2 e3 e4 ez r0 r1 r2 r3 g0 g1 g2 g3 eo3 go0 hb32 hbY
          all_goals
            have ne1 : ¬ w.heap.size = E := by omega
            have ne2 : ¬ E = w.heap.size := by omega
            have ne3 : ¬ R8 = E := by omega
            have ne4 : ¬ E = R8 := by omega
            have ne5 : ¬ R8 = w.heap.size := by omega
            have ne6 : ¬ w.heap.size = R8 := by omega
            have kb := begun_any Y
            go_wp2_with fail
            refine kb.mono ?_
            rintro e w4 ⟨rfl, hb4⟩
            have HR4 : Hid (Rob w4 E (.slice (some ⟨bb, bo, none⟩) ts.length c) T ((m : Int) - m) (u + 1) pl) := HRY.out.at hb4
            have HV4 : Hid (Rv w4 w.heap.size (.slice none 0 0) 0) := HVY.out.below hb4
            have HD4 : Hid (Rv w4 R8 (.slice av xs.length cv) (u + 1)) := HDY.out.below hb4
            have HG4 : Hid (w.grownBy w4 (some E)) := gb_trans HGY.out (gb_below hb4)
            have HF4 : Hid (∀ m, m < w.heap.size + 1 → Ints w4 w4.heap.size m (.slice av xs.length cv) xs) := fun m hm => (HFY.out m hm).at2 hb4
            clear kb hb4 HRY HVY HDY HGY HFY
            obtain ⟨e0, e1, e2, e3, e4, ez, _⟩ := id HR4.out
            obtain ⟨r0, r1, r2, r3, _⟩ := id HV4.out
            obtain ⟨g0, g1, g2, g3, _⟩ := id HD4.out
            have y2 := ez 2
            have y3 := ez 3
            have y4 := ez 4
            clear ez
            go_wp2
            generalize hZ : ((((w4.setCell ⟨E, 2, none⟩ (.int .i64 0)).setCell ⟨E, 3, none⟩ (.int .i64 0)).setCell ⟨E, 4, none⟩ (.int .i64 1)).setCell ⟨w.heap.size, 0, none⟩ (.slice av xs.length cv)).setCell ⟨w.heap.size, 1, none⟩ (.int .i64 (u + 1)) = Z
            have HRZ : Rob Z E (.slice (some ⟨bb, bo, none⟩) ts.length c) T 0 0 1 := hZ ▸ (((((HR4.out.s2 0).s3 0).s4 1).other w.heap.size 0 (by omega) _).other w.heap.size 1 (by omega) _)
            have HVZ : Rv Z w.heap.size (.slice av xs.length cv) (u + 1) := hZ ▸ ((((HV4.out.other E 2 (by omega) _).other E 3 (by omega) _).other E 4 (by omega) _).put _ _)
            have HGZ : w.grownBy Z (some E) := hZ ▸ gb_new (gb_new (gb_s (gb_s (gb_s HG4.out 2 _) 3 _) 4 _) (p := ⟨w.heap.size, 0, none⟩) (Nat.le_refl _) _) (p := ⟨w.heap.size, 1, none⟩) (Nat.le_refl _) _
            have HFZ : ∀ m, m < w.heap.size + 1 → Ints Z Z.heap.size m (.slice av xs.length cv) xs := by
              have h1 := Ints.setm (Ints.setm (Ints.setm (Ints.setm (Ints.setm HF4.out E 2 (by omega) (.int .i64 0)) E 3 (by omega) (.int .i64 0)) E 4 (by omega) (.int .i64 1)) w.heap.size 0 (by omega) (.slice av xs.length cv)) w.heap.size 1 (by omega) (.int .i64 (u + 1))
              intro m hm
              have h2 := h1 m hm
              rw [← hZ]
              simpa using h2
            clear hZ
            obtain ⟨z0, z1, _, _, _⟩ := HVZ
            exact bodyPost_ret (v := .tuple #[.agg #[.slice av xs.length cv, .int .i64 (u + 1)], .bool true]) (by simp [results, Try.results24, go_sem, z0, z1]) rfl ⟨HGZ, .inr ⟨av, cv, xs, rfl, fun m hm => HFZ m (by omega), by rw [HM.out, Int.toNat_natCast]; exact HE.out, HRZ⟩⟩
        · have h4 : ¬ (m : Int) - q = 0 := by omega
          have h4' : ((m : Int) - q == 0) = false := by simpa using h4
          have f2 := ez 2
          clear ez
          go_wp2
          go_roundw
          case rel => exact ⟨i + 1, by go_num, h1, by rw [HQ2.out]; show q + 1 ≤ m; omega, by rw [HQ2.out]; exact (HR2.out.s2 ((m : Int) - q - 1)).nd (by omega), gb_s HG2.out 2 _, HV2.out.other E 2 (by omega) _⟩
          case measure => simp [intOf]; omega
    · have HQ2 : Hid ((lvT T pl (rd ts)).length = q) := by have := HQ.out; rwa [List.take_of_length_le (by omega)] at this
      have HN : Hid ((lvT T pl (rd ts))[(2 * nd + b).toNat]? = none) := by
        rw [Hid, HM.out, Int.toNat_natCast]
        exact List.getElem?_eq_none (by rw [HQ2.out]; exact hqm)
      obtain ⟨e0, e1, e2, e3, e4, ez, _⟩ := id HR.out
      obtain ⟨r0, r1, r2, r3, _⟩ := id HV.out
      have y4 := ez 4
      have hT0 : ¬ T = 0 := by omega
      have ne1 : ¬ w.heap.size = E := by omega
      have ne2 : ¬ E = w.heap.size := by omega
      obtain ⟨M, hM⟩ : ∃ M, 2 * pl % T = M := ⟨_, rfl⟩
      have hM2 : 0 ≤ M ∧ M < T := by rw [← hM]; exact ⟨Int.emod_nonneg _ (by omega), Int.emod_lt_of_pos _ (by omega)⟩
      have HMM : Hid (2 * pl % T = M) := hM
      clear ez
      go_wp2
      go_region
      generalize hX : (wr.setCell ⟨E, 4, none⟩ (.int .i64 M)).drew = X2
      have HRX2 : Hid (Rob X2 E (.slice a ts.length c) T ((m : Int) - q) (u + 1) M) := hX ▸ (HR.out.s4 M).drew
      have HVX2 : Hid (Rv X2 w.heap.size (.slice none 0 0) 0) := hX ▸ (HV.out.other E 4 (by omega) _).drew
      have HGX2 : Hid (w.grownBy X2 (some E)) := hX ▸ gb_drew (gb_s HG.out 4 _)
      clear hX hM e0 e1 e2 e3 e4 r0 r1 r2 r3 y4
      obtain ⟨r0, r1, r2, r3, _⟩ := id HVX2.out
      have HVZ := HVX2.out.put (.slice none 0 0) 0
      go_wp2
      obtain ⟨z0, z1, _, _, _⟩ := HVZ
      exact bodyPost_ret (v := .tuple #[noD, .bool false]) (by simp [results, Try.results24, go_sem, z0, z1]) rfl
        ⟨gb_new (gb_new HGX2.out (p := ⟨w.heap.size, 0, none⟩) (Nat.le_refl _) _) (p := ⟨w.heap.size, 1, none⟩) (Nat.le_refl _) _, .inl ⟨rfl, HN.out, by
          rw [HMM.out, HQ2.out, HM.out]
          exact (HRX2.out.other w.heap.size 0 (by omega) _).other w.heap.size 1 (by omega) _⟩⟩
end Go.Proofs.Ytjnclbhpdaonhaa
