import Derived.Test.YtjnclbhpdaonhaaRfw
import Derived.Test.YtjnclbhpdaonhaaDis
import Derived.Test.YtjnclbhpdaonhaaRol
import Derived.Test.YtjnclbhpdaonhaaDrw
import Derived.Deep.RegionHeld3
namespace Go.Proofs.Ytjnclbhpdaonhaa
open Go.RowKit Go.Proofs.Ytjnclbhpdaonhaa.Ds

/-- WHAT ONE DRAW OF THE DOCUMENT's ANSWERS -/
def OneP (lo : Nat) (nx : Nx) (bits : List Int) (w : World) (e : Ending) (w' : World) : Prop :=
  Below w.heap.size w w' ∧ ((nx bits = none ∧ e = .returned (.tuple #[noD, .bool false])) ∨
    ∃ a c o, ∃ j : Nat, nx bits = some (o, (j : Int), bits.drop j) ∧ j ≤ bits.length ∧ e = .returned (.tuple #[.agg #[.slice a (o : List Int).length c, .int .i64 (j : Int)], .bool true]) ∧
      ∀ m, (lo ≤ m ∧ m < w.heap.size) ∨ m = w'.heap.size → Ints w' w'.heap.size m (.slice a o.length c) o)

theorem tot_two {l : List Pt} (h : Dis l) (h2 : 2 ≤ l.length) : 2 ≤ tot l := by
  match l, h2, h with
  | p :: q :: l, _, h =>
    have h1 := h.pos p (by simp)
    have h2 := h.pos q (by simp)
    have h3 : 0 ≤ tot l := (Nn.of_pos (l := l) fun r hr => h.pos r (by simp [hr])).tot_nn
    rw [tot_cons, tot_cons]; omega

theorem roN_two {l : List Pt} (h2 : 2 ≤ l.length) (bits : List Int) : roN l bits = roT (tot l) l 1 0 0 bits := by
  match l, h2 with
  | _ :: _ :: _, _ => rfl

set_option maxHeartbeats 4000000 in
set_option maxRecDepth 100000 in
theorem one_any (lo B nb : Nat) (v u : Value) (ts : List Tr) (bits : List Int) (w : World) (hB : B ≤ w.heap.size) (hlo : B ≤ lo) (hp : Parts w B v ts) (hu : Ints w B nb u bits) (hD : Dis (rd ts)) (hbad : badB bits = false) (hlen : bits.length ≤ 65536) :
    Calls Try.prog 21 #[v, u] w (OneP lo (roN (rd ts)) bits w) := by
  have HP : Hid (Parts w B v ts) := hp
  have HU : Hid (Ints w B nb u bits) := hu
  have HD : Hid (Dis (rd ts)) := hD
  have HBad : Hid (badB bits = false) := hbad
  have hfw : ts.length ≤ 4096 := by have := hD.few; rwa [rd_len] at this
  have hne : Hid (ts ≠ []) := fun h => hD.ne (by rw [h]; rfl)
  have HR0 : Hid (Rv (w.alloc (.cells #[.slice none 0 0, .int .i64 0] 38)) w.heap.size (.slice none 0 0) 0) := Rv.new _ _ _ _ _ rfl
  have hb0 : Below w.heap.size w (w.alloc (.cells #[.slice none 0 0, .int .i64 0] 38)) := ba _ _
  obtain ⟨a, c, rfl, hc, hl, _⟩ := hp
  obtain ⟨ua, uc, rfl, huc, _⟩ := hu
  clear hD hbad
  by_cases h1 : ts.length = 1
  · obtain ⟨b, o, sa, sc, xs, k, rfl, hb, hs, c1, c2, hI⟩ := HP.out.get hB hb0 (i := 0) (by omega)
    have HN : Hid (roN (rd ts) bits = some (xs, 0, bits)) := by
      match ts, h1, hs with
      | [t], _, hs => simp at hs; subst hs; rfl
    simp only [Nat.zero_mul, Nat.add_zero] at c1
    have HI : Hid (Ints w B B (.slice sa xs.length sc) xs) := by
      obtain ⟨b', o', sa', sc', xs', k', _, _, hs', _, _, hI'⟩ := HP.out.get hB (Below.refl _ _) (i := 0) (by omega)
      rw [hs] at hs'
      simp only [Option.some.injEq, Prod.mk.injEq, Value.slice.injEq] at hs'
      obtain ⟨⟨rfl, _, rfl⟩, rfl, rfl⟩ := hs'
      exact hI'
    rw [h1] at hc ⊢
    have hc1 : 1 ≤ c := hc
    obtain ⟨r0, r1, r2, r3, r4⟩ := id HR0.out
    clear hs hI c2 h1
    go_enter Try.func21, Try.ntmps21
    go_wp2
    refine bodyPost_ret (v := .tuple #[.agg #[.slice sa xs.length sc, .int .i64 0], .bool true]) (by simp [results, Try.results21, go_sem]) rfl ⟨ba _ _, .inr ⟨sa, sc, xs, 0, HN.out, Nat.zero_le _, rfl, fun m hm => ?_⟩⟩
    exact (HI.out.at hB (ba _ _)).mono (by simp; omega) (.inr (by simp at hm; omega))
  · have h1' : ((ts.length : Int) == 1) = false := by simp; omega
    have h1'' : ¬ (ts.length : Int) = 1 := by omega
    have h2 : 2 ≤ ts.length := by
      have : 0 < ts.length := List.length_pos_iff.2 hne.out
      omega
    obtain ⟨T, hT⟩ : ∃ T, tot (rd ts) = T := ⟨_, rfl⟩
    have HT : Hid (tot (rd ts) = T) := hT
    have hTb : 2 ≤ T ∧ T ≤ 1073741824 := by
      rw [← hT]; exact ⟨tot_two HD.out (by rw [rd_len]; exact h2), HD.out.le⟩
    have HW : Hid (∀ p ∈ rd ts, 0 ≤ p.2 ∧ p.2 < T) := by rw [Hid, ← hT]; exact HD.out.less (by rw [rd_len]; exact h2)
    have HND : Hid (Nd T 1 (rd ts) 0) := by rw [Hid, ← hT]; exact Nd.start (HD.out.less (by rw [rd_len]; exact h2))
    have HNN : Hid (Nn (rd ts) ∧ tot (rd ts) ≤ 4611686018427387904) := ⟨Nn.of_pos HD.out.pos, by rw [hT]; omega⟩
    have HRN : Hid (roN (rd ts) bits = roT T (rd ts) 1 0 0 bits) := by rw [Hid, roN_two (by rw [rd_len]; exact h2), hT]
    clear hT
    go_enter Try.func21, Try.ntmps21
    go_wp2
    go_loopw [6, 7] (fun nv kv wr => ∃ (j : Nat) (nd : Int), nv = .int .i64 nd ∧ kv = .int .i64 ((j : Int) + 1) ∧ j ≤ bits.length ∧ 0 ≤ nd ∧ nd ≤ 4096 ∧ Hid (Nd T (plF T j) (rd ts) nd) ∧ Hid (roN (rd ts) bits = roT T (rd ts) (plF T j) nd j (bits.drop j)) ∧ Below w.heap.size w wr ∧ Hid (Rv wr w.heap.size (.slice none 0 0) 0)) (fun _ kv _ => bits.length + 1 - (intOf kv).toNat)
    case atStart => exact ⟨0, 0, rfl, rfl, Nat.zero_le _, by omega, by omega, HND, by simpa [plF, Hid] using HRN.out, hb0, HR0⟩
    case round =>
      obtain ⟨j, nd, rfl, rfl, hj, hn0, hn1, HN, HE, hbl, HV⟩ := hrel
      have hz : w.heap.size + 1 ≤ wr.heap.size := HV.out.lt
      by_cases h3 : j < bits.length
      · obtain ⟨b, hb⟩ := get_lt h3
        have HBit : Hid (bits[j]? = some b) := hb
        have hbit := bad_get HBad.out hb
        obtain ⟨_, _, hv', _, _, hx⟩ := HU.out.at hB hbl
        simp only [Value.slice.injEq] at hv'
        obtain ⟨rfl, _, rfl⟩ := hv'
        obtain ⟨ub, uo, rfl, hubB, _, hcell⟩ := hx (ne_of_lt h3)
        have c1 := hcell j b hb
        obtain ⟨m, hm⟩ := Int.eq_ofNat_of_zero_le (show 0 ≤ 2 * nd + b by omega)
        have HM : Hid (2 * nd + b = (m : Int)) := hm
        have hm2 : m ≤ 8193 := by omega
        have hjl : ((j : Int) + 1) ≤ (bits.length : Int) := by omega
        obtain ⟨pl, hpl⟩ : ∃ pl, plF T j = pl := ⟨_, rfl⟩
        have HPL : Hid (plF T j = pl) := hpl
        have hplb : 0 ≤ pl ∧ pl < T := by rw [← hpl]; exact plF_bd hTb.1 j
        rw [hpl] at HN HE
        clear hb hx hcell hpl
        obtain ⟨wo, hwo⟩ : ∃ wo : World, wo = wr := ⟨_, rfl⟩
        subst hwo
        go_wp2
        clear hm
        go_loopw [8, 35] (fun qv iv wr => ∃ (i q : Nat), qv = .int .i64 (q : Int) ∧ iv = .int .i64 (i : Int) ∧ i ≤ ts.length ∧ q ≤ m ∧ Hid ((lvT T pl (rd (ts.take i))).length = q) ∧ Below w.heap.size w wr ∧ Hid (Rv wr w.heap.size (.slice none 0 0) 0)) (fun _ iv _ => ts.length - (intOf iv).toNat)
        case atStart => exact ⟨0, 0, rfl, rfl, Nat.zero_le _, Nat.zero_le _, by simp [Hid, rd, lvT], hbl, HV⟩
        case round =>
          obtain ⟨i, q, rfl, rfl, hit, hqm, HQ, hbq, HVq⟩ := hrel
          have hzq : w.heap.size + 1 ≤ wr.heap.size := HVq.out.lt
          by_cases h4 : i < ts.length
          · obtain ⟨bb, bo, sa, sc, xs, kk, rfl, hbb, hs, d1, d2, hIx⟩ := HP.out.get hB hbq h4
            have HS : Hid (ts[i]? = some (.slice sa xs.length sc, xs, kk)) := hs
            have hkk := HW.out _ (List.mem_of_getElem? (rd_get hs))
            simp only at hkk
            have HIx : Hid (Ints wr B B (.slice sa xs.length sc) xs) := hIx
            generalize hO : Obj.cells #[Value.slice sa xs.length sc, Value.int IntKind.i64 kk] 40 = O
            have HSW : Hid (Rv (wr.alloc O) wr.heap.size (.slice sa xs.length sc) kk) := hO ▸ Rv.new _ _ _ _ _ rfl
            have HPW : Hid (Parts (wr.alloc O) B (.slice (some ⟨bb, bo, none⟩) ts.length c) ts) := HP.out.at hB (bal hbq _)
            have hbW : Hid (Below w.heap.size w (wr.alloc O)) := bal hbq _
            have HVW : Hid (Rv (wr.alloc O) w.heap.size (.slice none 0 0) 0) := HVq.out.alloc O
            have hzW : (wr.alloc O).heap.size = wr.heap.size + 1 := by simp
            have hbR : Hid (Below wr.heap.size wr (wr.alloc O)) := ba _ _
            subst hO
            clear hs hIx
            by_cases hlf : T ≤ 2 * rm T pl kk
            · have HDg : Hid ((if T ≤ 2 * rm T (plF T j) kk then (1 : Int) else 0) = 1) := by rw [Hid, HPL.out, if_pos hlf]
              have HQ2 : Hid ((lvT T pl (rd (ts.take (i + 1)))).length = q + 1) := by
                rw [Hid, lvT_take HS.out, if_pos hlf, List.length_append, HQ.out]; rfl
              have HAt : Hid ((lvT T pl (rd ts))[q]? = some xs) := by
                have := lvT_at HS.out hlf
                rw [HQ.out] at this; exact this
              clear hlf
              go_wp2_with fail
              obtain ⟨W, hW⟩ : ∃ W, wr.alloc (.cells #[.slice sa xs.length sc, .int .i64 kk] 40) = W := ⟨_, rfl⟩
              rw [hW] at HSW HPW hbW HVW hzW hbR ⊢
              clear hW
              have f1 := HSW.out.c1
              have lw1 : wr.heap.size < W.heap.size := by omega
              have lwB : B ≤ W.heap.size := by have := hbq.size; omega
              go_region_held3 (fun w' => w'.cell? ⟨wr.heap.size, 1, none⟩ = some (.int .i64 kk))
                (first | assumption | (simp [go_sem, *]; done))
                (first
                  | (go_at_call 17; refine (refTotal_any B _ ts _ ?_ ?_ HNN.out.1 HNN.out.2 T HT.out).mono ?_; (show B ≤ W.heap.size; exact lwB); (exact HPW.out.at lwB (Below.refl _ _).drew); rintro x5 w5 ⟨rfl, hb5⟩; obtain ⟨hc5, hf5⟩ := bcell hb5; have q1 : w5.cell? ⟨wr.heap.size, 1, none⟩ = some (.int .i64 kk) := (hc5 _ _ lw1).trans f1; clear hc5 hf5)
                  | (have hmark := hb5; clear hmark; go_at_call 34; refine (digit_any kk T j _ hTb hkk (by omega) 1 HDg.out).mono ?_; rintro x6 w6 ⟨rfl, hw6⟩; subst hw6))
              have hb6 : Below W.heap.size W w6 := (Below.refl _ W).drew.trans hb5
              have HV5 : Hid (Rv w6 w.heap.size (.slice none 0 0) 0) := HVW.out.below hb6
              have hbw5 : Below w.heap.size w w6 := bt hbW.out hb6
              by_cases h5 : q = m
              · subst h5
                have HE2 : Hid (roN (rd ts) bits = some (xs, (j : Int) + 1, bits.drop (j + 1))) := by
                  have e : (lvT T pl (rd ts))[(2 * nd + b).toNat]? = some xs := by rw [HM.out, Int.toNat_natCast]; exact HAt.out
                  rw [Hid, HE.out, List.drop_eq_getElem_cons h3, (List.getElem?_eq_some_iff.1 HBit.out).2]
                  simp only [roT, e]
                have hqe : ((q : Int) == (q : Int)) = true := by simp
                have HSS : Hid (Rv w6 wr.heap.size (.slice sa xs.length sc) kk) := HSW.out.below hb6
                obtain ⟨g0, g1, _, _, _⟩ := id HSS.out
                obtain ⟨r0, r1, r2, r3, r4⟩ := id HV5.out
                have HVZ := HV5.out.put (.slice sa xs.length sc) ((j : Int) + 1)
                have HI5 : Hid (Ints w6 B B (.slice sa xs.length sc) xs) := HIx.out.at (by have := hbq.size; omega) (bt hbR.out hb6)
                go_wp2
                generalize hZ : (w6.setCell ⟨w.heap.size, 0, none⟩ (.slice sa xs.length sc)).setCell ⟨w.heap.size, 1, none⟩ (.int .i64 ((j : Int) + 1)) = Z at HVZ ⊢
                have hbZ : Below w.heap.size w Z := hZ ▸ bs (bs hbw5 (p := ⟨w.heap.size, 0, none⟩) (Nat.le_refl _) _) (p := ⟨w.heap.size, 1, none⟩) (Nat.le_refl _) _
                have hb6Z : Below B w6 Z := hZ ▸ ((Below.refl B w6).setCell (p := ⟨w.heap.size, 0, none⟩) hB _).setCell (p := ⟨w.heap.size, 1, none⟩) hB _
                have HIZ : Ints Z B B (.slice sa xs.length sc) xs := HI5.out.keep hb6Z
                clear hZ
                obtain ⟨z0, z1, _, _, _⟩ := HVZ
                have hsz := hbZ.size
                exact bodyPost_ret (v := .tuple #[.agg #[.slice sa xs.length sc, .int .i64 ((j : Int) + 1)], .bool true]) (by simp [results, Try.results21, go_sem, z0, z1]) rfl ⟨hbZ, .inr ⟨sa, sc, xs, j + 1, HE2.out, h3, rfl, fun m hm => HIZ.mono (by omega) (.inr (by omega))⟩⟩
              · have h5' : ((q : Int) == (m : Int)) = false := by simp; omega
                have h5'' : ¬ (q : Int) = (m : Int) := by omega
                go_wp2
                go_roundw
                case rel => exact ⟨i + 1, q + 1, by go_num, by go_num, h4, by omega, HQ2, hbw5, HV5⟩
                case measure => simp [intOf]; omega
            · have HDg : Hid ((if T ≤ 2 * rm T (plF T j) kk then (1 : Int) else 0) = 0) := by rw [Hid, HPL.out, if_neg hlf]
              have HQ2 : Hid ((lvT T pl (rd (ts.take (i + 1)))).length = q) := by
                rw [Hid, lvT_take HS.out, if_neg hlf, List.append_nil]; exact HQ.out
              clear hlf
              go_wp2_with fail
              obtain ⟨W, hW⟩ : ∃ W, wr.alloc (.cells #[.slice sa xs.length sc, .int .i64 kk] 40) = W := ⟨_, rfl⟩
              rw [hW] at HSW HPW hbW HVW hzW hbR ⊢
              clear hW
              have f1 := HSW.out.c1
              have lw1 : wr.heap.size < W.heap.size := by omega
              have lwB : B ≤ W.heap.size := by have := hbq.size; omega
              go_region_held3 (fun w' => w'.cell? ⟨wr.heap.size, 1, none⟩ = some (.int .i64 kk))
                (first | assumption | (simp [go_sem, *]; done))
                (first
                  | (go_at_call 17; refine (refTotal_any B _ ts _ ?_ ?_ HNN.out.1 HNN.out.2 T HT.out).mono ?_; (show B ≤ W.heap.size; exact lwB); (exact HPW.out.at lwB (Below.refl _ _).drew); rintro x5 w5 ⟨rfl, hb5⟩; obtain ⟨hc5, hf5⟩ := bcell hb5; have q1 : w5.cell? ⟨wr.heap.size, 1, none⟩ = some (.int .i64 kk) := (hc5 _ _ lw1).trans f1; clear hc5 hf5)
                  | (have hmark := hb5; clear hmark; go_at_call 34; refine (digit_any kk T j _ hTb hkk (by omega) 0 HDg.out).mono ?_; rintro x6 w6 ⟨rfl, hw6⟩; subst hw6))
              have hb6 : Below W.heap.size W w6 := (Below.refl _ W).drew.trans hb5
              have HV5 : Hid (Rv w6 w.heap.size (.slice none 0 0) 0) := HVW.out.below hb6
              have hbw5 : Below w.heap.size w w6 := bt hbW.out hb6
              go_wp2
              go_roundw
              case rel => exact ⟨i + 1, q, rfl, by go_num, h4, hqm, HQ2, hbw5, HV5⟩
              case measure => simp [intOf]; omega
          · have HQ2 : Hid ((lvT T pl (rd ts)).length = q) := by have := HQ.out; rwa [List.take_of_length_le (by omega)] at this
            have hnone : (lvT T pl (rd ts))[(2 * nd + b).toNat]? = none := by
              rw [HM.out, Int.toNat_natCast]
              exact List.getElem?_eq_none (by rw [HQ2.out]; exact hqm)
            have HE2 : Hid (roN (rd ts) bits = roT T (rd ts) (plF T (j + 1)) ((m : Int) - q) ((j : Int) + 1) (bits.drop (j + 1))) := by
              rw [Hid, HE.out, List.drop_eq_getElem_cons h3, (List.getElem?_eq_some_iff.1 HBit.out).2]
              simp only [roT, hnone]
              rw [HM.out, HQ2.out, plF, HPL.out]
            have HN2 : Hid (Nd T (plF T (j + 1)) (rd ts) ((m : Int) - q)) := by
              have := HN.out.next (b := b) (by omega) hbit (by rw [HQ2.out, HM.out]; omega)
              rw [HM.out, HQ2.out] at this
              rw [Hid, plF, HPL.out]
              exact this
            have hnb := HN2.out.le (by omega)
            rw [rd_len] at hnb
            have hbq2 := hbq
            clear hnone
            go_wp2
            go_roundw
            case rel => exact ⟨j + 1, (m : Int) - q, rfl, by go_num, h3, by omega, by omega, HN2, HE2, hbq2, HVq⟩
            case measure => simp [intOf]; omega
      · have HE2 : Hid (roN (rd ts) bits = none) := by
          rw [Hid, HE.out, List.drop_eq_nil_of_le (by omega)]; rfl
        have hjl : ¬ ((j : Int) + 1) ≤ (bits.length : Int) := by omega
        have HVZ := HV.out.put (.slice none 0 0) 0
        obtain ⟨r0, r1, r2, r3, _⟩ := id HV.out
        go_wp2
        obtain ⟨z0, z1, _, _, _⟩ := HVZ
        exact bodyPost_ret (v := .tuple #[noD, .bool false]) (by simp [results, Try.results21, go_sem, z0, z1]) rfl ⟨bs (bs hbl (p := ⟨w.heap.size, 0, none⟩) (Nat.le_refl _) _) (p := ⟨w.heap.size, 1, none⟩) (Nat.le_refl _) _, .inl ⟨HE2.out, rfl⟩⟩
end Go.Proofs.Ytjnclbhpdaonhaa
