import Derived.Test.YtkpjjiomfgkobaaDoorCls
import Derived.Test.YtkpjjiomfgkobaaDoorNam
namespace Go.Proofs.YtkpjjiomfgkobaaDoor
open Go.RowKit Go.Proofs.YtkpjjiomfgkobaaDoor.Ds

/-- the product, as far as it is reckoned -/
def KP (p k : Nat) : Prop := k ≤ 16777216 ∧ (p ≤ 4096 → k = p) ∧ (4096 < p → 4096 < k)
theorem KP.lo {p k z : Nat} (h : KP p k) (hk : k ≤ 4096) (hz : z ≤ 4096) : KP (p * z) (k * z) := by
  obtain ⟨_, h2, h3⟩ := h
  have e : k = p := h2 (by omega)
  subst e
  refine ⟨?_, fun _ => rfl, fun h => h⟩
  exact Nat.mul_le_mul hk hz
theorem KP.hi {p k z : Nat} (h : KP p k) (hk : 4096 < k) (hz : 1 ≤ z) : KP (p * z) k := by
  obtain ⟨h1, h2, h3⟩ := h
  have hp : 4096 < p := by omega
  have : p * 1 ≤ p * z := Nat.mul_le_mul_left _ hz
  exact ⟨h1, fun h => by omega, fun _ => hk⟩

set_option maxHeartbeats 2000000 in
theorem rcolumns_any (B : Nat) (v : Value) (l : List Col) (w : World) (hB : B ≤ w.heap.size) (hp : Cols w B v l) (er : Int) (hr : colE l = er) :
    Calls Tryd.prog 30 #[v] w fun e w' => e = .returned (.int .i64 er) ∧ Below w.heap.size w w' := by
  have HP : Hid (Cols w B v l) := hp
  have HR : Hid (colE l = er) := hr
  obtain ⟨a, c, rfl, hc, hl⟩ := hp.slice
  clear hr
  go_enter Tryd.func30, Tryd.ntmps30
  by_cases h0 : l.length < 1
  · obtain rfl : 5 = er := by rw [← HR.out, colE, if_pos (by omega)]
    go_wp2
    go_ret
    exact ⟨rfl, Below.refl _ _⟩
  by_cases h6 : 6 < l.length
  · obtain rfl : 5 = er := by rw [← HR.out, colE, if_pos (by omega)]
    go_wp2
    go_ret
    exact ⟨rfl, Below.refl _ _⟩
  have HE : Hid (colE l = if colL [] l = 0 then (if 4096 < prd l then 4 else 0) else colL [] l) := by show _ = _; rw [colE, if_neg (by omega)]
  go_wp2
  go_loopw [3, 18] (fun nv s wr => ∃ (i k : Nat), nv = .int .i64 (k : Int) ∧ s = .int .i64 (i : Int) ∧ i ≤ l.length ∧ Hid (colL (l.take i) (l.drop i) = colL [] l) ∧ Hid (KP (prd (l.take i)) k) ∧ Below w.heap.size w wr) (fun _ s _ => l.length - (intOf s).toNat)
  case atStart => exact ⟨0, 1, rfl, rfl, Nat.zero_le _, by simp [Hid], ⟨by omega, fun _ => rfl, fun h => by simp [prd] at h⟩, Below.refl _ _⟩
  case round =>
    obtain ⟨i, k, rfl, rfl, hi, HI, HK, hbl⟩ := hrel
    by_cases h1 : i < l.length
    · obtain ⟨b, o, nm, sz, rfl, hb, hgt, c1, c2, hn⟩ := HP.out.get hB hbl h1
      have ST : Hid (colL [] l = if namB nm.data.toList then (if (l.take i).any (fun d => decide (d.1 = nm)) then 7 else if sz < 1 ∨ 4096 < sz then 3 else colL (l.take (i + 1)) (l.drop (i + 1))) else 2) := HI.out.symm.trans (colL_step hgt)
      have HPN : Hid (prd (l.take (i + 1)) = prd (l.take i) * sz.toNat) := prd_next hgt
      have hk16 : k ≤ 16777216 := HK.out.1
      clear hgt HI
      have hsz := hbl.size
      cases hnm : namB nm.data.toList with
      | false =>
        have HN : Hid (namB nm.data.toList = false) := hnm
        clear hnm
        obtain rfl : 2 = er := by rw [← HR.out, HE.out, ST.out, HN.out]; simp
        go_wp2_with fail
        refine (rnamed_any nm hn _ false HN.out).mono ?_
        rintro e w1 ⟨rfl, rfl⟩
        go_wp2
        go_ret
        exact ⟨rfl, bal hbl _⟩
      | true =>
        have HN : Hid (namB nm.data.toList = true) := hnm
        clear hnm
        go_wp2_with fail
        refine (rnamed_any nm hn _ true HN.out).mono ?_
        rintro e w1 ⟨rfl, rfl⟩
        obtain ⟨wq, hwq⟩ : ∃ wq : World, wq = wr := ⟨_, rfl⟩
        subst hwq
        obtain ⟨wo, hwo⟩ : ∃ wo : World, wo = wq.alloc (.cells #[.string nm, .int .i64 sz] 52) := ⟨_, rfl⟩
        have hblo : Below w.heap.size w wo := by rw [hwo]; exact bal hbl _
        have d0 : wo.cell? ⟨wq.heap.size, 0, none⟩ = some (.string nm) := by rw [hwo]; exact World.cell?_alloc_at _ _ _ _ rfl
        have d1 : wo.cell? ⟨wq.heap.size, 1, none⟩ = some (.int .i64 sz) := by rw [hwo]; exact World.cell?_alloc_at _ _ _ _ rfl
        have hz0 : wq.heap.size < wo.heap.size := by rw [hwo]; simp
        rw [← hwo]
        have HT : Hid (Cols wo B (.slice (some ⟨b, o, none⟩) i c) (l.take i)) := (HP.out.take i hi).at hB hblo
        have hti : Hid ((l.take i).length = i) := by show _ = _; rw [List.length_take]; omega
        have hBo : B ≤ wo.heap.size := by omega
        clear hwo hbl c1 c2
        go_wp2
        go_loopw [31] (fun s wi => ∃ (j : Nat), s = .int .i64 (j : Int) ∧ j ≤ i ∧ Hid (((l.take i).take j).any (fun d => decide (d.1 = nm)) = false) ∧ Below wo.heap.size wo wi) (fun s _ => i - (intOf s).toNat)
        case atStart => exact ⟨0, rfl, Nat.zero_le _, by simp [Hid], Below.refl _ _⟩
        case round =>
          obtain ⟨j, rfl, hj, HJ, hbi⟩ := hrel
          have d2 : wr.cell? ⟨wq.heap.size, 0, none⟩ = some (.string nm) := (hbi.cell (p := ⟨wq.heap.size, 0, none⟩) hz0).trans d0
          have d3 : wr.cell? ⟨wq.heap.size, 1, none⟩ = some (.int .i64 sz) := (hbi.cell (p := ⟨wq.heap.size, 1, none⟩) hz0).trans d1
          have hbr : Below w.heap.size w wr := bt hblo hbi
          have hzr := hbi.size
          clear d0 d1
          by_cases hj1 : j < i
          · obtain ⟨b', o', nm2, sz2, hbo, _, hgt2, e1, e2, _⟩ := HT.out.get hBo hbi (i := j) (by rw [hti.out]; exact hj1)
            simp only [Option.some.injEq, Addr.mk.injEq] at hbo
            obtain ⟨rfl, rfl, _⟩ := hbo
            have HG2 : Hid ((l.take i)[j]? = some (nm2, sz2)) := hgt2
            clear hgt2
            have d4 : (wr.alloc (.cells #[.string nm2, .int .i64 sz2] 52)).cell? ⟨wq.heap.size, 0, none⟩ = some (.string nm) := ((ba wr _).cell (p := ⟨wq.heap.size, 0, none⟩) (Nat.lt_of_lt_of_le hz0 hzr)).trans d2
            cases heq : decide (nm2 = nm) with
            | true =>
              have HE2 : Hid (decide (nm2 = nm) = true) := heq
              have hq : (nm2.toList == nm.toList) = true := (str_eq _ _).trans heq
              clear heq
              obtain rfl : 7 = er := by
                rw [← HR.out, HE.out, ST.out, HN.out, any_hit HG2.out HE2.out]; simp
              go_wp2
              go_ret
              exact ⟨rfl, bal hbr _⟩
            | false =>
              have HE2 : Hid (decide (nm2 = nm) = false) := heq
              have hq : (nm2.toList == nm.toList) = false := (str_eq _ _).trans heq
              clear heq
              go_wp2
              go_roundw
              case rel => exact ⟨j + 1, by go_num, hj1, by show _ = _; rw [any_step HG2.out, HJ.out, HE2.out]; rfl, bal hbi _⟩
              case measure => simp [intOf]; omega
          · have HA : Hid ((l.take i).any (fun d => decide (d.1 = nm)) = false) := by
              have := HJ.out; rwa [List.take_of_length_le (by rw [hti.out]; omega)] at this
            by_cases hz : sz < 1 ∨ 4096 < sz
            · obtain rfl : 3 = er := by rw [← HR.out, HE.out, ST.out, HN.out, HA.out]; simp [hz]
              by_cases hz1 : sz < 1
              · clear hz
                go_wp2
                go_ret
                exact ⟨rfl, hbr⟩
              · have hz2 : 4096 < sz := by omega
                clear hz
                go_wp2
                go_ret
                exact ⟨rfl, hbr⟩
            · have HI2 : Hid (colL (l.take (i + 1)) (l.drop (i + 1)) = colL [] l) := by show _ = _; rw [ST.out, HN.out, HA.out]; simp [hz]
              have hz1 : ¬ sz < 1 := by omega
              have hz2 : ¬ 4096 < sz := by omega
              clear hz
              by_cases hk2 : k ≤ 4096
              · have HK2 : Hid (KP (prd (l.take (i + 1))) (k * sz.toNat)) := by show KP _ _; rw [HPN.out]; exact HK.out.lo hk2 (by omega)
                have HKI : Hid ((k : Int) * sz = ((k * sz.toNat : Nat) : Int)) := by
                  show _ = _
                  rw [Int.natCast_mul, Int.toNat_of_nonneg (by omega)]
                have hw : wrap64 ((k : Int) * sz) = (k : Int) * sz := wrap_id (by have := HKI.out; have := HK2.out.1; omega)
                go_wp2
                go_roundw
                case rel => exact ⟨i + 1, k * sz.toNat, by first | exact congrArg _ HKI.out | (rw [hw]; exact congrArg _ HKI.out), by go_num, h1, HI2, HK2, hbr⟩
                case measure => simp [intOf]; omega
              · have HK2 : Hid (KP (prd (l.take (i + 1))) k) := by show KP _ _; rw [HPN.out]; exact HK.out.hi (by omega) (by omega)
                go_wp2
                go_roundw
                case rel => exact ⟨i + 1, k, rfl, by go_num, h1, HI2, HK2, hbr⟩
                case measure => simp [intOf]; omega
    · have HN : Hid (colL [] l = 0) := by have := HI.out; rw [List.drop_eq_nil_of_le (by omega)] at this; exact this.symm.trans rfl
      have HK2 : Hid (KP (prd l) k) := by have := HK.out; rwa [List.take_of_length_le (by omega)] at this
      have hk16 : k ≤ 16777216 := HK.out.1
      by_cases hpz : 4096 < k
      · obtain rfl : 4 = er := by rw [← HR.out, HE.out, HN.out, if_pos rfl, if_pos (by have := HK2.out.2.1; omega)]
        go_wp2
        go_ret
        exact ⟨rfl, hbl⟩
      · obtain rfl : 0 = er := by rw [← HR.out, HE.out, HN.out, if_pos rfl, if_neg (by have := HK2.out.2.2; omega)]
        go_wp2
        go_ret
        exact ⟨rfl, hbl⟩
end Go.Proofs.YtkpjjiomfgkobaaDoor
