import Derived.Test.YtnoedkebmpfagaaWsx
/-
  The reference's Feed.
-/
namespace Go.Proofs.Ytnoedkebmpfagaa
open Go.RowKit Wc

def szOf (v : Value) : Nat := match v with | .string s => s.size | _ => 0
theorem w64b {x : Nat} (h : x < 256) : wrap64 (x : Int) = (x : Int) := by unfold wrap64; omega
theorem be_wrap {a b c d n : Nat} (ha : a < 256) (hb : b < 256) (hc : c < 256) (hd : d < 256) (hn : n = a * 16777216 + b * 65536 + c * 256 + d) : wrap64 (wrap64 (wrap64 (wrap64 (wrap64 (a : Int) * 16777216) + wrap64 (wrap64 (b : Int) * 65536)) + wrap64 (wrap64 (c : Int) * 256)) + wrap64 (d : Int)) = (n : Int) := by
  have wi : ∀ m : Int, 0 ≤ m → m ≤ 9223372036854775807 → wrap64 m = m := fun m h1 h2 => by unfold wrap64; omega
  have e0 := wi (a : Int) (by omega) (by omega)
  have e1 := wi (b : Int) (by omega) (by omega)
  have e2 := wi (c : Int) (by omega) (by omega)
  have e3 := wi (d : Int) (by omega) (by omega)
  have e4 := wi ((a : Int) * 16777216) (by omega) (by omega)
  have e5 := wi ((b : Int) * 65536) (by omega) (by omega)
  have e6 := wi ((c : Int) * 256) (by omega) (by omega)
  have e7 := wi ((a : Int) * 16777216 + (b : Int) * 65536) (by omega) (by omega)
  have e8 := wi ((a : Int) * 16777216 + (b : Int) * 65536 + (c : Int) * 256) (by omega) (by omega)
  have e9 := wi ((a : Int) * 16777216 + (b : Int) * 65536 + (c : Int) * 256 + (d : Int)) (by omega) (by omega)
  rw [e0, e1, e2, e3, e4, e5, e6, e7, e8, e9]
  omega
set_option maxHeartbeats 600000 in
set_option maxRecDepth 100000 in
theorem rfeed_any (t : By) (ht : t.length ≤ 1099511627776) (w : World) (L : List By) (rest : By) (kk : Bool) (hF : feedT t = (L, rest, kk)) :
    Calls Try.prog 15 #[.string (tx t)] w fun e w' => ∃ fa fc, e = .returned (.tuple #[.slice fa L.length fc, .string (tx rest), .bool kk]) ∧ RowS w' w.heap.size (.slice fa L.length fc) L ∧ Below w.heap.size w w' := by
  have HF : Hid (feedT t = (L, rest, kk)) := hF
  clear hF
  go_enter Try.func15, Try.ntmps15
  go_wp2_with fail
  go_loopw [0, 5] (fun bv ov wr => ∃ (Z : By) (fs : List By) (oa : Option Addr) (oc : Nat), bv = .string (tx Z) ∧ ov = .slice oa fs.length oc ∧ Hid ((fs ++ (feedT Z).1, (feedT Z).2) = (L, rest, kk)) ∧ Hid (RowS wr w.heap.size (.slice oa fs.length oc) fs) ∧ Hid (Below w.heap.size w wr) ∧ fs.length + Z.length ≤ 1099511627776) (fun bv _ _ => szOf bv)
  case atStart => exact ⟨t, [], none, 0, rfl, rfl, by rw [Hid, List.nil_append]; exact HF.out, ⟨rfl, .inl ⟨rfl, rfl⟩⟩, Below.refl _ _, by rw [List.length_nil, Nat.zero_add]; exact ht⟩
  case round =>
    obtain ⟨Z, fs, oa, oc, rfl, rfl, HE, HR, HB, hl⟩ := hrel
    have hsz := tx_size Z
    have hbz := HB.out.size
    by_cases c4 : 4 ≤ Z.length
    · have z4 : (4 : Int) ≤ (Z.length : Int) := by omega
      obtain ⟨a, b, c, d, r, hZ⟩ : ∃ a b c d r, Z = a :: b :: c :: d :: r := by
        match Z, c4 with
        | a :: b :: c :: d :: r, _ => exact ⟨a, b, c, d, r, rfl⟩
      have i0 : ∀ h, (tx Z)[0]'h = a := fun h => by subst hZ; rfl
      have i1 : ∀ h, (tx Z)[1]'h = b := fun h => by subst hZ; rfl
      have i2 : ∀ h, (tx Z)[2]'h = c := fun h => by subst hZ; rfl
      have i3 : ∀ h, (tx Z)[3]'h = d := fun h => by subst hZ; rfl
      have hbe : be4 Z = a.toNat * 16777216 + b.toNat * 65536 + c.toNat * 256 + d.toNat := by rw [hZ]; rfl
      have ha := a.toNat_lt
      have hb := b.toNat_lt
      have hc := c.toNat_lt
      have hd := d.toNat_lt
      simp only [Nat.reducePow] at ha hb hc hd
      obtain ⟨n, hn⟩ : ∃ n, be4 Z = n := ⟨_, rfl⟩
      rw [hn] at hbe
      have HN : Hid (be4 Z = n) := hn
      have y0 : (0 : Int) < (Z.length : Int) := by omega
      have y1 : (1 : Int) < (Z.length : Int) := by omega
      have y2 : (2 : Int) < (Z.length : Int) := by omega
      have y3 : (3 : Int) < (Z.length : Int) := by omega
      have HBE : Hid (n = a.toNat * 16777216 + b.toNat * 65536 + c.toNat * 256 + d.toNat) := hbe
      have HLT : Hid (a.toNat < 256 ∧ b.toNat < 256 ∧ c.toNat < 256 ∧ d.toNat < 256) := ⟨ha, hb, hc, hd⟩
      clear hbe ha hb hc hd
      clear hZ hn
      go_wp2_with fail
      go_quiet (fail)
      rename_i nq
      obtain ⟨ha, hb, hc, hd⟩ := HLT.out
      have hbe := HBE.out
      have hv := be_wrap ha hb hc hd hbe
      rw [hv]
      obtain ⟨X, hX⟩ : ∃ X, wr.drewN nq = X := ⟨_, rfl⟩
      have bX : Below w.heap.size w X := by rw [← hX]; exact belN HB.out nq
      have HRX : Hid (RowS X w.heap.size (.slice oa fs.length oc) fs) := by rw [← hX]; exact row_gb HR.out (gb_none (belN (Below.refl _ wr) nq)) (by simp)
      have hXz := bX.size
      rw [hX]
      clear hX hv HR i0 i1 i2 i3 ha hb hc hd y0 y1 y2 y3 hbe HBE HLT
      by_cases n0 : n = 0
      · subst n0
        have HQ : Hid (L = fs ∧ rest = [] ∧ kk = true) := by
          have hq := HE.out
          rw [feedT_bad c4 (.inl HN.out)] at hq
          simp only [List.append_nil, Prod.mk.injEq] at hq
          exact ⟨hq.1.symm, hq.2.1.symm, hq.2.2.symm⟩
        clear HE
        go_wp2
        go_ret3
        obtain ⟨rfl, rfl, rfl⟩ := HQ.out
        exact ⟨oa, oc, rfl, HRX.out, bX⟩
      · have n1 : ¬ (n : Int) < 1 := by omega
        by_cases n2 : 65536 < n
        · have n3 : (65536 : Int) < (n : Int) := by omega
          have HQ : Hid (L = fs ∧ rest = [] ∧ kk = true) := by
            have hq := HE.out
            rw [feedT_bad c4 (.inr (by rw [HN.out]; exact n2))] at hq
            simp only [List.append_nil, Prod.mk.injEq] at hq
            exact ⟨hq.1.symm, hq.2.1.symm, hq.2.2.symm⟩
          clear HE
          go_wp2
          go_ret3
          obtain ⟨rfl, rfl, rfl⟩ := HQ.out
          exact ⟨oa, oc, rfl, HRX.out, bX⟩
        · have n3 : ¬ (65536 : Int) < (n : Int) := by omega
          have n4 : IntKind.i64.wrap (4 + (n : Int)) = ((4 + n : Nat) : Int) := by rw [IntKind.wrap_i64]; omega
          by_cases n5 : Z.length < 4 + n
          · have n6 : (Z.length : Int) < 4 + (n : Int) := by omega
            have HQ : Hid (L = fs ∧ rest = Z ∧ kk = false) := by
              have hq := HE.out
              rw [feedT_wait c4 (by rw [HN.out]; omega) (by rw [HN.out]; exact n5)] at hq
              simp only [List.append_nil, Prod.mk.injEq] at hq
              exact ⟨hq.1.symm, hq.2.1.symm, hq.2.2.symm⟩
            clear HE
            go_wp2
            go_ret3
            obtain ⟨rfl, rfl, rfl⟩ := HQ.out
            exact ⟨oa, oc, rfl, HRX.out, bX⟩
          · have n6 : ¬ (Z.length : Int) < 4 + (n : Int) := by omega
            have HE2 : Hid (((fs ++ [(Z.drop 4).take n]) ++ (feedT (Z.drop (4 + n))).1, (feedT (Z.drop (4 + n))).2) = (L, rest, kk)) := by
              have hq := HE.out
              rw [feedT_next c4 (by rw [HN.out]; omega) (by rw [HN.out]; exact n5), HN.out] at hq
              rw [Hid, ← hq, List.append_assoc]
              rfl
            have hx1 : (tx Z).extract 4 (4 + n) = tx ((Z.drop 4).take n) := by rw [tx_ext]; congr 3; omega
            have hx2 : (tx Z).extract (4 + n) Z.length = tx (Z.drop (4 + n)) := by rw [tx_ext, List.take_of_length_le (by simp)]
            have hx3 : (tx Z).extract (4 + n) (tx Z).size = tx (Z.drop (4 + n)) := by rw [hsz]; exact hx2
            have hl2 : (fs ++ [(Z.drop 4).take n]).length + (Z.drop (4 + n)).length ≤ 1099511627776 := by simp; omega
            have hms : (Z.drop (4 + n)).length < Z.length := by simp; omega
            have bA : Below X.heap.size X (X.alloc (.cells #[.string (tx ((Z.drop 4).take n))] 9)) := ba _ _
            have hS : Stl (X.alloc (.cells #[.string (tx ((Z.drop 4).take n))] 9)) (X.heap.size + 1) (.slice (some ⟨X.heap.size, 0, none⟩) 1 1) [(Z.drop 4).take n] := ⟨_, _, rfl, by simp, by simp, fun _ => ⟨X.heap.size, 0, rfl, by omega, fun j s hj => by
              have hj0 : j = 0 := by have := (List.getElem?_eq_some_iff.1 hj).1; simp at this; omega
              subst hj0
              simp only [List.getElem?_cons_zero, Option.some.injEq] at hj
              subst hj
              exact nc _ _ 0 _ rfl rfl⟩⟩
            obtain ⟨v', w5, hr, hR5, hg5, -⟩ := run_appS (row_gb HRX.out (gb_none bA) (by simp)) 35 hS (by simp; omega) (by have := bA.size; omega)
            obtain ⟨na, nc', rfl⟩ := row_slice hR5
            have HR5 : Hid (RowS w5 w.heap.size (.slice na (fs ++ [(Z.drop 4).take n]).length nc') (fs ++ [(Z.drop 4).take n])) := hR5
            have HB5 : Hid (Below w.heap.size w w5) := (bX.trans (bA.mono hXz)).grown hg5 (by have := bA.size; omega) (fun y e => (row_lt HRX.out e).1)
            have hL1 : (fs ++ [(Z.drop 4).take n]).length = fs.length + 1 := by simp
            have HL1 : Hid ((fs ++ [(Z.drop 4).take n]).length = fs.length + 1) := hL1
            rw [hL1] at hr
            obtain ⟨T1, hT1⟩ : ∃ T1, (Z.drop 4).take n = T1 := ⟨_, rfl⟩
            obtain ⟨T2, hT2⟩ : ∃ T2, Z.drop (4 + n) = T2 := ⟨_, rfl⟩
            rw [hT1] at hr hx1 HR5 HE2 HL1 hl2
            rw [hT2] at hx2 hx3 HE2 hl2 hms
            have m1 : (4 : Int) ≤ ((4 + n : Nat) : Int) := by omega
            have m2 : ((4 + n : Nat) : Int) ≤ (Z.length : Int) := by omega
            have HL2 : Hid ((fs ++ [T1]).length + T2.length ≤ 1099511627776) := hl2
            have HMS : Hid (T2.length < Z.length) := hms
            clear hR5 hg5 hS bA hL1 hT1 hT2 HE HN hl2 hms
            go_wp2_with (at_builtin; refine wpList_app rfl _ _ 35 35 rfl (.slice oa fs.length oc) (.slice (some ⟨X.heap.size, 0, none⟩) 1 1) _ w5 rfl rfl hr ?_)
            go_wp2
            go_roundw
            case rel => exact ⟨T2, fs ++ [T1], na, nc', by rw [hx2], by rw [HL1.out], HE2, HR5, HB5, HL2.out⟩
            case measure => simp only [szOf, hx2, tx_size]; exact HMS.out
    · have z4 : ¬ (4 : Int) ≤ (Z.length : Int) := by omega
      have HQ : Hid (L = fs ∧ rest = Z ∧ kk = false) := by
        have hq := HE.out
        rw [feedT_few c4] at hq
        simp only [List.append_nil, Prod.mk.injEq] at hq
        exact ⟨hq.1.symm, hq.2.1.symm, hq.2.2.symm⟩
      clear HE
      go_wp2
      go_ret3
      obtain ⟨rfl, rfl, rfl⟩ := HQ.out
      exact ⟨oa, oc, rfl, HR.out, HB.out⟩
end Go.Proofs.Ytnoedkebmpfagaa
