import Derived.Test.YtkpjjiomfgkobaaDoorLin
import Derived.Lib.ConvBytes
import Derived.Lib.Walk
import Derived.Laws.Strings3
import Derived.Laws.Closers25
import Derived.Laws.Closers25b
namespace Go.Proofs.YtkpjjiomfgkobaaDoor
open Go.RowKit Go.Proofs.YtkpjjiomfgkobaaDoor.Ds

set_option maxHeartbeats 4000000 in
set_option maxRecDepth 100000 in
/-- a number that is written in digits, below 2 to the 31st -/
theorem pui_any (t : ByteArray) (u : Nat) (hdg : t.data.toList.all digB = true) (hne : t.size ≠ 0) (hsz : t.size ≤ 65536) (hv : valT 0 t.data.toList = u) (hu : u < 2147483648) (w : World) :
    Calls Tryd.prog 80 #[.string t, .int .i64 10, .int .i64 31] w fun e w' => e = .returned (.tuple #[.int .u64 (u : Int), .nilIface]) ∧ Below w.heap.size w w' := by
  have hemp : t.toList.isEmpty = false := by
    rw [← decide_eq_emptyBytes]
    exact decide_eq_false (fun h => hne (by rw [h]; rfl))
  have hcv := Lib.run_convert_string_bytes (P := Tryd.prog) w 9 43 5 t (u := .string) Tryd.underlying9 Tryd.underlying43 Tryd.underlying5
  have hB : ∀ j, j < t.size → (Lib.bytesWorld w 5 t).cell? ⟨w.heap.size, j, none⟩ = some (.int .u8 (t.data.toList.getD j 0).toNat) := fun j hj => Lib.bytesWorld_cell w 5 t j hj
  obtain ⟨W1, hW1⟩ : ∃ W1, W1 = Lib.bytesWorld w 5 t := ⟨_, rfl⟩
  have hbW : Below w.heap.size w W1 := by
    rw [hW1]
    exact ⟨rfl, rfl, rfl, by rw [Lib.bytesWorld_size]; omega, fun k hk => Lib.bytesWorld_at_old w 5 t k hk⟩
  rw [← hW1] at hcv hB
  clear hW1
  have HLN : Hid (t.data.toList.length = t.size) := by simp [Hid]
  have HV : Hid (valT 0 t.data.toList = u) := hv
  have HD : Hid (t.data.toList.all digB = true) := hdg
  have HBB : Hid (∀ j, j < t.size → W1.cell? ⟨w.heap.size, j, none⟩ = some (.int .u8 (t.data.toList.getD j 0).toNat)) := hB
  have hmv : IntKind.u64.wrap (IntKind.u64.wrap 2147483648 - 1) = 2147483647 := by
    rw [IntKind.wrap_u64, IntKind.wrap_u64]
    decide
  clear hv hdg hB
  go_enter Tryd.func80, Tryd.ntmps80
  go_wp2
  go_loop [12, 13, 101] (fun vu vn vi => ∃ (k acc : Nat), vu = .bool false ∧ vn = .int .u64 (acc : Int) ∧ vi = .int .i64 (k : Int) ∧ k ≤ t.size ∧ Hid (valT 0 (t.data.toList.take k) = acc))
    (fun _ _ vi => t.size - (intOf vi).toNat)
  case atStart => exact ⟨0, 0, rfl, rfl, rfl, by omega, by simp [Hid, valT_nil]⟩
  case round =>
    obtain ⟨k, acc, rfl, rfl, rfl, hk, HI⟩ := hrel
    by_cases hkn : k < t.size
    · have hc := HBB.out k hkn
      obtain ⟨c, hg⟩ := get_lt (l := t.data.toList) (i := k) (by rw [HLN.out]; exact hkn)
      rw [List.getD, hg, Option.getD_some] at hc
      have hcd : digB c = true := List.all_eq_true.1 HD.out c (List.mem_of_getElem? hg)
      simp only [digB, Bool.and_eq_true, decide_eq_true_eq] at hcd
      have hd0 := hcd.1
      have hd1 := hcd.2
      have hnx := valT_next hg
      rw [HI.out] at hnx
      have hle := valT_pre t.data.toList (k + 1)
      rw [hnx, HV.out] at hle
      have HNX : Hid (valT 0 (t.data.toList.take (k + 1)) = acc * 10 + (c.toNat - 48)) := hnx
      have hc256 : c.toNat < 256 := c.toNat_lt
      obtain ⟨a, HA⟩ : ∃ a : Int, Hid ((acc : Int) = a) := ⟨_, rfl⟩
      rw [HA.out]
      have a0 : 0 ≤ a := by rw [← HA.out]; omega
      have a1 : a ≤ 214748364 := by rw [← HA.out]; omega
      have iov : a * 10 + ((c.toNat : Int) - 48) ≤ 2147483647 := by rw [← HA.out]; omega
      have HN : Hid (a * 10 + ((c.toNat : Int) - 48) = ((acc * 10 + (c.toNat - 48) : Nat) : Int)) := by show _ = _; rw [← HA.out]; omega
      clear hnx hle hg hcd
      go_wp2
      refine ⟨⟨k + 1, acc * 10 + (c.toNat - 48), rfl, ?_, ?_, by omega, HNX⟩, by simp [intOf]; omega⟩
      · rw [← HN.out]
      · first | rfl | (congr 1; omega)
    · have hkk : k = t.size := by omega
      have HF : Hid (acc = u) := by
        have := HI.out
        rw [List.take_of_length_le (by rw [HLN.out]; omega), HV.out] at this
        exact this.symm
      go_wp2
      go_ret2
      exact ⟨by rw [HF.out]; rfl, hbW⟩

theorem puo_any (t : ByteArray) (u : Nat) (hdg : t.data.toList.all digB = true) (hne : t.size ≠ 0) (hsz : t.size ≤ 65536) (hv : valT 0 t.data.toList = u) (hu : u < 2147483648) (w : World) :
    Calls Tryd.prog 70 #[.string t, .int .i64 10, .int .i64 31] w fun e w' => e = .returned (.tuple #[.int .u64 (u : Int), .nilIface]) ∧ Below w.heap.size w w' := by
  have kc := pui_any t u hdg hne hsz hv hu w
  clear hdg hv
  go_enter Tryd.func70, Tryd.ntmps70
  go_wp2_with fail
  refine kc.mono ?_
  rintro e w1 ⟨rfl, hb1⟩
  clear kc
  go_wp2
  go_ret2
  exact ⟨rfl, hb1⟩
end Go.Proofs.YtkpjjiomfgkobaaDoor
