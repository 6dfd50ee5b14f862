import Derived.Test.YtejeiahbnnechaaWro
import Derived.Laws.StructEq
namespace Go.Proofs.Ytejeiahbnnechaa
open Go.RowKit Go.Proofs.Ytejeiahbnnechaa.Ds
theorem col_struct : Try.prog.underlying 58 = some (.struct (Try.prog.fieldsOf 58)) := by rw [Program.fieldsOf, Try.underlying58]
theorem col_held : Try.prog.stoodInHeld 58 = false := by kernel_rfl
theorem col_guard : Try.prog.eqGuardType Try.prog.depth 58 = false := by kernel_rfl
theorem col_fields : ∃ f0 f1 : Field, (Try.prog.fieldsOf 58).toList = [f0, f1] ∧ f0.name ≠ "_" ∧ f1.name ≠ "_" ∧ f0.type = 9 ∧ f1.type = 3 ∧ f0.offset = 0 ∧ f1.offset = 1 := by
  refine ⟨_, _, by rw [Program.fieldsOf, Try.underlying58], by decide, by decide, rfl, rfl, rfl, rfl⟩
theorem col_neq (n1 n2 : ByteArray) (s1 s2 : Int) (r : Bool) (hr : (!decide ((n1, s1) = (n2, s2))) = r) (u : World) : (binOp .neq 58 (.agg #[.string n1, .int .i64 s1]) (.agg #[.string n2, .int .i64 s2])).run Try.prog u = .ok (.bool r) u := by
  obtain ⟨f0, f1, hf, n0, n1', t0, t1, o0, o1⟩ := col_fields
  rw [run_neq_struct, run_equalIn_struct u 9999 58 _ _ col_struct col_held, hf, ← hr]
  simp [Op.eqFields, n0, n1', t0, t1, o0, o1, go_sem, Try.underlying9, Try.underlying3, str_eq]
  by_cases h1 : n1 = n2 <;> by_cases h2 : s1 = s2 <;> simp [h1, h2]

theorem take_next {α : Type} {l m : List α} {i : Nat} {x : α} (h : l.take i = m.take i) (h1 : l[i]? = some x) (h2 : m[i]? = some x) : l.take (i + 1) = m.take (i + 1) := by
  rw [List.take_add_one, List.take_add_one, h, h1, h2]

set_option maxHeartbeats 1000000 in
theorem equal_any (B : Nat) (u v : Value) (l m : List Col) (w : World) (hB : B ≤ w.heap.size) (hp : Cols w B u l) (hq : Cols w B v m) (r : Bool) (hr : decide (l = m) = r) :
    Calls Try.prog 40 #[u, v] w fun e w' => e = .returned (.bool r) ∧ Below w.heap.size w w' := by
  have HP : Hid (Cols w B u l) := hp
  have HQ : Hid (Cols w B v m) := hq
  have HR : Hid (decide (l = m) = r) := hr
  obtain ⟨a, c, rfl, hc, hl⟩ := hp.slice
  obtain ⟨a2, c2, rfl, hc2, hl2⟩ := hq.slice
  clear hr
  go_enter Try.func40, Try.ntmps40
  by_cases hlen : l.length = m.length
  · have hle2 : (((l.length : Int)) != (m.length : Int)) = false := by simp [hlen]
    have HLN : Hid (l.length = m.length) := hlen
    clear hlen
    go_wp2
    go_loopw [13] (fun s wr => ∃ i : Nat, s = .int .i64 (i : Int) ∧ i ≤ l.length ∧ Hid (l.take i = m.take i) ∧ Below w.heap.size w wr) (fun s _ => l.length - (intOf s).toNat)
    case atStart => exact ⟨0, rfl, Nat.zero_le _, by simp [Hid], Below.refl _ _⟩
    case round =>
      obtain ⟨i, rfl, hi, HT, hbl⟩ := hrel
      by_cases h1 : i < l.length
      · obtain ⟨b, o, nm, sz, rfl, hb, hg, c1, c2', hn⟩ := HP.out.get hB hbl h1
        obtain ⟨b2, o2, nm2, sz2, rfl, hb2, hg2, d1, d2, hn2⟩ := HQ.out.get hB hbl (i := i) (by have := HLN.out; omega)
        have HG : Hid (l[i]? = some (nm, sz)) := hg
        have HG2 : Hid (m[i]? = some (nm2, sz2)) := hg2
        have z1 : (i : Int) < (m.length : Int) := by have := HLN.out; omega
        have hgd := col_guard
        clear hg hg2
        by_cases he : (nm, sz) = (nm2, sz2)
        · have hbn := col_neq nm nm2 sz sz2 false (by rw [decide_eq_true he]; rfl)
          have HX : Hid ((nm, sz) = (nm2, sz2)) := he
          clear he
          go_wp2
          go_quiet (fail)
          go_wp2
          go_roundw
          case rel => exact ⟨i + 1, by go_num, h1, take_next HT.out HG.out (by rw [HG2.out, HX.out]), below_drewN hbl _⟩
          case measure => simp [intOf]; omega
        · have hbn := col_neq nm nm2 sz sz2 true (by rw [decide_eq_false he]; rfl)
          obtain rfl : false = r := by
            rw [← HR.out]
            refine (decide_eq_false fun h => he ?_).symm
            have := HG.out
            rw [h, HG2.out] at this
            exact (Option.some.inj this).symm
          clear he
          go_wp2
          go_quiet (fail)
          go_wp2
          go_ret
          exact ⟨rfl, below_drewN hbl _⟩
      · obtain rfl : true = r := by
          rw [← HR.out]
          refine (decide_eq_true ?_).symm
          have := HT.out
          rwa [List.take_of_length_le (by omega), List.take_of_length_le (by have := HLN.out; omega)] at this
        go_wp2
        go_ret
        exact ⟨rfl, hbl⟩
  · have hle2 : (((l.length : Int)) != (m.length : Int)) = true := by simp; omega
    obtain rfl : false = r := by
      rw [← HR.out]
      exact (decide_eq_false fun h => hlen (by rw [h])).symm
    go_wp2
    go_ret
    exact ⟨rfl, Below.refl _ _⟩

/-- with the rows in one order -/
def sameB (l m : List Col) (rs us : List (List Int)) : Bool := decide (l = m ∧ rs = us)
end Go.Proofs.Ytejeiahbnnechaa
