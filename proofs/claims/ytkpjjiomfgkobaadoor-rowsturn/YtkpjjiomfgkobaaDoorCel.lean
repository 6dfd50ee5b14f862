import Derived.Test.YtkpjjiomfgkobaaDoorWro
import Derived.Deep.RegionHeld3
import Derived.BigRegion
namespace Go.Proofs.YtkpjjiomfgkobaaDoor
open Go.RowKit Go.Proofs.YtkpjjiomfgkobaaDoor.Ds

theorem rowOk_at {l : List Col} {r : List Int} (h : RowOk l r) {i : Nat} {c : Col} {v : Int} (hc : l[i]? = some c) (hv : r[i]? = some v) : 0 ≤ v ∧ v < c.2 := by
  induction l generalizing r i with
  | nil => simp at hc
  | cons d l ih =>
    cases r with
    | nil => simp at hv
    | cons x r =>
      cases i with
      | zero => simp at hc hv; subst hc; subst hv; exact ⟨h.1, h.2.1⟩
      | succ i => simp at hc hv; exact ih h.2.2 hc hv
theorem plcF_step {l : List Col} {r : List Int} {i k : Nat} {c : Col} {v : Int} (hc : l[i]? = some c) (hv : r[i]? = some v) : plcF k (l.drop i) (r.drop i) = plcF (k * c.2.toNat + v.toNat) (l.drop (i + 1)) (r.drop (i + 1)) := by
  rw [List.drop_eq_getElem_cons (List.getElem?_eq_some_iff.1 hc).1, (List.getElem?_eq_some_iff.1 hc).2, List.drop_eq_getElem_cons (List.getElem?_eq_some_iff.1 hv).1, (List.getElem?_eq_some_iff.1 hv).2]
  rfl

set_option maxHeartbeats 1000000 in
theorem place_any (B Bi nb : Nat) (v u : Value) (l : List Col) (r : List Int) (w : World) (hB : B ≤ w.heap.size) (hp : Cols w B v l) (hBi : Bi ≤ w.heap.size) (hq : Ints w Bi nb u r) (hs : Szs l) (hle : prd l ≤ 4096) (ho : RowOk l r) (k0 : Nat) (hr : plc l r = k0) :
    Calls Tryd.prog 37 #[v, u] w fun e w' => e = .returned (.int .i64 (k0 : Int)) ∧ Below w.heap.size w w' := by
  have HP : Hid (Cols w B v l) := hp
  have HQ : Hid (Ints w Bi nb u r) := hq
  have HR : Hid (plcF 0 l r = k0) := by show _ = _; rw [plcF_eq ho, hr]; omega
  have HO : Hid (RowOk l r ∧ Szs l ∧ prd l ≤ 4096) := ⟨ho, hs, hle⟩
  have HLN : Hid (r.length = l.length) := ho.len
  obtain ⟨a, c, rfl, hc, hl⟩ := hp.slice
  obtain ⟨a2, c2, rfl, hc2, hl2⟩ := hq.slice
  clear hr hs hle ho
  go_enter Tryd.func37, Tryd.ntmps37
  go_wp2
  go_loopw [5, 10] (fun nv s wr => ∃ (i k : Nat), nv = .int .i64 (k : Int) ∧ s = .int .i64 (i : Int) ∧ i ≤ l.length ∧ Hid (plcF k (l.drop i) (r.drop i) = k0) ∧ Hid (k < prd (l.take i)) ∧ Below w.heap.size w wr) (fun _ s _ => l.length - (intOf s).toNat)
  case atStart => exact ⟨0, 0, rfl, rfl, Nat.zero_le _, by simpa [Hid] using HR.out, by simp [Hid, prd], Below.refl _ _⟩
  case round =>
    obtain ⟨i, k, rfl, rfl, hi, HI, HK, hbl⟩ := hrel
    by_cases h1 : i < l.length
    · obtain ⟨b, o, nm, sz, rfl, hb, hg, c1, c2, hn⟩ := HP.out.get hB hbl h1
      obtain ⟨b2, o2, x, rfl, hb2, _, hg2, e1⟩ := HQ.out.get hBi hbl (i := i) (by have := HLN.out; omega)
      have z1 : (i : Int) < (r.length : Int) := by have := HLN.out; omega
      have hsz := HO.out.2.1 _ (List.mem_of_getElem? hg)
      simp only at hsz
      have hx := rowOk_at HO.out.1 hg hg2
      simp only at hx
      have HI2 : Hid (plcF (k * sz.toNat + x.toNat) (l.drop (i + 1)) (r.drop (i + 1)) = k0) := (plcF_step hg hg2).symm.trans HI.out
      have HK2 : Hid (k * sz.toNat + x.toNat < prd (l.take (i + 1))) := by
        show _ < _
        rw [prd_next hg]
        have h2 : (k + 1) * sz.toNat ≤ prd (l.take i) * sz.toNat := Nat.mul_le_mul_right _ HK.out
        rw [Nat.add_mul] at h2
        simp only
        omega
      have HK3 : Hid (k * sz.toNat + x.toNat ≤ 4096) := by
        have h3 := prd_pre HO.out.2.1 (i + 1)
        have := HK2.out
        have := HO.out.2.2
        show _ ≤ _
        omega
      have HM : Hid ((k : Int) * sz = ((k * sz.toNat : Nat) : Int)) := by
        show _ = _
        rw [Int.natCast_mul, Int.toNat_of_nonneg (by omega)]
      have hw : wrap64 ((k : Int) * sz) = (k : Int) * sz := wrap_id (by have := HM.out; have := HK3.out; omega)
      have hw2 : wrap64 ((k : Int) * sz + x) = (k : Int) * sz + x := wrap_id (by have := HM.out; have := HK3.out; omega)
      have d1 : (wr.alloc (.cells #[.string nm, .int .i64 sz] 52)).cell? ⟨b2, o2 + i, none⟩ = some (.int .i64 x) := ((ba wr _).cell (p := ⟨b2, o2 + i, none⟩) (by have := hbl.size; simp; omega)).trans e1
      clear hg hg2 HI
      go_wp2
      go_quiet (fail)
      go_wp2
      go_roundw
      case rel => exact ⟨i + 1, k * sz.toNat + x.toNat, by have := HM.out; first | go_num | (simp [hw, hw2]; omega), by go_num, h1, HI2, HK2, below_drewN (bal hbl _) _⟩
      case measure => simp [intOf]; omega
    · have HN : Hid (k = k0) := by
        have := HI.out
        rw [List.drop_eq_nil_of_le (by omega)] at this
        exact this
      go_wp2
      go_ret
      exact ⟨by rw [← HN.out]; rfl, hbl⟩
end Go.Proofs.YtkpjjiomfgkobaaDoor
