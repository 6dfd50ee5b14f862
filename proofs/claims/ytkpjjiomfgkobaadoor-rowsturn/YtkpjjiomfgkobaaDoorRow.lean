import Derived.Test.YtkpjjiomfgkobaaDoorClu
namespace Go.Proofs.YtkpjjiomfgkobaaDoor
open Go.RowKit Go.Proofs.YtkpjjiomfgkobaaDoor.Ds

theorem Ints.slice {w : World} {B nb : Nat} {v : Value} {xs : List Int} (h : Ints w B nb v xs) : ∃ a c, v = .slice a xs.length c ∧ xs.length ≤ c ∧ xs.length ≤ 9223372036854775807 := by
  obtain ⟨a, c, hv, hc, hl, _⟩ := h
  exact ⟨a, c, hv, hc, hl⟩
theorem Ints.get {w wr : World} {B nb : Nat} {a : Option Addr} {n c : Nat} {xs : List Int} (h : Ints w B nb (.slice a n c) xs) (hB : B ≤ w.heap.size) (hb : Below w.heap.size w wr) {i : Nat} (hi : i < xs.length) :
    ∃ b o x, a = some ⟨b, o, none⟩ ∧ b < B ∧ b ≠ nb ∧ xs[i]? = some x ∧ wr.cell? ⟨b, o + i, none⟩ = some (.int .i64 x) := by
  obtain ⟨a', c', hv, _, _, hx⟩ := h.at hB hb
  simp only [Value.slice.injEq] at hv
  obtain ⟨rfl, rfl, rfl⟩ := hv
  obtain ⟨b, o, rfl, hbB, hn, hcell⟩ := hx (ne_of_lt hi)
  obtain ⟨x, hx⟩ := get_lt hi
  exact ⟨b, o, x, rfl, hbB, hn, hx, hcell i _ hx⟩

set_option maxHeartbeats 1000000 in
theorem wrongRow_any (B Bi nb : Nat) (v u : Value) (l : List Col) (r : List Int) (w : World) (hB : B ≤ w.heap.size) (hp : Cols w B v l) (hBi : Bi ≤ w.heap.size) (hq : Ints w Bi nb u r) (er : Int) (hr : rowE l r = er) :
    Calls Tryd.prog 49 #[v, u] w fun e w' => e = .returned (.int .i64 er) ∧ w' = w := by
  have HP : Hid (Cols w B v l) := hp
  have HQ : Hid (Ints w Bi nb u r) := hq
  have HR : Hid (rowE l r = er) := hr
  obtain ⟨a, c, rfl, hc, hl⟩ := hp.slice
  obtain ⟨a2, c2, rfl, hc2, hl2⟩ := hq.slice
  clear hr
  go_enter Tryd.func49, Tryd.ntmps49
  by_cases hlen : l.length = r.length
  · have hle : (((r.length : Int)) != (l.length : Int)) = false := by simp [hlen]
    have HLN : Hid (l.length = r.length) := hlen
    have HE : Hid (rowE l r = rowL l r) := by show _ = _; rw [rowE, if_pos hlen]
    clear hlen
    go_wp2
    go_loopw [14] (fun s wr => ∃ (i : Nat), s = .int .i64 (i : Int) ∧ i ≤ r.length ∧ Hid (rowL (l.drop i) (r.drop i) = er) ∧ wr = w) (fun s _ => r.length - (intOf s).toNat)
    case atStart => exact ⟨0, rfl, Nat.zero_le _, by show _ = _; simpa using HE.out.symm.trans HR.out, rfl⟩
    case round =>
      obtain ⟨i, rfl, hi, HI, rfl⟩ := hrel
      by_cases h1 : i < r.length
      · obtain ⟨b, o, nm, sz, rfl, hb, hg, c1, c2, hn⟩ := HP.out.get hB (Below.refl _ _) (i := i) (by have := HLN.out; omega)
        obtain ⟨b2, o2, x, rfl, hb2, _, hg2, e1⟩ := HQ.out.get hBi (Below.refl _ _) h1
        have z1 : (i : Int) < (l.length : Int) := by have := HLN.out; omega
        have ST : Hid (er = if x < 0 ∨ sz ≤ x then 3 else rowL (l.drop (i + 1)) (r.drop (i + 1))) := HI.out.symm.trans (rowL_step hg hg2)
        clear hg hg2 HI
        by_cases hx0 : x < 0
        · obtain rfl : er = 3 := by rw [ST.out, if_pos (.inl hx0)]
          go_wp2
          go_ret
          exact ⟨rfl, rfl⟩
        · by_cases hx1 : sz ≤ x
          · obtain rfl : er = 3 := by rw [ST.out, if_pos (.inr hx1)]
            go_wp2
            go_ret
            exact ⟨rfl, rfl⟩
          · have HI2 : Hid (rowL (l.drop (i + 1)) (r.drop (i + 1)) = er) := by show _ = _; rw [ST.out, if_neg (by omega)]
            go_wp2
            go_roundw
            case rel => exact ⟨i + 1, by go_num, h1, HI2, trivial⟩
            case measure => simp [intOf]; omega
      · obtain rfl : 0 = er := by have := HI.out; rw [show r.drop i = [] from List.drop_eq_nil_of_le (by omega)] at this; rw [← this]; cases l.drop i <;> rfl
        go_wp2
        go_ret
        exact ⟨rfl, rfl⟩
  · have hle : (((r.length : Int)) != (l.length : Int)) = true := by simp; omega
    obtain rfl : 8 = er := by rw [← HR.out, rowE, if_neg hlen]
    go_wp2
    go_ret
    exact ⟨rfl, rfl⟩

set_option maxHeartbeats 1000000 in
theorem rrow_any (B Bi nb : Nat) (v u : Value) (l : List Col) (r : List Int) (w : World) (hB : B ≤ w.heap.size) (hp : Cols w B v l) (hBi : Bi ≤ w.heap.size) (hq : Ints w Bi nb u r) (er : Int) (hr : rowE l r = er) :
    Calls Tryd.prog 31 #[v, u] w fun e w' => e = .returned (.int .i64 er) ∧ w' = w := by
  have HP : Hid (Cols w B v l) := hp
  have HQ : Hid (Ints w Bi nb u r) := hq
  have HR : Hid (rowE l r = er) := hr
  obtain ⟨a, c, rfl, hc, hl⟩ := hp.slice
  obtain ⟨a2, c2, rfl, hc2, hl2⟩ := hq.slice
  clear hr
  go_enter Tryd.func31, Tryd.ntmps31
  by_cases hlen : l.length = r.length
  · have hle : (((l.length : Int)) != (r.length : Int)) = false := by simp [hlen]
    have HLN : Hid (l.length = r.length) := hlen
    have HE : Hid (rowE l r = rowL l r) := by show _ = _; rw [rowE, if_pos hlen]
    clear hlen
    go_wp2
    go_loopw [14] (fun s wr => ∃ (i : Nat), s = .int .i64 (i : Int) ∧ i ≤ r.length ∧ Hid (rowL (l.drop i) (r.drop i) = er) ∧ wr = w) (fun s _ => r.length - (intOf s).toNat)
    case atStart => exact ⟨0, rfl, Nat.zero_le _, by show _ = _; simpa using HE.out.symm.trans HR.out, rfl⟩
    case round =>
      obtain ⟨i, rfl, hi, HI, rfl⟩ := hrel
      by_cases h1 : i < r.length
      · obtain ⟨b, o, nm, sz, rfl, hb, hg, c1, c2, hn⟩ := HP.out.get hB (Below.refl _ _) (i := i) (by have := HLN.out; omega)
        obtain ⟨b2, o2, x, rfl, hb2, _, hg2, e1⟩ := HQ.out.get hBi (Below.refl _ _) h1
        have z1 : (i : Int) < (l.length : Int) := by have := HLN.out; omega
        have ST : Hid (er = if x < 0 ∨ sz ≤ x then 3 else rowL (l.drop (i + 1)) (r.drop (i + 1))) := HI.out.symm.trans (rowL_step hg hg2)
        clear hg hg2 HI
        by_cases hx0 : x < 0
        · obtain rfl : er = 3 := by rw [ST.out, if_pos (.inl hx0)]
          go_wp2
          go_ret
          exact ⟨rfl, rfl⟩
        · by_cases hx1 : sz ≤ x
          · obtain rfl : er = 3 := by rw [ST.out, if_pos (.inr hx1)]
            go_wp2
            go_ret
            exact ⟨rfl, rfl⟩
          · have HI2 : Hid (rowL (l.drop (i + 1)) (r.drop (i + 1)) = er) := by show _ = _; rw [ST.out, if_neg (by omega)]
            go_wp2
            go_roundw
            case rel => exact ⟨i + 1, by go_num, h1, HI2, trivial⟩
            case measure => simp [intOf]; omega
      · obtain rfl : 0 = er := by have := HI.out; rw [show r.drop i = [] from List.drop_eq_nil_of_le (by omega)] at this; rw [← this]; cases l.drop i <;> rfl
        go_wp2
        go_ret
        exact ⟨rfl, rfl⟩
  · have hle : (((l.length : Int)) != (r.length : Int)) = true := by simp; omega
    obtain rfl : 8 = er := by rw [← HR.out, rowE, if_neg hlen]
    go_wp2
    go_ret
    exact ⟨rfl, rfl⟩
end Go.Proofs.YtkpjjiomfgkobaaDoor
