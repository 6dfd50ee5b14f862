import Derived.Test.YtlndlpjadajelaaGreatQp27
import Derived.Test.YtlndlpjadajelaaGreatQp26
namespace Go.Proofs.YtlndlpjadajelaaGreat.K
open Go.RowKit Go.Proofs.YtlndlpjadajelaaGreat.K.Ds

/-- TESTS BEHIND A SLICE, in a block below B. -/
def Tss (w : World) (B : Nat) (v : Value) (l : List Tst) : Prop :=
  ∃ a c, v = .slice a l.length c ∧ l.length ≤ c ∧ l.length ≤ 9223372036854775807 ∧ (∀ x ∈ l, x.1.size ≤ 9223372036854775807) ∧
    (l ≠ [] → ∃ b o, a = some ⟨b, o, none⟩ ∧ b < B ∧ ∀ i x, l[i]? = some x → w.cell? ⟨b, o + i * 3, none⟩ = some (.string x.1) ∧ w.cell? ⟨b, o + i * 3 + 1, none⟩ = some (.int .i64 x.2.1) ∧ w.cell? ⟨b, o + i * 3 + 2, none⟩ = some (.int .i64 x.2.2))
theorem Tss.keep {w w' : World} {B : Nat} {v : Value} {l : List Tst} (h : Tss w B v l) (hb : Below B w w') : Tss w' B v l := by
  obtain ⟨a, c, hv, hc, hl, hn, hx⟩ := h
  refine ⟨a, c, hv, hc, hl, hn, fun hne => ?_⟩
  obtain ⟨b, o, ha, hB, hcell⟩ := hx hne
  exact ⟨b, o, ha, hB, fun i x hi => ⟨(hb.cell (p := ⟨b, o + i * 3, none⟩) hB).trans (hcell i x hi).1, (hb.cell (p := ⟨b, o + i * 3 + 1, none⟩) hB).trans (hcell i x hi).2.1, (hb.cell (p := ⟨b, o + i * 3 + 2, none⟩) hB).trans (hcell i x hi).2.2⟩⟩
theorem Tss.at {w w' : World} {B : Nat} {v : Value} {l : List Tst} (h : Tss w B v l) (hB : B ≤ w.heap.size) (hb : Below w.heap.size w w') : Tss w' B v l := h.keep (hb.mono hB)
theorem Tss.mono {w : World} {B B' : Nat} {v : Value} {l : List Tst} (h : Tss w B v l) (hB : B ≤ B') : Tss w B' v l := by
  obtain ⟨a, c, hv, hc, hl, hn, hx⟩ := h
  refine ⟨a, c, hv, hc, hl, hn, fun hne => ?_⟩
  obtain ⟨b, o, ha, hb, hcell⟩ := hx hne
  exact ⟨b, o, ha, by omega, hcell⟩
theorem Tss.slice {w : World} {B : Nat} {v : Value} {l : List Tst} (h : Tss w B v l) : ∃ a c, v = .slice a l.length c ∧ l.length ≤ c ∧ l.length ≤ 9223372036854775807 := by
  obtain ⟨a, c, hv, hc, hl, _⟩ := h
  exact ⟨a, c, hv, hc, hl⟩
theorem Tss.get {w wr : World} {B : Nat} {a : Option Addr} {n c : Nat} {l : List Tst} (h : Tss w B (.slice a n c) l) (hB : B ≤ w.heap.size) (hb : Below w.heap.size w wr) {i : Nat} (hi : i < l.length) :
    ∃ b o nm d z, a = some ⟨b, o, none⟩ ∧ b < B ∧ l[i]? = some (nm, d, z) ∧ wr.cell? ⟨b, o + i * 3, none⟩ = some (.string nm) ∧ wr.cell? ⟨b, o + i * 3 + 1, none⟩ = some (.int .i64 d) ∧ wr.cell? ⟨b, o + i * 3 + 2, none⟩ = some (.int .i64 z) ∧ nm.size ≤ 9223372036854775807 := by
  obtain ⟨a', c', hv, _, _, hn, hx⟩ := h.at hB hb
  simp only [Value.slice.injEq] at hv
  obtain ⟨rfl, rfl, rfl⟩ := hv
  obtain ⟨b, o, rfl, hbB, hcell⟩ := hx (ne_of_lt hi)
  obtain ⟨⟨nm, d, z⟩, hx⟩ := get_lt hi
  exact ⟨b, o, nm, d, z, rfl, hbB, hx, (hcell i _ hx).1, (hcell i _ hx).2.1, (hcell i _ hx).2.2, hn _ (List.mem_of_getElem? hx)⟩

/-- a question as it lies in six cells -/
def At6 (w : World) (b o : Nat) (v0 v1 v2 v3 v4 v5 : Value) : Prop :=
  w.cell? ⟨b, o, none⟩ = some v0 ∧ w.cell? ⟨b, o + 1, none⟩ = some v1 ∧ w.cell? ⟨b, o + 2, none⟩ = some v2 ∧ w.cell? ⟨b, o + 3, none⟩ = some v3 ∧ w.cell? ⟨b, o + 4, none⟩ = some v4 ∧ w.cell? ⟨b, o + 5, none⟩ = some v5
theorem At6.keep {w w' : World} {B b o : Nat} {v0 v1 v2 v3 v4 v5 : Value} (h : At6 w b o v0 v1 v2 v3 v4 v5) (hb : Below B w w') (hB : b < B) : At6 w' b o v0 v1 v2 v3 v4 v5 :=
  ⟨(hb.cell (p := ⟨b, o, none⟩) hB).trans h.1, (hb.cell (p := ⟨b, o + 1, none⟩) hB).trans h.2.1, (hb.cell (p := ⟨b, o + 2, none⟩) hB).trans h.2.2.1, (hb.cell (p := ⟨b, o + 3, none⟩) hB).trans h.2.2.2.1, (hb.cell (p := ⟨b, o + 4, none⟩) hB).trans h.2.2.2.2.1, (hb.cell (p := ⟨b, o + 5, none⟩) hB).trans h.2.2.2.2.2⟩

/-- A QUESTION: its fields; its kids behind a slice, in blocks below B. -/
def Qm (w : World) (B : Nat) : Qu → Value → Value → Value → Value → Value → Value → Prop
  | .none, _, _, _, _, _, _ => False
  | .node k c lo hi wh n x y, v0, v1, v2, v3, v4, v5 =>
    (v0 = .int .i64 k ∧ v1 = .string c ∧ v2 = .int .i64 lo ∧ v3 = .int .i64 hi ∧ c.size ≤ 9223372036854775807 ∧ Tss w B v4 wh ∧ ∃ a cap, v5 = .slice a n cap ∧ n ≤ cap ∧ n ≤ 9223372036854775807 ∧
      (1 ≤ n → n ≤ 2 → ∃ b o, a = some ⟨b, o, none⟩ ∧ b < B ∧ (∃ u0 u1 u2 u3 u4 u5, At6 w b o u0 u1 u2 u3 u4 u5 ∧ Qm w B x u0 u1 u2 u3 u4 u5) ∧
        (2 ≤ n → ∃ u0 u1 u2 u3 u4 u5, At6 w b (o + 6) u0 u1 u2 u3 u4 u5 ∧ Qm w B y u0 u1 u2 u3 u4 u5)))
theorem Qm.keep {w w' : World} {B : Nat} (hb : Below B w w') (q : Qu) : ∀ {v0 v1 v2 v3 v4 v5 : Value}, Qm w B q v0 v1 v2 v3 v4 v5 → Qm w' B q v0 v1 v2 v3 v4 v5 := by
  induction q with
  | none => intro v0 v1 v2 v3 v4 v5 h; exact h
  | node k c lo hi wh n x y ihx ihy =>
    rintro v0 v1 v2 v3 v4 v5 ⟨h0, h1, h2, h3, hc, hw, a, cap, h5, hn, hm, hk⟩
    refine ⟨h0, h1, h2, h3, hc, hw.keep hb, a, cap, h5, hn, hm, fun g1 g2 => ?_⟩
    obtain ⟨b, o, ha, hB, ⟨u0, u1, u2, u3, u4, u5, hx, hq⟩, h2⟩ := hk g1 g2
    refine ⟨b, o, ha, hB, ⟨u0, u1, u2, u3, u4, u5, hx.keep hb hB, ihx hq⟩, fun g => ?_⟩
    obtain ⟨u0, u1, u2, u3, u4, u5, hx, hq⟩ := h2 g
    exact ⟨u0, u1, u2, u3, u4, u5, hx.keep hb hB, ihy hq⟩
theorem Qm.at {w w' : World} {B : Nat} {q : Qu} {v0 v1 v2 v3 v4 v5 : Value} (h : Qm w B q v0 v1 v2 v3 v4 v5) (hB : B ≤ w.heap.size) (hb : Below w.heap.size w w') : Qm w' B q v0 v1 v2 v3 v4 v5 := Qm.keep (hb.mono hB) q h
end Go.Proofs.YtlndlpjadajelaaGreat.K

namespace Go.Proofs.YtlndlpjadajelaaGreat.K
open Go.RowKit Go.Proofs.YtlndlpjadajelaaGreat.K.Ds

/-- a test holds of a value -/
def tstB (d z v : Int) : Bool := if d = 1 then v == z else if d = 2 then decide (v < z) else if d = 3 then decide (v ≤ z) else if d = 4 then decide (z < v) else if d = 5 then decide (z ≤ v) else !(v == z)

/-- holding: which function -/
abbrev holV (d : Int) (p : Nat) : Value := .func (.func (226 + d.toNat)) #[] #[.pointer (some ⟨p, 0, none⟩)]
theorem hold_ok (d z : Int) (w : World) (hd : doB d = true) :
    Calls Tryz.prog 209 #[.int .i64 d, .int .i64 z] w fun e w' => e = .returned (holV d w.heap.size) ∧ w' = w.alloc (.cells #[.int .i64 z] 3) := by
  have hmf := hmf
  simp only [doB, decide_eq_true_eq] at hd
  go_enter Tryz.func209, Tryz.ntmps209
  by_cases h1 : d = 1
  · subst h1; go_wp2; go_ret; exact ⟨rfl, rfl⟩
  by_cases h2 : d = 2
  · subst h2; go_wp2; go_ret; exact ⟨rfl, rfl⟩
  by_cases h3 : d = 3
  · subst h3; go_wp2; go_ret; exact ⟨rfl, rfl⟩
  by_cases h4 : d = 4
  · subst h4; go_wp2; go_ret; exact ⟨rfl, rfl⟩
  by_cases h5 : d = 5
  · subst h5; go_wp2; go_ret; exact ⟨rfl, rfl⟩
  obtain rfl : d = 6 := by omega
  go_wp2; go_ret; exact ⟨rfl, rfl⟩
theorem hold_no (d z : Int) (w : World) (hd : doB d = false) :
    Calls Tryz.prog 209 #[.int .i64 d, .int .i64 z] w fun e w' => e = .panicked (chn 1) ∧ Below w.heap.size w w' := by
  have g1 : (d == 1) = false := by rw [beq_eq_false_iff_ne]; rintro rfl; simp [doB] at hd
  have g2 : (d == 2) = false := by rw [beq_eq_false_iff_ne]; rintro rfl; simp [doB] at hd
  have g3 : (d == 3) = false := by rw [beq_eq_false_iff_ne]; rintro rfl; simp [doB] at hd
  have g4 : (d == 4) = false := by rw [beq_eq_false_iff_ne]; rintro rfl; simp [doB] at hd
  have g5 : (d == 5) = false := by rw [beq_eq_false_iff_ne]; rintro rfl; simp [doB] at hd
  have g6 : (d == 6) = false := by rw [beq_eq_false_iff_ne]; rintro rfl; simp [doB] at hd
  clear hd
  go_enter Tryz.func209, Tryz.ntmps209
  go_wp2
  exact ⟨rfl, rfl, ba _ _⟩
/-- what such a function tells -/
theorem tst_any (d z v : Int) (p : Nat) (w : World) (hd : doB d = true) (hc : w.cell? ⟨p, 0, none⟩ = some (.int .i64 z)) :
    Calls Tryz.prog (226 + d.toNat) #[.int .i64 v, .pointer (some ⟨p, 0, none⟩)] w fun e w' => e = .returned (.bool (tstB d z v)) ∧ w' = w := by
  simp only [doB, decide_eq_true_eq] at hd
  by_cases h1 : d = 1
  · subst h1; go_enter Tryz.func227, Tryz.ntmps227; go_wp2; go_ret; exact ⟨rfl, rfl⟩
  by_cases h2 : d = 2
  · subst h2; go_enter Tryz.func228, Tryz.ntmps228; go_wp2; go_ret; exact ⟨rfl, rfl⟩
  by_cases h3 : d = 3
  · subst h3; go_enter Tryz.func229, Tryz.ntmps229; go_wp2; go_ret; exact ⟨rfl, rfl⟩
  by_cases h4 : d = 4
  · subst h4; go_enter Tryz.func230, Tryz.ntmps230; go_wp2; go_ret; exact ⟨rfl, rfl⟩
  by_cases h5 : d = 5
  · subst h5; go_enter Tryz.func231, Tryz.ntmps231; go_wp2; go_ret; exact ⟨rfl, rfl⟩
  obtain rfl : d = 6 := by omega
  go_enter Tryz.func232, Tryz.ntmps232; go_wp2; go_ret; exact ⟨rfl, rfl⟩
end Go.Proofs.YtlndlpjadajelaaGreat.K

namespace Go.Proofs.YtlndlpjadajelaaGreat.K
open Go.RowKit Go.Proofs.YtlndlpjadajelaaGreat.K.Ds

theorem Ints.slice {w : World} {B nb : Nat} {v : Value} {xs : List Int} (h : Ints w B nb v xs) : ∃ a c, v = .slice a xs.length c ∧ xs.length ≤ c ∧ xs.length ≤ 9223372036854775807 := by
  obtain ⟨a, c, hv, hc, hl, _⟩ := h
  exact ⟨a, c, hv, hc, hl⟩
theorem Ints.get {w wr : World} {B nb : Nat} {a : Option Addr} {n c : Nat} {xs : List Int} (h : Ints w B nb (.slice a n c) xs) (hB : B ≤ w.heap.size) (hb : Below w.heap.size w wr) {i : Nat} (hi : i < xs.length) :
    ∃ b o x, a = some ⟨b, o, none⟩ ∧ b < B ∧ b ≠ nb ∧ xs[i]? = some x ∧ wr.cell? ⟨b, o + i, none⟩ = some (.int .i64 x) := by
  obtain ⟨a', c', hv, _, _, hx⟩ := h.at hB hb
  simp only [Value.slice.injEq] at hv
  obtain ⟨rfl, rfl, rfl⟩ := hv
  obtain ⟨b, o, rfl, hbB, hn, hcell⟩ := hx (ne_of_lt hi)
  obtain ⟨x, hx⟩ := get_lt hi
  exact ⟨b, o, x, rfl, hbB, hn, hx, hcell i _ hx⟩

set_option maxHeartbeats 1000000 in
theorem wrongRow_any (B Bi nb : Nat) (v u : Value) (l : List Col) (r : List Int) (w : World) (hB : B ≤ w.heap.size) (hp : Cols w B v l) (hBi : Bi ≤ w.heap.size) (hq : Ints w Bi nb u r) (er : Int) (hr : rowE l r = er) :
    Calls Tryz.prog 123 #[v, u] w fun e w' => e = .returned (.int .i64 er) ∧ w' = w := by
  have HP : Hid (Cols w B v l) := hp
  have HQ : Hid (Ints w Bi nb u r) := hq
  have HR : Hid (rowE l r = er) := hr
  obtain ⟨a, c, rfl, hc, hl⟩ := hp.slice
  obtain ⟨a2, c2, rfl, hc2, hl2⟩ := hq.slice
  clear hr
  go_enter Tryz.func123, Tryz.ntmps123
  by_cases hlen : l.length = r.length
  · have hle : (((r.length : Int)) != (l.length : Int)) = false := by simp [hlen]
    have HLN : Hid (l.length = r.length) := hlen
    have HE : Hid (rowE l r = rowL l r) := by show _ = _; rw [rowE, if_pos hlen]
    clear hlen
    go_wp2
    go_loopw [14] (fun s wr => ∃ (i : Nat), s = .int .i64 (i : Int) ∧ i ≤ r.length ∧ Hid (rowL (l.drop i) (r.drop i) = er) ∧ wr = w) (fun s _ => r.length - (intOf s).toNat)
    case atStart => exact ⟨0, rfl, Nat.zero_le _, by show _ = _; simpa using HE.out.symm.trans HR.out, rfl⟩
    case round =>
      obtain ⟨i, rfl, hi, HI, rfl⟩ := hrel
      by_cases h1 : i < r.length
      · obtain ⟨b, o, nm, sz, rfl, hb, hg, c1, c2, hn⟩ := HP.out.get hB (Below.refl _ _) (i := i) (by have := HLN.out; omega)
        obtain ⟨b2, o2, x, rfl, hb2, _, hg2, e1⟩ := HQ.out.get hBi (Below.refl _ _) h1
        have z1 : (i : Int) < (l.length : Int) := by have := HLN.out; omega
        have ST : Hid (er = if x < 0 ∨ sz ≤ x then 3 else rowL (l.drop (i + 1)) (r.drop (i + 1))) := HI.out.symm.trans (rowL_step hg hg2)
        clear hg hg2 HI
        by_cases hx0 : x < 0
        · obtain rfl : er = 3 := by rw [ST.out, if_pos (.inl hx0)]
          go_wp2
          go_ret
          exact ⟨rfl, rfl⟩
        · by_cases hx1 : sz ≤ x
          · obtain rfl : er = 3 := by rw [ST.out, if_pos (.inr hx1)]
            go_wp2
            go_ret
            exact ⟨rfl, rfl⟩
          · have HI2 : Hid (rowL (l.drop (i + 1)) (r.drop (i + 1)) = er) := by show _ = _; rw [ST.out, if_neg (by omega)]
            go_wp2
            go_roundw
            case rel => exact ⟨i + 1, by go_num, h1, HI2, trivial⟩
            case measure => simp [intOf]; omega
      · obtain rfl : 0 = er := by have := HI.out; rw [show r.drop i = [] from List.drop_eq_nil_of_le (by omega)] at this; rw [← this]; cases l.drop i <;> rfl
        go_wp2
        go_ret
        exact ⟨rfl, rfl⟩
  · have hle : (((r.length : Int)) != (l.length : Int)) = true := by simp; omega
    obtain rfl : 8 = er := by rw [← HR.out, rowE, if_neg hlen]
    go_wp2
    go_ret
    exact ⟨rfl, rfl⟩

set_option maxHeartbeats 1000000 in
theorem rrow_any (B Bi nb : Nat) (v u : Value) (l : List Col) (r : List Int) (w : World) (hB : B ≤ w.heap.size) (hp : Cols w B v l) (hBi : Bi ≤ w.heap.size) (hq : Ints w Bi nb u r) (er : Int) (hr : rowE l r = er) :
    Calls Tryz.prog 106 #[v, u] w fun e w' => e = .returned (.int .i64 er) ∧ w' = w := by
  have HP : Hid (Cols w B v l) := hp
  have HQ : Hid (Ints w Bi nb u r) := hq
  have HR : Hid (rowE l r = er) := hr
  obtain ⟨a, c, rfl, hc, hl⟩ := hp.slice
  obtain ⟨a2, c2, rfl, hc2, hl2⟩ := hq.slice
  clear hr
  go_enter Tryz.func106, Tryz.ntmps106
  by_cases hlen : l.length = r.length
  · have hle : (((l.length : Int)) != (r.length : Int)) = false := by simp [hlen]
    have HLN : Hid (l.length = r.length) := hlen
    have HE : Hid (rowE l r = rowL l r) := by show _ = _; rw [rowE, if_pos hlen]
    clear hlen
    go_wp2
    go_loopw [14] (fun s wr => ∃ (i : Nat), s = .int .i64 (i : Int) ∧ i ≤ r.length ∧ Hid (rowL (l.drop i) (r.drop i) = er) ∧ wr = w) (fun s _ => r.length - (intOf s).toNat)
    case atStart => exact ⟨0, rfl, Nat.zero_le _, by show _ = _; simpa using HE.out.symm.trans HR.out, rfl⟩
    case round =>
      obtain ⟨i, rfl, hi, HI, rfl⟩ := hrel
      by_cases h1 : i < r.length
      · obtain ⟨b, o, nm, sz, rfl, hb, hg, c1, c2, hn⟩ := HP.out.get hB (Below.refl _ _) (i := i) (by have := HLN.out; omega)
        obtain ⟨b2, o2, x, rfl, hb2, _, hg2, e1⟩ := HQ.out.get hBi (Below.refl _ _) h1
        have z1 : (i : Int) < (l.length : Int) := by have := HLN.out; omega
        have ST : Hid (er = if x < 0 ∨ sz ≤ x then 3 else rowL (l.drop (i + 1)) (r.drop (i + 1))) := HI.out.symm.trans (rowL_step hg hg2)
        clear hg hg2 HI
        by_cases hx0 : x < 0
        · obtain rfl : er = 3 := by rw [ST.out, if_pos (.inl hx0)]
          go_wp2
          go_ret
          exact ⟨rfl, rfl⟩
        · by_cases hx1 : sz ≤ x
          · obtain rfl : er = 3 := by rw [ST.out, if_pos (.inr hx1)]
            go_wp2
            go_ret
            exact ⟨rfl, rfl⟩
          · have HI2 : Hid (rowL (l.drop (i + 1)) (r.drop (i + 1)) = er) := by show _ = _; rw [ST.out, if_neg (by omega)]
            go_wp2
            go_roundw
            case rel => exact ⟨i + 1, by go_num, h1, HI2, trivial⟩
            case measure => simp [intOf]; omega
      · obtain rfl : 0 = er := by have := HI.out; rw [show r.drop i = [] from List.drop_eq_nil_of_le (by omega)] at this; rw [← this]; cases l.drop i <;> rfl
        go_wp2
        go_ret
        exact ⟨rfl, rfl⟩
  · have hle : (((l.length : Int)) != (r.length : Int)) = true := by simp; omega
    obtain rfl : 8 = er := by rw [← HR.out, rowE, if_neg hlen]
    go_wp2
    go_ret
    exact ⟨rfl, rfl⟩
end Go.Proofs.YtlndlpjadajelaaGreat.K

namespace Go.Proofs.YtlndlpjadajelaaGreat.K
open Go.RowKit Go.Proofs.YtlndlpjadajelaaGreat.K.Ds

/-- the product, as far as it is reckoned -/
def KP (p k : Nat) : Prop := k ≤ 16777216 ∧ (p ≤ 4096 → k = p) ∧ (4096 < p → 4096 < k)
theorem KP.lo {p k z : Nat} (h : KP p k) (hk : k ≤ 4096) (hz : z ≤ 4096) : KP (p * z) (k * z) := by
  obtain ⟨_, h2, h3⟩ := h
  have e : k = p := h2 (by omega)
  subst e
  refine ⟨?_, fun _ => rfl, fun h => h⟩
  exact Nat.mul_le_mul hk hz
theorem KP.hi {p k z : Nat} (h : KP p k) (hk : 4096 < k) (hz : 1 ≤ z) : KP (p * z) k := by
  obtain ⟨h1, h2, h3⟩ := h
  have hp : 4096 < p := by omega
  have : p * 1 ≤ p * z := Nat.mul_le_mul_left _ hz
  exact ⟨h1, fun h => by omega, fun _ => hk⟩

set_option maxHeartbeats 2000000 in
theorem rcolumns_any (B : Nat) (v : Value) (l : List Col) (w : World) (hB : B ≤ w.heap.size) (hp : Cols w B v l) (er : Int) (hr : colE l = er) :
    Calls Tryz.prog 78 #[v] w fun e w' => e = .returned (.int .i64 er) ∧ Below w.heap.size w w' := by
  have HP : Hid (Cols w B v l) := hp
  have HR : Hid (colE l = er) := hr
  obtain ⟨a, c, rfl, hc, hl⟩ := hp.slice
  clear hr
  go_enter Tryz.func78, Tryz.ntmps78
  by_cases h0 : l.length < 1
  · obtain rfl : 5 = er := by rw [← HR.out, colE, if_pos (by omega)]
    go_wp2
    go_ret
    exact ⟨rfl, Below.refl _ _⟩
  by_cases h6 : 6 < l.length
  · obtain rfl : 5 = er := by rw [← HR.out, colE, if_pos (by omega)]
    go_wp2
    go_ret
    exact ⟨rfl, Below.refl _ _⟩
  have HE : Hid (colE l = if colL [] l = 0 then (if 4096 < prd l then 4 else 0) else colL [] l) := by show _ = _; rw [colE, if_neg (by omega)]
  go_wp2
  go_loopw [3, 18] (fun nv s wr => ∃ (i k : Nat), nv = .int .i64 (k : Int) ∧ s = .int .i64 (i : Int) ∧ i ≤ l.length ∧ Hid (colL (l.take i) (l.drop i) = colL [] l) ∧ Hid (KP (prd (l.take i)) k) ∧ Below w.heap.size w wr) (fun _ s _ => l.length - (intOf s).toNat)
  case atStart => exact ⟨0, 1, rfl, rfl, Nat.zero_le _, by simp [Hid], ⟨by omega, fun _ => rfl, fun h => by simp [prd] at h⟩, Below.refl _ _⟩
  case round =>
    obtain ⟨i, k, rfl, rfl, hi, HI, HK, hbl⟩ := hrel
    by_cases h1 : i < l.length
    · obtain ⟨b, o, nm, sz, rfl, hb, hgt, c1, c2, hn⟩ := HP.out.get hB hbl h1
      have ST : Hid (colL [] l = if namB nm.data.toList then (if (l.take i).any (fun d => decide (d.1 = nm)) then 7 else if sz < 1 ∨ 4096 < sz then 3 else colL (l.take (i + 1)) (l.drop (i + 1))) else 2) := HI.out.symm.trans (colL_step hgt)
      have HPN : Hid (prd (l.take (i + 1)) = prd (l.take i) * sz.toNat) := prd_next hgt
      have hk16 : k ≤ 16777216 := HK.out.1
      clear hgt HI
      have hsz := hbl.size
      cases hnm : namB nm.data.toList with
      | false =>
        have HN : Hid (namB nm.data.toList = false) := hnm
        clear hnm
        obtain rfl : 2 = er := by rw [← HR.out, HE.out, ST.out, HN.out]; simp
        go_wp2_with fail
        refine (rnamed_any nm hn _ false HN.out).mono ?_
        rintro e w1 ⟨rfl, rfl⟩
        go_wp2
        go_ret
        exact ⟨rfl, bal hbl _⟩
      | true =>
        have HN : Hid (namB nm.data.toList = true) := hnm
        clear hnm
        go_wp2_with fail
        refine (rnamed_any nm hn _ true HN.out).mono ?_
        rintro e w1 ⟨rfl, rfl⟩
        obtain ⟨wq, hwq⟩ : ∃ wq : World, wq = wr := ⟨_, rfl⟩
        subst hwq
        obtain ⟨wo, hwo⟩ : ∃ wo : World, wo = wq.alloc (.cells #[.string nm, .int .i64 sz] 74) := ⟨_, rfl⟩
        have hblo : Below w.heap.size w wo := by rw [hwo]; exact bal hbl _
        have d0 : wo.cell? ⟨wq.heap.size, 0, none⟩ = some (.string nm) := by rw [hwo]; exact World.cell?_alloc_at _ _ _ _ rfl
        have d1 : wo.cell? ⟨wq.heap.size, 1, none⟩ = some (.int .i64 sz) := by rw [hwo]; exact World.cell?_alloc_at _ _ _ _ rfl
        have hz0 : wq.heap.size < wo.heap.size := by rw [hwo]; simp
        rw [← hwo]
        have HT : Hid (Cols wo B (.slice (some ⟨b, o, none⟩) i c) (l.take i)) := (HP.out.take i hi).at hB hblo
        have hti : Hid ((l.take i).length = i) := by show _ = _; rw [List.length_take]; omega
        have hBo : B ≤ wo.heap.size := by omega
        clear hwo hbl c1 c2
        go_wp2
        go_loopw [31] (fun s wi => ∃ (j : Nat), s = .int .i64 (j : Int) ∧ j ≤ i ∧ Hid (((l.take i).take j).any (fun d => decide (d.1 = nm)) = false) ∧ Below wo.heap.size wo wi) (fun s _ => i - (intOf s).toNat)
        case atStart => exact ⟨0, rfl, Nat.zero_le _, by simp [Hid], Below.refl _ _⟩
        case round =>
          obtain ⟨j, rfl, hj, HJ, hbi⟩ := hrel
          have d2 : wr.cell? ⟨wq.heap.size, 0, none⟩ = some (.string nm) := (hbi.cell (p := ⟨wq.heap.size, 0, none⟩) hz0).trans d0
          have d3 : wr.cell? ⟨wq.heap.size, 1, none⟩ = some (.int .i64 sz) := (hbi.cell (p := ⟨wq.heap.size, 1, none⟩) hz0).trans d1
          have hbr : Below w.heap.size w wr := bt hblo hbi
          have hzr := hbi.size
          clear d0 d1
          by_cases hj1 : j < i
          · obtain ⟨b', o', nm2, sz2, hbo, _, hgt2, e1, e2, _⟩ := HT.out.get hBo hbi (i := j) (by rw [hti.out]; exact hj1)
            simp only [Option.some.injEq, Addr.mk.injEq] at hbo
            obtain ⟨rfl, rfl, _⟩ := hbo
            have HG2 : Hid ((l.take i)[j]? = some (nm2, sz2)) := hgt2
            clear hgt2
            have d4 : (wr.alloc (.cells #[.string nm2, .int .i64 sz2] 74)).cell? ⟨wq.heap.size, 0, none⟩ = some (.string nm) := ((ba wr _).cell (p := ⟨wq.heap.size, 0, none⟩) (Nat.lt_of_lt_of_le hz0 hzr)).trans d2
            cases heq : decide (nm2 = nm) with
            | true =>
              have HE2 : Hid (decide (nm2 = nm) = true) := heq
              have hq : (nm2.toList == nm.toList) = true := (str_eq _ _).trans heq
              clear heq
              obtain rfl : 7 = er := by
                rw [← HR.out, HE.out, ST.out, HN.out, any_hit HG2.out HE2.out]; simp
              go_wp2
              go_ret
              exact ⟨rfl, bal hbr _⟩
            | false =>
              have HE2 : Hid (decide (nm2 = nm) = false) := heq
              have hq : (nm2.toList == nm.toList) = false := (str_eq _ _).trans heq
              clear heq
              go_wp2
              go_roundw
              case rel => exact ⟨j + 1, by go_num, hj1, by show _ = _; rw [any_step HG2.out, HJ.out, HE2.out]; rfl, bal hbi _⟩
              case measure => simp [intOf]; omega
          · have HA : Hid ((l.take i).any (fun d => decide (d.1 = nm)) = false) := by
              have := HJ.out; rwa [List.take_of_length_le (by rw [hti.out]; omega)] at this
            by_cases hz : sz < 1 ∨ 4096 < sz
            · obtain rfl : 3 = er := by rw [← HR.out, HE.out, ST.out, HN.out, HA.out]; simp [hz]
              by_cases hz1 : sz < 1
              · clear hz
                go_wp2
                go_ret
                exact ⟨rfl, hbr⟩
              · have hz2 : 4096 < sz := by omega
                clear hz
                go_wp2
                go_ret
                exact ⟨rfl, hbr⟩
            · have HI2 : Hid (colL (l.take (i + 1)) (l.drop (i + 1)) = colL [] l) := by show _ = _; rw [ST.out, HN.out, HA.out]; simp [hz]
              have hz1 : ¬ sz < 1 := by omega
              have hz2 : ¬ 4096 < sz := by omega
              clear hz
              by_cases hk2 : k ≤ 4096
              · have HK2 : Hid (KP (prd (l.take (i + 1))) (k * sz.toNat)) := by show KP _ _; rw [HPN.out]; exact HK.out.lo hk2 (by omega)
                have HKI : Hid ((k : Int) * sz = ((k * sz.toNat : Nat) : Int)) := by
                  show _ = _
                  rw [Int.natCast_mul, Int.toNat_of_nonneg (by omega)]
                have hw : wrap64 ((k : Int) * sz) = (k : Int) * sz := wrap_id (by have := HKI.out; have := HK2.out.1; omega)
                go_wp2
                go_roundw
                case rel => exact ⟨i + 1, k * sz.toNat, by first | exact congrArg _ HKI.out | (rw [hw]; exact congrArg _ HKI.out), by go_num, h1, HI2, HK2, hbr⟩
                case measure => simp [intOf]; omega
              · have HK2 : Hid (KP (prd (l.take (i + 1))) k) := by show KP _ _; rw [HPN.out]; exact HK.out.hi (by omega) (by omega)
                go_wp2
                go_roundw
                case rel => exact ⟨i + 1, k, rfl, by go_num, h1, HI2, HK2, hbr⟩
                case measure => simp [intOf]; omega
    · have HN : Hid (colL [] l = 0) := by have := HI.out; rw [List.drop_eq_nil_of_le (by omega)] at this; exact this.symm.trans rfl
      have HK2 : Hid (KP (prd l) k) := by have := HK.out; rwa [List.take_of_length_le (by omega)] at this
      have hk16 : k ≤ 16777216 := HK.out.1
      by_cases hpz : 4096 < k
      · obtain rfl : 4 = er := by rw [← HR.out, HE.out, HN.out, if_pos rfl, if_pos (by have := HK2.out.2.1; omega)]
        go_wp2
        go_ret
        exact ⟨rfl, hbl⟩
      · obtain rfl : 0 = er := by rw [← HR.out, HE.out, HN.out, if_pos rfl, if_neg (by have := HK2.out.2.2; omega)]
        go_wp2
        go_ret
        exact ⟨rfl, hbl⟩
end Go.Proofs.YtlndlpjadajelaaGreat.K
