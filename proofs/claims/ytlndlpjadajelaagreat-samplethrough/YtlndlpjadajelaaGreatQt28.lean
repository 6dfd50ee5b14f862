import Derived.Test.YtlndlpjadajelaaGreatQt27
import Derived.Laws.IdiomCopy
namespace Go.Proofs.YtlndlpjadajelaaGreat.K
open Go.RowKit Go.Proofs.YtlndlpjadajelaaGreat.K.Ds

theorem ba (w : World) (o : Obj) : Below w.heap.size w (w.alloc o) := (Below.refl _ _).alloc (Nat.le_refl _) o
theorem bt {w w1 w2 : World} (h : Below w.heap.size w w1) (k : Below w1.heap.size w1 w2) : Below w.heap.size w w2 := h.trans (k.mono h.size)
theorem bal {w w1 : World} (h : Below w.heap.size w w1) (o : Obj) : Below w.heap.size w (w1.alloc o) := h.alloc h.size o
theorem bs {w w1 : World} (h : Below w.heap.size w w1) {p : Addr} (hp : w.heap.size ≤ p.block) (u : Value) : Below w.heap.size w (w1.setCell p u) := h.setCell hp u
theorem bdr (w : World) (q : Nat) : Below w.heap.size w (w.drewN q) := below_drewN (Below.refl _ _) q
theorem Ints.at {w w' : World} {B nb : Nat} {v : Value} {xs : List Int} (h : Ints w B nb v xs) (hB : B ≤ w.heap.size) (hb : Below w.heap.size w w') : Ints w' B nb v xs := h.keep (hb.mono hB)
theorem Ints.at2 {w w' : World} {nb : Nat} {v : Value} {xs : List Int} (h : Ints w w.heap.size nb v xs) (hb : Below w.heap.size w w') : Ints w' w'.heap.size nb v xs := (h.keep hb).mono hb.size (.inl rfl)
theorem sc_other {w : World} {a b : Addr} {v : Value} (h : a ≠ b) : (w.setCell a v).cell? b = w.cell? b := World.cell?_setCell_other _ _ _ _ h
theorem sc_same {w : World} {a : Addr} {u v : Value} (h : w.cell? a = some u) : (w.setCell a v).cell? a = some v := World.cell?_setCell_same _ _ _ h
theorem sc_frozen {w : World} {a b : Addr} {v : Value} : (w.setCell a v).frozen? b = w.frozen? b := World.frozen?_setCell _ _ _ _

/-- COLUMNS BEHIND A SLICE, in a block below B. -/
def Cols (w : World) (B : Nat) (v : Value) (l : List Col) : Prop :=
  ∃ a c, v = .slice a l.length c ∧ l.length ≤ c ∧ l.length ≤ 9223372036854775807 ∧ (∀ x ∈ l, x.1.size ≤ 9223372036854775807) ∧
    (l ≠ [] → ∃ b o, a = some ⟨b, o, none⟩ ∧ b < B ∧ ∀ i x, l[i]? = some x → w.cell? ⟨b, o + i * 2, none⟩ = some (.string x.1) ∧ w.cell? ⟨b, o + i * 2 + 1, none⟩ = some (.int .i64 x.2))

theorem Cols.keep {w w' : World} {B : Nat} {v : Value} {l : List Col} (h : Cols w B v l) (hb : Below B w w') : Cols w' B v l := by
  obtain ⟨a, c, hv, hc, hl, hn, hx⟩ := h
  refine ⟨a, c, hv, hc, hl, hn, fun hne => ?_⟩
  obtain ⟨b, o, ha, hB, hcell⟩ := hx hne
  exact ⟨b, o, ha, hB, fun i x hi => ⟨(hb.cell (p := ⟨b, o + i * 2, none⟩) hB).trans (hcell i x hi).1, (hb.cell (p := ⟨b, o + i * 2 + 1, none⟩) hB).trans (hcell i x hi).2⟩⟩
theorem Cols.mono {w : World} {B B' : Nat} {v : Value} {l : List Col} (h : Cols w B v l) (hB : B ≤ B') : Cols w B' v l := by
  obtain ⟨a, c, hv, hc, hl, hn, hx⟩ := h
  refine ⟨a, c, hv, hc, hl, hn, fun hne => ?_⟩
  obtain ⟨b, o, ha, hb, hcell⟩ := hx hne
  exact ⟨b, o, ha, by omega, hcell⟩
theorem Cols.at {w w' : World} {B : Nat} {v : Value} {l : List Col} (h : Cols w B v l) (hB : B ≤ w.heap.size) (hb : Below w.heap.size w w') : Cols w' B v l := h.keep (hb.mono hB)
theorem Cols.slice {w : World} {B : Nat} {v : Value} {l : List Col} (h : Cols w B v l) : ∃ a c, v = .slice a l.length c ∧ l.length ≤ c ∧ l.length ≤ 9223372036854775807 := by
  obtain ⟨a, c, hv, hc, hl, _⟩ := h
  exact ⟨a, c, hv, hc, hl⟩
theorem Cols.get {w wr : World} {B : Nat} {a : Option Addr} {n c : Nat} {l : List Col} (h : Cols w B (.slice a n c) l) (hB : B ≤ w.heap.size) (hb : Below w.heap.size w wr) {i : Nat} (hi : i < l.length) :
    ∃ b o nm sz, a = some ⟨b, o, none⟩ ∧ b < B ∧ l[i]? = some (nm, sz) ∧ wr.cell? ⟨b, o + i * 2, none⟩ = some (.string nm) ∧ wr.cell? ⟨b, o + i * 2 + 1, none⟩ = some (.int .i64 sz) ∧ nm.size ≤ 9223372036854775807 := by
  obtain ⟨a', c', hv, _, _, hn, hx⟩ := h.at hB hb
  simp only [Value.slice.injEq] at hv
  obtain ⟨rfl, rfl, rfl⟩ := hv
  obtain ⟨b, o, rfl, hbB, hcell⟩ := hx (ne_of_lt hi)
  obtain ⟨⟨nm, sz⟩, hx⟩ := get_lt hi
  exact ⟨b, o, nm, sz, rfl, hbB, hx, (hcell i _ hx).1, (hcell i _ hx).2, hn _ (List.mem_of_getElem? hx)⟩

theorem wrap_id {a : Int} (h : -9223372036854775808 ≤ a ∧ a ≤ 9223372036854775807) : wrap64 a = a := by
  unfold wrap64; omega
theorem str_eq (x y : ByteArray) : (x.toList == y.toList) = decide (x = y) := by
  rw [Bool.eq_iff_iff, ByteArray.toList_eq, ByteArray.toList_eq]
  simp only [beq_iff_eq, decide_eq_true_eq]
  constructor
  · intro h; exact ByteArray.ext (Array.ext' h)
  · rintro rfl; rfl
theorem min_step (p z : Nat) (hz : 1 ≤ z) : min (p * z) 4097 = min (min p 4097 * z) 4097 := by
  rcases Nat.le_total p 4097 with h | h
  · rw [Nat.min_eq_left h]
  · have h1 : 4097 * 1 ≤ 4097 * z := Nat.mul_le_mul_left _ hz
    have h2 : 4097 * z ≤ p * z := Nat.mul_le_mul_right _ h
    rw [Nat.min_eq_right h]
    omega
set_option maxHeartbeats 400000 in
/-- as many cells as there are, at most one more than MaxCells -/
theorem size_any (B : Nat) (v : Value) (l : List Col) (w : World) (hB : B ≤ w.heap.size) (hp : Cols w B v l) (hs : Szs l) (n : Nat) (hr : min (prd l) 4097 = n) :
    Calls Tryz.prog 84 #[v] w fun e w' => e = .returned (.int .i64 (n : Int)) ∧ Below w.heap.size w w' := by
  have HP : Hid (Cols w B v l) := hp
  have HS : Hid (Szs l) := hs
  have HR : Hid (min (prd l) 4097 = n) := hr
  obtain ⟨a, c, rfl, hc, hl⟩ := hp.slice
  clear hr hs
  go_enter Tryz.func84, Tryz.ntmps84
  go_wp2
  go_loopw [3, 8] (fun nv s wr => ∃ (i k : Nat), nv = .int .i64 (k : Int) ∧ s = .int .i64 (i : Int) ∧ i ≤ l.length ∧ k ≤ 4097 ∧ Hid (min (prd (l.take i)) 4097 = k) ∧ Below w.heap.size w wr) (fun _ s _ => l.length - (intOf s).toNat)
  case atStart => exact ⟨0, 1, rfl, rfl, Nat.zero_le _, by omega, by simp [Hid, prd], Below.refl _ _⟩
  case round =>
    obtain ⟨i, k, rfl, rfl, hi, hk, HI, hbl⟩ := hrel
    by_cases h1 : i < l.length
    · obtain ⟨b, o, nm, sz, rfl, hb, hg, c1, c2, hn⟩ := HP.out.get hB hbl h1
      have hsz := HS.out _ (List.mem_of_getElem? hg)
      simp only at hsz
      have HG : Hid (l[i]? = some (nm, sz)) := hg
      clear hg
      have hm : 0 ≤ (k : Int) * sz ∧ (k : Int) * sz ≤ 4097 * 4096 := ⟨Int.mul_nonneg (by omega) (by omega), Int.mul_le_mul (by omega) (by omega) (by omega) (by omega)⟩
      have hw : wrap64 ((k : Int) * sz) = (k : Int) * sz := wrap_id (by omega)
      have HM : Hid (min (prd (l.take (i + 1))) 4097 = min (k * sz.toNat) 4097) := by
        show _ = _
        rw [prd_next HG.out, ← HI.out]
        exact min_step _ _ (by omega)
      have HK : Hid ((if 4097 < (k : Int) * sz then (4097 : Int) else (k : Int) * sz) = ((min (k * sz.toNat) 4097 : Nat) : Int)) := by
        have e : ((k * sz.toNat : Nat) : Int) = (k : Int) * sz := by rw [Int.natCast_mul, Int.toNat_of_nonneg (by omega)]
        show _ = _
        split <;> omega
      clear hm
      go_wp2
      go_roundw
      case rel => exact ⟨i + 1, min (k * sz.toNat) 4097, congrArg _ HK.out, by go_num, h1, by omega, HM, bal hbl _⟩
      case measure => simp [intOf]; omega
    · have HN : Hid (k = n) := by have := HI.out; rw [List.take_of_length_le (by omega)] at this; exact this.symm.trans HR.out
      go_wp2
      go_ret
      exact ⟨by rw [← HN.out]; rfl, hbl⟩

theorem any_step {l : List Col} {i : Nat} {nm nm0 : ByteArray} {sz : Int} (h : l[i]? = some (nm, sz)) : (l.take (i + 1)).any (fun d => decide (d.1 = nm0)) = ((l.take i).any (fun d => decide (d.1 = nm0)) || decide (nm = nm0)) := by
  rw [List.take_add_one, h, List.any_append]; simp
theorem any_hit {l : List Col} {i : Nat} {nm nm0 : ByteArray} {sz : Int} (h : l[i]? = some (nm, sz)) (h2 : decide (nm = nm0) = true) : l.any (fun d => decide (d.1 = nm0)) = true :=
  List.any_eq_true.2 ⟨_, List.mem_of_getElem? h, h2⟩
theorem ahead_any (g : Nat) (n1 n2 : ByteArray) (s1 : Int) (w : World) (hg : g < w.heap.size) (hc : w.cell? ⟨g, 0, none⟩ = some (.string n2)) (r : Bool) (hr : decide (n1 = n2) = r) :
    Calls Tryz.prog 177 #[.agg #[.string n1, .int .i64 s1], .pointer (some ⟨g, 0, none⟩)] w fun e w' => e = .returned (.bool r) ∧ Below w.heap.size w w' := by
  have hq : (n1.toList == n2.toList) = r := (str_eq _ _).trans hr
  clear hr
  go_enter Tryz.func177, Tryz.ntmps177
  go_wp2
  go_ret
  exact ⟨rfl, ba _ _⟩

set_option maxHeartbeats 400000 in
theorem index_any (B g : Nat) (v : Value) (l : List Col) (nm0 : ByteArray) (w : World) (hB : B ≤ w.heap.size) (hp : Cols w B v l) (hg : g < w.heap.size) (hc0 : w.cell? ⟨g, 0, none⟩ = some (.string nm0)) (r : Bool) (hr : l.any (fun d => decide (d.1 = nm0)) = r) :
    Calls Tryz.prog 180 #[v, .func (.func 177) #[] #[.pointer (some ⟨g, 0, none⟩)]] w fun e w' => ∃ k : Int, e = .returned (.int .i64 k) ∧ decide (0 ≤ k) = r ∧ Below w.heap.size w w' := by
  have HP : Hid (Cols w B v l) := hp
  have HR : Hid (l.any (fun d => decide (d.1 = nm0)) = r) := hr
  have HC0 : Hid (w.cell? ⟨g, 0, none⟩ = some (.string nm0)) := hc0
  obtain ⟨a, c, rfl, hc, hl⟩ := hp.slice
  clear hr hc0
  go_enter Tryz.func180, Tryz.ntmps180
  go_wp2
  go_loopw [8] (fun s wr => ∃ (i : Nat), s = .int .i64 (i : Int) ∧ i ≤ l.length ∧ Hid ((l.take i).any (fun d => decide (d.1 = nm0)) = false) ∧ Below w.heap.size w wr) (fun s _ => l.length - (intOf s).toNat)
  case atStart => exact ⟨0, rfl, Nat.zero_le _, by simp [Hid], Below.refl _ _⟩
  case round =>
    obtain ⟨i, rfl, hi, HI, hbl⟩ := hrel
    by_cases h1 : i < l.length
    · obtain ⟨b, o, nm, sz, rfl, hb, hgt, c1, c2, hn⟩ := HP.out.get hB hbl h1
      have HG : Hid (l[i]? = some (nm, sz)) := hgt
      clear hgt
      have hgr : g < wr.heap.size := Nat.lt_of_lt_of_le hg hbl.size
      have HCR : Hid (wr.cell? ⟨g, 0, none⟩ = some (.string nm0)) := (hbl.cell (p := ⟨g, 0, none⟩) hg).trans HC0.out
      cases he : decide (nm = nm0) with
      | true =>
        have HE : Hid (decide (nm = nm0) = true) := he
        clear he
        obtain rfl : true = r := by rw [← HR.out]; exact (any_hit HG.out HE.out).symm
        go_wp2_with fail
        refine (ahead_any g nm nm0 sz _ hgr HCR.out true HE.out).mono ?_
        rintro e w1 ⟨rfl, hb1⟩
        go_wp2
        go_ret
        exact ⟨i, rfl, by simp, bt hbl hb1⟩
      | false =>
        have HE : Hid (decide (nm = nm0) = false) := he
        clear he
        go_wp2_with fail
        refine (ahead_any g nm nm0 sz _ hgr HCR.out false HE.out).mono ?_
        rintro e w1 ⟨rfl, hb1⟩
        go_wp2
        go_roundw
        case rel => exact ⟨i + 1, by go_num, h1, by show _ = _; rw [any_step HG.out, HI.out, HE.out]; rfl, bt hbl hb1⟩
        case measure => simp [intOf]; omega
    · obtain rfl : false = r := by rw [← HR.out]; have := HI.out; rw [List.take_of_length_le (by omega)] at this; exact this.symm
      go_wp2
      go_ret
      exact ⟨-1, rfl, by simp, hbl⟩

theorem contains_any (B g : Nat) (v : Value) (l : List Col) (nm0 : ByteArray) (w : World) (hB : B ≤ w.heap.size) (hp : Cols w B v l) (hg : g < w.heap.size) (hc0 : w.cell? ⟨g, 0, none⟩ = some (.string nm0)) (r : Bool) (hr : l.any (fun d => decide (d.1 = nm0)) = r) :
    Calls Tryz.prog 176 #[v, .func (.func 177) #[] #[.pointer (some ⟨g, 0, none⟩)]] w fun e w' => e = .returned (.bool r) ∧ Below w.heap.size w w' := by
  have HP : Hid (Cols w B v l) := hp
  have HR : Hid (l.any (fun d => decide (d.1 = nm0)) = r) := hr
  have HC0 : Hid (w.cell? ⟨g, 0, none⟩ = some (.string nm0)) := hc0
  obtain ⟨a, c, rfl, hc, hl⟩ := hp.slice
  clear hr hc0
  go_enter Tryz.func176, Tryz.ntmps176
  go_wp2_with fail
  refine (index_any B g _ l nm0 w hB HP.out hg HC0.out r HR.out).mono ?_
  rintro e w1 ⟨k, rfl, hk, hb1⟩
  go_wp2
  go_ret
  refine ⟨ret_b ?_, hb1⟩
  first | rfl | exact hk | simp

theorem Cols.take {w : World} {B : Nat} {a : Option Addr} {n c : Nat} {l : List Col} (h : Cols w B (.slice a n c) l) (u : Nat) (hu : u ≤ l.length) : Cols w B (.slice a u c) (l.take u) := by
  obtain ⟨a', c', hv, hc, hl, hn, hx⟩ := h
  simp only [Value.slice.injEq] at hv
  obtain ⟨rfl, rfl, rfl⟩ := hv
  have e : (l.take u).length = u := by rw [List.length_take]; omega
  refine ⟨a, c, by rw [e], by rw [e]; omega, by rw [e]; omega, fun x hx => hn x (List.mem_of_mem_take hx), fun hne => ?_⟩
  obtain ⟨b, o, ha, hb, hcell⟩ := hx (by rintro rfl; simp at hne)
  refine ⟨b, o, ha, hb, fun i x hi => hcell i x ?_⟩
  rw [List.getElem?_take] at hi
  split at hi
  · exact hi
  · cases hi
end Go.Proofs.YtlndlpjadajelaaGreat.K

namespace Go.Proofs.YtlndlpjadajelaaGreat.K
open Go.RowKit Go.Proofs.YtlndlpjadajelaaGreat.K.Ds

theorem drop_str {s : ByteArray} {n : Nat} (h : n < s.size) : s.data.toList.drop n = s[n] :: s.data.toList.drop (n + 1) := by
  rw [List.drop_eq_getElem_cons (by simpa using h)]; rfl
theorem ln_step {s : ByteArray} {n : Nat} (h : n < s.size) : lnT (s.data.toList.drop n) = if letB s[n] then lnT (s.data.toList.drop (n + 1)) + 1 else 0 := by
  rw [drop_str h]; rfl
theorem all_step {s : ByteArray} {n : Nat} (h : n < s.size) : (s.data.toList.take (n + 1)).all letB = ((s.data.toList.take n).all letB && letB s[n]) := by
  rw [List.take_succ_eq_append_getElem (by simpa using h), List.all_append]; simp; rfl
theorem all_no {s : ByteArray} {n : Nat} (h : n < s.size) (h2 : letB s[n] = false) : s.data.toList.all letB = false := by
  rw [← List.take_append_drop n s.data.toList, List.all_append, drop_str h, List.all_cons, h2]; simp
theorem letter_any (b : Nat) (w : World) (r : Bool) (hr : (decide (97 ≤ b) && decide (b ≤ 122) || decide (b = 95)) = r) : Calls Tryz.prog 226 #[.int .u8 (b : Int)] w fun e w' => e = .returned (.bool r) ∧ w' = w := by
  have HR : Hid ((decide (97 ≤ b) && decide (b ≤ 122) || decide (b = 95)) = r) := hr
  clear hr
  go_enter Tryz.func226, Tryz.ntmps226
  by_cases h1 : 97 ≤ b
  · by_cases h2 : b ≤ 122
    · obtain rfl : true = r := by rw [← HR.out]; simp [h1, h2]
      go_wp2
      go_ret
      exact ⟨rfl, rfl⟩
    · have h3 : b ≠ 95 := by omega
      obtain rfl : false = r := by rw [← HR.out]; simp [h2, h3]
      go_wp2
      go_ret
      exact ⟨ret_b (by simp; omega), rfl⟩
  · by_cases h3 : b = 95
    · subst h3
      obtain rfl : true = r := by rw [← HR.out]; simp
      go_wp2
      go_ret
      exact ⟨rfl, rfl⟩
    · obtain rfl : false = r := by rw [← HR.out]; simp [h1, h3]
      go_wp2
      go_ret
      exact ⟨ret_b (by simp; omega), rfl⟩

set_option maxHeartbeats 400000 in
theorem run_any (s : ByteArray) (hs : s.size ≤ 9223372036854775807) (w : World) (r : Nat) (hr : lnT s.data.toList = r) : Calls Tryz.prog 225 #[.string s, .func (.func 226) #[] #[]] w fun e w' => e = .returned (.int .i64 (r : Int)) ∧ w' = w := by
  have HR : Hid (lnT s.data.toList = r) := hr
  clear hr
  go_enter Tryz.func225, Tryz.ntmps225
  go_wp2
  go_loopw [5] (fun nv wr => ∃ n : Nat, nv = .int .i64 (n : Int) ∧ n ≤ s.size ∧ Hid (n + lnT (s.data.toList.drop n) = r) ∧ wr = w) (fun nv _ => s.size - (intOf nv).toNat)
  case atStart => exact ⟨0, rfl, Nat.zero_le _, by simpa [Hid] using HR.out, rfl⟩
  case round =>
    obtain ⟨n, rfl, hn, HI, rfl⟩ := hrel
    by_cases h1 : n < s.size
    · have ST : Hid (lnT (s.data.toList.drop n) = if letB s[n] then lnT (s.data.toList.drop (n + 1)) + 1 else 0) := ln_step h1
      cases hb : letB s[n] with
      | true =>
        have HB : Hid (letB s[n] = true) := hb
        clear hb
        go_wp2_with fail
        refine (letter_any s[n].toNat _ true HB.out).mono ?_
        rintro e w1 ⟨rfl, rfl⟩
        go_wp2
        go_roundw
        case rel => exact ⟨n + 1, by go_num, h1, by have h2 := HI.out; rw [ST.out, HB.out] at h2; simp only [if_true] at h2; show _ = r; omega, trivial⟩
        case measure => simp [intOf]; omega
      | false =>
        have HB : Hid (letB s[n] = false) := hb
        clear hb
        have HN : Hid (n = r) := by have h2 := HI.out; rw [ST.out, HB.out] at h2; simpa [Hid] using h2
        go_wp2_with fail
        refine (letter_any s[n].toNat _ false HB.out).mono ?_
        rintro e w1 ⟨rfl, rfl⟩
        go_wp2
        go_ret
        exact ⟨by rw [← HN.out]; rfl, rfl⟩
    · have HN : Hid (n = r) := by have h2 := HI.out; rw [List.drop_eq_nil_of_le (by simp; omega)] at h2; simpa [lnT, Hid] using h2
      go_wp2
      go_ret
      exact ⟨by rw [← HN.out]; rfl, rfl⟩

theorem letters_any (s : ByteArray) (hs : s.size ≤ 9223372036854775807) (w : World) (r : Nat) (hr : lnT s.data.toList = r) : Calls Tryz.prog 208 #[.string s] w fun e w' => e = .returned (.int .i64 (r : Int)) ∧ w' = w := by
  have k := run_any s hs w r hr
  clear hr
  go_enter Tryz.func208, Tryz.ntmps208
  go_wp2_with fail
  refine k.mono ?_
  rintro e w1 ⟨rfl, rfl⟩
  go_wp2
  go_ret
  exact ⟨rfl, rfl⟩
/-- may it be a name? -/
theorem named_any (s : ByteArray) (hs : s.size ≤ 9223372036854775807) (w : World) (r : Bool) (hr : namB s.data.toList = r) : Calls Tryz.prog 175 #[.string s] w fun e w' => e = .returned (.bool r) ∧ w' = w := by
  have HR : Hid (namB s.data.toList = r) := hr
  have hl : Hid (s.data.toList.length = s.size) := by simp [Hid]
  clear hr
  go_enter Tryz.func175, Tryz.ntmps175
  by_cases h1 : 1 ≤ s.size
  · by_cases h2 : s.size ≤ 32
    · go_wp2_with fail
      refine (letters_any s hs _ _ rfl).mono ?_
      rintro e w1 ⟨rfl, rfl⟩
      go_wp2
      go_ret
      refine ⟨ret_b ?_, rfl⟩
      rw [← HR.out, namB, hl.out]
      have := lnT_all s.data.toList
      rw [hl.out] at this
      simp only [h1, h2, decide_true, Bool.true_and]
      rw [Bool.eq_iff_iff, ← this]
      simp
      omega
    · obtain rfl : false = r := by rw [← HR.out, namB, hl.out]; simp [h2]
      go_wp2
      go_ret
      exact ⟨rfl, rfl⟩
  · obtain rfl : false = r := by rw [← HR.out, namB, hl.out]; simp [h1]
    go_wp2
    go_ret
    exact ⟨rfl, rfl⟩

set_option maxHeartbeats 400000 in
theorem rnamed_any (s : ByteArray) (hs : s.size ≤ 9223372036854775807) (w : World) (r : Bool) (hr : namB s.data.toList = r) : Calls Tryz.prog 145 #[.string s] w fun e w' => e = .returned (.bool r) ∧ w' = w := by
  have HR : Hid (namB s.data.toList = r) := hr
  have hl : Hid (s.data.toList.length = s.size) := by simp [Hid]
  clear hr
  go_enter Tryz.func145, Tryz.ntmps145
  go_wp2
  go_loopw [3] (fun nv wr => ∃ n : Nat, nv = .int .i64 (n : Int) ∧ n ≤ s.size ∧ Hid ((s.data.toList.take n).all letB = true) ∧ wr = w) (fun nv _ => s.size - (intOf nv).toNat)
  case atStart => exact ⟨0, rfl, Nat.zero_le _, by simp [Hid], rfl⟩
  case round =>
    obtain ⟨n, rfl, hn, HI, rfl⟩ := hrel
    by_cases h1 : n < s.size
    · have ST : Hid ((s.data.toList.take (n + 1)).all letB = ((s.data.toList.take n).all letB && letB s[n])) := all_step h1
      have ST2 : Hid (letB s[n] = false → s.data.toList.all letB = false) := all_no h1
      have HV : Hid (letB s[n] = (decide (97 ≤ s[n].toNat) && decide (s[n].toNat ≤ 122) || decide (s[n].toNat = 95))) := rfl
      by_cases g1 : 97 ≤ s[n].toNat
      · by_cases g2 : s[n].toNat ≤ 122
        · go_wp2
          go_roundw
          case rel => exact ⟨n + 1, by go_num, h1, by show _ = true; rw [ST.out, HI.out, HV.out]; simp [g1, g2], trivial⟩
          case measure => simp [intOf]; omega
        · have g4 : (((s[n].toNat : Nat) : Int) == 95) = false := by simp; omega
          have g5 : decide (((s[n].toNat : Nat) : Int) ≤ 122) = false := by simp; omega
          obtain rfl : false = r := by
            rw [← HR.out, namB, ST2.out (by rw [HV.out]; simp; omega)]; simp
          go_wp2
          go_ret
          exact ⟨rfl, rfl⟩
      · by_cases g3 : s[n].toNat = 95
        · have g4 : (((s[n].toNat : Nat) : Int) == 95) = true := by simp; omega
          go_wp2
          go_roundw
          case rel => exact ⟨n + 1, by go_num, h1, by show _ = true; rw [ST.out, HI.out, HV.out]; simp [g3], trivial⟩
          case measure => simp [intOf]; omega
        · have g4 : (((s[n].toNat : Nat) : Int) == 95) = false := by simp; omega
          obtain rfl : false = r := by
            rw [← HR.out, namB, ST2.out (by rw [HV.out]; simp; omega)]; simp
          go_wp2
          go_ret
          exact ⟨rfl, rfl⟩
    · have HN : Hid (s.data.toList.all letB = true) := by have h2 := HI.out; rwa [List.take_of_length_le (by simp; omega)] at h2
      by_cases k1 : 0 < s.size
      · by_cases k2 : s.size ≤ 32
        · obtain rfl : true = r := by rw [← HR.out, namB, hl.out, HN.out]; simp; omega
          go_wp2
          go_ret
          exact ⟨ret_b (by simp; omega), rfl⟩
        · obtain rfl : false = r := by rw [← HR.out, namB, hl.out]; simp [k2]
          go_wp2
          go_ret
          exact ⟨ret_b (by simp; omega), rfl⟩
      · obtain rfl : false = r := by rw [← HR.out, namB, hl.out]; simp; omega
        go_wp2
        go_ret
        exact ⟨rfl, rfl⟩
end Go.Proofs.YtlndlpjadajelaaGreat.K

namespace Go.Proofs.YtlndlpjadajelaaGreat.K
open Go.RowKit Go.Proofs.YtlndlpjadajelaaGreat.K.Ds

theorem nc {w : World} {N : Nat} (cs : Array Value) (t : TypeId) (k : Nat) (x : Value) (hN : N = w.heap.size) (hx : cs[k]? = some x) : (w.alloc (.cells cs t)).cell? ⟨N, k, none⟩ = some x := by
  rw [World.cell?_alloc_at _ _ _ _ hN]; exact hx
theorem nf {w : World} {N : Nat} (cs : Array Value) (t : TypeId) (k : Nat) (hN : N = w.heap.size) : (w.alloc (.cells cs t)).frozen? ⟨N, k, none⟩ = false := World.frozen?_alloc_at _ _ _ _ hN

set_option maxHeartbeats 1000000 in
theorem columns_any (B : Nat) (v : Value) (l : List Col) (w : World) (hB : B ≤ w.heap.size) (hp : Cols w B v l) (er : Int) (hr : colE l = er) :
    Calls Tryz.prog 116 #[v] w fun e w' => e = .returned (.int .i64 er) ∧ Below w.heap.size w w' := by
  have HP : Hid (Cols w B v l) := hp
  have HR : Hid (colE l = er) := hr
  obtain ⟨a, c, rfl, hc, hl⟩ := hp.slice
  clear hr
  go_enter Tryz.func116, Tryz.ntmps116
  by_cases h0 : l.length = 0
  · have hq : ((l.length : Int) == 0) = true := by simp [h0]
    obtain rfl : 5 = er := by rw [← HR.out, colE, if_pos (by omega)]
    go_wp2
    go_ret
    exact ⟨rfl, Below.refl _ _⟩
  have hq : ((l.length : Int) == 0) = false := by rw [beq_eq_false_iff_ne]; omega
  have HQ0 : Hid (l.length ≠ 0) := h0
  clear h0
  by_cases h6 : 6 < l.length
  · obtain rfl : 5 = er := by rw [← HR.out, colE, if_pos (by omega)]
    go_wp2
    go_ret
    exact ⟨rfl, Below.refl _ _⟩
  have HE : Hid (colE l = if colL [] l = 0 then (if 4096 < prd l then 4 else 0) else colL [] l) := by show _ = _; rw [colE, if_neg (by have := HQ0.out; omega)]
  go_wp2
  go_loopw [15] (fun s wr => ∃ (i : Nat), s = .int .i64 (i : Int) ∧ i ≤ l.length ∧ Hid (colL (l.take i) (l.drop i) = colL [] l) ∧ Below w.heap.size w wr) (fun s _ => l.length - (intOf s).toNat)
  case atStart => exact ⟨0, rfl, Nat.zero_le _, by simp [Hid], Below.refl _ _⟩
  case round =>
    obtain ⟨i, rfl, hi, HI, hbl⟩ := hrel
    by_cases h1 : i < l.length
    · obtain ⟨b, o, nm, sz, rfl, hb, hgt, c1, c2, hn⟩ := HP.out.get hB hbl h1
      have ST : Hid (colL [] l = if namB nm.data.toList then (if (l.take i).any (fun d => decide (d.1 = nm)) then 7 else if sz < 1 ∨ 4096 < sz then 3 else colL (l.take (i + 1)) (l.drop (i + 1))) else 2) := HI.out.symm.trans (colL_step hgt)
      clear hgt HI
      have hsz := hbl.size
      cases hnm : namB nm.data.toList with
      | false =>
        have HN : Hid (namB nm.data.toList = false) := hnm
        clear hnm
        obtain rfl : 2 = er := by rw [← HR.out, HE.out, ST.out, HN.out]; simp
        go_wp2_with fail
        refine (named_any nm hn _ false HN.out).mono ?_
        rintro e w1 ⟨rfl, rfl⟩
        go_wp2
        go_ret
        exact ⟨rfl, bal hbl _⟩
      | true =>
        have HN : Hid (namB nm.data.toList = true) := hnm
        clear hnm
        cases han : (l.take i).any (fun d => decide (d.1 = nm)) with
        | true =>
          have HA : Hid ((l.take i).any (fun d => decide (d.1 = nm)) = true) := han
          clear han
          obtain rfl : 7 = er := by rw [← HR.out, HE.out, ST.out, HN.out, HA.out]; simp
          have kc := contains_any B wr.heap.size (.slice (some ⟨b, o, none⟩) i c) (l.take i) nm (wr.alloc (.cells #[.string nm, .int .i64 sz] 74)) (by simp; omega) (((HP.out.take i hi).at hB hbl).at (by omega) (ba _ _)) (by simp) (nc _ _ 0 _ rfl rfl) true HA.out
          go_wp2_with fail
          refine (named_any nm hn _ true HN.out).mono ?_
          rintro e w1 ⟨rfl, rfl⟩
          go_wp2_with fail
          refine kc.mono ?_
          rintro e w1 ⟨rfl, hb1⟩
          have hb2 : Below w.heap.size w w1 := bt (bal hbl _) hb1
          clear hb1 kc
          go_wp2
          go_ret
          exact ⟨rfl, hb2⟩
        | false =>
          have HA : Hid ((l.take i).any (fun d => decide (d.1 = nm)) = false) := han
          clear han
          have kc := contains_any B wr.heap.size (.slice (some ⟨b, o, none⟩) i c) (l.take i) nm (wr.alloc (.cells #[.string nm, .int .i64 sz] 74)) (by simp; omega) (((HP.out.take i hi).at hB hbl).at (by omega) (ba _ _)) (by simp) (nc _ _ 0 _ rfl rfl) false HA.out
          have hcell : (wr.alloc (.cells #[.string nm, .int .i64 sz] 74)).cell? ⟨wr.heap.size, 1, none⟩ = some (.int .i64 sz) := nc _ _ 1 _ rfl rfl
          by_cases hz : sz < 1 ∨ 4096 < sz
          · obtain rfl : 3 = er := by rw [← HR.out, HE.out, ST.out, HN.out, HA.out]; simp [hz]
            go_wp2_with fail
            refine (named_any nm hn _ true HN.out).mono ?_
            rintro e w1 ⟨rfl, rfl⟩
            go_wp2_with fail
            refine kc.mono ?_
            rintro e w1 ⟨rfl, hb1⟩
            have hb2 : Below w.heap.size w w1 := bt (bal hbl _) hb1
            have hc1 : w1.cell? ⟨wr.heap.size, 1, none⟩ = some (.int .i64 sz) := (hb1.cell (p := ⟨wr.heap.size, 1, none⟩) (by simp)).trans hcell
            clear hb1 kc hcell
            by_cases hz1 : sz < 1
            · clear hz
              go_wp2
              go_ret
              exact ⟨rfl, hb2⟩
            · have hz2 : 4096 < sz := by omega
              clear hz
              go_wp2
              go_ret
              exact ⟨rfl, hb2⟩
          · have HI2 : Hid (colL (l.take (i + 1)) (l.drop (i + 1)) = colL [] l) := by show _ = _; rw [ST.out, HN.out, HA.out]; simp [hz]
            have hz1 : ¬ sz < 1 := by omega
            have hz2 : ¬ 4096 < sz := by omega
            clear hz
            go_wp2_with fail
            refine (named_any nm hn _ true HN.out).mono ?_
            rintro e w1 ⟨rfl, rfl⟩
            go_wp2_with fail
            refine kc.mono ?_
            rintro e w1 ⟨rfl, hb1⟩
            have hb2 : Below w.heap.size w w1 := bt (bal hbl _) hb1
            have hc1 : w1.cell? ⟨wr.heap.size, 1, none⟩ = some (.int .i64 sz) := (hb1.cell (p := ⟨wr.heap.size, 1, none⟩) (by simp)).trans hcell
            clear hb1 kc hcell
            go_wp2
            go_roundw
            case rel => exact ⟨i + 1, by go_num, h1, HI2, hb2⟩
            case measure => simp [intOf]; omega
    · have HN : Hid (colL [] l = 0) := by have := HI.out; rw [List.drop_eq_nil_of_le (by omega)] at this; exact this.symm.trans rfl
      have HS : Hid (Szs l) := colL_szs HN.out
      have kc := size_any B _ l wr (Nat.le_trans hB hbl.size) (HP.out.at hB hbl) HS.out _ rfl
      by_cases hpz : 4096 < prd l
      · obtain rfl : 4 = er := by rw [← HR.out, HE.out, HN.out]; simp [hpz]
        have hm : min (prd l) 4097 = 4097 := by omega
        rw [hm] at kc
        go_wp2_with fail
        refine kc.mono ?_
        rintro e w1 ⟨rfl, hb1⟩
        go_wp2
        go_ret
        exact ⟨rfl, bt hbl hb1⟩
      · obtain rfl : 0 = er := by rw [← HR.out, HE.out, HN.out]; simp [hpz]
        have hm : min (prd l) 4097 = prd l := by omega
        rw [hm] at kc
        go_wp2_with fail
        refine kc.mono ?_
        rintro e w1 ⟨rfl, hb1⟩
        go_wp2
        go_ret
        exact ⟨rfl, bt hbl hb1⟩
end Go.Proofs.YtlndlpjadajelaaGreat.K

namespace Go.Proofs.YtlndlpjadajelaaGreat.K
open Go.RowKit Go.Proofs.YtlndlpjadajelaaGreat.K.Ds

theorem Ints.slice {w : World} {B nb : Nat} {v : Value} {xs : List Int} (h : Ints w B nb v xs) : ∃ a c, v = .slice a xs.length c ∧ xs.length ≤ c ∧ xs.length ≤ 9223372036854775807 := by
  obtain ⟨a, c, hv, hc, hl, _⟩ := h
  exact ⟨a, c, hv, hc, hl⟩
theorem Ints.get {w wr : World} {B nb : Nat} {a : Option Addr} {n c : Nat} {xs : List Int} (h : Ints w B nb (.slice a n c) xs) (hB : B ≤ w.heap.size) (hb : Below w.heap.size w wr) {i : Nat} (hi : i < xs.length) :
    ∃ b o x, a = some ⟨b, o, none⟩ ∧ b < B ∧ b ≠ nb ∧ xs[i]? = some x ∧ wr.cell? ⟨b, o + i, none⟩ = some (.int .i64 x) := by
  obtain ⟨a', c', hv, _, _, hx⟩ := h.at hB hb
  simp only [Value.slice.injEq] at hv
  obtain ⟨rfl, rfl, rfl⟩ := hv
  obtain ⟨b, o, rfl, hbB, hn, hcell⟩ := hx (ne_of_lt hi)
  obtain ⟨x, hx⟩ := get_lt hi
  exact ⟨b, o, x, rfl, hbB, hn, hx, hcell i _ hx⟩

set_option maxHeartbeats 1000000 in
theorem wrongRow_any (B Bi nb : Nat) (v u : Value) (l : List Col) (r : List Int) (w : World) (hB : B ≤ w.heap.size) (hp : Cols w B v l) (hBi : Bi ≤ w.heap.size) (hq : Ints w Bi nb u r) (er : Int) (hr : rowE l r = er) :
    Calls Tryz.prog 123 #[v, u] w fun e w' => e = .returned (.int .i64 er) ∧ w' = w := by
  have HP : Hid (Cols w B v l) := hp
  have HQ : Hid (Ints w Bi nb u r) := hq
  have HR : Hid (rowE l r = er) := hr
  obtain ⟨a, c, rfl, hc, hl⟩ := hp.slice
  obtain ⟨a2, c2, rfl, hc2, hl2⟩ := hq.slice
  clear hr
  go_enter Tryz.func123, Tryz.ntmps123
  by_cases hlen : l.length = r.length
  · have hle : (((r.length : Int)) != (l.length : Int)) = false := by simp [hlen]
    have HLN : Hid (l.length = r.length) := hlen
    have HE : Hid (rowE l r = rowL l r) := by show _ = _; rw [rowE, if_pos hlen]
    clear hlen
    go_wp2
    go_loopw [14] (fun s wr => ∃ (i : Nat), s = .int .i64 (i : Int) ∧ i ≤ r.length ∧ Hid (rowL (l.drop i) (r.drop i) = er) ∧ wr = w) (fun s _ => r.length - (intOf s).toNat)
    case atStart => exact ⟨0, rfl, Nat.zero_le _, by show _ = _; simpa using HE.out.symm.trans HR.out, rfl⟩
    case round =>
      obtain ⟨i, rfl, hi, HI, rfl⟩ := hrel
      by_cases h1 : i < r.length
      · obtain ⟨b, o, nm, sz, rfl, hb, hg, c1, c2, hn⟩ := HP.out.get hB (Below.refl _ _) (i := i) (by have := HLN.out; omega)
        obtain ⟨b2, o2, x, rfl, hb2, _, hg2, e1⟩ := HQ.out.get hBi (Below.refl _ _) h1
        have z1 : (i : Int) < (l.length : Int) := by have := HLN.out; omega
        have ST : Hid (er = if x < 0 ∨ sz ≤ x then 3 else rowL (l.drop (i + 1)) (r.drop (i + 1))) := HI.out.symm.trans (rowL_step hg hg2)
        clear hg hg2 HI
        by_cases hx0 : x < 0
        · obtain rfl : er = 3 := by rw [ST.out, if_pos (.inl hx0)]
          go_wp2
          go_ret
          exact ⟨rfl, rfl⟩
        · by_cases hx1 : sz ≤ x
          · obtain rfl : er = 3 := by rw [ST.out, if_pos (.inr hx1)]
            go_wp2
            go_ret
            exact ⟨rfl, rfl⟩
          · have HI2 : Hid (rowL (l.drop (i + 1)) (r.drop (i + 1)) = er) := by show _ = _; rw [ST.out, if_neg (by omega)]
            go_wp2
            go_roundw
            case rel => exact ⟨i + 1, by go_num, h1, HI2, trivial⟩
            case measure => simp [intOf]; omega
      · obtain rfl : 0 = er := by have := HI.out; rw [show r.drop i = [] from List.drop_eq_nil_of_le (by omega)] at this; rw [← this]; cases l.drop i <;> rfl
        go_wp2
        go_ret
        exact ⟨rfl, rfl⟩
  · have hle : (((r.length : Int)) != (l.length : Int)) = true := by simp; omega
    obtain rfl : 8 = er := by rw [← HR.out, rowE, if_neg hlen]
    go_wp2
    go_ret
    exact ⟨rfl, rfl⟩

set_option maxHeartbeats 1000000 in
theorem rrow_any (B Bi nb : Nat) (v u : Value) (l : List Col) (r : List Int) (w : World) (hB : B ≤ w.heap.size) (hp : Cols w B v l) (hBi : Bi ≤ w.heap.size) (hq : Ints w Bi nb u r) (er : Int) (hr : rowE l r = er) :
    Calls Tryz.prog 106 #[v, u] w fun e w' => e = .returned (.int .i64 er) ∧ w' = w := by
  have HP : Hid (Cols w B v l) := hp
  have HQ : Hid (Ints w Bi nb u r) := hq
  have HR : Hid (rowE l r = er) := hr
  obtain ⟨a, c, rfl, hc, hl⟩ := hp.slice
  obtain ⟨a2, c2, rfl, hc2, hl2⟩ := hq.slice
  clear hr
  go_enter Tryz.func106, Tryz.ntmps106
  by_cases hlen : l.length = r.length
  · have hle : (((l.length : Int)) != (r.length : Int)) = false := by simp [hlen]
    have HLN : Hid (l.length = r.length) := hlen
    have HE : Hid (rowE l r = rowL l r) := by show _ = _; rw [rowE, if_pos hlen]
    clear hlen
    go_wp2
    go_loopw [14] (fun s wr => ∃ (i : Nat), s = .int .i64 (i : Int) ∧ i ≤ r.length ∧ Hid (rowL (l.drop i) (r.drop i) = er) ∧ wr = w) (fun s _ => r.length - (intOf s).toNat)
    case atStart => exact ⟨0, rfl, Nat.zero_le _, by show _ = _; simpa using HE.out.symm.trans HR.out, rfl⟩
    case round =>
      obtain ⟨i, rfl, hi, HI, rfl⟩ := hrel
      by_cases h1 : i < r.length
      · obtain ⟨b, o, nm, sz, rfl, hb, hg, c1, c2, hn⟩ := HP.out.get hB (Below.refl _ _) (i := i) (by have := HLN.out; omega)
        obtain ⟨b2, o2, x, rfl, hb2, _, hg2, e1⟩ := HQ.out.get hBi (Below.refl _ _) h1
        have z1 : (i : Int) < (l.length : Int) := by have := HLN.out; omega
        have ST : Hid (er = if x < 0 ∨ sz ≤ x then 3 else rowL (l.drop (i + 1)) (r.drop (i + 1))) := HI.out.symm.trans (rowL_step hg hg2)
        clear hg hg2 HI
        by_cases hx0 : x < 0
        · obtain rfl : er = 3 := by rw [ST.out, if_pos (.inl hx0)]
          go_wp2
          go_ret
          exact ⟨rfl, rfl⟩
        · by_cases hx1 : sz ≤ x
          · obtain rfl : er = 3 := by rw [ST.out, if_pos (.inr hx1)]
            go_wp2
            go_ret
            exact ⟨rfl, rfl⟩
          · have HI2 : Hid (rowL (l.drop (i + 1)) (r.drop (i + 1)) = er) := by show _ = _; rw [ST.out, if_neg (by omega)]
            go_wp2
            go_roundw
            case rel => exact ⟨i + 1, by go_num, h1, HI2, trivial⟩
            case measure => simp [intOf]; omega
      · obtain rfl : 0 = er := by have := HI.out; rw [show r.drop i = [] from List.drop_eq_nil_of_le (by omega)] at this; rw [← this]; cases l.drop i <;> rfl
        go_wp2
        go_ret
        exact ⟨rfl, rfl⟩
  · have hle : (((l.length : Int)) != (r.length : Int)) = true := by simp; omega
    obtain rfl : 8 = er := by rw [← HR.out, rowE, if_neg hlen]
    go_wp2
    go_ret
    exact ⟨rfl, rfl⟩
end Go.Proofs.YtlndlpjadajelaaGreat.K
