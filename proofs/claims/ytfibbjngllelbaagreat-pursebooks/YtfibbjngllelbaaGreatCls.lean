import Derived.Test.YtfibbjngllelbaaGreatMem
import Derived.Test.YtfibbjngllelbaaGreatMake
import Derived.Test.YtfibbjngllelbaaGreatTbl
import Derived.Laws.IdiomCopy
namespace Go.Proofs.YtfibbjngllelbaaGreat
open Go.RowKit Go.Proofs.YtfibbjngllelbaaGreat.Ds

theorem bdr (w : World) (q : Nat) : Below w.heap.size w (w.drewN q) := below_drewN (Below.refl _ _) q
theorem Ints.at {w w' : World} {B nb : Nat} {v : Value} {xs : List Int} (h : Ints w B nb v xs) (hB : B ≤ w.heap.size) (hb : Below w.heap.size w w') : Ints w' B nb v xs := h.keep (hb.mono hB)
theorem Ints.at2 {w w' : World} {nb : Nat} {v : Value} {xs : List Int} (h : Ints w w.heap.size nb v xs) (hb : Below w.heap.size w w') : Ints w' w'.heap.size nb v xs := (h.keep hb).mono hb.size (.inl rfl)
theorem sc_other {w : World} {a b : Addr} {v : Value} (h : a ≠ b) : (w.setCell a v).cell? b = w.cell? b := World.cell?_setCell_other _ _ _ _ h
theorem sc_same {w : World} {a : Addr} {u v : Value} (h : w.cell? a = some u) : (w.setCell a v).cell? a = some v := World.cell?_setCell_same _ _ _ h
theorem sc_frozen {w : World} {a b : Addr} {v : Value} : (w.setCell a v).frozen? b = w.frozen? b := World.frozen?_setCell _ _ _ _

/-- COLUMNS BEHIND A SLICE, in a block below B. -/
def Cols (w : World) (B : Nat) (v : Value) (l : List Col) : Prop :=
  ∃ a c, v = .slice a l.length c ∧ l.length ≤ c ∧ l.length ≤ 9223372036854775807 ∧ (∀ x ∈ l, x.1.size ≤ 9223372036854775807) ∧
    (l ≠ [] → ∃ b o, a = some ⟨b, o, none⟩ ∧ b < B ∧ ∀ i x, l[i]? = some x → w.cell? ⟨b, o + i * 2, none⟩ = some (.string x.1) ∧ w.cell? ⟨b, o + i * 2 + 1, none⟩ = some (.int .i64 x.2))

theorem Cols.keep {w w' : World} {B : Nat} {v : Value} {l : List Col} (h : Cols w B v l) (hb : Below B w w') : Cols w' B v l := by
  obtain ⟨a, c, hv, hc, hl, hn, hx⟩ := h
  refine ⟨a, c, hv, hc, hl, hn, fun hne => ?_⟩
  obtain ⟨b, o, ha, hB, hcell⟩ := hx hne
  exact ⟨b, o, ha, hB, fun i x hi => ⟨(hb.cell (p := ⟨b, o + i * 2, none⟩) hB).trans (hcell i x hi).1, (hb.cell (p := ⟨b, o + i * 2 + 1, none⟩) hB).trans (hcell i x hi).2⟩⟩
theorem Cols.mono {w : World} {B B' : Nat} {v : Value} {l : List Col} (h : Cols w B v l) (hB : B ≤ B') : Cols w B' v l := by
  obtain ⟨a, c, hv, hc, hl, hn, hx⟩ := h
  refine ⟨a, c, hv, hc, hl, hn, fun hne => ?_⟩
  obtain ⟨b, o, ha, hb, hcell⟩ := hx hne
  exact ⟨b, o, ha, by omega, hcell⟩
theorem Cols.at {w w' : World} {B : Nat} {v : Value} {l : List Col} (h : Cols w B v l) (hB : B ≤ w.heap.size) (hb : Below w.heap.size w w') : Cols w' B v l := h.keep (hb.mono hB)
theorem Cols.slice {w : World} {B : Nat} {v : Value} {l : List Col} (h : Cols w B v l) : ∃ a c, v = .slice a l.length c ∧ l.length ≤ c ∧ l.length ≤ 9223372036854775807 := by
  obtain ⟨a, c, hv, hc, hl, _⟩ := h
  exact ⟨a, c, hv, hc, hl⟩
theorem Cols.get {w wr : World} {B : Nat} {a : Option Addr} {n c : Nat} {l : List Col} (h : Cols w B (.slice a n c) l) (hB : B ≤ w.heap.size) (hb : Below w.heap.size w wr) {i : Nat} (hi : i < l.length) :
    ∃ b o nm sz, a = some ⟨b, o, none⟩ ∧ b < B ∧ l[i]? = some (nm, sz) ∧ wr.cell? ⟨b, o + i * 2, none⟩ = some (.string nm) ∧ wr.cell? ⟨b, o + i * 2 + 1, none⟩ = some (.int .i64 sz) ∧ nm.size ≤ 9223372036854775807 := by
  obtain ⟨a', c', hv, _, _, hn, hx⟩ := h.at hB hb
  simp only [Value.slice.injEq] at hv
  obtain ⟨rfl, rfl, rfl⟩ := hv
  obtain ⟨b, o, rfl, hbB, hcell⟩ := hx (ne_of_lt hi)
  obtain ⟨⟨nm, sz⟩, hx⟩ := get_lt hi
  exact ⟨b, o, nm, sz, rfl, hbB, hx, (hcell i _ hx).1, (hcell i _ hx).2, hn _ (List.mem_of_getElem? hx)⟩

theorem wrap_id {a : Int} (h : -9223372036854775808 ≤ a ∧ a ≤ 9223372036854775807) : wrap64 a = a := by
  unfold wrap64; omega
theorem str_eq (x y : ByteArray) : (x.toList == y.toList) = decide (x = y) := by
  rw [Bool.eq_iff_iff, ByteArray.toList_eq, ByteArray.toList_eq]
  simp only [beq_iff_eq, decide_eq_true_eq]
  constructor
  · intro h; exact ByteArray.ext (Array.ext' h)
  · rintro rfl; rfl
theorem min_step (p z : Nat) (hz : 1 ≤ z) : min (p * z) 4097 = min (min p 4097 * z) 4097 := by
  rcases Nat.le_total p 4097 with h | h
  · rw [Nat.min_eq_left h]
  · have h1 : 4097 * 1 ≤ 4097 * z := Nat.mul_le_mul_left _ hz
    have h2 : 4097 * z ≤ p * z := Nat.mul_le_mul_right _ h
    rw [Nat.min_eq_right h]
    omega
set_option maxHeartbeats 400000 in
/-- as many cells as there are, at most one more than MaxCells -/
theorem size_any (B : Nat) (v : Value) (l : List Col) (w : World) (hB : B ≤ w.heap.size) (hp : Cols w B v l) (hs : Szs l) (n : Nat) (hr : min (prd l) 4097 = n) :
    Calls Tryz.prog 65 #[v] w fun e w' => e = .returned (.int .i64 (n : Int)) ∧ Below w.heap.size w w' := by
  have HP : Hid (Cols w B v l) := hp
  have HS : Hid (Szs l) := hs
  have HR : Hid (min (prd l) 4097 = n) := hr
  obtain ⟨a, c, rfl, hc, hl⟩ := hp.slice
  clear hr hs
  go_enter Tryz.func65, Tryz.ntmps65
  go_wp2
  go_loopw [3, 8] (fun nv s wr => ∃ (i k : Nat), nv = .int .i64 (k : Int) ∧ s = .int .i64 (i : Int) ∧ i ≤ l.length ∧ k ≤ 4097 ∧ Hid (min (prd (l.take i)) 4097 = k) ∧ Below w.heap.size w wr) (fun _ s _ => l.length - (intOf s).toNat)
  case atStart => exact ⟨0, 1, rfl, rfl, Nat.zero_le _, by omega, by simp [Hid, prd], Below.refl _ _⟩
  case round =>
    obtain ⟨i, k, rfl, rfl, hi, hk, HI, hbl⟩ := hrel
    by_cases h1 : i < l.length
    · obtain ⟨b, o, nm, sz, rfl, hb, hg, c1, c2, hn⟩ := HP.out.get hB hbl h1
      have hsz := HS.out _ (List.mem_of_getElem? hg)
      simp only at hsz
      have HG : Hid (l[i]? = some (nm, sz)) := hg
      clear hg
      have hm : 0 ≤ (k : Int) * sz ∧ (k : Int) * sz ≤ 4097 * 4096 := ⟨Int.mul_nonneg (by omega) (by omega), Int.mul_le_mul (by omega) (by omega) (by omega) (by omega)⟩
      have hw : wrap64 ((k : Int) * sz) = (k : Int) * sz := wrap_id (by omega)
      have HM : Hid (min (prd (l.take (i + 1))) 4097 = min (k * sz.toNat) 4097) := by
        show _ = _
        rw [prd_next HG.out, ← HI.out]
        exact min_step _ _ (by omega)
      have HK : Hid ((if 4097 < (k : Int) * sz then (4097 : Int) else (k : Int) * sz) = ((min (k * sz.toNat) 4097 : Nat) : Int)) := by
        have e : ((k * sz.toNat : Nat) : Int) = (k : Int) * sz := by rw [Int.natCast_mul, Int.toNat_of_nonneg (by omega)]
        show _ = _
        split <;> omega
      clear hm
      go_wp2
      go_roundw
      case rel => exact ⟨i + 1, min (k * sz.toNat) 4097, congrArg _ HK.out, by go_num, h1, by omega, HM, bal hbl _⟩
      case measure => simp [intOf]; omega
    · have HN : Hid (k = n) := by have := HI.out; rw [List.take_of_length_le (by omega)] at this; exact this.symm.trans HR.out
      go_wp2
      go_ret
      exact ⟨by rw [← HN.out]; rfl, hbl⟩

theorem any_step {l : List Col} {i : Nat} {nm nm0 : ByteArray} {sz : Int} (h : l[i]? = some (nm, sz)) : (l.take (i + 1)).any (fun d => decide (d.1 = nm0)) = ((l.take i).any (fun d => decide (d.1 = nm0)) || decide (nm = nm0)) := by
  rw [List.take_add_one, h, List.any_append]; simp
theorem any_hit {l : List Col} {i : Nat} {nm nm0 : ByteArray} {sz : Int} (h : l[i]? = some (nm, sz)) (h2 : decide (nm = nm0) = true) : l.any (fun d => decide (d.1 = nm0)) = true :=
  List.any_eq_true.2 ⟨_, List.mem_of_getElem? h, h2⟩
theorem ahead_any (g : Nat) (n1 n2 : ByteArray) (s1 : Int) (w : World) (hg : g < w.heap.size) (hc : w.cell? ⟨g, 0, none⟩ = some (.string n2)) (r : Bool) (hr : decide (n1 = n2) = r) :
    Calls Tryz.prog 64 #[.agg #[.string n1, .int .i64 s1], .pointer (some ⟨g, 0, none⟩)] w fun e w' => e = .returned (.bool r) ∧ Below w.heap.size w w' := by
  have hq : (n1.toList == n2.toList) = r := (str_eq _ _).trans hr
  clear hr
  go_enter Tryz.func64, Tryz.ntmps64
  go_wp2
  go_ret
  exact ⟨rfl, ba _ _⟩

set_option maxHeartbeats 400000 in
theorem index_any (B g : Nat) (v : Value) (l : List Col) (nm0 : ByteArray) (w : World) (hB : B ≤ w.heap.size) (hp : Cols w B v l) (hg : g < w.heap.size) (hc0 : w.cell? ⟨g, 0, none⟩ = some (.string nm0)) (r : Bool) (hr : l.any (fun d => decide (d.1 = nm0)) = r) :
    Calls Tryz.prog 83 #[v, .func (.func 64) #[] #[.pointer (some ⟨g, 0, none⟩)]] w fun e w' => ∃ k : Int, e = .returned (.int .i64 k) ∧ decide (0 ≤ k) = r ∧ Below w.heap.size w w' := by
  have HP : Hid (Cols w B v l) := hp
  have HR : Hid (l.any (fun d => decide (d.1 = nm0)) = r) := hr
  have HC0 : Hid (w.cell? ⟨g, 0, none⟩ = some (.string nm0)) := hc0
  obtain ⟨a, c, rfl, hc, hl⟩ := hp.slice
  clear hr hc0
  go_enter Tryz.func83, Tryz.ntmps83
  go_wp2
  go_loopw [8] (fun s wr => ∃ (i : Nat), s = .int .i64 (i : Int) ∧ i ≤ l.length ∧ Hid ((l.take i).any (fun d => decide (d.1 = nm0)) = false) ∧ Below w.heap.size w wr) (fun s _ => l.length - (intOf s).toNat)
  case atStart => exact ⟨0, rfl, Nat.zero_le _, by simp [Hid], Below.refl _ _⟩
  case round =>
    obtain ⟨i, rfl, hi, HI, hbl⟩ := hrel
    by_cases h1 : i < l.length
    · obtain ⟨b, o, nm, sz, rfl, hb, hgt, c1, c2, hn⟩ := HP.out.get hB hbl h1
      have HG : Hid (l[i]? = some (nm, sz)) := hgt
      clear hgt
      have hgr : g < wr.heap.size := Nat.lt_of_lt_of_le hg hbl.size
      have HCR : Hid (wr.cell? ⟨g, 0, none⟩ = some (.string nm0)) := (hbl.cell (p := ⟨g, 0, none⟩) hg).trans HC0.out
      cases he : decide (nm = nm0) with
      | true =>
        have HE : Hid (decide (nm = nm0) = true) := he
        clear he
        obtain rfl : true = r := by rw [← HR.out]; exact (any_hit HG.out HE.out).symm
        go_wp2_with fail
        refine (ahead_any g nm nm0 sz _ hgr HCR.out true HE.out).mono ?_
        rintro e w1 ⟨rfl, hb1⟩
        go_wp2
        go_ret
        exact ⟨i, rfl, by simp, bt hbl hb1⟩
      | false =>
        have HE : Hid (decide (nm = nm0) = false) := he
        clear he
        go_wp2_with fail
        refine (ahead_any g nm nm0 sz _ hgr HCR.out false HE.out).mono ?_
        rintro e w1 ⟨rfl, hb1⟩
        go_wp2
        go_roundw
        case rel => exact ⟨i + 1, by go_num, h1, by show _ = _; rw [any_step HG.out, HI.out, HE.out]; rfl, bt hbl hb1⟩
        case measure => simp [intOf]; omega
    · obtain rfl : false = r := by rw [← HR.out]; have := HI.out; rw [List.take_of_length_le (by omega)] at this; exact this.symm
      go_wp2
      go_ret
      exact ⟨-1, rfl, by simp, hbl⟩

theorem contains_any (B g : Nat) (v : Value) (l : List Col) (nm0 : ByteArray) (w : World) (hB : B ≤ w.heap.size) (hp : Cols w B v l) (hg : g < w.heap.size) (hc0 : w.cell? ⟨g, 0, none⟩ = some (.string nm0)) (r : Bool) (hr : l.any (fun d => decide (d.1 = nm0)) = r) :
    Calls Tryz.prog 63 #[v, .func (.func 64) #[] #[.pointer (some ⟨g, 0, none⟩)]] w fun e w' => e = .returned (.bool r) ∧ Below w.heap.size w w' := by
  have HP : Hid (Cols w B v l) := hp
  have HR : Hid (l.any (fun d => decide (d.1 = nm0)) = r) := hr
  have HC0 : Hid (w.cell? ⟨g, 0, none⟩ = some (.string nm0)) := hc0
  obtain ⟨a, c, rfl, hc, hl⟩ := hp.slice
  clear hr hc0
  go_enter Tryz.func63, Tryz.ntmps63
  go_wp2_with fail
  refine (index_any B g _ l nm0 w hB HP.out hg HC0.out r HR.out).mono ?_
  rintro e w1 ⟨k, rfl, hk, hb1⟩
  go_wp2
  go_ret
  refine ⟨ret_b ?_, hb1⟩
  first | rfl | exact hk | simp

theorem Cols.take {w : World} {B : Nat} {a : Option Addr} {n c : Nat} {l : List Col} (h : Cols w B (.slice a n c) l) (u : Nat) (hu : u ≤ l.length) : Cols w B (.slice a u c) (l.take u) := by
  obtain ⟨a', c', hv, hc, hl, hn, hx⟩ := h
  simp only [Value.slice.injEq] at hv
  obtain ⟨rfl, rfl, rfl⟩ := hv
  have e : (l.take u).length = u := by rw [List.length_take]; omega
  refine ⟨a, c, by rw [e], by rw [e]; omega, by rw [e]; omega, fun x hx => hn x (List.mem_of_mem_take hx), fun hne => ?_⟩
  obtain ⟨b, o, ha, hb, hcell⟩ := hx (by rintro rfl; simp at hne)
  refine ⟨b, o, ha, hb, fun i x hi => hcell i x ?_⟩
  rw [List.getElem?_take] at hi
  split at hi
  · exact hi
  · cases hi
end Go.Proofs.YtfibbjngllelbaaGreat
