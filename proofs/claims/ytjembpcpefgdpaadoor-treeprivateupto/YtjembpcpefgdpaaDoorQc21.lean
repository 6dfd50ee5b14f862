import Derived.Test.YtjembpcpefgdpaaDoorQc15
import Derived.Test.YtjembpcpefgdpaaDoorQc20
import Derived.Test.YtjembpcpefgdpaaDoorQc07
import Derived.Test.YtjembpcpefgdpaaDoorQc16
import Derived.Laws.IdiomCopy
import Derived.RangeFuncBox
namespace Go.Proofs.YtjembpcpefgdpaaDoor
open Go.RowKit Go.Proofs.YtjembpcpefgdpaaDoor.Ds

theorem tall_any (h : Int) (r : Bool) (hr : decide (0 ≤ h ∧ h ≤ 10) = r) (w : World) : Calls Tryd.prog 29 #[.int .i64 h] w fun e w' => e = .returned (.bool r) ∧ w' = w := by
  by_cases h0 : 0 ≤ h
  · by_cases h1 : h ≤ 10
    · obtain rfl : true = r := by rw [← hr]; simp [h0, h1]
      have g0 : h ≥ 0 := h0
      go_enter Tryd.func29, Tryd.ntmps29
      go_wp2
      go_ret
      exact ⟨rfl, rfl⟩
    · obtain rfl : false = r := by rw [← hr]; simp [h1]
      have g0 : h ≥ 0 := h0
      go_enter Tryd.func29, Tryd.ntmps29
      go_wp2
      go_ret
      exact ⟨rfl, rfl⟩
  · obtain rfl : false = r := by rw [← hr]; simp [h0]
    have g0 : ¬ h ≥ 0 := h0
    go_enter Tryd.func29, Tryd.ntmps29
    go_wp2
    go_ret
    exact ⟨rfl, rfl⟩
theorem wrap_pow {k : Nat} (hk : k ≤ 62) : IntKind.i64.wrap ((2 : Int) ^ k) = ((2 ^ k : Nat) : Int) := by
  have : 2 ^ k ≤ 2 ^ 62 := Nat.pow_le_pow_right (by decide) hk
  rw [IntKind.wrap_i64]
  have e : ((2 : Int) ^ k) = ((2 ^ k : Nat) : Int) := by simp
  rw [e]
  generalize 2 ^ k = q at *
  omega
theorem len_any (k : Nat) (hk : k ≤ 10) (w : World) : Calls Tryd.prog 32 #[.int .i64 (k : Int)] w fun e w' => e = .returned (.int .i64 ((2 ^ k : Nat) : Int)) ∧ w' = w := by
  have hw : IntKind.i64.wrap ((2 : Int) ^ k) = (2 : Int) ^ k := by rw [wrap_pow (by omega)]; simp
  have h0 : (0 : Int) ≤ (k : Int) := by omega
  have h1 : (k : Int) ≤ 64 := by omega
  go_enter Tryd.func32, Tryd.ntmps32
  go_wp2
  go_ret
  refine ⟨?_, rfl⟩
  simp

set_option maxRecDepth 100000 in
theorem long_any (k : Nat) (hk : k ≤ 60) (w : World) : Calls Tryd.prog 19 #[.int .i64 (k : Int)] w fun e w' => e = .returned (.int .i64 ((2 ^ k : Nat) : Int)) ∧ w' = w := by
  go_enter Tryd.func19, Tryd.ntmps19
  go_wp2
  go_loopw [3, 4] (fun n s wr => ∃ (i q : Nat), s = .int .i64 (i : Int) ∧ n = .int .i64 (q : Int) ∧ i ≤ k ∧ Hid (2 ^ i = q) ∧ wr = w) (fun _ s _ => k - (intOf s).toNat)
  case atStart => exact ⟨0, 1, rfl, rfl, Nat.zero_le _, rfl, rfl⟩
  case round =>
    obtain ⟨i, q, rfl, rfl, hi, HQ, hwr⟩ := hrel
    have hwy := hwr.symm
    subst hwy
    clear hwr
    by_cases h1 : i < k
    · have hq : 2 * q ≤ 2 ^ 61 := by
        have : 2 ^ i ≤ 2 ^ 60 := Nat.pow_le_pow_right (by decide) (by omega)
        rw [← HQ.out]; omega
      have z1 : (i : Int) < (k : Int) := by omega
      go_wp2
      go_roundw
      case rel => exact ⟨i + 1, 2 * q, by go_num, by go_num, by omega, by rw [Hid, Nat.pow_succ, HQ.out]; omega, by first | rfl | trivial⟩
      case measure => simp [intOf]; omega
    · obtain rfl : i = k := by omega
      go_wp2
      go_ret
      exact ⟨by rw [HQ.out]; rfl, rfl⟩

/-- How many nodes end with the step at a time. -/
def enT (t : Nat) : Nat := 1 + Lib.ctz 64 (t + 1)

theorem enT_spec (t : Nat) (ht : t + 1 < 2 ^ 64) : ∃ m, t + 1 = 2 ^ (enT t - 1) * (2 * m + 1) := by
  obtain ⟨m, hm, _⟩ := Lib.ctzFrom_spec 64 (t + 1) (by omega) ht
  refine ⟨m, ?_⟩
  have e : enT t - 1 = Lib.ctzFrom 64 (t + 1) := by simp [enT, Lib.ctz]
  rw [e]; exact hm

theorem enT_pos (t : Nat) : 1 ≤ enT t := by unfold enT; omega

theorem enT_le (t k : Nat) (ht : t < 2 ^ k) (hk : k ≤ 60) : enT t ≤ k + 1 := by
  have h64 : t + 1 < 2 ^ 64 := by
    have : 2 ^ k ≤ 2 ^ 60 := Nat.pow_le_pow_right (by decide) hk
    omega
  obtain ⟨m, hm⟩ := enT_spec t h64
  by_cases h : enT t ≤ k + 1
  · exact h
  · have h1 : 2 ^ (k + 1) ≤ 2 ^ (enT t - 1) := Nat.pow_le_pow_right (by decide) (by omega)
    have h2 : 2 ^ (enT t - 1) * 1 ≤ 2 ^ (enT t - 1) * (2 * m + 1) := Nat.mul_le_mul_left _ (by omega)
    have h3 : 2 ^ (k + 1) = 2 * 2 ^ k := by rw [Nat.pow_succ]; omega
    have h4 : 1 ≤ 2 ^ k := Nat.one_le_two_pow
    omega

/-- A node of a level ends just where its length divides the steps so far. -/
theorem enT_dvd (t l : Nat) (ht : t + 1 < 2 ^ 64) : (t + 1) % 2 ^ l = 0 ↔ l < enT t := by
  obtain ⟨m, hm⟩ := enT_spec t ht
  have hp := enT_pos t
  rw [hm]
  constructor
  · intro h
    by_cases hl : l < enT t
    · exact hl
    · obtain ⟨d, hd⟩ : ∃ d, l = (enT t - 1) + (d + 1) := ⟨l - enT t, by omega⟩
      rw [hd, Nat.pow_add] at h
      rw [Nat.mul_mod_mul_left] at h
      have h0 : 0 < 2 ^ (enT t - 1) := Nat.two_pow_pos _
      have h1 : (2 * m + 1) % 2 ^ (d + 1) = 0 := by
        rcases Nat.mul_eq_zero.1 h with h | h
        · omega
        · exact h
      have h2 : 2 ∣ 2 ^ (d + 1) := ⟨2 ^ d, by rw [Nat.pow_succ]; omega⟩
      have h3 : 2 ∣ (2 * m + 1) := Nat.dvd_trans h2 (Nat.dvd_of_mod_eq_zero h1)
      omega
  · intro h
    obtain ⟨d, hd⟩ : ∃ d, enT t - 1 = l + d := ⟨enT t - 1 - l, by omega⟩
    rw [hd, Nat.pow_add, Nat.mul_assoc]
    exact Nat.mul_mod_right _ _

theorem ending_any (t : Nat) (ht : t ≤ 2 ^ 60) (w : World) (hT : TabAt 1 Lib.deBruijn64tab w) :
    Calls Tryd.prog 34 #[.int .i64 (t : Int)] w fun e w' => e = .returned (.int .i64 ((enT t : Nat) : Int)) ∧ w' = w := by
  have ct := Any7.bits_TrailingZeros Tryd.tz (t + 1) (by omega) w (fun _ => hT)
  have hk : Lib.ctz 64 (t + 1) < 64 := (Lib.lowest_bit 64 (t + 1) (by omega) (by omega)).2
  have ct' : Calls Tryd.prog 53 #[.int .u64 ((t : Int) + 1)] w fun e w' => e = .returned (.int .i64 (Lib.ctz 64 (t + 1))) ∧ w' = w := ct
  clear ct
  have w1 : IntKind.i64.wrap ((t : Int) + 1) = (t : Int) + 1 := by rw [IntKind.wrap_i64]; omega
  have w2 : IntKind.u64.wrap ((t : Int) + 1) = (t : Int) + 1 := by rw [IntKind.wrap_u64]; omega
  obtain ⟨q, hq⟩ : ∃ q, Lib.ctz 64 (t + 1) = q := ⟨_, rfl⟩
  have w3 : IntKind.i64.wrap (1 + (q : Int)) = 1 + (q : Int) := by rw [IntKind.wrap_i64]; omega
  rw [hq] at ct'
  go_enter Tryd.func34, Tryd.ntmps34
  go_wp2_with fail
  refine ct'.mono ?_
  rintro e1 w1 ⟨rfl, rfl⟩
  go_wp2_with fail
  go_ret
  refine ⟨?_, rfl⟩
  simp [enT, hq]
end Go.Proofs.YtjembpcpefgdpaaDoor

namespace Go.Proofs.YtjembpcpefgdpaaDoor
open Go.RowKit Go.Proofs.YtjembpcpefgdpaaDoor.Ds

theorem infoI : (Tryd.prog.info? 3).map (fun i => (i.zero, i.size, i.bytes)) = some (some (.int .i64 0), 1, 8) := by kernel_rfl
/-- a row of numbers that may be written -/
structure RowI (w : World) (g : Nat) (xs : List Int) : Prop where
  cells : ∀ i x, xs[i]? = some x → w.cell? ⟨g, i, none⟩ = some (.int .i64 x)
  thaw : ∀ i, i < xs.length → w.frozen? ⟨g, i, none⟩ = false
  lt : g < w.heap.size
theorem RowI.keep {w w' : World} {g N : Nat} {xs : List Int} (h : RowI w g xs) (hb : Below N w w') (hg : g < N) : RowI w' g xs :=
  ⟨fun i x hi => (hb.cell (p := ⟨g, i, none⟩) hg).trans (h.cells i x hi), fun i hi => (hb.frozen (p := ⟨g, i, none⟩) hg).trans (h.thaw i hi), Nat.lt_of_lt_of_le h.lt hb.size⟩
theorem RowI.set {w : World} {g : Nat} {xs : List Int} (h : RowI w g xs) (i : Nat) (k : Int) : RowI (w.setCell ⟨g, i, none⟩ (.int .i64 k)) g (xs.set i k) := by
  refine ⟨fun j x hj => ?_, fun j hj => by rw [sc_frozen]; exact h.thaw j (by simpa using hj), by simpa using h.lt⟩
  by_cases e : i = j
  · subst e
    have hi : i < xs.length := by have := (List.getElem?_eq_some_iff.1 hj).1; simpa using this
    rw [List.getElem?_set_self hi] at hj
    obtain rfl : k = x := by simpa using hj
    obtain ⟨y, hy⟩ := get_lt hi
    exact sc_same (h.cells i y hy)
  · rw [List.getElem?_set_ne e] at hj
    rw [sc_other (fun h => e (congrArg Addr.off h))]
    exact h.cells j x hj
theorem RowI.made (w : World) (n : Nat) : RowI (w.alloc (.cells (madeCells #[.int .i64 0] n) 3)) w.heap.size (List.replicate n 0) := by
  refine ⟨fun i x hi => ?_, fun i _ => World.frozen?_alloc_at _ _ _ _ rfl, by simp⟩
  have h1 : i < n := by have := (List.getElem?_eq_some_iff.1 hi).1; simpa using this
  obtain rfl : x = 0 := by
    have := (List.getElem?_eq_some_iff.1 hi).2; simp at this; exact this.symm
  rw [World.cell?_alloc_at _ _ _ _ rfl]
  simp [madeCells, h1, Nat.mod_one]
theorem RowI.ints {w : World} {g : Nat} {xs : List Int} (h : RowI w g xs) (hl : xs.length ≤ 1073741824) : ∀ m, m < g → Ints w w.heap.size m (.slice (some ⟨g, 0, none⟩) xs.length xs.length) xs :=
  fun m hm => ⟨_, _, rfl, Nat.le_refl _, hl, fun _ => ⟨g, 0, rfl, h.lt, by omega, fun i x hi => by rw [Nat.zero_add]; exact h.cells i x hi⟩⟩

/-- 'make' of n numbers -/
theorem make_ints (n : Nat) (hn : n ≤ 1073741824) (u : World) : (Instr.makeSlice 24 (.int .i64 (n : Int)) (.int .i64 (n : Int))).run Tryd.prog u =
    .ok (.slice (some ⟨u.heap.size, 0, none⟩) n n) (u.alloc (.cells (madeCells #[.int .i64 0] n) 3)) := by
  obtain ⟨i0, hi, hz0, hz1, hz2⟩ := info_parts infoI
  have h := run_make (P := Tryd.prog) u 24 3 i0 (.int .i64 0) Tryd.underlying24 hi hz0 .i64 .i64 (n : Int) (n : Int) (by omega) (Int.le_refl _) (by rw [hz2]; omega) (by omega)
  rw [Int.toNat_natCast] at h
  simpa [hz1, Value.cells] using h

theorem RowI.beside {w : World} {g : Nat} {xs : List Int} (h : RowI w g xs) {p : Addr} (hp : p.block ≠ g) (u : Value) : RowI (w.setCell p u) g xs :=
  ⟨fun i x hi => by rw [sc_other (fun e => hp (congrArg Addr.block e))]; exact h.cells i x hi, fun i hi => by rw [sc_frozen]; exact h.thaw i hi, by simpa using h.lt⟩

/-- seven cells in a block -/
structure SevB (w : World) (R : Nat) (a b c d e f g : Value) : Prop where
  is : w.heap[R]? = some (.cells #[a, b, c, d, e, f, g] 73 (0, 0))
theorem SevB.c0 {w : World} {R : Nat} {a b c d e f g : Value} (h : SevB w R a b c d e f g) : w.cell? ⟨R, 0, none⟩ = some a := by simp [World.cell?, h.is]
theorem SevB.f0 {w : World} {R : Nat} {a b c d e f g : Value} (h : SevB w R a b c d e f g) : w.frozen? ⟨R, 0, none⟩ = false := by simp [World.frozen?, h.is]
theorem SevB.c1 {w : World} {R : Nat} {a b c d e f g : Value} (h : SevB w R a b c d e f g) : w.cell? ⟨R, 1, none⟩ = some b := by simp [World.cell?, h.is]
theorem SevB.f1 {w : World} {R : Nat} {a b c d e f g : Value} (h : SevB w R a b c d e f g) : w.frozen? ⟨R, 1, none⟩ = false := by simp [World.frozen?, h.is]
theorem SevB.c2 {w : World} {R : Nat} {a b c d e f g : Value} (h : SevB w R a b c d e f g) : w.cell? ⟨R, 2, none⟩ = some c := by simp [World.cell?, h.is]
theorem SevB.f2 {w : World} {R : Nat} {a b c d e f g : Value} (h : SevB w R a b c d e f g) : w.frozen? ⟨R, 2, none⟩ = false := by simp [World.frozen?, h.is]
theorem SevB.c3 {w : World} {R : Nat} {a b c d e f g : Value} (h : SevB w R a b c d e f g) : w.cell? ⟨R, 3, none⟩ = some d := by simp [World.cell?, h.is]
theorem SevB.f3 {w : World} {R : Nat} {a b c d e f g : Value} (h : SevB w R a b c d e f g) : w.frozen? ⟨R, 3, none⟩ = false := by simp [World.frozen?, h.is]
theorem SevB.c4 {w : World} {R : Nat} {a b c d e f g : Value} (h : SevB w R a b c d e f g) : w.cell? ⟨R, 4, none⟩ = some e := by simp [World.cell?, h.is]
theorem SevB.f4 {w : World} {R : Nat} {a b c d e f g : Value} (h : SevB w R a b c d e f g) : w.frozen? ⟨R, 4, none⟩ = false := by simp [World.frozen?, h.is]
theorem SevB.c5 {w : World} {R : Nat} {a b c d e f g : Value} (h : SevB w R a b c d e f g) : w.cell? ⟨R, 5, none⟩ = some f := by simp [World.cell?, h.is]
theorem SevB.f5 {w : World} {R : Nat} {a b c d e f g : Value} (h : SevB w R a b c d e f g) : w.frozen? ⟨R, 5, none⟩ = false := by simp [World.frozen?, h.is]
theorem SevB.c6 {w : World} {R : Nat} {a b c d e f g : Value} (h : SevB w R a b c d e f g) : w.cell? ⟨R, 6, none⟩ = some g := by simp [World.cell?, h.is]
theorem SevB.f6 {w : World} {R : Nat} {a b c d e f g : Value} (h : SevB w R a b c d e f g) : w.frozen? ⟨R, 6, none⟩ = false := by simp [World.frozen?, h.is]
theorem SevB.lt {w : World} {R : Nat} {a b c d e f g : Value} (h : SevB w R a b c d e f g) : R < w.heap.size := (Array.getElem?_eq_some_iff.1 h.is).1
theorem SevB.new (w : World) (a b c d e f g : Value) (R : Nat) (hR : R = w.heap.size) : SevB (w.alloc (.cells #[a, b, c, d, e, f, g] 73)) R a b c d e f g := ⟨by rw [hR]; exact World.alloc_heap_new w _⟩
theorem SevB.same {w w' : World} {R : Nat} {a b c d e f g : Value} (h : SevB w R a b c d e f g) (hk : w'.heap[R]? = w.heap[R]?) : SevB w' R a b c d e f g := ⟨hk.trans h.is⟩
theorem SevB.keep {w w' : World} {R : Nat} {a b c d e f g : Value} (h : SevB w R a b c d e f g) {N : Nat} (hb : Below N w w') (hN : R < N) : SevB w' R a b c d e f g := ⟨(hb.block R hN).trans h.is⟩
theorem setCell_heap (w : World) (R i : Nat) (x : Value) (cs : Array Value) (t : TypeId) (fr : Nat × Nat) (h : w.heap[R]? = some (.cells cs t fr)) : (w.setCell ⟨R, i, none⟩ x).heap[R]? = some (.cells (cs.setIfInBounds i x) t fr) := by
  obtain ⟨hlt, hk⟩ := Array.getElem?_eq_some_iff.1 h
  show (w.heap.modify R _)[R]? = _
  rw [Array.getElem?_eq_getElem (by rw [Array.size_modify]; exact hlt), Array.getElem_modify_self, hk]
  rfl
theorem SevB.put5 {w : World} {R : Nat} {a b c d e f g : Value} (h : SevB w R a b c d e f g) (x : Value) : SevB (w.setCell ⟨R, 5, none⟩ x) R a b c d e x g := ⟨by rw [setCell_heap w R 5 x _ _ _ h.is]; rfl⟩
theorem SevB.put6 {w : World} {R : Nat} {a b c d e f g : Value} (h : SevB w R a b c d e f g) (x : Value) : SevB (w.setCell ⟨R, 6, none⟩ x) R a b c d e f x := ⟨by rw [setCell_heap w R 6 x _ _ _ h.is]; rfl⟩

theorem rowI_of_owns {w : World} {base : Nat} {v : Value} {xs : List Int} (h : w.ownsRow base 3 1 v xs.length (xs.map (.int .i64))) (hne : xs ≠ []) : ∃ g cap, v = .slice (some ⟨g, 0, none⟩) xs.length cap ∧ xs.length ≤ cap ∧ base ≤ g ∧ RowI w g xs := by
  obtain ⟨_, ⟨hv, h0⟩ | ⟨g, cap, cur, hv, hb, hcur, hc, _, hsz, hx⟩⟩ := h
  · exact absurd (List.length_eq_zero_iff.1 h0) hne
  · refine ⟨g, cap, hv, hc, hb, fun i x hi => ?_, fun i _ => by simp [World.frozen?, hcur], (Array.getElem?_eq_some_iff.1 hcur).1⟩
    have hi2 : i < xs.length := (List.getElem?_eq_some_iff.1 hi).1
    have : cur[i]? = some (.int .i64 x) := by
      have h1 : (xs.map (Value.int .i64))[i]? = some (.int .i64 x) := by simp [hi]
      rw [← hx, List.getElem?_take_of_lt (by omega)] at h1
      simpa using h1
    simp [World.cell?, hcur, this]

set_option maxHeartbeats 1000000 in
set_option maxRecDepth 100000 in
/-- slices.Clone: a row of one's own -/
theorem cloneR_any (g0 cap0 : Nat) (xs : List Int) (w : World) (hx : RowI w g0 xs) (hne : xs ≠ []) (hl : xs.length ≤ 1024) :
    Calls Tryd.prog 33 #[.slice (some ⟨g0, 0, none⟩) xs.length cap0] w fun e w' => ∃ g cap, e = .returned (.slice (some ⟨g, 0, none⟩) xs.length cap) ∧ xs.length ≤ cap ∧ w.heap.size ≤ g ∧ RowI w' g xs ∧ Below w.heap.size w w' := by
  have q22 : ∀ (w : World) (a : Option Addr) (n c n' c' : Nat), (binOp .eql 24 (.slice a n c) (.slice none n' c')).run Tryd.prog w = .ok (.bool a.isNone) w := fun w a n c n' c' => Lib.run_eql_slice_nil w _ _ a n c n' c' Tryd.underlying24
  have A : Hid (∀ j u, (xs.map (Value.int .i64))[j]? = some u → ∀ o, (w.alloc o).cell? ((⟨g0, 0, none⟩ : Addr).add j) = some u) := by
    intro j u hj o
    have hlt : j < xs.length := by have := (List.getElem?_eq_some_iff.1 hj).1; simpa using this
    obtain ⟨x, hx1⟩ := get_lt hlt
    rw [Addr.add_lit, World.cell?_alloc_lt _ _ _ (by exact hx.lt), Nat.zero_add, hx.cells j x hx1]
    simpa [hx1] using hj
  obtain ⟨i0, hi, hz0, hz1, hz2⟩ := info_parts info3
  have hnb : Hid (xs.length * 8 ≤ 140737488355328 ∧ xs.length ≤ maxLen) := ⟨by omega, by simp [maxLen]; omega⟩
  have HNE : Hid (xs ≠ []) := hne
  clear hx hne
  go_enter Tryd.func33, Tryd.ntmps33
  go_wp2_with (at_builtin; refine wpList_append_own _ rfl _ _ 24 rfl w.heap.size 3 i0 (.int .i64 0) 1 8 Tryd.underlying24 hi hz0 hz1 hz2 rfl (by decide) _ _ _ rfl (World.ownsRow_made w #[] 0 (Nat.le_refl _) (Nat.zero_le _) (by simp)) ⟨g0, 0, none⟩ xs.length cap0 (xs.map (Value.int .i64)) rfl ?qc1 ?qc2 ?qc3 ?qc4 ?qc5 ?qc6 ?_)
  case qc1 => simp
  case qc2 => intro j u hj; exact A.out j u hj _
  case qc3 => intro u hu; obtain ⟨x, _, rfl⟩ := List.mem_map.1 hu; rfl
  case qc4 => rw [Nat.zero_add]; exact hnb.out.2
  case qc5 => rw [Nat.zero_add]; exact hnb.out.1
  case qc6 => simp
  intro v' w1 hown hgrow hnil
  obtain ⟨g, cap, rfl, h1, h2, h3⟩ := rowI_of_owns (xs := xs) (by simpa using hown) HNE.out
  have H3 : Hid (RowI w1 g xs) := h3
  clear h3 hown
  go_wp2
  go_ret
  refine ⟨g, cap, rfl, h1, h2, H3.out, ?_⟩
  exact ((Below.refl _ w).alloc (Nat.le_refl _) _).grown hgrow (by simp) (by intro k hk; simp [Value.ownBlock] at hk; omega)
end Go.Proofs.YtjembpcpefgdpaaDoor
