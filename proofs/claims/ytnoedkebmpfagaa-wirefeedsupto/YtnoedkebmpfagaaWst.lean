import Derived.Test.YtnoedkebmpfagaaWsm
import Derived.Test.YtnoedkebmpfagaaWra
import Derived.Test.YtnoedkebmpfagaaWww
import Derived.Laws.BitsAllLaws
import Derived.Deep.DeepCutAuto
/-
  PACKAGE wire, streams: said, begin, settle.
-/
namespace Go.Proofs.Ytnoedkebmpfagaa
open Go.RowKit Wc

theorem OB.pre {w : World} {base R : Nat} {a : Option Addr} {len c : Nat} {t : By} (h : OB w base R (.slice a len c) t) (n : Nat) (hn : n ≤ t.length) : (convert 47 9 (.slice a n c)).run Try.prog w = .ok (.string (tx (t.take n))) w := by
  have hl : (t.take n).length = n := by simp; omega
  by_cases hz : n = 0
  · subst hz
    cases a with
    | none => exact run_convert_bytes_nil (P := Try.prog) w 47 5 Try.underlying47 Try.underlying5 0 c 9 Try.underlying9
    | some a => exact run_convert_bytes_back (P := Try.prog) w 47 9 5 a c [] Try.underlying47 Try.underlying5 Try.underlying9 (fun j hj => by simp at hj)
  · obtain ⟨g, o, rfl, -, -, q4⟩ := h.cell (by rintro rfl; simp at hn; exact hz hn)
    have := run_convert_bytes_back (P := Try.prog) w 47 9 5 ⟨g, o, none⟩ c (t.take n) Try.underlying47 Try.underlying5 Try.underlying9 (fun j hj => by
      rw [Addr.add_lit]
      refine q4 j _ ?_
      rw [hl] at hj
      rw [← List.getElem?_eq_getElem, List.getElem?_take_of_lt hj])
    rw [hl] at this
    exact this
theorem OB.drop {w : World} {base R : Nat} {a : Option Addr} {len c : Nat} {t : By} (h : OB w base R (.slice a len c) t) (n : Nat) (hn : n ≤ t.length) : OB w base R (.slice (offA a c n) (len - n) (c - n)) (t.drop n) := by
  rcases h with ⟨e, rfl⟩ | ⟨g, o, cap, cur, e, h1, h2, h3, h4, h5, h6, h7⟩
  · simp only [Value.slice.injEq] at e
    obtain ⟨rfl, rfl, rfl⟩ := e
    simp at hn
    subst hn
    exact .inl ⟨by simp, by simp⟩
  · simp only [Value.slice.injEq] at e
    obtain ⟨rfl, rfl, rfl⟩ := e
    by_cases hc : c = n
    · subst hc
      have hl : t.length = c := by omega
      exact .inr ⟨g, o, 0, cur, by simp [hl], h1, h2, h3, by simp [hl], by omega, by omega, by simp [hl, bc]⟩
    · refine .inr ⟨g, o + n, c - n, cur, by rw [offA, if_neg hc, List.length_drop]; simp [Addr.add_lit], h1, h2, h3, by rw [List.length_drop]; omega, by omega, by omega, ?_⟩
      rw [List.length_drop, ← List.drop_drop]
      have : bc (t.drop n) = (bc t).drop n := by simp [bc]
      rw [this, ← h7, List.drop_take]
/-- a stream: what bytes it has, how long the frame is that has begun, whether it is broken -/
structure StM (w : World) (base R : Nat) (h : By) (due : Nat) (brk : Bool) : Prop where
  c : ∃ v, Cl w R 0 v ∧ OB w base R v h
  d : Cl w R 1 (.int .u64 (due : Int))
  k : Cl w R 2 (.bool brk)
  b : base ≤ R
theorem StM.at {w w' : World} {base R : Nat} {h : By} {due : Nat} {brk : Bool} (s : StM w base R h due brk) (hb : Below w.heap.size w w') : StM w' base R h due brk := by
  obtain ⟨⟨v, h1, h2⟩, h3, h4, h5⟩ := s
  exact ⟨⟨v, h1.at hb, h2.bel hb⟩, h3.at hb, h4.at hb, h5⟩
theorem StM.row {w : World} {base R : Nat} {h : By} {due : Nat} {brk : Bool} (s : StM w base R h due brk) : ∀ g, rowOf w R = some g → base ≤ g ∧ g ≠ R ∧ g < w.heap.size := by
  intro g hg
  obtain ⟨v, hv, ho⟩ := s.c
  unfold rowOf at hg
  rw [hv.c] at hg
  exact ho.own g hg
theorem StM.below {w w' : World} {base R : Nat} {h : By} {due : Nat} {brk : Bool} (s : StM w base R h due brk) (k : Fw R w w') : Below base w w' :=
  ⟨k.os, k.tape, k.output, k.size, fun g hg => k.block g (by have := s.d.lt; have := s.b; omega) (by have := s.b; omega) fun e => by have := (s.row g e).1; omega⟩
theorem Fw.setk (R : Nat) (w : World) (k : Nat) (hk : k ≠ 0) (u : Value) : Fw R w (w.setCell ⟨R, k, none⟩ u) := by
  have e : rowOf (w.setCell ⟨R, k, none⟩ u) R = rowOf w R := by unfold rowOf; rw [sc_other (by intro e; simp only [Addr.mk.injEq] at e; omega)]
  exact ⟨rfl, rfl, rfl, by simp, fun g _ h2 _ => Below.heap_setCell _ _ _ _ (by simpa using h2), fun g hg => .inl (by rw [← e]; exact hg)⟩
theorem Fw.set0 {R : Nat} {w : World} {v v' : Value} (hv : Cl w R 0 v) (hn : v'.ownBlock = none ∨ v'.ownBlock = v.ownBlock) : Fw R w (w.setCell ⟨R, 0, none⟩ v') :=
  Fw.app hv hv (World.grownBy.refl _ _) (by rcases hn with h | h; exact .inl h; exact .inr (.inl h))
theorem offA_own (a : Option Addr) (c n len len' c' : Nat) : (Value.slice (offA a c n) len' c').ownBlock = (Value.slice a len c).ownBlock := by
  unfold offA
  split
  · cases a <;> rfl
  · cases a with
    | none => rfl
    | some a =>
      obtain ⟨b, o, s⟩ := a
      cases s <;> simp only [Value.ownBlock, Option.map_some, Addr.add] <;> split <;> rfl
theorem stake_yes {w : World} {base R : Nat} {h : By} {due : Nat} {brk : Bool} (s : StM w base R h due brk) (n : Nat) (hn : n ≤ h.length) :
    Calls Try.prog 44 #[ptR R, .int .u64 (n : Int)] w fun e w' => e = .returned (.tuple #[.string (tx (h.take n)), .bool true]) ∧ StM w' base R (h.drop n) due brk ∧ Fw R w w' := by
  obtain ⟨v, hv, ho⟩ := s.c
  obtain ⟨a, c, rfl, h2, h3⟩ := ho.sl
  have h3' : c ≤ 9223372036854775807 := h3
  refine (take_yes hv h2 h3' n hn _ (ho.pre n hn)).mono ?_
  rintro e w' ⟨rfl, rfl⟩
  exact ⟨rfl, ⟨⟨_, hv.set _, (ho.drop n hn).setR 0 _⟩, s.d.oth (.inr (by decide)) _, s.k.oth (.inr (by decide)) _, s.b⟩, Fw.set0 hv (.inr (offA_own _ _ _ _ _ _))⟩
theorem stake_no {w : World} {base R : Nat} {h : By} {due : Nat} {brk : Bool} (s : StM w base R h due brk) (n : Nat) (hn : ¬ n ≤ h.length) :
    Calls Try.prog 44 #[ptR R, .int .u64 (n : Int)] w fun e w' => e = .returned (.tuple #[.string (tx []), .bool false]) ∧ w' = w := by
  obtain ⟨v, hv, ho⟩ := s.c
  obtain ⟨a, c, rfl, h2, h3⟩ := ho.sl
  have h3' : c ≤ 9223372036854775807 := h3
  exact take_no hv (by omega) n hn
/-! ### said -/
def sdT (x : By) : Nat := x.foldl (fun n b => n * 256 + b.toNat) 0
theorem sdT_snoc (x : By) (b : UInt8) : sdT (x ++ [b]) = sdT x * 256 + b.toNat := by simp [sdT]
theorem sdT_lt (x : By) : sdT x < 256 ^ x.length := by
  induction hn : x.length generalizing x with
  | zero => obtain rfl := List.eq_nil_of_length_eq_zero hn; simp [sdT]
  | succ n ih =>
    obtain ⟨y, b, rfl⟩ : ∃ y b, x = y ++ [b] := ⟨x.dropLast, x.getLast (by rintro rfl; simp at hn), (List.dropLast_concat_getLast _).symm⟩
    have hl : y.length = n := by simp at hn; omega
    have := ih y hl
    have hb := b.toNat_lt
    simp only [Nat.reducePow] at hb
    rw [sdT_snoc, Nat.pow_succ]
    omega
theorem sdT_be4 {x : By} (h : x.length = 4) : sdT x = be4 x := by
  match x, h with
  | [a, b, c, d], _ => simp only [sdT, List.foldl, be4]; omega
theorem or_low {a b : Nat} (ha : a < 72057594037927936) (hb : b < 256) : bits .or .u64 ((a * 256 : Nat) : Int) (b : Int) = ((a * 256 + b : Nat) : Int) := by
  rw [u64_or_nat _ _ (by omega) (by omega)]
  congr 1
  have e : a * 256 = a <<< 8 := by rw [Nat.shiftLeft_eq]
  rw [e, ← Nat.shiftLeft_add_eq_or_of_lt (by omega : b < 2 ^ 8)]
set_option maxHeartbeats 1000000 in
theorem said_any (x : By) (hx : x.length = 4) (w : World) : Calls Try.prog 51 #[.string (tx x)] w fun e w' => e = .returned (.int .u64 (be4 x : Int)) ∧ w' = w := by
  have hsz := tx_size x
  rw [hx] at hsz
  have HX : Hid (x.length = 4) := hx
  rw [← sdT_be4 hx]
  clear hx
  go_enter Try.func51, Try.ntmps51
  go_wp2_with fail
  go_loopw [3, 7] (fun nv iv wr => ∃ (i : Nat), nv = .int .u64 (sdT (x.take i) : Int) ∧ iv = .int .i64 (i : Int) ∧ i ≤ 4 ∧ wr = w) (fun _ iv _ => 4 - (intOf iv).toNat)
  case atStart => exact ⟨0, by simp [sdT], rfl, by decide, rfl⟩
  case round =>
    obtain ⟨i, rfl, rfl, hi, rfl⟩ := hrel
    by_cases c : i < 4
    · have z1 : (i : Int) < 4 := by omega
      have hlt : i < x.length := by rw [HX.out]; exact c
      obtain ⟨b, hb⟩ : ∃ b, x[i]? = some b := ⟨_, List.getElem?_eq_getElem hlt⟩
      have e0 : ∀ h, (tx x)[i]'h = b := fun h => by
        have h3 : (tx x)[i]'h = x[i]'hlt := rfl
        rw [h3]
        exact Option.some.inj ((List.getElem?_eq_getElem hlt).symm.trans hb)
      have hb2 := b.toNat_lt
      simp only [Nat.reducePow] at hb2
      have hsn : Hid (sdT (x.take (i + 1)) = sdT (x.take i) * 256 + b.toNat) := by
        rw [Hid, List.take_add_one, hb]; exact sdT_snoc _ _
      have hlt3 : sdT (x.take i) < 4294967296 := by
        have h1 := sdT_lt (x.take i)
        have h2 : (256 : Nat) ^ (x.take i).length ≤ 256 ^ 4 := Nat.pow_le_pow_right (by decide) (by simp; omega)
        have e4 : (256 : Nat) ^ 4 = 4294967296 := by decide
        omega
      obtain ⟨A, hA⟩ : ∃ A, sdT (x.take i) = A := ⟨_, rfl⟩
      rw [hA] at hlt3 hsn ⊢
      have ho := or_low (a := A) (by omega) hb2
      obtain ⟨C, hC⟩ : ∃ C, A * 256 + b.toNat = C := ⟨_, rfl⟩
      rw [hC] at ho hsn
      rw [show ((A * 256 : Nat) : Int) = (A : Int) * 256 by omega] at ho
      have hz : (i : Int) < ((tx x).size : Int) := by rw [hsz]; omega
      have hz2 : i < (tx x).size := by rw [hsz]; exact c
      clear hb hA hC
      go_wp2
      go_roundw
      case rel => exact ⟨i + 1, by rw [hsn.out], by go_num, c, by first | rfl | trivial⟩
      case measure => simp [intOf]; omega
    · obtain rfl : i = 4 := by omega
      have e4 : x.take 4 = x := List.take_of_length_le (by rw [HX.out]; exact Nat.le_refl _)
      rw [e4]
      go_wp2
      go_ret
      exact ⟨rfl, rfl⟩
end Go.Proofs.Ytnoedkebmpfagaa
