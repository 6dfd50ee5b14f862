import Derived.Test.YtkpjjiomfgkobaaDoorRfr
import Derived.Test.YtkpjjiomfgkobaaDoorPui
import Derived.Deep.RegionHeld3
namespace Go.Proofs.YtkpjjiomfgkobaaDoor
open Go.RowKit Go.Proofs.YtkpjjiomfgkobaaDoor.Ds

/-- a reader at a place of its text, and what is left -/
structure Rdr (w : World) (R : Nat) (T : ByteArray) (p : Nat) (rest : List UInt8) : Prop where
  two : TwoB w R (.string T) (.int .i64 (p : Int))
  left : T.data.toList.drop p = rest
  le : p ≤ T.size
  small : T.size ≤ 65536
theorem Rdr.at {w w' : World} {R : Nat} {T : ByteArray} {p : Nat} {rest : List UInt8} (h : Rdr w R T p rest) (hb : Below w.heap.size w w') : Rdr w' R T p rest := ⟨h.two.below hb, h.left, h.le, h.small⟩
theorem rdr_len {T : ByteArray} {p : Nat} {rest : List UInt8} (h : T.data.toList.drop p = rest) (hp : p ≤ T.size) : p + rest.length = T.size := by
  have : T.data.toList.length = T.size := by simp
  rw [← h, List.length_drop, this]; omega
theorem rdr_get {T : ByteArray} {p : Nat} {b : UInt8} {rest : List UInt8} (h : T.data.toList.drop p = b :: rest) : ∃ hp : p < T.size, T[p] = b := by
  have hp : p < T.size := by
    rcases Nat.lt_or_ge p T.size with h1 | h1
    · exact h1
    · rw [List.drop_eq_nil_of_le (by simp; omega)] at h; cases h
  refine ⟨hp, ?_⟩
  rw [drop_str hp] at h
  exact (List.cons.inj h).1
theorem rdr_next {T : ByteArray} {p : Nat} {a rest : List UInt8} (h : T.data.toList.drop p = a ++ rest) : T.data.toList.drop (p + a.length) = rest := by
  rw [← List.drop_drop, h, List.drop_left]

set_option maxHeartbeats 1000000 in
theorem has_yes (R : Nat) (T : ByteArray) (p : Nat) (b : UInt8) (rest : List UInt8) (w : World) (h : Rdr w R T p (b :: rest)) :
    Calls Tryd.prog 57 #[.pointer (some ⟨R, 0, none⟩), .int .u8 (b.toNat : Int)] w fun e w' => e = .returned (.bool true) ∧ Rdr w' R T (p + 1) rest ∧ w.grownBy w' (some R) := by
  obtain ⟨hp, hb⟩ := rdr_get h.left
  subst hb
  have HR : Hid (Rdr w R T p (T[p] :: rest)) := h
  have c0 := h.two.c0
  have c1 := h.two.c1
  have f1 := h.two.f1
  have hs := h.small
  have e1 : ((p : Int) == (T.size : Int)) = false := by simp; omega
  have z0 : (0 : Int) ≤ (p : Int) := by omega
  have z1 : (p : Int) < (T.size : Int) := by omega
  clear h
  go_enter Tryd.func57, Tryd.ntmps57
  go_wp2
  go_region
  go_wp2
  go_ret
  refine ⟨rfl, ⟨?_, ?_, ?_, hs⟩, ?_⟩
  · have := (HR.out.two.below (w' := w.drew) (Below.refl _ _).drew).set1 (.int .i64 ((p : Int) + 1))
    exact_mod_cast this
  · exact rdr_next (a := [T[p]]) HR.out.left
  · omega
  · exact gb_set (gb_drew (gb_refl _ _)) 1 _

set_option maxHeartbeats 1000000 in
theorem has_no (R : Nat) (T : ByteArray) (p : Nat) (b c : UInt8) (rest : List UInt8) (w : World) (h : Rdr w R T p (c :: rest)) (hbc : c.toNat ≠ b.toNat) :
    Calls Tryd.prog 57 #[.pointer (some ⟨R, 0, none⟩), .int .u8 (b.toNat : Int)] w fun e w' => e = .returned (.bool false) ∧ Below w.heap.size w w' := by
  obtain ⟨hp, hb⟩ := rdr_get h.left
  subst hb
  have c0 := h.two.c0
  have c1 := h.two.c1
  have f1 := h.two.f1
  have hs := h.small
  have e1 : ((p : Int) == (T.size : Int)) = false := by simp; omega
  have e2 : (((T[p].toNat : Nat) : Int) != ((b.toNat : Nat) : Int)) = true := by simp; omega
  have z0 : (0 : Int) ≤ (p : Int) := by omega
  have z1 : (p : Int) < (T.size : Int) := by omega
  clear h
  go_enter Tryd.func57, Tryd.ntmps57
  go_wp2
  go_region
  go_wp2
  go_ret
  exact ⟨rfl, (Below.refl _ _).drew⟩
end Go.Proofs.YtkpjjiomfgkobaaDoor
