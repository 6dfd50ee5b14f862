import Derived.Test.YtkpjjiomfgkobaaDoorRow1
import Derived.Test.YtkpjjiomfgkobaaDoorClc
namespace Go.Proofs.YtkpjjiomfgkobaaDoor
open Go.RowKit Go.Proofs.YtkpjjiomfgkobaaDoor.Ds

/-- what is left ahead of word i of a line -/
def remT (ws : List (List UInt8)) (i : Nat) (rest : List UInt8) : List UInt8 :=
  if i = 0 then lineT ws ++ rest else Lib.joinTail [32] (ws.drop i) ++ 10 :: rest
theorem jt_cons (x : List UInt8) (r : List (List UInt8)) : Lib.joinTail [32] (x :: r) = 32 :: (x ++ Lib.joinTail [32] r) := by simp [Lib.joinTail]
theorem jt_nil : Lib.joinTail [32] [] = [] := rfl
theorem rem_zero (ws : List (List UInt8)) (rest : List UInt8) : remT ws 0 rest = lineT ws ++ rest := by rw [remT, if_pos rfl]
theorem rem_first {ws : List (List UInt8)} {x : List UInt8} {rest : List UInt8} (h : ws[0]? = some x) : remT ws 0 rest = x ++ remT ws 1 rest := by
  cases ws with
  | nil => simp at h
  | cons y r =>
    obtain rfl : y = x := by simpa using h
    rw [remT, remT, if_pos rfl, if_neg (by omega), lineT, Lib.join_cons]
    simp
theorem rem_next {ws : List (List UInt8)} {i : Nat} {x : List UInt8} {rest : List UInt8} (hi : i ≠ 0) (h : ws[i]? = some x) : remT ws i rest = 32 :: (x ++ remT ws (i + 1) rest) := by
  rw [remT, remT, if_neg hi, if_neg (by omega)]
  have hl : i < ws.length := (List.getElem?_eq_some_iff.1 h).1
  have e : ws.drop i = x :: ws.drop (i + 1) := by
    rw [List.drop_eq_getElem_cons hl]
    congr 1
    exact (List.getElem?_eq_some_iff.1 h).2
  rw [e, jt_cons]
  simp
theorem rem_end {ws : List (List UInt8)} {i : Nat} {rest : List UInt8} (hi : i ≠ 0) (h : ws.length ≤ i) : remT ws i rest = 10 :: rest := by
  rw [remT, if_neg hi, List.drop_eq_nil_of_le h, jt_nil]; rfl
/-- behind a word no digit stands -/
theorem rem_head (ws : List (List UInt8)) (i : Nat) (rest : List UInt8) : ∃ c t, remT ws (i + 1) rest = c :: t ∧ digB c = false ∧ (i + 1 < ws.length → c.toNat = 32) ∧ (ws.length ≤ i + 1 → c.toNat = 10) := by
  by_cases h : i + 1 < ws.length
  · obtain ⟨x, hx⟩ := get_lt h
    exact ⟨32, _, rem_next (by omega) hx, by decide, fun _ => rfl, fun h2 => by omega⟩
  · exact ⟨10, rest, rem_end (by omega) (by omega), by decide, fun h2 => absurd h2 h, fun _ => rfl⟩
theorem RowI.gb {w w' : World} {g : Nat} {row : Option Nat} {xs : List Int} (h : RowI w g xs) (b : w.grownBy w' row) (hne : row ≠ some g) : RowI w' g xs := by
  have hk : w'.heap[g]? = w.heap[g]? := b.block g h.lt (fun e => hne e.symm)
  exact ⟨fun i x hi => (World.cell?_of_block (w := w) (a := ⟨g, i, none⟩) hk).trans (h.cells i x hi), fun i hi => (World.frozen?_of_block (w := w) (a := ⟨g, i, none⟩) hk).trans (h.thaw i hi), Nat.lt_of_lt_of_le h.lt b.size⟩
/-- the numbers so far, and zeros behind them -/
def nuS (r : List Int) (n i : Nat) : List Int := r.take i ++ List.replicate (n - i) 0
theorem nuS_zero (r : List Int) (n : Nat) : nuS r n 0 = List.replicate n 0 := by simp [nuS]
theorem nuS_len {r : List Int} {n i : Nat} (hl : r.length = n) (hi : i ≤ n) : (nuS r n i).length = n := by simp [nuS]; omega
theorem nuS_all {r : List Int} {n : Nat} (hl : r.length = n) : nuS r n n = r := by simp [nuS, ← hl]
theorem nuS_set {r : List Int} {n i : Nat} (hl : r.length = n) {x : Int} (h : r[i]? = some x) : (nuS r n i).set i x = nuS r n (i + 1) := by
  have hi : i < r.length := (List.getElem?_eq_some_iff.1 h).1
  apply List.ext_getElem?
  intro j
  simp only [nuS]
  rw [List.getElem?_set]
  simp only [List.length_append, List.length_take, List.length_replicate, List.getElem?_append, List.getElem?_take, List.getElem?_replicate]
  by_cases e : i = j
  · subst e
    rw [if_pos rfl, if_pos (by omega), if_pos (by omega), if_pos (by omega), h]
  · rw [if_neg e]
    by_cases h1 : j < i
    · rw [if_pos (by omega), if_pos h1, if_pos (by omega), if_pos (by omega)]
    · have q1 : ¬ j < min i r.length := by omega
      have q2 : ¬ j < min (i + 1) r.length := by omega
      rw [if_neg q1, if_neg q2]
      have e2 : (j - min i r.length < n - i) ↔ (j - min (i + 1) r.length < n - (i + 1)) := by omega
      by_cases h3 : j - min i r.length < n - i
      · rw [if_pos h3, if_pos (e2.1 h3)]
      · rw [if_neg h3, if_neg (fun h => h3 (e2.2 h))]

theorem Rdr.other {w : World} {R : Nat} {T : ByteArray} {q : Nat} {rest : List UInt8} (h : Rdr w R T q rest) {a : Addr} (ha : a.block ≠ R) (u : Value) : Rdr (w.setCell a u) R T q rest := ⟨h.two.other ha u, h.left, h.le, h.small⟩
/-- one number is laid in the row -/
theorem row_step {w w3 : World} {R i n q : Nat} {T : ByteArray} {r : List Int} {x : Int} {t : List UInt8} (h1 : Rdr w3 R T q t) (h2 : RowI w3 w.heap.size (nuS r n i)) (h3 : w.grownBy w3 (some R)) (hR : R < w.heap.size) (hl : r.length = n) (hx : r[i]? = some x) :
    Rdr (w3.setCell ⟨w.heap.size, i, none⟩ (.int .i64 x)) R T q t ∧ RowI (w3.setCell ⟨w.heap.size, i, none⟩ (.int .i64 x)) w.heap.size (nuS r n (i + 1)) ∧ w.grownBy (w3.setCell ⟨w.heap.size, i, none⟩ (.int .i64 x)) (some R) := by
  refine ⟨h1.other (by simp; omega) _, by rw [← nuS_set hl hx]; exact h2.set i x, gb_grow h3 (row := some w.heap.size) (gb_set (gb_refl _ _) i _) (fun g e => by simp at e; omega)⟩

set_option maxHeartbeats 1000000 in
theorem row_any (B R : Nat) (cv : Value) (l : List Col) (T : ByteArray) (p : Nat) (r : List Int) (rest : List UInt8) (w : World) (hB : B ≤ w.heap.size) (h : Rdr w R T p (lineR r ++ rest)) (hp : Cols w B cv l) (hA : Adr (fun b => (some R : Option Nat) ≠ some b) cv) (hok : RowOk l r) (hs : Szs l) (h1 : 1 ≤ l.length) (h6 : l.length ≤ 6) :
    Calls Tryd.prog 46 #[.pointer (some ⟨R, 0, none⟩), cv] w fun e w' => ∃ g p', e = .returned (.tuple #[.slice (some ⟨g, 0, none⟩) r.length r.length, .int .i64 0]) ∧ RowI w' g r ∧ w.heap.size ≤ g ∧ Rdr w' R T p' rest ∧ w.grownBy w' (some R) := by
  have HR : Hid (Rdr w R T p (remT (r.map Lib.itoa) 0 rest)) := by show Rdr _ _ _ _ _; rw [rem_zero]; exact h
  have HP : Hid (Cols w B cv l) := hp
  have HA : Hid (Adr (fun b => (some R : Option Nat) ≠ some b) cv) := hA
  have HOK : Hid (RowOk l r) := hok
  have HBD : Hid (∀ v ∈ r, 0 ≤ v ∧ v < 4096) := rowOk_bd hok hs
  have HRL : Hid (r.length = l.length) := hok.len
  have hRl : R < w.heap.size := h.two.lt
  obtain ⟨a, c, rfl, hc, hl⟩ := hp.slice
  have c1 := h.two.c1
  have hmk := make_ints l.length (by omega)
  clear h hA hok
  go_enter Tryd.func46, Tryd.ntmps46
  go_wp2_with fail
  go_loopw [21] (fun s wr => ∃ (i q : Nat), s = .int .i64 (i : Int) ∧ i ≤ l.length ∧ Hid (Rdr wr R T q (remT (r.map Lib.itoa) i rest)) ∧ Hid (RowI wr w.heap.size (nuS r l.length i)) ∧ Hid (w.grownBy wr (some R))) (fun s _ => l.length - (intOf s).toNat)
  case atStart => exact ⟨0, p, rfl, Nat.zero_le _, HR.out.at (ba _ _), by show RowI _ _ _; rw [nuS_zero]; exact RowI.made _ _, gb_below (ba _ _)⟩
  case round =>
    obtain ⟨i, q, rfl, hi, HI, HW, HG⟩ := hrel
    have hgz : w.heap.size < wr.heap.size := HW.out.lt
    have hRg : (some R : Option Nat) ≠ some w.heap.size := by simp; omega
    by_cases hil : i < l.length
    · obtain ⟨x, hx⟩ := get_lt (l := r) (i := i) (by rw [HRL.out]; exact hil)
      have hxb := HBD.out x (List.mem_of_getElem? hx)
      obtain ⟨u, rfl⟩ : ∃ u : Nat, x = (u : Int) := ⟨x.toNat, by omega⟩
      have HX : Hid (r[i]? = some (u : Int)) := hx
      have HXI : Hid ((r.map Lib.itoa)[i]? = some (Lib.decDigits u)) := by show _ = _; rw [List.getElem?_map, hx, Option.map_some, itoa_nat]
      obtain ⟨cc, tt, hcc, hdc, _⟩ := rem_head (r.map Lib.itoa) i rest
      have HCC : Hid (remT (r.map Lib.itoa) (i + 1) rest = cc :: tt) := hcc
      have HDC : Hid (digB cc = false) := hdc
      -- the number, from whatever world the reader stands ahead of it
      have KN : Hid (∀ (W : World) (q' : Nat), Rdr W R T q' (Lib.decDigits u ++ cc :: tt) → RowI W w.heap.size (nuS r l.length i) → w.grownBy W (some R) → Calls Tryd.prog 59 #[.pointer (some ⟨R, 0, none⟩)] W fun e w' => e = .returned (.tuple #[.int .i64 (u : Int), .bool true]) ∧ (Rdr w' R T (q' + (Lib.decDigits u).length) (remT (r.map Lib.itoa) (i + 1) rest) ∧ RowI w' w.heap.size (nuS r l.length i) ∧ w.grownBy w' (some R))) := by
        intro W q' g1 g2 g3
        refine (number_any R T q' u cc tt W g1 HDC.out (by omega)).mono ?_
        rintro e w' ⟨rfl, k1, k2⟩
        exact ⟨rfl, by rw [HCC.out]; exact k1, g2.gb k2 hRg, gb_trans g3 k2⟩
      have hlw : (nuS r l.length i).length = l.length := nuS_len HRL.out hi
      obtain ⟨y, hy⟩ := get_lt (l := nuS r l.length i) (i := i) (by rw [hlw]; exact hil)
      have HY : Hid ((nuS r l.length i)[i]? = some y ∧ i < (nuS r l.length i).length) := ⟨hy, by rw [hlw]; exact hil⟩
      have zk : (i : Int) < (l.length : Int) := by omega
      clear hx hxb hcc hdc hy hlw
      by_cases hi0 : i = 0
      · subst hi0
        have kn := KN.out wr q (by have := HI.out; rwa [rem_first HXI.out, HCC.out] at this) HW.out HG.out
        go_wp2_with fail
        refine kn.mono ?_
        rintro e w3 ⟨rfl, hr3, hw3, hg3⟩
        have p1 := hw3.cells 0 y HY.out.1
        have p2 := hw3.thaw 0 HY.out.2
        have H3 : Hid (Rdr w3 R T (q + (Lib.decDigits u).length) (remT (r.map Lib.itoa) (0 + 1) rest) ∧ RowI w3 w.heap.size (nuS r l.length 0) ∧ w.grownBy w3 (some R)) := ⟨hr3, hw3, hg3⟩
        clear kn hr3 hw3 hg3
        go_wp2
        go_roundw
        case rel =>
          have hst := row_step H3.out.1 H3.out.2.1 H3.out.2.2 hRl HRL.out HX.out
          exact ⟨1, _, rfl, hil, hst.1, hst.2.1, hst.2.2⟩
        case measure => simp [intOf]; omega
      · have kh : Calls Tryd.prog 57 #[.pointer (some ⟨R, 0, none⟩), .int .u8 32] wr fun e w' => e = .returned (.bool true) ∧ Rdr w' R T (q + 1) (Lib.decDigits u ++ remT (r.map Lib.itoa) (i + 1) rest) ∧ wr.grownBy w' (some R) := has_yes R T q 32 _ wr (by have := HI.out; rwa [rem_next hi0 HXI.out] at this)
        have zi : (0 : Int) < (i : Int) := by omega
        go_wp2_with fail
        refine kh.mono ?_
        rintro e w2 ⟨rfl, hr2, hg2⟩
        have kn := KN.out w2 (q + 1) (by rwa [HCC.out] at hr2) (HW.out.gb hg2 hRg) (gb_trans HG.out hg2)
        clear kh hr2 hg2
        go_wp2_with fail
        refine kn.mono ?_
        rintro e w3 ⟨rfl, hr3, hw3, hg3⟩
        have p1 := hw3.cells i y HY.out.1
        have p2 := hw3.thaw i HY.out.2
        have H3 : Hid (Rdr w3 R T (q + 1 + (Lib.decDigits u).length) (remT (r.map Lib.itoa) (i + 1) rest) ∧ RowI w3 w.heap.size (nuS r l.length i) ∧ w.grownBy w3 (some R)) := ⟨hr3, hw3, hg3⟩
        clear kn hr3 hw3 hg3
        go_wp2
        go_roundw
        case rel =>
          have hst := row_step H3.out.1 H3.out.2.1 H3.out.2.2 hRl HRL.out HX.out
          exact ⟨i + 1, _, by go_num, hil, hst.1, hst.2.1, hst.2.2⟩
        case measure => simp [intOf]; omega
    · have hie : i = l.length := by omega
      have kh : Calls Tryd.prog 57 #[.pointer (some ⟨R, 0, none⟩), .int .u8 10] wr fun e w' => e = .returned (.bool true) ∧ Rdr w' R T (q + 1) rest ∧ wr.grownBy w' (some R) := has_yes R T q 10 _ wr (by have := HI.out; rwa [rem_end (by omega) (by rw [List.length_map, HRL.out]; omega)] at this)
      have HWE : Hid (RowI wr w.heap.size r) := by have := HW.out; rwa [hie, nuS_all HRL.out] at this
      go_wp2_with fail
      refine kh.mono ?_
      rintro e w2 ⟨rfl, hr2, hg2⟩
      have HR2 : Hid (Rdr w2 R T (q + 1) rest) := hr2
      have HW2 : Hid (RowI w2 w.heap.size r) := HWE.out.gb hg2 hRg
      have HG2 : Hid (w.grownBy w2 (some R)) := gb_trans HG.out hg2
      have hz2 : w.heap.size ≤ w2.heap.size := HG2.out.size
      have hI := HW2.out.ints (by rw [HRL.out]; omega) R hRl
      rw [HRL.out] at hI
      have kw := wrongRow_any B w2.heap.size R _ _ l r w2 (by omega) (HP.out.gb HG2.out HA.out) (Nat.le_refl _) hI 0 (rowE_ok.2 HOK.out)
      clear kh hr2 hg2 hI
      go_wp2_with fail
      refine kw.mono ?_
      rintro e w3 ⟨rfl, rfl⟩
      go_wp2
      go_ret2
      exact ⟨w.heap.size, q + 1, by rw [HRL.out]; rfl, HW2.out, Nat.le_refl _, HR2.out, HG2.out⟩
end Go.Proofs.YtkpjjiomfgkobaaDoor
