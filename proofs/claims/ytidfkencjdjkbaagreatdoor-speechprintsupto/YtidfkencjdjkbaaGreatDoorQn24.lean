import Derived.Test.YtidfkencjdjkbaaGreatDoorQn23
import Derived.Test.YtidfkencjdjkbaaGreatDoorQn20
/-
  The document's own answer, chapter 15, Print: tests as texts.
-/
namespace Go.Proofs.YtidfkencjdjkbaaGreatDoor
open Go.RowKit Sp
open Go.Lib (decDigits itoa)

theorem tx_sz (s : By) : (tx s).size = s.length := by show s.toArray.size = _; simp
theorem itoaR_len {v : Int} (h1 : -1048576 ≤ v) (h2 : v ≤ 1048576) : (itoa v).length ≤ 1048578 := by
  by_cases h : v < 0
  · rw [itoa_neg h]
    have := dec_len v.natAbs
    simp only [List.length_append, List.length_cons, List.length_nil]
    omega
  · rw [itoa_pos h]
    have := dec_len v.toNat
    omega
theorem sig_at {d : Int} (h1 : 1 ≤ d) (h2 : d ≤ 6) : ∃ j : Nat, j < 6 ∧ d - 1 = (j : Int) ∧ sigs[j]? = some (sigN d) ∧ (sigN d).length ≤ 2 := by
  obtain ⟨n, rfl⟩ : ∃ n : Nat, d = n := ⟨d.toNat, by omega⟩
  have : n = 1 ∨ n = 2 ∨ n = 3 ∨ n = 4 ∨ n = 5 ∨ n = 6 := by omega
  rcases this with rfl | rfl | rfl | rfl | rfl | rfl
  · exact ⟨0, by decide, by decide, by decide, by decide⟩
  · exact ⟨1, by decide, by decide, by decide, by decide⟩
  · exact ⟨2, by decide, by decide, by decide, by decide⟩
  · exact ⟨3, by decide, by decide, by decide, by decide⟩
  · exact ⟨4, by decide, by decide, by decide, by decide⟩
  · exact ⟨5, by decide, by decide, by decide, by decide⟩
theorem nmd_le {c : By} (h : nmd c = true) : c.length ≤ 32 := by
  unfold nmd namB at h
  simp only [Bool.and_eq_true, decide_eq_true_eq] at h
  exact h.1.1.2
theorem tT_len {t : Tst} (h : TOk t) : (tT t).length ≤ 1048620 := by
  obtain ⟨h1, h2, h3, h4⟩ := h
  obtain ⟨j, _, _, _, hs⟩ := sig_at h2 h3
  have hc := nmd_le h1
  have hi := itoaR_len h4.1 h4.2
  simp only [tT, List.length_append, List.length_cons, List.length_nil]
  omega
theorem teA_len : ∀ l : List Tst, (∀ t ∈ l, TOk t) → (teA l).length ≤ l.length * 1048630
  | [], _ => by simp [teA]
  | t :: l, h => by
    have h1 := teA_len l (fun x hx => h x (by simp [hx]))
    have h2 := tT_len (h t (by simp))
    simp only [teA, List.flatMap_cons, List.length_append, List.length_cons, List.length_nil] at h1 ⊢
    omega
theorem teT_len {l : List Tst} (h : ∀ t ∈ l, TOk t) (hl : l.length ≤ 64) : (teT l).length ≤ 100000000 := by
  cases l with
  | nil => simp [teT]
  | cons t l =>
    have h1 := teA_len l (fun x hx => h x (by simp [hx]))
    have h2 := tT_len (h t (by simp))
    simp only [teT, List.length_append, List.length_cons, List.length_nil] at hl ⊢
    omega
set_option maxHeartbeats 4000000 in
set_option maxRecDepth 100000 in
theorem rtests_any (wh : List Tst) (w : World) (B : Nat) (a : Option Addr) (c : Nat) (hTI : TI w B wh (.slice a wh.length c)) (hB : B ≤ w.heap.size) (hok : WOk wh) : Calls Tryz.prog 39 #[.slice a wh.length c] w fun e w' => e = .returned (.string (tx (teT wh))) ∧ Below w.heap.size w w' := by
  have HTI : Hid (TI w B wh (.slice a wh.length c)) := hTI
  have HOK : Hid (WOk wh) := hok
  obtain ⟨a', c', hv, hlc, hl63, _, _⟩ := hTI
  simp only [Value.slice.injEq] at hv
  obtain ⟨rfl, -, rfl⟩ := hv
  obtain ⟨n, hn⟩ : ∃ n, wh.length = n := ⟨_, rfl⟩
  have HN : Hid (wh.length = n) := hn
  have hn64 : n ≤ 64 := hn ▸ hok.1
  rw [hn] at hlc hl63 ⊢
  clear hok hn
  go_enter Tryz.func39, Tryz.ntmps39
  go_wp2
  go_loopw [3, 8] (fun sv iv wr => ∃ i : Nat, iv = .int .i64 (i : Int) ∧ sv = .string (tx (teT (wh.take i))) ∧ i ≤ n ∧ Below w.heap.size w wr) (fun _ iv _ => n - (intOf iv).toNat)
  case atStart => exact ⟨0, rfl, rfl, by omega, Below.refl _ _⟩
  case round =>
    obtain ⟨i, rfl, rfl, hi, hbl⟩ := hrel
    by_cases h7 : i < n
    · have h7i : (i : Int) < (n : Int) := by omega
      obtain ⟨t, ht⟩ : ∃ t, wh[i]? = some t := ⟨_, List.getElem?_eq_getElem (by rw [HN.out]; exact h7)⟩
      obtain ⟨t1, t2, t3⟩ := t
      have hne : wh ≠ [] := by
        intro e
        have := HN.out
        rw [e] at this
        simp at this
        omega
      obtain ⟨av, cv, hv, _, _, _, hcl⟩ := HTI.out
      simp only [Value.slice.injEq] at hv
      obtain ⟨rfl, -, rfl⟩ := hv
      obtain ⟨b0, ob, rfl, hb0, hcc⟩ := hcl hne
      have hbw : b0 < w.heap.size := by omega
      have p0 : wr.cell? ⟨b0, ob + i * 3, none⟩ = some (.string (tx t1)) := (hbl.cell (p := ⟨b0, ob + i * 3, none⟩) hbw).trans (hcc i _ ht 0 _ rfl)
      have p1 : wr.cell? ⟨b0, ob + i * 3 + 1, none⟩ = some (.int .i64 t2) := (hbl.cell (p := ⟨b0, ob + i * 3 + 1, none⟩) hbw).trans (hcc i _ ht 1 _ rfl)
      have p2 : wr.cell? ⟨b0, ob + i * 3 + 2, none⟩ = some (.int .i64 t3) := (hbl.cell (p := ⟨b0, ob + i * 3 + 2, none⟩) hbw).trans (hcc i _ ht 2 _ rfl)
      obtain ⟨ho1, ho2, ho3, ho4⟩ := HOK.out.2 _ (List.mem_of_getElem? ht)
      simp only at ho1 ho2 ho3 ho4
      obtain ⟨h3a, h3b⟩ := ho4
      have hc32 := nmd_le ho1
      have hi48 := itoaR_len h3a h3b
      obtain ⟨j, hj6, hj1, hsg, hs2⟩ := sig_at ho2 ho3
      have hd1 : IntKind.i64.wrap (t2 - 1) = (j : Int) := by rw [IntKind.wrap_i64]; omega
      have HTK : Hid (wh.take (i + 1) = wh.take i ++ [(t1, t2, t3)]) := by rw [Hid, List.take_add_one, ht]; rfl
      have hPl : (teT (wh.take i)).length ≤ 100000000 := teT_len (fun x hx => HOK.out.2 x (List.mem_of_mem_take hx)) (by rw [List.length_take]; omega)
      obtain ⟨P, hP⟩ : ∃ P, teT (wh.take i) = P := ⟨_, rfl⟩
      have HPP : Hid (teT (wh.take i) = P) := hP
      rw [hP] at hPl ⊢
      obtain ⟨W2, hW2⟩ : ∃ W2, wr.alloc (.cells #[.string (tx t1), .int .i64 t2, .int .i64 t3] 81) = W2 := ⟨_, rfl⟩
      have hb2 : Below wr.heap.size wr W2 := hW2 ▸ ba _ _
      have HB2 : Hid (Below w.heap.size w W2) := bt hbl hb2
      have hX2 : Bx W2 wr.heap.size [.string (tx t1), .int .i64 t2, .int .i64 t3] := hW2 ▸ Bx.new wr [.string (tx t1), .int .i64 t2, .int .i64 t3] 81 rfl
      have HBX : Hid (∀ X, Below W2.heap.size W2 X → X.cell? ⟨wr.heap.size, 0, none⟩ = some (.string (tx t1)) ∧ X.cell? ⟨wr.heap.size, 1, none⟩ = some (.int .i64 t2) ∧ X.cell? ⟨wr.heap.size, 2, none⟩ = some (.int .i64 t3)) := fun X hX => ⟨((hX2.at hX) 0 _ rfl).c, ((hX2.at hX) 1 _ rfl).c, ((hX2.at hX) 2 _ rfl).c⟩
      clear hX2 hb2 hbl hcc hcl hP ht hne ho1 ho2 ho3 hj1
      by_cases hz : i = 0
      · subst hz
        simp only [Nat.zero_mul, Nat.add_zero] at p0 p1 p2
        have h70 : (0 : Int) < (n : Int) := by omega
        have hadd := tx_addR P bWhere
        have hl0 : ¬ (9223372036854775807 < P.length + (bWhere : By).length) := by simp only [List.length_cons, List.length_nil]; omega
        have HN1 : Hid (teT (wh.take (0 + 1)) = P ++ bWhere ++ (t1 ++ ([32] ++ (sigN t2 ++ ([32] ++ itoa t3))))) := by
          rw [Hid, HTK.out, teT_snoc, HPP.out, List.append_assoc]
          congr 2
          all_goals rfl
        obtain ⟨S0, hS0⟩ : ∃ S0, P ++ bWhere = S0 := ⟨_, rfl⟩
        rw [hS0] at hadd
        have hS0l : S0.length ≤ 200000000 := by rw [← hS0, List.length_append]; simp only [List.length_cons, List.length_nil]; omega
        have HN2 : Hid (teT (wh.take (0 + 1)) = S0 ++ (t1 ++ ([32] ++ (sigN t2 ++ ([32] ++ itoa t3))))) := by rw [Hid, HN1.out, hS0]
        clear HN1 hS0
        go_upto_region 8 with fail
        clear hW2 hadd hl0
        refine wp_region_noPanic (tregion8 (fun _ _ _ _ _ h => h) _ _ _ _ _ _ _ _ _ _ _ _ _ _ _ _ _ _ _ _ _ _ _ _ _ _ _ _ _ _ _ _ _ _ _ _ W2 wr.heap.size j t2 t3 (sigN t2) (tx S0) (tx t1) (tx (sigN t2)) (tx (itoa t3)) (tx (S0 ++ t1)) (tx (S0 ++ t1 ++ [32])) (tx (S0 ++ t1 ++ [32] ++ sigN t2)) (tx (S0 ++ t1 ++ [32] ++ sigN t2 ++ [32])) (tx (S0 ++ t1 ++ [32] ++ sigN t2 ++ [32] ++ itoa t3)) hsg rfl hj6 hd1 (tx_addR _ _) (tx_addR _ [32]) (tx_addR _ _) (tx_addR _ [32]) (tx_addR _ _) (by simp only [tx_sz]; omega) (by simp only [tx_sz, List.length_append]; omega) (by simp only [tx_sz, List.length_append, List.length_cons, List.length_nil]; omega) (by simp only [tx_sz, List.length_append, List.length_cons, List.length_nil]; omega) (by simp only [tx_sz, List.length_append, List.length_cons, List.length_nil]; omega) HBX.out (fun W => rnum_any t3 h3a h3b W) ?_)
        intro g0 X bX
        refine NoPanic.normal ?_
        have HBX2 : Hid (Below w.heap.size w X) := bt HB2.out bX
        clear bX HBX
        have HN3 : Hid (teT (wh.take (0 + 1)) = S0 ++ t1 ++ [32] ++ sigN t2 ++ [32] ++ itoa t3) := by rw [Hid, HN2.out]; simp only [List.append_assoc]
        clear HN2
        go_wp2
        go_roundw
        case rel => exact ⟨0 + 1, by go_num, by rw [HN3.out], by omega, HBX2.out⟩
        case measure => simp [intOf]; omega
      · have dz : ¬ (i : Int) = 0 := by omega
        have dz2 : ((i : Int) == 0) = false := by simpa using dz
        have hadd := tx_addR P bAnd
        have hl0 : ¬ (9223372036854775807 < P.length + (bAnd : By).length) := by simp only [List.length_cons, List.length_nil]; omega
        have HN1 : Hid (teT (wh.take (i + 1)) = P ++ bAnd ++ (t1 ++ ([32] ++ (sigN t2 ++ ([32] ++ itoa t3))))) := by
          rw [Hid, HTK.out, teT_snoc, HPP.out, List.append_assoc]
          congr 2
          rw [if_neg (by rw [List.length_take]; have := HN.out; omega)]
        obtain ⟨S0, hS0⟩ : ∃ S0, P ++ bAnd = S0 := ⟨_, rfl⟩
        rw [hS0] at hadd
        have hS0l : S0.length ≤ 200000000 := by rw [← hS0, List.length_append]; simp only [List.length_cons, List.length_nil]; omega
        have HN2 : Hid (teT (wh.take (i + 1)) = S0 ++ (t1 ++ ([32] ++ (sigN t2 ++ ([32] ++ itoa t3))))) := by rw [Hid, HN1.out, hS0]
        clear HN1 hS0
        go_upto_region 8 with fail
        clear hW2 hadd hl0
        refine wp_region_noPanic (tregion8 (fun _ _ _ _ _ h => h) _ _ _ _ _ _ _ _ _ _ _ _ _ _ _ _ _ _ _ _ _ _ _ _ _ _ _ _ _ _ _ _ _ _ _ _ W2 wr.heap.size j t2 t3 (sigN t2) (tx S0) (tx t1) (tx (sigN t2)) (tx (itoa t3)) (tx (S0 ++ t1)) (tx (S0 ++ t1 ++ [32])) (tx (S0 ++ t1 ++ [32] ++ sigN t2)) (tx (S0 ++ t1 ++ [32] ++ sigN t2 ++ [32])) (tx (S0 ++ t1 ++ [32] ++ sigN t2 ++ [32] ++ itoa t3)) hsg rfl hj6 hd1 (tx_addR _ _) (tx_addR _ [32]) (tx_addR _ _) (tx_addR _ [32]) (tx_addR _ _) (by simp only [tx_sz]; omega) (by simp only [tx_sz, List.length_append]; omega) (by simp only [tx_sz, List.length_append, List.length_cons, List.length_nil]; omega) (by simp only [tx_sz, List.length_append, List.length_cons, List.length_nil]; omega) (by simp only [tx_sz, List.length_append, List.length_cons, List.length_nil]; omega) HBX.out (fun W => rnum_any t3 h3a h3b W) ?_)
        intro g0 X bX
        refine NoPanic.normal ?_
        have HBX2 : Hid (Below w.heap.size w X) := bt HB2.out bX
        clear bX HBX
        have HN3 : Hid (teT (wh.take (i + 1)) = S0 ++ t1 ++ [32] ++ sigN t2 ++ [32] ++ itoa t3) := by rw [Hid, HN2.out]; simp only [List.append_assoc]
        clear HN2
        go_wp2
        go_roundw
        case rel => exact ⟨i + 1, by go_num, by rw [HN3.out], by omega, HBX2.out⟩
        case measure => simp [intOf]; omega
    · obtain rfl : i = n := by omega
      have HE : Hid (teT (wh.take i) = teT wh) := by rw [Hid, List.take_of_length_le (by rw [HN.out]; omega)]
      rw [HE.out]
      go_wp2
      go_ret
      exact ⟨rfl, hbl⟩
end Go.Proofs.YtidfkencjdjkbaaGreatDoor

/-
  PACKAGE speech, Print: pieces are written: apart, put.
-/
namespace Go.Proofs.YtidfkencjdjkbaaGreatDoor
open Go.RowKit Sp

/-- pieces, one behind the other, with spaces where they stand -/
def wrs (last : By) : List By → By
  | [] => []
  | s :: r => (if apt last s then [32] else []) ++ (s ++ wrs s r)
def lsT (last : By) : List By → By
  | [] => last
  | s :: r => lsT s r
theorem wrt_wrs (last : By) (cs : List Ck) : wrt last cs = wrs last (cs.map Ck.txt) := by
  induction cs generalizing last with
  | nil => rfl
  | cons c r ih => simp [wrt, wrs, ih]
theorem wrs_app (last : By) (l r : List By) : wrs last (l ++ r) = wrs last l ++ wrs (lsT last l) r := by
  induction l generalizing last with
  | nil => rfl
  | cons s l ih => simp [wrs, lsT, ih]
theorem lsT_app (last : By) (l r : List By) : lsT last (l ++ r) = lsT (lsT last l) r := by
  induction l generalizing last with
  | nil => rfl
  | cons s l ih => simp [lsT, ih]
/-- texts, a row of one's own -/
def Txs (w : World) (S : Nat) (l : List By) : Prop := w.heap[S]? = some (.cells (l.map fun s => Value.string (tx s)).toArray 9 (0, 0))
theorem Txs.kept {w w' : World} {B R S : Nat} {l : List By} (h : Txs w S l) (hn : S ≠ R) (k : Kpw B R w w') : Txs w' S l :=
  k.o S _ h (by simpa using hn) (by intro c fz e; injection e with _ e2 _; exact absurd e2 (by decide))
theorem Txs.cell {w : World} {S : Nat} {l : List By} (h : Txs w S l) {i : Nat} {s : By} (hi : l[i]? = some s) : w.cell? ⟨S, i, none⟩ = some (.string (tx s)) := by
  rw [Lib.cell_of_heap h]
  simp [hi]
def PtP (B R : Nat) (w : World) (t last : By) (l : List By) (e : Ending) (w' : World) : Prop :=
  (if (t ++ wrs last l).length ≤ 65536 then e = .returned (.tuple #[]) ∧ Wtr w' B R (t ++ wrs last l) (lsT last l) else e = .panicked (chn 4 0)) ∧ Kpw B R w w'
theorem apart_any (x y : By) (b : Bool) (hb : apt x y = b) (w : World) : Calls Tryz.prog 94 #[.string (tx x), .string (tx y)] w fun e w' => e = .returned (.bool b) ∧ w' = w := by
  have HB : Hid (apt x y = b) := hb
  clear hb
  obtain ⟨b1, h1⟩ : ∃ b1, decide (x = []) = b1 := ⟨_, rfl⟩
  obtain ⟨b2, h2⟩ : ∃ b1, decide (x = [40]) = b1 := ⟨_, rfl⟩
  obtain ⟨b3, h3⟩ : ∃ b1, decide (x = [91]) = b1 := ⟨_, rfl⟩
  obtain ⟨b4, h4⟩ : ∃ b1, decide (y = [41]) = b1 := ⟨_, rfl⟩
  obtain ⟨b5, h5⟩ : ∃ b1, decide (y = [93]) = b1 := ⟨_, rfl⟩
  obtain ⟨b6, h6⟩ : ∃ b1, decide (y = [91]) = b1 := ⟨_, rfl⟩
  obtain ⟨b7, h7⟩ : ∃ b1, decide (y = [44]) = b1 := ⟨_, rfl⟩
  have q1 := eqs x _ b1 h1
  have q2 := eqs x _ b2 h2
  have q3 := eqs x _ b3 h3
  have q4 := eqs y _ b4 h4
  have q5 := eqs y _ b5 h5
  have q6 := eqs y _ b6 h6
  have q7 := eqs y _ b7 h7
  have p1 : (x == []) = b1 := by rw [by_beq]; exact h1
  have p2 : (x == [40]) = b2 := by rw [by_beq]; exact h2
  have p3 : (x == [91]) = b3 := by rw [by_beq]; exact h3
  have p4 : (y == [41]) = b4 := by rw [by_beq]; exact h4
  have p5 : (y == [93]) = b5 := by rw [by_beq]; exact h5
  have p6 : (y == [91]) = b6 := by rw [by_beq]; exact h6
  have p7 : (y == [44]) = b7 := by rw [by_beq]; exact h7
  have HE : Hid (b = (!(b1 || (b2 || b3)) && !(b4 || (b5 || (b6 || b7))))) := by
    rw [Hid, ← HB.out, ← h1, ← h2, ← h3, ← h4, ← h5, ← h6, ← h7]
    simp [apt]
  clear h1 h2 h3 h4 h5 h6 h7 HB
  go_enter Tryz.func94, Tryz.ntmps94
  cases b1
  · cases b2
    · cases b3
      · cases b4
        · cases b5
          · cases b6
            · cases b7
              · go_wp2
                go_ret
                exact ⟨by rw [HE.out]; rfl, rfl⟩
              · go_wp2
                go_ret
                exact ⟨by rw [HE.out]; rfl, rfl⟩
            · go_wp2
              go_ret
              exact ⟨by rw [HE.out]; rfl, rfl⟩
          · go_wp2
            go_ret
            exact ⟨by rw [HE.out]; rfl, rfl⟩
        · go_wp2
          go_ret
          exact ⟨by rw [HE.out]; rfl, rfl⟩
      · go_wp2
        go_ret
        exact ⟨by rw [HE.out]; rfl, rfl⟩
    · go_wp2
      go_ret
      exact ⟨by rw [HE.out]; rfl, rfl⟩
  · go_wp2
    go_ret
    exact ⟨by rw [HE.out]; rfl, rfl⟩
/-- one piece -/
theorem wrs_one (last s : By) : wrs last [s] = (if apt last s then [32] else []) ++ s := by simp [wrs]
theorem wbyt_any {w : World} {B R : Nat} {t last : By} (h : Wtr w B R t last) (hlen : t.length + 1 ≤ 140737488355328) (hBw : B ≤ w.heap.size) : Calls Tryz.prog 95 #[.pointer (some ⟨R, 0, none⟩), .int .u8 32] w fun e w' => (∃ x, e = .returned x) ∧ Wtr w' B R (t ++ [32]) last ∧ Kpw B R w w' := by
  obtain ⟨i0, hi, hz0, hz1, hz2⟩ := info_parts (P := Tryz.prog) (e := 5) (z := .int .u8 0) (size := 1) (bytes := 1) (by kernel_rfl)
  go_enter Tryz.func95, Tryz.ntmps95
  go_wp2_with (go_at_call 109; refine (cc_any h).mono ?_)
  rintro e w1 ⟨rfl, ⟨hB, v, hbk, hown, hne⟩, hk1⟩
  have c0 : w1.cell? ⟨R, 0, none⟩ = some (.pointer (some ⟨R, 0, none⟩)) := by rw [Lib.cell_of_heap hbk]; rfl
  have c1 : w1.cell? ⟨R, 1, none⟩ = some v := by rw [Lib.cell_of_heap hbk]; rfl
  have hsz := hk1.b.size
  go_wp2_with (at_builtin; refine wpList_append_own _ rfl _ _ 83 rfl B 5 i0 (.int .u8 0) 1 1 Tryz.underlying83 hi hz0 hz1 hz2 rfl (by decide) _ _ _ rfl (hown.alloc _) ⟨w1.heap.size, 0, none⟩ 1 1 [.int .u8 32] rfl rfl ?c1 ?c2 ?c3 ?c4 ?c5 ?_)
  case c1 =>
    intro j u hj
    match j, hj with
    | 0, hj => simp at hj; subst hj; simp [Addr.add]
  case c2 => intro u hu; simp at hu; subst hu; rfl
  case c3 => unfold maxLen; omega
  case c4 => omega
  case c5 => simp; omega
  intro v' w2 hown' hgrow _
  have hlt : R < w1.heap.size := by
    rcases Nat.lt_or_ge R w1.heap.size with h' | h'
    · exact h'
    · simp [Array.getElem?_eq_none h'] at hbk
  have hb2 : w2.heap[R]? = some (.cells #[.pointer (some ⟨R, 0, none⟩), v, .string (tx last)] 87 (0, 0)) := by
    rw [hgrow.block R (by simp; omega) (fun e => hne e.symm)]
    exact (Lib.alloc_old w1 _ R hlt).trans hbk
  have d0 : w2.cell? ⟨R, 0, none⟩ = some (.pointer (some ⟨R, 0, none⟩)) := by rw [Lib.cell_of_heap hb2]; rfl
  have d1 : w2.cell? ⟨R, 1, none⟩ = some v := by rw [Lib.cell_of_heap hb2]; rfl
  have f1 : w2.frozen? ⟨R, 1, none⟩ = false := Lib.frozen_of_heap hb2 1
  obtain ⟨ao, n', cap, rfl⟩ : ∃ ao n' cap, v' = .slice ao n' cap := by
    rcases hown'.2 with ⟨hv, _⟩ | ⟨g, cap, cur, hv, _⟩
    · exact ⟨_, _, _, hv⟩
    · exact ⟨_, _, _, hv⟩
  go_wp2
  go_ret
  refine ⟨⟨_, rfl⟩, .inr ?_, ⟨?_, ?_⟩⟩
  · exact WtA.put hB hb2 (t := t ++ [32]) (by simpa [Lib.byteCells_append, Lib.byteCells] using hown')
  · exact ((hk1.b.alloc (by omega) _).grown hgrow (by simp; omega) (fun k hk => (hown.lt k hk).1)).setCell (p := ⟨R, 1, none⟩) hB _
  · exact ((hk1.o.alloc _).grown hgrow (ob_row (hown.alloc _))).setCell ⟨R, 1, none⟩ rfl _
end Go.Proofs.YtidfkencjdjkbaaGreatDoor

/-
  PACKAGE speech, Print: put.
-/
namespace Go.Proofs.YtidfkencjdjkbaaGreatDoor
open Go.RowKit Sp

theorem take_snoc {l : List By} {i : Nat} {s : By} (h : l[i]? = some s) : l.take (i + 1) = l.take i ++ [s] := by
  rw [List.take_add_one, h]; rfl
theorem wrs_len_le (last : By) (l : List By) (i : Nat) : (wrs last (l.take i)).length ≤ (wrs last l).length := by
  have h := wrs_app last (l.take i) (l.drop i)
  rw [List.take_append_drop] at h
  rw [h, List.length_append]
  omega
theorem Wtr.c2 {w : World} {B R : Nat} {t last : By} (h : Wtr w B R t last) : w.cell? ⟨R, 2, none⟩ = some (.string (tx last)) ∧ w.frozen? ⟨R, 2, none⟩ = false := by
  obtain ⟨p, hB, v, hbk, _⟩ := h.one
  exact ⟨by rw [Lib.cell_of_heap hbk]; rfl, Lib.frozen_of_heap hbk 2⟩
theorem Wtr.last {w : World} {B R : Nat} {t last : By} (h : Wtr w B R t last) (s : By) : Wtr (w.setCell ⟨R, 2, none⟩ (.string (tx s))) B R t s := h.imp (·.last s) (·.last s)
theorem Wtr.le {w : World} {B R : Nat} {t last : By} (h : Wtr w B R t last) : B ≤ R := h.elim (·.1) (·.1)
theorem Kpw.set {B R : Nat} {w w' : World} (h : Kpw B R w w') (hB : B ≤ R) (k : Nat) (v : Value) : Kpw B R w (w'.setCell ⟨R, k, none⟩ v) := ⟨h.b.setCell (p := ⟨R, k, none⟩) hB _, h.o.setCell ⟨R, k, none⟩ rfl _⟩
set_option maxHeartbeats 2000000 in
set_option maxRecDepth 100000 in
theorem put_any {B R S : Nat} (l : List By) (hS : S ≠ R) (t last : By) (w : World) (h : Wtr w B R t last) (hx : Txs w S l) (hB : B ≤ w.heap.size) (ht : t.length ≤ 65536) (hl : ∀ s ∈ l, s.length ≤ 65536) (hln : l.length ≤ 4) : Calls Tryz.prog 70 #[.pointer (some ⟨R, 0, none⟩), .slice (some ⟨S, 0, none⟩) l.length l.length] w (PtP B R w t last l) := by
  have HX : Hid (Txs w S l) := hx
  have HL : Hid (∀ s ∈ l, s.length ≤ 65536) := hl
  have HH : Hid (Wtr w B R t last) := h
  obtain ⟨n, hn⟩ : ∃ n, l.length = n := ⟨_, rfl⟩
  have HN : Hid (l.length = n) := hn
  rw [hn] at hln ⊢
  clear hx hl h hn
  go_enter Tryz.func70, Tryz.ntmps70
  go_wp2
  go_loopw [8] (fun iv wr => ∃ i : Nat, iv = .int .i64 (i : Int) ∧ i ≤ n ∧ Hid (Wtr wr B R (t ++ wrs last (l.take i)) (lsT last (l.take i))) ∧ Hid ((t ++ wrs last (l.take i)).length ≤ 65536) ∧ Hid (Kpw B R w wr)) (fun iv _ => n - (intOf iv).toNat)
  case atStart => exact ⟨0, rfl, Nat.zero_le _, by rw [Hid]; simpa [wrs, lsT] using HH.out, by simpa [wrs, Hid] using ht, Kpw.refl B R w⟩
  case round =>
    obtain ⟨i, rfl, hil, HW, HT, HK⟩ := hrel
    by_cases c9 : i < n
    · obtain ⟨s, hs⟩ : ∃ s, l[i]? = some s := ⟨_, List.getElem?_eq_getElem (by rw [HN.out]; exact c9)⟩
      have HS : Hid (l[i]? = some s) := hs
      have hsl := HL.out s (List.mem_of_getElem? hs)
      have HXr : Hid (Txs wr S l) := HX.out.kept hS HK.out
      have p0 : wr.cell? ⟨S, i, none⟩ = some (.string (tx s)) := HXr.out.cell hs
      obtain ⟨T, hT⟩ : ∃ T, t ++ wrs last (l.take i) = T := ⟨_, rfl⟩
      obtain ⟨ls, hls⟩ : ∃ ls, lsT last (l.take i) = ls := ⟨_, rfl⟩
      have HT2 : Hid (t ++ wrs last (l.take (i + 1)) = T ++ wrs ls [s]) := by rw [Hid, take_snoc hs, wrs_app, ← List.append_assoc, hT, hls]
      have HL2 : Hid (lsT last (l.take (i + 1)) = s) := by rw [Hid, take_snoc hs, lsT_app]; rfl
      rw [hT, hls] at HW
      rw [hT] at HT
      have HWL : Hid ((wrs last (l.take (i + 1))).length ≤ (wrs last l).length) := wrs_len_le last l (i + 1)
      clear hs hT hls
      have hTl := HT.out
      have hsz : B ≤ wr.heap.size := Nat.le_trans hB HK.out.b.size
      have p2 := HW.out.c2.1
      have hBR := HW.out.le
      obtain ⟨b, hb⟩ : ∃ b, apt ls s = b := ⟨_, rfl⟩
      have ka := apart_any ls s b hb wr
      have HB : Hid (apt ls s = b) := hb
      have c9i : (i : Int) < (n : Int) := by omega
      clear hb
      go_wp2_with fail
      refine ka.mono ?_
      rintro e w2 ⟨rfl, rfl⟩
      clear ka p2
      have hstep : ∀ (T' : By) (wa : World), T' = T ++ (if b then [32] else []) → True := fun _ _ _ => trivial
      cases b with
      | true =>
        have kb := wbyt_any HW.out (by omega) hsz
        go_wp2_with fail
        refine kb.mono ?_
        rintro e w3 ⟨⟨x, rfl⟩, hw3, hk3⟩
        have HW3 : Hid (Wtr w3 B R (T ++ [32]) ls) := hw3
        have HK3 : Hid (Kpw B R w w3) := HK.out.trans hk3
        have ks := wstr_any HW3.out s (by simp; omega) (Nat.le_trans hB HK3.out.b.size)
        clear kb hw3 hk3
        go_wp2_with fail
        refine ks.mono ?_
        rintro e w4 ⟨⟨x, rfl⟩, hw4, hk4⟩
        have HW4 : Hid (Wtr w4 B R (T ++ [32] ++ s) ls) := hw4
        have HK4 : Hid (Kpw B R w w4) := HK3.out.trans hk4
        have d2 := HW4.out.c2.1
        have f2 := HW4.out.c2.2
        obtain ⟨W5, hW5⟩ : ∃ W5, w4.setCell ⟨R, 2, none⟩ (.string (tx s)) = W5 := ⟨_, rfl⟩
        have HW5 : Hid (Wtr W5 B R (T ++ [32] ++ s) s) := hW5 ▸ HW4.out.last s
        have HK5 : Hid (Kpw B R w W5) := hW5 ▸ HK4.out.set hBR 2 _
        have kl := len_any HW5.out
        have HE : Hid (T ++ wrs ls [s] = T ++ [32] ++ s) := by rw [Hid, wrs_one, HB.out]; simp
        obtain ⟨m, hm⟩ : ∃ m, (T ++ [32] ++ s).length = m := ⟨_, rfl⟩
        have HM : Hid ((T ++ [32] ++ s).length = m) := hm
        rw [hm] at kl
        clear ks hw4 hk4 hm
        by_cases cm : m ≤ 65536
        · have km := must_ok 4 0 W5
          have cmi : (m : Int) ≤ 65536 := by omega
          go_wp2_with fail
          refine kl.mono ?_
          rintro e w6 ⟨rfl, rfl⟩
          clear hW5 kl
          go_wp2_with fail
          refine km.mono ?_
          rintro e w7 ⟨rfl, rfl⟩
          clear km
          go_wp2
          go_roundw
          case rel => exact ⟨i + 1, by go_num, by omega, by rw [HT2.out, HL2.out, HE.out]; exact HW5.out, by rw [Hid, HT2.out, HE.out, HM.out]; exact cm, HK5.out⟩
          case measure => simp [intOf]; omega
        · have km := must_no 4 0 W5
          have cmi : ¬ (m : Int) ≤ 65536 := by omega
          have cmd : decide ((m : Int) ≤ 65536) = false := by simpa using cmi
          have cmn : ¬ m ≤ 65536 := cm
          go_wp2_with fail
          refine kl.mono ?_
          rintro e w6 ⟨rfl, rfl⟩
          clear hW5 kl
          go_wp2_with fail
          refine km.mono ?_
          rintro e w7 ⟨rfl, rfl⟩
          clear km
          go_wp2
          refine ⟨rfl, ?_, HK5.out⟩
          rw [if_neg]
          have h1 := HWL.out
          have h2 := HM.out
          have h3 := congrArg List.length (HT2.out.trans HE.out)
          rw [h2] at h3
          simp only [List.length_append] at h3 ⊢
          omega
      | false =>
        have ks := wstr_any HW.out s (by omega) hsz
        go_wp2_with fail
        refine ks.mono ?_
        rintro e w4 ⟨⟨x, rfl⟩, hw4, hk4⟩
        have HW4 : Hid (Wtr w4 B R (T ++ s) ls) := hw4
        have HK4 : Hid (Kpw B R w w4) := HK.out.trans hk4
        have d2 := HW4.out.c2.1
        have f2 := HW4.out.c2.2
        obtain ⟨W5, hW5⟩ : ∃ W5, w4.setCell ⟨R, 2, none⟩ (.string (tx s)) = W5 := ⟨_, rfl⟩
        have HW5 : Hid (Wtr W5 B R (T ++ s) s) := hW5 ▸ HW4.out.last s
        have HK5 : Hid (Kpw B R w W5) := hW5 ▸ HK4.out.set hBR 2 _
        have kl := len_any HW5.out
        have HE : Hid (T ++ wrs ls [s] = T ++ s) := by rw [Hid, wrs_one, HB.out]; simp
        obtain ⟨m, hm⟩ : ∃ m, (T ++ s).length = m := ⟨_, rfl⟩
        have HM : Hid ((T ++ s).length = m) := hm
        rw [hm] at kl
        clear ks hw4 hk4 hm
        by_cases cm : m ≤ 65536
        · have km := must_ok 4 0 W5
          have cmi : (m : Int) ≤ 65536 := by omega
          go_wp2_with fail
          refine kl.mono ?_
          rintro e w6 ⟨rfl, rfl⟩
          clear hW5 kl
          go_wp2_with fail
          refine km.mono ?_
          rintro e w7 ⟨rfl, rfl⟩
          clear km
          go_wp2
          go_roundw
          case rel => exact ⟨i + 1, by go_num, by omega, by rw [HT2.out, HL2.out, HE.out]; exact HW5.out, by rw [Hid, HT2.out, HE.out, HM.out]; exact cm, HK5.out⟩
          case measure => simp [intOf]; omega
        · have km := must_no 4 0 W5
          have cmi : ¬ (m : Int) ≤ 65536 := by omega
          have cmd : decide ((m : Int) ≤ 65536) = false := by simpa using cmi
          have cmn : ¬ m ≤ 65536 := cm
          go_wp2_with fail
          refine kl.mono ?_
          rintro e w6 ⟨rfl, rfl⟩
          clear hW5 kl
          go_wp2_with fail
          refine km.mono ?_
          rintro e w7 ⟨rfl, rfl⟩
          clear km
          go_wp2
          refine ⟨rfl, ?_, HK5.out⟩
          rw [if_neg]
          have h1 := HWL.out
          have h2 := HM.out
          have h3 := congrArg List.length (HT2.out.trans HE.out)
          rw [h2] at h3
          simp only [List.length_append] at h3 ⊢
          omega
    · obtain rfl : i = n := by omega
      have hti : l.take i = l := List.take_of_length_le (by rw [HN.out]; omega)
      rw [hti] at HW HT
      clear hti
      go_wp2
      go_end0
      refine ⟨?_, HK.out⟩
      rw [if_pos HT.out]
      exact ⟨rfl, HW.out⟩
end Go.Proofs.YtidfkencjdjkbaaGreatDoor
