import Derived.Test.YtkpjjiomfgkobaaDoorLni
import Derived.Test.YtkpjjiomfgkobaaDoorCll
import Derived.Test.YtkpjjiomfgkobaaDoorGro
namespace Go.Proofs.YtkpjjiomfgkobaaDoor
open Go.RowKit Go.Proofs.YtkpjjiomfgkobaaDoor.Ds

/-- what is written down of a table -/
def prtT (l : List Col) (rs : List (List Int)) : List UInt8 := textT l (froR (allT l) (celT l rs))
def prtR (l : List Col) (rs : List (List Int)) : List UInt8 × Int := if wroE l rs = 0 then (if 65536 < (prtT l rs).length then ([], 4) else (prtT l rs, 0)) else ([], wroE l rs)
/-- the text so far -/
def prtN (l : List Col) (xs : List Int) (i : Nat) : List UInt8 := textT l (froR ((allT l).take i) (xs.take i))
theorem prtN_zero (l : List Col) (xs : List Int) : prtN l xs 0 = lineT (l.map wordC) := by simp [prtN, textT, froR, textR]
theorem prtN_next {l : List Col} {xs : List Int} {i : Nat} {n : Int} (h : xs[i]? = some n) (hi : i < prd l) : prtN l xs (i + 1) = prtN l xs i ++ Lib.repeatL (lineR (cel l i)) n.toNat := by
  rw [prtN, prtN, textT, textT, froR_step h (allT_get hi), textR_app, textR_rep, List.append_assoc]
theorem prtN_all {l : List Col} {xs : List Int} {i : Nat} (h : prd l ≤ i) (hx : xs.length = prd l) : prtN l xs i = textT l (froR (allT l) xs) := by
  rw [prtN, List.take_of_length_le (by rw [allT_len]; exact h), List.take_of_length_le (by omega)]
theorem wstr_any (B b : Nat) (t : List UInt8) (s : List UInt8) (w : World) (h : Lib.IsBuilder 45 5 B b (Lib.byteCells t) w) (hlen : t.length + s.length ≤ 140737488355328) (hBw : B ≤ w.heap.size) :
    Calls Tryd.prog 13 #[.pointer (some ⟨b, 0, none⟩), .string (tx s)] w fun e w' => e = .returned (.tuple #[.int .i64 (tx s).size, .nilIface]) ∧ Lib.IsBuilder 45 5 B b (Lib.byteCells (t ++ s)) w' ∧ Below B w w' := by
  refine (Any.Builder_WriteString { Tryd.lays156 with } Tryd.Builder_Extra_156 B b _ (tx s) w h (by simp [Lib.byteCells, tx_size]; exact hlen) hBw).mono ?_
  rintro e w' ⟨rfl, h1, h2⟩
  refine ⟨rfl, Or.inr ?_, h2⟩
  have e : Lib.byteCells t ++ Lib.strCells (tx s) = Lib.byteCells (t ++ s) := by simp [Lib.byteCells, Lib.strCells, tx]
  rw [← e]
  exact h1

theorem isb_new (w : World) : Lib.IsBuilder 45 5 w.heap.size w.heap.size (Lib.byteCells []) (w.alloc (.cells #[.pointer none, .slice none 0 0] 45)) :=
  Or.inl ⟨Nat.le_refl _, .slice none 0 0, World.alloc_heap_new _ _, ⟨rfl, .inl ⟨rfl, rfl⟩⟩, by simp [Value.ownBlock]⟩
theorem isb_keep {w w' : World} {B b : Nat} {bs : List Value} (h : Lib.IsBuilder 45 5 B b bs w) (hb : Below w.heap.size w w') : Lib.IsBuilder 45 5 B b bs w' := by
  have one : ∀ p, Lib.BuilderAt 45 5 B b p bs w → Lib.BuilderAt 45 5 B b p bs w' := by
    intro p h
    have hlt := h.lt
    obtain ⟨hB, v, h1, h2, h3⟩ := h
    exact ⟨hB, v, (hb.block b hlt).trans h1, owns_below h2 hb, h3⟩
  rcases h with h | h
  · exact Or.inl (one _ h)
  · exact Or.inr (one _ h)
theorem lineR_cel_len {l : List Col} (hs : Szs l) (h6 : l.length ≤ 6) (i : Nat) : (lineR (cel l i)).length ≤ 24589 := lineR_len (cel_ok hs i) hs h6

set_option maxHeartbeats 1000000 in
theorem print_any (B : Nat) (cv rv : Value) (l : List Col) (ts : List Rw) (w : World) (hB : B ≤ w.heap.size) (hp : Cols w B cv l) (hq : Rws w B rv ts) (hpt : PT B w) (s : List UInt8) (er : Int) (hr : prtR l (rr ts) = (s, er)) :
    Calls Tryd.prog 5 #[.agg #[cv, rv]] w fun e w' => e = .returned (.tuple #[.string (tx s), .int .i64 er]) ∧ Below w.heap.size w w' := by
  have HP : Hid (Cols w B cv l) := hp
  have HQ : Hid (Rws w B rv ts) := hq
  have HPT : Hid (PT B w) := hpt
  have HR : Hid (prtR l (rr ts) = (s, er)) := hr
  obtain ⟨a, c, rfl, hc, hl⟩ := hp.slice
  obtain ⟨a2, c2, rfl, hc2, hl2⟩ := hq.slice
  clear hr hpt
  obtain ⟨xs, ec, hec⟩ : ∃ xs ec, Hid (cellsR l (rr ts) = (xs, ec)) := ⟨_, _, rfl⟩
  have kc := cells_any B _ _ l ts (w.alloc (.cells #[.slice a l.length c, .slice a2 ts.length c2] 25)) (by simp; omega) (HP.out.at hB (ba _ _)) (HQ.out.at hB (ba _ _)) xs ec hec.out
  have d0 : (w.alloc (.cells #[.slice a l.length c, .slice a2 ts.length c2] 25)).cell? ⟨w.heap.size, 0, none⟩ = some (.slice a l.length c) := nc _ _ 0 _ rfl rfl
  have d1 : (w.alloc (.cells #[.slice a l.length c, .slice a2 ts.length c2] 25)).cell? ⟨w.heap.size, 1, none⟩ = some (.slice a2 ts.length c2) := nc _ _ 1 _ rfl rfl
  go_enter Tryd.func5, Tryd.ntmps5
  go_wp2_with fail
  refine kc.mono ?_
  rintro e w1 ⟨v', rfl, hN, hb1⟩
  have hbw : Below w.heap.size w w1 := bt (ba _ _) hb1
  have f0 : w1.cell? ⟨w.heap.size, 0, none⟩ = some (.slice a l.length c) := (hb1.cell (p := ⟨w.heap.size, 0, none⟩) (by simp)).trans d0
  have hz1 : w.heap.size < w1.heap.size := by have := hb1.size; simp at this; omega
  have HXI : Hid (Ints w1 w1.heap.size w.heap.size v' xs) := hN w.heap.size (by simp)
  obtain ⟨xa, xc, rfl, hxc, hxl⟩ := HXI.out.slice
  clear kc d0 d1 hb1 hN
  by_cases he0 : ec = 0
  · subst he0
    have hwx : wroE l (rr ts) = 0 ∧ celT l (rr ts) = xs := by
      have := hec.out
      rw [cellsR] at this
      by_cases h0 : wroE l (rr ts) = 0
      · rw [if_pos h0, Prod.mk.injEq] at this; exact ⟨h0, this.1⟩
      · rw [if_neg h0, Prod.mk.injEq] at this; exact absurd this.2 h0
    have HX : Hid (celT l (rr ts) = xs) := hwx.2
    have HW : Hid (colE l = 0 ∧ (rr ts).length ≤ 4096 ∧ ∀ r ∈ rr ts, RowOk l r) := wroE_ok hwx.1
    have HC := colE_ok HW.out.1
    have HO : Hid (Szs l ∧ prd l ≤ 4096 ∧ Nms l) := ⟨HC.2.2.1, HC.2.2.2.1, colL_nms HC.2.2.2.2⟩
    have h1l : 1 ≤ l.length := HC.1
    have h6l : l.length ≤ 6 := HC.2.1
    have HA : Hid ((if 65536 < (prtT l (rr ts)).length then (([] : List UInt8), (4 : Int)) else (prtT l (rr ts), 0)) = (s, er)) := by
      have := HR.out
      rwa [prtR, if_pos hwx.1] at this
    have HXN : Hid (xs.length = prd l) := by show _ = _; rw [← HX.out, celT_len]
    have hx4 : xs.length ≤ 4096 := by rw [HXN.out]; exact HO.out.2.1
    have HXB : Hid (∀ n ∈ xs, 0 ≤ n ∧ n ≤ 4096) := by
      intro n hn
      rw [← HX.out] at hn
      have := celT_bd hn
      have := HW.out.2.1
      omega
    clear HC hwx HR
    have g0 : (w1.alloc (.cells #[.pointer none, .slice none 0 0] 45)).cell? ⟨w.heap.size, 0, none⟩ = some (.slice a l.length c) := ((ba w1 _).cell (p := ⟨w.heap.size, 0, none⟩) hz1).trans f0
    have HIB : Hid (Lib.IsBuilder 45 5 w1.heap.size w1.heap.size (Lib.byteCells []) (w1.alloc (.cells #[.pointer none, .slice none 0 0] 45))) := isb_new w1
    obtain ⟨T0, hT0⟩ : ∃ T0, Hid (lineT (l.map wordC) = T0) := ⟨_, rfl⟩
    have hT0l : T0.length ≤ 24787 := by rw [← hT0.out]; exact lineC_len HO.out.2.2 HO.out.1 h6l
    go_wp2_with fail
    refine (lineC_any B _ l _ (by simp; omega) (HP.out.at hB (bal hbw _)) (HPT.out.at hB (bal hbw _)) h6l h1l HO.out.1 HO.out.2.2 T0 hT0.out).mono ?_
    rintro e w2 ⟨rfl, hb2⟩
    have HB2 : Hid (Lib.IsBuilder 45 5 w1.heap.size w1.heap.size (Lib.byteCells []) w2) := isb_keep HIB.out hb2
    have hz2 : w1.heap.size + 1 ≤ w2.heap.size := by have := hb2.size; simp at this; omega
    have hbw2 : Below w1.heap.size w1 w2 := bt (ba _ _) hb2
    clear HIB hb2 g0
    have kw := wstr_any w1.heap.size w1.heap.size [] T0 w2 HB2.out (by simp; omega) (by omega)
    rw [List.nil_append] at kw
    go_wp2_with fail
    refine kw.mono ?_
    rintro e w3 ⟨rfl, hB3, hb3⟩
    have HB3 : Hid (Lib.IsBuilder 45 5 w1.heap.size w1.heap.size (Lib.byteCells T0) w3) := hB3
    have hbw3 : Below w1.heap.size w1 w3 := hbw2.trans hb3
    have hz3 : w2.heap.size ≤ w3.heap.size := hb3.size
    clear kw hB3 hb3 hbw2 HB2
    go_wp2
    go_loopw [23] (fun s wr => ∃ (i : Nat), s = .int .i64 (i : Int) ∧ i ≤ xs.length ∧ Hid (Lib.IsBuilder 45 5 w1.heap.size w1.heap.size (Lib.byteCells (prtN l xs i)) wr) ∧ Hid ((prtN l xs i).length ≤ 24787 + i * 100716544) ∧ Below w1.heap.size w1 wr) (fun s _ => xs.length - (intOf s).toNat)
    case atStart => exact ⟨0, rfl, Nat.zero_le _, by show Lib.IsBuilder _ _ _ _ _ _; rw [prtN_zero, hT0.out]; exact HB3.out, by show _ ≤ _; rw [prtN_zero, hT0.out]; omega, hbw3⟩
    case round =>
      obtain ⟨i, rfl, hi, HI, HL, hbl⟩ := hrel
      by_cases hil : i < xs.length
      · obtain ⟨b, o, x, rfl, hb, _, hg, c1⟩ := HXI.out.get (Nat.le_refl _) hbl hil
        have hxb := HXB.out _ (List.mem_of_getElem? hg)
        obtain ⟨k, rfl⟩ : ∃ k : Nat, x = (k : Int) := ⟨x.toNat, by omega⟩
        have hk4 : k ≤ 4096 := by omega
        have HG : Hid (xs[i]? = some (k : Int)) := hg
        have hzr := hbl.size
        have q0 : wr.cell? ⟨w.heap.size, 0, none⟩ = some (.slice a l.length c) := (hbl.cell (p := ⟨w.heap.size, 0, none⟩) hz1).trans f0
        have hbwr : Below w.heap.size w wr := hbw.trans (hbl.mono (by omega))
        obtain ⟨r, hr⟩ : ∃ r, Hid (cel l i = r) := ⟨_, rfl⟩
        have hrl : r.length = l.length := by rw [← hr.out, cel_len]
        have hr6 : r.length ≤ 6 := by omega
        have HRB : Hid (∀ v ∈ r, 0 ≤ v ∧ v ≤ 4096) := by
          intro v hv
          rw [← hr.out] at hv
          have := rowOk_bd (cel_ok HO.out.1 i) HO.out.1 v hv
          omega
        obtain ⟨t, ht⟩ : ∃ t, Hid (lineR r = t) := ⟨_, rfl⟩
        have htl : t.length ≤ 24589 := by rw [← ht.out, ← hr.out]; exact lineR_cel_len HO.out.1 h6l i
        have HTK : Hid (t.length * k ≤ 100716544) := by
          have h1 : t.length * k ≤ 24589 * k := Nat.mul_le_mul_right _ htl
          have h2 : 24589 * k ≤ 24589 * 4096 := Nat.mul_le_mul_left _ hk4
          show _ ≤ _
          omega
        have HNX : Hid (prtN l xs (i + 1) = prtN l xs i ++ Lib.repeatL t k) := by
          show _ = _
          rw [prtN_next HG.out (by rw [← HXN.out]; exact hil), hr.out, ht.out, Int.toNat_natCast]
        have HRL : Hid ((Lib.repeatL t k).length ≤ 100716544) := by
          show _ ≤ _
          rw [repeatL_len, Nat.mul_comm]; exact HTK.out
        have hi4 : i * 100716544 ≤ 4096 * 100716544 := Nat.mul_le_mul_right _ (by omega)
        clear hg hxb hrl
        go_wp2_with fail
        refine (cell_any B _ l i wr (Nat.le_trans hB hbwr.size) (HP.out.at hB hbwr) h6l HO.out.1 (by omega) r hr.out).mono ?_
        rintro e w4 ⟨rfl, hR4, hb4⟩
        have hbwr4 : Below w.heap.size w w4 := bt hbwr hb4
        have kl := lineI_any B w4.heap.size 0 _ r w4 (Nat.le_trans hB hbwr4.size) (Nat.le_refl _) (hR4.ints (by omega) 0 (by omega)) (HPT.out.at hB hbwr4) hr6 HRB.out t ht.out
        clear hR4
        go_wp2_with fail
        refine kl.mono ?_
        rintro e w5 ⟨rfl, hb5⟩
        have kr := Tryd.strings_Repeat (tx t) k w5 (by omega) (by rw [tx_size]; have := HTK.out; omega)
        rw [tx_list] at kr
        have hb45 : Below wr.heap.size wr w5 := bt hb4 hb5
        clear kl hb4 hb5 hbwr4
        go_wp2_with fail
        refine kr.mono ?_
        rintro e w6 ⟨rfl, hb6⟩
        have hb46 : Below wr.heap.size wr w6 := bt hb45 hb6
        have kw := wstr_any w1.heap.size w1.heap.size (prtN l xs i) (Lib.repeatL t k) w6 (isb_keep HI.out hb46) (by have h1 := HRL.out; have h2 := HL.out; omega) (by have := hb46.size; omega)
        rw [← HNX.out] at kw
        clear kr hb45 hb6
        go_wp2_with fail
        refine kw.mono ?_
        rintro e w7 ⟨rfl, hB7, hb7⟩
        have HB7 : Hid (Lib.IsBuilder 45 5 w1.heap.size w1.heap.size (Lib.byteCells (prtN l xs (i + 1))) w7) := hB7
        have hbl7 : Below w1.heap.size w1 w7 := (bt hbl hb46).trans hb7
        clear kw hB7 hb7
        go_wp2
        go_roundw
        case rel => exact ⟨i + 1, by go_num, hil, HB7, by show _ ≤ _; rw [HNX.out, List.length_append, Nat.add_mul]; have h1 := HRL.out; have h2 := HL.out; omega, hbl7⟩
        case measure => simp [intOf]; omega
      · have HT : Hid (prtN l xs i = prtT l (rr ts)) := by
          show _ = _
          rw [prtN_all (by rw [← HXN.out]; omega) HXN.out, prtT, HX.out]
        have HF : Hid (Lib.IsBuilder 45 5 w1.heap.size w1.heap.size (Lib.byteCells (prtT l (rr ts))) wr) := by rw [← HT.out]; exact HI
        obtain ⟨X, hX⟩ : ∃ X, Hid (prtT l (rr ts) = X) := ⟨_, rfl⟩
        rw [hX.out] at HF HA
        have kl := Tryd.Builder_Len w1.heap.size w1.heap.size _ wr HF.out
        have ks := Tryd.Builder_String_any w1.heap.size w1.heap.size X wr HF.out hbl.size
        rw [show (Lib.byteCells X).length = X.length by simp [Lib.byteCells]] at kl
        have hbwr : Below w.heap.size w wr := hbw.trans (hbl.mono (by omega))
        by_cases hm : 65536 < X.length
        · have hse : [] = s ∧ 4 = er := by have := HA.out; rw [if_pos hm, Prod.mk.injEq] at this; exact this
          obtain ⟨rfl, rfl⟩ := hse
          have zm : (65536 : Int) < (X.length : Int) := by omega
          clear ks
          go_wp2_with fail
          refine kl.mono ?_
          rintro e w4 ⟨rfl, rfl⟩
          go_wp2
          go_ret2
          exact ⟨rfl, hbwr⟩
        · have hse : X = s ∧ 0 = er := by have := HA.out; rw [if_neg hm, Prod.mk.injEq] at this; exact this
          obtain ⟨rfl, rfl⟩ := hse
          have zm : ¬ ((65536 : Int) < (X.length : Int)) := by omega
          go_wp2_with fail
          refine kl.mono ?_
          rintro e w4 ⟨rfl, rfl⟩
          go_wp2_with fail
          refine ks.mono ?_
          rintro e w5 ⟨rfl, hb5⟩
          go_wp2
          go_ret2
          exact ⟨rfl, hbwr.trans (hb5.mono (by omega))⟩
  · have hne : (ec != 0) = true := by simpa using he0
    have hse : [] = s ∧ ec = er := by
      have h1 := HR.out
      have h2 := hec.out
      rw [cellsR] at h2
      by_cases h0 : wroE l (rr ts) = 0
      · rw [if_pos h0, Prod.mk.injEq] at h2; exact absurd h2.2.symm he0
      · rw [if_neg h0, Prod.mk.injEq] at h2
        rw [prtR, if_neg h0, Prod.mk.injEq] at h1
        exact ⟨h1.1, h2.2.symm.trans h1.2⟩
    obtain ⟨rfl, rfl⟩ := hse
    go_wp2
    go_ret2
    exact ⟨rfl, hbw⟩
end Go.Proofs.YtkpjjiomfgkobaaDoor
