import Derived.Test.YtkpjjiomfgkobaaDoorRow2
namespace Go.Proofs.YtkpjjiomfgkobaaDoor
open Go.RowKit Go.Proofs.YtkpjjiomfgkobaaDoor.Ds

theorem flatC_snoc (l : List Col) (x : Col) : flatC l ++ [.string x.1, .int .i64 x.2] = flatC (l ++ [x]) := by simp [flatC]
/-- columns in a row of one's own -/
theorem cols_of_owns {w : World} {lo n : Nat} {v : Value} {l : List Col} (hn : n = l.length) (h : w.ownsRow lo 52 2 v n (flatC l)) (hl : l.length ≤ 4096) (hz : ∀ x ∈ l, x.1.size ≤ 9223372036854775807) : Cols w w.heap.size v l ∧ Adr (fun b => lo ≤ b) v := by
  subst hn
  obtain ⟨_, ⟨hv, h0⟩ | ⟨g, cap, cur, hv, hb, hcur, hc, _, hsz, hx⟩⟩ := h
  · obtain rfl : l = [] := by cases l <;> simp_all
    exact ⟨⟨none, 0, hv, Nat.le_refl _, by simp, hz, fun h => absurd rfl h⟩, hv ▸ adr_nil _⟩
  · have get : ∀ j u, (flatC l)[j]? = some u → w.cell? ⟨g, j, none⟩ = some u := by
      intro j u hj
      have hj2 : j < l.length * 2 := by rw [← flatC_len]; exact (List.getElem?_eq_some_iff.1 hj).1
      have : cur[j]? = some u := by
        have h1 := hj
        rw [← hx, List.getElem?_take_of_lt hj2] at h1
        simpa using h1
      simp [World.cell?, hcur, this]
    refine ⟨⟨_, cap, hv, hc, by omega, hz, fun _ => ⟨g, 0, rfl, (Array.getElem?_eq_some_iff.1 hcur).1, fun i x hi => ?_⟩⟩, hv ▸ adr_at hb⟩
    have hg := flatC_get l i
    rw [hi] at hg
    rw [Nat.zero_add]
    exact ⟨get _ _ hg.1, get _ _ hg.2⟩

set_option maxHeartbeats 1000000 in
set_option maxRecDepth 100000 in
theorem columnsR_any (R : Nat) (l : List Col) (T : ByteArray) (p : Nat) (rest : List UInt8) (w : World) (h : Rdr w R T p (lineT (l.map wordC) ++ rest)) (hok : colE l = 0) :
    Calls Tryd.prog 45 #[.pointer (some ⟨R, 0, none⟩)] w fun e w' => ∃ v p', e = .returned (.tuple #[v, .int .i64 0]) ∧ Cols w' w'.heap.size v l ∧ Adr (fun b => w.heap.size ≤ b) v ∧ Rdr w' R T p' rest ∧ w.grownBy w' (some R) := by
  have HR : Hid (Rdr w R T p (remT (l.map wordC) 0 rest)) := by show Rdr _ _ _ _ _; rw [rem_zero]; exact h
  have HC := colE_ok hok
  have HO : Hid (colE l = 0 ∧ Szs l ∧ Nms l) := ⟨hok, HC.2.2.1, colL_nms HC.2.2.2.2⟩
  have h1 : 1 ≤ l.length := HC.1
  have h6 : l.length ≤ 6 := HC.2.1
  have hRl : R < w.heap.size := h.two.lt
  obtain ⟨i0, hi0, hz0, hz1, hz2⟩ := info_parts info47
  clear h hok HC
  go_enter Tryd.func45, Tryd.ntmps45
  go_wp2_with fail
  obtain ⟨cl0, hcl0⟩ := get_lt (l := l) (i := 0) (by omega)
  have HR0 : Hid (Rdr w R T p (wordC cl0 ++ remT (l.map wordC) (0 + 1) rest)) := by
    have := HR.out
    rwa [rem_first (x := wordC cl0) (by rw [List.getElem?_map, hcl0]; rfl)] at this
  have HC0 : Hid (l[0]? = some cl0) := hcl0
  clear hcl0
  go_loopw [4, 5] (fun lv mv wr => ∃ (i q : Nat) (m : Bool) (a : Option Addr) (c : Nat), lv = .slice a i c ∧ mv = .bool m ∧ Hid (wr.ownsRow w.heap.size 52 2 (.slice a i c) i (flatC (l.take i)) ∧ (m = true → ∃ cl, l[i]? = some cl ∧ Rdr wr R T q (wordC cl ++ remT (l.map wordC) (i + 1) rest)) ∧ (m = false → i = l.length ∧ Rdr wr R T q (10 :: rest)) ∧ w.grownBy wr (some R))) (fun lv _ _ => match lv with | .slice _ n _ => l.length - n | _ => 0)
  case atStart => exact ⟨0, p, true, none, 0, rfl, rfl, ⟨by simp [flatC], .inl ⟨rfl, rfl⟩⟩, fun _ => ⟨cl0, HC0.out, HR0.out⟩, (fun h => by cases h), gb_refl _ _⟩
  case round =>
    obtain ⟨i, q, m, a, c, rfl, rfl, HI⟩ := hrel
    cases m with
    | true =>
      obtain ⟨⟨nm, sz⟩, hg, hrd⟩ := HI.out.2.1 rfl
      have hil : i < l.length := (List.getElem?_eq_some_iff.1 hg).1
      have hmem := List.mem_of_getElem? hg
      have hnb := HO.out.2.2 _ hmem
      have hsz := HO.out.2.1 _ hmem
      have HGT : Hid (l[i]? = some (nm, sz)) := hg
      obtain ⟨cc, tt, hcc, hdc, hc32, hc10⟩ := rem_head (l.map wordC) i rest
      have HCC : Hid (remT (l.map wordC) (i + 1) rest = cc :: tt) := hcc
      have HHD : Hid ((i + 1 < l.length → cc.toNat = 32) ∧ (l.length ≤ i + 1 → cc.toNat = 10)) := ⟨fun h => hc32 (by simpa using h), fun h => hc10 (by simpa using h)⟩
      rw [hcc] at hrd
      have kc := column_any R T q nm sz cc tt wr hrd hdc hnb (by have := hsz.1; simp only at this; omega) hsz.2
      clear hg hmem hnb hsz hcc hdc hrd hc32 hc10
      go_wp2_with fail
      refine kc.mono ?_
      rintro e w2 ⟨rfl, hr2, hg2⟩
      have hRb : ∀ k, (Value.slice a i c).ownBlock = some k → w.heap.size ≤ k := owns_block HI.out.1
      have HOW : Hid (w2.ownsRow w.heap.size 52 2 (.slice a i c) i (flatC (l.take i))) := HI.out.1.kept hg2 (Or.inr (fun e => by have := hRb R e; omega))
      have HR2 : Hid (Rdr w2 R T (q + (wordC (nm, sz)).length) (cc :: tt)) := hr2
      have HG2 : Hid (w.grownBy w2 (some R)) := gb_trans HI.out.2.2.2 hg2
      have hzw : w.heap.size ≤ w2.heap.size := HG2.out.size
      have HO2 : Hid (((w2.alloc (.cells #[.string nm, .int .i64 sz] 52)).alloc (.cells #[.string nm, .int .i64 sz] 52)).ownsRow w.heap.size 52 2 (.slice a i c) i (flatC (l.take i))) := owns_below HOW.out (bal (ba _ _) _)
      clear kc hr2 hg2 HOW
      go_wp2_with (at_builtin; refine wpList_append_own _ rfl _ _ 22 rfl w.heap.size 52 i0 (.agg #[.string ByteArray.empty, .int .i64 0]) 2 24 Tryd.underlying22 hi0 hz0 hz1 hz2 rfl (by decide) _ _ _ rfl HO2.out ⟨w2.heap.size + 1, 0, none⟩ 1 1 [.string nm, .int .i64 sz] rfl ?q1 ?q2 ?q3 ?q4 ?q5 ?q6 ?_)
      case q1 => rfl
      case q2 =>
        intro j u hj
        match j, hj with
        | 0, hj => simp at hj; subst hj; simp [go_sem, Addr.add]
        | 1, hj => simp at hj; subst hj; simp [go_sem, Addr.add]
      case q3 => intro u hu; simp at hu; rcases hu with rfl | rfl <;> rfl
      case q4 => simp [maxLen]; omega
      case q5 => omega
      case q6 => simp; omega
      intro v3 w3 hown3 hgrow hnil
      have HO3 : Hid (w3.ownsRow w.heap.size 52 2 v3 (i + 1) (flatC (l.take (i + 1)))) := by
        rw [Hid, List.take_add_one, HGT.out, Option.toList_some, ← flatC_snoc]
        simpa using hown3
      have hRne : ∀ g, (Value.slice a i c).ownBlock = some g → w.heap.size ≤ g := hRb
      have HGR : Hid (w2.grownBy w3 (Value.slice a i c).ownBlock) := gb_trans (gb_alloc (gb_alloc (gb_refl _ _) _) _) hgrow
      have HR3 : Hid (Rdr w3 R T (q + (wordC (nm, sz)).length) (cc :: tt)) := ⟨HR2.out.two.gb HGR.out (fun e => by have := hRb R e; omega), HR2.out.left, HR2.out.le, HR2.out.small⟩
      have HG3 : Hid (w.grownBy w3 (some R)) := gb_grow HG2.out HGR.out hRb
      obtain ⟨a3, c3, rfl⟩ := owns_slice HO3.out
      clear hown3 hgrow hnil HGR HR2
      by_cases hlast : i + 1 < l.length
      · obtain ⟨cl, hcl⟩ := get_lt (l := l) (i := i + 1) hlast
        have hR32 := HR3.out
        rw [← HCC.out, rem_next (by omega) (x := wordC cl) (by rw [List.getElem?_map, hcl]; rfl)] at hR32
        have kh : Calls Tryd.prog 57 #[.pointer (some ⟨R, 0, none⟩), .int .u8 32] w3 fun e w' => e = .returned (.bool true) ∧ Rdr w' R T (q + (wordC (nm, sz)).length + 1) (wordC cl ++ remT (l.map wordC) (i + 1 + 1) rest) ∧ w3.grownBy w' (some R) := has_yes R T _ 32 _ w3 hR32
        have HCL : Hid (l[i + 1]? = some cl) := hcl
        clear hR32 hcl
        go_wp2_with fail
        refine kh.mono ?_
        rintro e w4 ⟨rfl, hr4, hg4⟩
        have HF : Hid (w4.ownsRow w.heap.size 52 2 (.slice a3 (i + 1) c3) (i + 1) (flatC (l.take (i + 1))) ∧ (true = true → ∃ cl, l[i + 1]? = some cl ∧ Rdr w4 R T (q + (wordC (nm, sz)).length + 1) (wordC cl ++ remT (l.map wordC) (i + 1 + 1) rest)) ∧ (true = false → i + 1 = l.length ∧ Rdr w4 R T (q + (wordC (nm, sz)).length + 1) (10 :: rest)) ∧ w.grownBy w4 (some R)) :=
          ⟨HO3.out.kept hg4 (Or.inr (fun e => by have := owns_block HO3.out R e; omega)), fun _ => ⟨cl, HCL.out, hr4⟩, (fun h => by cases h), gb_trans HG3.out hg4⟩
        clear kh hr4 hg4
        go_wp2
        go_roundw
        case rel => exact ⟨i + 1, q + (wordC (nm, sz)).length + 1, true, a3, c3, rfl, rfl, HF.out.1, (fun _ => HF.out.2.1 trivial), (fun h => by cases h), HF.out.2.2.2⟩
        case measure => simp; omega
      · have h10 : cc.toNat = 10 := HHD.out.2 (by omega)
        have kh : Calls Tryd.prog 57 #[.pointer (some ⟨R, 0, none⟩), .int .u8 32] w3 fun e w' => e = .returned (.bool false) ∧ Below w3.heap.size w3 w' := has_no R T _ 32 cc tt w3 HR3.out (by rw [h10]; decide)
        have HE : Hid (cc :: tt = 10 :: rest) := by
          show _ = _
          rw [← HCC.out, rem_end (by omega) (by simp; omega)]
        clear h10
        go_wp2_with fail
        refine kh.mono ?_
        rintro e w4 ⟨rfl, hb4⟩
        have HF : Hid (w4.ownsRow w.heap.size 52 2 (.slice a3 (i + 1) c3) (i + 1) (flatC (l.take (i + 1))) ∧ (false = true → ∃ cl, l[i + 1]? = some cl ∧ Rdr w4 R T (q + (wordC (nm, sz)).length) (wordC cl ++ remT (l.map wordC) (i + 1 + 1) rest)) ∧ (false = false → i + 1 = l.length ∧ Rdr w4 R T (q + (wordC (nm, sz)).length) (10 :: rest)) ∧ w.grownBy w4 (some R)) :=
          ⟨owns_below HO3.out hb4, (fun h => by cases h), fun _ => ⟨by omega, by rw [← HE.out]; exact HR3.out.at hb4⟩, gb_trans HG3.out (gb_below hb4)⟩
        clear kh hb4
        go_wp2
        go_roundw
        case rel => exact ⟨i + 1, q + (wordC (nm, sz)).length, false, a3, c3, rfl, rfl, HF.out.1, (fun h => by cases h), (fun _ => HF.out.2.2.1 trivial), HF.out.2.2.2⟩
        case measure => simp; omega
    | false =>
      obtain ⟨hie, hrd⟩ := HI.out.2.2.1 rfl
      have kh : Calls Tryd.prog 57 #[.pointer (some ⟨R, 0, none⟩), .int .u8 10] wr fun e w' => e = .returned (.bool true) ∧ Rdr w' R T (q + 1) rest ∧ wr.grownBy w' (some R) := has_yes R T q 10 _ wr hrd
      have HLL : Hid (l.take i = l) := by rw [Hid, hie]; exact List.take_length
      have HIE : Hid (i = l.length) := hie
      clear hrd hie
      go_wp2_with fail
      refine kh.mono ?_
      rintro e w2 ⟨rfl, hr2, hg2⟩
      have HR2 : Hid (Rdr w2 R T (q + 1) rest) := hr2
      have HG2 : Hid (w.grownBy w2 (some R)) := gb_trans HI.out.2.2.2 hg2
      have ho2 : w2.ownsRow w.heap.size 52 2 (.slice a i c) i (flatC l) := by
        have := HI.out.1.kept hg2 (Or.inr (fun e => by have := owns_block HI.out.1 R e; omega))
        rwa [HLL.out] at this
      have HCA : Hid (Cols w2 w2.heap.size (.slice a i c) l ∧ Adr (fun b => w.heap.size ≤ b) (.slice a i c)) := cols_of_owns HIE.out ho2 (by omega) (fun x hx => by
        have := HO.out.2.2 x hx
        simp only [namB, Bool.and_eq_true, decide_eq_true_eq] at this
        have e : x.1.data.toList.length = x.1.size := by simp
        omega)
      have kc := columns_any w2.heap.size _ l w2 (Nat.le_refl _) HCA.out.1 0 HO.out.1
      clear kh hr2 hg2 ho2
      go_wp2_with fail
      refine kc.mono ?_
      rintro e w3 ⟨rfl, hb3⟩
      clear kc
      go_wp2
      go_ret2
      exact ⟨_, q + 1, rfl, (HCA.out.1.at (Nat.le_refl _) hb3).mono hb3.size, HCA.out.2, HR2.out.at hb3, gb_trans HG2.out (gb_below hb3)⟩
end Go.Proofs.YtkpjjiomfgkobaaDoor
