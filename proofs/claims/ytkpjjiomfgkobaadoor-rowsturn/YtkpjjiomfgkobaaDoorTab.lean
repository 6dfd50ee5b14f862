import Derived.Test.YtkpjjiomfgkobaaDoorCol
namespace Go.Proofs.YtkpjjiomfgkobaaDoor
open Go.RowKit Go.Proofs.YtkpjjiomfgkobaaDoor.Ds

theorem Rwr.gb {w w' : World} {lo R : Nat} {v : Value} {ts : List Rw} (h : Rwr w lo v ts) (hs : Som lo ts) (hg : w.grownBy w' (some R)) (hR : R < lo) : Rwr w' lo v ts := by
  refine ⟨h.1.kept hg (Or.inr (fun e => by have := owns_block h.1 R e; omega)), fun t ht => ?_⟩
  obtain ⟨m, h1, h2⟩ := h.2 t ht
  obtain ⟨b, o, n, c, e, hb⟩ := hs t ht
  have hA : Adr (fun b => (some R : Option Nat) ≠ some b) t.1 := by rw [e]; exact adr_at (by simp; omega)
  exact ⟨m, (h1.gb hg hA).mono hg.size (.inl rfl), h2⟩
theorem Rdr.gb {w w' : World} {R : Nat} {T : ByteArray} {p : Nat} {rest : List UInt8} {row : Option Nat} (h : Rdr w R T p rest) (hg : w.grownBy w' row) (hne : row ≠ some R) : Rdr w' R T p rest := ⟨h.two.gb hg hne, h.left, h.le, h.small⟩
theorem textR_cons {rs : List (List Int)} {i : Nat} {r : List Int} (h : rs[i]? = some r) : textR (rs.drop i) = lineR r ++ textR (rs.drop (i + 1)) := by
  have hl : i < rs.length := (List.getElem?_eq_some_iff.1 h).1
  rw [List.drop_eq_getElem_cons hl, (List.getElem?_eq_some_iff.1 h).2]
  simp [textR]
theorem lineR_pos (r : List Int) : 1 ≤ (lineR r).length := by simp [lineR, lineT]
def atOf (w : World) (R : Nat) : Nat := match w.cell? ⟨R, 1, none⟩ with | some (.int _ q) => q.toNat | _ => 0
theorem atOf_eq {w : World} {R : Nat} {T : ByteArray} {q : Nat} {rest : List UInt8} (h : Rdr w R T q rest) : atOf w R = q := by
  rw [atOf, h.two.c1]; simp
/-- what holds of the table that is read, round by round -/
structure TabI (w1 : World) (R Z : Nat) (T : ByteArray) (cv : Value) (rs : List (List Int)) (i q : Nat) (v : Value) (ts : List Rw) (wr : World) : Prop where
  rd : Rdr wr R T q (textR (rs.drop i))
  two : TwoB wr Z cv v
  row : Rwr wr (Z + 1) v ts
  som : Som (Z + 1) ts
  rrs : rr ts = rs.take i
  len : ts.length = i
  gb : w1.grownBy wr (some R)

theorem rr_snoc (ts : List Rw) (t : Rw) : rr (ts ++ [t]) = rr ts ++ [t.2] := by simp [rr]
/-- one row more -/
theorem tab_more {w1 wr w2 w3 : World} {R Z g i q p2 : Nat} {T : ByteArray} {cv : Value} {rs : List (List Int)} {r : List Int} {a2 a3 : Option Addr} {c2 c3 : Nat} {ts : List Rw} (hR : R < Z) (HI : TabI w1 R Z T cv rs i q (.slice a2 i c2) ts wr) (hZ1 : w1.heap.size ≤ Z)
    (hg2 : wr.grownBy w2 (some R)) (hrd : Rdr w2 R T p2 (textR (rs.drop (i + 1)))) (hw : RowI w2 g r) (hgl : wr.heap.size ≤ g) (hr : rs[i]? = some r) (hrl : r.length ≤ 4096)
    (hown : w3.ownsRow (Z + 1) 39 1 (.slice a3 (i + 1) c3) (i + 1) (ts.map (·.1) ++ [.slice (some ⟨g, 0, none⟩) r.length r.length]))
    (hgrow : (w2.alloc (.cells #[.slice (some ⟨g, 0, none⟩) r.length r.length] 39)).grownBy w3 (Value.slice a2 i c2).ownBlock)
    (hat : (Value.slice a3 (i + 1) c3).ownBlock = (Value.slice a2 i c2).ownBlock ∨ (Value.slice a3 (i + 1) c3).ownBlock = some (w2.heap.size + 1)) :
    TabI w1 R Z T cv rs (i + 1) p2 (.slice a3 (i + 1) c3) (ts ++ [(.slice (some ⟨g, 0, none⟩) r.length r.length, r)]) (w3.setCell ⟨Z, 1, none⟩ (.slice a3 (i + 1) c3)) := by
  have hRZ : (some R : Option Nat) ≠ some Z := by simp; omega
  have hzr : Z < wr.heap.size := HI.two.lt
  have hs2 := hg2.size
  have HW2 : Rwr w2 (Z + 1) (.slice a2 i c2) ts := HI.row.gb HI.som hg2 (by omega)
  have HWA := HW2.keep (ba w2 (.cells #[.slice (some ⟨g, 0, none⟩) r.length r.length] 39))
  have hob : ∀ k, (Value.slice a2 i c2).ownBlock = some k → Z + 1 ≤ k := owns_block HI.row.1
  have hob2 : ∀ k, (Value.slice a2 i c2).ownBlock = some k → k < wr.heap.size := fun k e => (HI.row.lt k e).2
  have hom : ∃ m, m < g ∧ ∀ k, (Value.slice a2 i c2).ownBlock = some k → m = k := by
    cases hb : (Value.slice a2 i c2).ownBlock with
    | none => exact ⟨Z, by omega, fun k e => by cases e⟩
    | some k => exact ⟨k, by have := hob2 k hb; omega, fun k' e => by cases e; rfl⟩
  obtain ⟨m, hm1, hm2⟩ := hom
  have hIn := (hw.ints (by omega) m hm1).at2 (ba w2 (.cells #[.slice (some ⟨g, 0, none⟩) r.length r.length] 39))
  have hown' : w3.ownsRow (Z + 1) 39 1 (.slice a3 (i + 1) c3) (ts.length + 1) (ts.map (·.1) ++ [.slice (some ⟨g, 0, none⟩) r.length r.length]) := by rw [HI.len]; exact hown
  have hW3 := HWA.app hown' hgrow (by simpa using hat) hIn hm2
  have hS3 : Som (Z + 1) (ts ++ [(.slice (some ⟨g, 0, none⟩) r.length r.length, r)]) := HI.som.snoc (by omega)
  have hT3 : TwoB w3 Z cv (.slice a2 i c2) := ((HI.two.gb hg2 hRZ).below (ba w2 _)).gb hgrow (fun e => by have := hob Z e; omega)
  have hR3 : Rdr w3 R T p2 (textR (rs.drop (i + 1))) := (hrd.at (ba w2 _)).gb hgrow (fun e => by have := hob R e; omega)
  refine ⟨hR3.other (by simp; omega) _, hT3.set1 _, hW3.set (by omega) hS3 _, hS3, ?_, ?_, ?_⟩
  · rw [rr_snoc, HI.rrs, List.take_add_one, hr]; rfl
  · rw [List.length_append, HI.len]; rfl
  · have h1 : w1.grownBy w3 (some R) := gb_grow (gb_alloc (gb_trans HI.gb hg2) _) hgrow (fun k e => by have := hob k e; omega)
    exact gb_grow h1 (row := some Z) (gb_set (gb_refl _ _) 1 _) (fun k e => by simp at e; omega)

set_option maxHeartbeats 1000000 in
set_option maxRecDepth 100000 in
theorem tableR_any (R : Nat) (l : List Col) (rs : List (List Int)) (T : ByteArray) (p : Nat) (w : World) (h : Rdr w R T p (textT l rs)) (hok : colE l = 0) (hn : rs.length ≤ 4096) (hrs : ∀ r ∈ rs, RowOk l r) :
    Calls Tryd.prog 26 #[.pointer (some ⟨R, 0, none⟩)] w fun e w' => ∃ cv rv ts, e = .returned (.tuple #[.agg #[cv, rv], .int .i64 0]) ∧ Cols w' w'.heap.size cv l ∧ Rws w' w'.heap.size rv ts ∧ rr ts = rs ∧ w.grownBy w' (some R) ∧ Adr (fun b => w.heap.size ≤ b) cv ∧ AdrR (fun b => w.heap.size ≤ b) rv ts := by
  have HR : Hid (Rdr w R T p (lineT (l.map wordC) ++ textR rs)) := h
  have HRS : Hid (∀ r ∈ rs, RowOk l r) := hrs
  have HC := colE_ok hok
  have HO : Hid (colE l = 0 ∧ Szs l) := ⟨hok, HC.2.2.1⟩
  have h1 : 1 ≤ l.length := HC.1
  have h6 : l.length ≤ 6 := HC.2.1
  have hRl : R < w.heap.size := h.two.lt
  obtain ⟨W, hW⟩ : ∃ W, w.alloc (.cells #[.slice none 0 0, .slice none 0 0] 25) = W := ⟨_, rfl⟩
  have hbW : Below w.heap.size w W := hW ▸ ba _ _
  have kc := columnsR_any R l T p (textR rs) W (HR.out.at hbW) hok
  clear h hok HC hrs
  go_enter Tryd.func26, Tryd.ntmps26
  go_wp2_with fail
  refine kc.mono ?_
  rintro e w1 ⟨cv, p1, rfl, hC1, hA1, hr1, hg1⟩
  obtain ⟨a, c, rfl, hc, hl⟩ := hC1.slice
  have HC1 : Hid (Cols w1 w1.heap.size (.slice a l.length c) l) := hC1
  have HR1 : Hid (Rdr w1 R T p1 (textR rs)) := hr1
  have HA1 : Hid (Adr (fun b => W.heap.size ≤ b) (.slice a l.length c)) := hA1
  clear kc hC1 hA1 hr1
  go_wp2_with fail
  have hz1 : w.heap.size < w1.heap.size := by have := hg1.size; rw [← hW] at this; simp at this; omega
  have hzW : w.heap.size < W.heap.size := by rw [← hW]; simp
  have HAR : Hid (Adr (fun b => (some R : Option Nat) ≠ some b) (.slice a l.length c)) := HA1.out.imp (fun b hb => by simp; omega)
  have HZr : Hid (TwoB w1 w.heap.size (.slice none 0 0) (.slice none 0 0)) := (hW ▸ TwoB.new w _ _ 25 _ rfl : TwoB W w.heap.size (.slice none 0 0) (.slice none 0 0)).gb hg1 (by simp; omega)
  have HGW : Hid (w.grownBy w1 (some R)) := gb_trans (gb_below hbW) hg1
  obtain ⟨i0, hi0, hy0, hy1, hy2⟩ := info_parts info26
  go_loopw [] (fun wr => ∃ (i q : Nat) (ts : List Rw) (a2 : Option Addr) (c2 : Nat), i ≤ rs.length ∧ Hid (TabI w1 R w1.heap.size T (.slice a l.length c) rs i q (.slice a2 i c2) ts wr)) (fun wr => T.size - atOf wr R)
  case atStart => exact ⟨0, p1, [], none, 0, Nat.zero_le _, ⟨HR1.out.at (ba _ _), TwoB.new _ _ _ _ _ rfl, Rwr.nil _ _, Som.nil _, rfl, rfl, gb_below (ba _ _)⟩⟩
  case round =>
    obtain ⟨i, q, ts, a2, c2, hi, HI⟩ := hrel
    have c0 := HI.out.rd.two.c0
    have c1 := HI.out.rd.two.c1
    have hq := HI.out.rd.le
    have hqs := rdr_len HI.out.rd.left HI.out.rd.le
    have t0 := HI.out.two.c0
    have t1 := HI.out.two.c1
    have hzr : w1.heap.size < wr.heap.size := HI.out.two.lt
    by_cases hil : i < rs.length
    · obtain ⟨r, hr⟩ := get_lt hil
      have HRI : Hid (rs[i]? = some r) := hr
      have hrd := HI.out.rd
      rw [textR_cons hr] at hrd hqs
      have hpos := lineR_pos r
      rw [List.length_append] at hqs
      have zq : (q : Int) < (T.size : Int) := by omega
      have HOK : Hid (RowOk l r) := HRS.out r (List.mem_of_getElem? hr)
      have e4 : ((i : Int) == 4096) = false := by simp; omega
      have kr := row_any w1.heap.size R (.slice a l.length c) l T q r (textR (rs.drop (i + 1))) wr.drew (by simp; omega) (hrd.at (Below.refl _ _).drew) ((HC1.out.gb HI.out.gb HAR.out).at (by omega) (Below.refl _ _).drew) HAR.out HOK.out HO.out.2 h1 h6
      clear hr hrd hqs
      go_wp2_with fail
      go_region
      go_wp2_with fail
      refine kr.mono ?_
      rintro e w2 ⟨g, p2, rfl, hw2, hgg, hr2, hg2⟩
      have hgl : wr.heap.size ≤ g := by simpa using hgg
      have hRZ : (some R : Option Nat) ≠ some w1.heap.size := by simp; omega
      have HG2 : Hid (wr.grownBy w2 (some R)) := gb_trans (gb_drew (gb_refl _ _)) hg2
      have HR2 : Hid (Rdr w2 R T p2 (textR (rs.drop (i + 1)))) := hr2
      have HT2 : Hid (TwoB w2 w1.heap.size (.slice a l.length c) (.slice a2 i c2)) := HI.out.two.gb HG2.out hRZ
      have HW2 : Hid (Rwr w2 (w1.heap.size + 1) (.slice a2 i c2) ts) := HI.out.row.gb HI.out.som HG2.out (by omega)
      have HWR : Hid (RowI w2 g r) := hw2
      have hz2 : wr.heap.size ≤ w2.heap.size := HG2.out.size
      have hgl2 : g < w2.heap.size := hw2.lt
      have y0 := HT2.out.c0
      have y1 := HT2.out.c1
      have y2 := HT2.out.f1
      have HO2 : Hid ((w2.alloc (.cells #[.slice (some ⟨g, 0, none⟩) r.length r.length] 39)).ownsRow (w1.heap.size + 1) 39 1 (.slice a2 i c2) i (ts.map (·.1))) := by
        have := owns_below HW2.out.1 (ba w2 (.cells #[.slice (some ⟨g, 0, none⟩) r.length r.length] 39))
        rwa [HI.out.len] at this
      have y3 : (w2.alloc (.cells #[.slice (some ⟨g, 0, none⟩) r.length r.length] 39)).cell? ⟨w1.heap.size, 1, none⟩ = some (.slice a2 i c2) := ((ba w2 _).cell (p := ⟨w1.heap.size, 1, none⟩) (show w1.heap.size < w2.heap.size by omega)).trans y1
      clear kr hw2 hgg hr2 hg2 c0 c1 t0 t1
      go_wp2_with (at_builtin; refine wpList_append_own_at _ rfl _ _ 23 rfl (w1.heap.size + 1) 39 i0 (.slice none 0 0) 1 24 Tryd.underlying23 hi0 hy0 hy1 hy2 rfl (by decide) _ _ _ rfl HO2.out ⟨w2.heap.size, 0, none⟩ 1 1 [.slice (some ⟨g, 0, none⟩) r.length r.length] rfl ?q1 ?q2 ?q3 ?q4 ?q5 ?q6 ?_)
      case q1 => rfl
      case q2 =>
        intro j u hj
        match j, hj with
        | 0, hj => simp at hj; subst hj; simp [go_sem, Addr.add]
      case q3 => intro u hu; simp at hu; subst hu; rfl
      case q4 => simp [maxLen]; omega
      case q5 => omega
      case q6 => simp; omega
      intro v3 w3 hown3 hgrow hnil hat
      obtain ⟨a3, c3, rfl⟩ := owns_slice hown3
      have HF : Hid (TabI w1 R w1.heap.size T (.slice a l.length c) rs (i + 1) p2 (.slice a3 (i + 1) c3) (ts ++ [(.slice (some ⟨g, 0, none⟩) r.length r.length, r)]) (w3.setCell ⟨w1.heap.size, 1, none⟩ (.slice a3 (i + 1) c3))) :=
        tab_more (by omega) HI.out (Nat.le_refl _) HG2.out HR2.out HWR.out hgl HRI.out (by have := HOK.out.len; omega) hown3 hgrow hat
      have hpq : q < p2 := by
        have e1 := rdr_len HI.out.rd.left HI.out.rd.le
        rw [textR_cons HRI.out, List.length_append] at e1
        have e2 := rdr_len HR2.out.left HR2.out.le
        omega
      have HT3 : Hid (TwoB w3 w1.heap.size (.slice a l.length c) (.slice a2 i c2)) := (HT2.out.below (ba w2 _)).gb hgrow (fun e => by have := owns_block HO2.out w1.heap.size e; omega)
      have x0 := HT3.out.c0
      have x1 := HT3.out.c1
      have x2 := HT3.out.f1
      have hqT : p2 ≤ T.size := HR2.out.le
      clear hown3 hgrow hnil hat y3
      go_wp2
      go_roundw
      case rel => exact ⟨i + 1, p2, _, a3, c3, hil, HF⟩
      case measure => rw [atOf_eq HF.out.rd, atOf_eq HI.out.rd]; omega
    · have hie : i = rs.length := by omega
      have hqe : q = T.size := by
        rw [hie, List.drop_length] at hqs
        simpa [textR] using hqs
      have zq : ¬ ((q : Int) < (T.size : Int)) := by omega
      have HIE : Hid (i = rs.length) := hie
      have HZ2 : Hid (TwoB wr w.heap.size (.slice none 0 0) (.slice none 0 0)) := HZr.out.gb HI.out.gb (by simp; omega)
      have HZ3 : Hid (TwoB wr.drew w.heap.size (.slice none 0 0) (.slice none 0 0)) := HZ2.out.below (Below.refl _ _).drew
      have b0 := HZ2.out.c0
      have b1 := HZ2.out.c1
      have b2 := HZ2.out.f0
      have b3 := HZ2.out.f1
      clear hqe hie hqs
      go_wp2_with fail
      go_region
      go_wp2
      obtain ⟨W4, hW4⟩ : ∃ W4, (wr.setCell ⟨w.heap.size, 0, none⟩ (.slice a l.length c)).setCell ⟨w.heap.size, 1, none⟩ (.slice a2 i c2) = W4 := ⟨_, rfl⟩
      have HP4 : TwoB W4 w.heap.size (.slice a l.length c) (.slice a2 i c2) := hW4 ▸ HZ2.out.put _ _
      have HP5 : TwoB W4.drew w.heap.size (.slice a l.length c) (.slice a2 i c2) := HP4.below (Below.refl _ _).drew
      have hg4 : wr.grownBy W4 (some w.heap.size) := hW4 ▸ gb_set (gb_set (gb_refl _ _) 0 _) 1 _
      have hC4 : Cols W4 w1.heap.size (.slice a l.length c) l := (HC1.out.gb HI.out.gb HAR.out).gb hg4 (HA1.out.imp (fun b hb => by simp; omega))
      have hs4 : wr.heap.size ≤ W4.heap.size := hg4.size
      have hR4 : Rwr W4 (w1.heap.size + 1) (.slice a2 i c2) ts := HI.out.row.gb HI.out.som hg4 (by omega)
      have hG4 : w.grownBy W4 (some R) := gb_grow (gb_trans HGW.out HI.out.gb) hg4 (fun k e => by simp at e; omega)
      have hrr : rr ts = rs := by rw [HI.out.rrs, HIE.out, List.take_length]
      have htl : ts.length ≤ 4096 := by rw [HI.out.len, HIE.out]; exact hn
      have hRw := (hR4.keep (w' := W4.drew) (Below.refl _ _).drew).rws (by omega)
      have hCw : Cols W4.drew W4.drew.heap.size (.slice a l.length c) l := (hC4.at (by omega) (Below.refl _ _).drew).mono (by simp; omega)
      rw [hW4]
      exact bodyPost_ret (v := .tuple #[.agg #[.slice a l.length c, .slice a2 i c2], .int .i64 0]) (by simp [results, Tryd.results26, go_sem, HP4.c0, HP4.c1]) rfl ⟨_, _, ts, rfl, hCw, hRw, hrr, gb_drew hG4, HA1.out.imp (fun b hb => by omega), (hR4.adr HI.out.som).imp (fun b hb => by omega)⟩
end Go.Proofs.YtkpjjiomfgkobaaDoor
