import Derived.Test.YtlndlpjadajelaaGreatQl28
import Derived.Test.YtlndlpjadajelaaGreatQl02
import Derived.Maps.AppendAt
import Derived.Laws.BitsLemmas
import Derived.Test.YtlndlpjadajelaaGreatQl40
import Derived.Test.YtlndlpjadajelaaGreatQl41
import Derived.Test.YtlndlpjadajelaaGreatQl20
import Derived.Test.YtlndlpjadajelaaGreatQl22
import Derived.Test.YtlndlpjadajelaaGreatQl23
import Derived.Deep.RegionHeld3
namespace Go.Proofs.YtlndlpjadajelaaGreat.K
open Go.RowKit Go.Proofs.YtlndlpjadajelaaGreat.K.Ds

theorem RowI.intsC {w : World} {g c : Nat} {xs : List Int} (h : RowI w g xs) (hl : xs.length ≤ 9223372036854775807) (hc : xs.length ≤ c) : ∀ m, m < g → Ints w w.heap.size m (.slice (some ⟨g, 0, none⟩) xs.length c) xs :=
  fun m hm => ⟨_, _, rfl, hc, hl, fun _ => ⟨g, 0, rfl, h.lt, by omega, fun i x hi => by rw [Nat.zero_add]; exact h.cells i x hi⟩⟩

/-- one row more -/
theorem pick_row {w3 wr w5 w6 : World} {T g cap n0 gb rc : Nat} {cv : Value} {na : Option Addr} {ncp : Nat} {ns : List Rw} {r : List Int} {l : List Col} (hne : l ≠ [])
    (HT : TwoB wr T cv (.slice na ns.length ncp)) (HC : Cols wr wr.heap.size cv l) (HA : Adr (fun b => w3.heap.size ≤ b ∧ b ≠ T ∧ (Value.slice na ns.length ncp).ownBlock ≠ some b) cv) (HW : Rwr wr w3.heap.size (.slice na ns.length ncp) ns) (HM : Som n0 ns) (HN : (Value.slice na ns.length ncp).ownBlock ≠ some T)
    (hT3 : w3.heap.size ≤ T) (hT : T < n0) (hn0 : n0 ≤ wr.heap.size) (hbr : Below w3.heap.size w3 wr) (hR5 : RowI w5 gb r) (hgb : wr.heap.size ≤ gb) (hrl : r.length ≤ 1073741824) (hrc : r.length ≤ rc) (hb5 : Below wr.heap.size wr w5)
    (hown : w6.ownsRow w3.heap.size 65 1 (.slice (some ⟨g, 0, none⟩) (ns.length + 1) cap) (ns.length + 1) (ns.map (·.1) ++ [.slice (some ⟨gb, 0, none⟩) r.length rc]))
    (hgrow : (w5.alloc (.cells #[.slice (some ⟨gb, 0, none⟩) r.length rc] 65)).grownBy w6 (Value.slice na ns.length ncp).ownBlock)
    (hat : (Value.slice na ns.length ncp).ownBlock = some g ∨ g = w5.heap.size + 1) :
    TwoB (w6.setCell ⟨T, 1, none⟩ (.slice (some ⟨g, 0, none⟩) (ns.length + 1) cap)) T cv (.slice (some ⟨g, 0, none⟩) (ns.length + 1) cap) ∧
    Cols (w6.setCell ⟨T, 1, none⟩ (.slice (some ⟨g, 0, none⟩) (ns.length + 1) cap)) (w6.setCell ⟨T, 1, none⟩ (.slice (some ⟨g, 0, none⟩) (ns.length + 1) cap)).heap.size cv l ∧
    Adr (fun b => w3.heap.size ≤ b ∧ b ≠ T ∧ (Value.slice (some ⟨g, 0, none⟩) (ns.length + 1) cap).ownBlock ≠ some b) cv ∧
    Rwr (w6.setCell ⟨T, 1, none⟩ (.slice (some ⟨g, 0, none⟩) (ns.length + 1) cap)) w3.heap.size (.slice (some ⟨g, 0, none⟩) (ns.length + 1) cap) (ns ++ [(.slice (some ⟨gb, 0, none⟩) r.length rc, r)]) ∧
    Som n0 (ns ++ [(.slice (some ⟨gb, 0, none⟩) r.length rc, r)]) ∧
    (Value.slice (some ⟨g, 0, none⟩) (ns.length + 1) cap).ownBlock ≠ some T ∧
    Below w3.heap.size w3 (w6.setCell ⟨T, 1, none⟩ (.slice (some ⟨g, 0, none⟩) (ns.length + 1) cap)) ∧ n0 ≤ (w6.setCell ⟨T, 1, none⟩ (.slice (some ⟨g, 0, none⟩) (ns.length + 1) cap)).heap.size := by
  have hbU : Below wr.heap.size wr (w5.alloc (.cells #[.slice (some ⟨gb, 0, none⟩) r.length rc] 65)) := bal hb5 _
  have hs5 := hb5.size
  have hs6 := hgrow.size
  simp only [World.size_alloc] at hs6
  have hgT : (Value.slice (some ⟨g, 0, none⟩) (ns.length + 1) cap).ownBlock ≠ some T := by
    intro e
    have e : g = T := by simpa [Value.ownBlock] using e
    rcases hat with h | h
    · exact HN (by rw [h, e])
    · omega
  have hm5 : Som n0 (ns ++ [(.slice (some ⟨gb, 0, none⟩) r.length rc, r)]) := HM.snoc (by omega)
  obtain ⟨m, hm1, hm2, hm3⟩ := own_or2 HW.lt (by omega : w3.heap.size < wr.heap.size)
  have hW := (HW.keep hbU).app hown hgrow (hat.imp (fun h => by rw [h]; rfl) (fun h => by rw [h]; simp [Value.ownBlock])) ((hR5.intsC (by omega) hrc m (by omega)).at2 (ba _ _)) hm3
  have hg2 : w6.grownBy (w6.setCell ⟨T, 1, none⟩ (.slice (some ⟨g, 0, none⟩) (ns.length + 1) cap)) (some T) := gb_set (gb_refl _ _) 1 _
  have hA2 : Adr (fun b => (Value.slice na ns.length ncp).ownBlock ≠ some b) cv := HA.imp fun b h => h.2.2
  refine ⟨((HT.below hbU).gb hgrow HN).set1 _, ?_, ?_, hW.setT hgT (hm5.mono (by omega)) _, hm5, hgT, ?_, by simp; omega⟩
  · have h1 := (HC.at (Nat.le_refl _) hbU).gb hgrow hA2
    exact (h1.gb hg2 (HA.imp fun b h => by simp; exact fun e => h.2.1 e.symm)).mono (by simp; omega)
  · refine (HA.and (HC.adr hne)).imp fun b h => ⟨h.1.1, h.1.2.1, fun e => ?_⟩
    have e : g = b := by simpa [Value.ownBlock] using e
    rcases hat with h2 | h2
    · exact h.1.2.2 (by rw [h2, e])
    · omega
  · exact ((bt hbr hbU).grown hgrow (by simp; have := hbr.size; omega) (owns_block HW.1)).setCell (p := ⟨T, 1, none⟩) hT3 _


theorem and1 (n : Int) : bits .and .i64 n 1 = n % 2 := by
  have h1 : (BitVec.ofInt 64 1).toNat = 2 ^ 1 - 1 := by decide
  have key : (BitVec.ofInt 64 n &&& BitVec.ofInt 64 1).toNat = (n % ((2 ^ 64 : Nat) : Int)).toNat % 2 ^ 1 := by
    rw [BitVec.toNat_and, BitVec.toNat_ofInt, h1, Nat.and_two_pow_sub_one_eq_mod]
  show IntKind.i64.wrap ((BitVec.ofInt 64 n &&& BitVec.ofInt 64 1).toNat : Nat) = n % 2
  rw [key, IntKind.wrap_i64]
  omega
theorem and_bit {s i : Nat} {Q : Int} (hQ : (s : Int) / 2 ^ i = Q) : bits .and .i64 Q 1 = if Sb.bit s i then 1 else 0 := by
  have e : Q = ((s / 2 ^ i : Nat) : Int) := by rw [← hQ, Int.natCast_ediv, Int.natCast_pow]; rfl
  rw [and1, e, Sb.bit]
  by_cases c : s / 2 ^ i % 2 = 1
  · rw [if_pos (by simp [c])]; omega
  · rw [if_neg (by simp [c])]; omega
theorem shr_bd {s i : Nat} {Q : Int} (hs : s ≤ 1073741824) (hQ : (s : Int) / 2 ^ i = Q) : 0 ≤ Q ∧ Q ≤ 1073741824 := by
  have e : Q = ((s / 2 ^ i : Nat) : Int) := by rw [← hQ, Int.natCast_ediv, Int.natCast_pow]; rfl
  have h := Nat.div_le_self s (2 ^ i)
  generalize s / 2 ^ i = N at e h
  omega

/-- what picked leaves -/
def PicP (w : World) (l : List Col) (rs : List (List Int)) (e : Ending) (w' : World) : Prop :=
  ∃ cv rv ts, e = .returned (.agg #[cv, rv]) ∧ Cols w' w'.heap.size cv l ∧ Rws w' w'.heap.size rv ts ∧ rr ts = rs ∧ Below w.heap.size w w'

set_option maxHeartbeats 4000000 in
set_option maxRecDepth 100000 in
theorem picked_any (B : Nat) (cv rv : Value) (l : List Col) (ts : List Rw) (s : Nat) (w : World) (hB : B ≤ w.heap.size) (hp : Cols w B cv l) (hrw : Rws w B rv ts) (hl0 : l ≠ []) (hl6 : l.length ≤ 6) (ht : ts.length ≤ 60) (hr : ∀ t ∈ ts, t.2 ≠ [] ∧ t.2.length ≤ 6) (hs : s ≤ 1073741824) :
    Calls Tryz.prog 105 #[.agg #[cv, rv], .int .i64 (s : Int)] w (PicP w l (Sb.sel (rr ts) s)) := by
  have HP : Hid (Cols w B cv l) := hp
  have HRW : Hid (Rws w B rv ts) := hrw
  have HR : Hid (∀ t ∈ ts, t.2 ≠ [] ∧ t.2.length ≤ 6) := hr
  have HNE : Hid (l ≠ []) := hl0
  obtain ⟨a, c, rfl, hc, hl⟩ := hp.slice
  obtain ⟨a2, c2, rfl, hc2, hl2⟩ := hrw.slice
  obtain ⟨i26, hi26, hz0, hz1, hz2⟩ := info_parts info26
  clear hr hl0
  obtain ⟨W, hW⟩ : ∃ W, (w.alloc (.cells #[.slice a l.length c, .slice a2 ts.length c2] 27)).alloc (.cells #[.slice none 0 0, .slice none 0 0] 27) = W := ⟨_, rfl⟩
  have hbW : Below w.heap.size w W := by rw [← hW]; exact bal (ba _ _) _
  have hsW : W.heap.size = w.heap.size + 1 + 1 := by rw [← hW]; simp
  have HA0 : Hid (TwoB W w.heap.size (.slice a l.length c) (.slice a2 ts.length c2)) := by rw [← hW]; exact (TwoB.new _ _ _ _ _ rfl).below (ba _ _)
  have HR0 : Hid (TwoB W (w.heap.size + 1) (.slice none 0 0) (.slice none 0 0)) := by rw [← hW]; exact TwoB.new _ _ _ _ _ (by simp)
  have kc := cloneC_new B _ l W (by omega) (HP.out.at hB hbW) (by omega)
  have c0 := HA0.out.c0
  go_enter Tryz.func105, Tryz.ntmps105
  go_wp2_with fail
  clear hW
  refine kc.mono ?_
  rintro e w1 ⟨cv1, rfl, hC1, hA1, hb1⟩
  obtain ⟨ca, cc, hcv, _, _⟩ := hC1.slice
  subst hcv
  have hbw1 : Below w.heap.size w w1 := bt hbW hb1
  have hs1 : w.heap.size + 1 < w1.heap.size := by have := hb1.size; omega
  have HAw : Hid (TwoB w1 w.heap.size (.slice a l.length c) (.slice a2 ts.length c2)) := HA0.out.below hb1
  have HRw : Hid (TwoB w1 (w.heap.size + 1) (.slice none 0 0) (.slice none 0 0)) := HR0.out.below hb1
  have d1 : ∀ o, (w1.alloc o).cell? ⟨w.heap.size, 1, none⟩ = some (.slice a2 ts.length c2) := fun o => (HAw.out.below (ba _ o)).c1
  have HC1 : Hid (Cols w1 w1.heap.size (.slice ca l.length cc) l ∧ Adr (fun b => W.heap.size ≤ b) (.slice ca l.length cc)) := ⟨hC1, hA1⟩
  clear kc hC1 hA1 hb1 HA0 HR0 c0
  go_wp2_with fail
  obtain ⟨W1, hW1⟩ : ∃ W1, w1.alloc (.cells #[.slice ca l.length cc, .slice none 0 0] 27) = W1 := ⟨_, rfl⟩
  have hbW1 : Below w1.heap.size w1 W1 := hW1 ▸ ba _ _
  have hsW1 : W1.heap.size = w1.heap.size + 1 := by rw [← hW1]; simp
  have HT0 : Hid (TwoB W1 w1.heap.size (.slice ca l.length cc) (.slice none 0 0)) := by rw [← hW1]; exact TwoB.new _ _ _ _ _ rfl
  have HR1 : Hid (TwoB W1 (w.heap.size + 1) (.slice none 0 0) (.slice none 0 0)) := HRw.out.below hbW1
  have HC0 : Hid (Cols W1 W1.heap.size (.slice ca l.length cc) l) := (HC1.out.1.at (Nat.le_refl _) hbW1).mono (by omega)
  have HAD : Hid (Adr (fun b => w.heap.size + 1 + 1 ≤ b ∧ b < w1.heap.size) (.slice ca l.length cc)) := (HC1.out.2.and (HC1.out.1.adr HNE.out)).imp fun b h => ⟨by rw [← hsW]; exact h.1, h.2⟩
  have hbwW1 : Below w.heap.size w W1 := bt hbw1 hbW1
  rw [hW1]
  clear hW1 d1 HAw HRw hbW1 HC1
  go_loopw [15] (fun sv wr => ∃ (i : Nat) (ms : List Rw) (v : Value), sv = .int .i64 (i : Int) ∧ i ≤ ts.length ∧ ms.length ≤ i ∧ Hid (TwoB wr w1.heap.size (.slice ca l.length cc) v) ∧ Hid (Cols wr wr.heap.size (.slice ca l.length cc) l) ∧ Hid (Adr (fun b => w.heap.size ≤ b ∧ b ≠ w1.heap.size ∧ v.ownBlock ≠ some b) (.slice ca l.length cc)) ∧ Hid (Rwr wr w.heap.size v ms) ∧ Hid (Som W1.heap.size ms) ∧ Hid (v.ownBlock ≠ some w1.heap.size) ∧ Hid (rr ms = Sb.selP (rr ts) s i) ∧ Hid (TwoB wr (w.heap.size + 1) (.slice none 0 0) (.slice none 0 0)) ∧ Hid (∀ g, v.ownBlock = some g → w.heap.size + 1 < g) ∧ Below w.heap.size w wr ∧ W1.heap.size ≤ wr.heap.size) (fun sv _ => ts.length - (intOf sv).toNat)
  case atStart => exact ⟨0, [], .slice none 0 0, rfl, Nat.zero_le _, Nat.le_refl _, HT0, HC0, HAD.out.imp fun b h => ⟨by omega, by omega, by simp [Value.ownBlock]⟩, Rwr.nil _ _, Som.nil _, by simp [Hid, Value.ownBlock], rfl, HR1, (fun g e => by simp [Value.ownBlock] at e), hbwW1, Nat.le_refl _⟩
  case round =>
    obtain ⟨i, ms, v, rfl, hit, hml, HT, HC, HA, HW, HM, HN, HF, HRB, HG, hbr, hzr⟩ := hrel
    obtain ⟨na, ncp, rfl⟩ := HW.out.slice
    by_cases h1 : i < ts.length
    · obtain ⟨b, o, sa, sc, r, rfl, hb, hg, e1, hI⟩ := HRW.out.get hB hbr h1
      have HRR : Hid (r ≠ [] ∧ r.length ≤ 6) := HR.out _ (List.mem_of_getElem? hg)
      have HII : Hid (Ints wr B B (.slice sa r.length sc) r) := hI
      have HG1 : Hid ((rr ts)[i]? = some r) := rr_get hg
      obtain ⟨Q, hQ⟩ : ∃ Q, (s : Int) / 2 ^ i = Q := ⟨_, rfl⟩
      have hQ2 : (s : Int) / 2 ^ ((i : Int)).toNat = Q := by rw [Int.toNat_natCast]; exact hQ
      have hQb := shr_bd hs hQ
      have hand := and_bit hQ
      have hTw : w1.heap.size < wr.heap.size := by omega
      have hBr : B ≤ wr.heap.size := Nat.le_trans hB hbr.size
      have hms : ms.length ≤ 4096 := by omega
      clear hg hI
      by_cases hbt : Sb.bit s i = true
      · rw [hbt, if_pos rfl] at hand
        have HF2 : Hid (Sb.selP (rr ts) s (i + 1) = rr ms ++ [r]) := by
          rw [Hid, Sb.selP, hbt, if_pos rfl, HF.out, List.getD_eq_getElem?_getD, HG1.out]; rfl
        have t1 := HT.out.c1
        have t3 := HT.out.f1
        clear hbt
        go_upto_region 6 with fail
        go_region_law (first
            | (go_simp; go_at_call 140; refine (cloneN_any B B _ r _ ?_ ?_ (by have := HRR.out.2; omega)).mono ?_; (exact hBr); (exact HII.out.at hBr (Below.refl _ _).drew); rintro x4 w5 ⟨v5, he, hor, hb5'⟩; obtain ⟨gb, rc, hv5, hgb', hrc, hR5'⟩ := hor.resolve_left (fun h => HRR.out.1 h.2); subst hv5; obtain rfl : x4 = .returned (.slice (some ⟨gb, 0, none⟩) r.length rc) := he; have hR5 : RowI w5 gb r := hR5'; have hgb : wr.heap.size ≤ gb := hgb'; have hb5 : Below wr.heap.size wr w5 := (bt (Below.refl wr.heap.size wr).drew hb5'); have k1 : w5.cell? ⟨w1.heap.size, 1, none⟩ = some (.slice na ms.length ncp) := (hb5.cell (p := ⟨w1.heap.size, 1, none⟩) hTw).trans t1; have k3 : w5.frozen? ⟨w1.heap.size, 1, none⟩ = false := (hb5.frozen (p := ⟨w1.heap.size, 1, none⟩) hTw).trans t3; have hs5 := hb5.size; have k5 : ∀ O, (w5.alloc O).cell? ⟨w1.heap.size, 1, none⟩ = some (.slice na ms.length ncp) := fun O => ((ba w5 O).cell (p := ⟨w1.heap.size, 1, none⟩) (show w1.heap.size < w5.heap.size by omega)).trans k1; have k6 : ∀ O, (w5.alloc O).frozen? ⟨w1.heap.size, 1, none⟩ = false := fun O => ((ba w5 O).frozen (p := ⟨w1.heap.size, 1, none⟩) (show w1.heap.size < w5.heap.size by omega)).trans k3; go_wp2_with fail)
            | (refine step_append_lies _ rfl _ _ 25 rfl w.heap.size 65 i26 (.slice none 0 0) 1 24 Tryz.underlying25 hi26 hz0 hz1 hz2 rfl (by decide) (.slice na ms.length ncp) ms.length (ms.map (·.1)) rfl ?_ ⟨w5.heap.size, 0, none⟩ 1 1 [.slice (some ⟨gb, 0, none⟩) r.length rc] rfl rfl ?_ ?_ (by decide) ?_ ?_ ?_ (w5.heap.size + 1) ?_ ?_; (exact (HW.out.keep (bal hb5 _)).1); (exact cell_one_new _ _ _); (intro u hu; simp at hu; subst hu; rfl); (simp [maxLen]; omega); (omega); (have := hbr.size; simp; omega); (simp); intro g cap w6 hown hgrow hat hlt; have k7 : w6.cell? ⟨w1.heap.size, 1, none⟩ = some (.slice na ms.length ncp) := hgrow.cell (k5 _) (fun e => HN.out e.symm); have k8 : w6.frozen? ⟨w1.heap.size, 1, none⟩ = false := (World.frozen?_of_block (w := w5.alloc (.cells #[.slice (some ⟨gb, 0, none⟩) r.length rc] 65)) (a := ⟨w1.heap.size, 1, none⟩) (hgrow.block w1.heap.size (by simp; omega) (fun e => HN.out e.symm))).trans (k6 _)))
        all_goals
          have hmore := pick_row HNE.out HT.out HC.out HA.out HW.out HM.out HN.out (by omega) (by omega) hzr hbr hR5 hgb (by have := HRR.out.2; omega) hrc hb5 hown hgrow hat
          obtain ⟨M1, M2, M3, M4, M5, M6, M7, M8⟩ := hmore
          have HF5 : Hid (rr (ms ++ [(.slice (some ⟨gb, 0, none⟩) r.length rc, r)]) = Sb.selP (rr ts) s (i + 1)) := by
            rw [Hid, rr_snoc, HF2.out]
          have hbU : Below wr.heap.size wr (w5.alloc (.cells #[.slice (some ⟨gb, 0, none⟩) r.length rc] 65)) := bal hb5 _
          have HB8 : Hid (TwoB (w6.setCell ⟨w1.heap.size, 1, none⟩ (.slice (some ⟨g, 0, none⟩) (ms.length + 1) cap)) (w.heap.size + 1) (.slice none 0 0) (.slice none 0 0)) := ((HRB.out.below hbU).gb hgrow (fun e => absurd (HG.out _ e) (Nat.lt_irrefl _))).other (p := ⟨w1.heap.size, 1, none⟩) (by show w1.heap.size ≠ _; omega) _
          have HG8 : Hid (∀ x, (Value.slice (some ⟨g, 0, none⟩) (ms.length + 1) cap).ownBlock = some x → w.heap.size + 1 < x) := fun x e => by
            have e : g = x := by simpa [Value.ownBlock] using e
            rcases hat with h | h
            · exact e ▸ HG.out g h
            · have := hb5.size; omega
          obtain ⟨W8, hW8⟩ : ∃ W8, w6.setCell ⟨w1.heap.size, 1, none⟩ (.slice (some ⟨g, 0, none⟩) (ms.length + 1) cap) = W8 := ⟨_, rfl⟩
          rw [hW8] at M1 M2 M4 M7 M8 HB8 ⊢
          have HQ1 : Hid (TwoB W8 w1.heap.size (.slice ca l.length cc) (.slice (some ⟨g, 0, none⟩) (ms.length + 1) cap) ∧ Cols W8 W8.heap.size (.slice ca l.length cc) l ∧ Rwr W8 w.heap.size (.slice (some ⟨g, 0, none⟩) (ms.length + 1) cap) (ms ++ [(.slice (some ⟨gb, 0, none⟩) r.length rc, r)])) := ⟨M1, M2, M4⟩
          have HQ2 : Hid (Adr (fun b => w.heap.size ≤ b ∧ b ≠ w1.heap.size ∧ (Value.slice (some ⟨g, 0, none⟩) (ms.length + 1) cap).ownBlock ≠ some b) (.slice ca l.length cc) ∧ Som W1.heap.size (ms ++ [(.slice (some ⟨gb, 0, none⟩) r.length rc, r)]) ∧ (Value.slice (some ⟨g, 0, none⟩) (ms.length + 1) cap).ownBlock ≠ some w1.heap.size) := ⟨M3, M5, M6⟩
          clear M1 M2 M3 M4 M5 M6 hW8 k1 k3 k5 k6 k7 k8 hown hgrow hat hlt hb5 hb5' hR5 hR5' t1 t3 hQ hQ2 hand hbU
          go_wp2
          go_roundw
          case rel => exact ⟨i + 1, (ms ++ [((Value.slice (some ⟨gb, 0, none⟩) r.length rc, r) : Rw)] : List Rw), _, by go_num, h1, by simp; omega, HQ1.out.1, HQ1.out.2.1, HQ2.out.1, HQ1.out.2.2, HQ2.out.2.1, HQ2.out.2.2, HF5, HB8, HG8, M7, M8⟩
          case measure => simp [intOf]; omega
      · have hbt : Sb.bit s i = false := by simpa using hbt
        rw [hbt] at hand
        simp only [Bool.false_eq_true, if_false] at hand
        have HF2 : Hid (rr ms = Sb.selP (rr ts) s (i + 1)) := by
          rw [Hid, Sb.selP, hbt, HF.out]; simp
        clear hbt
        go_wp2
        go_roundw
        case rel => exact ⟨i + 1, ms, _, by go_num, h1, by omega, HT, HC, HA, HW, HM, HN, HF2, HRB, HG, hbr, hzr⟩
        case measure => simp [intOf]; omega
    · have hii : i = ts.length := by omega
      have HFF : Hid (rr ms = Sb.sel (rr ts) s) := by rw [Hid, HF.out, Sb.sel, rr_len, hii]
      have t0 := HT.out.c0
      have t1 := HT.out.c1
      have v0 := HRB.out.c0
      have v1 := HRB.out.c1
      have v2 := HRB.out.f0
      have v3 := HRB.out.f1
      obtain ⟨W7, hW7⟩ : ∃ W7, (wr.setCell ⟨w.heap.size + 1, 0, none⟩ (.slice ca l.length cc)).setCell ⟨w.heap.size + 1, 1, none⟩ (.slice na ms.length ncp) = W7 := ⟨_, rfl⟩
      have hg7 : wr.grownBy W7 (some (w.heap.size + 1)) := by rw [← hW7]; exact gb_set (gb_set (gb_refl _ _) 0 _) 1 _
      have HRV : Rwr W7 w.heap.size (.slice na ms.length ncp) ms := by
        rw [← hW7]
        have hno : (Value.slice na ms.length ncp).ownBlock ≠ some (w.heap.size + 1) := fun e => absurd (HG.out _ e) (Nat.lt_irrefl _)
        exact (HW.out.setT hno (HM.out.mono (by omega)) _).setT hno (HM.out.mono (by omega)) _
      have HCV : Cols W7 W7.heap.size (.slice ca l.length cc) l := (HC.out.gb hg7 (HAD.out.imp fun b h => by simp; omega)).mono hg7.size
      have HZ := HRB.out.put (.slice ca l.length cc) (.slice na ms.length ncp)
      have hb7 : Below w.heap.size w W7 := by rw [← hW7]; exact bs (bs hbr (by dsimp only; omega) _) (by dsimp only; omega) _
      rw [hW7] at HZ
      have HRES : Hid (PicP w l (Sb.sel (rr ts) s) (.returned (.agg #[.slice ca l.length cc, .slice na ms.length ncp])) W7) := ⟨_, _, ms, rfl, HCV, HRV.rws (by omega), HFF.out, hb7⟩
      have HZ7 : Hid (W7.cell? ⟨w.heap.size + 1, 0, none⟩ = some (.slice ca l.length cc) ∧ W7.cell? ⟨w.heap.size + 1, 1, none⟩ = some (.slice na ms.length ncp)) := ⟨HZ.c0, HZ.c1⟩
      have HW7 : Hid ((wr.setCell ⟨w.heap.size + 1, 0, none⟩ (.slice ca l.length cc)).setCell ⟨w.heap.size + 1, 1, none⟩ (.slice na ms.length ncp) = W7) := hW7
      clear HZ HRV HCV hW7 hg7 hb7
      go_wp2
      rw [HW7.out]
      exact bodyPost_ret (v := .agg #[.slice ca l.length cc, .slice na ms.length ncp]) (by simp [results, Tryz.results105, go_sem, HZ7.out.1, HZ7.out.2]) rfl HRES.out

end Go.Proofs.YtlndlpjadajelaaGreat.K

namespace Go.Proofs.YtlndlpjadajelaaGreat.K
open Go.RowKit Go.Proofs.YtlndlpjadajelaaGreat.K.Ds
theorem Qm.mono {w : World} {B B' : Nat} (hB : B ≤ B') (q : Qu) : ∀ {v0 v1 v2 v3 v4 v5 : Value}, Qm w B q v0 v1 v2 v3 v4 v5 → Qm w B' q v0 v1 v2 v3 v4 v5 := by
  induction q with
  | none => intro v0 v1 v2 v3 v4 v5 h; exact h
  | node k c lo hi wh n x y ihx ihy =>
    rintro v0 v1 v2 v3 v4 v5 ⟨h0, h1, h2, h3, hc, hw, a, cap, h5, hn, hm, hk⟩
    refine ⟨h0, h1, h2, h3, hc, hw.mono hB, a, cap, h5, hn, hm, fun g1 g2 => ?_⟩
    obtain ⟨b, o, ha, hb, ⟨u0, u1, u2, u3, u4, u5, hx, hq⟩, h2⟩ := hk g1 g2
    refine ⟨b, o, ha, by omega, ⟨u0, u1, u2, u3, u4, u5, hx, ihx hq⟩, fun g => ?_⟩
    obtain ⟨u0, u1, u2, u3, u4, u5, hx, hq⟩ := h2 g
    exact ⟨u0, u1, u2, u3, u4, u5, hx, ihy hq⟩
end Go.Proofs.YtlndlpjadajelaaGreat.K
namespace Go.Proofs.YtlndlpjadajelaaGreat
open Go.RowKit Go.Proofs.YtlndlpjadajelaaGreat.Ds

/-! ### what may come through a sample -/
theorem ints_K {w : World} {B nb : Nat} {v : Value} {xs : List Int} (h : K.Ints w B nb v xs) (hl : xs.length ≤ 1073741824) : Ints w B nb v xs := by
  obtain ⟨a, c, hv, hc, _, hx⟩ := h
  exact ⟨a, c, hv, hc, hl, hx⟩
theorem run_len {w : World} {B : Nat} {l : List K.Ds.Col} {rs : List (List Int)} {q : K.Ds.Qu} {v0 v1 v2 v3 v4 v5 : Value} (hq : K.Qm w B q v0 v1 v2 v3 v4 v5) {xs : List Int} {e : Int} (h : K.runV (K.runT l rs q) = (xs, e)) : xs.length ≤ 4096 := by
  unfold K.runT at h
  split at h
  · rename_i h0
    obtain ⟨hce, hle, _⟩ := K.Ds.wroE_ok h0
    split at h
    · rename_i b hb
      simp only [K.runV, Prod.mk.injEq] at h
      obtain ⟨rfl, _⟩ := h
      have hs := (K.Ds.colE_ok hce).2.2.1
      obtain ⟨h1, h2⟩ := K.ans_ok hs hle q 1 _ hb hq.ne
      have h3 := K.Ds.bnd_bd hs q 1 _ hb
      unfold K.Ds.BOk at h3
      omega
    · simp only [K.runV, Prod.mk.injEq] at h
      obtain ⟨rfl, _⟩ := h
      simp
  · simp only [K.runV, Prod.mk.injEq] at h
    obtain ⟨rfl, _⟩ := h
    simp

/-- what may be told of the rows that are looked at -/
def thT (u d lo hi : Int) (l : List K.Ds.Col) (q : K.Ds.Qu) (R : List (List Int)) : List Pt × Int :=
  if (K.runV (K.runT l R q)).2 ≠ 0 then ([], (K.runV (K.runT l R q)).2)
  else if (K.runV (K.runT l R q)).1 = [] then ([], 8)
  else hideT u d lo hi ((K.runV (K.runT l R q)).1.headD 0)
/-- a subset's code -/
def cod (x : List Int) : Nat := (x.headD 0).toNat
def smpT (pu pd u d lo hi : Int) (l : List K.Ds.Col) (rs : List (List Int)) (q : K.Ds.Qu) : List Pt × Int :=
  if K.Ds.wroE l rs ≠ 0 then ([], K.Ds.wroE l rs)
  else if (Sb.subT pu pd rs.length).2 ≠ 0 then ([], (Sb.subT pu pd rs.length).2)
  else chT (fun x => thT u d lo hi l q (Sb.sel rs (cod x))) (Sb.subT pu pd rs.length).1

/-- what Sampled keeps in boxes: a loss, its two ends, a question -/
structure Env (W : World) (N : Nat) (u d lo hi : Int) (v0 v1 v2 v3 v4 v5 : Value) : Prop where
  r0 : K.Cl W (N + 1) 0 (.int .i64 u)
  r1 : K.Cl W (N + 1) 1 (.int .i64 d)
  lo : K.Cl W (N + 2) 0 (.int .i64 lo)
  hi : K.Cl W (N + 3) 0 (.int .i64 hi)
  a : K.Bx W (N + 5) v0 v1 v2 v3 v4 v5
theorem Env.at {W W' : World} {N : Nat} {u d lo hi : Int} {v0 v1 v2 v3 v4 v5 : Value} (h : Env W N u d lo hi v0 v1 v2 v3 v4 v5) (hb : Below W.heap.size W W') : Env W' N u d lo hi v0 v1 v2 v3 v4 v5 :=
  ⟨h.r0.at hb, h.r1.at hb, h.lo.at hb, h.hi.at hb, h.a.at hb⟩
abbrev envF (N : Nat) : Value := .func (.func 50) #[] #[.pointer (some ⟨N + 5, 0, none⟩), .pointer (some ⟨N + 1, 0, none⟩), .pointer (some ⟨N + 2, 0, none⟩), .pointer (some ⟨N + 3, 0, none⟩)]

set_option maxHeartbeats 2000000 in
set_option maxRecDepth 100000 in
theorem samp1_any (N : Nat) (u d lo hi : Int) (cv tv v0 v1 v2 v3 v4 v5 : Value) (l : List K.Ds.Col) (ts : List K.Rw) (q : K.Ds.Qu) (w : World) (hp : K.Cols w w.heap.size cv l) (hr : K.Rws w w.heap.size tv ts) (hq : K.Qm w w.heap.size q v0 v1 v2 v3 v4 v5) (he : Env w N u d lo hi v0 v1 v2 v3 v4 v5)
    (l' : List Pt) (er : Int) (hA : thT u d lo hi l q (K.rr ts) = (l', er)) :
    Calls Tryz.prog 50 #[.agg #[cv, tv], .pointer (some ⟨N + 5, 0, none⟩), .pointer (some ⟨N + 1, 0, none⟩), .pointer (some ⟨N + 2, 0, none⟩), .pointer (some ⟨N + 3, 0, none⟩)] w (DistP w l' er) := by
  have HE : Hid (Env w N u d lo hi v0 v1 v2 v3 v4 v5) := he
  obtain ⟨⟨xs, e1⟩, hx⟩ : ∃ y, K.runV (K.runT l (K.rr ts) q) = y := ⟨_, rfl⟩
  have hxl := run_len hq hx
  unfold thT at hA
  rw [hx] at hA
  simp only at hA
  obtain ⟨W, hW⟩ : ∃ W, w.alloc (.cells #[cv, tv] 27) = W := ⟨_, rfl⟩
  have hbW : Below w.heap.size w W := hW ▸ ba _ _
  have hT0 : K.Cl W w.heap.size 0 cv := hW ▸ K.Cl.new _ 27 _ _ rfl rfl
  have hT1 : K.Cl W w.heap.size 1 tv := hW ▸ K.Cl.new _ 27 _ _ rfl rfl
  have HE1 : Hid (Env W N u d lo hi v0 v1 v2 v3 v4 v5) := HE.out.at hbW
  have kr := K.askRun_any l ts q W w.heap.size cv tv v0 v1 v2 v3 v4 v5 xs e1 hbW.size (hp.at (Nat.le_refl _) hbW) (hr.at (Nat.le_refl _) hbW) (hq.at (Nat.le_refl _) hbW) hx
  obtain ⟨la, lc, rfl, _⟩ := hp.slice
  obtain ⟨ra, rc, rfl, _⟩ := hr.slice
  obtain ⟨kk, kc, kl, kh, ka, kn, kd, kb, km, kp, rfl, rfl, rfl, rfl, rfl, rfl⟩ := hq.shape
  have t0 := hT0.c
  have t1 := hT1.c
  have m0 := HE1.out.a.a0.c
  have m1 := HE1.out.a.a1.c
  have m2 := HE1.out.a.a2.c
  have m3 := HE1.out.a.a3.c
  have m4 := HE1.out.a.a4.c
  have m5 := HE1.out.a.a5.c
  clear he hx HE
  go_enter Tryz.func50, Tryz.ntmps50
  go_wp2_with fail
  clear hW
  refine kr.mono ?_
  rintro e w1 ⟨xa, xc, rfl, hI1, hb1⟩
  have hbw1 := bt hbW hb1
  have HE2 : Hid (Env w1 N u d lo hi (.int .i64 kk) (.string kc) (.int .i64 kl) (.int .i64 kh) (.slice ka kn kd) (.slice kb km kp)) := HE1.out.at hb1
  clear t0 t1 m0 m1 m2 m3 m4 m5 kr HE1 hb1 hT0 hT1
  by_cases h1 : e1 = 0
  · subst h1
    rw [if_neg (by simp)] at hA
    cases xs with
    | nil =>
      simp only [if_true, Prod.mk.injEq] at hA
      obtain ⟨rfl, rfl⟩ := hA
      go_wp2
      exact bodyPost_ret (v := .tuple #[.slice none 0 0, .int .i64 8]) (by simp [results, Tryz.results50, go_sem]) rfl (DistP.err hbw1)
    | cons x xs =>
      rw [if_neg (by simp)] at hA
      simp only [List.headD_cons] at hA
      obtain ⟨a', c', hv, hc, _, hx⟩ := hI1
      simp only [Value.slice.injEq] at hv
      obtain ⟨rfl, _, rfl⟩ := hv
      obtain ⟨b, o, rfl, hb, _, hcell⟩ := hx (by simp)
      have c0 := hcell 0 x rfl
      rw [Nat.add_zero] at c0
      have hn1 : (((x :: xs).length : Nat) : Int) ≠ 0 := by simp; omega
      have hlen : (x :: xs).length = xs.length + 1 := rfl
      have r0 := HE2.out.r0.c
      have r1 := HE2.out.r1.c
      have s0 := HE2.out.lo.c
      have s1 := HE2.out.hi.c
      have kh := hide_fr u d lo hi x l' er hA
      rw [hlen]
      have hz : ((((xs.length + 1 : Nat)) : Int) == 0) = false := by simp; omega
      clear hA hcell hx hn1
      have l0 := HE2.out.r0.lt
      have l1 := HE2.out.lo.lt
      have l2 := HE2.out.hi.lt
      go_wp2_with fail
      go_region_held3 (fun w' => w'.cell? ⟨N + 1, 0, none⟩ = some (.int .i64 u) ∧ w'.cell? ⟨N + 1, 1, none⟩ = some (.int .i64 d) ∧ w'.cell? ⟨N + 2, 0, none⟩ = some (.int .i64 lo) ∧ w'.cell? ⟨N + 3, 0, none⟩ = some (.int .i64 hi) ∧ w'.cell? ⟨b, o, none⟩ = some (.int .i64 x))
        ((go_split_ands; refine ⟨?_, ?_, ?_, ?_, ?_⟩ <;> first | assumption | (simp [go_sem, *]; done)))
        ((go_at_call 34; refine (kh _).mono ?_; rintro x4 w4 ⟨v4, us, rfl, k1, k2, k3, k4⟩; obtain ⟨a2, c2, hv4⟩ := k2.slice; subst hv4; obtain ⟨hc4, hf4⟩ := bcell k3; have j1 : w4.cell? ⟨N + 1, 0, none⟩ = some (.int .i64 u) := (hc4 _ _ l0).trans r0; have j2 : w4.cell? ⟨N + 1, 1, none⟩ = some (.int .i64 d) := (hc4 _ _ l0).trans r1; have j3 : w4.cell? ⟨N + 2, 0, none⟩ = some (.int .i64 lo) := (hc4 _ _ l1).trans s0; have j4 : w4.cell? ⟨N + 3, 0, none⟩ = some (.int .i64 hi) := (hc4 _ _ l2).trans s1; have j5 : w4.cell? ⟨b, o, none⟩ = some (.int .i64 x) := (hc4 _ _ hb).trans c0; clear hc4 hf4))
      have HZ : Hid (DistP w l' er (.returned (.tuple #[.slice a2 us.length c2, .int .i64 er])) w4) := ⟨_, us, rfl, k1, k2.mono hbw1.size, bt hbw1 (bt (Below.refl _ _).drew k3), k4.mono hbw1.size⟩
      clear k1 k2 k3 k4 kh
      go_wp2
      exact bodyPost_ret (v := .tuple #[.slice a2 us.length c2, .int .i64 er]) (by simp [results, Tryz.results50, go_sem]) rfl HZ.out
  · have h5 : (e1 == 0) = false := by simpa using h1
    have h6 : (e1 != 0) = true := by simpa using h1
    rw [if_pos h1] at hA
    simp only [Prod.mk.injEq] at hA
    obtain ⟨rfl, rfl⟩ := hA
    go_wp2
    exact bodyPost_ret (v := .tuple #[.slice none 0 0, .int .i64 e1]) (by simp [results, Tryz.results50, go_sem]) rfl (DistP.err hbw1)

/-- what is handed to picked: the table; what it is of a subset -/
structure Tab (W : World) (M : Nat) (B : Nat) (cv tv : Value) (l : List K.Ds.Col) (ts : List K.Rw) : Prop where
  b0 : K.Cl W M 0 cv
  b1 : K.Cl W M 1 tv
  cols : K.Cols W B cv l
  rows : K.Rws W B tv ts
  le : B ≤ W.heap.size
theorem Tab.at {W W' : World} {M B : Nat} {cv tv : Value} {l : List K.Ds.Col} {ts : List K.Rw} (h : Tab W M B cv tv l ts) (hb : Below W.heap.size W W') : Tab W' M B cv tv l ts :=
  ⟨h.b0.at hb, h.b1.at hb, h.cols.at h.le hb, h.rows.at h.le hb, Nat.le_trans h.le hb.size⟩

set_option maxHeartbeats 2000000 in
set_option maxRecDepth 100000 in
theorem thr1_any (N M P B C : Nat) (u d lo hi : Int) (x cv tv v0 v1 v2 v3 v4 v5 : Value) (l : List K.Ds.Col) (ts : List K.Rw) (q : K.Ds.Qu) (s : Nat) (w : World) (hl0 : l ≠ []) (hl6 : l.length ≤ 6) (ht : ts.length ≤ 60) (hr : ∀ t ∈ ts, t.2 ≠ [] ∧ t.2.length ≤ 6) (hs : s ≤ 1073741824)
    (hT : Tab w M B cv tv l ts) (hf : K.Cl w P 0 (envF N)) (hq : K.Qm w w.heap.size q v0 v1 v2 v3 v4 v5) (he : Env w N u d lo hi v0 v1 v2 v3 v4 v5) (hC : C ≤ w.heap.size) (hx : Ints w C C x [(s : Int)]) (l' : List Pt) (er : Int) (hA : thT u d lo hi l q (Sb.sel (K.rr ts) s) = (l', er)) :
    Calls Tryz.prog 104 #[x, .pointer (some ⟨P, 0, none⟩), .pointer (some ⟨M, 0, none⟩)] w (DistP w l' er) := by
  have HT : Hid (Tab w M B cv tv l ts) := hT
  have HQ : Hid (K.Qm w w.heap.size q v0 v1 v2 v3 v4 v5) := hq
  have HE : Hid (Env w N u d lo hi v0 v1 v2 v3 v4 v5) := he
  have HA : Hid (thT u d lo hi l q (Sb.sel (K.rr ts) s) = (l', er)) := hA
  obtain ⟨la, lc, rfl, _⟩ := hT.cols.slice
  obtain ⟨ra, rc, rfl, _⟩ := hT.rows.slice
  obtain ⟨a', c', rfl, hc, _, hxx⟩ := hx
  obtain ⟨b, o, rfl, hb, _, hcell⟩ := hxx (by simp)
  have c0 := hcell 0 _ rfl
  rw [Nat.add_zero] at c0
  have m0 := hT.b0.c
  have m1 := hT.b1.c
  have f0 := hf.c
  have lb : b < w.heap.size := by omega
  have lM := hT.b0.lt
  have lP := hf.lt
  have kp : ∀ W, Below w.heap.size w W → Calls Tryz.prog 105 #[.agg #[.slice la l.length lc, .slice ra ts.length rc], .int .i64 (s : Int)] W (K.PicP W l (Sb.sel (K.rr ts) s)) := fun W hW => K.picked_any B _ _ l ts s W (Nat.le_trans HT.out.le hW.size) (HT.out.cols.at HT.out.le hW) (HT.out.rows.at HT.out.le hW) hl0 hl6 ht hr hs
  have ks : ∀ W cv' tv' ts', Below w.heap.size w W → K.Cols W W.heap.size cv' l → K.Rws W W.heap.size tv' ts' → K.rr ts' = Sb.sel (K.rr ts) s → Calls Tryz.prog 50 #[.agg #[cv', tv'], .pointer (some ⟨N + 5, 0, none⟩), .pointer (some ⟨N + 1, 0, none⟩), .pointer (some ⟨N + 2, 0, none⟩), .pointer (some ⟨N + 3, 0, none⟩)] W (DistP W l' er) := fun W cv' tv' ts' hW h1 h2 h3 =>
    samp1_any N u d lo hi cv' tv' v0 v1 v2 v3 v4 v5 l ts' q W h1 h2 (K.Qm.mono hW.size q (HQ.out.at (Nat.le_refl _) hW)) (HE.out.at hW) l' er (by rw [h3]; exact HA.out)
  clear hT hq he hA hf hr hcell hxx
  go_enter Tryz.func104, Tryz.ntmps104
  go_wp2_with fail
  go_region_held3 (fun w' => w'.cell? ⟨P, 0, none⟩ = some (envF N) ∧ w'.cell? ⟨M, 0, none⟩ = some (.slice la l.length lc) ∧ w'.cell? ⟨M, 1, none⟩ = some (.slice ra ts.length rc) ∧ w'.cell? ⟨b, o, none⟩ = some (.int .i64 (s : Int)))
    ((go_split_ands; refine ⟨?_, ?_, ?_, ?_⟩ <;> first | assumption | (simp [go_sem, *]; done)))
    (first
      | (go_at_call 50; refine (ks _ _ _ ts5 (bt (Below.refl w.heap.size w).drew hb5) hC5 hR5 hE5).mono ?_; rintro x6 w6 ⟨v6, us, rfl, k1, k2, k3, k4⟩; obtain ⟨a2, c2, hv6⟩ := k2.slice; subst hv6; obtain ⟨hc6, hf6⟩ := bcell (bt hb5 k3); have i1 : w6.cell? ⟨P, 0, none⟩ = some (envF N) := (hc6 _ _ lP).trans f0; have i2 : w6.cell? ⟨M, 0, none⟩ = some (.slice la l.length lc) := (hc6 _ _ lM).trans m0; have i3 : w6.cell? ⟨M, 1, none⟩ = some (.slice ra ts.length rc) := (hc6 _ _ lM).trans m1; have i4 : w6.cell? ⟨b, o, none⟩ = some (.int .i64 (s : Int)) := (hc6 _ _ lb).trans c0; clear hc6 hf6)
      | (go_at_call 105; refine (kp _ (Below.refl w.heap.size w).drew).mono ?_; rintro x5 w5 ⟨cv5, tv5, ts5, rfl, hC5, hR5, hE5, hb5⟩; obtain ⟨la5, lc5, hv51, _⟩ := hC5.slice; subst hv51; obtain ⟨ra5, rc5, hv52, _⟩ := hR5.slice; subst hv52; obtain ⟨hc5, hf5⟩ := bcell hb5; have j1 : w5.cell? ⟨P, 0, none⟩ = some (envF N) := (hc5 _ _ lP).trans f0; have j2 : w5.cell? ⟨M, 0, none⟩ = some (.slice la l.length lc) := (hc5 _ _ lM).trans m0; have j3 : w5.cell? ⟨M, 1, none⟩ = some (.slice ra ts.length rc) := (hc5 _ _ lM).trans m1; have j4 : w5.cell? ⟨b, o, none⟩ = some (.int .i64 (s : Int)) := (hc5 _ _ lb).trans c0; clear hc5 hf5))
  have HZ : Hid (DistP w l' er (.returned (.tuple #[.slice a2 us.length c2, .int .i64 er])) w6) := by
    have hbw5 : Below w.heap.size w w5 := bt (Below.refl _ _).drew hb5
    exact ⟨_, us, rfl, k1, k2.mono hbw5.size, bt hbw5 k3, k4.mono hbw5.size⟩
  clear k1 k2 k3 k4
  go_wp2
  exact bodyPost_ret (v := .tuple #[.slice a2 us.length c2, .int .i64 er]) (by simp [results, Tryz.results104, go_sem]) rfl HZ.out
end Go.Proofs.YtlndlpjadajelaaGreat
