import Derived.Test.YtkpjjiomfgkobaaDoorTab
namespace Go.Proofs.YtkpjjiomfgkobaaDoor
open Go.RowKit Go.Proofs.YtkpjjiomfgkobaaDoor.Ds

set_option maxHeartbeats 1000000 in
set_option maxRecDepth 100000 in
theorem read_any (l : List Col) (rs : List (List Int)) (w : World) (hok : colE l = 0) (hn : rs.length ≤ 4096) (hrs : ∀ r ∈ rs, RowOk l r) (T : ByteArray) (hT : T.data.toList = textT l rs) (hsz : T.size ≤ 65536) :
    Calls Tryd.prog 7 #[.string T] w fun e w' => ∃ cv rv ts, e = .returned (.tuple #[.agg #[cv, rv], .agg #[.int .i64 0, .int .i64 0]]) ∧ Cols w' w'.heap.size cv l ∧ Rws w' w'.heap.size rv ts ∧ rr ts = rs ∧ Below w.heap.size w w' := by
  have HT : Hid (T.data.toList = textT l rs) := hT
  have HRS : Hid (∀ r ∈ rs, RowOk l r) := hrs
  have HOK : Hid (colE l = 0) := hok
  have zs : ¬ ((65536 : Int) < (T.size : Int)) := by omega
  clear hT hrs hok
  obtain ⟨W, hW⟩ : ∃ W, ((w.alloc (.cells #[.slice none 0 0, .slice none 0 0] 25)).alloc (.cells #[.int .i64 0, .int .i64 0] 30)).alloc (.cells #[.string T, .int .i64 0] 65) = W := ⟨_, rfl⟩
  have hbW : Below w.heap.size w W := hW ▸ bal (bal (ba _ _) _) _
  have hzW : W.heap.size = w.heap.size + 3 := by rw [← hW]; simp
  have HRd : Hid (Rdr W (w.heap.size + 1 + 1) T 0 (textT l rs)) := ⟨hW ▸ TwoB.new _ _ _ 65 _ (by simp), by rw [List.drop_zero]; exact HT.out, Nat.zero_le _, hsz⟩
  have HZa : Hid (TwoB W w.heap.size (.slice none 0 0) (.slice none 0 0)) := hW ▸ ((TwoB.new w _ _ 25 _ rfl).below (ba _ _)).below (ba _ _)
  have HZb : Hid (TwoB W (w.heap.size + 1) (.int .i64 0) (.int .i64 0)) := hW ▸ (TwoB.new _ _ _ 30 _ (by simp)).below (ba _ _)
  have HZW : Hid (W.heap.size = w.heap.size + 3) := hzW
  have kt := tableR_any (w.heap.size + 1 + 1) l rs T 0 W HRd.out HOK.out hn HRS.out
  clear hzW
  go_enter Tryd.func7, Tryd.ntmps7
  go_wp2_with fail
  refine kt.mono ?_
  rintro e w1 ⟨cv, rv, ts, rfl, hC, hR, hrr, hg, hAc, hAr⟩
  obtain ⟨a, c, rfl, hc, hl⟩ := hC.slice
  obtain ⟨a2, c2, rfl, hc2, hl2⟩ := hR.slice
  have HC : Hid (Cols w1 w1.heap.size (.slice a l.length c) l) := hC
  have HR : Hid (Rws w1 w1.heap.size (.slice a2 ts.length c2) ts) := hR
  have HRR : Hid (rr ts = rs) := hrr
  have HAc : Hid (Adr (fun b => w.heap.size + 3 ≤ b) (.slice a l.length c)) := hAc.imp (fun b hb => by have := HZW.out; omega)
  have HAr : Hid (AdrR (fun b => w.heap.size + 3 ≤ b) (.slice a2 ts.length c2) ts) := hAr.imp (fun b hb => by have := HZW.out; omega)
  have HA1 : Hid (TwoB w1 w.heap.size (.slice none 0 0) (.slice none 0 0)) := HZa.out.gb hg (by simp; omega)
  have HB1 : Hid (TwoB w1 (w.heap.size + 1) (.int .i64 0) (.int .i64 0)) := HZb.out.gb hg (by simp)
  have hb1 : Below w.heap.size w w1 := ⟨hg.os.trans hbW.os, hg.tape.trans hbW.tape, hg.output.trans hbW.output, Nat.le_trans hbW.size hg.size, fun k hk => (hg.block k (by have := HZW.out; omega) (by simp; omega)).trans (hbW.block k hk)⟩
  obtain ⟨V, hV⟩ : ∃ V, w1.alloc (.cells #[.slice a l.length c, .slice a2 ts.length c2] 25) = V := ⟨_, rfl⟩
  have hbV : Below w1.heap.size w1 V := hV ▸ ba _ _
  have HVt : Hid (TwoB V w1.heap.size (.slice a l.length c) (.slice a2 ts.length c2)) := hV ▸ TwoB.new w1 _ _ 25 _ rfl
  have HAV : Hid (TwoB V w.heap.size (.slice none 0 0) (.slice none 0 0)) := HA1.out.below hbV
  have HBV : Hid (TwoB V (w.heap.size + 1) (.int .i64 0) (.int .i64 0)) := HB1.out.below hbV
  have v0 := HVt.out.c0
  have v1 := HVt.out.c1
  have a0 := HAV.out.c0
  have a1 := HAV.out.c1
  have a3 := HAV.out.f0
  have a4 := HAV.out.f1
  have b0 := HBV.out.c0
  have b1 := HBV.out.c1
  have b3 := HBV.out.f0
  have b4 := HBV.out.f1
  clear kt hC hR hrr hg hAc hAr
  go_wp2
  obtain ⟨V2, hV2⟩ : ∃ V2, (V.setCell ⟨w.heap.size, 0, none⟩ (.slice a l.length c)).setCell ⟨w.heap.size, 1, none⟩ (.slice a2 ts.length c2) = V2 := ⟨_, rfl⟩
  rw [hV2]
  obtain ⟨V4, hV4⟩ : ∃ V4, (V2.setCell ⟨w.heap.size + 1, 0, none⟩ (.int .i64 0)).setCell ⟨w.heap.size + 1, 1, none⟩ (.int .i64 0) = V4 := ⟨_, rfl⟩
  rw [hV4]
  have g2 : V.grownBy V2 (some w.heap.size) := hV2 ▸ gb_set (gb_set (gb_refl _ _) 0 _) 1 _
  have g4 : V2.grownBy V4 (some (w.heap.size + 1)) := hV4 ▸ gb_set (gb_set (gb_refl _ _) 0 _) 1 _
  have hs2 := g2.size
  have hs4 := g4.size
  have hsV := hbV.size
  have HP2 : TwoB V2 w.heap.size (.slice a l.length c) (.slice a2 ts.length c2) := hV2 ▸ HAV.out.put _ _
  have HP4 : TwoB V4 w.heap.size (.slice a l.length c) (.slice a2 ts.length c2) := HP2.gb g4 (by simp)
  have HQ2 : TwoB V2 (w.heap.size + 1) (.int .i64 0) (.int .i64 0) := HBV.out.gb g2 (by simp)
  have HQ4 : TwoB V4 (w.heap.size + 1) (.int .i64 0) (.int .i64 0) := hV4 ▸ HQ2.put _ _
  have hC4 : Cols V4 V4.heap.size (.slice a l.length c) l := ((((HC.out.at (Nat.le_refl _) hbV).gb g2 (HAc.out.imp (fun b hb => by simp; omega))).gb g4 (HAc.out.imp (fun b hb => by simp; omega)))).mono (by omega)
  have hR4 : Rws V4 V4.heap.size (.slice a2 ts.length c2) ts := ((((HR.out.at (Nat.le_refl _) hbV).gb g2 (HAr.out.imp (fun b hb => by simp; omega))).gb g4 (HAr.out.imp (fun b hb => by simp; omega)))).mono (by omega)
  have hbF : Below w.heap.size w V4 := by
    have e := (hb1.trans (hbV.mono (by have := hb1.size; omega)))
    refine ⟨(g4.os.trans g2.os).trans e.os, (g4.tape.trans g2.tape).trans e.tape, (g4.output.trans g2.output).trans e.output, by have := e.size; omega, fun k hk => ?_⟩
    have := e.size
    exact ((g4.block k (by omega) (by simp; omega)).trans (g2.block k (by omega) (by simp; omega))).trans (e.block k hk)
  exact bodyPost_ret (v := .tuple #[.agg #[.slice a l.length c, .slice a2 ts.length c2], .agg #[.int .i64 0, .int .i64 0]]) (by simp [results, Tryd.results7, go_sem, HP4.c0, HP4.c1, HQ4.c0, HQ4.c1]) rfl ⟨_, _, ts, rfl, hC4, hR4, HRR.out, hbF⟩
end Go.Proofs.YtkpjjiomfgkobaaDoor
