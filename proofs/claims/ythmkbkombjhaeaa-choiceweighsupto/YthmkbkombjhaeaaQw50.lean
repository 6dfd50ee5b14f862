import Derived.Test.YthmkbkombjhaeaaQw49
namespace Go.Proofs.Ythmkbkombjhaeaa
open Go.RowKit Go.Proofs.Ythmkbkombjhaeaa.Ds

set_option maxHeartbeats 4000000 in
set_option maxRecDepth 100000 in
theorem rscore_any (B : Nat) (v u : Value) (ts : List Tr) (l : List Int) (w : World) (hB : B ≤ w.heap.size) (hp : Parts w B v ts) (hu : Num w B u l) (x y er : Int) (hr : scoT (rd ts) l = (x, y, er)) :
    Calls Try.prog 13 #[v, u] w fun e w' => e = .returned (.tuple #[.int .i64 x, .int .i64 y, .int .i64 er]) ∧ Below w.heap.size w w' := by
  have HP : Hid (Parts w B v ts) := hp
  have HU : Hid (Num w B u l) := hu
  have HR : Hid (scoT (rd ts) l = (x, y, er)) := hr
  obtain ⟨a, c, rfl, hc, htl, _⟩ := hp
  obtain ⟨ua, uc, rfl, huc, hul, _⟩ := hu
  obtain ⟨i0, hi0, hz0, hz1, hz2⟩ := info_parts info32
  clear hr
  go_enter Try.func13, Try.ntmps13
  go_wp2
  go_loopw [17] (fun iv wr => ∃ i : Nat, i ≤ ts.length ∧ iv = .int .i64 (i : Int) ∧ Hid (Scs (rd ts) l i) ∧ Below w.heap.size w wr) (fun iv _ => ts.length - (intOf iv).toNat)
  case atStart => exact ⟨0, Nat.zero_le _, rfl, rfl, Below.refl _ _⟩
  case round =>
    obtain ⟨i, hi, rfl, HS, hbl⟩ := hrel
    by_cases h1 : i < ts.length
    · obtain ⟨b, o, sa, sc, xs, k, rfl, hb, hs, c1, c2, hIx⟩ := HP.out.get hB hbl h1
      have HT : Hid ((rd ts)[i]? = some (xs, k)) := by show _ = _; simp [rd, hs]
      clear hs
      by_cases cl : xs.length = 1
      · obtain ⟨z, rfl⟩ : ∃ z, xs = [z] := List.length_eq_one_iff.1 cl
        obtain ⟨ia, ic, he, hic, _, hcell⟩ := hIx
        obtain ⟨bi, oi, rfl, hbi, _, hcell⟩ := hcell (by simp)
        have hz := hcell 0 z (by simp)
        simp only [Value.slice.injEq] at he
        obtain ⟨rfl, -, rfl⟩ := he
        simp only [List.length_singleton, Nat.add_zero] at hic hz ⊢
        clear hcell cl
        have hbi2 : bi < wr.heap.size := by have := hbl.size; omega
        by_cases cz : z < 0
        · have hbad : scB l ([z], k) = false := by simp [scB]; omega
          have hx := HR.out
          rw [Scs.hit HT.out hbad] at hx
          simp only [Prod.mk.injEq] at hx
          obtain ⟨rfl, rfl, rfl⟩ := hx
          clear HS HT hbad
          go_wp2
          exact bodyPost_ret (v := .tuple #[.int .i64 0, .int .i64 0, .int .i64 8]) (by simp [results, Try.results13, go_sem]) rfl ⟨rfl, bal hbl _⟩
        · by_cases cy : (l.length : Int) ≤ z
          · have hbad : scB l ([z], k) = false := by simp [scB]; omega
            have hx := HR.out
            rw [Scs.hit HT.out hbad] at hx
            simp only [Prod.mk.injEq] at hx
            obtain ⟨rfl, rfl, rfl⟩ := hx
            clear HS HT hbad
            go_wp2
            exact bodyPost_ret (v := .tuple #[.int .i64 0, .int .i64 0, .int .i64 8]) (by simp [results, Try.results13, go_sem]) rfl ⟨rfl, bal hbl _⟩
          · have HS2 : Hid (Scs (rd ts) l (i + 1)) := HS.out.step HT.out (by simp [scB]; omega)
            clear HS HT
            go_wp2
            go_roundw
            case rel => exact ⟨i + 1, h1, by go_num, HS2, bal hbl _⟩
            case measure => simp [intOf]; omega
      · have hbad : scB l (xs, k) = false := by simp [scB, cl]
        have hx := HR.out
        rw [Scs.hit HT.out hbad] at hx
        simp only [Prod.mk.injEq] at hx
        obtain ⟨rfl, rfl, rfl⟩ := hx
        have d1 : ((xs.length : Int) == 1) = false := beq_eq_false_iff_ne.2 (by omega)
        have d2 : ((xs.length : Int) != 1) = true := by simp only [bne, d1, Bool.not_false]
        clear HS HT hbad
        go_wp2
        exact bodyPost_ret (v := .tuple #[.int .i64 0, .int .i64 0, .int .i64 8]) (by simp [results, Try.results13, go_sem]) rfl ⟨rfl, bal hbl _⟩
    · have hall := HS.out.all (by simp [rd]; omega)
      have HAll : Hid ((rd ts).all (scB l) = true) := hall
      obtain ⟨e1, he1⟩ : ∃ e1, (ownT (rd ts)).2 = e1 := ⟨_, rfl⟩
      have kw := wrongR_any B (.slice a ts.length c) ts wr (by have := hbl.size; omega) (HP.out.at hB hbl) e1 he1
      have hx := HR.out
      unfold scoT scT at hx
      rw [if_pos hall, he1] at hx
      have HX : Hid ((if (if e1 = 0 then makeT (scP (rd ts) l) else ([], e1)).2 = 0 then meanT (if e1 = 0 then makeT (scP (rd ts) l) else ([], e1)).1 0 else (0, 0, (if e1 = 0 then makeT (scP (rd ts) l) else ([], e1)).2)) = (x, y, er)) := hx
      clear HS hall he1 hx HR
      go_wp2_with fail
      refine kw.mono ?_
      rintro e w1 ⟨rfl, hb1⟩
      clear kw
      have G1 := bt hbl hb1
      by_cases ce : e1 = 0
      · subst ce
        obtain ⟨⟨m, e2⟩, hm⟩ : ∃ z, makeT (scP (rd ts) l) = z := ⟨_, rfl⟩
        have hx := HX.out
        rw [if_pos rfl, hm] at hx
        simp only at hx
        have HX2 : Hid ((if e2 = 0 then meanT m 0 else (0, 0, e2)) = (x, y, er)) := hx
        have HMk : Hid (makeT (scP (rd ts) l) = (m, e2)) := hm
        clear HX hm hx
        go_wp2
        go_loopw [10, 49] (fun pv iv wr => ∃ (i : Nat) (ds : List Tr), iv = .int .i64 (i : Int) ∧ i ≤ ts.length ∧ Hid (Scd l ts ds i) ∧ Hid (Rws wr w1.heap.size pv ds) ∧ Below w1.heap.size w1 wr) (fun _ iv _ => ts.length - (intOf iv).toNat)
        case atStart => exact ⟨0, [], rfl, Nat.zero_le _, Scd.nil _ _, Rws.nil _ _, Below.refl _ _⟩
        case round =>
          obtain ⟨i, ds, rfl, hit, HD, HW, hbl2⟩ := hrel
          have hbs := hbl2.size
          have HDL : Hid (ds.length ≤ ts.length) := by have := HD.out.len hit; show ds.length ≤ ts.length; omega
          have hpl := HW.out.lt
          obtain ⟨pa, pc, rfl⟩ := HW.out.slice
          by_cases h2 : i < ts.length
          · obtain ⟨b, o, sa, sc, xs, k, rfl, hb, hs, c1, c2, hIx⟩ := HP.out.get hB (bt G1 hbl2) h2
            obtain ⟨jx, hjx, hjj⟩ : ∃ j : Nat, j < l.length ∧ xs = [(j : Int)] := by
              have h3 := List.all_eq_true.1 HAll.out (xs, k) (List.mem_map.2 ⟨_, List.mem_of_getElem? hs, rfl⟩)
              obtain ⟨h6, h7, h8⟩ := of_decide_eq_true h3
              match xs, h6 with
              | [z], _ =>
                simp at h7 h8
                exact ⟨z.toNat, by omega, by rw [Int.toNat_of_nonneg h7]⟩
            subst hjj
            obtain ⟨ia, ic, he, hic, _, hcell⟩ := hIx
            obtain ⟨bi, oi, rfl, hbi, _, hcell⟩ := hcell (by simp)
            have hz := hcell 0 (jx : Int) (by simp)
            simp only [Value.slice.injEq] at he
            obtain ⟨rfl, -, rfl⟩ := he
            have hs1 := G1.size
            obtain ⟨bl, ol, cl, yv, he2, hcl, hbl3, hyv, hcy⟩ := (HU.out.at hB (bt G1 hbl2)).get hjx
            simp only [Value.slice.injEq] at he2
            obtain ⟨rfl, -, rfl⟩ := he2
            have HYv : Hid ([scL l [(jx : Int)]] = [yv]) := by show _ = _; simp [scL, List.getD, hyv]
            have HT : Hid (ts[i]? = some (.slice (some ⟨bi, oi, none⟩) [(jx : Int)].length sc, [(jx : Int)], k)) := hs
            simp only [List.length_singleton, Nat.add_zero] at hic hz c1 HT ⊢
            obtain ⟨mo, hmo, hmg⟩ := own_or (n := wr.heap.size) (fun g e => (hpl g e).2) (by omega)
            have HO : Hid (∀ g, (Value.slice pa ds.length pc).ownBlock = some g → w1.heap.size ≤ g ∧ g < wr.heap.size ∧ mo = g) := fun g e => ⟨(hpl g e).1, (hpl g e).2, hmg g e⟩
            clear hs hcell hyv hpl hmg
            go_wp2_with fail
            generalize hOO : Obj.cells #[Value.slice (some ⟨bi, oi, none⟩) 1 sc, Value.int IntKind.i64 k] 55 = O
            have g1 : (wr.alloc O).cell? ⟨wr.heap.size, 0, none⟩ = some (.slice (some ⟨bi, oi, none⟩) 1 sc) := by rw [← hOO]; simp [go_sem]
            have g2 : (wr.alloc O).cell? ⟨wr.heap.size, 1, none⟩ = some (.int .i64 k) := by rw [← hOO]; simp [go_sem]
            have g7 : (wr.alloc O).heap.size = wr.heap.size + 1 := by simp
            obtain ⟨W, hW⟩ : ∃ W, wr.alloc O = W := ⟨_, rfl⟩
            have HBW : Hid (Below wr.heap.size wr W) := hW ▸ ba wr O
            rw [hW] at g1 g2 g7 ⊢
            have g3 : W.cell? ⟨bi, oi, none⟩ = some (.int .i64 (jx : Int)) := (HBW.out.cell (p := ⟨bi, oi, none⟩) (by show bi < _; omega)).trans hz
            have g4 : W.cell? ⟨bl, ol + jx, none⟩ = some (.int .i64 yv) := (HBW.out.cell (p := ⟨bl, ol + jx, none⟩) (by show bl < _; omega)).trans hcy
            have HRw : Hid (Rws W w1.heap.size (.slice pa ds.length pc) ds) := HW.out.keep HBW.out
            have lw : wr.heap.size < W.heap.size := by omega
            have lbi : bi < W.heap.size := by omega
            have lbl : bl < W.heap.size := by omega
            have qs1 : ∀ W', Below W.heap.size W W' → W'.cell? ⟨wr.heap.size, 0, none⟩ = some (.slice (some ⟨bi, oi, none⟩) 1 sc) := fun W' hb => (hb.cell (p := ⟨wr.heap.size, 0, none⟩) lw).trans g1
            have qs2 : ∀ W', Below W.heap.size W W' → W'.cell? ⟨wr.heap.size, 1, none⟩ = some (.int .i64 k) := fun W' hb => (hb.cell (p := ⟨wr.heap.size, 1, none⟩) lw).trans g2
            have qs3 : ∀ W', Below W.heap.size W W' → W'.cell? ⟨bi, oi, none⟩ = some (.int .i64 (jx : Int)) := fun W' hb => (hb.cell (p := ⟨bi, oi, none⟩) lbi).trans g3
            have qs4 : ∀ W', Below W.heap.size W W' → W'.cell? ⟨bl, ol + jx, none⟩ = some (.int .i64 yv) := fun W' hb => (hb.cell (p := ⟨bl, ol + jx, none⟩) lbl).trans g4
            have BA : Below W.heap.size W ((W.drew.alloc (.cells #[.int .i64 yv] 3)).alloc (.cells #[.slice (some ⟨W.heap.size, 0, none⟩) 1 1, .int .i64 k] 55)) := bal (bal (Below.refl _ _).drew _) _
            have u1 := qs1 _ BA
            have u2 := qs2 _ BA
            have u3 := qs3 _ BA
            have u4 := qs4 _ BA
            have HU4 : Hid (_ ∧ _ ∧ _ ∧ _) := ⟨u1, u2, u3, u4⟩
            clear u1 u2 u3 u4 BA
            have ij1 : (jx : Int) < (l.length : Int) := by omega
            have ij2 : (0 : Int) ≤ (jx : Int) := by omega
            clear hOO hW c1 c2 HW hz hcy g7
            go_region_held3 (fun w' => w'.cell? ⟨wr.heap.size, 0, none⟩ = some (.slice (some ⟨bi, oi, none⟩) 1 sc) ∧ w'.cell? ⟨wr.heap.size, 1, none⟩ = some (.int .i64 k) ∧ w'.cell? ⟨bi, oi, none⟩ = some (.int .i64 (jx : Int)) ∧ w'.cell? ⟨bl, ol + jx, none⟩ = some (.int .i64 yv))
              ((go_split_ands; first | (refine ⟨?_, ?_, ?_, ?_⟩ <;> assumption) | (refine ⟨qs1 _ ?_, qs2 _ ?_, qs3 _ ?_, qs4 _ ?_⟩ <;> (repeat (first | exact Below.refl _ _ | apply Below.drew | refine bal ?_ _)))))
              ((refine step_append_lies _ rfl _ _ 25 rfl w1.heap.size 55 i0 (.agg #[.slice none 0 0, .int .i64 0]) 2 32 Try.underlying25 hi0 hz0 hz1 hz2 rfl (by decide) (.slice pa ds.length pc) ds.length (flat ds) rfl ?_ ⟨W.heap.size + 1, 0, none⟩ 1 1 [.slice (some ⟨W.heap.size, 0, none⟩) 1 1, .int .i64 k] rfl rfl ?_ ?_ (by decide) ?_ ?_ ?_ (W.heap.size + 1 + 1) ?_ ?_; (exact (HRw.out.keep (bal (bal (Below.refl _ _).drew _) _)).1); (exact two_cells _ _ _ _ (by simp)); (intro u hu; simp at hu; rcases hu with rfl | rfl <;> rfl); (have := HDL.out; simp [maxLen]; omega); (have := HDL.out; omega); (simp; omega); (simp); intro g cap w4 hown hgrow hat hlt; have k7 : w4.cell? ⟨wr.heap.size, 0, none⟩ = some (.slice (some ⟨bi, oi, none⟩) 1 sc) := hgrow.cell HU4.out.1 (fun e => absurd (HO.out wr.heap.size e.symm).2.1 (Nat.lt_irrefl _)); have k8 : w4.cell? ⟨wr.heap.size, 1, none⟩ = some (.int .i64 k) := hgrow.cell HU4.out.2.1 (fun e => absurd (HO.out wr.heap.size e.symm).2.1 (Nat.lt_irrefl _)); have k9 : w4.cell? ⟨bi, oi, none⟩ = some (.int .i64 (jx : Int)) := hgrow.cell HU4.out.2.2.1 (fun e => absurd (HO.out bi e.symm).1 (by omega)); have k10 : w4.cell? ⟨bl, ol + jx, none⟩ = some (.int .i64 yv) := hgrow.cell HU4.out.2.2.2 (fun e => absurd (HO.out bl e.symm).1 (by omega))))
            all_goals
              have hb4 : Below W.heap.size W ((W.drew.alloc (.cells #[.int .i64 yv] 3)).alloc (.cells #[.slice (some ⟨W.heap.size, 0, none⟩) 1 1, .int .i64 k] 55)) := bal (bal (Below.refl _ _).drew _) _
              have HR3 : Hid (Rws ((W.drew.alloc (.cells #[.int .i64 yv] 3)).alloc (.cells #[.slice (some ⟨W.heap.size, 0, none⟩) 1 1, .int .i64 k] 55)) w1.heap.size (.slice pa ds.length pc) ds) := HRw.out.keep hb4
              have HI3 : Hid (Ints ((W.drew.alloc (.cells #[.int .i64 yv] 3)).alloc (.cells #[.slice (some ⟨W.heap.size, 0, none⟩) 1 1, .int .i64 k] 55)) ((W.drew.alloc (.cells #[.int .i64 yv] 3)).alloc (.cells #[.slice (some ⟨W.heap.size, 0, none⟩) 1 1, .int .i64 k] 55)).heap.size mo (.slice (some ⟨W.heap.size, 0, none⟩) 1 1) [yv]) := by
                refine ⟨_, 1, rfl, Nat.le_refl _, by simp, fun _ => ⟨W.heap.size, 0, rfl, ?_, ?_, fun j z hj => ?_⟩⟩
                · first | (simp; done) | (simp; omega) | omega
                · omega
                · match j, hj with
                  | 0, hj => simp at hj; subst hj; simp [go_sem]
              have HR4 : Hid (Rws w4 w1.heap.size (.slice (some ⟨g, 0, none⟩) (ds.length + 1) cap) (ds ++ [(.slice (some ⟨W.heap.size, 0, none⟩) 1 1, [yv], k)])) :=
                HR3.out.more hown hgrow (hat.imp id fun e => by rw [e]; simp) HI3.out fun g e => (HO.out g e).2.2
              have HB4 : Hid (Below w1.heap.size w1 w4) := (bt (bt hbl2 HBW.out) hb4).grown hgrow (by simp; omega) (owns_block HR3.out.1)
              have HD4 : Hid (Scd l ts (ds ++ [(.slice (some ⟨W.heap.size, 0, none⟩) 1 1, [yv], k)]) (i + 1)) := HD.out.step HT.out HYv.out
              clear hb4 HR3 HI3 hown hgrow hat hlt k7 k8 k9 k10 qs1 qs2 qs3 qs4 HU4 g1 g2 g3 g4
              go_wp2
              go_roundw
              case rel => exact ⟨i + 1, _, by go_num, h2, HD4, HR4, HB4.out⟩
              case measure => simp [intOf]; omega
          · have HF : Hid (rd ds = scP (rd ts) l) := HD.out.all (by omega)
            have HP2 : Hid (Parts wr wr.heap.size (.slice pa ds.length pc) ds) := HW.out.parts (by have := HDL.out; omega)
            have kc := makeR_any wr.heap.size (.slice pa ds.length pc) ds wr (Nat.le_refl _) HP2.out m e2 (by rw [HF.out]; exact HMk.out)
            have G2 := bt G1 hbl2
            clear HW HD hpl HF HP2 HMk
            go_wp2_with fail
            refine kc.mono ?_
            rintro e w5 ⟨v5, us, rfl, k1, k2, k3⟩
            obtain ⟨b5, d5, rfl⟩ := k2.slice
            clear kc
            have G3 := bt G2 k3
            by_cases cf : e2 = 0
            · subst cf
              have hx := HX2.out
              rw [if_pos rfl] at hx
              have kn := meanR_any w5.heap.size (.slice b5 us.length d5) 0 us w5 (Nat.le_refl _) k2.parts x y er (by rw [k1]; exact hx)
              clear hx HX2 k1 k2
              go_wp2_with fail
              refine kn.mono ?_
              rintro e w6 ⟨rfl, b6⟩
              clear kn
              have G4 := bt G3 b6
              go_wp2
              exact bodyPost_ret (v := .tuple #[.int .i64 x, .int .i64 y, .int .i64 er]) (by simp [results, Try.results13, go_sem]) rfl ⟨rfl, G4⟩
            · have c1 : (e2 == 0) = false := by simpa using cf
              have c2 : (e2 != 0) = true := by simpa using cf
              have hx := HX2.out
              rw [if_neg cf] at hx
              simp only [Prod.mk.injEq] at hx
              obtain ⟨rfl, rfl, rfl⟩ := hx
              clear HX2 k1 k2
              go_wp2
              exact bodyPost_ret (v := .tuple #[.int .i64 0, .int .i64 0, .int .i64 e2]) (by simp [results, Try.results13, go_sem]) rfl ⟨rfl, G3⟩
      · have c1 : (e1 == 0) = false := by simpa using ce
        have c2 : (e1 != 0) = true := by simpa using ce
        have hx := HX.out
        rw [if_neg ce] at hx
        simp only at hx
        rw [if_neg ce] at hx
        simp only [Prod.mk.injEq] at hx
        obtain ⟨rfl, rfl, rfl⟩ := hx
        clear HX
        go_wp2
        exact bodyPost_ret (v := .tuple #[.int .i64 0, .int .i64 0, .int .i64 e1]) (by simp [results, Try.results13, go_sem]) rfl ⟨rfl, G1⟩
end Go.Proofs.Ythmkbkombjhaeaa
