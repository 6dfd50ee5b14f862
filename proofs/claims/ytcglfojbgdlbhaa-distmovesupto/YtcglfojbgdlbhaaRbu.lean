import Derived.Test.YtcglfojbgdlbhaaTif
namespace Go.Proofs.Ytcglfojbgdlbhaa
open Go.RowKit Go.Proofs.Ytcglfojbgdlbhaa.Ds

def Pred (x : List Int) (m : List Pt) (ds : List Tr) (j : Nat) : Prop := rd ds = (pre x m).take j
theorem Pred.nil (x : List Int) (m : List Pt) : Pred x m [] 0 := by simp [Pred, rd]
theorem Pred.step {x : List Int} {m : List Pt} {ds : List Tr} {j : Nat} {y zs : List Int} {k : Int} {s : Value} (h : Pred x m ds j) (hp : m[j]? = some (y, k)) (hz : x ++ y = zs) : Pred x m (ds ++ [(s, zs, k)]) (j + 1) := by
  unfold Pred at *
  have hg : (pre x m)[j]? = some (zs, k) := by simp [pre, hp, hz]
  rw [List.take_add_one, hg, rd_snoc, h]
  rfl
theorem Pred.len {x : List Int} {m : List Pt} {ds : List Tr} {j : Nat} (h : Pred x m ds j) : ds.length ≤ m.length := by
  have h1 := congrArg List.length (show rd ds = _ from h)
  rw [rd_len] at h1
  rw [h1]
  simp [pre]
  omega

set_option maxHeartbeats 1000000 in
set_option maxRecDepth 100000 in
theorem bothR_any (B : Nat) (v u : Value) (ts us : List Tr) (w : World) (hB : B ≤ w.heap.size) (hp : Parts w B v ts) (hq : Parts w B u us) (l : List Pt) (er : Int) (hr : bothT (rd ts) (rd us) = (l, er)) :
    Calls Try.prog 24 #[v, u] w fun e w' => ∃ v' us, e = .returned (.tuple #[v', .int .i64 er]) ∧ rd us = l ∧ OwnN w' w.heap.size v' us ∧ Below w.heap.size w w' := by
  obtain ⟨e1, ho⟩ : ∃ x, (ownT (rd ts)).2 = x := ⟨_, rfl⟩
  obtain ⟨e2, ho2⟩ : ∃ x, (ownT (rd us)).2 = x := ⟨_, rfl⟩
  have kc := wrongR_any B v ts w hB hp e1 ho
  have HP : Hid (Parts w B v ts) := hp
  have HQ : Hid (Parts w B u us) := hq
  have HR : Hid (bothT (rd ts) (rd us) = (l, er) ∧ (ownT (rd ts)).2 = e1 ∧ (ownT (rd us)).2 = e2) := ⟨hr, ho, ho2⟩
  obtain ⟨a, c, rfl, _, hul, _⟩ := hp
  obtain ⟨ua, uc, rfl, _, huu, _⟩ := hq
  obtain ⟨i0, hi0, hz0, hz1, hz2⟩ := info_parts info32
  obtain ⟨j0, hj0, hy0, hy1, hy2⟩ := info_parts info23
  clear hr ho ho2
  go_enter Try.func24, Try.ntmps24
  go_wp2_with fail
  refine kc.mono ?_
  rintro e w1 ⟨rfl, h3⟩
  clear kc
  by_cases h0 : e1 = 0
  · subst h0
    have kc := wrongR_any B (.slice ua us.length uc) us w1 (Nat.le_trans hB h3.size) (HQ.out.at hB h3) e2 HR.out.2.2
    go_wp2_with fail
    refine kc.mono ?_
    rintro e w2 ⟨rfl, h4⟩
    clear kc
    have b2 : Below w.heap.size w w2 := bt h3 h4
    have hs2 := b2.size
    by_cases h5 : e2 = 0
    · subst h5
      have hd1 : Dis (rd ts) := (ownT_ok (Prod.ext rfl HR.out.2.1 : ownT (rd ts) = ((ownT (rd ts)).1, 0))).2
      have hd2 : Dis (rd us) := (ownT_ok (Prod.ext rfl HR.out.2.2 : ownT (rd us) = ((ownT (rd us)).1, 0))).2
      have HM : Hid (chT (fun x => behT x (rd us)) (rd ts) = (l, er) ∧ Dis (rd ts) ∧ Dis (rd us)) := by
        refine ⟨?_, hd1, hd2⟩
        have := HR.out.1
        unfold bothT at this
        rwa [if_pos (hd1.two hd2)] at this
      clear hd1 hd2
      go_wp2
      go_loopw [8, 28] (fun pv iv wr => ∃ (i : Nat) (ns : List Dl), iv = .int .i64 (i : Int) ∧ i ≤ ts.length ∧ Hid (Thd (fun x => pre x (rd us)) (rd ts) ns i ∧ Dsr wr w2.heap.size pv ns ∧ ∀ p ∈ (rd ts).take i, (behT p.1 (rd us)).2 = 0) ∧ Below w2.heap.size w2 wr) (fun _ iv _ => ts.length - (intOf iv).toNat)
      case atStart => exact ⟨0, [], rfl, Nat.zero_le _, ⟨Thd.nil _ _, Dsr.nil _ _, by simp⟩, Below.refl _ _⟩
      case round => as_aux_lemma =>
        obtain ⟨i, ns, rfl, hit, HD, hbl⟩ := hrel
        have hbs := hbl.size
        have bw : Below w.heap.size w wr := bt b2 hbl
        have HDL : Hid (ns.length ≤ ts.length) := by have := HD.out.1.len (by rw [rd_len]; exact hit); show ns.length ≤ ts.length; omega
        have hpl := HD.out.2.1.lt
        obtain ⟨pa, pc, rfl⟩ := HD.out.2.1.slice
        by_cases h1 : i < ts.length
        · obtain ⟨b, o, sa, sc, xs, k, rfl, hb, hs, c1, c2, hIx⟩ := HP.out.get hB bw h1
          have HS : Hid ((rd ts)[i]? = some (xs, k)) := rd_get hs
          have hxl : xs.length ≤ 16 := by
            have h6 := dis_okO HM.out.2.1 (List.mem_of_getElem? HS.out)
            simp [okO] at h6
            exact h6.1
          obtain ⟨W1, hW1⟩ : ∃ W, wr.alloc (.cells #[.slice sa xs.length sc, .int .i64 k] 32) = W := ⟨_, rfl⟩
          obtain ⟨N, hN⟩ : ∃ N, wr.heap.size = N := ⟨_, rfl⟩
          have HB : Hid (Below wr.heap.size wr W1) := hW1 ▸ ba wr _
          have hWs : W1.heap.size = N + 1 := by rw [← hW1, ← hN]; simp
          have g1 : W1.cell? ⟨N, 0, none⟩ = some (.slice sa xs.length sc) := by rw [← hW1, ← hN]; simp [go_sem]
          have HIx : Hid (Ints W1 B B (.slice sa xs.length sc) xs) := hIx.at (by omega) HB.out
          have HDn : Hid (Dsr W1 w2.heap.size (.slice pa ns.length pc) ns) := HD.out.2.1.keep HB.out
          have bW1 : Below w.heap.size w W1 := bt bw HB.out
          have bW2 : Below w2.heap.size w2 W1 := bt hbl HB.out
          obtain ⟨mo, hmo, hmo2, hmg⟩ := own_or2 (v := .slice pa ns.length pc) (lo := w2.heap.size) (n := W1.heap.size) (fun g e => ⟨(hpl g e).1, by have := (hpl g e).2; omega⟩) (by omega)
          have HO : Hid (∀ g, (Value.slice pa ns.length pc).ownBlock = some g → mo = g) := hmg
          clear hs hIx hmg
          go_upto_region 11 with fail
          clear hW1 hN
          go_wp2
          go_loopw [11, 34] (fun lv jv wq => ∃ (j : Nat) (ds : List Tr), jv = .int .i64 (j : Int) ∧ j ≤ us.length ∧ Hid (Pred xs (rd us) ds j ∧ Rws wq W1.heap.size lv ds ∧ Frs W1.heap.size ds) ∧ Below W1.heap.size W1 wq) (fun _ jv _ => us.length - (intOf jv).toNat)
          case atStart => exact ⟨0, [], rfl, Nat.zero_le _, ⟨Pred.nil _ _, Rws.nil _ _, Frs.nil _⟩, Below.refl _ _⟩
          case round => as_aux_lemma =>
            obtain ⟨j, ds, rfl, hjt, HE, hbq⟩ := hrel
            have hqs := hbq.size
            have bq : Below w.heap.size w wr := bt bW1 hbq
            have hel : ds.length ≤ us.length := by have := HE.out.1.len; rw [rd_len] at this; exact this
            have HEL : Hid (ds.length ≤ us.length) := hel
            have hpl2 := HE.out.2.1.lt
            obtain ⟨ea, ec, rfl⟩ := HE.out.2.1.slice
            clear hel
            by_cases h2 : j < us.length
            · obtain ⟨yb, yo, ya, yc, ys, q, rfl, hby, hsy, f1, f2, hIy⟩ := HQ.out.get hB bq h2
              have HSY : Hid ((rd us)[j]? = some (ys, q)) := rd_get hsy
              have hyl : ys.length ≤ 16 := by
                have h6 := dis_okO HM.out.2.2 (List.mem_of_getElem? HSY.out)
                simp [okO] at h6
                exact h6.1
              obtain ⟨zs, hzs⟩ : ∃ zs, xs ++ ys = zs := ⟨_, rfl⟩
              have HZ : Hid (xs ++ ys = zs ∧ xs.length + ys.length = zs.length) := ⟨hzs, by rw [← hzs, List.length_append]⟩
              obtain ⟨mo3, hm1, hm2, hm3⟩ := own_or2 (v := .slice ea ds.length ec) (lo := W1.heap.size) (n := wr.heap.size + 1) (fun g e => ⟨(hpl2 g e).1, Nat.lt_succ_of_lt (hpl2 g e).2⟩) (by omega)
              have HO2 : Hid (∀ g, (Value.slice ea ds.length ec).ownBlock = some g → W1.heap.size ≤ g ∧ g < wr.heap.size ∧ mo3 = g) := fun g e => ⟨(hpl2 g e).1, (hpl2 g e).2, hm3 g e⟩
              have HIy : Hid (Ints wr B B (.slice ya ys.length yc) ys) := hIy
              have cN := (hbq.cell (p := ⟨N, 0, none⟩) (by show N < W1.heap.size; omega)).trans g1
              clear hsy hIy hpl2 hm3 hzs
              go_wp2_with fail
              generalize hOb : Obj.cells #[Value.slice ya ys.length yc, Value.int IntKind.i64 q] 32 = O
              have d1 : (wr.alloc O).cell? ⟨wr.heap.size, 0, none⟩ = some (.slice ya ys.length yc) := by rw [← hOb]; simp [go_sem]
              have d2 : (wr.alloc O).cell? ⟨wr.heap.size, 1, none⟩ = some (.int .i64 q) := by rw [← hOb]; simp [go_sem]
              have d7 : (wr.alloc O).heap.size = wr.heap.size + 1 := by simp
              obtain ⟨W, hW⟩ : ∃ W, wr.alloc O = W := ⟨_, rfl⟩
              have HBW : Hid (Below wr.heap.size wr W) := hW ▸ ba wr O
              rw [hW] at d1 d2 d7 ⊢
              have d3 : W.cell? ⟨N, 0, none⟩ = some (.slice sa xs.length sc) := (HBW.out.cell (p := ⟨N, 0, none⟩) (by show N < wr.heap.size; omega)).trans cN
              obtain ⟨WA, hWA0⟩ : ∃ WA, (W.alloc (.cells #[] 3)).drew = WA := ⟨_, rfl⟩
              have hWA : Below W.heap.size W WA := by rw [← hWA0]; exact (bal (Below.refl _ _) _).drew
              have hWAs : WA.heap.size = wr.heap.size + 2 := by rw [← hWA0]; show (W.alloc _).heap.size = _; simp; omega
              have HOA : Hid (WA.ownsRow W.heap.size 3 1 (.slice (some ⟨wr.heap.size + 1, 0, none⟩) 0 0) 0 (([] : List Int).map (Value.int .i64))) := by
                rw [Hid, ← hWA0, ← d7]
                exact World.ownsRow_made W #[] 0 (Nat.le_refl _) (Nat.zero_le _) (by simp)
              have HIxA : Hid (Ints WA B B (.slice sa xs.length sc) xs) := ((HIx.out.at (by omega) hbq).at (by omega) HBW.out).at (by omega) hWA
              have HIyW : Hid (Ints W B B (.slice ya ys.length yc) ys) := HIy.out.at (by omega) HBW.out
              have HRw : Hid (Rws W W1.heap.size (.slice ea ds.length ec) ds) := HE.out.2.1.keep HBW.out
              have lN : N < W.heap.size := by omega
              have lw : wr.heap.size < W.heap.size := by omega
              have kA1 : WA.cell? ⟨N, 0, none⟩ = some (.slice sa xs.length sc) := (hWA.cell (p := ⟨N, 0, none⟩) lN).trans d3
              have kA2 : WA.cell? ⟨wr.heap.size, 0, none⟩ = some (.slice ya ys.length yc) := (hWA.cell (p := ⟨wr.heap.size, 0, none⟩) lw).trans d1
              have kA3 : WA.cell? ⟨wr.heap.size, 1, none⟩ = some (.int .i64 q) := (hWA.cell (p := ⟨wr.heap.size, 1, none⟩) lw).trans d2
              have kB1 : (W.alloc (.cells #[] 3)).cell? ⟨N, 0, none⟩ = some (.slice sa xs.length sc) := ((ba W _).cell (p := ⟨N, 0, none⟩) lN).trans d3
              have kB2 : (W.alloc (.cells #[] 3)).cell? ⟨wr.heap.size, 0, none⟩ = some (.slice ya ys.length yc) := ((ba W _).cell (p := ⟨wr.heap.size, 0, none⟩) lw).trans d1
              have kB3 : (W.alloc (.cells #[] 3)).cell? ⟨wr.heap.size, 1, none⟩ = some (.int .i64 q) := ((ba W _).cell (p := ⟨wr.heap.size, 1, none⟩) lw).trans d2
              clear hOb hW f1 f2 cN
              go_region_held3 (fun w' => w'.cell? ⟨N, 0, none⟩ = some (.slice sa xs.length sc) ∧ w'.cell? ⟨wr.heap.size, 0, none⟩ = some (.slice ya ys.length yc) ∧ w'.cell? ⟨wr.heap.size, 1, none⟩ = some (.int .i64 q))
                ((go_split_ands; refine ⟨?_, ?_, ?_⟩ <;> first | assumption | (simp [go_sem, *]; done)))
                (first
                  | (refine step_append_lies _ rfl _ _ 22 rfl W1.heap.size 32 i0 (.agg #[.slice none 0 0, .int .i64 0]) 2 32 Try.underlying22 hi0 hz0 hz1 hz2 rfl (by decide) (.slice ea ds.length ec) ds.length (flat ds) rfl ?_ ⟨w4.heap.size, 0, none⟩ 1 1 [.slice a4 zs.length c4, .int .i64 q] rfl rfl ?_ ?_ (by decide) ?_ ?_ ?_ (w4.heap.size + 1) ?_ ?_; (exact (HRw.out.keep (bal bA4 _)).1); (exact two_cells w4 _ q _ rfl); (intro z hz; simp at hz; rcases hz with rfl | rfl <;> rfl); (have := HEL.out; simp [maxLen]; omega); (have := HEL.out; omega); (have := bA4.size; simp; omega); (simp); intro g cap w6 hown hgrow hat hlt6; have m1 : w6.cell? ⟨N, 0, none⟩ = some (.slice sa xs.length sc) := hgrow.cell (((bal bA4 _).cell (p := ⟨N, 0, none⟩) lN).trans d3) (fun e => absurd (HO2.out N e.symm).1 (by omega)); have m2 : w6.cell? ⟨wr.heap.size, 0, none⟩ = some (.slice ya ys.length yc) := hgrow.cell (((bal bA4 _).cell (p := ⟨wr.heap.size, 0, none⟩) lw).trans d1) (fun e => absurd (HO2.out wr.heap.size e.symm).2.1 (Nat.lt_irrefl _)); have m3 : w6.cell? ⟨wr.heap.size, 1, none⟩ = some (.int .i64 q) := hgrow.cell (((bal bA4 _).cell (p := ⟨wr.heap.size, 1, none⟩) lw).trans d2) (fun e => absurd (HO2.out wr.heap.size e.symm).2.1 (Nat.lt_irrefl _)))
                  | (refine step_app_ints w3 rfl _ _ rfl W.heap.size B B xs.length a3 c3 xs ys rfl hown3' (.slice ya ys.length yc) rfl (HIyW.out.at (by omega) bA3) ?_ ?_ zs.length HZ.out.2 ?_; (omega); (exact bA3.size); intro a4 c4 w4 hown4 hgrow4 hat4; have bA4 : Below W.heap.size W w4 := (bA3.grown hgrow4 bA3.size (owns_block hown3')); have j1 : w4.cell? ⟨N, 0, none⟩ = some (.slice sa xs.length sc) := (bA4.cell (p := ⟨N, 0, none⟩) lN).trans d3; have j2 : w4.cell? ⟨wr.heap.size, 0, none⟩ = some (.slice ya ys.length yc) := (bA4.cell (p := ⟨wr.heap.size, 0, none⟩) lw).trans d1; have j3 : w4.cell? ⟨wr.heap.size, 1, none⟩ = some (.int .i64 q) := (bA4.cell (p := ⟨wr.heap.size, 1, none⟩) lw).trans d2; have j4 : ∀ O, (w4.alloc O).cell? ⟨N, 0, none⟩ = some (.slice sa xs.length sc) := fun O => ((bal bA4 O).cell (p := ⟨N, 0, none⟩) lN).trans d3; have j5 : ∀ O, (w4.alloc O).cell? ⟨wr.heap.size, 0, none⟩ = some (.slice ya ys.length yc) := fun O => ((bal bA4 O).cell (p := ⟨wr.heap.size, 0, none⟩) lw).trans d1; have j6 : ∀ O, (w4.alloc O).cell? ⟨wr.heap.size, 1, none⟩ = some (.int .i64 q) := fun O => ((bal bA4 O).cell (p := ⟨wr.heap.size, 1, none⟩) lw).trans d2)
                  | (refine step_app_ints WA rfl _ _ rfl W.heap.size B B 0 (some ⟨wr.heap.size + 1, 0, none⟩) 0 [] xs rfl HOA.out (.slice sa xs.length sc) rfl HIxA.out ?_ ?_ xs.length ?_ ?_; (omega); (omega); (omega); intro a3 c3 w3 hown3 hgrow3 hat3; have hown3' : w3.ownsRow W.heap.size 3 1 (.slice a3 xs.length c3) xs.length (xs.map (Value.int .i64)) := hown3; have bA3 : Below W.heap.size W w3 := (hWA.grown hgrow3 (by omega) (owns_block HOA.out)); have i1 : w3.cell? ⟨N, 0, none⟩ = some (.slice sa xs.length sc) := (bA3.cell (p := ⟨N, 0, none⟩) lN).trans d3; have i2 : w3.cell? ⟨wr.heap.size, 0, none⟩ = some (.slice ya ys.length yc) := (bA3.cell (p := ⟨wr.heap.size, 0, none⟩) lw).trans d1; have i3 : w3.cell? ⟨wr.heap.size, 1, none⟩ = some (.int .i64 q) := (bA3.cell (p := ⟨wr.heap.size, 1, none⟩) lw).trans d2))
              have hzl : zs.length ≤ 32 := by have := HZ.out.2; omega
              have hown5 : w4.ownsRow W.heap.size 3 1 (.slice a4 zs.length c4) zs.length (zs.map (Value.int .i64)) := by rw [HZ.out.1] at hown4; exact hown4
              have HI4 : ∀ m, m < W.heap.size → Ints w4 w4.heap.size m (.slice a4 zs.length c4) zs := fun m hm => ints_of_owns (n := zs.length) rfl (by omega) hown5 hm
              have hb6 : Below W.heap.size W (w4.alloc (.cells #[.slice a4 zs.length c4, .int .i64 q] 32)) := bal bA4 _
              have HR3 : Rws (w4.alloc (.cells #[.slice a4 zs.length c4, .int .i64 q] 32)) W1.heap.size (.slice ea ds.length ec) ds := HRw.out.keep hb6
              have HR4 : Hid (Rws w6 W1.heap.size (.slice (some ⟨g, 0, none⟩) (ds.length + 1) cap) (ds ++ [(.slice a4 zs.length c4, zs, q)])) :=
                HR3.more hown hgrow (hat.imp id fun e => by rw [e]; simp) ((HI4 mo3 (by omega)).at2 (ba _ _)) (fun g e => (HO2.out g e).2.2)
              have hb7 : Below W1.heap.size W1 (w4.alloc (.cells #[.slice a4 zs.length c4, .int .i64 q] 32)) := bt (bt hbq HBW.out) hb6
              have B6 : Below W1.heap.size W1 w6 := hb7.grown hgrow hb7.size (owns_block HR3.1)
              have HF6 : Hid (Frs W1.heap.size (ds ++ [(.slice a4 zs.length c4, zs, q)])) := by
                intro t ht
                rcases List.mem_append.1 ht with ht | ht
                · exact HE.out.2.2 t ht
                · simp at ht
                  subst ht
                  exact fr_of (lo := W1.heap.size) (fun m hm => HI4 m (by omega))
              have HP6 : Hid (Pred xs (rd us) (ds ++ [(.slice a4 zs.length c4, zs, q)]) (j + 1)) := HE.out.1.step HSY.out HZ.out.1
              clear hown hgrow hat hlt6 m1 m2 m3 HR3 HI4 hb6 hb7 hown5 hown4 hgrow4 hat4 bA4 j1 j2 j3 j4 j5 j6 hown3 hown3' hgrow3 hat3 bA3 i1 i2 i3 kA1 kA2 kA3 kB1 kB2 kB3 d1 d2 d3
              go_wp2
              go_roundw
              case rel => exact ⟨j + 1, ds ++ [(.slice a4 zs.length c4, zs, q)], by go_num, h2, ⟨HP6.out, HR4.out, HF6.out⟩, B6⟩
              case measure => simp [intOf]; omega
            · obtain ⟨⟨le, ee⟩, HBE⟩ : ∃ x, Hid (behT xs (rd us) = x) := ⟨_, rfl⟩
              have hrd : rd ds = pre xs (rd us) := by
                have := HE.out.1
                unfold Pred at this
                rw [List.take_of_length_le (by simp [pre, rd_len]; omega)] at this
                exact this
              have km := makeR_fr wr.heap.size (.slice ea ds.length ec) ds wr (Nat.le_refl _) (HE.out.2.1.parts (by have := HEL.out; omega)) le ee (by rw [hrd, make_pre xs HM.out.2.2]; exact HBE.out)
              clear hrd
              go_wp2_with fail
              refine km.mono ?_
              rintro e w5 ⟨v5, us5, rfl, hr5, ho5, hb5, hsrc⟩
              obtain ⟨a5, c5, rfl⟩ := ho5.slice
              have B5 : Below W1.heap.size W1 w5 := bt hbq hb5
              clear km
              by_cases h6 : ee = 0
              · subst h6
                have hbd := beh_dis HM.out.2.2 (show (behT xs (rd us)).2 = 0 by rw [HBE.out])
                have HPN : Hid (PartsN w5 w5.heap.size mo (.slice a5 us5.length c5) us5 ∧ rd us5 = pre xs (rd us)) := by
                  refine ⟨own_away (lo := W1.heap.size) (ho5.mono hqs) (HE.out.2.2.of fun t ht => ?_) hmo2, ?_⟩
                  · obtain ⟨u, hu, f1, f2⟩ := hsrc t ht
                    exact ⟨u, hu, f1.symm, f2.symm⟩
                  · rw [hr5, ← hbd.1, HBE.out]
                have bw3 : Below W1.heap.size W1 (w5.alloc (.cells #[.slice a5 us5.length c5] 23)) := bal B5 _
                have HFk : Hid (Dsr (w5.alloc (.cells #[.slice a5 us5.length c5] 23)) w2.heap.size (.slice pa ns.length pc) ns) := HDn.out.keep bw3
                have BB : Hid (Below w2.heap.size w2 (w5.alloc (.cells #[.slice a5 us5.length c5] 23))) := bt bW2 bw3
                have hw5 : w2.heap.size ≤ w5.heap.size := by have := B5.size; have := bW2.size; omega
                have hnl := HDL.out
                clear hbd hsrc ho5 hr5 bw3
                go_wp2_with (at_builtin; refine wpList_append_lies _ rfl _ _ 75 rfl w2.heap.size 23 j0 (.slice none 0 0) 1 24 Try.underlying75 hj0 hy0 hy1 hy2 rfl (by decide) _ _ _ rfl HFk.out.1 ⟨w5.heap.size, 0, none⟩ 1 1 [.slice a5 us5.length c5] rfl ?q1 ?q2 ?q3 (by decide) ?q4 ?q5 ?q6 (w5.heap.size + 1) ?q7 ?_)
                case q1 => rfl
                case q2 =>
                  intro m z hm
                  match m, hm with
                  | 0, hm => simp at hm; subst hm; simp [go_sem, Addr.add]
                case q3 => intro z hz; simp at hz; subst hz; rfl
                case q4 => simp [maxLen]; omega
                case q5 => omega
                case q6 => simp; omega
                case q7 => simp
                intro g cap w6 hown hgrow hat hlt
                have HFn : Hid (Dsr w6 w2.heap.size (.slice (some ⟨g, 0, none⟩) (ns.length + 1) cap) (ns ++ [(.slice a5 us5.length c5, us5)])) :=
                  HFk.out.app (n := (.slice a5 us5.length c5, us5)) hown hgrow (hat.imp (fun e => by rw [e]; rfl) (fun e => by rw [e]; simp [Value.ownBlock])) (HPN.out.1.at2 (ba _ _)) HO.out
                have B6 : Below w2.heap.size w2 w6 := BB.out.grown hgrow (by simp; omega) (owns_block HFk.out.1)
                have HTn : Hid (Thd (fun x => pre x (rd us)) (rd ts) (ns ++ [(.slice a5 us5.length c5, us5)]) (i + 1) ∧ ∀ p ∈ (rd ts).take (i + 1), (behT p.1 (rd us)).2 = 0) := by
                  refine ⟨HD.out.1.step HS.out HPN.out.2, ?_⟩
                  rw [List.take_add_one, HS.out]
                  intro p hp
                  rcases List.mem_append.1 hp with hp | hp
                  · exact HD.out.2.2 p hp
                  · simp at hp; subst hp; simp only [HBE.out]
                clear hown hgrow hat hlt HFk
                go_wp2
                go_roundw
                case rel => exact ⟨i + 1, ns ++ [(.slice a5 us5.length c5, us5)], by go_num, h1, ⟨HTn.out.1, HFn.out, HTn.out.2⟩, B6⟩
                case measure => simp [intOf]; omega
              · have hce := both_err (p := (xs, k)) HM.out.2.2 (List.mem_of_getElem? HS.out) (show (behT xs (rd us)).2 ≠ 0 by rw [HBE.out]; exact h6)
                rw [HM.out.1] at hce
                have h7 : ee = 3 := by
                  have := HBE.out
                  unfold behT at this
                  split at this
                  · simp only [Prod.mk.injEq] at this; exact absurd this.2.symm h6
                  · simp only [Prod.mk.injEq] at this; exact this.2.symm
                subst h7
                simp only [Prod.mk.injEq] at hce
                obtain ⟨rfl, rfl⟩ := hce
                clear hsrc ho5 hr5
                go_wp2
                exact bodyPost_ret (v := .tuple #[.slice none 0 0, .int .i64 3]) (by simp [results, Try.results24, go_sem]) rfl ⟨_, [], rfl, rfl, .inl ⟨rfl, rfl⟩, bt bW1 B5⟩
        · have hns : ns.map (fun n => rd n.2) = (rd ts).map fun p => pre p.1 (rd us) := by
            have := HD.out.1
            unfold Thd at this
            rw [List.take_of_length_le (by rw [rd_len]; omega)] at this
            exact this
          have hall := HD.out.2.2
          rw [List.take_of_length_le (by rw [rd_len]; omega)] at hall
          have kch := chainR_any (fun x => pre x (rd us)) wr.heap.size (.slice a ts.length c) (.slice pa ns.length pc) ts ns wr (Nat.le_refl _) ((HP.out.at hB bw).mono (by omega)) (HD.out.2.1.dss (by have := HDL.out; omega)) HM.out.2.1 hns l er (by rw [← both_same HM.out.2.2 hall]; exact HM.out.1)
          clear hns hall
          go_wp2_with fail
          refine kch.mono ?_
          rintro e w5 ⟨v5, xs, rfl, k1, k2, k3⟩
          obtain ⟨b5, d5, rfl⟩ := k2.slice
          clear kch
          go_wp2
          exact bodyPost_ret (v := .tuple #[.slice b5 xs.length d5, .int .i64 er]) (by simp [results, Try.results24, go_sem]) rfl ⟨_, xs, rfl, k1, k2.mono (by omega), bt bw k3⟩
    · have h5' : (e2 == 0) = false := by simpa using h5
      have hm := HR.out.1
      unfold bothT twoE at hm
      rw [HR.out.2.1, HR.out.2.2] at hm
      simp only [if_true, h5, if_false, Prod.mk.injEq] at hm
      obtain ⟨rfl, rfl⟩ := hm
      go_wp2
      exact bodyPost_ret (v := .tuple #[.slice none 0 0, .int .i64 e2]) (by simp [results, Try.results24, go_sem]) rfl ⟨_, [], rfl, rfl, .inl ⟨rfl, rfl⟩, b2⟩
  · have h0' : (e1 == 0) = false := by simpa using h0
    have hm := HR.out.1
    unfold bothT twoE at hm
    rw [HR.out.2.1] at hm
    simp only [h0, if_false, Prod.mk.injEq] at hm
    obtain ⟨rfl, rfl⟩ := hm
    go_wp2
    exact bodyPost_ret (v := .tuple #[.slice none 0 0, .int .i64 e1]) (by simp [results, Try.results24, go_sem]) rfl ⟨_, [], rfl, rfl, .inl ⟨rfl, rfl⟩, h3⟩
end Go.Proofs.Ytcglfojbgdlbhaa
