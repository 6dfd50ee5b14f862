import Derived.Test.YtkpjjiomfgkobaaPnr
namespace Go.Proofs.Ytkpjjiomfgkobaa
open Go.RowKit Go.Shelf Go.Proofs.Ytkpjjiomfgkobaa.Ds
attribute [local go_sem] Oper.semAt_some

set_option maxRecDepth 100000 in
set_option maxHeartbeats 8000000 in
theorem pnear_any (B : Nat) (cu ru : Value) (l : List Col) (ts : List Rw) (w : World) (hB : B ≤ w.heap.size) (hp : Cols w B cu l) (hq : Rws w B ru ts) (C : List (List Col × List (List Int))) (hr : neaT l (rr ts) = C) :
    Calls Try.prog 18 #[.agg #[cu, ru]] w (NearP C w) := by
  have HP : Hid (Cols w B cu l) := hp
  have HQ : Hid (Rws w B ru ts) := hq
  have HC : Hid (neaT l (rr ts) = C) := hr
  obtain ⟨a, c, rfl, hc, hl⟩ := hp.slice
  obtain ⟨a2, c2, rfl, hc2, hl2⟩ := hq.slice
  obtain ⟨er, her⟩ : ∃ er, Hid (wroE l (rr ts) = er) := ⟨_, rfl⟩
  obtain ⟨W, hW⟩ : ∃ W, (w.alloc (.cells #[.slice a l.length c, .slice a2 ts.length c2] 25)).alloc (.cells #[.slice none 0 0] 39) = W := ⟨_, rfl⟩
  have hbW : Below w.heap.size w W := by rw [← hW]; exact bal (ba _ _) _
  have hsW : W.heap.size = w.heap.size + 2 := by rw [← hW]; simp
  have p0 : W.cell? ⟨w.heap.size, 0, none⟩ = some (.slice a l.length c) := by rw [← hW]; simp [go_sem]
  have p1 : W.cell? ⟨w.heap.size, 1, none⟩ = some (.slice a2 ts.length c2) := by rw [← hW]; simp [go_sem]
  have HL0 : Hid (Boxed W (w.heap.size + 1) 39 (.slice none 0 0)) := by rw [← hW]; exact boxed_new1 _ _ _ _
  have krn := rnear_any B _ _ l ts W (by omega) (HP.out.at hB hbW) (HQ.out.at hB hbW) er her.out
  clear hr
  refine (callsIn_wide (n := 8)).1 ?_
  refine callsIn_of_wp_marks Try.func18 rfl trivial ?_ rfl
  simp only [Try.ntmps18, List.size_toArray, List.length_cons, List.length_nil, Nat.reduceAdd, Nat.reduceSub, Array.replicate_succ, Array.replicate_zero, List.push_toArray, List.append_toArray, List.nil_append, List.cons_append]
  gi_wp2_with fail
  clear hW
  refine ⟨trivial, ?_⟩
  refine (callsIn_wide.2 krn).mono ?_
  rintro e w1 (⟨h0, rfl, hb1⟩ | ⟨h0, Bc, Br, Bk, b, o, cc, kb, ko, kc, rfl, hF, hcc, hkc, hnm, hK, hb1⟩)
  · obtain rfl : [] = C := by rw [← HC.out, neaT, her.out, if_neg h0]
    have HL1 : Hid (Boxed w1 (w.heap.size + 1) 39 (.slice none 0 0)) := boxed_below HL0.out hb1
    have hb01 : Below w.heap.size w w1 := bt hbW hb1
    have hs1 := hb1.size
    clear krn p0 p1
    gi_wp2_with fail
    refine rangeW (β := Unit) (K := fun _ => False) (by omega) (gf := 42) (lb := #[]) rfl (enters_of Try.func42 (by kernel_rfl) rfl) (Hd := fun _ _ _ _ => False) (S := [])
      (fun W0 _ _ => none_seq 7 _ _ W0) (fun _ h => h.elim) (fun _ _ _ _ h => h.elim) (fun _ _ W => Boxed W (w.heap.size + 1) 39 (.slice none 0 0) ∧ Below w.heap.size w W) (fun _ _ _ => False) ?cl (fun _ _ _ _ _ _ h _ _ => h.elim) ?st (fun _ _ _ _ _ _ => False) (fun _ _ _ _ _ _ _ _ _ _ h => h.elim) (fun _ _ _ _ _ _ _ _ _ _ _ _ h => h.elim) (fun _ _ _ _ _ _ _ _ _ _ _ h => h.elim) ?done (fun _ _ _ _ _ _ h _ => h.elim)
    case cl =>
      rintro m pre A A' row hm ⟨h1, h2⟩ hg hr
      exact ⟨boxed_gb h1 hg (fun e => by have := hr _ e; omega), h2.grown hg h2.size (fun k e => by have := hr k e; omega)⟩
    case st => exact fun W' hg => ⟨boxed_gb HL1.out hg (by simp), hb01.grown hg hb01.size (by simp)⟩
    case done =>
      rintro D m V hD hDm ⟨h1, h2⟩ hd
      have HV : Hid (Below w.heap.size w V) := h2
      have HD : Hid (V.heap[D]? = some (.deferred (some []))) := hd
      have HLV : Hid (Boxed V (w.heap.size + 1) 39 (.slice none 0 0)) := h1
      obtain ⟨V1, hV1⟩ : ∃ V1, ((V.alloc (.cells #[.int .i64 0] 3)).alloc (.cells #[.bool true] 4)).alloc (.cells #[.bool false] 4) = V1 := ⟨_, rfl⟩
      have hbV : Below V.heap.size V V1 := by rw [← hV1]; exact bal (bal (ba _ _) _) _
      have t1 := (boxed_below HLV.out hbV).cell
      have t2 : V1.cell? ⟨V.heap.size + 1, 0, none⟩ = some (.bool true) := by rw [← hV1]; simp [go_sem]
      have kno := none_any (.func (.func 38) #[] #[.pointer (some ⟨V.heap.size + 1, 0, none⟩), .pointer (some ⟨V.heap.size + 1 + 1, 0, none⟩), .pointer (some ⟨V.heap.size, 0, none⟩), .pointer (some ⟨w.heap.size + 1, 0, none⟩)]) V1
      clear h1 h2 hd
      have HV1 : Hid (((V.alloc (.cells #[.int .i64 0] 3)).alloc (.cells #[.bool true] 4)).alloc (.cells #[.bool false] 4) = V1) := hV1
      clear hV1
      gi_wp2_with fail
      rw [HV1.out]
      clear HV1
      refine ⟨trivial, ?_⟩
      refine (callsIn_wide.2 kno).mono ?_
      rintro e V2 ⟨⟨u, rfl⟩, rfl⟩
      clear kno
      gi_wp2
      gi_region
      gi_wp2
      have HD2 : V2.drew.heap[D]? = some (.deferred (some [])) := (hbV.block D (Array.getElem?_eq_some_iff.1 HD.out).1).trans HD.out
      have hb2 : Below w.heap.size w V2.drew := (bt HV.out hbV).drew
      refine ⟨by simp, .inl ⟨_, _, rfl, run_takeDeferred HD2, ?_⟩⟩
      exact ⟨_, results_tmp2 rfl _ _ _, _, [], rfl, tbs_nil _ _, rfl, hb2.trans (belowK_b (w := w) (Nat.le_refl _) V2.drew D _ _ (by omega) HD2 rfl rfl)⟩
  · subst h0
    obtain ⟨cs, hcs⟩ : ∃ q, Hid (celT l (rr ts) = q) := ⟨_, rfl⟩
    obtain ⟨room, hroom⟩ : ∃ q, Hid (decide (ts.length < 4096) = q) := ⟨_, rfl⟩
    rw [hcs.out] at hF hcc
    rw [hroom.out] at hF
    have hw := wroE_ok her.out
    have hcl := colE_ok hw.1
    have hcsl : cs.length = prd l := by rw [← hcs.out, celT_len]
    have hcs4 : cs.length ≤ 4096 := by rw [hcsl]; exact hcl.2.2.2.1
    have hcs0 : cs ≠ [] := by
      intro h
      have := prd_pos hcl.2.2.1
      rw [h] at hcsl
      simp at hcsl
      omega
    have HBD : Hid (∀ x ∈ cs, 0 ≤ x ∧ x ≤ 4096) := by
      intro x hx
      rw [← hcs.out] at hx
      have := celT_bd hx
      have := hw.2.1
      omega
    have h6 : l.length ≤ 6 := hcl.2.1
    have HCC : Hid ((nbL cs room cs.length).map (tabOf l) = C) := by
      rw [Hid, ← HC.out, neaT, if_pos her.out, hcs.out, hcsl, rr_len, hroom.out]
    have hSl : (nbL cs room cs.length).length ≤ 8192 := by have := nbL_count cs room cs.length; omega
    have HF1 : Hid (NeaF Bc Br Bk b o cc kb ko kc cs room l w1) := hF
    have HNM : Hid (NmS l) := hnm
    have HL1 : Hid (Boxed w1 (w.heap.size + 1) 39 (.slice none 0 0)) := boxed_below HL0.out hb1
    have hb01 : Below w.heap.size w w1 := bt hbW hb1
    have hs1 := hb1.size
    obtain ⟨i25, hi25, hz0, hz1, hz2⟩ := info_parts info25
    have HKK : Hid (∀ x, x = Bc ∨ x = Br ∨ x = b ∨ x = Bk ∨ x = kb → W.heap.size ≤ x ∧ x < w1.heap.size) := hK
    have nfk : ∀ A A' : World, NeaF Bc Br Bk b o cc kb ko kc cs room l A → Kpt (fun x => x = Bc ∨ x = Br ∨ x = b ∨ x = Bk ∨ x = kb) A A' → NeaF Bc Br Bk b o cc kb ko kc cs room l A' := fun A A' h k => h.kpt k (.inl rfl) (.inr (.inl rfl)) (.inr (.inr (.inl rfl))) (.inr (.inr (.inr (.inl rfl)))) (.inr (.inr (.inr (.inr rfl))))
    have HNFK : Hid (∀ A A' : World, NeaF Bc Br Bk b o cc kb ko kc cs room l A → Kpt (fun x => x = Bc ∨ x = Br ∨ x = b ∨ x = Bk ∨ x = kb) A A' → NeaF Bc Br Bk b o cc kb ko kc cs room l A') := nfk
    clear krn p0 p1 hF hnm hK hw hcl nfk
    gi_wp2_with fail
    refine rangeW (K := fun x => x = Bc ∨ x = Br ∨ x = b ∨ x = Bk ∨ x = kb) (by omega) (gf := 43) (lb := #[.pointer (some ⟨Bc, 0, none⟩), .pointer (some ⟨Br, 0, none⟩), .pointer (some ⟨Bk, 0, none⟩)]) rfl (enters_of Try.func43 (by kernel_rfl) rfl) (Hd := HdT l) (S := nbL cs room cs.length)
      ?seq (fun x h => (HKK.out x h).2) ?hps (PnI (w.heap.size + 1) w.heap.size w l (fun V => NeaF Bc Br Bk b o cc kb ko kc cs room l V ∧ w1.heap.size ≤ V.heap.size)) (fun _ _ _ => False) ?cl (fun _ _ _ _ _ _ h _ _ => h.elim) ?st
      (fun m pre xs act Wc V => ∃ X cv rv us, act = { tmps := #[.agg #[.slice a l.length c, .slice a2 ts.length c2], .pointer (some ⟨w.heap.size, 0, none⟩), .slice none 0 0, .bool false, .pointer (some ⟨w.heap.size + 1, 0, none⟩), .func (.func 43) #[] #[.pointer (some ⟨Bc, 0, none⟩), .pointer (some ⟨Br, 0, none⟩), .pointer (some ⟨Bk, 0, none⟩)], .pointer (some ⟨X, 0, none⟩), undef, undef, undef, .agg #[.slice a l.length c, .slice a2 ts.length c2], .func (.func 43) #[] #[.pointer (some ⟨Bc, 0, none⟩), .pointer (some ⟨Br, 0, none⟩), .pointer (some ⟨Bk, 0, none⟩)], .func (.func 43) #[] #[.pointer (some ⟨Bc, 0, none⟩), .pointer (some ⟨Br, 0, none⟩), .pointer (some ⟨Bk, 0, none⟩)], .agg #[cv, rv], undef, undef, undef, undef, undef, undef, undef, undef, undef], defers := [] } ∧ TwoB V X cv rv ∧ Wc.heap.size ≤ X ∧ Cols V V.heap.size cv (froC l xs) ∧ Rws V V.heap.size rv us ∧ rr us = froT l xs ∧ Adr (fun b => Wc.heap.size ≤ b ∧ b < V.heap.size) cv ∧ AdrR (fun b => Wc.heap.size ≤ b ∧ b < V.heap.size) rv us ∧ Below Wc.heap.size Wc V ∧ PnI (w.heap.size + 1) w.heap.size w l (fun V => NeaF Bc Br Bk b o cc kb ko kc cs room l V ∧ w1.heap.size ≤ V.heap.size) m pre Wc)
      ?ax ?assign ?body ?done (fun _ _ _ _ _ _ h _ => h.elim)
    case seq =>
      intro W0 hg hz
      have hk : Kpt (fun x => x = Bc ∨ x = Br ∨ x = b ∨ x = Bk ∨ x = kb) w1 W0 := ⟨hg.size, fun x hx => hg.block x (HKK.out x hx).2 (by simp)⟩
      exact near2_seq 7 (by omega) Bc Br Bk b o cc kb ko kc cs room l _ W0 hcs0 hcs4 HBD.out (HNFK.out _ _ HF1.out hk) hcc hkc h6 HNM.out (.inl rfl) (.inr (.inl rfl)) (.inr (.inr (.inl rfl))) (.inr (.inr (.inr (.inl rfl)))) (.inr (.inr (.inr (.inr rfl)))) (fun x hx => by have := (HKK.out x hx).2; omega)
    case hps => rintro x Wc V args ⟨cv, rv, us, rfl, _⟩; rfl
    case cl =>
      refine pnI_clo (by omega) (by omega) (Nat.le_refl _) (fun A A' row h hg hr => ⟨HNFK.out _ _ h.1 ⟨hg.size, fun x hx => ?_⟩, Nat.le_trans h.2 hg.size⟩)
      have h1 := (HKK.out x hx).2
      have h2 := h.2
      exact hg.block x (by omega) (fun e2 => by have := hr x e2.symm; omega)
    case st =>
      intro W' hg
      have hk : Kpt (fun x => x = Bc ∨ x = Br ∨ x = b ∨ x = Bk ∨ x = kb) w1 W' := ⟨hg.size, fun x hx => hg.block x (HKK.out x hx).2 (by simp)⟩
      exact ⟨⟨_, [], boxed_gb HL1.out hg (by simp), Tbr.nil _ _, rfl, by simp⟩, ⟨HNFK.out _ _ HF1.out hk, hg.size⟩, hb01.grown hg hb01.size (by simp)⟩
    case ax =>
      rintro m pre xs act Wc V ob hm hmc hb ⟨X, cv, rv, us, rfl, g1, g2, g3, g4, g5, g6, g7, g8, g9⟩
      have hg := grownBy_putObj' V (w1.heap.size + 1) ob
      have hz1 : (V.putObj (w1.heap.size + 1) ob).heap.size = V.heap.size := by simp
      have hz2 : (Wc.putObj (w1.heap.size + 1) ob).heap.size = Wc.heap.size := by simp
      have hclo : Clo w1.heap.size (PnI (w.heap.size + 1) w.heap.size w l (fun V => NeaF Bc Br Bk b o cc kb ko kc cs room l V ∧ w1.heap.size ≤ V.heap.size)) := by
        refine pnI_clo (by omega) (by omega) (Nat.le_refl _) (fun A A' row h hg hr => ⟨HNFK.out _ _ h.1 ⟨hg.size, fun x hx => ?_⟩, Nat.le_trans h.2 hg.size⟩)
        have h1 := (HKK.out x hx).2
        have h2 := h.2
        exact hg.block x (by omega) (fun e2 => by have := hr x e2.symm; omega)
      refine ⟨X, cv, rv, us, rfl, g1.gb hg (by simp; omega), by omega, ?_, ?_, g5, ?_, ?_, ?_, ?_⟩
      · rw [hz1]; exact g3.gb hg (g6.imp fun b hb => by simp; omega)
      · rw [hz1]; exact g4.gb hg (g7.imp fun b hb => by simp; omega)
      · rw [hz1, hz2]; exact g6
      · rw [hz1, hz2]; exact g7
      · exact below_put g8 (by omega) _
      · exact hclo m pre Wc _ _ (by omega) g9 (grownBy_putObj' _ _ _) (fun r e => by cases e; omega)
    case assign =>
      rintro l' m pre xs Wc W1 args hm hmc _ hi hb ⟨cv, rv, us, rfl, g3, g4, g5, g6, g7⟩
      obtain ⟨ca, cn, rfl, _, _⟩ := g3.slice
      obtain ⟨ra, rn, rfl, _, _⟩ := g4.slice
      have hb2 := hb.size
      gi_wp2
      exact ⟨ba _ _, W1.heap.size, _, _, us, rfl, TwoB.new _ _ _ _ _ rfl, hb2, (g3.at (Nat.le_refl _) (ba _ _)).mono (by simp), (g4.at (Nat.le_refl _) (ba _ _)).mono (by simp), g5, g6.imp (fun b h => ⟨h.1, by simp; omega⟩), g7.imp (fun b h => ⟨h.1, by simp; omega⟩), bal hb _, hi⟩
    case body =>
      rintro l' m pre xs act Wc W2 hm hmc hpx hb ⟨X, cv, rv, us, rfl, g1, g2, g3, g4, g5, g6, g7, _, ⟨lv, tb, e1, e2, e3, e4⟩, ⟨e5, e6⟩, e7⟩
      have hs2 := hb.size
      have htl : tb.length = pre.length := by have := congrArg List.length e3; simpa using this
      have hpl : pre.length < 8192 := by
        have := hpx.length_le
        simp at this
        omega
      have htl2 : tb.length < 8192 := by omega
      clear htl hpl
      have b1 := boxed_below e1 hb
      have b2 := e2.keep hb
      obtain ⟨la, lc, rfl⟩ := e2.slice
      obtain ⟨ca, cn, rfl, _, _⟩ := g3.slice
      obtain ⟨ra, rn, rfl, _, _⟩ := g4.slice
      have HOW : Hid ((W2.alloc (.cells #[.slice ca (froC l xs).length cn, .slice ra us.length rn] 25)).ownsRow m 25 2 (.slice la tb.length lc) tb.length (flatT tb)) := (b2.keep (ba _ _)).1
      have c1 := b1.cell
      have c2' := g1.c0
      have c3 := g1.c1
      have HT2 : Hid (Tbr W2 m (.slice la tb.length lc) tb) := b2
      have HB2 : Hid (Boxed W2 (w.heap.size + 1) 39 (.slice la tb.length lc)) := b1
      have HFr : Hid (∀ g, (Value.slice la tb.length lc).ownBlock = some g → m ≤ g ∧ g < Wc.heap.size) := e2.1.lt
      have HG : Hid (Cols W2 W2.heap.size (.slice ca (froC l xs).length cn) (froC l xs) ∧ Rws W2 W2.heap.size (.slice ra us.length rn) us ∧ rr us = froT l xs ∧ Adr (fun b => Wc.heap.size ≤ b ∧ b < W2.heap.size) (.slice ca (froC l xs).length cn) ∧ AdrR (fun b => Wc.heap.size ≤ b ∧ b < W2.heap.size) (.slice ra us.length rn) us) := ⟨g3, g4, g5, g6, g7⟩
      have HE : Hid (tb.map tc = pre.map (tabOf l) ∧ (∀ t ∈ tb, AdrT (fun b => m ≤ b ∧ b < Wc.heap.size) t) ∧ NeaF Bc Br Bk b o cc kb ko kc cs room l W2 ∧ Below w.heap.size w W2) := ⟨e3, e4, HNFK.out _ _ e5 (Kpt.of_below hb fun x hx => by have := (HKK.out x hx).2; omega), bt e7 hb⟩
      clear e1 e2 e3 e4 e5 e7 b1 b2 g3 g4 g5 g6 g7 hpx
      gi_wp2_with (gi_at_builtin; refine wpListIn_append_own_at _ rfl _ _ 39 rfl m 25 i25 (.agg #[.slice none 0 0, .slice none 0 0]) 2 48 Try.underlying39 hi25 hz0 hz1 hz2 rfl (by decide) (.slice la tb.length lc) tb.length (flatT tb) rfl HOW.out ⟨W2.heap.size, 0, none⟩ 1 1 [.slice ca (froC l xs).length cn, .slice ra us.length rn] rfl ?q1 ?q2 ?q3 ?q4 ?q5 ?q6 ?_)
      case q1 => rfl
      case q2 => exact two_cells W2 _ _ _
      case q3 => intro u hu; simp at hu; rcases hu with rfl | rfl <;> rfl
      case q4 => simp [maxLen]; omega
      case q5 => omega
      case q6 => simp; omega
      intro v' w5 hown hgrow hnil hat
      obtain ⟨na, nc', rfl⟩ := owns_slice hown
      have htlt : ∀ u ∈ tb ++ [Tb.mk (.slice ca (froC l xs).length cn) (.slice ra us.length rn) (froC l xs) us], AdrT (fun b => m ≤ b ∧ b < W2.heap.size) u := by
        intro u hu
        rcases List.mem_append.1 hu with hu | hu
        · exact (HE.out.2.1 u hu).imp fun b h => ⟨h.1, by omega⟩
        · obtain rfl := List.mem_singleton.1 hu
          exact ⟨HG.out.2.2.2.1.imp fun b h => ⟨by omega, h.2⟩, HG.out.2.2.2.2.imp fun b h => ⟨by omega, h.2⟩⟩
      have HT5 : Tbr w5 m (.slice na (tb.length + 1) nc') (tb ++ [Tb.mk (.slice ca (froC l xs).length cn) (.slice ra us.length rn) (froC l xs) us]) := by
        refine (HT2.out.keep (ba _ _)).app (t := Tb.mk (.slice ca (froC l xs).length cn) (.slice ra us.length rn) (froC l xs) us) hown hgrow (by simpa using hat) ?_ ?_ ?_
        · exact ⟨(HG.out.1.at (Nat.le_refl _) (ba _ _)).mono (by simp), (HG.out.2.1.at (Nat.le_refl _) (ba _ _)).mono (by simp)⟩
        · exact ⟨HG.out.2.2.2.1.imp fun b h e => by have := (HFr.out b e).2; omega, HG.out.2.2.2.2.imp fun b h e => by have := (HFr.out b e).2; omega⟩
        · exact fun u hu => (htlt u hu).imp fun b h => by simp; omega
      have hB5 : Boxed w5 (w.heap.size + 1) 39 (.slice la tb.length lc) := boxed_gb (HB2.out.alloc _) hgrow (fun e => by have := (HFr.out _ e).1; omega)
      have d1 := hB5.cell
      have d2 := hB5.frozen
      have hg6 : w5.grownBy (w5.setCell ⟨w.heap.size + 1, 0, none⟩ (.slice na (tb.length + 1) nc')) (some (w.heap.size + 1)) := gb_set (gb_refl _ _) 0 _
      have hs5 := hgrow.size
      simp only [World.size_alloc] at hs5
      have HK6 : Hid (Kpt (fun x => (x = Bc ∨ x = Br ∨ x = b ∨ x = Bk ∨ x = kb) ∨ (w1.heap.size ≤ x ∧ x < m)) W2 (w5.setCell ⟨w.heap.size + 1, 0, none⟩ (.slice na (tb.length + 1) nc'))) := by
        have hx1 : ∀ x, ((x = Bc ∨ x = Br ∨ x = b ∨ x = Bk ∨ x = kb) ∨ (w1.heap.size ≤ x ∧ x < m)) → W.heap.size ≤ x ∧ x < m := by
          rintro x (h | h)
          · have := HKK.out x h; omega
          · omega
        refine (Kpt.of_below (ba W2 _) fun x h => by have := hx1 x h; omega).trans ((Kpt.of_gb hgrow fun x h => ⟨by have := hx1 x h; simp; omega, fun e => by have := (HFr.out x e).1; have := hx1 x h; omega⟩).trans (Kpt.of_gb hg6 fun x h => ⟨by have := hx1 x h; omega, by have := hx1 x h; simp; omega⟩))
      have hT6 := HT5.gb hg6 (fun g e => by have h := (HT5.1.lt g e).1; simp; omega) (fun t ht => (htlt t ht).imp fun b h => by simp; omega)
      have HI6 : Hid (PnI (w.heap.size + 1) w.heap.size w l (fun V => NeaF Bc Br Bk b o cc kb ko kc cs room l V ∧ w1.heap.size ≤ V.heap.size) m (pre ++ [xs]) (w5.setCell ⟨w.heap.size + 1, 0, none⟩ (.slice na (tb.length + 1) nc'))) := by
        refine ⟨⟨_, _, Boxed.set _ hB5, hT6, ?_, fun t ht => (htlt t ht).imp fun b h => ⟨h.1, by simp; omega⟩⟩, ⟨HNFK.out _ _ HE.out.2.2.1 (HK6.out.imp fun x h => .inl h), by simp; omega⟩, ?_⟩
        · rw [List.map_append, List.map_append, HE.out.1]
          simp [tc, tabOf, HG.out.2.2.1]
        · exact ((HE.out.2.2.2.alloc HE.out.2.2.2.size _).grown hgrow (by have := HE.out.2.2.2.size; simp; omega) (fun g e => by have := (HFr.out g e).1; omega)).setCell (p := ⟨w.heap.size + 1, 0, none⟩) (by simp) _
      clear hown hgrow hnil hat htlt HT5 hB5 hg6 hT6
      gi_wp2
      exact ⟨HI6.out, HK6.out⟩
    case done =>
      rintro D m V hD hDm ⟨⟨lv, tb, e1, e2, e3, e4⟩, ⟨e5, e6⟩, e7⟩ hd
      have htl : tb.length = (nbL cs room cs.length).length := by have := congrArg List.length e3; simpa using this
      have hDlt : D < V.heap.size := (Array.getElem?_eq_some_iff.1 hd).1
      obtain ⟨V1, hV1⟩ : ∃ V1, ((V.alloc (.cells #[.int .i64 0] 3)).alloc (.cells #[.bool true] 4)).alloc (.cells #[.bool false] 4) = V1 := ⟨_, rfl⟩
      have hbV : Below V.heap.size V V1 := by rw [← hV1]; exact bal (bal (ba _ _) _) _
      have hzV : V1.heap.size = V.heap.size + 3 := by rw [← hV1]; simp
      have k1 : Boxed V1 V.heap.size 3 (.int .i64 0) := by rw [← hV1]; exact ((Boxed.new V 3 _).alloc _).alloc _
      have k2 : Boxed V1 (V.heap.size + 1) 4 (.bool true) := by rw [← hV1]; exact (boxed_new1 V _ 4 _).alloc _
      have k3 : Boxed V1 (V.heap.size + 1 + 1) 4 (.bool false) := by
        rw [← hV1]
        have h := boxed_new1 (V.alloc (.cells #[.int .i64 0] 3)) (.cells #[.bool true] 4) 4 (.bool false)
        rwa [World.size_alloc] at h
      have hlv : Adr (fun b => m ≤ b ∧ b < V.heap.size) lv := e2.adr
      have hlB : w.heap.size + 1 < V.heap.size := e1.lt
      have HS0 : Hid (PnS (V.heap.size + 1) (V.heap.size + 1 + 1) V.heap.size (w.heap.size + 1) V1.heap.size w.heap.size D w lv tb V1) :=
        ⟨k2, boxed_below e1 hbV, ((e2.tbs (by omega)).at (Nat.le_refl _) hbV).mono (by omega), (hbV.block D hDlt).trans hd, bt e7 hbV, Nat.le_refl _⟩
      have HNF : Hid (NeaF Bc Br Bk b o cc kb ko kc cs room l V1) := HNFK.out _ _ e5 (Kpt.of_below hbV fun x hx => by have := (HKK.out x hx).2; omega)
      have HTB : Hid (tb.map tc = (nbL cs room cs.length).map (tabOf l) ∧ (∀ t ∈ tb, AdrT (fun b => m ≤ b ∧ b < V.heap.size) t) ∧ Adr (fun b => m ≤ b ∧ b < V.heap.size) lv ∧ tb.length = (nbL cs room cs.length).length) := ⟨e3, e4, hlv, htl⟩
      have hclo : ∀ (X : Nat → List (List Int) → World → Prop), X = PnX (V.heap.size + 1) (V.heap.size + 1 + 1) V.heap.size (w.heap.size + 1) V1.heap.size w.heap.size D w lv tb → Clo V1.heap.size X := by
        rintro X rfl m' pre A A' row hm hj hg hr
        exact PnS.gb hj hg (fun r e => (hr r e).1) (by omega) (by omega) (by omega) (by omega) (Nat.le_refl _) (hlv.imp fun b h => by omega) (fun t ht => (e4 t ht).imp fun b h => by omega)
      have kf := near2_fun 7 (by omega) (V.heap.size + 1) (V.heap.size + 1 + 1) V.heap.size (w.heap.size + 1)
        (PnJ (V.heap.size + 1) (V.heap.size + 1 + 1) V.heap.size (w.heap.size + 1) V1.heap.size w.heap.size D w lv tb)
        (PnX (V.heap.size + 1) (V.heap.size + 1 + 1) V.heap.size (w.heap.size + 1) V1.heap.size w.heap.size D w lv tb)
        Bc Br Bk b o cc kb ko kc cs room l (fun x => x = Bc ∨ x = Br ∨ x = b ∨ x = Bk ∨ x = kb) V1 hcs0 hcs4 HBD.out HNF.out hcc hkc h6 HNM.out (.inl rfl) (.inr (.inl rfl)) (.inr (.inr (.inl rfl))) (.inr (.inr (.inr (.inl rfl)))) (.inr (.inr (.inr (.inr rfl)))) (fun x hx => by have := (HKK.out x hx).2; omega)
        (by
          rintro m' pre A A' row hm ⟨hj, hn, hkk⟩ hg hr
          exact ⟨hclo _ rfl m' pre A A' row hm hj hg hr, boxed_gb hn hg (fun e => by have := (hr _ e).1; omega), boxed_gb hkk hg (fun e => by have := (hr _ e).1; omega)⟩)
        (hclo _ rfl)
        (fun W' hg => ⟨HS0.out.gb hg (by simp) (by omega) (by omega) (by omega) (by omega) (Nat.le_refl _) (hlv.imp fun b h => by omega) (fun t ht => (e4 t ht).imp fun b h => by omega), boxed_gb k3 hg (by simp), boxed_gb k1 hg (by simp)⟩)
        (by
          rintro m' pre x Wc V2 args hm hmc hpx ⟨hj, hn, hkk⟩ hbb ⟨cv, rv, us, rfl, g3, g4, g5, g6, g7⟩
          have hpl : pre.length < tb.length := by
            have := hpx.length_le
            simp at this
            omega
          have hT2 : Tbs V2 V1.heap.size lv tb := hj.tbs.keep (hbb.mono (by omega))
          obtain ⟨la, lc, rfl, _, _⟩ := hT2.slice
          have hs2 := hbb.size
          obtain ⟨lb, lo, t, ca, cn, ra, rn, rfl, hlb, hgt, hcv, hrv, f1, f2, hok⟩ := hT2.get (by omega) (Below.refl _ _) hpl
          have hlbV := hlv lb lo _ _ rfl
          have hta := e4 t (List.mem_of_getElem? hgt)
          have hsame : rr us = rr t.ts := by
            have h1 : (tb.map tc)[pre.length]? = some (tc t) := by simp [hgt]
            obtain ⟨rest, hrest⟩ := hpx
            rw [e3, ← hrest] at h1
            have h2 : tabOf l x = tc t := by simpa using h1
            have h3 := congrArg Prod.snd h2
            simp only [tabOf, tc] at h3
            rw [g5, h3]
          have kn := near38_any (V.heap.size + 1) (V.heap.size + 1 + 1) V.heap.size (w.heap.size + 1) pre.length tb.length w.heap.size lb lo lc ra rn cv rv (froC l x) us t.ts V2
            (boxed_below hj.okb hbb) (boxed_below hn hbb) (boxed_below hkk hbb) (boxed_below hj.lbx hbb) hpl (by omega) (by omega) (by omega) (by omega) ⟨by omega, by omega, by omega⟩ ⟨by omega, by omega, by omega⟩ (by omega)
            g3 g4 (g7.imp fun b h => ⟨h.2, by omega⟩) f2 (by rw [← hrv]; exact hok.2.mono (by omega)) (by rw [← hrv]; exact hta.2.imp fun b h => ⟨by omega, by omega⟩) hsame (by omega) (by omega) (by omega)
          refine kn.mono ?_
          rintro e V3 ⟨rfl, r1, r2, r3, r4, r5⟩
          have hS3 : PnS (V.heap.size + 1) (V.heap.size + 1 + 1) V.heap.size (w.heap.size + 1) V1.heap.size w.heap.size D w (.slice (some ⟨lb, lo, none⟩) tb.length lc) tb V3 := by
            refine ⟨r1, boxed_kpt (boxed_below hj.lbx hbb) r4 ⟨by omega, by omega, by omega, by omega⟩, hT2.kpt r4 (hlv.imp fun b h => ⟨by omega, by omega, by omega, by omega⟩) (fun t ht => (e4 t ht).imp fun b h => ⟨by omega, by omega, by omega, by omega⟩), ?_, (bt hj.low hbb).trans r5, by have := r4.size; omega⟩
            exact (r4.same D ⟨by omega, by omega, by omega, by omega⟩).trans ((hbb.block D (by omega)).trans hj.dfr)
          have hK3 : Kpt (fun b_1 => (b_1 = Bc ∨ b_1 = Br ∨ b_1 = b ∨ b_1 = Bk ∨ b_1 = kb) ∨ (V1.heap.size ≤ b_1 ∧ b_1 < m')) V2 V3 := by
            refine r4.imp ?_
            rintro y (h | h)
            · have := (HKK.out y h).2; exact ⟨by omega, by omega, by omega, by omega⟩
            · exact ⟨by omega, by omega, by omega, by omega⟩
          by_cases hcmp : tb.length / 2 < pre.length + 1
          · right
            exact ⟨by rw [decide_eq_false (by omega)], hS3, hK3⟩
          · left
            refine ⟨by rw [decide_eq_true hcmp], ⟨hS3, ?_, ?_⟩, hK3⟩
            · rw [decide_eq_false hcmp] at r2; exact r2
            · have h : (pre ++ [x]).length = pre.length + 1 := by simp
              rw [h]; exact r3)
      have HV1 : Hid (((V.alloc (.cells #[.int .i64 0] 3)).alloc (.cells #[.bool true] 4)).alloc (.cells #[.bool false] 4) = V1) := hV1
      clear hV1 e1 e2 e3 e4 e5 e7 hd k1 k2 k3 hclo htl hlv
      gi_wp2_with fail
      rw [HV1.out]
      clear HV1
      refine ⟨trivial, ?_⟩
      refine (callsIn_any kf).mono ?_
      rintro e V4 ⟨⟨u, rfl⟩, m', hm', hres⟩
      have hS4 : PnS (V.heap.size + 1) (V.heap.size + 1 + 1) V.heap.size (w.heap.size + 1) V1.heap.size w.heap.size D w lv tb V4 := by
        rcases hres with h | ⟨pre, h⟩
        · exact h.1
        · exact h
      have HS4 : Hid (PnS (V.heap.size + 1) (V.heap.size + 1 + 1) V.heap.size (w.heap.size + 1) V1.heap.size w.heap.size D w lv tb V4) := hS4
      have t1 := hS4.okb.cell
      have t2 := hS4.lbx.cell
      obtain ⟨la, lc, rfl, _, _⟩ := hS4.tbs.slice
      clear kf hres hS4
      gi_wp2
      gi_region
      gi_wp2
      have HD2 : V4.drew.heap[D]? = some (.deferred (some [])) := HS4.out.dfr
      have hb2 : Below w.heap.size w V4.drew := HS4.out.low.drew
      have hs4 := HS4.out.sz
      refine ⟨by simp, .inl ⟨_, _, rfl, run_takeDeferred HD2, ?_⟩⟩
      have hk5 : Kpt (fun b => b ≠ D) V4 (V4.drew.putObj D (.deferred none)) := by
        have h := Kpt.put (K := fun b => b ≠ D) V4.drew D (.deferred none) (fun h => h rfl)
        exact ⟨h.size, h.same⟩
      refine ⟨_, results_tmp2 rfl _ _ _, _, tb, rfl, ?_, HTB.out.1.trans HCC.out, hb2.trans (belowK_b (w := w) (Nat.le_refl _) V4.drew D _ _ (by omega) HD2 rfl rfl)⟩
      have hsz5 : (V4.drew.putObj D (.deferred none)).heap.size = V4.heap.size := by rw [World.putObj_size]; rfl
      rw [hsz5]
      exact (HS4.out.tbs.kpt hk5 (HTB.out.2.2.1.imp fun b h => by omega) (fun t ht => (HTB.out.2.1 t ht).imp fun b h => by omega)).mono hs4
end Go.Proofs.Ytkpjjiomfgkobaa
