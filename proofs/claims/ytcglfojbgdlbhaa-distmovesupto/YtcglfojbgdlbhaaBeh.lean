import Derived.Test.YtcglfojbgdlbhaaCon
namespace Go.Proofs.Ytcglfojbgdlbhaa
open Go.RowKit Go.Shelf Go.Proofs.Ytcglfojbgdlbhaa.Ds

/-- each behind x -/
def pre (x : List Int) (b : List Pt) : List Pt := b.map fun q => (x ++ q.1, q.2)
def behT (x : List Int) (b : List Pt) : List Pt × Int := if (pre x b).all okP then (pre x b, 0) else ([], 3)

theorem lsts_two (w : World) (C : Nat) (u v : Value) (xs ys : List Int) (hC : C ≤ w.heap.size) (hu : Ints w C C u xs) (hv : Ints w C C v ys) :
    Lsts (w.alloc (.cells #[u, v] 24)) (w.heap.size + 1) (.slice (some ⟨w.heap.size, 0, none⟩) 2 2) [(u, xs), (v, ys)] := by
  refine ⟨_, 2, rfl, by simp, by simp, fun z hz => ?_, fun _ => ⟨w.heap.size, 0, rfl, by omega, fun i z hi => ?_⟩⟩
  · simp at hz
    rcases hz with rfl | rfl
    · exact (hu.at hC (ba _ _)).mono (by omega) (.inr (by omega))
    · exact (hv.at hC (ba _ _)).mono (by omega) (.inr (by omega))
  · match i, hi with
    | 0, hi => simp at hi; subst hi; simp [go_sem]
    | 1, hi => simp at hi; subst hi; simp [go_sem]

/-- as far as one has come -/
def Bhd (x : List Int) (b : List Pt) (us : List Tr) (i : Nat) : Prop := us.length = b.length ∧ (rd us).take i = (pre x b).take i ∧ ((pre x b).take i).all okP = true
theorem Bhd.step {x : List Int} {b : List Pt} {us : List Tr} {i : Nat} {y : List Int} {k : Int} {s : Value} (h : Bhd x b us i) (hp : b[i]? = some (y, k)) (hk : okP (x ++ y, k) = true) : Bhd x b (us.set i (s, x ++ y, k)) (i + 1) := by
  obtain ⟨h1, h2, h3⟩ := h
  have hi := (List.getElem?_eq_some_iff.1 hp).1
  have hg : (pre x b)[i]? = some (x ++ y, k) := by simp [pre, hp]
  refine ⟨by simp [h1], ?_, ?_⟩
  · rw [rd_set, take_set_succ _ (by rw [rd_len]; omega), h2, List.take_add_one, hg]; rfl
  · rw [List.take_add_one, hg, List.all_append, h3]; simp [hk]

set_option maxHeartbeats 2000000 in
set_option maxRecDepth 100000 in
theorem behind_any (C D : Nat) (u v : Value) (xs : List Int) (ts : List Tr) (w : World) (hC : C ≤ w.heap.size) (hD : D ≤ w.heap.size) (hx : Ints w C C u xs) (hp : Parts w D v ts) (hxl : xs.length ≤ 16) (hd : Dis (rd ts)) (l : List Pt) (er : Int) (hr : behT xs (rd ts) = (l, er)) :
    Calls Try.prog 64 #[u, v] w fun e w' => ∃ v' us, e = .returned (.tuple #[v', .int .i64 er]) ∧ rd us = l ∧ OwnN w' w.heap.size v' us ∧ Below w.heap.size w w' ∧ Frs w.heap.size us := by
  have HP : Hid (Parts w D v ts) := hp
  have HX : Hid (Ints w C C u xs) := hx
  have HR : Hid (behT xs (rd ts) = (l, er) ∧ Dis (rd ts)) := ⟨hr, hd⟩
  obtain ⟨a, c, rfl, hc, hl, _⟩ := hp
  obtain ⟨xa, xc, rfl, _⟩ := hx
  obtain ⟨i0, hi, hz0, hz1, hz2⟩ := info_parts info32
  have hmk : ∀ u : World, (Instr.makeSlice 23 (.int .i64 (ts.length : Int)) (.int .i64 (ts.length : Int))).run Try.prog u =
      .ok (.slice (some ⟨u.heap.size, 0, none⟩) ts.length ts.length) (u.alloc (.cells (madeCells #[.slice none 0 0, .int .i64 0] (ts.length * 2)) 32)) := fun u => by
    have h := run_make (P := Try.prog) u 23 32 i0 (.agg #[.slice none 0 0, .int .i64 0]) Try.underlying23 hi hz0 .i64 .i64 (ts.length : Int) (ts.length : Int) (by omega) (Int.le_refl _) (by rw [hz2]; omega) (by omega)
    rw [Int.toNat_natCast] at h
    simpa [hz1, Value.cells] using h
  clear hr hd
  go_enter Try.func64, Try.ntmps64
  go_wp2
  go_loopw [14] (fun s wr => ∃ (i : Nat) (us : List Tr), s = .int .i64 (i : Int) ∧ i ≤ ts.length ∧ Hid (Bhd xs (rd ts) us i) ∧ Row wr w.heap.size 0 us ∧ (∀ t ∈ us, Ints wr wr.heap.size w.heap.size t.1 t.2.1) ∧ Below w.heap.size w wr ∧ Hid (Frs w.heap.size us)) (fun s _ => ts.length - (intOf s).toNat)
  case atStart =>
    refine ⟨0, List.replicate ts.length no, rfl, Nat.zero_le _, ⟨by simp [rd], by simp, by simp⟩, row_made _ _, fun t ht => ?_, ba _ _, fun t ht hne => ?_⟩
    · rw [List.eq_of_mem_replicate ht]
      exact ints_nil _ _ _
    · rw [List.eq_of_mem_replicate ht] at hne
      exact absurd rfl hne
  case round =>
    obtain ⟨i, us, rfl, hit, HT, hrow, hI, hbl, HFR⟩ := hrel
    have hul : us.length = ts.length := by have := HT.out.1; rw [rd_len] at this; exact this
    by_cases h1 : i < ts.length
    · obtain ⟨b, o, sa, sc, ys, k, rfl, hb, hs, c1, c2, hIx⟩ := HP.out.get hD hbl h1
      have HS : Hid ((rd ts)[i]? = some (ys, k)) := rd_get hs
      have hyl : ys.length ≤ 16 := by
        have h5 := dis_okO HR.out.2 (List.mem_of_getElem? HS.out)
        simp [okO] at h5
        exact h5.1
      obtain ⟨t0, ht0⟩ := get_lt (l := us) (i := i) (by omega)
      have r1 := hrow.cells i t0 ht0
      have r2 := hrow.thaw (i * 2) (by omega)
      have r3 := hrow.thaw (i * 2 + 1) (by omega)
      have HRo : Hid (Row wr w.heap.size 0 us ∧ us.length = ts.length) := ⟨hrow, hul⟩
      have HI : Hid (∀ t ∈ us, Ints wr wr.heap.size w.heap.size t.1 t.2.1) := hI
      have HIx : Hid (Ints wr D D (.slice sa ys.length sc) ys) := hIx
      have hs1 := hbl.size
      have hlt := hrow.lt
      obtain ⟨r4, r5⟩ := r1
      simp only [Nat.zero_add] at r2 r3 r4 r5
      obtain ⟨v0, hv0⟩ : ∃ v0, t0.1 = v0 := ⟨_, rfl⟩
      rw [hv0] at r4
      clear hs hrow hI hIx ht0 hv0 hul
      have r6 : ∀ o, (wr.alloc o).cell? ⟨w.heap.size, i * 2, none⟩ = some v0 := fun o => by rw [World.cell?_alloc_lt _ _ _ hlt]; exact r4
      have r7 : ∀ o, (wr.alloc o).cell? ⟨w.heap.size, i * 2 + 1, none⟩ = some (.int .i64 t0.2.2) := fun o => by rw [World.cell?_alloc_lt _ _ _ hlt]; exact r5
      have r8 : ∀ o, (wr.alloc o).frozen? ⟨w.heap.size, i * 2, none⟩ = false := fun o => by rw [(ba wr o).frozen hlt]; exact r2
      have r9 : ∀ o, (wr.alloc o).frozen? ⟨w.heap.size, i * 2 + 1, none⟩ = false := fun o => by rw [(ba wr o).frozen hlt]; exact r3
      go_wp2_with fail
      generalize hO : Obj.cells #[Value.slice sa ys.length sc, Value.int IntKind.i64 k] 32 = O
      have g1 : (wr.alloc O).cell? ⟨wr.heap.size, 0, none⟩ = some (.slice sa ys.length sc) := by rw [← hO]; simp [go_sem]
      have g2 : (wr.alloc O).cell? ⟨wr.heap.size, 1, none⟩ = some (.int .i64 k) := by rw [← hO]; simp [go_sem]
      have g3 := r6 O
      have g4 := r7 O
      have g5 := r8 O
      have g6 := r9 O
      have g7 : (wr.alloc O).heap.size = wr.heap.size + 1 := by simp
      obtain ⟨W, hW⟩ : ∃ W, wr.alloc O = W := ⟨_, rfl⟩
      have HW : Hid (Below wr.heap.size wr W) := hW ▸ ba wr O
      rw [hW] at g1 g2 g3 g4 g5 g6 g7 ⊢
      clear r2 r3 r4 r5 r6 r7 r8 r9 hO hW
      have HB : Below w.heap.size w W := bt hbl HW.out
      have ne1 : ¬ w.heap.size = wr.heap.size := by omega
      have ne2 : ¬ wr.heap.size = w.heap.size := by omega
      have lw1 : w.heap.size < W.heap.size := by omega
      have lw2 : wr.heap.size < W.heap.size := by omega
      have z1 : (0 : Int) ≤ (i : Int) := by omega
      have z2 : (i : Int) < (ts.length : Int) := by omega
      obtain ⟨WA, hWA0⟩ : ∃ WA, (W.alloc (.cells #[.slice xa xs.length xc, .slice sa ys.length sc] 24)).drew = WA := ⟨_, rfl⟩
      have hWA : Below W.heap.size W WA := by rw [← hWA0]; exact (bal (Below.refl _ _) _).drew
      have hWAs : WA.heap.size = wr.heap.size + 2 := by rw [← hWA0]; show (W.alloc _).heap.size = _; simp; omega
      have HL2 : Hid (Lsts WA (W.heap.size + 1) (.slice (some ⟨wr.heap.size + 1, 0, none⟩) 2 2) [(.slice xa xs.length xc, xs), (.slice sa ys.length sc, ys)]) := by
        rw [Hid, ← hWA0, ← g7]
        exact (lsts_two W W.heap.size _ _ xs ys (Nat.le_refl _) ((HX.out.at hC HB).mono (by omega) (.inr (by omega))) ((HIx.out.at (by omega) HW.out).mono (by omega) (.inr (by omega)))).keep (Below.refl _ _).drew
      have kcat := concat_any (W.heap.size + 1) (.slice (some ⟨wr.heap.size + 1, 0, none⟩) 2 2) [(.slice xa xs.length xc, xs), (.slice sa ys.length sc, ys)] WA (by omega) HL2.out (by simp) (by simp [cat]; omega)
      have ecat : cat [((.slice xa xs.length xc, xs) : Vl), (.slice sa ys.length sc, ys)] = xs ++ ys := by simp [cat]
      obtain ⟨zs, hzs⟩ : ∃ zs, xs ++ ys = zs := ⟨_, rfl⟩
      rw [ecat, hzs] at kcat
      have HZ : Hid (xs ++ ys = zs) := hzs
      clear hzs
      have HKC : Hid (Calls Try.prog 91 #[.slice (some ⟨wr.heap.size + 1, 0, none⟩) 2 2] WA fun e w' => ∃ v', e = .returned v' ∧ (∀ m, m < WA.heap.size → Ints w' w'.heap.size m v' zs) ∧ Below WA.heap.size WA w') := kcat
      have kA1 : WA.cell? ⟨wr.heap.size, 0, none⟩ = some (.slice sa ys.length sc) := (hWA.cell (p := ⟨wr.heap.size, 0, none⟩) lw2).trans g1
      have kA2 : WA.cell? ⟨wr.heap.size, 1, none⟩ = some (.int .i64 k) := (hWA.cell (p := ⟨wr.heap.size, 1, none⟩) lw2).trans g2
      have kB1 : (W.alloc (.cells #[.slice xa xs.length xc, .slice sa ys.length sc] 24)).cell? ⟨wr.heap.size, 0, none⟩ = some (.slice sa ys.length sc) := ((ba W _).cell (p := ⟨wr.heap.size, 0, none⟩) lw2).trans g1
      have kB2 : (W.alloc (.cells #[.slice xa xs.length xc, .slice sa ys.length sc] 24)).cell? ⟨wr.heap.size, 1, none⟩ = some (.int .i64 k) := ((ba W _).cell (p := ⟨wr.heap.size, 1, none⟩) lw2).trans g2
      have hza : 0 < WA.heap.size := by omega
      clear kcat ecat HL2
      go_region_held3 (fun w' => w'.cell? ⟨wr.heap.size, 0, none⟩ = some (.slice sa ys.length sc) ∧ w'.cell? ⟨wr.heap.size, 1, none⟩ = some (.int .i64 k))
        ((go_split_ands; refine ⟨?_, ?_⟩ <;> first | assumption | (simp [go_sem, *]; done)))
        ((go_at_call 91; refine HKC.out.mono ?_; rintro x1 w1 ⟨v', rfl, hI1, hb1⟩; obtain ⟨av, cv, hv1, _⟩ := hI1 0 hza; subst hv1; have hb2 : Below W.heap.size W w1 := (bt hWA hb1); obtain ⟨hc1, hf1⟩ := bcell hb2; have hs1' := hb2.size;
          have k1 : w1.cell? ⟨w.heap.size, i * 2, none⟩ = some v0 := (hc1 _ _ lw1).trans g3; have k2 : w1.cell? ⟨w.heap.size, i * 2 + 1, none⟩ = some (.int .i64 t0.2.2) := (hc1 _ _ lw1).trans g4; have k3 : w1.frozen? ⟨w.heap.size, i * 2, none⟩ = false := (hf1 _ _ lw1).trans g5; have k4 : w1.frozen? ⟨w.heap.size, i * 2 + 1, none⟩ = false := (hf1 _ _ lw1).trans g6; have k5 : w1.cell? ⟨wr.heap.size, 0, none⟩ = some (.slice sa ys.length sc) := (hc1 _ _ lw2).trans g1; have k6 : w1.cell? ⟨wr.heap.size, 1, none⟩ = some (.int .i64 k) := (hc1 _ _ lw2).trans g2; clear hc1 hf1))
      have HB1 : Below wr.heap.size wr w1 := bt HW.out hb2
      obtain ⟨W2, hW2⟩ : ∃ W2, (w1.setCell ⟨w.heap.size, i * 2, none⟩ (.slice av zs.length cv)).setCell ⟨w.heap.size, i * 2 + 1, none⟩ (.int .i64 k) = W2 := ⟨_, rfl⟩
      have hmW : w.heap.size < WA.heap.size := by omega
      have HRn : Hid (Row W2 w.heap.size 0 (us.set i (.slice av zs.length cv, zs, k))) := hW2 ▸ (HRo.out.1.keep HB1).set0 (by rw [HRo.out.2]; exact h1) _ zs k
      have hIs : ∀ t ∈ us.set i (.slice av zs.length cv, zs, k), Ints W2 W2.heap.size w.heap.size t.1 t.2.1 := by
        intro t ht
        have hI2 : Ints w1 w1.heap.size w.heap.size t.1 t.2.1 := by
          rcases List.mem_or_eq_of_mem_set ht with h | rfl
          · exact (HI.out t h).at2 HB1
          · exact hI1 _ hmW
        have := (hI2.set (p := ⟨w.heap.size, i * 2, none⟩) rfl (.slice av zs.length cv)).set (p := ⟨w.heap.size, i * 2 + 1, none⟩) rfl (.int .i64 k)
        rw [← hW2]
        simpa using this
      have HIn : Hid (∀ t ∈ us.set i (.slice av zs.length cv, zs, k), Ints W2 W2.heap.size w.heap.size t.1 t.2.1) := hIs
      have HFn : Hid (Frs w.heap.size (us.set i (.slice av zs.length cv, zs, k))) := by
        intro t ht
        rcases List.mem_or_eq_of_mem_set ht with h | rfl
        · exact HFR.out t h
        · exact fr_of (w := w1) (B := w1.heap.size) fun m hm => hI1 m (by omega)
      have B2 : Below w.heap.size w W2 := by rw [← hW2]; exact bs (bs (bt hbl HB1) (Nat.le_refl _) _) (Nat.le_refl _) _
      have e1 : W2.cell? ⟨w.heap.size, i * 2, none⟩ = some (.slice av zs.length cv) := by rw [← hW2]; exact (sc_other (by simp)).trans (sc_same k1)
      have e2 : W2.cell? ⟨w.heap.size, i * 2 + 1, none⟩ = some (.int .i64 k) := by rw [← hW2]; exact sc_same (u := .int .i64 t0.2.2) ((sc_other (by simp)).trans k2)
      have hmem : ((.slice av zs.length cv, zs, k) : Tr) ∈ us.set i (.slice av zs.length cv, zs, k) := by
        refine List.mem_of_getElem? (i := i) ?_
        rw [List.getElem?_set_self (by rw [HRo.out.2]; exact h1)]
      obtain ⟨r, HOK⟩ : ∃ r, Hid (okP (zs, k) = r) := ⟨_, rfl⟩
      have kb := beyond_any W2.heap.size w.heap.size (.slice av zs.length cv) k zs W2 (Nat.le_refl _) (hIs _ hmem) r HOK.out
      clear hI1 hb1 hb2 HB1 k1 k2 k3 k4 k5 k6 g1 g2 g3 g4 g5 g6 hIs hmem kA1 kA2 kB1 kB2 HKC hWA0 hWA
      go_wp2_with fail
      refine kb.mono ?_
      rintro e w3 ⟨rfl, hb3⟩
      clear kb
      cases r with
      | true =>
        have HTn : Hid (Bhd xs (rd ts) (us.set i (.slice av zs.length cv, zs, k)) (i + 1)) := by
          have h5 := HT.out.step (s := .slice av zs.length cv) HS.out (by rw [HZ.out]; exact HOK.out)
          rwa [HZ.out] at h5
        have HRn3 : Hid (Row w3 w.heap.size 0 (us.set i (.slice av zs.length cv, zs, k))) := HRn.out.keep hb3
        go_wp2
        go_roundw
        case rel => exact ⟨i + 1, us.set i (.slice av zs.length cv, zs, k), by go_num, h1, HTn, HRn3.out, fun t ht => (HIn.out t ht).at2 hb3, bt B2 hb3, HFn⟩
        case measure => simp [intOf]; omega
      | false =>
        have hbeh := HR.out.1
        have hno : ¬ (pre xs (rd ts)).all okP = true := by
          rw [List.all_eq_true]
          intro h5
          have h6 := h5 (zs, k) (List.mem_map.2 ⟨(ys, k), List.mem_of_getElem? HS.out, by simp only [HZ.out]⟩)
          rw [HOK.out] at h6
          cases h6
        unfold behT at hbeh
        rw [if_neg hno] at hbeh
        simp only [Prod.mk.injEq] at hbeh
        obtain ⟨rfl, rfl⟩ := hbeh
        clear hno
        go_wp2
        exact bodyPost_ret (v := .tuple #[.slice none 0 0, .int .i64 3]) (by simp [results, Try.results64, go_sem]) rfl ⟨_, [], rfl, rfl, .inl ⟨rfl, rfl⟩, bt B2 hb3, Frs.nil _⟩
    · have hlen2 : (pre xs (rd ts)).length = ts.length := by simp [pre, rd_len]
      have htk : (pre xs (rd ts)).take i = pre xs (rd ts) := List.take_of_length_le (by omega)
      have hrd : rd us = pre xs (rd ts) := by
        have h5 := HT.out.2.1
        rw [htk, List.take_of_length_le (by rw [rd_len]; omega)] at h5
        exact h5
      have hbeh := HR.out.1
      unfold behT at hbeh
      have hall := HT.out.2.2
      rw [htk] at hall
      rw [if_pos hall] at hbeh
      simp only [Prod.mk.injEq] at hbeh
      obtain ⟨hbl1, rfl⟩ := hbeh
      have HD2 : Hid (rd us = l ∧ us.length = ts.length) := ⟨hrd.trans hbl1, hul⟩
      have HRo : Hid (Row wr w.heap.size 0 us) := hrow
      have HI : Hid (∀ t ∈ us, Ints wr wr.heap.size w.heap.size t.1 t.2.1) := hI
      clear hrow hI hrd htk hall hlen2 hul hbl1
      go_wp2
      exact bodyPost_ret (v := .tuple #[.slice (some ⟨w.heap.size, 0, none⟩) ts.length ts.length, .int .i64 0]) (by simp [results, Try.results64, go_sem]) rfl ⟨_, us, rfl, HD2.out.1, .inr ⟨w.heap.size, 0, ts.length, by rw [HD2.out.2], by rw [HD2.out.2]; exact Nat.le_refl _, by rw [HD2.out.2]; exact hl, Nat.le_refl _, HRo.out, HI.out⟩, hbl, HFR.out⟩
end Go.Proofs.Ytcglfojbgdlbhaa
