import Derived.Test.YtlndlpjadajelaaGreatQt49
import Derived.Test.YtlndlpjadajelaaGreatQt25
import Derived.Test.YtlndlpjadajelaaGreatQt26
import Derived.Test.YtlndlpjadajelaaGreatQt46
import Derived.Maps.AppendAt
namespace Go.Proofs.YtlndlpjadajelaaGreat
open Go.RowKit Go.Shelf Go.Proofs.YtlndlpjadajelaaGreat.Ds

/-! ### the reference's Sampled -/
theorem allT_congr {f g : List Int → List Pt × Int} {l : List Pt} (h : ∀ p ∈ l, f p.1 = g p.1) : ∀ A, allT f A l = allT g A l := by
  induction l with
  | nil => intro A; rfl
  | cons p l ih =>
    intro A
    rw [allT, allT, h p (by simp)]
    split
    · split
      · rfl
      · exact ih (fun q hq => h q (by simp [hq])) _
    · rfl
theorem chT_congr {f g : List Int → List Pt × Int} {l : List Pt} (h : ∀ p ∈ l, f p.1 = g p.1) : chT f l = chT g l := by
  unfold chT
  rw [allT_congr h]
  rw [spr_congr (N := fun x => (f x).1) (M := fun x => (g x).1) _ fun p hp => by rw [h p hp]]
theorem run_one {w : World} {B : Nat} {l : List K.Ds.Col} {rs : List (List Int)} {q : K.Ds.Qu} {v0 v1 v2 v3 v4 v5 : Value} (hq : K.Qm w B q v0 v1 v2 v3 v4 v5) {xs : List Int} (h : K.runV (K.runT l rs q) = (xs, 0)) : xs ≠ [] := by
  unfold K.runT at h
  split at h
  · rename_i h0
    obtain ⟨hce, hle, _⟩ := K.Ds.wroE_ok h0
    split at h
    · rename_i b hb
      simp only [K.runV, Prod.mk.injEq] at h
      obtain ⟨rfl, _⟩ := h
      have hs := (K.Ds.colE_ok hce).2.2.1
      obtain ⟨h1, _⟩ := K.ans_ok hs hle q 1 _ hb hq.ne
      have h2 := K.qm_one hs q 1 _ _ _ _ _ _ _ hq hb
      intro e
      rw [e] at h1
      simp at h1
      omega
    · rename_i e hb
      simp only [K.runV, Prod.mk.injEq] at h
      exact absurd h.2 (K.bnd_ne q 1 _ hb)
  · rename_i h0
    simp only [K.runV, Prod.mk.injEq] at h
    exact absurd h.2 h0
/-- what the reference's Sampled keeps in boxes -/
structure Env6 (W : World) (N : Nat) (u d : Int) (cv tv v0 v1 v2 v3 v4 v5 : Value) : Prop where
  r0 : K.Cl W (N + 1) 0 (.int .i64 u)
  r1 : K.Cl W (N + 1) 1 (.int .i64 d)
  t0 : K.Cl W (N + 2) 0 cv
  t1 : K.Cl W (N + 2) 1 tv
  a : K.Bx W (N + 3) v0 v1 v2 v3 v4 v5
theorem Env6.at {W W' : World} {N : Nat} {u d : Int} {cv tv v0 v1 v2 v3 v4 v5 : Value} (h : Env6 W N u d cv tv v0 v1 v2 v3 v4 v5) (hb : Below W.heap.size W W') : Env6 W' N u d cv tv v0 v1 v2 v3 v4 v5 :=
  ⟨h.r0.at hb, h.r1.at hb, h.t0.at hb, h.t1.at hb, h.a.at hb⟩
/-- rows of a table, of one's own list -/
theorem rws_of {w0 wx : World} {B lo : Nat} {tv v : Value} {ts ms : List K.Rw} (hr : K.Rws w0 B tv ts) (hB : B ≤ w0.heap.size) (hb : Below w0.heap.size w0 wx) (hBl : B ≤ lo) (hlx : lo ≤ wx.heap.size) (hown : wx.ownsRow lo 65 1 v ms.length (ms.map (·.1))) (hms : ∀ t ∈ ms, t ∈ ts) (hl : ms.length ≤ 4096) : K.Rws wx wx.heap.size v ms := by
  obtain ⟨a, c, hv, _, _, hi, _⟩ := hr.at hB hb
  refine K.Rwr.rws (lo := lo) ⟨hown, fun t ht => ?_⟩ (by omega)
  have h1 := hi t (hms t ht)
  cases e : v.ownBlock with
  | none => exact ⟨B, h1.mono (by omega) (.inr (Nat.le_refl _)), fun g e => by cases e⟩
  | some g =>
    have h2 := K.owns_block hown g e
    exact ⟨g, h1.mono (by omega) (.inr (by omega)), fun g' e' => by simpa using e'⟩

set_option maxHeartbeats 8000000 in
set_option maxRecDepth 100000 in
theorem rsampled_any (B : Nat) (pu pd u d lo hi : Int) (cv tv v0 v1 v2 v3 v4 v5 : Value) (l : List K.Ds.Col) (ts : List K.Rw) (q : K.Ds.Qu) (w : World) (hB : B ≤ w.heap.size) (hp : K.Cols w B cv l) (hr : K.Rws w B tv ts) (hq : K.Qm w B q v0 v1 v2 v3 v4 v5)
    (l' : List Pt) (er : Int) (hA : smpT pu pd u d lo hi l (K.rr ts) q = (l', er)) :
    Calls Tryz.prog 21 #[rv pu pd, rv u d, .int .i64 lo, .int .i64 hi, .agg #[cv, tv], .agg #[v0, v1, v2, v3, v4, v5]] w (SubR w l' er) := by
  have HP : Hid (K.Cols w B cv l) := hp
  have HR : Hid (K.Rws w B tv ts) := hr
  have HQ : Hid (K.Qm w B q v0 v1 v2 v3 v4 v5) := hq
  obtain ⟨e1, h1⟩ : ∃ e1, K.Ds.wroE l (K.rr ts) = e1 := ⟨_, rfl⟩
  obtain ⟨⟨sl, e2⟩, h2⟩ : ∃ y, Sb.subT pu pd ((K.rr ts).length : Int) = y := ⟨_, rfl⟩
  unfold smpT at hA
  rw [h1, h2] at hA
  simp only at hA
  rw [K.rr_len] at h2
  obtain ⟨W, hW⟩ : ∃ W, (((w.alloc (.cells #[.int .i64 pu, .int .i64 pd] 23)).alloc (.cells #[.int .i64 u, .int .i64 d] 23)).alloc (.cells #[cv, tv] 27)).alloc (.cells #[v0, v1, v2, v3, v4, v5] 31) = W := ⟨_, rfl⟩
  have hbW : Below w.heap.size w W := hW ▸ bal (bal (bal (ba _ _) _) _) _
  have hsW : W.heap.size = w.heap.size + 4 := by rw [← hW]; simp
  have P0 : K.Cl W w.heap.size 0 (.int .i64 pu) := hW ▸ (((K.Cl.new _ 23 _ _ rfl rfl).at (ba _ _)).at (ba _ _)).at (ba _ _)
  have P1 : K.Cl W w.heap.size 1 (.int .i64 pd) := hW ▸ (((K.Cl.new _ 23 _ _ rfl rfl).at (ba _ _)).at (ba _ _)).at (ba _ _)
  have R0 : K.Cl W (w.heap.size + 1) 0 (.int .i64 u) := hW ▸ ((K.Cl.new _ 23 _ _ (by simp) rfl).at (ba _ _)).at (ba _ _)
  have R1 : K.Cl W (w.heap.size + 1) 1 (.int .i64 d) := hW ▸ ((K.Cl.new _ 23 _ _ (by simp) rfl).at (ba _ _)).at (ba _ _)
  have T0 : K.Cl W (w.heap.size + 2) 0 cv := hW ▸ (K.Cl.new _ 27 _ _ (by simp) rfl).at (ba _ _)
  have T1 : K.Cl W (w.heap.size + 2) 1 tv := hW ▸ (K.Cl.new _ 27 _ _ (by simp) rfl).at (ba _ _)
  have A0 : K.Bx W (w.heap.size + 3) v0 v1 v2 v3 v4 v5 := hW ▸ K.Bx.new _ _ (by simp) _ _ _ _ _ _
  have HE : Hid (Env6 W w.heap.size u d cv tv v0 v1 v2 v3 v4 v5 ∧ K.Cl W w.heap.size 0 (.int .i64 pu) ∧ K.Cl W w.heap.size 1 (.int .i64 pd)) := ⟨⟨R0, R1, T0, T1, A0⟩, P0, P1⟩
  have kw := K.rwrong_any B cv tv l ts W (by omega) (hp.at hB hbW) (hr.at hB hbW) e1 h1
  obtain ⟨la, lc, rfl, _⟩ := hp.slice
  obtain ⟨ra, rc, rfl, _⟩ := hr.slice
  obtain ⟨kk, kc, kl, kh, ka, kn, kd, kb, km, kp, rfl, rfl, rfl, rfl, rfl, rfl⟩ := hq.shape
  obtain ⟨thn, hthn⟩ : ∃ thn : List Int → List Pt × Int, (fun x => thT u d lo hi l q (Sb.sel (K.rr ts) (cod x))) = thn := ⟨_, rfl⟩
  rw [hthn] at hA
  have HTH : Hid ((fun x => thT u d lo hi l q (Sb.sel (K.rr ts) (cod x))) = thn) := hthn
  have t0 := T0.c
  have t1 := T1.c
  have HW1 : Hid (K.Ds.wroE l (K.rr ts) = e1) := h1
  have HS : Hid (Sb.subT pu pd (ts.length : Int) = (sl, e2)) := h2
  have HA : Hid ((if e1 ≠ 0 then (([], e1) : List Pt × Int) else if e2 ≠ 0 then ([], e2) else chT thn sl) = (l', er)) := hA
  clear hp hr hq h1 h2 hA P0 P1 R0 R1 T0 T1 A0 hthn
  go_enter Tryz.func21, Tryz.ntmps21
  go_wp2_with fail
  clear hW
  refine kw.mono ?_
  rintro e w1 ⟨rfl, hb1⟩
  have hbw1 := bt hbW hb1
  have HE1 : Hid (Env6 w1 w.heap.size u d (.slice la l.length lc) (.slice ra ts.length rc) (.int .i64 kk) (.string kc) (.int .i64 kl) (.int .i64 kh) (.slice ka kn kd) (.slice kb km kp) ∧ K.Cl w1 w.heap.size 0 (.int .i64 pu) ∧ K.Cl w1 w.heap.size 1 (.int .i64 pd)) := ⟨HE.out.1.at hb1, HE.out.2.1.at hb1, HE.out.2.2.at hb1⟩
  clear t0 t1 HE kw hb1
  by_cases c1 : e1 = 0
  · subst c1
    have p0 := HE1.out.2.1.c
    have p1 := HE1.out.2.2.c
    have t1 := HE1.out.1.t1.c
    have ks := rsubsets_any pu pd (ts.length : Int) sl e2 HS.out w1
    go_wp2_with fail
    refine ks.mono ?_
    rintro e w2 ⟨v2, us, rfl, k1, k2, hb2⟩
    have hbw2 := bt hbw1 hb2
    have HE2 : Hid (Env6 w2 w.heap.size u d (.slice la l.length lc) (.slice ra ts.length rc) (.int .i64 kk) (.string kc) (.int .i64 kl) (.int .i64 kh) (.slice ka kn kd) (.slice kb km kp)) := HE1.out.1.at hb2
    have HU : Hid (Parts w2 w2.heap.size v2 us ∧ rd us = sl) := ⟨k2.parts, k1⟩
    obtain ⟨a2, c2, rfl⟩ := k2.slice
    clear p0 p1 t1 HE1 k1 k2 ks hb2
    by_cases c2' : e2 = 0
    · subst c2'
      have HSO : Hid (Dis sl ∧ ts.length ≤ 10 ∧ ∀ p ∈ sl, ∃ s : Nat, s < 2 ^ ts.length ∧ p.1 = [(s : Int)]) := by
        obtain ⟨hd, _, hm10, hmem⟩ := sub_ok HS.out
        exact ⟨hd, by omega, fun p hp => by have := hmem p hp; rwa [Int.toNat_natCast] at this⟩
      have HCH : Hid (chT thn sl = (l', er)) := by
        have := HA.out
        rw [if_neg (by simp), if_neg (by simp)] at this
        exact this
      have HUL : Hid (us.length ≤ 4096) := by rw [Hid, ← rd_len, HU.out.2]; exact HSO.out.1.few
      obtain ⟨i33, hi33, hz0, hz1, hz2⟩ := info_parts info23
      clear HA HS
      go_wp2_with fail
      go_loopw [17, 18, 46] (fun tv' av iv wr => ∃ (i A : Nat) (zs : List Dl), iv = .int .i64 (i : Int) ∧ av = .int .i64 (A : Int) ∧ i ≤ us.length ∧ 1 ≤ A ∧ A ≤ 1073741824 ∧ Hid (zs.length = i) ∧ Hid (Dsr wr w2.heap.size tv' zs) ∧ Hid (zs.map (fun n => rd n.2) = (sl.take i).map fun p => (thn p.1).1) ∧ Hid (∀ p ∈ sl.take i, (thn p.1).2 = 0) ∧ Hid (allT thn 1 sl = allT thn (A : Int) (sl.drop i)) ∧ Below w2.heap.size w2 wr) (fun _ _ iv _ => us.length - (intOf iv).toNat)
      case atStart => exact ⟨0, 1, [], rfl, rfl, Nat.zero_le _, by omega, by omega, rfl, Dsr.nil _ _, by simp [Hid], by simp [Hid], by simp [Hid], Below.refl _ _⟩
      case round =>
        obtain ⟨i, A, zs, rfl, rfl, hit, hA1, hA2, HZL, HZ, HZM, HZE, HAL, hbl⟩ := hrel
        obtain ⟨ta, tc, htv⟩ := HZ.out.slice
        rw [HZL.out] at htv
        subst htv
        obtain ⟨wq, hwq⟩ : ∃ wq : World, wq = wr := ⟨_, rfl⟩
        subst hwq
        have hbwq : Below w.heap.size w wq := bt hbw2 hbl
        have HEq : Hid (Env6 wq w.heap.size u d (.slice la l.length lc) (.slice ra ts.length rc) (.int .i64 kk) (.string kc) (.int .i64 kl) (.int .i64 kh) (.slice ka kn kd) (.slice kb km kp)) := HE2.out.at hbl
        by_cases h1 : i < us.length
        · obtain ⟨b, o, sa, sc, xs, k, rfl, hb, hs, d1, d2, hI⟩ := HU.out.1.get (Nat.le_refl _) hbl h1
          have hpi : sl[i]? = some (xs, k) := by rw [← HU.out.2]; exact rd_get hs
          obtain ⟨s, hs2, hxs⟩ := HSO.out.2.2 _ (List.mem_of_getElem? hpi)
          simp only at hxs
          subst hxs
          have hs3 : s ≤ 1073741824 := by have := Sb.two_le HSO.out.2.1; omega
          have HPI : Hid (sl[i]? = some ([(s : Int)], k)) := hpi
          have HTS : Hid (thn [(s : Int)] = thT u d lo hi l q (Sb.sel (K.rr ts) s)) := by rw [Hid, ← HTH.out]; simp [cod]
          have HST : Hid (sl.drop i = ([(s : Int)], k) :: sl.drop (i + 1)) := by rw [Hid, List.drop_eq_getElem_cons (List.getElem?_eq_some_iff.1 hpi).1, (List.getElem?_eq_some_iff.1 hpi).2]
          have HII : Hid (Ints wq w2.heap.size w2.heap.size (.slice sa [(s : Int)].length sc) [(s : Int)]) := hI
          have m0 : ∀ o, (wq.alloc o).cell? ⟨w.heap.size + 2, 0, none⟩ = some (.slice la l.length lc) := fun o => (HEq.out.t0.at (ba _ o)).c
          have m1 : ∀ o o', ((wq.alloc o).alloc o').cell? ⟨w.heap.size + 2, 1, none⟩ = some (.slice ra ts.length rc) := fun o o' => ((HEq.out.t1.at (ba _ o)).at (ba _ o')).c
          have hts60 : ts.length ≤ 10 := HSO.out.2.1
          clear hs hpi hI
          go_wp2_with fail
          obtain ⟨W1, hW1⟩ : ∃ W1, (wq.alloc (.cells #[.slice sa 1 sc, .int .i64 k] 82)).alloc (.cells #[.slice la l.length lc, .slice none 0 0] 27) = W1 := ⟨_, rfl⟩
          have hbW1 : Below wq.heap.size wq W1 := hW1 ▸ bal (ba _ _) _
          have hsW1 : W1.heap.size = wq.heap.size + 1 + 1 := by rw [← hW1]; simp
          have X0 : K.Cl W1 wq.heap.size 0 (.slice sa 1 sc) := hW1 ▸ (K.Cl.new _ 82 _ _ rfl rfl).at (ba _ _)
          have HT0 : Hid (K.TwoB W1 (wq.heap.size + 1) (.slice la l.length lc) (.slice none 0 0)) := by rw [← hW1]; exact K.TwoB.new _ _ _ _ _ (by simp)
          have HEW : Hid (Env6 W1 w.heap.size u d (.slice la l.length lc) (.slice ra ts.length rc) (.int .i64 kk) (.string kc) (.int .i64 kl) (.int .i64 kh) (.slice ka kn kd) (.slice kb km kp)) := HEq.out.at hbW1
          have hbwW1 : Below w.heap.size w W1 := bt hbwq hbW1
          have hsq := hbl.size
          have hsq2 := hbw2.size
          have HX1 : Hid (K.Cl W1 wq.heap.size 0 (.slice sa 1 sc) ∧ Ints W1 w2.heap.size w2.heap.size (.slice sa 1 sc) [(s : Int)]) := ⟨X0, HII.out.at hsq hbW1⟩
          have hlW : W.heap.size ≤ wq.heap.size := by have := HE2.out.a.a0.lt; have := hbl.size; omega
          rw [hW1]
          clear hW1 m0 m1 d1 d2 X0 HII
          obtain ⟨i53, hi53, hy0, hy1, hy2⟩ := info_parts K.info26
          go_loopw [56] (fun jv wr => ∃ (j : Nat) (ms : List K.Rw) (v : Value), jv = .int .i64 (j : Int) ∧ j ≤ ts.length ∧ ms.length ≤ j ∧ Hid (K.TwoB wr (wq.heap.size + 1) (.slice la l.length lc) v) ∧ Hid (wr.ownsRow w2.heap.size 65 1 v ms.length (ms.map (·.1))) ∧ Hid (∀ t ∈ ms, t ∈ ts) ∧ Hid (K.rr ms = Sb.selP (K.rr ts) s j) ∧ Hid (v.ownBlock ≠ some (wq.heap.size + 1)) ∧ Hid (∀ g, v.ownBlock = some g → W1.heap.size ≤ g) ∧ Below (wq.heap.size + 1) W1 wr) (fun jv _ => ts.length - (intOf jv).toNat)
          case atStart => exact ⟨0, [], .slice none 0 0, rfl, Nat.zero_le _, Nat.le_refl _, HT0, World.ownsRow_nil _ _ _ _, by simp [Hid], rfl, by simp [Hid, Value.ownBlock], (fun g e => by simp [Value.ownBlock] at e), Below.refl _ _⟩
          case round =>
            obtain ⟨j, ms, v, rfl, hjt, hmj, HT, HO, HMT, HF, HN, HG, hbx⟩ := hrel
            obtain ⟨na, nc, rfl⟩ := K.owns_slice HO.out
            have hsx := hbx.size
            have hbqx : Below wq.heap.size wq wr := hbW1.trans (hbx.mono (by omega))
            have hbwx : Below w.heap.size w wr := bt hbwq hbqx
            have x0 : wr.cell? ⟨wq.heap.size, 0, none⟩ = some (.slice sa 1 sc) := (hbx.cell (p := ⟨wq.heap.size, 0, none⟩) (Nat.lt_succ_self _)).trans HX1.out.1.c
            have HIx : Hid (Ints wr w2.heap.size w2.heap.size (.slice sa 1 sc) [(s : Int)]) := HX1.out.2.keep (hbx.mono (by omega))
            by_cases h2 : j < ts.length
            · obtain ⟨b2, o2, sa2, sc2, r, rfl, hb2, hg2, e2, hI2⟩ := HR.out.get hB hbwx h2
              have HG1 : Hid (ts[j]? = some (.slice sa2 r.length sc2, r)) := hg2
              obtain ⟨xa, xc, hxv, _, _, hxx⟩ := HIx.out
              simp only [Value.slice.injEq] at hxv
              obtain ⟨rfl, -, rfl⟩ := hxv
              obtain ⟨b3, o3, rfl, hb3, _, hc3⟩ := hxx (by simp)
              have y0 := hc3 0 _ rfl
              rw [Nat.add_zero] at y0
              obtain ⟨bb, hbb⟩ : ∃ bb, Sb.bit s j = bb := ⟨_, rfl⟩
              have kin := in_any s j hs3 (by omega) bb hbb
              clear hg2 hI2 hxx hc3
              cases bb with
              | true =>
                have HF2 : Hid (Sb.selP (K.rr ts) s (j + 1) = K.rr ms ++ [r]) := by
                  rw [Hid, Sb.selP, hbb, if_pos rfl, HF.out, List.getD_eq_getElem?_getD, K.rr_get HG1.out]; rfl
                have t1 := HT.out.c1
                have t3 := HT.out.f1
                clear hbb
                go_wp2_with fail
                refine (kin _).mono ?_
                rintro e w4 ⟨rfl, hw4⟩
                replace hw4 := hw4.symm
                subst hw4
                have k5 : ∀ O, (wr.alloc O).cell? ⟨wq.heap.size + 1, 1, none⟩ = some (.slice na ms.length nc) := fun O => ((ba wr O).cell (p := ⟨wq.heap.size + 1, 1, none⟩) HT.out.lt).trans t1
                have HO1 : Hid (∀ O, (wr.alloc O).ownsRow w2.heap.size 65 1 (.slice na ms.length nc) ms.length (ms.map (·.1))) := fun O => K.owns_below HO.out (ba _ _)
                clear kin
                go_wp2_with (at_builtin; refine wpList_append_own_at _ rfl _ _ 25 rfl w2.heap.size 65 i53 (.slice none 0 0) 1 24 Tryz.underlying25 hi53 hy0 hy1 hy2 rfl (by decide) (.slice na ms.length nc) ms.length (ms.map (·.1)) rfl (HO1.out _) ⟨wr.heap.size, 0, none⟩ 1 1 [.slice sa2 r.length sc2] rfl rfl (cell_one_new _ _ _) (by intro z hz; simp at hz; subst hz; rfl) (by unfold maxLen; omega) (by omega) (by simp; omega) ?_)
                intro v' w' hown hgr hnil hat
                obtain ⟨na', nc', rfl⟩ := K.owns_slice hown
                have HT5 : Hid (K.TwoB w' (wq.heap.size + 1) (.slice la l.length lc) (.slice na ms.length nc)) := (HT.out.below (ba _ _)).gb hgr HN.out
                have hTl := HT.out.lt
                have HN5 : Hid ((Value.slice na' (ms.length + 1) nc').ownBlock ≠ some (wq.heap.size + 1)) := fun e => by
                  rcases hat with h | h
                  · exact HN.out (h ▸ e)
                  · rw [e] at h
                    have h : wq.heap.size + 1 = wr.heap.size + 1 := by simpa using h
                    omega
                have HG5 : Hid (∀ g, (Value.slice na' (ms.length + 1) nc').ownBlock = some g → W1.heap.size ≤ g) := fun g e => by
                  rcases hat with h | h
                  · exact HG.out g (h ▸ e)
                  · rw [e] at h
                    have h : g = wr.heap.size + 1 := by simpa using h
                    omega
                have hb5 : Below (wq.heap.size + 1) W1 w' := (hbx.alloc (by omega) _).grown hgr (by simp; omega) (fun g e => by have := HG.out g e; omega)
                obtain ⟨W8, hW8⟩ : ∃ W8, w'.setCell ⟨wq.heap.size + 1, 1, none⟩ (.slice na' (ms.length + 1) nc') = W8 := ⟨_, rfl⟩
                have HT8 : Hid (K.TwoB W8 (wq.heap.size + 1) (.slice la l.length lc) (.slice na' (ms.length + 1) nc')) := hW8 ▸ HT5.out.set1 _
                have HO8 : Hid (W8.ownsRow w2.heap.size 65 1 (.slice na' (ms.length + 1) nc') (ms ++ [((.slice sa2 r.length sc2, r) : K.Rw)]).length ((ms ++ [((.slice sa2 r.length sc2, r) : K.Rw)]).map (·.1))) := by
                  have := ownsRow_setCell_other hown (a := ⟨wq.heap.size + 1, 1, none⟩) HN5.out (.slice na' (ms.length + 1) nc')
                  rw [hW8] at this
                  simpa [Hid] using this
                have HM8 : Hid (∀ t ∈ ms ++ [((.slice sa2 r.length sc2, r) : K.Rw)], t ∈ ts) := fun t ht => by
                  rcases List.mem_append.1 ht with h | h
                  · exact HMT.out t h
                  · obtain rfl : t = (.slice sa2 r.length sc2, r) := by simpa using h
                    exact List.mem_of_getElem? HG1.out
                have HF8 : Hid (K.rr (ms ++ [((.slice sa2 r.length sc2, r) : K.Rw)]) = Sb.selP (K.rr ts) s (j + 1)) := by rw [Hid, K.rr_snoc, HF2.out]
                have hb8 : Below (wq.heap.size + 1) W1 W8 := hW8 ▸ hb5.setCell (p := ⟨wq.heap.size + 1, 1, none⟩) (Nat.le_refl _) _
                have s1 := HT5.out.c1
                have s3 := HT5.out.f1
                clear hown hgr hnil hat HT5 HO1 k5 t1 t3 hb5
                go_wp2
                go_roundw
                case rel => exact ⟨j + 1, ms ++ [((.slice sa2 r.length sc2, r) : K.Rw)], _, by go_num, h2, by simp; omega, HT8, HO8, HM8, HF8, HN5, HG5, hb8⟩
                case measure => simp [intOf]; omega
              | false =>
                have HF2 : Hid (K.rr ms = Sb.selP (K.rr ts) s (j + 1)) := by
                  rw [Hid, Sb.selP, hbb, HF.out]; simp
                clear hbb
                go_wp2_with fail
                refine (kin _).mono ?_
                rintro e w4 ⟨rfl, hw4⟩
                replace hw4 := hw4.symm
                subst hw4
                clear kin
                go_wp2
                go_roundw
                case rel => exact ⟨j + 1, ms, _, by go_num, h2, by omega, HT, HO, HMT, HF2, HN, HG, hbx⟩
                case measure => simp [intOf]; omega
            · have hjj : j = ts.length := by omega
              have HFF : Hid (K.rr ms = Sb.sel (K.rr ts) s) := by rw [Hid, HF.out, Sb.sel, K.rr_len, hjj]
              have HEx : Hid (Env6 wr w.heap.size u d (.slice la l.length lc) (.slice ra ts.length rc) (.int .i64 kk) (.string kc) (.int .i64 kl) (.int .i64 kh) (.slice ka kn kd) (.slice kb km kp)) := HEq.out.at hbqx
              have HRS : Hid (K.Rws wr wr.heap.size (.slice na ms.length nc) ms) := rws_of HR.out hB hbwx (by omega) (by omega) HO.out HMT.out (by omega)
              obtain ⟨⟨xs, e3⟩, hx⟩ : ∃ y, K.runV (K.runT l (Sb.sel (K.rr ts) s) q) = y := ⟨_, rfl⟩
              have kr := K.rrun_any l ms q wr wr.heap.size (.slice la l.length lc) (.slice na ms.length nc) _ _ _ _ _ _ xs e3 (Nat.le_refl _) ((HP.out.at hB hbwx).mono (by omega)) HRS.out (K.Qm.mono (by omega) q (HQ.out.at hB hbwx)) (by rw [HFF.out]; exact hx)
              have HX : Hid (K.runV (K.runT l (Sb.sel (K.rr ts) s) q) = (xs, e3)) := hx
              have HXL : Hid (xs.length ≤ 4096) := run_len HQ.out hx
              have t0 := HT.out.c0
              have t1 := HT.out.c1
              have q0 := HEx.out.a.a0.c
              have q1 := HEx.out.a.a1.c
              have q2 := HEx.out.a.a2.c
              have q3 := HEx.out.a.a3.c
              have q4 := HEx.out.a.a4.c
              have q5 := HEx.out.a.a5.c
              clear hx x0 HIx HRS
              go_wp2_with fail
              refine kr.mono ?_
              rintro e w4 ⟨na4, nc4, rfl, hI4, hb4⟩
              have hbq4 : Below wq.heap.size wq w4 := bt hbqx hb4
              have hb24 : Below w2.heap.size w2 w4 := bt hbl hbq4
              have HE4 : Hid (Env6 w4 w.heap.size u d (.slice la l.length lc) (.slice ra ts.length rc) (.int .i64 kk) (.string kc) (.int .i64 kl) (.int .i64 kh) (.slice ka kn kd) (.slice kb km kp)) := HEx.out.at hb4
              have hs4 := hb4.size
              have hbw4 : Below w.heap.size w w4 := bt hbwq hbq4
              clear kr t0 t1 q0 q1 q2 q3 q4 q5 HT HO HMT HF HN HG HEx
              by_cases c3 : e3 = 0
              · subst c3
                have hne := run_one HQ.out HX.out
                cases xs with
                | nil => exact absurd rfl hne
                | cons x xs =>
                  obtain ⟨a', c', hv, hc, _, hx⟩ := hI4
                  simp only [Value.slice.injEq] at hv
                  obtain ⟨rfl, -, rfl⟩ := hv
                  obtain ⟨b4, o4, rfl, hb4', _, hcell⟩ := hx (by simp)
                  have y0 := hcell 0 x rfl
                  rw [Nat.add_zero] at y0
                  have hlen : (x :: xs).length = xs.length + 1 := rfl
                  rw [hlen]
                  obtain ⟨⟨hl, e4⟩, hh⟩ : ∃ y, hideT u d lo hi x = y := ⟨_, rfl⟩
                  have kh := rhide_any u d lo hi x hl e4 hh
                  have HTE : Hid (thn [(s : Int)] = (hl, e4)) := by
                    rw [Hid, HTS.out]; unfold thT; rw [HX.out]; simp only [List.headD_cons]; rw [if_neg (by simp), if_neg (by simp)]; exact hh
                  have HHD : Hid (e4 = 0 → Dis hl) := fun h => by subst h; obtain ⟨L, hL⟩ := hide_made hh; exact (make_told hL).1
                  have r0 := HE4.out.r0.c
                  have r1 := HE4.out.r1.c
                  have l0 := HE4.out.r0.lt
                  clear hh hcell hx hne hlen HX HXL
                  go_wp2_with fail
                  go_region_held3 (fun w' => w'.cell? ⟨w.heap.size + 1, 0, none⟩ = some (.int .i64 u) ∧ w'.cell? ⟨w.heap.size + 1, 1, none⟩ = some (.int .i64 d) ∧ w'.cell? ⟨b4, o4, none⟩ = some (.int .i64 x))
                    ((go_split_ands; refine ⟨?_, ?_, ?_⟩ <;> first | assumption | (simp [go_sem, *]; done)))
                    ((go_at_call 54; refine (kh _).mono ?_; rintro x5 w5 ⟨v5, us5, rfl, k1, k2, k3, k4⟩; obtain ⟨a5, c5, hv5⟩ := k2.slice; subst hv5; obtain ⟨hc5, hf5⟩ := bcell k3; have j1 : w5.cell? ⟨w.heap.size + 1, 0, none⟩ = some (.int .i64 u) := (hc5 _ _ l0).trans r0; have j2 : w5.cell? ⟨w.heap.size + 1, 1, none⟩ = some (.int .i64 d) := (hc5 _ _ l0).trans r1; have j3 : w5.cell? ⟨b4, o4, none⟩ = some (.int .i64 x) := (hc5 _ _ hb4').trans y0; clear hc5 hf5))
                  have hb45 : Below w4.heap.size w4 w5 := bt (Below.refl _ _).drew k3
                  have HH5 : Hid (OwnN w5 w4.heap.size (.slice a5 us5.length c5) us5 ∧ Frs w4.heap.size us5 ∧ rd us5 = hl) := ⟨k2, k4, k1⟩
                  have hbq5 : Below wq.heap.size wq w5 := bt hbq4 hb45
                  have hb25 : Below w2.heap.size w2 w5 := bt hbl hbq5
                  have hbw5 : Below w.heap.size w w5 := bt hbwq hbq5
                  have hs5 := hb45.size
                  clear k1 k2 k3 k4 kh j1 j2 j3 r0 r1 l0 y0 HE4
                  by_cases c4 : e4 = 0
                  · subst c4
                    have hdn := HHD.out rfl
                    have HDN : Hid (Dis hl) := hdn
                    have tn := tot_pos2 hdn.pos hdn.ne
                    obtain ⟨T, hT⟩ := Int.eq_ofNat_of_zero_le (Int.le_of_lt tn)
                    have hT0 : 0 < T := by omega
                    have hT1 : T ≤ 1073741824 := by have := hdn.le; omega
                    have HTT : Hid (tot hl = (T : Int)) := hT
                    have kdv := fun W => refDivisor_any A T (by omega) (by omega) (by omega) W
                    obtain ⟨G, hG⟩ : ∃ G, Nat.gcd A T = G := ⟨_, rfl⟩
                    obtain ⟨g, hg⟩ : ∃ g, T / G = g := ⟨_, rfl⟩
                    have hG0 : 0 < G := by rw [← hG]; exact Nat.gcd_pos_of_pos_left _ (by omega)
                    have hGz : ((G : Int) == 0) = false := by simp; omega
                    have hqq : (T : Int) / (G : Int) = (g : Int) := by rw [← hg]; exact (Int.natCast_ediv T G).symm
                    have hg1 : g ≤ T := by rw [← hg]; exact Nat.div_le_self _ _
                    have hg0 : 1 ≤ g := by rw [← hg]; exact Nat.div_pos (Nat.le_of_dvd hT0 (hG ▸ Nat.gcd_dvd_right A T)) hG0
                    obtain ⟨P, hP⟩ : ∃ P, A * g = P := ⟨_, rfl⟩
                    have hP' : (A : Int) * (g : Int) = (P : Int) := by rw [← hP]; exact (Int.natCast_mul A g).symm
                    have hP1 : P ≤ 1152921504606846976 := by rw [← hP]; exact Nat.mul_le_mul hA2 (Nat.le_trans hg1 hT1)
                    have hP0 : 1 ≤ P := by rw [← hP]; exact Nat.mul_pos hA1 hg0
                    have HAL2 : Hid (allT thn 1 sl = if (1073741824 : Int) < (P : Int) then (0, 4) else allT thn (P : Int) (sl.drop (i + 1))) := by
                      rw [Hid, HAL.out, HST.out, allT]
                      simp only [HTE.out, if_true]
                      have e : (A : Int) * (tot hl / (Int.gcd (A : Int) (tot hl) : Int)) = (P : Int) := by
                        rw [hT]
                        show (A : Int) * ((T : Int) / ((Nat.gcd A T : Nat) : Int)) = P
                        rw [hG, hqq, hP']
                      rw [e]
                    rw [hG] at kdv
                    have HZ5 : Hid (∀ O, Dsr (w5.alloc O) w2.heap.size (.slice ta i tc) zs) := fun O => (HZ.out.keep hbq5).keep (ba _ _)
                    obtain ⟨mo, hmo1, hmo2, hmo3⟩ := own_or2 (v := .slice ta i tc) (lo := w2.heap.size) (n := w4.heap.size) (fun g e => ⟨(HZ.out.lt g e).1, by have := (HZ.out.lt g e).2; omega⟩) (by omega)
                    have HPN : Hid (∀ O, PartsN (w5.alloc O) (w5.alloc O).heap.size mo (.slice a5 us5.length c5) us5) := fun O => (own_away HH5.out.1 HH5.out.2.1 hmo2).at2 (ba _ _)
                    have HMO : Hid (∀ g, (Value.slice ta i tc).ownBlock = some g → mo = g) := hmo3
                    have HOW : Hid (∀ O, (w5.alloc O).ownsRow w2.heap.size 44 1 (.slice ta i tc) i (zs.map (·.1))) := fun O => by have := (HZ5.out O).1; rwa [HZL.out] at this
                    have hi4 : i ≤ 4096 := by have := HUL.out; omega
                    clear hdn tn hT hG hg hP hmo3 HAL
                    go_wp2_with (at_builtin; refine wpList_append_own_at _ rfl _ _ 32 rfl w2.heap.size 44 i33 (.slice none 0 0) 1 24 Tryz.underlying32 hi33 hz0 hz1 hz2 rfl (by decide) (.slice ta i tc) i (zs.map (·.1)) rfl (HOW.out _) ⟨w5.heap.size, 0, none⟩ 1 1 [.slice a5 us5.length c5] rfl rfl (cell_one_new _ _ _) (by intro z hz; simp at hz; subst hz; rfl) (by unfold maxLen; omega) (by omega) (by simp; omega) ?_)
                    intro v6 w6 hown hgr hnil hat
                    obtain ⟨ta6, tc6, rfl⟩ := owns_slice hown
                    have HZ6 : Hid (Dsr w6 w2.heap.size (.slice ta6 (i + 1) tc6) (zs ++ [(.slice a5 us5.length c5, us5)])) := by
                      refine Dsr.app (m := mo) (HZ5.out _) (by rw [HZL.out]; exact hown) hgr (by simpa using hat) (HPN.out _) HMO.out
                    have hb26 : Below w2.heap.size w2 w6 := (hb25.alloc (by omega) _).grown hgr (by simp; omega) (fun g e => (HZ.out.lt g e).1)
                    have HP6 : Hid (Parts w6 w6.heap.size (.slice a5 us5.length c5) us5) := by
                      obtain ⟨m', h1, _⟩ := HZ6.out.2 (.slice a5 us5.length c5, us5) (by simp)
                      exact h1.parts
                    have kt := refTotal_any w6.heap.size (.slice a5 us5.length c5) us5 w6 (Nat.le_refl _) HP6.out (by rw [HH5.out.2.2]; exact Nn.of_pos HDN.out.pos) (by rw [HH5.out.2.2]; have := HDN.out.le; omega) (T : Int) (by rw [HH5.out.2.2]; exact HTT.out)
                    have HZM2 : Hid ((zs ++ [((.slice a5 us5.length c5, us5) : Dl)]).map (fun n => rd n.2) = (sl.take (i + 1)).map fun p => (thn p.1).1) := by
                      rw [Hid, List.map_append, HZM.out, List.take_add_one, HPI.out, List.map_append]
                      simp [HTE.out, HH5.out.2.2]
                    have HZE2 : Hid (∀ p ∈ sl.take (i + 1), (thn p.1).2 = 0) := by
                      intro p hp
                      rw [List.take_add_one, HPI.out] at hp
                      rcases List.mem_append.1 hp with h | h
                      · exact HZE.out p h
                      · obtain rfl : p = ([(s : Int)], k) := by simpa using h
                        rw [HTE.out]
                    clear hown hgr hnil hat HOW HPN HZ5 HMO HP6
                    go_wp2_with fail
                    refine kt.mono ?_
                    rintro e w7 ⟨rfl, hb7⟩
                    have hb27 : Below w2.heap.size w2 w7 := bt hb26 hb7
                    have HZ7 : Hid (Dsr w7 w2.heap.size (.slice ta6 (i + 1) tc6) (zs ++ [(.slice a5 us5.length c5, us5)])) := HZ6.out.keep hb7
                    have hbw7 : Below w.heap.size w w7 := bt hbw2 hb27
                    clear kt HZ6
                    go_wp2_with fail
                    refine (kdv _).mono ?_
                    rintro e w8 ⟨rfl, hw8⟩
                    replace hw8 := hw8.symm
                    subst hw8
                    clear kdv
                    by_cases hm : 1073741824 < P
                    · have hal := HAL2.out
                      have hm' : (1073741824 : Int) < (P : Int) := by omega
                      rw [if_pos hm'] at hal
                      have hch := HCH.out
                      unfold chT at hch
                      rw [hal] at hch
                      simp at hch
                      obtain ⟨rfl, rfl⟩ := hch
                      clear hal
                      go_wp2
                      exact bodyPost_ret (v := .tuple #[.slice none 0 0, .int .i64 4]) (by simp [results, Tryz.results21, go_sem]) rfl (SubR.err hbw7)
                    · have hm' : ¬ (1073741824 : Int) < (P : Int) := by omega
                      have HA3 : Hid (allT thn 1 sl = allT thn (P : Int) (sl.drop (i + 1))) := by have := HAL2.out; rw [if_neg hm'] at this; exact this
                      have HZL2 : Hid ((zs ++ [((.slice a5 us5.length c5, us5) : Dl)]).length = i + 1) := by rw [Hid, List.length_append, HZL.out]; rfl
                      clear HAL2
                      go_wp2
                      go_roundw
                      case rel => exact ⟨i + 1, P, zs ++ [((.slice a5 us5.length c5, us5) : Dl)], by go_num, rfl, h1, hP0, by omega, HZL2, HZ7, HZM2, HZE2, HA3, hb27⟩
                      case measure => simp [intOf]; omega
                  · have h5 : (e4 == 0) = false := by simpa using c4
                    have h6 : (e4 != 0) = true := by simpa using c4
                    have hch : (l', er) = (([], e4) : List Pt × Int) := by
                      rw [← HCH.out]
                      unfold chT
                      rw [HAL.out, HST.out, allT]
                      simp only [HTE.out]
                      rw [if_neg c4]
                      simp only [if_neg c4]
                    simp only [Prod.mk.injEq] at hch
                    obtain ⟨rfl, rfl⟩ := hch
                    go_wp2
                    exact bodyPost_ret (v := .tuple #[.slice none 0 0, .int .i64 er]) (by simp [results, Tryz.results21, go_sem]) rfl (SubR.err hbw5)
              · have h5 : (e3 == 0) = false := by simpa using c3
                have h6 : (e3 != 0) = true := by simpa using c3
                have hch : (l', er) = (([], e3) : List Pt × Int) := by
                  rw [← HCH.out]
                  unfold chT
                  rw [HAL.out, HST.out, allT]
                  have e : thn [(s : Int)] = ([], e3) := by rw [HTS.out]; unfold thT; rw [HX.out]; simp only; rw [if_pos c3]
                  simp only [e]
                  rw [if_neg c3]
                  simp only [if_neg c3]
                simp only [Prod.mk.injEq] at hch
                obtain ⟨rfl, rfl⟩ := hch
                go_wp2
                exact bodyPost_ret (v := .tuple #[.slice none 0 0, .int .i64 er]) (by simp [results, Tryz.results21, go_sem]) rfl (SubR.err hbw4)
        · have hii : i = us.length := by omega
          have hsl : sl.length ≤ i := by rw [← HU.out.2, rd_len]; omega
          have HZA : Hid (∀ p ∈ sl, (thn p.1).2 = 0 ∧ Dis (thn p.1).1) := fun p hp => by
            have h0 : (thn p.1).2 = 0 := HZE.out p (by rw [List.take_of_length_le hsl]; exact hp)
            refine ⟨h0, ?_⟩
            have e : thn p.1 = ((thn p.1).1, 0) := Prod.ext rfl h0
            rw [← HTH.out] at e ⊢
            exact th_ok e
          have kc2 := chainR_any (fun x => (thn x).1) wq.heap.size (.slice a2 us.length c2) (.slice ta i tc) us zs wq (Nat.le_refl _) ((HU.out.1.keep hbl).mono hbl.size) (by have := HZ.out.dss (by rw [HZL.out]; have := HUL.out; omega); exact this) (by rw [HU.out.2]; exact HSO.out.1) (by rw [HU.out.2, HZM.out, List.take_of_length_le hsl]) l' er (by
            rw [HU.out.2, ← HCH.out]
            exact chT_congr fun p hp => by rw [(HZA.out p hp).2.own]; exact (Prod.ext rfl (HZA.out p hp).1.symm))
          clear hsl hii HZ HZM HZE
          go_wp2_with fail
          refine kc2.mono ?_
          rintro e w9 ⟨v9, us9, rfl, k1, k2, k3⟩
          obtain ⟨a9, c9, rfl⟩ := k2.slice
          have HZF : Hid (SubR w l' er (.returned (.tuple #[.slice a9 us9.length c9, .int .i64 er])) w9) := ⟨_, us9, rfl, k1, k2.mono hbwq.size, bt hbwq k3⟩
          clear k1 k2 k3 kc2
          go_wp2
          exact bodyPost_ret (v := .tuple #[.slice a9 us9.length c9, .int .i64 er]) (by simp [results, Tryz.results21, go_sem]) rfl HZF.out
    · have h5 : (e2 == 0) = false := by simpa using c2'
      have h6 : (e2 != 0) = true := by simpa using c2'
      have hA2 := HA.out
      rw [if_neg (by simp), if_pos c2'] at hA2
      simp only [Prod.mk.injEq] at hA2
      obtain ⟨rfl, rfl⟩ := hA2
      go_wp2
      exact bodyPost_ret (v := .tuple #[.slice none 0 0, .int .i64 e2]) (by simp [results, Tryz.results21, go_sem]) rfl (SubR.err hbw2)
  · have h5 : (e1 == 0) = false := by simpa using c1
    have h6 : (e1 != 0) = true := by simpa using c1
    have hA2 := HA.out
    rw [if_pos c1] at hA2
    simp only [Prod.mk.injEq] at hA2
    obtain ⟨rfl, rfl⟩ := hA2
    go_wp2
    exact bodyPost_ret (v := .tuple #[.slice none 0 0, .int .i64 e1]) (by simp [results, Tryz.results21, go_sem]) rfl (SubR.err hbw1)
end Go.Proofs.YtlndlpjadajelaaGreat
