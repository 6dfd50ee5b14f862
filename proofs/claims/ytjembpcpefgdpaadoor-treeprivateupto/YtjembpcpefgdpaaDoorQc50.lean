import Derived.Test.YtjembpcpefgdpaaDoorQc45
import Derived.Test.YtjembpcpefgdpaaDoorQc49
namespace Go.Proofs.YtjembpcpefgdpaaDoor
open Go.RowKit Go.Proofs.YtjembpcpefgdpaaDoor.Ds

theorem ints_own {w : World} {base nb : Nat} {v : Value} {xs : List Int} {n : Nat} (hn : n = xs.length) (hl : xs.length ≤ 1073741824) (h : w.ownsRow base 3 1 v n (xs.map (.int .i64))) (hnb : nb < base) : Ints w w.heap.size nb v xs := by
  subst hn
  obtain ⟨_, ⟨hv, h0⟩ | ⟨g, cap, cur, hv, hb, hcur, hc, _, hsz, hx⟩⟩ := h
  · obtain rfl : xs = [] := by cases xs <;> simp_all
    exact ⟨none, 0, hv, Nat.le_refl _, hl, fun h => absurd rfl h⟩
  · refine ⟨_, cap, hv, hc, hl, fun _ => ⟨g, 0, rfl, (Array.getElem?_eq_some_iff.1 hcur).1, by omega, fun i x hi => ?_⟩⟩
    have hi2 : i < xs.length := (List.getElem?_eq_some_iff.1 hi).1
    have : cur[i]? = some (.int .i64 x) := by
      have h1 : (xs.map (Value.int .i64))[i]? = some (.int .i64 x) := by simp [hi]
      rw [← hx, List.getElem?_take_of_lt (by omega)] at h1
      simpa using h1
    simp [World.cell?, hcur, this]
theorem rds_len' (zs : List Dz) : (rds zs).length = zs.length := by simp [rds]
theorem toL_get {k : Nat} {u d lo hi : Int} {xs : List Int} {n i : Nat} {x : Int} {l : List (List Pt)} {er : Int} (hin : i < n) (hx : xs[i]? = some x) (h : stT k u d lo hi (camT k (xs.take i)) x = (l, er)) : (toL k u d lo hi xs n)[i]? = some l ∧ (erL k u d lo hi xs n)[i]? = some er := by
  unfold toL erL
  simp [hin, hx, h]

set_option maxRecDepth 100000 in
set_option maxHeartbeats 4000000 in
theorem treeCounts_bad (high u d lo hi : Int) (v : Value) (er : Int) (h : newE high u d lo hi = er) (hne : er ≠ 0) (w : World) :
    Calls Tryd.prog 3 #[.int .i64 high, rv u d, .int .i64 lo, .int .i64 hi, v] w fun e w' => e = .returned (.bool true) ∧ Below w.heap.size w w' := by
  have kc := fun W => count_bad high u d lo hi v er h hne W
  have kn := fun W => rnew_any high u d lo hi er h W
  have c2 : (er != 0) = true := by simpa using hne
  have c3 : ¬ er = 0 := hne
  obtain ⟨X, hX⟩ : ∃ X, w.alloc (.cells #[.int .i64 u, .int .i64 d] 23) = X := ⟨_, rfl⟩
  have bX : Below w.heap.size w X := by rw [← hX]; exact ba _ _
  have hlX : w.heap.size < X.heap.size := by rw [← hX]; simp
  have xc0 : X.cell? ⟨w.heap.size, 0, none⟩ = some (.int .i64 u) := by rw [← hX]; simp [go_sem]
  have xc1 : X.cell? ⟨w.heap.size, 1, none⟩ = some (.int .i64 d) := by rw [← hX]; simp [go_sem]
  clear h
  go_enter Tryd.func3, Tryd.ntmps3
  go_wp2_with fail
  refine (kc _).mono ?_
  rintro e1 w1 ⟨rfl, hb1⟩
  unfold nilC
  have y0 : w1.cell? ⟨w.heap.size, 0, none⟩ = some (.int .i64 u) := (hb1.cell (p := ⟨w.heap.size, 0, none⟩) hlX).trans xc0
  have y1 : w1.cell? ⟨w.heap.size, 1, none⟩ = some (.int .i64 d) := (hb1.cell (p := ⟨w.heap.size, 1, none⟩) hlX).trans xc1
  have hs1 := hb1.size
  have v0 : ∀ o, (w1.alloc o).cell? ⟨w.heap.size, 0, none⟩ = some (.int .i64 u) := fun o => ((ba w1 o).cell (p := ⟨w.heap.size, 0, none⟩) (by show w.heap.size < w1.heap.size; omega)).trans y0
  have v1 : ∀ o, (w1.alloc o).cell? ⟨w.heap.size, 1, none⟩ = some (.int .i64 d) := fun o => ((ba w1 o).cell (p := ⟨w.heap.size, 1, none⟩) (by show w.heap.size < w1.heap.size; omega)).trans y1
  have B1 : Below w.heap.size w w1 := bt bX hb1
  clear kc y0 y1 xc0 xc1
  go_wp2_with fail
  refine (kn _).mono ?_
  rintro e2 w2 ⟨rfl, hb2⟩
  have HF2 := (FivB.new w1 (.slice none 0 0) (.slice none 0 0) (.int .i64 0) (.int .i64 0) (.int .i64 0) w1.heap.size rfl).same (hb2.block _ (by simp))
  have d0 := HF2.c0
  have B2 : Below w.heap.size w w2 := bt (bal B1 _) hb2
  clear kn hb2 HF2
  go_wp2
  go_ret
  exact ⟨by simp, B2⟩

set_option maxRecDepth 100000 in
set_option maxHeartbeats 8000000 in
theorem treeCounts_good (k : Nat) (u d lo hi : Int) (v : Value) (B nb : Nat) (xs : List Int) (w : World) (hB : B ≤ w.heap.size) (hv : Ints w B nb v xs) (hl : xs.length ≤ 1048576) (h : newE (k : Int) u d lo hi = 0) (hT : TabAt 1 Lib.deBruijn64tab w) (hlo : I64 lo) (hhi : I64 hi) :
    Calls Tryd.prog 3 #[.int .i64 (k : Int), rv u d, .int .i64 lo, .int .i64 hi, v] w fun e w' => e = .returned (.bool true) ∧ Below w.heap.size w w' := by
  obtain ⟨hk, hh, hpe⟩ := newE_ok h
  obtain ⟨⟨p, q, pe⟩, hp⟩ : ∃ y, Rt.powT u d ((k : Int) + 1) = y := ⟨_, rfl⟩
  rw [hp] at hpe
  have hpe' : pe = 0 := hpe
  subst hpe'
  have HV : Hid (Ints w B nb v xs) := hv
  obtain ⟨X, hX⟩ : ∃ X, w.alloc (.cells #[.int .i64 u, .int .i64 d] 23) = X := ⟨_, rfl⟩
  have bX : Below w.heap.size w X := by rw [← hX]; exact ba _ _
  have hlX : w.heap.size < X.heap.size := by rw [← hX]; simp
  have xc0 : X.cell? ⟨w.heap.size, 0, none⟩ = some (.int .i64 u) := by rw [← hX]; simp [go_sem]
  have xc1 : X.cell? ⟨w.heap.size, 1, none⟩ = some (.int .i64 d) := by rw [← hX]; simp [go_sem]
  have kc := count_ok k u d lo hi v B nb xs X (by omega) (hv.keep (bX.mono hB)) hl h (tab_gb hT (gb_none bX) (by simp)) hlo hhi p q hp
  have kn := fun W => rnew_any (k : Int) u d lo hi 0 h W
  have kp := fun W => refPower_any u d ((k : Int) + 1) p q 0 hp W
  obtain ⟨va, vc, rfl, _⟩ := hv
  have hw1 : IntKind.i64.wrap ((k : Int) + 1) = (k : Int) + 1 := by rw [IntKind.wrap_i64]; omega
  have HHH : Hid ((hideT u d lo hi 0).2 = 0) := hh
  clear h hT hlo hhi hp hpe hh
  go_enter Tryd.func3, Tryd.ntmps3
  go_wp2_with fail
  refine kc.mono ?_
  rintro e1 w1 ⟨tv, ev, tls, rfl, htl, herl, htd, hb1⟩
  have hs1 := hb1.size
  have y0 : w1.cell? ⟨w.heap.size, 0, none⟩ = some (.int .i64 u) := (hb1.cell (p := ⟨w.heap.size, 0, none⟩) hlX).trans xc0
  have y1 : w1.cell? ⟨w.heap.size, 1, none⟩ = some (.int .i64 d) := (hb1.cell (p := ⟨w.heap.size, 1, none⟩) hlX).trans xc1
  have v0 : ∀ o, (w1.alloc o).cell? ⟨w.heap.size, 0, none⟩ = some (.int .i64 u) := fun o => ((ba w1 o).cell (p := ⟨w.heap.size, 0, none⟩) (by show w.heap.size < w1.heap.size; omega)).trans y0
  have v1 : ∀ o, (w1.alloc o).cell? ⟨w.heap.size, 1, none⟩ = some (.int .i64 d) := fun o => ((ba w1 o).cell (p := ⟨w.heap.size, 1, none⟩) (by show w.heap.size < w1.heap.size; omega)).trans y1
  have B1 : Below w.heap.size w w1 := bt bX hb1
  have htlen : tls.length = xs.length := by have := congrArg List.length htd; simpa [toL_len] using this
  have HTL : Hid (Tll w1 tv tls) := htl
  have HEL : Hid (Erl w1 ev (erL k u d lo hi xs xs.length)) := herl
  have HTD : Hid (tls.map (fun t => rds t.2) = toL k u d lo hi xs xs.length) := htd
  have HTN : Hid (tls.length = xs.length) := htlen
  obtain ⟨ta, tc, rfl⟩ := htl.slice
  obtain ⟨ea, ec, rfl⟩ := herl.slice
  rw [htlen] at HTL ⊢
  rw [erL_len] at HEL ⊢
  clear kc htl herl htd htlen hb1
  go_wp2_with fail
  refine (kn _).mono ?_
  rintro e2 w2 ⟨rfl, hb2⟩
  have bw2 : Below w1.heap.size w1 w2 := bt (ba _ _) hb2
  have HF2 : Hid (FivB w2 w1.heap.size (.slice ta xs.length tc) (.slice ea xs.length ec) (.int .i64 ((camT k xs).length : Int)) (.int .i64 p) (.int .i64 q)) := (FivB.new w1 _ _ _ _ _ w1.heap.size rfl).same (hb2.block _ (by simp))
  have B2 : Below w.heap.size w w2 := bt B1 bw2
  have hs2 := bw2.size
  have hlt2 := HF2.out.lt
  have HX2 : Hid (∀ W, Below w2.heap.size w2 W → W.cell? ⟨w.heap.size, 0, none⟩ = some (.int .i64 u) ∧ W.cell? ⟨w.heap.size, 1, none⟩ = some (.int .i64 d)) := by
    intro W hW
    have h1 : w.heap.size < w1.heap.size := by omega
    exact ⟨(hW.cell (p := ⟨w.heap.size, 0, none⟩) (by show w.heap.size < w2.heap.size; omega)).trans ((bw2.cell (p := ⟨w.heap.size, 0, none⟩) h1).trans y0), (hW.cell (p := ⟨w.heap.size, 1, none⟩) (by show w.heap.size < w2.heap.size; omega)).trans ((bw2.cell (p := ⟨w.heap.size, 1, none⟩) h1).trans y1)⟩
  obtain ⟨d0, _, d1, _, d2, _, d3, _, d4, _⟩ := HF2.out.all
  obtain ⟨i0, hi3, hz0, hz1, hz2⟩ := info_parts info3
  clear kn hb2 v0 v1 y0 y1 xc0 xc1
  go_wp2_with fail
  go_loopw [14, 66] (fun cv s wr => ∃ (i cc : Nat) (ca : Option Addr) (came : List Int), s = .int .i64 (i : Int) ∧ cv = .slice ca came.length cc ∧ i ≤ xs.length ∧ came.length ≤ 1024 ∧ Hid (camT k (xs.take i) = came) ∧ Hid (wr.ownsRow w2.heap.size 3 1 (.slice ca came.length cc) came.length (came.map (.int .i64))) ∧ Below w2.heap.size w2 wr) (fun _ s _ => xs.length - (intOf s).toNat)
  case atStart => exact ⟨0, 0, none, [], rfl, rfl, Nat.zero_le _, by simp, rfl, ⟨rfl, .inl ⟨rfl, rfl⟩⟩, Below.refl _ _⟩
  case round =>
    obtain ⟨i, cc, ca, came, rfl, rfl, hil, hcl, HC, HO, hbl⟩ := hrel
    have hrs := hbl.size
    have hcam : Cam k came := by rw [← HC.out]; exact camT_cam _ _
    have Bw : Below w.heap.size w wr := bt B2 hbl
    obtain ⟨x0, x1⟩ := HX2.out wr hbl
    by_cases h1 : i < xs.length
    · obtain ⟨ib, io, x, rfl, hib, hgx, hcx⟩ := HV.out.get' hB Bw h1
      obtain ⟨l, er, hst⟩ : ∃ l er, stT k u d lo hi (camT k (xs.take i)) x = (l, er) := ⟨_, _, rfl⟩
      have hget := toL_get (n := xs.length) h1 hgx hst
      have hnx := stT_next hst
      rw [← camT_succ hgx] at hnx
      rw [HC.out] at hst hnx
      have kr := rstep_any k u d lo hi (.slice ca came.length cc) wr.heap.size 0 came x wr (Nat.le_refl _) (ints_own rfl (by omega) HO.out (by omega)) hk hcam HHH.out l er hst
      obtain ⟨t, ht⟩ := get_lt (l := tls) (i := i) (by rw [HTN.out]; exact h1)
      have htr : rds t.2 = l := by
        have h2 : (tls.map (fun t => rds t.2))[i]? = some (rds t.2) := by simp [ht]
        rw [HTD.out, hget.1] at h2
        simpa using h2.symm
      have HNX : Hid (camT k (xs.take (i + 1)) = if er = 0 then came ++ [x] else came) := hnx
      have HTR : Hid (rds t.2 = l) := htr
      have HTI : Hid (tls[i]? = some t) := ht
      have HEI : Hid ((erL k u d lo hi xs xs.length)[i]? = some er) := hget.2
      have z1 : (i : Int) < (xs.length : Int) := by omega
      clear hst hget hnx htr ht hgx
      go_wp2_with fail
      refine kr.mono ?_
      rintro e5 w5 ⟨sv, ys, rfl, k1, k2, k3, k4⟩
      have bw5 : Below w2.heap.size w2 w5 := bt hbl k4
      have b15 : Below w1.heap.size w1 w5 := bt bw2 bw5
      have hs5 := b15.size
      have HT5 := HTL.out.keep b15
      have HE5 := HEL.out.keep b15
      obtain ⟨ta', tc', he, hel, hcell⟩ := HT5
      simp only [Value.slice.injEq] at he
      obtain ⟨rfl, -, rfl⟩ := he
      obtain ⟨tb, rfl, htb, hct⟩ := hcell (by intro e; have := HTI.out; rw [e] at this; simp at this)
      have c1 := hct i t HTI.out
      have hdss := hel t (List.mem_of_getElem? HTI.out)
      obtain ⟨ea', ec', he, hcell2⟩ := HE5
      simp only [Value.slice.injEq] at he
      obtain ⟨rfl, -, rfl⟩ := he
      obtain ⟨eb, rfl, heb, hce⟩ := hcell2 (by intro e; have := HEI.out; rw [e] at this; simp at this)
      have c2 := hce i er HEI.out
      have HD2 := HF2.out.same (bw5.block _ HF2.out.lt)
      have f0 := HD2.c0
      have f1 := HD2.c1
      have hlen : t.2.length = ys.length := by rw [← rds_len' t.2, ← rds_len' ys, HTR.out, k1]
      have ks := sameDists_any w5.heap.size t.1 sv t.2 ys w5 (Nat.le_refl _) hdss k2 (by omega) (by omega) (by rw [HTR.out, k1])
      obtain ⟨ta2, tc2, htv⟩ : ∃ a c, t.1 = .slice a t.2.length c := by obtain ⟨a, c, e, _⟩ := hdss; exact ⟨a, c, e⟩
      obtain ⟨sa, sc, hsv⟩ : ∃ a c, sv = .slice a ys.length c := by obtain ⟨a, c, e, _⟩ := k2; exact ⟨a, c, e⟩
      subst hsv
      rw [htv] at c1 ks
      have HO5 : Hid (w5.ownsRow w2.heap.size 3 1 (.slice ca came.length cc) came.length (came.map (.int .i64))) := row_gb HO.out (gb_none k4) (by simp)
      clear kr k1 k2 k4 hct hce hel hcell hcell2 hdss HD2 hlen htv
      go_wp2_with fail
      refine ks.mono ?_
      rintro e6 w6 ⟨rfl, hb6⟩
      have g1 := (hb6.cell (p := ⟨w1.heap.size, 1, none⟩) (by show w1.heap.size < w5.heap.size; have := bw5.size; omega)).trans f1
      have g2 := (hb6.cell (p := ⟨eb, i, none⟩) heb).trans c2
      have bw6 : Below w2.heap.size w2 w6 := bt bw5 hb6
      have hs6 := bw6.size
      have HO6 : Hid (w6.ownsRow w2.heap.size 3 1 (.slice ca came.length cc) came.length (came.map (.int .i64))) := row_gb HO5.out (gb_none hb6) (by simp)
      clear ks HO5 HO c1 c2 f0 f1 hb6
      by_cases he0 : er = 0
      · subst he0
        have hnx := HNX.out
        rw [if_pos rfl] at hnx
        have HC2 : Hid (camT k (xs.take (i + 1)) = came ++ [x]) := hnx
        have hcl2 : (came ++ [x]).length ≤ 1024 := by rw [← hnx]; exact cam_len hk (camT_cam _ _)
        have HOW : Hid ((w6.alloc (.cells #[.int .i64 x] 3)).ownsRow w2.heap.size 3 1 (.slice ca came.length cc) came.length (came.map (.int .i64))) := row_gb HO6.out (gb_none (ba _ _)) (by simp)
        clear hnx HNX
        go_wp2_with (at_builtin; refine wpList_append_own_at _ rfl _ _ 24 rfl w2.heap.size 3 i0 (.int .i64 0) 1 8 Tryd.underlying24 hi3 hz0 hz1 hz2 rfl (by decide) (.slice ca came.length cc) came.length (came.map (.int .i64)) rfl HOW.out ⟨w6.heap.size, 0, none⟩ 1 1 [.int .i64 x] rfl rfl (one_cells w6 _ _ _ rfl) (by intro z hz; simp at hz; subst hz; rfl) (by unfold maxLen; omega) (by omega) (by simp; omega) ?_)
        intro nv w7 ho7 hg7 hnil7 hat7
        have b7 : Below w2.heap.size w2 w7 := (bw6.alloc hs6 _).grown hg7 (by simp; omega) (fun y e => (row_lt HO6.out e).1)
        obtain ⟨na, nc, rfl⟩ := row_slice ho7
        have HO7 : Hid (w7.ownsRow w2.heap.size 3 1 (.slice na (came ++ [x]).length nc) (came ++ [x]).length ((came ++ [x]).map (.int .i64))) := by
          rw [Hid, List.map_append, List.length_append]; exact ho7
        clear ho7 hg7 hnil7 hat7 HOW
        go_wp2
        go_roundw
        case rel => exact ⟨i + 1, nc, na, came ++ [x], by go_num, by simp, h1, hcl2, HC2, HO7, b7⟩
        case measure => simp [intOf]; omega
      · have hnx := HNX.out
        rw [if_neg he0] at hnx
        have HC2 : Hid (camT k (xs.take (i + 1)) = came) := hnx
        have he1 : (er == 0) = false := by simpa using he0
        clear hnx HNX
        go_wp2
        go_roundw
        case rel => exact ⟨i + 1, cc, ca, came, by go_num, rfl, h1, hcl, HC2, HO6, bw6⟩
        case measure => simp [intOf]; omega
    · obtain rfl : i = xs.length := by omega
      have hcx : camT k xs = came := by have := HC.out; rw [List.take_length] at this; exact this
      have z1 : ¬ ((xs.length : Nat) : Int) < (xs.length : Int) := by omega
      have HD2 := HF2.out.same (hbl.block _ HF2.out.lt)
      rw [hcx] at HD2
      have HD3 : Hid (FivB wr w1.heap.size (.slice ta xs.length tc) (.slice ea xs.length ec) (.int .i64 (came.length : Int)) (.int .i64 p) (.int .i64 q)) := HD2
      clear hcx HD2 d0 d1 d2 d3 d4
      go_wp2_with fail
      refine (kp _).mono ?_
      rintro e5 w5 ⟨rfl, hb5⟩
      have HD5 : Hid (∀ o, FivB (w5.alloc o) w1.heap.size (.slice ta xs.length tc) (.slice ea xs.length ec) (.int .i64 (came.length : Int)) (.int .i64 p) (.int .i64 q)) := fun o => (HD3.out.same (hb5.block _ HD3.out.lt)).same ((ba w5 o).block _ (Nat.lt_of_lt_of_le HD3.out.lt hb5.size))
      have f2 := fun o => (HD5.out o).c2
      have f3 := fun o => (HD5.out o).c3
      have f4 := fun o => (HD5.out o).c4
      have B5 : Below w.heap.size w w5 := bt Bw hb5
      have hlt5 : ¬ w1.heap.size = w5.heap.size := by have h1 := HD3.out.lt; have h2 := hb5.size; omega
      clear kp hb5
      go_wp2
      go_ret
      exact ⟨by simp, bal B5 _⟩

theorem treeCounts_walk (B nb : Nat) (high u d lo hi : Int) (v : Value) (xs : List Int) (w : World) (hB : B ≤ w.heap.size) (hv : Ints w B nb v xs) (hl : xs.length ≤ 1048576) (hT : TabAt 1 Lib.deBruijn64tab w) (hlo : I64 lo) (hhi : I64 hi) :
    Calls Tryd.prog 3 #[.int .i64 high, rv u d, .int .i64 lo, .int .i64 hi, v] w fun e w' => e = .returned (.bool true) ∧ Below w.heap.size w w' := by
  obtain ⟨er, her⟩ : ∃ er, newE high u d lo hi = er := ⟨_, rfl⟩
  by_cases c : er = 0
  · subst c
    have h0 : 0 ≤ high := by
      unfold newE at her
      by_cases c : 0 ≤ high ∧ high ≤ 10
      · exact c.1
      · rw [if_neg c] at her; simp at her
    obtain ⟨k, rfl⟩ := Int.eq_ofNat_of_zero_le h0
    exact treeCounts_good k u d lo hi v B nb xs w hB hv hl her hT hlo hhi
  · exact treeCounts_bad high u d lo hi v er her c w
end Go.Proofs.YtjembpcpefgdpaaDoor
