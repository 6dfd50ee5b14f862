import Derived.Test.YtfcbkcoagoncoaaQf28
import Derived.Test.YtfcbkcoagoncoaaQf31
namespace Go.Proofs.Ytfcbkcoagoncoaa
open Go.RowKit Go.Proofs.Ytfcbkcoagoncoaa.Ds Go.Proofs.Ytfcbkcoagoncoaa.Crd

/-- a distribution of one's own, and what is wrong -/
def DistQ' (w : World) (l : List Pt) (er : Int) (e : Ending) (w' : World) : Prop :=
  ∃ v' us, e = .returned (.tuple #[v', .int .i64 er]) ∧ rd us = l ∧ OwnN w' w.heap.size v' us ∧ Below w.heap.size w w'
theorem DistQ'.err {w w' : World} {er : Int} (hb : Below w.heap.size w w') : DistQ' w [] er (.returned (.tuple #[.slice none 0 0, .int .i64 er])) w' :=
  ⟨_, [], rfl, rfl, .inl ⟨rfl, rfl⟩, hb⟩
theorem own_at {w w' : World} {lo : Nat} {v : Value} {ts : List Tr} (h : OwnN w lo v ts) (hb : Below w.heap.size w w') : Parts w' w'.heap.size v ts := (h.keep hb).parts
/-- of what was heard and of what one says -/
theorem said_of {u d : Int} {k t : Nat} {ts : List Nat} (hu : 1 ≤ u) (hd : 1 ≤ d) (hk : k ≤ 7) (ht : t ≤ k) (hts : ∀ x ∈ ts, x ≤ k) (hn : ts.length ≤ 12) (hS : (u + k * d) ^ ts.length ≤ 1073741824) (hS1 : u + k * d ≤ 1073741824)
    {hs ss : List Tr} (h1 : makeT (expL u d k ts) = (rd hs, 0)) (h2 : makeT (resL u d (t : Int) (k + 1)) = (rd ss, 0)) : Said k hs ss := by
  rw [exp_make hu hd hk (by omega) hts hS] at h1
  split at h1
  · simp at h1
  rename_i hfew
  simp only [Prod.mk.injEq, and_true] at h1
  obtain ⟨g, σ, hg, hσ, hσp, h3⟩ := say_made hu hd hk ht hS1
  rw [h2] at h3
  simp only [Prod.mk.injEq, and_true] at h3
  have key : ∀ x ∈ hs, ∃ h ∈ cnts ts.length k, x.2.1 = h ∧ 0 ≤ x.2.2 ∧ x.2.2 ≤ 1073741824 := by
    intro x hx
    have hm : x.2 ∈ rd hs := List.mem_map.2 ⟨x, hx, rfl⟩
    rw [← h1] at hm
    obtain ⟨q, hq, he⟩ := List.mem_map.1 hm
    obtain ⟨h, hh, rfl⟩ := List.mem_map.1 hq
    rw [← he]
    have a1 := wgh_pos hu hd k ts h hh
    have a2 := wgh_le hu hd k ts hts hh
    refine ⟨h, hh, rfl, ?_, ?_⟩
    · exact Int.ediv_nonneg (by show 0 ≤ wgh u d k ts h; omega) (by omega)
    · exact Int.le_trans (Int.ediv_le_self _ (by show 0 ≤ wgh u d k ts h; omega)) (Int.le_trans a2 hS)
  have key2 : ∀ x ∈ ss, ∃ j : Nat, j ≤ k ∧ x.2.1 = [(j : Int)] ∧ 0 ≤ x.2.2 ∧ x.2.2 ≤ 1073741824 := by
    intro x hx
    have hm : x.2 ∈ rd ss := List.mem_map.2 ⟨x, hx, rfl⟩
    rw [h3] at hm
    obtain ⟨j, hj, he⟩ := List.mem_map.1 hm
    have hjk : j ≤ k := by have := List.mem_range.1 hj; omega
    obtain ⟨s1, s2⟩ := hσp j hjk
    rw [← he]
    exact ⟨j, hjk, rfl, by show 0 ≤ σ j; omega, by show σ j ≤ _; omega⟩
  refine ⟨fun x hx => ?_, fun x hx y hy => ?_, fun x hx => ?_, fun x hx => ?_, fun x hx => ?_, ?_, ?_⟩
  · obtain ⟨h, hh, e, _⟩ := key x hx
    rw [e]; exact cnts_len hh
  · obtain ⟨h, hh, e, _⟩ := key x hx
    rw [e] at hy
    have := cnt_le hh hy
    have := cnts_nn hh y hy
    omega
  · obtain ⟨h, hh, e, a⟩ := key x hx
    exact a
  · obtain ⟨j, hj, e, _⟩ := key2 x hx
    exact ⟨j, hj, e⟩
  · obtain ⟨j, hj, e, a⟩ := key2 x hx
    exact a
  · have := congrArg List.length h1
    rw [cut_length] at this
    simp only [expL, List.length_map, rd] at this
    omega
  · have := congrArg List.length h3
    simp [rd, sayL] at this
    omega
theorem nats_take (ts : List Int) (i : Nat) : natsT (ts.take i) = (natsT ts).take i := by simp [natsT, List.map_take]
theorem nats_snoc {ts : List Int} {i : Nat} {x : Int} (h : ts[i]? = some x) : natsT (ts.take (i + 1)) = natsT (ts.take i) ++ [x.toNat] := by
  rw [List.take_add_one, h]; simp [natsT]

set_option maxHeartbeats 8000000 in
set_option maxRecDepth 100000 in
/-- crowd.Shuffled -/
theorem shuffled_any (B : Nat) (u d K : Int) (v : Value) (ts : List Int) (w : World) (hB : B ≤ w.heap.size) (hx : Num w B v ts) (l : List Pt) (er : Int) (hr : shuT u d K ts = (l, er)) :
    Calls Try.prog 6 #[rv u d, .int .i64 K, v] w (DistQ' w l er) := by
  have HN : Hid (Num w B v ts) := hx
  obtain ⟨e0, he0⟩ : ∃ e0, peoE u d K ts = e0 := ⟨_, rfl⟩
  have hxa : Num (w.alloc (.cells #[.int .i64 u, .int .i64 d] 23)) B v ts := hx.at hB (ba _ _)
  have kc := wrong_any B u d K v ts (w.alloc (.cells #[.int .i64 u, .int .i64 d] 23)) (by simp; omega) hxa e0 he0
  obtain ⟨va, vc, rfl, hvc, hvl, _⟩ := hx
  by_cases c0 : e0 = 0
  · subst c0
    obtain ⟨k, rfl, hP⟩ := peo_ok he0
    rw [shu_of he0 rfl] at hr
    have HP : Hid (Peo u d k ts) := hP
    have HR : Hid (makeT (expL u d k (natsT ts)) = (l, er)) := hr
    have hd1 := hP.d1
    have hu1 : 1 ≤ u := by have := hP.du; omega
    have hk7 := hP.k7
    have hl12 := hP.len
    have hmk := make_ints (k + 1) (by omega)
    have ek : ((k + 1 : Nat) : Int) = (k : Int) + 1 := by omega
    rw [ek] at hmk
    have h0 : makeT [(List.replicate (k + 1) (0 : Int), (1 : Int))] = ([(List.replicate (k + 1) 0, 1)], 0) := by
      have h1 : expL u d k [] = [(List.replicate (k + 1) 0, 1)] := exp_nil u d k
      have h2 := exp_make hu1 hd1 hk7 (ts := []) (by simp) (by simp) (by simp)
      rw [h1] at h2
      rw [h2]
      simp only [List.length_nil, cnts_zero, List.length_cons]
      rw [if_neg (by omega)]
      simp [dv, cut]
    have ks := fun (W : World) => sure_any (W.heap.size + 1) W.heap.size.succ.succ (.slice (some ⟨W.heap.size, 0, none⟩) (k + 1) (k + 1)) (List.replicate (k + 1) 0) (W.alloc (.cells (madeCells #[.int .i64 0] (k + 1)) 3)) (by simp) (by
      have h3 := (RowI.made W (k + 1)).intsC (cap := k + 1) (B := W.heap.size + 1) (m := W.heap.size.succ.succ) (by simp) (by simp; omega) (by omega) (by omega)
      rw [List.length_replicate] at h3
      exact h3) _ 0 h0
    clear hr he0 hP h0 hxa
    go_enter Try.func6, Try.ntmps6
    go_wp2_with fail
    refine kc.mono ?_
    rintro x w1 ⟨rfl, hb1⟩
    have G1 := bt (ba _ _) hb1
    obtain ⟨hc1, hf1⟩ := bcell hb1
    have r1 : w1.cell? ⟨w.heap.size, 0, none⟩ = some (.int .i64 u) := by rw [hc1 _ _ (by simp)]; simp [go_sem]
    have r2 : w1.cell? ⟨w.heap.size, 1, none⟩ = some (.int .i64 d) := by rw [hc1 _ _ (by simp)]; simp [go_sem]
    have hz1 : w.heap.size < w1.heap.size := by have := hb1.size; simp at this; omega
    clear hc1 hf1 hb1 kc
    go_wp2_with fail
    refine (ks w1).mono ?_
    rintro x w2 ⟨v2, us2, rfl, hu2, ho2, hb2⟩
    obtain ⟨b2, d2, rfl⟩ := ho2.slice
    have hb12 : Below w1.heap.size w1 w2 := bt (ba _ _) hb2
    have hz2 := hb12.size
    have HU2 : Hid (makeT (expL u d k (natsT (ts.take 0))) = (rd us2, 0)) := by
      rw [Hid, hu2]
      show makeT (expL u d k []) = _
      have h2 := exp_make hu1 hd1 hk7 (ts := []) (by simp) (by simp) (by simp)
      rw [h2, exp_nil]
      simp only [List.length_nil, cnts_zero, List.length_cons]
      rw [if_neg (by omega)]
      simp [dv, cut]
    have HO2 : Hid (OwnN w2 w.heap.size (.slice b2 us2.length d2) us2) := ho2.mono (by simp; omega)
    clear ks ho2 hu2 hb2
    go_wp2_with fail
    go_loopw [9, 10, 30] (fun hv ev s wr => ∃ (i : Nat) (us : List Tr), s = .int .i64 (i : Int) ∧ ev = .int .i64 0 ∧ i ≤ ts.length ∧ Hid (makeT (expL u d k (natsT (ts.take i))) = (rd us, 0)) ∧ Hid (OwnN wr w.heap.size hv us) ∧ Below w1.heap.size w1 wr) (fun _ _ s _ => ts.length - (intOf s).toNat)
    case atStart => exact ⟨0, us2, rfl, rfl, Nat.zero_le _, HU2, HO2, hb12⟩
    case round =>
      obtain ⟨i, us, rfl, rfl, hit, HU, HO, hbl⟩ := hrel
      have hbs := hbl.size
      obtain ⟨pa, pc, rfl⟩ := HO.out.slice
      have s1 : wr.cell? ⟨w.heap.size, 0, none⟩ = some (.int .i64 u) := (hbl.cell (p := ⟨w.heap.size, 0, none⟩) hz1).trans r1
      have s2 : wr.cell? ⟨w.heap.size, 1, none⟩ = some (.int .i64 d) := (hbl.cell (p := ⟨w.heap.size, 1, none⟩) hz1).trans r2
      have GB : Below w.heap.size w wr := bt G1 hbl
      by_cases h1 : i < ts.length
      · obtain ⟨b, o, c, x, hv, hc, hb, hxi, hcell⟩ := (HN.out.at hB GB).get h1
        simp only [Value.slice.injEq, true_and] at hv
        obtain ⟨rfl, rfl⟩ := hv
        obtain ⟨x0, x1⟩ := HP.out.mem x (List.mem_of_getElem? hxi)
        obtain ⟨t, rfl⟩ := Int.eq_ofNat_of_zero_le x0
        have ht : t ≤ k := by omega
        have hres := HP.out.res (t := (t : Int)) (by omega) (by omega)
        obtain ⟨g, σ, hg, hσ, hσp, hmade⟩ := say_made hu1 hd1 hk7 ht HP.out.S
        rw [hmade] at hres
        have kx := respond_fr u d ((k : Int) + 1) (t : Int) _ 0 hres
        have HMD : Hid (makeT (resL u d (t : Int) (k + 1)) = (sayL σ k, 0)) := hmade
        have hlt : ts.length = (natsT ts).length := (nats_len ts).symm
        have hti : (natsT (ts.take i)).length = i := by rw [nats_len, List.length_take]; omega
        have hts : ∀ y ∈ natsT (ts.take i), y ≤ k := by
          intro y hy
          rw [nats_take] at hy
          exact HP.out.nats y (List.mem_of_mem_take hy)
        have hSu : 1 ≤ u + k * d := by have : 0 ≤ (k : Int) * d := Int.mul_nonneg (by omega) (by omega); omega
        have hpw : (u + k * d) ^ (i + 1) ≤ 1073741824 := Int.le_trans (pow_up' hSu (by omega)) HP.out.pow
        have HSN : Hid (natsT (ts.take (i + 1)) = natsT (ts.take i) ++ [t]) := by rw [Hid, nats_snoc hxi]; simp
        have HFacts : Hid ((natsT (ts.take i)).length = i ∧ (∀ y ∈ natsT (ts.take i), y ≤ k) ∧ (u + k * d) ^ (i + 1) ≤ 1073741824 ∧ (u + k * d) ^ i ≤ 1073741824) := ⟨hti, hts, hpw, Int.le_trans (pow_up hSu i) hpw⟩
        clear hres hmade hxi hlt hti hts hpw hσ hσp hg
        go_wp2_with fail
        refine (kx _).mono ?_
        rintro y w3 ⟨v3, us3, rfl, hu3, ho3, hb3, _⟩
        obtain ⟨b3, d3, rfl⟩ := ho3.slice
        obtain ⟨l4, e4, h4⟩ : ∃ l4 e4, makeT (jn (rd us) (rd us3)) = (l4, e4) := ⟨_, _, rfl⟩
        have hu3' : makeT (resL u d (t : Int) (k + 1)) = (rd us3, 0) := by rw [HMD.out, hu3]
        have hsd : Said k us us3 := said_of hu1 hd1 hk7 ht HFacts.out.2.1 (by rw [HFacts.out.1]; omega) (by rw [HFacts.out.1]; exact HFacts.out.2.2.2) HP.out.S HU.out hu3'
        have kj := joined_any w3.heap.size k (.slice pa us.length pc) (.slice b3 us3.length d3) us us3 w3 (Nat.le_refl _) (own_at HO.out hb3) ho3.parts hsd l4 e4 h4
        have H4 : Hid (makeT (expL u d k (natsT (ts.take (i + 1)))) = (l4, e4)) := by
          rw [Hid, HSN.out, ← h4]
          exact (step_make hu1 hd1 hk7 ht HFacts.out.2.1 (by rw [HFacts.out.1]; omega) (by rw [HFacts.out.1]; exact HFacts.out.2.2.1) HU.out hu3').symm
        have hbl3 : Below w1.heap.size w1 w3 := bt hbl hb3
        have GB3 : Below w.heap.size w w3 := bt GB hb3
        clear kx hu3 hu3' ho3 hb3 hsd h4 HU HO
        go_wp2_with fail
        refine kj.mono ?_
        rintro y w4 ⟨v4, us4, rfl, hu4, ho4, hb4, _⟩
        obtain ⟨b4, d4, rfl⟩ := ho4.slice
        have hbl4 : Below w1.heap.size w1 w4 := bt hbl3 hb4
        have GB4 : Below w.heap.size w w4 := bt GB3 hb4
        have hw3 := GB3.size
        have HO4 : Hid (OwnN w4 w.heap.size (.slice b4 us4.length d4) us4) := ho4.mono hw3
        clear kj ho4
        by_cases c4 : e4 = 0
        · subst c4
          have HU4 : Hid (makeT (expL u d k (natsT (ts.take (i + 1)))) = (rd us4, 0)) := by rw [hu4]; exact H4
          clear hu4
          go_wp2
          go_roundw
          case rel => exact ⟨i + 1, us4, by go_num, rfl, by omega, HU4, HO4, hbl4⟩
          case measure => simp [intOf]; omega
        · have c5 : (e4 != 0) = true := by simpa using c4
          have hfin : (l, er) = ([], e4) := by
            have e5 : natsT (ts.take (i + 1)) ++ (natsT ts).drop (i + 1) = natsT ts := by rw [nats_take, List.take_append_drop]
            rw [← HR.out, ← e5]
            refine exp_much hu1 hd1 hk7 (by rw [e5]; exact HP.out.nats) (by rw [e5, nats_len]; omega) (by rw [e5, nats_len]; exact HP.out.pow) H4.out c4
          simp only [Prod.mk.injEq] at hfin
          obtain ⟨rfl, rfl⟩ := hfin
          clear hu4
          go_wp2
          exact bodyPost_ret (v := .tuple #[.slice none 0 0, .int .i64 er]) (by simp [results, Try.results6, go_sem]) rfl (DistQ'.err GB4)
      · obtain rfl : i = ts.length := by omega
        have hfin : (rd us, 0) = (l, er) := by
          rw [← HR.out, ← HU.out, List.take_of_length_le (Nat.le_refl _)]
        simp only [Prod.mk.injEq] at hfin
        obtain ⟨hl, rfl⟩ := hfin
        have HZ : Hid (DistQ' w l 0 (.returned (.tuple #[.slice pa us.length pc, .int .i64 0])) wr) := ⟨_, us, rfl, hl, HO.out, GB⟩
        clear hl HU HO
        go_wp2
        exact bodyPost_ret (v := .tuple #[.slice pa us.length pc, .int .i64 0]) (by simp [results, Try.results6, go_sem]) rfl HZ.out
  · have c1 : (e0 != 0) = true := by simpa using c0
    unfold shuT at hr
    rw [he0, if_pos c0] at hr
    simp only [Prod.mk.injEq] at hr
    obtain ⟨rfl, rfl⟩ := hr
    clear HN he0 hxa
    go_enter Try.func6, Try.ntmps6
    go_wp2_with fail
    refine kc.mono ?_
    rintro x w1 ⟨rfl, hb1⟩
    have G1 := bt (ba _ _) hb1
    clear kc hb1
    go_wp2
    exact bodyPost_ret (v := .tuple #[.slice none 0 0, .int .i64 e0]) (by simp [results, Try.results6, go_sem]) rfl (DistQ'.err G1)
end Go.Proofs.Ytfcbkcoagoncoaa
