import Derived.Test.YtdcdjjemndadaaaBin
namespace Go.Proofs.Ytdcdjjemndadaaa
open Go.RowKit Go.Proofs.Ytdcdjjemndadaaa.Ds

/-- a distribution -/
structure Dis (l : List Pt) : Prop where
  rise : Rise l
  pos : Pos l
  le : tot l ≤ 1073741824
  ne : l ≠ []
  ok : l.all okP = true
  few : l.length ≤ 4096
  one : dv l = 1

theorem cut_rise {g : Int} {l : List Pt} (h : Rise l) : Rise (cut g l) := by
  unfold Rise cut
  rw [List.pairwise_map]
  exact h

theorem dv_mul (g : Nat) : ∀ l : List Pt, dv (l.map fun p => (p.1, (g : Int) * p.2)) = g * dv l
  | [] => by simp [dv]
  | p :: l => by
    simp only [List.map_cons, dv, dv_mul g l]
    rw [Int.natAbs_mul, Int.natAbs_natCast, Nat.gcd_mul_left]

theorem cut_back {l : List Pt} {g : Nat} (h : ∀ p ∈ l, (g : Int) ∣ p.2) : (cut g l).map (fun p => (p.1, (g : Int) * p.2)) = l := by
  simp only [cut, List.map_map]
  conv => rhs; rw [← List.map_id l]
  refine List.map_congr_left fun p hp => ?_
  simp only [Function.comp, id]
  rw [Int.mul_ediv_cancel' (h p hp)]

theorem lowT_ok {l m : List Pt} (hp : Pos l) (hr : Rise l) (h : lowT l = (m, 0)) : Rise m ∧ Pos m ∧ tot m ≤ 1073741824 ∧ m ≠ [] ∧ m.length ≤ 4096 ∧ dv m = 1 := by
  unfold lowT at h
  split at h
  · simp at h
  · rename_i hne
    split at h
    · simp at h
    · rename_i hc
      simp only [Prod.mk.injEq, and_true] at h
      subst h
      have hd := dv_pos hp hne
      have hdv : ∀ p ∈ l, ((dv l : Nat) : Int) ∣ p.2 := fun p hp => dv_dvd_int hp
      refine ⟨cut_rise hr, ?_, by omega, ?_, by rw [cut_length]; omega, ?_⟩
      · intro p hpm
        obtain ⟨q, hq, rfl⟩ := List.mem_map.1 hpm
        have h1 := hp q hq
        exact Int.ediv_pos_of_pos_of_dvd h1 (by omega) (hdv q hq)
      · simp [cut, hne]
      · have e := dv_mul (dv l) (cut (dv l) l)
        rw [cut_back hdv] at e
        exact Nat.eq_of_mul_eq_mul_left hd (by rw [← e, Nat.mul_one])

theorem ownT_ok {l m : List Pt} (h : ownT l = (m, 0)) : m = l ∧ Dis l := by
  unfold ownT at h
  split at h
  · rename_i h0
    split at h
    · rename_i h1
      simp only [Prod.mk.injEq, and_true] at h
      have hm : makeT l = (l, 0) := Prod.ext h1 h0
      unfold makeT at hm
      split at hm
      · rename_i hok
        obtain ⟨a, b, c, d, e, f⟩ := lowT_ok (gath_pos (all_okP hok).1) (gath_rise l) hm
        exact ⟨h.symm, a, b, c, d, hok, e, f⟩
      · simp at hm
    · simp at h
  · rename_i h0
    simp only [Prod.mk.injEq] at h
    exact absurd h.2 h0

theorem wt_at {l : List Pt} (h : Rise l) {i : Nat} {p : Pt} (hp : l[i]? = some p) : wt l p.1 = p.2 := by
  induction l generalizing i with
  | nil => simp at hp
  | cons q l ih =>
    cases i with
    | zero => simp at hp; subst hp; exact wt_head h
    | succ i =>
      simp at hp
      rw [wt_cons, ih (rise_tail h) hp, if_neg (ltL_ne ((List.pairwise_cons.1 h).1 p (List.mem_of_getElem? hp)))]
      omega

/-- Chance -/
def chanceT (l : List Pt) (y : List Int) : Int × Int × Int := if (ownT l).2 = 0 then Rt.mkT (wt l y) (tot l) else (0, 0, (ownT l).2)

theorem tot_pos2 {l : List Pt} (h : Pos l) (hne : l ≠ []) : 0 < tot l := by
  cases l with
  | nil => exact absurd rfl hne
  | cons p l => have := h p (by simp); have := tot_pos (l := l) fun q hq => h q (by simp [hq]); rw [tot_cons]; omega

set_option maxHeartbeats 2000000 in
set_option maxRecDepth 100000 in
theorem chance_any (B nb : Nat) (v u : Value) (ts : List Tr) (y : List Int) (w : World) (hB : B ≤ w.heap.size) (hp : Parts w B v ts) (hu : Ints w B nb u y) (n m er : Int) (hr : chanceT (rd ts) y = (n, m, er)) :
    Calls Try.prog 15 #[v, u] w fun e w' => e = .returned (.tuple #[rv n m, .int .i64 er]) ∧ Below w.heap.size w w' := by
  have HP : Hid (Parts w B v ts) := hp
  have HU : Hid (Ints w B nb u y) := hu
  obtain ⟨a, c, rfl, hc, hl, _⟩ := hp
  obtain ⟨ua, uc, rfl, _⟩ := hu
  obtain ⟨⟨l, e1⟩, ho⟩ : ∃ x, ownT (rd ts) = x := ⟨_, rfl⟩
  rw [chanceT, ho] at hr
  simp only at hr
  have HR : Hid ((if e1 = 0 then Rt.mkT (wt (rd ts) y) (tot (rd ts)) else (0, 0, e1)) = (n, m, er) ∧ ownT (rd ts) = (l, e1)) := ⟨hr, ho⟩
  clear hr ho
  obtain ⟨W, hW⟩ : ∃ W, w.alloc (.cells #[.int .i64 0, .int .i64 0] 34) = W := ⟨_, rfl⟩
  have HW : Hid (Below w.heap.size w W) := hW ▸ ba w _
  have hWs : W.heap.size = w.heap.size + 1 := by rw [← hW]; simp
  have p1 : W.cell? ⟨w.heap.size, 0, none⟩ = some (.int .i64 0) := by rw [← hW]; simp [go_sem]
  have p2 : W.cell? ⟨w.heap.size, 1, none⟩ = some (.int .i64 0) := by rw [← hW]; simp [go_sem]
  have p3 : W.frozen? ⟨w.heap.size, 0, none⟩ = false := by rw [← hW]; simp [go_sem]
  have p4 : W.frozen? ⟨w.heap.size, 1, none⟩ = false := by rw [← hW]; simp [go_sem]
  have kc := own_any B _ ts W (by omega) (HP.out.at hB HW.out) l e1 HR.out.2
  go_enter Try.func15, Try.ntmps15
  go_wp2_with fail
  clear hW
  refine kc.mono ?_
  rintro e w1 ⟨v1, us, rfl, hrd, ho, hb1⟩
  have HO : Hid (OwnN w1 W.heap.size v1 us) := ho
  have HD : Hid (rd us = l) := hrd
  obtain ⟨a1, c1, rfl⟩ := ho.slice
  have lw : w.heap.size < W.heap.size := by omega
  obtain ⟨hc1, hf1⟩ := bcell hb1
  have q1 := (hc1 _ 0 lw).trans p1
  have q2 := (hc1 _ 1 lw).trans p2
  have q3 := (hf1 _ 0 lw).trans p3
  have q4 := (hf1 _ 1 lw).trans p4
  have hbw : Below w.heap.size w w1 := bt HW.out hb1
  have hs1 := hb1.size
  clear ho hrd kc p1 p2 p3 p4 hc1 hf1 hb1
  by_cases h0 : e1 = 0
  · subst h0
    obtain ⟨hle, hdis⟩ := ownT_ok HR.out.2
    have HL : Hid (rd us = rd ts ∧ Dis (rd ts)) := ⟨HD.out.trans hle, hdis⟩
    have hmk := HR.out.1
    rw [if_pos rfl] at hmk
    have HM : Hid (Rt.mkT (wt (rd ts) y) (tot (rd ts)) = (n, m, er)) := hmk
    have kb := bsearch_any w1.heap.size nb (.slice a1 us.length c1) (.slice ua y.length uc) 0 us y w1 (Nat.le_refl _) HO.out.parts ((HU.out.at hB hbw).mono (Nat.le_trans hB hbw.size) (.inl rfl)) (by rw [HL.out.1]; exact hdis.rise)
    clear hle hdis hmk HR HD
    go_wp2_with fail
    refine kb.mono ?_
    rintro e w2 ⟨i, f, rfl, hil, hyes, hno, hb2⟩
    clear kb
    have lw1 : w.heap.size < w1.heap.size := by omega
    obtain ⟨T, HT⟩ : ∃ T, Hid (tot (rd ts) = T) := ⟨_, rfl⟩
    have hT1 : T ≤ 1073741824 := by rw [← HT.out]; exact HL.out.2.le
    cases f with
    | false =>
      have hw0 : wt (rd ts) y = 0 := by rw [← HL.out.1]; exact wt_none (hno rfl)
      have HM2 : Hid (Rt.mkT 0 T = (n, m, er)) := by have := HM.out; rw [hw0, HT.out] at this; exact this
      clear hyes hno hw0 HM
      have kt := total_any w2.heap.size (.slice a1 us.length c1) us w2 (Nat.le_refl _) (HO.out.keep hb2).parts (by rw [HL.out.1]; exact Nn.of_pos HL.out.2.pos) (by rw [HL.out.1]; have := HL.out.2.le; omega) T (by rw [HL.out.1]; exact HT.out)
      have km := fun W => rmake_any 0 T n m er (by omega) (by omega) HM2.out W
      go_wp2_with fail
      refine kt.mono ?_
      rintro e w3 ⟨rfl, hb3⟩
      obtain ⟨hc3, hf3⟩ := bcell (bt hb2 hb3)
      have s1 := (hc3 _ 0 lw1).trans q1
      have s2 := (hc3 _ 1 lw1).trans q2
      have s3 := (hf3 _ 0 lw1).trans q3
      have s4 := (hf3 _ 1 lw1).trans q4
      have hb23 : Below w1.heap.size w1 w3 := bt hb2 hb3
      clear kt hc3 hf3 q1 q2 q3 q4
      go_wp2_with fail
      refine (km _).mono ?_
      rintro e w4 ⟨rfl, hb4⟩
      obtain ⟨hc4, hf4⟩ := bcell hb4
      have lw3 : w.heap.size < w3.heap.size := by have := hb23.size; omega
      have t1 := (hc4 _ 0 lw3).trans s1
      have t2 := (hc4 _ 1 lw3).trans s2
      have t3 := (hf4 _ 0 lw3).trans s3
      have t4 := (hf4 _ 1 lw3).trans s4
      clear hc4 hf4 s1 s2 s3 s4 km
      go_wp2
      exact bodyPost_ret (v := .tuple #[rv n m, .int .i64 er]) (by simp [results, Try.results15, go_sem, t1, t2]) rfl ⟨rfl, bs (bs (bt (bt hbw hb23) hb4) (Nat.le_refl _) _) (Nat.le_refl _) _⟩
    | true =>
      obtain ⟨⟨s, xs, k⟩, hs, hxs⟩ := hyes rfl
      simp only at hxs
      subst hxs
      have hilt := (List.getElem?_eq_some_iff.1 hs).1
      have hw0 : wt (rd ts) xs = k := by rw [← HL.out.1]; exact wt_at (by rw [HL.out.1]; exact HL.out.2.rise) (rd_get hs)
      have HM2 : Hid (Rt.mkT k T = (n, m, er)) := by have := HM.out; rw [hw0, HT.out] at this; exact this
      have hk1 : k ≤ 1073741824 := by
        have := Pos.le_tot (Nn.of_pos HL.out.2.pos) (p := (xs, k)) (by rw [← HL.out.1]; exact List.mem_of_getElem? (rd_get hs))
        have := HL.out.2.le
        simp only at *
        omega
      obtain ⟨b, o, sa, sc, xs', k', ha1, hb, hs', d1, d2, _⟩ := (HO.out.keep hb2).parts.get (Nat.le_refl _) (Below.refl _ w2) hilt
      subst ha1
      have hk' : k' = k := by
        rw [hs] at hs'
        simp only [Option.some.injEq, Prod.mk.injEq] at hs'
        exact hs'.2.2.symm
      subst hk'
      have z1 : (0 : Int) ≤ (i : Int) := by omega
      have z2 : (i : Int) < (us.length : Int) := by omega
      clear hyes hno hw0 HM hs hs'
      have kt := total_any w2.heap.size (.slice (some ⟨b, o, none⟩) us.length c1) us w2 (Nat.le_refl _) (HO.out.keep hb2).parts (by rw [HL.out.1]; exact Nn.of_pos HL.out.2.pos) (by rw [HL.out.1]; have := HL.out.2.le; omega) T (by rw [HL.out.1]; exact HT.out)
      have km := fun W => rmake_any k' T n m er (by omega) (by omega) HM2.out W
      go_wp2_with fail
      refine kt.mono ?_
      rintro e w3 ⟨rfl, hb3⟩
      obtain ⟨hc3, hf3⟩ := bcell (bt hb2 hb3)
      have s1 := (hc3 _ 0 lw1).trans q1
      have s2 := (hc3 _ 1 lw1).trans q2
      have s3 := (hf3 _ 0 lw1).trans q3
      have s4 := (hf3 _ 1 lw1).trans q4
      have hb23 : Below w1.heap.size w1 w3 := bt hb2 hb3
      clear kt hc3 hf3 q1 q2 q3 q4
      go_wp2_with fail
      refine (km _).mono ?_
      rintro e w4 ⟨rfl, hb4⟩
      obtain ⟨hc4, hf4⟩ := bcell hb4
      have lw3 : w.heap.size < w3.heap.size := by have := hb23.size; omega
      have t1 := (hc4 _ 0 lw3).trans s1
      have t2 := (hc4 _ 1 lw3).trans s2
      have t3 := (hf4 _ 0 lw3).trans s3
      have t4 := (hf4 _ 1 lw3).trans s4
      clear hc4 hf4 s1 s2 s3 s4 km
      go_wp2
      exact bodyPost_ret (v := .tuple #[rv n m, .int .i64 er]) (by simp [results, Try.results15, go_sem, t1, t2]) rfl ⟨rfl, bs (bs (bt (bt hbw hb23) hb4) (Nat.le_refl _) _) (Nat.le_refl _) _⟩
  · have h3 := HR.out.1
    rw [if_neg h0] at h3
    simp only [Prod.mk.injEq] at h3
    obtain ⟨rfl, rfl, rfl⟩ := h3
    have h0' : (e1 == 0) = false := by simpa using h0
    have h0'' : (e1 != 0) = true := by simpa using h0
    go_wp2
    exact bodyPost_ret (v := .tuple #[rv 0 0, .int .i64 e1]) (by simp [results, Try.results15, go_sem, q1, q2]) rfl ⟨rfl, bs (bs hbw (Nat.le_refl _) _) (Nat.le_refl _) _⟩
end Go.Proofs.Ytdcdjjemndadaaa
