import Derived.Test.YtlndlpjadajelaaGreatQa18
import Derived.Test.YtlndlpjadajelaaGreatQa12
import Derived.Test.YtlndlpjadajelaaGreatQa16
namespace Go.Proofs.YtlndlpjadajelaaGreat
open Go.RowKit Go.Proofs.YtlndlpjadajelaaGreat.Ds

set_option maxHeartbeats 4000000 in
set_option maxRecDepth 100000 in
/-- the reference's Hide -/
theorem rhide_any (u d lo hi n : Int) (l : List Pt) (er : Int) (hr : hideT u d lo hi n = (l, er)) (w : World) :
    Calls Tryz.prog 54 #[rv u d, .int .i64 lo, .int .i64 hi, .int .i64 n] w (DistR w l er) := by
  obtain ⟨e0, he0⟩ : ∃ e0, lossE u d = e0 := ⟨_, rfl⟩
  have kc := rloss_any u d e0 he0
  rw [hideT, he0] at hr
  by_cases c : e0 = 0
  · subst c
    obtain ⟨hrt, hdu, hd1, hu1⟩ := loss_ok he0
    rw [if_neg (by simp)] at hr
    by_cases cb : -1073741824 ≤ lo ∧ lo ≤ hi ∧ hi ≤ 1073741824 ∧ hi - lo ≤ 64
    · obtain ⟨b1, b2, b3, b4⟩ := cb
      rw [if_neg (by simp; omega)] at hr
      by_cases ce : lo = hi
      · subst ce
        rw [if_pos rfl] at hr
        have ks : ∀ W : World, Calls Tryz.prog 109 #[.slice (some ⟨W.heap.size + 1, 0, none⟩) 1 1] ((W.alloc (.cells #[.int .i64 lo] 3)).alloc (.cells #[.slice (some ⟨W.heap.size, 0, none⟩) 1 1, .int .i64 1] 82)) (fun e w' => ∃ v' us, e = .returned (.tuple #[v', .int .i64 er]) ∧ rd us = l ∧ OwnN w' W.heap.size v' us ∧ Below W.heap.size W w' ∧ Frs W.heap.size us) := fun W => by
          have h1 := parts_one (W.alloc (.cells #[.int .i64 lo] 3)) (W.heap.size + 1) (W.heap.size + 1) _ [lo] 1 (by simp) (ints_one W lo (W.heap.size + 1) (by omega))
          rw [show (W.alloc (.cells #[.int .i64 lo] 3)).heap.size = W.heap.size + 1 by simp] at h1
          refine (makeR_fr (W.heap.size + 1 + 1) _ _ _ (by simp) h1 l er hr).mono fun e w' h2 => ?_
          obtain ⟨v', us, q1, q2, q3, q4, q5⟩ := h2
          refine ⟨v', us, q1, q2, q3.mono (by simp; omega), bt (bal (ba _ _) _) q4, fun t ht _ b o sp n c e => ?_⟩
          obtain ⟨y, h3, h4, _⟩ := q5 t ht
          obtain rfl : y = (.slice (some ⟨W.heap.size, 0, none⟩) 1 1, [lo], 1) := by simpa using h3
          rw [← h4] at e
          simp only [Value.slice.injEq, Option.some.injEq, Addr.mk.injEq] at e
          omega
        clear he0 hrt hr
        go_enter Tryz.func54, Tryz.ntmps54
        go_wp2_with fail
        refine (kc _).mono ?_
        rintro e w1 ⟨rfl, hb1⟩
        have G1 := bt (ba _ _) hb1
        obtain ⟨hc1, hf1⟩ := bcell hb1
        go_wp2_with fail
        refine (ks _).mono ?_
        rintro e w2 ⟨v2, us, rfl, k1, k2, k3, k4⟩
        obtain ⟨a2, c2, rfl⟩ := k2.slice
        have HZ : Hid (DistR w l er (.returned (.tuple #[.slice a2 us.length c2, .int .i64 er])) w2) := ⟨_, us, rfl, k1, k2.mono G1.size, bt G1 k3, k4.mono G1.size⟩
        clear k1 k2 k3 k4 ks
        go_wp2
        exact bodyPost_ret (v := .tuple #[.slice a2 us.length c2, .int .i64 er]) (by simp [results, Tryz.results54, go_sem]) rfl HZ.out
      · rw [if_neg ce] at hr
        obtain ⟨R, hR⟩ : ∃ R : Nat, hi - lo = (R : Int) := ⟨(hi - lo).toNat, by omega⟩
        obtain rfl : hi = lo + (R : Int) := by omega
        obtain ⟨A, hA⟩ : ∃ A : Nat, plcT lo (lo + (R : Int)) n = lo + (A : Int) := ⟨(plcT lo (lo + (R : Int)) n - lo).toNat, by unfold plcT; omega⟩
        have hA2 : A ≤ R := by have : plcT lo (lo + (R : Int)) n ≤ lo + (R : Int) := by unfold plcT; omega
                               omega
        rw [hA, show (lo + (R : Int) - lo).toNat = R by omega, show (lo + (A : Int) - lo).toNat = A by omega] at hr
        by_cases cm : 1073741824 < (u + d) * u ^ R
        · rw [if_pos cm] at hr
          simp only [Prod.mk.injEq] at hr
          obtain ⟨rfl, rfl⟩ := hr
          have ce' : (lo == lo + (R : Int)) = false := by simp; omega
          have wA : IntKind.i64.wrap (lo + (R : Int) - lo) = lo + (R : Int) - lo := by rw [IntKind.wrap_i64]; omega
          have wB : IntKind.i64.wrap (u + d) = u + d := by rw [IntKind.wrap_i64]; omega
          by_cases cx : u ^ R ≤ 1073741824
          · obtain ⟨X, hX⟩ : ∃ X, u ^ R = X := ⟨_, rfl⟩
            rw [hX] at cx cm
            have hX0 : 1 ≤ X := by rw [← hX]; exact pow_pos' (by omega) R
            have hX3 : 0 ≤ X * (u + d) := Int.mul_nonneg (by omega) (by omega)
            have hX4 : X * (u + d) ≤ 1073741824 * 2147483648 := Int.mul_le_mul cx (by omega) (by omega) (by omega)
            rw [Int.mul_comm] at cm
            have hx4 : decide (1073741824 < X) = false := by simp; omega
            have hx5 : decide (1073741824 < X * (u + d)) = true := by simpa using cm
            have wC : IntKind.i64.wrap (X * (u + d)) = X * (u + d) := by rw [IntKind.wrap_i64]; omega
            have kp : ∀ (m : Int) (W : World), m = (R : Int) → Calls Tryz.prog 108 #[.int .i64 u, .int .i64 m] W fun e w' => e = .returned (.int .i64 X) ∧ w' = W := fun m W hm => by
              subst hm
              exact rpow_any u R (by omega) (by omega) hu1 X (by rw [hX, lim_id cx]) W
            clear he0 hrt hA hR hX
            go_enter Tryz.func54, Tryz.ntmps54
            go_wp2_with fail
            refine (kc _).mono ?_
            rintro e w1 ⟨rfl, hb1⟩
            have G1 := bt (ba _ _) hb1
            obtain ⟨hc1, hf1⟩ := bcell hb1
            have d1 : w1.cell? ⟨w.heap.size, 0, none⟩ = some (.int .i64 u) := by rw [hc1 _ _ (by simp)]; simp [go_sem]
            have d2 : w1.cell? ⟨w.heap.size, 1, none⟩ = some (.int .i64 d) := by rw [hc1 _ _ (by simp)]; simp [go_sem]
            clear hc1 hf1 kc hb1
            go_wp2_with fail
            go_region_held3 (fun w' => w'.cell? ⟨w.heap.size, 0, none⟩ = some (.int .i64 u) ∧ w'.cell? ⟨w.heap.size, 1, none⟩ = some (.int .i64 d))
              ((go_split_ands; refine ⟨?_, ?_⟩ <;> first | assumption | (simp [go_sem, *]; done)))
              ((go_at_call 108; refine (kp _ _ (by omega)).mono ?_; rintro x1 w2 ⟨rfl, rfl⟩))
            have G2 := bt G1 (Below.refl w1.heap.size w1).drew
            go_wp2
            exact bodyPost_ret (v := .tuple #[.slice none 0 0, .int .i64 4]) (by simp [results, Tryz.results54, go_sem]) rfl (DistR.err G2)
          · obtain ⟨X, hX⟩ : ∃ X : Int, 1073741825 = X := ⟨_, rfl⟩
            have kp : ∀ (m : Int) (W : World), m = (R : Int) → Calls Tryz.prog 108 #[.int .i64 u, .int .i64 m] W fun e w' => e = .returned (.int .i64 X) ∧ w' = W := fun m W hm => by
              subst hm
              exact rpow_any u R (by omega) (by omega) hu1 X (by rw [← hX]; exact if_neg cx) W
            have hX0 : 1 ≤ X := by omega
            have hX1 : X ≤ 1073741825 := by omega
            have hX3 : 0 ≤ X * (u + d) := Int.mul_nonneg (by omega) (by omega)
            have hX4 : X * (u + d) ≤ 1073741825 * 2147483648 := Int.mul_le_mul hX1 (by omega) (by omega) (by omega)
            have hx4 : 1073741824 < X := by omega
            have wC : IntKind.i64.wrap (X * (u + d)) = X * (u + d) := by rw [IntKind.wrap_i64]; omega
            clear he0 hrt hA hR cx cm hX
            go_enter Tryz.func54, Tryz.ntmps54
            go_wp2_with fail
            refine (kc _).mono ?_
            rintro e w1 ⟨rfl, hb1⟩
            have G1 := bt (ba _ _) hb1
            obtain ⟨hc1, hf1⟩ := bcell hb1
            have d1 : w1.cell? ⟨w.heap.size, 0, none⟩ = some (.int .i64 u) := by rw [hc1 _ _ (by simp)]; simp [go_sem]
            have d2 : w1.cell? ⟨w.heap.size, 1, none⟩ = some (.int .i64 d) := by rw [hc1 _ _ (by simp)]; simp [go_sem]
            clear hc1 hf1 kc hb1
            go_wp2_with fail
            go_quiet ((go_at_call 108; refine Calls.quiet_of_same (kp _ _ (by omega))))
            go_wp2
            exact bodyPost_ret (v := .tuple #[.slice none 0 0, .int .i64 4]) (by simp [results, Tryz.results54, go_sem]) rfl (DistR.err (below_drewN G1 _))
        · rw [if_neg cm] at hr
          exact rhide_main u d lo n R A (by omega) (by omega) hA2 hA he0 hd1 hdu hu1 (by omega) b1 b3 l er hr w
    · rw [if_pos cb] at hr
      simp only [Prod.mk.injEq] at hr
      obtain ⟨rfl, rfl⟩ := hr
      clear he0 hrt
      by_cases b1 : lo < -1073741824
      · clear cb
        go_enter Tryz.func54, Tryz.ntmps54
        go_wp2_with fail
        refine (kc _).mono ?_
        rintro e w1 ⟨rfl, hb1⟩
        have G1 := bt (ba _ _) hb1
        obtain ⟨hc1, hf1⟩ := bcell hb1
        go_wp2
        exact bodyPost_ret (v := .tuple #[.slice none 0 0, .int .i64 3]) (by simp [results, Tryz.results54, go_sem]) rfl (DistR.err G1)
      · by_cases b2 : 1073741824 < hi
        · clear cb
          go_enter Tryz.func54, Tryz.ntmps54
          go_wp2_with fail
          refine (kc _).mono ?_
          rintro e w1 ⟨rfl, hb1⟩
          have G1 := bt (ba _ _) hb1
          obtain ⟨hc1, hf1⟩ := bcell hb1
          go_wp2
          exact bodyPost_ret (v := .tuple #[.slice none 0 0, .int .i64 3]) (by simp [results, Tryz.results54, go_sem]) rfl (DistR.err G1)
        · by_cases b3 : hi < lo
          · clear cb
            go_enter Tryz.func54, Tryz.ntmps54
            go_wp2_with fail
            refine (kc _).mono ?_
            rintro e w1 ⟨rfl, hb1⟩
            have G1 := bt (ba _ _) hb1
            obtain ⟨hc1, hf1⟩ := bcell hb1
            go_wp2
            exact bodyPost_ret (v := .tuple #[.slice none 0 0, .int .i64 3]) (by simp [results, Tryz.results54, go_sem]) rfl (DistR.err G1)
          · have b4 : lo + 64 < hi := by omega
            clear cb
            go_enter Tryz.func54, Tryz.ntmps54
            go_wp2_with fail
            refine (kc _).mono ?_
            rintro e w1 ⟨rfl, hb1⟩
            have G1 := bt (ba _ _) hb1
            obtain ⟨hc1, hf1⟩ := bcell hb1
            go_wp2
            exact bodyPost_ret (v := .tuple #[.slice none 0 0, .int .i64 3]) (by simp [results, Tryz.results54, go_sem]) rfl (DistR.err G1)
  · rw [if_pos c] at hr
    simp only [Prod.mk.injEq] at hr
    obtain ⟨rfl, rfl⟩ := hr
    have c1 : (e0 == 0) = false := by simpa using c
    have c2 : (e0 != 0) = true := by simpa using c
    clear he0
    go_enter Tryz.func54, Tryz.ntmps54
    go_wp2_with fail
    refine (kc _).mono ?_
    rintro e w1 ⟨rfl, hb1⟩
    have G1 := bt (ba _ _) hb1
    obtain ⟨hc1, hf1⟩ := bcell hb1
    go_wp2
    exact bodyPost_ret (v := .tuple #[.slice none 0 0, .int .i64 e0]) (by simp [results, Tryz.results54, go_sem]) rfl (DistR.err G1)
end Go.Proofs.YtlndlpjadajelaaGreat

namespace Go.Proofs.YtlndlpjadajelaaGreat
open Go.RowKit Go.Proofs.YtlndlpjadajelaaGreat.Ds

set_option maxRecDepth 100000 in
/-- Clone of parts: nil of none, or a row of one's own. -/
theorem cloneD_any (B : Nat) (v : Value) (ts : List Tr) (w : World) (hB : B ≤ w.heap.size) (hx : Parts w B v ts) :
    Calls Tryz.prog 139 #[v] w fun e w' => ∃ v', e = .returned v' ∧ Below w.heap.size w w' ∧
      ((ts = [] ∧ v' = .slice none 0 0) ∨ ∃ g cap, v' = .slice (some ⟨g, 0, none⟩) ts.length cap ∧ ts.length ≤ cap ∧ w.heap.size ≤ g ∧ Row w' g 0 ts) := by
  obtain ⟨a, c, rfl, hc, hl, hI, hxx⟩ := hx
  have q23 : ∀ (w : World) (a : Option Addr) (n c n' c' : Nat), (binOp .eql 44 (.slice a n c) (.slice none n' c')).run Tryz.prog w = .ok (.bool a.isNone) w := fun w a n c n' c' => Lib.run_eql_slice_nil w _ _ a n c n' c' Tryz.underlying44
  cases a with
  | none =>
    obtain rfl : ts = [] := by
      cases ts with
      | nil => rfl
      | cons x l => obtain ⟨b, o, h, _⟩ := hxx (by simp); cases h
    clear hxx hI
    go_enter Tryz.func139, Tryz.ntmps139
    go_wp2
    go_ret
    exact ⟨_, rfl, Below.refl _ _, by simp⟩
  | some ad =>
    have A : Hid (∀ j u, (flat ts)[j]? = some u → ∀ o, (w.alloc o).cell? (ad.add j) = some u) := by
      intro j u hj o
      have hlt : j < ts.length * 2 := by rw [← flat_len]; exact (List.getElem?_eq_some_iff.1 hj).1
      obtain ⟨b, o', he, hb, hcell⟩ := hxx (by rintro rfl; simp at hlt)
      simp only [Option.some.injEq] at he
      subst he
      rw [Addr.add_lit, World.cell?_alloc_lt _ _ _ (by simp; omega)]
      exact flat_cells hcell j u hj
    have A1 : Hid (∀ u ∈ flat ts, u.oneCell' = true) := by
      intro u hu
      obtain ⟨t, ht, hu⟩ := List.mem_flatMap.1 hu
      obtain ⟨sa, sc, he, _⟩ := hI t ht
      simp only [List.mem_cons, List.not_mem_nil, or_false] at hu
      rcases hu with rfl | rfl
      · rw [he]; rfl
      · rfl
    obtain ⟨i0, hi, hz0, hz1, hz2⟩ := info_parts info32
    clear hxx hI
    have hnb : Hid (ts.length * 32 ≤ 140737488355328 ∧ ts.length ≤ maxLen) := ⟨by omega, by simp [maxLen]; omega⟩
    go_enter Tryz.func139, Tryz.ntmps139
    go_wp2_with (at_builtin; refine wpList_append_own _ rfl _ _ 44 rfl w.heap.size 82 i0 (.agg #[.slice none 0 0, .int .i64 0]) 2 32 Tryz.underlying44 hi hz0 hz1 hz2 rfl (by decide) _ _ _ rfl (World.ownsRow_made w #[] 0 (Nat.le_refl _) (Nat.zero_le _) (by simp)) ad ts.length c (flat ts) rfl ?qc1 ?qc2 ?qc3 ?qc4 ?qc5 ?qc6 ?_)
    case qc1 => exact flat_len ts
    case qc2 => intro j u hj; exact A.out j u hj _
    case qc3 => exact A1.out
    case qc4 => rw [Nat.zero_add]; exact hnb.out.2
    case qc5 => rw [Nat.zero_add]; exact hnb.out.1
    case qc6 => simp
    intro v' w1 hown hgrow hnil
    go_wp2
    go_ret
    refine ⟨v', rfl, ?_, .inr ?_⟩
    · exact ((Below.refl _ w).alloc (Nat.le_refl _) _).grown hgrow (by simp) (by intro k hk; simp [Value.ownBlock] at hk; omega)
    · exact row_of_owns (Nat.zero_add _) (by simpa using hown) hnil
end Go.Proofs.YtlndlpjadajelaaGreat

namespace Go.Proofs.YtlndlpjadajelaaGreat
open Go.RowKit Go.Proofs.YtlndlpjadajelaaGreat.Ds

/-- a list is stored -/
theorem Row.setS {w : World} {b : Nat} {us : List Tr} (h : Row w b 0 us) {i : Nat} {t : Tr} (ht : us[i]? = some t) (s : Value) :
    Row (w.setCell ⟨b, i * 2, none⟩ s) b 0 (us.set i (s, t.2.1, t.2.2)) := by
  have hi := (List.getElem?_eq_some_iff.1 ht).1
  refine ⟨fun j u hu => ?_, fun j hj => by rw [sc_frozen]; exact h.thaw j (by simpa using hj), by simpa using h.lt⟩
  by_cases hj : i = j
  · subst hj
    rw [List.getElem?_set_self hi] at hu
    obtain rfl : (s, t.2.1, t.2.2) = u := by simpa using hu
    have c := h.cells i t ht
    rw [Nat.zero_add] at c ⊢
    exact ⟨sc_same c.1, by rw [sc_other (by simp)]; exact c.2⟩
  · rw [List.getElem?_set_ne hj] at hu
    have c := h.cells j u hu
    exact ⟨by rw [sc_other (by simp <;> omega)]; exact c.1, by rw [sc_other (by simp <;> omega)]; exact c.2⟩
theorem rd_setS {us : List Tr} {i : Nat} {t : Tr} (ht : us[i]? = some t) (s : Value) : rd (us.set i (s, t.2.1, t.2.2)) = rd us := by
  rw [rd_set]
  have := rd_get ht
  apply List.ext_getElem?
  intro j
  rw [List.getElem?_set]
  by_cases hj : i = j
  · subst hj
    rw [if_pos rfl, this]
    split
    · rfl
    · rename_i hh; exact absurd (List.getElem?_eq_some_iff.1 this).1 hh
  · rw [if_neg hj]
theorem frs_set {lo i : Nat} {us : List Tr} (h : Frs lo (us.take i)) (hi : i < us.length) {t : Tr} (ht : t.2.1 ≠ [] → ∀ b o sp n c, t.1 = .slice (some ⟨b, o, sp⟩) n c → lo ≤ b) : Frs lo ((us.set i t).take (i + 1)) := by
  rw [take_set_succ _ hi]
  intro x hx
  rcases List.mem_append.1 hx with h1 | h1
  · exact h x h1
  · obtain rfl : x = t := by simpa using h1
    exact ht

set_option maxHeartbeats 2000000 in
set_option maxRecDepth 100000 in
/-- copied -/
theorem ncopied_fr (B : Nat) (v : Value) (ts : List Tr) (w : World) (hB : B ≤ w.heap.size) (hp : Parts w B v ts) :
    Calls Tryz.prog 75 #[v] w fun e w' => ∃ v' us, e = .returned v' ∧ OwnN w' w.heap.size v' us ∧ rd us = rd ts ∧ Below w.heap.size w w' ∧ Frs w.heap.size us := by
  have HP : Hid (Parts w B v ts) := hp
  have kc := cloneD_any B v ts w hB hp
  obtain ⟨a, c, rfl, hc, hl, _⟩ := hp
  go_enter Tryz.func75, Tryz.ntmps75
  go_wp2_with fail
  refine kc.mono ?_
  rintro e w1 ⟨v1, rfl, hb1, hv1⟩
  rcases hv1 with ⟨hts, rfl⟩ | ⟨g, cap, rfl, hcap, hgb, hrow⟩
  · subst hts
    clear kc
    go_wp2
    go_loopw [10] (fun s wr => s = .int .i64 0 ∧ wr = w1) (fun _ _ => 0)
    case atStart => exact ⟨rfl, rfl⟩
    case round =>
      obtain ⟨rfl, rfl⟩ := hrel
      go_wp2
      go_ret
      exact ⟨_, [], rfl, .inl ⟨rfl, rfl⟩, rfl, hb1, Frs.nil _⟩
  · have HR : Hid (Row w1 g 0 ts) := hrow
    have hgl := hrow.lt
    clear hrow kc
    go_wp2
    go_loopw [10] (fun s wr => ∃ (i : Nat) (us : List Tr), s = .int .i64 (i : Int) ∧ i ≤ ts.length ∧ Hid (us.length = ts.length ∧ rd us = rd ts) ∧ Hid (Row wr g 0 us) ∧ Hid (∀ t ∈ us, Ints wr wr.heap.size g t.1 t.2.1) ∧ Hid (Frs w.heap.size (us.take i)) ∧ Below w.heap.size w wr) (fun s _ => ts.length - (intOf s).toNat)
    case atStart =>
      refine ⟨0, ts, rfl, Nat.zero_le _, ⟨rfl, rfl⟩, HR, fun t ht => ?_, by simp [Hid, Frs.nil], hb1⟩
      exact ((HP.out.elem hB (Below.refl _ _) ht).at hB hb1).mono (Nat.le_trans hB hb1.size) (.inr (by omega))
    case round =>
      obtain ⟨i, us, rfl, hit, HU, HRw, HI, HF, hbl⟩ := hrel
      have hsz := hbl.size
      have hgw := HRw.out.lt
      by_cases h1 : i < ts.length
      · obtain ⟨b, o, sa, sc, xs, k, rfl, hb, hs, c1, c2, hIx⟩ := HP.out.get hB hbl h1
        have HIx : Hid (Ints wr B B (.slice sa xs.length sc) xs) := hIx
        obtain ⟨⟨s0, x0, k0⟩, ht0⟩ := get_lt (l := us) (i := i) (by rw [HU.out.1]; exact h1)
        have hxk : x0 = xs ∧ k0 = k := by
          have e1 := rd_get ht0
          have e2 := rd_get hs
          rw [HU.out.2, e2] at e1
          simp at e1
          exact ⟨e1.1.symm, e1.2.symm⟩
        obtain ⟨rfl, rfl⟩ := hxk
        have HT0 : Hid (us[i]? = some (s0, x0, k0)) := ht0
        obtain ⟨r4, r5⟩ := HRw.out.cells i _ ht0
        have r2 := HRw.out.thaw (i * 2) (by rw [HU.out.1]; omega)
        simp only [Nat.zero_add] at r2 r4 r5
        have kn := fun W (h : Below wr.heap.size wr W) => cloneN_any B B (.slice sa x0.length sc) x0 W (Nat.le_trans hB (Nat.le_trans hbl.size h.size)) (HIx.out.at (Nat.le_trans hB hbl.size) h)
        clear hs hIx ht0
        have q1 : (wr.alloc (.cells #[.slice sa x0.length sc, .int .i64 k0] 82)).cell? ⟨g, i * 2, none⟩ = some s0 := by rw [World.cell?_alloc_lt _ _ _ hgw]; exact r4
        have q2 : (wr.alloc (.cells #[.slice sa x0.length sc, .int .i64 k0] 82)).frozen? ⟨g, i * 2, none⟩ = false := by rw [(ba wr _).frozen hgw]; exact r2
        go_wp2_with fail
        refine (kn _ (ba _ _)).mono ?_
        rintro e w2 ⟨v2, rfl, hI2, hb2⟩
        have hs2 : wr.heap.size < w2.heap.size := by have := hb2.size; simp at this; omega
        have hz2 : 0 < (wr.alloc (.cells #[.slice sa x0.length sc, .int .i64 k0] 82)).heap.size := by simp
        obtain ⟨av, cv, hv2, _⟩ := hI2 0 hz2
        subst hv2
        have hgl2 : g < (wr.alloc (.cells #[.slice sa x0.length sc, .int .i64 k0] 82)).heap.size := by simp; omega
        have k1 : w2.cell? ⟨g, i * 2, none⟩ = some s0 := ((bcell hb2).1 _ _ hgl2).trans q1
        have k2 : w2.frozen? ⟨g, i * 2, none⟩ = false := ((bcell hb2).2 _ _ hgl2).trans q2
        have HB2 : Hid (Below wr.heap.size wr w2) := bt (ba _ _) hb2
        have HR2 : Hid (Row (w2.setCell ⟨g, i * 2, none⟩ (.slice av x0.length cv)) g 0 (us.set i (.slice av x0.length cv, x0, k0))) := (HRw.out.keep HB2.out).setS HT0.out (.slice av x0.length cv)
        have HI3 : Hid (∀ t ∈ us.set i (.slice av x0.length cv, x0, k0), Ints (w2.setCell ⟨g, i * 2, none⟩ (.slice av x0.length cv)) (w2.setCell ⟨g, i * 2, none⟩ (.slice av x0.length cv)).heap.size g t.1 t.2.1) := by
          intro t ht
          have h3 : Ints w2 w2.heap.size g t.1 t.2.1 := by
            rcases List.mem_or_eq_of_mem_set ht with h | rfl
            · exact (HI.out t h).at2 HB2.out
            · exact hI2 g hgl2
          have h4 := h3.set (p := ⟨g, i * 2, none⟩) rfl (.slice av x0.length cv)
          simpa using h4
        have HF2 : Hid (Frs w.heap.size ((us.set i (.slice av x0.length cv, x0, k0)).take (i + 1))) := frs_set HF.out (by rw [HU.out.1]; exact h1) (fr_of (w := w2) (B := w2.heap.size) fun m hm => hI2 m (by simp; omega))
        have HU2 : Hid ((us.set i (.slice av x0.length cv, x0, k0)).length = ts.length ∧ rd (us.set i (.slice av x0.length cv, x0, k0)) = rd ts) := ⟨by simp [HU.out.1], (rd_setS HT0.out _).trans HU.out.2⟩
        have HB3 : Hid (Below w.heap.size w (w2.setCell ⟨g, i * 2, none⟩ (.slice av x0.length cv))) := bs (bt hbl HB2.out) hgb _
        clear hI2 hb2 q1 q2 kn HT0
        go_wp2
        go_roundw
        case rel => exact ⟨i + 1, _, by go_num, h1, HU2, HR2, HI3, HF2, HB3.out⟩
        case measure => simp [intOf]; omega
      · have hii : ts.length ≤ i := by omega
        have HZ : Hid (OwnN wr w.heap.size (.slice (some ⟨g, 0, none⟩) ts.length cap) us ∧ rd us = rd ts ∧ Frs w.heap.size us) := by
          refine ⟨.inr ⟨g, 0, cap, by rw [HU.out.1], by rw [HU.out.1]; exact hcap, by rw [HU.out.1]; exact hl, hgb, HRw.out, HI.out⟩, HU.out.2, ?_⟩
          have := HF.out
          rwa [List.take_of_length_le (by rw [HU.out.1]; exact hii)] at this
        go_wp2
        go_ret
        exact ⟨_, us, rfl, HZ.out.1, HZ.out.2.1, hbl, HZ.out.2.2⟩
end Go.Proofs.YtlndlpjadajelaaGreat
