import Derived.Test.YtlndlpjadajelaaGreatQt24
import Derived.Test.YtlndlpjadajelaaGreatQt09
import Derived.Test.YtlndlpjadajelaaGreatQt23
import Derived.Test.YtlndlpjadajelaaGreatQt11
import Derived.Test.YtlndlpjadajelaaGreatQt01
import Derived.Deep.Upon
namespace Go.Proofs.YtlndlpjadajelaaGreat
open Go.RowKit Go.Proofs.YtlndlpjadajelaaGreat.Ds

set_option maxHeartbeats 4000000 in
set_option maxRecDepth 100000 in
/-- the reference's Hide -/
theorem rhide_any (u d lo hi n : Int) (l : List Pt) (er : Int) (hr : hideT u d lo hi n = (l, er)) (w : World) :
    Calls Tryz.prog 54 #[rv u d, .int .i64 lo, .int .i64 hi, .int .i64 n] w (DistR w l er) := by
  obtain ⟨e0, he0⟩ : ∃ e0, lossE u d = e0 := ⟨_, rfl⟩
  have kc := rloss_any u d e0 he0
  rw [hideT, he0] at hr
  by_cases c : e0 = 0
  · subst c
    obtain ⟨hrt, hdu, hd1, hu1⟩ := loss_ok he0
    rw [if_neg (by simp)] at hr
    by_cases cb : -1073741824 ≤ lo ∧ lo ≤ hi ∧ hi ≤ 1073741824 ∧ hi - lo ≤ 64
    · obtain ⟨b1, b2, b3, b4⟩ := cb
      rw [if_neg (by simp; omega)] at hr
      by_cases ce : lo = hi
      · subst ce
        rw [if_pos rfl] at hr
        have ks : ∀ W : World, Calls Tryz.prog 109 #[.slice (some ⟨W.heap.size + 1, 0, none⟩) 1 1] ((W.alloc (.cells #[.int .i64 lo] 3)).alloc (.cells #[.slice (some ⟨W.heap.size, 0, none⟩) 1 1, .int .i64 1] 82)) (fun e w' => ∃ v' us, e = .returned (.tuple #[v', .int .i64 er]) ∧ rd us = l ∧ OwnN w' W.heap.size v' us ∧ Below W.heap.size W w' ∧ Frs W.heap.size us) := fun W => by
          have h1 := parts_one (W.alloc (.cells #[.int .i64 lo] 3)) (W.heap.size + 1) (W.heap.size + 1) _ [lo] 1 (by simp) (ints_one W lo (W.heap.size + 1) (by omega))
          rw [show (W.alloc (.cells #[.int .i64 lo] 3)).heap.size = W.heap.size + 1 by simp] at h1
          refine (makeR_fr (W.heap.size + 1 + 1) _ _ _ (by simp) h1 l er hr).mono fun e w' h2 => ?_
          obtain ⟨v', us, q1, q2, q3, q4, q5⟩ := h2
          refine ⟨v', us, q1, q2, q3.mono (by simp; omega), bt (bal (ba _ _) _) q4, fun t ht _ b o sp n c e => ?_⟩
          obtain ⟨y, h3, h4, _⟩ := q5 t ht
          obtain rfl : y = (.slice (some ⟨W.heap.size, 0, none⟩) 1 1, [lo], 1) := by simpa using h3
          rw [← h4] at e
          simp only [Value.slice.injEq, Option.some.injEq, Addr.mk.injEq] at e
          omega
        clear he0 hrt hr
        go_enter Tryz.func54, Tryz.ntmps54
        go_wp2_with fail
        refine (kc _).mono ?_
        rintro e w1 ⟨rfl, hb1⟩
        have G1 := bt (ba _ _) hb1
        obtain ⟨hc1, hf1⟩ := bcell hb1
        go_wp2_with fail
        refine (ks _).mono ?_
        rintro e w2 ⟨v2, us, rfl, k1, k2, k3, k4⟩
        obtain ⟨a2, c2, rfl⟩ := k2.slice
        have HZ : Hid (DistR w l er (.returned (.tuple #[.slice a2 us.length c2, .int .i64 er])) w2) := ⟨_, us, rfl, k1, k2.mono G1.size, bt G1 k3, k4.mono G1.size⟩
        clear k1 k2 k3 k4 ks
        go_wp2
        exact bodyPost_ret (v := .tuple #[.slice a2 us.length c2, .int .i64 er]) (by simp [results, Tryz.results54, go_sem]) rfl HZ.out
      · rw [if_neg ce] at hr
        obtain ⟨R, hR⟩ : ∃ R : Nat, hi - lo = (R : Int) := ⟨(hi - lo).toNat, by omega⟩
        obtain rfl : hi = lo + (R : Int) := by omega
        obtain ⟨A, hA⟩ : ∃ A : Nat, plcT lo (lo + (R : Int)) n = lo + (A : Int) := ⟨(plcT lo (lo + (R : Int)) n - lo).toNat, by unfold plcT; omega⟩
        have hA2 : A ≤ R := by have : plcT lo (lo + (R : Int)) n ≤ lo + (R : Int) := by unfold plcT; omega
                               omega
        rw [hA, show (lo + (R : Int) - lo).toNat = R by omega, show (lo + (A : Int) - lo).toNat = A by omega] at hr
        by_cases cm : 1073741824 < (u + d) * u ^ R
        · rw [if_pos cm] at hr
          simp only [Prod.mk.injEq] at hr
          obtain ⟨rfl, rfl⟩ := hr
          have ce' : (lo == lo + (R : Int)) = false := by simp; omega
          have wA : IntKind.i64.wrap (lo + (R : Int) - lo) = lo + (R : Int) - lo := by rw [IntKind.wrap_i64]; omega
          have wB : IntKind.i64.wrap (u + d) = u + d := by rw [IntKind.wrap_i64]; omega
          by_cases cx : u ^ R ≤ 1073741824
          · obtain ⟨X, hX⟩ : ∃ X, u ^ R = X := ⟨_, rfl⟩
            rw [hX] at cx cm
            have hX0 : 1 ≤ X := by rw [← hX]; exact pow_pos' (by omega) R
            have hX3 : 0 ≤ X * (u + d) := Int.mul_nonneg (by omega) (by omega)
            have hX4 : X * (u + d) ≤ 1073741824 * 2147483648 := Int.mul_le_mul cx (by omega) (by omega) (by omega)
            rw [Int.mul_comm] at cm
            have hx4 : decide (1073741824 < X) = false := by simp; omega
            have hx5 : decide (1073741824 < X * (u + d)) = true := by simpa using cm
            have wC : IntKind.i64.wrap (X * (u + d)) = X * (u + d) := by rw [IntKind.wrap_i64]; omega
            have kp : ∀ (m : Int) (W : World), m = (R : Int) → Calls Tryz.prog 108 #[.int .i64 u, .int .i64 m] W fun e w' => e = .returned (.int .i64 X) ∧ w' = W := fun m W hm => by
              subst hm
              exact rpow_any u R (by omega) (by omega) hu1 X (by rw [hX, lim_id cx]) W
            clear he0 hrt hA hR hX
            go_enter Tryz.func54, Tryz.ntmps54
            go_wp2_with fail
            refine (kc _).mono ?_
            rintro e w1 ⟨rfl, hb1⟩
            have G1 := bt (ba _ _) hb1
            obtain ⟨hc1, hf1⟩ := bcell hb1
            have d1 : w1.cell? ⟨w.heap.size, 0, none⟩ = some (.int .i64 u) := by rw [hc1 _ _ (by simp)]; simp [go_sem]
            have d2 : w1.cell? ⟨w.heap.size, 1, none⟩ = some (.int .i64 d) := by rw [hc1 _ _ (by simp)]; simp [go_sem]
            clear hc1 hf1 kc hb1
            go_wp2_with fail
            go_region_held3 (fun w' => w'.cell? ⟨w.heap.size, 0, none⟩ = some (.int .i64 u) ∧ w'.cell? ⟨w.heap.size, 1, none⟩ = some (.int .i64 d))
              ((go_split_ands; refine ⟨?_, ?_⟩ <;> first | assumption | (simp [go_sem, *]; done)))
              ((go_at_call 108; refine (kp _ _ (by omega)).mono ?_; rintro x1 w2 ⟨rfl, rfl⟩))
            have G2 := bt G1 (Below.refl w1.heap.size w1).drew
            go_wp2
            exact bodyPost_ret (v := .tuple #[.slice none 0 0, .int .i64 4]) (by simp [results, Tryz.results54, go_sem]) rfl (DistR.err G2)
          · obtain ⟨X, hX⟩ : ∃ X : Int, 1073741825 = X := ⟨_, rfl⟩
            have kp : ∀ (m : Int) (W : World), m = (R : Int) → Calls Tryz.prog 108 #[.int .i64 u, .int .i64 m] W fun e w' => e = .returned (.int .i64 X) ∧ w' = W := fun m W hm => by
              subst hm
              exact rpow_any u R (by omega) (by omega) hu1 X (by rw [← hX]; exact if_neg cx) W
            have hX0 : 1 ≤ X := by omega
            have hX1 : X ≤ 1073741825 := by omega
            have hX3 : 0 ≤ X * (u + d) := Int.mul_nonneg (by omega) (by omega)
            have hX4 : X * (u + d) ≤ 1073741825 * 2147483648 := Int.mul_le_mul hX1 (by omega) (by omega) (by omega)
            have hx4 : 1073741824 < X := by omega
            have wC : IntKind.i64.wrap (X * (u + d)) = X * (u + d) := by rw [IntKind.wrap_i64]; omega
            clear he0 hrt hA hR cx cm hX
            go_enter Tryz.func54, Tryz.ntmps54
            go_wp2_with fail
            refine (kc _).mono ?_
            rintro e w1 ⟨rfl, hb1⟩
            have G1 := bt (ba _ _) hb1
            obtain ⟨hc1, hf1⟩ := bcell hb1
            have d1 : w1.cell? ⟨w.heap.size, 0, none⟩ = some (.int .i64 u) := by rw [hc1 _ _ (by simp)]; simp [go_sem]
            have d2 : w1.cell? ⟨w.heap.size, 1, none⟩ = some (.int .i64 d) := by rw [hc1 _ _ (by simp)]; simp [go_sem]
            clear hc1 hf1 kc hb1
            go_wp2_with fail
            go_quiet ((go_at_call 108; refine Calls.quiet_of_same (kp _ _ (by omega))))
            go_wp2
            exact bodyPost_ret (v := .tuple #[.slice none 0 0, .int .i64 4]) (by simp [results, Tryz.results54, go_sem]) rfl (DistR.err (below_drewN G1 _))
        · rw [if_neg cm] at hr
          exact rhide_main u d lo n R A (by omega) (by omega) hA2 hA he0 hd1 hdu hu1 (by omega) b1 b3 l er hr w
    · rw [if_pos cb] at hr
      simp only [Prod.mk.injEq] at hr
      obtain ⟨rfl, rfl⟩ := hr
      clear he0 hrt
      by_cases b1 : lo < -1073741824
      · clear cb
        go_enter Tryz.func54, Tryz.ntmps54
        go_wp2_with fail
        refine (kc _).mono ?_
        rintro e w1 ⟨rfl, hb1⟩
        have G1 := bt (ba _ _) hb1
        obtain ⟨hc1, hf1⟩ := bcell hb1
        go_wp2
        exact bodyPost_ret (v := .tuple #[.slice none 0 0, .int .i64 3]) (by simp [results, Tryz.results54, go_sem]) rfl (DistR.err G1)
      · by_cases b2 : 1073741824 < hi
        · clear cb
          go_enter Tryz.func54, Tryz.ntmps54
          go_wp2_with fail
          refine (kc _).mono ?_
          rintro e w1 ⟨rfl, hb1⟩
          have G1 := bt (ba _ _) hb1
          obtain ⟨hc1, hf1⟩ := bcell hb1
          go_wp2
          exact bodyPost_ret (v := .tuple #[.slice none 0 0, .int .i64 3]) (by simp [results, Tryz.results54, go_sem]) rfl (DistR.err G1)
        · by_cases b3 : hi < lo
          · clear cb
            go_enter Tryz.func54, Tryz.ntmps54
            go_wp2_with fail
            refine (kc _).mono ?_
            rintro e w1 ⟨rfl, hb1⟩
            have G1 := bt (ba _ _) hb1
            obtain ⟨hc1, hf1⟩ := bcell hb1
            go_wp2
            exact bodyPost_ret (v := .tuple #[.slice none 0 0, .int .i64 3]) (by simp [results, Tryz.results54, go_sem]) rfl (DistR.err G1)
          · have b4 : lo + 64 < hi := by omega
            clear cb
            go_enter Tryz.func54, Tryz.ntmps54
            go_wp2_with fail
            refine (kc _).mono ?_
            rintro e w1 ⟨rfl, hb1⟩
            have G1 := bt (ba _ _) hb1
            obtain ⟨hc1, hf1⟩ := bcell hb1
            go_wp2
            exact bodyPost_ret (v := .tuple #[.slice none 0 0, .int .i64 3]) (by simp [results, Tryz.results54, go_sem]) rfl (DistR.err G1)
  · rw [if_pos c] at hr
    simp only [Prod.mk.injEq] at hr
    obtain ⟨rfl, rfl⟩ := hr
    have c1 : (e0 == 0) = false := by simpa using c
    have c2 : (e0 != 0) = true := by simpa using c
    clear he0
    go_enter Tryz.func54, Tryz.ntmps54
    go_wp2_with fail
    refine (kc _).mono ?_
    rintro e w1 ⟨rfl, hb1⟩
    have G1 := bt (ba _ _) hb1
    obtain ⟨hc1, hf1⟩ := bcell hb1
    go_wp2
    exact bodyPost_ret (v := .tuple #[.slice none 0 0, .int .i64 e0]) (by simp [results, Tryz.results54, go_sem]) rfl (DistR.err G1)
end Go.Proofs.YtlndlpjadajelaaGreat

namespace Go.Proofs.YtlndlpjadajelaaGreat
open Go.RowKit Go.Proofs.YtlndlpjadajelaaGreat.Ds

/-- the reference's: what is wrong with a chance -/
theorem rchance_any (u d er : Int) (h : Sb.chE u d = er) (w : World) :
    Calls Tryz.prog 107 #[rv u d] w fun e w' => e = .returned (.int .i64 er) ∧ Below w.heap.size w w' := by
  obtain ⟨b, hb⟩ : ∃ b, Rt.rightB u d = b := ⟨_, rfl⟩
  rw [Sb.chE, hb] at h
  have HB := ba w (.cells #[.int .i64 u, .int .i64 d] 23)
  have kc := refRight_any u d b hb (w.alloc (.cells #[.int .i64 u, .int .i64 d] 23))
  clear hb
  cases b with
  | false =>
    simp at h; subst h
    go_enter Tryz.func107, Tryz.ntmps107
    go_wp2_with fail
    refine kc.mono ?_
    rintro e w1 ⟨rfl, hb1⟩
    have G1 := bt HB hb1
    go_wp2
    go_ret
    exact ⟨rfl, G1⟩
  | true =>
    simp at h
    by_cases c : d < u
    · rw [if_pos c] at h
      subst h
      go_enter Tryz.func107, Tryz.ntmps107
      go_wp2_with fail
      refine kc.mono ?_
      rintro e w1 ⟨rfl, hb1⟩
      have G1 := bt HB hb1
      obtain ⟨hc1, hf1⟩ := bcell hb1
      go_wp2
      go_ret
      exact ⟨rfl, G1⟩
    · rw [if_neg c] at h
      subst h
      go_enter Tryz.func107, Tryz.ntmps107
      go_wp2_with fail
      refine kc.mono ?_
      rintro e w1 ⟨rfl, hb1⟩
      have G1 := bt HB hb1
      obtain ⟨hc1, hf1⟩ := bcell hb1
      go_wp2
      go_ret
      exact ⟨rfl, G1⟩

/-- is a row in a subset -/
theorem in_any (s i : Nat) (hs : s ≤ 1073741824) (hi : i ≤ 4096) (b : Bool) (hb : Sb.bit s i = b) (w : World) :
    Calls Tryz.prog 53 #[.int .i64 (s : Int), .int .i64 (i : Int)] w fun e w' => e = .returned (.bool b) ∧ w' = w := by
  have HB : Hid (Sb.bit s i = b) := hb
  clear hb
  go_enter Tryz.func53, Tryz.ntmps53
  go_wp2
  go_loop [0, 5] (fun a c => ∃ k q : Nat, k ≤ i ∧ a = .int .i64 (q : Int) ∧ c = .int .i64 (k : Int) ∧ q ≤ 1073741824 ∧ Hid (q = s / 2 ^ k)) (fun _ c => i - (intOf c).toNat)
  case atStart => exact ⟨0, s, Nat.zero_le _, rfl, rfl, hs, by show _ = _; simp⟩
  case round =>
    obtain ⟨k, q, hk, rfl, rfl, hq, HQ⟩ := hrel
    by_cases c : k < i
    · have hd : ((q : Int)).tdiv 2 = ((q / 2 : Nat) : Int) := by rw [Int.tdiv_eq_ediv_of_nonneg (by omega)]; omega
      have HQ2 : Hid (q / 2 = s / 2 ^ (k + 1)) := by show _ = _; rw [HQ.out, Nat.div_div_eq_div_mul, Nat.pow_succ]
      go_wp2
      go_round
      case rel => exact ⟨k + 1, q / 2, c, by first | rfl | (congr 1) | (simp [hd]), by go_num, by omega, HQ2⟩
      case measure => simp [intOf]; omega
    · have : k = i := by omega
      subst this
      have hb : (decide (q % 2 = 1)) = b := by rw [← HB.out, Sb.bit, ← HQ.out]; rfl
      have hm : ((q : Int)).tmod 2 = ((q % 2 : Nat) : Int) := by rw [Int.tmod_eq_emod_of_nonneg (by omega)]; omega
      subst hb
      clear HB HQ
      go_wp2
      go_ret
      refine ⟨?_, rfl⟩
      first | rfl | (congr 2; by_cases e : q % 2 = 1 <;> simp [e] <;> omega)
end Go.Proofs.YtlndlpjadajelaaGreat

namespace Go.Proofs.YtlndlpjadajelaaGreat
open Go.RowKit Go.Proofs.YtlndlpjadajelaaGreat.Ds

/-- append of one part to parts of one's own -/
theorem wpList_rws {ops : Array Oper} {rest : List Oper} {o : Oper} {a : Act} {Q : Exit → Act → World → Prop} (w : World) (hgd : o.guard = none) (s x : Operand) (ho : o.op = .call { callee := .builtin .append, args := #[s, x], argTypes := #[43, 43] })
    (base n : Nat) (sa : Option Addr) (sc : Nat) (ds M : List Tr) (hs : a.eval s = .slice sa n sc) (hn : ds.length = n) (hown : Rws w base (.slice sa n sc) ds) (ad : Addr) (hx : a.eval x = .slice (some ad) 1 1) (t : Value) (xs : List Int) (k : Int)
    (hc : ∀ j u, [t, Value.int .i64 k][j]? = some u → w.cell? (ad.add j) = some u) (h1 : t.oneCell' = true) (tb : Nat) (hI : ∀ m, m < tb → Ints w w.heap.size m t xs) (had : ∀ g, (Value.slice sa n sc).ownBlock = some g → g < tb) (had0 : 0 < tb) (hM : ds ++ [(t, xs, k)] = M) (hb : n + 1 ≤ 1073741824) (hbase : base ≤ w.heap.size) (n' : Nat) (hn' : n + 1 = n')
    (h : ∀ a' c' w', Rws w' base (.slice a' n' c') M → Below base w w' → wpList Tryz.prog ops Q rest (a.put o.dst (.slice a' n' c')) w') :
    wpList Tryz.prog ops Q (o :: rest) a w := by
  subst hn hn'
  refine wpList_plain hgd fun K' hK' => ?_
  obtain ⟨i0, hi, hz0, hz1, hz2⟩ := info_parts info32
  obtain ⟨v', w', hr, h2, h3, _, h5⟩ := run_append_own_at (P := Tryz.prog) w base 43 o.type 82 i0 (.agg #[.slice none 0 0, .int .i64 0]) 2 32 Tryz.underlying43 hi hz0 hz1 hz2 rfl (by decide) (.slice sa ds.length sc) ds.length (flat ds) hown.1 ad 1 1 [t, .int .i64 k] (by simp) hc (by intro z hz; simp at hz; rcases hz with rfl | rfl; exact h1; rfl) (by unfold maxLen; omega) (by omega) hbase
  obtain ⟨a', c', rfl⟩ := owns_slice h2
  have key : Rws w' base (.slice a' (ds.length + 1) c') M := by
    rw [← hM]
    obtain ⟨m, hm1, hm2⟩ : ∃ m, m < tb ∧ ∀ g, (Value.slice sa ds.length sc).ownBlock = some g → m = g := by
      cases e : (Value.slice sa ds.length sc).ownBlock with
      | none => exact ⟨0, had0, fun g e => by cases e⟩
      | some g => exact ⟨g, had g e, fun g' e => by simpa using e⟩
    exact hown.app h2 h3 h5 (hI m hm1) hm2
  unfold Oper.wp execOp
  simp only [ho, resolve, invoke, builtin, Sem.run_bind, Sem.run_pure, Result.andThen_ok, List.map_toArray, List.map_cons, List.map_nil, hs, hx, hr]
  exact hK' _ _ (h a' c' w' key ((Below.refl _ _).grown h3 hbase (owns_block hown.1)))


/-- what the reference's Subsets leaves -/
def SubR (w : World) (l : List Pt) (er : Int) (e : Ending) (w' : World) : Prop :=
  ∃ v us, e = .returned (.tuple #[v, .int .i64 er]) ∧ rd us = l ∧ OwnN w' w.heap.size v us ∧ Below w.heap.size w w'
theorem SubR.err {w w' : World} {er : Int} (hb : Below w.heap.size w w') : SubR w [] er (.returned (.tuple #[.slice none 0 0, .int .i64 er])) w' :=
  ⟨_, [], rfl, rfl, .inl ⟨rfl, rfl⟩, hb⟩

set_option maxHeartbeats 1000000 in
set_option maxRecDepth 100000 in
theorem rsubsets_main (u d : Int) (k : Nat) (hk : k ≤ 10) (hu : 0 ≤ u) (hud : u ≤ d) (hd1 : 1 ≤ d) (hd : d ≤ 1073741824) (hm : d ^ k ≤ 1073741824) (he0 : Sb.chE u d = 0) (l : List Pt) (er : Int) (hr : makeT (Sb.lst u d k) = (l, er)) (w : World) :
    Calls Tryz.prog 52 #[rv u d, .int .i64 (k : Int)] w (SubR w l er) := by
  have HM : Hid (d ^ k ≤ 1073741824) := hm
  have HR : Hid (makeT (Sb.lst u d k) = (l, er)) := hr
  have kc := rchance_any u d 0 he0
  obtain ⟨D, hD⟩ : ∃ D, d ^ k = D := ⟨_, rfl⟩
  have kp := rpow_any d k (by omega) hd1 hd D (by unfold lim; rw [if_pos hm, hD])
  obtain ⟨n, hn⟩ : ∃ n : Nat, 2 ^ k = n := ⟨_, rfl⟩
  have hn10 : n ≤ 1024 := by rw [← hn]; exact Sb.two_le hk
  have k2 := rpow_any 2 k (by omega) (by omega) (by omega) (n : Int) (by
    have e : ((2 : Int) ^ k) = (n : Int) := by rw [← hn, Int.natCast_pow]; rfl
    unfold lim; rw [e, if_pos (by omega)])
  rw [hD] at hm
  have HN : Hid (2 ^ k = n) := hn
  clear hr he0 hD hn
  go_enter Tryz.func52, Tryz.ntmps52
  go_wp2_with fail
  refine (kc _).mono ?_
  rintro e w1 ⟨rfl, hb1⟩
  have G1 := bt (ba _ _) hb1
  obtain ⟨hc1, hf1⟩ := bcell hb1
  have b0 : w1.cell? ⟨w.heap.size, 0, none⟩ = some (.int .i64 u) := by rw [hc1 _ _ (by simp)]; simp [go_sem]
  have b1 : w1.cell? ⟨w.heap.size, 1, none⟩ = some (.int .i64 d) := by rw [hc1 _ _ (by simp)]; simp [go_sem]
  have hz1 : w.heap.size < w1.heap.size := by have := hb1.size; simp at this; omega
  clear hc1 hf1 kc hb1
  go_wp2_with fail
  refine (kp _).mono ?_
  rintro e w2 ⟨rfl, hw2⟩
  replace hw2 := hw2.symm
  subst hw2
  go_wp2_with fail
  go_loopw [7, 8] (fun pv sv wr => ∃ (s : Nat) (ds : List Tr), s ≤ n ∧ sv = .int .i64 (s : Int) ∧ ds.length = s ∧ Hid (rd ds = (Sb.lst u d k).take s) ∧ Hid (Rws wr w1.heap.size pv ds) ∧ Below w1.heap.size w1 wr) (fun _ sv _ => n - (intOf sv).toNat)
  case atStart => exact ⟨0, [], Nat.zero_le _, rfl, rfl, (by show _ = _; simp [rd]), Rws.nil _ _, Below.refl _ _⟩
  case round => as_aux_lemma =>
    obtain ⟨s, ds, hs, rfl, hdl, HD, HW, hbl⟩ := hrel
    have HDL : Hid (ds.length = s) := hdl
    obtain ⟨pa, pc, hpv⟩ := HW.out.slice
    rw [hdl] at hpv
    subst hpv
    clear hdl
    obtain ⟨wq, hwq⟩ : ∃ wq : World, wq = wr := ⟨_, rfl⟩
    subst hwq
    have c0 : wq.cell? ⟨w.heap.size, 0, none⟩ = some (.int .i64 u) := (hbl.cell (p := ⟨w.heap.size, 0, none⟩) hz1).trans b0
    have c1 : wq.cell? ⟨w.heap.size, 1, none⟩ = some (.int .i64 d) := (hbl.cell (p := ⟨w.heap.size, 1, none⟩) hz1).trans b1
    go_wp2_with fail
    refine (k2 _).mono ?_
    rintro e w3 ⟨rfl, hw3⟩
    replace hw3 := hw3.symm
    subst hw3
    by_cases h1 : s < n
    · go_wp2_with fail
      go_loopw [9, 10] (fun xv iv wr => ∃ (i : Nat) (x : Int), i ≤ k ∧ xv = .int .i64 x ∧ iv = .int .i64 (i : Int) ∧ Hid (x = Sb.wgt u d i s) ∧ wr = wq) (fun _ iv _ => k - (intOf iv).toNat)
      case atStart => exact ⟨0, 1, Nat.zero_le _, rfl, rfl, rfl, rfl⟩
      case round => as_aux_lemma =>
        obtain ⟨i, x, hi, rfl, rfl, HX, hwr⟩ := hrel
        replace hwr := hwr.symm
        subst hwr
        by_cases h2 : i < k
        · obtain ⟨b, hb⟩ : ∃ b, Sb.bit s i = b := ⟨_, rfl⟩
          have ki := in_any s i (by omega) (by omega) b hb
          have hW1 := Sb.wgt_small hu hud hd1 HM.out (show i + 1 ≤ k by omega) s
          have hW := Sb.wgt_small hu hud hd1 HM.out (show i ≤ k by omega) s
          rw [Sb.wgt, hb, ← HX.out] at hW1
          rw [← HX.out] at hW
          cases b with
          | true =>
            simp only [if_true] at hW1
            obtain ⟨P, hP⟩ : ∃ P, x * u = P := ⟨_, rfl⟩
            rw [hP] at hW1
            have HX2 : Hid (P = Sb.wgt u d (i + 1) s) := by show _ = _; rw [Sb.wgt, hb, if_pos rfl, ← HX.out, hP]
            clear hb HX
            go_wp2_with fail
            refine (ki _).mono ?_
            rintro e w4 ⟨rfl, hw4⟩
            replace hw4 := hw4.symm
            subst hw4
            go_wp2
            go_roundw
            case rel => exact ⟨i + 1, P, h2, rfl, by go_num, HX2, by first | rfl | trivial⟩
            case measure => simp [intOf]; omega
          | false =>
            simp only [Bool.false_eq_true, if_false] at hW1
            obtain ⟨P, hP⟩ : ∃ P, x * (d - u) = P := ⟨_, rfl⟩
            rw [hP] at hW1
            have HX2 : Hid (P = Sb.wgt u d (i + 1) s) := by show _ = _; rw [Sb.wgt, hb, if_neg (by simp), ← HX.out, hP]
            clear hb HX
            go_wp2_with fail
            refine (ki _).mono ?_
            rintro e w4 ⟨rfl, hw4⟩
            replace hw4 := hw4.symm
            subst hw4
            go_wp2
            go_roundw
            case rel => exact ⟨i + 1, P, h2, rfl, by go_num, HX2, by first | rfl | trivial⟩
            case measure => simp [intOf]; omega
        · obtain rfl : i = k := by omega
          obtain ⟨M, hM⟩ : ∃ M, ds ++ [((.slice (some ⟨wq.heap.size, 0, none⟩) 1 1, [(s : Int)], x) : Tr)] = M := ⟨_, rfl⟩
          have HMd : Hid (M.length = s + 1 ∧ rd M = (Sb.lst u d i).take (s + 1)) := by
            refine ⟨by rw [← hM, List.length_append, HDL.out]; rfl, ?_⟩
            rw [← hM, rd_append, HD.out, List.take_add_one, Sb.lst_get (by rw [HN.out]; exact h1), HX.out]
            rfl
          have HMM : Hid (ds ++ [((.slice (some ⟨wq.heap.size, 0, none⟩) 1 1, [(s : Int)], x) : Tr)] = M) := hM
          have hbs := hbl.size
          have hpl := HW.out.lt
          have HPL : Hid (∀ g, (Value.slice pa s pc).ownBlock = some g → g < wq.heap.size) := fun g e => (hpl g e).2
          have HWA : Hid (∀ O O', Rws ((wq.alloc O).alloc O') w1.heap.size (.slice pa s pc) ds) := fun O O' => HW.out.keep (bal (ba _ _) _)
          clear hM hpl HX
          go_wp2_with (at_builtin; refine wpList_rws _ rfl _ _ rfl w1.heap.size s pa pc ds M rfl HDL.out (HWA.out _ _) ⟨wq.heap.size + 1, 0, none⟩ rfl (.slice (some ⟨wq.heap.size, 0, none⟩) 1 1) [(s : Int)] x ?q1 rfl wq.heap.size ?q2 HPL.out (by omega) HMM.out (by omega) (by simp; omega) (s + 1) rfl ?_)
          case q1 =>
            intro j u hj
            match j, hj with
            | 0, hj => simp at hj; subst hj; simp [go_sem, Addr.add]
            | 1, hj => simp at hj; subst hj; simp [go_sem, Addr.add]
          case q2 =>
            intro m hm
            refine ⟨_, 1, rfl, Nat.le_refl _, by simp, fun _ => ⟨wq.heap.size, 0, rfl, ?_, ?_, fun j z hj => ?_⟩⟩
            · first | (simp; done) | (simp; omega) | omega
            · omega
            · match j, hj with
              | 0, hj => simp at hj; subst hj; simp [go_sem]
          intro a2 c2 w2 hown hb2
          have HB2 : Hid (Below w1.heap.size w1 w2) := (bal (bal hbl _) _).trans hb2
          have HO2 : Hid (Rws w2 w1.heap.size (.slice a2 (s + 1) c2) M) := hown
          clear hown hb2 HWA HPL HMM HW
          go_wp2
          go_roundw
          case rel => exact ⟨s + 1, M, h1, by go_num, HMd.out.1, HMd.out.2, HO2, HB2.out⟩
          case measure => simp [intOf]; omega
    · have HP2 : Hid (Parts wq wq.heap.size (.slice pa s pc) ds) := HW.out.parts (by have := HDL.out; omega)
      have kk := makeR_any wq.heap.size (.slice pa s pc) ds wq (Nat.le_refl _) HP2.out l er (by rw [HD.out, List.take_of_length_le (by rw [Sb.lst_len, HN.out]; omega)]; exact HR.out)
      have hbs := hbl.size
      clear HW HD HP2
      go_wp2_with fail
      refine kk.mono ?_
      rintro e w5 ⟨v5, us, rfl, q1, q2, q3⟩
      obtain ⟨b5, d5, rfl⟩ := q2.slice
      have HZ : Hid (SubR w l er (.returned (.tuple #[.slice b5 us.length d5, .int .i64 er])) w5) := ⟨_, us, rfl, q1, q2.mono (Nat.le_trans G1.size hbs), bt (bt G1 hbl) q3⟩
      clear kk q1 q2 q3
      go_wp2
      exact bodyPost_ret (v := .tuple #[.slice b5 us.length d5, .int .i64 er]) (by simp [results, Tryz.results52, go_sem]) rfl HZ.out

set_option maxHeartbeats 1000000 in
theorem rsubsets_any (u d m : Int) (l : List Pt) (er : Int) (h : Sb.subT u d m = (l, er)) (w : World) :
    Calls Tryz.prog 52 #[rv u d, .int .i64 m] w (SubR w l er) := by
  obtain ⟨e0, he0⟩ : ∃ e0, Sb.chE u d = e0 := ⟨_, rfl⟩
  rw [Sb.subT, he0] at h
  have kc := rchance_any u d e0 he0
  by_cases c : e0 = 0
  · subst c
    obtain ⟨hr, hu, hud, hd1, hd⟩ := Sb.ch_ok he0
    rw [if_neg (by simp)] at h
    by_cases c1 : m < 0 ∨ 10 < m
    · rw [if_pos c1] at h
      simp only [Prod.mk.injEq] at h
      obtain ⟨rfl, rfl⟩ := h
      clear he0 hr
      by_cases c2 : m < 0
      · clear c1
        go_enter Tryz.func52, Tryz.ntmps52
        go_wp2_with fail
        refine (kc _).mono ?_
        rintro e w1 ⟨rfl, hb1⟩
        have G1 := bt (ba _ _) hb1
        go_wp2
        exact bodyPost_ret (v := .tuple #[.slice none 0 0, .int .i64 5]) (by simp [results, Tryz.results52, go_sem]) rfl (SubR.err G1)
      · have c3 : 10 < m := by omega
        clear c1
        go_enter Tryz.func52, Tryz.ntmps52
        go_wp2_with fail
        refine (kc _).mono ?_
        rintro e w1 ⟨rfl, hb1⟩
        have G1 := bt (ba _ _) hb1
        go_wp2
        exact bodyPost_ret (v := .tuple #[.slice none 0 0, .int .i64 5]) (by simp [results, Tryz.results52, go_sem]) rfl (SubR.err G1)
    · rw [if_neg c1] at h
      have c2 : 0 ≤ m := by omega
      have c3 : m ≤ 10 := by omega
      obtain ⟨k, rfl⟩ := Int.eq_ofNat_of_zero_le c2
      rw [Int.toNat_natCast] at h
      by_cases c4 : 1073741824 < d ^ k
      · rw [if_pos c4] at h
        simp only [Prod.mk.injEq] at h
        obtain ⟨rfl, rfl⟩ := h
        have kp := rpow_any d k (by omega) hd1 hd 1073741825 (by unfold lim; rw [if_neg (by omega)])
        clear he0 hr c1 c4
        go_enter Tryz.func52, Tryz.ntmps52
        go_wp2_with fail
        refine (kc _).mono ?_
        rintro e w1 ⟨rfl, hb1⟩
        have G1 := bt (ba _ _) hb1
        obtain ⟨hc1, hf1⟩ := bcell hb1
        go_wp2_with fail
        refine (kp _).mono ?_
        rintro e w2 ⟨rfl, rfl⟩
        go_wp2
        exact bodyPost_ret (v := .tuple #[.slice none 0 0, .int .i64 4]) (by simp [results, Tryz.results52, go_sem]) rfl (SubR.err G1)
      · rw [if_neg c4] at h
        exact rsubsets_main u d k (by omega) hu hud hd1 hd (by omega) he0 l er h w
  · simp only [ne_eq, c, not_false_eq_true, if_true, Prod.mk.injEq] at h
    obtain ⟨rfl, rfl⟩ := h
    have c1 : (e0 == 0) = false := by simpa using c
    have c2 : (e0 != 0) = true := by simpa using c
    clear he0
    go_enter Tryz.func52, Tryz.ntmps52
    go_wp2_with fail
    refine (kc _).mono ?_
    rintro e w1 ⟨rfl, hb1⟩
    have G1 := bt (ba _ _) hb1
    go_wp2
    exact bodyPost_ret (v := .tuple #[.slice none 0 0, .int .i64 e0]) (by simp [results, Tryz.results52, go_sem]) rfl (SubR.err G1)
end Go.Proofs.YtlndlpjadajelaaGreat
