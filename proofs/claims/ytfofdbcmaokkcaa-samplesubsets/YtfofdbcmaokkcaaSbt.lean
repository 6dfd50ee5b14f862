import Derived.Test.YtfofdbcmaokkcaaSbr
import Derived.Deep.Upon
namespace Go.Proofs.Ytfofdbcmaokkcaa
open Go.RowKit Go.Proofs.Ytfofdbcmaokkcaa.Ds

/-- append of one part to parts of one's own -/
theorem wpList_rws {ops : Array Oper} {rest : List Oper} {o : Oper} {a : Act} {Q : Exit → Act → World → Prop} (w : World) (hgd : o.guard = none) (s x : Operand) (ho : o.op = .call { callee := .builtin .append, args := #[s, x], argTypes := #[24, 24] })
    (base n : Nat) (sa : Option Addr) (sc : Nat) (ds M : List Tr) (hs : a.eval s = .slice sa n sc) (hn : ds.length = n) (hown : Rws w base (.slice sa n sc) ds) (ad : Addr) (hx : a.eval x = .slice (some ad) 1 1) (t : Value) (xs : List Int) (k : Int)
    (hc : ∀ j u, [t, Value.int .i64 k][j]? = some u → w.cell? (ad.add j) = some u) (h1 : t.oneCell' = true) (tb : Nat) (hI : ∀ m, m < tb → Ints w w.heap.size m t xs) (had : ∀ g, (Value.slice sa n sc).ownBlock = some g → g < tb) (had0 : 0 < tb) (hM : ds ++ [(t, xs, k)] = M) (hb : n + 1 ≤ 1073741824) (hbase : base ≤ w.heap.size) (n' : Nat) (hn' : n + 1 = n')
    (h : ∀ a' c' w', Rws w' base (.slice a' n' c') M → Below base w w' → wpList Try.prog ops Q rest (a.put o.dst (.slice a' n' c')) w') :
    wpList Try.prog ops Q (o :: rest) a w := by
  subst hn hn'
  refine wpList_plain hgd fun K' hK' => ?_
  obtain ⟨i0, hi, hz0, hz1, hz2⟩ := info_parts info32
  obtain ⟨v', w', hr, h2, h3, _, h5⟩ := run_append_own_at (P := Try.prog) w base 24 o.type 41 i0 (.agg #[.slice none 0 0, .int .i64 0]) 2 32 Try.underlying24 hi hz0 hz1 hz2 rfl (by decide) (.slice sa ds.length sc) ds.length (flat ds) hown.1 ad 1 1 [t, .int .i64 k] (by simp) hc (by intro z hz; simp at hz; rcases hz with rfl | rfl; exact h1; rfl) (by unfold maxLen; omega) (by omega) hbase
  obtain ⟨a', c', rfl⟩ := owns_slice h2
  have key : Rws w' base (.slice a' (ds.length + 1) c') M := by
    rw [← hM]
    obtain ⟨m, hm1, hm2⟩ : ∃ m, m < tb ∧ ∀ g, (Value.slice sa ds.length sc).ownBlock = some g → m = g := by
      cases e : (Value.slice sa ds.length sc).ownBlock with
      | none => exact ⟨0, had0, fun g e => by cases e⟩
      | some g => exact ⟨g, had g e, fun g' e => by simpa using e⟩
    exact hown.app h2 h3 h5 (hI m hm1) hm2
  unfold Oper.wp execOp
  simp only [ho, resolve, invoke, builtin, Sem.run_bind, Sem.run_pure, Result.andThen_ok, List.map_toArray, List.map_cons, List.map_nil, hs, hx, hr]
  exact hK' _ _ (h a' c' w' key ((Below.refl _ _).grown h3 hbase (owns_block hown.1)))


/-- what the reference's Subsets leaves -/
def SubR (w : World) (l : List Pt) (er : Int) (e : Ending) (w' : World) : Prop :=
  ∃ v us, e = .returned (.tuple #[v, .int .i64 er]) ∧ rd us = l ∧ OwnN w' w.heap.size v us ∧ Below w.heap.size w w'
theorem SubR.err {w w' : World} {er : Int} (hb : Below w.heap.size w w') : SubR w [] er (.returned (.tuple #[.slice none 0 0, .int .i64 er])) w' :=
  ⟨_, [], rfl, rfl, .inl ⟨rfl, rfl⟩, hb⟩

set_option maxHeartbeats 1000000 in
set_option maxRecDepth 100000 in
theorem rsubsets_main (u d : Int) (k : Nat) (hk : k ≤ 10) (hu : 0 ≤ u) (hud : u ≤ d) (hd1 : 1 ≤ d) (hd : d ≤ 1073741824) (hm : d ^ k ≤ 1073741824) (he0 : Sb.chE u d = 0) (l : List Pt) (er : Int) (hr : makeT (Sb.lst u d k) = (l, er)) (w : World) :
    Calls Try.prog 5 #[rv u d, .int .i64 (k : Int)] w (SubR w l er) := by
  have HM : Hid (d ^ k ≤ 1073741824) := hm
  have HR : Hid (makeT (Sb.lst u d k) = (l, er)) := hr
  have kc := rchance_any u d 0 he0
  obtain ⟨D, hD⟩ : ∃ D, d ^ k = D := ⟨_, rfl⟩
  have kp := rpow_any d k (by omega) hd1 hd D (by unfold lim; rw [if_pos hm, hD])
  obtain ⟨n, hn⟩ : ∃ n : Nat, 2 ^ k = n := ⟨_, rfl⟩
  have hn10 : n ≤ 1024 := by rw [← hn]; exact Sb.two_le hk
  have k2 := rpow_any 2 k (by omega) (by omega) (by omega) (n : Int) (by
    have e : ((2 : Int) ^ k) = (n : Int) := by rw [← hn, Int.natCast_pow]; rfl
    unfold lim; rw [e, if_pos (by omega)])
  rw [hD] at hm
  have HN : Hid (2 ^ k = n) := hn
  clear hr he0 hD hn
  go_enter Try.func5, Try.ntmps5
  go_wp2_with fail
  refine (kc _).mono ?_
  rintro e w1 ⟨rfl, hb1⟩
  have G1 := bt (ba _ _) hb1
  obtain ⟨hc1, hf1⟩ := bcell hb1
  have b0 : w1.cell? ⟨w.heap.size, 0, none⟩ = some (.int .i64 u) := by rw [hc1 _ _ (by simp)]; simp [go_sem]
  have b1 : w1.cell? ⟨w.heap.size, 1, none⟩ = some (.int .i64 d) := by rw [hc1 _ _ (by simp)]; simp [go_sem]
  have hz1 : w.heap.size < w1.heap.size := by have := hb1.size; simp at this; omega
  clear hc1 hf1 kc hb1
  go_wp2_with fail
  refine (kp _).mono ?_
  rintro e w2 ⟨rfl, hw2⟩
  replace hw2 := hw2.symm
  subst hw2
  go_wp2_with fail
  go_loopw [7, 8] (fun pv sv wr => ∃ (s : Nat) (ds : List Tr), s ≤ n ∧ sv = .int .i64 (s : Int) ∧ ds.length = s ∧ Hid (rd ds = (Sb.lst u d k).take s) ∧ Hid (Rws wr w1.heap.size pv ds) ∧ Below w1.heap.size w1 wr) (fun _ sv _ => n - (intOf sv).toNat)
  case atStart => exact ⟨0, [], Nat.zero_le _, rfl, rfl, (by show _ = _; simp [rd]), Rws.nil _ _, Below.refl _ _⟩
  case round => as_aux_lemma =>
    obtain ⟨s, ds, hs, rfl, hdl, HD, HW, hbl⟩ := hrel
    have HDL : Hid (ds.length = s) := hdl
    obtain ⟨pa, pc, hpv⟩ := HW.out.slice
    rw [hdl] at hpv
    subst hpv
    clear hdl
    obtain ⟨wq, hwq⟩ : ∃ wq : World, wq = wr := ⟨_, rfl⟩
    subst hwq
    have c0 : wq.cell? ⟨w.heap.size, 0, none⟩ = some (.int .i64 u) := (hbl.cell (p := ⟨w.heap.size, 0, none⟩) hz1).trans b0
    have c1 : wq.cell? ⟨w.heap.size, 1, none⟩ = some (.int .i64 d) := (hbl.cell (p := ⟨w.heap.size, 1, none⟩) hz1).trans b1
    go_wp2_with fail
    refine (k2 _).mono ?_
    rintro e w3 ⟨rfl, hw3⟩
    replace hw3 := hw3.symm
    subst hw3
    by_cases h1 : s < n
    · go_wp2_with fail
      go_loopw [9, 10] (fun xv iv wr => ∃ (i : Nat) (x : Int), i ≤ k ∧ xv = .int .i64 x ∧ iv = .int .i64 (i : Int) ∧ Hid (x = Sb.wgt u d i s) ∧ wr = wq) (fun _ iv _ => k - (intOf iv).toNat)
      case atStart => exact ⟨0, 1, Nat.zero_le _, rfl, rfl, rfl, rfl⟩
      case round => as_aux_lemma =>
        obtain ⟨i, x, hi, rfl, rfl, HX, hwr⟩ := hrel
        replace hwr := hwr.symm
        subst hwr
        by_cases h2 : i < k
        · obtain ⟨b, hb⟩ : ∃ b, Sb.bit s i = b := ⟨_, rfl⟩
          have ki := in_any s i (by omega) (by omega) b hb
          have hW1 := Sb.wgt_small hu hud hd1 HM.out (show i + 1 ≤ k by omega) s
          have hW := Sb.wgt_small hu hud hd1 HM.out (show i ≤ k by omega) s
          rw [Sb.wgt, hb, ← HX.out] at hW1
          rw [← HX.out] at hW
          cases b with
          | true =>
            simp only [if_true] at hW1
            obtain ⟨P, hP⟩ : ∃ P, x * u = P := ⟨_, rfl⟩
            rw [hP] at hW1
            have HX2 : Hid (P = Sb.wgt u d (i + 1) s) := by show _ = _; rw [Sb.wgt, hb, if_pos rfl, ← HX.out, hP]
            clear hb HX
            go_wp2_with fail
            refine (ki _).mono ?_
            rintro e w4 ⟨rfl, hw4⟩
            replace hw4 := hw4.symm
            subst hw4
            go_wp2
            go_roundw
            case rel => exact ⟨i + 1, P, h2, rfl, by go_num, HX2, by first | rfl | trivial⟩
            case measure => simp [intOf]; omega
          | false =>
            simp only [Bool.false_eq_true, if_false] at hW1
            obtain ⟨P, hP⟩ : ∃ P, x * (d - u) = P := ⟨_, rfl⟩
            rw [hP] at hW1
            have HX2 : Hid (P = Sb.wgt u d (i + 1) s) := by show _ = _; rw [Sb.wgt, hb, if_neg (by simp), ← HX.out, hP]
            clear hb HX
            go_wp2_with fail
            refine (ki _).mono ?_
            rintro e w4 ⟨rfl, hw4⟩
            replace hw4 := hw4.symm
            subst hw4
            go_wp2
            go_roundw
            case rel => exact ⟨i + 1, P, h2, rfl, by go_num, HX2, by first | rfl | trivial⟩
            case measure => simp [intOf]; omega
        · obtain rfl : i = k := by omega
          obtain ⟨M, hM⟩ : ∃ M, ds ++ [((.slice (some ⟨wq.heap.size, 0, none⟩) 1 1, [(s : Int)], x) : Tr)] = M := ⟨_, rfl⟩
          have HMd : Hid (M.length = s + 1 ∧ rd M = (Sb.lst u d i).take (s + 1)) := by
            refine ⟨by rw [← hM, List.length_append, HDL.out]; rfl, ?_⟩
            rw [← hM, rd_append, HD.out, List.take_add_one, Sb.lst_get (by rw [HN.out]; exact h1), HX.out]
            rfl
          have HMM : Hid (ds ++ [((.slice (some ⟨wq.heap.size, 0, none⟩) 1 1, [(s : Int)], x) : Tr)] = M) := hM
          have hbs := hbl.size
          have hpl := HW.out.lt
          have HPL : Hid (∀ g, (Value.slice pa s pc).ownBlock = some g → g < wq.heap.size) := fun g e => (hpl g e).2
          have HWA : Hid (∀ O O', Rws ((wq.alloc O).alloc O') w1.heap.size (.slice pa s pc) ds) := fun O O' => HW.out.keep (bal (ba _ _) _)
          clear hM hpl HX
          go_wp2_with (at_builtin; refine wpList_rws _ rfl _ _ rfl w1.heap.size s pa pc ds M rfl HDL.out (HWA.out _ _) ⟨wq.heap.size + 1, 0, none⟩ rfl (.slice (some ⟨wq.heap.size, 0, none⟩) 1 1) [(s : Int)] x ?q1 rfl wq.heap.size ?q2 HPL.out (by omega) HMM.out (by omega) (by simp; omega) (s + 1) rfl ?_)
          case q1 =>
            intro j u hj
            match j, hj with
            | 0, hj => simp at hj; subst hj; simp [go_sem, Addr.add]
            | 1, hj => simp at hj; subst hj; simp [go_sem, Addr.add]
          case q2 =>
            intro m hm
            refine ⟨_, 1, rfl, Nat.le_refl _, by simp, fun _ => ⟨wq.heap.size, 0, rfl, ?_, ?_, fun j z hj => ?_⟩⟩
            · first | (simp; done) | (simp; omega) | omega
            · omega
            · match j, hj with
              | 0, hj => simp at hj; subst hj; simp [go_sem]
          intro a2 c2 w2 hown hb2
          have HB2 : Hid (Below w1.heap.size w1 w2) := (bal (bal hbl _) _).trans hb2
          have HO2 : Hid (Rws w2 w1.heap.size (.slice a2 (s + 1) c2) M) := hown
          clear hown hb2 HWA HPL HMM HW
          go_wp2
          go_roundw
          case rel => exact ⟨s + 1, M, h1, by go_num, HMd.out.1, HMd.out.2, HO2, HB2.out⟩
          case measure => simp [intOf]; omega
    · have HP2 : Hid (Parts wq wq.heap.size (.slice pa s pc) ds) := HW.out.parts (by have := HDL.out; omega)
      have kk := makeR_any wq.heap.size (.slice pa s pc) ds wq (Nat.le_refl _) HP2.out l er (by rw [HD.out, List.take_of_length_le (by rw [Sb.lst_len, HN.out]; omega)]; exact HR.out)
      have hbs := hbl.size
      clear HW HD HP2
      go_wp2_with fail
      refine kk.mono ?_
      rintro e w5 ⟨v5, us, rfl, q1, q2, q3⟩
      obtain ⟨b5, d5, rfl⟩ := q2.slice
      have HZ : Hid (SubR w l er (.returned (.tuple #[.slice b5 us.length d5, .int .i64 er])) w5) := ⟨_, us, rfl, q1, q2.mono (Nat.le_trans G1.size hbs), bt (bt G1 hbl) q3⟩
      clear kk q1 q2 q3
      go_wp2
      exact bodyPost_ret (v := .tuple #[.slice b5 us.length d5, .int .i64 er]) (by simp [results, Try.results5, go_sem]) rfl HZ.out

set_option maxHeartbeats 1000000 in
theorem rsubsets_any (u d m : Int) (l : List Pt) (er : Int) (h : Sb.subT u d m = (l, er)) (w : World) :
    Calls Try.prog 5 #[rv u d, .int .i64 m] w (SubR w l er) := by
  obtain ⟨e0, he0⟩ : ∃ e0, Sb.chE u d = e0 := ⟨_, rfl⟩
  rw [Sb.subT, he0] at h
  have kc := rchance_any u d e0 he0
  by_cases c : e0 = 0
  · subst c
    obtain ⟨hr, hu, hud, hd1, hd⟩ := Sb.ch_ok he0
    rw [if_neg (by simp)] at h
    by_cases c1 : m < 0 ∨ 10 < m
    · rw [if_pos c1] at h
      simp only [Prod.mk.injEq] at h
      obtain ⟨rfl, rfl⟩ := h
      clear he0 hr
      by_cases c2 : m < 0
      · clear c1
        go_enter Try.func5, Try.ntmps5
        go_wp2_with fail
        refine (kc _).mono ?_
        rintro e w1 ⟨rfl, hb1⟩
        have G1 := bt (ba _ _) hb1
        go_wp2
        exact bodyPost_ret (v := .tuple #[.slice none 0 0, .int .i64 5]) (by simp [results, Try.results5, go_sem]) rfl (SubR.err G1)
      · have c3 : 10 < m := by omega
        clear c1
        go_enter Try.func5, Try.ntmps5
        go_wp2_with fail
        refine (kc _).mono ?_
        rintro e w1 ⟨rfl, hb1⟩
        have G1 := bt (ba _ _) hb1
        go_wp2
        exact bodyPost_ret (v := .tuple #[.slice none 0 0, .int .i64 5]) (by simp [results, Try.results5, go_sem]) rfl (SubR.err G1)
    · rw [if_neg c1] at h
      have c2 : 0 ≤ m := by omega
      have c3 : m ≤ 10 := by omega
      obtain ⟨k, rfl⟩ := Int.eq_ofNat_of_zero_le c2
      rw [Int.toNat_natCast] at h
      by_cases c4 : 1073741824 < d ^ k
      · rw [if_pos c4] at h
        simp only [Prod.mk.injEq] at h
        obtain ⟨rfl, rfl⟩ := h
        have kp := rpow_any d k (by omega) hd1 hd 1073741825 (by unfold lim; rw [if_neg (by omega)])
        clear he0 hr c1 c4
        go_enter Try.func5, Try.ntmps5
        go_wp2_with fail
        refine (kc _).mono ?_
        rintro e w1 ⟨rfl, hb1⟩
        have G1 := bt (ba _ _) hb1
        obtain ⟨hc1, hf1⟩ := bcell hb1
        go_wp2_with fail
        refine (kp _).mono ?_
        rintro e w2 ⟨rfl, rfl⟩
        go_wp2
        exact bodyPost_ret (v := .tuple #[.slice none 0 0, .int .i64 4]) (by simp [results, Try.results5, go_sem]) rfl (SubR.err G1)
      · rw [if_neg c4] at h
        exact rsubsets_main u d k (by omega) hu hud hd1 hd (by omega) he0 l er h w
  · simp only [ne_eq, c, not_false_eq_true, if_true, Prod.mk.injEq] at h
    obtain ⟨rfl, rfl⟩ := h
    have c1 : (e0 == 0) = false := by simpa using c
    have c2 : (e0 != 0) = true := by simpa using c
    clear he0
    go_enter Try.func5, Try.ntmps5
    go_wp2_with fail
    refine (kc _).mono ?_
    rintro e w1 ⟨rfl, hb1⟩
    have G1 := bt (ba _ _) hb1
    go_wp2
    exact bodyPost_ret (v := .tuple #[.slice none 0 0, .int .i64 e0]) (by simp [results, Try.results5, go_sem]) rfl (SubR.err G1)
end Go.Proofs.Ytfofdbcmaokkcaa
