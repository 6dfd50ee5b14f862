import Derived.Test.YthmkbkombjhaeaaQw27
import Derived.Test.YthmkbkombjhaeaaQw29
import Derived.Test.YthmkbkombjhaeaaQw31
namespace Go.Proofs.Ythmkbkombjhaeaa
open Go.RowKit Go.Proofs.Ythmkbkombjhaeaa.Ds

theorem rpowI_any (x n : Int) (W : World) (h0 : 0 ≤ n) (hn : n ≤ 64) (hx : 1 ≤ x) (h : x ≤ 1073741824) :
    Calls Try.prog 29 #[.int .i64 x, .int .i64 n] W fun e w' => e = .returned (.int .i64 (lim (x ^ n.toNat))) ∧ w' = W := by
  have := rpow_any x n.toNat (by omega) hx h _ rfl W
  rw [Int.toNat_of_nonneg h0] at this
  exact this
/-- the reference's answer: a distribution in memory -/
def AnsR (w : World) (k : List Pt) (er : Int) (e : Ending) (w' : World) : Prop :=
  ∃ v' us, e = .returned (.tuple #[v', .int .i64 er]) ∧ rd us = k ∧ OwnN w' w.heap.size v' us ∧ Below w.heap.size w w'
theorem ansRNo {w w' : World} {er : Int} (h : Below w.heap.size w w') : AnsR w [] er (.returned (.tuple #[.slice none 0 0, .int .i64 er])) w' :=
  ⟨_, [], rfl, rfl, .inl ⟨rfl, rfl⟩, h⟩
theorem mxN_take {s : List Nat} {k m : Nat} (h : s[k]? = some m) : mxN (s.take (k + 1)) = max (mxN (s.take k)) m := by
  have app : ∀ (a b : List Nat), mxN (a ++ b) = max (mxN a) (mxN b) := by
    intro a b
    induction a with
    | nil => simp [mxN]
    | cons x a ih =>
      have e1 : mxN (x :: a ++ b) = max x (mxN (a ++ b)) := rfl
      have e2 : mxN (x :: a) = max x (mxN a) := rfl
      rw [e1, e2, ih]
      omega
  rw [List.take_add_one, h, app]
  simp [mxN]

set_option maxHeartbeats 4000000 in
set_option maxRecDepth 100000 in
theorem rweigh_any (B : Nat) (u d : Int) (v : Value) (l : List Int) (w : World) (h : Num w B v l) (hB : B ≤ w.heap.size) (k : List Pt) (er : Int) (hr : weighT u d l = (k, er)) :
    Calls Try.prog 8 #[rv u d, v] w fun e w' => AnsR w k er e w' := by
  have HN : Hid (Num w B v l) := h
  have HR : Hid (weighT u d l = (k, er)) := hr
  obtain ⟨e0, he0⟩ : ∃ e0, choE u d l = e0 := ⟨_, rfl⟩
  have HE0 : Hid (choE u d l = e0) := he0
  obtain ⟨fs, hfs⟩ : ∃ fs, (if e0 = 0 then farI l else []) = fs := ⟨_, rfl⟩
  have HFS : Hid ((if e0 = 0 then farI l else []) = fs) := hfs
  have km := fun W h2 hB2 => rbelow_any B u d v l W h2 hB2 e0 he0 fs hfs
  obtain ⟨a, c, rfl, hc, hl, _⟩ := h
  clear hr he0 hfs
  by_cases c0 : e0 = 0
  · subst c0
    obtain ⟨hright, hdu, hd1, l1, l8, hnum, h64⟩ := cho_ok HE0.out
    have hu2 := (Rt.right_bd hright).2
    have hu1 : 1 ≤ u := by omega
    obtain ⟨s, hs⟩ : ∃ s, belT l = s := ⟨_, rfl⟩
    have hsl : s.length = l.length := by rw [← hs, bel_len]
    have hfe : fs = asI s := by have := HFS.out; rw [if_pos rfl] at this; rw [← this, ← hs]; exact farI_as l
    have HFe : Hid (fs = asI s) := hfe
    have hfl : fs.length = l.length := by rw [hfe, asI_len, hsl]
    have HW64 : Hid (mxN s ≤ 64) := by
      have h1 := farI_max l1
      have hne : farI l ≠ [] := by intro e; have := congrArg List.length e; rw [farI_len] at this; simp at this; simp [this] at l1
      have h2 := (mxI_iff hne 64).2 (by
        intro n hn
        obtain ⟨m, hm, rfl⟩ := List.mem_map.1 hn
        exact h64 m hm)
      rw [h1, hs] at h2
      show _ ≤ _
      omega
    have HS : Hid (belT l = s) := hs
    have HSl : Hid (s.length = l.length) := hsl
    have HFl : Hid (fs.length = l.length) := hfl
    have HM64 : Hid (∀ (i : Nat) (m : Nat), s[i]? = some m → m ≤ mxN s) := by
      intro i m hi
      have h3 := (List.getElem?_eq_some_iff.1 hi).1
      have h4 := mxN_le h3
      have e : s.getD i 0 = m := by simp [List.getD, hi]
      omega
    clear hs hsl hright hnum h64 HFS hfe
    go_enter Try.func8, Try.ntmps8
    go_wp2_with fail
    refine (km _ (HN.out.at hB (ba _ _)) (by simp; omega)).mono ?_
    rintro e w1 ⟨v1, rfl, hn1, hb1⟩
    clear km
    have G1 := bt (ba _ _) hb1
    obtain ⟨hc1, hf1⟩ := bcell hb1
    have k0 : w1.cell? ⟨w.heap.size, 0, none⟩ = some (.int .i64 u) := by rw [hc1 _ _ (by simp)]; simp [go_sem]
    have k1 : w1.cell? ⟨w.heap.size, 1, none⟩ = some (.int .i64 d) := by rw [hc1 _ _ (by simp)]; simp [go_sem]
    have klt : w.heap.size < w1.heap.size := by have := hb1.size; simp at this; omega
    obtain ⟨fa, fc, rfl, hfc, _, _⟩ := id hn1
    rw [hfl] at hfc ⊢
    have HN1 : Hid (Num w1 w1.heap.size (.slice fa l.length fc) fs) := by have := hn1; rwa [hfl] at this
    clear hc1 hf1 hb1 hn1 hfl
    go_wp2
    go_loop [8, 27] (fun mv iv => ∃ (i z : Nat), i ≤ l.length ∧ Hid (mxN (s.take i) = z) ∧ mv = .int .i64 ((z : Nat) : Int) ∧ iv = .int .i64 (i : Int)) (fun _ iv => l.length - (intOf iv).toNat)
    case atStart => exact ⟨0, 0, Nat.zero_le _, (by show _ = _; simp [mxN]), rfl, rfl⟩
    case round =>
      obtain ⟨i, z, hi, HZ, rfl, rfl⟩ := hrel
      by_cases h1 : i < l.length
      · obtain ⟨b, o, c', x, he, _, _, hx, hcx⟩ := HN1.out.get (i := i) (by rw [HFl.out]; exact h1)
        simp only [Value.slice.injEq] at he
        obtain ⟨rfl, -, rfl⟩ := he
        obtain ⟨mk, hmk⟩ := get_lt (l := s) (i := i) (by rw [HSl.out]; exact h1)
        have hx2 : x = ((mk : Nat) : Int) := by rw [HFe.out] at hx; simp [asI, hmk] at hx; exact hx.symm
        subst hx2
        have hst := mxN_take hmk
        rw [HZ.out] at hst
        clear hx hmk
        by_cases g : z < mk
        · have HZ2 : Hid (mxN (s.take (i + 1)) = mk) := by show _ = _; omega
          have g2 : ((z : Nat) : Int) < ((mk : Nat) : Int) := by omega
          clear hst HZ
          go_wp2
          go_round
          case rel => exact ⟨i + 1, mk, h1, HZ2, rfl, by go_num⟩
          case measure => simp [intOf]; omega
        · have HZ2 : Hid (mxN (s.take (i + 1)) = z) := by show _ = _; omega
          have g2 : ¬ ((z : Nat) : Int) < ((mk : Nat) : Int) := by omega
          clear hst HZ
          go_wp2
          go_round
          case rel => exact ⟨i + 1, z, h1, HZ2, rfl, by go_num⟩
          case measure => simp [intOf]; omega
      · have hzz : mxN s = z := by rw [← HZ.out, List.take_of_length_le (by rw [HSl.out]; omega)]
        have HWn : Hid (mxN s = z) := hzz
        have wn64 : z ≤ 64 := hzz ▸ HW64.out
        clear HZ hzz
        go_wp2
        go_loopw [11, 12, 38] (fun pv av iv wr => ∃ (j : Nat) (y : Int), j ≤ l.length ∧ Hid (Ps.sumI (fun j => lim (wgW u d s j)) (List.range j) = y) ∧ 0 ≤ y ∧ y ≤ (j : Int) * 1073741825 ∧ av = .int .i64 y ∧ iv = .int .i64 (j : Int) ∧ Hid (Ow wr w1.heap.size pv ((List.range j).map fun j => lim (wgW u d s j))) ∧ Below w1.heap.size w1 wr) (fun _ _ iv _ => l.length - (intOf iv).toNat)
        case atStart => exact ⟨0, 0, Nat.zero_le _, rfl, by omega, by omega, rfl, rfl, Ow.nil _ _, Below.refl _ _⟩
        case round =>
          obtain ⟨j, y, hj, HY, y0, y1, rfl, rfl, HO, hbl⟩ := hrel
          obtain ⟨L, hL⟩ : ∃ L, ((List.range j).map fun j => lim (wgW u d s j)) = L := ⟨_, rfl⟩
          have hol : L.length = j := by rw [← hL]; simp
          have HLs : Hid (((List.range j).map fun j => lim (wgW u d s j)) = L) := hL
          rw [hL] at HO
          clear hL
          obtain ⟨pa, pc, hpv⟩ := HO.out.slice
          rw [hol] at hpv
          subst hpv
          by_cases h2 : j < l.length
          · obtain ⟨b, o, c', x, he, _, _, hx, hcx⟩ := (HN1.out.keep hbl).get (i := j) (by rw [HFl.out]; exact h2)
            simp only [Value.slice.injEq] at he
            obtain ⟨rfl, -, rfl⟩ := he
            obtain ⟨mk, hmk⟩ := get_lt (l := s) (i := j) (by rw [HSl.out]; exact h2)
            have hx2 : x = ((mk : Nat) : Int) := by rw [HFe.out] at hx; simp [asI, hmk] at hx; exact hx.symm
            subst hx2
            have egk : s.getD j 0 = mk := by simp [List.getD, hmk]
            have mkW : mk ≤ z := by rw [← HWn.out]; exact HM64.out j mk hmk
            obtain ⟨Df, hDf⟩ : ∃ D, ((z : Nat) : Int) - ((mk : Nat) : Int) = D := ⟨_, rfl⟩
            have hwr : IntKind.i64.wrap (((z : Nat) : Int) - ((mk : Nat) : Int)) = Df := by rw [IntKind.wrap_i64]; omega
            have df0 : 0 ≤ Df := by omega
            have df1 : Df ≤ 64 := by omega
            obtain ⟨S, hS⟩ : ∃ S, lim (wgW u d s j) = S := ⟨_, rfl⟩
            have hpq : lim (lim (u ^ Df.toNat) * lim (d ^ (((mk : Nat) : Int)).toNat)) = S := by
              rw [lim_mul2 (pow_pos' hu1 _) (pow_pos' hd1 _), ← hS]
              unfold wgW
              rw [egk, HWn.out]
              have e1 : Df.toNat = z - mk := by omega
              rw [e1, Int.toNat_natCast]
            have kq : ∀ W, Calls Try.prog 28 #[.int .i64 (lim (u ^ Df.toNat)), .int .i64 (lim (d ^ (((mk : Nat) : Int)).toNat))] W fun e w' => e = .returned (.int .i64 S) ∧ w' = W := fun W => by
              rw [← hpq]
              exact rprod_any _ _ (pow_fac hu1 _) (pow_fac hd1 _) W
            have sf : 1 ≤ S ∧ S ≤ 1073741825 := by
              have h3 : 1 ≤ wgW u d s j := by
                unfold wgW
                exact Int.le_of_lt_add_one (by have := Int.mul_pos (show (0 : Int) < u ^ (mxN s - s.getD j 0) from Int.pow_pos (by omega)) (show (0 : Int) < d ^ s.getD j 0 from Int.pow_pos (by omega)); omega)
              have := lim_bd h3
              rw [hS] at this
              exact ⟨this.1, this.2.1⟩
            obtain ⟨sf1, sf2⟩ := sf
            have HY2 : Hid (Ps.sumI (fun j => lim (wgW u d s j)) (List.range (j + 1)) = y + S) := by show _ = _; rw [sumI_range_succ, HY.out, hS]
            have j0 : wr.cell? ⟨w.heap.size, 0, none⟩ = some (.int .i64 u) := (hbl.cell (p := ⟨w.heap.size, 0, none⟩) klt).trans k0
            have j1 : wr.cell? ⟨w.heap.size, 1, none⟩ = some (.int .i64 d) := (hbl.cell (p := ⟨w.heap.size, 1, none⟩) klt).trans k1
            obtain ⟨M, hM⟩ : ∃ M, L ++ [S] = M := ⟨_, rfl⟩
            have HTk : Hid (((List.range (j + 1)).map fun j => lim (wgW u d s j)) = M) := by
              show _ = _
              rw [List.range_succ, List.map_append, HLs.out, ← hM]
              simp [hS]
            clear hx hmk egk hpq hS HY hDf HLs
            go_wp2
            go_region_held3 (fun w' => w'.cell? ⟨w.heap.size, 0, none⟩ = some (.int .i64 u) ∧ w'.cell? ⟨w.heap.size, 1, none⟩ = some (.int .i64 d))
              ((go_split_ands; refine ⟨?_, ?_⟩ <;> first | assumption | (simp [go_sem, *]; done)))
              (first
                | (go_at_call 29; refine (rpowI_any _ _ _ ?_ ?_ ?_ ?_).mono ?_; (omega); (omega); (omega); (omega); rintro x5 w5 ⟨rfl, rfl⟩)
                | (go_at_call 28; refine (kq _).mono ?_; rintro x6 w6 ⟨rfl, rfl⟩))
            obtain ⟨wq, hwq⟩ : ∃ wq, wr.drew = wq := ⟨_, rfl⟩
            have HBq : Hid (Below wr.heap.size wr wq) := hwq ▸ (Below.refl _ _).drew
            have hbq := bt hbl HBq.out
            have HOq : Hid (∀ O, Ow (wq.alloc O) w1.heap.size (.slice pa j pc) L) := fun O => HO.out.keep (bal HBq.out _)
            rw [hwq]
            clear hwq kq hwr j0 j1 HO
            go_wp2_with (at_builtin; refine wpList_ow _ rfl _ _ rfl w1.heap.size (wq.heap.size + 1) j pa pc L [S] M rfl hol (HOq.out _) (.slice (some ⟨wq.heap.size, 0, none⟩) 1 1) rfl (num_one wq S) hM (by simp; omega) (by have := hbq.size; simp; omega) (j + 1) (by simp) ?_)
            intro a2 c2 w2 hown _ hb2
            have HB2 : Hid (Below w1.heap.size w1 w2) := (bal hbq _).trans hb2
            have HO2 : Hid (Ow w2 w1.heap.size (.slice a2 (j + 1) c2) ((List.range (j + 1)).map fun j => lim (wgW u d s j))) := by show Ow _ _ _ _; rw [HTk.out]; exact hown
            clear hown hb2 HOq HTk hM HBq
            go_wp2
            go_roundw
            case rel => exact ⟨j + 1, y + S, h2, HY2, by omega, by omega, by first | rfl | go_num, by go_num, HO2, HB2.out⟩
            case measure => simp [intOf]; omega
          · have hjj : j = l.length := by omega
            have hg1 : ∀ i ∈ List.range l.length, 1 ≤ wgW u d s i := fun i _ => by
              unfold wgW
              exact Int.le_of_lt_add_one (by have := Int.mul_pos (show (0 : Int) < u ^ (mxN s - s.getD i 0) from Int.pow_pos (by omega)) (show (0 : Int) < d ^ s.getD i 0 from Int.pow_pos (by omega)); omega)
            obtain ⟨m1, m2⟩ := lim_sum hg1
            rw [← hjj, HY.out] at m1
            have hk := HR.out
            unfold weighT at hk
            rw [HE0.out, if_neg (by simp), HS.out] at hk
            rw [← hjj] at hk m2
            by_cases cm : 1073741824 < y
            · rw [if_pos (m1.1 cm)] at hk
              simp only [Prod.mk.injEq] at hk
              obtain ⟨rfl, rfl⟩ := hk
              have G9 := bt G1 hbl
              clear HR m1 m2 hg1 HY HO HLs hjj
              go_wp2
              exact bodyPost_ret (v := .tuple #[.slice none 0 0, .int .i64 4]) (by simp [results, Try.results8, go_sem]) rfl (ansRNo G9)
            · have cm2 : ¬ 1073741824 < Ps.sumI (wgW u d s) (List.range j) := fun h => cm (m1.2 h)
              rw [if_neg cm2] at hk
              have hall := m2 (by omega)
              have hnp : numP L = numL j (wgW u d s) := by
                rw [← HLs.out, ← numP_numL]
                congr 1
                exact List.map_congr_left fun i hi => hall i hi
              have HNw : Hid (Num wr wr.heap.size (.slice pa j pc) L) := HO.out.num (by omega)
              have kn := rmade_any wr.heap.size _ _ wr HNw.out (Nat.le_refl _) (by rw [hol]; omega) k er (by rw [hnp]; exact hk)
              have G9 := bt G1 hbl
              have gs := G9.size
              clear HR m1 m2 hg1 HY HO HLs hk hall hnp cm2 HNw hjj
              go_wp2_with fail
              refine kn.mono ?_
              rintro e w5 ⟨v5, xs, rfl, q1, q2, q3⟩
              obtain ⟨b5, d5, rfl⟩ := q2.slice
              clear kn
              go_wp2
              exact bodyPost_ret (v := .tuple #[.slice b5 xs.length d5, .int .i64 er]) (by simp [results, Try.results8, go_sem]) rfl ⟨_, xs, rfl, q1, q2.mono gs, bt G9 q3⟩
  · have c1 : (e0 == 0) = false := by simpa using c0
    have c2 : (e0 != 0) = true := by simpa using c0
    have hk := HR.out
    unfold weighT at hk
    rw [HE0.out, if_pos c0] at hk
    simp only [Prod.mk.injEq] at hk
    obtain ⟨rfl, rfl⟩ := hk
    clear HR HE0
    go_enter Try.func8, Try.ntmps8
    go_wp2_with fail
    refine (km _ (HN.out.at hB (ba _ _)) (by simp; omega)).mono ?_
    rintro e w1 ⟨v1, rfl, hn1, hb1⟩
    clear km
    obtain ⟨fa, fc, rfl, _⟩ := hn1
    have G1 := bt (ba _ _) hb1
    go_wp2
    exact bodyPost_ret (v := .tuple #[.slice none 0 0, .int .i64 e0]) (by simp [results, Try.results8, go_sem]) rfl (ansRNo G1)
end Go.Proofs.Ythmkbkombjhaeaa
