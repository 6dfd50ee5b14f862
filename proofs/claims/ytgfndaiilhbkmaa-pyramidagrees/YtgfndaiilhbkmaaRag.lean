import Derived.Test.YtgfndaiilhbkmaaRab
namespace Go.Proofs.Ytgfndaiilhbkmaa
open Go.RowKit Go.Proofs.Ytgfndaiilhbkmaa.Ds

theorem mkq_ref {w q ln : Nat} {x s : Int} (hd : (q * w - 1) ∣ ln) (hqw : 2 ≤ q * w) : mkq w q (x * (ln : Int)) s = x * (((q * w - q : Nat)) : Int) * ((ln / (q * w - 1) : Nat) : Int) + ((q - 1 : Nat) : Int) * s.tdiv ((q * w - 1 : Nat) : Int) ∨ q = 0 := by
  by_cases hq : q = 0
  · exact .inr hq
  refine .inl ?_
  obtain ⟨e, rfl⟩ := hd
  have hle : q ≤ q * w := by
    rcases Nat.eq_zero_or_pos w with h | h
    · subst h; omega
    · exact Nat.le_mul_of_pos_right _ h
  obtain ⟨m, hm⟩ : ∃ m, q * w = m := ⟨_, rfl⟩
  rw [hm] at hle hqw ⊢
  rw [mkq, hm, Nat.mul_div_cancel_left _ (by omega)]
  have e1 : ((m : Int) - (q : Int)) = ((m - q : Nat) : Int) := by omega
  have e2 : ((m : Int) - 1) = ((m - 1 : Nat) : Int) := by omega
  have e3 : ((q : Int) - 1) = ((q - 1 : Nat) : Int) := by omega
  have e4 : x * (((m - 1) * e : Nat) : Int) = ((m - 1 : Nat) : Int) * (x * (e : Int)) := by rw [Int.natCast_mul, ← Int.mul_assoc, ← Int.mul_assoc, Int.mul_comm x]
  rw [e1, e2, e3, e4, Int.mul_tdiv_cancel_left _ (by omega), ← Int.mul_assoc, Int.mul_comm x]
theorem dvd_lin {w H h : Nat} (h1 : 1 ≤ h) (h2 : h ≤ H) : (w ^ h * w - 1) ∣ lin w H := by
  obtain ⟨k, rfl⟩ : ∃ k, h = k + 1 := ⟨h - 1, by omega⟩
  rw [qw_eq]
  exact Nat.dvd_trans ⟨_, lef_step (by omega)⟩ (lef_lin (h := k) (by omega))
theorem two_keep {V X : World} {g1 i1 g2 i2 : Nat} {a b : Value} (h1 : V.cell? ⟨g1, i1, none⟩ = some a) (h2 : V.cell? ⟨g2, i2, none⟩ = some b) (l1 : g1 < V.heap.size) (l2 : g2 < V.heap.size) (hb : Below V.heap.size V X) : X.cell? ⟨g1, i1, none⟩ = some a ∧ X.cell? ⟨g2, i2, none⟩ = some b :=
  ⟨(hb.cell (p := ⟨g1, i1, none⟩) l1).trans h1, (hb.cell (p := ⟨g2, i2, none⟩) l2).trans h2⟩
theorem two_set {X : World} {g1 i1 g2 i2 i : Nat} {a b : Value} (h : X.cell? ⟨g1, i1, none⟩ = some a ∧ X.cell? ⟨g2, i2, none⟩ = some b) (n1 : g2 ≠ g1) (n2 : i ≠ i2) (u : Value) : (X.setCell ⟨g2, i, none⟩ u).cell? ⟨g1, i1, none⟩ = some a ∧ (X.setCell ⟨g2, i, none⟩ u).cell? ⟨g2, i2, none⟩ = some b :=
  ⟨(sc_other (fun e => n1 (congrArg Addr.block e))).trans h.1, (sc_other (fun e => n2 (congrArg Addr.off e))).trans h.2⟩
/-- so far settled, all else 0 -/
def sto (w : Nat) (L : Nat → Int) (i j : Nat) : Int := if j < i then stl w L j else 0
/-- .. and lifted at i -/
def stp (w : Nat) (L : Nat → Int) (i j : Nat) : Int := if j < i then stl w L j else if j = i then L i else 0

set_option maxRecDepth 100000 in
set_option maxHeartbeats 16000000 in
theorem ragree_ok (w H n q ln G r B : Nat) (v : Value) (xs : List Int) (hw : 2 ≤ w) (hw2 : w ≤ 16) (hH : H ≤ 10) (hn : nds w H = n) (hn2 : n ≤ 1024) (hq : w ^ H = q) (hln : lin w H = ln) (hln2 : ln ≤ 1073741824) (hG : gdv w H xs = G) (hr : ln / G = r) (W : World) (hB : B ≤ W.heap.size) (hx : Num W B v xs) (he : wrE xs n = 0) :
    Calls Try.prog 12 #[.int .i64 (w : Int), .int .i64 (H : Int), v] W fun e W' => ∃ g, e = .returned (.tuple #[.slice (some ⟨g, 0, none⟩) n n, .int .i64 (r : Int), .int .i64 0]) ∧ W.heap.size ≤ g ∧ Arr W' g n (fun i => (out w H xs i).tdiv (G : Int)) ∧ Below W.heap.size W W' := by
  have HX : Hid (Num W B v xs) := hx
  have hxl := (wrE_zero he).1
  have hq2 : q ≤ 1024 := by rw [← hq]; exact Nat.le_trans (pow_le_nds w H) (by rw [hn]; exact hn2)
  have HH : Hid (nds w H = n ∧ w ^ H = q ∧ wrE xs n = 0 ∧ lin w H = ln ∧ gdv w H xs = G ∧ ln / G = r) := ⟨hn, hq, he, hln, hG, hr⟩
  have HXL : Hid (xs.length = n) := hxl
  obtain ⟨va, vc, rfl, hvc, hvl⟩ := hx.slice
  have h5 := szE_ok hw hw2 hH (by omega : nds w H ≤ 1024)
  have ks := rsize_any w H W n 0 (by rw [szN, if_pos h5]; simpa using hn) h5
  have km := small_any B (.slice va xs.length vc) xs W HX.out true (small_of he)
  have kp := fun V => power_any w H q (by omega) hw2 (by omega) hq (by omega) V
  have hmk := make_ints n (by omega)
  rw [hxl] at km HX hvc hvl ⊢
  have z1 : ((n : Int) != (n : Int)) = false := by simp
  have HPL : Hid (∀ k, k ≤ H → prd w k ≤ ln) := fun k hk => by rw [← hln]; exact prd_lin hw hk
  clear hx hn hq he h5 hxl hln hG hr
  go_enter Try.func12, Try.ntmps12
  go_wp2_with fail
  refine ks.mono ?_
  rintro e1 w1 ⟨rfl, hw1⟩
  have hwy := hw1.symm
  subst hwy
  clear ks hw1
  go_wp2_with fail
  refine km.mono ?_
  rintro e3 w3 ⟨rfl, hw3⟩
  have hwy := hw3.symm
  subst hwy
  clear km hw3
  go_wp2_with fail
  go_loopw [11, 12] (fun dv s wr => ∃ (k d : Nat), s = .int .i64 ((k : Int) + 2) ∧ dv = .int .i64 (d : Int) ∧ k ≤ H ∧ Hid (prd w k = d) ∧ d ≤ 1073741824 ∧ wr = W) (fun _ s _ => H + 2 - (intOf s).toNat)
  case atStart => exact ⟨0, 1, rfl, rfl, Nat.zero_le _, rfl, by omega, rfl⟩
  case round => as_aux_lemma =>
    obtain ⟨k, d, rfl, rfl, hk, HD, hd, hwr⟩ := hrel
    have hwy := hwr.symm
    subst hwy
    clear hwr
    by_cases c1 : k < H
    · obtain ⟨p, hp⟩ : ∃ p, w ^ (k + 2) = p := ⟨_, rfl⟩
      have hpb : p ≤ 16384 := by
        have h1 : w ^ (k + 1) ≤ w ^ H := Nat.pow_le_pow_right (by omega) (by omega)
        rw [HH.out.2.1] at h1
        rw [← hp, Nat.pow_succ]
        exact Nat.le_trans (Nat.mul_le_mul (Nat.le_trans h1 hq2) hw2) (by decide)
      have hp4 : 4 ≤ p := by rw [← hp]; exact pow_big hw k
      have kw := fun V => power_any w (k + 2) p (by omega) hw2 (by omega) hp (by omega) V
      have e2 : ((k + 2 : Nat) : Int) = (k : Int) + 2 := by simp
      rw [e2] at kw
      obtain ⟨rr, hr⟩ : ∃ rr, d * (p - 1) = rr := ⟨_, rfl⟩
      have hri : (d : Int) * ((p : Int) - 1) = (rr : Int) := by rw [← hr, Int.natCast_mul, Int.natCast_sub (by omega)]; rfl
      have HR : Hid (prd w (k + 1) = rr) := by rw [Hid, prd, HD.out, hp, hr]
      have hrb : rr ≤ 1073741824 := by have := HPL.out (k + 1) (by omega); rw [HR.out] at this; omega
      have hwr : IntKind.i64.wrap ((d : Int) * ((p : Int) - 1)) = (rr : Int) := by rw [hri, IntKind.wrap_i64]; omega
      have z3 : (k : Int) + 2 ≤ (H : Int) + 1 := by omega
      have c3 : ¬ (rr : Int) > 1073741824 := by omega
      clear hp hr e2
      go_wp2_with fail
      refine (kw _).mono ?_
      rintro e4 w4 ⟨rfl, hw4⟩
      have hwy := hw4.symm
      subst hwy
      clear kw hw4
      go_wp2
      go_roundw
      case rel => exact ⟨k + 1, rr, by go_num, by first | rfl | go_num, by omega, HR, by omega, by first | rfl | trivial⟩
      case measure => simp [intOf]; omega
    · have hkH : H = k := by omega
      subst hkH
      have z3 : ¬ (H : Int) + 2 ≤ (H : Int) + 1 := by omega
      have hdq : d * q = ln := by rw [← HH.out.2.2.2.1, lin, HH.out.2.1, HD.out, Nat.mul_comm]
      have hri : (d : Int) * (q : Int) = (ln : Int) := by rw [← hdq]; simp
      have hwr : IntKind.i64.wrap ((d : Int) * (q : Int)) = (ln : Int) := by rw [hri, IntKind.wrap_i64]; omega
      have c3 : ¬ (ln : Int) > 1073741824 := by omega
      clear hdq HPL
      go_wp2_with fail
      refine (kp _).mono ?_
      rintro e4 w4 ⟨rfl, hw4⟩
      have hwy := hw4.symm
      subst hwy
      clear kp hw4 HD
      go_wp2_with fail
      clear hri hwr
      go_loopw [15] (fun s wr => ∃ (k : Nat), s = .int .i64 ((k : Int) - 1) ∧ k ≤ n ∧ Hid (Arr wr W.heap.size n (stt (lft w H (tld xs ln)) (fun _ => 0) k)) ∧ Below W.heap.size W wr) (fun s _ => (intOf s + 1).toNat)
      case atStart => exact ⟨n, by go_num, Nat.le_refl _, (Arr.made _ _ _ rfl).congr fun i hi => by rw [stt, if_neg (by omega)], ba _ _⟩
      case round => as_aux_lemma =>
        obtain ⟨k, rfl, hk2, HA, hbl⟩ := hrel
        have hbls := hbl.size
        cases k with
        | zero =>
          have HE : Hid (Arr wr W.heap.size n (lft w H (tld xs ln))) := HA.out.congr fun i _ => stt_end _ _ i
          clear HA
          rw [show (((0 : Nat) : Int) - 1) = -1 from rfl]
          obtain ⟨w2, hw2'⟩ : ∃ w2, w2 = wr := ⟨_, rfl⟩
          subst hw2'
          have hgl : W.heap.size < w2.heap.size := HE.out.lt
          obtain ⟨L, hLe⟩ : ∃ L, lft w H (tld xs ln) = L := ⟨_, rfl⟩
          rw [hLe] at HE
          have HL : Hid (∀ V, Below w2.heap.size w2 V → Arr V W.heap.size n L) := fun V hV => HE.out.at hV
          have HLB : Hid (∀ i, i < nds w H → (L i).natAbs ≤ 774056185954304) := fun i hi => by rw [← hLe]; exact lft_le hw hH (fun k _ => tld_abs (wrE_zero HH.out.2.2.1).2 hln2 k) hi
          have HO : Hid (stl w L = out w H xs) := by rw [Hid, out, HH.out.2.2.2.1, hLe]
          clear hLe HE
          go_wp2_with fail
          go_loopw [20] (fun s wr => ∃ (i : Nat), s = .int .i64 (i : Int) ∧ i ≤ n ∧ Hid (Arr wr w2.heap.size n (sto w L i)) ∧ Below w2.heap.size w2 wr) (fun s _ => n - (intOf s).toNat)
          case atStart => exact ⟨0, rfl, Nat.zero_le _, (Arr.made _ _ _ rfl).congr fun i _ => by simp [sto], ba _ _⟩
          case round => as_aux_lemma =>
            obtain ⟨i, rfl, hi, HA, hbx⟩ := hrel
            have hbxs := hbx.size
            by_cases c1 : i < n
            · have zi : (i : Int) < (n : Int) := by omega
              obtain ⟨y, hy⟩ : ∃ y, L i = y := ⟨_, rfl⟩
              have cL := (HL.out wr hbx).cells i c1
              have cO := HA.out.cells i c1
              have fO := HA.out.thaw i c1
              rw [hy] at cL
              have hyb := HLB.out i (by rw [HH.out.1]; exact c1)
              rw [hy] at hyb
              have yb : -774056185954304 ≤ y ∧ y ≤ 774056185954304 := by omega
              obtain ⟨X, hX⟩ : ∃ X, wr.setCell ⟨w2.heap.size, i, none⟩ (.int .i64 y) = X := ⟨_, rfl⟩
              have bX : Below w2.heap.size w2 X := by rw [← hX]; exact bs hbx (Nat.le_refl _) _
              have HAX : Hid (Arr X w2.heap.size n (stp w L i)) := by
                rw [Hid, ← hX]
                refine (HA.out.set i c1 y).congr fun j _ => ?_
                unfold upd sto stp
                by_cases e : j = i
                · subst e; rw [if_pos rfl, if_neg (Nat.lt_irrefl _), if_pos rfl, hy]
                · rw [if_neg e, if_neg e]
              have sX := bX.size
              have lX := HAX.out.lt
              have HY : Hid (L i = y) := hy
              clear hy hyb
              by_cases c0 : i = 0
              · subst c0
                have HA2 : Hid (Arr X w2.heap.size n (sto w L (0 + 1))) := HAX.out.congr fun j _ => by
                  unfold stp sto
                  by_cases e : j = 0
                  · subst e; rw [if_neg (by omega), if_pos rfl, if_pos (by omega), stl_zero]
                  · rw [if_neg (by omega), if_neg e, if_neg (by omega)]
                go_wp2
                go_roundw
                case rel => exact ⟨0 + 1, by go_num, by omega, HA2, bX⟩
                case measure => simp [intOf]; omega
              · obtain ⟨j0, hj0⟩ : ∃ j0, i - 1 = j0 := ⟨_, rfl⟩
                have HJ : Hid (i = j0 + 1) := by rw [Hid]; omega
                have e1 : (i : Int) - 1 = (j0 : Int) := by omega
                have zp : (i : Int) > 0 := by omega
                have zp2 : i > 0 := by omega
                have j0b : j0 ≤ 1024 := by omega
                obtain ⟨ab, hab⟩ : ∃ ab, j0 / w = ab := ⟨_, rfl⟩
                have habi : (j0 : Int) / (w : Int) = (ab : Int) := by rw [← hab]; exact (Int.natCast_ediv _ _).symm
                have hab0 : ab ≤ j0 := by rw [← hab]; exact Nat.div_le_self _ _
                have hab1 : ab < i := by omega
                have hpi : ab < inr w H := by rw [← hab]; exact par_inr (by omega) (by rw [HH.out.1]; omega)
                have wn : ¬ (w : Int) = 0 := by omega
                have wn2 : ¬ w = 0 := by omega
                obtain ⟨z, hz⟩ : ∃ z, stl w L ab = z := ⟨_, rfl⟩
                obtain ⟨s, hs⟩ : ∃ s, sumN L (w * ab + 1) w = s := ⟨_, rfl⟩
                have hbd := stl_abs hw HLB.out ab (by have := inr_lt w H (by omega); omega)
                have hsb := hbd.2 hpi
                rw [hs] at hsb
                rw [hz] at hbd
                have hwB : w * 774056185954304 ≤ 16 * 774056185954304 := Nat.mul_le_mul_right _ hw2
                have zb : -3096224743817216 ≤ z ∧ z ≤ 3096224743817216 := by omega
                have sb : -12384898975268864 ≤ s ∧ s ≤ 12384898975268864 := by omega
                obtain ⟨dd, hdd⟩ : ∃ dd, (z - s).tdiv (w : Int) = dd := ⟨_, rfl⟩
                have hdb : dd.natAbs ≤ 17179869184000000 := by rw [← hdd, Int.natAbs_tdiv]; refine Nat.le_trans (Nat.div_le_self _ _) ?_; omega
                have f1 : IntKind.i64.wrap (z - s) = z - s := wrap_id (by omega)
                have f2 : IntKind.i64.wrap ((z - s).tdiv (w : Int)) = dd := by rw [hdd]; exact wrap_id (by omega)
                have f3 : IntKind.i64.wrap (y + dd) = y + dd := wrap_id (by omega)
                have HST : Hid (stl w L i = y + dd) := by
                  rw [HJ.out] at HY
                  rw [Hid, HJ.out, stl_succ, HY.out, hab, hz, hs, hdd]
                have cZ := HAX.out.cells ab (by omega)
                rw [stp, if_pos (by omega), hz] at cZ
                have cY := (HL.out X bX).cells i c1
                rw [HY.out] at cY
                have HC : Hid (∀ V, Below X.heap.size X V → V.cell? ⟨w2.heap.size, i, none⟩ = some (.int .i64 y) ∧ V.frozen? ⟨w2.heap.size, i, none⟩ = false) := fun V hV => by
                  have h1 := (HAX.out.at hV).cells i c1
                  rw [stp, if_neg (Nat.lt_irrefl _), if_pos rfl, HY.out] at h1
                  exact ⟨h1, (HAX.out.at hV).thaw i c1⟩
                have hkd : ∀ j, j < w → w * ab + 1 + j < n := fun j hj => by rw [← HH.out.1]; exact kid_lt (by omega) hpi hj
                have hfb : ∀ j, j < w → (L (w * ab + 1 + j)).natAbs ≤ 144115188075855872 := fun j hj => Nat.le_trans (HLB.out _ (by rw [HH.out.1]; exact hkd j hj)) (by decide)
                have KS : Hid (∀ (V : World) (gk ck : Nat), Arr V W.heap.size n L → Arr V gk w (fun j => ((w * ab + 1 + j : Nat) : Int)) → Calls Try.prog 20 #[.slice (some ⟨W.heap.size, 0, none⟩) n n, .slice (some ⟨gk, 0, none⟩) w ck] V fun e W' => e = .returned (.int .i64 s) ∧ W' = V) := fun V gk ck h1 h2 => ssum_any W.heap.size n n gk ck w ab _ hw2 hkd V h1 h2 hfb s hs
                have kk := fun V => kids_any w ab hw hw2 (by omega) V
                have nb1 : w2.heap.size ≠ W.heap.size := by omega
                have nb2 : i ≠ ab := by omega
                have la : W.heap.size < X.heap.size := by omega
                have zab : (ab : Int) < (n : Int) := by omega
                have HNW : Hid (∀ V, Arr V w2.heap.size n (stp w L i) → Arr (V.setCell ⟨w2.heap.size, i, none⟩ (.int .i64 (y + dd))) w2.heap.size n (sto w L (i + 1))) := fun V hV => (hV.set i c1 (y + dd)).congr fun j _ => by
                  unfold upd stp sto
                  by_cases e : j = i
                  · subst e; rw [if_pos rfl, if_pos (by omega), HST.out]
                  · rw [if_neg e]
                    by_cases e2 : j < i
                    · rw [if_pos e2, if_pos (by omega)]
                    · rw [if_neg e2, if_neg e, if_neg (by omega)]
                clear hab hz hs hbd hsb hwB hdd hdb hkd hfb hpi HST hj0
                go_wp2_with fail
                go_region_held3 (fun w' => w'.cell? ⟨W.heap.size, i, none⟩ = some (.int .i64 y) ∧ w'.cell? ⟨w2.heap.size, ab, none⟩ = some (.int .i64 z))
                  (first | with_reducible assumption | exact two_keep cY cZ la lX (Below.refl _ X).drew | (refine two_keep cY cZ la lX ?_; with_reducible exact hz5) | (refine two_set ?_ nb1 nb2 _; refine two_keep cY cZ la lX ?_; with_reducible exact hz5))
                  (first
                    | (have hmark := hz5; clear hmark; go_at_call 20; refine (KS.out _ _ _ ?_ ?_).mono ?_; (exact (HL.out X bX).at hz5); (exact hA5); rintro e w6 ⟨rfl, hw6⟩; have hwy := hw6.symm; subst hwy)
                    | (go_at_call 21; refine (kk _).mono ?_; rintro e w5 ⟨g5, c5, rfl, hc5, hg5, hA5, hb5⟩; refine cutP (P := Below X.heap.size X w5) ?_ (fun hz5 => ?_); (with_reducible exact bt (Below.refl _ X).drew hb5); obtain ⟨cc5, ff5⟩ := HC.out w5 hz5))
                have hz6 : Below w2.heap.size w2 w5 := bt bX hz5
                have HA2 : Hid (Arr (w5.setCell ⟨w2.heap.size, i, none⟩ (.int .i64 (y + dd))) w2.heap.size n (sto w L (i + 1))) := HNW.out w5 (HAX.out.at hz5)
                have hbl2 : Below w2.heap.size w2 (w5.setCell ⟨w2.heap.size, i, none⟩ (.int .i64 (y + dd))) := bs hz6 (Nat.le_refl _) _
                clear HC KS HNW
                go_wp2
                go_roundw
                case rel => exact ⟨i + 1, by go_num, by omega, HA2, hbl2⟩
                case measure => simp [intOf]; omega
            · obtain rfl : i = n := by omega
              have zi : ¬ (i : Int) < (i : Int) := by omega
              have HE : Hid (Arr wr w2.heap.size i (out w H xs)) := HA.out.congr fun j hj => by rw [sto, if_pos hj, HO.out]
              have b4 : Below W.heap.size W wr := bt hbl hbx
              have HOB : Hid (∀ j, j < i → (out w H xs j).natAbs ≤ 4 * 774056185954304) := fun j hj => out_abs hw hH (by rw [HH.out.2.2.2.1]; exact hln2) (wrE_zero HH.out.2.2.1).2 (by rw [HH.out.1]; exact hj)
              have HG : Hid (gl ln (out w H xs) i = G) := by rw [Hid, ← HH.out.2.2.2.2.1, gdv, HH.out.2.2.2.1, HH.out.1]
              have hl1 : 1 ≤ ln := by rw [← HH.out.2.2.2.1]; exact lin_pos hw H
              obtain ⟨f, hf⟩ : ∃ f, out w H xs = f := ⟨_, rfl⟩
              rw [hf] at HE HOB HG
              have HFE : Hid (out w H xs = f) := hf
              obtain ⟨w3, hw3'⟩ : ∃ w3, w3 = wr := ⟨_, rfl⟩
              subst hw3'
              have sw3 := b4.size
              clear HA HL HLB HO hf
              go_wp2_with fail
              go_loopw [22, 165] (fun dv s wr => ∃ (k d : Nat), s = .int .i64 (k : Int) ∧ dv = .int .i64 (d : Int) ∧ k ≤ i ∧ Hid (gl ln f k = d) ∧ wr = w3) (fun _ s _ => i - (intOf s).toNat)
              case atStart => exact ⟨0, ln, rfl, rfl, Nat.zero_le _, rfl, rfl⟩
              case round => as_aux_lemma =>
                obtain ⟨k, dg, rfl, rfl, hk3, HD, hwr⟩ := hrel
                have hwy := hwr.symm
                subst hwy
                clear hwr
                have hd1 : 1 ≤ dg := by rw [← HD.out]; exact gl_pos hl1 f k
                have hd2 : dg ≤ 1073741824 := by have := gl_le hl1 f k; rw [HD.out] at this; omega
                by_cases c5 : k < i
                · obtain ⟨x, hx⟩ : ∃ x, f k = x := ⟨_, rfl⟩
                  have hxb := HOB.out k c5
                  have cA := HE.out.cells k c5
                  rw [hx] at hxb cA
                  have xb : -3096224743817216 ≤ x ∧ x ≤ 3096224743817216 := by omega
                  obtain ⟨xa, hxa⟩ : ∃ xa, x.natAbs = xa := ⟨_, rfl⟩
                  have kd := fun V => refDivisor_any xa dg (by omega) hd1 (by omega) V
                  obtain ⟨d2, hd2'⟩ : ∃ d2, Nat.gcd xa dg = d2 := ⟨_, rfl⟩
                  simp only [hd2'] at kd
                  have HD2 : Hid (gl ln f (k + 1) = d2) := by rw [Hid, gl, HD.out, hx, hxa, Nat.gcd_comm, hd2']
                  have z1 : (k : Int) < (i : Int) := by omega
                  by_cases c6 : x < 0
                  · have e9 : -x = (xa : Int) := by omega
                    clear hx hxa hd2' hxb
                    go_wp2_with fail
                    refine (kd _).mono ?_
                    rintro e1 w1 ⟨rfl, hw1⟩
                    have hwy := hw1.symm
                    subst hwy
                    clear kd hw1
                    go_wp2
                    go_roundw
                    case rel => exact ⟨k + 1, d2, by go_num, rfl, by omega, HD2, by first | rfl | trivial⟩
                    case measure => simp [intOf]; omega
                  · obtain rfl : x = (xa : Int) := by omega
                    clear hx hxa hd2' hxb
                    go_wp2_with fail
                    refine (kd _).mono ?_
                    rintro e1 w1 ⟨rfl, hw1⟩
                    have hwy := hw1.symm
                    subst hwy
                    clear kd hw1
                    go_wp2
                    go_roundw
                    case rel => exact ⟨k + 1, d2, by go_num, rfl, by omega, HD2, by first | rfl | trivial⟩
                    case measure => simp [intOf]; omega
                · have hki : i = k := by omega
                  subst hki
                  have hdG : dg = G := by rw [← HD.out, HG.out]
                  subst hdG
                  have z1 : ¬ (i : Int) < (i : Int) := by omega
                  have hne : ¬ (dg : Int) = 0 := by omega
                  have hne2 : ¬ dg = 0 := by omega
                  have hri : (ln : Int) / (dg : Int) = (r : Int) := by rw [← HH.out.2.2.2.2.2]; exact (Int.natCast_ediv _ _).symm
                  have hrb : r ≤ 1073741824 := by rw [← HH.out.2.2.2.2.2]; exact Nat.le_trans (Nat.div_le_self _ _) hln2
                  clear HD HG
                  go_wp2_with fail
                  go_loopw [179] (fun s wx => ∃ (k : Nat), s = .int .i64 (k : Int) ∧ k ≤ i ∧ Hid (Arr wx w2.heap.size i (fun j => if j < k then (f j).tdiv (dg : Int) else f j)) ∧ Below W.heap.size W wx) (fun s _ => i - (intOf s).toNat)
                  case atStart => exact ⟨0, rfl, Nat.zero_le _, HE.out.congr fun j _ => by simp, b4⟩
                  case round => as_aux_lemma =>
                    obtain ⟨k, rfl, hk4, HO, hbx5⟩ := hrel
                    by_cases c7 : k < i
                    · obtain ⟨x, hx⟩ : ∃ x, f k = x := ⟨_, rfl⟩
                      have hxb := HOB.out k c7
                      have cO := HO.out.cells k c7
                      have fO := HO.out.thaw k c7
                      simp only [Nat.lt_irrefl, if_false] at cO
                      rw [hx] at hxb cO
                      obtain ⟨y, hy⟩ : ∃ y, x.tdiv (dg : Int) = y := ⟨_, rfl⟩
                      have hyb : y.natAbs ≤ 4 * 774056185954304 := by rw [← hy, Int.natAbs_tdiv]; exact Nat.le_trans (Nat.div_le_self _ _) hxb
                      have hwy : IntKind.i64.wrap (x.tdiv (dg : Int)) = y := by rw [hy]; exact wrap_id (by omega)
                      have HO2 : Hid (Arr (wr.setCell ⟨w2.heap.size, k, none⟩ (.int .i64 y)) w2.heap.size i (fun j => if j < k + 1 then (f j).tdiv (dg : Int) else f j)) := (HO.out.set k c7 y).congr fun j _ => by
                        unfold upd
                        by_cases e : j = k
                        · subst e; rw [if_pos rfl, if_pos (by omega), hx, hy]
                        · rw [if_neg e]
                          show (if j < k then (f j).tdiv (dg : Int) else f j) = _
                          by_cases e2 : j < k
                          · rw [if_pos e2, if_pos (by omega)]
                          · rw [if_neg e2, if_neg (by omega)]
                      have hbx6 : Below W.heap.size W (wr.setCell ⟨w2.heap.size, k, none⟩ (.int .i64 y)) := bs hbx5 (by simp; omega) _
                      have z2 : (k : Int) < (i : Int) := by omega
                      clear hx
                      go_wp2
                      go_roundw
                      case rel => exact ⟨k + 1, by go_num, by omega, HO2, hbx6⟩
                      case measure => simp [intOf]; omega
                    · have hki : i = k := by omega
                      subst hki
                      have z2 : ¬ (i : Int) < (i : Int) := by omega
                      have HF : Hid (Arr wr w2.heap.size i (fun j => (out w H xs j).tdiv (dg : Int))) := HO.out.congr fun j hj => by rw [if_pos hj, HFE.out]
                      go_wp2
                      go_quiet (fail)
                      go_wp2
                      refine bodyPost_ret (v := .tuple #[.slice (some ⟨w2.heap.size, 0, none⟩) i i, .int .i64 (r : Int), .int .i64 0]) (by simp [results, Try.results12, go_sem]) rfl ⟨_, rfl, by omega, HF.out.at (below_drewN (Below.refl _ _) _), below_drewN hbx5 _⟩
        | succ i =>
          have hi : i < n := by omega
          have e1 : ((i + 1 : Nat) : Int) - 1 = (i : Int) := by omega
          have z0 : (i : Int) ≥ 0 := by omega
          have zi : (i : Int) < (n : Int) := by omega
          have HC : Hid (∀ V, Below wr.heap.size wr V → V.cell? ⟨W.heap.size, i, none⟩ = some (.int .i64 0) ∧ V.frozen? ⟨W.heap.size, i, none⟩ = false) := fun V hV => by
            have h1 := (HA.out.at hV).cells i hi
            rw [stt, if_neg (by omega)] at h1
            exact ⟨h1, (HA.out.at hV).thaw i hi⟩
          have HSET : Hid (∀ (V : World) (y : Int), Arr V W.heap.size n (stt (lft w H (tld xs ln)) (fun _ => 0) (i + 1)) → (lft w H (tld xs ln)) i = y → Arr (V.setCell ⟨W.heap.size, i, none⟩ (.int .i64 y)) W.heap.size n (stt (lft w H (tld xs ln)) (fun _ => 0) i)) := fun V y hV hy => (hV.set i hi y).congr fun j _ => by
            unfold upd stt
            by_cases e : j = i
            · subst e; rw [if_pos rfl, if_pos (Nat.le_refl _), hy]
            · rw [if_neg e]
              by_cases e2 : i + 1 ≤ j
              · rw [if_pos e2, if_pos (by omega)]
              · rw [if_neg e2, if_neg (by omega)]
          obtain ⟨b, o, c', x, hex, _, hbB, hxx, hcx⟩ := (HX.out.at hB hbl).get (i := i) (by rw [HXL.out]; exact hi)
          rw [HXL.out] at hex
          simp only [Value.slice.injEq] at hex
          obtain ⟨rfl, -, rfl⟩ := hex
          have hgx : xs.getD i 0 = x := by rw [List.getD, hxx]; rfl
          have hxb : x.natAbs ≤ 65536 := by rw [← hgx]; exact good_abs (wrE_zero HH.out.2.2.1).2 i
          have xb : -65536 ≤ x ∧ x ≤ 65536 := by omega
          have HT : Hid (∀ V, Below wr.heap.size wr V → V.cell? ⟨b, o + i, none⟩ = some (.int .i64 x)) := fun V hV => (hV.cell (p := ⟨b, o + i, none⟩) (show b < wr.heap.size by omega)).trans hcx
          have hli := (lev_le (w := w) (by omega) H i).2 (by rw [HH.out.1]; exact hi)
          obtain ⟨l, hl⟩ : ∃ l, lev w i = l := ⟨_, rfl⟩
          have klv := fun V => level_any w i hw hw2 (by omega) l hl V
          rw [hl] at hli
          obtain ⟨hh, hhe⟩ : ∃ hh, H - l = hh := ⟨_, rfl⟩
          have hhi : (H : Int) - (l : Int) = (hh : Int) := by omega
          have HLV : Hid (lev w i = l ∧ H - l = hh) := ⟨hl, hhe⟩
          have htl : tld xs ln i = x * (ln : Int) := by rw [tld, hgx]
          have HTL : Hid (tld xs ln i = x * (ln : Int)) := htl
          rw [e1]
          clear e1 hl hgx hxx hxb htl
          by_cases c1 : hh = 0
          · subst c1
            have hnl : ¬ i < inr w H := by rw [← lev_lt (by omega), HLV.out.1]; omega
            obtain ⟨y, hy⟩ : ∃ y, x * (ln : Int) = y := ⟨_, rfl⟩
            have HY : Hid ((lft w H (tld xs ln)) i = y) := by rw [Hid, lft, risF_leaf (by omega) (by rw [HH.out.1]; exact hi) hnl, HTL.out, hy]
            have hyb : y.natAbs ≤ 70368744177664 := by rw [← hy, ← HTL.out]; exact tld_abs (wrE_zero HH.out.2.2.1).2 hln2 i
            have yb : -70368744177664 ≤ y ∧ y ≤ 70368744177664 := by omega
            obtain ⟨cc, ff⟩ := HC.out wr (Below.refl _ _)
            have HA2 : Hid (Arr (wr.setCell ⟨W.heap.size, i, none⟩ (.int .i64 y)) W.heap.size n (stt (lft w H (tld xs ln)) (fun _ => 0) i)) := HSET.out wr y HA.out HY.out
            have hbl2 : Below W.heap.size W (wr.setCell ⟨W.heap.size, i, none⟩ (.int .i64 y)) := bs hbl (Nat.le_refl _) _
            clear hyb HSET HC hnl hhe
            go_wp2_with fail
            refine (klv _).mono ?_
            rintro e5 w5 ⟨rfl, hw5⟩
            have hwy := hw5.symm
            subst hwy
            clear klv hw5
            go_wp2
            go_roundw
            case rel => exact ⟨i, by first | rfl | go_num, by omega, HA2, hbl2⟩
            case measure => simp [intOf]; try omega
          · have hil : i < inr w H := by rw [← lev_lt (by omega), HLV.out.1]; omega
            obtain ⟨qq, hqq⟩ : ∃ qq, w ^ hh = qq := ⟨_, rfl⟩
            obtain ⟨p, hp⟩ : ∃ p, qq * w = p := ⟨_, rfl⟩
            have hqb : qq ≤ 1024 := by
              have h1 : w ^ hh ≤ w ^ H := Nat.pow_le_pow_right (by omega) (by omega)
              rw [hqq, HH.out.2.1] at h1; omega
            have hq1 : 1 ≤ qq := by rw [← hqq]; exact Nat.pow_pos (by omega)
            have hpb : p ≤ 16384 := by rw [← hp]; exact Nat.le_trans (Nat.mul_le_mul hqb hw2) (by decide)
            have hp2 : qq * 2 ≤ p := by rw [← hp]; exact Nat.mul_le_mul_left _ hw
            have hqw2 : 2 ≤ qq := by
              rw [← hqq]
              have h1 : w ^ 1 ≤ w ^ hh := Nat.pow_le_pow_right (by omega) (by omega)
              simp at h1; omega
            have kp1 := fun V => power_any w (hh + 1) p (by omega) hw2 (by omega) (by rw [Nat.pow_succ, hqq, hp]) (by omega) V
            have kq1 := fun V => power_any w hh qq (by omega) hw2 (by omega) hqq (by omega) V
            have e2 : ((hh + 1 : Nat) : Int) = (hh : Int) + 1 := by simp
            rw [e2] at kp1
            obtain ⟨s, hs⟩ : ∃ s, sumN (lft w H (tld xs ln)) (w * i + 1) w = s := ⟨_, rfl⟩
            obtain ⟨b1, b2, b3, _, _⟩ := lft_step_bd hw hw2 hH (Nat.le_refl 70368744177664) (fun j _ => tld_abs (wrE_zero HH.out.2.2.1).2 hln2 j) hil
            rw [HLV.out.1, HLV.out.2, hqq, hp, hs] at b2
            rw [hs] at b3
            have hLi : (lft w H (tld xs ln)) i = mkq w qq (x * (ln : Int)) s := by rw [lft, risF_inner _ _ (by omega) hil, ← lft, hs, mkL, HLV.out.1, HLV.out.2, hqq, HTL.out]
            have hdv : (qq * w - 1) ∣ ln := by rw [← hqq, ← HH.out.2.2.2.1]; exact dvd_lin (by omega) (by omega)
            have hmr := (mkq_ref (x := x) (s := s) hdv (by omega)).resolve_right (by omega)
            rw [hmr, hp] at hLi
            have hkd : ∀ j, j < w → w * i + 1 + j < n := fun j hj => by rw [← HH.out.1]; exact kid_lt (by omega) hil hj
            have hwm : 1 * i ≤ w * i := Nat.mul_le_mul_right _ (by omega)
            have hse : sumN (stt (lft w H (tld xs ln)) (fun _ => 0) (i + 1)) (w * i + 1) w = s := by
              rw [← hs]
              exact sumN_congr fun j _ => by rw [stt, if_pos (by omega)]
            have hfb : ∀ j, j < w → (stt (lft w H (tld xs ln)) (fun _ => 0) (i + 1) (w * i + 1 + j)).natAbs ≤ 144115188075855872 := fun j hj => by
              rw [stt, if_pos (by omega)]
              exact Nat.le_trans (lft_le hw hH (fun k _ => tld_abs (wrE_zero HH.out.2.2.1).2 hln2 k) (by rw [HH.out.1]; exact hkd j hj)) (by decide)
            have KS : Hid (∀ (V : World) (gk ck : Nat), Arr V W.heap.size n (stt (lft w H (tld xs ln)) (fun _ => 0) (i + 1)) → Arr V gk w (fun j => ((w * i + 1 + j : Nat) : Int)) → Calls Try.prog 20 #[.slice (some ⟨W.heap.size, 0, none⟩) n n, .slice (some ⟨gk, 0, none⟩) w ck] V fun e W' => e = .returned (.int .i64 s) ∧ W' = V) := fun V gk ck h1 h2 => ssum_any W.heap.size n n gk ck w i _ hw2 hkd V h1 h2 hfb s hse
            have kk := fun V => kids_any w i hw hw2 (by omega) V
            obtain ⟨d1, hd1⟩ : ∃ d1, p - 1 = d1 := ⟨_, rfl⟩
            obtain ⟨pq, hpq⟩ : ∃ pq, p - qq = pq := ⟨_, rfl⟩
            obtain ⟨q1, hq1'⟩ : ∃ q1, qq - 1 = q1 := ⟨_, rfl⟩
            obtain ⟨ee, hee⟩ : ∃ ee, ln / d1 = ee := ⟨_, rfl⟩
            obtain ⟨A1, hA1⟩ : ∃ A1, x * (pq : Int) = A1 := ⟨_, rfl⟩
            obtain ⟨A, hAe⟩ : ∃ A, A1 * (ee : Int) = A := ⟨_, rfl⟩
            obtain ⟨sd, hsd⟩ : ∃ sd, s.tdiv (d1 : Int) = sd := ⟨_, rfl⟩
            obtain ⟨C, hC⟩ : ∃ C, (q1 : Int) * sd = C := ⟨_, rfl⟩
            rw [hpq, hd1, hq1', hee, hA1, hAe, hsd, hC] at hLi
            have g1 : (p : Int) - 1 = (d1 : Int) := by omega
            have g2 : (p : Int) - (qq : Int) = (pq : Int) := by omega
            have g3 : (qq : Int) - 1 = (q1 : Int) := by omega
            rw [g1, g3, hsd, hC] at b2
            have hA1b : A1.natAbs ≤ 1073741824 := by
              rw [← hA1, Int.natAbs_mul, Int.natAbs_natCast]
              exact Nat.le_trans (Nat.mul_le_mul (show x.natAbs ≤ 65536 by omega) (show pq ≤ 16384 by omega)) (by decide)
            have heb : ee ≤ 1073741824 := by rw [← hee]; exact Nat.le_trans (Nat.div_le_self _ _) hln2
            have hAb : A.natAbs ≤ 1152921504606846976 := by
              rw [← hAe, Int.natAbs_mul, Int.natAbs_natCast]
              exact Nat.le_trans (Nat.mul_le_mul hA1b heb) (by decide)
            have hsb : sd.natAbs ≤ 1152921504606846976 := by rw [← hsd, Int.natAbs_tdiv]; exact Nat.le_trans (Nat.div_le_self _ _) b3
            have d1n : ¬ (d1 : Int) = 0 := by omega
            have d1m : ¬ d1 = 0 := by omega
            have f1 : IntKind.i64.wrap (x * (pq : Int)) = A1 := by rw [hA1]; exact wrap_id (by omega)
            have f2 : IntKind.i64.wrap ((ln : Int).tdiv (d1 : Int)) = (ee : Int) := by
              have e9 : (ln : Int).tdiv (d1 : Int) = (ee : Int) := by rw [Int.tdiv_eq_ediv_of_nonneg (by omega), ← hee]; exact (Int.natCast_ediv _ _).symm
              rw [e9]; exact wrap_id (by omega)
            have f2b : (ln : Int) / (d1 : Int) = (ee : Int) := by rw [← hee]; exact (Int.natCast_ediv _ _).symm
            have Ab : -1152921504606846976 ≤ A ∧ A ≤ 1152921504606846976 := by omega
            have Cb : -1152921504606846976 ≤ C ∧ C ≤ 1152921504606846976 := by omega
            have f4 : IntKind.i64.wrap (s.tdiv (d1 : Int)) = sd := by rw [hsd]; exact wrap_id (by omega)
            have f5 : IntKind.i64.wrap ((q1 : Int) * sd) = C := by rw [hC]; exact wrap_id (by omega)
            have f6 : IntKind.i64.wrap (A + C) = A + C := wrap_id (by omega)
            have f7 : IntKind.i64.wrap ((p : Int) - 1) = (d1 : Int) := by rw [g1]; exact wrap_id (by omega)
            have f8 : IntKind.i64.wrap ((p : Int) - (qq : Int)) = (pq : Int) := by rw [g2]; exact wrap_id (by omega)
            have f9 : IntKind.i64.wrap ((qq : Int) - 1) = (q1 : Int) := by rw [g3]; exact wrap_id (by omega)
            have HLI : Hid ((lft w H (tld xs ln)) i = A + C) := hLi
            have hcz : ((hh : Int) == 0) = false := by simp; omega
            have hcz2 : ¬ (hh : Int) = 0 := by omega
            clear hLi hmr hdv hs hse hfb hkd hwm hA1 hsd hC hee hd1 hpq hq1' b1 hp hqq e2 hil hhe g1 g2 g3
            go_wp2_with fail
            refine (klv _).mono ?_
            rintro e5 w5 ⟨rfl, hw5⟩
            have hwy := hw5.symm
            subst hwy
            clear klv hw5
            go_wp2_with fail
            refine (kp1 _).mono ?_
            rintro e6 w6 ⟨rfl, hw6⟩
            have hwy := hw6.symm
            subst hwy
            clear kp1 hw6
            go_wp2_with fail
            refine (kq1 _).mono ?_
            rintro e7 w7 ⟨rfl, hw7⟩
            have hwy := hw7.symm
            subst hwy
            clear kq1 hw7
            go_wp2_with fail
            have tX := HT.out wr (Below.refl _ _)
            have gB : b < W.heap.size := by omega
            go_region_held3 (fun w' => w'.cell? ⟨b, o + i, none⟩ = some (.int .i64 x))
              (first | with_reducible assumption | (refine HT.out _ ?_; first | with_reducible exact (Below.refl _ wr).drew | with_reducible exact hz5) | (refine (sc_other (fun e => absurd (congrArg Addr.block e) (Nat.ne_of_gt gB))).trans ?_; refine HT.out _ ?_; with_reducible exact hz5))
              (first
                | (have hmark := hz5; clear hmark; go_at_call 20; refine (KS.out _ _ _ ?_ ?_).mono ?_; (exact HA.out.at hz5); (exact hA5); rintro e w6 ⟨rfl, hw6⟩; have hwy := hw6.symm; subst hwy)
                | (go_at_call 21; refine (kk _).mono ?_; rintro e w5 ⟨g5, c5, rfl, hc5, hg5, hA5, hb5⟩; refine cutP (P := Below wr.heap.size wr w5) ?_ (fun hz5 => ?_); (with_reducible exact bt (Below.refl _ wr).drew hb5); obtain ⟨cc5, ff5⟩ := HC.out w5 hz5))
            have hz6 : Below W.heap.size W w5 := bt hbl hz5
            have HA2 : Hid (Arr (w5.setCell ⟨W.heap.size, i, none⟩ (.int .i64 (A + C))) W.heap.size n (stt (lft w H (tld xs ln)) (fun _ => 0) i)) := HSET.out w5 (A + C) (HA.out.at hz5) HLI.out
            have hbl2 : Below W.heap.size W (w5.setCell ⟨W.heap.size, i, none⟩ (.int .i64 (A + C))) := bs hz6 (Nat.le_refl _) _
            have HA3 : Hid (Arr (w5.setCell ⟨W.heap.size, i, none⟩ (.int .i64 (A1 * (ee : Int) + C))) W.heap.size n (stt (lft w H (tld xs ln)) (fun _ => 0) i)) := by rw [hAe]; exact HA2
            have hbl3 : Below W.heap.size W (w5.setCell ⟨W.heap.size, i, none⟩ (.int .i64 (A1 * (ee : Int) + C))) := bs hz6 (Nat.le_refl _) _
            clear HSET HC HT KS HA2 hbl2
            go_wp2
            go_roundw
            case rel => exact ⟨i, by first | rfl | go_num, by omega, HA3, hbl3⟩
            case measure => simp [intOf]; try omega
end Go.Proofs.Ytgfndaiilhbkmaa
