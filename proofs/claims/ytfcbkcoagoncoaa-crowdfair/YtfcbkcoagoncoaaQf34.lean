import Derived.Test.YtfcbkcoagoncoaaQf07
import Derived.Test.YtfcbkcoagoncoaaQf29
namespace Go.Proofs.Ytfcbkcoagoncoaa
open Go.RowKit Go.Proofs.Ytfcbkcoagoncoaa.Ds Go.Proofs.Ytfcbkcoagoncoaa.Crd

theorem any_drop {xs : List Int} {i : Nat} {x : Int} (h : xs[i]? = some x) : (xs.drop i).any badN = (badN x || (xs.drop (i + 1)).any badN) := by
  have hi := (List.getElem?_eq_some_iff.1 h).1
  rw [List.drop_eq_getElem_cons hi, (List.getElem?_eq_some_iff.1 h).2]
  rfl

set_option maxHeartbeats 4000000 in
set_option maxRecDepth 100000 in
/-- crowd.together -/
theorem together_any (B : Nat) (v : Value) (xs : List Int) (w : World) (hx : Num w B v xs) (hl : xs.length ≤ 8) (r e : Int) (hr : (if xs.any badN = true then (0, 8) else (tl xs, 0)) = (r, e)) :
    Calls Try.prog 24 #[v] w fun y w' => y = .returned (.tuple #[.int .i64 r, .int .i64 e]) ∧ w' = w := by
  have HN : Hid (Num w B v xs) := hx
  have HR : Hid ((if xs.any badN = true then ((0 : Int), (8 : Int)) else (tl xs, 0)) = (r, e)) := hr
  obtain ⟨va, vc, rfl, hvc, hvl, _⟩ := hx
  clear hr
  go_enter Try.func24, Try.ntmps24
  go_wp2_with fail
  go_loopw [4, 9] (fun a s wr => ∃ (i : Nat) (z : Int), s = .int .i64 (i : Int) ∧ a = .int .i64 z ∧ i ≤ xs.length ∧ Hid (tl (xs.take i) = z ∧ xs.any badN = (xs.drop i).any badN) ∧ 0 ≤ z ∧ z ≤ 4096 * i ∧ wr = w) (fun _ s _ => xs.length - (intOf s).toNat)
  case atStart => exact ⟨0, 0, rfl, rfl, Nat.zero_le _, ⟨by simp [tl, smL], rfl⟩, by omega, by omega, rfl⟩
  case round =>
    obtain ⟨i, z, rfl, rfl, hit, HZ, z0, z1, rfl⟩ := hrel
    by_cases h1 : i < xs.length
    · obtain ⟨b, o, c, x, hv, hc, hb, hxi, hcell⟩ := HN.out.get h1
      simp only [Value.slice.injEq, true_and] at hv
      obtain ⟨rfl, rfl⟩ := hv
      have HS : Hid ((xs.drop i).any badN = (badN x || (xs.drop (i + 1)).any badN) ∧ tl (xs.take (i + 1)) = z + x) := ⟨any_drop hxi, by rw [tl_take_succ hxi, HZ.out.1]⟩
      clear hxi
      by_cases c1 : x < 0
      · have hre : (r, e) = (0, 8) := by
          rw [← HR.out, HZ.out.2, HS.out.1]
          have : badN x = true := by unfold badN; simp; omega
          simp [this]
        simp only [Prod.mk.injEq] at hre
        obtain ⟨rfl, rfl⟩ := hre
        go_wp2
        exact bodyPost_ret (v := .tuple #[.int .i64 0, .int .i64 8]) (by simp [results, Try.results24, go_sem]) rfl ⟨rfl, rfl⟩
      · by_cases c2 : 4096 < x
        · have hre : (r, e) = (0, 8) := by
            rw [← HR.out, HZ.out.2, HS.out.1]
            have : badN x = true := by unfold badN; simp; omega
            simp [this]
          simp only [Prod.mk.injEq] at hre
          obtain ⟨rfl, rfl⟩ := hre
          go_wp2
          exact bodyPost_ret (v := .tuple #[.int .i64 0, .int .i64 8]) (by simp [results, Try.results24, go_sem]) rfl ⟨rfl, rfl⟩
        · have hb0 : badN x = false := by unfold badN; simp; omega
          go_wp2
          go_roundw
          case rel => exact ⟨i + 1, z + x, by go_num, by go_num, by omega, ⟨HS.out.2, by rw [HZ.out.2, HS.out.1, hb0]; rfl⟩, by omega, by omega, trivial⟩
          case measure => simp [intOf]; omega
    · obtain rfl : i = xs.length := by omega
      have hre : (r, e) = (z, 0) := by
        rw [← HR.out, HZ.out.2, ← HZ.out.1]
        simp
      simp only [Prod.mk.injEq] at hre
      obtain ⟨rfl, rfl⟩ := hre
      go_wp2
      exact bodyPost_ret (v := .tuple #[.int .i64 r, .int .i64 0]) (by simp [results, Try.results24, go_sem]) rfl ⟨rfl, rfl⟩

theorem wrap_id {a : Int} (h : -9223372036854775808 ≤ a ∧ a ≤ 9223372036854775807) : IntKind.i64.wrap a = a := by
  rw [IntKind.wrap_i64]; omega
theorem map_tdiv {xs : List Int} {G : Nat} (h : ∀ x ∈ xs, G ∣ x.natAbs) : xs.map (fun x => x.tdiv (G : Int)) = xs.map (fun x => x / (G : Int)) := by
  refine List.map_congr_left fun x hx => ?_
  exact Int.tdiv_eq_ediv_of_dvd (Int.ofNat_dvd_left.2 (h x hx))
def trT (xs : List Int) (G k : Nat) : List Int := (xs.take k).map (fun x => x.tdiv (G : Int)) ++ List.replicate (xs.length - k) 0
theorem trT_len {xs : List Int} {G k : Nat} (h : k ≤ xs.length) : (trT xs G k).length = xs.length := by simp [trT]; omega
theorem trT_set {xs : List Int} {G k : Nat} {x : Int} (h : xs[k]? = some x) : (trT xs G k).set k (x.tdiv (G : Int)) = trT xs G (k + 1) := by
  have hk := (List.getElem?_eq_some_iff.1 h).1
  unfold trT
  rw [List.take_add_one, h, List.set_append_right _ _ (by simp; omega)]
  rw [show xs.length - k = (xs.length - (k + 1)) + 1 by omega, List.replicate_succ]
  have : k - (List.map (fun x => x.tdiv (G : Int)) (List.take k xs)).length = 0 := by simp; omega
  rw [this]
  simp
theorem trT_get {xs : List Int} {G k : Nat} (h : k < xs.length) : ∃ y, (trT xs G k)[k]? = some y := get_lt (by rw [trT_len (by omega)]; exact h)

set_option maxRecDepth 100000 in
set_option maxHeartbeats 4000000 in
/-- whole.Lowest -/
theorem wlowest_any (B : Nat) (v : Value) (xs : List Int) (ln : Nat) (hn : xs.length ≤ 1024) (hln1 : 1 ≤ ln) (hln : ln ≤ 1073741824) (W : World) (hB : B ≤ W.heap.size) (hx : Num W B v xs) (hf : ∀ x ∈ xs, x.natAbs ≤ 1152921504606846976) (G : Nat) (hG : gdL ln xs = G) (r : Nat) (hr0 : ln / G = r) :
    Calls Try.prog 26 #[v, .int .i64 (ln : Int)] W fun e W' => ∃ g2, e = .returned (.tuple #[.slice (some ⟨g2, 0, none⟩) xs.length xs.length, .int .i64 (r : Int)]) ∧ W.heap.size ≤ g2 ∧ RowI W' g2 (xs.map (fun x => x / (G : Int))) ∧ Below W.heap.size W W' := by
  have HN : Hid (Num W B v xs) := hx
  obtain ⟨va, vc, rfl, hvc, hvl, _⟩ := hx
  have HF : Hid (∀ x ∈ xs, x.natAbs ≤ 1152921504606846976) := hf
  have HG : Hid (gdL ln xs = G) := hG
  have HR : Hid (ln / G = r) := hr0
  have hmk := make_ints xs.length (by omega)
  clear hf hG hr0
  go_enter Try.func26, Try.ntmps26
  go_wp2_with fail
  go_loopw [6, 15] (fun dv s wr => ∃ (i d : Nat), s = .int .i64 (i : Int) ∧ dv = .int .i64 (d : Int) ∧ i ≤ xs.length ∧ Hid (gdL ln (xs.take i) = d) ∧ Below W.heap.size W wr) (fun _ s _ => xs.length - (intOf s).toNat)
  case atStart => exact ⟨0, ln, rfl, rfl, Nat.zero_le _, by simp [Hid, gdL], Below.refl _ _⟩
  case round =>
    obtain ⟨i, d, rfl, rfl, hi, HD, hbl⟩ := hrel
    have hd1 : 1 ≤ d := by rw [← HD.out]; exact gdL_pos _ hln1
    have hd2 : d ≤ 1073741824 := by have := gdL_le (xs.take i) hln1; rw [HD.out] at this; omega
    by_cases c1 : i < xs.length
    · obtain ⟨b, o, c, x, hv, hc, hb, hxi, hcell⟩ := (HN.out.at hB hbl).get c1
      simp only [Value.slice.injEq, true_and] at hv
      obtain ⟨rfl, rfl⟩ := hv
      have hxb := HF.out x (List.mem_of_getElem? hxi)
      have kd := fun V => divisor_int (d : Int) x (by omega) (by omega) (by omega) (by omega) V
      have e1 : Int.gcd (d : Int) x = Nat.gcd d x.natAbs := rfl
      obtain ⟨d2, hd2'⟩ : ∃ d2, Nat.gcd d x.natAbs = d2 := ⟨_, rfl⟩
      rw [e1, hd2'] at kd
      have HD2 : Hid (gdL ln (xs.take (i + 1)) = d2) := by
        rw [Hid, List.take_add_one, hxi]
        show gdL ln (xs.take i ++ [x]) = d2
        rw [gdL_snoc, HD.out, hd2']
      clear hxi e1 hd2'
      go_wp2_with fail
      refine (kd _).mono ?_
      rintro e1 w1 ⟨rfl, hb1⟩
      clear kd
      go_wp2
      go_roundw
      case rel => exact ⟨i + 1, d2, by go_num, rfl, by omega, HD2, bt hbl hb1⟩
      case measure => simp [intOf]; omega
    · obtain rfl : i = xs.length := by omega
      obtain rfl : d = G := by rw [← HD.out, ← HG.out, List.take_of_length_le (Nat.le_refl _)]
      obtain ⟨w2, hw2⟩ : ∃ w2, w2 = wr := ⟨_, rfl⟩
      subst hw2
      have hne : ¬ (d : Int) = 0 := by omega
      have hne2 : ¬ d = 0 := by omega
      have hri : (ln : Int) / (d : Int) = (r : Int) := by rw [← HR.out]; exact (Int.natCast_ediv _ _).symm
      have hrb : r ≤ 1073741824 := by rw [← HR.out]; exact Nat.le_trans (Nat.div_le_self _ _) hln
      have hs2 := hbl.size
      clear HR
      go_wp2_with fail
      go_loopw [28] (fun s wx => ∃ (k : Nat), s = .int .i64 (k : Int) ∧ k ≤ xs.length ∧ Hid (RowI wx w2.heap.size (trT xs d k)) ∧ Below w2.heap.size w2 wx) (fun s _ => xs.length - (intOf s).toNat)
      case atStart => exact ⟨0, rfl, Nat.zero_le _, (by have := RowI.made w2 xs.length; rw [Hid]; unfold trT; simpa using this), ba _ _⟩
      case round =>
        obtain ⟨k, rfl, hk, HO, hbx⟩ := hrel
        by_cases c2 : k < xs.length
        · obtain ⟨b, o, c, x, hv, hc, hb, hxk, hcell⟩ := (HN.out.at hB (bt hbl hbx)).get c2
          simp only [Value.slice.injEq, true_and] at hv
          obtain ⟨rfl, rfl⟩ := hv
          have hxb := HF.out x (List.mem_of_getElem? hxk)
          obtain ⟨y0, hy0⟩ := trT_get (G := d) c2
          have cO := HO.out.cells k y0 hy0
          have fO := HO.out.thaw k (by rw [trT_len hk]; exact c2)
          obtain ⟨y, hy⟩ : ∃ y, x.tdiv (d : Int) = y := ⟨_, rfl⟩
          have hyb : y.natAbs ≤ 1152921504606846976 := by rw [← hy, Int.natAbs_tdiv]; exact Nat.le_trans (Nat.div_le_self _ _) hxb
          have hwy : IntKind.i64.wrap (x.tdiv (d : Int)) = y := by rw [hy]; exact wrap_id (by omega)
          have HO2 : Hid (RowI (wr.setCell ⟨w2.heap.size, k, none⟩ (.int .i64 y)) w2.heap.size (trT xs d (k + 1))) := by
            have h3 := HO.out.set k y
            rw [← hy, trT_set hxk, hy] at h3
            exact h3
          have hbx2 : Below w2.heap.size w2 (wr.setCell ⟨w2.heap.size, k, none⟩ (.int .i64 y)) := bs hbx (Nat.le_refl _) _
          clear hxk hy0
          go_wp2
          go_roundw
          case rel => exact ⟨k + 1, by go_num, by omega, HO2, hbx2⟩
          case measure => simp [intOf]; omega
        · obtain rfl : k = xs.length := by omega
          have HE : Hid (RowI wr w2.heap.size (xs.map (fun x => x / (d : Int)))) := by
            have h3 := HO.out
            unfold trT at h3
            rw [List.take_of_length_le (Nat.le_refl _), Nat.sub_self, List.replicate_zero, List.append_nil, map_tdiv (fun x hx => by rw [← HG.out]; exact (gdL_dvd xs ln).2 x hx)] at h3
            exact h3
          clear HG HD
          go_wp2
          go_quiet (fail)
          go_wp2
          go_ret2
          exact ⟨_, rfl, hs2, HE.out.keep (below_drewN (Below.refl _ _) _) HE.out.lt, below_drewN (bt hbl hbx) _⟩
end Go.Proofs.Ytfcbkcoagoncoaa
