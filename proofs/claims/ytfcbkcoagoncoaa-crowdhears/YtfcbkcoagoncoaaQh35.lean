import Derived.Test.YtfcbkcoagoncoaaQh07
import Derived.Test.YtfcbkcoagoncoaaQh32
import Derived.Test.YtfcbkcoagoncoaaQh25
import Derived.Deep.RegionHeld3
namespace Go.Proofs.Ytfcbkcoagoncoaa
open Go.RowKit Go.Proofs.Ytfcbkcoagoncoaa.Ds Go.Proofs.Ytfcbkcoagoncoaa.Crd

namespace Crd
/-- what is heavy so far -/
def trm (u d : Int) (k t : Nat) (ts : List Nat) (h : List Int) (j : Nat) : Int := if 0 < h.getD j 0 then sayW u d t j * wgh u d k ts (dec j h) else 0
def psm (u d : Int) (k t : Nat) (ts : List Nat) (h : List Int) (i : Nat) : Int := smL (trm u d k t ts h) (List.range i)
theorem psm_succ (u d : Int) (k t : Nat) (ts : List Nat) (h : List Int) (i : Nat) : psm u d k t ts h (i + 1) = psm u d k t ts h i + trm u d k t ts h i := by
  unfold psm
  rw [List.range_succ, smL_append]
  simp [smL]
theorem psm_all (u d : Int) (k t : Nat) (ts : List Nat) (h : List Int) : psm u d k t ts h (k + 1) = wgh u d k (t :: ts) h := rfl
theorem trm_nn {u d : Int} (hu : 1 ≤ u) (hd : 1 ≤ d) {k t : Nat} {ts : List Nat} {h : List Int} (hh : h ∈ cnts (ts.length + 1) k) (j : Nat) : 0 ≤ trm u d k t ts h j := by
  unfold trm
  by_cases c : 0 < h.getD j 0
  · rw [if_pos c]
    have h1 := wgh_pos hu hd k ts (dec j h) (dec_mem hh c)
    have h2 := sayW_pos hu hd t j
    exact Int.mul_nonneg (by omega) (by omega)
  · rw [if_neg c]; exact Int.le_refl _
theorem psm_mono {u d : Int} (hu : 1 ≤ u) (hd : 1 ≤ d) {k t : Nat} {ts : List Nat} {h : List Int} (hh : h ∈ cnts (ts.length + 1) k) {i : Nat} : ∀ m, psm u d k t ts h i ≤ psm u d k t ts h (i + m)
  | 0 => Int.le_refl _
  | m + 1 => by
    have h1 := psm_mono hu hd hh (t := t) (i := i) m
    have h2 := trm_nn hu hd hh (t := t) (i + m)
    rw [← Nat.add_assoc, psm_succ]
    omega
theorem psm_bd {u d : Int} (hu : 1 ≤ u) (hd : 1 ≤ d) {k t : Nat} {ts : List Nat} {h : List Int} (hh : h ∈ cnts (ts.length + 1) k) (htk : ∀ x ∈ t :: ts, x ≤ k) (hS : (u + k * d) ^ (ts.length + 1) ≤ 1073741824) {i : Nat} (hi : i ≤ k + 1) : 0 ≤ psm u d k t ts h i ∧ psm u d k t ts h i ≤ 1073741824 := by
  constructor
  · have := psm_mono hu hd hh (t := t) (i := 0) i
    rw [Nat.zero_add] at this
    exact this
  · have h1 := psm_mono hu hd hh (t := t) (i := i) (k + 1 - i)
    rw [show i + (k + 1 - i) = k + 1 by omega, psm_all] at h1
    have h2 := wgh_le hu hd k (t :: ts) htk hh
    exact Int.le_trans h1 (Int.le_trans h2 hS)
end Crd
theorem num_tail {w : World} {B b o c : Nat} {t : Int} {ts : List Int} (h : Num w B (.slice (some ⟨b, o, none⟩) (ts.length + 1) c) (t :: ts)) : Num w B (.slice (if c = 1 then some ⟨b, o, none⟩ else some ⟨b, o + 1, none⟩) ts.length (c - 1)) ts := by
  obtain ⟨a', c', hv, hc, hl, hx⟩ := h
  simp only [Value.slice.injEq, List.length_cons, true_and] at hv
  obtain ⟨rfl, rfl⟩ := hv
  simp only [List.length_cons] at hc hl
  refine ⟨_, c - 1, rfl, by omega, by omega, fun hne => ?_⟩
  have : 0 < ts.length := List.length_pos_iff.2 hne
  rw [if_neg (by omega)]
  obtain ⟨b', o', he, hb, hcell⟩ := hx (by simp)
  simp only [Option.some.injEq, Addr.mk.injEq] at he
  obtain ⟨rfl, rfl, _⟩ := he
  refine ⟨b, o + 1, rfl, hb, fun i x hi => ?_⟩
  have := hcell (i + 1) x (by simpa using hi)
  rw [show o + 1 + i = o + (i + 1) by omega]
  exact this
theorem cutQ {P Q : Prop} (h : P) (k : P → Q) : Q := k h

set_option maxHeartbeats 2000000 in
set_option maxRecDepth 100000 in
/-- the reference's Weight -/
theorem rweight_any {u d : Int} {k : Nat} (hk7 : k ≤ 7) (hd1 : 1 ≤ d) (hdu : d ≤ u) (hu30 : u ≤ 1073741824) : ∀ (ts : List Int), ts.length ≤ 12 → (∀ t ∈ ts, 0 ≤ t ∧ t ≤ (k : Int)) → (u + k * d) ^ ts.length ≤ 1073741824 → ∀ (h : List Int), h ∈ cnts ts.length k →
    ∀ (B : Nat) (tv hv : Value) (w : World), B ≤ w.heap.size → Num w B tv ts → Num w B hv h → Calls Try.prog 22 #[rv u d, tv, hv] w fun e w' => e = .returned (.int .i64 (wgh u d k (natsT ts) h)) ∧ Below w.heap.size w w' := by
  intro ts
  induction ts with
  | nil =>
    intro _ _ _ h hh B tv hv w hB ht hx
    obtain ⟨ta, tc, rfl, _, _, _⟩ := ht
    clear hx
    go_enter Try.func22, Try.ntmps22
    go_wp2
    go_ret
    exact ⟨rfl, ba _ _⟩
  | cons t ts ih =>
    intro hl12 hmem hpow h hh B tv hv w hB ht hx
    have hu1 : 1 ≤ u := by omega
    obtain ⟨ht0, htk⟩ := hmem t (by simp)
    obtain ⟨T, rfl⟩ := Int.eq_ofNat_of_zero_le ht0
    have hTk : T ≤ k := by omega
    simp only [List.length_cons] at hl12 hpow hh
    have hhn : h ∈ cnts ((natsT ts).length + 1) k := by rw [nats_len]; exact hh
    have hpn : (u + k * d) ^ ((natsT ts).length + 1) ≤ 1073741824 := by rw [nats_len]; exact hpow
    have hSu : 1 ≤ u + k * d := by have : 0 ≤ (k : Int) * d := Int.mul_nonneg (by omega) (by omega); omega
    have htn : ∀ x ∈ T :: natsT ts, x ≤ k := by
      intro x hx
      rcases List.mem_cons.1 hx with rfl | hx
      · exact hTk
      · obtain ⟨y, hy, rfl⟩ := List.mem_map.1 hx
        have := hmem y (by simp [hy])
        omega
    have HBD : Hid (∀ i, i ≤ k + 1 → 0 ≤ psm u d k T (natsT ts) h i ∧ psm u d k T (natsT ts) h i ≤ 1073741824) := fun i hi => psm_bd hu1 hd1 hhn htn hpn hi
    have HIH : Hid (∀ (h : List Int), h ∈ cnts ts.length k → ∀ (B : Nat) (tv hv : Value) (w : World), B ≤ w.heap.size → Num w B tv ts → Num w B hv h → Calls Try.prog 22 #[rv u d, tv, hv] w fun e w' => e = .returned (.int .i64 (wgh u d k (natsT ts) h)) ∧ Below w.heap.size w w') :=
      ih (by omega) (fun x hx => hmem x (by simp [hx])) (Int.le_trans (pow_up hSu _) hpow)
    obtain ⟨hlen, hnn, _⟩ := mem_cnts.1 hh
    have HNN : Hid (∀ x ∈ h, 0 ≤ x) := hnn
    have HLE : Hid (∀ x ∈ h, x ≤ 12) := fun x hx => by have := cnt_le hh hx; omega
    have HH : Hid (h ∈ cnts (ts.length + 1) k) := hh
    have HLN : Hid (h.length = k + 1) := hlen
    have hl8 : h.length ≤ 8 := by omega
    have HW : Hid (∀ j, j ≤ k → 0 < h.getD j 0 → dec j h ∈ cnts ts.length k ∧ 1 ≤ wgh u d k (natsT ts) (dec j h)) := by
      intro j _ hp
      have h1 := dec_mem hh hp
      exact ⟨h1, wgh_pos hu1 hd1 k (natsT ts) (dec j h) (by rw [nats_len]; exact h1)⟩
    have HTN : Hid (Num w B tv ((T : Int) :: ts)) := ht
    have HXN : Hid (Num w B hv h) := hx
    obtain ⟨ta, tc, rfl, htc, htl, htx⟩ := ht
    obtain ⟨tb, to, rfl, htb, htcell⟩ := htx (by simp)
    have tc0 := htcell 0 (T : Int) rfl
    rw [Nat.add_zero] at tc0
    obtain ⟨ha, hc, rfl, hhc, hhl, _⟩ := hx
    simp only [List.length_cons] at *
    obtain ⟨n, hn⟩ : ∃ n, ts.length + 1 = n := ⟨_, rfl⟩
    have HTL : Hid (∀ W, Below w.heap.size w W → Num W B (.slice (if tc = 1 then some ⟨tb, to, none⟩ else some ⟨tb, to + 1, none⟩) (n - 1) (tc - 1)) ts) := fun W hW => by
      have h3 := num_tail (HTN.out.at hB hW)
      rw [show n - 1 = ts.length by omega]
      exact h3
    rw [hn] at htc hl12 ⊢
    have i1 : (1 : Int) ≤ (n : Int) := by omega
    have i2 : (1 : Int) ≤ (tc : Int) := by omega
    have i3 : (n : Int) ≤ (tc : Int) := by omega
    have i4 : 1 ≤ n := by omega
    have i5 : ¬ n = 0 := by omega
    have i6 : ((n : Int) == 0) = false := by simp; omega
    rw [hn] at htl
    clear hn
    obtain ⟨A, hA⟩ : ∃ A, (if tc = 1 then some (⟨tb, to, none⟩ : Addr) else some ⟨tb, to + 1, none⟩) = A := ⟨_, rfl⟩
    rw [hA] at HTL
    clear ih hmem hpow hh hhn hpn htn hnn hlen htcell htx
    go_enter Try.func22, Try.ntmps22
    go_wp2_with fail
    go_loopw [7, 16] (fun zv s wr => ∃ (i : Nat) (z : Int), s = .int .i64 (i : Int) ∧ zv = .int .i64 z ∧ i ≤ h.length ∧ Hid (psm u d k T (natsT ts) h i = z) ∧ 0 ≤ z ∧ z ≤ 1073741824 ∧ Below (w.heap.size + 1) (w.alloc (.cells #[.int .i64 u, .int .i64 d] 23)) wr) (fun _ s _ => h.length - (intOf s).toNat)
    case atStart => exact ⟨0, 0, rfl, rfl, Nat.zero_le _, rfl, by omega, by omega, Below.refl _ _⟩
    case round =>
      obtain ⟨i, z, rfl, rfl, hit, HZ, z0, z1, hbl⟩ := hrel
      have hbs := hbl.size
      simp only [World.size_alloc] at hbs
      have GB : Below w.heap.size w wr := (ba _ _).trans (hbl.mono (by omega))
      have HC : Hid (∀ W, Below wr.heap.size wr W → W.cell? ⟨w.heap.size, 0, none⟩ = some (.int .i64 u) ∧ W.cell? ⟨w.heap.size, 1, none⟩ = some (.int .i64 d)) := by
        intro W hW
        have hb2 : Below (w.heap.size + 1) (w.alloc (.cells #[.int .i64 u, .int .i64 d] 23)) W := hbl.trans (hW.mono (by omega))
        constructor
        · rw [hb2.cell (p := ⟨w.heap.size, 0, none⟩) (by show w.heap.size < _; omega)]; simp [go_sem]
        · rw [hb2.cell (p := ⟨w.heap.size, 1, none⟩) (by show w.heap.size < _; omega)]; simp [go_sem]
      by_cases h1 : i < h.length
      · obtain ⟨b, o, c, x, hv, hcc, hb, hxi, hcell⟩ := (HXN.out.at hB GB).get h1
        simp only [Value.slice.injEq, true_and] at hv
        obtain ⟨rfl, rfl⟩ := hv
        have x0 := HNN.out x (List.mem_of_getElem? hxi)
        have x12 := HLE.out x (List.mem_of_getElem? hxi)
        have hgd : h.getD i 0 = x := by simp [List.getD, hxi]
        have hik : i ≤ k := by have := HLN.out; omega
        by_cases c0 : x = 0
        · subst c0
          have HZ2 : Hid (psm u d k T (natsT ts) h (i + 1) = z) := by
            rw [Hid, psm_succ, HZ.out]
            unfold trm
            rw [hgd, if_neg (by omega)]
            omega
          clear hxi hgd
          go_wp2
          go_roundw
          case rel => exact ⟨i + 1, z, by go_num, rfl, by omega, HZ2, z0, z1, hbl⟩
          case measure => simp [intOf]; omega
        · have c0' : (x == 0) = false := by simpa using c0
          obtain ⟨hdm, hw1⟩ := HW.out i hik (by rw [hgd]; omega)
          obtain ⟨wW, hwW⟩ : ∃ wW, wgh u d k (natsT ts) (dec i h) = wW := ⟨_, rfl⟩
          rw [hwW] at hw1
          have HWW : Hid (wgh u d k (natsT ts) (dec i h) = wW) := hwW
          have HOW : Hid ((wr.alloc (.cells #[] 3)).ownsRow wr.heap.size 3 1 (.slice (some ⟨wr.heap.size, 0, none⟩) 0 0) 0 (([] : List Int).map (Value.int .i64))) := owns_zero wr wr.heap.size (Nat.le_refl _)
          have HXW : Hid (Num (wr.alloc (.cells #[] 3)) B (.slice (some ⟨b, o, none⟩) h.length hc) h) := (HXN.out.at hB GB).at (by omega) (ba _ _)
          have HXI : Hid (h[i]? = some x) := hxi
          clear hwW hxi
          go_wp2_with (at_builtin; refine wpList_app_nums _ rfl _ _ rfl wr.heap.size B 0 (some ⟨wr.heap.size, 0, none⟩) 0 [] h rfl HOW.out (.slice (some ⟨b, o, none⟩) h.length hc) rfl HXW.out (by omega) (by simp) h.length (by omega) ?_)
          intro a2 c2 w2 hown hgrow hat
          have hb2 : Below wr.heap.size wr w2 := (ba _ _).grown hgrow (by simp) (by intro k hk; simp [Value.ownBlock] at hk; omega)
          obtain ⟨g, cap, hv2, hcap, hg, hrow⟩ := rowi_of_owns (xs := [] ++ h) (by simp) hown (owns_some hown (by omega))
          simp only [List.nil_append] at hv2 hcap hrow
          simp only [Value.slice.injEq] at hv2
          obtain ⟨rfl, -, rfl⟩ := hv2
          have HRow : Hid (RowI w2 g h) := hrow
          have y1 := hrow.cells i x HXI.out
          have y2 := hrow.thaw i h1
          obtain ⟨w3, hw3⟩ : ∃ w3, w2.setCell ⟨g, i, none⟩ (.int .i64 (x - 1)) = w3 := ⟨_, rfl⟩
          have hb3 : Below wr.heap.size wr w3 := by rw [← hw3]; exact bs hb2 hg _
          have HR3 : Hid (RowI w3 g (dec i h)) := by
            have h3 := HRow.out.set i (x - 1)
            rw [hw3] at h3
            rw [Hid, dec, hgd]
            exact h3
          have G3 : Below w.heap.size w w3 := bt GB hb3
          have hsz3 := hb3.size
          have hbl3 : Below (w.heap.size + 1) (w.alloc (.cells #[.int .i64 u, .int .i64 d] 23)) w3 := hbl.trans (hb3.mono (by omega))
          have HC3 : Hid (∀ W, Below w3.heap.size w3 W → W.cell? ⟨w.heap.size, 0, none⟩ = some (.int .i64 u) ∧ W.cell? ⟨w.heap.size, 1, none⟩ = some (.int .i64 d)) := fun W hW => HC.out W (bt hb3 hW)
          have t3 : w3.cell? ⟨tb, to, none⟩ = some (.int .i64 (T : Int)) := (G3.cell (p := ⟨tb, to, none⟩) (by show tb < _; omega)).trans tc0
          obtain ⟨s1, s2⟩ := HC3.out w3 (Below.refl _ _)
          have KC : Hid (∀ W, Below w3.heap.size w3 W → Calls Try.prog 22 #[rv u d, .slice A (n - 1) (tc - 1), .slice (some ⟨g, 0, none⟩) h.length c2] W fun e w' => e = .returned (.int .i64 wW) ∧ Below W.heap.size W w') := by
            intro W hW
            have hsW := hW.size
            have h4 := HIH.out (dec i h) hdm W.heap.size (.slice A (n - 1) (tc - 1)) (.slice (some ⟨g, 0, none⟩) h.length c2) W (Nat.le_refl _) ((HTL.out W (bt G3 hW)).mono (by omega)) ?_
            · rw [HWW.out] at h4; exact h4
            · have h5 : RowI W g (dec i h) := HR3.out.keep hW HR3.out.lt
              exact ⟨_, c2, by rw [dec_len], by rw [dec_len]; exact hcap, by rw [dec_len]; omega, fun _ => ⟨g, 0, rfl, by have := HR3.out.lt; omega, fun q x hq => by rw [Nat.zero_add]; exact h5.cells q x hq⟩⟩
          rw [← hw3] at t3 s1 s2
          have HW3 : Hid (w2.setCell ⟨g, i, none⟩ (.int .i64 (x - 1)) = w3) := hw3
          clear hown hgrow hat hrow HOW HXW hw3 hdm HIH HTL
          by_cases e : i = T
          · have e' : ((i : Int) == (T : Int)) = true := by simp; omega
            have E1 : Hid (i = T) := e
            clear e
            obtain ⟨P, hP⟩ : ∃ P, u * wW = P := ⟨_, rfl⟩
            have hPt : trm u d k T (natsT ts) h i = P := by
              unfold trm
              rw [hgd, if_pos (by omega), HWW.out, ← hP]
              unfold sayW
              rw [if_pos E1.out]
            obtain ⟨z2, hz2⟩ : ∃ z2, z + P = z2 := ⟨_, rfl⟩
            have HZ2 : Hid (psm u d k T (natsT ts) h (i + 1) = z2) := by rw [Hid, psm_succ, HZ.out, hPt, hz2]
            have hbd := HBD.out (i + 1) (by omega)
            rw [HZ2.out] at hbd
            have hP0 : 0 ≤ P := by rw [← hP]; exact Int.mul_nonneg (by omega) (by omega)
            have f1 : IntKind.i64.wrap (u * wW) = P := by rw [hP, IntKind.wrap_i64]; omega
            have f2 : IntKind.i64.wrap (z + P) = z2 := by rw [hz2, IntKind.wrap_i64]; omega
            clear hP hPt hz2 hgd
            go_wp2_with fail
            rw [HW3.out]
            go_region_held3 (fun w' => w'.cell? ⟨w.heap.size, 0, none⟩ = some (.int .i64 u) ∧ w'.cell? ⟨w.heap.size, 1, none⟩ = some (.int .i64 d))
              (first | with_reducible assumption | (refine HC3.out _ ?_; first | with_reducible exact (Below.refl _ w3).drew | with_reducible exact hz5 | with_reducible exact Below.refl _ w3))
              (first
                | (go_at_call 22; refine (KC.out _ ?_).mono ?_; (with_reducible exact (Below.refl _ w3).drew); rintro y w5 ⟨rfl, hb5⟩; refine cutQ (P := Below w3.heap.size w3 w5) ?_ (fun hz5 => ?_); (with_reducible exact bt (Below.refl _ w3).drew hb5)))
            have hbl5 : Below (w.heap.size + 1) (w.alloc (.cells #[.int .i64 u, .int .i64 d] 23)) w5 := hbl3.trans (hz5.mono (by omega))
            clear f1 f2
            go_wp2
            go_roundw
            case rel => exact ⟨i + 1, z2, by go_num, rfl, by omega, HZ2, hbd.1, hbd.2, hbl5⟩
            case measure => simp [intOf]; omega
          · have e' : ((i : Int) == (T : Int)) = false := by simp; omega
            have e2 : ¬ (i : Int) = (T : Int) := by omega
            obtain ⟨P, hP⟩ : ∃ P, d * wW = P := ⟨_, rfl⟩
            have hPt : trm u d k T (natsT ts) h i = P := by
              unfold trm
              rw [hgd, if_pos (by omega), HWW.out, ← hP]
              unfold sayW
              rw [if_neg e]
            obtain ⟨z2, hz2⟩ : ∃ z2, z + P = z2 := ⟨_, rfl⟩
            have HZ2 : Hid (psm u d k T (natsT ts) h (i + 1) = z2) := by rw [Hid, psm_succ, HZ.out, hPt, hz2]
            have hbd := HBD.out (i + 1) (by omega)
            rw [HZ2.out] at hbd
            have hP0 : 0 ≤ P := by rw [← hP]; exact Int.mul_nonneg (by omega) (by omega)
            have f1 : IntKind.i64.wrap (d * wW) = P := by rw [hP, IntKind.wrap_i64]; omega
            have f2 : IntKind.i64.wrap (z + P) = z2 := by rw [hz2, IntKind.wrap_i64]; omega
            clear hP hPt hz2 hgd
            go_wp2_with fail
            rw [HW3.out]
            go_region_held3 (fun w' => w'.cell? ⟨w.heap.size, 0, none⟩ = some (.int .i64 u) ∧ w'.cell? ⟨w.heap.size, 1, none⟩ = some (.int .i64 d))
              (first | with_reducible assumption | (refine HC3.out _ ?_; first | with_reducible exact (Below.refl _ w3).drew | with_reducible exact hz5 | with_reducible exact Below.refl _ w3))
              (first
                | (go_at_call 22; refine (KC.out _ ?_).mono ?_; (with_reducible exact (Below.refl _ w3).drew); rintro y w5 ⟨rfl, hb5⟩; refine cutQ (P := Below w3.heap.size w3 w5) ?_ (fun hz5 => ?_); (with_reducible exact bt (Below.refl _ w3).drew hb5)))
            have hbl5 : Below (w.heap.size + 1) (w.alloc (.cells #[.int .i64 u, .int .i64 d] 23)) w5 := hbl3.trans (hz5.mono (by omega))
            clear f1 f2
            go_wp2
            go_roundw
            case rel => exact ⟨i + 1, z2, by go_num, rfl, by omega, HZ2, hbd.1, hbd.2, hbl5⟩
            case measure => simp [intOf]; omega
      · have hi : i = k + 1 := by have := HLN.out; omega
        have hfin : z = wgh u d k (natsT ((T : Int) :: ts)) h := by
          rw [← HZ.out, hi, psm_all]
          simp [natsT]
        have HFin : Hid (z = wgh u d k (natsT ((T : Int) :: ts)) h) := hfin
        clear hfin hi
        go_wp2
        go_ret
        refine ⟨?_, GB⟩
        rw [← HFin.out]
        rfl
end Go.Proofs.Ytfcbkcoagoncoaa
