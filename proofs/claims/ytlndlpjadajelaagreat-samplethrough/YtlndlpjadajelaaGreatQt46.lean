import Derived.Test.YtlndlpjadajelaaGreatQt44
import Derived.Deep.AppendLies
import Derived.Deep.RegionHeld3
import Derived.Deep.RegionLaw
import Derived.Test.YtlndlpjadajelaaGreatQt43
import Derived.Test.YtlndlpjadajelaaGreatQt45
import Derived.Test.YtlndlpjadajelaaGreatQt40
namespace Go.Proofs.YtlndlpjadajelaaGreat.K
open Go.RowKit Go.Proofs.YtlndlpjadajelaaGreat.K.Ds

set_option maxHeartbeats 4000000 in
set_option maxRecDepth 100000 in
theorem ran8_any (c : ByteArray) (lo hi : Int) (cv rv wv : Value) (b o cap : Nat) (w : World) (B : Nat) (l : List Col) (ts : List Rw) (wh : List Tst) (hB : B ≤ w.heap.size) (hp : Cols w B cv l) (hr : Rws w B rv ts) (hw : Tss w B wv wh) (hbB : b < B) (x : Qu) (u0 u1 u2 u3 u4 u5 : Value) (hu : At6 w b o u0 u1 u2 u3 u4 u5) (hqx : Qm w B x u0 u1 u2 u3 u4 u5) (xs : List Int) (kx : ∀ W, Below w.heap.size w W → Calls Tryz.prog 77 #[.agg #[cv, rv], .agg #[u0, u1, u2, u3, u4, u5]] W (AnsR W xs)) (hbx : Bdd 1099511627776 xs) (hxl : xs.length ≤ 4096) :
    Calls Tryz.prog 77 #[.agg #[cv, rv], .agg #[.int .i64 8, .string c, .int .i64 lo, .int .i64 hi, wv, .slice (some ⟨b, o, none⟩) 1 cap]] w (AnsR w ([smL xs])) := by
  have ab := Rb.new w cv rv 8 c lo hi wv (.slice (some ⟨b, o, none⟩) 1 cap)
  have hb0 := b2a w (.cells #[cv, rv] 27) (.cells #[.int .i64 8, .string c, .int .i64 lo, .int .i64 hi, wv, .slice (some ⟨b, o, none⟩) 1 cap] 31)
  obtain ⟨W0, hW0⟩ : ∃ W0, ((w.alloc (.cells #[cv, rv] 27)).alloc (.cells #[.int .i64 8, .string c, .int .i64 lo, .int .i64 hi, wv, .slice (some ⟨b, o, none⟩) 1 cap] 31)) = W0 := ⟨_, rfl⟩
  rw [hW0] at ab hb0
  have HW0 : Hid (((w.alloc (.cells #[cv, rv] 27)).alloc (.cells #[.int .i64 8, .string c, .int .i64 lo, .int .i64 hi, wv, .slice (some ⟨b, o, none⟩) 1 cap] 31)) = W0) := hW0
  have HAB : Hid (Rb W0 w.heap.size cv rv 8 c lo hi wv (.slice (some ⟨b, o, none⟩) 1 cap)) := ab
  have k1 := rkids_any 8 W0 1 rfl
  have k2 := kx W0.drew hb0.drew
  have lb : b < W0.heap.size := Nat.lt_of_lt_of_le hbB (Nat.le_trans hB hb0.size)
  obtain ⟨xc3, xc4, xc5, xc6, xc7, xc8⟩ := hu.keep hb0 (Nat.lt_of_lt_of_le hbB hB)
  obtain ⟨ca, ccp, rfl, _⟩ := hp.slice
  obtain ⟨ra, rc, rfl, _⟩ := hr.slice
  obtain ⟨wa, wc, rfl, _⟩ := hw.slice
  obtain ⟨ukk, ukc, ukl, ukh, uka, ukn, ukd, ukb, ukm, ukp, rfl, rfl, rfl, rfl, rfl, rfl⟩ := hqx.shape
  have xc0 := ab.t0.c
  have xc1 := ab.t1.c
  have xc2 := ab.a5.c
  have m0 := ab.a0.c
  have lN := ab.t0.lt
  have lN1 := ab.a5.lt
  have hnk1 : (0 : Int) ≤ 0 := by decide
  have hnk2 : (0 : Int) < (1 : Int) := by decide
  have HBB : Hid (b < B ∧ B ≤ w.heap.size) := ⟨hbB, hB⟩
  clear hp hr hw hu hqx kx ab
  obtain ⟨R, hR⟩ : ∃ R, smL xs = R := ⟨_, rfl⟩
  rw [hR]
  have HRR : Hid (smL xs = R) := hR
  clear hR
  go_enter Tryz.func77, Tryz.ntmps77
  go_wp2_with fail
  refine k1.mono ?_
  rintro e w0 ⟨rfl, hw0⟩
  subst hw0
  clear k1 hW0
  go_wp2
  go_region_held3 (fun w' => w'.cell? ⟨w.heap.size, 0, none⟩ = some (.slice ca l.length ccp) ∧ w'.cell? ⟨w.heap.size, 1, none⟩ = some (.slice ra ts.length rc) ∧ w'.cell? ⟨w.heap.size + 1, 5, none⟩ = some (.slice (some ⟨b, o, none⟩) 1 cap) ∧ w'.cell? ⟨b, o, none⟩ = some (.int .i64 ukk) ∧ w'.cell? ⟨b, o + 1, none⟩ = some (.string ukc) ∧ w'.cell? ⟨b, o + 2, none⟩ = some (.int .i64 ukl) ∧ w'.cell? ⟨b, o + 3, none⟩ = some (.int .i64 ukh) ∧ w'.cell? ⟨b, o + 4, none⟩ = some (.slice uka ukn ukd) ∧ w'.cell? ⟨b, o + 5, none⟩ = some (.slice ukb ukm ukp)) (first | assumption | (simp [go_sem, *]; done)) ((go_at_call 77; refine k2.mono ?_; rintro x3 w1 hA; obtain ⟨x1a, x1c, rfl, x1I, x1b⟩ := hA; have w1z0 := (x1b.cell (p := ⟨w.heap.size, 0, none⟩) lN).trans xc0; have w1z1 := (x1b.cell (p := ⟨w.heap.size, 1, none⟩) lN).trans xc1; have w1z2 := (x1b.cell (p := ⟨w.heap.size + 1, 5, none⟩) lN1).trans xc2; have w1z3 := (x1b.cell (p := ⟨b, o, none⟩) lb).trans xc3; have w1z4 := (x1b.cell (p := ⟨b, o + 1, none⟩) lb).trans xc4; have w1z5 := (x1b.cell (p := ⟨b, o + 2, none⟩) lb).trans xc5; have w1z6 := (x1b.cell (p := ⟨b, o + 3, none⟩) lb).trans xc6; have w1z7 := (x1b.cell (p := ⟨b, o + 4, none⟩) lb).trans xc7; have w1z8 := (x1b.cell (p := ⟨b, o + 5, none⟩) lb).trans xc8))
  have hbw1 : Below w.heap.size w w1 := bt hb0.drew x1b
  have HB1 : Hid (Rb w1 w.heap.size (.slice ca l.length ccp) (.slice ra ts.length rc) 8 c lo hi (.slice wa wh.length wc) (.slice (some ⟨b, o, none⟩) 1 cap)) := (HAB.out.at (Below.refl _ _).drew).at x1b
  have HX1 : Hid (Ints w1 w1.heap.size w1.heap.size (.slice x1a xs.length x1c) xs) := x1I
  have m1 := HB1.out.a0.c
  clear k2 m0 xc0 xc1 xc2 xc3 xc4 xc5 xc6 xc7 xc8 w1z0 w1z1 w1z2 w1z3 w1z4 w1z5 w1z6 w1z7 w1z8 x1I
  have l0 : 0 < w1.heap.size := Nat.lt_of_le_of_lt (Nat.zero_le _) HB1.out.t0.lt
  go_wp2
  go_loopw [15, 196] (fun nv s' wr => ∃ (i : Nat) (n : Int), nv = .int .i64 n ∧ s' = .int .i64 (i : Int) ∧ i ≤ xs.length ∧ Hid (n + smL (xs.drop i) = R) ∧ Hid (-(i * 1099511627776) ≤ n ∧ n ≤ i * 1099511627776) ∧ Below w1.heap.size w1 wr) (fun _ s' _ => xs.length - (intOf s').toNat)
  case atStart => exact ⟨0, 0, rfl, rfl, Nat.zero_le _, by show _ = _; rw [List.drop_zero, Int.zero_add]; exact HRR.out, by show _ ∧ _; omega, Below.refl _ _⟩
  case round =>
    obtain ⟨i, n, rfl, rfl, hi, HN, HNB, hbl⟩ := hrel
    have hsl := hbl.size
    by_cases h1 : i < xs.length
    · obtain ⟨b1, o1, p, rfl, _, hb1, _, hg1, _, hc1⟩ := (HX1.out.keep hbl).got h1
      have bp := hbx.get hg1
      obtain ⟨n1, n2⟩ := HNB.out
      have HN2 : Hid (n + p + smL (xs.drop (i + 1)) = R) := by
        have := HN.out
        rw [List.drop_eq_getElem_cons (List.getElem?_eq_some_iff.1 hg1).1, (List.getElem?_eq_some_iff.1 hg1).2] at this
        simp only [smL] at this
        show _ = _; omega
      have HNB2 : Hid (-((i + 1 : Nat) * 1099511627776) ≤ n + p ∧ n + p ≤ (i + 1 : Nat) * 1099511627776) := by show _ ∧ _; omega
      have hw1 : IntKind.i64.wrap (n + p) = n + p := by rw [IntKind.wrap_i64]; have := wrap_id (a := n + p) (by omega); unfold wrap64 at this; omega
      have hj1 : (0 : Int) ≤ (i : Int) := by omega
      have hj2 : (i : Int) < (xs.length : Int) := by omega
      clear hg1 n1 n2
      go_wp2
      go_roundw
      case rel => exact ⟨i + 1, n + p, rfl, by go_num, h1, HN2, HNB2, hbl⟩
      case measure => simp [intOf]; omega
    · obtain rfl : n = R := by have := HN.out; rw [List.drop_of_length_le (by omega)] at this; simpa [smL] using this
      have HF : Hid (Arw (wr.alloc (.cells #[.int .i64 n] 3)) 0 wr.heap.size 1 [n]) := Arw.lit _ _ _ (Nat.zero_le _)
      go_wp2
      go_ret
      exact ⟨some ⟨wr.heap.size, 0, none⟩, 1, rfl, HF.out.ints _ (Nat.ne_of_lt HF.out.lt.2), bt hbw1 (bal hbl _)⟩

set_option maxHeartbeats 4000000 in
set_option maxRecDepth 100000 in
theorem ran9_any (c : ByteArray) (lo hi : Int) (cv rv wv : Value) (b o cap : Nat) (w : World) (B : Nat) (l : List Col) (ts : List Rw) (wh : List Tst) (hB : B ≤ w.heap.size) (hp : Cols w B cv l) (hr : Rws w B rv ts) (hw : Tss w B wv wh) (hbB : b < B) (x : Qu) (u0 u1 u2 u3 u4 u5 : Value) (hu : At6 w b o u0 u1 u2 u3 u4 u5) (hqx : Qm w B x u0 u1 u2 u3 u4 u5) (xs : List Int) (kx : ∀ W, Below w.heap.size w W → Calls Tryz.prog 77 #[.agg #[cv, rv], .agg #[u0, u1, u2, u3, u4, u5]] W (AnsR W xs)) (j : Nat) (z : Int) (hlj : lo = (j : Int)) (hj : xs[j]? = some z) :
    Calls Tryz.prog 77 #[.agg #[cv, rv], .agg #[.int .i64 9, .string c, .int .i64 lo, .int .i64 hi, wv, .slice (some ⟨b, o, none⟩) 1 cap]] w (AnsR w ([z])) := by
  have ab := Rb.new w cv rv 9 c lo hi wv (.slice (some ⟨b, o, none⟩) 1 cap)
  have hb0 := b2a w (.cells #[cv, rv] 27) (.cells #[.int .i64 9, .string c, .int .i64 lo, .int .i64 hi, wv, .slice (some ⟨b, o, none⟩) 1 cap] 31)
  obtain ⟨W0, hW0⟩ : ∃ W0, ((w.alloc (.cells #[cv, rv] 27)).alloc (.cells #[.int .i64 9, .string c, .int .i64 lo, .int .i64 hi, wv, .slice (some ⟨b, o, none⟩) 1 cap] 31)) = W0 := ⟨_, rfl⟩
  rw [hW0] at ab hb0
  have HW0 : Hid (((w.alloc (.cells #[cv, rv] 27)).alloc (.cells #[.int .i64 9, .string c, .int .i64 lo, .int .i64 hi, wv, .slice (some ⟨b, o, none⟩) 1 cap] 31)) = W0) := hW0
  have HAB : Hid (Rb W0 w.heap.size cv rv 9 c lo hi wv (.slice (some ⟨b, o, none⟩) 1 cap)) := ab
  have k1 := rkids_any 9 W0 1 rfl
  have k2 := kx W0.drew hb0.drew
  have lb : b < W0.heap.size := Nat.lt_of_lt_of_le hbB (Nat.le_trans hB hb0.size)
  obtain ⟨xc3, xc4, xc5, xc6, xc7, xc8⟩ := hu.keep hb0 (Nat.lt_of_lt_of_le hbB hB)
  obtain ⟨ca, ccp, rfl, _⟩ := hp.slice
  obtain ⟨ra, rc, rfl, _⟩ := hr.slice
  obtain ⟨wa, wc, rfl, _⟩ := hw.slice
  obtain ⟨ukk, ukc, ukl, ukh, uka, ukn, ukd, ukb, ukm, ukp, rfl, rfl, rfl, rfl, rfl, rfl⟩ := hqx.shape
  have xc0 := ab.t0.c
  have xc1 := ab.t1.c
  have xc2 := ab.a5.c
  have m0 := ab.a0.c
  have lN := ab.t0.lt
  have lN1 := ab.a5.lt
  have hnk1 : (0 : Int) ≤ 0 := by decide
  have hnk2 : (0 : Int) < (1 : Int) := by decide
  have HBB : Hid (b < B ∧ B ≤ w.heap.size) := ⟨hbB, hB⟩
  clear hp hr hw hu hqx kx ab
  have HJ : Hid (xs[j]? = some z) := hj
  have hjl : j < xs.length := (List.getElem?_eq_some_iff.1 hj).1
  have hj1 : (0 : Int) ≤ (j : Int) := by omega
  have hj2 : (j : Int) < (xs.length : Int) := by omega
  subst hlj
  clear hj
  go_enter Tryz.func77, Tryz.ntmps77
  go_wp2_with fail
  refine k1.mono ?_
  rintro e w0 ⟨rfl, hw0⟩
  subst hw0
  clear k1 hW0
  go_wp2
  go_region_held3 (fun w' => w'.cell? ⟨w.heap.size, 0, none⟩ = some (.slice ca l.length ccp) ∧ w'.cell? ⟨w.heap.size, 1, none⟩ = some (.slice ra ts.length rc) ∧ w'.cell? ⟨w.heap.size + 1, 5, none⟩ = some (.slice (some ⟨b, o, none⟩) 1 cap) ∧ w'.cell? ⟨b, o, none⟩ = some (.int .i64 ukk) ∧ w'.cell? ⟨b, o + 1, none⟩ = some (.string ukc) ∧ w'.cell? ⟨b, o + 2, none⟩ = some (.int .i64 ukl) ∧ w'.cell? ⟨b, o + 3, none⟩ = some (.int .i64 ukh) ∧ w'.cell? ⟨b, o + 4, none⟩ = some (.slice uka ukn ukd) ∧ w'.cell? ⟨b, o + 5, none⟩ = some (.slice ukb ukm ukp)) (first | assumption | (simp [go_sem, *]; done)) ((go_at_call 77; refine k2.mono ?_; rintro x3 w1 hA; obtain ⟨x1a, x1c, rfl, x1I, x1b⟩ := hA; have w1z0 := (x1b.cell (p := ⟨w.heap.size, 0, none⟩) lN).trans xc0; have w1z1 := (x1b.cell (p := ⟨w.heap.size, 1, none⟩) lN).trans xc1; have w1z2 := (x1b.cell (p := ⟨w.heap.size + 1, 5, none⟩) lN1).trans xc2; have w1z3 := (x1b.cell (p := ⟨b, o, none⟩) lb).trans xc3; have w1z4 := (x1b.cell (p := ⟨b, o + 1, none⟩) lb).trans xc4; have w1z5 := (x1b.cell (p := ⟨b, o + 2, none⟩) lb).trans xc5; have w1z6 := (x1b.cell (p := ⟨b, o + 3, none⟩) lb).trans xc6; have w1z7 := (x1b.cell (p := ⟨b, o + 4, none⟩) lb).trans xc7; have w1z8 := (x1b.cell (p := ⟨b, o + 5, none⟩) lb).trans xc8))
  have hbw1 : Below w.heap.size w w1 := bt hb0.drew x1b
  have HB1 : Hid (Rb w1 w.heap.size (.slice ca l.length ccp) (.slice ra ts.length rc) 9 c (j : Int) hi (.slice wa wh.length wc) (.slice (some ⟨b, o, none⟩) 1 cap)) := (HAB.out.at (Below.refl _ _).drew).at x1b
  have HX1 : Hid (Ints w1 w1.heap.size w1.heap.size (.slice x1a xs.length x1c) xs) := x1I
  have m1 := HB1.out.a0.c
  clear k2 m0 xc0 xc1 xc2 xc3 xc4 xc5 xc6 xc7 xc8 w1z0 w1z1 w1z2 w1z3 w1z4 w1z5 w1z6 w1z7 w1z8 x1I
  have m2 := HB1.out.a2.c
  obtain ⟨b1, o1, p, rfl, _, hb1, _, hg1, _, hc1⟩ := HX1.out.got hjl
  obtain rfl : p = z := by have := HJ.out; rw [hg1] at this; exact Option.some.inj this
  clear hg1
  go_wp2
  go_ret
  exact ⟨some ⟨w1.heap.size, 0, none⟩, 1, rfl, (Arw.lit _ 0 _ (Nat.zero_le _)).ints _ (by simp), bt hbw1 (ba _ _)⟩

end Go.Proofs.YtlndlpjadajelaaGreat.K

namespace Go.Proofs.YtlndlpjadajelaaGreat.K
open Go.RowKit Go.Proofs.YtlndlpjadajelaaGreat.K.Ds

/-- no answer is empty -/
theorem qm_one {l : List Col} (hs : Szs l) {w : World} {B : Nat} (q : Qu) : ∀ (lv : Nat) (b : Bnd) (v0 v1 v2 v3 v4 v5 : Value), Qm w B q v0 v1 v2 v3 v4 v5 → bnd l lv q = .ok b → 1 ≤ b.1 := by
  induction q with
  | none => intro lv b v0 v1 v2 v3 v4 v5 h; exact h.elim
  | node k c lo hi wh n x y ihx ihy =>
    rintro lv b _ _ _ _ v4 _ ⟨rfl, rfl, rfl, rfl, hc, hw, a, cap, rfl, hn, hm, hk⟩ hb
    obtain ⟨hkn, ⟨x1, x2, x3⟩, ⟨y1, y2, y3⟩, hbx, hby, hrec, hlim⟩ := lim_inv hb
    have gx : 1 ≤ n → bnd l (lv + 1) x = .ok (x1, x2, x3) := fun h => by rwa [ifK, if_pos h] at hbx
    have hkc : ¬ kidN k < 0 := by omega
    have fx : 1 ≤ n → n ≤ 2 → 1 ≤ x1 := fun h1 h2 => by
      obtain ⟨b', o, _, _, ⟨u0, u1, u2, u3, u4, u5, _, hqx⟩, _⟩ := hk h1 h2
      exact ihx _ _ _ _ _ _ _ _ hqx (gx h1)
    rcases kidN_cases hkc with rfl | rfl | rfl | rfl | rfl | rfl | rfl | rfl | rfl | rfl
    · simp [rec] at hrec
      obtain ⟨_, rfl⟩ := ifW_ok hrec
      exact Int.le_refl _
    · simp [rec] at hrec
      split at hrec
      · split at hrec
        · obtain ⟨_, rfl⟩ := ifW_ok hrec; exact Int.le_refl _
        · cases hrec
      · cases hrec
    · simp [rec] at hrec
      split at hrec
      · rename_i i hf
        obtain ⟨_, rfl⟩ := ifW_ok hrec
        exact (szC_bd hs hf).1
      · cases hrec
    · have := fx (by simp [kidN] at hkn; omega) (by simp [kidN] at hkn; omega)
      simp [rec] at hrec
      split at hrec
      · cases hrec; exact this
      · cases hrec
    · have := fx (by simp [kidN] at hkn; omega) (by simp [kidN] at hkn; omega)
      simp [rec] at hrec
      split at hrec
      · cases hrec; exact this
      · cases hrec
    · have := fx (by simp [kidN] at hkn; omega) (by simp [kidN] at hkn; omega)
      simp [rec] at hrec
      split at hrec
      · cases hrec; exact this
      · cases hrec
    · have h1 := fx (by simp [kidN] at hkn; omega) (by simp [kidN] at hkn; omega)
      have h2 : 0 ≤ y1 := by
        have : bnd l (lv + 1) y = .ok (y1, y2, y3) := by rwa [ifK, if_pos (by simp [kidN] at hkn; omega)] at hby
        exact (bnd_bd hs y _ _ this).1
      simp [rec] at hrec
      subst hrec
      show 1 ≤ x1 + y1
      omega
    · simp [rec] at hrec
      subst hrec
      exact Int.le_refl _
    · simp [rec] at hrec
      split at hrec
      · cases hrec; exact Int.le_refl _
      · cases hrec
    · have := fx (by simp [kidN] at hkn; omega) (by simp [kidN] at hkn; omega)
      simp [rec] at hrec
      split at hrec
      · cases hrec; exact this
      · cases hrec

theorem ranswer_any {l : List Col} (hs : Szs l) {ts : List Rw} (hlen : ts.length ≤ 4096) (hok : ∀ r ∈ rr ts, RowOk l r) (q : Qu) : ∀ (lv : Nat) (w : World) (B : Nat) (cv rv v0 v1 v2 v3 v4 v5 : Value) (b : Bnd), B ≤ w.heap.size → Cols w B cv l → Rws w B rv ts → Qm w B q v0 v1 v2 v3 v4 v5 → bnd l lv q = .ok b →
    Calls Tryz.prog 77 #[.agg #[cv, rv], .agg #[v0, v1, v2, v3, v4, v5]] w (AnsR w (ans l (rr ts) q)) := by
  have hrl : (rr ts).length ≤ 4096 := by rw [rr_len]; exact hlen
  induction q with
  | none => intro lv w B cv rv v0 v1 v2 v3 v4 v5 b _ _ _ h; exact h.elim
  | node k c lo hi wh n x y ihx ihy =>
    rintro lv w B cv rv _ _ _ _ v4 _ b hB hp hr ⟨rfl, rfl, rfl, rfl, hc, hw, a, cap, rfl, hn, hm, hk⟩ hb
    obtain ⟨hkn, ⟨x1, x2, x3⟩, ⟨y1, y2, y3⟩, hbx, hby, hrec, hlim⟩ := lim_inv hb
    have gx : 1 ≤ n → bnd l (lv + 1) x = .ok (x1, x2, x3) := fun h => by rwa [ifK, if_pos h] at hbx
    have gy : 2 ≤ n → bnd l (lv + 1) y = .ok (y1, y2, y3) := fun h => by rwa [ifK, if_pos h] at hby
    have fx : 1 ≤ n → x ≠ .none → ((ans l (rr ts) x).length : Int) = x1 ∧ Bdd 1099511627776 (ans l (rr ts) x) ∧ BOk (x1, x2, x3) := fun h hx => by
      have h1 := ans_ok hs hrl x _ _ (gx h) hx
      have h2 := bnd_bd hs x _ _ (gx h)
      exact ⟨h1.1, h1.2.mono h2.2.2.2.2.2, h2⟩
    have fy : 2 ≤ n → y ≠ .none → ((ans l (rr ts) y).length : Int) = y1 ∧ Bdd 1099511627776 (ans l (rr ts) y) ∧ BOk (y1, y2, y3) := fun h hy => by
      have h1 := ans_ok hs hrl y _ _ (gy h) hy
      have h2 := bnd_bd hs y _ _ (gy h)
      exact ⟨h1.1, h1.2.mono h2.2.2.2.2.2, h2⟩
    have hkv : ∃ a' n' cc, Value.slice a n cap = .slice a' n' cc := ⟨_, _, _, rfl⟩
    have hkc : ¬ kidN k < 0 := by omega
    rcases kidN_cases hkc with rfl | rfl | rfl | rfl | rfl | rfl | rfl | rfl | rfl | rfl
    · simp [rec] at hrec
      obtain ⟨hwe, _⟩ := ifW_ok hrec
      rw [ans_leaf _ _ _ _ _ _ _ _ _ (by simp), stp1]
      exact ran1_any c lo hi cv rv v4 _ w B l ts wh hB hp hr hw hlen hok hkv hwe
    · simp [rec] at hrec
      split at hrec
      · rename_i hf
        split at hrec
        · rename_i hwr
          obtain ⟨hwe, _⟩ := ifW_ok hrec
          obtain ⟨at', hat⟩ := Option.isSome_iff_exists.1 hf
          rw [ans_leaf _ _ _ _ _ _ _ _ _ (by simp), hat]
          exact ran2_any c lo hi cv rv v4 _ w B l ts wh hB hp hr hw hlen hok hkv hwe at' hat hwr
        · cases hrec
      · cases hrec
    · simp [rec] at hrec
      split at hrec
      · rename_i at' hat
        obtain ⟨hwe, _⟩ := ifW_ok hrec
        have hsz := szC_bd hs hat
        rw [ans_leaf _ _ _ _ _ _ _ _ _ (by simp), hat, stp3]
        exact ran3_any c lo hi cv rv v4 _ w B l ts wh hB hp hr hw hlen hok hkv hwe at' hat (szC l at').toNat (by omega) (by omega)
      · cases hrec
    · have hn2 : n = 2 := by simp [kidN] at hkn; omega
      subst hn2
      obtain ⟨b', o, rfl, hbB, ⟨u0, u1, u2, u3, u4, u5, hu, hqx⟩, hyy⟩ := hk (by decide) (by decide)
      obtain ⟨z0, z1, z2, z3, z4, z5, hz, hqy⟩ := hyy (by decide)
      obtain ⟨lx, bx, ox⟩ := fx (by decide) hqx.ne
      obtain ⟨ly, by', _⟩ := fy (by decide) hqy.ne
      have h1 := ox.2.1
      simp only at h1
      simp [rec] at hrec
      split at hrec
      · rename_i he
        rw [ans_4]
        exact ran4_any c lo hi cv rv v4 b' o cap w B l ts wh hB hp hr hw hbB x u0 u1 u2 u3 u4 u5 hu hqx _ (fun W hW => ihx (lv + 1) W B cv rv _ _ _ _ _ _ _ (Nat.le_trans hB hW.size) (hp.at hB hW) (hr.at hB hW) (hqx.at hB hW) (gx (by decide))) y z0 z1 z2 z3 z4 z5 hz hqy _ (fun W hW => ihy (lv + 1) W B cv rv _ _ _ _ _ _ _ (Nat.le_trans hB hW.size) (hp.at hB hW) (hr.at hB hW) (hqy.at hB hW) (gy (by decide))) bx by' (by omega) (by omega)
      · cases hrec
    · have hn2 : n = 2 := by simp [kidN] at hkn; omega
      subst hn2
      obtain ⟨b', o, rfl, hbB, ⟨u0, u1, u2, u3, u4, u5, hu, hqx⟩, hyy⟩ := hk (by decide) (by decide)
      obtain ⟨z0, z1, z2, z3, z4, z5, hz, hqy⟩ := hyy (by decide)
      obtain ⟨lx, bx, ox⟩ := fx (by decide) hqx.ne
      obtain ⟨ly, by', _⟩ := fy (by decide) hqy.ne
      have h1 := ox.2.1
      simp only at h1
      simp [rec] at hrec
      split at hrec
      · rename_i he
        rw [ans_5]
        exact ran5_any c lo hi cv rv v4 b' o cap w B l ts wh hB hp hr hw hbB x u0 u1 u2 u3 u4 u5 hu hqx _ (fun W hW => ihx (lv + 1) W B cv rv _ _ _ _ _ _ _ (Nat.le_trans hB hW.size) (hp.at hB hW) (hr.at hB hW) (hqx.at hB hW) (gx (by decide))) y z0 z1 z2 z3 z4 z5 hz hqy _ (fun W hW => ihy (lv + 1) W B cv rv _ _ _ _ _ _ _ (Nat.le_trans hB hW.size) (hp.at hB hW) (hr.at hB hW) (hqy.at hB hW) (gy (by decide))) bx by' (by omega) (by omega)
      · cases hrec
    · have hn2 : n = 1 := by simp [kidN] at hkn; omega
      subst hn2
      obtain ⟨b', o, rfl, hbB, ⟨u0, u1, u2, u3, u4, u5, hu, hqx⟩, _⟩ := hk (by decide) (by decide)
      obtain ⟨lx, bx, ox⟩ := fx (by decide) hqx.ne
      have h1 := ox.2.1
      simp only at h1
      simp [rec] at hrec
      split at hrec
      · rename_i hwr
        simp only [wrtB, decide_eq_true_eq] at hwr
        rw [ans_6]
        exact ran6_any c lo hi cv rv v4 b' o cap w B l ts wh hB hp hr hw hbB x u0 u1 u2 u3 u4 u5 hu hqx _ (fun W hW => ihx (lv + 1) W B cv rv _ _ _ _ _ _ _ (Nat.le_trans hB hW.size) (hp.at hB hW) (hr.at hB hW) (hqx.at hB hW) (gx (by decide))) bx ⟨hwr.1, hwr.2.2⟩ (by omega)
      · cases hrec
    · have hn2 : n = 2 := by simp [kidN] at hkn; omega
      subst hn2
      obtain ⟨b', o, rfl, hbB, ⟨u0, u1, u2, u3, u4, u5, hu, hqx⟩, hyy⟩ := hk (by decide) (by decide)
      obtain ⟨z0, z1, z2, z3, z4, z5, hz, hqy⟩ := hyy (by decide)
      obtain ⟨lx, bx, ox⟩ := fx (by decide) hqx.ne
      obtain ⟨ly, by', oy⟩ := fy (by decide) hqy.ne
      have h1 := ox.2.1
      have h2 := oy.2.1
      have h3 := qm_one hs x _ _ _ _ _ _ _ _ hqx (gx (by decide))
      have h4 := qm_one hs y _ _ _ _ _ _ _ _ hqy (gy (by decide))
      simp only at h1 h2 h3 h4
      rw [ans_7]
      exact ran7_any c lo hi cv rv v4 b' o cap w B l ts wh hB hp hr hw hbB x u0 u1 u2 u3 u4 u5 hu hqx _ (fun W hW => ihx (lv + 1) W B cv rv _ _ _ _ _ _ _ (Nat.le_trans hB hW.size) (hp.at hB hW) (hr.at hB hW) (hqx.at hB hW) (gx (by decide))) y z0 z1 z2 z3 z4 z5 hz hqy _ (fun W hW => ihy (lv + 1) W B cv rv _ _ _ _ _ _ _ (Nat.le_trans hB hW.size) (hp.at hB hW) (hr.at hB hW) (hqy.at hB hW) (gy (by decide))) (by omega) (by omega) (by omega)
    · have hn2 : n = 1 := by simp [kidN] at hkn; omega
      subst hn2
      obtain ⟨b', o, rfl, hbB, ⟨u0, u1, u2, u3, u4, u5, hu, hqx⟩, _⟩ := hk (by decide) (by decide)
      obtain ⟨lx, bx, ox⟩ := fx (by decide) hqx.ne
      have h1 := ox.2.1
      simp only at h1
      rw [ans_8]
      exact ran8_any c lo hi cv rv v4 b' o cap w B l ts wh hB hp hr hw hbB x u0 u1 u2 u3 u4 u5 hu hqx _ (fun W hW => ihx (lv + 1) W B cv rv _ _ _ _ _ _ _ (Nat.le_trans hB hW.size) (hp.at hB hW) (hr.at hB hW) (hqx.at hB hW) (gx (by decide))) bx (by omega)
    · have hn2 : n = 1 := by simp [kidN] at hkn; omega
      subst hn2
      obtain ⟨b', o, rfl, hbB, ⟨u0, u1, u2, u3, u4, u5, hu, hqx⟩, _⟩ := hk (by decide) (by decide)
      obtain ⟨lx, bx, _⟩ := fx (by decide) hqx.ne
      simp [rec] at hrec
      split at hrec
      · rename_i hlo
        obtain ⟨z, hz⟩ := get_lt (l := ans l (rr ts) x) (i := lo.toNat) (by omega)
        rw [ans_9, List.getD, hz]
        exact ran9_any c lo hi cv rv v4 b' o cap w B l ts wh hB hp hr hw hbB x u0 u1 u2 u3 u4 u5 hu hqx _ (fun W hW => ihx (lv + 1) W B cv rv _ _ _ _ _ _ _ (Nat.le_trans hB hW.size) (hp.at hB hW) (hr.at hB hW) (hqx.at hB hW) (gx (by decide))) lo.toNat z (by omega) hz
      · cases hrec
    · have hn2 : n = 1 := by simp [kidN] at hkn; omega
      subst hn2
      obtain ⟨b', o, rfl, hbB, ⟨u0, u1, u2, u3, u4, u5, hu, hqx⟩, _⟩ := hk (by decide) (by decide)
      obtain ⟨lx, bx, ox⟩ := fx (by decide) hqx.ne
      have h1 := ox.2.1
      simp only at h1
      rw [ans_10]
      exact ran10_any c lo hi cv rv v4 b' o cap w B l ts wh hB hp hr hw hbB x u0 u1 u2 u3 u4 u5 hu hqx _ (fun W hW => ihx (lv + 1) W B cv rv _ _ _ _ _ _ _ (Nat.le_trans hB hW.size) (hp.at hB hW) (hr.at hB hW) (hqx.at hB hW) (gx (by decide))) (by omega)
end Go.Proofs.YtlndlpjadajelaaGreat.K

namespace Go.Proofs.YtlndlpjadajelaaGreat.K
open Go.RowKit Go.Proofs.YtlndlpjadajelaaGreat.K.Ds

theorem typ_ok {l : List Col} {q : Qu} {b : Bnd} (h : typ l q = .ok b) : colE l = 0 ∧ bnd l 1 q = .ok b := by
  unfold typ at h
  split at h
  · exact ⟨by assumption, h⟩
  · cases h

set_option maxHeartbeats 2000000 in
set_option maxRecDepth 100000 in
theorem rrun_any (l : List Col) (ts : List Rw) (q : Qu) (w : World) (B : Nat) (cv rv v0 v1 v2 v3 v4 v5 : Value) (xs : List Int) (er : Int) (hB : B ≤ w.heap.size) (hp : Cols w B cv l) (hrw : Rws w B rv ts) (hq : Qm w B q v0 v1 v2 v3 v4 v5) (hr : runV (runT l (rr ts) q) = (xs, er)) :
    Calls Tryz.prog 30 #[.agg #[cv, rv], .agg #[v0, v1, v2, v3, v4, v5]] w (RunP w xs er) := by
  have HP : Hid (Cols w B cv l) := hp
  have HRW : Hid (Rws w B rv ts) := hrw
  have HQ : Hid (Qm w B q v0 v1 v2 v3 v4 v5) := hq
  have HR : Hid (runV (runT l (rr ts) q) = (xs, er)) := hr
  obtain ⟨la, lc, rfl, _⟩ := hp.slice
  obtain ⟨ra, rc, rfl, _⟩ := hrw.slice
  obtain ⟨kk, kc, kl, kh, ka, kn', kd, kb, km, kp, rfl, rfl, rfl, rfl, rfl, rfl⟩ := hq.shape
  have hb0 : Below w.heap.size w ((w.alloc (.cells #[.slice la l.length lc, .slice ra ts.length rc] 27)).alloc (.cells #[.int .i64 kk, .string kc, .int .i64 kl, .int .i64 kh, .slice ka kn' kd, .slice kb km kp] 31)) := bal (ba _ _) _
  have HT : Hid (Cl ((w.alloc (.cells #[.slice la l.length lc, .slice ra ts.length rc] 27)).alloc (.cells #[.int .i64 kk, .string kc, .int .i64 kl, .int .i64 kh, .slice ka kn' kd, .slice kb km kp] 31)) w.heap.size 0 (.slice la l.length lc) ∧ Cl ((w.alloc (.cells #[.slice la l.length lc, .slice ra ts.length rc] 27)).alloc (.cells #[.int .i64 kk, .string kc, .int .i64 kl, .int .i64 kh, .slice ka kn' kd, .slice kb km kp] 31)) w.heap.size 1 (.slice ra ts.length rc)) := ⟨(Cl.new _ 27 _ _ rfl rfl).at (ba _ _), (Cl.new _ 27 _ _ rfl rfl).at (ba _ _)⟩
  have HN : Hid (Bx ((w.alloc (.cells #[.slice la l.length lc, .slice ra ts.length rc] 27)).alloc (.cells #[.int .i64 kk, .string kc, .int .i64 kl, .int .i64 kh, .slice ka kn' kd, .slice kb km kp] 31)) (w.heap.size + 1) (.int .i64 kk) (.string kc) (.int .i64 kl) (.int .i64 kh) (.slice ka kn' kd) (.slice kb km kp)) := Bx.new _ _ (by simp) _ _ _ _ _ _
  obtain ⟨W0, hW0⟩ : ∃ W0, ((w.alloc (.cells #[.slice la l.length lc, .slice ra ts.length rc] 27)).alloc (.cells #[.int .i64 kk, .string kc, .int .i64 kl, .int .i64 kh, .slice ka kn' kd, .slice kb km kp] 31)) = W0 := ⟨_, rfl⟩
  rw [hW0] at hb0 HT HN
  obtain ⟨ew, hew⟩ : ∃ ew, wroE l (rr ts) = ew := ⟨_, rfl⟩
  have k1 := rwrong_any B _ _ l ts W0 (Nat.le_trans hB hb0.size) (HP.out.at hB hb0) (HRW.out.at hB hb0) ew hew
  have HEW : Hid (wroE l (rr ts) = ew) := hew
  have m0 := HT.out.1.c
  have m1 := HT.out.2.c
  clear hp hrw hq hr hew
  go_enter Tryz.func30, Tryz.ntmps30
  go_wp2_with fail
  refine k1.mono ?_
  rintro e w1 ⟨rfl, hb1⟩
  clear k1 m0 m1 hW0
  have hbw1 := bt hb0 hb1
  by_cases he : ew = 0
  · subst he
    have HT1 : Hid (Cl w1 w.heap.size 0 (.slice la l.length lc) ∧ Cl w1 w.heap.size 1 (.slice ra ts.length rc)) := ⟨HT.out.1.at hb1, HT.out.2.at hb1⟩
    have HN1 : Hid (Bx w1 (w.heap.size + 1) (.int .i64 kk) (.string kc) (.int .i64 kl) (.int .i64 kh) (.slice ka kn' kd) (.slice kb km kp)) := HN.out.at hb1
    obtain ⟨b1, b2, b3, te, hty⟩ : ∃ b1 b2 b3 te, typV (typ l q) = ((b1, b2, b3), te) := ⟨_, _, _, _, rfl⟩
    have k2 := rtype_any l q w1 B _ _ _ _ _ _ _ b1 b2 b3 te (Nat.le_trans hB hbw1.size) (HP.out.at hB hbw1) (HQ.out.at hB hbw1) hty
    have HTY : Hid (typV (typ l q) = ((b1, b2, b3), te)) := hty
    have m0 := HT1.out.1.c
    have m1 := HN1.out.a0.c
    have m2 := HN1.out.a1.c
    have m3 := HN1.out.a2.c
    have m4 := HN1.out.a3.c
    have m5 := HN1.out.a4.c
    have m6 := HN1.out.a5.c
    clear hty HT HN hb1
    go_wp2_with fail
    refine k2.mono ?_
    rintro e w2 ⟨rfl, hb2⟩
    clear k2 m0 m1 m2 m3 m4 m5 m6
    rcases typV_split HTY.out (fun e he => typ_ne he) with ⟨rfl, ht⟩ | ⟨hte, ht⟩
    · obtain ⟨hxs, rfl⟩ : ans l (rr ts) q = xs ∧ 0 = er := by
        have := HR.out
        rw [runT_typ HEW.out, ht] at this
        simp only [runV, Prod.mk.injEq] at this
        exact this
      obtain ⟨hce, hle, hok⟩ := wroE_ok HEW.out
      have HK : ∀ W, Below w1.heap.size w1 W → Calls Tryz.prog 77 #[.agg #[.slice la l.length lc, .slice ra ts.length rc], .agg #[.int .i64 kk, .string kc, .int .i64 kl, .int .i64 kh, .slice ka kn' kd, .slice kb km kp]] W (AnsR W xs) := fun W hW => by
        rw [← hxs]
        exact ranswer_any (colE_ok hce).2.2.1 (by rw [← rr_len]; exact hle) hok q 1 W B _ _ _ _ _ _ _ _ _ (Nat.le_trans hB (bt hbw1 hW).size) (HP.out.at hB (bt hbw1 hW)) (HRW.out.at hB (bt hbw1 hW)) (HQ.out.at hB (bt hbw1 hW)) (typ_ok ht).2
      have hb2' := bal hb2 (.cells #[.int .i64 b1, .int .i64 b2, .int .i64 b3] 61)
      obtain ⟨W2, hW2⟩ : ∃ W2, w2.alloc (.cells #[.int .i64 b1, .int .i64 b2, .int .i64 b3] 61) = W2 := ⟨_, rfl⟩
      rw [hW2] at hb2'
      have k3 := HK W2 hb2'
      have hT2 := HT1.out.1.at hb2'
      have hT3 := HT1.out.2.at hb2'
      have hN2 := HN1.out.at hb2'
      have m0 := hT2.c
      have m7 := hT3.c
      have m1 := hN2.a0.c
      have m2 := hN2.a1.c
      have m3 := hN2.a2.c
      have m4 := hN2.a3.c
      have m5 := hN2.a4.c
      have m6 := hN2.a5.c
      clear hT2 hT3 hN2 HK hxs hce hle hok ht
      go_wp2_with fail
      refine k3.mono ?_
      rintro e w3 ⟨a, c, rfl, hI, hb3⟩
      clear k3 hW2
      have hbw3 : Below w.heap.size w w3 := bt (bt hbw1 hb2') hb3
      go_wp2
      exact bodyPost_ret (v := .tuple #[.slice a xs.length c, .int .i64 0]) (by simp [results, Tryz.results30, go_sem]) rfl ⟨a, c, rfl, hI, hbw3⟩
    · obtain ⟨rfl, rfl⟩ : [] = xs ∧ te = er := by
        have := HR.out
        rw [runT_typ HEW.out, ht] at this
        simp only [runV, Prod.mk.injEq] at this
        exact this
      have hne : (te != 0) = true := by simpa using hte
      have hbw3 : Below w.heap.size w (w2.alloc (.cells #[.int .i64 b1, .int .i64 b2, .int .i64 b3] 61)) := bt hbw1 (bal hb2 _)
      clear ht
      go_wp2
      exact bodyPost_ret (v := .tuple #[.slice none 0 0, .int .i64 te]) (by simp [results, Tryz.results30, go_sem]) rfl ⟨none, 0, rfl, ⟨none, 0, rfl, Nat.le_refl _, by simp, fun h => absurd rfl h⟩, hbw3⟩
  · obtain ⟨rfl, rfl⟩ : [] = xs ∧ ew = er := by
      have := HR.out
      rw [runT, if_neg (by rw [HEW.out]; exact he), HEW.out] at this
      simp only [runV, Prod.mk.injEq] at this
      exact this
    have hne : (ew != 0) = true := by simpa using he
    go_wp2
    exact bodyPost_ret (v := .tuple #[.slice none 0 0, .int .i64 ew]) (by simp [results, Tryz.results30, go_sem]) rfl ⟨none, 0, rfl, ⟨none, 0, rfl, Nat.le_refl _, by simp, fun h => absurd rfl h⟩, hbw1⟩

end Go.Proofs.YtlndlpjadajelaaGreat.K
