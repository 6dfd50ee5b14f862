import Derived.Test.YtgfndaiilhbkmaaLf1
import Derived.Deep.DeepCutAuto
namespace Go.Proofs.Ytgfndaiilhbkmaa
open Go.RowKit Go.Proofs.Ytgfndaiilhbkmaa.Ds

/-- what was told, over the line -/
def tld (xs : List Int) (ln : Nat) (i : Nat) : Int := xs.getD i 0 * (ln : Int)
/-- .. the first k -/
def tldK (xs : List Int) (ln k i : Nat) : Int := if i < k then tld xs ln i else xs.getD i 0
theorem tld_abs {xs : List Int} {ln : Nat} (hx : xs.any badB = false) (hln : ln ≤ 1073741824) (i : Nat) : (tld xs ln i).natAbs ≤ 70368744177664 := by
  rw [tld, Int.natAbs_mul, Int.natAbs_natCast]
  exact Nat.le_trans (Nat.mul_le_mul (good_abs hx i) hln) (by decide)
theorem risF_congr {mk : Nat → Int → Int} {b b' : Nat → Int} {w H : Nat} (hw : 0 < w) (h : ∀ i, i < nds w H → lev w i = H → b i = b' i) {i : Nat} (hi : i < nds w H) : risF mk b w H i = risF mk b' w H i := by
  have h1 := risF_ind (P := fun _ i x => x = risF mk b' w H i) (mk := mk) (b := b) (w := w) (H := H) hw (fun i hi hl => by
      rw [risF_leaf hw hi (by rw [← lev_lt hw]; omega)]; exact h i hi hl)
    (fun h i _ hi hk => by
      rw [risF_inner mk b' hw hi]
      exact congrArg (mk i) (sumN_congr fun k hk2 => hk k hk2))
  have h2 := (lev_le hw H i).2 hi
  exact h1 (H - lev w i) i (by omega)
/-- how many of the lowest level are below each node -/
theorem ones_eq {w H q : Nat} (hw : 0 < w) (hq : w ^ H = q) {i : Nat} (hi : i < nds w H) : sumF w H (List.replicate q 1) i = ((w ^ (H - lev w i) : Nat) : Int) := by
  rw [← leaves_eq hw hi]
  refine risF_congr hw (fun j hj hl => ?_) hi
  have h1 := inr_add w H
  have h2 : ¬ j < inr w H := by rw [← lev_lt hw]; omega
  have h3 : j - inr w H < q := by omega
  simp [List.getD, h3]

theorem cell_lt' {w : World} {b k : Nat} {v : Value} (h : w.cell? ⟨b, k, none⟩ = some v) : b < w.heap.size := by
  unfold World.cell? at h
  split at h
  · rename_i hb; exact (Array.getElem?_eq_some_iff.1 hb).1
  · cases h
theorem lft_step_bd {w H B : Nat} {t : Nat → Int} (hw : 2 ≤ w) (hw2 : w ≤ 16) (hH : H ≤ 10) (hB : B ≤ 70368744177664) (ht : ∀ i, i < nds w H → (t i).natAbs ≤ B) {m : Nat} (hm : m < inr w H) :
    ((((w ^ (H - lev w m) * w : Nat) : Int) - ((w ^ (H - lev w m) : Nat) : Int)) * (t m).tdiv (((w ^ (H - lev w m) * w : Nat) : Int) - 1)).natAbs ≤ 1152921504606846976 ∧
    ((((w ^ (H - lev w m) : Nat) : Int) - 1) * (sumN (lft w H t) (w * m + 1) w).tdiv (((w ^ (H - lev w m) * w : Nat) : Int) - 1)).natAbs ≤ 1152921504606846976 ∧
    (sumN (lft w H t) (w * m + 1) w).natAbs ≤ 1152921504606846976 ∧ 1 ≤ w ^ (H - lev w m) ∧ w ^ (H - lev w m) ≤ w ^ H := by
  have hlv := (lev_lt (w := w) (by omega) H _).2 hm
  obtain ⟨k, hk⟩ : ∃ k, H - lev w m = k + 1 := ⟨H - lev w m - 1, by omega⟩
  have hmn : m < nds w H := by have := inr_lt w H (by omega); omega
  have h1 : ∀ j, j < w → (lft w H t (w * m + 1 + j)).natAbs ≤ (k + 1) * B := fun j hj => lft_abs hw ht k _ (by rw [lev_kid hj]; omega)
  have h2 : (sumN (lft w H t) (w * m + 1) w).natAbs ≤ w * ((k + 1) * B) := sumN_abs h1
  have hq : 1 ≤ w ^ (H - lev w m) := Nat.pow_pos (by omega)
  obtain ⟨_, h3, h4⟩ := mkq_abs hw hq (ht m hmn) h2
  have h5 : (k + 1) * B ≤ 10 * 70368744177664 := Nat.mul_le_mul (by omega) hB
  have h6 : w * ((k + 1) * B) ≤ 16 * (10 * 70368744177664) := Nat.mul_le_mul hw2 h5
  have h7 := ht m hmn
  exact ⟨by omega, by omega, by omega, hq, Nat.pow_le_pow_right (by omega) (by omega)⟩
theorem cutP {P G : Prop} (hp : P) (hg : P → G) : G := hg hp
theorem bcell {w w' : World} (h : Below w.heap.size w w') : (∀ b k, b < w.heap.size → w'.cell? ⟨b, k, none⟩ = w.cell? ⟨b, k, none⟩) ∧ (∀ b k, b < w.heap.size → w'.frozen? ⟨b, k, none⟩ = w.frozen? ⟨b, k, none⟩) :=
  ⟨fun b k hb => h.cell (p := ⟨b, k, none⟩) hb, fun b k hb => h.frozen (p := ⟨b, k, none⟩) hb⟩
theorem shc {V X : World} {B : Nat} {a b c d : Value} (h : ShB V B a b c d) (hb : Below V.heap.size V X) : X.cell? ⟨B, 0, none⟩ = some a ∧ X.cell? ⟨B, 1, none⟩ = some b ∧ X.cell? ⟨B, 2, none⟩ = some c ∧ X.cell? ⟨B, 3, none⟩ = some d :=
  ⟨(h.at hb).c0, (h.at hb).c1, (h.at hb).c2, (h.at hb).c3⟩
theorem ones_num {V : World} {g q : Nat} (h : Arr V g q (fun _ => 1)) (hq : q ≤ 1024) : Num V V.heap.size (.slice (some ⟨g, 0, none⟩) q q) (List.replicate q 1) := by
  have h1 := h.num (Nat.le_refl q) (by omega)
  have e : (List.range q).map (fun _ => (1 : Int)) = List.replicate q 1 := by
    apply List.ext_getElem <;> simp
  rwa [e] at h1
theorem ones_abs (q i : Nat) : ((List.replicate q (1 : Int)).getD i 0).natAbs ≤ 65536 := by
  rw [List.getD]
  by_cases h : i < q
  · simp [h]
  · simp [h]

set_option maxRecDepth 100000 in
set_option maxHeartbeats 8000000 in
theorem lifts_any (w H n q ln B : Nat) (v : Value) (xs : List Int) (hw : 2 ≤ w) (hw2 : w ≤ 16) (hH : H ≤ 10) (hn : nds w H = n) (hn2 : n ≤ 1024) (hq : w ^ H = q) (hln : ln ≤ 1073741824) (W : World) (hB : B ≤ W.heap.size) (hx : Num W B v xs) (hl : xs.length = n) (hb : xs.any badB = false) :
    Calls Try.prog 23 #[shV w H n q, v, .int .i64 (ln : Int)] W fun e W' => ∃ g c, e = .returned (.slice (some ⟨g, 0, none⟩) n c) ∧ n ≤ c ∧ W.heap.size ≤ g ∧ Arr W' g n (lft w H (tld xs ln)) ∧ Below W.heap.size W W' := by
  have hne : xs ≠ [] := by rintro rfl; simp at hl; have := nds_pos w H; omega
  have HX : Hid (Num W B v xs ∧ nds w H = n ∧ w ^ H = q ∧ xs.any badB = false ∧ xs.length = n) := ⟨hx, hn, hq, hb, hl⟩
  have hqn : q ≤ n := by rw [← hq, ← hn]; exact pow_le_nds w H
  have hq1 : 1 ≤ q := by rw [← hq]; exact Nat.pow_pos (by omega)
  obtain ⟨X, hX⟩ : ∃ X, W.alloc (.cells #[.int .i64 (w : Int), .int .i64 (H : Int), .int .i64 (n : Int), .int .i64 (q : Int)] 35) = X := ⟨_, rfl⟩
  have bX : Below W.heap.size W X := by rw [← hX]; exact ba _ _
  have sX : ShB X W.heap.size (.int .i64 (w : Int)) (.int .i64 (H : Int)) (.int .i64 (n : Int)) (.int .i64 (q : Int)) := by rw [← hX]; exact ShB.new _ _ _ _ _ _ rfl
  have HSX : Hid (ShB X W.heap.size (.int .i64 (w : Int)) (.int .i64 (H : Int)) (.int .i64 (n : Int)) (.int .i64 (q : Int))) := sX
  have hsX := sX.lt
  have kc := clone_any B v xs X (Nat.le_trans hB bX.size) (hx.at hB bX) hne (by omega)
  rw [hl] at kc
  obtain ⟨va, vc, rfl, _⟩ := hx.slice
  rw [hl] at kc ⊢
  clear hx hn hq hb sX hne hl
  go_enter Try.func23, Try.ntmps23
  go_wp2_with fail
  refine kc.mono ?_
  rintro e1 w1 ⟨g, c, rfl, hc, hg, hA1, hb1⟩
  have HA1 : Hid (Arr w1 g n (fun i => xs.getD i 0)) := hA1
  have HS1 : Hid (ShB w1 W.heap.size (.int .i64 (w : Int)) (.int .i64 (H : Int)) (.int .i64 (n : Int)) (.int .i64 (q : Int))) := HSX.out.at hb1
  have hs1 := hb1.size
  have hgl := hA1.lt
  clear kc hA1
  go_wp2_with fail
  go_loopw [14] (fun s wr => ∃ (i : Nat), s = .int .i64 (i : Int) ∧ i ≤ n ∧ Hid (Arr wr g n (tldK xs ln i)) ∧ Hid (ShB wr W.heap.size (.int .i64 (w : Int)) (.int .i64 (H : Int)) (.int .i64 (n : Int)) (.int .i64 (q : Int))) ∧ Hid (Boxed wr w1.heap.size 22 (.slice (some ⟨g, 0, none⟩) n c)) ∧ Below W.heap.size W wr) (fun s _ => n - (intOf s).toNat)
  case atStart => exact ⟨0, rfl, Nat.zero_le _, (HA1.out.at (ba _ _)).congr fun i _ => by simp [tldK], HS1.out.at (ba _ _), Boxed.new _ _ _, bt (bt bX hb1) (ba _ _)⟩
  case round =>
    obtain ⟨i, rfl, hi, HA, HS, HB, hbl⟩ := hrel
    have cB := HB.out.cell
    by_cases c1 : i < n
    · obtain ⟨x, hx⟩ : ∃ x, xs.getD i 0 = x := ⟨_, rfl⟩
      obtain ⟨y, hy⟩ : ∃ y, x * (ln : Int) = y := ⟨_, rfl⟩
      have hyt : tld xs ln i = y := by rw [tld, hx, hy]
      have hyb : y.natAbs ≤ 70368744177664 := by rw [← hyt]; exact tld_abs HX.out.2.2.2.1 hln i
      have cA := HA.out.cells i c1
      rw [tldK, if_neg (Nat.lt_irrefl _), hx] at cA
      have fA := HA.out.thaw i c1
      have yb : -70368744177664 ≤ y ∧ y ≤ 70368744177664 := by omega
      have HA2 : Hid (Arr (wr.setCell ⟨g, i, none⟩ (.int .i64 y)) g n (tldK xs ln (i + 1))) := (HA.out.set i c1 y).congr fun j _ => by
        unfold upd tldK
        by_cases e : j = i
        · subst e; rw [if_pos rfl, if_pos (by omega), hyt]
        · rw [if_neg e]
          by_cases e2 : j < i
          · rw [if_pos e2, if_pos (by omega)]
          · rw [if_neg e2, if_neg (by omega)]
      have HS2 : Hid (ShB (wr.setCell ⟨g, i, none⟩ (.int .i64 y)) W.heap.size (.int .i64 (w : Int)) (.int .i64 (H : Int)) (.int .i64 (n : Int)) (.int .i64 (q : Int))) := HS.out.beside (by simp; omega) _
      have HB2 : Hid (Boxed (wr.setCell ⟨g, i, none⟩ (.int .i64 y)) w1.heap.size 22 (.slice (some ⟨g, 0, none⟩) n c)) := HB.out.kept (gb_set (gb_refl _ _) i _) (by simp; omega)
      have hbl2 : Below W.heap.size W (wr.setCell ⟨g, i, none⟩ (.int .i64 y)) := bs hbl (by simp; omega) _
      have z1 : (i : Int) < (n : Int) := by omega
      clear hx hyt hyb
      go_wp2
      go_roundw
      case rel => exact ⟨i + 1, by go_num, by omega, HA2, HS2, HB2, hbl2⟩
      case measure => simp [intOf]; omega
    · obtain rfl : i = n := by omega
      have z1 : ¬ (i : Int) < (i : Int) := by omega
      have HE : Hid (Arr wr g i (tld xs ln)) := HA.out.congr fun j hj => by rw [tldK, if_pos hj]
      have hwz := HB.out.lt
      have hsz := HS.out.lt
      obtain ⟨w2, hw2'⟩ : ∃ w2, w2 = wr := ⟨_, rfl⟩
      subst hw2'
      have t0 := HS.out.c0
      have t1 := HS.out.c1
      have t2 := HS.out.c2
      have t3 := HS.out.c3
      clear HA
      go_wp2_with fail
      go_cut [9] (fun pv wx => ∃ bx gl, pv = .pointer (some ⟨bx, 0, none⟩) ∧ w2.heap.size ≤ bx ∧ w2.heap.size ≤ gl ∧ wx.cell? ⟨bx, 0, none⟩ = some (.slice (some ⟨gl, 0, none⟩) i i) ∧ Arr wx gl i (sumF w H (List.replicate q 1)) ∧ Below w2.heap.size w2 wx)
      case first => as_aux_lemma =>
        go_region_held3 (fun w' => w'.cell? ⟨W.heap.size, 0, none⟩ = some (.int .i64 (w : Int)) ∧ w'.cell? ⟨W.heap.size, 1, none⟩ = some (.int .i64 (H : Int)) ∧ w'.cell? ⟨W.heap.size, 2, none⟩ = some (.int .i64 (i : Int)) ∧ w'.cell? ⟨W.heap.size, 3, none⟩ = some (.int .i64 (q : Int)))
          (first | with_reducible assumption | (refine shc HS.out ?_; first | with_reducible exact (Below.refl _ w2).drew | with_reducible exact (bal (Below.refl _ w2) _).drew | with_reducible exact (bal (bal (Below.refl _ w2) _) _).drew | with_reducible exact hz6 | with_reducible exact bal hz6 _ | (with_reducible refine bs hz6 ?_ _; dsimp only; omega) | (with_reducible refine bs (bal hz6 _) ?_ _; dsimp only; omega) | with_reducible exact hz5 | with_reducible exact bal hz5 _))
          (first
            | (have hmark := hz5; clear hmark; go_at_call 18; refine (sums_any w H i q _ (.slice (some ⟨g5, 0, none⟩) q q) (List.replicate q 1) hw hw2 HX.out.2.1 hn2 HX.out.2.2.1 _ (Nat.le_refl _) ?_ (by simp) (sumF_bd (by omega) (by rw [HX.out.2.1]; exact hn2) (Nat.le_refl _) (ones_abs q))).mono ?_; (first | with_reducible exact ones_num hA5 (by omega) | exact ones_num (hA5.at (ba _ _)) (by omega)); rintro e w6 ⟨rfl, hA6, hb6⟩; refine cutP (P := Below w2.heap.size w2 w6) ?_ (fun hz6 => ?_); (first | with_reducible exact bt hz5 hb6 | with_reducible exact bt (bal hz5 _) hb6); have sz6 := hz6.size; obtain ⟨hc6, hf6⟩ := bcell hb6)
            | (go_at_call 34; refine (repeat_any _ q hq1 (by omega) _ ?_ ?_).mono ?_; (simp [go_sem]); (simp <;> omega); rintro e w5 ⟨g5, rfl, hg5, hA5, hb5⟩; refine cutP (P := Below w2.heap.size w2 w5) ?_ (fun hz5 => ?_); (first | with_reducible exact bt (bal (Below.refl _ w2) _).drew hb5 | with_reducible exact bt (bal (bal (Below.refl _ w2) _) _).drew hb5); have sz5 := hz5.size; have h5l := hA5.lt; have hg5' := hg5; simp at hg5'; refine cutP (P := w2.heap.size + 1 < w5.heap.size ∧ w2.heap.size < w5.heap.size) ?_ (fun ss5 => ?_); (omega); obtain ⟨ss5, ss5'⟩ := ss5; obtain ⟨hc5, hf5⟩ := bcell hb5))
        · go_wp2
          go_meet
          exact ⟨_, _, rfl, by omega, by omega, (Boxed.new _ _ _).cell, hA6.at (ba _ _), bal hz6 _⟩
        · go_wp2
          go_meet
          rw [World.size_alloc] at hA6
          exact ⟨_, _, rfl, by omega, by omega, sc_same (u := .slice none 0 0) ((hc6 w5.heap.size 0 (by simp)).trans (by simp [go_sem])), hA6.beside (p := ⟨w5.heap.size, 0, none⟩) (by dsimp only; omega) _, bs (p := ⟨w5.heap.size, 0, none⟩) hz6 (by dsimp only; omega) _⟩
        · go_wp2
          go_meet
          exact ⟨_, _, rfl, by omega, by omega, sc_same (u := .slice none 0 0) ((hc6 (w2.heap.size + 1) 0 (by omega)).trans ((hc5 (w2.heap.size + 1) 0 (by simp)).trans (by simp [go_sem]))), hA6.beside (p := ⟨w2.heap.size + 1, 0, none⟩) (by dsimp only; omega) _, bs (p := ⟨w2.heap.size + 1, 0, none⟩) hz6 (by dsimp only; omega) _⟩
        · go_wp2
          go_meet
          exact ⟨_, _, rfl, by omega, by omega, sc_same (u := .slice none 0 0) ((hc6 w2.heap.size 0 (by omega)).trans ((hc5 w2.heap.size 0 (by simp; omega)).trans (by simp [go_sem]))), hA6.beside (p := ⟨w2.heap.size, 0, none⟩) (by dsimp only; omega) _, bs (p := ⟨w2.heap.size, 0, none⟩) hz6 (by dsimp only; omega) _⟩
      case rest => as_aux_lemma =>
        obtain ⟨bx, gl, rfl, hbx, hgl2, hcx, hAx, hbc⟩ := hcut
        have HE2 : Hid (Arr wc g i (tld xs ln)) := HE.out.at hbc
        have HS2 : Hid (ShB wc W.heap.size (.int .i64 (w : Int)) (.int .i64 (H : Int)) (.int .i64 (i : Int)) (.int .i64 (q : Int))) := HS.out.at hbc
        have HB2 : Hid (Boxed wc w1.heap.size 22 (.slice (some ⟨g, 0, none⟩) i c)) := (hbc.block _ hwz).trans HB.out
        have HCX : Hid (wc.cell? ⟨bx, 0, none⟩ = some (.slice (some ⟨gl, 0, none⟩) i i)) := hcx
        have HAX : Hid (Arr wc gl i (sumF w H (List.replicate q 1))) := hAx
        have hszc := hbc.size
        have hlx : bx < wc.heap.size := cell_lt' hcx
        have s0 := HS2.out.c0
        have s1 := HS2.out.c1
        have s2 := HS2.out.c2
        have s3 := HS2.out.c3
        have s7 := HB2.out.cell
        have ht : ∀ j, j < nds w H → (tld xs ln j).natAbs ≤ 70368744177664 := fun j _ => tld_abs HX.out.2.2.2.1 hln j
        have kr := riseL_any w H g i c q bx W.heap.size w1.heap.size (lft w H (tld xs ln)) (tld xs ln) hw hw2 HX.out.2.1 hn2 HX.out.2.2.1 wc
          (HE2.out.congr fun j hj => by
            rw [stt]
            split
            · rename_i hjl
              rw [lft, risF_leaf (by omega) (by rw [HX.out.2.1]; exact hj) (by omega)]
            · rfl)
          (fun m hm => by have := (lft_step_bd hw hw2 hH (Nat.le_refl _) ht hm).2.2.1; omega)
          (fun V m s hm hsm hgV hAV => by
            obtain ⟨p1, p2, p3, p4, p5⟩ := lft_step_bd hw hw2 hH (Nat.le_refl _) ht hm
            have hmn : m < i := by have := inr_lt w H (by omega); rw [HX.out.2.1] at this; omega
            rw [hsm] at p2 p3
            exact made_any w H i q (w ^ (H - lev w m)) m g c gl i bx W.heap.size w1.heap.size (tld xs ln m) s (stt (lft w H (tld xs ln)) (tld xs ln) (m + 1)) (sumF w H (List.replicate q 1)) hw hw2 p4 (by rw [HX.out.2.2.1] at p5; omega) hmn V
              (hgV.cell HCX.out (by simp; omega)) (HS2.out.same (hgV.block _ HS2.out.lt (by simp; omega))) (HB2.out.kept hgV (by simp; omega)) (HAX.out.gb hgV (by simp; omega)) (ones_eq (by omega) HX.out.2.2.1 (by rw [HX.out.2.1]; exact hmn)) hAV (by rw [stt, if_neg (by omega)]) p1 p2 (Nat.le_trans (tld_abs HX.out.2.2.2.1 hln m) (by decide)) p3 _ (by rw [lft, risF_inner _ _ (by omega) hm, ← lft, hsm, mkL]))
        clear hcx hAx ht
        go_wp2_with fail
        refine kr.mono ?_
        rintro e8 w8 ⟨rfl, hA8, hg8⟩
        have HA8 : Hid (Arr w8 g i (lft w H (tld xs ln))) := hA8
        have c8 := (HB2.out.kept hg8 (by simp; omega)).cell
        have hb8 : Below W.heap.size W w8 := (hbl.trans (hbc.mono (by have := hbl.size; omega))).trans (below_gb hg8 (by omega) (by omega))
        clear kr hA8 hg8
        go_wp2
        go_ret
        exact ⟨g, c, rfl, hc, by omega, HA8.out, hb8⟩
end Go.Proofs.Ytgfndaiilhbkmaa
