import Derived.Test.YtjembpcpefgdpaaDoorQc48
namespace Go.Proofs.YtjembpcpefgdpaaDoor
open Go.RowKit Go.Proofs.YtjembpcpefgdpaaDoor.Ds

def nilC : Value := .agg #[.slice none 0 0, .slice none 0 0, .int .i64 0, .int .i64 0, .int .i64 0]
/-- what Count answers -/
def CountP (w : World) (k : Nat) (u d lo hi : Int) (xs : List Int) (p q : Int) (e : Ending) (w' : World) : Prop :=
  ∃ tv ev tls, e = .returned (.tuple #[.agg #[tv, ev, .int .i64 ((camT k xs).length : Int), .int .i64 p, .int .i64 q], .int .i64 0]) ∧ Tll w' tv tls ∧ Erl w' ev (erL k u d lo hi xs xs.length) ∧ tls.map (fun t => rds t.2) = toL k u d lo hi xs xs.length ∧ Below w.heap.size w w'

set_option maxRecDepth 100000 in
set_option maxHeartbeats 2000000 in
theorem count_bad (high u d lo hi : Int) (v : Value) (er : Int) (h : newE high u d lo hi = er) (hne : er ≠ 0) (w : World) :
    Calls Tryd.prog 5 #[.int .i64 high, rv u d, .int .i64 lo, .int .i64 hi, v] w fun e w' => e = .returned (.tuple #[nilC, .int .i64 er]) ∧ Below w.heap.size w w' := by
  have kn := fun W => new_any high u d lo hi er h W
  have c2 : (er != 0) = true := by simpa using hne
  have hf := FivB.new (w.alloc (.cells #[.int .i64 u, .int .i64 d] 23)) (.slice none 0 0) (.slice none 0 0) (.int .i64 0) (.int .i64 0) (.int .i64 0) (w.heap.size + 1) (by simp)
  have b0 : Below w.heap.size w ((w.alloc (.cells #[.int .i64 u, .int .i64 d] 23)).alloc (.cells #[.slice none 0 0, .slice none 0 0, .int .i64 0, .int .i64 0, .int .i64 0] 28)) := bal (ba _ _) _
  obtain ⟨W0, hW0⟩ : ∃ W0, ((w.alloc (.cells #[.int .i64 u, .int .i64 d] 23)).alloc (.cells #[.slice none 0 0, .slice none 0 0, .int .i64 0, .int .i64 0, .int .i64 0] 28)) = W0 := ⟨_, rfl⟩
  rw [hW0] at hf b0
  have HF : Hid (FivB W0 (w.heap.size + 1) (.slice none 0 0) (.slice none 0 0) (.int .i64 0) (.int .i64 0) (.int .i64 0)) := hf
  have q0 : W0.cell? ⟨w.heap.size, 0, none⟩ = some (.int .i64 u) := by rw [← hW0]; simp [go_sem]
  have q1 : W0.cell? ⟨w.heap.size, 1, none⟩ = some (.int .i64 d) := by rw [← hW0]; simp [go_sem]
  clear h hf
  go_enter Tryd.func5, Tryd.ntmps5
  go_wp2_with fail
  refine (kn _).mono ?_
  rintro e1 w1 ⟨p, rfl, hb1, hp⟩
  have HF1 : Hid (FivB w1 (w.heap.size + 1) (.slice none 0 0) (.slice none 0 0) (.int .i64 0) (.int .i64 0) (.int .i64 0)) := HF.out.same (hb1.block _ HF.out.lt)
  have B1 : Below w.heap.size w w1 := bt b0 hb1
  obtain ⟨c0, f0, c1, f1, c2', f2, c3, f3, c4, f4⟩ := HF1.out.all
  clear kn hb1 hW0 q0 q1
  go_wp2
  obtain ⟨W, hW⟩ : ∃ W, (((((w1.setCell ⟨w.heap.size + 1, 0, none⟩ (.slice none 0 0)).setCell ⟨w.heap.size + 1, 1, none⟩ (.slice none 0 0)).setCell ⟨w.heap.size + 1, 2, none⟩ (.int .i64 0)).setCell ⟨w.heap.size + 1, 3, none⟩ (.int .i64 0)).setCell ⟨w.heap.size + 1, 4, none⟩ (.int .i64 0)) = W := ⟨_, rfl⟩
  have HFW : FivB W (w.heap.size + 1) (.slice none 0 0) (.slice none 0 0) (.int .i64 0) (.int .i64 0) (.int .i64 0) := by rw [← hW]; exact ((((HF1.out.put0 _).put1 _).put2 _).put3 _).put4 _
  have BW : Below w.heap.size w W := by rw [← hW]; exact bs (bs (bs (bs (bs B1 (by exact Nat.le_succ _) _) (by exact Nat.le_succ _) _) (by exact Nat.le_succ _) _) (by exact Nat.le_succ _) _) (by exact Nat.le_succ _) _
  rw [hW]
  obtain ⟨c0, f0, c1, f1, c2', f2, c3, f3, c4, f4⟩ := HFW.all
  exact bodyPost_ret (v := .tuple #[nilC, .int .i64 er]) (by simp [results, Tryd.results5, go_sem, c0, c1, c2', c3, c4, nilC]) rfl ⟨rfl, BW⟩

/-- the last stores: into the one block, then into the other one -/
theorem fin5 {X : World} {P Q : Nat} {tv ev q0 q1 q2 q3 q4 : Value} (t x y : Value) (hQ : FivB X Q q0 q1 q2 q3 q4) (hne : P ≠ Q) :
    FivB ((((((((X.setCell ⟨P, 2, none⟩ t).setCell ⟨P, 3, none⟩ x).setCell ⟨P, 4, none⟩ y).setCell ⟨Q, 0, none⟩ tv).setCell ⟨Q, 1, none⟩ ev).setCell ⟨Q, 2, none⟩ t).setCell ⟨Q, 3, none⟩ x).setCell ⟨Q, 4, none⟩ y) Q tv ev t x y ∧
    Kp X ((((((((X.setCell ⟨P, 2, none⟩ t).setCell ⟨P, 3, none⟩ x).setCell ⟨P, 4, none⟩ y).setCell ⟨Q, 0, none⟩ tv).setCell ⟨Q, 1, none⟩ ev).setCell ⟨Q, 2, none⟩ t).setCell ⟨Q, 3, none⟩ x).setCell ⟨Q, 4, none⟩ y) (fun b => b = P ∨ b = Q) := by
  have g1 : X.grownBy (((X.setCell ⟨P, 2, none⟩ t).setCell ⟨P, 3, none⟩ x).setCell ⟨P, 4, none⟩ y) (some P) := gb_trans (gb_trans (gb_setc _ _ _ _) (gb_setc _ _ _ _)) (gb_setc _ _ _ _)
  have hQ1 := hQ.same (g1.block Q hQ.lt (by simp; omega))
  refine ⟨((((hQ1.put0 _).put1 _).put2 _).put3 _).put4 _, ?_⟩
  have k1 : Kp X (((X.setCell ⟨P, 2, none⟩ t).setCell ⟨P, 3, none⟩ x).setCell ⟨P, 4, none⟩ y) (fun b => b = P ∨ b = Q) := (Kp.refl _ _).gb g1 (fun x e _ => .inl (by simpa using e.symm))
  exact k1.gb (gb_trans (gb_trans (gb_trans (gb_trans (gb_setc _ _ _ _) (gb_setc _ _ _ _)) (gb_setc _ _ _ _)) (gb_setc _ _ _ _)) (gb_setc _ _ _ _)) (fun x e _ => .inr (by simpa using e.symm))

theorem camT_nil (k : Nat) : camT k [] = [] := rfl
set_option maxRecDepth 100000 in
set_option maxHeartbeats 4000000 in
theorem count_ok (k : Nat) (u d lo hi : Int) (v : Value) (B nb : Nat) (xs : List Int) (w : World) (hB : B ≤ w.heap.size) (hi0 : Ints w B nb v xs) (hl : xs.length ≤ 1048576) (h : newE (k : Int) u d lo hi = 0) (hT : TabAt 1 Lib.deBruijn64tab w) (hlo : I64 lo) (hhi : I64 hi) (p q : Int) (hp : Rt.powT u d ((k : Int) + 1) = (p, q, 0)) :
    Calls Tryd.prog 5 #[.int .i64 (k : Int), rv u d, .int .i64 lo, .int .i64 hi, v] w (CountP w k u d lo hi xs p q) := by
  have kn := fun W => new_any (k : Int) u d lo hi 0 h W
  obtain ⟨hk, hh, _⟩ := newE_ok h
  have HI : Hid (Ints w B nb v xs) := hi0
  obtain ⟨ia, ic, rfl, _⟩ := hi0
  have HB : Hid (I64 lo ∧ I64 hi ∧ (hideT u d lo hi 0).2 = 0 ∧ Rt.powT u d ((k : Int) + 1) = (p, q, 0)) := ⟨hlo, hhi, hh, hp⟩
  have h2w : 2 ≤ w.heap.size := by have := tab_lt hT; omega
  have hf := FivB.new (w.alloc (.cells #[.int .i64 u, .int .i64 d] 23)) (.slice none 0 0) (.slice none 0 0) (.int .i64 0) (.int .i64 0) (.int .i64 0) (w.heap.size + 1) (by simp)
  have b0 : Below w.heap.size w ((w.alloc (.cells #[.int .i64 u, .int .i64 d] 23)).alloc (.cells #[.slice none 0 0, .slice none 0 0, .int .i64 0, .int .i64 0, .int .i64 0] 28)) := bal (ba _ _) _
  obtain ⟨W0, hW0⟩ : ∃ W0, ((w.alloc (.cells #[.int .i64 u, .int .i64 d] 23)).alloc (.cells #[.slice none 0 0, .slice none 0 0, .int .i64 0, .int .i64 0, .int .i64 0] 28)) = W0 := ⟨_, rfl⟩
  rw [hW0] at hf b0
  have HF : Hid (FivB W0 (w.heap.size + 1) (.slice none 0 0) (.slice none 0 0) (.int .i64 0) (.int .i64 0) (.int .i64 0)) := hf
  have hs0 : Hid (W0.heap.size = w.heap.size + 2) := by rw [Hid, ← hW0]; simp
  have q0 : W0.cell? ⟨w.heap.size, 0, none⟩ = some (.int .i64 u) := by rw [← hW0]; simp [go_sem]
  have q1 : W0.cell? ⟨w.heap.size, 1, none⟩ = some (.int .i64 d) := by rw [← hW0]; simp [go_sem]
  have HT : Hid (TabAt 1 Lib.deBruijn64tab w) := hT
  clear h hf hlo hhi hh hp hT
  go_enter Tryd.func5, Tryd.ntmps5
  go_wp2_with fail
  refine (kn _).mono ?_
  rintro e1 w1 ⟨pv, rfl, hb1, hpv⟩
  obtain ⟨R, g0, cap0, rfl, hct⟩ : ∃ R g cap, pv = .pointer (some ⟨R, 0, none⟩) ∧ Ctr w1 W0.heap.size R k u d lo hi 0 g cap (List.replicate (k + 1) 0) := by
    rcases hpv with h | h
    · exact absurd rfl h
    · simpa using h
  have hRP : R < w1.heap.size := hct.box.lt
  have hs1 := hb1.size
  have nR1 := hct.nR
  obtain ⟨W3, hW3⟩ : ∃ W3, w1.alloc (.cells #[.slice none 0 0, .slice none 0 0, .int .i64 0, .int .i64 0, .int .i64 0] 28) = W3 := ⟨_, rfl⟩
  have hb3 : Below w1.heap.size w1 W3 := by rw [← hW3]; exact ba _ _
  have hs3 : Hid (W3.heap.size = w1.heap.size + 1) := by rw [Hid, ← hW3]; simp
  have S0 : Hid (CtS W0 R w1.heap.size k u d lo hi xs 0 (.slice none 0 0) (.slice none 0 0) [] g0 cap0 W3) := by
    refine ⟨?_, by simp [Value.ownBlock], by simp [Value.ownBlock], by have := hct.row.lt; omega, by rw [← hW3]; exact FivB.new _ _ _ _ _ _ _ rfl, ⟨rfl, .inl ⟨rfl, rfl⟩⟩, ⟨rfl, .inl ⟨rfl, rfl⟩⟩, fun g e => (by simp [Value.ownBlock] at e), fun t ht => (by cases ht), rfl, ?_, bt hb1 hb3⟩
    · simp only [List.take_zero, camT_nil, List.length_nil, opL_nil]
      exact hct.keep hb3
    · exact tab_gb (tab_gb (tab_gb HT.out (gb_none b0) (by simp)) (gb_none hb1) (by simp)) (gb_none hb3) (by simp)
  clear kn hpv hct q0 q1 hW0
  go_wp2_with fail
  go_loopw [33] (fun s wr => ∃ (i : Nat) (ta ea : Option Addr) (tc ec g cap : Nat) (tls : List Tl), s = .int .i64 (i : Int) ∧ i ≤ xs.length ∧ Hid (CtS W0 R w1.heap.size k u d lo hi xs i (.slice ta i tc) (.slice ea i ec) tls g cap wr)) (fun s _ => xs.length - (intOf s).toNat)
  case atStart => exact ⟨0, none, none, 0, 0, g0, cap0, [], rfl, Nat.zero_le _, by first | exact S0 | (rw [hW3]; exact S0)⟩
  case round =>
    obtain ⟨i, ta, ea, tc, ec, g, cap, tls, rfl, hil, S⟩ := hrel
    have Bw : Below w.heap.size w wr := bt b0 S.out.low
    by_cases h1 : i < xs.length
    · obtain ⟨ib, io, x, rfl, hib, hgx, hcx⟩ := HI.out.get' hB Bw h1
      obtain ⟨l, er, hst⟩ : ∃ l er, stT k u d lo hi (camT k (xs.take i)) x = (l, er) := ⟨_, _, rfl⟩
      have HST : Hid (stT k u d lo hi (camT k (xs.take i)) x = (l, er)) := hst
      have HX : Hid (xs[i]? = some x) := hgx
      have ks := step_any W0.heap.size R k u d lo hi g cap (camT k (xs.take i)) x wr S.out.ctr (by have := hs0.out; omega) S.out.tb hk (camT_cam _ _) HB.out.2.2.1 HB.out.1 HB.out.2.1 l er hst
      have z1 : (i : Int) < (xs.length : Int) := by omega
      clear hst hgx
      go_wp2_with fail
      refine ks.mono ?_
      rintro e2 w2 ⟨tv, zs, g', cap', rfl, hzs, hdos, hgr, hctr, hgg⟩
      subst hzs
      obtain ⟨va, vc, rfl⟩ := hdos.slice
      have T2 := S.out.two hRP hgr
      have HD : Hid (DosN w2 wr.heap.size (.slice va zs.length vc) zs) := hdos
      have HC : Hid (Ctr w2 W0.heap.size R k u d lo hi (nxT k (camT k (xs.take i)) x).length g' cap' (opL k (nxT k (camT k (xs.take i)) x))) := hctr
      have HG : Hid (wr.grownBy w2 (some R)) := hgr
      have hz2 : w1.heap.size + 1 ≤ w2.heap.size := by have h1 := S.out.out.lt; have h2 := hgr.size; omega
      clear ks hdos hctr hgr
      go_wp2_with fail
      refine wp_region_noPanic (region9 (fun _ _ _ _ h => h) w2 w1.heap.size (w1.heap.size + 1) i ta ea va tc ec zs.length vc er _ _ _ _ _ (by omega) (Nat.lt_succ_self _) hz2 T2 ?_)
      intro s46 s51 tv' ev' W2 h2
      refine NoPanic.normal ?_
      have S2 : Hid (CtS W0 R w1.heap.size k u d lo hi xs (i + 1) tv' ev' (tls ++ [(.slice va zs.length vc, zs)]) g' cap' ((W2.setCell ⟨w1.heap.size, 0, none⟩ tv').setCell ⟨w1.heap.size, 1, none⟩ ev')) := S.out.next hRP (by have := hs0.out; omega) HX.out HST.out HD.out HG.out HC.out hgg h2
      obtain ⟨ta', tc', rfl⟩ := row_slice h2.t
      obtain ⟨ea', ec', rfl⟩ := row_slice h2.e
      clear h2 T2
      go_wp2
      go_roundw
      case rel => exact ⟨i + 1, ta', ea', tc', ec', g', cap', _, by go_num, h1, S2⟩
      case measure => simp [intOf]; omega
    · obtain rfl : i = xs.length := by omega
      have z1 : ¬ ((xs.length : Nat) : Int) < (xs.length : Int) := by omega
      have ct := S.out.ctr
      have ki := fun W hW => time_any _ _ _ _ _ _ _ _ _ _ _ W (ct.keep hW)
      have ko := fun W hW => lost_any _ _ _ _ _ _ _ _ _ _ _ W (ct.keep hW) hk p q 0 HB.out.2.2.2
      have kt := ki wr (Below.refl _ _)
      rw [List.take_length] at kt
      have kp := ko wr (Below.refl _ _)
      clear ki ko ct
      go_wp2_with fail
      refine kt.mono ?_
      rintro e2 w2 ⟨rfl, hw2⟩
      have hwy := hw2.symm
      subst hwy
      clear hw2 kt
      go_wp2_with fail
      refine kp.mono ?_
      rintro e3 w3 ⟨rfl, hb3'⟩
      clear kp
      have HP : FivB w3 w1.heap.size (.slice ta xs.length tc) (.slice ea xs.length ec) (.int .i64 0) (.int .i64 0) (.int .i64 0) := S.out.out.same (hb3'.block _ S.out.out.lt)
      have HQ : FivB w3 (w.heap.size + 1) (.slice none 0 0) (.slice none 0 0) (.int .i64 0) (.int .i64 0) (.int .i64 0) := (HF.out.same (S.out.low.block _ HF.out.lt)).same (hb3'.block _ (Nat.lt_of_lt_of_le HF.out.lt S.out.low.size))
      have hne : w1.heap.size ≠ w.heap.size + 1 := by have := hs0.out; omega
      have hne' : ¬ w.heap.size + 1 = w1.heap.size := fun e => hne e.symm
      obtain ⟨F1, F2⟩ := fin5 (.int .i64 ((camT k xs).length : Int)) (.int .i64 p) (tv := .slice ta xs.length tc) (ev := .slice ea xs.length ec) (.int .i64 q) HQ hne
      obtain ⟨Z, hZ⟩ : ∃ Z, ((((((((w3.setCell ⟨w1.heap.size, 2, none⟩ (.int .i64 ((camT k xs).length : Int))).setCell ⟨w1.heap.size, 3, none⟩ (.int .i64 p)).setCell ⟨w1.heap.size, 4, none⟩ (.int .i64 q)).setCell ⟨w.heap.size + 1, 0, none⟩ (.slice ta xs.length tc)).setCell ⟨w.heap.size + 1, 1, none⟩ (.slice ea xs.length ec)).setCell ⟨w.heap.size + 1, 2, none⟩ (.int .i64 ((camT k xs).length : Int))).setCell ⟨w.heap.size + 1, 3, none⟩ (.int .i64 p)).setCell ⟨w.heap.size + 1, 4, none⟩ (.int .i64 q)) = Z := ⟨_, rfl⟩
      rw [hZ] at F1 F2
      have hw1w : w.heap.size + 1 ≤ w1.heap.size := by have := hs0.out; omega
      have K5 : Kp wr Z (fun b => b ≤ w1.heap.size) := ((kp_below hb3').trans F2).mono (fun b _ e => by rcases e with e | e <;> omega)
      have TL := S.out.tll K5
      have B5 : Below w.heap.size w Z := by
        refine ⟨F2.os.trans (hb3'.os.trans Bw.os), F2.tape.trans (hb3'.tape.trans Bw.tape), F2.output.trans (hb3'.output.trans Bw.output), Nat.le_trans Bw.size K5.size, fun b hb => ?_⟩
        have h1 := Bw.size
        have h2 := hb3'.size
        exact (F2.block b (by omega) (by omega)).trans ((hb3'.block b (by omega)).trans (Bw.block b hb))
      have POST : Hid (CountP w k u d lo hi xs p q (.returned (.tuple #[.agg #[.slice ta xs.length tc, .slice ea xs.length ec, .int .i64 ((camT k xs).length : Int), .int .i64 p, .int .i64 q], .int .i64 0])) Z) := ⟨_, _, tls, rfl, TL.1, TL.2, S.out.told, B5⟩
      obtain ⟨c0, f0, c1, f1, c2', f2, c3, f3, c4, f4⟩ := HP.all
      obtain ⟨d0, k0, d1, k1, d2, k2, d3, k3, d4, k4⟩ := HQ.all
      obtain ⟨n0, _, n1, _, n2, _, n3, _, n4, _⟩ := F1.all
      clear TL K5 F2 F1 HP HQ
      go_wp2_with fail
      try simp only [hZ]
      exact bodyPost_ret (v := .tuple #[.agg #[.slice ta xs.length tc, .slice ea xs.length ec, .int .i64 ((camT k xs).length : Int), .int .i64 p, .int .i64 q], .int .i64 0]) (by simp [results, Tryd.results5, go_sem, n0, n1, n2, n3, n4]) rfl POST.out
end Go.Proofs.YtjembpcpefgdpaaDoor
