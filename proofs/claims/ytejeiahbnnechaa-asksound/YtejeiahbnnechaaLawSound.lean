import Derived.Test.YtejeiahbnnechaaRun
import Derived.Test.YtejeiahbnnechaaRpt
namespace Go.Proofs.Ytejeiahbnnechaa
open Go.RowKit Go.Proofs.Ytejeiahbnnechaa.Ds

def liveL : List Col := [(⟨#[97]⟩, 2)]
def liveQ : Qu := .node 1 ⟨#[]⟩ 0 0 [] 0 .none .none
theorem live_typ : typV (typ liveL liveQ) = ((1, 1, 4096), 0) := by
  have h1 : colE liveL = 0 := by decide
  have h2 : bnd liveL 1 liveQ = .ok (1, 1, 4096) := by simp [bnd, liveQ, kidN, ifK, rec, ifW, whE, tsE, lim, limB]
  rw [typ, if_pos h1, h2]
  rfl
set_option maxHeartbeats 1000000 in
set_option maxRecDepth 100000 in
theorem alive_any (w : World) : Calls Try.prog 15 #[] w fun e w' => e = .returned (.bool true) ∧ Below w.heap.size w w' := by
  have hb0 := ba w (.cells #[.string ⟨#[97]⟩, .int .i64 2] 58)
  have hc : Cols (w.alloc (.cells #[.string ⟨#[97]⟩, .int .i64 2] 58)) (w.heap.size + 1) (.slice (some ⟨w.heap.size, 0, none⟩) 1 1) liveL := by
    refine ⟨_, _, rfl, Nat.le_refl _, by decide, fun x hx => ?_, fun _ => ⟨w.heap.size, 0, rfl, by omega, fun i x hi => ?_⟩⟩
    · obtain rfl := List.mem_singleton.1 hx; decide
    · match i, hi with
      | 0, hi =>
        have : x = (⟨#[97]⟩, 2) := by simpa [liveL] using hi.symm
        subst this
        exact ⟨nc _ _ 0 _ rfl rfl, nc _ _ 1 _ rfl rfl⟩
      | n + 1, hi => simp [liveL] at hi
  have hq : Qm (w.alloc (.cells #[.string ⟨#[97]⟩, .int .i64 2] 58)) (w.heap.size + 1) liveQ (.int .i64 1) (.string ⟨#[]⟩) (.int .i64 0) (.int .i64 0) (.slice none 0 0) (.slice none 0 0) :=
    ⟨rfl, rfl, rfl, rfl, by decide, ⟨none, 0, rfl, Nat.le_refl _, by decide, (fun x hx => by cases hx), fun h => absurd rfl h⟩, none, 0, rfl, Nat.le_refl _, by decide, fun h => absurd h (by decide)⟩
  have k1 := type_any liveL liveQ _ (w.heap.size + 1) _ _ _ _ _ _ _ 1 1 4096 0 (by simp) hc hq live_typ
  clear hc hq
  go_enter Try.func15, Try.ntmps15
  go_wp2_with fail
  refine k1.mono ?_
  rintro e w1 ⟨rfl, hb1⟩
  clear k1
  have hbw := bt hb0 (bal hb1 (.cells #[.int .i64 1, .int .i64 1, .int .i64 4096] 28))
  go_wp2
  go_ret
  exact ⟨rfl, hbw⟩

theorem runT_typ {l : List Col} {rs : List (List Int)} {q : Qu} (h : wroE l rs = 0) : runT l rs q = match typ l q with | .ok _ => .ok (ans l rs q) | .error e => .error e := by
  rw [runT, if_pos h, typ, if_pos (wroE_ok h).1]
  cases bnd l 1 q <;> rfl

set_option maxHeartbeats 4000000 in
set_option maxRecDepth 100000 in
theorem askSound_walk (B : Nat) (cv rv v0 v1 v2 v3 v4 v5 : Value) (l : List Col) (ts : List Rw) (q : Qu) (w : World) (hB : B ≤ w.heap.size) (hp : Cols w B cv l) (hr : Rws w B rv ts) (hq : Qm w B q v0 v1 v2 v3 v4 v5) :
    Calls Try.prog 5 #[.agg #[cv, rv], .agg #[v0, v1, v2, v3, v4, v5]] w fun e w' => e = .returned (.bool true) ∧ Below w.heap.size w w' := by
  have HP : Hid (Cols w B cv l) := hp
  have HRW : Hid (Rws w B rv ts) := hr
  have HQ : Hid (Qm w B q v0 v1 v2 v3 v4 v5) := hq
  obtain ⟨la, lc, rfl, _⟩ := hp.slice
  obtain ⟨ra, rc, rfl, _⟩ := hr.slice
  obtain ⟨kk, kc, kl, kh, ka, kn', kd, kb, km, kp, rfl, rfl, rfl, rfl, rfl, rfl⟩ := hq.shape
  have hb0 : Below w.heap.size w ((w.alloc (.cells #[.slice la l.length lc, .slice ra ts.length rc] 37)).alloc (.cells #[.int .i64 kk, .string kc, .int .i64 kl, .int .i64 kh, .slice ka kn' kd, .slice kb km kp] 26)) := bal (ba _ _) _
  have HT : Hid (Cl ((w.alloc (.cells #[.slice la l.length lc, .slice ra ts.length rc] 37)).alloc (.cells #[.int .i64 kk, .string kc, .int .i64 kl, .int .i64 kh, .slice ka kn' kd, .slice kb km kp] 26)) w.heap.size 0 (.slice la l.length lc) ∧ Cl ((w.alloc (.cells #[.slice la l.length lc, .slice ra ts.length rc] 37)).alloc (.cells #[.int .i64 kk, .string kc, .int .i64 kl, .int .i64 kh, .slice ka kn' kd, .slice kb km kp] 26)) w.heap.size 1 (.slice ra ts.length rc)) := ⟨(Cl.new _ 37 _ _ rfl rfl).at (ba _ _), (Cl.new _ 37 _ _ rfl rfl).at (ba _ _)⟩
  have HN : Hid (Bx ((w.alloc (.cells #[.slice la l.length lc, .slice ra ts.length rc] 37)).alloc (.cells #[.int .i64 kk, .string kc, .int .i64 kl, .int .i64 kh, .slice ka kn' kd, .slice kb km kp] 26)) (w.heap.size + 1) (.int .i64 kk) (.string kc) (.int .i64 kl) (.int .i64 kh) (.slice ka kn' kd) (.slice kb km kp)) := Bx.new _ _ (by simp) _ _ _ _ _ _
  clear hp hr hq
  go_enter Try.func5, Try.ntmps5
  go_wp2_with fail
  refine (alive_any _).mono ?_
  rintro e w1 ⟨rfl, hb1⟩
  have hbw1 := bt hb0 hb1
  have HT1 : Hid (Cl w1 w.heap.size 0 (.slice la l.length lc) ∧ Cl w1 w.heap.size 1 (.slice ra ts.length rc)) := ⟨HT.out.1.at hb1, HT.out.2.at hb1⟩
  have HN1 : Hid (Bx w1 (w.heap.size + 1) (.int .i64 kk) (.string kc) (.int .i64 kl) (.int .i64 kh) (.slice ka kn' kd) (.slice kb km kp)) := HN.out.at hb1
  clear hb0 hb1 HT HN
  obtain ⟨ew, hew⟩ : ∃ ew, wroE l (rr ts) = ew := ⟨_, rfl⟩
  have k2 := rwrong_any B _ _ l ts w1 (Nat.le_trans hB hbw1.size) (HP.out.at hB hbw1) (HRW.out.at hB hbw1) ew hew
  have HEW : Hid (wroE l (rr ts) = ew) := hew
  clear hew
  have m0 := HT1.out.1.c
  have m1 := HT1.out.2.c
  go_wp2_with fail
  refine k2.mono ?_
  rintro e w2 ⟨rfl, hb2⟩
  clear k2 m0 m1
  have hbw2 := bt hbw1 hb2
  by_cases he : ew = 0
  · subst he
    have HT2 : Hid (Cl w2 w.heap.size 0 (.slice la l.length lc) ∧ Cl w2 w.heap.size 1 (.slice ra ts.length rc)) := ⟨HT1.out.1.at hb2, HT1.out.2.at hb2⟩
    have HN2 : Hid (Bx w2 (w.heap.size + 1) (.int .i64 kk) (.string kc) (.int .i64 kl) (.int .i64 kh) (.slice ka kn' kd) (.slice kb km kp)) := HN1.out.at hb2
    clear HT1 HN1 hb2 hbw1
    obtain ⟨b1, b2, b3, te, hty⟩ : ∃ b1 b2 b3 te, typV (typ l q) = ((b1, b2, b3), te) := ⟨_, _, _, _, rfl⟩
    obtain ⟨xs, er, hru⟩ : ∃ xs er, runV (runT l (rr ts) q) = (xs, er) := ⟨_, _, rfl⟩
    have k3 := type_any l q w2 B _ _ _ _ _ _ _ b1 b2 b3 te (Nat.le_trans hB hbw2.size) (HP.out.at hB hbw2) (HQ.out.at hB hbw2) hty
    have m0 := HT2.out.1.c
    have m1 := HN2.out.a0.c
    have m2 := HN2.out.a1.c
    have m3 := HN2.out.a2.c
    have m4 := HN2.out.a3.c
    have m5 := HN2.out.a4.c
    have m6 := HN2.out.a5.c
    have HTY : Hid (typV (typ l q) = ((b1, b2, b3), te)) := hty
    have HRU : Hid (runV (runT l (rr ts) q) = (xs, er)) := hru
    clear hty hru
    go_wp2_with fail
    refine k3.mono ?_
    rintro e w3 ⟨rfl, hb3⟩
    clear k3 m0 m1 m2 m3 m4 m5 m6
    have hb3' := bal hb3 (.cells #[.int .i64 b1, .int .i64 b2, .int .i64 b3] 28)
    have hbw3 := bt hbw2 hb3'
    have HT3 : Hid (Cl (w3.alloc (.cells #[.int .i64 b1, .int .i64 b2, .int .i64 b3] 28)) w.heap.size 0 (.slice la l.length lc) ∧ Cl (w3.alloc (.cells #[.int .i64 b1, .int .i64 b2, .int .i64 b3] 28)) w.heap.size 1 (.slice ra ts.length rc)) := ⟨HT2.out.1.at hb3', HT2.out.2.at hb3'⟩
    have HN3 : Hid (Bx (w3.alloc (.cells #[.int .i64 b1, .int .i64 b2, .int .i64 b3] 28)) (w.heap.size + 1) (.int .i64 kk) (.string kc) (.int .i64 kl) (.int .i64 kh) (.slice ka kn' kd) (.slice kb km kp)) := HN2.out.at hb3'
    have HT3' : Hid (T3 (w3.alloc (.cells #[.int .i64 b1, .int .i64 b2, .int .i64 b3] 28)) w3.heap.size (b1, b2, b3)) := T3.new _ _ rfl _ _ _
    have k4 := askRun_any l ts q _ B _ _ _ _ _ _ _ _ xs er (Nat.le_trans hB hbw3.size) (HP.out.at hB hbw3) (HRW.out.at hB hbw3) (HQ.out.at hB hbw3) HRU.out
    have m0 := HT3.out.1.c
    have m7 := HT3.out.2.c
    have m1 := HN3.out.a0.c
    have m2 := HN3.out.a1.c
    have m3 := HN3.out.a2.c
    have m4 := HN3.out.a3.c
    have m5 := HN3.out.a4.c
    have m6 := HN3.out.a5.c
    clear HT2 HN2 hb3 hb3'
    go_wp2_with fail
    refine k4.mono ?_
    rintro e w4 ⟨xa, xc, rfl, hI, hb4⟩
    clear k4 m0 m1 m2 m3 m4 m5 m6 m7
    have hbw4 := bt hbw3 hb4
    have HI : Hid (Ints w4 w4.heap.size w4.heap.size (.slice xa xs.length xc) xs) := hI
    have HT4 : Hid (T3 w4 w3.heap.size (b1, b2, b3)) := HT3'.out.at hb4
    clear HT3 HN3 HT3' hb4 hI hbw3
    rcases typV_split HTY.out (fun e he => typ_ne he) with ⟨rfl, ht⟩ | ⟨hte, ht⟩
    · obtain ⟨hxs, rfl⟩ : ans l (rr ts) q = xs ∧ 0 = er := by
        have := HRU.out
        rw [runT_typ HEW.out, ht] at this
        simp only [runV, Prod.mk.injEq] at this
        exact this
      obtain ⟨hce, hle, hok⟩ := wroE_ok HEW.out
      have hsd := ans_ok (colE_ok hce).2.2.1 hle q 1 _ (typ_ok ht).2 HQ.out.ne
      have hbd := bnd_bd (colE_ok hce).2.2.1 q 1 _ (typ_ok ht).2
      rw [hxs] at hsd
      have HSD : Hid (Bdd b3 xs) := hsd.2
      obtain ⟨j1, j2, j3, j4, j5, j6⟩ := hbd
      simp only at j1 j2 j3 j4 j5 j6
      have hxl : (xs.length : Int) = b1 := hsd.1
      have hxl' : ((xs.length : Int) != b1) = false := by simpa using hxl
      have hxl2 : xs.length ≤ 9223372036854775807 := by omega
      have s0 := HT4.out.c0.c
      have s1 := HT4.out.c1.c
      have s2 := HT4.out.c2.c
      clear hsd hce hle hok ht hxs hxl
      go_wp2
      go_loopw [56] (fun s' wr => ∃ i : Nat, s' = .int .i64 (i : Int) ∧ i ≤ xs.length ∧ wr = w4) (fun s' _ => xs.length - (intOf s').toNat)
      case atStart => exact ⟨0, rfl, Nat.zero_le _, rfl⟩
      case round =>
        obtain ⟨i, rfl, hi, rfl⟩ := hrel
        by_cases h1 : i < xs.length
        · obtain ⟨b, o, x, rfl, _, _, _, hg, _, hcell⟩ := HI.out.got h1
          have hx := HSD.out.get hg
          obtain ⟨y1, y2⟩ := hx
          have y3 : ¬ b3 < x := by omega
          have y4 : ¬ x < -b3 := by omega
          have y5 : decide (x < -b3) = false := decide_eq_false y4
          clear hg
          go_wp2
          go_roundw
          case rel => exact ⟨i + 1, by go_num, h1, trivial⟩
          case measure => simp [intOf]; omega
        · go_wp2
          go_ret
          exact ⟨rfl, hbw4⟩
    · obtain ⟨rfl, rfl⟩ : [] = xs ∧ te = er := by
        have := HRU.out
        rw [runT_typ HEW.out, ht] at this
        simp only [runV, Prod.mk.injEq] at this
        exact this
      have hne : (te != 0) = true := by simpa using hte
      clear ht
      go_wp2
      go_ret
      exact ⟨rfl, hbw4⟩
  · have hne : (ew != 0) = true := by simpa using he
    go_wp2
    go_ret
    exact ⟨rfl, hbw2⟩
end Go.Proofs.Ytejeiahbnnechaa
