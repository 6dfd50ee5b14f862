import Derived.Test.YtejeiahbnnechaaMvs
import Derived.Test.YtejeiahbnnechaaLawSound
import Derived.Test.YtejeiahbnnechaaApa
import Derived.Deep.RegionHeld3
namespace Go.Proofs.Ytejeiahbnnechaa
open Go.RowKit Go.Proofs.Ytejeiahbnnechaa.Ds

theorem apaS_tog : ∀ (x y : List Int), x.length = y.length → (∀ a ∈ x, 0 ≤ a) → (∀ a ∈ y, 0 ≤ a) → apaS x y ≤ togS x + togS y := by
  intro x
  induction x with
  | nil => intro y h _ _; obtain rfl := List.length_eq_zero_iff.1 h.symm; simp [apaS_nil, togS]
  | cons a x ih =>
    intro y h hx hy
    match y, h, hy with
    | b :: y, h, hy =>
      simp only [apaS_cons, togS]
      have h1 := ih y (by simpa using h) (fun z hz => hx z (List.mem_cons_of_mem _ hz)) (fun z hz => hy z (List.mem_cons_of_mem _ hz))
      have h2 := hx a (List.mem_cons_self ..)
      have h3 := hy b (List.mem_cons_self ..)
      omega
theorem ab_max (a b : Int) : ab (a - b) = max (a - b) (b - a) := by unfold ab; split <;> omega
set_option maxHeartbeats 2000000 in
set_option maxRecDepth 100000 in
theorem dist_any (B n1 n2 : Nat) (u v : Value) (xs ys : List Int) (w : World) (hB : B ≤ w.heap.size) (hx : Ints w B n1 u xs) (hy : Ints w B n2 v ys) (hl : xs.length = ys.length) (hlen : xs.length ≤ 4096) (hbx : Bdd 1099511627776 xs) (hby : Bdd 1099511627776 ys) (r : Int) (hr : apaS xs ys = r) :
    Calls Try.prog 18 #[u, v] w fun e w' => e = .returned (.int .i64 r) ∧ Below w.heap.size w w' := by
  have HX : Hid (Ints w B n1 u xs) := hx
  have HY : Hid (Ints w B n2 v ys) := hy
  have HL : Hid (xs.length = ys.length) := hl
  have HBX : Hid (Bdd 1099511627776 xs) := hbx
  have HBY : Hid (Bdd 1099511627776 ys) := hby
  have HR : Hid (apaS xs ys = r) := hr
  obtain ⟨ax, cx, rfl, _⟩ := hx
  obtain ⟨ay, cy, rfl, _⟩ := hy
  clear hl hbx hby hr
  go_enter Try.func18, Try.ntmps18
  go_wp2
  go_loopw [5, 9] (fun t s' wr => ∃ (i : Nat) (k : Int), t = .int .i64 k ∧ s' = .int .i64 (i : Int) ∧ i ≤ xs.length ∧ Hid (k + apaS (xs.drop i) (ys.drop i) = r) ∧ Hid (0 ≤ k ∧ k ≤ i * 2199023255552) ∧ Below w.heap.size w wr) (fun _ s' _ => xs.length - (intOf s').toNat)
  case atStart => exact ⟨0, 0, rfl, rfl, Nat.zero_le _, by show _ = _; rw [List.drop_zero, List.drop_zero, Int.zero_add]; exact HR.out, by show _ ∧ _; omega, Below.refl _ _⟩
  case round =>
    obtain ⟨i, k, rfl, rfl, hi, HI, HK, hbr⟩ := hrel
    by_cases h1 : i < xs.length
    · have h1y : i < ys.length := by have := HL.out; omega
      obtain ⟨b, o, x, rfl, hb, hn, hgx, hcx⟩ := HX.out.get hB hbr h1
      obtain ⟨b', o', y, rfl, hb', hn', hgy, hcy⟩ := HY.out.get hB hbr h1y
      have bx := HBX.out x (List.mem_of_getElem? hgx)
      have b_y := HBY.out y (List.mem_of_getElem? hgy)
      obtain ⟨k1, k2⟩ := HK.out
      have hab : 0 ≤ ab (x - y) ∧ ab (x - y) ≤ 2199023255552 := by rw [ab_max]; omega
      have hw1 : IntKind.i64.wrap (x - y) = x - y := by rw [wrapEq]; exact wrap_id (by omega)
      have kt := abs_any (x - y) (by omega) wr.drew
      have HI2 : Hid (k + ab (x - y) + apaS (xs.drop (i + 1)) (ys.drop (i + 1)) = r) := by
        have := HI.out
        rw [apaS_step hgx hgy, ← ab_max] at this
        show _ = _
        omega
      obtain ⟨z, hz⟩ : ∃ z, ab (x - y) = z := ⟨_, rfl⟩
      rw [hz] at hab kt HI2
      have hw2 : IntKind.i64.wrap (k + z) = k + z := by rw [wrapEq]; exact wrap_id (by omega)
      have HK2 : Hid (0 ≤ k + z ∧ k + z ≤ (i + 1 : Nat) * 2199023255552) := by show _ ∧ _; omega
      have hi1 : (0 : Int) ≤ (i : Int) := by omega
      have hi2 : (i : Int) < (xs.length : Int) := by omega
      have hi3 : (i : Int) < (ys.length : Int) := by omega
      clear hgx hgy bx b_y k1 k2 hab hz
      go_wp2
      go_region_held3 (fun w' => w'.cell? ⟨b, o + i, none⟩ = some (.int .i64 x) ∧ w'.cell? ⟨b', o' + i, none⟩ = some (.int .i64 y)) (first | assumption | (simp [go_sem, *]; done)) ((go_at_call 41; refine kt.mono ?_; rintro x3 w3 ⟨rfl, hw3⟩; subst hw3))
      go_wp2
      go_roundw
      case rel => exact ⟨i + 1, k + z, rfl, by go_num, h1, HI2, HK2, hbr.drew⟩
      case measure => simp [intOf]; omega
    · obtain rfl : k = r := by have := HI.out; rw [List.drop_of_length_le (by omega), List.drop_of_length_le (by have := HL.out; omega), apaS_nil] at this; omega
      go_wp2
      go_ret
      exact ⟨rfl, hbr⟩

/-- two tables and a question in boxes -/
structure Mv (W : World) (N : Nat) (cu ru cv rv v0 v1 v2 v3 v4 v5 : Value) : Prop where
  s0 : Cl W N 0 cu
  s1 : Cl W N 1 ru
  t0 : Cl W (N + 1) 0 cv
  t1 : Cl W (N + 1) 1 rv
  a0 : Cl W (N + 1 + 1) 0 v0
  a1 : Cl W (N + 1 + 1) 1 v1
  a2 : Cl W (N + 1 + 1) 2 v2
  a3 : Cl W (N + 1 + 1) 3 v3
  a4 : Cl W (N + 1 + 1) 4 v4
  a5 : Cl W (N + 1 + 1) 5 v5
theorem Mv.at {W W' : World} {N : Nat} {cu ru cv rv v0 v1 v2 v3 v4 v5 : Value} (h : Mv W N cu ru cv rv v0 v1 v2 v3 v4 v5) (hb : Below W.heap.size W W') : Mv W' N cu ru cv rv v0 v1 v2 v3 v4 v5 :=
  ⟨h.s0.at hb, h.s1.at hb, h.t0.at hb, h.t1.at hb, h.a0.at hb, h.a1.at hb, h.a2.at hb, h.a3.at hb, h.a4.at hb, h.a5.at hb⟩
theorem Mv.new (w : World) (cu ru cv rv v0 v1 v2 v3 v4 v5 : Value) : Mv (((w.alloc (.cells #[cu, ru] 37)).alloc (.cells #[cv, rv] 37)).alloc (.cells #[v0, v1, v2, v3, v4, v5] 26)) w.heap.size cu ru cv rv v0 v1 v2 v3 v4 v5 := by
  constructor
  all_goals first
    | exact ((Cl.new _ 37 _ _ rfl rfl).at (ba _ _)).at (ba _ _)
    | exact (Cl.new _ 37 _ _ (by simp) rfl).at (ba _ _)
    | exact Cl.new _ 26 _ _ (by simp) rfl

set_option maxHeartbeats 4000000 in
set_option maxRecDepth 100000 in
theorem askMoves_walk (B : Nat) (cu ru cv rv v0 v1 v2 v3 v4 v5 : Value) (l : List Col) (ts : List Rw) (m : List Col) (us : List Rw) (q : Qu) (w : World) (hB : B ≤ w.heap.size) (hp : Cols w B cu l) (hr : Rws w B ru ts) (hp2 : Cols w B cv m) (hr2 : Rws w B rv us) (hq : Qm w B q v0 v1 v2 v3 v4 v5) :
    Calls Try.prog 6 #[.agg #[cu, ru], .agg #[cv, rv], .agg #[v0, v1, v2, v3, v4, v5]] w fun e w' => e = .returned (.bool true) ∧ Below w.heap.size w w' := by
  have HP : Hid (Cols w B cu l) := hp
  have HRW : Hid (Rws w B ru ts) := hr
  have HP2 : Hid (Cols w B cv m) := hp2
  have HRW2 : Hid (Rws w B rv us) := hr2
  have HQ : Hid (Qm w B q v0 v1 v2 v3 v4 v5) := hq
  obtain ⟨la, lc, rfl, _⟩ := hp.slice
  obtain ⟨ra, rc, rfl, _⟩ := hr.slice
  obtain ⟨ma, mc, rfl, _⟩ := hp2.slice
  obtain ⟨sa, sc, rfl, _⟩ := hr2.slice
  obtain ⟨kk, kc, kl, kh, ka, kn', kd, kb, km, kp, rfl, rfl, rfl, rfl, rfl, rfl⟩ := hq.shape
  have hb0 : Below w.heap.size w (((w.alloc (.cells #[.slice la l.length lc, .slice ra ts.length rc] 37)).alloc (.cells #[.slice ma m.length mc, .slice sa us.length sc] 37)).alloc (.cells #[.int .i64 kk, .string kc, .int .i64 kl, .int .i64 kh, .slice ka kn' kd, .slice kb km kp] 26)) := bal (bal (ba _ _) _) _
  have HM0 : Hid (Mv (((w.alloc (.cells #[.slice la l.length lc, .slice ra ts.length rc] 37)).alloc (.cells #[.slice ma m.length mc, .slice sa us.length sc] 37)).alloc (.cells #[.int .i64 kk, .string kc, .int .i64 kl, .int .i64 kh, .slice ka kn' kd, .slice kb km kp] 26)) w.heap.size (.slice la l.length lc) (.slice ra ts.length rc) (.slice ma m.length mc) (.slice sa us.length sc) (.int .i64 kk) (.string kc) (.int .i64 kl) (.int .i64 kh) (.slice ka kn' kd) (.slice kb km kp)) := Mv.new _ _ _ _ _ _ _ _ _ _ _
  clear hp hr hp2 hr2 hq
  go_enter Try.func6, Try.ntmps6
  go_wp2_with fail
  refine (alive_any _).mono ?_
  rintro e w1 ⟨rfl, hb1⟩
  have hbw1 := bt hb0 hb1
  have HM1 : Hid (Mv w1 w.heap.size (.slice la l.length lc) (.slice ra ts.length rc) (.slice ma m.length mc) (.slice sa us.length sc) (.int .i64 kk) (.string kc) (.int .i64 kl) (.int .i64 kh) (.slice ka kn' kd) (.slice kb km kp)) := HM0.out.at hb1
  clear hb0 hb1 HM0
  obtain ⟨n, hn⟩ : ∃ n, apaT l m (rr ts) (rr us) = n := ⟨_, rfl⟩
  obtain ⟨ea, hea⟩ : ∃ ea, apaE l m (rr ts) (rr us) = ea := ⟨_, rfl⟩
  have k2 := apart_any B _ _ _ _ l m ts us w1 (Nat.le_trans hB hbw1.size) (HP.out.at hB hbw1) (HRW.out.at hB hbw1) (HP2.out.at hB hbw1) (HRW2.out.at hB hbw1) n ea hn hea
  have HNN : Hid (apaT l m (rr ts) (rr us) = n) := hn
  have HEA : Hid (apaE l m (rr ts) (rr us) = ea) := hea
  clear hn hea
  have m0 := HM1.out.s0.c
  have m1 := HM1.out.s1.c
  have m2 := HM1.out.t0.c
  have m3 := HM1.out.t1.c
  have m4 := HM1.out.a0.c
  have m5 := HM1.out.a1.c
  have m6 := HM1.out.a2.c
  have m7 := HM1.out.a3.c
  have m8 := HM1.out.a4.c
  have m9 := HM1.out.a5.c
  go_wp2_with fail
  refine k2.mono ?_
  rintro e w2 ⟨rfl, hb2⟩
  clear m0 m1 m2 m3 m4 m5 m6 m7 m8 m9
  clear k2
  have hbw2 := bt hbw1 hb2
  have HM2 : Hid (Mv w2 w.heap.size (.slice la l.length lc) (.slice ra ts.length rc) (.slice ma m.length mc) (.slice sa us.length sc) (.int .i64 kk) (.string kc) (.int .i64 kl) (.int .i64 kh) (.slice ka kn' kd) (.slice kb km kp)) := HM1.out.at hb2
  clear hb2 HM1 hbw1
  by_cases he : ea = 0
  · subst he
    obtain ⟨ewa, ewb, rfl⟩ := apaE_ok HEA.out
    have HWA : Hid (wroE l (rr ts) = 0 ∧ wroE l (rr us) = 0) := ⟨ewa, ewb⟩
    have HNC : Hid (apaS (celT l (rr ts)) (celT l (rr us)) = n) := by have := HNN.out; rwa [apaT, if_pos HEA.out] at this
    clear ewa ewb HNN HEA
    obtain ⟨b1, b2, b3, te, hty⟩ : ∃ b1 b2 b3 te, typV (typ l q) = ((b1, b2, b3), te) := ⟨_, _, _, _, rfl⟩
    obtain ⟨xs, er, hru⟩ : ∃ xs er, runV (runT l (rr ts) q) = (xs, er) := ⟨_, _, rfl⟩
    obtain ⟨ys, fr, hru2⟩ : ∃ ys fr, runV (runT l (rr us) q) = (ys, fr) := ⟨_, _, rfl⟩
    have k3 := type_any l q w2 B _ _ _ _ _ _ _ b1 b2 b3 te (Nat.le_trans hB hbw2.size) (HP.out.at hB hbw2) (HQ.out.at hB hbw2) hty
    have HTY : Hid (typV (typ l q) = ((b1, b2, b3), te)) := hty
    have HRU : Hid (runV (runT l (rr ts) q) = (xs, er)) := hru
    have HRU2 : Hid (runV (runT l (rr us) q) = (ys, fr)) := hru2
    clear hty hru hru2
    have m0 := HM2.out.s0.c
    have m1 := HM2.out.s1.c
    have m2 := HM2.out.t0.c
    have m3 := HM2.out.t1.c
    have m4 := HM2.out.a0.c
    have m5 := HM2.out.a1.c
    have m6 := HM2.out.a2.c
    have m7 := HM2.out.a3.c
    have m8 := HM2.out.a4.c
    have m9 := HM2.out.a5.c
    go_wp2_with fail
    refine k3.mono ?_
    rintro e w3 ⟨rfl, hb3⟩
    clear m0 m1 m2 m3 m4 m5 m6 m7 m8 m9
    clear k3
    rcases typV_split HTY.out (fun e he => typ_ne he) with ⟨rfl, ht⟩ | ⟨hte, ht⟩
    · have hb3' := bal hb3 (.cells #[.int .i64 b1, .int .i64 b2, .int .i64 b3] 28)
      have hbw3 := bt hbw2 hb3'
      have HM3 : Hid (Mv (w3.alloc (.cells #[.int .i64 b1, .int .i64 b2, .int .i64 b3] 28)) w.heap.size (.slice la l.length lc) (.slice ra ts.length rc) (.slice ma l.length mc) (.slice sa us.length sc) (.int .i64 kk) (.string kc) (.int .i64 kl) (.int .i64 kh) (.slice ka kn' kd) (.slice kb km kp)) := HM2.out.at hb3'
      have HT3 : Hid (T3 (w3.alloc (.cells #[.int .i64 b1, .int .i64 b2, .int .i64 b3] 28)) w3.heap.size (b1, b2, b3)) := T3.new _ _ rfl _ _ _
      obtain ⟨hxs, rfl⟩ : ans l (rr ts) q = xs ∧ 0 = er := by
        have := HRU.out
        rw [runT_typ HWA.out.1, ht] at this
        simp only [runV, Prod.mk.injEq] at this
        exact this
      obtain ⟨hys, rfl⟩ : ans l (rr us) q = ys ∧ 0 = fr := by
        have := HRU2.out
        rw [runT_typ HWA.out.2, ht] at this
        simp only [runV, Prod.mk.injEq] at this
        exact this
      obtain ⟨hce, hle, hok⟩ := wroE_ok HWA.out.1
      obtain ⟨_, hle2, hok2⟩ := wroE_ok HWA.out.2
      have hsz := (colE_ok hce).2.2.1
      have hsd := ans_ok hsz hle q 1 _ (typ_ok ht).2 HQ.out.ne
      have hsd2 := ans_ok hsz hle2 q 1 _ (typ_ok ht).2 HQ.out.ne
      obtain ⟨j1, j2, j3, j4, j5, j6⟩ := bnd_bd hsz q 1 _ (typ_ok ht).2
      simp only at j1 j2 j3 j4 j5 j6 hsd hsd2
      have hD := ans_D hsz hle hle2 hok hok2 q 1 _ (typ_ok ht).2
      rw [hxs] at hsd
      rw [hys] at hsd2
      rw [hxs, hys, HNC.out] at hD
      simp only at hD
      have HBX : Hid (Bdd 1099511627776 xs ∧ Bdd 1099511627776 ys) := ⟨hsd.2.mono j6, hsd2.2.mono j6⟩
      have HXY : Hid (xs.length = ys.length) := by have := hsd.1; have := hsd2.1; show _ = _; omega
      have hxl : xs.length ≤ 4096 := by have := hsd.1; omega
      have hnb : 0 ≤ n ∧ n ≤ 8192 := by
        rw [← HNC.out]
        have h1 := apaS_tog (celT l (rr ts)) (celT l (rr us)) (by rw [celT_len, celT_len]) (fun a ha => (celT_bd ha).1) (fun a ha => (celT_bd ha).1)
        rw [celT_sum hsz _ (rr ts) rfl hok, celT_sum hsz _ (rr us) rfl hok2] at h1
        exact ⟨apaS_nn _ _, by omega⟩
      have hmb := mul_bd hnb.1 hnb.2 j3 j4
      have hwm : IntKind.i64.wrap (n * b2) = n * b2 := by rw [wrapEq]; exact wrap_id (by omega)
      obtain ⟨dd, hdd⟩ : ∃ dd, apaS xs ys = dd := ⟨_, rfl⟩
      rw [hdd, Int.mul_comm] at hD
      have HDD : Hid (apaS xs ys = dd) := hdd
      obtain ⟨nm, hnm⟩ : ∃ nm, n * b2 = nm := ⟨_, rfl⟩
      rw [hnm] at hwm hD
      have k4 := askRun_any l ts q _ B _ _ _ _ _ _ _ _ xs 0 (Nat.le_trans hB hbw3.size) (HP.out.at hB hbw3) (HRW.out.at hB hbw3) (HQ.out.at hB hbw3) HRU.out
      clear hsd hsd2 hce hle hok hle2 hok2 hsz ht hxs hys hdd hnb hmb hb3 hb3' j1 j2 j3 j4 j5 j6
      have m0 := HM3.out.s0.c
      have m1 := HM3.out.s1.c
      have m2 := HM3.out.t0.c
      have m3 := HM3.out.t1.c
      have m4 := HM3.out.a0.c
      have m5 := HM3.out.a1.c
      have m6 := HM3.out.a2.c
      have m7 := HM3.out.a3.c
      have m8 := HM3.out.a4.c
      have m9 := HM3.out.a5.c
      have HNM : Hid (n * b2 = nm) := hnm
      clear hnm
      go_wp2_with fail
      refine k4.mono ?_
      rintro e w4 ⟨xa, xc, rfl, hI, hb4⟩
      clear m0 m1 m2 m3 m4 m5 m6 m7 m8 m9
      clear k4
      have hbw4 := bt hbw3 hb4
      have HM4 : Hid (Mv w4 w.heap.size (.slice la l.length lc) (.slice ra ts.length rc) (.slice ma l.length mc) (.slice sa us.length sc) (.int .i64 kk) (.string kc) (.int .i64 kl) (.int .i64 kh) (.slice ka kn' kd) (.slice kb km kp)) := HM3.out.at hb4
      have HT4 : Hid (T3 w4 w3.heap.size (b1, b2, b3)) := HT3.out.at hb4
      have k5 := askRun_any l us q w4 B _ _ _ _ _ _ _ _ ys 0 (Nat.le_trans hB hbw4.size) (HP2.out.at hB hbw4) (HRW2.out.at hB hbw4) (HQ.out.at hB hbw4) HRU2.out
      have HI4 : Hid (Ints w4 w4.heap.size w4.heap.size (.slice xa xs.length xc) xs) := hI
      clear hI hb4 HM3 HT3 hbw3
      have m0 := HM4.out.s0.c
      have m1 := HM4.out.s1.c
      have m2 := HM4.out.t0.c
      have m3 := HM4.out.t1.c
      have m4 := HM4.out.a0.c
      have m5 := HM4.out.a1.c
      have m6 := HM4.out.a2.c
      have m7 := HM4.out.a3.c
      have m8 := HM4.out.a4.c
      have m9 := HM4.out.a5.c
      go_wp2_with fail
      refine k5.mono ?_
      rintro e w5 ⟨ya, yc, rfl, hJ, hb5⟩
      clear m0 m1 m2 m3 m4 m5 m6 m7 m8 m9
      clear k5
      have hbw5 := bt hbw4 hb5
      have HT5 : Hid (T3 w5 w3.heap.size (b1, b2, b3)) := HT4.out.at hb5
      have hId : Ints w5.drew w5.drew.heap.size w4.heap.size (.slice xa xs.length xc) xs := (HI4.out.at2 hb5).at2 (Below.refl _ _).drew
      have hJd : Ints w5.drew w5.drew.heap.size w5.heap.size (.slice ya ys.length yc) ys := hJ.at2 (Below.refl _ _).drew
      have k6 := dist_any w5.drew.heap.size _ _ _ _ xs ys w5.drew (Nat.le_refl _) hId hJd HXY.out hxl HBX.out.1 HBX.out.2 dd HDD.out
      have c1 := HT5.out.c1.c
      have l1 : w3.heap.size < w5.heap.size := HT5.out.c1.lt
      have hlq : ((xs.length : Int) == (ys.length : Int)) = true := by rw [HXY.out]; simp
      have HFIN : Hid (decide (dd ≤ nm) = true) := decide_eq_true hD
      have hwm2 : IntKind.i64.wrap (n * b2) = nm := by rw [HNM.out]; exact hwm
      clear hId hJd hJ hb5 HT4 HM4 hwm HI4
      go_wp2
      go_region_held3 (fun w' => w'.cell? ⟨w3.heap.size, 1, none⟩ = some (.int .i64 b2)) (first | assumption | (simp [go_sem, *]; done)) ((go_at_call 18; refine k6.mono ?_; rintro x6 w6 hD6; obtain ⟨rfl, hb6⟩ := hD6; have z1 : w6.cell? ⟨w3.heap.size, 1, none⟩ = some (.int .i64 b2) := (hb6.cell (p := ⟨w3.heap.size, 1, none⟩) l1).trans c1))
      go_wp2
      go_ret
      exact ⟨by first | rfl | exact ret_b HFIN.out, bt hbw5 ((Below.refl _ _).drew.trans hb6)⟩
    · have hne : (te != 0) = true := by simpa using hte
      have hbw3 := bt hbw2 (bal hb3 (.cells #[.int .i64 b1, .int .i64 b2, .int .i64 b3] 28))
      clear ht
      go_wp2
      go_ret
      exact ⟨rfl, hbw3⟩
  · have hne : (ea != 0) = true := by simpa using he
    go_wp2
    go_ret
    exact ⟨rfl, hbw2⟩
end Go.Proofs.Ytejeiahbnnechaa
