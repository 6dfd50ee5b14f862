import Derived.Test.YtejeiahbnnechaaPrm
import Derived.Test.YtejeiahbnnechaaLawSound
import Derived.Test.YtejeiahbnnechaaRfr
namespace Go.Proofs.Ytejeiahbnnechaa
open Go.RowKit Go.Proofs.Ytejeiahbnnechaa.Ds

theorem Qm.mono {w : World} {B B' : Nat} (hB : B ≤ B') (q : Qu) : ∀ {v0 v1 v2 v3 v4 v5 : Value}, Qm w B q v0 v1 v2 v3 v4 v5 → Qm w B' q v0 v1 v2 v3 v4 v5 := by
  induction q with
  | none => intro v0 v1 v2 v3 v4 v5 h; exact h
  | node k c lo hi wh n x y ihx ihy =>
    rintro v0 v1 v2 v3 v4 v5 ⟨h0, h1, h2, h3, hc, hw, a, cap, h5, hn, hm, hk⟩
    refine ⟨h0, h1, h2, h3, hc, hw.mono hB, a, cap, h5, hn, hm, fun g1 g2 => ?_⟩
    obtain ⟨b, o, ha, hb, ⟨u0, u1, u2, u3, u4, u5, hx, hq⟩, h2⟩ := hk g1 g2
    refine ⟨b, o, ha, by omega, ⟨u0, u1, u2, u3, u4, u5, hx, ihx hq⟩, fun g => ?_⟩
    obtain ⟨u0, u1, u2, u3, u4, u5, hx, hq⟩ := h2 g
    exact ⟨u0, u1, u2, u3, u4, u5, hx, ihy hq⟩
theorem prt_ne {l : List Col} {q : Qu} {s : ByteArray} {e : Int} (h : prt l q s = .error e) : e ≠ 0 := by
  unfold prt at h
  split at h
  · rename_i h1; cases h; exact typ_ne h1
  · split at h
    · cases h; decide
    · split at h
      · cases h; decide
      · split at h
        · cases h
        · cases h; decide
theorem prt_parts {l : List Col} {q : Qu} {s : ByteArray} {v : Int} (h : prt l q s = .ok v) : ∃ b i, typ l q = .ok b ∧ fnd l s = some i ∧ onl s q = some v := by
  unfold prt at h
  split at h
  · cases h
  · rename_i b h1
    split at h
    · cases h
    · rename_i i h2
      split at h
      · cases h
      · rename_i u h3
        split at h
        · cases h; exact ⟨b, i, h1, h2, h3⟩
        · cases h
theorem prtV_split {l : List Col} {q : Qu} {s : ByteArray} {z er : Int} (h : prtV (prt l q s) = (z, er)) : (er = 0 ∧ prt l q s = .ok z) ∨ er ≠ 0 := by
  cases hp : prt l q s with
  | error e => rw [hp] at h; simp only [prtV, Prod.mk.injEq] at h; obtain ⟨_, rfl⟩ := h; exact .inr (prt_ne hp)
  | ok v => rw [hp] at h; simp only [prtV, Prod.mk.injEq] at h; obtain ⟨rfl, rfl⟩ := h; exact .inl ⟨rfl, rfl⟩
/-- the rows that stay -/
def stay (i : Nat) (v : Int) (ts : List Rw) : List Rw := ts.filter fun t => isV i v t.2
theorem stay_rr (i : Nat) (v : Int) (ts : List Rw) : rr (stay i v ts) = (rr ts).filter (isV i v) := by
  unfold stay rr
  rw [List.filter_map]
  rfl
theorem stay_step {i : Nat} {v : Int} {ts : List Rw} {k : Nat} {t : Rw} (h : ts[k]? = some t) : stay i v (ts.take (k + 1)) = stay i v (ts.take k) ++ if isV i v t.2 = true then [t] else [] := by
  unfold stay
  rw [List.take_add_one, h, List.filter_append]
  by_cases hv : isV i v t.2 = true
  · simp [hv]
  · simp [hv]
theorem stay_len (i : Nat) (v : Int) (ts : List Rw) : (stay i v ts).length ≤ ts.length := List.length_filter_le _ _
theorem stay_mem {i : Nat} {v : Int} {ts : List Rw} {t : Rw} (h : t ∈ stay i v ts) : t ∈ ts := (List.mem_filter.1 h).1
/-- both say the same -/
theorem part_run {l : List Col} {q : Qu} {s : ByteArray} {v : Int} {i : Nat} {b : Bnd} {ts : List Rw} (hw : wroE l (rr ts) = 0) (ht : typ l q = .ok b) (hf : fnd l s = some i) (ho : onl s q = some v) : runT l (rr (stay i v ts)) q = runT l (rr ts) q := by
  obtain ⟨h1, h2, h3⟩ := wroE_ok hw
  have hw2 : wroE l (rr (stay i v ts)) = 0 := wroE_of h1 (by rw [stay_rr]; exact Nat.le_trans (List.length_filter_le _ _) h2) (fun r hr => h3 r (by rw [stay_rr] at hr; exact (List.mem_filter.1 hr).1))
  rw [runT_typ hw, runT_typ hw2, ht, stay_rr]
  show Except.ok _ = Except.ok _
  rw [ans_part hf (rr ts) q (bnd_wq q _ _ (typ_ok ht).2) ho]
theorem stay_rws {w wr : World} {B lo i : Nat} {z : Int} {v rv : Value} {ts : List Rw} (h : Rws w B rv ts) (hB : B ≤ w.heap.size) (hb : Below w.heap.size w wr) (hlo : B ≤ lo) (hls : lo < wr.heap.size) (ho : wr.ownsRow lo 38 1 v (stay i z ts).length ((stay i z ts).map (·.1))) : Rws wr wr.heap.size v (stay i z ts) := by
  obtain ⟨m, hm1, hm2, hm3⟩ := own_or2 ho.lt hls
  have hw := h.at hB hb
  obtain ⟨a, c, _, _, hl, hi, _⟩ := hw
  refine Rwr.rws (lo := lo) ⟨ho, fun t ht => ⟨m, (hi t (stay_mem ht)).mono (by omega) (.inr (by omega)), hm3⟩⟩ (Nat.le_trans (stay_len _ _ _) hl)
theorem grow_below {a b : World} {O lo : Nat} {row : Option Nat} (h : a.grownBy b row) (hr : ∀ g, row = some g → lo ≤ g) (hO : O ≤ lo) (hs : O ≤ a.heap.size) : Below O a b :=
  ⟨h.os, h.tape, h.output, h.size, fun k hk => h.block k (by omega) (fun e => by have := hr k e.symm; omega)⟩

set_option maxHeartbeats 4000000 in
set_option maxRecDepth 100000 in
theorem askParts_walk (B : Nat) (cv rv v0 v1 v2 v3 v4 v5 : Value) (s : ByteArray) (l : List Col) (ts : List Rw) (q : Qu) (w : World) (hB : B ≤ w.heap.size) (hp : Cols w B cv l) (hr : Rws w B rv ts) (hq : Qm w B q v0 v1 v2 v3 v4 v5) :
    Calls Try.prog 7 #[.agg #[cv, rv], .agg #[v0, v1, v2, v3, v4, v5], .string s] w fun e w' => e = .returned (.bool true) ∧ Below w.heap.size w w' := by
  have HP : Hid (Cols w B cv l) := hp
  have HRW : Hid (Rws w B rv ts) := hr
  have HQ : Hid (Qm w B q v0 v1 v2 v3 v4 v5) := hq
  obtain ⟨i0, hi0, hz0, hz1, hz2⟩ := info_parts info26
  obtain ⟨la, lc, rfl, _⟩ := hp.slice
  obtain ⟨ra, rc, rfl, _⟩ := hr.slice
  obtain ⟨kk, kc, kl, kh, ka, kn', kd, kb, km, kp, rfl, rfl, rfl, rfl, rfl, rfl⟩ := hq.shape
  have hb0 : Below w.heap.size w ((w.alloc (.cells #[.slice la l.length lc, .slice ra ts.length rc] 37)).alloc (.cells #[.int .i64 kk, .string kc, .int .i64 kl, .int .i64 kh, .slice ka kn' kd, .slice kb km kp] 26)) := bal (ba _ _) _
  have HT : Hid (Cl ((w.alloc (.cells #[.slice la l.length lc, .slice ra ts.length rc] 37)).alloc (.cells #[.int .i64 kk, .string kc, .int .i64 kl, .int .i64 kh, .slice ka kn' kd, .slice kb km kp] 26)) w.heap.size 0 (.slice la l.length lc) ∧ Cl ((w.alloc (.cells #[.slice la l.length lc, .slice ra ts.length rc] 37)).alloc (.cells #[.int .i64 kk, .string kc, .int .i64 kl, .int .i64 kh, .slice ka kn' kd, .slice kb km kp] 26)) w.heap.size 1 (.slice ra ts.length rc)) := ⟨(Cl.new _ 37 _ _ rfl rfl).at (ba _ _), (Cl.new _ 37 _ _ rfl rfl).at (ba _ _)⟩
  have HN : Hid (Bx ((w.alloc (.cells #[.slice la l.length lc, .slice ra ts.length rc] 37)).alloc (.cells #[.int .i64 kk, .string kc, .int .i64 kl, .int .i64 kh, .slice ka kn' kd, .slice kb km kp] 26)) (w.heap.size + 1) (.int .i64 kk) (.string kc) (.int .i64 kl) (.int .i64 kh) (.slice ka kn' kd) (.slice kb km kp)) := Bx.new _ _ (by simp) _ _ _ _ _ _
  clear hp hr hq
  go_enter Try.func7, Try.ntmps7
  go_wp2_with fail
  refine (alive_any _).mono ?_
  rintro e w1 ⟨rfl, hb1⟩
  have hbw1 := bt hb0 hb1
  have HT1 : Hid (Cl w1 w.heap.size 0 (.slice la l.length lc) ∧ Cl w1 w.heap.size 1 (.slice ra ts.length rc)) := ⟨HT.out.1.at hb1, HT.out.2.at hb1⟩
  have HN1 : Hid (Bx w1 (w.heap.size + 1) (.int .i64 kk) (.string kc) (.int .i64 kl) (.int .i64 kh) (.slice ka kn' kd) (.slice kb km kp)) := HN.out.at hb1
  clear hb0 hb1 HT HN
  obtain ⟨z, er, hpr⟩ : ∃ z er, prtV (prt l q s) = (z, er) := ⟨_, _, rfl⟩
  have HPR : Hid (prtV (prt l q s) = (z, er)) := hpr
  have k2 := part_any l q s w1 B _ _ _ _ _ _ _ z er (Nat.le_trans hB hbw1.size) (HP.out.at hB hbw1) (HQ.out.at hB hbw1) hpr
  clear hpr
  have m0 := HT1.out.1.c
  have m1 := HN1.out.a0.c
  have m2 := HN1.out.a1.c
  have m3 := HN1.out.a2.c
  have m4 := HN1.out.a3.c
  have m5 := HN1.out.a4.c
  have m6 := HN1.out.a5.c
  go_wp2_with fail
  refine k2.mono ?_
  rintro e w2 ⟨rfl, hb2⟩
  clear k2 m0 m1 m2 m3 m4 m5 m6
  have hbw2 := bt hbw1 hb2
  have HT2 : Hid (Cl w2 w.heap.size 0 (.slice la l.length lc) ∧ Cl w2 w.heap.size 1 (.slice ra ts.length rc)) := ⟨HT1.out.1.at hb2, HT1.out.2.at hb2⟩
  have HN2 : Hid (Bx w2 (w.heap.size + 1) (.int .i64 kk) (.string kc) (.int .i64 kl) (.int .i64 kh) (.slice ka kn' kd) (.slice kb km kp)) := HN1.out.at hb2
  clear hb2 HT1 HN1 hbw1
  rcases prtV_split HPR.out with ⟨rfl, hok⟩ | hne
  · obtain ⟨bb, j, hty, hfn, hon⟩ := prt_parts hok
    have HF : Hid (typ l q = .ok bb ∧ fnd l s = some j ∧ onl s q = some z) := ⟨hty, hfn, hon⟩
    clear hok hty hfn hon HPR
    obtain ⟨ew, hew⟩ : ∃ ew, wroE l (rr ts) = ew := ⟨_, rfl⟩
    have k3 := rwrong_any B _ _ l ts w2 (Nat.le_trans hB hbw2.size) (HP.out.at hB hbw2) (HRW.out.at hB hbw2) ew hew
    have HEW : Hid (wroE l (rr ts) = ew) := hew
    clear hew
    have m0 := HT2.out.1.c
    have m1 := HT2.out.2.c
    go_wp2_with fail
    refine k3.mono ?_
    rintro e w3 ⟨rfl, hb3⟩
    clear k3 m0 m1
    have hbw3 := bt hbw2 hb3
    by_cases he : ew = 0
    · subst he
      have HT3 : Hid (Cl w3 w.heap.size 0 (.slice la l.length lc) ∧ Cl w3 w.heap.size 1 (.slice ra ts.length rc)) := ⟨HT2.out.1.at hb3, HT2.out.2.at hb3⟩
      have HN3 : Hid (Bx w3 (w.heap.size + 1) (.int .i64 kk) (.string kc) (.int .i64 kl) (.int .i64 kh) (.slice ka kn' kd) (.slice kb km kp)) := HN2.out.at hb3
      have hjl : j < l.length := fnd_lt HF.out.2.1
      obtain ⟨hce, hle, hok⟩ := wroE_ok HEW.out
      have hsl := (HP.out.slice)
      obtain ⟨_, _, _, _, hl63⟩ := hsl
      have HOK : Hid (∀ r ∈ rr ts, RowOk l r) := hok
      have hts : ts.length ≤ 4096 := by rw [← rr_len]; exact hle
      clear hce hle hok hb3 HT2 HN2 hbw2
      have k4 := rcol_any B _ l s w3 (Nat.le_trans hB hbw3.size) (HP.out.at hB hbw3) (j : Int) (fnI_some HF.out.2.1)
      have m0 := HT3.out.1.c
      go_wp2_with fail
      refine k4.mono ?_
      rintro e w4 ⟨rfl, hb4⟩
      clear k4 m0
      have hbw4 := bt hbw3 hb4
      have HT4 : Hid (Cl w4 w.heap.size 0 (.slice la l.length lc) ∧ Cl w4 w.heap.size 1 (.slice ra ts.length rc)) := ⟨HT3.out.1.at hb4, HT3.out.2.at hb4⟩
      have HN4 : Hid (Bx w4 (w.heap.size + 1) (.int .i64 kk) (.string kc) (.int .i64 kl) (.int .i64 kh) (.slice ka kn' kd) (.slice kb km kp)) := HN3.out.at hb4
      clear hb4 HT3 HN3 hbw3
      have m0 := HT4.out.1.c
      have m1 : (w4.alloc (.cells #[.slice la l.length lc, .slice none 0 0] 37)).cell? ⟨w.heap.size, 1, none⟩ = some (.slice ra ts.length rc) := (HT4.out.2.at (ba _ _)).c
      have hj0 : ¬ (j : Int) < 0 := by omega
      have HO0 : Hid (TwoB (w4.alloc (.cells #[.slice la l.length lc, .slice none 0 0] 37)) w4.heap.size (.slice la l.length lc) (.slice none 0 0)) := TwoB.new _ _ _ _ _ rfl
      have hsO : w.heap.size < w4.heap.size := HT4.out.1.lt
      go_wp2
      go_loopw [45] (fun s' wr => ∃ (i : Nat) (rv' : Value), s' = .int .i64 (i : Int) ∧ i ≤ ts.length ∧ Hid (TwoB wr w4.heap.size (.slice la l.length lc) rv') ∧ Hid (wr.ownsRow (w4.heap.size + 1) 38 1 rv' (stay j z (ts.take i)).length ((stay j z (ts.take i)).map (·.1))) ∧ Below w4.heap.size w4 wr) (fun s' _ => ts.length - (intOf s').toNat)
      case atStart => exact ⟨0, _, rfl, Nat.zero_le _, HO0, ⟨rfl, .inl ⟨rfl, rfl⟩⟩, ba _ _⟩
      case round =>
        obtain ⟨i, rv', rfl, hi, HO, HR, hbl⟩ := hrel
        have hbr := bt hbw4 hbl
        obtain ⟨va, vc, rfl⟩ := owns_slice HR.out
        have t1 := HO.out.c1
        by_cases h1 : i < ts.length
        · obtain ⟨b, o, sa, sc, xs, rfl, hbB, hgt, hcell, hI⟩ := HRW.out.get hB hbr h1
          have hxl : xs.length = l.length := (HOK.out xs (by have := rr_get hgt; exact List.mem_of_getElem? this)).len
          obtain ⟨b2, o2, x, rfl, _, hb2, _, hgx, hgd, hcx⟩ := hI.got (i := j) (by omega)
          have hj1 : (j : Int) < (xs.length : Int) := by omega
          have hj2 : (0 : Int) ≤ (j : Int) := by omega
          have hst := stay_step (i := j) (v := z) hgt
          by_cases hx : x = z
          · have hx' : (x == z) = true := by simpa using hx
            rw [if_pos (show isV j z xs = true by unfold isV; rw [hgd]; exact hx')] at hst
            obtain ⟨ms, hms⟩ : ∃ ms, stay j z (ts.take i) = ms := ⟨_, rfl⟩
            have hml : ms.length ≤ 4096 := by rw [← hms]; exact Nat.le_trans (stay_len _ _ _) (by simp; omega)
            rw [hms] at hst t1 HO HR
            have HST : Hid (stay j z (ts.take (i + 1)) = ms ++ [(.slice (some ⟨b2, o2, none⟩) xs.length sc, xs)]) := hst
            have HXL : Hid (xs.length = l.length) := hxl
            have hsz : w4.heap.size < wr.heap.size := HO.out.lt
            have HOW : Hid ((wr.alloc (.cells #[.slice (some ⟨b2, o2, none⟩) xs.length sc] 38)).ownsRow (w4.heap.size + 1) 38 1 (.slice va ms.length vc) ms.length (ms.map (·.1))) := owns_below HR.out (ba _ _)
            clear hst hms hgx hgd hx hI hxl hgt
            go_wp2_with (at_builtin; refine wpList_append_own _ rfl _ _ 35 rfl (w4.heap.size + 1) 38 i0 (.slice none 0 0) 1 24 Try.underlying35 hi0 hz0 hz1 hz2 rfl (by decide) _ _ _ rfl HOW.out ⟨wr.heap.size, 0, none⟩ 1 1 [.slice (some ⟨b2, o2, none⟩) xs.length sc] rfl ?q1 ?q2 ?q3 ?q4 ?q5 ?q6 ?_)
            case q3 => rfl
            case q4 => unfold maxLen; omega
            case q5 => omega
            case q6 => omega
            intro v6 w6 hown6 hgrow hnil
            have hb6 : Below w4.heap.size wr w6 := ((ba wr _).mono (Nat.le_of_lt hsz)).trans (grow_below hgrow (owns_block HOW.out) (by omega) (by simp; omega))
            have HO6 : Hid (TwoB w6 w4.heap.size (.slice la l.length lc) (.slice va ms.length vc)) := (HO.out.below (ba _ _)).gb hgrow (fun e => by have := owns_block HOW.out _ e; omega)
            obtain ⟨ua, uc, rfl⟩ := owns_slice hown6
            have HR6 : Hid ((w6.setCell ⟨w4.heap.size, 1, none⟩ (.slice ua (ms.length + 1) uc)).ownsRow (w4.heap.size + 1) 38 1 (.slice ua (ms.length + 1) uc) (stay j z (ts.take (i + 1))).length ((stay j z (ts.take (i + 1))).map (·.1))) := by
              show World.ownsRow _ _ _ _ _ _ _
              rw [HST.out]
              have := ownsRow_setCell_below hown6 (a := ⟨w4.heap.size, 1, none⟩) (by simp) (.slice ua (ms.length + 1) uc)
              simpa using this
            have y1 := HO6.out.c1
            have y3 := HO6.out.f1
            have HB6 : Hid (Below w4.heap.size w4 (w6.setCell ⟨w4.heap.size, 1, none⟩ (.slice ua (ms.length + 1) uc))) := bs (hbl.trans hb6) (Nat.le_refl _) _
            clear hown6 hgrow hnil t1 HOW
            go_wp2
            go_roundw
            case rel => exact ⟨i + 1, _, by go_num, h1, HO6.out.set1 _, HR6, HB6.out⟩
            case measure => simp [intOf]; omega
          · have hx' : (x == z) = false := by simpa using hx
            rw [if_neg (show ¬ isV j z xs = true by unfold isV; rw [hgd, hx']; decide), List.append_nil] at hst
            have HR6 : Hid (wr.ownsRow (w4.heap.size + 1) 38 1 (.slice va (stay j z (ts.take i)).length vc) (stay j z (ts.take (i + 1))).length ((stay j z (ts.take (i + 1))).map (·.1))) := by
              show World.ownsRow _ _ _ _ _ _ _
              rw [hst]; exact HR.out
            clear hst hgx hgd hx hI hxl hgt
            go_wp2
            go_roundw
            case rel => exact ⟨i + 1, _, by go_num, h1, HO, HR6, hbl⟩
            case measure => simp [intOf]; omega
        · obtain rfl : i = ts.length := by omega
          rw [List.take_length] at t1 HO HR
          obtain ⟨ms, hms⟩ : ∃ ms, stay j z ts = ms := ⟨_, rfl⟩
          have HMR : Hid (Rws wr wr.heap.size (.slice va ms.length vc) ms) := by
            rw [← hms]
            refine stay_rws HRW.out hB hbr (lo := w4.heap.size) (by omega) HO.out.lt ?_
            exact ⟨HR.out.1, HR.out.2.imp id fun ⟨g, cap, cur, h1, h2, h3⟩ => ⟨g, cap, cur, h1, by omega, h3⟩⟩
          have HRUN : Hid (runT l (rr ms) q = runT l (rr ts) q) := by rw [← hms]; exact part_run HEW.out HF.out.1 HF.out.2.1 HF.out.2.2
          rw [hms] at t1 HO
          obtain ⟨ys, fr, hru⟩ : ∃ ys fr, runV (runT l (rr ts) q) = (ys, fr) := ⟨_, _, rfl⟩
          have HRU : Hid (runV (runT l (rr ts) q) = (ys, fr)) := hru
          have k5 := askRun_any l ts q wr B _ _ _ _ _ _ _ _ ys fr (Nat.le_trans hB hbr.size) (HP.out.at hB hbr) (HRW.out.at hB hbr) (HQ.out.at hB hbr) hru
          clear hru hms HR
          have HT5 : Hid (Cl wr w.heap.size 0 (.slice la l.length lc) ∧ Cl wr w.heap.size 1 (.slice ra ts.length rc)) := ⟨HT4.out.1.at hbl, HT4.out.2.at hbl⟩
          have HN5 : Hid (Bx wr (w.heap.size + 1) (.int .i64 kk) (.string kc) (.int .i64 kl) (.int .i64 kh) (.slice ka kn' kd) (.slice kb km kp)) := HN4.out.at hbl
          clear m0 m1 t1
          have m0 := HT5.out.1.c
          have m7 := HT5.out.2.c
          have m1 := HN5.out.a0.c
          have m2 := HN5.out.a1.c
          have m3 := HN5.out.a2.c
          have m4 := HN5.out.a3.c
          have m5 := HN5.out.a4.c
          have m6 := HN5.out.a5.c
          go_wp2_with fail
          refine k5.mono ?_
          rintro e w6 ⟨ya, yc, rfl, hY, hb6⟩
          clear k5 m0 m1 m2 m3 m4 m5 m6 m7
          have hbw6 := bt hbr hb6
          have HY : Hid (Ints w6 w6.heap.size w6.heap.size (.slice ya ys.length yc) ys) := hY
          have HO6 := HO.out.below hb6
          have HN6 := HN5.out.at hb6
          have k6 := askRun_any l ms q w6 w6.heap.size _ _ _ _ _ _ _ _ ys fr (Nat.le_refl _) ((HP.out.at hB hbw6).mono (Nat.le_trans hB hbw6.size)) ((HMR.out.at (Nat.le_refl _) hb6).mono hb6.size) (Qm.mono (Nat.le_trans hB hbw6.size) q (HQ.out.at hB hbw6)) (by rw [HRUN.out]; exact HRU.out)
          have m0 := HO6.c0
          have m7 := HO6.c1
          have m1 := HN6.a0.c
          have m2 := HN6.a1.c
          have m3 := HN6.a2.c
          have m4 := HN6.a3.c
          have m5 := HN6.a4.c
          have m6 := HN6.a5.c
          clear hY hb6 HO6 HN6
          go_wp2_with fail
          refine k6.mono ?_
          rintro e w7 ⟨za, zc, rfl, hZ, hb7⟩
          clear k6 m0 m1 m2 m3 m4 m5 m6 m7
          have hbw7 := bt hbw6 hb7
          have k7 := refCompare_any w7.heap.size _ _ _ _ ys ys w7 (HY.out.at2 hb7) hZ 0 (cmpT_self ys)
          clear hZ hb7
          go_wp2_with fail
          refine k7.mono ?_
          rintro e w8 ⟨rfl, n8, rfl⟩
          go_wp2
          go_ret
          exact ⟨rfl, below_drewN hbw7 n8⟩
    · have hne : (ew != 0) = true := by simpa using he
      go_wp2
      go_ret
      exact ⟨rfl, hbw3⟩
  · have hne : (er != 0) = true := by simpa using hne
    go_wp2
    go_ret
    exact ⟨rfl, hbw2⟩
end Go.Proofs.Ytejeiahbnnechaa
