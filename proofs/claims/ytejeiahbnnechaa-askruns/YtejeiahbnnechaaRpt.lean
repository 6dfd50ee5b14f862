import Derived.Test.YtejeiahbnnechaaRbn
import Derived.Test.YtejeiahbnnechaaPrt
import Derived.Test.YtejeiahbnnechaaRcl
namespace Go.Proofs.Ytejeiahbnnechaa.Ds
/-- a value, or -1 -/
def nn : Option Int → Int
  | some v => if v < 0 then -1 else v
  | none => -1
def lvs (s : ByteArray) : Qu → Int
  | .none => -1
  | .node _ _ _ _ wh n x y => if n = 0 then nn (fst wh s) else if n = 2 ∧ lvs s y ≠ lvs s x then -1 else lvs s x
theorem lvs_onl (s : ByteArray) (q : Qu) : lvs s q = nn (onl s q) := by
  induction q with
  | none => rfl
  | node k c lo hi wh n x y ihx ihy =>
    simp only [lvs, onl]
    split
    · rfl
    · rw [ihx, ihy]
      cases hx : onl s x with
      | none => exact ite_self (-1 : Int)
      | some v =>
        simp only
        by_cases h2 : n = 2
        · rw [if_pos h2]
          cases hy : onl s y with
          | none =>
            simp only
            by_cases hv : v < 0
            · simp [nn, hv]
            · simp [nn, hv, h2]; omega
          | some u =>
            simp only
            by_cases huv : u = v
            · rw [if_pos huv]; subst huv; simp
            · rw [if_neg huv]
              by_cases hv : v < 0
              · simp [nn, hv]
              · by_cases hu : u < 0
                · simp [nn, hv, hu, h2]; omega
                · simp [nn, hv, hu, h2, huv]
        · rw [if_neg h2, if_neg (fun h => h2 h.1)]
end Go.Proofs.Ytejeiahbnnechaa.Ds
namespace Go.Proofs.Ytejeiahbnnechaa
open Go.RowKit Go.Proofs.Ytejeiahbnnechaa.Ds

set_option maxHeartbeats 1000000 in
set_option maxRecDepth 100000 in
theorem rtype_any (l : List Col) (q : Qu) (w : World) (B : Nat) (lv v0 v1 v2 v3 v4 v5 : Value) (b1 b2 b3 er : Int) (hB : B ≤ w.heap.size) (hp : Cols w B lv l) (hq : Qm w B q v0 v1 v2 v3 v4 v5) (hr : typV (typ l q) = ((b1, b2, b3), er)) :
    Calls Try.prog 9 #[lv, .agg #[v0, v1, v2, v3, v4, v5]] w fun e w' => e = .returned (.tuple #[.agg #[.int .i64 b1, .int .i64 b2, .int .i64 b3], .int .i64 er]) ∧ Below w.heap.size w w' := by
  have HP : Hid (Cols w B lv l) := hp
  have HQ : Hid (Qm w B q v0 v1 v2 v3 v4 v5) := hq
  have HR : Hid (typV (typ l q) = ((b1, b2, b3), er)) := hr
  obtain ⟨la, lc, rfl, _⟩ := hp.slice
  obtain ⟨kk, kc, kl, kh, ka, kn', kd, kb, km, kp, rfl, rfl, rfl, rfl, rfl, rfl⟩ := hq.shape
  obtain ⟨ec, hec⟩ : ∃ ec, colE l = ec := ⟨_, rfl⟩
  have bq := Bq.new w (.int .i64 kk) (.string kc) (.int .i64 kl) (.int .i64 kh) (.slice ka kn' kd) (.slice kb km kp)
  have hb0 : Below w.heap.size w ((w.alloc (.cells #[.int .i64 kk, .string kc, .int .i64 kl, .int .i64 kh, .slice ka kn' kd, .slice kb km kp] 26)).alloc (.cells #[.int .i64 0, .int .i64 0, .int .i64 0] 28)) := bal (ba _ _) _
  have k1 := rcolumns_any B _ l _ (Nat.le_trans hB hb0.size) (hp.at hB hb0) ec hec
  have HEC : Hid (colE l = ec) := hec
  clear hp hq hr hec
  go_enter Try.func9, Try.ntmps9
  go_wp2_with fail
  refine k1.mono ?_
  rintro e w1 ⟨rfl, hb1⟩
  clear k1
  have hbw : Below w.heap.size w w1 := bt hb0 hb1
  have HB1 : Hid (Bq w1 w.heap.size (.int .i64 kk) (.string kc) (.int .i64 kl) (.int .i64 kh) (.slice ka kn' kd) (.slice kb km kp)) := bq.at hb1
  clear bq hb0 hb1
  by_cases he : ec = 0
  · subst he
    have HT : Hid (typV (bnd l 1 q) = ((b1, b2, b3), er)) := by have := HR.out; rwa [typ, if_pos HEC.out] at this
    have hsz := hbw.size
    have k2 := rbound_any l (colE_ok HEC.out).2.2.1 q 1 w1 B (.slice la l.length lc) _ _ _ _ _ _ b1 b2 b3 er (by decide) (by omega) (HP.out.at hB hbw) (HQ.out.at hB hbw) HT.out
    have m0 := HB1.out.a0.c
    have m1 := HB1.out.a1.c
    have m2 := HB1.out.a2.c
    have m3 := HB1.out.a3.c
    have m4 := HB1.out.a4.c
    have m5 := HB1.out.a5.c
    go_wp2_with fail
    refine k2.mono ?_
    rintro e w3 ⟨rfl, hb3⟩
    clear k2 m0 m1 m2 m3 m4 m5
    have HB3 : Hid (Bq w3 w.heap.size (.int .i64 kk) (.string kc) (.int .i64 kl) (.int .i64 kh) (.slice ka kn' kd) (.slice kb km kp)) := HB1.out.at hb3
    have hbw3 : Below w.heap.size w w3 := bt hbw hb3
    clear HB1 hb3
    have s0 := HB3.out.e0.c
    have s1 := HB3.out.e1.c
    have s2 := HB3.out.e2.c
    have f0 := HB3.out.e0.f
    have f1 := HB3.out.e1.f
    have f2 := HB3.out.e2.f
    go_wp2
    exact bodyPost_ret (v := .tuple #[.agg #[.int .i64 b1, .int .i64 b2, .int .i64 b3], .int .i64 er]) (by simp [results, Try.results9, go_sem, s0, s1, s2]) rfl ⟨rfl, bs3 hbw3 (Nat.le_succ _) _ _ _⟩
  · have hv := HR.out
    rw [typ, HEC.out, if_neg he] at hv
    obtain ⟨rfl, rfl, rfl, rfl⟩ := typV_err hv
    clear hv
    have hne : (ec != 0) = true := by simpa using he
    have s0 := HB1.out.e0.c
    have s1 := HB1.out.e1.c
    have s2 := HB1.out.e2.c
    have f0 := HB1.out.e0.f
    have f1 := HB1.out.e1.f
    have f2 := HB1.out.e2.f
    go_wp2
    exact bodyPost_ret (v := .tuple #[.agg #[.int .i64 0, .int .i64 0, .int .i64 0], .int .i64 ec]) (by simp [results, Try.results9, go_sem, s0, s1, s2]) rfl ⟨rfl, bs3 hbw (Nat.le_succ _) _ _ _⟩

set_option maxHeartbeats 1000000 in
set_option maxRecDepth 100000 in
theorem rfirst_any (B : Nat) (v : Value) (wh : List Tst) (s : ByteArray) (w : World) (hB : B ≤ w.heap.size) (hq : Tss w B v wh) (r : Int) (hr : nn (fst wh s) = r) :
    Calls Try.prog 51 #[v, .string s] w fun e w' => e = .returned (.int .i64 r) ∧ Below w.heap.size w w' := by
  have HQ : Hid (Tss w B v wh) := hq
  have HR : Hid (nn (fst wh s) = r) := hr
  obtain ⟨a, c, rfl, hc, hl⟩ := hq.slice
  clear hr
  go_enter Try.func51, Try.ntmps51
  go_wp2
  go_loopw [9] (fun s' wr => ∃ (i : Nat), s' = .int .i64 (i : Int) ∧ i ≤ wh.length ∧ Hid (nn (fst (wh.drop i) s) = r) ∧ Below w.heap.size w wr) (fun s' _ => wh.length - (intOf s').toNat)
  case atStart => exact ⟨0, rfl, Nat.zero_le _, by simpa [Hid] using HR.out, Below.refl _ _⟩
  case round =>
    obtain ⟨i, rfl, hi, HI, hbl⟩ := hrel
    by_cases h1 : i < wh.length
    · obtain ⟨b, o, nm, d, z, rfl, hb, hgt, c1, c2, c3, hn⟩ := HQ.out.get hB hbl h1
      have HST : Hid (fst (wh.drop i) s = if nm = s ∧ d = 1 then some z else fst (wh.drop (i + 1)) s) := fst_step hgt
      clear hgt
      have hq := str_eq nm s
      by_cases g1 : nm = s
      · have g1' : (nm.toList == s.toList) = true := by rw [hq]; simp [g1]
        by_cases g2 : d = 1
        · have HZ : Hid ((if z < 0 then -1 else z) = r) := by have := HI.out; rw [HST.out, if_pos ⟨g1, g2⟩] at this; exact this
          subst g2
          clear hq g1
          by_cases hz : z < 0
          · obtain rfl : -1 = r := by rw [← HZ.out, if_pos hz]
            go_wp2
            go_ret
            exact ⟨rfl, bal hbl _⟩
          · obtain rfl : z = r := by rw [← HZ.out, if_neg hz]
            go_wp2
            go_ret
            exact ⟨rfl, bal hbl _⟩
        · have g2' : (d == 1) = false := by simpa using g2
          have HI2 : Hid (nn (fst (wh.drop (i + 1)) s) = r) := by have := HI.out; rwa [HST.out, if_neg (fun h => g2 h.2)] at this
          clear hq g1
          go_wp2
          go_roundw
          case rel => exact ⟨i + 1, by go_num, h1, HI2, bal hbl _⟩
          case measure => simp [intOf]; omega
      · have g1' : (nm.toList == s.toList) = false := by rw [hq]; simp [g1]
        have HI2 : Hid (nn (fst (wh.drop (i + 1)) s) = r) := by have := HI.out; rwa [HST.out, if_neg (fun h => g1 h.1)] at this
        clear hq g1
        go_wp2
        go_roundw
        case rel => exact ⟨i + 1, by go_num, h1, HI2, bal hbl _⟩
        case measure => simp [intOf]; omega
    · obtain rfl : -1 = r := by have := HI.out; rw [List.drop_of_length_le (by omega)] at this; exact this
      go_wp2
      go_ret
      exact ⟨rfl, hbl⟩

set_option maxHeartbeats 2000000 in
set_option maxRecDepth 100000 in
theorem leaves_any (s : ByteArray) (q : Qu) : ∀ (w : World) (B : Nat) (v0 v1 v2 v3 v4 v5 : Value) (r : Int), B ≤ w.heap.size → Qm w B q v0 v1 v2 v3 v4 v5 → Wq q → lvs s q = r →
    Calls Try.prog 30 #[.agg #[v0, v1, v2, v3, v4, v5], .string s] w fun e w' => e = .returned (.int .i64 r) ∧ Below w.heap.size w w' := by
  induction q with
  | none => intro w B v0 v1 v2 v3 v4 v5 r _ h; exact h.elim
  | node k c lo hi wh n x y ihx ihy =>
    rintro w B _ _ _ _ v4 _ r hB ⟨rfl, rfl, rfl, rfl, hc, hw, a, cap, rfl, hn, hm, hk⟩ ⟨hkn, hn2, wx, wy⟩ hr
    have HW : Hid (Tss w B v4 wh) := hw
    have HR : Hid (lvs s (.node k c lo hi wh n x y) = r) := hr
    have HK : Hid (1 ≤ n → n ≤ 2 → ∃ b o, a = some ⟨b, o, none⟩ ∧ b < B ∧ (∃ u0 u1 u2 u3 u4 u5, At6 w b o u0 u1 u2 u3 u4 u5 ∧ Qm w B x u0 u1 u2 u3 u4 u5) ∧
        (2 ≤ n → ∃ u0 u1 u2 u3 u4 u5, At6 w b (o + 6) u0 u1 u2 u3 u4 u5 ∧ Qm w B y u0 u1 u2 u3 u4 u5)) := hk
    have HWX : Hid (1 ≤ n → Wq x) := wx
    have HWY : Hid (2 ≤ n → Wq y) := wy
    obtain ⟨wa, wc, rfl, _⟩ := hw.slice
    clear hk hr hw wx wy hkn
    have hb0 := ba w (.cells #[.int .i64 k, .string c, .int .i64 lo, .int .i64 hi, .slice wa wh.length wc, .slice a n cap] 26)
    go_enter Try.func30, Try.ntmps30
    by_cases h0 : n = 0
    · subst h0
      have k1 := rfirst_any B (.slice wa wh.length wc) wh s _ (Nat.le_trans hB hb0.size) (HW.out.at hB hb0) r (by have := HR.out; rwa [lvs, if_pos rfl] at this)
      go_wp2_with fail
      refine k1.mono ?_
      rintro e w1 ⟨rfl, hb1⟩
      clear k1
      have hbw : Below w.heap.size w w1 := bt hb0 hb1
      go_wp2
      go_ret
      exact ⟨rfl, hbw⟩
    have hq0 : ((n : Int) == 0) = false := by rw [beq_eq_false_iff_ne]; omega
    obtain ⟨b, o, rfl, hbB, ⟨u0, u1, u2, u3, u4, u5, hu, hqm⟩, hk2⟩ := HK.out (by omega) hn2
    have HK2 : Hid (2 ≤ n → ∃ u0 u1 u2 u3 u4 u5, At6 w b (o + 6) u0 u1 u2 u3 u4 u5 ∧ Qm w B y u0 u1 u2 u3 u4 u5) := hk2
    obtain ⟨kk, kc, kl, kh, ka, kn', kd, kb, km, kp, rfl, rfl, rfl, rfl, rfl, rfl⟩ := hqm.shape
    obtain ⟨c0, c1, c2, c3, c4, c5⟩ := hu.keep hb0 (Nat.lt_of_lt_of_le hbB hB)
    obtain ⟨v, hr1⟩ : ∃ v, lvs s x = v := ⟨_, rfl⟩
    have k2 := ihx _ B _ _ _ _ _ _ v (Nat.le_trans hB hb0.size) (hqm.at hB hb0) (HWX.out (by omega)) hr1
    have HR2 : Hid ((if n = 2 ∧ lvs s y ≠ v then -1 else v) = r) := by have := HR.out; rw [lvs, if_neg h0, hr1] at this; exact this
    clear hr1 hqm hu hk2 HK HR
    have hb1c : b < w.heap.size := Nat.lt_of_lt_of_le hbB hB
    go_wp2_with fail
    refine k2.mono ?_
    rintro e w1 ⟨rfl, hb1⟩
    clear k2 c0 c1 c2 c3 c4 c5
    have hbw : Below w.heap.size w w1 := bt hb0 hb1
    have bx := (Bx.new w w.heap.size rfl (.int .i64 k) (.string c) (.int .i64 lo) (.int .i64 hi) (.slice wa wh.length wc) (.slice (some ⟨b, o, none⟩) n cap)).at hb1
    have t5 := bx.a5.c
    clear bx hb0 hb1
    rcases (show n = 1 ∨ n = 2 by omega) with rfl | rfl
    · obtain rfl : v = r := by have := HR2.out; rwa [if_neg (by omega)] at this
      by_cases hcap : cap = 1
      · subst hcap
        go_wp2
        go_loopw [26] (fun s' wr => s' = .int .i64 0 ∧ wr = w1) (fun _ _ => 0)
        case atStart => exact ⟨rfl, rfl⟩
        case round =>
          obtain ⟨rfl, rfl⟩ := hrel
          go_wp2
          go_ret
          exact ⟨rfl, hbw⟩
      · go_wp2
        go_loopw [26] (fun s' wr => s' = .int .i64 0 ∧ wr = w1) (fun _ _ => 0)
        case atStart => exact ⟨rfl, rfl⟩
        case round =>
          obtain ⟨rfl, rfl⟩ := hrel
          go_wp2
          go_ret
          exact ⟨rfl, hbw⟩
    · obtain ⟨u0, u1, u2, u3, u4, u5, hu, hqm⟩ := HK2.out (by omega)
      obtain ⟨jk, jc, jl, jh, ja, jn', jd, jb, jm, jp, rfl, rfl, rfl, rfl, rfl, rfl⟩ := hqm.shape
      have HU : Hid (At6 w b (o + 6) (.int .i64 jk) (.string jc) (.int .i64 jl) (.int .i64 jh) (.slice ja jn' jd) (.slice jb jm jp)) := hu
      have HQM : Hid (Qm w B y (.int .i64 jk) (.string jc) (.int .i64 jl) (.int .i64 jh) (.slice ja jn' jd) (.slice jb jm jp)) := hqm
      clear hu hqm HK2
      have hcap : ¬ cap = 1 := by omega
      have hcap2 : 1 ≤ cap := by omega
      have HR4 : Hid ((if lvs s y ≠ v then -1 else v) = r) := by
        show _ = _
        rw [← HR2.out]
        by_cases h : lvs s y = v
        · rw [if_neg (fun k => k h), if_neg (fun k => k.2 h)]
        · rw [if_pos h, if_pos ⟨rfl, h⟩]
      clear HR2
      go_wp2
      go_loopw [26] (fun s' wr => ∃ i : Nat, s' = .int .i64 (i : Int) ∧ i ≤ 1 ∧ Hid (i = 1 → r = v) ∧ Below w.heap.size w wr) (fun s' _ => 1 - (intOf s').toNat)
      case atStart => exact ⟨0, rfl, by decide, fun h => absurd h (by decide), hbw⟩
      case round =>
        obtain ⟨i, rfl, hi1, HI, hbr⟩ := hrel
        rcases (show i = 0 ∨ i = 1 by omega) with rfl | rfl
        · obtain ⟨c0, c1, c2, c3, c4, c5⟩ := HU.out.keep hbr (Nat.lt_of_lt_of_le hbB hB)
          obtain ⟨u, hr1⟩ : ∃ u, lvs s y = u := ⟨_, rfl⟩
          have hszr := hbr.size
          have k2 := ihy (wr.alloc (.cells #[.int .i64 jk, .string jc, .int .i64 jl, .int .i64 jh, .slice ja jn' jd, .slice jb jm jp] 26)) B _ _ _ _ _ _ u (by simp; omega) ((HQM.out.at hB hbr).at (by omega) (ba _ _)) (HWY.out (by decide)) hr1
          have HR3 : Hid ((if u ≠ v then -1 else v) = r) := by have := HR4.out; rwa [hr1] at this
          clear hr1 t5
          go_wp2_with fail
          refine k2.mono ?_
          rintro e w2 ⟨rfl, hb2⟩
          clear k2 c0 c1 c2 c3 c4 c5
          have hbw2 : Below w.heap.size w w2 := bt (bal hbr _) hb2
          by_cases huv : u = v
          · have HI2 : Hid (r = v) := by show _ = _; rw [← HR3.out, if_neg (fun h => h huv)]
            subst huv
            go_wp2
            go_roundw
            case rel => exact ⟨1, rfl, by decide, fun _ => HI2.out, hbw2⟩
            case measure => simp [intOf]
          · obtain rfl : -1 = r := by rw [← HR3.out, if_pos huv]
            have hq' : (u != v) = true := by simpa using huv
            go_wp2
            go_ret
            exact ⟨rfl, hbw2⟩
        · obtain rfl : r = v := HI.out rfl
          go_wp2
          go_ret
          exact ⟨rfl, hbr⟩

theorem prtV_err {er : Int} {z e : Int} (h : prtV (.error er) = (z, e)) : 0 = z ∧ er = e := by
  simp only [prtV, Prod.mk.injEq] at h; exact h
theorem typV_split {r : Except Int Bnd} {b1 b2 b3 er : Int} (h : typV r = ((b1, b2, b3), er)) (hne : ∀ e, r = .error e → e ≠ 0) : (er = 0 ∧ r = .ok (b1, b2, b3)) ∨ (er ≠ 0 ∧ r = .error er) := by
  cases r with
  | error e =>
    obtain ⟨_, _, _, rfl⟩ := typV_err h
    exact .inr ⟨hne _ rfl, rfl⟩
  | ok b =>
    obtain ⟨c1, c2, c3⟩ := b
    obtain ⟨rfl, rfl, rfl, rfl⟩ := typV_ok h
    exact .inl ⟨rfl, rfl⟩
theorem typ_ne {l : List Col} {q : Qu} {e : Int} (h : typ l q = .error e) : e ≠ 0 := by
  unfold typ at h
  split at h
  · exact bnd_ne q _ _ h
  · cases h; assumption

set_option maxHeartbeats 2000000 in
set_option maxRecDepth 100000 in
theorem rpart_any (l : List Col) (q : Qu) (s : ByteArray) (w : World) (B : Nat) (lv v0 v1 v2 v3 v4 v5 : Value) (z er : Int) (hB : B ≤ w.heap.size) (hp : Cols w B lv l) (hq : Qm w B q v0 v1 v2 v3 v4 v5) (hr : prtV (prt l q s) = (z, er)) :
    Calls Try.prog 11 #[lv, .agg #[v0, v1, v2, v3, v4, v5], .string s] w fun e w' => e = .returned (.tuple #[.int .i64 z, .int .i64 er]) ∧ Below w.heap.size w w' := by
  have HP : Hid (Cols w B lv l) := hp
  have HQ : Hid (Qm w B q v0 v1 v2 v3 v4 v5) := hq
  have HR : Hid (prtV (prt l q s) = (z, er)) := hr
  obtain ⟨b1, b2, b3, te, hty⟩ : ∃ b1 b2 b3 te, typV (typ l q) = ((b1, b2, b3), te) := ⟨_, _, _, _, rfl⟩
  obtain ⟨la, lc, rfl, hlc, hll⟩ := hp.slice
  obtain ⟨kk, kc, kl, kh, ka, kn', kd, kb, km, kp, rfl, rfl, rfl, rfl, rfl, rfl⟩ := hq.shape
  have hb0 := ba w (.cells #[.int .i64 kk, .string kc, .int .i64 kl, .int .i64 kh, .slice ka kn' kd, .slice kb km kp] 26)
  have bx0 : Hid (Bx (w.alloc (.cells #[.int .i64 kk, .string kc, .int .i64 kl, .int .i64 kh, .slice ka kn' kd, .slice kb km kp] 26)) w.heap.size (.int .i64 kk) (.string kc) (.int .i64 kl) (.int .i64 kh) (.slice ka kn' kd) (.slice kb km kp)) := Bx.new _ _ rfl _ _ _ _ _ _
  have k1 := rtype_any l q _ B _ _ _ _ _ _ _ b1 b2 b3 te (Nat.le_trans hB hb0.size) (hp.at hB hb0) (hq.at hB hb0) hty
  have HTY : Hid (typV (typ l q) = ((b1, b2, b3), te)) := hty
  clear hp hq hr hty
  go_enter Try.func11, Try.ntmps11
  go_wp2_with fail
  refine k1.mono ?_
  rintro e w1 ⟨rfl, hb1⟩
  clear k1
  have hb2 : Below (w.alloc (.cells #[.int .i64 kk, .string kc, .int .i64 kl, .int .i64 kh, .slice ka kn' kd, .slice kb km kp] 26)).heap.size (w.alloc (.cells #[.int .i64 kk, .string kc, .int .i64 kl, .int .i64 kh, .slice ka kn' kd, .slice kb km kp] 26)) (w1.alloc (.cells #[.int .i64 b1, .int .i64 b2, .int .i64 b3] 28)) := bal hb1 _
  have hbw : Below w.heap.size w (w1.alloc (.cells #[.int .i64 b1, .int .i64 b2, .int .i64 b3] 28)) := bt hb0 hb2
  have HBX : Hid (Bx (w1.alloc (.cells #[.int .i64 b1, .int .i64 b2, .int .i64 b3] 28)) w.heap.size (.int .i64 kk) (.string kc) (.int .i64 kl) (.int .i64 kh) (.slice ka kn' kd) (.slice kb km kp)) := bx0.out.at hb2
  clear hb0 hb1 hb2 bx0
  have hs1 := hbw.size
  rcases typV_split HTY.out (fun e he => typ_ne he) with ⟨rfl, ht⟩ | ⟨hte, ht⟩
  · have HR1 : Hid (prtV (match fnd l s with
      | none => .error 7
      | some i => match onl s q with
        | none => .error 6
        | some v => if 0 ≤ v ∧ v < szC l i then .ok v else .error 6) = (z, er)) := by have := HR.out; rw [prt, ht] at this; exact this
    have HWQ : Hid (Wq q) := bnd_wq q _ _ (typ_ok ht).2
    clear ht HR HTY
    obtain ⟨fi, hfi⟩ : ∃ fi, fnI l s = fi := ⟨_, rfl⟩
    have k2 := rcol_any B _ l s _ (Nat.le_trans hB hs1) (HP.out.at hB hbw) fi hfi
    go_wp2_with fail
    refine k2.mono ?_
    rintro e w2 ⟨rfl, hb2⟩
    clear k2
    have hbw2 := bt hbw hb2
    have HBX2 : Hid (Bx w2 w.heap.size (.int .i64 kk) (.string kc) (.int .i64 kl) (.int .i64 kh) (.slice ka kn' kd) (.slice kb km kp)) := HBX.out.at hb2
    clear hb2 HBX
    have hs2 := hbw2.size
    cases hf : fnd l s with
    | none =>
      obtain rfl : -1 = fi := by rw [← hfi, fnI_none hf]
      have hv := HR1.out
      rw [hf] at hv
      obtain ⟨rfl, rfl⟩ := prtV_err hv
      clear hv hf hfi
      go_wp2
      exact bodyPost_ret (v := .tuple #[.int .i64 0, .int .i64 7]) (by simp [results, Try.results11, go_sem]) rfl ⟨rfl, hbw2⟩
    | some i =>
      obtain rfl : (i : Int) = fi := by rw [← hfi, fnI_some hf]
      have HR2 : Hid (prtV (match onl s q with
        | none => .error 6
        | some v => if 0 ≤ v ∧ v < szC l i then .ok v else .error 6) = (z, er)) := by have := HR1.out; rw [hf] at this; exact this
      have hil := fnd_lt hf
      clear HR1 hf hfi
      obtain ⟨v, hv⟩ : ∃ v, lvs s q = v := ⟨_, rfl⟩
      have k3 := leaves_any s q w2 B _ _ _ _ _ _ v (by omega) (HQ.out.at hB hbw2) HWQ.out hv
      have HV : Hid (nn (onl s q) = v) := by rw [← lvs_onl]; exact hv
      clear hv
      have m0 := HBX2.out.a0.c
      have m1 := HBX2.out.a1.c
      have m2 := HBX2.out.a2.c
      have m3 := HBX2.out.a3.c
      have m4 := HBX2.out.a4.c
      have m5 := HBX2.out.a5.c
      go_wp2_with fail
      refine k3.mono ?_
      rintro e w3 ⟨rfl, hb3⟩
      clear k3 m0 m1 m2 m3 m4 m5
      have hbw3 := bt hbw2 hb3
      obtain ⟨b, o, nm, sz, rfl, hb, hgt, c1, c2, hn⟩ := HP.out.get hB hbw3 hil
      have hsz : szC l i = sz := by simp [szC, hgt]
      have HR3 : Hid (if 0 ≤ v ∧ v < sz then z = v ∧ er = 0 else z = 0 ∧ er = 6) := by
        have h1 := HR2.out
        have h2 := HV.out
        rw [hsz] at h1
        show if _ then _ else _
        cases ho : onl s q with
        | none =>
          rw [ho] at h1 h2
          simp only [nn] at h2
          obtain ⟨h3, h4⟩ := prtV_err h1
          rw [if_neg (by omega)]
          exact ⟨h3.symm, h4.symm⟩
        | some u =>
          rw [ho] at h1 h2
          simp only [nn] at h2
          simp only at h1
          by_cases hu : 0 ≤ u ∧ u < sz
          · rw [if_pos hu] at h1
            simp only [prtV, Prod.mk.injEq] at h1
            rw [if_neg (by omega)] at h2
            subst h2
            rw [if_pos hu]
            exact ⟨h1.1.symm, h1.2.symm⟩
          · rw [if_neg hu] at h1
            obtain ⟨h3, h4⟩ := prtV_err h1
            split at h2
            · rw [if_neg (by omega)]; exact ⟨h3.symm, h4.symm⟩
            · subst h2; rw [if_neg hu]; exact ⟨h3.symm, h4.symm⟩
      clear hgt hsz HR2 HV
      by_cases h1 : v < 0
      · obtain ⟨rfl, rfl⟩ : z = 0 ∧ er = 6 := by have := HR3.out; rwa [if_neg (by omega)] at this
        go_wp2
        exact bodyPost_ret (v := .tuple #[.int .i64 0, .int .i64 6]) (by simp [results, Try.results11, go_sem]) rfl ⟨rfl, hbw3⟩
      · by_cases h2 : sz ≤ v
        · obtain ⟨rfl, rfl⟩ : z = 0 ∧ er = 6 := by have := HR3.out; rwa [if_neg (by omega)] at this
          go_wp2
          exact bodyPost_ret (v := .tuple #[.int .i64 0, .int .i64 6]) (by simp [results, Try.results11, go_sem]) rfl ⟨rfl, hbw3⟩
        · obtain ⟨rfl, rfl⟩ : z = v ∧ er = 0 := by have := HR3.out; rwa [if_pos (by omega)] at this
          have h3 : decide (sz ≤ z) = false := decide_eq_false h2
          go_wp2
          exact bodyPost_ret (v := .tuple #[.int .i64 z, .int .i64 0]) (by simp [results, Try.results11, go_sem]) rfl ⟨rfl, hbw3⟩
  · have hv := HR.out
    rw [prt, ht] at hv
    obtain ⟨rfl, rfl⟩ := prtV_err hv
    clear hv ht
    have hne : (te != 0) = true := by simpa using hte
    go_wp2
    exact bodyPost_ret (v := .tuple #[.int .i64 0, .int .i64 te]) (by simp [results, Try.results11, go_sem]) rfl ⟨rfl, hbw⟩
end Go.Proofs.Ytejeiahbnnechaa
