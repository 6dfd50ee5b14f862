import Derived.Test.YtejeiahbnnechaaTyp
namespace Go.Proofs.Ytejeiahbnnechaa.Ds

/-- the first test of a column for a value -/
def fst : List Tst → ByteArray → Option Int
  | [], _ => none
  | t :: r, s => if t.1 = s ∧ t.2.1 = 1 then some t.2.2 else fst r s
theorem fst_step {wh : List Tst} {i : Nat} {t : Tst} {s : ByteArray} (h : wh[i]? = some t) : fst (wh.drop i) s = if t.1 = s ∧ t.2.1 = 1 then some t.2.2 else fst (wh.drop (i + 1)) s := by
  rw [List.drop_eq_getElem_cons (List.getElem?_eq_some_iff.1 h).1, (List.getElem?_eq_some_iff.1 h).2]
  rfl
/-- the one value that all questions without kids ask for -/
def onl (s : ByteArray) : Qu → Option Int
  | .none => none
  | .node _ _ _ _ wh n x y => if n = 0 then fst wh s else match onl s x with
    | none => none
    | some v => if n = 2 then (match onl s y with | none => none | some u => if u = v then some v else none) else some v
/-- as many kids as there may be -/
def Wq : Qu → Prop
  | .none => True
  | .node k _ _ _ _ n x y => (n : Int) = kidN k ∧ n ≤ 2 ∧ (1 ≤ n → Wq x) ∧ (2 ≤ n → Wq y)
theorem bnd_wq {l : List Col} (q : Qu) : ∀ (lv : Nat) (b : Bnd), bnd l lv q = .ok b → Wq q := by
  induction q with
  | none => intro lv b h; trivial
  | node k c lo hi wh n x y ihx ihy =>
    intro lv b h
    simp only [bnd] at h
    split at h
    · cases h
    · split at h
      · cases h
      · split at h
        · rename_i hk
          have hn2 : n ≤ 2 := by have := hk; unfold kidN at this; repeat' split at this; all_goals omega
          split at h
          · cases h
          · rename_i bx hbx
            split at h
            · cases h
            · rename_i b' hby
              refine ⟨hk, hn2, fun g => ?_, fun g => ?_⟩
              · rw [ifK, if_pos g] at hbx; exact ihx _ _ hbx
              · rw [ifK, if_pos g] at hby; exact ihy _ _ hby
        · cases h
end Go.Proofs.Ytejeiahbnnechaa.Ds
namespace Go.Proofs.Ytejeiahbnnechaa
open Go.RowKit Go.Proofs.Ytejeiahbnnechaa.Ds

/-- a number, or ErrNone -/
def endI : Option Int → Ending
  | some v => .returned (.int .i64 v)
  | none => .panicked (chn 6)

set_option maxHeartbeats 1000000 in
set_option maxRecDepth 100000 in
theorem first_any (B : Nat) (v : Value) (wh : List Tst) (s : ByteArray) (w : World) (hB : B ≤ w.heap.size) (hq : Tss w B v wh) (r : Option Int) (hr : fst wh s = r) :
    Calls Try.prog 50 #[v, .string s] w fun e w' => e = endI r ∧ Below w.heap.size w w' := by
  have HQ : Hid (Tss w B v wh) := hq
  have HR : Hid (fst wh s = r) := hr
  obtain ⟨a, c, rfl, hc, hl⟩ := hq.slice
  clear hr
  go_enter Try.func50, Try.ntmps50
  go_wp2
  go_loopw [9] (fun s' wr => ∃ (i : Nat), s' = .int .i64 (i : Int) ∧ i ≤ wh.length ∧ Hid (fst (wh.drop i) s = r) ∧ Below w.heap.size w wr) (fun s' _ => wh.length - (intOf s').toNat)
  case atStart => exact ⟨0, rfl, Nat.zero_le _, by simpa [Hid] using HR.out, Below.refl _ _⟩
  case round =>
    obtain ⟨i, rfl, hi, HI, hbl⟩ := hrel
    by_cases h1 : i < wh.length
    · obtain ⟨b, o, nm, d, z, rfl, hb, hgt, c1, c2, c3, hn⟩ := HQ.out.get hB hbl h1
      have HST : Hid (fst (wh.drop i) s = if nm = s ∧ d = 1 then some z else fst (wh.drop (i + 1)) s) := fst_step hgt
      clear hgt
      have hq := str_eq nm s
      by_cases g1 : nm = s
      · have g1' : (nm.toList == s.toList) = true := by rw [hq]; simp [g1]
        by_cases g2 : d = 1
        · obtain rfl : some z = r := by rw [← HI.out, HST.out, if_pos ⟨g1, g2⟩]
          subst g2
          clear hq g1
          go_wp2
          go_ret
          exact ⟨rfl, bal hbl _⟩
        · have g2' : (d == 1) = false := by simpa using g2
          have HI2 : Hid (fst (wh.drop (i + 1)) s = r) := by have := HI.out; rwa [HST.out, if_neg (fun h => g2 h.2)] at this
          clear hq g1
          go_wp2
          go_roundw
          case rel => exact ⟨i + 1, by go_num, h1, HI2, bal hbl _⟩
          case measure => simp [intOf]; omega
      · have g1' : (nm.toList == s.toList) = false := by rw [hq]; simp [g1]
        have HI2 : Hid (fst (wh.drop (i + 1)) s = r) := by have := HI.out; rwa [HST.out, if_neg (fun h => g1 h.1)] at this
        clear hq g1
        go_wp2
        go_roundw
        case rel => exact ⟨i + 1, by go_num, h1, HI2, bal hbl _⟩
        case measure => simp [intOf]; omega
    · obtain rfl : none = r := by have := HI.out; rw [List.drop_of_length_le (by omega)] at this; exact this
      go_wp2
      exact ⟨rfl, rfl, hbl⟩

set_option maxHeartbeats 2000000 in
set_option maxRecDepth 100000 in
theorem only_any (s : ByteArray) (q : Qu) : ∀ (w : World) (B : Nat) (v0 v1 v2 v3 v4 v5 : Value) (r : Option Int), B ≤ w.heap.size → Qm w B q v0 v1 v2 v3 v4 v5 → Wq q → onl s q = r →
    Calls Try.prog 28 #[.agg #[v0, v1, v2, v3, v4, v5], .string s] w fun e w' => e = endI r ∧ Below w.heap.size w w' := by
  induction q with
  | none => intro w B v0 v1 v2 v3 v4 v5 r _ h; exact h.elim
  | node k c lo hi wh n x y ihx ihy =>
    rintro w B _ _ _ _ v4 _ r hB ⟨rfl, rfl, rfl, rfl, hc, hw, a, cap, rfl, hn, hm, hk⟩ ⟨hkn, hn2, wx, wy⟩ hr
    have HW : Hid (Tss w B v4 wh) := hw
    have HR : Hid (onl s (.node k c lo hi wh n x y) = r) := hr
    have HK : Hid (1 ≤ n → n ≤ 2 → ∃ b o, a = some ⟨b, o, none⟩ ∧ b < B ∧ (∃ u0 u1 u2 u3 u4 u5, At6 w b o u0 u1 u2 u3 u4 u5 ∧ Qm w B x u0 u1 u2 u3 u4 u5) ∧
        (2 ≤ n → ∃ u0 u1 u2 u3 u4 u5, At6 w b (o + 6) u0 u1 u2 u3 u4 u5 ∧ Qm w B y u0 u1 u2 u3 u4 u5)) := hk
    have HWX : Hid (1 ≤ n → Wq x) := wx
    have HWY : Hid (2 ≤ n → Wq y) := wy
    obtain ⟨wa, wc, rfl, _⟩ := hw.slice
    clear hk hr hw wx wy hkn
    have hb0 := ba w (.cells #[.int .i64 k, .string c, .int .i64 lo, .int .i64 hi, .slice wa wh.length wc, .slice a n cap] 26)
    go_enter Try.func28, Try.ntmps28
    by_cases h0 : n = 0
    · subst h0
      have k1 := first_any B (.slice wa wh.length wc) wh s _ (Nat.le_trans hB hb0.size) (HW.out.at hB hb0) r (by have := HR.out; rwa [onl, if_pos rfl] at this)
      go_wp2_with fail
      refine k1.mono ?_
      rintro e w1 ⟨he, hb1⟩
      clear k1
      have hbw : Below w.heap.size w w1 := bt hb0 hb1
      cases r with
      | none =>
        obtain rfl : e = .panicked (chn 6) := he
        go_wp2
        exact ⟨rfl, rfl, hbw⟩
      | some v =>
        obtain rfl : e = .returned (.int .i64 v) := he
        go_wp2
        go_ret
        exact ⟨rfl, hbw⟩
    have hq0 : ((n : Int) == 0) = false := by rw [beq_eq_false_iff_ne]; omega
    obtain ⟨b, o, rfl, hbB, ⟨u0, u1, u2, u3, u4, u5, hu, hqm⟩, hk2⟩ := HK.out (by omega) hn2
    have HK2 : Hid (2 ≤ n → ∃ u0 u1 u2 u3 u4 u5, At6 w b (o + 6) u0 u1 u2 u3 u4 u5 ∧ Qm w B y u0 u1 u2 u3 u4 u5) := hk2
    obtain ⟨kk, kc, kl, kh, ka, kn', kd, kb, km, kp, rfl, rfl, rfl, rfl, rfl, rfl⟩ := hqm.shape
    obtain ⟨c0, c1, c2, c3, c4, c5⟩ := hu.keep hb0 (Nat.lt_of_lt_of_le hbB hB)
    obtain ⟨r1, hr1⟩ : ∃ r1, onl s x = r1 := ⟨_, rfl⟩
    have k2 := ihx _ B _ _ _ _ _ _ r1 (Nat.le_trans hB hb0.size) (hqm.at hB hb0) (HWX.out (by omega)) hr1
    have HR1 : Hid (onl s x = r1) := hr1
    clear hr1 hqm hu hk2 HK
    have hb1c : b < w.heap.size := Nat.lt_of_lt_of_le hbB hB
    go_wp2_with fail
    refine k2.mono ?_
    rintro e w1 ⟨he, hb1⟩
    clear k2 c0 c1 c2 c3 c4 c5
    have hbw : Below w.heap.size w w1 := bt hb0 hb1
    have bx := (Bx.new w w.heap.size rfl (.int .i64 k) (.string c) (.int .i64 lo) (.int .i64 hi) (.slice wa wh.length wc) (.slice (some ⟨b, o, none⟩) n cap)).at hb1
    have t5 := bx.a5.c
    clear bx hb0 hb1
    cases r1 with
    | none =>
      obtain rfl : none = r := by rw [← HR.out, onl, if_neg h0, HR1.out]
      obtain rfl : e = .panicked (chn 6) := he
      go_wp2
      exact ⟨rfl, rfl, hbw⟩
    | some v =>
      obtain rfl : e = .returned (.int .i64 v) := he
      have HR2 : Hid ((if n = 2 then (match onl s y with | none => none | some u => if u = v then some v else none) else some v) = r) := by have := HR.out; rw [onl, if_neg h0, HR1.out] at this; exact this
      clear HR HR1
      rcases (show n = 1 ∨ n = 2 by omega) with rfl | rfl
      · obtain rfl : some v = r := HR2.out
        by_cases hcap : cap = 1
        · subst hcap
          go_wp2
          go_loopw [26] (fun s' wr => s' = .int .i64 0 ∧ wr = w1) (fun _ _ => 0)
          case atStart => exact ⟨rfl, rfl⟩
          case round =>
            obtain ⟨rfl, rfl⟩ := hrel
            go_wp2
            go_ret
            exact ⟨rfl, hbw⟩
        ·
          go_wp2
          go_loopw [26] (fun s' wr => s' = .int .i64 0 ∧ wr = w1) (fun _ _ => 0)
          case atStart => exact ⟨rfl, rfl⟩
          case round =>
            obtain ⟨rfl, rfl⟩ := hrel
            go_wp2
            go_ret
            exact ⟨rfl, hbw⟩
      · obtain ⟨u0, u1, u2, u3, u4, u5, hu, hqm⟩ := HK2.out (by omega)
        obtain ⟨jk, jc, jl, jh, ja, jn', jd, jb, jm, jp, rfl, rfl, rfl, rfl, rfl, rfl⟩ := hqm.shape
        have HU : Hid (At6 w b (o + 6) (.int .i64 jk) (.string jc) (.int .i64 jl) (.int .i64 jh) (.slice ja jn' jd) (.slice jb jm jp)) := hu
        have HQM : Hid (Qm w B y (.int .i64 jk) (.string jc) (.int .i64 jl) (.int .i64 jh) (.slice ja jn' jd) (.slice jb jm jp)) := hqm
        clear hu hqm HK2
        have hcap : ¬ cap = 1 := by omega
        have hcap2 : 1 ≤ cap := by omega
        have HR3 : Hid ((match onl s y with | none => none | some u => if u = v then some v else none) = r) := HR2.out
        clear HR2
        go_wp2
        go_loopw [26] (fun s' wr => ∃ i : Nat, s' = .int .i64 (i : Int) ∧ i ≤ 1 ∧ Hid (i = 1 → r = some v) ∧ Below w.heap.size w wr) (fun s' _ => 1 - (intOf s').toNat)
        case atStart => exact ⟨0, rfl, by decide, fun h => absurd h (by decide), hbw⟩
        case round =>
          obtain ⟨i, rfl, hi1, HI, hbr⟩ := hrel
          rcases (show i = 0 ∨ i = 1 by omega) with rfl | rfl
          · obtain ⟨c0, c1, c2, c3, c4, c5⟩ := HU.out.keep hbr (Nat.lt_of_lt_of_le hbB hB)
            obtain ⟨r1, hr1⟩ : ∃ r1, onl s y = r1 := ⟨_, rfl⟩
            have hszr := hbr.size
            have k2 := ihy (wr.alloc (.cells #[.int .i64 jk, .string jc, .int .i64 jl, .int .i64 jh, .slice ja jn' jd, .slice jb jm jp] 26)) B _ _ _ _ _ _ r1 (by simp; omega) ((HQM.out.at hB hbr).at (by omega) (ba _ _)) (HWY.out (by decide)) hr1
            have HR1 : Hid (onl s y = r1) := hr1
            clear hr1 t5
            go_wp2_with fail
            refine k2.mono ?_
            rintro e w2 ⟨he, hb2⟩
            clear k2 c0 c1 c2 c3 c4 c5
            have hbw2 : Below w.heap.size w w2 := bt (bal hbr _) hb2
            cases r1 with
            | none =>
              obtain rfl : none = r := by rw [← HR3.out, HR1.out]
              obtain rfl : e = .panicked (chn 6) := he
              go_wp2
              exact ⟨rfl, rfl, hbw2⟩
            | some u =>
              obtain rfl : e = .returned (.int .i64 u) := he
              by_cases huv : u = v
              · have HI2 : Hid (r = some v) := by show _ = _; rw [← HR3.out, HR1.out]; simp [huv]
                subst huv
                go_wp2_with fail
                refine (must_ok 6 _).mono ?_
                rintro e w3 ⟨rfl, rfl⟩
                go_wp2
                go_roundw
                case rel => exact ⟨1, rfl, by decide, fun _ => HI2.out, hbw2⟩
                case measure => simp [intOf]
              · obtain rfl : none = r := by rw [← HR3.out, HR1.out]; simp [huv]
                have hq' : (u == v) = false := by simpa using huv
                go_wp2_with fail
                refine (must_no 6 _).mono ?_
                rintro e w3 ⟨rfl, rfl⟩
                go_wp2
                exact ⟨rfl, rfl, hbw2⟩
          · obtain rfl : r = some v := HI.out rfl
            go_wp2
            go_ret
            exact ⟨rfl, hbr⟩
end Go.Proofs.Ytejeiahbnnechaa
