import Derived.Test.YtejeiahbnnechaaOnl
namespace Go.Proofs.Ytejeiahbnnechaa
open Go.RowKit Go.Proofs.Ytejeiahbnnechaa.Ds

/-- what Part says -/
def prt (l : List Col) (q : Qu) (s : ByteArray) : Except Int Int :=
  match typ l q with
  | .error e => .error e
  | .ok _ => match fnd l s with
    | none => .error 7
    | some i => match onl s q with
      | none => .error 6
      | some v => if 0 ≤ v ∧ v < szC l i then .ok v else .error 6
theorem typ_ok {l : List Col} {q : Qu} {b : Bnd} (h : typ l q = .ok b) : colE l = 0 ∧ bnd l 1 q = .ok b := by
  unfold typ at h
  split at h
  · exact ⟨by assumption, h⟩
  · cases h
def endN : Except Int Int → Ending
  | .error e => .panicked (chn e)
  | .ok v => .returned (.int .i64 v)

set_option maxHeartbeats 2000000 in
set_option maxRecDepth 100000 in
theorem part1_any (l : List Col) (q : Qu) (s : ByteArray) (w : World) (B L N S : Nat) (lv v0 v1 v2 v3 v4 v5 : Value) (r : Except Int Int) (hB : B ≤ w.heap.size) (hp : Cols w B lv l) (hq : Qm w B q v0 v1 v2 v3 v4 v5) (hr : prt l q s = r) (hL : Cl w L 0 lv) (hN : Bx w N v0 v1 v2 v3 v4 v5) (hS : Cl w S 0 (.string s)) :
    Calls Try.prog 26 #[.pointer (some ⟨L, 0, none⟩), .pointer (some ⟨N, 0, none⟩), .pointer (some ⟨S, 0, none⟩)] w fun e w' => e = endN r ∧ Below w.heap.size w w' := by
  have HP : Hid (Cols w B lv l) := hp
  have HQ : Hid (Qm w B q v0 v1 v2 v3 v4 v5) := hq
  have HR : Hid (prt l q s = r) := hr
  obtain ⟨la, lc, rfl, hlc, hll⟩ := hp.slice
  obtain ⟨kk, kc, kl, kh, ka, kn', kd, kb, km, kp, rfl, rfl, rfl, rfl, rfl, rfl⟩ := hq.shape
  have HL : Hid (Cl w L 0 (.slice la l.length lc)) := hL
  have HN : Hid (Bx w N (.int .i64 kk) (.string kc) (.int .i64 kl) (.int .i64 kh) (.slice ka kn' kd) (.slice kb km kp)) := hN
  have HS : Hid (Cl w S 0 (.string s)) := hS
  obtain ⟨r1, hr1⟩ : ∃ r1, typ l q = r1 := ⟨_, rfl⟩
  have k1 := typed_any l q w B _ _ _ _ _ _ _ r1 hB hp hq hr1
  have HT : Hid (typ l q = r1) := hr1
  have m0 := hN.a0.c
  have m1 := hN.a1.c
  have m2 := hN.a2.c
  have m3 := hN.a3.c
  have m4 := hN.a4.c
  have m5 := hN.a5.c
  have m6 := hL.c
  have m7 := hS.c
  clear hp hq hr hL hN hS hr1
  go_enter Try.func26, Try.ntmps26
  go_wp2_with fail
  refine k1.mono ?_
  rintro e w1 ⟨he, hb1⟩
  clear k1 m0 m1 m2 m3 m4 m5 m6 m7
  cases r1 with
  | error er =>
    obtain rfl : Except.error er = r := by rw [← HR.out, prt, HT.out]
    obtain rfl : e = .panicked (chn er) := he
    go_wp2
    exact ⟨rfl, rfl, hb1⟩
  | ok bb =>
    obtain ⟨b1, b2, b3⟩ := bb
    obtain rfl : e = .returned (.agg #[.int .i64 b1, .int .i64 b2, .int .i64 b3]) := he
    obtain ⟨hce, hbd⟩ := typ_ok HT.out
    have HWQ : Hid (Wq q) := bnd_wq q _ _ hbd
    clear hce hbd
    have hs1 := hb1.size
    have HR1 : Hid ((match fnd l s with
      | none => .error 7
      | some i => match onl s q with
        | none => .error 6
        | some v => if 0 ≤ v ∧ v < szC l i then .ok v else .error 6) = r) := by have := HR.out; rw [prt, HT.out] at this; exact this
    clear HR HT
    have m6 := (HL.out.at hb1).c
    have m7 := (HS.out.at hb1).c
    cases hf : fnd l s with
    | none =>
      have k2 := find_no B _ l s w1 (by omega) (HP.out.at hB hb1) hf
      rw [hf] at HR1
      obtain rfl : Except.error 7 = r := HR1.out
      clear hf
      go_wp2_with fail
      refine k2.mono ?_
      rintro e w2 ⟨rfl, hb2⟩
      have hbw := bt hb1 hb2
      go_wp2
      exact ⟨rfl, rfl, hbw⟩
    | some i =>
      have k2 := find_ok B _ l s w1 (by omega) (HP.out.at hB hb1) i hf
      rw [hf] at HR1
      have hil := fnd_lt hf
      clear hf
      go_wp2_with fail
      refine k2.mono ?_
      rintro e w2 ⟨rfl, hb2⟩
      clear k2 m6 m7
      have hbw := bt hb1 hb2
      have hs2 := hbw.size
      obtain ⟨ro, hro⟩ : ∃ ro, onl s q = ro := ⟨_, rfl⟩
      have k3 := only_any s q w2 B _ _ _ _ _ _ ro (by omega) (HQ.out.at hB hbw) HWQ.out hro
      have HR2 : Hid ((match onl s q with
        | none => .error 6
        | some v => if 0 ≤ v ∧ v < szC l i then .ok v else .error 6) = r) := HR1.out
      rw [hro] at HR2
      clear HR1 hro
      have hN2 := HN.out.at hbw
      have m0 := hN2.a0.c
      have m1 := hN2.a1.c
      have m2 := hN2.a2.c
      have m3 := hN2.a3.c
      have m4 := hN2.a4.c
      have m5 := hN2.a5.c
      have m7 := (HS.out.at hbw).c
      clear hN2
      go_wp2_with fail
      refine k3.mono ?_
      rintro e w3 ⟨he, hb3⟩
      clear k3 m0 m1 m2 m3 m4 m5 m7
      have hbw3 := bt hbw hb3
      cases ro with
      | none =>
        obtain rfl : Except.error 6 = r := HR2.out
        obtain rfl : e = .panicked (chn 6) := he
        go_wp2
        exact ⟨rfl, rfl, hbw3⟩
      | some v =>
        obtain rfl : e = .returned (.int .i64 v) := he
        have HR3 : Hid ((if 0 ≤ v ∧ v < szC l i then (.ok v : Except Int Int) else .error 6) = r) := HR2.out
        clear HR2
        have m6 := (HL.out.at hbw3).c
        obtain ⟨b, o, nm, sz, rfl, hb, hgt, c1, c2, hn⟩ := HP.out.get hB hbw3 hil
        have hsz : szC l i = sz := by simp [szC, hgt]
        rw [hsz] at HR3
        clear hgt hsz
        by_cases h1 : 0 ≤ v
        · by_cases h2 : v < sz
          · obtain rfl : Except.ok v = r := by rw [← HR3.out, if_pos ⟨h1, h2⟩]
            go_wp2_with fail
            refine (must_ok 6 _).mono ?_
            rintro e w4 ⟨rfl, rfl⟩
            go_wp2
            go_ret
            exact ⟨rfl, hbw3⟩
          · obtain rfl : Except.error 6 = r := by rw [← HR3.out, if_neg (fun h => h2 h.2)]
            have h3 : decide (v < sz) = false := decide_eq_false h2
            go_wp2_with fail
            refine (must_no 6 _).mono ?_
            rintro e w4 ⟨rfl, rfl⟩
            go_wp2
            exact ⟨rfl, rfl, hbw3⟩
        · obtain rfl : Except.error 6 = r := by rw [← HR3.out, if_neg (fun h => h1 h.1)]
          go_wp2_with fail
          refine (must_no 6 _).mono ?_
          rintro e w4 ⟨rfl, rfl⟩
          go_wp2
          exact ⟨rfl, rfl, hbw3⟩

/-- what Part answers -/
def prtV : Except Int Int → Int × Int
  | .error e => (0, e)
  | .ok v => (v, 0)
set_option maxHeartbeats 1000000 in
set_option maxRecDepth 100000 in
theorem part_any (l : List Col) (q : Qu) (s : ByteArray) (w : World) (B : Nat) (lv v0 v1 v2 v3 v4 v5 : Value) (z er : Int) (hB : B ≤ w.heap.size) (hp : Cols w B lv l) (hq : Qm w B q v0 v1 v2 v3 v4 v5) (hr : prtV (prt l q s) = (z, er)) :
    Calls Try.prog 10 #[lv, .agg #[v0, v1, v2, v3, v4, v5], .string s] w fun e w' => e = .returned (.tuple #[.int .i64 z, .int .i64 er]) ∧ Below w.heap.size w w' := by
  have hb0 : Below w.heap.size w (((w.alloc (.cells #[lv] 22)).alloc (.cells #[v0, v1, v2, v3, v4, v5] 26)).alloc (.cells #[.string s] 9)) := bal (bal (ba _ _) _) _
  have hL : Cl (((w.alloc (.cells #[lv] 22)).alloc (.cells #[v0, v1, v2, v3, v4, v5] 26)).alloc (.cells #[.string s] 9)) w.heap.size 0 lv := ((Cl.new _ 22 _ _ rfl rfl).at (ba _ _)).at (ba _ _)
  have hN : Bx (((w.alloc (.cells #[lv] 22)).alloc (.cells #[v0, v1, v2, v3, v4, v5] 26)).alloc (.cells #[.string s] 9)) (w.heap.size + 1) v0 v1 v2 v3 v4 v5 := (Bx.new _ _ (by simp) _ _ _ _ _ _).at (ba _ _)
  have hS : Cl (((w.alloc (.cells #[lv] 22)).alloc (.cells #[v0, v1, v2, v3, v4, v5] 26)).alloc (.cells #[.string s] 9)) (w.heap.size + 1 + 1) 0 (.string s) := Cl.new _ 9 _ _ (by simp) rfl
  have kc : Calls Try.prog 25 #[.func (.func 26) #[] #[.pointer (some ⟨w.heap.size, 0, none⟩), .pointer (some ⟨w.heap.size + 1, 0, none⟩), .pointer (some ⟨w.heap.size + 1 + 1, 0, none⟩)]] (((w.alloc (.cells #[lv] 22)).alloc (.cells #[v0, v1, v2, v3, v4, v5] 26)).alloc (.cells #[.string s] 9)) fun e w' => e = .returned (.tuple #[.int .i64 z, .int .i64 er]) ∧ Below (((w.alloc (.cells #[lv] 22)).alloc (.cells #[v0, v1, v2, v3, v4, v5] 26)).alloc (.cells #[.string s] 9)).heap.size (((w.alloc (.cells #[lv] 22)).alloc (.cells #[v0, v1, v2, v3, v4, v5] 26)).alloc (.cells #[.string s] 9)) w' := by
    generalize hW : (((w.alloc (.cells #[lv] 22)).alloc (.cells #[v0, v1, v2, v3, v4, v5] 26)).alloc (.cells #[.string s] 9)) = W at *
    have inner : ∀ r, prt l q s = r → ∀ W', Below W.heap.size W W' → W.heap.size + 1 ≤ W'.heap.size → Calls Try.prog 26 #[.pointer (some ⟨w.heap.size, 0, none⟩), .pointer (some ⟨w.heap.size + 1, 0, none⟩), .pointer (some ⟨w.heap.size + 1 + 1, 0, none⟩)] W' fun e w' => e = endN r ∧ Below W'.heap.size W' w' := by
      intro r hr W' hW' hs
      have hsz := hb0.size
      exact part1_any l q s W' B _ _ _ lv v0 v1 v2 v3 v4 v5 r (by omega) ((hp.at hB hb0).at (by omega) hW') ((hq.at hB hb0).at (by omega) hW') hr (hL.at hW') (hN.at hW') (hS.at hW')
    cases ht : prt l q s with
    | error e1 =>
      rw [ht] at hr
      simp only [prtV, Prod.mk.injEq] at hr
      obtain ⟨rfl, rfl⟩ := hr
      exact caughtI_no _ e1 W (inner _ ht)
    | ok v =>
      rw [ht] at hr
      simp only [prtV, Prod.mk.injEq] at hr
      obtain ⟨rfl, rfl⟩ := hr
      refine (caughtI_ok _ (fun V _ => V = .int .i64 v) W fun W' h1 h2 => (inner _ ht W' h1 h2).mono fun e w' ⟨he, hb⟩ => ⟨_, he, rfl, hb⟩).mono ?_
      rintro e w' ⟨V, w1, rfl, rfl, hb, rfl⟩
      exact ⟨rfl, bs hb (Nat.le_refl _) _⟩
  obtain ⟨la, lc, rfl, _⟩ := hp.slice
  obtain ⟨kk, kc', kl, kh, ka, kn', kd, kb, km, kp, rfl, rfl, rfl, rfl, rfl, rfl⟩ := hq.shape
  have hmf := hmf
  clear hp hq hr hL hN hS
  go_enter Try.func10, Try.ntmps10
  go_wp2_with fail
  refine kc.mono ?_
  rintro e w1 ⟨rfl, hb1⟩
  clear kc
  have hbw : Below w.heap.size w w1 := bt hb0 hb1
  go_wp2
  exact bodyPost_ret (v := .tuple #[.int .i64 z, .int .i64 er]) (by simp [results, Try.results10, go_sem]) rfl ⟨rfl, hbw⟩
end Go.Proofs.Ytejeiahbnnechaa
