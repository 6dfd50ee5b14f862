import Derived.Test.YtcmhokfeadeffaaRrs
import Derived.Deep.Upon
namespace Go.Proofs.Ytcmhokfeadeffaa
open Go.RowKit Go.Proofs.Ytcmhokfeadeffaa.Ds

theorem app0 (w : World) (ty : TypeId) (base a : Option Addr) (sLen sCap c : Nat) (hle : sLen ≤ sCap) (i0 : TypeInfo) (hi : Try.prog.info? 3 = some i0) (hz1 : i0.size = 1) : (Builtin.append_ #[24, 24] ty #[.slice base sLen sCap, .slice a 0 c]).run Try.prog w = .ok (.slice base sLen sCap) w := by
  refine run_append_nothing (P := Try.prog) w 24 24 ty 3 i0 Try.underlying24 hi base sLen sCap hle (.slice a 0 c) ?_
  rw [hz1]
  have key : ∀ W : World, (Builtin.firstCells 1 0 (.slice a 0 c)).run Try.prog W = .ok ([] : List Value).toArray W := by
    intro W
    cases a with
    | none => exact run_firstCells_none W 1 0 0 c
    | some ad => exact run_firstCells_some W 1 0 ad 0 c [] rfl (by simp)
  exact ⟨.inl ⟨3, Try.underlying24⟩, fun w' => by simp [Builtin.lenOf], key w, key w.drew, rfl, by simp⟩
theorem owns_le {w : World} {base : Nat} {e : TypeId} {size : Nat} {a : Option Addr} {n c : Nat} {xs : List Value} (h : w.ownsRow base e size (.slice a n c) n xs) : n ≤ c := by
  rcases h.2 with ⟨h1, h2⟩ | ⟨g, cap, cur, h1, _, _, h2, _⟩
  · simp only [Value.slice.injEq] at h1; omega
  · simp only [Value.slice.injEq] at h1; omega



theorem wpList_app_ints {ops : Array Oper} {rest : List Oper} {o : Oper} {a : Act} {Q : Exit → Act → World → Prop} (w : World) (hgd : o.guard = none) (s x : Operand) (ho : o.op = .call { callee := .builtin .append, args := #[s, x], argTypes := #[24, 24] })
    (base B nb n : Nat) (sa : Option Addr) (sc : Nat) (xs ys : List Int) (hs : a.eval s = .slice sa n sc) (hown : w.ownsRow base 3 1 (.slice sa n sc) n (xs.map (Value.int .i64))) (u : Value) (hx : a.eval x = u) (hu : Ints w B nb u ys) (hb : n + ys.length ≤ 1073741824) (hbase : base ≤ w.heap.size) (n' : Nat) (hn' : n + ys.length = n')
    (h : ∀ a' c' w', w'.ownsRow base 3 1 (.slice a' n' c') n' ((xs ++ ys).map (Value.int .i64)) → w.grownBy w' (Value.slice sa n sc).ownBlock → ((Value.slice a' n' c').ownBlock = (Value.slice sa n sc).ownBlock ∨ (Value.slice a' n' c').ownBlock = some w.heap.size) → wpList Try.prog ops Q rest (a.put o.dst (.slice a' n' c')) w') :
    wpList Try.prog ops Q (o :: rest) a w := by
  subst hn'
  refine wpList_plain hgd fun K' hK' => ?_
  obtain ⟨i0, hi, hz0, hz1, hz2⟩ := info_parts info3
  have key : ∃ a' c' w', (Builtin.append_ #[24, 24] o.type #[.slice sa n sc, u]).run Try.prog w = .ok (.slice a' (n + ys.length) c') w' ∧ w'.ownsRow base 3 1 (.slice a' (n + ys.length) c') (n + ys.length) ((xs ++ ys).map (Value.int .i64)) ∧ w.grownBy w' (Value.slice sa n sc).ownBlock ∧ ((Value.slice a' (n + ys.length) c').ownBlock = (Value.slice sa n sc).ownBlock ∨ (Value.slice a' (n + ys.length) c').ownBlock = some w.heap.size) := by
    obtain ⟨ua, uc, rfl, hc, hl, hxx⟩ := hu
    by_cases hy : ys = []
    · subst hy
      exact ⟨sa, sc, w, app0 w _ sa ua n sc uc (owns_le hown) i0 hi hz1, by simpa using hown, World.grownBy.refl _ _, .inl rfl⟩
    · obtain ⟨b', o', rfl, hb', _, hcell⟩ := hxx hy
      obtain ⟨v', w', h1, h2, h3, _, h5⟩ := run_append_own_at (P := Try.prog) w base 24 o.type 3 i0 (.int .i64 0) 1 8 Try.underlying24 hi hz0 hz1 hz2 rfl (by decide) (.slice sa n sc) n (xs.map (Value.int .i64)) hown ⟨b', o', none⟩ ys.length uc (ys.map (Value.int .i64)) (by simp) (by
        intro m z hm
        have hlt : m < ys.length := by have := (List.getElem?_eq_some_iff.1 hm).1; simpa using this
        obtain ⟨y, hy2⟩ := get_lt hlt
        rw [Addr.add_lit, hcell m y hy2]
        simpa [hy2] using hm) (by intro z hz; obtain ⟨y, _, rfl⟩ := List.mem_map.1 hz; rfl) (by unfold maxLen; omega) (by omega) hbase
      obtain ⟨a', c', rfl⟩ := owns_slice h2
      exact ⟨a', c', w', h1, by rw [List.map_append]; exact h2, h3, h5⟩
  obtain ⟨a', c', w', hr, h2, h3, h4⟩ := key
  unfold Oper.wp execOp
  simp only [ho, resolve, invoke, builtin, Sem.run_bind, Sem.run_pure, Result.andThen_ok, List.map_toArray, List.map_cons, List.map_nil, hs, hx, hr]
  exact hK' _ _ (h a' c' w' h2 h3 h4)


theorem owns_one (w : World) (v : Value) (base : Nat) (hb : base ≤ w.heap.size) : (w.alloc (.cells #[v] 3)).ownsRow base 3 1 (.slice (some ⟨w.heap.size, 0, none⟩) 1 1) 1 [v] :=
  ⟨by simp, .inr ⟨w.heap.size, 1, #[v], rfl, hb, heap_alloc_new w _, Nat.le_refl _, by decide, by simp, by simp⟩⟩


set_option maxHeartbeats 8000000 in
set_option maxRecDepth 100000 in
theorem noiseHides_walk (B : Nat) (u d lo hi : Int) (v : Value) (many truth : Int) (ns : List Int) (w : World) (hB : B ≤ w.heap.size) (hx : Ints w B B v ns) (hlo : I64 lo) (hhi : I64 hi) (hns : ∀ n ∈ ns, I64 n) (hlen : ns.length ≤ 1048576) :
    Calls Try.prog 3 #[rv u d, .int .i64 lo, .int .i64 hi, v, .int .i64 many, .int .i64 truth] w fun e w' => e = .returned (.bool true) ∧ Below w.heap.size w w' := by
  have HX : Hid (Ints w B B v ns) := hx
  have HNS : Hid ((∀ n ∈ ns, I64 n) ∧ I64 lo ∧ I64 hi) := ⟨hns, hlo, hhi⟩
  obtain ⟨va, vc, rfl, _⟩ := hx
  obtain ⟨⟨hl, he⟩, HHS⟩ : ∃ y, Hid (hidsT u d lo hi ns = y) := ⟨_, rfl⟩
  obtain ⟨⟨lp, lq, le⟩, HLO⟩ : ∃ y, Hid (lostT u d many = y) := ⟨_, rfl⟩
  obtain ⟨⟨rl, re⟩, HRE⟩ : ∃ y, Hid (resT u d many truth = y) := ⟨_, rfl⟩
  have HOW : Hid (((w.alloc (.cells #[.int .i64 u, .int .i64 d] 23)).alloc (.cells #[.int .i64 truth] 3)).ownsRow (w.heap.size + 1) 3 1 (.slice (some ⟨w.heap.size + 1, 0, none⟩) 1 1) 1 ([truth].map (Value.int .i64))) := by
    have := owns_one (w.alloc (.cells #[.int .i64 u, .int .i64 d] 23)) (.int .i64 truth) (w.heap.size + 1) (by simp)
    simpa [Hid] using this
  have HXW : Hid (Ints ((w.alloc (.cells #[.int .i64 u, .int .i64 d] 23)).alloc (.cells #[.int .i64 truth] 3)) B B (.slice va ns.length vc) ns) := HX.out.at hB (bal (ba _ _) _)
  clear hlo hhi hns
  go_enter Try.func3, Try.ntmps3
  go_wp2_with (at_builtin; refine wpList_app_ints _ rfl _ _ rfl (w.heap.size + 1) B B 1 (some ⟨w.heap.size + 1, 0, none⟩) 1 [truth] ns rfl HOW.out (.slice va ns.length vc) rfl HXW.out (by omega) (by simp) (1 + ns.length) rfl ?_)
  intro a1 c1 w1 hown hgrow hat
  have hb1 : Below w.heap.size w w1 := (bal (ba _ _) _).grown hgrow (by simp; omega) (by intro k hk; simp [Value.ownBlock] at hk; omega)
  have hs1 : w.heap.size + 2 ≤ w1.heap.size := by have := hgrow.size; simp at this; omega
  obtain ⟨ms, hms⟩ : ∃ ms, [truth] ++ ns = ms := ⟨_, rfl⟩
  have hml : ms.length = 1 + ns.length := by rw [← hms]; simp; omega
  have HM : Hid (Ints w1 w1.heap.size w.heap.size (.slice a1 (1 + ns.length) c1) ms) := hms ▸ ints_of_owns (by simp; omega) (by simp; omega) hown (by omega)
  have HML : Hid (ms.length = 1 + ns.length) := hml
  have p1 : w1.cell? ⟨w.heap.size, 0, none⟩ = some (.int .i64 u) := hgrow.cell (by simp [go_sem]) (by simp [Value.ownBlock])
  have p2 : w1.cell? ⟨w.heap.size, 1, none⟩ = some (.int .i64 d) := hgrow.cell (by simp [go_sem]) (by simp [Value.ownBlock])
  clear hown hgrow hat HOW HXW hms hml
  go_wp2_with fail
  go_loopw [32] (fun s wr => ∃ i : Nat, s = .int .i64 (i : Int) ∧ i ≤ 1 + ns.length ∧ Below w1.heap.size w1 wr) (fun s _ => 1 + ns.length - (intOf s).toNat)
  case atStart => exact ⟨0, rfl, Nat.zero_le _, Below.refl _ _⟩
  case round =>
    obtain ⟨i, rfl, hit, hbl⟩ := hrel
    have hbs := hbl.size
    have hlt : w.heap.size < w1.heap.size := by omega
    have c1' : wr.cell? ⟨w.heap.size, 0, none⟩ = some (.int .i64 u) := (hbl.cell (p := ⟨w.heap.size, 0, none⟩) hlt).trans p1
    have c2' : wr.cell? ⟨w.heap.size, 1, none⟩ = some (.int .i64 d) := (hbl.cell (p := ⟨w.heap.size, 1, none⟩) hlt).trans p2
    by_cases h1 : i < 1 + ns.length
    · obtain ⟨b, o, x, rfl, hb, hxi, hcx⟩ := HM.out.get' (Nat.le_refl _) hbl (i := i) (by rw [HML.out]; exact h1)
      obtain ⟨⟨l1, e1⟩, hh⟩ : ∃ y, hideT u d lo hi x = y := ⟨_, rfl⟩
      have kh := hide_fr u d lo hi x l1 e1 hh
      have kr := rhide_any u d lo hi x l1 e1 hh
      clear hxi hh
      go_wp2_with fail
      refine (kh _).mono ?_
      rintro e w2 ⟨v2, us, rfl, k1, k2, k3, _⟩
      obtain ⟨a2, c2, hv2⟩ := k2.slice
      subst hv2
      have HU : Hid (Parts w2 w2.heap.size (.slice a2 us.length c2) us ∧ rd us = l1) := ⟨k2.parts, k1⟩
      have f1 : w2.cell? ⟨w.heap.size, 0, none⟩ = some (.int .i64 u) := ((bcell k3).1 _ _ (by omega)).trans c1'
      have f2 : w2.cell? ⟨w.heap.size, 1, none⟩ = some (.int .i64 d) := ((bcell k3).1 _ _ (by omega)).trans c2'
      have hs2 := k3.size
      have hbl2 := bt hbl k3
      clear k1 k2 k3 kh c1' c2' hcx
      go_wp2_with fail
      refine (kr _).mono ?_
      rintro e w3 ⟨v3, us3, rfl, k1, k2, k3, _⟩
      obtain ⟨a3, c3, hv3⟩ := k2.slice
      subst hv3
      have HU3 : Hid (Parts w3 w3.heap.size (.slice a3 us3.length c3) us3 ∧ rd us3 = l1) := ⟨k2.parts, k1⟩
      have HU2 : Hid (Parts w3 w3.heap.size (.slice a2 us.length c2) us) := (HU.out.1.keep k3).mono k3.size
      have ks := sameR_any w3.heap.size (.slice a2 us.length c2) (.slice a3 us3.length c3) us us3 w3 (Nat.le_refl _) HU2.out HU3.out.1 true (by rw [HU.out.2, HU3.out.2]; simp)
      have hbl3 := bt hbl2 k3
      have g1 : w3.cell? ⟨w.heap.size, 0, none⟩ = some (.int .i64 u) := ((bcell k3).1 _ _ (by omega)).trans f1
      have lw3 : w.heap.size < w3.heap.size := by have := k3.size; omega
      clear k1 k2 k3 kr f1 f2
      have z1 : (e1 != e1) = false := by simp
      go_wp2_with fail
      refine ks.mono ?_
      rintro e w4 ⟨rfl, hb4⟩
      have hbl4 := bt hbl3 hb4
      clear ks hb4
      go_wp2
      go_roundw
      case rel => exact ⟨i + 1, by go_num, h1, hbl4⟩
      case measure => simp [intOf]; omega
    · have hbw : Below w.heap.size w wr := hb1.trans (hbl.mono hb1.size)
      have hBr : B ≤ wr.heap.size := Nat.le_trans hB hbw.size
      have kA := hideAll_any B B u d lo hi (.slice va ns.length vc) ns wr hBr (HX.out.at hB hbw) HNS.out.2.1 HNS.out.2.2 HNS.out.1 hlen hl he HHS.out
      have hi' : ¬ (i : Int) < 1 + (ns.length : Int) := by omega
      have z1 : (he != he) = false := by simp
      have z2 : (le != le) = false := by simp
      have z3 : (re == re) = true := by simp
      clear HM HML p1 p2
      go_wp2_with fail
      refine kA.mono ?_
      rintro e w2 ⟨v2, zs, rfl, k1, k2, k3⟩
      have HD2 : Hid (Dss w2 w2.heap.size v2 zs ∧ rds zs = hl) := ⟨k2.dss, k1⟩
      obtain ⟨a2, c2, hv2, hc2, hl2, _⟩ := k2.dss
      subst hv2
      have hbw2 := bt hbw k3
      have f1 : w2.cell? ⟨w.heap.size, 0, none⟩ = some (.int .i64 u) := ((bcell k3).1 _ _ (by omega)).trans c1'
      have f2 : w2.cell? ⟨w.heap.size, 1, none⟩ = some (.int .i64 d) := ((bcell k3).1 _ _ (by omega)).trans c2'
      have hs2 : w.heap.size < w2.heap.size := by have := k3.size; omega
      have kB := rhideAll_any B B u d lo hi (.slice va ns.length vc) ns w2 (Nat.le_trans hB hbw2.size) (HX.out.at hB hbw2) hlen hl he HHS.out
      have hzl : zs.length ≤ 1048576 := by
        rcases k2 with ⟨_, rfl⟩ | ⟨_, _, _, _, _, h, _⟩
        · simp
        · exact h
      clear k1 k2 k3 kA c1' c2'
      go_wp2_with fail
      refine kB.mono ?_
      rintro e w3 ⟨v3, ys, rfl, k1, k2, k3⟩
      have HD3 : Hid (Dss w3 w3.heap.size v3 ys ∧ rds ys = hl) := ⟨k2, k1⟩
      have HD4 : Hid (Dss w3 w3.heap.size (.slice a2 zs.length c2) zs) := by
        obtain ⟨h5, _⟩ := HD2.out
        have h6 := h5.keep k3
        obtain ⟨a, c, hv, hc, hl, hi, hx⟩ := h6
        exact ⟨a, c, hv, hc, hl, fun t ht => (hi t ht).mono k3.size, fun hne => let ⟨b, o, ha, hb, hcell⟩ := hx hne; ⟨b, o, ha, Nat.lt_of_lt_of_le hb k3.size, hcell⟩⟩
      have hyl : ys.length ≤ 1048576 := by
        have e1 := congrArg List.length (HD3.out.2.trans HD2.out.2.symm)
        rw [rds_len, rds_len] at e1
        omega
      obtain ⟨a3, c3, hv3, _⟩ := k2
      subst hv3
      have hbw3 := bt hbw2 k3
      have f3 : w3.cell? ⟨w.heap.size, 0, none⟩ = some (.int .i64 u) := ((bcell k3).1 _ _ (by omega)).trans f1
      have f4 : w3.cell? ⟨w.heap.size, 1, none⟩ = some (.int .i64 d) := ((bcell k3).1 _ _ (by omega)).trans f2
      have hs3 : w.heap.size < w3.heap.size := by have := k3.size; omega
      have kC := sameDists_any w3.heap.size _ _ zs ys w3 (Nat.le_refl _) HD4.out HD3.out.1 hzl hyl (HD2.out.2.trans HD3.out.2.symm)
      clear k1 k3 kB f1 f2
      go_wp2_with fail
      refine kC.mono ?_
      rintro e w4 ⟨rfl, hb4⟩
      have hbw4 := bt hbw3 hb4
      have f5 : w4.cell? ⟨w.heap.size, 0, none⟩ = some (.int .i64 u) := ((bcell hb4).1 _ _ (by omega)).trans f3
      have f6 : w4.cell? ⟨w.heap.size, 1, none⟩ = some (.int .i64 d) := ((bcell hb4).1 _ _ (by omega)).trans f4
      have hs4 : w.heap.size < w4.heap.size := by have := hb4.size; omega
      clear kC hb4 f3 f4
      go_wp2_with fail
      refine (lost_any u d many lp lq le HLO.out _).mono ?_
      rintro e w5 ⟨rfl, hb5⟩
      have hbw5 := bt hbw4 hb5
      have f7 : w5.cell? ⟨w.heap.size, 0, none⟩ = some (.int .i64 u) := ((bcell hb5).1 _ _ (by omega)).trans f5
      have f8 : w5.cell? ⟨w.heap.size, 1, none⟩ = some (.int .i64 d) := ((bcell hb5).1 _ _ (by omega)).trans f6
      have hs5 : w.heap.size < w5.heap.size := by have := hb5.size; omega
      have HC5 : Hid (Fc w5.heap.size lp lq (w5.alloc (.cells #[.int .i64 lp, .int .i64 lq] 23))) := fc_new _ _ _
      clear hb5 f5 f6
      go_wp2_with fail
      refine (rlost_any u d many lp lq le HLO.out _).mono ?_
      rintro e w6 ⟨rfl, hb6⟩
      have hb6' : Below w5.heap.size w5 w6 := bt (ba _ _) hb6
      have hbw6 := bt hbw5 hb6'
      have HC6 : Hid (Fc w5.heap.size lp lq w6) := HC5.out.at hb6 (by simp)
      have hs6 : w5.heap.size < w6.heap.size := by have := hb6.size; simp at this; omega
      have HC7 : Hid (Fc w5.heap.size lp lq (w6.alloc (.cells #[.int .i64 lp, .int .i64 lq] 23))) := HC6.out.at (ba _ _) hs6
      have HC8 : Hid (Fc w6.heap.size lp lq (w6.alloc (.cells #[.int .i64 lp, .int .i64 lq] 23))) := fc_new _ _ _
      have f9 : (w6.alloc (.cells #[.int .i64 lp, .int .i64 lq] 23)).cell? ⟨w.heap.size, 0, none⟩ = some (.int .i64 u) := ((bcell (bt hb6' (ba _ _))).1 _ _ (by omega)).trans f7
      have f10 : (w6.alloc (.cells #[.int .i64 lp, .int .i64 lq] 23)).cell? ⟨w.heap.size, 1, none⟩ = some (.int .i64 d) := ((bcell (bt hb6' (ba _ _))).1 _ _ (by omega)).trans f8
      obtain ⟨W, hW⟩ : ∃ W, w6.alloc (.cells #[.int .i64 lp, .int .i64 lq] 23) = W := ⟨_, rfl⟩
      have hbW : Below w.heap.size w W := hW ▸ bal hbw6 _
      have hsW : w.heap.size < W.heap.size := by rw [← hW]; simp; omega
      rw [hW] at HC7 HC8 f9 f10
      obtain ⟨j1, j2, j3, j4⟩ := HC7.out
      obtain ⟨i1, i2, i3, i4⟩ := HC8.out
      clear hb6 hb6' HC5 HC6 HC7 HC8 f7 f8
      go_wp2_with fail
      clear hW
      refine (respond_fr u d many truth rl re HRE.out _).mono ?_
      rintro e w7 ⟨v7, us7, rfl, k1, k2, k3, _⟩
      obtain ⟨a7, c7, hv7⟩ := k2.slice
      subst hv7
      have HU7 : Hid (Parts w7 w7.heap.size (.slice a7 us7.length c7) us7 ∧ rd us7 = rl) := ⟨k2.parts, k1⟩
      have hbw7 := bt hbW k3
      have f11 : w7.cell? ⟨w.heap.size, 0, none⟩ = some (.int .i64 u) := ((bcell k3).1 _ _ hsW).trans f9
      have f12 : w7.cell? ⟨w.heap.size, 1, none⟩ = some (.int .i64 d) := ((bcell k3).1 _ _ hsW).trans f10
      clear k1 k2 k3 j1 j2 j3 j4 i1 i2 i3 i4
      go_wp2_with fail
      refine (rrespond_any u d many truth rl re HRE.out _).mono ?_
      rintro e w8 ⟨v8, us8, rfl, k1, k2, k3⟩
      obtain ⟨a8, c8, hv8⟩ := k2.slice
      subst hv8
      have HU8 : Hid (Parts w8 w8.heap.size (.slice a8 us8.length c8) us8 ∧ rd us8 = rl) := ⟨k2.parts, k1⟩
      have HU9 : Hid (Parts w8 w8.heap.size (.slice a7 us7.length c7) us7) := (HU7.out.1.keep k3).mono k3.size
      have hbw8 := bt hbw7 k3
      have ks := sameR_any w8.heap.size _ _ us7 us8 w8 (Nat.le_refl _) HU9.out HU8.out.1 true (by rw [HU7.out.2, HU8.out.2]; simp)
      clear k1 k2 k3 f9 f10 f11 f12
      go_wp2_with fail
      refine ks.mono ?_
      rintro e w9 ⟨rfl, hb9⟩
      have hbw9 := bt hbw8 hb9
      clear ks hb9
      go_wp2
      go_ret
      exact ⟨rfl, hbw9⟩
end Go.Proofs.Ytcmhokfeadeffaa
