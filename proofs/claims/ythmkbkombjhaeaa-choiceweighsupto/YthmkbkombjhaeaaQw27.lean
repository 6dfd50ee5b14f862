import Derived.Test.YthmkbkombjhaeaaQw20
import Derived.Test.YthmkbkombjhaeaaQw26
import Derived.Test.YthmkbkombjhaeaaQw21
import Derived.Deep.Upon
namespace Go.Proofs.Ythmkbkombjhaeaa
open Go.RowKit Go.Proofs.Ythmkbkombjhaeaa.Ds

set_option maxHeartbeats 1000000 in
theorem makeR_any (B : Nat) (v : Value) (ts : List Tr) (w : World) (hB : B ≤ w.heap.size) (hp : Parts w B v ts) (l : List Pt) (er : Int) (hr : makeT (rd ts) = (l, er)) :
    Calls Try.prog 38 #[v] w fun e w' => ∃ v' us, e = .returned (.tuple #[v', .int .i64 er]) ∧ rd us = l ∧ OwnN w' w.heap.size v' us ∧ Below w.heap.size w w' := by
  have HP : Hid (Parts w B v ts) := hp
  obtain ⟨a, c, rfl, hc, hl, _⟩ := hp
  have HR : Hid (makeT (rd ts) = (l, er)) := hr
  clear hr
  go_enter Try.func38, Try.ntmps38
  go_wp2
  go_loopw [8] (fun s wr => ∃ i : Nat, s = .int .i64 (i : Int) ∧ i ≤ ts.length ∧ ((rd ts).take i).all okP = true ∧ Below w.heap.size w wr) (fun s _ => ts.length - (intOf s).toNat)
  case atStart => exact ⟨0, rfl, Nat.zero_le _, by simp, Below.refl _ _⟩
  case round =>
    obtain ⟨i, rfl, hix, hall, hbl⟩ := hrel
    have HA : Hid (((rd ts).take i).all okP = true) := hall
    clear hall
    by_cases h1 : i < ts.length
    · obtain ⟨b, o, sa, sc, xs, k, rfl, hb, hs, c1, c2, hI⟩ := HP.out.get hB hbl h1
      have HZ : Hid ((rd ts)[i]? = some (xs, k)) := rd_get hs
      have HI : Hid (Ints wr B B (.slice sa xs.length sc) xs) := hI
      have hs1 := hbl.size
      clear hs hI
      have bad : okP (xs, k) = false → Hid (l = [] ∧ er = 3) := by
        intro h
        have h2 := HR.out
        rw [makeT, all_false HZ.out h] at h2
        simp only [Bool.false_eq_true, if_false, Prod.mk.injEq] at h2
        exact ⟨h2.1.symm, h2.2.symm⟩
      obtain ⟨r0, HO⟩ : ∃ r0, Hid (okO xs = r0) := ⟨_, rfl⟩
      have ks := fun W h => small_any B B (.slice sa xs.length sc) xs W h r0 HO.out
      cases r0 with
      | false =>
        obtain ⟨rfl, rfl⟩ := (bad (by unfold okP; rw [show okO (xs, k).1 = false from HO.out, Bool.and_false])).out
        clear bad
        go_wp2_with (go_at_call 52; refine (ks _ ?_).mono ?_; (exact HI.out.at (by omega) (ba _ _)); rintro e w1 ⟨rfl, rfl⟩)
        exact bodyPost_ret (v := .tuple #[.slice none 0 0, .int .i64 3]) (by simp [results, Try.results38, go_sem]) rfl ⟨_, [], rfl, rfl, .inl ⟨rfl, rfl⟩, bal hbl _⟩
      | true =>
        by_cases hk1 : k < 0
        · obtain ⟨rfl, rfl⟩ := (bad (by unfold okP; rw [show decide (0 ≤ (xs, k).2 ∧ (xs, k).2 ≤ 1073741824) = false from decide_eq_false (by simp; omega), Bool.false_and])).out
          clear bad
          go_wp2_with (go_at_call 52; refine (ks _ ?_).mono ?_; (exact HI.out.at (by omega) (ba _ _)); rintro e w1 ⟨rfl, rfl⟩)
          exact bodyPost_ret (v := .tuple #[.slice none 0 0, .int .i64 3]) (by simp [results, Try.results38, go_sem]) rfl ⟨_, [], rfl, rfl, .inl ⟨rfl, rfl⟩, bal hbl _⟩
        · by_cases hk2 : 1073741824 < k
          · obtain ⟨rfl, rfl⟩ := (bad (by unfold okP; rw [show decide (0 ≤ (xs, k).2 ∧ (xs, k).2 ≤ 1073741824) = false from decide_eq_false (by simp; omega), Bool.false_and])).out
            clear bad
            go_wp2_with (go_at_call 52; refine (ks _ ?_).mono ?_; (exact HI.out.at (by omega) (ba _ _)); rintro e w1 ⟨rfl, rfl⟩)
            exact bodyPost_ret (v := .tuple #[.slice none 0 0, .int .i64 3]) (by simp [results, Try.results38, go_sem]) rfl ⟨_, [], rfl, rfl, .inl ⟨rfl, rfl⟩, bal hbl _⟩
          · have HN : Hid (((rd ts).take (i + 1)).all okP = true) := by
              rw [Hid, all_take HZ.out, HA.out]
              unfold okP
              rw [show okO (xs, k).1 = true from HO.out, show decide (0 ≤ (xs, k).2 ∧ (xs, k).2 ≤ 1073741824) = true from decide_eq_true (by simp; omega)]
              rfl
            clear bad
            go_wp2_with (go_at_call 52; refine (ks _ ?_).mono ?_; (exact HI.out.at (by omega) (ba _ _)); rintro e w1 ⟨rfl, rfl⟩)
            go_roundw
            case rel => exact ⟨i + 1, by go_num, h1, HN.out, bal hbl _⟩
            case measure => simp [intOf]; omega
    · have hA : (rd ts).all okP = true := by have := HA.out; rwa [rd_take_all (by omega)] at this
      have h2 := HR.out
      rw [makeT, hA] at h2
      simp only [if_true] at h2
      have kt := tidy_any B _ ts wr (Nat.le_trans hB hbl.size) (HP.out.at hB hbl) (all_okP hA).1 (tot_ok hA (by rw [rd_len]; exact hl)) l er h2
      have hs1 := hbl.size
      clear hA h2
      go_wp2_with fail
      refine kt.mono ?_
      rintro e w3 ⟨v3, us3, rfl, hrd3, ho3, hb3⟩
      obtain ⟨a3, c3, rfl⟩ := ho3.slice
      have HO3 : Hid (OwnN w3 w.heap.size (.slice a3 us3.length c3) us3) := ho3.mono hs1
      have HR3 : Hid (rd us3 = l) := hrd3
      clear ho3 hrd3 kt
      go_wp2
      exact bodyPost_ret (v := .tuple #[.slice a3 us3.length c3, .int .i64 er]) (by simp [results, Try.results38, go_sem]) rfl ⟨_, us3, rfl, HR3.out, HO3.out, bt hbl hb3⟩

set_option maxHeartbeats 1000000 in
theorem sameR_any (B : Nat) (u v : Value) (ts us : List Tr) (w : World) (hB : B ≤ w.heap.size) (hp : Parts w B u ts) (hq : Parts w B v us) (r : Bool) (hr : decide (rd ts = rd us) = r) :
    Calls Try.prog 9 #[u, v] w fun e w' => e = .returned (.bool r) ∧ Below w.heap.size w w' := by
  have HP : Hid (Parts w B u ts) := hp
  have HQ : Hid (Parts w B v us) := hq
  have HR : Hid (decide (rd ts = rd us) = r) := hr
  obtain ⟨a, c, rfl, hc, hl, _⟩ := hp
  obtain ⟨a2, c2, rfl, hc2, hl2, _⟩ := hq
  clear hr
  by_cases hlen : ts.length = us.length
  · have hle : (((ts.length : Int)) == (us.length : Int)) = true := by simp [hlen]
    have hle2 : (((ts.length : Int)) != (us.length : Int)) = false := by simp [hlen]
    have HLN : Hid (ts.length = us.length) := hlen
    clear hlen
    go_enter Try.func9, Try.ntmps9
    go_wp2
    go_loopw [13] (fun s wr => ∃ i : Nat, s = .int .i64 (i : Int) ∧ i ≤ ts.length ∧ (rd ts).take i = (rd us).take i ∧ Below w.heap.size w wr) (fun s _ => ts.length - (intOf s).toNat)
    case atStart => exact ⟨0, rfl, Nat.zero_le _, by simp, Below.refl _ _⟩
    case round =>
      obtain ⟨i, rfl, hit, htk, hbl⟩ := hrel
      have HT : Hid ((rd ts).take i = (rd us).take i) := htk
      clear htk
      by_cases h1 : i < ts.length
      · obtain ⟨b, o, sa, sc, xs, k, rfl, hb, hs, c1, c2', hI⟩ := HP.out.get hB hbl h1
        obtain ⟨b2, o2, sa2, sc2, xs2, k2, rfl, hb2, hs2, d1, d2, hI2⟩ := HQ.out.get hB hbl (i := i) (by have := HLN.out; omega)
        have HS : Hid ((rd ts)[i]? = some (xs, k)) := rd_get hs
        have HS2 : Hid ((rd us)[i]? = some (xs2, k2)) := rd_get hs2
        have HI : Hid (Ints wr B B (.slice sa xs.length sc) xs) := hI
        have HI2 : Hid (Ints wr B B (.slice sa2 xs2.length sc2) xs2) := hI2
        have hs1 := hbl.size
        have z0 : (0 : Int) ≤ (i : Int) := by omega
        have z1 : (i : Int) < (us.length : Int) := by have := HLN.out; omega
        have z2 : (i : Int) < (ts.length : Int) := by omega
        obtain ⟨r1, HC⟩ : ∃ r1, Hid (cmpT xs xs2 = r1) := ⟨_, rfl⟩
        clear hs hs2 hI hI2
        by_cases hk : k = k2
        · subst hk
          have hkk : (k != k) = false := by simp
          have hdd : decide (k = k) = true := decide_eq_true rfl
          by_cases he : r1 = 0
          · have hx : Hid (xs2 = xs) := ((cmpT_zero _ _).1 (HC.out.trans he)).symm
            subst he
            go_wp2_with fail
            go_quiet ((go_at_call 16; refine Calls.quiet_of (refCompare_any B B B _ _ xs xs2 _ ?_ ?_ 0 HC.out); exact HI.out.keep (below_drewN (Below.refl _ _) _); exact HI2.out.keep (below_drewN (Below.refl _ _) _)))
            go_wp2
            go_roundw
            case rel => exact ⟨i + 1, by go_num, h1, take_next HT.out HS.out (by rw [HS2.out, hx.out]), below_drewN hbl _⟩
            case measure => simp [intOf]; omega
          · have he' : (r1 != 0) = true := by simpa using he
            have hr1 : r = false := by
              rw [← HR.out]
              refine decide_eq_false fun h => he ?_
              have h2 := HS.out
              rw [h, HS2.out] at h2
              simp only [Option.some.injEq, Prod.mk.injEq] at h2
              rw [← HC.out, h2.1]; exact cmpT_self _
            subst hr1
            go_wp2_with fail
            go_quiet ((go_at_call 16; refine Calls.quiet_of (refCompare_any B B B _ _ xs xs2 _ ?_ ?_ r1 HC.out); exact HI.out.keep (below_drewN (Below.refl _ _) _); exact HI2.out.keep (below_drewN (Below.refl _ _) _)))
            go_wp2
            go_ret
            exact ⟨rfl, below_drewN hbl _⟩
        · have hkk : (k != k2) = true := by simpa using hk
          have hdd : decide (k = k2) = false := decide_eq_false hk
          have hr1 : r = false := by
            rw [← HR.out]
            refine decide_eq_false fun h => hk ?_
            have h2 := HS.out
            rw [h, HS2.out] at h2
            simp only [Option.some.injEq, Prod.mk.injEq] at h2
            exact h2.2.symm
          subst hr1
          go_wp2_with fail
          go_quiet (fail)
          go_wp2
          go_ret
          exact ⟨rfl, below_drewN hbl _⟩
      · have hr1 : r = true := by
          rw [← HR.out]
          refine decide_eq_true ?_
          have := HT.out
          rwa [rd_take_all (by omega), rd_take_all (by have := HLN.out; omega)] at this
        subst hr1
        go_wp2
        go_ret
        exact ⟨rfl, hbl⟩
  · have hle : (((ts.length : Int)) == (us.length : Int)) = false := by simp; omega
    have hle2 : (((ts.length : Int)) != (us.length : Int)) = true := by simp; omega
    have hr1 : r = false := by
      rw [← HR.out]
      refine decide_eq_false fun h => hlen ?_
      rw [← rd_len, h, rd_len]
    subst hr1
    go_enter Try.func9, Try.ntmps9
    go_wp2
    go_ret
    exact ⟨rfl, Below.refl _ _⟩

set_option maxHeartbeats 1000000 in
theorem wrongR_any (B : Nat) (v : Value) (ts : List Tr) (w : World) (hB : B ≤ w.heap.size) (hp : Parts w B v ts) (er : Int) (hr : (ownT (rd ts)).2 = er) :
    Calls Try.prog 37 #[v] w fun e w' => e = .returned (.int .i64 er) ∧ Below w.heap.size w w' := by
  have HP : Hid (Parts w B v ts) := hp
  obtain ⟨a, c, rfl, hc, hl, _⟩ := hp
  obtain ⟨⟨m, e1⟩, hm⟩ : ∃ m, makeT (rd ts) = m := ⟨_, rfl⟩
  have kc := makeR_any B _ ts w hB HP.out m e1 hm
  rw [ownT, hm] at hr
  simp only at hr
  have HR : Hid ((if e1 = 0 then if m = rd ts then (rd ts, 0) else ([], 2) else ([], e1)).2 = er) := hr
  clear hr hm
  go_enter Try.func37, Try.ntmps37
  go_wp2_with fail
  refine kc.mono ?_
  rintro e w1 ⟨v1, us, rfl, hrd, ho, hb1⟩
  have HO : Hid (OwnN w1 w.heap.size v1 us) := ho
  have HD : Hid (rd us = m) := hrd
  obtain ⟨a1, c1, rfl⟩ := ho.slice
  clear ho hrd kc
  by_cases h0 : e1 = 0
  · subst h0
    have hP1 : Parts w1 w1.heap.size (.slice a ts.length c) ts := (HP.out.at hB hb1).mono (Nat.le_trans hB hb1.size)
    by_cases h2 : m = rd ts
    · have h3 := HR.out
      rw [if_pos rfl, if_pos h2] at h3
      simp only at h3
      subst h3
      have ke := sameR_any w1.heap.size _ _ ts us w1 (Nat.le_refl _) hP1 HO.out.parts true (decide_eq_true (by rw [HD.out, h2]))
      clear h2 hP1
      go_wp2_with fail
      refine ke.mono ?_
      rintro e w2 ⟨rfl, hb2⟩
      clear ke
      go_wp2
      go_ret
      exact ⟨rfl, bt hb1 hb2⟩
    · have h3 := HR.out
      rw [if_pos rfl, if_neg h2] at h3
      simp only at h3
      subst h3
      have ke := sameR_any w1.heap.size _ _ ts us w1 (Nat.le_refl _) hP1 HO.out.parts false (decide_eq_false (by rw [HD.out]; exact fun h => h2 h.symm))
      clear h2 hP1
      go_wp2_with fail
      refine ke.mono ?_
      rintro e w2 ⟨rfl, hb2⟩
      clear ke
      go_wp2
      go_ret
      exact ⟨rfl, bt hb1 hb2⟩
  · have h3 := HR.out
    rw [if_neg h0] at h3
    simp only at h3
    subst h3
    have h0' : (e1 == 0) = false := by simpa using h0
    have h0'' : (e1 != 0) = true := by simpa using h0
    go_wp2
    go_ret
    exact ⟨rfl, hb1⟩
end Go.Proofs.Ythmkbkombjhaeaa

namespace Go.Proofs.Ythmkbkombjhaeaa
open Go.RowKit Go.Proofs.Ythmkbkombjhaeaa.Ds

/-- append of one part to parts of one's own -/
theorem wpList_rws {ops : Array Oper} {rest : List Oper} {o : Oper} {a : Act} {Q : Exit → Act → World → Prop} (w : World) (hgd : o.guard = none) (s x : Operand) (ho : o.op = .call { callee := .builtin .append, args := #[s, x], argTypes := #[25, 25] })
    (base n : Nat) (sa : Option Addr) (sc : Nat) (ds M : List Tr) (hs : a.eval s = .slice sa n sc) (hn : ds.length = n) (hown : Rws w base (.slice sa n sc) ds) (ad : Addr) (hx : a.eval x = .slice (some ad) 1 1) (t : Value) (xs : List Int) (k : Int)
    (hc : ∀ j u, [t, Value.int .i64 k][j]? = some u → w.cell? (ad.add j) = some u) (h1 : t.oneCell' = true) (tb : Nat) (hI : ∀ m, m < tb → Ints w w.heap.size m t xs) (had : ∀ g, (Value.slice sa n sc).ownBlock = some g → g < tb) (had0 : 0 < tb) (hM : ds ++ [(t, xs, k)] = M) (hb : n + 1 ≤ 1073741824) (hbase : base ≤ w.heap.size) (n' : Nat) (hn' : n + 1 = n')
    (h : ∀ a' c' w', Rws w' base (.slice a' n' c') M → Below base w w' → wpList Try.prog ops Q rest (a.put o.dst (.slice a' n' c')) w') :
    wpList Try.prog ops Q (o :: rest) a w := by
  subst hn hn'
  refine wpList_plain hgd fun K' hK' => ?_
  obtain ⟨i0, hi, hz0, hz1, hz2⟩ := info_parts info32
  obtain ⟨v', w', hr, h2, h3, _, h5⟩ := run_append_own_at (P := Try.prog) w base 25 o.type 55 i0 (.agg #[.slice none 0 0, .int .i64 0]) 2 32 Try.underlying25 hi hz0 hz1 hz2 rfl (by decide) (.slice sa ds.length sc) ds.length (flat ds) hown.1 ad 1 1 [t, .int .i64 k] (by simp) hc (by intro z hz; simp at hz; rcases hz with rfl | rfl; exact h1; rfl) (by unfold maxLen; omega) (by omega) hbase
  obtain ⟨a', c', rfl⟩ := owns_slice h2
  have key : Rws w' base (.slice a' (ds.length + 1) c') M := by
    rw [← hM]
    obtain ⟨m, hm1, hm2⟩ : ∃ m, m < tb ∧ ∀ g, (Value.slice sa ds.length sc).ownBlock = some g → m = g := by
      cases e : (Value.slice sa ds.length sc).ownBlock with
      | none => exact ⟨0, had0, fun g e => by cases e⟩
      | some g => exact ⟨g, had g e, fun g' e => by simpa using e⟩
    exact hown.app h2 h3 h5 (hI m hm1) hm2
  unfold Oper.wp execOp
  simp only [ho, resolve, invoke, builtin, Sem.run_bind, Sem.run_pure, Result.andThen_ok, List.map_toArray, List.map_cons, List.map_nil, hs, hx, hr]
  exact hK' _ _ (h a' c' w' key ((Below.refl _ _).grown h3 hbase (owns_block hown.1)))

set_option maxHeartbeats 1000000 in
set_option maxRecDepth 100000 in
theorem rmade_any (B : Nat) (v : Value) (ws : List Int) (w : World) (h : Num w B v ws) (hB : B ≤ w.heap.size) (hl8 : ws.length ≤ 8) (l : List Pt) (er : Int) (hr : makeT (numP ws) = (l, er)) :
    Calls Try.prog 30 #[v] w fun e w' => ∃ v' us, e = .returned (.tuple #[v', .int .i64 er]) ∧ rd us = l ∧ OwnN w' w.heap.size v' us ∧ Below w.heap.size w w' := by
  have HN : Hid (Num w B v ws) := h
  have HR : Hid (makeT (numP ws) = (l, er)) := hr
  obtain ⟨a, c, rfl, hc, hl, _⟩ := h
  clear hr
  go_enter Try.func30, Try.ntmps30
  go_wp2
  go_loopw [4, 9] (fun pv iv wr => ∃ (i : Nat) (ds : List Tr), i ≤ ws.length ∧ iv = .int .i64 (i : Int) ∧ ds.length = i ∧ Hid (rd ds = (numP ws).take i) ∧ Hid (Rws wr w.heap.size pv ds) ∧ Below w.heap.size w wr) (fun _ iv _ => ws.length - (intOf iv).toNat)
  case atStart => exact ⟨0, [], Nat.zero_le _, rfl, rfl, (by show _ = _; simp [rd]), Rws.nil _ _, Below.refl _ _⟩
  case round =>
    obtain ⟨i, ds, hi, rfl, hdl, HD, HW, hbl⟩ := hrel
    have HDL : Hid (ds.length = i) := hdl
    obtain ⟨pa, pc, hpv⟩ := HW.out.slice
    rw [hdl] at hpv
    subst hpv
    clear hdl
    by_cases h1 : i < ws.length
    · obtain ⟨b, o, c', x, he, _, hbB, hx, hcx⟩ := (HN.out.at hB hbl).get h1
      simp only [Value.slice.injEq] at he
      obtain ⟨rfl, -, rfl⟩ := he
      have HX : Hid (ws[i]? = some x) := hx
      obtain ⟨M, hM⟩ : ∃ M, ds ++ [((.slice (some ⟨wr.heap.size, 0, none⟩) 1 1, [(i : Int)], x) : Tr)] = M := ⟨_, rfl⟩
      have HM : Hid (M.length = i + 1 ∧ rd M = (numP ws).take (i + 1)) := by
        refine ⟨by rw [← hM, List.length_append, HDL.out]; rfl, ?_⟩
        rw [← hM, rd_append, HD.out, List.take_add_one, num_take HX.out]
        rfl
      have HMM : Hid (ds ++ [((.slice (some ⟨wr.heap.size, 0, none⟩) 1 1, [(i : Int)], x) : Tr)] = M) := hM
      have hbs := hbl.size
      have hpl := HW.out.lt
      have HPL : Hid (∀ g, (Value.slice pa i pc).ownBlock = some g → g < wr.heap.size) := fun g e => (hpl g e).2
      have HWA : Hid (∀ O O', Rws ((wr.alloc O).alloc O') w.heap.size (.slice pa i pc) ds) := fun O O' => HW.out.keep (bal (ba _ _) _)
      clear hx hM hpl
      go_wp2_with (at_builtin; refine wpList_rws _ rfl _ _ rfl w.heap.size i pa pc ds M rfl HDL.out (HWA.out _ _) ⟨wr.heap.size + 1, 0, none⟩ rfl (.slice (some ⟨wr.heap.size, 0, none⟩) 1 1) [(i : Int)] x ?q1 rfl wr.heap.size ?q2 HPL.out (by omega) HMM.out (by omega) (by simp; omega) (i + 1) rfl ?_)
      case q1 =>
        intro j u hj
        match j, hj with
        | 0, hj => simp at hj; subst hj; simp [go_sem, Addr.add]
        | 1, hj => simp at hj; subst hj; simp [go_sem, Addr.add]
      case q2 =>
        intro m hm
        refine ⟨_, 1, rfl, Nat.le_refl _, by simp, fun _ => ⟨wr.heap.size, 0, rfl, ?_, ?_, fun j z hj => ?_⟩⟩
        · first | (simp; done) | (simp; omega) | omega
        · omega
        · match j, hj with
          | 0, hj => simp at hj; subst hj; simp [go_sem]
      intro a2 c2 w2 hown hb2
      have HB2 : Hid (Below w.heap.size w w2) := (bal (bal hbl _) _).trans hb2
      have HO2 : Hid (Rws w2 w.heap.size (.slice a2 (i + 1) c2) M) := hown
      clear hown hb2 HWA HPL HMM HW
      go_wp2
      go_roundw
      case rel => exact ⟨i + 1, M, h1, by go_num, HM.out.1, HM.out.2, HO2, HB2.out⟩
      case measure => simp [intOf]; omega
    · have HP2 : Hid (Parts wr wr.heap.size (.slice pa i pc) ds) := HW.out.parts (by have := HDL.out; omega)
      have kc := makeR_any wr.heap.size (.slice pa i pc) ds wr (Nat.le_refl _) HP2.out l er (by rw [HD.out, List.take_of_length_le (by rw [num_plen]; omega)]; exact HR.out)
      have hbs := hbl.size
      clear HW HD HP2
      go_wp2_with fail
      refine kc.mono ?_
      rintro e w5 ⟨v5, us, rfl, k1, k2, k3⟩
      obtain ⟨b5, d5, rfl⟩ := k2.slice
      clear kc
      go_wp2
      exact bodyPost_ret (v := .tuple #[.slice b5 us.length d5, .int .i64 er]) (by simp [results, Try.results30, go_sem]) rfl ⟨_, us, rfl, k1, k2.mono hbs, bt hbl k3⟩
end Go.Proofs.Ythmkbkombjhaeaa
