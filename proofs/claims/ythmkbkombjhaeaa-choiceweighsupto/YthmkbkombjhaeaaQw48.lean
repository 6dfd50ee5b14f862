import Derived.Test.YthmkbkombjhaeaaQw47
import Derived.Test.YthmkbkombjhaeaaQw08
import Derived.Deep.AppendLies
import Derived.Deep.RegionHeld3
namespace Go.Proofs.Ythmkbkombjhaeaa
open Go.RowKit Go.Proofs.Ythmkbkombjhaeaa.Ds

/-- what is chosen, by its score: as far as one has come -/
def Scd (l : List Int) (us ds : List Tr) (i : Nat) : Prop := rd ds = (scP (rd us) l).take i
theorem Scd.nil (l : List Int) (us : List Tr) : Scd l us [] 0 := by simp [Scd, rd]
theorem Scd.len {l : List Int} {us ds : List Tr} {i : Nat} (h : Scd l us ds i) (hi : i ≤ us.length) : ds.length = i := by
  have := congrArg List.length (show rd ds = _ from h)
  simp [rd, scP] at this
  omega
theorem Scd.step {l : List Int} {us ds : List Tr} {i : Nat} {s t : Value} {xs ys : List Int} {k : Int} (h : Scd l us ds i) (hs : us[i]? = some (s, xs, k)) (hy : [scL l xs] = ys) : Scd l us (ds ++ [(t, ys, k)]) (i + 1) := by
  unfold Scd at *
  have h1 : (scP (rd us) l)[i]? = some (ys, k) := by
    simp only [scP, rd, List.getElem?_map, hs]
    simp [hy]
  rw [List.take_add_one, h1, ← h]
  simp [rd]
theorem Scd.all {l : List Int} {us ds : List Tr} {i : Nat} (h : Scd l us ds i) (hi : us.length ≤ i) : rd ds = scP (rd us) l := by
  unfold Scd at h
  rw [h, List.take_of_length_le (by simp [scP, rd]; omega)]
/-- the scores' distribution, of what may be none -/
def scT (k : List Pt) (l : List Int) : List Pt × Int := if (ownT k).2 = 0 then makeT (scP k l) else ([], (ownT k).2)

set_option maxHeartbeats 1000000 in
theorem score1_any (B bx : Nat) (v u : Value) (l : List Int) (xs : List Int) (w : World) (_ : B ≤ w.heap.size) (_ : bx < w.heap.size) (hc : w.cell? ⟨bx, 0, none⟩ = some v) (hp : Num w B v l) (hu : Ints w B B u xs) (j : Nat) (hj : j < l.length) (hxs : xs = [(j : Int)]) (ys : List Int) (hr : [scL l xs] = ys) :
    Calls Try.prog 35 #[u, .pointer (some ⟨bx, 0, none⟩)] w fun e w' => ∃ r, e = .returned r ∧ Ints w' w'.heap.size w'.heap.size r ys ∧ Below w.heap.size w w' := by
  subst hxs
  obtain ⟨b1, o1, c1, z, rfl, hcc, hb1, hz, hcz⟩ := hp.get hj
  obtain ⟨ua, uc, rfl, huc, hul, hux⟩ := hu
  obtain ⟨b2, o2, rfl, hb2, _, hux⟩ := hux (by simp)
  have hcu := hux 0 (j : Int) (by simp)
  have hzz : [z] = ys := by rw [← hr]; simp [scL, List.getD, hz]
  subst hzz
  obtain ⟨_, _, _, _, hl63, _⟩ := hp
  have i1 : (j : Int) < (l.length : Int) := by omega
  have i2 : (0 : Int) ≤ (j : Int) := by omega
  simp only [List.length_singleton, Nat.add_zero] at hcu huc ⊢
  clear hr hux hz
  go_enter Try.func35, Try.ntmps35
  go_wp2
  go_region
  go_wp2
  go_ret
  refine ⟨_, rfl, ⟨_, 1, rfl, Nat.le_refl _, by simp, fun _ => ⟨w.heap.size, 0, rfl, by simp, by simp, fun i x hi => ?_⟩⟩, (ba _ _).drew⟩
  match i, hi with
  | 0, hi => simp at hi; subst hi; simp [go_sem]
theorem own_or {v : Value} {n : Nat} (h : ∀ g, v.ownBlock = some g → g < n) (hn : 0 < n) : ∃ m, m < n ∧ ∀ g, v.ownBlock = some g → m = g := by
  cases e : v.ownBlock with
  | none => exact ⟨0, hn, fun g e => by cases e⟩
  | some g => exact ⟨g, h g e, fun g' e => by simpa using e⟩

theorem two_cells (W : World) (s : Value) (k : Int) (n : Nat) (hn : W.heap.size = n) : ∀ j u, [s, Value.int .i64 k][j]? = some u → (W.alloc (.cells #[s, .int .i64 k] 55)).cell? ((⟨n, 0, none⟩ : Addr).add j) = some u := by
  subst hn
  intro j u hj
  match j, hj with
  | 0, hj => simp at hj; subst hj; simp [go_sem, Addr.add]
  | 1, hj => simp at hj; subst hj; simp [go_sem, Addr.add]

set_option maxHeartbeats 2000000 in
set_option maxRecDepth 100000 in
theorem dscore_any (B bx : Nat) (v u : Value) (ts : List Tr) (ls : List Int) (w : World) (hB : B ≤ w.heap.size) (hbx : bx < w.heap.size) (hc : w.cell? ⟨bx, 0, none⟩ = some u) (hp : Parts w B v ts) (hq : Num w B u ls) (hsc : (rd ts).all (scB ls) = true) (l : List Pt) (er : Int) (hr : scT (rd ts) ls = (l, er)) :
    Calls Try.prog 34 #[v, .func (.func 35) #[] #[.pointer (some ⟨bx, 0, none⟩)]] w fun e w' => ∃ v' us, e = .returned (.tuple #[v', .int .i64 er]) ∧ rd us = l ∧ OwnN w' w.heap.size v' us ∧ Below w.heap.size w w' := by
  obtain ⟨⟨l1, e1⟩, ho⟩ : ∃ x, ownT (rd ts) = x := ⟨_, rfl⟩
  have kc := ownFor_any B v ts w hB hp l1 e1 ho
  have HQ : Hid (Num w B u ls) := hq
  have HSC : Hid ((rd ts).all (scB ls) = true) := hsc
  have HR : Hid (scT (rd ts) ls = (l, er) ∧ ownT (rd ts) = (l1, e1)) := ⟨hr, ho⟩
  obtain ⟨a, c, rfl, _⟩ := hp
  obtain ⟨ua, uc, rfl, _⟩ := hq
  obtain ⟨i0, hi0, hz0, hz1, hz2⟩ := info_parts info32
  have hfn := fun w => fn_is (.func 35) #[] #[.pointer (some ⟨bx, 0, none⟩)] w
  clear hr ho hsc
  go_enter Try.func34, Try.ntmps34
  go_wp2_with fail
  refine kc.mono ?_
  rintro e w1 ⟨v1, us, rfl, h1, h2, h3⟩
  obtain ⟨b1, d1, rfl⟩ := h2.slice
  have HU : Hid (Parts w1 w1.heap.size (.slice b1 us.length d1) us) := h2.parts
  have hul : us.length ≤ 1073741824 := by obtain ⟨_, _, _, _, h, _⟩ := h2.parts; exact h
  have HL : Hid (rd us = l1) := h1
  have hs1 := h3.size
  have cb1 : w1.cell? ⟨bx, 0, none⟩ = some (.slice ua ls.length uc) := (h3.cell (p := ⟨bx, 0, none⟩) hbx).trans hc
  clear kc h1 h2
  by_cases h0 : e1 = 0
  · subst h0
    obtain ⟨hle, hdis⟩ := ownT_ok HR.out.2
    have HM : Hid (makeT (scP (rd us) ls) = (l, er)) := by
      have := HR.out.1
      unfold scT at this
      rw [HR.out.2] at this
      rw [Hid, HL.out, hle]
      exact this
    clear hle hdis
    go_wp2
    go_loopw [7, 22] (fun pv iv wr => ∃ (i : Nat) (ds : List Tr), iv = .int .i64 (i : Int) ∧ i ≤ us.length ∧ Hid (Scd ls us ds i) ∧ Hid (Rws wr w1.heap.size pv ds) ∧ Below w1.heap.size w1 wr) (fun _ iv _ => us.length - (intOf iv).toNat)
    case atStart => exact ⟨0, [], rfl, Nat.zero_le _, Scd.nil _ _, Rws.nil _ _, Below.refl _ _⟩
    case round =>
      obtain ⟨i, ds, rfl, hit, HD, HW, hbl⟩ := hrel
      have hbs := hbl.size
      have HDL : Hid (ds.length ≤ us.length) := by have := HD.out.len hit; show ds.length ≤ us.length; omega
      have hpl := HW.out.lt
      obtain ⟨pa, pc, rfl⟩ := HW.out.slice
      by_cases h1 : i < us.length
      · obtain ⟨b, o, sa, sc, xs, k, rfl, hb, hs, c1, c2, hIx⟩ := HU.out.get (Nat.le_refl _) hbl h1
        have HS : Hid (us[i]? = some (.slice sa xs.length sc, xs, k)) := hs
        obtain ⟨ys, HY⟩ : ∃ ys, Hid ([scL ls xs] = ys) := ⟨_, rfl⟩
        obtain ⟨jx, hjx, hjj⟩ : ∃ j : Nat, j < ls.length ∧ xs = [(j : Int)] := by
          have h2 := List.all_eq_true.1 HSC.out (xs, k) (by
            have h3 := ownT_ok HR.out.2
            have h4 : (xs, k) ∈ rd us := List.mem_map.2 ⟨_, List.mem_of_getElem? hs, rfl⟩
            rw [HL.out, h3.1] at h4
            exact h4)
          have h5 := of_decide_eq_true h2
          obtain ⟨h6, h7, h8⟩ := h5
          match xs, h6 with
          | [z], _ =>
            simp at h7 h8
            exact ⟨z.toNat, by omega, by rw [Int.toNat_of_nonneg h7]⟩
        have HJ : Hid (xs = [(jx : Int)]) := hjj
        clear hjj
        have HIx : Hid (Ints wr w1.heap.size w1.heap.size (.slice sa xs.length sc) xs) := hIx
        obtain ⟨mo, hmo, hmg⟩ := own_or (n := wr.heap.size) (fun g e => (hpl g e).2) (by omega)
        have HO : Hid (∀ g, (Value.slice pa ds.length pc).ownBlock = some g → g < wr.heap.size ∧ mo = g) := fun g e => ⟨(hpl g e).2, hmg g e⟩
        clear hs hIx hpl hmg
        go_wp2_with fail
        generalize hO : Obj.cells #[Value.slice sa xs.length sc, Value.int IntKind.i64 k] 55 = O
        have g1 : (wr.alloc O).cell? ⟨wr.heap.size, 0, none⟩ = some (.slice sa xs.length sc) := by rw [← hO]; simp [go_sem]
        have g2 : (wr.alloc O).cell? ⟨wr.heap.size, 1, none⟩ = some (.int .i64 k) := by rw [← hO]; simp [go_sem]
        have g7 : (wr.alloc O).heap.size = wr.heap.size + 1 := by simp
        obtain ⟨W, hW⟩ : ∃ W, wr.alloc O = W := ⟨_, rfl⟩
        have HB : Hid (Below wr.heap.size wr W) := hW ▸ ba wr O
        rw [hW] at g1 g2 g7 ⊢
        have HBx : Hid (W.cell? ⟨bx, 0, none⟩ = some (.slice ua ls.length uc)) := (HB.out.cell (p := ⟨bx, 0, none⟩) (by show bx < _; omega)).trans ((hbl.cell (p := ⟨bx, 0, none⟩) (by show bx < _; omega)).trans cb1)
        have HPs : Hid (Num W w1.heap.size (.slice ua ls.length uc) ls) := ((HQ.out.at hB (bt h3 hbl)).at (by omega) HB.out).mono (by omega)
        have HIw : Hid (Ints W w1.heap.size w1.heap.size (.slice sa xs.length sc) xs) := HIx.out.at (by omega) HB.out
        have HRw : Hid (Rws W w1.heap.size (.slice pa ds.length pc) ds) := HW.out.keep HB.out
        have HD2 : Hid (Scd ls us ds i ∧ us[i]? = some (.slice sa xs.length sc, xs, k) ∧ [scL ls xs] = ys) := ⟨HD.out, HS.out, HY.out⟩
        clear hO hW c1 c2 HD HS HW HIx
        have lw : wr.heap.size < W.heap.size := by omega
        go_region_held3 (fun w' => w'.cell? ⟨wr.heap.size, 0, none⟩ = some (.slice sa xs.length sc) ∧ w'.cell? ⟨wr.heap.size, 1, none⟩ = some (.int .i64 k))
          ((go_split_ands; refine ⟨?_, ?_⟩ <;> first | assumption | (simp [go_sem, *]; done)))
          (first
            | (go_at_call 35; refine (score1_any w1.heap.size bx (.slice ua ls.length uc) _ ls xs _ ?_ ?_ ?_ ?_ ?_ jx hjx HJ.out ys HY.out).mono ?_; (show w1.heap.size ≤ W.heap.size; omega); (show bx < W.heap.size; omega); (exact HBx.out); (exact HPs.out.at (by omega) (Below.refl _ _).drew); (exact HIw.out.at (by omega) (Below.refl _ _).drew); rintro x2 w2 ⟨r2, rfl, hI2, hb2⟩; obtain ⟨ra, rc, hr2, _⟩ := id hI2; subst hr2; obtain ⟨hc2, hf2⟩ := bcell hb2; have hs2 : W.heap.size ≤ w2.heap.size := hb2.size; have k1 : w2.cell? ⟨wr.heap.size, 0, none⟩ = some (.slice sa xs.length sc) := (hc2 _ _ lw).trans g1; have k2 : w2.cell? ⟨wr.heap.size, 1, none⟩ = some (.int .i64 k) := (hc2 _ _ lw).trans g2; clear hc2 hf2)
            | (go_at_call 48; refine (cloneN_any w2.heap.size w2.heap.size _ ys _ ?_ hI2).mono ?_; (exact Nat.le_refl _); rintro x3 w3 ⟨r3, rfl, hI3, hb3⟩; have hz3 : 0 < w2.heap.size := (by omega); have lw2 : wr.heap.size < w2.heap.size := (by omega); obtain ⟨ta, tc, hr3, _⟩ := hI3 0 hz3; subst hr3; obtain ⟨hc3, hf3⟩ := bcell hb3; have hs3 : w2.heap.size ≤ w3.heap.size := hb3.size; have k3 : w3.cell? ⟨wr.heap.size, 0, none⟩ = some (.slice sa xs.length sc) := (hc3 wr.heap.size 0 lw2).trans k1; have k4 : w3.cell? ⟨wr.heap.size, 1, none⟩ = some (.int .i64 k) := (hc3 wr.heap.size 1 lw2).trans k2; clear hc3 hf3; have k5 : ∀ O, (w3.alloc O).cell? ⟨wr.heap.size, 0, none⟩ = some (.slice sa xs.length sc) := fun O => ((ba w3 O).cell (p := ⟨wr.heap.size, 0, none⟩) (show wr.heap.size < w3.heap.size by omega)).trans k3; have k6 : ∀ O, (w3.alloc O).cell? ⟨wr.heap.size, 1, none⟩ = some (.int .i64 k) := fun O => ((ba w3 O).cell (p := ⟨wr.heap.size, 1, none⟩) (show wr.heap.size < w3.heap.size by omega)).trans k4)
            | (refine step_append_lies _ rfl _ _ 25 rfl w1.heap.size 55 i0 (.agg #[.slice none 0 0, .int .i64 0]) 2 32 Try.underlying25 hi0 hz0 hz1 hz2 rfl (by decide) (.slice pa ds.length pc) ds.length (flat ds) rfl ?_ ⟨w3.heap.size, 0, none⟩ 1 1 [.slice ta ys.length tc, .int .i64 k] rfl rfl ?_ ?_ (by decide) ?_ ?_ ?_ (w3.heap.size + 1) ?_ ?_; (exact (HRw.out.keep (bt (Below.refl _ _).drew (bt hb2 (bal hb3 _)))).1); (exact two_cells w3 _ k _ rfl); (intro u hu; simp at hu; rcases hu with rfl | rfl <;> rfl); (have := HDL.out; simp [maxLen]; omega); (have := HDL.out; omega); (simp; omega); (simp); intro g cap w4 hown hgrow hat hlt; have k7 : w4.cell? ⟨wr.heap.size, 0, none⟩ = some (.slice sa xs.length sc) := hgrow.cell (k5 _) (fun e => absurd (HO.out wr.heap.size e.symm).1 (Nat.lt_irrefl _)); have k8 : w4.cell? ⟨wr.heap.size, 1, none⟩ = some (.int .i64 k) := hgrow.cell (k6 _) (fun e => absurd (HO.out wr.heap.size e.symm).1 (Nat.lt_irrefl _))))
        have hb4 : Below W.heap.size W (w3.alloc (.cells #[.slice ta ys.length tc, .int .i64 k] 55)) := bt (Below.refl _ _).drew (bt hb2 (bal hb3 _))
        have HR3 : Hid (Rws (w3.alloc (.cells #[.slice ta ys.length tc, .int .i64 k] 55)) w1.heap.size (.slice pa ds.length pc) ds) := HRw.out.keep hb4
        have HR4 : Hid (Rws w4 w1.heap.size (.slice (some ⟨g, 0, none⟩) (ds.length + 1) cap) (ds ++ [(.slice ta ys.length tc, ys, k)])) :=
          HR3.out.more hown hgrow (hat.imp id fun e => by rw [e]; simp) ((hI3 mo (by omega)).at2 (ba _ _)) fun g e => (HO.out g e).2
        have HB4 : Hid (Below w1.heap.size w1 w4) := (bt (bt hbl HB.out) hb4).grown hgrow (by simp; omega) (owns_block HR3.out.1)
        clear hb4 HR3 hown hgrow hat hlt k1 k2 k3 k4 k5 k6 k7 k8 hI2 hI3 hb2 hb3 g1 g2
        go_wp2
        go_roundw
        case rel => exact ⟨i + 1, ds ++ [(.slice ta ys.length tc, ys, k)], by go_num, h1, HD2.out.1.step HD2.out.2.1 HD2.out.2.2, HR4, HB4.out⟩
        case measure => simp [intOf]; omega
      · have HF : Hid (rd ds = scP (rd us) ls) := HD.out.all (by omega)
        have HP2 : Hid (Parts wr wr.heap.size (.slice pa ds.length pc) ds) := HW.out.parts (by have := HDL.out; omega)
        have kc := make_any wr.heap.size (.slice pa ds.length pc) ds wr (Nat.le_refl _) HP2.out l er (by rw [HF.out]; exact HM.out)
        clear HW HD hpl
        go_wp2_with fail
        refine kc.mono ?_
        rintro e w5 ⟨v5, xs, rfl, k1, k2, k3⟩
        obtain ⟨b5, d5, rfl⟩ := k2.slice
        clear kc
        go_wp2
        exact bodyPost_ret (v := .tuple #[.slice b5 xs.length d5, .int .i64 er]) (by simp [results, Try.results34, go_sem]) rfl ⟨_, xs, rfl, k1, k2.mono (by omega), bt h3 (bt hbl k3)⟩
  · have h0' : (e1 == 0) = false := by simpa using h0
    have hm := HR.out.1
    unfold scT at hm
    rw [HR.out.2] at hm
    simp only [h0, if_false, Prod.mk.injEq] at hm
    obtain ⟨rfl, rfl⟩ := hm
    go_wp2
    exact bodyPost_ret (v := .tuple #[.slice none 0 0, .int .i64 e1]) (by simp [results, Try.results34, go_sem]) rfl ⟨_, [], rfl, rfl, .inl ⟨rfl, rfl⟩, h3⟩
end Go.Proofs.Ythmkbkombjhaeaa
