import Derived.Test.YtcglfojbgdlbhaaDmp
import Derived.Test.YtcglfojbgdlbhaaMon
namespace Go.Proofs.Ytcglfojbgdlbhaa
open Go.RowKit Go.Proofs.Ytcglfojbgdlbhaa.Ds

set_option maxHeartbeats 2000000 in
set_option maxRecDepth 100000 in
theorem mapR_any (B : Nat) (v u : Value) (ts : List Tr) (ps : List Pr) (w : World) (hB : B ≤ w.heap.size) (hp : Parts w B v ts) (hq : Prs w B u ps) (l : List Pt) (er : Int) (hr : mapT (rd ts) (pd ps) = (l, er)) :
    Calls Try.prog 20 #[v, u] w fun e w' => ∃ v' us, e = .returned (.tuple #[v', .int .i64 er]) ∧ rd us = l ∧ OwnN w' w.heap.size v' us ∧ Below w.heap.size w w' := by
  obtain ⟨e1, ho⟩ : ∃ x, (ownT (rd ts)).2 = x := ⟨_, rfl⟩
  have kc := wrongR_any B v ts w hB hp e1 ho
  have HP : Hid (Parts w B v ts) := hp
  have HQ : Hid (Prs w B u ps) := hq
  have HR : Hid (mapT (rd ts) (pd ps) = (l, er) ∧ (ownT (rd ts)).2 = e1) := ⟨hr, ho⟩
  obtain ⟨a, c, rfl, _, hul, _⟩ := hp
  obtain ⟨ua, uc, rfl, _⟩ := hq
  obtain ⟨i0, hi0, hz0, hz1, hz2⟩ := info_parts info32
  clear hr ho
  go_enter Try.func20, Try.ntmps20
  go_wp2_with fail
  refine kc.mono ?_
  rintro e w1 ⟨rfl, h3⟩
  have hs1 := h3.size
  clear kc
  by_cases h0 : e1 = 0
  · subst h0
    have HM : Hid (makeT (mapL (toT (pd ps)) (rd ts)) = (l, er)) := by
      have := HR.out.1
      unfold mapT at this
      rw [HR.out.2] at this
      exact this
    go_wp2
    go_loopw [7, 17] (fun pv iv wr => ∃ (i : Nat) (ds : List Tr), iv = .int .i64 (i : Int) ∧ i ≤ ts.length ∧ Hid (Mapd (pd ps) ts ds i) ∧ Hid (Rws wr w1.heap.size pv ds) ∧ Below w1.heap.size w1 wr) (fun _ iv _ => ts.length - (intOf iv).toNat)
    case atStart => exact ⟨0, [], rfl, Nat.zero_le _, Mapd.nil _ _, Rws.nil _ _, Below.refl _ _⟩
    case round =>
      obtain ⟨i, ds, rfl, hit, HD, HW, hbl⟩ := hrel
      have hbs := hbl.size
      have bw : Below w.heap.size w wr := bt h3 hbl
      have HDL : Hid (ds.length ≤ ts.length) := by have := HD.out.len hit; show ds.length ≤ ts.length; omega
      have hpl := HW.out.lt
      obtain ⟨pa, pc, rfl⟩ := HW.out.slice
      by_cases h1 : i < ts.length
      · obtain ⟨b, o, sa, sc, xs, k, rfl, hb, hs, c1, c2, hIx⟩ := HP.out.get hB bw h1
        have HS : Hid (ts[i]? = some (.slice sa xs.length sc, xs, k)) := hs
        obtain ⟨ys, HY⟩ : ∃ ys, Hid (toT (pd ps) xs = ys) := ⟨_, rfl⟩
        have HIx : Hid (Ints wr B B (.slice sa xs.length sc) xs) := hIx
        obtain ⟨mo, hmo, hmo2, hmg⟩ := own_or2 (v := .slice pa ds.length pc) (lo := w1.heap.size) (n := wr.heap.size + 1) (fun g e => ⟨(hpl g e).1, Nat.lt_succ_of_lt (hpl g e).2⟩) (by omega)
        have HO : Hid (∀ g, (Value.slice pa ds.length pc).ownBlock = some g → g < wr.heap.size ∧ mo = g) := fun g e => ⟨(hpl g e).2, hmg g e⟩
        clear hs hIx hpl hmg
        go_wp2_with fail
        generalize hO : Obj.cells #[Value.slice sa xs.length sc, Value.int IntKind.i64 k] 32 = O
        have g1 : (wr.alloc O).cell? ⟨wr.heap.size, 0, none⟩ = some (.slice sa xs.length sc) := by rw [← hO]; simp [go_sem]
        have g2 : (wr.alloc O).cell? ⟨wr.heap.size, 1, none⟩ = some (.int .i64 k) := by rw [← hO]; simp [go_sem]
        have g7 : (wr.alloc O).heap.size = wr.heap.size + 1 := by simp
        obtain ⟨W, hW⟩ : ∃ W, wr.alloc O = W := ⟨_, rfl⟩
        have HB : Hid (Below wr.heap.size wr W) := hW ▸ ba wr O
        rw [hW] at g1 g2 g7 ⊢
        have HPs : Hid (Prs W B (.slice ua ps.length uc) ps) := (HQ.out.at hB bw).at (by omega) HB.out
        have HIw : Hid (Ints W B B (.slice sa xs.length sc) xs) := HIx.out.at (by omega) HB.out
        have HRw : Hid (Rws W w1.heap.size (.slice pa ds.length pc) ds) := HW.out.keep HB.out
        have HD2 : Hid (Mapd (pd ps) ts ds i ∧ ts[i]? = some (.slice sa xs.length sc, xs, k) ∧ toT (pd ps) xs = ys) := ⟨HD.out, HS.out, HY.out⟩
        clear hO hW c1 c2 HD HS HW HIx
        have lw : wr.heap.size < W.heap.size := by omega
        go_region_held3 (fun w' => w'.cell? ⟨wr.heap.size, 0, none⟩ = some (.slice sa xs.length sc) ∧ w'.cell? ⟨wr.heap.size, 1, none⟩ = some (.int .i64 k))
          ((go_split_ands; refine ⟨?_, ?_⟩ <;> first | assumption | (simp [go_sem, *]; done)))
          (first
            | (go_at_call 56; refine (toR_any B (.slice ua ps.length uc) _ ps xs _ ?_ ?_ ?_ ys HY.out).mono ?_; (show B ≤ W.heap.size; omega); (exact HPs.out.at (by omega) (Below.refl _ _).drew); (exact HIw.out.at (by omega) (Below.refl _ _).drew); rintro x3 w3 ⟨r3, rfl, hI3, hb3⟩; obtain ⟨ta, tc, hr3, _⟩ := id hI3; subst hr3; obtain ⟨hc3, hf3⟩ := bcell hb3; have hs3 : W.heap.size ≤ w3.heap.size := hb3.size; have k3 : w3.cell? ⟨wr.heap.size, 0, none⟩ = some (.slice sa xs.length sc) := (hc3 wr.heap.size 0 lw).trans g1; have k4 : w3.cell? ⟨wr.heap.size, 1, none⟩ = some (.int .i64 k) := (hc3 wr.heap.size 1 lw).trans g2; clear hc3 hf3; have k5 : ∀ O, (w3.alloc O).cell? ⟨wr.heap.size, 0, none⟩ = some (.slice sa xs.length sc) := fun O => ((ba w3 O).cell (p := ⟨wr.heap.size, 0, none⟩) (show wr.heap.size < w3.heap.size by omega)).trans k3; have k6 : ∀ O, (w3.alloc O).cell? ⟨wr.heap.size, 1, none⟩ = some (.int .i64 k) := fun O => ((ba w3 O).cell (p := ⟨wr.heap.size, 1, none⟩) (show wr.heap.size < w3.heap.size by omega)).trans k4)
            | (refine step_append_lies _ rfl _ _ 22 rfl w1.heap.size 32 i0 (.agg #[.slice none 0 0, .int .i64 0]) 2 32 Try.underlying22 hi0 hz0 hz1 hz2 rfl (by decide) (.slice pa ds.length pc) ds.length (flat ds) rfl ?_ ⟨w3.heap.size, 0, none⟩ 1 1 [.slice ta ys.length tc, .int .i64 k] rfl rfl ?_ ?_ (by decide) ?_ ?_ ?_ (w3.heap.size + 1) ?_ ?_; (exact (HRw.out.keep (bt (Below.refl _ _).drew (bal hb3 _))).1); (exact two_cells w3 _ k _ rfl); (intro u hu; simp at hu; rcases hu with rfl | rfl <;> rfl); (have := HDL.out; simp [maxLen]; omega); (have := HDL.out; omega); (simp; omega); (simp); intro g cap w4 hown hgrow hat hlt; have k7 : w4.cell? ⟨wr.heap.size, 0, none⟩ = some (.slice sa xs.length sc) := hgrow.cell (k5 _) (fun e => absurd (HO.out wr.heap.size e.symm).1 (Nat.lt_irrefl _)); have k8 : w4.cell? ⟨wr.heap.size, 1, none⟩ = some (.int .i64 k) := hgrow.cell (k6 _) (fun e => absurd (HO.out wr.heap.size e.symm).1 (Nat.lt_irrefl _))))
        have hb4 : Below W.heap.size W (w3.alloc (.cells #[.slice ta ys.length tc, .int .i64 k] 32)) := bt (Below.refl _ _).drew (bal hb3 _)
        have HR3 : Hid (Rws (w3.alloc (.cells #[.slice ta ys.length tc, .int .i64 k] 32)) w1.heap.size (.slice pa ds.length pc) ds) := HRw.out.keep hb4
        have HR4 : Hid (Rws w4 w1.heap.size (.slice (some ⟨g, 0, none⟩) (ds.length + 1) cap) (ds ++ [(.slice ta ys.length tc, ys, k)])) :=
          HR3.out.more hown hgrow (hat.imp id fun e => by rw [e]; simp) ((hI3.at (by omega) (ba _ _)).mono (by simp; omega) (.inr (by omega))) fun g e => (HO.out g e).2
        have HB4 : Hid (Below w1.heap.size w1 w4) := (bt (bt hbl HB.out) hb4).grown hgrow (by simp; omega) (owns_block HR3.out.1)
        clear hb4 HR3 hown hgrow hat hlt k3 k4 k5 k6 k7 k8 hI3 hb3 g1 g2
        go_wp2
        go_roundw
        case rel => exact ⟨i + 1, ds ++ [(.slice ta ys.length tc, ys, k)], by go_num, h1, HD2.out.1.step HD2.out.2.1 HD2.out.2.2, HR4, HB4.out⟩
        case measure => simp [intOf]; omega
      · have HF : Hid (rd ds = mapL (toT (pd ps)) (rd ts)) := HD.out.all (by omega)
        have HP2 : Hid (Parts wr wr.heap.size (.slice pa ds.length pc) ds) := HW.out.parts (by have := HDL.out; omega)
        have kc := makeR_any wr.heap.size (.slice pa ds.length pc) ds wr (Nat.le_refl _) HP2.out l er (by rw [HF.out]; exact HM.out)
        clear HW HD hpl
        go_wp2_with fail
        refine kc.mono ?_
        rintro e w5 ⟨v5, xs, rfl, k1, k2, k3⟩
        obtain ⟨b5, d5, rfl⟩ := k2.slice
        clear kc
        go_wp2
        exact bodyPost_ret (v := .tuple #[.slice b5 xs.length d5, .int .i64 er]) (by simp [results, Try.results20, go_sem]) rfl ⟨_, xs, rfl, k1, k2.mono (by omega), bt bw k3⟩
  · have h0' : (e1 == 0) = false := by simpa using h0
    have hm := HR.out.1
    unfold mapT at hm
    rw [HR.out.2] at hm
    simp only [h0, if_false, Prod.mk.injEq] at hm
    obtain ⟨rfl, rfl⟩ := hm
    go_wp2
    exact bodyPost_ret (v := .tuple #[.slice none 0 0, .int .i64 e1]) (by simp [results, Try.results20, go_sem]) rfl ⟨_, [], rfl, rfl, .inl ⟨rfl, rfl⟩, h3⟩
end Go.Proofs.Ytcglfojbgdlbhaa
