import Derived.Test.YtlndlpjadajelaaGreatQt19
import Derived.Test.YtlndlpjadajelaaGreatQt11
import Derived.Test.YtlndlpjadajelaaGreatQt07
namespace Go.Proofs.YtlndlpjadajelaaGreat
open Go.RowKit Go.Proofs.YtlndlpjadajelaaGreat.Ds

/-! ### what Make makes is one -/
theorem cut_one (l : List Pt) : cut 1 l = l := by
  unfold cut
  conv => rhs; rw [← List.map_id l]
  exact List.map_congr_left fun p _ => by simp
theorem Dis.own {l : List Pt} (h : Dis l) : ownT l = (l, 0) := by
  have hg : gath l = l := gath_is (fun p hp => Int.le_of_lt (h.pos p hp)) h.rise h.pos fun _ => rfl
  have hm : makeT l = (l, 0) := by
    unfold makeT lowT
    rw [if_pos h.ok, hg, if_neg h.ne, h.one]
    simp only [Int.natCast_one, cut_one]
    rw [if_neg (by have := h.le; have := h.few; omega)]
  unfold ownT
  rw [hm]
  simp
theorem grow_tot (g : Int) (l : List Pt) : tot (grow g l) = g * tot l := by
  induction l with
  | nil => simp [grow]
  | cons p l ih =>
    simp only [grow, List.map_cons] at *
    rw [tot_cons, tot_cons, ih, Int.mul_add]
theorem make_told {k l' : List Pt} (h : makeT k = (l', 0)) : Dis l' ∧ ∃ g : Int, 0 < g ∧ (∀ o, wt k o = g * wt l' o) ∧ tot k = g * tot l' := by
  unfold makeT at h
  split at h
  · rename_i hok
    have hp := gath_pos (all_okP hok).1
    obtain ⟨a, b, c, d, e, f⟩ := lowT_ok hp (gath_rise k) h
    have hne : gath k ≠ [] := by intro h0; rw [h0] at h; simp [lowT] at h
    have hl : l' = cut (dv (gath k)) (gath k) := by
      unfold lowT at h
      rw [if_neg hne] at h
      split at h
      · simp at h
      · simp at h; exact h.symm
    have hg : grow (dv (gath k)) l' = gath k := by rw [hl]; exact cut_back fun p hp => dv_dvd_int hp
    have hd := dv_pos hp hne
    have hw : ∀ o, wt k o = (dv (gath k) : Int) * wt l' o := fun o => by rw [← grow_wt, hg, gath_wt]
    refine ⟨⟨a, b, c, d, ?_, e, f⟩, dv (gath k), by omega, hw, by rw [← grow_tot, hg, gath_tot]⟩
    rw [List.all_eq_true]
    intro p hpm
    have h1 : 0 < wt k p.1 := by rw [hw]; exact Int.mul_pos (by omega) (mem_wt_pos a b hpm)
    obtain ⟨q, hq, he⟩ := wt_pos_mem h1
    have h2 := List.all_eq_true.1 hok q hq
    have h3 := Pos.le_tot (Nn.of_pos b) hpm
    have h4 := b p hpm
    unfold okP at *
    rw [Bool.and_eq_true] at *
    exact ⟨by simp; omega, he ▸ h2.2⟩
  · simp at h

theorem cancel2 {g g' x y : Int} (hg : 0 < g) (hg' : 0 < g') (h : g * g' * x ≤ g * g' * y) : x ≤ y :=
  Int.le_of_mul_le_mul_left h (Int.mul_pos hg hg')

/-! ### what Far tells of two that were made -/
theorem pos_cancel {g x : Int} (hg : 0 < g) (h : 0 < g * x) : 0 < x := by
  rcases Int.lt_or_le 0 x with k | k
  · exact k
  · have := Int.mul_le_mul_of_nonneg_left k (Int.le_of_lt hg)
    omega
theorem sup_make {L M l m : List Pt} {g g' : Int} (hg : 0 < g) (hg' : 0 < g') (w1 : ∀ o, wt L o = g * wt l o) (w2 : ∀ o, wt M o = g' * wt m o) (h : Sup L M) : Sup l m := by
  intro o
  have h1 := h o
  rw [w1, w2] at h1
  have e1 : 0 < g * wt l o ↔ 0 < wt l o := ⟨fun k => pos_cancel hg k, fun k => Int.mul_pos hg k⟩
  have e2 : 0 < g' * wt m o ↔ 0 < wt m o := ⟨fun k => pos_cancel hg' k, fun k => Int.mul_pos hg' k⟩
  rw [e1, e2] at h1
  exact h1
theorem bd_make {L M l m : List Pt} {g g' U D : Int} (hg : 0 < g) (hg' : 0 < g') (w1 : ∀ o, wt L o = g * wt l o) (w2 : ∀ o, wt M o = g' * wt m o) (t1 : tot L = g * tot l) (t2 : tot M = g' * tot m) (h : Bd L M U D) : Bd l m U D := by
  refine ⟨h.1, fun o ho => ?_⟩
  have h1 := h.2 o (by rw [w1]; exact Int.mul_pos hg ho)
  rw [w1, w2, t1, t2] at h1
  constructor
  · refine cancel2 hg hg' ?_
    have := h1.1
    calc g * g' * (wt l o * tot m * D) = g * wt l o * (g' * tot m) * D := by simp only [Int.mul_assoc, Int.mul_left_comm]
      _ ≤ U * (g' * wt m o * (g * tot l)) := this
      _ = g * g' * (U * (wt m o * tot l)) := by simp only [Int.mul_assoc, Int.mul_left_comm]
  · refine cancel2 hg hg' ?_
    have := h1.2
    calc g * g' * (wt m o * tot l * D) = g' * wt m o * (g * tot l) * D := by simp only [Int.mul_assoc, Int.mul_left_comm]
      _ ≤ U * (g * wt l o * (g' * tot m)) := this
      _ = g * g' * (U * (wt l o * tot m)) := by simp only [Int.mul_assoc, Int.mul_left_comm]
/-- as far as something is, and no further -/
theorem far_make {L M l m : List Pt} {n d : Int} (h1 : makeT L = (l, 0)) (h2 : makeT M = (m, 0)) (hs : Sup L M) (hb : Bd L M n d) (hn : 0 < n) (hr : Rt.rightB n d = true) (o : List Int) (ho : 0 < wt L o) (hat : wt L o * tot M * d = n * (wt M o * tot L)) : farT l m = (n, d, 0) := by
  obtain ⟨d1, g, hg, w1, t1⟩ := make_told h1
  obtain ⟨d2, g', hg', w2, t2⟩ := make_told h2
  have hsl := sup_make hg hg' w1 w2 hs
  have hbl := bd_make hg hg' w1 w2 t1 t2 hb
  have hrb := Rt.right_bd hr
  have hd : 0 < d := by omega
  have he : twoE l m = 0 := by unfold twoE; rw [d1.own, d2.own]; simp
  rcases far_is d1 d2 he with ⟨h, _⟩ | ⟨_, U, D, hU, hD, hf, hbU, hmin⟩
  · exact absurd hsl h
  · have a1 := hmin n d hn hd hbl
    have hol : 0 < wt l o := by rw [w1] at ho; exact pos_cancel hg ho
    have a2 := (hbU.2 o hol).1
    have e1 : wt l o * tot m * d = n * (wt m o * tot l) := by
      rw [w1, w2, t1, t2] at hat
      have hgg : 0 < g * g' := Int.mul_pos hg hg'
      refine Int.eq_of_mul_eq_mul_left (show g * g' ≠ 0 by omega) ?_
      calc g * g' * (wt l o * tot m * d) = g * wt l o * (g' * tot m) * d := by simp only [Int.mul_assoc, Int.mul_left_comm]
        _ = n * (g' * wt m o * (g * tot l)) := hat
        _ = g * g' * (n * (wt m o * tot l)) := by simp only [Int.mul_assoc, Int.mul_left_comm]
    have hY : 0 < wt m o * tot l := Int.mul_pos ((hsl o).1 hol) (tot_pos2 d1.pos d1.ne)
    have a3 : n * D ≤ U * d := by
      refine Int.le_of_mul_le_mul_right (a := wt m o * tot l) ?_ hY
      calc n * D * (wt m o * tot l) = n * (wt m o * tot l) * D := Int.mul_right_comm _ _ _
        _ = wt l o * tot m * d * D := by rw [e1]
        _ = wt l o * tot m * D * d := Int.mul_right_comm _ _ _
        _ ≤ U * (wt m o * tot l) * d := Int.mul_le_mul_of_nonneg_right a2 (by omega)
        _ = U * d * (wt m o * tot l) := Int.mul_right_comm _ _ _
    have e2 : U * d = n * D := Int.le_antisymm a1 a3
    rw [hf, mkT_cross hU hD hn hd e2]
    obtain ⟨x, rfl⟩ := Int.eq_ofNat_of_zero_le (show 0 ≤ n by omega)
    obtain ⟨y, rfl⟩ := Int.eq_ofNat_of_zero_le (show 0 ≤ d by omega)
    have hr' := (Rt.right_nat x y).1 hr
    rw [Rt.mkT_coprime x y hr'.2.1 hr'.2.2.2, if_pos ⟨hr'.1, hr'.2.2.1⟩]
end Go.Proofs.YtlndlpjadajelaaGreat

namespace Go.Proofs.YtlndlpjadajelaaGreat
open Go.RowKit Go.Proofs.YtlndlpjadajelaaGreat.Ds

/-- multiplied up to i -/
def mulI (g : Int) (ts : List Tr) (i : Nat) : List Tr := (ts.take i).map (fun t => (t.1, t.2.1, t.2.2 * g)) ++ ts.drop i
/-- all multiplied -/
def mulT (g : Int) (ts : List Tr) : List Tr := ts.map fun t => (t.1, t.2.1, t.2.2 * g)
def mulL (g : Int) (l : List Pt) : List Pt := l.map fun p => (p.1, p.2 * g)

theorem mulI_len (g : Int) (ts : List Tr) (i : Nat) : (mulI g ts i).length = ts.length := by simp [mulI]; omega
theorem mulI_get (g : Int) {ts : List Tr} {i : Nat} (h : i < ts.length) : (mulI g ts i)[i]? = ts[i]? := by
  have e : ((ts.take i).map (fun t : Tr => (t.1, t.2.1, t.2.2 * g))).length = i := by simp; omega
  rw [mulI, List.getElem?_append_right (by omega), e]; simp
theorem mulI_set (g : Int) {ts : List Tr} {i : Nat} {t : Tr} (h : ts[i]? = some t) : (mulI g ts i).set i (t.1, t.2.1, t.2.2 * g) = mulI g ts (i + 1) := by
  have hi := (List.getElem?_eq_some_iff.1 h).1
  have e : ((ts.take i).map (fun t : Tr => (t.1, t.2.1, t.2.2 * g))).length = i := by simp; omega
  have e2 : ts.drop i = t :: ts.drop (i + 1) := by rw [List.drop_eq_getElem_cons hi, (List.getElem?_eq_some_iff.1 h).2]
  rw [mulI, mulI, List.set_append_right _ _ (by omega), e, e2, List.take_add_one, h]
  simp
theorem mulI_all (g : Int) {ts : List Tr} {i : Nat} (h : ts.length ≤ i) : mulI g ts i = mulT g ts := by
  rw [mulI, List.take_of_length_le h, List.drop_eq_nil_of_le h, List.append_nil]; rfl
theorem mulI_zero (g : Int) (ts : List Tr) : mulI g ts 0 = ts := by simp [mulI]
theorem mulT_len (g : Int) (ts : List Tr) : (mulT g ts).length = ts.length := by simp [mulT]
theorem mulT_rd (g : Int) (ts : List Tr) : rd (mulT g ts) = mulL g (rd ts) := by simp [mulT, rd, mulL]
theorem mulT_mem {g : Int} {ts : List Tr} {t : Tr} (h : t ∈ mulT g ts) : ∃ u ∈ ts, t.1 = u.1 ∧ t.2.1 = u.2.1 := by
  obtain ⟨u, hu, rfl⟩ := List.mem_map.1 h; exact ⟨u, hu, rfl, rfl⟩

theorem grown_set {w w' : World} {b : Nat} (h : w.grownBy w' (some b)) (p : Addr) (hp : p.block = b) (v : Value) : w.grownBy (w'.setCell p v) (some b) :=
  ⟨h.os, h.tape, h.output, by simpa [World.setCell] using h.size, fun k hk hne => (Below.heap_setCell _ _ _ _ (by intro e; exact hne (by rw [e, hp]))).trans (h.block k hk hne)⟩

set_option maxHeartbeats 1000000 in
theorem dtimes_any (lo : Nat) (v : Value) (ts : List Tr) (g : Int) (w : World) (ho : OwnN w lo v ts) (hk : ∀ t ∈ ts, 0 ≤ t.2.2 * g ∧ t.2.2 * g ≤ 4611686018427387904) (us : List Tr) (hu : mulT g ts = us) :
    Calls Tryz.prog 162 #[v, .int .i64 g] w fun e w' => e = .returned v ∧ OwnN w' lo v us ∧ w.grownBy w' v.ownBlock := by
  subst hu
  rcases ho with ⟨rfl, rfl⟩ | ⟨b, o, c, rfl, hc, hl, hlo, hrow, hI⟩
  · go_enter Tryz.func162, Tryz.ntmps162
    go_wp2
    go_loopw [8] (fun u wr => u = .int .i64 0 ∧ wr = w) (fun _ _ => 0)
    case atStart => exact ⟨rfl, rfl⟩
    case round =>
      obtain ⟨rfl, rfl⟩ := hrel
      go_wp2
      go_ret
      exact ⟨rfl, .inl ⟨rfl, rfl⟩, World.grownBy.refl _ _⟩
  · have HH : Hid (Row w b o ts ∧ (∀ t ∈ ts, Ints w w.heap.size b t.1 t.2.1) ∧ ∀ t ∈ ts, 0 ≤ t.2.2 * g ∧ t.2.2 * g ≤ 4611686018427387904) := ⟨hrow, hI, hk⟩
    have hbs := hrow.lt
    clear hrow hI hk
    go_enter Tryz.func162, Tryz.ntmps162
    go_wp2
    go_loopw [8] (fun u wq => ∃ j : Nat, u = .int .i64 (j : Int) ∧ j ≤ ts.length ∧ Hid (Row wq b o (mulI g ts j)) ∧ Hid (∀ t ∈ ts, Ints wq wq.heap.size b t.1 t.2.1) ∧ Hid (w.grownBy wq (some b))) (fun u _ => ts.length - (intOf u).toNat)
    case atStart => exact ⟨0, rfl, Nat.zero_le _, by rw [mulI_zero]; exact HH.out.1, HH.out.2.1, World.grownBy.refl _ _⟩
    case round =>
      obtain ⟨j, rfl, hjt, HR2, HI2, HG⟩ := hrel
      by_cases h2 : j < ts.length
      · obtain ⟨⟨s, xs, k⟩, hs⟩ := get_lt h2
        have hs2 : (mulI g ts j)[j]? = some (s, xs, k) := by rw [mulI_get _ h2]; exact hs
        obtain ⟨c1, c2⟩ := HR2.out.cells j _ hs2
        have c3 := HR2.out.thaw (j * 2 + 1) (by rw [mulI_len]; omega)
        rw [← Nat.add_assoc] at c3
        simp only at c1 c2
        obtain ⟨hk0, hk1⟩ := HH.out.2.2 _ (List.mem_of_getElem? hs)
        simp only at hk0 hk1
        have HS : Hid (ts[j]? = some (s, xs, k)) := hs
        obtain ⟨P, hP⟩ : ∃ P, k * g = P := ⟨_, rfl⟩
        rw [hP] at hk0 hk1
        have HR3 : Hid (Row (wr.setCell ⟨b, o + j * 2 + 1, none⟩ (.int .i64 P)) b o (mulI g ts (j + 1))) := by
          have := HR2.out.setW hs2 P
          rwa [show (mulI g ts j).set j (s, xs, P) = mulI g ts (j + 1) by rw [← hP]; exact mulI_set g hs] at this
        clear hs hs2
        go_wp2
        go_roundw
        case rel => exact ⟨j + 1, by go_num, h2, HR3, fun t ht => by simpa using (HI2.out t ht).set rfl _, grown_set HG.out _ rfl _⟩
        case measure => simp [intOf]; omega
      · have hown : Own wr lo (.slice (some ⟨b, o, none⟩) ts.length c) (mulT g ts) := by
          refine ⟨b, o, c, by rw [mulT_len], by rw [mulT_len]; exact hc, by rw [mulT_len]; exact hl, hlo, ?_, fun t ht => ?_⟩
          · rw [← mulI_all g (i := j) (by omega)]; exact HR2.out
          · obtain ⟨u, hu, e1, e2⟩ := mulT_mem ht
            rw [e1, e2]
            exact HI2.out u hu
        have HO : Hid (Own wr lo (.slice (some ⟨b, o, none⟩) ts.length c) (mulT g ts)) := hown
        clear hown HR2 HI2 HH
        go_wp2
        go_ret
        exact ⟨rfl, .inr HO.out, HG.out⟩
end Go.Proofs.YtlndlpjadajelaaGreat

namespace Go.Proofs.YtlndlpjadajelaaGreat
open Go.RowKit Go.Proofs.YtlndlpjadajelaaGreat.Ds

/-! ### two lists in one -/
def addP (p : Pt × Pt) : Pt := (if p.1.2 = 0 then p.2.1 else p.1.1, p.1.2 + p.2.2)
def plusT (a b : List Pt) : List Pt := if 4096 < a.length then a else (mrgP a b).map addP

theorem add_mrg {a b : List Pt} (ra : Rise a) (rb : Rise b) (pa : Pos a) (pb : Pos b) :
    Rise ((mrgP a b).map addP) ∧ Pos ((mrgP a b).map addP) ∧ (∀ o, wt ((mrgP a b).map addP) o = wt a o + wt b o) ∧ tot ((mrgP a b).map addP) = tot a + tot b ∧ ∀ p ∈ (mrgP a b).map addP, (∃ q ∈ a, q.1 = p.1) ∨ ∃ q ∈ b, q.1 = p.1 := by
  induction a, b using mrgP.induct with
  | case1 => simp [mrgP, Rise, Pos]
  | case2 b bs ih =>
    obtain ⟨h1, h2, h3, h4, h5⟩ := ih ra (rise_tail rb) pa fun q hq => pb q (by simp [hq])
    have hb := pb b (by simp)
    have e : addP (([], 0), b) = b := by simp [addP]
    rw [mrgP, List.map_cons, e]
    refine ⟨List.pairwise_cons.2 ⟨fun q hq => ?_, h1⟩, fun q hq => ?_, fun o => ?_, ?_, fun q hq => ?_⟩
    · rcases h5 q hq with ⟨r, hr, he⟩ | ⟨r, hr, he⟩
      · cases hr
      · rw [← he]; exact (List.pairwise_cons.1 rb).1 r hr
    · rcases List.mem_cons.1 hq with rfl | hq
      · exact hb
      · exact h2 q hq
    · rw [wt_cons, h3, wt_cons]; omega
    · rw [tot_cons, h4, tot_cons]; omega
    · rcases List.mem_cons.1 hq with rfl | hq
      · exact .inr ⟨_, by simp, rfl⟩
      · exact (h5 q hq).imp id fun ⟨r, hr, he⟩ => ⟨r, by simp [hr], he⟩
  | case3 a az ih =>
    obtain ⟨h1, h2, h3, h4, h5⟩ := ih (rise_tail ra) rb (fun q hq => pa q (by simp [hq])) pb
    have ha := pa a (by simp)
    have e : addP (a, ([], 0)) = a := by simp [addP]; rw [if_neg (by omega)]
    rw [mrgP, List.map_cons, e]
    refine ⟨List.pairwise_cons.2 ⟨fun q hq => ?_, h1⟩, fun q hq => ?_, fun o => ?_, ?_, fun q hq => ?_⟩
    · rcases h5 q hq with ⟨r, hr, he⟩ | ⟨r, hr, he⟩
      · rw [← he]; exact (List.pairwise_cons.1 ra).1 r hr
      · cases hr
    · rcases List.mem_cons.1 hq with rfl | hq
      · exact ha
      · exact h2 q hq
    · rw [wt_cons, h3, wt_cons]; omega
    · rw [tot_cons, h4, tot_cons]; omega
    · rcases List.mem_cons.1 hq with rfl | hq
      · exact .inl ⟨_, by simp, rfl⟩
      · exact (h5 q hq).imp (fun ⟨r, hr, he⟩ => ⟨r, by simp [hr], he⟩) id
  | case4 a az b bs h ih =>
    obtain ⟨h1, h2, h3, h4, h5⟩ := ih (rise_tail ra) rb (fun q hq => pa q (by simp [hq])) pb
    have ha := pa a (by simp)
    have e : addP (a, ([], 0)) = a := by simp [addP]; rw [if_neg (by omega)]
    rw [mrgP, if_pos h, List.map_cons, e]
    refine ⟨List.pairwise_cons.2 ⟨fun q hq => ?_, h1⟩, fun q hq => ?_, fun o => ?_, ?_, fun q hq => ?_⟩
    · rcases h5 q hq with ⟨r, hr, he⟩ | ⟨r, hr, he⟩
      · rw [← he]; exact (List.pairwise_cons.1 ra).1 r hr
      · rw [← he]
        rcases List.mem_cons.1 hr with rfl | hr
        · exact h
        · exact ltL_trans h ((List.pairwise_cons.1 rb).1 r hr)
    · rcases List.mem_cons.1 hq with rfl | hq
      · exact ha
      · exact h2 q hq
    · rw [wt_cons, h3, wt_cons a az]; omega
    · rw [tot_cons, h4, tot_cons a az]; omega
    · rcases List.mem_cons.1 hq with rfl | hq
      · exact .inl ⟨_, by simp, rfl⟩
      · exact (h5 q hq).imp (fun ⟨r, hr, he⟩ => ⟨r, by simp [hr], he⟩) id
  | case5 a az b bs hn h ih =>
    obtain ⟨h1, h2, h3, h4, h5⟩ := ih ra (rise_tail rb) pa (fun q hq => pb q (by simp [hq]))
    have hb := pb b (by simp)
    have hba : ltL b.1 a.1 := by unfold ltL; rw [cmpT_swap]; omega
    have e : addP (([], 0), b) = b := by simp [addP]
    rw [mrgP, if_neg hn, if_pos h, List.map_cons, e]
    refine ⟨List.pairwise_cons.2 ⟨fun q hq => ?_, h1⟩, fun q hq => ?_, fun o => ?_, ?_, fun q hq => ?_⟩
    · rcases h5 q hq with ⟨r, hr, he⟩ | ⟨r, hr, he⟩
      · rw [← he]
        rcases List.mem_cons.1 hr with rfl | hr
        · exact hba
        · exact ltL_trans hba ((List.pairwise_cons.1 ra).1 r hr)
      · rw [← he]; exact (List.pairwise_cons.1 rb).1 r hr
    · rcases List.mem_cons.1 hq with rfl | hq
      · exact hb
      · exact h2 q hq
    · rw [wt_cons, h3, wt_cons b bs]; omega
    · rw [tot_cons, h4, tot_cons b bs]; omega
    · rcases List.mem_cons.1 hq with rfl | hq
      · exact .inr ⟨_, by simp, rfl⟩
      · exact (h5 q hq).imp id (fun ⟨r, hr, he⟩ => ⟨r, by simp [hr], he⟩)
  | case6 a az b bs hn h ih =>
    obtain ⟨h1, h2, h3, h4, h5⟩ := ih (rise_tail ra) (rise_tail rb) (fun q hq => pa q (by simp [hq])) (fun q hq => pb q (by simp [hq]))
    have ha := pa a (by simp)
    have hb := pb b (by simp)
    have hab : a.1 = b.1 := (cmpT_zero _ _).1 (by omega)
    have e : addP (a, b) = (a.1, a.2 + b.2) := by simp only [addP]; rw [if_neg (by omega)]
    rw [mrgP, if_neg hn, if_neg h, List.map_cons, e]
    refine ⟨List.pairwise_cons.2 ⟨fun q hq => ?_, h1⟩, fun q hq => ?_, fun o => ?_, ?_, fun q hq => ?_⟩
    · rcases h5 q hq with ⟨r, hr, he⟩ | ⟨r, hr, he⟩
      · rw [← he]; exact (List.pairwise_cons.1 ra).1 r hr
      · rw [← he]; simp only; rw [hab]; exact (List.pairwise_cons.1 rb).1 r hr
    · rcases List.mem_cons.1 hq with rfl | hq
      · simp only; omega
      · exact h2 q hq
    · rw [wt_cons, h3, wt_cons a az, wt_cons b bs]
      simp only
      by_cases ho : a.1 = o
      · rw [if_pos ho, if_pos ho, if_pos (hab.symm.trans ho)]; omega
      · rw [if_neg ho, if_neg ho, if_neg (fun k => ho (hab.trans k))]; omega
    · rw [tot_cons, h4, tot_cons a az, tot_cons b bs]; simp only; omega
    · rcases List.mem_cons.1 hq with rfl | hq
      · exact .inl ⟨a, by simp, rfl⟩
      · exact (h5 q hq).imp (fun ⟨r, hr, he⟩ => ⟨r, by simp [hr], he⟩) (fun ⟨r, hr, he⟩ => ⟨r, by simp [hr], he⟩)

theorem mulL_wt (g : Int) (l : List Pt) (o : List Int) : wt (mulL g l) o = wt l o * g := by
  induction l with
  | nil => simp [mulL]
  | cons p l ih =>
    simp only [mulL, List.map_cons] at *
    rw [wt_cons, wt_cons, ih, Int.add_mul]
    simp only
    split <;> simp
theorem mulL_tot (g : Int) (l : List Pt) : tot (mulL g l) = tot l * g := by
  induction l with
  | nil => simp [mulL]
  | cons p l ih =>
    simp only [mulL, List.map_cons] at *
    rw [tot_cons, tot_cons, ih, Int.add_mul]
theorem mulL_rise {g : Int} {l : List Pt} (h : Rise l) : Rise (mulL g l) := by
  unfold Rise mulL
  rw [List.pairwise_map]
  exact h
theorem mulL_pos {g : Int} {l : List Pt} (hg : 0 < g) (h : Pos l) : Pos (mulL g l) := by
  intro p hp
  obtain ⟨q, hq, rfl⟩ := List.mem_map.1 hp
  exact Int.mul_pos (h q hq) hg
theorem mulL_len (g : Int) (l : List Pt) : (mulL g l).length = l.length := by simp [mulL]

/-! ### all that comes behind -/
def spr (N : List Int → List Pt) (A : Int) (l : List Pt) : List Pt := l.flatMap fun p => (N p.1).map fun q => (q.1, p.2 * q.2 * (A / tot (N p.1)))

theorem one_wt (n : List Pt) (k c : Int) (o : List Int) : wt (n.map fun q => (q.1, k * q.2 * c)) o = wt n o * (k * c) := by
  induction n with
  | nil => simp
  | cons p n ih =>
    simp only [List.map_cons]
    rw [wt_cons, wt_cons, ih, Int.add_mul]
    simp only
    split
    · rw [show k * p.2 * c = p.2 * (k * c) by ac_rfl]
    · simp
theorem one_tot (n : List Pt) (k c : Int) : tot (n.map fun q => (q.1, k * q.2 * c)) = tot n * (k * c) := by
  induction n with
  | nil => simp
  | cons p n ih =>
    simp only [List.map_cons]
    rw [tot_cons, tot_cons, ih, Int.add_mul]
    simp only
    rw [show k * p.2 * c = p.2 * (k * c) by ac_rfl]
theorem spr_snoc (N : List Int → List Pt) (A : Int) (l : List Pt) (p : Pt) : spr N A (l ++ [p]) = spr N A l ++ (N p.1).map fun q => (q.1, p.2 * q.2 * (A / tot (N p.1))) := by simp [spr]
theorem spr_wt_snoc (N : List Int → List Pt) (A : Int) (l : List Pt) (p : Pt) (o : List Int) : wt (spr N A (l ++ [p])) o = wt (spr N A l) o + wt (N p.1) o * (p.2 * (A / tot (N p.1))) := by
  rw [spr_snoc, wt_append, one_wt]
theorem spr_cons (N : List Int → List Pt) (A : Int) (l : List Pt) (p : Pt) : spr N A (p :: l) = ((N p.1).map fun q => (q.1, p.2 * q.2 * (A / tot (N p.1)))) ++ spr N A l := by simp [spr]
theorem spr_scale (N : List Int → List Pt) (A g : Int) {l : List Pt} (h : ∀ p ∈ l, tot (N p.1) ∣ A) (o : List Int) : wt (spr N (A * g) l) o = wt (spr N A l) o * g := by
  induction l with
  | nil => simp [spr]
  | cons p l ih =>
    rw [spr_cons, spr_cons, wt_append, wt_append, one_wt, one_wt, ih fun q hq => h q (by simp [hq]), Int.add_mul]
    have e : A * g / tot (N p.1) = A / tot (N p.1) * g := Int.mul_ediv_assoc' g (h p (by simp))
    rw [e]
    have : wt (N p.1) o * (p.2 * (A / tot (N p.1) * g)) = wt (N p.1) o * (p.2 * (A / tot (N p.1))) * g := by ac_rfl
    rw [this]
theorem spr_tot (N : List Int → List Pt) (A : Int) {l : List Pt} (h : ∀ p ∈ l, tot (N p.1) ∣ A) : tot (spr N A l) = A * tot l := by
  induction l with
  | nil => simp [spr]
  | cons p l ih =>
    rw [spr_cons, tot_append, one_tot, ih fun q hq => h q (by simp [hq]), tot_cons, Int.mul_add]
    have e : tot (N p.1) * (p.2 * (A / tot (N p.1))) = p.2 * (tot (N p.1) * (A / tot (N p.1))) := by ac_rfl
    rw [e, Int.mul_ediv_cancel' (h p (by simp)), Int.mul_comm]
theorem spr_nn (N : List Int → List Pt) (A : Int) {l : List Pt} (hl : Nn l) (hN : ∀ p ∈ l, Nn (N p.1)) (hA : 0 ≤ A) : Nn (spr N A l) := by
  intro q hq
  obtain ⟨p, hp, hq⟩ := List.mem_flatMap.1 hq
  obtain ⟨r, hr, rfl⟩ := List.mem_map.1 hq
  exact Int.mul_nonneg (Int.mul_nonneg (hl p hp) (hN p hp r hr)) (Int.ediv_nonneg hA ((hN p hp).tot_nn))

/-- the least number that all totals divide, as far as it may be told -/
def allT (thn : List Int → List Pt × Int) : Int → List Pt → Int × Int
  | A, [] => (A, 0)
  | A, p :: l => if (thn p.1).2 = 0 then
      (if 1073741824 < A * (tot (thn p.1).1 / (Int.gcd A (tot (thn p.1).1) : Int)) then (0, 4) else allT thn (A * (tot (thn p.1).1 / (Int.gcd A (tot (thn p.1).1) : Int))) l)
    else (0, (thn p.1).2)
/-- chain -/
def chT (thn : List Int → List Pt × Int) (l : List Pt) : List Pt × Int :=
  if (allT thn 1 l).2 = 0 then (if 1073741824 < (allT thn 1 l).1 * tot l then ([], 4) else lowT (gath (spr (fun x => (thn x).1) (allT thn 1 l).1 l))) else ([], (allT thn 1 l).2)

/-- rising lists: what is in one is in the other -/
theorem rise_len {a b : List Pt} (ra : Rise a) (rb : Rise b) (h : ∀ p ∈ a, ∃ q ∈ b, q.1 = p.1) : a.length ≤ b.length := by
  have key : ∀ (l : List Pt) (f : List Int → Int), (∀ p ∈ l, f p.1 = 1) → sumL f l = l.length := by
    intro l f
    induction l with
    | nil => intro _; rfl
    | cons p l ih => intro hf; rw [sumL, hf p (by simp), ih fun q hq => hf q (by simp [hq]), List.length_cons]; omega
  have h1 := sumL_sub (f := fun o => if ∃ q ∈ b, q.1 = o then 1 else 0) (fun o => by split <;> omega) ra rb fun o ho => if_neg fun ⟨q, hq, e⟩ => ho q hq e
  rw [key a _ fun p hp => if_pos (h p hp), key b _ fun p hp => if_pos ⟨p, hp, rfl⟩] at h1
  omega

/-- what chain holds between two rounds -/
structure Ch (thn : List Int → List Pt × Int) (l : List Pt) (i : Nat) (A : Int) (s : List Pt) : Prop where
  rest : allT thn 1 l = allT thn A (l.drop i)
  sc : 1 ≤ A ∧ A ≤ 1073741824
  dvd : ∀ p ∈ l.take i, tot (thn p.1).1 ∣ A
  nn : ∀ p ∈ l.take i, Nn (thn p.1).1
  rise : Rise s
  pos : Pos s
  le : ∀ o, wt s o ≤ wt (spr (fun x => (thn x).1) A (l.take i)) o
  eq : s.length ≤ 4096 → ∀ o, wt s o = wt (spr (fun x => (thn x).1) A (l.take i)) o
  tt : tot s ≤ A * tot (l.take i)

theorem Ch.nil (thn : List Int → List Pt × Int) (l : List Pt) : Ch thn l 0 1 [] :=
  ⟨by simp, by omega, by simp, by simp, by simp [Rise], by simp [Pos], by simp [spr], by simp [spr], by simp⟩

theorem tot_take_le {l : List Pt} (h : Nn l) (i : Nat) : tot (l.take i) ≤ tot l := by
  have h1 : tot l = tot (l.take i) + tot (l.drop i) := by rw [← tot_append, List.take_append_drop]
  have h2 : Nn (l.drop i) := fun p hp => h p (List.mem_of_mem_drop hp)
  have := h2.tot_nn
  omega

/-- an error of one that comes behind -/
theorem Ch.err {thn : List Int → List Pt × Int} {l : List Pt} {i : Nat} {A : Int} {s : List Pt} {p : Pt} (h : Ch thn l i A s) (hp : l[i]? = some p) (he : (thn p.1).2 ≠ 0) : chT thn l = ([], (thn p.1).2) := by
  have e : allT thn 1 l = (0, (thn p.1).2) := by
    rw [h.rest, List.drop_eq_getElem_cons (List.getElem?_eq_some_iff.1 hp).1, (List.getElem?_eq_some_iff.1 hp).2, allT, if_neg he]
  unfold chT
  rw [e, if_neg he]
theorem Ch.much {thn : List Int → List Pt × Int} {l : List Pt} {i : Nat} {A : Int} {s : List Pt} {p : Pt} (h : Ch thn l i A s) (hp : l[i]? = some p) (he : (thn p.1).2 = 0) (hm : 1073741824 < A * (tot (thn p.1).1 / (Int.gcd A (tot (thn p.1).1) : Int))) : chT thn l = ([], 4) := by
  have e : allT thn 1 l = (0, 4) := by
    rw [h.rest, List.drop_eq_getElem_cons (List.getElem?_eq_some_iff.1 hp).1, (List.getElem?_eq_some_iff.1 hp).2, allT, if_pos he, if_pos hm]
  unfold chT
  rw [e]
  rfl

theorem Ch.step {thn : List Int → List Pt × Int} {l : List Pt} {i : Nat} {A : Int} {s : List Pt} {x : List Int} {k : Int} {n : List Pt} {g A' : Int} (h : Ch thn l i A s) (hl : Pos l) (hp : l[i]? = some (x, k)) (ht : thn x = (n, 0)) (hn : Dis n)
    (hg : tot n / (Int.gcd A (tot n) : Int) = g) (hA : A * g = A') (hm : A' ≤ 1073741824) : Ch thn l (i + 1) A' (plusT (mulL g s) (mulL (k * (A' / tot n)) n)) := by
  have tn := tot_pos2 hn.pos hn.ne
  have hA1 := h.sc.1
  have hgd : (Int.gcd A (tot n) : Int) ∣ tot n := Int.gcd_dvd_right _ _
  have hgA : (Int.gcd A (tot n) : Int) ∣ A := Int.gcd_dvd_left _ _
  have hgp : 0 < (Int.gcd A (tot n) : Int) := by
    have : 0 < Int.gcd A (tot n) := Int.gcd_pos_of_ne_zero_left _ (by omega)
    omega
  have hg0 : 0 < g := by rw [← hg]; exact Int.ediv_pos_of_pos_of_dvd tn (by omega) hgd
  have hdn : tot n ∣ A' := by
    obtain ⟨c, hc⟩ := hgA
    refine ⟨c, ?_⟩
    have e2 : (Int.gcd A (tot n) : Int) * g = tot n := by rw [← hg]; exact Int.mul_ediv_cancel' hgd
    have e3 : A * g = (Int.gcd A (tot n) : Int) * c * g := congrArg (· * g) hc
    rw [← hA, e3, Int.mul_right_comm, e2]
  have hA'1 : 1 ≤ A' := by rw [← hA]; exact Int.mul_pos (by omega) hg0
  have hq0 : 0 < A' / tot n := Int.ediv_pos_of_pos_of_dvd (by omega) (by omega) hdn
  have hk : 0 < k := hl (x, k) (List.mem_of_getElem? hp)
  have htake : l.take (i + 1) = l.take i ++ [(x, k)] := by rw [List.take_add_one, hp]; rfl
  have hnx : (thn x).1 = n := by rw [ht]
  have hd' : ∀ p ∈ l.take i, tot (thn p.1).1 ∣ A' := fun p hp => by rw [← hA]; exact Int.dvd_mul_of_dvd_left (h.dvd p hp)
  have hscale : ∀ o, wt (spr (fun x => (thn x).1) A' (l.take i)) o = wt (spr (fun x => (thn x).1) A (l.take i)) o * g := fun o => by
    rw [← hA]; exact spr_scale (fun x => (thn x).1) A g h.dvd o
  have hw : ∀ o, wt (spr (fun x => (thn x).1) A' (l.take (i + 1))) o = wt (spr (fun x => (thn x).1) A (l.take i)) o * g + wt n o * (k * (A' / tot n)) := fun o => by
    rw [htake, spr_wt_snoc, hscale]
    simp only [hnx]
  have hkq : 0 < k * (A' / tot n) := Int.mul_pos hk hq0
  have rs := mulL_rise (g := g) h.rise
  have ps := mulL_pos hg0 h.pos
  have rn := mulL_rise (g := k * (A' / tot n)) hn.rise
  have pn := mulL_pos hkq hn.pos
  have htt : tot (mulL g s) ≤ A' * tot (l.take i) := by
    rw [mulL_tot, ← hA]
    have := Int.mul_le_mul_of_nonneg_right h.tt (show 0 ≤ g by omega)
    have e : A * tot (l.take i) * g = A * g * tot (l.take i) := by ac_rfl
    rw [e] at this
    exact this
  have hnt : tot (mulL (k * (A' / tot n)) n) = A' * k := by
    rw [mulL_tot]
    have e : tot n * (k * (A' / tot n)) = tot n * (A' / tot n) * k := by ac_rfl
    rw [e, Int.mul_ediv_cancel' hdn]
  have htot : A' * tot (l.take (i + 1)) = A' * tot (l.take i) + A' * k := by
    rw [htake, tot_append, tot_cons, tot_nil, Int.mul_add]; simp
  have nnw : ∀ o, 0 ≤ wt n o * (k * (A' / tot n)) := fun o => Int.mul_nonneg ((Nn.of_pos hn.pos).wt_le o).1 (by omega)
  have hrest : allT thn 1 l = allT thn A' (l.drop (i + 1)) := by
    rw [h.rest, List.drop_eq_getElem_cons (List.getElem?_eq_some_iff.1 hp).1, (List.getElem?_eq_some_iff.1 hp).2, allT]
    simp only [ht, if_true]
    rw [hg, hA, if_neg (by omega)]
  have hdvd : ∀ p ∈ l.take (i + 1), tot (thn p.1).1 ∣ A' := by
    rw [htake]
    intro p hp
    rcases List.mem_append.1 hp with hp | hp
    · exact hd' p hp
    · simp at hp; subst hp; simp only [hnx]; exact hdn
  have hnn : ∀ p ∈ l.take (i + 1), Nn (thn p.1).1 := by
    rw [htake]
    intro p hp
    rcases List.mem_append.1 hp with hp | hp
    · exact h.nn p hp
    · simp at hp; subst hp; simp only [hnx]; exact Nn.of_pos hn.pos
  by_cases hc : 4096 < s.length
  · have hp1 : plusT (mulL g s) (mulL (k * (A' / tot n)) n) = mulL g s := by unfold plusT; rw [if_pos (by rw [mulL_len]; exact hc)]
    rw [hp1]
    refine ⟨hrest, ⟨hA'1, hm⟩, hdvd, hnn, rs, ps, fun o => ?_, fun hle => ?_, ?_⟩
    · rw [mulL_wt, hw]
      have h1 := Int.mul_le_mul_of_nonneg_right (h.le o) (show 0 ≤ g by omega)
      have h2 := nnw o
      omega
    · rw [mulL_len] at hle; omega
    · rw [htot]
      have : 0 ≤ A' * k := Int.mul_nonneg (by omega) (by omega)
      omega
  · have hp1 : plusT (mulL g s) (mulL (k * (A' / tot n)) n) = (mrgP (mulL g s) (mulL (k * (A' / tot n)) n)).map addP := by unfold plusT; rw [if_neg (by rw [mulL_len]; exact hc)]
    rw [hp1]
    obtain ⟨b1, b2, b3, b4, _⟩ := add_mrg rs rn ps pn
    have hweq : ∀ o, wt ((mrgP (mulL g s) (mulL (k * (A' / tot n)) n)).map addP) o = wt (spr (fun x => (thn x).1) A' (l.take (i + 1))) o := fun o => by
      rw [b3, mulL_wt, mulL_wt, hw, h.eq (by omega)]
    refine ⟨hrest, ⟨hA'1, hm⟩, hdvd, hnn, b1, b2, fun o => by rw [hweq]; exact Int.le_refl _, fun _ o => hweq o, ?_⟩
    rw [b4, htot, hnt]
    omega

theorem Ch.done {thn : List Int → List Pt × Int} {l : List Pt} {i : Nat} {A : Int} {s : List Pt} (h : Ch thn l i A s) (hl : Nn l) (hi : l.length ≤ i) : chT thn l = if 1073741824 < A * tot l then ([], 4) else lowT s := by
  have e : allT thn 1 l = (A, 0) := by rw [h.rest, List.drop_eq_nil_of_le hi, allT]
  have ht : l.take i = l := List.take_of_length_le hi
  have hle := h.le
  have heq := h.eq
  have hnn := h.nn
  rw [ht] at hle heq hnn
  unfold chT
  rw [e]
  simp only [if_true]
  by_cases hm : 1073741824 < A * tot l
  · rw [if_pos hm, if_pos hm]
  · rw [if_neg hm, if_neg hm]
    have hsn : Nn (spr (fun x => (thn x).1) A l) := spr_nn _ _ hl hnn (by have := h.sc.1; omega)
    by_cases hc : s.length ≤ 4096
    · rw [gath_is hsn h.rise h.pos (heq hc)]
    · have hsub : ∀ p ∈ s, ∃ q ∈ gath (spr (fun x => (thn x).1) A l), q.1 = p.1 := by
        intro p hp
        refine wt_pos_mem ?_
        rw [gath_wt]
        have h1 := mem_wt_pos h.rise h.pos hp
        have h2 := hle p.1
        omega
      have hlen := rise_len h.rise (gath_rise _) hsub
      have hs0 : s ≠ [] := by intro h0; rw [h0] at hc; simp at hc
      have hg0 : gath (spr (fun x => (thn x).1) A l) ≠ [] := by intro h0; rw [h0] at hlen; simp at hlen; exact hs0 hlen
      unfold lowT
      rw [if_neg hs0, if_neg hg0, if_pos (.inr (by omega)), if_pos (.inr (by omega))]
end Go.Proofs.YtlndlpjadajelaaGreat
