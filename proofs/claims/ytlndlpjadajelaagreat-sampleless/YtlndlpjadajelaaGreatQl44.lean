import Derived.Test.YtlndlpjadajelaaGreatQl43
import Derived.Test.YtlndlpjadajelaaGreatQl14
import Derived.Test.YtlndlpjadajelaaGreatQl15
import Derived.Shelf.Abstract
import Derived.Test.YtlndlpjadajelaaGreatQl16
import Derived.Test.YtlndlpjadajelaaGreatQl41
namespace Go.Proofs.YtlndlpjadajelaaGreat
open Go.RowKit Go.Shelf Go.Proofs.YtlndlpjadajelaaGreat.Ds

theorem fn86_0 (d : Nat) (fn : Fn) (xs ys : Array Value) (w : World) : (Op.equalIn (d + 1) 126 (.func fn xs ys) .nilFunc).run Tryz.prog w = .ok false w := by
  simp only [Op.equalIn, Sem.run_bind, run_underlying Tryz.underlying126, Result.andThen_ok]
  rfl
theorem fn86_is (fn : Fn) (xs ys : Array Value) (w : World) : (binOp .neq 126 (.func fn xs ys) .nilFunc).run Tryz.prog w = .ok (.bool true) w := by
  have h : (Op.equal 126 (.func fn xs ys) .nilFunc).run Tryz.prog w = .ok false w := fn86_0 9999 fn xs ys w
  simp only [binOp, Sem.run_bind, h, Result.andThen_ok]
  rfl
theorem fn57_0 (d : Nat) (fn : Fn) (xs ys : Array Value) (w : World) : (Op.equalIn (d + 1) 105 (.func fn xs ys) .nilFunc).run Tryz.prog w = .ok false w := by
  simp only [Op.equalIn, Sem.run_bind, run_underlying Tryz.underlying105, Result.andThen_ok]
  rfl
theorem fn57_is (fn : Fn) (xs ys : Array Value) (w : World) : (binOp .eql 105 (.func fn xs ys) .nilFunc).run Tryz.prog w = .ok (.bool false) w := by
  have h : (Op.equal 105 (.func fn xs ys) .nilFunc).run Tryz.prog w = .ok false w := fn57_0 9999 fn xs ys w
  simp only [binOp, Sem.run_bind, h, Result.andThen_ok]
  rfl

theorem hide_made {u d lo hi m : Int} {l : List Pt} (h : hideT u d lo hi m = (l, 0)) : ∃ L, makeT L = (l, 0) := by
  unfold hideT at h
  split at h
  · rename_i h1
    simp only [Prod.mk.injEq] at h
    exact absurd h.2 h1
  · split at h
    · simp at h
    · split at h
      · exact ⟨_, h⟩
      · split at h
        · simp at h
        · exact ⟨_, h⟩
theorem hide_nil {u d lo hi m : Int} {l : List Pt} {er : Int} (h : hideT u d lo hi m = (l, er)) (he : er ≠ 0) : l = [] := by
  have mk : ∀ L, makeT L = (l, er) → l = [] := fun L hL => by
    rcases makeT_err L with h1 | h1
    · rw [hL] at h1; exact absurd h1 he
    · rw [hL] at h1; exact h1
  unfold hideT at h
  split at h
  · simp only [Prod.mk.injEq] at h; exact h.1.symm
  · split at h
    · simp only [Prod.mk.injEq] at h; exact h.1.symm
    · split at h
      · exact mk _ h
      · split at h
        · simp only [Prod.mk.injEq] at h; exact h.1.symm
        · exact mk _ h
theorem th_ok {u d lo hi : Int} {l : List K.Ds.Col} {q : K.Ds.Qu} {R : List (List Int)} {l' : List Pt} (h : thT u d lo hi l q R = (l', 0)) : Dis l' := by
  unfold thT at h
  split at h
  · rename_i h1
    simp only [Prod.mk.injEq] at h
    exact absurd h.2 h1
  · split at h
    · simp at h
    · obtain ⟨L, hL⟩ := hide_made h
      exact (make_told hL).1
theorem th_nil {u d lo hi : Int} {l : List K.Ds.Col} {q : K.Ds.Qu} {R : List (List Int)} {l' : List Pt} {er : Int} (h : thT u d lo hi l q R = (l', er)) (he : er ≠ 0) : l' = [] := by
  unfold thT at h
  split at h
  · simp only [Prod.mk.injEq] at h; exact h.1.symm
  · split at h
    · simp only [Prod.mk.injEq] at h; exact h.1.symm
    · exact hide_nil h he
/-- the subsets that may come -/
theorem sub_mem {u d : Int} {k : Nat} {l : List Pt} (h : makeT (Sb.lst u d k) = (l, 0)) {p : Pt} (hp : p ∈ l) : ∃ s : Nat, s < 2 ^ k ∧ p.1 = [(s : Int)] := by
  obtain ⟨hd, g, hg, hw, _⟩ := make_told h
  have h1 : 0 < wt (Sb.lst u d k) p.1 := by
    rw [hw]
    exact Int.mul_pos hg (mem_wt_pos hd.rise hd.pos hp)
  obtain ⟨r, hr, e⟩ := wt_pos_mem h1
  obtain ⟨s, hs, rfl⟩ := List.mem_map.1 hr
  exact ⟨s, List.mem_range.1 hs, e.symm⟩
theorem sub_ok {u d m : Int} {l : List Pt} (h : Sb.subT u d m = (l, 0)) : Dis l ∧ 0 ≤ m ∧ m ≤ 10 ∧ ∀ p ∈ l, ∃ s : Nat, s < 2 ^ m.toNat ∧ p.1 = [(s : Int)] := by
  unfold Sb.subT at h
  split at h
  · rename_i h1
    simp only [Prod.mk.injEq] at h
    exact absurd h.2 h1
  · split at h
    · simp at h
    · split at h
      · simp at h
      · exact ⟨(make_told h).1, by omega, by omega, fun p hp => sub_mem h hp⟩
theorem sub_nil {u d m : Int} {l : List Pt} {er : Int} (h : Sb.subT u d m = (l, er)) (he : er ≠ 0) : l = [] := by
  unfold Sb.subT at h
  split at h
  · simp only [Prod.mk.injEq] at h; exact h.1.symm
  · split at h
    · simp only [Prod.mk.injEq] at h; exact h.1.symm
    · split at h
      · simp only [Prod.mk.injEq] at h; exact h.1.symm
      · rcases makeT_err (Sb.lst u d m.toNat) with h1 | h1
        · rw [h] at h1; exact absurd h1 he
        · rw [h] at h1; exact h1

abbrev thrF (P M : Nat) : Value := .func (.func 104) #[] #[.pointer (some ⟨P, 0, none⟩), .pointer (some ⟨M, 0, none⟩)]

set_option maxHeartbeats 1000000 in
theorem bindS_any (G P M : Nat) (x : Value) (w : World) (hg : K.Cl w G 0 (thrF P M)) (l' : List Pt) (er : Int) (ho : er = 0 → Dis l') (hn : er ≠ 0 → l' = []) (hx : ∃ a c, x = .slice a 1 c) (kc : Calls Tryz.prog 104 #[x, .pointer (some ⟨P, 0, none⟩), .pointer (some ⟨M, 0, none⟩)] w (DistP w l' er)) :
    Calls Tryz.prog 167 #[x, .pointer (some ⟨G, 0, none⟩)] w (DistP w l' er) := by
  obtain ⟨xa, xc, rfl⟩ := hx
  have c0 := hg.c
  go_enter Tryz.func167, Tryz.ntmps167
  go_wp2_with fail
  refine kc.mono ?_
  rintro e w1 ⟨v1, us, rfl, k1, k2, k3, k4⟩
  have hs := k3.size
  by_cases h0 : er = 0
  · subst h0
    have ko := own_fr w1.heap.size v1 us w1 (Nat.le_refl _) k2.parts l' 0 (by rw [k1]; exact (ho rfl).own)
    obtain ⟨a1, c1, rfl⟩ := k2.slice
    clear k1 k2 k4 kc
    go_wp2_with fail
    refine ko.mono ?_
    rintro e w2 ⟨v2, us2, rfl, q1, q2, q3, q4⟩
    obtain ⟨a2, c2, rfl⟩ := q2.slice
    have HZ : Hid (DistP w l' 0 (.returned (.tuple #[.slice a2 us2.length c2, .int .i64 0])) w2) := ⟨_, us2, rfl, q1, q2.mono hs, bt k3 q3, q4.mono hs⟩
    clear q1 q2 q3 q4 ko
    go_wp2
    exact bodyPost_ret (v := .tuple #[.slice a2 us2.length c2, .int .i64 0]) (by simp [results, Tryz.results167, go_sem]) rfl HZ.out
  · obtain rfl := hn h0
    have h5 : (er == 0) = false := by simpa using h0
    have h6 : (er != 0) = true := by simpa using h0
    obtain ⟨a1, c1, rfl⟩ := k2.slice
    clear k1 k2 k4 kc
    go_wp2
    exact bodyPost_ret (v := .tuple #[.slice none 0 0, .int .i64 er]) (by simp [results, Tryz.results167, go_sem]) rfl (DistP.err k3)

set_option maxHeartbeats 2000000 in
set_option maxRecDepth 100000 in
/-- Bind, of subsets -/
theorem sbind_any (N M P B : Nat) (u d lo hi : Int) (v cv tv v0 v1 v2 v3 v4 v5 : Value) (l : List K.Ds.Col) (ts : List K.Rw) (q : K.Ds.Qu) (us : List Tr) (w : World) (hl0 : l ≠ []) (hl6 : l.length ≤ 6) (ht : ts.length ≤ 10) (hr : ∀ t ∈ ts, t.2 ≠ [] ∧ t.2.length ≤ 6)
    (hT : Tab w M B cv tv l ts) (hf : K.Cl w P 0 (envF N)) (hq : K.Qm w w.heap.size q v0 v1 v2 v3 v4 v5) (he : Env w N u d lo hi v0 v1 v2 v3 v4 v5) (hp : Parts w w.heap.size v us) (hd : Dis (rd us)) (hm : ∀ p ∈ rd us, ∃ s : Nat, s < 2 ^ ts.length ∧ p.1 = [(s : Int)])
    (l' : List Pt) (er : Int) (hA : chT (fun x => thT u d lo hi l q (Sb.sel (K.rr ts) (cod x))) (rd us) = (l', er)) :
    Calls Tryz.prog 101 #[v, thrF P M] w (DistP w l' er) := by
  obtain ⟨W, hW⟩ : ∃ W, w.alloc (.cells #[thrF P M] 126) = W := ⟨_, rfl⟩
  have hbW : Below w.heap.size w W := hW ▸ ba _ _
  have hG : K.Cl W w.heap.size 0 (thrF P M) := hW ▸ K.Cl.new _ 126 _ _ rfl rfl
  have ko := ownFor_any w.heap.size v us W hbW.size (hp.at (Nat.le_refl _) hbW) (rd us) 0 (Dis.own hd)
  have HTh : Hid (∀ W1, Below W.heap.size W W1 → Thn 167 (.pointer (some ⟨w.heap.size, 0, none⟩)) W1 (fun x => thT u d lo hi l q (Sb.sel (K.rr ts) (cod x))) (rd us)) := by
    intro W1 hW1 W2 x xs hW2 hI hx
    obtain ⟨pp, hpp, rfl⟩ := hx
    obtain ⟨s, hs, e⟩ := hm pp hpp
    have hb2 : Below w.heap.size w W2 := bt hbW (bt hW1 hW2)
    have hs2 : s ≤ 1073741824 := by have := Sb.two_le ht; omega
    rw [e] at hI
    obtain ⟨y, er1, hy⟩ : ∃ y er1, thT u d lo hi l q (Sb.sel (K.rr ts) s) = (y, er1) := ⟨_, _, rfl⟩
    have hc : cod pp.1 = s := by rw [e]; simp [cod]
    have key := bindS_any w.heap.size P M x W2 (hG.at (bt hW1 hW2)) y er1 (fun h => by subst h; exact th_ok hy) (fun h => th_nil hy h) (by obtain ⟨a, c, hv, _⟩ := hI; exact ⟨a, c, hv⟩)
      (thr1_any N M P B W2.heap.size u d lo hi x cv tv v0 v1 v2 v3 v4 v5 l ts q s W2 hl0 hl6 (by omega) hr hs2 (hT.at hb2) (hf.at hb2) (K.Qm.mono hb2.size q (hq.at (Nat.le_refl _) hb2)) (he.at hb2) (Nat.le_refl _) hI y er1 hy)
    refine key.mono fun e W' h => ?_
    obtain ⟨v', us', h1, h2, h3, h4, h5⟩ := h
    simp only [hc, hy]
    exact ⟨v', us', h1, h2, h3, h4, h5⟩
  have HD : Hid (Dis (rd us) ∧ chT (fun x => thT u d lo hi l q (Sb.sel (K.rr ts) (cod x))) (rd us) = (l', er)) := ⟨hd, hA⟩
  have c0 := hG.c
  obtain ⟨a, c, rfl, _⟩ := hp
  have hfn := fun w => fn86_is (.func 104) #[] #[.pointer (some ⟨P, 0, none⟩), .pointer (some ⟨M, 0, none⟩)] w
  clear hT hf hq he hr hm hd hA
  go_enter Tryz.func101, Tryz.ntmps101
  go_wp2_with fail
  clear hW
  refine ko.mono ?_
  rintro e w1 ⟨v1, us1, rfl, h1, h2, h3⟩
  have hs1 := h3.size
  have b1w : Below w.heap.size w w1 := bt hbW h3
  have kch := chain_any 167 (.pointer (some ⟨w.heap.size, 0, none⟩)) (fun x => thT u d lo hi l q (Sb.sel (K.rr ts) (cod x))) w1.heap.size v1 us1 w1 (Nat.le_refl _) h2.parts (by rw [h1]; exact HD.out.1) (enters_of Tryz.func167 (by kernel_rfl) rfl) (by rw [h1]; exact HTh.out w1 h3)
    (fun p _ h => th_ok (Prod.ext rfl h)) l' er (by rw [h1]; exact HD.out.2)
  obtain ⟨a1, c1, rfl⟩ := h2.slice
  clear h1 h2 ko c0
  go_wp2_with fail
  refine kch.mono ?_
  rintro e w2 ⟨v2, xs2, rfl, k1, k2, k3, k4⟩
  obtain ⟨a2, c2, rfl⟩ := k2.slice
  have HZ : Hid (DistP w l' er (.returned (.tuple #[.slice a2 xs2.length c2, .int .i64 er])) w2) := ⟨_, xs2, rfl, k1, k2.mono b1w.size, bt b1w k3, k4.mono b1w.size⟩
  clear k1 k2 kch k4
  go_wp2
  exact bodyPost_ret (v := .tuple #[.slice a2 xs2.length c2, .int .i64 er]) (by simp [results, Tryz.results101, go_sem]) rfl HZ.out
end Go.Proofs.YtlndlpjadajelaaGreat

namespace Go.Proofs.YtlndlpjadajelaaGreat
open Go.RowKit Go.Shelf Go.Proofs.YtlndlpjadajelaaGreat.Ds

theorem rows_small {l : List K.Ds.Col} {ts : List K.Rw} (h : K.Ds.wroE l (K.rr ts) = 0) : l ≠ [] ∧ l.length ≤ 6 ∧ ∀ t ∈ ts, t.2 ≠ [] ∧ t.2.length ≤ 6 := by
  obtain ⟨h1, _, h3⟩ := K.Ds.wroE_ok h
  obtain ⟨h4, h5, _⟩ := K.Ds.colE_ok h1
  refine ⟨fun e => by rw [e] at h4; simp at h4, h5, fun t ht => ?_⟩
  have h6 := (h3 t.2 (List.mem_map_of_mem (f := fun t : K.Rw => t.2) ht)).len
  exact ⟨fun e => by rw [e] at h6; simp at h6; omega, by omega⟩

set_option maxHeartbeats 2000000 in
set_option maxRecDepth 100000 in
theorem through_any (N B : Nat) (pu pd u d lo hi : Int) (cv tv v0 v1 v2 v3 v4 v5 : Value) (l : List K.Ds.Col) (ts : List K.Rw) (q : K.Ds.Qu) (w : World) (hB : B ≤ w.heap.size) (hp : K.Cols w B cv l) (hr : K.Rws w B tv ts) (hq : K.Qm w B q v0 v1 v2 v3 v4 v5) (he : Env w N u d lo hi v0 v1 v2 v3 v4 v5)
    (l' : List Pt) (er : Int) (hA : smpT pu pd u d lo hi l (K.rr ts) q = (l', er)) :
    Calls Tryz.prog 49 #[rv pu pd, .agg #[cv, tv], envF N] w (DistP w l' er) := by
  have HQ : Hid (K.Qm w B q v0 v1 v2 v3 v4 v5) := hq
  have HE : Hid (Env w N u d lo hi v0 v1 v2 v3 v4 v5) := he
  obtain ⟨e1, h1⟩ : ∃ e1, K.Ds.wroE l (K.rr ts) = e1 := ⟨_, rfl⟩
  obtain ⟨⟨sl, e2⟩, h2⟩ : ∃ y, Sb.subT pu pd ((K.rr ts).length : Int) = y := ⟨_, rfl⟩
  unfold smpT at hA
  rw [h1, h2] at hA
  simp only at hA
  rw [K.rr_len] at h2
  obtain ⟨W, hW⟩ : ∃ W, ((w.alloc (.cells #[.int .i64 pu, .int .i64 pd] 23)).alloc (.cells #[cv, tv] 27)).alloc (.cells #[envF N] 105) = W := ⟨_, rfl⟩
  have hbW : Below w.heap.size w W := hW ▸ bal (bal (ba _ _) _) _
  have hsW : W.heap.size = w.heap.size + 1 + 1 + 1 := by rw [← hW]; simp
  have P0 : K.Cl W w.heap.size 0 (.int .i64 pu) := hW ▸ ((K.Cl.new _ 23 _ _ rfl rfl).at (ba _ _)).at (ba _ _)
  have P1 : K.Cl W w.heap.size 1 (.int .i64 pd) := hW ▸ ((K.Cl.new _ 23 _ _ rfl rfl).at (ba _ _)).at (ba _ _)
  have T0 : K.Cl W (w.heap.size + 1) 0 cv := hW ▸ (K.Cl.new _ 27 _ _ (by simp) rfl).at (ba _ _)
  have T1 : K.Cl W (w.heap.size + 1) 1 tv := hW ▸ (K.Cl.new _ 27 _ _ (by simp) rfl).at (ba _ _)
  have F0 : K.Cl W (w.heap.size + 1 + 1) 0 (envF N) := hW ▸ K.Cl.new _ 105 _ _ (by simp) rfl
  have HT : Hid (Tab W (w.heap.size + 1) B cv tv l ts ∧ K.Cl W w.heap.size 0 (.int .i64 pu) ∧ K.Cl W w.heap.size 1 (.int .i64 pd) ∧ K.Cl W (w.heap.size + 1 + 1) 0 (envF N)) := ⟨⟨T0, T1, hp.at hB hbW, hr.at hB hbW, by omega⟩, P0, P1, F0⟩
  have kw := K.wrong_any B cv tv l ts W (by omega) (hp.at hB hbW) (hr.at hB hbW) e1 h1
  obtain ⟨la, lc, rfl, _⟩ := hp.slice
  obtain ⟨ra, rc, rfl, _⟩ := hr.slice
  have t0 := T0.c
  have t1 := T1.c
  have HW1 : Hid (K.Ds.wroE l (K.rr ts) = e1) := h1
  have HS : Hid (Sb.subT pu pd (ts.length : Int) = (sl, e2)) := h2
  have HA : Hid ((if e1 ≠ 0 then (([], e1) : List Pt × Int) else if e2 ≠ 0 then ([], e2) else chT (fun x => thT u d lo hi l q (Sb.sel (K.rr ts) (cod x))) sl) = (l', er)) := hA
  have hfn := fun w => fn57_is (.func 50) #[] #[.pointer (some ⟨N + 5, 0, none⟩), .pointer (some ⟨N + 1, 0, none⟩), .pointer (some ⟨N + 2, 0, none⟩), .pointer (some ⟨N + 3, 0, none⟩)] w
  clear hp hr hq he h1 h2 hA P0 P1 T0 T1 F0
  go_enter Tryz.func49, Tryz.ntmps49
  go_wp2_with fail
  clear hW
  refine kw.mono ?_
  rintro e w1 ⟨rfl, hb1⟩
  have hbw1 := bt hbW hb1
  have HT1 : Hid (Tab w1 (w.heap.size + 1) B (.slice la l.length lc) (.slice ra ts.length rc) l ts ∧ K.Cl w1 w.heap.size 0 (.int .i64 pu) ∧ K.Cl w1 w.heap.size 1 (.int .i64 pd) ∧ K.Cl w1 (w.heap.size + 1 + 1) 0 (envF N)) := ⟨HT.out.1.at hb1, HT.out.2.1.at hb1, HT.out.2.2.1.at hb1, HT.out.2.2.2.at hb1⟩
  clear t0 t1 HT kw hb1
  by_cases c1 : e1 = 0
  · subst c1
    have p0 := HT1.out.2.1.c
    have p1 := HT1.out.2.2.1.c
    have t1 := HT1.out.1.b1.c
    have ks := subsets_any pu pd (ts.length : Int) sl e2 HS.out w1
    go_wp2_with fail
    refine ks.mono ?_
    rintro e w2 ⟨v2, us, rfl, k1, k2, hb2, _⟩
    have hbw2 := bt hbw1 hb2
    have HT2 : Hid (Tab w2 (w.heap.size + 1) B (.slice la l.length lc) (.slice ra ts.length rc) l ts ∧ K.Cl w2 (w.heap.size + 1 + 1) 0 (envF N)) := ⟨HT1.out.1.at hb2, HT1.out.2.2.2.at hb2⟩
    have HU : Hid (Parts w2 w2.heap.size v2 us ∧ rd us = sl) := ⟨k2.parts, k1⟩
    obtain ⟨a2, c2, rfl⟩ := k2.slice
    clear p0 p1 t1 HT1 k1 k2 ks hb2
    by_cases c2' : e2 = 0
    · subst c2'
      have f0 := HT2.out.2.c
      obtain ⟨hd, _, hm10, hmem⟩ := sub_ok HS.out
      obtain ⟨s1, s2, s3⟩ := rows_small HW1.out
      have hA2 := HA.out
      rw [if_neg (by simp), if_neg (by simp)] at hA2
      have kb := sbind_any N (w.heap.size + 1) (w.heap.size + 1 + 1) B u d lo hi (.slice a2 us.length c2) _ _ v0 v1 v2 v3 v4 v5 l ts q us w2 s1 s2 (by omega) s3 HT2.out.1 HT2.out.2 (K.Qm.mono (Nat.le_trans hB hbw2.size) q (HQ.out.at hB hbw2)) (HE.out.at hbw2) HU.out.1 (by rw [HU.out.2]; exact hd) (by rw [HU.out.2]; intro p hp; have := hmem p hp; rwa [Int.toNat_natCast] at this) l' er (by rw [HU.out.2]; exact hA2)
      clear hd hm10 hmem s1 s2 s3 hA2
      go_wp2_with fail
      refine kb.mono ?_
      rintro e w3 ⟨v3, us3, rfl, k1, k2, k3, k4⟩
      obtain ⟨a3, c3, rfl⟩ := k2.slice
      have HZ : Hid (DistP w l' er (.returned (.tuple #[.slice a3 us3.length c3, .int .i64 er])) w3) := ⟨_, us3, rfl, k1, k2.mono hbw2.size, bt hbw2 k3, k4.mono hbw2.size⟩
      clear k1 k2 k3 k4 kb
      go_wp2
      exact bodyPost_ret (v := .tuple #[.slice a3 us3.length c3, .int .i64 er]) (by simp [results, Tryz.results49, go_sem]) rfl HZ.out
    · have h5 : (e2 == 0) = false := by simpa using c2'
      have h6 : (e2 != 0) = true := by simpa using c2'
      have hA2 := HA.out
      rw [if_neg (by simp), if_pos c2'] at hA2
      simp only [Prod.mk.injEq] at hA2
      obtain ⟨rfl, rfl⟩ := hA2
      go_wp2
      exact bodyPost_ret (v := .tuple #[.slice none 0 0, .int .i64 e2]) (by simp [results, Tryz.results49, go_sem]) rfl (DistP.err hbw2)
  · have h5 : (e1 == 0) = false := by simpa using c1
    have h6 : (e1 != 0) = true := by simpa using c1
    have hA2 := HA.out
    rw [if_pos c1] at hA2
    simp only [Prod.mk.injEq] at hA2
    obtain ⟨rfl, rfl⟩ := hA2
    go_wp2
    exact bodyPost_ret (v := .tuple #[.slice none 0 0, .int .i64 e1]) (by simp [results, Tryz.results49, go_sem]) rfl (DistP.err hbw1)

set_option maxHeartbeats 2000000 in
set_option maxRecDepth 100000 in
/-- WHAT MAY COME THROUGH A SAMPLE -/
theorem sampled_any (B : Nat) (pu pd u d lo hi : Int) (cv tv v0 v1 v2 v3 v4 v5 : Value) (l : List K.Ds.Col) (ts : List K.Rw) (q : K.Ds.Qu) (w : World) (hB : B ≤ w.heap.size) (hp : K.Cols w B cv l) (hr : K.Rws w B tv ts) (hq : K.Qm w B q v0 v1 v2 v3 v4 v5)
    (l' : List Pt) (er : Int) (hA : smpT pu pd u d lo hi l (K.rr ts) q = (l', er)) :
    Calls Tryz.prog 20 #[rv pu pd, rv u d, .int .i64 lo, .int .i64 hi, .agg #[cv, tv], .agg #[v0, v1, v2, v3, v4, v5]] w (DistP w l' er) := by
  obtain ⟨W, hW⟩ : ∃ W, (((((w.alloc (.cells #[.int .i64 pu, .int .i64 pd] 23)).alloc (.cells #[.int .i64 u, .int .i64 d] 23)).alloc (.cells #[.int .i64 lo] 3)).alloc (.cells #[.int .i64 hi] 3)).alloc (.cells #[cv, tv] 27)).alloc (.cells #[v0, v1, v2, v3, v4, v5] 31) = W := ⟨_, rfl⟩
  have hbW : Below w.heap.size w W := hW ▸ bal (bal (bal (bal (bal (ba _ _) _) _) _) _) _
  have P0 : K.Cl W w.heap.size 0 (.int .i64 pu) := hW ▸ (((((K.Cl.new _ 23 _ _ rfl rfl).at (ba _ _)).at (ba _ _)).at (ba _ _)).at (ba _ _)).at (ba _ _)
  have P1 : K.Cl W w.heap.size 1 (.int .i64 pd) := hW ▸ (((((K.Cl.new _ 23 _ _ rfl rfl).at (ba _ _)).at (ba _ _)).at (ba _ _)).at (ba _ _)).at (ba _ _)
  have R0 : K.Cl W (w.heap.size + 1) 0 (.int .i64 u) := hW ▸ ((((K.Cl.new _ 23 _ _ (by simp) rfl).at (ba _ _)).at (ba _ _)).at (ba _ _)).at (ba _ _)
  have R1 : K.Cl W (w.heap.size + 1) 1 (.int .i64 d) := hW ▸ ((((K.Cl.new _ 23 _ _ (by simp) rfl).at (ba _ _)).at (ba _ _)).at (ba _ _)).at (ba _ _)
  have L0 : K.Cl W (w.heap.size + 2) 0 (.int .i64 lo) := hW ▸ (((K.Cl.new _ 3 _ _ (by simp) rfl).at (ba _ _)).at (ba _ _)).at (ba _ _)
  have H0 : K.Cl W (w.heap.size + 3) 0 (.int .i64 hi) := hW ▸ ((K.Cl.new _ 3 _ _ (by simp) rfl).at (ba _ _)).at (ba _ _)
  have T0 : K.Cl W (w.heap.size + 4) 0 cv := hW ▸ (K.Cl.new _ 27 _ _ (by simp) rfl).at (ba _ _)
  have T1 : K.Cl W (w.heap.size + 4) 1 tv := hW ▸ (K.Cl.new _ 27 _ _ (by simp) rfl).at (ba _ _)
  have A0 : K.Bx W (w.heap.size + 5) v0 v1 v2 v3 v4 v5 := hW ▸ K.Bx.new _ _ (by simp) _ _ _ _ _ _
  have kt := through_any w.heap.size B pu pd u d lo hi cv tv v0 v1 v2 v3 v4 v5 l ts q W (Nat.le_trans hB hbW.size) (hp.at hB hbW) (hr.at hB hbW) (hq.at hB hbW) ⟨R0, R1, L0, H0, A0⟩ l' er hA
  obtain ⟨la, lc, rfl, _⟩ := hp.slice
  obtain ⟨ra, rc, rfl, _⟩ := hr.slice
  obtain ⟨kk, kc, kl, kh, ka, kn, kd, kb, km, kp, rfl, rfl, rfl, rfl, rfl, rfl⟩ := hq.shape
  have p0 := P0.c
  have p1 := P1.c
  have t0 := T0.c
  have t1 := T1.c
  clear hp hr hq hA P0 P1 R0 R1 L0 H0 T0 T1 A0
  go_enter Tryz.func20, Tryz.ntmps20
  go_wp2_with fail
  clear hW
  refine kt.mono ?_
  rintro e w1 ⟨v1', us, rfl, k1, k2, k3, k4⟩
  obtain ⟨a1, c1, rfl⟩ := k2.slice
  have HZ : Hid (DistP w l' er (.returned (.tuple #[.slice a1 us.length c1, .int .i64 er])) w1) := ⟨_, us, rfl, k1, k2.mono hbW.size, bt hbW k3, k4.mono hbW.size⟩
  clear k1 k2 k3 k4 kt
  go_wp2
  exact bodyPost_ret (v := .tuple #[.slice a1 us.length c1, .int .i64 er]) (by simp [results, Tryz.results20, go_sem]) rfl HZ.out
end Go.Proofs.YtlndlpjadajelaaGreat

namespace Go.Proofs.YtlndlpjadajelaaGreat
open Go.RowKit Go.Proofs.YtlndlpjadajelaaGreat.Ds

/-! ### WHAT IS LOST THROUGH A SAMPLE -/
theorem far_self {L l : List Pt} (h : makeT L = (l, 0)) : farT l l = (1, 1, 0) := by
  obtain ⟨hd, g, hg, hw, ht⟩ := make_told h
  have hne := hd.ne
  cases hl : l with
  | nil => exact absurd hl hne
  | cons p r =>
    have hp : 0 < wt L p.1 := by
      rw [hw]
      exact Int.mul_pos hg (mem_wt_pos hd.rise hd.pos (by rw [hl]; exact List.mem_cons_self ..))
    rw [← hl]
    refine far_make h h (fun o => Iff.rfl) ⟨by omega, fun o _ => ⟨?_, ?_⟩⟩ (by omega) (by decide) p.1 hp ?_
    · rw [Int.mul_one, Int.one_mul]; omega
    · rw [Int.mul_one, Int.one_mul]; omega
    · rw [Int.mul_one, Int.one_mul]
theorem hide_far {u d lo hi m n : Int} {l : List Pt} (h : hideT u d lo hi m = (l, 0)) :
    ∃ (l' : List Pt) (f : Nat), hideT u d lo hi n = (l', 0) ∧ (f : Int) ≤ max (m - n) (n - m) ∧ farT l l' = (u ^ f, d ^ f, 0) := by
  obtain ⟨l', h1, _, h3, h4⟩ := hide_two (n := n) h
  by_cases c : u = d ∨ lo = hi
  · obtain ⟨L, hL⟩ := hide_made h
    have e := h3 c
    refine ⟨l', 0, h1, by simp; omega, ?_⟩
    rw [← e, Int.pow_zero, Int.pow_zero]
    exact far_self hL
  · obtain ⟨f, hf, _, hff⟩ := h4 (fun k => c (.inl k)) (fun k => c (.inr k))
    refine ⟨l', f, h1, ?_, hff⟩
    rw [hf]
    unfold plcT
    omega

/-- how likely something is of the rows that are looked at -/
def gR (u d lo hi : Int) (l : List K.Ds.Col) (q : K.Ds.Qu) (o : List Int) (R : List (List Int)) : Rat := chR (hideT u d lo hi ((K.ans l R q).headD 0)).1 o
theorem Ex_one {α : Type} {p : Rat} : ∀ {R : List α}, Sb.Ex p R (fun _ => 1) = 1
  | [] => rfl
  | r :: R => by
    rw [Sb.Ex, Ex_one]
    grind
/-- what may come through a sample comes just as often as each subset says -/
theorem samp_rat {pu pd u d lo hi : Int} {l : List K.Ds.Col} {rs : List (List Int)} {q : K.Ds.Qu} (hq : q ≠ .none) (hw : K.Ds.wroE l rs = 0) {x : List Pt} (h : smpT pu pd u d lo hi l rs q = (x, 0)) :
    Sb.chE pu pd = 0 ∧ rs.length ≤ 10 ∧ Dis x ∧ (∃ b, K.Ds.bnd l 1 q = .ok b) ∧ (∀ n, ∃ y, hideT u d lo hi n = (y, 0)) ∧ ∀ o, chR x o = Sb.Ex ((pu : Rat) / (pd : Rat)) rs.reverse (gR u d lo hi l q o) := by
  obtain ⟨hce, hle, hok⟩ := K.Ds.wroE_ok hw
  have hsz := (K.Ds.colE_ok hce).2.2.1
  obtain ⟨⟨sl, e2⟩, h2⟩ : ∃ y, Sb.subT pu pd (rs.length : Int) = y := ⟨_, rfl⟩
  unfold smpT at h
  rw [hw, h2] at h
  simp only at h
  rw [if_neg (by simp)] at h
  by_cases c2 : e2 = 0
  · subst c2
    rw [if_neg (by simp)] at h
    obtain ⟨hds, _, hk10, hmem⟩ := sub_ok h2
    rw [Int.toNat_natCast] at hmem
    have hch : Sb.chE pu pd = 0 := by
      by_cases c : Sb.chE pu pd = 0
      · exact c
      · unfold Sb.subT at h2; rw [if_pos c] at h2; simp only [Prod.mk.injEq] at h2; exact absurd h2.2 c
    have hmk : makeT (Sb.lst pu pd rs.length) = (sl, 0) := by
      unfold Sb.subT at h2
      rw [if_neg (by simpa using hch), if_neg (by omega)] at h2
      split at h2
      · simp at h2
      · rwa [Int.toNat_natCast] at h2
    obtain ⟨_, hpu, hpud, hpd, _⟩ := Sb.ch_ok hch
    obtain ⟨hdx, hall, hrat⟩ := ch_told hds (fun p _ h0 => th_ok (Prod.ext rfl h0)) h
    -- a subset's rows are a table
    have hsub : ∀ s, K.Ds.wroE l (Sb.sel rs s) = 0 := fun s => K.Ds.wroE_of hce (by have := Sb.selP_len rs s rs.length; unfold Sb.sel; omega) (fun r hr => hok r (Sb.sel_mem r hr))
    obtain ⟨p0, hp0⟩ : ∃ p, p ∈ sl := by
      cases hsl : sl with
      | nil => exact absurd hsl hds.ne
      | cons p r => exact ⟨p, by simp⟩
    have h0 := hall p0 hp0
    obtain ⟨b, hb⟩ : ∃ b, K.Ds.bnd l 1 q = .ok b := by
      cases hbb : K.Ds.bnd l 1 q with
      | ok b => exact ⟨b, rfl⟩
      | error e =>
        exfalso
        simp only [thT, K.runT, hsub, if_true, hbb, K.runV] at h0
        rw [if_pos ((K.bnd_ne q 1 _ hbb))] at h0
        exact (K.bnd_ne q 1 _ hbb) h0
    have hrun : ∀ s, K.runV (K.runT l (Sb.sel rs s) q) = (K.ans l (Sb.sel rs s) q, 0) := fun s => by
      simp only [K.runT, hsub, if_true, hb, K.runV]
    have hlen : ∀ s, ((K.ans l (Sb.sel rs s) q).length : Int) = b.1 := fun s => (K.ans_ok hsz (K.Ds.wroE_ok (hsub s)).2.1 q 1 b hb hq).1
    have hone : K.ans l (Sb.sel rs (cod p0.1)) q ≠ [] := by
      intro e
      simp only [thT, hrun, e] at h0
      simp at h0
    have hne : ∀ s, K.ans l (Sb.sel rs s) q ≠ [] := fun s e => by
      have h1 := hlen s
      have h2 := hlen (cod p0.1)
      rw [e] at h1
      have h3 : (K.ans l (Sb.sel rs (cod p0.1)) q).length ≠ 0 := by simpa using hone
      simp at h1
      omega
    have hth : ∀ s, thT u d lo hi l q (Sb.sel rs s) = hideT u d lo hi ((K.ans l (Sb.sel rs s) q).headD 0) := fun s => by
      unfold thT
      rw [hrun]
      simp only
      rw [if_neg (by simp), if_neg (hne s)]
    have hhid : ∀ n, ∃ y, hideT u d lo hi n = (y, 0) := fun n => by
      rw [hth] at h0
      obtain ⟨y, hy, _⟩ := hide_two (n := n) (Prod.ext rfl h0 : hideT u d lo hi _ = (_, 0))
      exact ⟨y, hy⟩
    refine ⟨hch, by omega, hdx, ⟨b, hb⟩, hhid, fun o => ?_⟩
    obtain ⟨g, hg, hs1, hs2⟩ := smQ_make (fun z => chR (thT u d lo hi l q (Sb.sel rs (cod z))).1 o) hmk
    have hlst : smQ (fun z => chR (thT u d lo hi l q (Sb.sel rs (cod z))).1 o) (Sb.lst pu pd rs.length) = ((pd ^ rs.length : Int) : Rat) * Sb.Ex ((pu : Rat) / (pd : Rat)) rs.reverse (gR u d lo hi l q o) := by
      rw [smQ_lst, ← Sb.sum_ex hpd rs.length rs (gR u d lo hi l q o) rfl]
      refine Sb.sumQ_congr fun s _ => ?_
      have e : cod [(s : Int)] = s := by simp [cod]
      simp only [e, hth, gR]
    have htot : ((tot (Sb.lst pu pd rs.length) : Int) : Rat) = ((pd ^ rs.length : Int) : Rat) := by
      rw [tot_q, smQ_lst]
      have := Sb.sum_ex (u := pu) hpd rs.length rs (fun _ => (1 : Rat)) rfl
      rw [Ex_one, Rat.mul_one] at this
      exact this
    have hr := hrat o
    have dk : (0 : Rat) < ((pd ^ rs.length : Int) : Rat) := int_q0 (Int.pow_pos (by omega))
    rw [hs2, Rat.intCast_mul] at htot
    rw [hlst, ← hr] at hs1
    have e5 : ((pd ^ rs.length : Int) : Rat) * (chR x o - Sb.Ex ((pu : Rat) / (pd : Rat)) rs.reverse (gR u d lo hi l q o)) = 0 := by
      rw [← htot] at hs1 ⊢
      grind
    rcases Rat.mul_eq_zero.1 e5 with h | h <;> grind
  · rw [if_pos c2] at h
    simp only [Prod.mk.injEq] at h
    exact absurd h.2 c2
end Go.Proofs.YtlndlpjadajelaaGreat
