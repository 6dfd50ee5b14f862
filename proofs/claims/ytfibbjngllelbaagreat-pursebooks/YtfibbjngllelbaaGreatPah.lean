import Derived.Test.YtfibbjngllelbaaGreatPag
namespace Go.Proofs.YtfibbjngllelbaaGreat
open Go.RowKit Go.Proofs.YtfibbjngllelbaaGreat.Ds

theorem Pts.congr {w : World} {b n : Nat} {D : DataW Value} {P Q : Int → Prop} {f g : Int → Rq} (h : Pts w b n D P f) (hP : ∀ z, P z ↔ Q z) (hf : ∀ z, P z → f z = g z) : Pts w b n D Q g :=
  ⟨h.own, fun z => (h.is z).trans (hP z), fun z hz => by rw [h.el z ((hP z).2 hz), hf z ((hP z).2 hz)], fun z hz => h.rng z ((hP z).2 hz)⟩
theorem bad_nrm (e : En) : badT (nrm e) = badT e := by unfold badT; rw [nrm_1, nrm_n, nrm_l]

theorem after_any (N : Nat → Prop) (bk bm n : Nat) (v : Value) (D : DataW Value) (done : List En) (e : En) (w : World) (hB : BookM w N bk bm n v D done) (hs : e.2.1.size ≤ 4294967296) (hN : ∀ k, w.heap.size ≤ k → N k) (hbad : badT e = 0) (hl : done.length < 4096) (hpI : -9223372036854775808 ≤ e.2.2.1 ∧ e.2.2.1 ≤ 9223372036854775807) (er : Int) (her : doT done (nrm e) = er) :
    Calls Tryz.prog 23 #[.pointer (some ⟨bk, 0, none⟩), ev e] w (AfterP w N bk bm done (nrm e) er) := by
  have hbad' : badT (nrm e) = 0 := by rw [bad_nrm]; exact hbad
  obtain ⟨b1, b2, b3, b4⟩ := bad_ok hbad
  have hinv := hB.inv
  have hbmlt := hB.own.lt
  have hbklt := hB.two.lt
  obtain ⟨d, nm, p, u, v'⟩ := e
  simp only at hs b1 b2 b3 b4 hpI
  have hd : d = 1 ∨ d = 2 ∨ d = 3 := by omega
  rcases hd with rfl | rfl | rfl
  · rw [show nrm (1, nm, p, u, v') = (1, nm, 0, u, v') from by simp [nrm]] at *
    rw [doT_base hbad' hl] at her
    cases hbud : budT done nm with
    | some b =>
      simp only [hbud, ↓reduceIte] at her
      subst her
      refine (after11_any N bk bm n v D done nm p u v' w hB hs b hbud).mono ?_
      rintro x w' ⟨h1, h2⟩
      exact ⟨h1, .inl ⟨by decide, h2⟩⟩
    | none =>
      simp only [hbud, ↓reduceIte] at her
      refine (after10_any N bk bm n v D done nm p u v' w hB hs hbud _ rfl er her).mono ?_
      rintro x w' ⟨h1, h2 | ⟨h2, bp, h3, h4, h5⟩⟩
      · exact ⟨h1, .inl h2⟩
      · obtain ⟨k1, k2⟩ := none_of hinv hbud
        have k3 : prs (done ++ [(1, nm, 0, u, v')]) nm = [] := by rw [prs_other (by simp)]; exact k1
        have k4 : allP (done ++ [(1, nm, 0, u, v')]) nm = (oneQ, 0) := by rw [all_other (by simp)]; exact k2
        refine ⟨h1, .inr ⟨h2, (u, v'), bp, 0, _, by rw [k4]; exact h3, ?_, h5.congr (fun z => by simp [k3]) (fun _ h => h.elim), by omega, ?_, hN _ (by omega), by omega, by omega⟩⟩
        · rw [bud_snoc, hbud]; simp
        · simp [parT, k3, onceT, Maps.size]
  · rw [show nrm (2, nm, p, u, v') = (2, nm, 0, u, v') from by simp [nrm]] at *
    cases hbud : budT done nm with
    | none =>
      rw [doT_base hbad' hl] at her
      simp only [hbud] at her
      rw [if_neg (by decide)] at her
      subst her
      refine (after20_any N bk bm n v D done nm p u v' w hB hs hbud).mono ?_
      rintro x w' ⟨h1, h2⟩
      exact ⟨h1, .inl ⟨by decide, h2⟩⟩
    | some b =>
      rw [doT_spend hinv hbad' hl rfl hbud] at her
      have hob : OkR b := by
        unfold budT at hbud
        simp only [Option.map_eq_some_iff] at hbud
        obtain ⟨x, hx, rfl⟩ := hbud
        exact (bad_ok (hinv.bad x (List.mem_of_find?_eq_some hx)).1).2.2.2
      refine (after21_any N bk bm n v D done nm p u v' w hB hs b hbud _ (hinv.top nm).2 hob b4 er her).mono ?_
      rintro x w' ⟨h1, h2 | ⟨h2, bp, np, Dp, h3, h4, h5, h6, h7⟩⟩
      · exact ⟨h1, .inl h2⟩
      · have k3 : prs (done ++ [(2, nm, 0, u, v')]) nm = prs done nm := prs_other (by simp)
        have k5 : prtP (done ++ [(2, nm, 0, u, v')]) nm = prtP done nm := funext fun y => prt_other (by simp)
        have k4 : allP (done ++ [(2, nm, 0, u, v')]) nm = mulT (allP done nm).1 (u, v') := by
          rcases spent_all (e := (2, nm, 0, u, v')) hinv rfl b4 with ⟨j1, _⟩ | ⟨_, _, j3, _⟩
          · exfalso
            rw [h2] at her
            unfold onaT at her
            simp only at j1
            rw [j1] at her
            simp at her
          · exact j3
        refine ⟨h1, .inr ⟨h2, b, bp, np, Dp, by simp only [k4]; exact h3, ?_, ?_, by omega, ?_, h7⟩⟩
        · rw [bud_snoc, hbud]; simp
        · simp only [k3, k5]; exact h4
        · simp only [parT, k3]; exact h6
  · rw [show nrm (3, nm, p, u, v') = (3, nm, p, u, v') from by simp [nrm]] at *
    cases hbud : budT done nm with
    | none =>
      rw [doT_base hbad' hl] at her
      simp only [hbud] at her
      rw [if_neg (by decide)] at her
      subst her
      refine (after30_any N bk bm n v D done nm p u v' w hB hs hbud).mono ?_
      rintro x w' ⟨h1, h2⟩
      exact ⟨h1, .inl ⟨by decide, h2⟩⟩
    | some b =>
      have hob : OkR b := by
        unfold budT at hbud
        simp only [Option.map_eq_some_iff] at hbud
        obtain ⟨x, hx, rfl⟩ := hbud
        exact (bad_ok (hinv.bad x (List.mem_of_find?_eq_some hx)).1).2.2.2
      have k3 : ∀ z, z ∈ prs (done ++ [(3, nm, p, u, v')]) nm ↔ (z ∈ prs done nm ∨ z = p) := fun z => by rw [prs_snoc, if_pos ⟨rfl, rfl⟩]; simp
      have k5 : (mulT (prtP done nm p).1 (u, v')).2 = 0 → ∀ z, (prtP (done ++ [(3, nm, p, u, v')]) nm z).1 = if z = p then (mulT (prtP done nm p).1 (u, v')).1 else (prtP done nm z).1 := fun h0 z => by
        by_cases hz : z = p
        · subst hz
          have := prt_this (e := (3, nm, z, u, v')) hinv rfl
          simp only at this
          rw [this, if_pos h0]; simp
        · rw [if_neg hz, prt_other (fun c => hz c.2.2.symm)]
      obtain ⟨m, hm⟩ : ∃ m, (mulT (prtP done nm p).1 (u, v')).2 = 0 → Top (fun y => (prtP (done ++ [(3, nm, p, u, v')]) nm y).1) (fun y => y ∈ prs (done ++ [(3, nm, p, u, v')]) nm) m := by
        rcases spent_part (e := (3, nm, p, u, v')) hinv rfl b4 with ⟨j1, _⟩ | ⟨_, _, _, _, m, j5⟩
        · simp only at j1
          exact ⟨oneQ, fun h => by rw [j1] at h; simp at h⟩
        · exact ⟨m, fun _ => j5⟩
      rw [doT_part hinv hbad' hl rfl hbud m hm] at her
      refine (after31_any N bk bm n v D done nm p u v' w hB hs b hbud _ rfl m (fun h0 => (hm h0).congr k3 (fun z _ => k5 h0 z)) hob b4 er her hpI).mono ?_
      rintro x w' ⟨h1, h2 | ⟨h2, bp, np, Dp, h3, h4, h5, h6, h7⟩⟩
      · exact ⟨h1, .inl h2⟩
      · have h0 : (mulT (prtP done nm p).1 (u, v')).2 = 0 := by
          rcases mul_cases (hinv.prt nm p).2 b4 with ⟨j1, _⟩ | j1
          · exact j1
          · exfalso
            rw [h2] at her
            unfold onpT at her
            simp only [j1] at her
            split at her
            · omega
            · split at her
              · omega
              · simp at her
        have k4 : allP (done ++ [(3, nm, p, u, v')]) nm = allP done nm := all_other (by simp)
        refine ⟨h1, .inr ⟨h2, b, bp, np + 1, Dp, by simp only [k4]; exact h3, ?_, h4.congr (fun z => (k3 z).symm) (fun z _ => (k5 h0 z).symm), by omega, ?_, hN _ (by omega), by omega, by omega⟩⟩
        · rw [bud_snoc, hbud]; simp
        · simp only
          rw [h6, par_snoc]
          by_cases c : p ∈ prs done nm
          · have c' : p ∈ parT done nm := (par_mem _ _ _).2 c
            simp [c, c']
          · have c' : p ∉ parT done nm := fun k => c ((par_mem _ _ _).1 k)
            simp [c, c']
end Go.Proofs.YtfibbjngllelbaaGreat
