import Derived.Test.YtkpjjiomfgkobaaRng
namespace Go.Proofs.Ytkpjjiomfgkobaa
open Go.RowKit Go.Shelf Go.Proofs.Ytkpjjiomfgkobaa.Ds
attribute [local go_sem] Oper.semAt_some

/-- the neighbours at one place: one less, one more -/
def nb1 (cs : List Int) (room : Bool) (k : Nat) : List (List Int) :=
  (if 0 < cs.getD k 0 then [cs.set k (cs.getD k 0 - 1)] else []) ++ (if room then [cs.set k (cs.getD k 0 + 1)] else [])
def nbL (cs : List Int) (room : Bool) : Nat → List (List Int)
  | 0 => []
  | k + 1 => nbL cs room k ++ nb1 cs room k
theorem nbL_pre (cs : List Int) (room : Bool) {i j : Nat} (h : i ≤ j) : nbL cs room i <+: nbL cs room j := by
  induction j with
  | zero => obtain rfl : i = 0 := by omega
            exact List.prefix_refl _
  | succ j ih =>
    rcases Nat.lt_or_ge i (j + 1) with h1 | h1
    · exact (ih (by omega)).trans (List.prefix_append _ _)
    · obtain rfl : i = j + 1 := by omega
      exact List.prefix_refl _
theorem nb1_len {cs : List Int} {room : Bool} {k : Nat} {xs : List Int} (h : xs ∈ nb1 cs room k) : xs.length = cs.length := by
  rcases List.mem_append.1 h with h | h
  · split at h
    · obtain rfl := List.mem_singleton.1 h; simp
    · cases h
  · split at h
    · obtain rfl := List.mem_singleton.1 h; simp
    · cases h
theorem nbL_len {cs : List Int} {room : Bool} {k : Nat} {xs : List Int} (h : xs ∈ nbL cs room k) : xs.length = cs.length := by
  induction k with
  | zero => cases h
  | succ k ih =>
    rcases List.mem_append.1 h with h | h
    · exact ih h
    · exact nb1_len h

/-- what 'around' reads -/
structure AroF (Bc Br b o c : Nat) (cs : List Int) (room : Bool) (w : World) : Prop where
  cc : w.cell? ⟨Bc, 0, none⟩ = some (.slice (some ⟨b, o, none⟩) cs.length c)
  cr : w.cell? ⟨Br, 0, none⟩ = some (.bool room)
  cx : ∀ i x, cs[i]? = some x → w.cell? ⟨b, o + i, none⟩ = some (.int .i64 x)
theorem AroF.kpt {Bc Br b o c : Nat} {cs : List Int} {room : Bool} {w w' : World} {K : Nat → Prop} (h : AroF Bc Br b o c cs room w) (k : Kpt K w w') (h1 : K Bc) (h2 : K Br) (h3 : K b) : AroF Bc Br b o c cs room w' :=
  ⟨(World.cell?_of_block (w := w) (a := ⟨Bc, 0, none⟩) (k.same _ h1)).trans h.cc, (World.cell?_of_block (w := w) (a := ⟨Br, 0, none⟩) (k.same _ h2)).trans h.cr, fun i x hi => (World.cell?_of_block (w := w) (a := ⟨b, o + i, none⟩) (k.same _ h3)).trans (h.cx i x hi)⟩
theorem AroF.set {Bc Br b o c : Nat} {cs : List Int} {room : Bool} {w : World} (h : AroF Bc Br b o c cs room w) {g : Nat} (h1 : Bc < g) (h2 : Br < g) (h3 : b < g) (i : Nat) (v : Value) : AroF Bc Br b o c cs room (w.setCell ⟨g, i, none⟩ v) :=
  ⟨(sc_other (fun e => by cases e; omega)).trans h.cc, (sc_other (fun e => by cases e; omega)).trans h.cr, fun j x hj => (sc_other (fun e => by cases e; omega)).trans (h.cx j x hj)⟩
theorem RowI.kpt {K : Nat → Prop} {w w' : World} {g : Nat} {xs : List Int} (h : RowI w g xs) (k : Kpt K w w') (hg : K g) : RowI w' g xs :=
  ⟨fun i x hi => (World.cell?_of_block (w := w) (a := ⟨g, i, none⟩) (k.same _ hg)).trans (h.cells i x hi), fun i hi => (World.frozen?_of_block (w := w) (a := ⟨g, i, none⟩) (k.same _ hg)).trans (h.thaw i hi), Nat.lt_of_lt_of_le h.lt k.size⟩

/-- what is handed on: a row of numbers -/
def HdA (n lo : Nat) (xs : List Int) (_ W1 : World) (args : Array Value) : Prop := ∃ g c, args = #[.slice (some ⟨g, 0, none⟩) n c] ∧ RowI W1 g xs ∧ n ≤ c ∧ xs.length = n ∧ lo ≤ g

set_option maxRecDepth 100000 in
set_option maxHeartbeats 4000000 in
theorem around1_seq (n : Nat) (hn : 1 ≤ n) (Bc Br b o c : Nat) (cs : List Int) (room : Bool) (K : Nat → Prop) (W0 : World) (hne : cs ≠ []) (hsm : cs.length ≤ 4096) (hbd : ∀ x ∈ cs, 0 ≤ x ∧ x ≤ 4096) (hf : AroF Bc Br b o c cs room W0) (hc : cs.length ≤ c) (kc : K Bc) (kr : K Br) (kb : K b) (lc : Bc < W0.heap.size) (lr : Br < W0.heap.size) (lb : b < W0.heap.size) :
    SeqW n 48 #[.pointer (some ⟨Bc, 0, none⟩), .pointer (some ⟨Br, 0, none⟩)] (HdA cs.length W0.heap.size) K (nbL cs room cs.length) W0 := by
  intro y J Jx hJ hJx hst hY
  have HBD : Hid (∀ x ∈ cs, 0 ≤ x ∧ x ≤ 4096) := hbd
  have HF0 : Hid (AroF Bc Br b o c cs room W0) := hf
  have hI0 : Ints W0 W0.heap.size W0.heap.size (.slice (some ⟨b, o, none⟩) cs.length c) cs := ⟨_, c, rfl, hc, by omega, fun _ => ⟨b, o, rfl, lb, by omega, hf.cx⟩⟩
  have c0 := hf.cc
  have kcl := cloneN_any W0.heap.size W0.heap.size (.slice (some ⟨b, o, none⟩) cs.length c) cs W0 (Nat.le_refl _) hI0 (by omega)
  clear hbd hf
  refine callsIn_of_wp Try.func48 rfl trivial ?_ rfl
  simp only [Try.ntmps48, List.size_toArray, List.length_cons, List.length_nil, Nat.reduceAdd, Nat.reduceSub, Array.replicate_succ, Array.replicate_zero, List.push_toArray, List.append_toArray, List.nil_append, List.cons_append]
  gi_wp2_with fail
  refine ⟨trivial, ?_⟩
  refine (callsIn_wide.2 kcl).mono ?_
  rintro e w1 ⟨v', rfl, hv', hb1⟩
  obtain ⟨g, gc, rfl, hg0, hgc, hR1⟩ : ∃ g gc, v' = .slice (some ⟨g, 0, none⟩) cs.length gc ∧ W0.heap.size ≤ g ∧ cs.length ≤ gc ∧ RowI w1 g cs := by
    rcases hv' with ⟨_, h⟩ | h
    · exact absurd h hne
    · exact h
  have HR1 : Hid (RowI w1 g cs) := hR1
  have hg1 : g < w1.heap.size := hR1.lt
  have HJ1 : Hid (J w1.heap.size [] w1) := hst w1 (grown_of_below hb1)
  have HF1 : Hid (AroF Bc Br b o c cs room w1) := HF0.out.kpt (K := fun b => b < W0.heap.size) (Kpt.of_below hb1 fun _ h => h) lc lr lb
  have c1 := HF1.out.cc
  obtain ⟨m, hm⟩ : ∃ m, w1.heap.size = m := ⟨_, rfl⟩
  rw [hm] at HJ1 hg1
  have hm0 : W0.heap.size ≤ m := by rw [← hm]; exact hb1.size
  have HMM : Hid (m ≤ w1.heap.size) := by rw [Hid, hm]; exact Nat.le_refl _
  clear hv' kcl hR1 hm c0 hb1
  gi_wp2
  gi_loopw [11] (fun s wr => ∃ (k : Nat), s = .int .i64 (k : Int) ∧ k ≤ cs.length ∧ Hid (J m (nbL cs room k) wr) ∧ Hid (RowI wr g cs) ∧ Hid (AroF Bc Br b o c cs room wr) ∧ Hid (m ≤ wr.heap.size)) (fun s _ => cs.length - (intOf s).toNat)
  case atStart => exact ⟨0, rfl, Nat.zero_le _, HJ1, HR1, HF1, HMM⟩
  case round =>
    obtain ⟨k, rfl, hk, HJ, HR, HF, HM⟩ := hrel
    by_cases hk1 : k < cs.length
    · obtain ⟨x, hx⟩ := get_lt hk1
      have e1 := HF.out.cx k x hx
      have e2 := HF.out.cr
      have p1 := HR.out.cells k x hx
      have p2 := HR.out.thaw k hk1
      have hxb := HBD.out x (List.mem_of_getElem? hx)
      have hxD : cs.getD k 0 = x := by rw [List.getD, hx]; rfl
      have HXS : Hid (cs.set k x = cs) := List.ext_getElem? fun i => by
        by_cases e : k = i
        · subst e; rw [List.getElem?_set_self hk1, hx]
        · rw [List.getElem?_set_ne e]
      have z1 : (k : Int) < (cs.length : Int) := by omega
      have HR4 : Hid (RowI (wr.setCell ⟨g, k, none⟩ (.int .i64 (x - 1))) g (cs.set k (x - 1))) := HR.out.set k (x - 1)
      have HF4 : Hid (AroF Bc Br b o c cs room (wr.setCell ⟨g, k, none⟩ (.int .i64 (x - 1)))) := HF.out.set (by omega) (by omega) (by omega) _ _
      have HJ4 : Hid (J m (nbL cs room k) (wr.setCell ⟨g, k, none⟩ (.int .i64 (x - 1)))) := hJ m _ _ _ (some g) hm0 HJ.out (gb_set (gb_refl _ _) k _) (fun r e => by cases e; exact ⟨hg0, hg1⟩)
      have HM4 : Hid (m ≤ (wr.setCell ⟨g, k, none⟩ (.int .i64 (x - 1))).heap.size) := by rw [Hid]; simpa using HM.out
      have hw1 : IntKind.i64.wrap (x - 1) = x - 1 := by rw [IntKind.wrap_i64]; omega
      have hw2 : IntKind.i64.wrap (x + 1) = x + 1 := by rw [IntKind.wrap_i64]; omega
      have HNB : Hid (nbL cs room (k + 1) = nbL cs room k ++ ((if 0 < x then [cs.set k (x - 1)] else []) ++ (if room then [cs.set k (x + 1)] else []))) := by rw [Hid, nbL, nb1, hxD]
      have HX : Hid (cs[k]? = some x) := hx
      have HPX : ∀ zs, zs <+: nbL cs room (k + 1) → zs <+: nbL cs room cs.length := fun zs h => h.trans (nbL_pre cs room (by omega))
      clear hx hxD HR HF HJ HM
      obtain ⟨wa, hwa⟩ : ∃ wa, wr.setCell ⟨g, k, none⟩ (.int .i64 (x - 1)) = wa := ⟨_, rfl⟩
      rw [hwa] at HR4 HF4 HJ4 HM4
      by_cases hx0 : 0 < x
      · have hx0' : decide (0 < x) = true := decide_eq_true hx0
        obtain ⟨fn, tmps, assign, body, hy, hR⟩ := hY m (nbL cs room k) (cs.set k (x - 1)) wa wa #[.slice (some ⟨g, 0, none⟩) cs.length gc] hm0 HM4.out (HPX _ (by rw [HNB.out, if_pos hx0]; exact ⟨_, by simp; rfl⟩)) HJ4.out (Below.refl _ _) ⟨g, gc, rfl, HR4.out, hgc, by simp, hg0⟩
        gi_wp2
        refine hR.mono ?_
        rintro e W5 (⟨rfl, hJ5, hK5⟩ | ⟨rfl, hJ5, hK5⟩)
        · have HRb : Hid (RowI W5 g (cs.set k (x - 1))) := HR4.out.kpt hK5 (.inr ⟨hg0, hg1⟩)
          have HFb : Hid (AroF Bc Br b o c cs room W5) := HF4.out.kpt hK5 (.inl kc) (.inl kr) (.inl kb)
          have HJb : Hid (J m (nbL cs room k ++ [cs.set k (x - 1)]) W5) := hJ5
          have HMb : Hid (m ≤ W5.heap.size) := Nat.le_trans HM4.out hK5.size
          clear hJ5 hK5 hy hR HR4 HF4 HJ4 HM4 hwa e1 e2 p1 p2
          have q1 := HRb.out.cells k (x - 1) (by rw [List.getElem?_set_self hk1])
          have q2 := HRb.out.thaw k (by simpa using hk1)
          have e3 := HFb.out.cr
          obtain ⟨wc, hwc⟩ : ∃ wc, W5.setCell ⟨g, k, none⟩ (.int .i64 (x + 1)) = wc := ⟨_, rfl⟩
          have HRc : Hid (RowI wc g (cs.set k (x + 1))) := by
            have h := HRb.out.set k (x + 1)
            rw [List.set_set, hwc] at h
            exact h
          have HFc : Hid (AroF Bc Br b o c cs room wc) := by rw [← hwc]; exact HFb.out.set (by omega) (by omega) (by omega) _ _
          have HJc : Hid (J m (nbL cs room k ++ [cs.set k (x - 1)]) wc) := by rw [← hwc]; exact hJ m _ _ _ (some g) hm0 HJb.out (gb_set (gb_refl _ _) k _) (fun r e => by cases e; exact ⟨hg0, hg1⟩)
          have HMc : Hid (m ≤ wc.heap.size) := by rw [← hwc, Hid]; simpa using HMb.out
          have e4 := HFc.out.cr
          have s1 := HRc.out.cells k (x + 1) (by rw [List.getElem?_set_self hk1])
          have s2 := HRc.out.thaw k (by simpa using hk1)
          cases room with
          | false =>
            obtain ⟨we, hwe⟩ : ∃ we, wc.setCell ⟨g, k, none⟩ (.int .i64 x) = we := ⟨_, rfl⟩
            have HRe : Hid (RowI we g cs) := by
              have h := HRc.out.set k x
              rw [List.set_set, HXS.out, hwe] at h
              exact h
            have HFe : Hid (AroF Bc Br b o c cs false we) := by rw [← hwe]; exact HFc.out.set (by omega) (by omega) (by omega) _ _
            have HJe : Hid (J m (nbL cs false (k + 1)) we) := by rw [← hwe, HNB.out]; exact hJ m _ _ _ (some g) hm0 (by simpa [if_pos hx0] using HJc.out) (gb_set (gb_refl _ _) k _) (fun r e => by cases e; exact ⟨hg0, hg1⟩)
            have HMe : Hid (m ≤ we.heap.size) := by rw [← hwe, Hid]; simpa using HMc.out
            gi_wp2
            refine ⟨fun _ h => (by cases h), ?_⟩
            gi_wp2
            go_roundw
            case rel => exact ⟨k + 1, by go_num, hk1, HJe, HRe, HFe, HMe⟩
            case measure => simp [intOf]; omega
          | true =>
            obtain ⟨fn2, tmps2, assign2, body2, hy2, hR2⟩ := hY m (nbL cs true k ++ [cs.set k (x - 1)]) (cs.set k (x + 1)) wc wc #[.slice (some ⟨g, 0, none⟩) cs.length gc] hm0 HMc.out (HPX _ (by rw [HNB.out, if_pos hx0]; exact ⟨[], by simp⟩)) HJc.out (Below.refl _ _) ⟨g, gc, rfl, HRc.out, hgc, by simp, hg0⟩
            gi_wp2
            refine hR2.mono ?_
            rintro e W7 (⟨rfl, hJ7, hK7⟩ | ⟨rfl, hJ7, hK7⟩)
            · have HR7 : Hid (RowI W7 g (cs.set k (x + 1))) := HRc.out.kpt hK7 (.inr ⟨hg0, hg1⟩)
              have HF7 : Hid (AroF Bc Br b o c cs true W7) := HFc.out.kpt hK7 (.inl kc) (.inl kr) (.inl kb)
              have HJ7 : Hid (J m ((nbL cs true k ++ [cs.set k (x - 1)]) ++ [cs.set k (x + 1)]) W7) := hJ7
              have HM7 : Hid (m ≤ W7.heap.size) := Nat.le_trans HMc.out hK7.size
              have u1 := HR7.out.cells k (x + 1) (by rw [List.getElem?_set_self hk1])
              have u2 := HR7.out.thaw k (by simpa using hk1)
              obtain ⟨we, hwe⟩ : ∃ we, W7.setCell ⟨g, k, none⟩ (.int .i64 x) = we := ⟨_, rfl⟩
              have HRe : Hid (RowI we g cs) := by
                have h := HR7.out.set k x
                rw [List.set_set, HXS.out, hwe] at h
                exact h
              have HFe : Hid (AroF Bc Br b o c cs true we) := by rw [← hwe]; exact HF7.out.set (by omega) (by omega) (by omega) _ _
              have HJe : Hid (J m (nbL cs true (k + 1)) we) := by rw [← hwe, HNB.out]; exact hJ m _ _ _ (some g) hm0 (by simpa [if_pos hx0] using HJ7.out) (gb_set (gb_refl _ _) k _) (fun r e => by cases e; exact ⟨hg0, hg1⟩)
              have HMe : Hid (m ≤ we.heap.size) := by rw [← hwe, Hid]; simpa using HM7.out
              clear hJ7 hK7
              gi_wp2
              go_roundw
              case rel => exact ⟨k + 1, by go_num, hk1, HJe, HRe, HFe, HMe⟩
              case measure => simp [intOf]; omega
            · have HJ7 : Hid (Jx m ((nbL cs true k ++ [cs.set k (x - 1)]) ++ [cs.set k (x + 1)]) W7) := hJ7
              clear hJ7 hK7
              gi_wp2
              refine bodyPost_ret (results_none rfl _ _ _) rfl ?_
              exact ⟨⟨_, rfl⟩, m, hm0, .inr ⟨_, HJ7.out⟩⟩
        · have HJ5 : Hid (Jx m (nbL cs room k ++ [cs.set k (x - 1)]) W5) := hJ5
          clear hJ5 hK5
          gi_wp2
          refine bodyPost_ret (results_none rfl _ _ _) rfl ?_
          exact ⟨⟨_, rfl⟩, m, hm0, .inr ⟨_, HJ5.out⟩⟩
      · have hx0' : decide (0 < x) = false := decide_eq_false hx0
        have HRb : Hid (RowI wa g (cs.set k (x - 1))) := HR4
        have HFb : Hid (AroF Bc Br b o c cs room wa) := HF4
        have HJb : Hid (J m (nbL cs room k) wa) := HJ4
        have HMb : Hid (m ≤ wa.heap.size) := HM4
        gi_wp2
        refine ⟨fun _ h => (by cases h), ?_⟩
        clear hwa
        have q1 := HRb.out.cells k (x - 1) (by rw [List.getElem?_set_self hk1])
        have q2 := HRb.out.thaw k (by simpa using hk1)
        have e3 := HFb.out.cr
        obtain ⟨wc, hwc⟩ : ∃ wc, wa.setCell ⟨g, k, none⟩ (.int .i64 (x + 1)) = wc := ⟨_, rfl⟩
        have HRc : Hid (RowI wc g (cs.set k (x + 1))) := by
          have h := HRb.out.set k (x + 1)
          rw [List.set_set, hwc] at h
          exact h
        have HFc : Hid (AroF Bc Br b o c cs room wc) := by rw [← hwc]; exact HFb.out.set (by omega) (by omega) (by omega) _ _
        have HJc : Hid (J m (nbL cs room k) wc) := by rw [← hwc]; exact hJ m _ _ _ (some g) hm0 HJb.out (gb_set (gb_refl _ _) k _) (fun r e => by cases e; exact ⟨hg0, hg1⟩)
        have HMc : Hid (m ≤ wc.heap.size) := by rw [← hwc, Hid]; simpa using HMb.out
        have e4 := HFc.out.cr
        have s1 := HRc.out.cells k (x + 1) (by rw [List.getElem?_set_self hk1])
        have s2 := HRc.out.thaw k (by simpa using hk1)
        cases room with
        | false =>
          obtain ⟨we, hwe⟩ : ∃ we, wc.setCell ⟨g, k, none⟩ (.int .i64 x) = we := ⟨_, rfl⟩
          have HRe : Hid (RowI we g cs) := by
            have h := HRc.out.set k x
            rw [List.set_set, HXS.out, hwe] at h
            exact h
          have HFe : Hid (AroF Bc Br b o c cs false we) := by rw [← hwe]; exact HFc.out.set (by omega) (by omega) (by omega) _ _
          have HJe : Hid (J m (nbL cs false (k + 1)) we) := by rw [← hwe, HNB.out]; exact hJ m _ _ _ (some g) hm0 (by simpa [if_neg (show ¬ 0 < x by omega)] using HJc.out) (gb_set (gb_refl _ _) k _) (fun r e => by cases e; exact ⟨hg0, hg1⟩)
          have HMe : Hid (m ≤ we.heap.size) := by rw [← hwe, Hid]; simpa using HMc.out
          gi_wp2
          refine ⟨fun _ h => (by cases h), ?_⟩
          gi_wp2
          go_roundw
          case rel => exact ⟨k + 1, by go_num, hk1, HJe, HRe, HFe, HMe⟩
          case measure => simp [intOf]; omega
        | true =>
          obtain ⟨fn2, tmps2, assign2, body2, hy2, hR2⟩ := hY m (nbL cs true k) (cs.set k (x + 1)) wc wc #[.slice (some ⟨g, 0, none⟩) cs.length gc] hm0 HMc.out (HPX _ (by rw [HNB.out, if_neg (show ¬ 0 < x by omega)]; exact ⟨[], by simp⟩)) HJc.out (Below.refl _ _) ⟨g, gc, rfl, HRc.out, hgc, by simp, hg0⟩
          gi_wp2
          refine hR2.mono ?_
          rintro e W7 (⟨rfl, hJ7, hK7⟩ | ⟨rfl, hJ7, hK7⟩)
          · have HR7 : Hid (RowI W7 g (cs.set k (x + 1))) := HRc.out.kpt hK7 (.inr ⟨hg0, hg1⟩)
            have HF7 : Hid (AroF Bc Br b o c cs true W7) := HFc.out.kpt hK7 (.inl kc) (.inl kr) (.inl kb)
            have HJ7 : Hid (J m ((nbL cs true k) ++ [cs.set k (x + 1)]) W7) := hJ7
            have HM7 : Hid (m ≤ W7.heap.size) := Nat.le_trans HMc.out hK7.size
            have u1 := HR7.out.cells k (x + 1) (by rw [List.getElem?_set_self hk1])
            have u2 := HR7.out.thaw k (by simpa using hk1)
            obtain ⟨we, hwe⟩ : ∃ we, W7.setCell ⟨g, k, none⟩ (.int .i64 x) = we := ⟨_, rfl⟩
            have HRe : Hid (RowI we g cs) := by
              have h := HR7.out.set k x
              rw [List.set_set, HXS.out, hwe] at h
              exact h
            have HFe : Hid (AroF Bc Br b o c cs true we) := by rw [← hwe]; exact HF7.out.set (by omega) (by omega) (by omega) _ _
            have HJe : Hid (J m (nbL cs true (k + 1)) we) := by rw [← hwe, HNB.out]; exact hJ m _ _ _ (some g) hm0 (by simpa [if_neg (show ¬ 0 < x by omega)] using HJ7.out) (gb_set (gb_refl _ _) k _) (fun r e => by cases e; exact ⟨hg0, hg1⟩)
            have HMe : Hid (m ≤ we.heap.size) := by rw [← hwe, Hid]; simpa using HM7.out
            clear hJ7 hK7
            gi_wp2
            go_roundw
            case rel => exact ⟨k + 1, by go_num, hk1, HJe, HRe, HFe, HMe⟩
            case measure => simp [intOf]; omega
          · have HJ7 : Hid (Jx m ((nbL cs true k) ++ [cs.set k (x + 1)]) W7) := hJ7
            clear hJ7 hK7
            gi_wp2
            refine bodyPost_ret (results_none rfl _ _ _) rfl ?_
            exact ⟨⟨_, rfl⟩, m, hm0, .inr ⟨_, HJ7.out⟩⟩
    · obtain rfl : k = cs.length := by omega
      gi_wp2
      go_end0
      exact ⟨⟨_, rfl⟩, m, hm0, .inl HJ.out⟩
end Go.Proofs.Ytkpjjiomfgkobaa
