import Derived.Test.YtkpjjiomfgkobaaNea
namespace Go.Proofs.Ytkpjjiomfgkobaa
open Go.RowKit Go.Shelf Go.Proofs.Ytkpjjiomfgkobaa.Ds
attribute [local go_sem] Oper.semAt_some

set_option maxRecDepth 100000 in
set_option maxHeartbeats 8000000 in
theorem near2_fun (n : Nat) (hn : 4 ≤ n) (ob nob kB lB : Nat) (J Jx : Nat → List (List Int) → World → Prop) (Bc Br Bk b o c kb ko kc : Nat) (cs : List Int) (room : Bool) (l : List Col) (K : Nat → Prop) (W0 : World) (hne : cs ≠ []) (hsm : cs.length ≤ 4096) (hbd : ∀ x ∈ cs, 0 ≤ x ∧ x ≤ 4096) (hf : NeaF Bc Br Bk b o c kb ko kc cs room l W0) (hc : cs.length ≤ c) (hkc : l.length ≤ kc) (h6 : l.length ≤ 6) (hnm : NmS l)
    (k1 : K Bc) (k2 : K Br) (k3 : K b) (k4 : K Bk) (k5 : K kb) (hKW : ∀ x, K x → x < W0.heap.size) (hJ : Clo W0.heap.size J) (hJx : Clo W0.heap.size Jx) (hst : ∀ W', W0.grownBy W' none → J W'.heap.size [] W')
    (hY : ∀ m pre x Wc W1 args, W0.heap.size ≤ m → m ≤ Wc.heap.size → pre ++ [x] <+: nbL cs room cs.length → J m pre Wc → Below Wc.heap.size Wc W1 → HdT l x Wc W1 args →
      Calls Try.prog 38 (args ++ #[.pointer (some ⟨ob, 0, none⟩), .pointer (some ⟨nob, 0, none⟩), .pointer (some ⟨kB, 0, none⟩), .pointer (some ⟨lB, 0, none⟩)]) W1 fun e W' =>
        (e = .returned (.bool true) ∧ J m (pre ++ [x]) W' ∧ Kpt (fun b => K b ∨ (W0.heap.size ≤ b ∧ b < m)) W1 W') ∨
        (e = .returned (.bool false) ∧ Jx m (pre ++ [x]) W' ∧ Kpt (fun b => K b ∨ (W0.heap.size ≤ b ∧ b < m)) W1 W')) :
    CallsIn Fence.wide n Try.prog 43 #[(.func (.func 38) #[] #[.pointer (some ⟨ob, 0, none⟩), .pointer (some ⟨nob, 0, none⟩), .pointer (some ⟨kB, 0, none⟩), .pointer (some ⟨lB, 0, none⟩)]), .pointer (some ⟨Bc, 0, none⟩), .pointer (some ⟨Br, 0, none⟩), .pointer (some ⟨Bk, 0, none⟩)] W0 fun e W' => (∃ v, e = .returned v) ∧ ∃ m, W0.heap.size ≤ m ∧ (J m (nbL cs room cs.length) W' ∨ ∃ pre, Jx m pre W') := by
  have hn1 : 1 ≤ n := by omega
  have hn3 : 1 ≤ n - 1 - 1 := by omega
  have HF0 : Hid (NeaF Bc Br Bk b o c kb ko kc cs room l W0) := hf
  have HBD : Hid (∀ x ∈ cs, 0 ≤ x ∧ x ≤ 4096) := hbd
  have HNM : Hid (NmS l) := hnm
  have l1 := hKW _ k1
  have l2 := hKW _ k2
  have l3 := hKW _ k3
  have l4 := hKW _ k4
  have l5 := hKW _ k5
  obtain ⟨Wa, hWa⟩ : ∃ Wa, W0.alloc (.cells #[(.func (.func 38) #[] #[.pointer (some ⟨ob, 0, none⟩), .pointer (some ⟨nob, 0, none⟩), .pointer (some ⟨kB, 0, none⟩), .pointer (some ⟨lB, 0, none⟩)])] 43) = Wa := ⟨_, rfl⟩
  have hba : Below W0.heap.size W0 Wa := by rw [← hWa]; exact ba _ _
  have hza : Wa.heap.size = W0.heap.size + 1 := by rw [← hWa]; simp
  have hYa : Boxed Wa W0.heap.size 43 (.func (.func 38) #[] #[.pointer (some ⟨ob, 0, none⟩), .pointer (some ⟨nob, 0, none⟩), .pointer (some ⟨kB, 0, none⟩), .pointer (some ⟨lB, 0, none⟩)]) := by rw [← hWa]; exact Boxed.new _ _ _
  have HFa : Hid (NeaF Bc Br Bk b o c kb ko kc cs room l Wa) := HF0.out.kpt (K := fun x => x < W0.heap.size) (Kpt.of_below hba fun _ h => h) l1 l2 l3 l4 l5
  have q0 := hYa.cell
  have q1 := HFa.out.ar.cc
  have q2 := HFa.out.ar.cr
  have q3 := fn_not (.func 38) #[] #[.pointer (some ⟨ob, 0, none⟩), .pointer (some ⟨nob, 0, none⟩), .pointer (some ⟨kB, 0, none⟩), .pointer (some ⟨lB, 0, none⟩)]
  clear hf hbd hnm
  refine callsIn_of_wp_marks Try.func43 rfl trivial ?_ rfl
  simp only [Try.ntmps43, List.size_toArray, List.length_cons, List.length_nil, Nat.reduceAdd, Nat.reduceSub, Array.replicate_succ, Array.replicate_zero, List.push_toArray, List.append_toArray, List.nil_append, List.cons_append]
  gi_wp2_with fail
  clear hWa
  refine ⟨trivial, ?_⟩
  refine (around_in _ _ _ _ _ _).mono ?_
  rintro e wb ⟨rfl, hwb⟩
  have hbb : Below Wa.heap.size Wa wb := by rw [hwb]; exact bal (ba _ _) _
  have hzb : wb.heap.size = W0.heap.size + 3 := by rw [hwb]; simp; omega
  have hAr : AroF (W0.heap.size + 1) (W0.heap.size + 1 + 1) b o c cs room wb := by
    refine ⟨?_, ?_, ?_⟩
    · rw [hwb, ← hza]; exact ((ba _ _).cell (p := ⟨Wa.heap.size, 0, none⟩) (by simp)).trans (nc _ _ 0 _ rfl rfl)
    · rw [hwb, ← hza]; exact nc _ _ 0 _ (by simp) rfl
    · intro i x hi; exact (hbb.cell (p := ⟨b, o + i, none⟩) (by show b < _; omega)).trans (HFa.out.ar.cx i x hi)
  have hYb : Boxed wb W0.heap.size 43 (.func (.func 38) #[] #[.pointer (some ⟨ob, 0, none⟩), .pointer (some ⟨nob, 0, none⟩), .pointer (some ⟨kB, 0, none⟩), .pointer (some ⟨lB, 0, none⟩)]) := hYa.kept (grown_of_below hbb) (by simp)
  have HFb : Hid (NeaF Bc Br Bk b o c kb ko kc cs room l wb) := HFa.out.kpt (K := fun x => x < Wa.heap.size) (Kpt.of_below hbb fun _ h => h) (by omega) (by omega) (by omega) (by omega) (by omega)
  have hb0b : Below W0.heap.size W0 wb := bt hba hbb
  rw [hza]
  clear hwb q0 q1 q2 q3 hYa
  gi_wp2_with fail
  refine rangeW (K := fun x => K x ∨ (W0.heap.size ≤ x ∧ x < wb.heap.size)) (by omega) (gf := 48) (lb := #[.pointer (some ⟨W0.heap.size + 1, 0, none⟩), .pointer (some ⟨W0.heap.size + 1 + 1, 0, none⟩)]) rfl (enters_of Try.func48 (by kernel_rfl) rfl) (Hd := HdA cs.length (wb.heap.size + 2)) (S := nbL cs room cs.length)
    ?seq ?hK ?hps (fun m pre W => J m pre W ∧ Boxed W W0.heap.size 43 (.func (.func 38) #[] #[.pointer (some ⟨ob, 0, none⟩), .pointer (some ⟨nob, 0, none⟩), .pointer (some ⟨kB, 0, none⟩), .pointer (some ⟨lB, 0, none⟩)]) ∧ NeaF Bc Br Bk b o c kb ko kc cs room l W) (fun m pre W => Jx m pre W) ?cl ?clx ?st
    (fun m pre xs act Wc W => ∃ g gc, act = { tmps := #[(.func (.func 38) #[] #[.pointer (some ⟨ob, 0, none⟩), .pointer (some ⟨nob, 0, none⟩), .pointer (some ⟨kB, 0, none⟩), .pointer (some ⟨lB, 0, none⟩)]), .pointer (some ⟨Bc, 0, none⟩), .pointer (some ⟨Br, 0, none⟩), .pointer (some ⟨Bk, 0, none⟩), .pointer (some ⟨W0.heap.size, 0, none⟩), .slice (some ⟨g, 0, none⟩) cs.length gc, undef, undef, (.func (.func 38) #[] #[.pointer (some ⟨ob, 0, none⟩), .pointer (some ⟨nob, 0, none⟩), .pointer (some ⟨kB, 0, none⟩), .pointer (some ⟨lB, 0, none⟩)]), .bool false, .slice (some ⟨b, o, none⟩) cs.length c, .bool room, .func (.func 48) #[] #[.pointer (some ⟨W0.heap.size + 1, 0, none⟩), .pointer (some ⟨W0.heap.size + 1 + 1, 0, none⟩)], .slice (some ⟨g, 0, none⟩) cs.length gc, undef, undef, undef, undef, undef, undef, undef, undef, undef, undef], defers := [] } ∧ RowI W g xs ∧ cs.length ≤ gc ∧ xs.length = cs.length ∧ wb.heap.size + 2 ≤ g ∧ Below Wc.heap.size Wc W ∧ J m pre Wc ∧ Boxed Wc W0.heap.size 43 (.func (.func 38) #[] #[.pointer (some ⟨ob, 0, none⟩), .pointer (some ⟨nob, 0, none⟩), .pointer (some ⟨kB, 0, none⟩), .pointer (some ⟨lB, 0, none⟩)]) ∧ NeaF Bc Br Bk b o c kb ko kc cs room l Wc)
    ?ax ?assign ?body ?done ?stop
  case seq =>
    intro W1 hg hz
    rw [← hz]
    have hbl : Kpt (fun x => x < wb.heap.size) wb W1 := ⟨hg.size, fun x hx => hg.block x hx (by simp)⟩
    exact around1_seq (n - 1) (by omega) _ _ b o c cs room _ W1 hne hsm HBD.out (hAr.kpt hbl (by omega) (by omega) (by omega)) hc (.inr (by omega)) (.inr (by omega)) (.inl k3) (by omega) (by omega) (by omega)
  case hK =>
    rintro x (h | h)
    · have := hKW x h; omega
    · omega
  case hps => rintro x Wc W1 args ⟨g, gc, rfl, _⟩; rfl
  case cl =>
    rintro m pre A B row hm ⟨hj, hy, hf⟩ hg hr
    have hne2 : ∀ x, x < wb.heap.size → row ≠ some x := fun x hx e => by have := hr x e; omega
    have hys := hy.lt
    have hk : Kpt (fun x => K x) A B := ⟨hg.size, fun x hx => by
      by_cases e : x < A.heap.size
      · exact hg.block x e (fun e2 => hne2 x (by have := hKW x hx; omega) e2.symm)
      · have := hKW x hx; omega⟩
    exact ⟨hJ m pre A B row (by omega) hj hg (fun r e => by have := hr r e; omega), hy.kept hg (fun e => hne2 _ (by omega) e.symm), hf.kpt hk k1 k2 k3 k4 k5⟩
  case clx =>
    intro m pre A B row hm hj hg hr
    exact hJx m pre A B row (by omega) hj hg (fun r e => by have := hr r e; omega)
  case st =>
    intro W' hg
    have hbl : Kpt (fun x => x < wb.heap.size) wb W' := ⟨hg.size, fun x hx => hg.block x hx (by simp)⟩
    exact ⟨hst W' (gb_trans (grown_of_below hb0b) hg), hYb.kept hg (by simp), HFb.out.kpt hbl (by omega) (by omega) (by omega) (by omega) (by omega)⟩
  case ax =>
    rintro m pre xs act Wc W ob hm hmc hb ⟨g, gc, rfl, h1, h2, h3, h4, h5, h7, h8, h9⟩
    have hlc : wb.heap.size + 1 < Wc.heap.size := by omega
    refine ⟨g, gc, rfl, h1.put (by omega) _, h2, h3, h4, below_put h5 hlc _, ?_, h8.kept (grownBy_putObj' _ _ _) (by simp; omega), ?_⟩
    · exact hJ m pre Wc _ _ (by omega) h7 (grownBy_putObj' _ _ _) (fun r e => by cases e; omega)
    · exact h9.kpt (K := fun x => K x) (Kpt.put _ _ _ (fun h => by have := hKW _ h; omega)) k1 k2 k3 k4 k5
  case assign =>
    rintro l' m pre xs Wc W1 args hm hmc _ ⟨hj, hy, hf⟩ hb ⟨g, gc, rfl, h1, h2, h3, h4⟩
    gi_wp2
    exact ⟨Below.refl _ _, g, gc, rfl, h1, h2, h3, h4, hb, hj, hy, hf⟩
  case body =>
    rintro l' m pre xs act Wc W2 hm hmc hpx hb ⟨g, gc, rfl, h1, h2, h3, h4, _, h7, h8, h9⟩
    have hbK : Kpt (fun x => x < Wc.heap.size) Wc W2 := Kpt.of_below hb fun _ h => h
    have hs2 := hb.size
    have hY2 : Boxed W2 W0.heap.size 43 (.func (.func 38) #[] #[.pointer (some ⟨ob, 0, none⟩), .pointer (some ⟨nob, 0, none⟩), .pointer (some ⟨kB, 0, none⟩), .pointer (some ⟨lB, 0, none⟩)]) := h8.kept (grown_of_below hb) (by simp)
    have HF2 : Hid (NeaF Bc Br Bk b o c kb ko kc cs room l W2) := h9.kpt hbK (by omega) (by omega) (by omega) (by omega) (by omega)
    have HJ2 : Hid (J m pre W2) := hJ m pre Wc W2 none (by omega) h7 (grown_of_below hb) (by simp)
    have HY2 : Hid (Boxed W2 W0.heap.size 43 (.func (.func 38) #[] #[.pointer (some ⟨ob, 0, none⟩), .pointer (some ⟨nob, 0, none⟩), .pointer (some ⟨kB, 0, none⟩), .pointer (some ⟨lB, 0, none⟩)])) := hY2
    have c1 := HF2.out.ck
    obtain ⟨lc, hlc⟩ : ∃ q, Hid (froC l xs = q) := ⟨_, rfl⟩
    obtain ⟨rs, hrs⟩ : ∃ q, Hid (froT l xs = q) := ⟨_, rfl⟩
    obtain ⟨ef, hef⟩ : ∃ q, Hid (froE l xs = q) := ⟨_, rfl⟩
    have hIx := (h1.ints (by omega) 0 (by omega)).mono (Nat.le_refl _) (.inr (Nat.le_refl _) : W2.heap.size = 0 ∨ _)
    have HIx : Hid (Ints W2 W2.heap.size W2.heap.size (.slice (some ⟨g, 0, none⟩) cs.length gc) xs) := by
      obtain ⟨a', c', e', _, _, hx'⟩ := hIx
      simp only [Value.slice.injEq] at e'
      exact ⟨_, gc, by rw [h3], by omega, by omega, fun hne' => by
        obtain ⟨b', o', ea, hb', hn', hcl⟩ := hx' hne'
        exact ⟨b', o', e'.1.trans ea, hb', hn', hcl⟩⟩
    have kfr := from_any W2.heap.size W2.heap.size W2.heap.size _ _ l xs W2 (Nat.le_refl _) (HF2.out.cols hkc h6 HNM.out (by omega)) (Nat.le_refl _) HIx.out lc rs ef hlc.out hrs.out hef.out
    clear h7 h8 h9 hY2 hIx h1 HIx hb hbK
    gi_wp2_with fail
    refine ⟨trivial, ?_⟩
    refine (CallsIn.inRound l' (callsIn_wide.2 kfr)).mono ?_
    rintro e w4 ⟨cv, rv, ts, rfl, hC4, hR4, hr4, hA4, hAR4, hb4⟩
    have hs4 := hb4.size
    obtain ⟨W4, hW4⟩ : ∃ W4, w4.alloc (.cells #[cv, rv] 25) = W4 := ⟨_, rfl⟩
    have hb4w : Below w4.heap.size w4 W4 := by rw [← hW4]; exact ba _ _
    have hb24 : Below W2.heap.size W2 W4 := bt hb4 hb4w
    have hX4 : TwoB W4 w4.heap.size cv rv := by rw [← hW4]; exact TwoB.new _ _ _ _ _ rfl
    have HTT : Hid (HdT l xs W2 W4 #[.agg #[cv, rv]]) := ⟨cv, rv, ts, rfl, by rw [hlc.out]; exact (hC4.at (Nat.le_refl _) hb4w).mono hb4w.size, (hR4.at (Nat.le_refl _) hb4w).mono hb4w.size, by rw [hrs.out, hr4], hA4.imp (fun b h => ⟨h.1, Nat.lt_of_lt_of_le h.2 hb4w.size⟩), hAR4.imp (fun b h => ⟨h.1, Nat.lt_of_lt_of_le h.2 hb4w.size⟩)⟩
    have HB24 : Hid (Below W2.heap.size W2 W4) := hb24
    have y1 := (HY2.out.kept (grown_of_below hb24) (by simp)).cell
    have y2 := hX4.c0
    have y3 := hX4.c1
    obtain ⟨ca, cc, rfl, _, _⟩ := hC4.slice
    obtain ⟨ra, rc, rfl, _, _⟩ := hR4.slice
    have kY := hY m pre xs W2 W4 #[.agg #[.slice ca lc.length cc, .slice ra ts.length rc]] (by omega) (by omega) hpx HJ2.out HB24.out HTT.out
    simp only [List.append_toArray, List.cons_append, List.nil_append] at kY
    have hkk : ∀ W5, Kpt (fun x => K x ∨ (W0.heap.size ≤ x ∧ x < m)) W4 W5 → Kpt (fun x => (K x ∨ (W0.heap.size ≤ x ∧ x < wb.heap.size)) ∨ (wb.heap.size ≤ x ∧ x < m)) W2 W5 := fun W5 k =>
      (Kpt.of_below HB24.out (fun x h => by
        rcases h with (h | h) | h
        · have := hKW x h; omega
        · omega
        · omega)).trans (k.imp fun x h => by
        rcases h with (h | h) | h
        · exact .inl h
        · exact .inr (by omega)
        · exact .inr (by omega))
    have HF4 : Hid (NeaF Bc Br Bk b o c kb ko kc cs room l W4) := HF2.out.kpt (K := fun x => x < W2.heap.size) (Kpt.of_below HB24.out fun _ h => h) (by omega) (by omega) (by omega) (by omega) (by omega)
    have HY4 : Hid (Boxed W4 W0.heap.size 43 (.func (.func 38) #[] #[.pointer (some ⟨ob, 0, none⟩), .pointer (some ⟨nob, 0, none⟩), .pointer (some ⟨kB, 0, none⟩), .pointer (some ⟨lB, 0, none⟩)])) := HY2.out.kept (grown_of_below HB24.out) (by simp)
    clear kfr hC4 hR4 hr4 hA4 hAR4 hb4 hb4w hX4 c1 hb24
    gi_wp2_with fail
    clear hW4
    refine ⟨trivial, ?_⟩
    refine (CallsIn.inRound l' (callsIn_wide.2 kY)).mono ?_
    rintro e W5 (⟨rfl, hJ5, hK5⟩ | ⟨rfl, hJ5, hK5⟩)
    · have HJ5 : Hid (J m (pre ++ [xs]) W5) := hJ5
      have HY5 : Hid (Boxed W5 W0.heap.size 43 (.func (.func 38) #[] #[.pointer (some ⟨ob, 0, none⟩), .pointer (some ⟨nob, 0, none⟩), .pointer (some ⟨kB, 0, none⟩), .pointer (some ⟨lB, 0, none⟩)])) := by
        have h := hK5.same W0.heap.size (.inr (by omega))
        exact h.trans HY4.out
      have HF5 : Hid (NeaF Bc Br Bk b o c kb ko kc cs room l W5) := HF4.out.kpt hK5 (.inl k1) (.inl k2) (.inl k3) (.inl k4) (.inl k5)
      have HK5 : Hid (Kpt (fun x => (K x ∨ (W0.heap.size ≤ x ∧ x < wb.heap.size)) ∨ (wb.heap.size ≤ x ∧ x < m)) W2 W5) := hkk W5 hK5
      clear hJ5 hK5
      gi_wp2
      exact ⟨⟨HJ5.out, HY5.out, HF5.out⟩, HK5.out⟩
    · have HJ5 : Hid (Jx m (pre ++ [xs]) W5) := hJ5
      have HK5 : Hid (Kpt (fun x => (K x ∨ (W0.heap.size ≤ x ∧ x < wb.heap.size)) ∨ (wb.heap.size ≤ x ∧ x < m)) W2 W5) := hkk W5 hK5
      clear hJ5 hK5
      gi_wp2
      exact ⟨HJ5.out, HK5.out⟩
  case done =>
    rintro D m W hD hDm ⟨hj, _, _⟩ hK
    have HJ : Hid (J m (nbL cs room cs.length) W) := hj
    have HK : Hid (W.heap[D]? = some (.deferred (some []))) := hK
    clear hj hK
    gi_wp2
    refine ⟨by simp, .inl ⟨_, _, rfl, run_takeDeferred HK.out, ?_⟩⟩
    exact ⟨_, results_none rfl _ _ _, ⟨_, rfl⟩, m, by omega, .inl (hJ m _ _ _ _ (by omega) HJ.out (grownBy_putObj' _ _ _) (fun r e => by cases e; omega))⟩
  case stop =>
    rintro D m pre W hD hDm hj hK
    have HJ : Hid (Jx m pre W) := hj
    have HK : Hid (W.heap[D]? = some (.deferred (some []))) := hK
    clear hj hK
    gi_wp2
    refine ⟨by simp, .inl ⟨_, _, rfl, run_takeDeferred HK.out, ?_⟩⟩
    exact ⟨_, results_none rfl _ _ _, ⟨_, rfl⟩, m, by omega, .inr ⟨pre, hJx m _ _ _ _ (by omega) HJ.out (grownBy_putObj' _ _ _) (fun r e => by cases e; omega)⟩⟩
end Go.Proofs.Ytkpjjiomfgkobaa
