import Derived.Test.YthmkbkombjhaeaaQw28
namespace Go.Proofs.Ythmkbkombjhaeaa
open Go.RowKit Go.Proofs.Ythmkbkombjhaeaa.Ds

def noBel : Value := .agg #[.int .i64 0, .int .i64 0, .slice none 0 0]
/-- how far below the greatest, in memory of one's own -/
def MsdP (w w' : World) (u d : Int) (l : List Int) (er : Int) (e : Ending) : Prop :=
  (er ≠ 0 ∧ e = .returned (.tuple #[noBel, .int .i64 er])) ∨
  (er = 0 ∧ ∃ g, e = .returned (.tuple #[.agg #[.int .i64 u, .int .i64 d, .slice (some ⟨g, 0, none⟩) l.length l.length], .int .i64 0]) ∧ w.heap.size ≤ g ∧ RowI w' g (farI l))

set_option maxHeartbeats 2000000 in
set_option maxRecDepth 100000 in
theorem measured_any (B : Nat) (u d : Int) (v : Value) (l : List Int) (w : World) (h : Num w B v l) (hB : B ≤ w.heap.size) (er : Int) (hr : choE u d l = er) :
    Calls Try.prog 22 #[rv u d, v] w fun e w' => MsdP w w' u d l er e ∧ Below w.heap.size w w' := by
  have HN : Hid (Num w B v l) := h
  have HR : Hid (choE u d l = er) := hr
  obtain ⟨a, c, rfl, hc, hl, _⟩ := h
  obtain ⟨b, hb⟩ : ∃ b, Rt.rightB u d = b := ⟨_, rfl⟩
  have kr := right_any u d b hb
  clear hr
  cases b with
  | false =>
    have he : er = 2 := by rw [← HR.out]; unfold choE; rw [hb]; rfl
    subst he
    clear HR hb
    go_enter Try.func22, Try.ntmps22
    go_wp2_with fail
    refine (kr _).mono ?_
    rintro e w1 ⟨rfl, hb1⟩
    have G1 := bt (bal (ba _ _) _) hb1
    obtain ⟨hc1, hf1⟩ := bcell hb1
    go_wp2
    exact bodyPost_ret (v := .tuple #[noBel, .int .i64 2]) (by simp [noBel, results, Try.results22, go_sem, hc1]) rfl ⟨.inl ⟨by omega, rfl⟩, bs (bs (bs G1 (by simp) _) (by simp) _) (by simp) _⟩
  | true =>
    have hbd := Rt.right_bd hb
    by_cases c1 : u < d
    · have he : er = 3 := by rw [← HR.out]; unfold choE; rw [hb, if_pos rfl, if_pos c1]
      subst he
      clear HR hb hbd
      go_enter Try.func22, Try.ntmps22
      go_wp2_with fail
      refine (kr _).mono ?_
      rintro e w1 ⟨rfl, hb1⟩
      have G1 := bt (bal (ba _ _) _) hb1
      obtain ⟨hc1, hf1⟩ := bcell hb1
      go_wp2
      exact bodyPost_ret (v := .tuple #[noBel, .int .i64 3]) (by simp [noBel, results, Try.results22, go_sem, hc1]) rfl ⟨.inl ⟨by omega, rfl⟩, bs (bs (bs G1 (by simp) _) (by simp) _) (by simp) _⟩
    · by_cases c2 : l.length < 1 ∨ 8 < l.length
      · have he : er = 5 := by rw [← HR.out]; unfold choE; rw [hb, if_pos rfl, if_neg c1, if_pos c2]
        subst he
        clear HR hb hbd
        by_cases c3 : l.length = 0
        · obtain rfl := List.length_eq_zero_iff.1 c3
          go_enter Try.func22, Try.ntmps22
          go_wp2_with fail
          refine (kr _).mono ?_
          rintro e w1 ⟨rfl, hb1⟩
          have G1 := bt (bal (ba _ _) _) hb1
          obtain ⟨hc1, hf1⟩ := bcell hb1
          go_wp2
          exact bodyPost_ret (v := .tuple #[noBel, .int .i64 5]) (by simp [noBel, results, Try.results22, go_sem, hc1]) rfl ⟨.inl ⟨by omega, rfl⟩, bs (bs (bs G1 (by simp) _) (by simp) _) (by simp) _⟩
        · have c4 : 8 < l.length := by omega
          go_enter Try.func22, Try.ntmps22
          go_wp2_with fail
          refine (kr _).mono ?_
          rintro e w1 ⟨rfl, hb1⟩
          have G1 := bt (bal (ba _ _) _) hb1
          obtain ⟨hc1, hf1⟩ := bcell hb1
          go_wp2
          exact bodyPost_ret (v := .tuple #[noBel, .int .i64 5]) (by simp [noBel, results, Try.results22, go_sem, hc1]) rfl ⟨.inl ⟨by omega, rfl⟩, bs (bs (bs G1 (by simp) _) (by simp) _) (by simp) _⟩
      · have l1 : 1 ≤ l.length := by omega
        have l8 : l.length ≤ 8 := by omega
        have l0 : ¬ l.length = 0 := by omega
        have e0 : ((l.length : Int) == 0) = false := beq_eq_false_iff_ne.2 (by omega)
        have e8 : ¬ (8 : Int) < (l.length : Int) := by omega
        obtain ⟨q, hq⟩ : ∃ q, l.any badB = q := ⟨_, rfl⟩
        have HB2 : Hid (Rt.rightB u d = true) := hb
        have HQ : Hid (l.any badB = q) := hq
        have kq := fun W h => containsBad_any B (.slice a l.length c) l W h q hq
        clear hb hq c2 hbd
        cases q with
        | true =>
          have he : er = 3 := by rw [← HR.out]; exact cho_bad HB2.out c1 l1 l8 HQ.out
          subst he
          clear HR HQ HB2
          go_enter Try.func22, Try.ntmps22
          go_wp2_with fail
          refine (kr _).mono ?_
          rintro e w1 ⟨rfl, hb1⟩
          have G1 := bt (bal (ba _ _) _) hb1
          obtain ⟨hc1, hf1⟩ := bcell hb1
          go_wp2_with fail
          refine (kq _ (HN.out.at hB G1)).mono ?_
          rintro e w2 ⟨rfl, rfl⟩
          go_wp2
          exact bodyPost_ret (v := .tuple #[noBel, .int .i64 3]) (by simp [noBel, results, Try.results22, go_sem, hc1]) rfl ⟨.inl ⟨by omega, rfl⟩, bs (bs (bs G1 (by simp) _) (by simp) _) (by simp) _⟩
        | false =>
          have HA : Hid (∀ n ∈ l, -1073741824 ≤ n ∧ n ≤ 1073741824) := cho_all HQ.out
          have hne : l ≠ [] := by intro e; rw [e] at l1; simp at l1
          obtain ⟨best, hbest⟩ : ∃ m, mxI l = m := ⟨_, rfl⟩
          have HBest : Hid (mxI l = best) := hbest
          have hbb := HA.out _ (mxI_mem hne)
          rw [hbest] at hbb
          obtain ⟨bb0, bb1⟩ := hbb
          have HLe : Hid (∀ n ∈ l, n ≤ best) := by rw [← hbest]; exact fun n hn => mxI_le hn
          have kb := fun W h => max_any B (.slice a l.length c) l W h l1 best hbest
          obtain ⟨wst, hwst⟩ : ∃ m, mxI (farI l) = m := ⟨_, rfl⟩
          have HWst : Hid (mxI (farI l) = wst) := hwst
          have he := HR.out
          rw [cho_rest HB2.out c1 l1 l8 HQ.out, hwst] at he
          have HE : Hid ((if 64 < wst then (3 : Int) else 0) = er) := he
          have hmk := fun W => make_ints l.length (by omega) W
          clear HR HQ HB2 hbest hwst he hne
          go_enter Try.func22, Try.ntmps22
          go_wp2_with fail
          refine (kr _).mono ?_
          rintro e w1 ⟨rfl, hb1⟩
          have G1 := bt (bal (ba _ _) _) hb1
          obtain ⟨hc1, hf1⟩ := bcell hb1
          have hz1 : w.heap.size + 1 < w1.heap.size := by have := hb1.size; simp at this; omega
          have k1 : w1.cell? ⟨w.heap.size, 0, none⟩ = some (.int .i64 u) := by rw [hc1 _ _ (by simp <;> omega)]; simp [go_sem]
          have k2 : w1.cell? ⟨w.heap.size, 1, none⟩ = some (.int .i64 d) := by rw [hc1 _ _ (by simp <;> omega)]; simp [go_sem]
          have k3 : ∀ o, o < 3 → (w1.cell? ⟨w.heap.size + 1, o, none⟩).isSome = true ∧ w1.frozen? ⟨w.heap.size + 1, o, none⟩ = false := by
            intro o ho
            have e1 := hc1 (w.heap.size + 1) o (by simp)
            have e2 := hf1 (w.heap.size + 1) o (by simp)
            match o, ho with
            | 0, _ => rw [e1, e2]; simp [go_sem]
            | 1, _ => rw [e1, e2]; simp [go_sem]
            | 2, _ => rw [e1, e2]; simp [go_sem]
          clear hc1 hf1 hb1 kr
          go_wp2_with fail
          refine (kq _ (HN.out.at hB G1)).mono ?_
          rintro e w2 ⟨rfl, rfl⟩
          clear kq
          go_wp2_with fail
          refine (kb _ (HN.out.at hB G1)).mono ?_
          rintro e w2 ⟨rfl, rfl⟩
          clear kb
          go_wp2
          go_loopw [43] (fun i wr => ∃ k : Nat, k ≤ l.length ∧ i = .int .i64 (k : Int) ∧ Hid (RowI wr w2.heap.size (mkd (fun j => best - l.getD j 0) l.length k)) ∧ Below w2.heap.size w2 wr) (fun i _ => l.length - (intOf i).toNat)
          case atStart => exact ⟨0, Nat.zero_le _, rfl, by show RowI _ _ _; rw [mkd_zero]; exact RowI.made _ _, ba _ _⟩
          case round =>
            obtain ⟨k, hk, rfl, HRow, hbl⟩ := hrel
            by_cases h2 : k < l.length
            · have G2 := bt G1 hbl
              obtain ⟨b, o, c', x, he, _, hbB, hx, hcx⟩ := (HN.out.at hB G2).get h2
              simp only [Value.slice.injEq] at he
              obtain ⟨rfl, _, rfl⟩ := he
              obtain ⟨x0, x1⟩ := HA.out x (List.mem_of_getElem? hx)
              have x2 := HLe.out x (List.mem_of_getElem? hx)
              have r1 := HRow.out.cells k 0 (by rw [mkd_get _ h2]; simp)
              have r2 := HRow.out.thaw k (by rw [mkd_len]; exact h2)
              have hlt := HRow.out.lt
              have HRow2 : Hid (RowI (wr.setCell ⟨w2.heap.size, k, none⟩ (.int .i64 (best - x))) w2.heap.size (mkd (fun j => best - l.getD j 0) l.length (k + 1))) := by
                have := HRow.out.set k (best - l.getD k 0)
                rw [mkd_set (fun j => best - l.getD j 0) h2] at this
                rw [show l.getD k 0 = x by simp [List.getD, hx]] at this
                exact this
              clear hx HRow G2
              go_wp2
              go_roundw
              case rel => exact ⟨k + 1, h2, by go_num, HRow2, bs hbl (Nat.le_refl _) _⟩
              case measure => simp [intOf]; omega
            · have : k = l.length := by omega
              subst this
              have hfar : mkd (fun j => best - l.getD j 0) l.length l.length = farI l := by
                rw [mkd_all _ (Nat.le_refl _)]
                unfold farI
                rw [HBest.out]
                refine List.ext_getElem (by simp) fun i h1 h2 => ?_
                simp at h2
                simp [List.getD, h2]
              have HF : Hid (RowI wr w2.heap.size (farI l)) := by show RowI _ _ _; rw [← hfar]; exact HRow.out
              have hfl := farI_len l
              have HFn : Hid (Num wr wr.heap.size (.slice (some ⟨w2.heap.size, 0, none⟩) l.length l.length) (farI l)) := by
                have := HF.out.num (by omega) HF.out.lt
                rw [hfl] at this
                exact this
              have km := max_any wr.heap.size _ (farI l) wr HFn.out (by omega) wst HWst.out
              have G2 := bt G1 hbl
              have hlt := HF.out.lt
              have j1 : wr.cell? ⟨w.heap.size, 0, none⟩ = some (.int .i64 u) := (hbl.cell (p := ⟨w.heap.size, 0, none⟩) (by show w.heap.size < _; omega)).trans k1
              have j2 : wr.cell? ⟨w.heap.size, 1, none⟩ = some (.int .i64 d) := (hbl.cell (p := ⟨w.heap.size, 1, none⟩) (by show w.heap.size < _; omega)).trans k2
              have j3 : ∀ o, o < 3 → (wr.cell? ⟨w.heap.size + 1, o, none⟩).isSome = true ∧ wr.frozen? ⟨w.heap.size + 1, o, none⟩ = false := by
                intro o ho
                rw [hbl.cell (p := ⟨w.heap.size + 1, o, none⟩) hz1, hbl.frozen (p := ⟨w.heap.size + 1, o, none⟩) hz1]
                exact k3 o ho
              obtain ⟨m0, f0⟩ := j3 0 (by omega)
              obtain ⟨m1, f1⟩ := j3 1 (by omega)
              obtain ⟨m2, f2⟩ := j3 2 (by omega)
              obtain ⟨v0, n0⟩ := Option.isSome_iff_exists.1 m0
              obtain ⟨v1, n1⟩ := Option.isSome_iff_exists.1 m1
              obtain ⟨v2, n2⟩ := Option.isSome_iff_exists.1 m2
              clear HRow hfar hfl j3 k3 m0 m1 m2
              go_wp2_with fail
              refine km.mono ?_
              rintro e w3 ⟨rfl, rfl⟩
              clear km
              by_cases c5 : 64 < wst
              · have he : er = 3 := by rw [← HE.out, if_pos c5]
                subst he
                clear HE HFn HF
                go_wp2
                exact bodyPost_ret (v := .tuple #[noBel, .int .i64 3]) (by simp [noBel, results, Try.results22, go_sem, n0, n1, n2]) rfl ⟨.inl ⟨by omega, rfl⟩, bs (bs (bs G2 (by simp) _) (by simp) _) (by simp) _⟩
              · have he : er = 0 := by rw [← HE.out, if_neg c5]
                subst he
                clear HE
                go_wp2
                exact bodyPost_ret (v := .tuple #[.agg #[.int .i64 u, .int .i64 d, .slice (some ⟨w2.heap.size, 0, none⟩) l.length l.length], .int .i64 0]) (by simp [results, Try.results22, go_sem, n0, n1, n2]) rfl ⟨.inr ⟨rfl, _, rfl, by omega, ((HF.out.beside (by simp; omega) _).beside (by simp; omega) _).beside (by simp; omega) _⟩, bs (bs (bs G2 (by simp) _) (by simp) _) (by simp) _⟩
end Go.Proofs.Ythmkbkombjhaeaa
