import Derived.Test.YtfcbkcoagoncoaaQf07
import Derived.Test.YtfcbkcoagoncoaaQf30
import Derived.Test.YtfcbkcoagoncoaaQf27
namespace Go.Proofs.Ytfcbkcoagoncoaa
open Go.RowKit Go.Proofs.Ytfcbkcoagoncoaa.Ds Go.Proofs.Ytfcbkcoagoncoaa.Crd

set_option maxHeartbeats 1000000 in
set_option maxRecDepth 100000 in
/-- slices.Clone of numbers: a row of one's own -/
theorem cloneI_any (B nb : Nat) (v : Value) (xs : List Int) (W : World) (hB : B ≤ W.heap.size) (hx : Ints W B nb v xs) (hne : xs ≠ []) :
    Calls Try.prog 36 #[v] W fun e w' => ∃ g cap, e = .returned (.slice (some ⟨g, 0, none⟩) xs.length cap) ∧ xs.length ≤ cap ∧ W.heap.size ≤ g ∧ RowI w' g xs ∧ Below W.heap.size W w' := by
  obtain ⟨va, vc, rfl, _, hl, hxx⟩ := hx
  obtain ⟨g0, o0, rfl, hg0, _, hcell⟩ := hxx hne
  have q22 : ∀ (w : World) (a : Option Addr) (n c n' c' : Nat), (binOp .eql 24 (.slice a n c) (.slice none n' c')).run Try.prog w = .ok (.bool a.isNone) w := fun w a n c n' c' => Lib.run_eql_slice_nil w _ _ a n c n' c' Try.underlying24
  have A : Hid (∀ j u, (xs.map (Value.int .i64))[j]? = some u → ∀ o, (W.alloc o).cell? ((⟨g0, o0, none⟩ : Addr).add j) = some u) := by
    intro j u hj o
    have hlt : j < xs.length := by have := (List.getElem?_eq_some_iff.1 hj).1; simpa using this
    obtain ⟨x, hx1⟩ := get_lt hlt
    rw [Addr.add_lit, World.cell?_alloc_lt _ _ _ (by show g0 < _; omega), hcell j x hx1]
    simpa [hx1] using hj
  obtain ⟨i0, hi, hz0, hz1, hz2⟩ := info_parts infoI
  have hnb : Hid (xs.length * 8 ≤ 140737488355328 ∧ xs.length ≤ maxLen) := ⟨by omega, by simp [maxLen]; omega⟩
  have HNE : Hid (xs ≠ []) := hne
  clear hcell hne
  go_enter Try.func36, Try.ntmps36
  go_wp2_with (at_builtin; refine wpList_append_own _ rfl _ _ 24 rfl W.heap.size 3 i0 (.int .i64 0) 1 8 Try.underlying24 hi hz0 hz1 hz2 rfl (by decide) _ _ _ rfl (World.ownsRow_made W #[] 0 (Nat.le_refl _) (Nat.zero_le _) (by simp)) ⟨g0, o0, none⟩ xs.length vc (xs.map (Value.int .i64)) rfl ?qc1 ?qc2 ?qc3 ?qc4 ?qc5 ?qc6 ?_)
  case qc1 => simp
  case qc2 => intro j u hj; exact A.out j u hj _
  case qc3 => intro u hu; obtain ⟨x, _, rfl⟩ := List.mem_map.1 hu; rfl
  case qc4 => rw [Nat.zero_add]; exact hnb.out.2
  case qc5 => rw [Nat.zero_add]; exact hnb.out.1
  case qc6 => simp
  intro v' w1 hown hgrow hnil
  have hv' : v' ≠ .slice none 0 0 := by
    intro e
    rw [e] at hown
    have := owns_slice hown
    obtain ⟨a, c, h⟩ := this
    simp only [Value.slice.injEq] at h
    have : xs.length ≠ 0 := fun h => HNE.out (List.length_eq_zero_iff.1 h)
    omega
  obtain ⟨g, cap, rfl, h1, h2, h3⟩ := rowi_of_owns (xs := xs) (n := 0 + xs.length) (by omega) (by simpa using hown) hv'
  have H3 : Hid (RowI w1 g xs) := h3
  clear h3 hown hv'
  go_wp2
  go_ret
  refine ⟨g, cap, rfl, h1, h2, H3.out, ?_⟩
  exact ((Below.refl _ W).alloc (Nat.le_refl _) _).grown hgrow (by simp) (by intro k hk; simp [Value.ownBlock] at hk; omega)

theorem jn1_len (s : List Pt) (p : Pt) : (jn1 s p).length = s.length := by simp [jn1]
theorem jn1_take {s : List Pt} {p q : Pt} {j : Nat} (h : s[j]? = some q) : (jn1 s p).take (j + 1) = (jn1 s p).take j ++ [(inc (q.1.headD 0).toNat p.1, p.2 * q.2)] := by
  rw [List.take_add_one]
  congr 1
  simp [jn1, h]
theorem jn_take {l s : List Pt} {p : Pt} {i : Nat} (h : l[i]? = some p) : jn (l.take (i + 1)) s = jn (l.take i) s ++ jn1 s p := by
  rw [List.take_add_one, h]
  simp [jn]
theorem rd_getT {ts : List Tr} {i : Nat} {t : Tr} (h : ts[i]? = some t) : (rd ts)[i]? = some t.2 := by simp [rd, h]
/-- a part in a box -/
def Bx (w : World) (b : Nat) (s : Value) (k : Int) : Prop := w.cell? ⟨b, 0, none⟩ = some s ∧ w.cell? ⟨b, 1, none⟩ = some (.int .i64 k)
theorem RowI.intsC {w : World} {g cap B m : Nat} {xs : List Int} (h : RowI w g xs) (hc : xs.length ≤ cap) (hl : xs.length ≤ 1073741824) (hB : g < B) (hm : g ≠ m) : Ints w B m (.slice (some ⟨g, 0, none⟩) xs.length cap) xs :=
  ⟨_, cap, rfl, hc, hl, fun _ => ⟨g, 0, rfl, hB, hm, fun i x hi => by rw [Nat.zero_add]; exact h.cells i x hi⟩⟩
/-- what one says is one of so many kinds -/
structure Said (k : Nat) (hs ss : List Tr) : Prop where
  len : ∀ t ∈ hs, t.2.1.length = k + 1
  few : ∀ t ∈ hs, ∀ x ∈ t.2.1, 0 ≤ x ∧ x ≤ 4096
  wt1 : ∀ t ∈ hs, 0 ≤ t.2.2 ∧ t.2.2 ≤ 1073741824
  one : ∀ t ∈ ss, ∃ j : Nat, j ≤ k ∧ t.2.1 = [(j : Int)]
  wt2 : ∀ t ∈ ss, 0 ≤ t.2.2 ∧ t.2.2 ≤ 1073741824
  n1 : hs.length ≤ 4096
  n2 : ss.length ≤ 8

set_option maxHeartbeats 8000000 in
set_option maxRecDepth 100000 in
/-- crowd.joined -/
theorem joined_any (B k : Nat) (hv sv : Value) (hs ss : List Tr) (w : World) (hB : B ≤ w.heap.size) (hp : Parts w B hv hs) (hq : Parts w B sv ss) (hsd : Said k hs ss) (l : List Pt) (er : Int) (hr : makeT (jn (rd hs) (rd ss)) = (l, er)) :
    Calls Try.prog 19 #[hv, sv] w (DistP w l er) := by
  have HP : Hid (Parts w B hv hs) := hp
  have HQ : Hid (Parts w B sv ss) := hq
  have HS : Hid (Said k hs ss) := hsd
  have HR : Hid (makeT (jn (rd hs) (rd ss)) = (l, er)) := hr
  obtain ⟨ha, hc, rfl, hhc, hhl, hhi, hhx⟩ := hp
  obtain ⟨sa, sc, rfl, hsc, hsl, hsi, hsx⟩ := hq
  have n1 := hsd.n1
  have n2 := hsd.n2
  have HHI : Hid (∀ t ∈ hs, Ints w B B t.1 t.2.1) := hhi
  have HHX : Hid (hs ≠ [] → ∃ b o, ha = some ⟨b, o, none⟩ ∧ b < B ∧ Cells w b o hs) := hhx
  have HSI : Hid (∀ t ∈ ss, Ints w B B t.1 t.2.1) := hsi
  have HSX : Hid (ss ≠ [] → ∃ b o, sa = some ⟨b, o, none⟩ ∧ b < B ∧ Cells w b o ss) := hsx
  obtain ⟨i0, hi0, hz0, hz1, hz2⟩ := info_parts info32
  clear hhi hhx hsi hsx hsd hr
  go_enter Try.func19, Try.ntmps19
  go_wp2_with fail
  go_loopw [6, 14] (fun pv s wr => ∃ (i : Nat) (ds : List Tr), s = .int .i64 (i : Int) ∧ i ≤ hs.length ∧ Hid (rd ds = jn ((rd hs).take i) (rd ss) ∧ ds.length = i * ss.length) ∧ Hid (Rws wr w.heap.size pv ds) ∧ Below w.heap.size w wr) (fun _ s _ => hs.length - (intOf s).toNat)
  case atStart => exact ⟨0, [], rfl, Nat.zero_le _, ⟨by simp [rd, jn], by simp⟩, Rws.nil _ _, Below.refl _ _⟩
  case round =>
    obtain ⟨wA, rfl⟩ : ∃ wA : World, wA = wr := ⟨_, rfl⟩
    obtain ⟨i, ds, rfl, hit, HD, HW, hbl⟩ := hrel
    have hbs := hbl.size
    obtain ⟨pa, pc, rfl⟩ := HW.out.slice
    by_cases h1 : i < hs.length
    · obtain ⟨⟨tv, txs, tk⟩, ht⟩ := get_lt h1
      have htm := List.mem_of_getElem? ht
      obtain ⟨b, o, rfl, hb, hcl⟩ := HHX.out (ne_of_lt h1)
      have hbw : b < w.heap.size := by omega
      have HT : Hid ((rd hs)[i]? = some (txs, tk)) := rd_getT ht
      have hti : Ints w B B tv txs := HHI.out _ htm
      have HTI : Hid (Ints w B B tv txs) := hti
      obtain ⟨ta, tc, rfl, htc, htl, _⟩ := hti
      have q1 : wA.cell? ⟨b, o + i * 2, none⟩ = some (.slice ta txs.length tc) := (hbl.cell (p := ⟨b, o + i * 2, none⟩) hbw).trans (hcl i _ ht).1
      have q2 : wA.cell? ⟨b, o + i * 2 + 1, none⟩ = some (.int .i64 tk) := (hbl.cell (p := ⟨b, o + i * 2 + 1, none⟩) hbw).trans (hcl i _ ht).2
      have HTL : Hid (txs.length = k + 1 ∧ (∀ x ∈ txs, 0 ≤ x ∧ x ≤ 4096) ∧ 0 ≤ tk ∧ tk ≤ 1073741824) := ⟨HS.out.len _ htm, HS.out.few _ htm, HS.out.wt1 _ htm⟩
      have HWlt := HW.out.lt
      have HNB : Hid (∀ g, (Value.slice pa ds.length pc).ownBlock = some g → g ≠ wA.heap.size) := fun g e => by have := (HWlt g e).2; omega
      have HW8 : Hid (Rws (wA.alloc (.cells #[(.slice ta txs.length tc), .int .i64 tk] 37)) w.heap.size (.slice pa ds.length pc) ds) := HW.out.keep (ba _ _)
      have hb8 : Below w.heap.size w (wA.alloc (.cells #[(.slice ta txs.length tc), .int .i64 tk] 37)) := bal hbl _
      have HB8 : Hid (Bx (wA.alloc (.cells #[(.slice ta txs.length tc), .int .i64 tk] 37)) wA.heap.size (.slice ta txs.length tc) tk) := by constructor <;> simp [go_sem]
      have tk0 := HTL.out.2.2.1
      have tk1 := HTL.out.2.2.2
      clear ht htm hcl HWlt HW
      go_wp2_with fail
      go_loopw [6, 20] (fun pv s wq => ∃ (j : Nat) (es : List Tr), s = .int .i64 (j : Int) ∧ j ≤ ss.length ∧ Hid (rd es = jn ((rd hs).take i) (rd ss) ++ (jn1 (rd ss) (txs, tk)).take j ∧ es.length = i * ss.length + j) ∧ Hid (Rws wq w.heap.size pv es) ∧ Below w.heap.size w wq ∧ Hid (Bx wq wA.heap.size (.slice ta txs.length tc) tk) ∧ wA.heap.size < wq.heap.size ∧ Hid (∀ g, pv.ownBlock = some g → g ≠ wA.heap.size)) (fun _ s _ => ss.length - (intOf s).toNat)
      case atStart =>
        exact ⟨0, ds, rfl, Nat.zero_le _, ⟨by rw [HD.out.1]; simp, by rw [HD.out.2]; omega⟩, HW8, hb8, HB8, by simp, HNB⟩
      case round =>
        obtain ⟨j, es, rfl, hjt, HE, HWq, hbq, HB, hbq8, HNQ⟩ := hrel
        have hbqs := hbq.size
        obtain ⟨ea, ec, rfl⟩ := HWq.out.slice
        by_cases h2 : j < ss.length
        · obtain ⟨⟨sv, sxs, sk⟩, hs2⟩ := get_lt h2
          have hsm := List.mem_of_getElem? hs2
          obtain ⟨b', o', rfl, hb', hcl'⟩ := HSX.out (ne_of_lt h2)
          obtain ⟨jj, hjj, hjx⟩ := HS.out.one _ hsm
          simp only at hjx
          subst hjx
          have hsi := HSI.out _ hsm
          obtain ⟨sva, svc, hsv, hsvc, _, hsvx⟩ := hsi
          simp only at hsv
          subst hsv
          obtain ⟨b2, o2, rfl, hb2, _, hc2⟩ := hsvx (by simp)
          have hb'w : b' < w.heap.size := by omega
          have hb2w : b2 < w.heap.size := by omega
          have p1 : wr.cell? ⟨b', o' + j * 2, none⟩ = some (.slice (some ⟨b2, o2, none⟩) 1 svc) := (hbq.cell (p := ⟨b', o' + j * 2, none⟩) hb'w).trans (hcl' j _ hs2).1
          have p2 : wr.cell? ⟨b', o' + j * 2 + 1, none⟩ = some (.int .i64 sk) := (hbq.cell (p := ⟨b', o' + j * 2 + 1, none⟩) hb'w).trans (hcl' j _ hs2).2
          have p3 : wr.cell? ⟨b2, o2, none⟩ = some (.int .i64 (jj : Int)) := by
            have := hc2 0 (jj : Int) rfl
            rw [Nat.add_zero] at this
            exact (hbq.cell (p := ⟨b2, o2, none⟩) hb2w).trans this
          have sk0 := (HS.out.wt2 _ hsm).1
          have sk1 := (HS.out.wt2 _ hsm).2
          simp only at sk0 sk1
          have m0 : 0 ≤ tk * sk := Int.mul_nonneg tk0 sk0
          have m1 : tk * sk ≤ 1073741824 * 1073741824 := Int.mul_le_mul tk1 sk1 sk0 (by omega)
          have hjl : jj < txs.length := by rw [HTL.out.1]; omega
          obtain ⟨x, hxj⟩ := get_lt hjl
          have hxb := HTL.out.2.1 x (List.mem_of_getElem? hxj)
          have HX : Hid (inc jj txs = txs.set jj (x + 1)) := by
            rw [Hid, inc, List.getD, hxj]; rfl
          have HSJ : Hid ((rd ss)[j]? = some ([(jj : Int)], sk)) := rd_getT hs2
          have hbx : Below w.heap.size w (wr.alloc (.cells #[.slice (some ⟨b2, o2, none⟩) 1 svc, .int .i64 sk] 37)) := bal hbq _
          have kc := cloneI_any B B (.slice ta txs.length tc) txs (wr.alloc (.cells #[.slice (some ⟨b2, o2, none⟩) 1 svc, .int .i64 sk] 37)) (by simp; omega) (HTI.out.keep (hbx.mono hB)) (ne_of_lt hjl)
          have b81 := HB.out.1
          have b82 := HB.out.2
          clear hs2 hsm hcl' hsvx hc2
          go_wp2_with fail
          refine kc.mono ?_
          rintro e w2 ⟨g, cap, rfl, hcap, hg, hri, hbc⟩
          have hbc1 : Below wr.heap.size wr w2 := bt (ba _ _) hbc
          have hw2 := hbc.size
          simp only [World.size_alloc] at hw2 hg
          have y1 := hri.cells jj x hxj
          have y2 := hri.thaw jj hjl
          have y3 : w2.cell? ⟨b2, o2, none⟩ = some (.int .i64 (jj : Int)) := (hbc1.cell (p := ⟨b2, o2, none⟩) (by show b2 < _; omega)).trans p3
          have y4 : w2.cell? ⟨wr.heap.size, 0, none⟩ = some (.slice (some ⟨b2, o2, none⟩) 1 svc) := by rw [hbc.cell (p := ⟨wr.heap.size, 0, none⟩) (by simp)]; simp [go_sem]
          have y5 : w2.cell? ⟨wr.heap.size, 1, none⟩ = some (.int .i64 sk) := by rw [hbc.cell (p := ⟨wr.heap.size, 1, none⟩) (by simp)]; simp [go_sem]
          have y6 : w2.cell? ⟨wA.heap.size, 0, none⟩ = some (.slice ta txs.length tc) := (hbc1.cell (p := ⟨wA.heap.size, 0, none⟩) hbq8).trans b81
          have y7 : w2.cell? ⟨wA.heap.size, 1, none⟩ = some (.int .i64 tk) := (hbc1.cell (p := ⟨wA.heap.size, 1, none⟩) hbq8).trans b82
          have HRI : Hid (RowI w2 g txs) := hri
          clear kc hri hbc p1 p2 p3 b81 b82
          have z5 : (w2.setCell ⟨g, jj, none⟩ (.int .i64 (x + 1))).cell? ⟨wr.heap.size, 1, none⟩ = some (.int .i64 sk) := (sc_other (by simp)).trans y5
          have z6 : (w2.setCell ⟨g, jj, none⟩ (.int .i64 (x + 1))).cell? ⟨wA.heap.size, 0, none⟩ = some (.slice ta txs.length tc) := (sc_other (by simp)).trans y6
          have z7 : (w2.setCell ⟨g, jj, none⟩ (.int .i64 (x + 1))).cell? ⟨wA.heap.size, 1, none⟩ = some (.int .i64 tk) := (sc_other (by simp)).trans y7
          have hbs2 : Below wr.heap.size wr (w2.setCell ⟨g, jj, none⟩ (.int .i64 (x + 1))) := bs hbc1 (by show wr.heap.size ≤ g; omega) _
          obtain ⟨mo, hmo, hmg⟩ := own_or3 (n := wr.heap.size) (fun g e => (HWq.out.lt g e).2) (by omega)
          have HMG : Hid (∀ g, (Value.slice ea es.length ec).ownBlock = some g → mo = g) := hmg
          have hsz3 : (w2.setCell ⟨g, jj, none⟩ (.int .i64 (x + 1))).heap.size = w2.heap.size := by simp
          have HO : Hid (Rws ((w2.setCell ⟨g, jj, none⟩ (.int .i64 (x + 1))).alloc (.cells #[.slice (some ⟨g, 0, none⟩) txs.length cap, .int .i64 (tk * sk)] 37)) w.heap.size (.slice ea es.length ec) es) := HWq.out.keep (bal hbs2 _)
          have HI : Hid (Ints (w2.setCell ⟨g, jj, none⟩ (.int .i64 (x + 1))) (w2.setCell ⟨g, jj, none⟩ (.int .i64 (x + 1))).heap.size mo (.slice (some ⟨g, 0, none⟩) txs.length cap) (inc jj txs)) := by
            have h3 := (HRI.out.set jj (x + 1)).intsC (cap := cap) (B := w2.heap.size) (m := mo) (by simpa using hcap) (by simpa using htl) HRI.out.lt (by omega)
            rw [← HX.out, inc_len] at h3
            rw [Hid, hsz3]
            exact h3
          have HEL : Hid (es.length ≤ 40000) := by
            have h4 := HE.out.2
            have h5 : i * ss.length ≤ 4096 * 8 := Nat.mul_le_mul (by omega) n2
            show es.length ≤ 40000
            omega
          clear hmg HWq
          go_wp2_with (at_builtin; refine wpList_append_own_at _ rfl _ _ 25 rfl w.heap.size 37 i0 (.agg #[.slice none 0 0, .int .i64 0]) 2 32 Try.underlying25 hi0 hz0 hz1 hz2 rfl (by decide) _ _ _ rfl HO.out.1 ⟨w2.heap.size, 0, none⟩ 1 1 [.slice (some ⟨g, 0, none⟩) txs.length cap, .int .i64 (tk * sk)] rfl ?q1 ?q2 ?q3 ?q4 ?q5 ?q6 ?_)
          case q1 => rfl
          case q2 =>
            intro j u hj
            match j, hj with
            | 0, hj => simp at hj; subst hj; simp [go_sem, Addr.add]
            | 1, hj => simp at hj; subst hj; simp [go_sem, Addr.add]
          case q3 => intro u hu; simp at hu; rcases hu with rfl | rfl <;> rfl
          case q4 => have := HEL.out; simp [maxLen]; omega
          case q5 => have := HEL.out; omega
          case q6 => simp; omega
          intro v3 w3 hown3 hgrow hnil hat
          have HW3 : Hid (Rws w3 w.heap.size v3 (es ++ [(.slice (some ⟨g, 0, none⟩) txs.length cap, inc jj txs, tk * sk)])) := HO.out.app hown3 hgrow (by simpa using hat) (HI.out.at2 (ba _ _)) HMG.out
          have hb3 : Below w.heap.size w w3 := (bal (bt hbq hbs2) _).grown hgrow (by simp; omega) (owns_block HO.out.1)
          have HB3 : Hid (Bx w3 wA.heap.size (.slice ta txs.length tc) tk) := by
            constructor
            · refine hgrow.cell ((World.cell?_alloc_lt _ _ _ (by simp; omega)).trans z6) fun e => HNQ.out _ e.symm rfl
            · refine hgrow.cell ((World.cell?_alloc_lt _ _ _ (by simp; omega)).trans z7) fun e => HNQ.out _ e.symm rfl
          have hs3 := hgrow.size
          have HN3 : Hid (∀ g, v3.ownBlock = some g → g ≠ wA.heap.size) := by
            intro g' e'
            rcases hat with hat | hat
            · rw [hat] at e'; exact HNQ.out g' e'
            · rw [hat] at e'
              simp at e'
              omega
          have h83 : wA.heap.size < w3.heap.size := by simp at hs3; omega
          obtain ⟨a3, c3, rfl⟩ := HW3.out.slice
          have HE3 : Hid (rd (es ++ [((.slice (some ⟨g, 0, none⟩) txs.length cap, inc jj txs, tk * sk) : Tr)]) = jn ((rd hs).take i) (rd ss) ++ (jn1 (rd ss) (txs, tk)).take (j + 1) ∧ (es ++ [((.slice (some ⟨g, 0, none⟩) txs.length cap, inc jj txs, tk * sk) : Tr)]).length = i * ss.length + (j + 1)) := by
            refine ⟨?_, by simp [HE.out.2]; omega⟩
            rw [jn1_take HSJ.out, ← List.append_assoc, ← HE.out.1]
            simp [rd]
          clear hown3 hgrow hnil hat HO y1 y2 y3 y4 y5 y6 y7 z5 z6 z7
          go_wp2
          go_roundw
          case rel => exact ⟨j + 1, _, by go_num, by omega, HE3, HW3, hb3, HB3, h83, HN3⟩
          case measure => simp [intOf]; omega
        · have hj : j = ss.length := by omega
          have HE3 : Hid (rd es = jn ((rd hs).take (i + 1)) (rd ss) ∧ es.length = (i + 1) * ss.length) := by
            refine ⟨?_, by rw [HE.out.2, hj, Nat.add_mul]; omega⟩
            rw [jn_take HT.out, HE.out.1]
            congr 1
            exact List.take_of_length_le (by rw [jn1_len, hj]; simp [rd])
          clear HB HNQ
          go_wp2
          go_roundw
          case rel => exact ⟨i + 1, es, by go_num, by omega, HE3, HWq, hbq⟩
          case measure => simp [intOf]; omega
    · have hi : i = hs.length := by omega
      have HF : Hid (rd ds = jn (rd hs) (rd ss)) := by
        rw [Hid, HD.out.1, List.take_of_length_le (by rw [hi]; simp [rd])]
      have HL : ds.length ≤ 1073741824 := by
        rw [HD.out.2]
        have h5 : i * ss.length ≤ 4096 * 8 := Nat.mul_le_mul (by omega) n2
        omega
      have kc2 := make_fr wA.heap.size (.slice pa ds.length pc) ds wA (Nat.le_refl _) (HW.out.parts HL) l er (by rw [HF.out]; exact HR.out)
      clear HW HD HF HR
      go_wp2_with fail
      refine kc2.mono ?_
      rintro e w5 ⟨v5, xs, rfl, k1, k2, k3, k4⟩
      obtain ⟨b5, d5, rfl⟩ := k2.slice
      have HZ : Hid (DistP w l er (.returned (.tuple #[.slice b5 xs.length d5, .int .i64 er])) w5) := ⟨_, xs, rfl, k1, k2.mono hbs, bt hbl k3, k4.mono hbs⟩
      clear kc2 k1 k2 k3 k4
      go_wp2
      exact bodyPost_ret (v := .tuple #[.slice b5 xs.length d5, .int .i64 er]) (by simp [results, Try.results19, go_sem]) rfl HZ.out
end Go.Proofs.Ytfcbkcoagoncoaa
