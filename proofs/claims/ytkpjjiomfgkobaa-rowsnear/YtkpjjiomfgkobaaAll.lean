import Derived.Test.YtkpjjiomfgkobaaGro
namespace Go.Proofs.Ytkpjjiomfgkobaa
open Go.RowKit Go.Proofs.Ytkpjjiomfgkobaa.Ds

theorem allF_snoc (out : List (List Int)) (l : List Col) (c : Col) : allF out (l ++ [c]) = allS (allF out l) c.2.toNat := by
  induction l generalizing out with
  | nil => rfl
  | cons d l ih => simp only [List.cons_append, allF]; exact ih _
theorem allF_next {l : List Col} {i : Nat} {c : Col} (h : l[i]? = some c) (out : List (List Int)) : allF out (l.take (i + 1)) = allS (allF out (l.take i)) c.2.toNat := by
  rw [List.take_add_one, h]; exact allF_snoc _ _ _
theorem allS_next {rs : List (List Int)} {j : Nat} {r : List Int} (h : rs[j]? = some r) (n : Nat) : allS (rs.take (j + 1)) n = allS (rs.take j) n ++ (List.range n).map fun v => r ++ [((v : Nat) : Int)] := by
  rw [List.take_add_one, h]; simp [allS]
theorem allS_len (rs : List (List Int)) (n : Nat) : (allS rs n).length = rs.length * n := fm_len fun _ _ => by simp
theorem allF_mem {l : List Col} {out : List (List Int)} {q : Nat} (h : ∀ p ∈ out, p.length = q) : ∀ r ∈ allF out l, r.length = q + l.length := by
  induction l generalizing out q with
  | nil => intro r hr; exact h r hr
  | cons c l ih =>
    intro r hr
    have h2 : ∀ p ∈ allS out c.2.toNat, p.length = q + 1 := by
      intro p hp
      obtain ⟨x, hx, hp⟩ := List.mem_flatMap.1 hp
      obtain ⟨v, _, rfl⟩ := List.mem_map.1 hp
      simp [h x hx]
    rw [ih h2 r hr, List.length_cons]; omega
theorem Rws.elem {w : World} {B : Nat} {v : Value} {ts : List Rw} (h : Rws w B v ts) {t : Rw} (ht : t ∈ ts) : Ints w B B t.1 t.2 := by
  obtain ⟨_, _, _, _, _, hi, _⟩ := h
  exact hi t ht
/-- as far as one has come with one row -/
def alsK (r : List Int) (k : Nat) : List (List Int) := (List.range k).map fun v => r ++ [((v : Nat) : Int)]
theorem alsK_succ (r : List Int) (k : Nat) : alsK r (k + 1) = alsK r k ++ [r ++ [(k : Int)]] := by simp [alsK, List.range_succ]
theorem rr_snoc (ts : List Rw) (t : Rw) : rr (ts ++ [t]) = rr ts ++ [t.2] := by simp [rr]

theorem own_or {v : Value} {n : Nat} (h : ∀ g, v.ownBlock = some g → g < n) (hn : 0 < n) : ∃ m, m < n ∧ ∀ g, v.ownBlock = some g → m = g := by
  cases e : v.ownBlock with
  | none => exact ⟨0, hn, fun g e => by cases e⟩
  | some g => exact ⟨g, h g e, fun g' e => by simpa using e⟩

/-- what All answers -/
def AllP (rs : List (List Int)) (w : World) (e : Ending) (w' : World) : Prop :=
  ∃ v ts, e = .returned v ∧ rr ts = rs ∧ Rws w' w'.heap.size v ts ∧ Below w.heap.size w w' ∧ Som w.heap.size ts ∧ ∀ g, v.ownBlock = some g → w.heap.size ≤ g

set_option maxHeartbeats 4000000 in
set_option maxRecDepth 100000 in
theorem all_any (B : Nat) (v : Value) (l : List Col) (w : World) (hB : B ≤ w.heap.size) (hp : Cols w B v l) (h6 : l.length ≤ 6) (hs : Szs l) (hle : prd l ≤ 4096) (rs : List (List Int)) (hr : allT l = rs) :
    Calls Try.prog 29 #[v] w (AllP rs w) := by
  have HP : Hid (Cols w B v l) := hp
  have HS : Hid (Szs l ∧ prd l ≤ 4096) := ⟨hs, hle⟩
  have HR : Hid (allF [[]] l = rs) := (allF_nil hs).trans hr
  obtain ⟨a, c, rfl, hc, hl⟩ := hp.slice
  obtain ⟨i26, hi26, hz0, hz1, hz2⟩ := info_parts info26
  obtain ⟨i3, hi3, hy0, hy1, hy2⟩ := info_parts info3
  clear hr hs hle
  go_enter Try.func29, Try.ntmps29
  go_wp2
  go_loopw [3, 14] (fun ov s wr => ∃ (i : Nat) (ts : List Rw), s = .int .i64 (i : Int) ∧ i ≤ l.length ∧ Hid (rr ts = allF [[]] (l.take i)) ∧ Hid (Rwr wr w.heap.size ov ts) ∧ Hid (Som w.heap.size ts) ∧ Below w.heap.size w wr) (fun _ s _ => l.length - (intOf s).toNat)
  case atStart =>
    refine ⟨0, [(.slice (some ⟨w.heap.size, 0, none⟩) 0 0, [])], rfl, Nat.zero_le _, rfl, ?_, (Som.nil _).snoc (Nat.le_refl _), bal (ba _ _) _⟩
    refine ⟨?_, fun t ht => ?_⟩
    · have := World.ownsRow_lit (base := w.heap.size) (e := 26) (size := 1) (w.alloc (.cells #[] 3)) #[.slice (some ⟨w.heap.size, 0, none⟩) 0 0] 1 (by simp) (by simp [maxLen]) rfl
      simpa using this
    obtain rfl := List.mem_singleton.1 ht
    exact ⟨w.heap.size + 1, ⟨_, 0, rfl, Nat.le_refl _, by simp, fun h => absurd rfl h⟩, fun g e => by simp [Value.ownBlock] at e; omega⟩
  case round =>
    obtain ⟨i, ts, rfl, hi, HF, HW, HM, hbl⟩ := hrel
    obtain ⟨oa, oc, rfl⟩ := HW.out.slice
    by_cases h1 : i < l.length
    · obtain ⟨b, o, nm, sz, rfl, hb, hg, c1, c2, hn⟩ := HP.out.get hB hbl h1
      have hsz := HS.out.1 _ (List.mem_of_getElem? hg)
      simp only at hsz
      obtain ⟨n, rfl⟩ := Int.eq_ofNat_of_zero_le (show 0 ≤ sz by omega)
      have HNX : Hid (allF [[]] (l.take (i + 1)) = allS (rr ts) n) := by show _ = _; rw [allF_next hg, HF.out]; simp
      have HTN : Hid (ts.length * n ≤ 4096) := by
        show _ ≤ _
        rw [← rr_len ts, ← allS_len, ← HNX.out, allF_len]
        have := prd_pre HS.out.1 (i + 1)
        have := HS.out.2
        simp; omega
      have htl : ts.length ≤ 4096 := by
        have h2 : ts.length * 1 ≤ ts.length * n := Nat.mul_le_mul_left _ (by omega)
        have := HTN.out
        omega
      have hn4 : n ≤ 4096 := by omega
      obtain ⟨wq, hwq⟩ : ∃ wq : World, wq = wr := ⟨_, rfl⟩
      subst hwq
      obtain ⟨wo, hwo⟩ : ∃ wo : World, wq.alloc (.cells #[.string nm, .int .i64 (n : Int)] 47) = wo := ⟨_, rfl⟩
      have hblo : Below w.heap.size w wo := by rw [← hwo]; exact bal hbl _
      have d1 : wo.cell? ⟨wq.heap.size, 1, none⟩ = some (.int .i64 (n : Int)) := by rw [← hwo]; exact World.cell?_alloc_at _ _ _ _ rfl
      have hz0' : wq.heap.size < wo.heap.size := by rw [← hwo]; simp
      have HO : Hid (Rws wo wo.heap.size (.slice oa ts.length oc) ts) := (HW.out.keep (by rw [← hwo]; exact ba _ _)).rws (by omega)
      have hzw := hbl.size
      have HL6 : Hid (∀ r ∈ rr ts, r.length ≤ 6) := by
        intro r hr
        rw [HF.out] at hr
        rw [allF_mem (q := 0) (by simp) r hr, List.length_take]; omega
      clear hg hbl HW HF
      go_wp2
      clear hwo c1 c2
      go_loopw [6, 20] (fun nv s wr => ∃ (j : Nat) (ns : List Rw), s = .int .i64 (j : Int) ∧ j ≤ ts.length ∧ Hid (rr ns = allS ((rr ts).take j) n) ∧ Hid (Rwr wr wo.heap.size nv ns) ∧ Hid (Som w.heap.size ns) ∧ Below wo.heap.size wo wr) (fun _ s _ => ts.length - (intOf s).toNat)
      case atStart => exact ⟨0, [], rfl, Nat.zero_le _, rfl, Rwr.nil _ _, Som.nil _, Below.refl _ _⟩
      case round =>
        obtain ⟨j, ns, rfl, hj, HF, HW, HM2, hbi⟩ := hrel
        obtain ⟨na, ncp, rfl⟩ := HW.out.slice
        by_cases hj1 : j < ts.length
        · obtain ⟨br, orr, sa, sc, r, rfl, hbr, hgr, e1, hI⟩ := HO.out.get (Nat.le_refl _) hbi hj1
          have HRG : Hid ((rr ts)[j]? = some r) := rr_get hgr
          obtain ⟨b5, o5, n5, c5, hse, _⟩ := HM.out _ (List.mem_of_getElem? hgr)
          simp only [Value.slice.injEq] at hse
          obtain ⟨rfl, rfl, rfl⟩ := hse
          have HIr : Hid (Ints wo wo.heap.size wo.heap.size (.slice (some ⟨b5, o5, none⟩) r.length sc) r) := HO.out.elem (List.mem_of_getElem? hgr)
          have hrl : r.length ≤ 6 := HL6.out r (List.mem_of_getElem? HRG.out)
          clear hgr hI
          obtain ⟨wp, hwp⟩ : ∃ wp : World, wp = wr := ⟨_, rfl⟩
          subst hwp
          go_wp2
          go_loopw [6, 9] (fun nv s wr => ∃ (k : Nat) (ms : List Rw), s = .int .i64 (k : Int) ∧ k ≤ n ∧ Hid (rr ms = allS ((rr ts).take j) n ++ alsK r k) ∧ Hid (Rwr wr wo.heap.size nv ms) ∧ Hid (Som w.heap.size ms) ∧ Below wo.heap.size wo wr) (fun _ s _ => n - (intOf s).toNat)
          case atStart => exact ⟨0, ns, rfl, Nat.zero_le _, by show _ = _; rw [HF.out]; simp [alsK], HW, HM2, hbi⟩
          case round =>
            obtain ⟨k, ms, rfl, hk, HF3, HW3, HM3, hbk⟩ := hrel
            obtain ⟨ma, mc, rfl⟩ := HW3.out.slice
            have d2 : wr.cell? ⟨wq.heap.size, 1, none⟩ = some (.int .i64 (n : Int)) := (hbk.cell (p := ⟨wq.heap.size, 1, none⟩) hz0').trans d1
            have hzk := hbk.size
            by_cases hk1 : k < n
            · have hml : Hid (ms.length = j * n + k) := by
                show _ = _
                rw [← rr_len, HF3.out, List.length_append, allS_len, List.length_take, rr_len, Nat.min_eq_left hj]; simp [alsK]
              have hm4 : ms.length < 4096 := by
                have h2 : (j + 1) * n ≤ ts.length * n := Nat.mul_le_mul_right _ hj1
                have := HTN.out; have := hml.out
                rw [Nat.add_mul] at h2
                omega
              have HIk : Hid (Ints wr wo.heap.size wo.heap.size (.slice (some ⟨b5, o5, none⟩) r.length sc) r) := HIr.out.keep hbk
              have A : Hid (∀ j u, (r.map (Value.int .i64))[j]? = some u → ∀ o, (wr.alloc o).cell? ((⟨b5, o5, none⟩ : Addr).add j) = some u) := by
                intro j u hj o
                have hlt : j < r.length := by have := (List.getElem?_eq_some_iff.1 hj).1; simpa using this
                obtain ⟨b6, o6, x, he, hb6, _, hx, hcell⟩ := HIk.out.get (by omega) (Below.refl _ _) hlt
                simp only [Option.some.injEq, Addr.mk.injEq] at he
                obtain ⟨rfl, rfl, _⟩ := he
                rw [Addr.add_lit, World.cell?_alloc_lt _ _ _ (by simp; omega), hcell]
                simpa [hx] using hj
              go_wp2_with (at_builtin; refine wpList_append_own_at _ rfl _ _ 26 rfl wr.heap.size 3 i3 (.int .i64 0) 1 8 Try.underlying26 hi3 hy0 hy1 hy2 rfl (by decide) _ _ _ rfl (World.ownsRow_made wr #[] 0 (Nat.le_refl _) (Nat.zero_le _) (by simp)) ⟨b5, o5, none⟩ r.length sc (r.map (Value.int .i64)) rfl ?q1 ?q2 ?q3 ?q4 ?q5 ?q6 ?_)
              case q1 => simp
              case q2 => intro j u hj; exact A.out j u hj _
              case q3 => intro u hu; obtain ⟨x, _, rfl⟩ := List.mem_map.1 hu; rfl
              case q4 => simp [maxLen]; omega
              case q5 => omega
              case q6 => simp
              intro v1 w1 hown1 hgrow1 hnil1 hat1
              have hb1 : Below wr.heap.size wr w1 := (ba wr _).grown hgrow1 (by simp) (by intro k hk; simp [Value.ownBlock] at hk; omega)
              obtain ⟨g1, cp1, rfl, _, _⟩ := owns_some hown1 hnil1
              have hz1' := hb1.size
              clear hgrow1 hnil1 hat1
              go_wp2_with (at_builtin; refine wpList_append_own_at _ rfl _ _ 26 rfl wr.heap.size 3 i3 (.int .i64 0) 1 8 Try.underlying26 hi3 hy0 hy1 hy2 rfl (by decide) _ _ _ rfl (hown1.alloc _) ⟨w1.heap.size, 0, none⟩ 1 1 [.int .i64 (k : Int)] rfl ?q1 ?q2 ?q3 ?q4 ?q5 ?q6 ?_)
              case q1 => rfl
              case q2 => exact cell_one_new _ _ _
              case q3 => intro u hu; simp at hu; subst hu; rfl
              case q4 => simp [maxLen]; omega
              case q5 => omega
              case q6 => simp; omega
              intro v2 w2 hown2 hgrow2 hnil2 hat2
              have hb2 : Below wr.heap.size wr w2 := (bal hb1 _).grown hgrow2 (by simp; omega) (owns_block hown1)
              have hne2 : v2 ≠ .slice none 0 0 := fun e => by have := hnil2; simp [e] at this
              obtain ⟨g2, cp2, rfl, hg2l, hg2u⟩ := owns_some hown2 hne2
              have hz2' := hb2.size
              have HI2 : Hid (∀ m, m < wr.heap.size → Ints w2 w2.heap.size m (.slice (some ⟨g2, 0, none⟩) (r.length + 1) cp2) (r ++ [(k : Int)])) := fun m hm => ints_of_owns (n := r.length + 1) (by simp) (by simp; omega) (by simpa using hown2) hm
              have HW4 : Hid (Rwr (w2.alloc (.cells #[.slice (some ⟨g2, 0, none⟩) (r.length + 1) cp2] 26)) wo.heap.size (.slice ma ms.length mc) ms) := HW3.out.keep (bal hb2 _)
              obtain ⟨mo, hmo, hmg⟩ := own_or (n := wr.heap.size) (fun g e => (HW3.out.lt g e).2) (by omega)
              have HMG : Hid (∀ g, (Value.slice ma ms.length mc).ownBlock = some g → mo = g) := hmg
              have hlow : w.heap.size ≤ g2 := by have := hblo.size; omega
              clear hown1 hown2 hgrow2 hnil2 hat2 hne2 hmg
              go_wp2_with (at_builtin; refine wpList_append_own_at _ rfl _ _ 23 rfl wo.heap.size 26 i26 (.slice none 0 0) 1 24 Try.underlying23 hi26 hz0 hz1 hz2 rfl (by decide) _ _ _ rfl HW4.out.1 ⟨w2.heap.size, 0, none⟩ 1 1 [.slice (some ⟨g2, 0, none⟩) (r.length + 1) cp2] rfl ?q1 ?q2 ?q3 ?q4 ?q5 ?q6 ?_)
              case q1 => rfl
              case q2 => exact cell_one_new _ _ _
              case q3 => intro u hu; simp at hu; subst hu; rfl
              case q4 => simp [maxLen]; omega
              case q5 => omega
              case q6 => simp; omega
              intro v3 w3 hown3 hgrow3 hnil3 hat3
              have HW5 : Hid (Rwr w3 wo.heap.size v3 (ms ++ [(.slice (some ⟨g2, 0, none⟩) (r.length + 1) cp2, r ++ [(k : Int)])])) := HW4.out.app hown3 hgrow3 (by simpa using hat3) ((HI2.out mo hmo).at2 (ba _ _)) HMG.out
              have hb3 : Below wo.heap.size wo w3 := (hbk.trans ((bal hb2 (.cells #[.slice (some ⟨g2, 0, none⟩) (r.length + 1) cp2] 26)).mono hzk)).grown hgrow3 (by simp; omega) (owns_block HW4.out.1)
              have HF4 : Hid (rr (ms ++ [(.slice (some ⟨g2, 0, none⟩) (r.length + 1) cp2, r ++ [(k : Int)])]) = allS ((rr ts).take j) n ++ alsK r (k + 1)) := by
                show _ = _
                rw [rr_snoc, HF3.out, alsK_succ, List.append_assoc]
              have HM4 : Hid (Som w.heap.size (ms ++ [(.slice (some ⟨g2, 0, none⟩) (r.length + 1) cp2, r ++ [(k : Int)])])) := HM3.out.snoc hlow
              obtain ⟨a3, c3, rfl⟩ := HW5.out.slice
              clear hown3 hgrow3 hnil3 hat3 HW4 HW3
              go_wp2
              go_roundw
              case rel => exact ⟨k + 1, _, by go_num, hk1, HF4, HW5, HM4, hb3⟩
              case measure => simp [intOf]; omega
            · have HF4 : Hid (rr ms = allS ((rr ts).take (j + 1)) n) := by
                show _ = _
                rw [HF3.out, allS_next HRG.out, show k = n by omega]; rfl
              go_wp2
              go_roundw
              case rel => exact ⟨j + 1, ms, by go_num, hj1, HF4, HW3, HM3, hbk⟩
              case measure => simp [intOf]; omega
        · have HF4 : Hid (rr ns = allF [[]] (l.take (i + 1))) := by
            show _ = _
            rw [HF.out, HNX.out, List.take_of_length_le (by rw [rr_len]; omega)]
          have HW4 : Hid (Rwr wr w.heap.size (.slice na ns.length ncp) ns) := HW.out.mono (by omega)
          have hbf : Below w.heap.size w wr := bt hblo hbi
          go_wp2
          go_roundw
          case rel => exact ⟨i + 1, ns, by go_num, h1, HF4, HW4, HM2, hbf⟩
          case measure => simp [intOf]; omega
    · have HF4 : Hid (rr ts = rs) := by
        show _ = _
        rw [HF.out, List.take_of_length_le (by omega), HR.out]
      have htl : ts.length ≤ 4096 := by
        rw [← rr_len, HF.out, allF_len, List.take_of_length_le (by omega)]
        have := HS.out.2
        simp; omega
      go_wp2
      go_ret
      exact ⟨_, ts, rfl, HF4.out, HW.out.rws (by omega), hbl, HM.out, fun g e => (HW.out.lt g e).1⟩
end Go.Proofs.Ytkpjjiomfgkobaa
