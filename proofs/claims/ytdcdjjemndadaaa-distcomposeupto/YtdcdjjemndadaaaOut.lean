import Derived.Test.YtdcdjjemndadaaaMor
import Derived.Test.YtdcdjjemndadaaaRfm
namespace Go.Proofs.Ytdcdjjemndadaaa
open Go.RowKit Go.Proofs.Ytdcdjjemndadaaa.Ds

/-- a list in memory: its value, the numbers behind it -/
abbrev Vl := Value × List Int

/-- LISTS BEHIND A SLICE: what they are is 'zs.map (·.2)'. -/
def Lsts (w : World) (B : Nat) (v : Value) (zs : List Vl) : Prop :=
  ∃ a c, v = .slice a zs.length c ∧ zs.length ≤ c ∧ zs.length ≤ 4294967296 ∧ (∀ z ∈ zs, Ints w B B z.1 z.2) ∧
    (zs ≠ [] → ∃ b o, a = some ⟨b, o, none⟩ ∧ b < B ∧ ∀ i z, zs[i]? = some z → w.cell? ⟨b, o + i, none⟩ = some z.1)

theorem Lsts.keep {w w' : World} {B : Nat} {v : Value} {zs : List Vl} (h : Lsts w B v zs) (hb : Below B w w') : Lsts w' B v zs := by
  obtain ⟨a, c, hv, hc, hl, hi, hx⟩ := h
  refine ⟨a, c, hv, hc, hl, fun t ht => (hi t ht).keep hb, fun hne => ?_⟩
  obtain ⟨b, o, ha, hB, hcell⟩ := hx hne
  exact ⟨b, o, ha, hB, fun i z hz => (hb.cell (p := ⟨b, o + i, none⟩) hB).trans (hcell i z hz)⟩

theorem Lsts.get {w wr : World} {B : Nat} {a : Option Addr} {n c : Nat} {zs : List Vl} (hp : Lsts w B (.slice a n c) zs) (hB : B ≤ w.heap.size) (hbl : Below w.heap.size w wr) {i : Nat} (h : i < zs.length) :
    ∃ b o sa sc xs, a = some ⟨b, o, none⟩ ∧ b < w.heap.size ∧ zs[i]? = some (.slice sa xs.length sc, xs) ∧ wr.cell? ⟨b, o + i, none⟩ = some (.slice sa xs.length sc) ∧ Ints wr B B (.slice sa xs.length sc) xs := by
  obtain ⟨a', c', hv, hc, hl, hi, hx⟩ := hp
  simp only [Value.slice.injEq] at hv
  obtain ⟨rfl, rfl, rfl⟩ := hv
  obtain ⟨b, o, ha, hb, hcell⟩ := hx (ne_of_lt h)
  obtain ⟨⟨s, xs⟩, hs⟩ := get_lt h
  have hI := hi _ (List.mem_of_getElem? hs)
  have hI2 := hI.at hB hbl
  obtain ⟨sa, sc, he, _⟩ := hI
  simp only at he
  subst he
  exact ⟨b, o, sa, sc, xs, ha, by omega, hs, (hbl.cell (p := ⟨b, o + i, none⟩) (by show b < w.heap.size; omega)).trans (hcell i _ hs), hI2⟩

/-- all that either of two may be -/
def outsT (l m : List Pt) : List (List Int) := l.map (·.1) ++ (m.filter fun p => wt l p.1 == 0).map (·.1)

theorem info24 : (Try.prog.info? 24).map (fun i => (i.zero, i.size, i.bytes)) = some (some (.slice none 0 0), 1, 24) := by kernel_rfl

/-- a row of one's own, read -/
theorem lsts_of_owns {w : World} {base : Nat} {v : Value} {zs : List Vl} (h : w.ownsRow base 24 1 v zs.length (zs.map (·.1))) (hl : zs.length ≤ 4294967296) (hi : ∀ z ∈ zs, Ints w w.heap.size w.heap.size z.1 z.2) : Lsts w w.heap.size v zs := by
  obtain ⟨_, ⟨rfl, h0⟩ | ⟨g, cap, cur, rfl, hg, hcur, hcap, _, hsz, hx⟩⟩ := h
  · have : zs = [] := List.length_eq_zero_iff.1 h0
    subst this
    exact ⟨none, 0, rfl, Nat.le_refl _, by simp, by simp, fun h => absurd rfl h⟩
  · refine ⟨_, cap, rfl, hcap, hl, hi, fun _ => ⟨g, 0, rfl, (Array.getElem?_eq_some_iff.1 hcur).1, fun i z hz => ?_⟩⟩
    have hlt : i < zs.length := (List.getElem?_eq_some_iff.1 hz).1
    have e1 : (cur.toList.take (zs.length * 1))[i]? = some z.1 := by rw [hx, List.getElem?_map, hz]; rfl
    rw [List.getElem?_take, if_pos (by omega), Array.getElem?_toList] at e1
    simp [World.cell?, hcur, e1]

/-- those of a list, by their values -/
def vls (ts : List Tr) : List Vl := ts.map fun t => (t.1, t.2.1)
theorem vls_snoc {ts : List Tr} {i : Nat} {t : Tr} (h : ts[i]? = some t) : vls (ts.take (i + 1)) = vls (ts.take i) ++ [(t.1, t.2.1)] := by simp [vls, take_snoc h]
theorem vls_rd (ts : List Tr) : (vls ts).map (·.2) = (rd ts).map (·.1) := by simp [vls, rd]

/-- what has come so far of the second -/
def vlsB (l : List Pt) (us : List Tr) : List Vl := vls (us.filter fun t => wt l t.2.1 == 0)
theorem vlsB_yes {l : List Pt} {us : List Tr} {i : Nat} {t : Tr} (h : us[i]? = some t) (h0 : wt l t.2.1 = 0) : vlsB l (us.take (i + 1)) = vlsB l (us.take i) ++ [(t.1, t.2.1)] := by simp [vlsB, vls, take_snoc h, h0]
theorem vlsB_no {l : List Pt} {us : List Tr} {i : Nat} {t : Tr} (h : us[i]? = some t) (h0 : ¬ wt l t.2.1 = 0) : vlsB l (us.take (i + 1)) = vlsB l (us.take i) := by simp [vlsB, vls, take_snoc h, h0]
theorem vlsB_rd (l : List Pt) (us : List Tr) : (vlsB l us).map (·.2) = ((rd us).filter fun p => wt l p.1 == 0).map (·.1) := by
  simp [vlsB, vls, rd, List.filter_map, Function.comp_def]
theorem vlsB_len (l : List Pt) (us : List Tr) : (vlsB l us).length ≤ us.length := by simp [vlsB, vls]; exact List.length_filter_le _ _
theorem vls_len (ts : List Tr) : (vls ts).length = ts.length := by simp [vls]
theorem mem_vls {ts : List Tr} {z : Vl} (h : z ∈ vls ts) : ∃ t ∈ ts, z = (t.1, t.2.1) := by
  simp only [vls, List.mem_map] at h
  obtain ⟨t, h1, h2⟩ := h
  exact ⟨t, h1, h2.symm⟩
theorem mem_vlsB {l : List Pt} {ts : List Tr} {z : Vl} (h : z ∈ vlsB l ts) : ∃ t ∈ ts, z = (t.1, t.2.1) := by
  obtain ⟨t, h1, h2⟩ := mem_vls h
  exact ⟨t, (List.mem_filter.1 h1).1, h2⟩

set_option maxHeartbeats 2000000 in
set_option maxRecDepth 100000 in
theorem outs_any (B : Nat) (u v : Value) (ts us : List Tr) (w : World) (hB : B ≤ w.heap.size) (hp : Parts w B u ts) (hq : Parts w B v us) (hn : Nn (rd ts)) (hM : tot (rd ts) ≤ 4611686018427387904) (os : List (List Int)) (hr : outsT (rd ts) (rd us) = os) :
    Calls Try.prog 74 #[u, v] w fun e w' => ∃ v' zs, e = .returned v' ∧ zs.map (·.2) = os ∧ Lsts w' w'.heap.size v' zs ∧ Below w.heap.size w w' := by
  have HP : Hid (Parts w B u ts) := hp
  have HQ : Hid (Parts w B v us) := hq
  obtain ⟨a, c, rfl, hc, hl, _⟩ := hp
  obtain ⟨a', c', rfl, hc', hl', _⟩ := hq
  have HH : Hid (Nn (rd ts) ∧ tot (rd ts) ≤ 4611686018427387904 ∧ outsT (rd ts) (rd us) = os) := ⟨hn, hM, hr⟩
  obtain ⟨i0, hi0, hz0, hz1, hz2⟩ := info_parts info24
  clear hn hM hr
  go_enter Try.func74, Try.ntmps74
  go_wp2
  go_loopw [5, 12] (fun dv s wr => ∃ i : Nat, s = .int .i64 (i : Int) ∧ i ≤ ts.length ∧ wr.ownsRow w.heap.size 24 1 dv (vls (ts.take i)).length ((vls (ts.take i)).map (·.1)) ∧ Below w.heap.size w wr) (fun _ s _ => ts.length - (intOf s).toNat)
  case atStart => exact ⟨0, rfl, Nat.zero_le _, ⟨rfl, .inl ⟨rfl, rfl⟩⟩, Below.refl _ _⟩
  case round =>
    obtain ⟨i, rfl, hit, hown, hbl⟩ := hrel
    have HO : Hid (wr.ownsRow w.heap.size 24 1 u5 (vls (ts.take i)).length ((vls (ts.take i)).map (·.1))) := hown
    obtain ⟨da, dc, rfl⟩ := owns_slice hown
    have hlen : (vls (ts.take i)).length ≤ 1073741824 := by rw [vls_len, List.length_take]; omega
    have hs1 := hbl.size
    clear hown
    by_cases h1 : i < ts.length
    · obtain ⟨b, o, sa, sc, xs, k, rfl, hb, hs, d1, d2, hI⟩ := HP.out.get hB hbl h1
      have HS : Hid (ts[i]? = some (.slice sa xs.length sc, xs, k)) := hs
      have HO2 : Hid (((wr.alloc (.cells #[.slice sa xs.length sc, .int .i64 k] 32)).alloc (.cells #[.slice sa xs.length sc] 24)).ownsRow w.heap.size 24 1 (.slice da (vls (ts.take i)).length dc) (vls (ts.take i)).length ((vls (ts.take i)).map (·.1))) := owns_below HO.out (bal (ba _ _) _)
      clear hs hI
      go_wp2_with (at_builtin; refine wpList_append_own _ rfl _ _ 42 rfl w.heap.size 24 i0 (.slice none 0 0) 1 24 Try.underlying42 hi0 hz0 hz1 hz2 rfl (by decide) _ _ _ rfl HO2.out ⟨wr.heap.size + 1, 0, none⟩ 1 1 [.slice sa xs.length sc] rfl ?q1 ?q2 ?q3 ?q4 ?q5 ?q6 ?_)
      case q1 => rfl
      case q2 =>
        intro j u hj
        match j, hj with
        | 0, hj => simp at hj; subst hj; simp [go_sem, Addr.add]
      case q3 => intro u hu; simp at hu; subst hu; rfl
      case q4 => simp [maxLen]; omega
      case q5 => omega
      case q6 => simp; omega
      intro v3 w3 hown3 hgrow hnil
      have HO3 : Hid (w3.ownsRow w.heap.size 24 1 v3 (vls (ts.take (i + 1))).length ((vls (ts.take (i + 1))).map (·.1))) := by
        rw [Hid, vls_snoc HS.out]
        simpa using hown3
      have hbw3 : Below w.heap.size w w3 := (bal (bal hbl _) _).grown hgrow (by simp; omega) (owns_block HO2.out)
      clear hown3 hgrow hnil
      go_wp2
      go_roundw
      case rel => exact ⟨i + 1, by go_num, h1, HO3.out, hbw3⟩
      case measure => simp [intOf]; omega
    · have hii : i = ts.length := by omega
      subst hii
      rw [List.take_length] at HO
      rw [List.take_length] at hlen
      rw [List.take_length]
      clear h1 hit
      go_wp2
      go_loopw [5, 24] (fun dv s wq => ∃ i N : Nat, s = .int .i64 (i : Int) ∧ i ≤ us.length ∧ wq.ownsRow w.heap.size 24 1 dv N ((vls ts ++ vlsB (rd ts) (us.take i)).map (·.1)) ∧ Below w.heap.size w wq) (fun _ s _ => us.length - (intOf s).toNat)
      case atStart => exact ⟨0, _, rfl, Nat.zero_le _, by simpa [vlsB, vls] using HO.out, hbl⟩
      case round =>
        obtain ⟨i, N, rfl, hit, hown, hbl⟩ := hrel
        have HO : Hid (wr.ownsRow w.heap.size 24 1 u5 N ((vls ts ++ vlsB (rd ts) (us.take i)).map (·.1))) := hown
        obtain ⟨da, dc, rfl⟩ := owns_slice hown
        have hlen : N ≤ 2147483648 := by
          have h2 := vlsB_len (rd ts) (us.take i)
          have h3 := HO.out.1
          rw [List.length_map, List.length_append, vls_len] at h3
          rw [List.length_take] at h2
          omega
        have hs1 := hbl.size
        clear hown
        by_cases h1 : i < us.length
        · obtain ⟨b, o, sa, sc, xs, k, rfl, hb, hs, d1, d2, hI⟩ := HQ.out.get hB hbl h1
          have HS : Hid (us[i]? = some (.slice sa xs.length sc, xs, k)) := hs
          have HI : Hid (Ints wr B B (.slice sa xs.length sc) xs) := hI
          obtain ⟨K, hK⟩ : ∃ K, wt (rd ts) xs = K := ⟨_, rfl⟩
          have hb1 : Below w.heap.size w (wr.alloc (.cells #[.slice sa xs.length sc, .int .i64 k] 32)) := bal hbl _
          have kw := weight_any B B (.slice a ts.length c) (.slice sa xs.length sc) ts xs (wr.alloc (.cells #[.slice sa xs.length sc, .int .i64 k] 32)) (by simp; omega) (HP.out.at hB hb1) (HI.out.at (by omega) (ba _ _)) HH.out.1 HH.out.2.1 K hK
          have HK : Hid (wt (rd ts) xs = K) := hK
          clear hs hI hK
          go_wp2_with fail
          refine kw.mono ?_
          rintro e w2 ⟨rfl, hb2⟩
          have hs2 := hb2.size
          rw [World.size_alloc] at hs2
          obtain ⟨hc6, hf6⟩ := bcell hb2
          have t1 : w2.cell? ⟨wr.heap.size, 0, none⟩ = some (.slice sa xs.length sc) := by rw [hc6 _ _ (by simp)]; simp [go_sem]
          have t2 : w2.cell? ⟨wr.heap.size, 1, none⟩ = some (.int .i64 k) := by rw [hc6 _ _ (by simp)]; simp [go_sem]
          have hbw2 : Below w.heap.size w w2 := bt hb1 hb2
          have HOa : Hid (w2.ownsRow w.heap.size 24 1 (.slice da N dc) N ((vls ts ++ vlsB (rd ts) (us.take i)).map (·.1))) := owns_below HO.out (bt (ba _ _) hb2)
          clear hc6 hf6 kw hb1
          by_cases h0 : K = 0
          · subst h0
            have HO2 : Hid ((w2.alloc (.cells #[.slice sa xs.length sc] 24)).ownsRow w.heap.size 24 1 (.slice da N dc) N ((vls ts ++ vlsB (rd ts) (us.take i)).map (·.1))) := owns_below HOa.out (ba _ _)
            go_wp2_with (at_builtin; refine wpList_append_own _ rfl _ _ 42 rfl w.heap.size 24 i0 (.slice none 0 0) 1 24 Try.underlying42 hi0 hz0 hz1 hz2 rfl (by decide) _ _ _ rfl HO2.out ⟨w2.heap.size, 0, none⟩ 1 1 [.slice sa xs.length sc] rfl ?q1 ?q2 ?q3 ?q4 ?q5 ?q6 ?_)
            case q1 => rfl
            case q2 =>
              intro j u hj
              match j, hj with
              | 0, hj => simp at hj; subst hj; simp [go_sem, Addr.add]
            case q3 => intro u hu; simp at hu; subst hu; rfl
            case q4 => simp [maxLen]; omega
            case q5 => omega
            case q6 => simp; omega
            intro v3 w3 hown3 hgrow hnil
            have HO3 : Hid (w3.ownsRow w.heap.size 24 1 v3 (N + 1) ((vls ts ++ vlsB (rd ts) (us.take (i + 1))).map (·.1))) := by
              rw [Hid, vlsB_yes HS.out HK.out]
              simpa using hown3
            have hbw3 : Below w.heap.size w w3 := (bal hbw2 _).grown hgrow (by simp; omega) (owns_block HO2.out)
            clear hown3 hgrow hnil
            go_wp2
            go_roundw
            case rel => exact ⟨i + 1, _, by go_num, h1, HO3.out, hbw3⟩
            case measure => simp [intOf]; omega
          · have h0' : (K == 0) = false := by simpa using h0
            have HO3 : Hid (w2.ownsRow w.heap.size 24 1 (.slice da N dc) N ((vls ts ++ vlsB (rd ts) (us.take (i + 1))).map (·.1))) := by
              rw [Hid, vlsB_no HS.out (by rw [HK.out]; exact h0)]; exact HOa.out
            go_wp2
            go_roundw
            case rel => exact ⟨i + 1, _, by go_num, h1, HO3.out, hbw2⟩
            case measure => simp [intOf]; omega
        · have hii : i = us.length := by omega
          subst hii
          rw [List.take_length] at HO
          have hN : N = (vls ts ++ vlsB (rd ts) us).length := by have := HO.out.1; rw [List.length_map] at this; omega
          have HO' := HO.out
          rw [hN] at HO'
          have hI : ∀ z ∈ vls ts ++ vlsB (rd ts) us, Ints wr wr.heap.size wr.heap.size z.1 z.2 := by
            intro z hz
            rcases List.mem_append.1 hz with h | h
            · obtain ⟨t, h1, rfl⟩ := mem_vls h
              exact (HP.out.elem hB hbl h1).mono (by omega) (.inr (by omega))
            · obtain ⟨t, h1, rfl⟩ := mem_vlsB h
              exact (HQ.out.elem hB hbl h1).mono (by omega) (.inr (by omega))
          have HL : Hid (Lsts wr wr.heap.size (.slice da N dc) (vls ts ++ vlsB (rd ts) us)) := by rw [hN]; exact lsts_of_owns HO' (by omega) hI
          clear hI hN HO'
          go_wp2
          go_ret
          exact ⟨_, _, rfl, by rw [List.map_append, vls_rd, vlsB_rd]; exact HH.out.2.2, HL.out, hbl⟩
end Go.Proofs.Ytdcdjjemndadaaa
