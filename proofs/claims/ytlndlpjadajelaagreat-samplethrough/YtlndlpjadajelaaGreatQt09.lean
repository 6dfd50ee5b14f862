import Derived.Test.YtlndlpjadajelaaGreatQt08
import Derived.Maps.AppendAt
import Derived.Deep.RegionWith
namespace Go.Proofs.YtlndlpjadajelaaGreat
open Go.RowKit Go.Proofs.YtlndlpjadajelaaGreat.Ds

/-- how long a slice is -/
def slen : Value → Nat
  | .slice _ n _ => n
  | _ => 0

/-- greater than all of a list -/
def Abv (l : List Pt) (x : List Int) : Prop := ∀ q ∈ l, ltL q.1 x

/-- what Tidy has laid so far -/
structure Laid (ts ds : List Tr) : Prop where
  rise : Rise (rd ds)
  wts : ∀ q ∈ rd ds, q.2 = wt (rd ts) q.1 ∧ 0 < q.2
  all : ∀ t ∈ ts, 0 < t.2.2 → (∃ q ∈ rd ds, q.1 = t.2.1) ∨ Abv (rd ds) t.2.1
  src : ∀ d ∈ ds, ∃ t ∈ ts, t.1 = d.1 ∧ t.2.1 = d.2.1
  len : ∃ rest : List Tr, rest.length + ds.length ≤ ts.length ∧ ∀ t ∈ ts, 0 < t.2.2 → Abv (rd ds) t.2.1 → t ∈ rest

theorem Laid.nil (ts : List Tr) : Laid ts [] :=
  ⟨List.Pairwise.nil, by intro q h; simp [rd] at h, fun t _ _ => .inr (by intro q h; simp [rd] at h), by intro d h; simp at h, ⟨ts, by simp, fun t ht _ _ => ht⟩⟩

/-- the next one -/
def Next (ts ds : List Tr) (v : Value) (f : Bool) : Prop :=
  (f = false ∧ ∀ t ∈ ts, 0 < t.2.2 → ¬ Abv (rd ds) t.2.1) ∨ (f = true ∧ ∃ t ∈ ts, v = t.1 ∧ 0 < t.2.2 ∧ Abv (rd ds) t.2.1 ∧ ∀ u ∈ ts, 0 < u.2.2 → Abv (rd ds) u.2.1 → ¬ ltL u.2.1 t.2.1)

theorem next_first {ts : List Tr} {v : Value} {f : Bool} (h : Found false [] ts v f) : Next ts [] v f := by
  have hc : ∀ t : Tr, 0 < t.2.2 → Cand false [] t := fun t ht => ⟨ht, fun h => by cases h⟩
  rcases h with ⟨h1, _, h3⟩ | ⟨h1, t, ht, h2, h3, h4⟩
  · exact .inl ⟨h1, fun t ht hk => absurd (hc t hk) (h3 t ht)⟩
  · exact .inr ⟨h1, t, ht, h2, h3.1, by intro q h; simp [rd] at h, fun u hu hk _ => h4 u hu (hc u hk)⟩

theorem abv_last {ds : List Tr} {d : Tr} (hr : Rise (rd (ds ++ [d]))) (x : List Int) : Abv (rd (ds ++ [d])) x ↔ ltL d.2.1 x := by
  constructor
  · intro h; exact h d.2 (by rw [rd_append]; simp [rd])
  · intro h q hq
    rw [rd_append] at hq hr
    rcases List.mem_append.1 hq with h1 | h1
    · exact ltL_trans ((List.pairwise_append.1 hr).2.2 q h1 d.2 (by simp [rd])) h
    · simp [rd] at h1; subst h1; exact h

theorem next_more {ts ds : List Tr} {d : Tr} {v : Value} {f : Bool} (hr : Rise (rd (ds ++ [d]))) (h : Found true d.2.1 ts v f) : Next ts (ds ++ [d]) v f := by
  have hc : ∀ t : Tr, 0 < t.2.2 → Abv (rd (ds ++ [d])) t.2.1 → Cand true d.2.1 t := fun t ht ha => ⟨ht, fun _ => (abv_last hr _).1 ha⟩
  rcases h with ⟨h1, _, h3⟩ | ⟨h1, t, ht, h2, h3, h4⟩
  · exact .inl ⟨h1, fun t ht hk ha => absurd (hc t hk ha) (h3 t ht)⟩
  · exact .inr ⟨h1, t, ht, h2, h3.1, (abv_last hr _).2 (h3.2 rfl), fun u hu hk ha => h4 u hu (hc u hk ha)⟩

theorem Laid.more {ts ds : List Tr} {t : Tr} (h : Laid ts ds) (hn : Nn (rd ts)) (ht : t ∈ ts) (hk : 0 < t.2.2) (ha : Abv (rd ds) t.2.1) (hmin : ∀ u ∈ ts, 0 < u.2.2 → Abv (rd ds) u.2.1 → ¬ ltL u.2.1 t.2.1) :
    Laid ts (ds ++ [(t.1, t.2.1, wt (rd ts) t.2.1)]) := by
  have hw : 0 < wt (rd ts) t.2.1 := by
    have hle : ∀ l : List Pt, Nn l → t.2 ∈ l → t.2.2 ≤ wt l t.2.1 := by
      intro l
      induction l with
      | nil => intro _ h; cases h
      | cons q l ih =>
        intro hn h
        have hn2 : Nn l := fun r hr => hn r (by simp [hr])
        have h1 := (hn2.wt_le t.2.1).1
        have h2 := hn q (by simp)
        rw [wt_cons]
        rcases List.mem_cons.1 h with rfl | h
        · rw [if_pos rfl]; omega
        · have := ih hn2 h; split <;> omega
    have := hle _ hn (List.mem_map_of_mem (f := fun t : Tr => t.2) ht)
    omega
  have hrise : Rise (rd (ds ++ [(t.1, t.2.1, wt (rd ts) t.2.1)])) := by
    rw [rd_append]
    refine List.pairwise_append.2 ⟨h.rise, by simp [rd], fun a haa b hb => ?_⟩
    simp [rd] at hb; subst hb; exact ha a haa
  refine ⟨hrise, fun q hq => ?_, fun u hu hku => ?_, fun d hd => ?_, ?_⟩
  · rw [rd_append] at hq
    rcases List.mem_append.1 hq with h1 | h1
    · exact h.wts q h1
    · simp [rd] at h1; subst h1; exact ⟨rfl, hw⟩
  · rcases h.all u hu hku with ⟨q, hq, e⟩ | h1
    · exact .inl ⟨q, by rw [rd_append]; simp [hq], e⟩
    · rcases ltL_tri u.2.1 t.2.1 with c | c | c
      · exact absurd c (hmin u hu hku h1)
      · exact .inl ⟨(t.2.1, wt (rd ts) t.2.1), by rw [rd_append]; simp [rd], c.symm⟩
      · refine .inr ((abv_last hrise _).2 c)
  · rcases List.mem_append.1 hd with h1 | h1
    · exact h.src d h1
    · simp at h1; subst h1; exact ⟨t, ht, rfl, rfl⟩
  · obtain ⟨rest, hl, hrest⟩ := h.len
    have htr := hrest t ht hk ha
    refine ⟨rest.filter (fun u => decide (ltL t.2.1 u.2.1)), ?_, fun u hu hku hau => ?_⟩
    · have : (rest.filter (fun u => decide (ltL t.2.1 u.2.1))).length < rest.length := by
        refine List.length_filter_lt_length_iff_exists.2 ⟨t, htr, ?_⟩
        simp only [decide_eq_true_eq]
        exact ltL_irrefl _
      simp only [List.length_append, List.length_cons, List.length_nil]
      omega
    · have h2 := (abv_last hrise _).1 hau
      refine List.mem_filter.2 ⟨hrest u hu hku fun q hq => hau q (by rw [rd_append]; simp [hq]), decide_eq_true h2⟩

theorem Laid.done {ts ds : List Tr} {v : Value} (h : Laid ts ds) (hn : Nn (rd ts)) (hx : Next ts ds v false) : gath (rd ts) = rd ds := by
  have hnone : ∀ t ∈ ts, 0 < t.2.2 → ¬ Abv (rd ds) t.2.1 := by
    rcases hx with ⟨_, h⟩ | ⟨h, _⟩
    · exact h
    · cases h
  refine gath_is hn h.rise (fun q hq => (h.wts q hq).2) fun o => ?_
  by_cases ho : ∃ q ∈ rd ds, q.1 = o
  · obtain ⟨q, hq, rfl⟩ := ho
    obtain ⟨i, hi, hiq⟩ := List.mem_iff_getElem.1 hq
    rw [wt_at h.rise (i := i) (p := q) (by rw [List.getElem?_eq_getElem hi, hiq]), (h.wts q hq).1]
  · have h1 : wt (rd ds) o = 0 := wt_none fun p hp e => ho ⟨p, hp, e⟩
    rw [h1]
    have h2 : ∀ p ∈ rd ts, p.1 = o → p.2 = 0 := by
      intro p hp e
      obtain ⟨t, ht, rfl⟩ := List.mem_map.1 hp
      have h3 := hn t.2 hp
      by_cases hk : 0 < t.2.2
      · rcases h.all t ht hk with ⟨q, hq, e2⟩ | ha
        · exact absurd ⟨q, hq, e2.trans e⟩ ho
        · exact absurd ha (hnone t ht hk)
      · have : t.2.2 = 0 := by have : 0 ≤ t.2.2 := h3; omega
        exact this
    have h4 : ∀ l : List Pt, (∀ p ∈ l, p.1 = o → p.2 = 0) → wt l o = 0 := by
      intro l
      induction l with
      | nil => intro _; rfl
      | cons p l ih =>
        intro hh
        rw [wt_cons, ih fun q hq => hh q (by simp [hq])]
        split
        · rename_i e; rw [hh p (by simp) e]; rfl
        · rfl
    exact (h4 _ h2).symm

theorem owns_below {w w' : World} {base : Nat} {e : TypeId} {size : Nat} {v : Value} {n : Nat} {xs : List Value} (h : w.ownsRow base e size v n xs) (hb : Below w.heap.size w w') : w'.ownsRow base e size v n xs := by
  obtain ⟨h1, h2⟩ := h
  refine ⟨h1, ?_⟩
  rcases h2 with h2 | ⟨g, cap, cur, hv, hg, hcur, h3⟩
  · exact .inl h2
  · exact .inr ⟨g, cap, cur, hv, hg, by rw [hb.block g (Array.getElem?_eq_some_iff.1 hcur).1]; exact hcur, h3⟩

theorem owns_block {w : World} {base : Nat} {e : TypeId} {size : Nat} {v : Value} {n : Nat} {xs : List Value} (h : w.ownsRow base e size v n xs) : ∀ k, v.ownBlock = some k → base ≤ k := by
  intro k hk
  obtain ⟨_, ⟨rfl, _⟩ | ⟨g, cap, cur, rfl, hg, _⟩⟩ := h
  · simp [Value.ownBlock] at hk
  · simp [Value.ownBlock] at hk; omega

theorem owns_slice {w : World} {base : Nat} {e : TypeId} {size : Nat} {v : Value} {n : Nat} {xs : List Value} (h : w.ownsRow base e size v n xs) : ∃ a c, v = .slice a n c := by
  obtain ⟨_, ⟨rfl, rfl⟩ | ⟨g, cap, cur, rfl, _⟩⟩ := h
  · exact ⟨_, _, rfl⟩
  · exact ⟨_, _, rfl⟩

theorem flat_snoc (ds : List Tr) (v : Value) (xs : List Int) (k : Int) : flat ds ++ [v, .int .i64 k] = flat (ds ++ [(v, xs, k)]) := by simp [flat]

set_option maxHeartbeats 2000000 in
set_option maxRecDepth 100000 in
theorem tidy_any (B : Nat) (v : Value) (ts : List Tr) (w : World) (hB : B ≤ w.heap.size) (hp : Parts w B v ts) (hn : Nn (rd ts)) (hM : tot (rd ts) ≤ 4611686018427387904) (l : List Pt) (er : Int) (hr : lowT (gath (rd ts)) = (l, er)) :
    Calls Tryz.prog 111 #[v] w fun e w' => ∃ v' us, e = .returned (.tuple #[v', .int .i64 er]) ∧ rd us = l ∧ OwnN w' w.heap.size v' us ∧ Below w.heap.size w w' := by
  have HP : Hid (Parts w B v ts) := hp
  obtain ⟨a, c, rfl, hc, hl, _⟩ := hp
  have HH : Hid (Nn (rd ts) ∧ tot (rd ts) ≤ 4611686018427387904 ∧ lowT (gath (rd ts)) = (l, er)) := ⟨hn, hM, hr⟩
  obtain ⟨i0, hi0, hz0, hz1, hz2⟩ := info_parts info32
  clear hn hM hr
  go_enter Tryz.func111, Tryz.ntmps111
  go_wp2_with fail
  refine (least_false B _ _ ts [] w hB HP.out (ints_nil w B B)).mono ?_
  rintro e w1 ⟨ov, f, rfl, hf, ⟨oa, on, oc, rfl⟩, hb1⟩
  have HN0 : Hid (Next ts [] (.slice oa on oc) f) := next_first hf
  clear hf
  go_wp2
  go_loopw [4, 5, 6] (fun dv ov fv wr => ∃ (ds : List Tr) (f : Bool) (oa : Option Addr) (on oc : Nat), fv = .bool f ∧ ov = .slice oa on oc ∧ Laid ts ds ∧ Next ts ds (.slice oa on oc) f ∧ wr.ownsRow w.heap.size 82 2 dv ds.length (flat ds) ∧ Below w.heap.size w wr) (fun dv _ _ _ => ts.length - slen dv)
  case atStart => exact ⟨[], f, oa, on, oc, rfl, rfl, Laid.nil ts, HN0.out, ⟨rfl, .inl ⟨rfl, rfl⟩⟩, hb1⟩
  case round =>
    obtain ⟨ds, f, oa, on, oc, rfl, rfl, hlaid, hnext, hown, hbl⟩ := hrel
    have HL : Hid (Laid ts ds) := hlaid
    have HO : Hid (wr.ownsRow w.heap.size 82 2 u4 ds.length (flat ds)) := hown
    have HX : Hid (Next ts ds (.slice oa on oc) f) := hnext
    obtain ⟨da, dc, rfl⟩ := owns_slice hown
    have hs1 := hbl.size
    clear hlaid hnext hown
    cases f with
    | true =>
      obtain ⟨⟨tv, xs, k⟩, ht, he, hk, habv, hmin⟩ : ∃ t ∈ ts, .slice oa on oc = t.1 ∧ 0 < t.2.2 ∧ Abv (rd ds) t.2.1 ∧ ∀ u ∈ ts, 0 < u.2.2 → Abv (rd ds) u.2.1 → ¬ ltL u.2.1 t.2.1 := by
        rcases HX.out with ⟨h, _⟩ | ⟨_, h⟩
        · cases h
        · exact h
      simp only at he
      subst he
      have hdl : ds.length < ts.length := by
        obtain ⟨rest, h1, h2⟩ := HL.out.len
        have := h2 _ ht hk habv
        have : 0 < rest.length := List.length_pos_of_mem this
        omega
      have HI : Hid (Ints wr B B (.slice oa on oc) xs) := HP.out.elem hB hbl ht
      obtain ⟨K, hK⟩ : ∃ K, wt (rd ts) xs = K := ⟨_, rfl⟩
      have HL2 : Hid (Laid ts (ds ++ [(.slice oa on oc, xs, K)])) := by rw [Hid, ← hK]; exact HL.out.more HH.out.1 ht hk habv hmin
      have kw := weight_any B B (.slice a ts.length c) (.slice oa on oc) ts xs wr (by omega) (HP.out.at hB hbl) HI.out HH.out.1 HH.out.2.1 K hK
      have HT : Hid ((.slice oa on oc, xs, k) ∈ ts) := ht
      clear ht habv hmin hk hK
      go_wp2_with fail
      refine kw.mono ?_
      rintro e w2 ⟨rfl, hb2⟩
      have HO2 : Hid ((w2.alloc (.cells #[.slice oa on oc, .int .i64 K] 82)).ownsRow w.heap.size 82 2 (.slice da ds.length dc) ds.length (flat ds)) := owns_below HO.out (bal hb2 _)
      have hs2 := hb2.size
      have hbw2 : Below w.heap.size w w2 := bt hbl hb2
      clear kw
      go_wp2_with (at_builtin; refine wpList_append_own _ rfl _ _ 44 rfl w.heap.size 82 i0 (.agg #[.slice none 0 0, .int .i64 0]) 2 32 Tryz.underlying44 hi0 hz0 hz1 hz2 rfl (by decide) _ _ _ rfl HO2.out ⟨w2.heap.size, 0, none⟩ 1 1 [.slice oa on oc, .int .i64 K] rfl ?q1 ?q2 ?q3 ?q4 ?q5 ?q6 ?_)
      case q1 => rfl
      case q2 =>
        intro j u hj
        match j, hj with
        | 0, hj => simp at hj; subst hj; simp [go_sem, Addr.add]
        | 1, hj => simp at hj; subst hj; simp [go_sem, Addr.add]
      case q3 => intro u hu; simp at hu; rcases hu with rfl | rfl <;> rfl
      case q4 => simp [maxLen]; omega
      case q5 => omega
      case q6 => simp; omega
      intro v3 w3 hown3 hgrow hnil
      have HO3 : Hid (w3.ownsRow w.heap.size 82 2 v3 (ds ++ [((.slice oa on oc, xs, K) : Tr)]).length (flat (ds ++ [(.slice oa on oc, xs, K)]))) := by
        rw [Hid, ← flat_snoc]
        simpa using hown3
      have hbw3 : Below w.heap.size w w3 := (bal hbw2 _).grown hgrow (by simp; omega) (owns_block HO2.out)
      obtain ⟨a3, c3, rfl⟩ := owns_slice HO3.out
      clear hown3 hgrow hnil
      go_wp2_with fail
      refine (least_true B _ _ ts xs w3 (Nat.le_trans hB hbw3.size) (HP.out.at hB hbw3) (HP.out.elem hB hbw3 HT.out)).mono ?_
      rintro e w4 ⟨ov4, f4, rfl, hf4, ⟨oa4, on4, oc4, rfl⟩, hb4⟩
      have HX4 : Hid (Next ts (ds ++ [(.slice oa on oc, xs, K)]) (.slice oa4 on4 oc4) f4) := next_more HL2.out.rise hf4
      have HO4 : Hid (w4.ownsRow w.heap.size 82 2 (.slice a3 (ds ++ [((.slice oa on oc, xs, K) : Tr)]).length c3) (ds ++ [((.slice oa on oc, xs, K) : Tr)]).length (flat (ds ++ [(.slice oa on oc, xs, K)]))) := owns_below HO3.out hb4
      clear hf4
      go_wp2
      go_roundw
      case rel => exact ⟨_, f4, oa4, on4, oc4, rfl, rfl, HL2.out, HX4.out, by simpa using HO4.out, bt hbw3 hb4⟩
      case measure => simp [slen]; omega
    | false =>
      have HG : Hid (gath (rd ts) = rd ds) := HL.out.done HH.out.1 HX.out
      have hlow := HH.out.2.2
      rw [HG.out] at hlow
      by_cases hd0 : ds = []
      · subst hd0
        obtain ⟨rfl, rfl⟩ : l = [] ∧ er = 6 := by simp [lowT, rd] at hlow; exact ⟨hlow.1, hlow.2.symm⟩
        clear hlow HO HX HL HG
        go_wp2
        exact bodyPost_ret (v := .tuple #[.slice none 0 0, .int .i64 6]) (by simp [results, Tryz.results111, go_sem]) rfl ⟨_, [], rfl, rfl, .inl ⟨rfl, rfl⟩, hbl⟩
      · have hpos : 0 < ds.length := by cases ds with | nil => exact absurd rfl hd0 | cons _ _ => simp
        obtain ⟨g, cap, hv, hcap, hgb, hrow⟩ := row_of_owns rfl HO.out (by intro h; simp only [Value.slice.injEq] at h; omega)
        simp only [Value.slice.injEq, true_and] at hv
        obtain ⟨rfl, rfl⟩ := hv
        have hdl : ds.length ≤ 1073741824 := by obtain ⟨rest, h1, _⟩ := HL.out.len; omega
        have hpz : Pos (rd ds) := fun q hq => (HL.out.wts q hq).2
        have htz : tot (rd ds) ≤ 4611686018427387904 := by rw [← HG.out, gath_tot]; exact HH.out.2.1
        have hI : ∀ t ∈ ds, Ints wr wr.heap.size g t.1 t.2.1 := by
          intro d hd
          obtain ⟨t, ht, e1, e2⟩ := HL.out.src d hd
          rw [← e1, ← e2]
          exact (HP.out.elem hB hbl ht).mono (Nat.le_trans hB hbl.size) (.inr (by omega))
        have HD : Hid (Row wr g 0 ds ∧ (∀ t ∈ ds, Ints wr wr.heap.size g t.1 t.2.1) ∧ Pos (rd ds) ∧ tot (rd ds) ≤ 4611686018427387904 ∧ lowT (rd ds) = (l, er)) := ⟨hrow, hI, hpz, htz, hlow⟩
        have hgl := hrow.lt
        obtain ⟨⟨s0, x0, k0⟩, hs0⟩ := get_lt hpos
        obtain ⟨a0, b0⟩ := hrow.cells 0 _ hs0
        simp only [Nat.zero_mul, Nat.zero_add] at a0 b0
        have hk0 : 0 < k0 := hpz (x0, k0) (List.mem_of_getElem? (rd_get hs0))
        have hk1 : k0 ≤ 4611686018427387904 := by have := Pos.le_tot (Nn.of_pos hpz) (List.mem_of_getElem? (rd_get hs0)); simp only at this; omega
        obtain ⟨m0, rfl⟩ := Int.eq_ofNat_of_zero_le (Int.le_of_lt hk0)
        have HM0 : Hid ((x0, (m0 : Int)) ∈ rd ds) := List.mem_of_getElem? (rd_get hs0)
        have hz0' : ((ds.length : Int) == 0) = false := by simp; exact hd0
        have y0 : (0 : Int) < (ds.length : Int) := by omega
        clear hlow HO HX HL HG hrow hI hpz htz hs0 hd0
        go_wp2
        go_loopw [7, 40] (fun s u wq => ∃ (i q : Nat), s = .int .i64 (q : Int) ∧ u = .int .i64 (i : Int) ∧ i ≤ ds.length ∧ Nat.gcd (dvF 0 ((rd ds).take i)) m0 = q ∧ Below wr.heap.size wr wq) (fun _ u _ => ds.length - (intOf u).toNat)
        case atStart => exact ⟨0, m0, rfl, rfl, Nat.zero_le _, by simp [dvF], Below.refl _ _⟩
        case round =>
          obtain ⟨i, q, rfl, rfl, hit, hq, hbq⟩ := hrel
          have HQ : Hid (Nat.gcd (dvF 0 ((rd ds).take i)) m0 = q) := hq
          have hq1 : 1 ≤ q := by rw [← hq]; exact Nat.gcd_pos_of_pos_right _ (by omega)
          have hq2 : q ≤ m0 := by rw [← hq]; exact Nat.le_of_dvd (by omega) (Nat.gcd_dvd_right _ _)
          clear hq
          by_cases h1 : i < ds.length
          · obtain ⟨⟨s, xs, k⟩, hs⟩ := get_lt h1
            obtain ⟨sa, sc, he, _⟩ := HD.out.2.1 _ (List.mem_of_getElem? hs)
            simp only at he
            subst he
            obtain ⟨c1, c2⟩ := HD.out.1.cells.get hbq hgl hs
            simp only [Nat.zero_add] at c1 c2
            have HZ : Hid ((rd ds)[i]? = some (xs, k)) := rd_get hs
            have hk0' : 0 < k := HD.out.2.2.1 (xs, k) (List.mem_of_getElem? HZ.out)
            have hk1' : k ≤ 4611686018427387904 := by
              have h1 := Pos.le_tot (Nn.of_pos HD.out.2.2.1) (List.mem_of_getElem? HZ.out)
              have h3 := HD.out.2.2.2.1
              simp only at h1
              omega
            obtain ⟨m, rfl⟩ := Int.eq_ofNat_of_zero_le (Int.le_of_lt hk0')
            have kc := fun W => refDivisor_any m q (by omega) hq1 (by omega) W
            have HN : Hid (Nat.gcd (dvF 0 ((rd ds).take (i + 1))) m0 = Nat.gcd m q) := by
              rw [Hid, dvF_take HZ.out, ← HQ.out]
              simp only [Int.natAbs_natCast]
              rw [Nat.gcd_comm _ m, Nat.gcd_assoc]
            clear hs
            go_wp2_with (go_at_call 56; refine (kc _).mono ?_; rintro e w1 ⟨rfl, rfl⟩)
            go_roundw
            case rel => exact ⟨i + 1, Nat.gcd m q, rfl, by go_num, h1, HN.out, bal hbq _⟩
            case measure => simp [intOf]; omega
          · have hgd : q = dv (rd ds) := by
              rw [← HQ.out, rd_take_all (by omega), dvF_eq, Nat.gcd_zero_left]
              exact Nat.gcd_eq_left (by have := dv_dvd HM0.out; simpa using this)
            have HDV : Hid (q = dv (rd ds)) := hgd
            have HR : Hid (Row wr g 0 ds) := HD.out.1.keep hbq
            have HI : Hid (∀ t ∈ ds, Ints wr wr.heap.size g t.1 t.2.1) := fun t ht => (HD.out.2.1 t ht).at2 hbq
            have hbwq : Below w.heap.size w wr := bt hbl hbq
            have hglq : g < wr.heap.size := HR.out.lt
            obtain ⟨T, hT⟩ : ∃ T, tot (rd ds) = T := ⟨_, rfl⟩
            have hT0 : 0 ≤ T := by rw [← hT]; exact (Nn.of_pos HD.out.2.2.1).tot_nn
            have hT1 : T ≤ 4611686018427387904 := by rw [← hT]; exact HD.out.2.2.2.1
            obtain ⟨tn, rfl⟩ := Int.eq_ofNat_of_zero_le hT0
            have hown0 : Own wr w.heap.size (.slice (some ⟨g, 0, none⟩) ds.length dc) ds := ⟨g, 0, dc, rfl, hcap, hdl, hgb, HR.out, HI.out⟩
            have kt := refTotal_any wr.heap.size _ ds wr (Nat.le_refl _) hown0.parts (Nn.of_pos HD.out.2.2.1) (by rw [hT]; exact hT1) (tn : Int) hT
            have hcutT : tot (cut (dv (rd ds)) (rd ds)) = (tn : Int) / (q : Int) := by rw [cut_tot fun p hp => dv_dvd_int hp, hT, hgd]
            have hlow := HD.out.2.2.2.2
            have hne : rd ds ≠ [] := by intro h; rw [← rd_len, h] at hpos; simp at hpos
            rw [lowT, if_neg hne, hcutT, rd_len] at hlow
            have HL : Hid ((if 1073741824 < (tn : Int) / (q : Int) ∨ 4096 < ds.length then ([], 4) else (cut (dv (rd ds)) (rd ds), (0 : Int))) = (l, er)) := hlow
            have hgz : ((q : Int) == 0) = false := by simp; omega
            have hd1 : (tn : Int) / (q : Int) ≤ 4611686018427387904 := Int.le_trans (Int.ediv_le_self _ (by omega)) hT1
            have hd0 : 0 ≤ (tn : Int) / (q : Int) := Int.ediv_nonneg (by omega) (by omega)
            obtain ⟨D, hD⟩ : ∃ D, (tn : Int) / (q : Int) = D := ⟨_, rfl⟩
            rw [hD] at HL hd1 hd0
            clear hlow hcutT hne hT hown0 hgd HQ
            by_cases hm : 1073741824 < D
            · have hl2 := HL.out
              rw [if_pos (.inl hm)] at hl2
              simp only [Prod.mk.injEq] at hl2
              obtain ⟨rfl, rfl⟩ := hl2
              go_wp2_with (go_at_call 55; refine kt.mono ?_; rintro e w1 ⟨rfl, hb1⟩)
              exact bodyPost_ret (v := .tuple #[.slice none 0 0, .int .i64 4]) (by simp [results, Tryz.results111, go_sem]) rfl ⟨_, [], rfl, rfl, .inl ⟨rfl, rfl⟩, bt hbwq hb1⟩
            · by_cases hm2 : 4096 < ds.length
              · have hl2 := HL.out
                rw [if_pos (.inr hm2)] at hl2
                simp only [Prod.mk.injEq] at hl2
                obtain ⟨rfl, rfl⟩ := hl2
                go_wp2_with (go_at_call 55; refine kt.mono ?_; rintro e w1 ⟨rfl, hb1⟩)
                exact bodyPost_ret (v := .tuple #[.slice none 0 0, .int .i64 4]) (by simp [results, Tryz.results111, go_sem]) rfl ⟨_, [], rfl, rfl, .inl ⟨rfl, rfl⟩, bt hbwq hb1⟩
              · have hl2 := HL.out
                rw [if_neg (by intro h; rcases h with h | h <;> omega)] at hl2
                simp only [Prod.mk.injEq] at hl2
                obtain ⟨hl2, rfl⟩ := hl2
                have HL2 : Hid (cut (dv (rd ds)) (rd ds) = l) := hl2
                clear hl2
                go_wp2_with (go_at_call 55; refine kt.mono ?_; rintro e w1 ⟨rfl, hb1⟩)
                have HR1 : Hid (Row w1 g 0 ds) := HR.out.keep hb1
                have HI1 : Hid (∀ t ∈ ds, Ints w1 w1.heap.size g t.1 t.2.1) := fun t ht => (HI.out t ht).at2 hb1
                have hbw1 : Below w.heap.size w w1 := bt hbwq hb1
                clear kt hD
                go_loopw [61] (fun u wz => ∃ j : Nat, u = .int .i64 (j : Int) ∧ j ≤ ds.length ∧ Row wz g 0 (cutI q ds j) ∧ (∀ t ∈ ds, Ints wz wz.heap.size g t.1 t.2.1) ∧ Below w.heap.size w wz) (fun u _ => ds.length - (intOf u).toNat)
                case atStart => exact ⟨0, rfl, Nat.zero_le _, by rw [cutI_zero]; exact HR1.out, HI1.out, hbw1⟩
                case round =>
                  obtain ⟨j, rfl, hjt, hrow, hints, hbz⟩ := hrel
                  have HR2 : Hid (Row wr g 0 (cutI q ds j)) := hrow
                  have HI2 : Hid (∀ t ∈ ds, Ints wr wr.heap.size g t.1 t.2.1) := hints
                  clear hrow hints
                  by_cases h2 : j < ds.length
                  · obtain ⟨⟨s, xs, k⟩, hs⟩ := get_lt h2
                    have hs2 : (cutI q ds j)[j]? = some (s, xs, k) := by rw [cutI_get _ h2]; exact hs
                    obtain ⟨c1, c2⟩ := HR2.out.cells j _ hs2
                    have c3 := HR2.out.thaw (j * 2 + 1) (by rw [cutI_len]; omega)
                    simp only [Nat.zero_add] at c1 c2 c3
                    have hk0' : 0 < k := HD.out.2.2.1 (xs, k) (List.mem_of_getElem? (rd_get hs))
                    have hk1' : k ≤ 4611686018427387904 := by
                      have h1 := Pos.le_tot (Nn.of_pos HD.out.2.2.1) (List.mem_of_getElem? (rd_get hs))
                      have h3 := HD.out.2.2.2.1
                      simp only at h1
                      omega
                    obtain ⟨m, rfl⟩ := Int.eq_ofNat_of_zero_le (Int.le_of_lt hk0')
                    have hdv : ((m : Int) / (q : Int)) ≤ 4611686018427387904 := Int.le_trans (Int.ediv_le_self _ (by omega)) hk1'
                    have hdv0 : 0 ≤ ((m : Int) / (q : Int)) := Int.ediv_nonneg (by omega) (by omega)
                    have HR3 : Hid (Row (wr.setCell ⟨g, j * 2 + 1, none⟩ (.int .i64 ((m : Int) / (q : Int)))) g 0 (cutI q ds (j + 1))) := by
                      have := HR2.out.setW hs2 ((m : Int) / (q : Int))
                      rw [show (cutI q ds j).set j (s, xs, (m : Int) / (q : Int)) = cutI q ds (j + 1) from cutI_set q hs, Nat.zero_add] at this
                      exact this
                    clear hs hs2
                    go_wp2
                    go_roundw
                    case rel => exact ⟨j + 1, by go_num, h2, HR3.out, fun t ht => by simpa using (HI2.out t ht).set rfl _, hbz.setCell (by simp; omega) _⟩
                    case measure => simp [intOf]; omega
                  · have hj : j = ds.length := by omega
                    subst hj
                    have hcut : rd (cutI q ds ds.length) = l := by rw [cutI_all, HDV.out, HL2.out]
                    have hI3 : ∀ t ∈ cutI q ds ds.length, Ints wr wr.heap.size g t.1 t.2.1 := by
                      intro t ht
                      obtain ⟨u, hu, e1, e2⟩ := cutI_mem ht
                      rw [e1, e2]
                      exact HI2.out u hu
                    have HOO : Hid (Own wr w.heap.size (.slice (some ⟨g, 0, none⟩) ds.length dc) (cutI q ds ds.length)) := ⟨g, 0, dc, by rw [cutI_len], by rw [cutI_len]; exact hcap, by rw [cutI_len]; exact hdl, hgb, HR2.out, hI3⟩
                    have HCU : Hid (rd (cutI q ds ds.length) = l) := hcut
                    clear hcut hI3
                    go_wp2
                    exact bodyPost_ret (v := .tuple #[.slice (some ⟨g, 0, none⟩) ds.length dc, .int .i64 0]) (by simp [results, Tryz.results111, go_sem]) rfl ⟨_, _, rfl, HCU.out, .inr HOO.out, hbz⟩
end Go.Proofs.YtlndlpjadajelaaGreat

namespace Go.Proofs.YtlndlpjadajelaaGreat
open Go.RowKit Go.Proofs.YtlndlpjadajelaaGreat.Ds

/-- PARTS OF ONE's OWN THAT GROW: a row, and each part's numbers outside of it -/
def Rws (w : World) (lo : Nat) (v : Value) (ds : List Tr) : Prop :=
  w.ownsRow lo 82 2 v ds.length (flat ds) ∧ ∀ t ∈ ds, ∃ m, Ints w w.heap.size m t.1 t.2.1 ∧ ∀ g, v.ownBlock = some g → m = g

theorem Rws.nil (w : World) (lo : Nat) : Rws w lo (.slice none 0 0) [] := ⟨⟨rfl, .inl ⟨rfl, rfl⟩⟩, fun t ht => by cases ht⟩
theorem Rws.keep {w w' : World} {lo : Nat} {v : Value} {ds : List Tr} (h : Rws w lo v ds) (hb : Below w.heap.size w w') : Rws w' lo v ds :=
  ⟨owns_below h.1 hb, fun t ht => let ⟨m, h1, h2⟩ := h.2 t ht; ⟨m, h1.at2 hb, h2⟩⟩
theorem Rws.slice {w : World} {lo : Nat} {v : Value} {ds : List Tr} (h : Rws w lo v ds) : ∃ a c, v = .slice a ds.length c := owns_slice h.1
theorem Rws.lt {w : World} {lo : Nat} {v : Value} {ds : List Tr} (h : Rws w lo v ds) : ∀ g, v.ownBlock = some g → lo ≤ g ∧ g < w.heap.size := h.1.lt

theorem Ints.grow {W w' : World} {B m m' : Nat} {s : Value} {xs : List Int} {row : Option Nat} (h : Ints W B m s xs) (hg : W.grownBy w' row) (hB : B ≤ W.heap.size) (hrow : ∀ g, row = some g → m = g) (hm : m' = m ∨ B ≤ m') : Ints w' w'.heap.size m' s xs := by
  obtain ⟨a, c, hv, hc, hl, hx⟩ := h
  refine ⟨a, c, hv, hc, hl, fun hne => ?_⟩
  obtain ⟨b, o, ha, hb, hn, hcell⟩ := hx hne
  have := hg.size
  refine ⟨b, o, ha, by omega, by rcases hm with h | h <;> omega, fun i x hi => ?_⟩
  refine hg.cell (hcell i x hi) fun e => hn ?_
  exact (hrow b e.symm).symm

theorem Rws.app {W w' : World} {lo : Nat} {v v' s : Value} {ds : List Tr} {xs : List Int} {k : Int} {m : Nat} (h : Rws W lo v ds) (hown : w'.ownsRow lo 82 2 v' (ds.length + 1) (flat ds ++ [s, .int .i64 k])) (hg : W.grownBy w' v.ownBlock)
    (hat : v'.ownBlock = v.ownBlock ∨ v'.ownBlock = some W.heap.size) (hi : Ints W W.heap.size m s xs) (hm : ∀ g, v.ownBlock = some g → m = g) : Rws w' lo v' (ds ++ [(s, xs, k)]) := by
  refine ⟨by rw [← flat_snoc]; simpa using hown, fun t ht => ?_⟩
  have key : ∀ (m : Nat) (s : Value) (xs : List Int), Ints W W.heap.size m s xs → (∀ g, v.ownBlock = some g → m = g) → ∃ m', Ints w' w'.heap.size m' s xs ∧ ∀ g, v'.ownBlock = some g → m' = g := by
    intro m s xs h1 h2
    rcases hat with hat | hat
    · exact ⟨m, h1.grow hg (Nat.le_refl _) h2 (.inl rfl), by rw [hat]; exact h2⟩
    · exact ⟨W.heap.size, h1.grow hg (Nat.le_refl _) h2 (.inr (Nat.le_refl _)), by rw [hat]; intro g e; simpa using e⟩
  rcases List.mem_append.1 ht with ht | ht
  · obtain ⟨m, h1, h2⟩ := h.2 t ht
    exact key m t.1 t.2.1 h1 h2
  · obtain rfl : t = (s, xs, k) := by simpa using ht
    exact key m s xs hi hm

theorem Rws.more {W w' : World} {lo : Nat} {v s : Value} {ds : List Tr} {xs : List Int} {k : Int} {m g cap : Nat} (h : Rws W lo v ds) (hown : w'.ownsRow lo 82 2 (.slice (some ⟨g, 0, none⟩) (ds.length + 1) cap) (ds.length + 1) (flat ds ++ [s, .int .i64 k])) (hg : W.grownBy w' v.ownBlock)
    (hat : v.ownBlock = some g ∨ g = W.heap.size) (hi : Ints W W.heap.size m s xs) (hm : ∀ g, v.ownBlock = some g → m = g) : Rws w' lo (.slice (some ⟨g, 0, none⟩) (ds.length + 1) cap) (ds ++ [(s, xs, k)]) :=
  h.app hown hg (hat.imp (fun e => by rw [e]; rfl) (fun e => by rw [e]; rfl)) hi hm

theorem Rws.parts {w : World} {lo : Nat} {v : Value} {ds : List Tr} (h : Rws w lo v ds) (hl : ds.length ≤ 1073741824) : Parts w w.heap.size v ds := by
  have hi : ∀ t ∈ ds, Ints w w.heap.size w.heap.size t.1 t.2.1 := fun t ht => let ⟨m, h1, _⟩ := h.2 t ht; h1.mono (Nat.le_refl _) (.inr (Nat.le_refl _))
  by_cases hv : v = .slice none 0 0
  · subst hv
    have h0 : ds = [] := by
      obtain ⟨_, ⟨_, h0⟩ | ⟨g, cap, cur, hv, _⟩⟩ := h.1
      · exact List.length_eq_zero_iff.1 h0
      · cases hv
    subst h0
    exact parts_nil w _
  · obtain ⟨g, cap, rfl, hcap, hgb, hrow⟩ := row_of_owns rfl h.1 hv
    exact ⟨_, cap, rfl, hcap, hl, hi, fun _ => ⟨g, 0, rfl, hrow.lt, hrow.cells⟩⟩

end Go.Proofs.YtlndlpjadajelaaGreat
