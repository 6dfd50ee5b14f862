import Derived.Test.YtcglfojbgdlbhaaKep
namespace Go.Proofs.Ytcglfojbgdlbhaa
open Go.RowKit Go.Shelf Go.Proofs.Ytcglfojbgdlbhaa.Ds

/-- what a function that tells what is to go keeps to -/
def Del (cap : Value) (lo : Nat) (w : World) (kp : List Int → Bool) : Prop :=
  ∀ (W : World) (s : Value) (k : Int) (xs : List Int), Below lo w W → Ints W W.heap.size W.heap.size s xs →
    Calls Try.prog 93 #[.agg #[s, .int .i64 k], cap] W fun e W' => e = .returned (.bool (!kp xs)) ∧ Below W.heap.size W W'

def Kps (kp : List Int → Bool) (ts : List Tr) (i : Nat) : Prop := ∀ (j : Nat) (t : Tr), j < i → ts[j]? = some t → kp t.2.1 = true

set_option maxHeartbeats 1000000 in
theorem indexD_any (cap : Value) (kp : List Int → Bool) (lo B : Nat) (v : Value) (ts : List Tr) (w : World) (hlo : lo ≤ w.heap.size) (hB : B ≤ w.heap.size) (hp : Parts w B v ts) (hd : Del cap lo w kp) :
    Calls Try.prog 103 #[v, .func (.func 93) #[] #[cap]] w fun e w' => ∃ r : Int, e = .returned (.int .i64 r) ∧ Below w.heap.size w w' ∧
      ((r = -1 ∧ Kps kp ts ts.length) ∨ ∃ i : Nat, r = (i : Int) ∧ i < ts.length ∧ Kps kp ts i ∧ ∀ t, ts[i]? = some t → kp t.2.1 = false) := by
  have HP : Hid (Parts w B v ts) := hp
  have HD : Hid (Del cap lo w kp) := hd
  obtain ⟨a, c, rfl, hcc, hl, _⟩ := hp
  clear hd
  go_enter Try.func103, Try.ntmps103
  go_wp2
  go_loopw [8] (fun s wr => ∃ i : Nat, s = .int .i64 (i : Int) ∧ i ≤ ts.length ∧ Hid (Kps kp ts i) ∧ Below w.heap.size w wr) (fun s _ => ts.length - (intOf s).toNat)
  case atStart => exact ⟨0, rfl, Nat.zero_le _, fun j z h => by omega, Below.refl _ _⟩
  case round =>
    obtain ⟨i, rfl, hit, HN, hbl⟩ := hrel
    have hbs := hbl.size
    by_cases h1 : i < ts.length
    · obtain ⟨b, o, sa, sc, xs, k, rfl, hb, hs, c1, c2, hI⟩ := HP.out.get hB hbl h1
      have HS : Hid (ts[i]? = some (.slice sa xs.length sc, xs, k)) := hs
      obtain ⟨r, HE⟩ : ∃ r, Hid (kp xs = r) := ⟨_, rfl⟩
      have kc := HD.out wr (.slice sa xs.length sc) k xs (hbl.mono hlo) (hI.mono (by omega) (.inr (by omega)))
      rw [HE.out] at kc
      clear hs hI
      go_wp2_with fail
      refine kc.mono ?_
      rintro e w2 ⟨rfl, hb2⟩
      clear kc
      cases r with
      | false =>
        have HY : Hid (∀ t, ts[i]? = some t → kp t.2.1 = false) := by
          intro t ht
          rw [HS.out] at ht
          simp at ht
          subst ht
          exact HE.out
        go_wp2
        go_ret
        exact ⟨_, rfl, bt hbl hb2, .inr ⟨i, rfl, h1, HN.out, HY.out⟩⟩
      | true =>
        have HN2 : Hid (Kps kp ts (i + 1)) := by
          intro j t hj ht
          by_cases he : j = i
          · subst he
            rw [HS.out] at ht
            simp at ht
            subst ht
            exact HE.out
          · exact HN.out j t (by omega) ht
        go_wp2
        go_roundw
        case rel => exact ⟨i + 1, by go_num, h1, HN2, bt hbl hb2⟩
        case measure => simp [intOf]; omega
    · have HX : Hid (Kps kp ts ts.length) := fun j t hj ht => HN.out j t (by omega) ht
      go_wp2
      go_ret
      exact ⟨-1, rfl, hbl, .inl ⟨rfl, HX.out⟩⟩

/-- 'clear' of parts: some cells are stored -/
theorem run_clear2 (w : World) (ty : TypeId) (b o n c : Nat) (hn : 0 < n) (hc : ∀ j, j < n * 2 → (w.cell? ⟨b, o + j, none⟩).isSome = true) (hf : ∀ j, j < n * 2 → w.frozen? ⟨b, o + j, none⟩ = false) :
    (Builtin.clear_ #[23] ty #[.slice (some ⟨b, o, none⟩) n c]).run Try.prog w = .ok (.tuple #[]) (w.setCells b o (Builtin.zeroCells #[.slice none 0 0, .int .i64 0] n).toList) := by
  have hlen : (Builtin.zeroCells #[.slice none 0 0, .int .i64 0] n).toList.length = n * 2 := by simp [Builtin.zeroCells]
  have hst := run_storeCells_cells (P := Try.prog) b o (Builtin.zeroCells #[.slice none 0 0, .int .i64 0] n).toList 0 w (by rw [hlen]; simpa using hc) (by rw [hlen]; simpa using hf) (by
    intro v hv
    simp [Builtin.zeroCells] at hv
    obtain ⟨i, _, rfl⟩ := hv
    rcases Nat.mod_two_eq_zero_or_one i with h | h <;> simp [h] <;> rfl)
  simp only [Nat.add_zero] at hst
  obtain ⟨m, rfl⟩ : ∃ m, n = m + 1 := ⟨n - 1, by omega⟩
  simp [Builtin.clear_, run_underlying Try.underlying23, Value.cells, hst]
/-! ### what is left -/
structure Dlt (kp : List Int → Bool) (ts vs : List Tr) (k j : Nat) : Prop where
  len : vs.length = ts.length
  rest : vs.drop j = ts.drop j
  kept : rd (vs.take k) = (rd (ts.take j)).filter fun p => kp p.1
  lt : k < j
  mem : ∀ t ∈ vs, t ∈ ts

theorem rd_snoc (l : List Tr) (t : Tr) : rd (l ++ [t]) = rd l ++ [t.2] := by simp [rd]
theorem Dlt.start {kp : List Int → Bool} {ts : List Tr} {i : Nat} {t : Tr} (h : Kps kp ts i) (hi : ts[i]? = some t) (hn : kp t.2.1 = false) : Dlt kp ts ts i (i + 1) := by
  refine ⟨rfl, rfl, ?_, by omega, fun _ h => h⟩
  rw [List.take_add_one, hi, Option.toList_some, rd_snoc, List.filter_append]
  have h1 : (rd (ts.take i)).filter (fun p => kp p.1) = rd (ts.take i) := by
    rw [List.filter_eq_self]
    intro p hp
    obtain ⟨u, hu, rfl⟩ := List.mem_map.1 hp
    obtain ⟨j, hj⟩ := List.getElem?_of_mem hu
    have hlt : j < i := by have := (List.getElem?_eq_some_iff.1 hj).1; simp at this; omega
    rw [List.getElem?_take_of_lt hlt] at hj
    exact h j u hlt hj
  rw [h1]
  simp [hn]
theorem Dlt.get {kp : List Int → Bool} {ts vs : List Tr} {k j : Nat} (h : Dlt kp ts vs k j) : vs[j]? = ts[j]? := by
  have := congrArg (·[0]?) h.rest
  simpa using this
theorem Dlt.keep {kp : List Int → Bool} {ts vs : List Tr} {k j : Nat} {t : Tr} (h : Dlt kp ts vs k j) (ht : ts[j]? = some t) (hk : kp t.2.1 = true) : Dlt kp ts (vs.set k t) (k + 1) (j + 1) := by
  have hj := (List.getElem?_eq_some_iff.1 ht).1
  have hlt := h.lt
  have hlen := h.len
  refine ⟨by simp [h.len], ?_, ?_, by omega, fun u hu => ?_⟩
  · rw [List.drop_set_of_lt (by omega)]
    have := congrArg (List.drop 1) h.rest
    simpa [List.drop_drop] using this
  · have e : (vs.set k t).take (k + 1) = vs.take k ++ [t] := by
      rw [List.take_add_one, List.take_set_of_le (Nat.le_refl _), List.getElem?_set_self (by omega)]; rfl
    rw [e, rd_snoc, h.kept, List.take_add_one, ht, Option.toList_some, rd_snoc, List.filter_append]
    simp [hk]
  · rcases List.mem_or_eq_of_mem_set hu with hu | rfl
    · exact h.mem u hu
    · exact List.mem_of_getElem? ht
theorem Dlt.drop {kp : List Int → Bool} {ts vs : List Tr} {k j : Nat} {t : Tr} (h : Dlt kp ts vs k j) (ht : ts[j]? = some t) (hk : kp t.2.1 = false) : Dlt kp ts vs k (j + 1) := by
  have hlt := h.lt
  refine ⟨h.len, ?_, ?_, by omega, h.mem⟩
  · have := congrArg (List.drop 1) h.rest
    simpa [List.drop_drop] using this
  · rw [h.kept, List.take_add_one, ht, Option.toList_some, rd_snoc, List.filter_append]
    simp [hk]
theorem Dlt.done {kp : List Int → Bool} {ts vs : List Tr} {k j : Nat} (h : Dlt kp ts vs k j) (hj : ts.length ≤ j) : rd (vs.take k) = (rd ts).filter fun p => kp p.1 := by
  rw [h.kept, List.take_of_length_le hj]

theorem size_sets (b : Nat) : ∀ (vs : List Value) (o : Nat) (w : World), (w.setCells b o vs).heap.size = w.heap.size
  | [], _, _ => rfl
  | v :: vs, o, w => (size_sets b vs (o + 1) (w.setCell ⟨b, o, none⟩ v)).trans (by simp)
theorem below_sets {B b : Nat} {a : World} (hb : B ≤ b) : ∀ (vs : List Value) (o : Nat) (w : World), Below B a w → Below B a (w.setCells b o vs)
  | [], _, _, h => h
  | v :: vs, o, _, h => below_sets hb vs (o + 1) _ (h.setCell (p := ⟨b, o, none⟩) hb v)
theorem Ints.sets {w : World} {B nb : Nat} {v : Value} {xs : List Int} (h : Ints w B nb v xs) (o : Nat) (zs : List Value) : Ints (w.setCells nb o zs) B nb v xs := by
  obtain ⟨a, c, hv, hc, hl, hx⟩ := h
  refine ⟨a, c, hv, hc, hl, fun hne => ?_⟩
  obtain ⟨b, o', ha, hb, hn, hcell⟩ := hx hne
  exact ⟨b, o', ha, hb, hn, fun i x hi => (World.cell?_setCells_out nb zs o w ⟨b, o' + i, none⟩ fun e => absurd e hn).trans (hcell i x hi)⟩

set_option maxHeartbeats 2000000 in
set_option maxRecDepth 100000 in
theorem deleteD_any (cap : Value) (kp : List Int → Bool) (lo : Nat) (v : Value) (ts : List Tr) (w : World) (hlo : lo ≤ w.heap.size) (ho : OwnN w lo v ts) (hd : Del cap lo w kp) :
    Calls Try.prog 92 #[v, .func (.func 93) #[] #[cap]] w fun e w' => ∃ v' us, e = .returned v' ∧ rd us = (rd ts).filter (fun p => kp p.1) ∧ Parts w' w'.heap.size v' us ∧ Below lo w w' := by
  have kc := indexD_any cap kp lo w.heap.size v ts w hlo (Nat.le_refl _) ho.parts hd
  have HD : Hid (Del cap lo w kp) := hd
  have HO : Hid (OwnN w lo v ts) := ho
  obtain ⟨a, c, rfl⟩ := ho.slice
  clear hd
  go_enter Try.func92, Try.ntmps92
  go_wp2_with fail
  refine kc.mono ?_
  rintro e w1 ⟨r, rfl, hb1, ⟨rfl, hall⟩ | ⟨i, rfl, hi, hk, hn⟩⟩
  · have HF : Hid ((rd ts).filter (fun p => kp p.1) = rd ts) := by
      rw [Hid, List.filter_eq_self]
      intro p hp
      obtain ⟨u, hu, rfl⟩ := List.mem_map.1 hp
      obtain ⟨j, hj⟩ := List.getElem?_of_mem hu
      exact hall j u (List.getElem?_eq_some_iff.1 hj).1 hj
    clear kc hall
    go_wp2
    go_ret
    exact ⟨_, ts, rfl, HF.out.symm, (HO.out.keep hb1).parts, hb1.mono hlo⟩
  · have hne : ts ≠ [] := by rintro rfl; simp at hi
    obtain ⟨t0, ht0⟩ := get_lt hi
    have HK : Hid (Dlt kp ts ts i (i + 1)) := Dlt.start hk ht0 (hn t0 ht0)
    have hown : Own w lo (.slice a ts.length c) ts := by
      rcases HO.out with ⟨_, h0⟩ | h
      · exact absurd h0 hne
      · exact h
    obtain ⟨b, o, c', hv, hc, hl, hlb, hrow, hI⟩ := hown
    simp only [Value.slice.injEq, true_and] at hv
    obtain ⟨rfl, rfl⟩ := hv
    have HR : Hid (Row w1 b o ts ∧ ∀ t ∈ ts, Ints w1 w1.heap.size b t.1 t.2.1) := ⟨hrow.keep hb1, fun t ht => (hI t ht).at2 hb1⟩
    have hs1 := hb1.size
    have hi1 : ((i : Int) == -1) = false := by simp
    have hi2 : ¬ (i : Int) = -1 := by omega
    clear kc hk hn ht0 hrow hI hne HO
    go_wp2
    go_loopw [5, 6] (fun kv jv wq => ∃ (k j : Nat) (vs : List Tr), kv = .int .i64 (k : Int) ∧ jv = .int .i64 (j : Int) ∧ k < j ∧ j ≤ ts.length ∧ Hid (Dlt kp ts vs k j ∧ Row wq b o vs ∧ ∀ t ∈ ts, Ints wq wq.heap.size b t.1 t.2.1) ∧ Below lo w wq) (fun _ jv _ => ts.length - (intOf jv).toNat)
    case atStart => exact ⟨i, i + 1, ts, rfl, by go_num, by omega, hi, ⟨HK.out, HR.out.1, HR.out.2⟩, hb1.mono hlo⟩
    case round =>
      obtain ⟨k, j, vs, rfl, rfl, hkj, hjt, HL, hbl⟩ := hrel
      have hbs := hbl.size
      by_cases h1 : j < ts.length
      · obtain ⟨⟨s, xs, q⟩, hs⟩ := get_lt h1
        obtain ⟨sa, sc, he, _⟩ := HL.out.2.2 _ (List.mem_of_getElem? hs)
        simp only at he
        subst he
        have hvj : vs[j]? = some (.slice sa xs.length sc, xs, q) := HL.out.1.get.trans hs
        obtain ⟨c1, c2⟩ := HL.out.2.1.cells j _ hvj
        simp only at c1 c2
        have hblt := HL.out.2.1.lt
        have HS : Hid (ts[j]? = some (.slice sa xs.length sc, xs, q)) := hs
        have hklt : k < vs.length := by rw [HL.out.1.len]; omega
        obtain ⟨r, HE⟩ : ∃ r, Hid (kp xs = r) := ⟨_, rfl⟩
        have hba : Below wr.heap.size wr (wr.alloc (.cells #[.slice sa xs.length sc, .int .i64 q] 32)) := ba _ _
        have kd := HD.out (wr.alloc (.cells #[.slice sa xs.length sc, .int .i64 q] 32)) (.slice sa xs.length sc) q xs (hbl.trans (hba.mono (by omega))) (((HL.out.2.2 _ (List.mem_of_getElem? hs)).at2 hba).mono (Nat.le_refl _) (.inr (Nat.le_refl _)))
        rw [HE.out] at kd
        clear hs hvj
        go_wp2_with fail
        refine kd.mono ?_
        rintro e w2 ⟨rfl, hb2⟩
        clear kd
        have hb3 : Below wr.heap.size wr w2 := bt hba hb2
        have hb4 : Below lo w w2 := hbl.trans (hb3.mono (by omega))
        have hs2 : wr.heap.size < w2.heap.size := by have := hb2.size; simp at this; omega
        have cx1 : w2.cell? ⟨wr.heap.size, 0, none⟩ = some (.slice sa xs.length sc) := (hb2.cell (p := ⟨wr.heap.size, 0, none⟩) (by simp)).trans (by simp [go_sem])
        have cx2 : w2.cell? ⟨wr.heap.size, 1, none⟩ = some (.int .i64 q) := (hb2.cell (p := ⟨wr.heap.size, 1, none⟩) (by simp)).trans (by simp [go_sem])
        have HL2 : Hid (Dlt kp ts vs k j ∧ Row w2 b o vs ∧ ∀ t ∈ ts, Ints w2 w2.heap.size b t.1 t.2.1) := ⟨HL.out.1, HL.out.2.1.keep hb3, fun t ht => (HL.out.2.2 t ht).at2 hb3⟩
        clear HL hba hb2 hb3
        cases r with
        | true =>
          obtain ⟨u0, hu0⟩ := get_lt hklt
          obtain ⟨y1, y2⟩ := HL2.out.2.1.cells k u0 hu0
          have y3 := HL2.out.2.1.thaw (k * 2) (by omega)
          have y4 := HL2.out.2.1.thaw (k * 2 + 1) (by omega)
          rw [← Nat.add_assoc] at y4
          obtain ⟨uv, huv⟩ : ∃ uv, u0.1 = uv := ⟨_, rfl⟩
          rw [huv] at y1
          have HRn : Hid (Row ((w2.setCell ⟨b, o + k * 2, none⟩ (.slice sa xs.length sc)).setCell ⟨b, o + k * 2 + 1, none⟩ (.int .i64 q)) b o (vs.set k (.slice sa xs.length sc, xs, q))) := HL2.out.2.1.setP hklt (.slice sa xs.length sc, xs, q)
          have HDn : Hid (Dlt kp ts (vs.set k (.slice sa xs.length sc, xs, q)) (k + 1) (j + 1)) := HL2.out.1.keep HS.out HE.out
          clear hu0 huv
          go_wp2
          go_roundw
          case rel => exact ⟨k + 1, j + 1, vs.set k (.slice sa xs.length sc, xs, q), by go_num, by go_num, by omega, h1, ⟨HDn.out, HRn.out, fun t ht => by simpa using ((HL2.out.2.2 t ht).set (p := ⟨b, o + k * 2, none⟩) rfl _).set (p := ⟨b, o + k * 2 + 1, none⟩) rfl _⟩, (hb4.setCell (p := ⟨b, o + k * 2, none⟩) hlb _).setCell (p := ⟨b, o + k * 2 + 1, none⟩) hlb _⟩
          case measure => simp [intOf]; omega
        | false =>
          have HDn : Hid (Dlt kp ts vs k (j + 1)) := HL2.out.1.drop HS.out HE.out
          go_wp2
          go_roundw
          case rel => exact ⟨k, j + 1, vs, rfl, by go_num, by omega, h1, ⟨HDn.out, HL2.out.2.1, HL2.out.2.2⟩, hb4⟩
          case measure => simp [intOf]; omega
      · have hfin := HL.out.1.done (show ts.length ≤ j by omega)
        have hvl : vs.length = ts.length := HL.out.1.len
        have hkl : k < ts.length := by omega
        have hcells : ∀ m, m < (ts.length - k) * 2 → (wr.cell? ⟨b, o + k * 2 + m, none⟩).isSome = true := by
          intro m hm
          have h5 := HL.out.2.1.cells.len_cell (i := k + m / 2) (by omega)
          rcases Nat.mod_two_eq_zero_or_one m with e | e
          · have := h5.1; rwa [show o + (k + m / 2) * 2 = o + k * 2 + m by omega] at this
          · have := h5.2; rwa [show o + (k + m / 2) * 2 + 1 = o + k * 2 + m by omega] at this
        have hfz : ∀ m, m < (ts.length - k) * 2 → wr.frozen? ⟨b, o + k * 2 + m, none⟩ = false := by
          intro m hm
          have h5 := HL.out.2.1.thaw (k * 2 + m) (by omega)
          rwa [← Nat.add_assoc] at h5
        have hcl := fun ty => run_clear2 wr ty b (o + k * 2) (ts.length - k) (c - k) (by omega) hcells hfz
        obtain ⟨Zs, hZs⟩ : ∃ Zs, (Builtin.zeroCells #[.slice none 0 0, .int .i64 0] (ts.length - k)).toList = Zs := ⟨_, rfl⟩
        rw [hZs] at hcl
        have HPF : Hid (Parts (wr.setCells b (o + k * 2) Zs) (wr.setCells b (o + k * 2) Zs).heap.size (.slice (some ⟨b, o, none⟩) k c) (vs.take k)) := by
          have hszs : (wr.setCells b (o + k * 2) Zs).heap.size = wr.heap.size := size_sets b Zs (o + k * 2) wr
          have hlk : (vs.take k).length = k := by simp; omega
          refine ⟨_, c, by rw [hlk], by rw [hlk]; omega, by rw [hlk]; omega, fun t ht => ?_, fun _ => ⟨b, o, rfl, by rw [hszs]; exact HL.out.2.1.lt, fun m t hm => ?_⟩⟩
          · rw [hszs]
            exact ((HL.out.2.2 t (HL.out.1.mem t (List.mem_of_mem_take ht))).sets (o + k * 2) Zs).mono (Nat.le_refl _) (.inr (Nat.le_refl _))
          · have hmk : m < k := by have := (List.getElem?_eq_some_iff.1 hm).1; omega
            rw [List.getElem?_take_of_lt hmk] at hm
            obtain ⟨y1, y2⟩ := HL.out.2.1.cells m t hm
            exact ⟨(World.cell?_setCells_out b Zs (o + k * 2) wr ⟨b, o + m * 2, none⟩ fun _ _ => .inl (by show o + m * 2 < o + k * 2; omega)).trans y1, (World.cell?_setCells_out b Zs (o + k * 2) wr ⟨b, o + m * 2 + 1, none⟩ fun _ _ => .inl (by show o + m * 2 + 1 < o + k * 2; omega)).trans y2⟩
        have HBF : Hid (Below lo w (wr.setCells b (o + k * 2) Zs)) := below_sets hlb Zs (o + k * 2) wr hbl
        have HFI : Hid (rd (vs.take k) = (rd ts).filter fun p => kp p.1) := hfin
        have hck : ¬ c = k := by omega
        have hck2 : k ≤ c := by omega
        clear hfin hcells hfz HL hZs hvl
        go_wp2
        go_ret
        exact ⟨_, vs.take k, rfl, HFI.out, HPF.out, HBF.out⟩

/-! ### Keep -/
def keepT (l : List Pt) (L : List (List Int)) : List Pt × Int := if (ownT l).2 = 0 then makeT (l.filter fun p => inL L p.1) else ([], (ownT l).2)

theorem fn62_0 (d : Nat) (fn : Fn) (xs ys : Array Value) (w : World) : (Op.equalIn (d + 1) 62 (.func fn xs ys) .nilFunc).run Try.prog w = .ok false w := by
  simp only [Op.equalIn, Sem.run_bind, run_underlying Try.underlying62, Result.andThen_ok]
  rfl
theorem fn62_there (fn : Fn) (xs ys : Array Value) (w : World) : (Op.equal 62 (.func fn xs ys) .nilFunc).run Try.prog w = .ok false w := fn62_0 9999 fn xs ys w
theorem fn62_is (fn : Fn) (xs ys : Array Value) (w : World) : (binOp .neq 62 (.func fn xs ys) .nilFunc).run Try.prog w = .ok (.bool true) w := by
  simp only [binOp, Sem.run_bind, fn62_there, Result.andThen_ok]
  rfl

set_option maxHeartbeats 1000000 in
theorem dkeep_any (B bo : Nat) (v u : Value) (ts : List Tr) (zs : List Vl) (w : World) (hB : B ≤ w.heap.size) (hbo : bo < w.heap.size) (hc : w.cell? ⟨bo, 0, none⟩ = some u) (hp : Parts w B v ts) (hq : Lsts w B u zs) (hz : zs.length ≤ 1073741824) (l : List Pt) (er : Int) (hr : keepT (rd ts) (zs.map (·.2)) = (l, er)) :
    Calls Try.prog 65 #[v, .func (.func 66) #[] #[.pointer (some ⟨bo, 0, none⟩)]] w fun e w' => ∃ v' us, e = .returned (.tuple #[v', .int .i64 er]) ∧ rd us = l ∧ OwnN w' w.heap.size v' us ∧ Below w.heap.size w w' := by
  obtain ⟨⟨l1, e1⟩, ho⟩ : ∃ x, ownT (rd ts) = x := ⟨_, rfl⟩
  obtain ⟨W, hW⟩ : ∃ W, w.alloc (.cells #[.func (.func 66) #[] #[.pointer (some ⟨bo, 0, none⟩)]] 62) = W := ⟨_, rfl⟩
  have HW : Hid (Below w.heap.size w W) := hW ▸ ba w _
  have hWs : W.heap.size = w.heap.size + 1 := by rw [← hW]; simp
  have cW : W.cell? ⟨w.heap.size, 0, none⟩ = some (.func (.func 66) #[] #[.pointer (some ⟨bo, 0, none⟩)]) := by rw [← hW]; simp [go_sem]
  have cB : W.cell? ⟨bo, 0, none⟩ = some u := (HW.out.cell (p := ⟨bo, 0, none⟩) hbo).trans hc
  have kc := ownFor_any B v ts W (by omega) (hp.at hB HW.out) l1 e1 ho
  have HQ : Hid (Lsts W B u zs) := hq.at hB HW.out
  have HR : Hid (keepT (rd ts) (zs.map (·.2)) = (l, er) ∧ ownT (rd ts) = (l1, e1)) := ⟨hr, ho⟩
  obtain ⟨a, c, rfl, _⟩ := hp
  obtain ⟨ua, uc, rfl, _⟩ := hq
  have hfn := fun w => fn62_is (.func 66) #[] #[.pointer (some ⟨bo, 0, none⟩)] w
  clear hr ho
  go_enter Try.func65, Try.ntmps65
  go_wp2_with fail
  clear hW
  refine kc.mono ?_
  rintro e w1 ⟨v1, us, rfl, h1, h2, h3⟩
  obtain ⟨b1, d1, rfl⟩ := h2.slice
  have hs1 := h3.size
  have b1w : Below w.heap.size w w1 := bt HW.out h3
  by_cases h0 : e1 = 0
  · subst h0
    obtain ⟨hle, hdis⟩ := ownT_ok HR.out.2
    have hch := HR.out.1
    unfold keepT at hch
    rw [HR.out.2] at hch
    simp only [if_true] at hch
    have hru : rd us = rd ts := h1.trans hle
    have HM : Hid (makeT ((rd us).filter fun p => inL (zs.map (·.2)) p.1) = (l, er)) := by rw [Hid, hru]; exact hch
    have kd := deleteD_any (.pointer (some ⟨w.heap.size, 0, none⟩)) (inL (zs.map (·.2))) W.heap.size (.slice b1 us.length d1) us w1 hs1 h2
      (fun W' s k xs hbW hI => delf_any B W'.heap.size bo w.heap.size s (.slice ua zs.length uc) k zs xs W' (by have h5 := hbW.size; have := (h3.mono (Nat.le_refl _)).size; omega) (Nat.le_refl _) (((h3.trans hbW).cell (p := ⟨bo, 0, none⟩) (by show bo < W.heap.size; omega)).trans cB) (((h3.trans hbW).cell (p := ⟨w.heap.size, 0, none⟩) (by show w.heap.size < W.heap.size; omega)).trans cW) (HQ.out.at (by omega) (h3.trans hbW)) hz hI _ rfl)
    clear hch hdis hle h1 h2 kc hru
    go_wp2_with fail
    refine kd.mono ?_
    rintro e w2 ⟨v2, xs2, rfl, k1, k2, k3⟩
    have km := make_any w2.heap.size v2 xs2 w2 (Nat.le_refl _) k2 l er (by rw [k1]; exact HM.out)
    obtain ⟨a2, c2, rfl, _⟩ := k2
    have b2w : Below w.heap.size w w2 := (bt HW.out h3).trans (k3.mono (by omega))
    clear kd k1
    go_wp2_with fail
    refine km.mono ?_
    rintro e w3 ⟨v3, xs3, rfl, m1, m2, m3⟩
    obtain ⟨a3, c3, rfl⟩ := m2.slice
    have hs3 := b2w.size
    clear km
    go_wp2
    exact bodyPost_ret (v := .tuple #[.slice a3 xs3.length c3, .int .i64 er]) (by simp [results, Try.results65, go_sem]) rfl ⟨_, xs3, rfl, m1, m2.mono (by omega), bt b2w m3⟩
  · have h0' : (e1 == 0) = false := by simpa using h0
    have hm := HR.out.1
    unfold keepT at hm
    rw [HR.out.2] at hm
    simp only [h0, if_false, Prod.mk.injEq] at hm
    obtain ⟨rfl, rfl⟩ := hm
    clear h1 h2 kc
    go_wp2
    exact bodyPost_ret (v := .tuple #[.slice none 0 0, .int .i64 e1]) (by simp [results, Try.results65, go_sem]) rfl ⟨_, [], rfl, rfl, .inl ⟨rfl, rfl⟩, b1w⟩

theorem pkeep_any (B : Nat) (v u : Value) (ts : List Tr) (zs : List Vl) (w : World) (hB : B ≤ w.heap.size) (hp : Parts w B v ts) (hq : Lsts w B u zs) (hz : zs.length ≤ 1073741824) (l : List Pt) (er : Int) (hr : keepT (rd ts) (zs.map (·.2)) = (l, er)) :
    Calls Try.prog 25 #[v, u] w fun e w' => ∃ v' us, e = .returned (.tuple #[v', .int .i64 er]) ∧ rd us = l ∧ OwnN w' w.heap.size v' us ∧ Below w.heap.size w w' := by
  have HP : Hid (Parts w B v ts) := hp
  have HQ : Hid (Lsts w B u zs) := hq
  obtain ⟨a, c, rfl, _⟩ := hp
  obtain ⟨ua, uc, rfl, _⟩ := hq
  have kc := dkeep_any B w.heap.size (.slice a ts.length c) (.slice ua zs.length uc) ts zs (w.alloc (.cells #[.slice ua zs.length uc] 42)) (by simp; omega) (by simp) (by simp [go_sem]) (HP.out.at hB (ba _ _)) (HQ.out.at hB (ba _ _)) hz l er hr
  clear hr
  go_enter Try.func25, Try.ntmps25
  go_wp2_with fail
  refine kc.mono ?_
  rintro e w1 ⟨v1, us, rfl, h1, h2, h3⟩
  obtain ⟨b1, d1, rfl⟩ := h2.slice
  have hb : Below w.heap.size w w1 := bt (ba _ _) h3
  clear kc
  go_wp2
  exact bodyPost_ret (v := .tuple #[.slice b1 us.length d1, .int .i64 er]) (by simp [results, Try.results25, go_sem]) rfl ⟨_, us, rfl, h1, h2.mono (by simp), hb⟩
end Go.Proofs.Ytcglfojbgdlbhaa
