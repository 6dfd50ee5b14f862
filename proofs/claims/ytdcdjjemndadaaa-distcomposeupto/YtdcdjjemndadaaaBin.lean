import Derived.Test.YtdcdjjemndadaaaEql
import Derived.Test.YtdcdjjemndadaaaRmk
namespace Go.Proofs.Ytdcdjjemndadaaa
open Go.RowKit Go.Proofs.Ytdcdjjemndadaaa.Ds

/-- below i all are less than y, from j on none -/
def Cutp (l : List Pt) (y : List Int) (i j : Nat) : Prop := (∀ q p, q < i → l[q]? = some p → ltL p.1 y) ∧ (∀ q p, j ≤ q → l[q]? = some p → ¬ ltL p.1 y)

theorem rise_get {l : List Pt} (h : Rise l) {i j : Nat} {p q : Pt} (hij : i < j) (hi : l[i]? = some p) (hj : l[j]? = some q) : ltL p.1 q.1 := by
  obtain ⟨h1, rfl⟩ := List.getElem?_eq_some_iff.1 hi
  obtain ⟨h2, rfl⟩ := List.getElem?_eq_some_iff.1 hj
  exact List.pairwise_iff_getElem.1 h i j h1 h2 hij

theorem Cutp.up {l : List Pt} {y : List Int} {i j h : Nat} {p : Pt} (c : Cutp l y i j) (hr : Rise l) (hp : l[h]? = some p) (hlt : ltL p.1 y) : Cutp l y (h + 1) j := by
  refine ⟨fun q r hq hr2 => ?_, c.2⟩
  by_cases hqh : q = h
  · subst hqh; rw [hp] at hr2; simp at hr2; subst hr2; exact hlt
  · exact ltL_trans (rise_get hr (by omega) hr2 hp) hlt

theorem Cutp.down {l : List Pt} {y : List Int} {i j h : Nat} {p : Pt} (c : Cutp l y i j) (hr : Rise l) (hp : l[h]? = some p) (hge : ¬ ltL p.1 y) : Cutp l y i h := by
  refine ⟨c.1, fun q r hq hr2 hlt => ?_⟩
  by_cases hqh : q = h
  · subst hqh; rw [hp] at hr2; simp at hr2; subst hr2; exact hge hlt
  · exact hge (ltL_trans (rise_get hr (by omega) hp hr2) hlt)

/-- what stands at i, or none -/
theorem Cutp.none {l : List Pt} {y : List Int} {i : Nat} (c : Cutp l y i i) (hr : Rise l) (h : ∀ p, l[i]? = some p → p.1 ≠ y) : ∀ p ∈ l, p.1 ≠ y := by
  intro p hp he
  obtain ⟨q, hq, rfl⟩ := List.mem_iff_getElem.1 hp
  have hq2 : l[q]? = some l[q] := List.getElem?_eq_getElem hq
  rcases Nat.lt_trichotomy q i with h1 | h1 | h1
  · have := c.1 q _ h1 hq2; rw [he] at this; exact ltL_irrefl _ this
  · subst h1; exact h _ hq2 he
  · obtain ⟨r, hr2⟩ := get_lt (l := l) (i := i) (by omega)
    have h2 := rise_get hr h1 hr2 hq2
    rw [he] at h2
    exact c.2 i r (Nat.le_refl _) hr2 h2

set_option maxHeartbeats 2000000 in
set_option maxRecDepth 100000 in
theorem bsearch_any (B nb : Nat) (v u : Value) (k0 : Int) (ts : List Tr) (y : List Int) (w : World) (hB : B ≤ w.heap.size) (hp : Parts w B v ts) (hu : Ints w B nb u y) (hrise : Rise (rd ts)) :
    Calls Try.prog 46 #[v, .agg #[u, .int .i64 k0], .func (.func 47) #[] #[]] w fun e w' => ∃ (i : Nat) (f : Bool), e = .returned (.tuple #[.int .i64 (i : Int), .bool f]) ∧ i ≤ ts.length ∧
      (f = true → ∃ t, ts[i]? = some t ∧ t.2.1 = y) ∧ (f = false → ∀ p ∈ rd ts, p.1 ≠ y) ∧ Below w.heap.size w w' := by
  have HP : Hid (Parts w B v ts) := hp
  have HU : Hid (Ints w B nb u y) := hu
  have HR : Hid (Rise (rd ts)) := hrise
  obtain ⟨a, c, rfl, hc, hl, _⟩ := hp
  obtain ⟨ua, uc, rfl, _⟩ := hu
  clear hrise
  obtain ⟨W, hW⟩ : ∃ W, w.alloc (.cells #[.slice ua y.length uc, .int .i64 k0] 32) = W := ⟨_, rfl⟩
  have HW : Hid (Below w.heap.size w W) := hW ▸ ba w _
  have hWs : W.heap.size = w.heap.size + 1 := by rw [← hW]; simp
  have p1 : W.cell? ⟨w.heap.size, 0, none⟩ = some (.slice ua y.length uc) := by rw [← hW]; simp [go_sem]
  have p2 : W.cell? ⟨w.heap.size, 1, none⟩ = some (.int .i64 k0) := by rw [← hW]; simp [go_sem]
  go_enter Try.func46, Try.ntmps46
  go_wp2
  clear hW
  go_loopw [9, 10] (fun s t wr => ∃ i j : Nat, s = .int .i64 (i : Int) ∧ t = .int .i64 (j : Int) ∧ i ≤ j ∧ j ≤ ts.length ∧ Cutp (rd ts) y i j ∧ Below W.heap.size W wr) (fun s t _ => (intOf t).toNat - (intOf s).toNat)
  case atStart => exact ⟨0, ts.length, rfl, rfl, Nat.zero_le _, Nat.le_refl _, ⟨fun q p h => absurd h (by omega), fun q p h hq => absurd (List.getElem?_eq_some_iff.1 hq).1 (by rw [rd_len]; omega)⟩, Below.refl _ _⟩
  case round =>
    obtain ⟨i, j, rfl, rfl, hij, hjt, hcut, hbl⟩ := hrel
    have HL : Hid (Cutp (rd ts) y i j) := hcut
    have hbw : Below w.heap.size w wr := bt HW.out hbl
    have q1 : wr.cell? ⟨w.heap.size, 0, none⟩ = some (.slice ua y.length uc) := (hbl.cell (p := ⟨w.heap.size, 0, none⟩) (by show w.heap.size < W.heap.size; omega)).trans p1
    have q2 : wr.cell? ⟨w.heap.size, 1, none⟩ = some (.int .i64 k0) := (hbl.cell (p := ⟨w.heap.size, 1, none⟩) (by show w.heap.size < W.heap.size; omega)).trans p2
    have hws := hbl.size
    have lw : w.heap.size < wr.heap.size := by omega
    have HUr : Hid (Ints wr B nb (.slice ua y.length uc) y) := HU.out.at hB hbw
    clear hcut
    by_cases h1 : i < j
    · obtain ⟨h, hh⟩ : ∃ h : Nat, ((i : Int) + (j : Int)) / 2 = (h : Int) := ⟨(i + j) / 2, by omega⟩
      have hh1 : i ≤ h := by omega
      have hh2 : h < j := by omega
      obtain ⟨b, o, sa, sc, xs, kx, rfl, hb, hs, c1, c2, hIx⟩ := HP.out.get hB hbw (i := h) (by omega)
      have HIx : Hid (Ints wr B B (.slice sa xs.length sc) xs) := hIx
      have HS : Hid ((rd ts)[h]? = some (xs, kx)) := rd_get hs
      obtain ⟨r1, HC⟩ : ∃ r1, Hid (cmpT xs y = r1) := ⟨_, rfl⟩
      have lb : b < wr.heap.size := by omega
      have z1 : (0 : Int) ≤ (h : Int) := by omega
      have z2 : (h : Int) < (ts.length : Int) := by omega
      clear hIx hs
      go_wp2_with fail
      go_region_held3 (fun w' => Below wr.heap.size wr w' ∧ w'.cell? ⟨w.heap.size, 0, none⟩ = some (.slice ua y.length uc) ∧ w'.cell? ⟨w.heap.size, 1, none⟩ = some (.int .i64 k0) ∧ w'.cell? ⟨b, o + h * 2, none⟩ = some (.slice sa xs.length sc) ∧ w'.cell? ⟨b, o + h * 2 + 1, none⟩ = some (.int .i64 kx))
        ((go_split_ands; refine ⟨?_, ?_, ?_, ?_, ?_⟩ <;> first | (simp [go_sem, *]; done) | (exact (Below.refl _ _).drew) | (exact bt (Below.refl _ _).drew hb1)))
        ((go_at_call 47; refine (order_b B B nb _ _ _ _ xs y _ ?_ ?_ ?_ r1 HC.out).mono ?_; (show B ≤ wr.heap.size; omega); (exact HIx.out.keep (Below.refl _ _).drew); (exact HUr.out.keep (Below.refl _ _).drew); rintro x1 w1 ⟨rfl, hb1⟩; obtain ⟨hc1, hf1⟩ := bcell hb1; have hs1' := hb1.size; have k1 : w1.cell? ⟨w.heap.size, 0, none⟩ = some (.slice ua y.length uc) := (hc1 _ _ lw).trans q1; have k2 : w1.cell? ⟨w.heap.size, 1, none⟩ = some (.int .i64 k0) := (hc1 _ _ lw).trans q2; have k3 : w1.cell? ⟨b, o + h * 2, none⟩ = some (.slice sa xs.length sc) := (hc1 _ _ lb).trans c1; have k4 : w1.cell? ⟨b, o + h * 2 + 1, none⟩ = some (.int .i64 kx) := (hc1 _ _ lb).trans c2; clear hc1 hf1))
      rename_i hHeld
      clear hHeld k1 k2 k3 k4 c1 c2 q1 q2
      by_cases hr : r1 < 0
      · have hup : Hid (Cutp (rd ts) y (h + 1) j) := HL.out.up HR.out HS.out (by show cmpT xs y < 0; rw [HC.out]; exact hr)
        go_wp2
        go_roundw
        case rel => exact ⟨h + 1, j, by go_num, rfl, hh2, hjt, hup.out, bt hbl.drew hb1⟩
        case measure => simp [intOf]; omega
      · have hdn : Hid (Cutp (rd ts) y i h) := HL.out.down HR.out HS.out (by show ¬ cmpT xs y < 0; rw [HC.out]; exact hr)
        go_wp2
        go_roundw
        case rel => exact ⟨i, h, rfl, by go_num, hh1, by omega, hdn.out, bt hbl.drew hb1⟩
        case measure => simp [intOf]; omega
    · have hji : j = i := by omega
      subst hji
      by_cases h2 : j < ts.length
      · obtain ⟨b, o, sa, sc, xs, kx, rfl, hb, hs, c1, c2, hIx⟩ := HP.out.get hB hbw h2
        have HIx : Hid (Ints wr B B (.slice sa xs.length sc) xs) := hIx
        have HS : Hid (ts[j]? = some (.slice sa xs.length sc, xs, kx)) := hs
        obtain ⟨r1, HC⟩ : ∃ r1, Hid (cmpT xs y = r1) := ⟨_, rfl⟩
        have lb : b < wr.heap.size := by omega
        have z1 : (0 : Int) ≤ (j : Int) := by omega
        have z2 : (j : Int) < (ts.length : Int) := by omega
        clear hIx hs
        go_wp2_with fail
        go_region_held3 (fun w' => Below wr.heap.size wr w' ∧ w'.cell? ⟨w.heap.size, 0, none⟩ = some (.slice ua y.length uc) ∧ w'.cell? ⟨w.heap.size, 1, none⟩ = some (.int .i64 k0) ∧ w'.cell? ⟨b, o + j * 2, none⟩ = some (.slice sa xs.length sc) ∧ w'.cell? ⟨b, o + j * 2 + 1, none⟩ = some (.int .i64 kx))
          ((go_split_ands; refine ⟨?_, ?_, ?_, ?_, ?_⟩ <;> first | (simp [go_sem, *]; done) | (exact (Below.refl _ _).drew) | (exact bt (Below.refl _ _).drew hb1)))
          ((go_at_call 47; refine (order_b B B nb _ _ _ _ xs y _ ?_ ?_ ?_ r1 HC.out).mono ?_; (show B ≤ wr.heap.size; omega); (exact HIx.out.keep (Below.refl _ _).drew); (exact HUr.out.keep (Below.refl _ _).drew); rintro x1 w1 ⟨rfl, hb1⟩; obtain ⟨hc1, hf1⟩ := bcell hb1; have hs1' := hb1.size; have k1 : w1.cell? ⟨w.heap.size, 0, none⟩ = some (.slice ua y.length uc) := (hc1 _ _ lw).trans q1; have k2 : w1.cell? ⟨w.heap.size, 1, none⟩ = some (.int .i64 k0) := (hc1 _ _ lw).trans q2; have k3 : w1.cell? ⟨b, o + j * 2, none⟩ = some (.slice sa xs.length sc) := (hc1 _ _ lb).trans c1; have k4 : w1.cell? ⟨b, o + j * 2 + 1, none⟩ = some (.int .i64 kx) := (hc1 _ _ lb).trans c2; clear hc1 hf1))
        rename_i hHeld
        clear hHeld k1 k2 k3 k4 c1 c2 q1 q2
        by_cases hr : r1 = 0
        · have hxy : Hid (xs = y) := (cmpT_zero _ _).1 (HC.out.trans hr)
          subst hr
          go_wp2
          exact bodyPost_ret (v := .tuple #[.int .i64 (j : Int), .bool true]) (by simp [results, Try.results46, go_sem]) rfl ⟨j, true, rfl, by omega, fun _ => ⟨_, HS.out, hxy.out⟩, fun h => by simp at h, bt hbw.drew hb1⟩
        · have hr' : (r1 == 0) = false := by simpa using hr
          have hno : Hid (∀ p ∈ rd ts, p.1 ≠ y) := HL.out.none HR.out (by
            intro p hp he
            rw [rd_get HS.out] at hp
            simp at hp
            subst hp
            exact hr (by rw [← HC.out]; exact (cmpT_zero _ _).2 he))
          go_wp2
          exact bodyPost_ret (v := .tuple #[.int .i64 (j : Int), .bool false]) (by simp [results, Try.results46, go_sem, hr']) rfl ⟨j, false, rfl, by omega, fun h => by simp at h, fun _ => hno.out, bt hbw.drew hb1⟩
      · have hno : Hid (∀ p ∈ rd ts, p.1 ≠ y) := HL.out.none HR.out (by
          intro p hp
          have := (List.getElem?_eq_some_iff.1 hp).1
          rw [rd_len] at this
          omega)
        go_wp2_with fail
        go_quiet (fail)
        go_wp2
        exact bodyPost_ret (v := .tuple #[.int .i64 (j : Int), .bool false]) (by simp [results, Try.results46, go_sem]) rfl ⟨j, false, rfl, by omega, fun h => by simp at h, fun _ => hno.out, below_drewN hbw _⟩
end Go.Proofs.Ytdcdjjemndadaaa
