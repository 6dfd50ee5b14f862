import Derived.Test.YtlndlpjadajelaaGreatQt34
namespace Go.Proofs.YtlndlpjadajelaaGreat.K
open Go.RowKit Go.Proofs.YtlndlpjadajelaaGreat.K.Ds

theorem Ints.got {w : World} {B nb n c : Nat} {a : Option Addr} {xs : List Int} (h : Ints w B nb (.slice a n c) xs) {i : Nat} (hi : i < xs.length) : ∃ b o x, a = some ⟨b, o, none⟩ ∧ n = xs.length ∧ b < B ∧ b ≠ nb ∧ xs[i]? = some x ∧ xs.getD i 0 = x ∧ w.cell? ⟨b, o + i, none⟩ = some (.int .i64 x) := by
  obtain ⟨a', c', e, _, _, hx⟩ := h
  simp only [Value.slice.injEq] at e
  obtain ⟨rfl, rfl, rfl⟩ := e
  obtain ⟨b, o, rfl, hb, hn, hcell⟩ := hx (ne_of_lt hi)
  obtain ⟨x, hx⟩ := get_lt hi
  exact ⟨b, o, x, rfl, rfl, hb, hn, hx, by simp [List.getD, hx], hcell i x hx⟩

set_option maxHeartbeats 1000000 in
set_option maxRecDepth 100000 in
theorem pass1_any (h i p : Nat) (at' : Nat) (d z : Int) (hd : doB d = true) (B nb : Nat) (rv : Value) (row : List Int) (w : World) (hh : Boxed w h 229 (holV d p)) (hi : Boxed w i 3 (.int .i64 (at' : Int))) (hp : Boxed w p 3 (.int .i64 z)) (hr : Ints w B nb rv row) (hat : at' < row.length) :
    Calls Tryz.prog 210 #[rv, .pointer (some ⟨h, 0, none⟩), .pointer (some ⟨i, 0, none⟩)] w fun e w' => e = .returned (.bool (tstB d z (row.getD at' 0))) ∧ w' = w.drew := by
  obtain ⟨a, c, rfl, hc, hl, hx⟩ := hr
  obtain ⟨b, o, x, rfl, _, hb, hn, hg, hgd, hcell⟩ := Ints.got ⟨a, c, rfl, hc, hl, hx⟩ hat
  have q1 := hh.cell
  have q2 := hi.cell
  have q3 := hp.cell
  have q3' : w.drew.cell? ⟨p, 0, none⟩ = some (.int .i64 z) := q3
  rw [hgd]
  clear hh hi hp hx hg hgd
  simp only [doB, decide_eq_true_eq] at hd
  by_cases h1 : d = 1
  · subst h1
    have kt := tst_any 1 z x p w.drew (by decide) q3'
    simp only [holV] at q1
    go_enter Tryz.func210, Tryz.ntmps210
    go_wp2
    go_region_held3 (fun w' => w'.cell? ⟨h, 0, none⟩ = some (.func (.func 227) #[] #[.pointer (some ⟨p, 0, none⟩)]) ∧ w'.cell? ⟨i, 0, none⟩ = some (.int .i64 (at' : Int)) ∧ w'.cell? ⟨b, o + at', none⟩ = some (.int .i64 x)) (first | assumption | (simp [go_sem, *]; done)) ((refine kt.mono ?_; rintro x3 w3 ⟨rfl, hw3⟩; subst hw3))
    go_wp2
    go_ret
    exact ⟨rfl, rfl⟩
  by_cases h2 : d = 2
  · subst h2
    have kt := tst_any 2 z x p w.drew (by decide) q3'
    simp only [holV] at q1
    go_enter Tryz.func210, Tryz.ntmps210
    go_wp2
    go_region_held3 (fun w' => w'.cell? ⟨h, 0, none⟩ = some (.func (.func 228) #[] #[.pointer (some ⟨p, 0, none⟩)]) ∧ w'.cell? ⟨i, 0, none⟩ = some (.int .i64 (at' : Int)) ∧ w'.cell? ⟨b, o + at', none⟩ = some (.int .i64 x)) (first | assumption | (simp [go_sem, *]; done)) ((refine kt.mono ?_; rintro x3 w3 ⟨rfl, hw3⟩; subst hw3))
    go_wp2
    go_ret
    exact ⟨rfl, rfl⟩
  by_cases h3 : d = 3
  · subst h3
    have kt := tst_any 3 z x p w.drew (by decide) q3'
    simp only [holV] at q1
    go_enter Tryz.func210, Tryz.ntmps210
    go_wp2
    go_region_held3 (fun w' => w'.cell? ⟨h, 0, none⟩ = some (.func (.func 229) #[] #[.pointer (some ⟨p, 0, none⟩)]) ∧ w'.cell? ⟨i, 0, none⟩ = some (.int .i64 (at' : Int)) ∧ w'.cell? ⟨b, o + at', none⟩ = some (.int .i64 x)) (first | assumption | (simp [go_sem, *]; done)) ((refine kt.mono ?_; rintro x3 w3 ⟨rfl, hw3⟩; subst hw3))
    go_wp2
    go_ret
    exact ⟨rfl, rfl⟩
  by_cases h4 : d = 4
  · subst h4
    have kt := tst_any 4 z x p w.drew (by decide) q3'
    simp only [holV] at q1
    go_enter Tryz.func210, Tryz.ntmps210
    go_wp2
    go_region_held3 (fun w' => w'.cell? ⟨h, 0, none⟩ = some (.func (.func 230) #[] #[.pointer (some ⟨p, 0, none⟩)]) ∧ w'.cell? ⟨i, 0, none⟩ = some (.int .i64 (at' : Int)) ∧ w'.cell? ⟨b, o + at', none⟩ = some (.int .i64 x)) (first | assumption | (simp [go_sem, *]; done)) ((refine kt.mono ?_; rintro x3 w3 ⟨rfl, hw3⟩; subst hw3))
    go_wp2
    go_ret
    exact ⟨rfl, rfl⟩
  by_cases h5 : d = 5
  · subst h5
    have kt := tst_any 5 z x p w.drew (by decide) q3'
    simp only [holV] at q1
    go_enter Tryz.func210, Tryz.ntmps210
    go_wp2
    go_region_held3 (fun w' => w'.cell? ⟨h, 0, none⟩ = some (.func (.func 231) #[] #[.pointer (some ⟨p, 0, none⟩)]) ∧ w'.cell? ⟨i, 0, none⟩ = some (.int .i64 (at' : Int)) ∧ w'.cell? ⟨b, o + at', none⟩ = some (.int .i64 x)) (first | assumption | (simp [go_sem, *]; done)) ((refine kt.mono ?_; rintro x3 w3 ⟨rfl, hw3⟩; subst hw3))
    go_wp2
    go_ret
    exact ⟨rfl, rfl⟩
  obtain rfl : d = 6 := by omega
  have kt := tst_any 6 z x p w.drew (by decide) q3'
  simp only [holV] at q1
  go_enter Tryz.func210, Tryz.ntmps210
  go_wp2
  go_region_held3 (fun w' => w'.cell? ⟨h, 0, none⟩ = some (.func (.func 232) #[] #[.pointer (some ⟨p, 0, none⟩)]) ∧ w'.cell? ⟨i, 0, none⟩ = some (.int .i64 (at' : Int)) ∧ w'.cell? ⟨b, o + at', none⟩ = some (.int .i64 x)) (first | assumption | (simp [go_sem, *]; done)) ((refine kt.mono ?_; rintro x3 w3 ⟨rfl, hw3⟩; subst hw3))
  go_wp2
  go_ret
  exact ⟨rfl, rfl⟩

/-- all tests, as functions, in a box -/
structure Pss (w : World) (A lo : Nat) (ps : List (Nat × Int × Int)) (sv : Value) (es : List (Value × Nat × Int × Int)) : Prop where
  box : Boxed w A 234 sv
  tcs : Tcs w lo sv es
  eq : es.map (·.2) = ps
theorem Pss.at {w w' : World} {A lo : Nat} {ps : List (Nat × Int × Int)} {sv : Value} {es : List (Value × Nat × Int × Int)} (h : Pss w A lo ps sv es) (hb : Below w.heap.size w w') : Pss w' A lo ps sv es := ⟨Boxed.at h.box hb, h.tcs.at hb, h.eq⟩

theorem pasB_step {es : List (Value × Nat × Int × Int)} {i : Nat} {e : Value × Nat × Int × Int} {r : List Int} (h : es[i]? = some e) : pasB ((es.drop i).map (·.2)) r = (tstB e.2.2.1 e.2.2.2 (r.getD e.2.1 0) && pasB ((es.drop (i + 1)).map (·.2)) r) := by
  rw [List.drop_eq_getElem_cons (List.getElem?_eq_some_iff.1 h).1, (List.getElem?_eq_some_iff.1 h).2]
  simp [pasB]

set_option maxHeartbeats 1000000 in
set_option maxRecDepth 100000 in
theorem pass2_any (A lo : Nat) (ps : List (Nat × Int × Int)) (sv : Value) (es : List (Value × Nat × Int × Int)) (w : World) (hP : Pss w A lo ps sv es) (hes : es.length ≤ 64) (B nb : Nat) (rv : Value) (row : List Int) (hB : B ≤ w.heap.size) (hr : Ints w B nb rv row) (hat : ∀ e ∈ ps, doB e.2.1 = true ∧ e.1 < row.length) (r : Bool) (hrr : pasB ps row = r) :
    Calls Tryz.prog 211 #[rv, .pointer (some ⟨A, 0, none⟩)] w fun e w' => e = .returned (.bool r) ∧ Below w.heap.size w w' := by
  have HP : Hid (Pss w A lo ps sv es) := hP
  have HRV : Hid (Ints w B nb rv row) := hr
  have HAT : Hid (∀ e ∈ ps, doB e.2.1 = true ∧ e.1 < row.length) := hat
  have HRR : Hid (pasB ((es.drop 0).map (·.2)) row = r) := by rw [List.drop_zero, hP.eq]; exact hrr
  have q0 := hP.box.cell
  obtain ⟨sa, sc, rfl⟩ := owns_slice hP.tcs.1
  obtain ⟨ra, rc, rfl, _⟩ := hr
  clear hP hat hrr
  go_enter Tryz.func211, Tryz.ntmps211
  go_wp2
  go_loopw [8] (fun s' wr => ∃ (i : Nat), s' = .int .i64 (i : Int) ∧ i ≤ es.length ∧ Hid (pasB ((es.drop i).map (·.2)) row = r) ∧ Below w.heap.size w wr) (fun s' _ => es.length - (intOf s').toNat)
  case atStart => exact ⟨0, rfl, Nat.zero_le _, HRR, Below.refl _ _⟩
  case round =>
    obtain ⟨i, rfl, hi, HI, hbl⟩ := hrel
    clear q0
    by_cases h1 : i < es.length
    · obtain ⟨e, he⟩ := get_lt h1
      have hTc := HP.out.tcs.at hbl
      obtain ⟨g, c', rfl, hg1, hg2⟩ : ∃ g c', sa = some ⟨g, 0, none⟩ ∧ c' = sc ∧ True := by
        obtain ⟨_, h2 | ⟨g, cap, cur, e1, _⟩⟩ := hTc.1
        · have := h2.2; omega
        · simp only [Value.slice.injEq] at e1; exact ⟨g, sc, e1.1, rfl, trivial⟩
      have hc0 : wr.cell? ⟨g, i, none⟩ = some e.1 := by
        have := World.ownsRow.cells hTc.1 (g := g) rfl i e.1 (by simp [he])
        rwa [Addr.add_lit, Nat.zero_add] at this
      obtain ⟨h, ii, p, hV, b1, b2, b3⟩ := hTc.2 e (List.mem_of_getElem? he)
      have hmem : e.2 ∈ ps := by rw [← HP.out.eq]; exact List.mem_map_of_mem (List.mem_of_getElem? he)
      obtain ⟨hd, ha⟩ := HAT.out _ hmem
      have HST : Hid (pasB ((es.drop i).map (·.2)) row = (tstB e.2.2.1 e.2.2.2 (row.getD e.2.1 0) && pasB ((es.drop (i + 1)).map (·.2)) row)) := pasB_step he
      have k1 := pass1_any h ii p e.2.1 e.2.2.1 e.2.2.2 hd B nb _ row wr b1 b2 b3 (HRV.out.at hB hbl) ha
      obtain ⟨tb, htb⟩ : ∃ tb, tstB e.2.2.1 e.2.2.2 (row.getD e.2.1 0) = tb := ⟨_, rfl⟩
      rw [htb] at k1
      rw [hV] at hc0
      have HB2 : Hid ((tb && pasB ((es.drop (i + 1)).map (·.2)) row) = r) := by rw [← htb, ← HST.out]; exact HI.out
      clear hTc b1 b2 b3 hd ha hmem htb hV HI
      cases tb with
      | false =>
        obtain rfl : false = r := by rw [← HB2.out]; rfl
        go_wp2_with fail
        refine k1.mono ?_
        rintro e w1 ⟨rfl, hw1⟩
        subst hw1
        go_wp2
        go_ret
        exact ⟨rfl, hbl.drew⟩
      | true =>
        have HI2 : Hid (pasB ((es.drop (i + 1)).map (·.2)) row = r) := by have := HB2.out; simpa [Hid] using this
        go_wp2_with fail
        refine k1.mono ?_
        rintro e w1 ⟨rfl, hw1⟩
        subst hw1
        go_wp2
        go_roundw
        case rel => exact ⟨i + 1, by go_num, h1, HI2, hbl.drew⟩
        case measure => simp [intOf]; omega
    · obtain rfl : true = r := by have := HI.out; rw [List.drop_of_length_le (by omega)] at this; exact this
      go_wp2
      go_ret
      exact ⟨rfl, hbl⟩
end Go.Proofs.YtlndlpjadajelaaGreat.K
