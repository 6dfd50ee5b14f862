import Derived.Test.YtlndlpjadajelaaGreatQt04
import Derived.Deep.RegionHeld3
namespace Go.Proofs.YtlndlpjadajelaaGreat
open Go.RowKit Go.Proofs.YtlndlpjadajelaaGreat.Ds

/-- a part that is nothing yet -/
abbrev no : Tr := (.slice none 0 0, [], 0)

theorem row_made (w : World) (n : Nat) : Row (w.alloc (.cells (madeCells #[.slice none 0 0, .int .i64 0] (n * 2)) 82)) w.heap.size 0 (List.replicate n no) := by
  have hc : ∀ j, j < n * 2 → (w.alloc (.cells (madeCells #[.slice none 0 0, .int .i64 0] (n * 2)) 82)).cell? ⟨w.heap.size, j, none⟩ = some (#[Value.slice none 0 0, .int .i64 0][j % 2]!) := by
    intro j hj
    rw [World.cell?_alloc_at _ _ _ _ rfl]
    simp [madeCells, hj]
  refine ⟨fun i t ht => ?_, fun j _ => World.frozen?_alloc_at _ _ _ _ rfl, by simp⟩
  have hi : i < n := by have := (List.getElem?_eq_some_iff.1 ht).1; simpa using this
  obtain rfl : t = no := by
    have := (List.getElem?_eq_some_iff.1 ht).2; simp at this; exact this.symm
  refine ⟨?_, ?_⟩
  · rw [show 0 + i * 2 = i * 2 by omega, hc _ (by omega)]; simp
  · rw [show 0 + i * 2 + 1 = i * 2 + 1 by omega, hc _ (by omega)]
    rw [show (i * 2 + 1) % 2 = 1 by omega]; rfl

theorem setCells2 (w : World) (b o : Nat) (u v : Value) : w.setCells b o [u, v] = (w.setCell ⟨b, o, none⟩ u).setCell ⟨b, o + 1, none⟩ v := rfl

theorem take_set_succ {α : Type} {l : List α} {i : Nat} (x : α) (h : i < l.length) : (l.set i x).take (i + 1) = l.take i ++ [x] := by
  rw [List.take_add_one, List.take_set_of_le (Nat.le_refl _), List.getElem?_set_self h]; rfl

theorem Row.set0 {w : World} {b : Nat} {us : List Tr} (h : Row w b 0 us) {i : Nat} (hi : i < us.length) (s : Value) (xs : List Int) (k : Int) :
    Row ((w.setCell ⟨b, i * 2, none⟩ s).setCell ⟨b, i * 2 + 1, none⟩ (.int .i64 k)) b 0 (us.set i (s, xs, k)) := by
  have := h.setP hi (s, xs, k)
  rw [setCells2, Nat.zero_add] at this
  exact this

theorem Ints.set {w : World} {B nb : Nat} {v : Value} {xs : List Int} (h : Ints w B nb v xs) {p : Addr} (hp : p.block = nb) (u : Value) : Ints (w.setCell p u) B nb v xs := by
  obtain ⟨a, c, hv, hc, hl, hx⟩ := h
  refine ⟨a, c, hv, hc, hl, fun hne => ?_⟩
  obtain ⟨b, o, ha, hb, hn, hcell⟩ := hx hne
  refine ⟨b, o, ha, hb, hn, fun i x hi => ?_⟩
  rw [sc_other (by intro h; rw [h] at hp; exact hn hp)]
  exact hcell i x hi

theorem rd_set (us : List Tr) (i : Nat) (t : Tr) : rd (us.set i t) = (rd us).set i t.2 := by simp [rd, List.map_set]

theorem Ints.at2 {w w' : World} {nb : Nat} {v : Value} {xs : List Int} (h : Ints w w.heap.size nb v xs) (hb : Below w.heap.size w w') : Ints w' w'.heap.size nb v xs :=
  (h.keep hb).mono hb.size (.inl rfl)

set_option maxHeartbeats 1000000 in
theorem copied_fr (B : Nat) (v : Value) (ts : List Tr) (w : World) (hB : B ≤ w.heap.size) (hp : Parts w B v ts) :
    Calls Tryz.prog 207 #[v] w fun e w' => ∃ v' us, e = .returned v' ∧ Own w' w.heap.size v' us ∧ rd us = rd ts ∧ Below w.heap.size w w' ∧ Frs w.heap.size us := by
  have HP : Hid (Parts w B v ts) := hp
  obtain ⟨a, c, rfl, hc, hl, _⟩ := hp
  obtain ⟨i0, hi, hz0, hz1, hz2⟩ := info_parts info32
  have hmk : ∀ u : World, (Instr.makeSlice 44 (.int .i64 (ts.length : Int)) (.int .i64 (ts.length : Int))).run Tryz.prog u =
      .ok (.slice (some ⟨u.heap.size, 0, none⟩) ts.length ts.length) (u.alloc (.cells (madeCells #[.slice none 0 0, .int .i64 0] (ts.length * 2)) 82)) := fun u => by
    have h := run_make (P := Tryz.prog) u 44 82 i0 (.agg #[.slice none 0 0, .int .i64 0]) Tryz.underlying44 hi hz0 .i64 .i64 (ts.length : Int) (ts.length : Int) (by omega) (Int.le_refl _) (by rw [hz2]; omega) (by omega)
    rw [Int.toNat_natCast] at h
    simpa [hz1, Value.cells] using h
  go_enter Tryz.func207, Tryz.ntmps207
  go_wp2
  go_loopw [11] (fun s wr => ∃ (i : Nat) (us : List Tr), s = .int .i64 (i : Int) ∧ i ≤ ts.length ∧ us.length = ts.length ∧ (rd us).take i = (rd ts).take i ∧ Row wr w.heap.size 0 us ∧ (∀ t ∈ us, Ints wr wr.heap.size w.heap.size t.1 t.2.1) ∧ Below w.heap.size w wr ∧ Hid (Frs w.heap.size us)) (fun s _ => ts.length - (intOf s).toNat)
  case atStart =>
    refine ⟨0, List.replicate ts.length no, rfl, Nat.zero_le _, by simp, by simp, row_made _ _, fun t ht => ?_, ba _ _, fun t ht hne => ?_⟩
    · rw [List.eq_of_mem_replicate ht]
      exact ints_nil _ _ _
    · rw [List.eq_of_mem_replicate ht] at hne
      exact absurd rfl hne
  case round =>
    obtain ⟨i, us, rfl, hit, hul, htk, hrow, hI, hbl, HFR⟩ := hrel
    have HT : Hid ((rd us).take i = (rd ts).take i) := htk
    clear htk
    by_cases h1 : i < ts.length
    · obtain ⟨b, o, sa, sc, xs, k, rfl, hb, hs, c1, c2, hIx⟩ := HP.out.get hB hbl h1
      have HS : Hid (ts[i]? = some (.slice sa xs.length sc, xs, k)) := hs
      obtain ⟨t0, ht0⟩ := get_lt (l := us) (i := i) (by omega)
      have r1 := hrow.cells i t0 ht0
      have r2 := hrow.thaw (i * 2) (by omega)
      have r3 := hrow.thaw (i * 2 + 1) (by omega)
      have HR : Hid (Row wr w.heap.size 0 us) := hrow
      have HI : Hid (∀ t ∈ us, Ints wr wr.heap.size w.heap.size t.1 t.2.1) := hI
      have HIx : Hid (Ints wr B B (.slice sa xs.length sc) xs) := hIx
      have hs1 := hbl.size
      have hlt := hrow.lt
      obtain ⟨r4, r5⟩ := r1
      simp only [Nat.zero_add] at r2 r3 r4 r5
      obtain ⟨v0, hv0⟩ : ∃ v0, t0.1 = v0 := ⟨_, rfl⟩
      rw [hv0] at r4
      clear hs hrow hI hIx ht0 hv0
      have r6 : ∀ o, (wr.alloc o).cell? ⟨w.heap.size, i * 2, none⟩ = some v0 := fun o => by rw [World.cell?_alloc_lt _ _ _ hlt]; exact r4
      have r7 : ∀ o, (wr.alloc o).cell? ⟨w.heap.size, i * 2 + 1, none⟩ = some (.int .i64 t0.2.2) := fun o => by rw [World.cell?_alloc_lt _ _ _ hlt]; exact r5
      have r8 : ∀ o, (wr.alloc o).frozen? ⟨w.heap.size, i * 2, none⟩ = false := fun o => by rw [(ba wr o).frozen hlt]; exact r2
      have r9 : ∀ o, (wr.alloc o).frozen? ⟨w.heap.size, i * 2 + 1, none⟩ = false := fun o => by rw [(ba wr o).frozen hlt]; exact r3
      go_wp2_with fail
      generalize hO : Obj.cells #[Value.slice sa xs.length sc, Value.int IntKind.i64 k] 82 = O
      have g1 : (wr.alloc O).cell? ⟨wr.heap.size, 0, none⟩ = some (.slice sa xs.length sc) := by rw [← hO]; simp [go_sem]
      have g2 : (wr.alloc O).cell? ⟨wr.heap.size, 1, none⟩ = some (.int .i64 k) := by rw [← hO]; simp [go_sem]
      have g3 := r6 O
      have g4 := r7 O
      have g5 := r8 O
      have g6 := r9 O
      have g7 : (wr.alloc O).heap.size = wr.heap.size + 1 := by simp
      obtain ⟨W, hW⟩ : ∃ W, wr.alloc O = W := ⟨_, rfl⟩
      have HW : Hid (Below wr.heap.size wr W) := hW ▸ ba wr O
      rw [hW] at g1 g2 g3 g4 g5 g6 g7 ⊢
      clear r2 r3 r4 r5 r6 r7 r8 r9 hO hW
      have HB : Below w.heap.size w W := bt hbl HW.out
      have ne1 : ¬ w.heap.size = wr.heap.size := by omega
      have ne2 : ¬ wr.heap.size = w.heap.size := by omega
      have lw1 : w.heap.size < W.heap.size := by omega
      have lw2 : wr.heap.size < W.heap.size := by omega
      go_region_held3 (fun w' => Below w.heap.size w w' ∧ w'.cell? ⟨wr.heap.size, 0, none⟩ = some (.slice sa xs.length sc) ∧ w'.cell? ⟨wr.heap.size, 1, none⟩ = some (.int .i64 k))
        ((go_split_ands; refine ⟨?_, ?_, ?_⟩ <;> first | (simp [go_sem, *]; done) | (exact HB.drew) | (exact bt HB.drew hb1) | (exact bs (bs (bt HB.drew hb1) (Nat.le_refl _) _) (Nat.le_refl _) _)))
        ((go_at_call 140; refine (cloneN_any B B _ xs _ ?_ ?_).mono ?_; (have := HW.out.size; show B ≤ W.heap.size; omega); (exact HIx.out.at (by omega) HW.out.drew); rintro x1 w1 ⟨v', rfl, hI1, hb1⟩; obtain ⟨av, cv, hv1, _⟩ := hI1 0 (by show 0 < W.heap.size; omega); subst hv1; obtain ⟨hc1, hf1⟩ := bcell hb1; have hs1' := hb1.size;
          have k1 : w1.cell? ⟨w.heap.size, i * 2, none⟩ = some v0 := (hc1 _ _ lw1).trans g3; have k2 : w1.cell? ⟨w.heap.size, i * 2 + 1, none⟩ = some (.int .i64 t0.2.2) := (hc1 _ _ lw1).trans g4; have k3 : w1.frozen? ⟨w.heap.size, i * 2, none⟩ = false := (hf1 _ _ lw1).trans g5; have k4 : w1.frozen? ⟨w.heap.size, i * 2 + 1, none⟩ = false := (hf1 _ _ lw1).trans g6; have k5 : w1.cell? ⟨wr.heap.size, 0, none⟩ = some (.slice sa xs.length sc) := (hc1 _ _ lw2).trans g1; have k6 : w1.cell? ⟨wr.heap.size, 1, none⟩ = some (.int .i64 k) := (hc1 _ _ lw2).trans g2; clear hc1 hf1))
      have HB1 : Below wr.heap.size wr w1 := bt HW.out.drew hb1
      have HR1 : Hid (Row w1 w.heap.size 0 us) := HR.out.keep HB1
      have HI1 : Hid (∀ t ∈ us, Ints w1 w1.heap.size w.heap.size t.1 t.2.1) := fun t ht => (HI.out t ht).at2 HB1
      have HV1 : Hid (Ints w1 w1.heap.size w.heap.size (.slice av xs.length cv) xs) := hI1 _ lw1
      have HZ1 : Hid (Below w.heap.size w w1) := bt hbl HB1
      have HFR2 : Hid (Frs w.heap.size (us.set i (.slice av xs.length cv, xs, k))) := by
        intro t ht
        rcases List.mem_or_eq_of_mem_set ht with h | rfl
        · exact HFR.out t h
        · exact fr_of (w := w1) (B := w1.heap.size) fun m hm => hI1 m (by show m < W.heap.size; omega)
      clear hI1 hb1 HB1 k1 k2 k3 k4 k5 k6 g1 g2 g3 g4 g5 g6
      go_wp2
      go_roundw
      case rel =>
        refine ⟨i + 1, us.set i (.slice av xs.length cv, xs, k), by go_num, h1, by simp [hul], ?_, HR1.out.set0 (by omega) _ xs k, fun t ht => ?_, bs (bs HZ1.out (Nat.le_refl _) _) (Nat.le_refl _) _, HFR2⟩
        · rw [rd_set, take_set_succ _ (by rw [rd_len]; omega), HT.out, List.take_add_one, rd_get HS.out]; rfl
        · have hI2 : Ints w1 w1.heap.size w.heap.size t.1 t.2.1 := by
            rcases List.mem_or_eq_of_mem_set ht with h | rfl
            · exact HI1.out t h
            · exact HV1.out
          have := (hI2.set (p := ⟨w.heap.size, i * 2, none⟩) rfl (.slice av xs.length cv)).set (p := ⟨w.heap.size, i * 2 + 1, none⟩) rfl (.int .i64 k)
          simpa using this
      case measure => simp [intOf]; omega
    · have hii : i = ts.length := by omega
      have hrd : rd us = rd ts := by have := HT.out; rwa [rd_take_all hii, rd_take_all (by omega)] at this
      have HR : Hid (Row wr w.heap.size 0 us) := hrow
      have HI : Hid (∀ t ∈ us, Ints wr wr.heap.size w.heap.size t.1 t.2.1) := hI
      have HD : Hid (rd us = rd ts) := hrd
      have HU : Hid (us.length = ts.length) := hul
      clear hrow hI hrd hul
      go_wp2
      go_ret
      exact ⟨.slice (some ⟨w.heap.size, 0, none⟩) ts.length ts.length, us, rfl, ⟨w.heap.size, 0, ts.length, by rw [HU.out], by rw [HU.out]; exact Nat.le_refl _, by rw [HU.out]; exact hl, Nat.le_refl _, HR.out, HI.out⟩, HD.out, hbl, HFR.out⟩
theorem copied_any (B : Nat) (v : Value) (ts : List Tr) (w : World) (hB : B ≤ w.heap.size) (hp : Parts w B v ts) :
    Calls Tryz.prog 207 #[v] w fun e w' => ∃ v' us, e = .returned v' ∧ Own w' w.heap.size v' us ∧ rd us = rd ts ∧ Below w.heap.size w w' :=
  (copied_fr B v ts w hB hp).mono fun _ _ ⟨v', us, h1, h2, h3, h4, _⟩ => ⟨v', us, h1, h2, h3, h4⟩
end Go.Proofs.YtlndlpjadajelaaGreat
