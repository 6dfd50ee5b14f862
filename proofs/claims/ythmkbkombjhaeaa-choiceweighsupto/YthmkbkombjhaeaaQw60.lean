import Derived.Test.YthmkbkombjhaeaaQw59
import Derived.BigQuiet
namespace Go.Proofs.Ythmkbkombjhaeaa
open Go.RowKit Go.Proofs.Ythmkbkombjhaeaa.Ds

/-- Score -/
def scoT (k : List Pt) (l : List Int) : Int × Int × Int :=
  if k.all (scB l) = true then (if (scT k l).2 = 0 then meanT (scT k l).1 0 else (0, 0, (scT k l).2)) else (0, 0, 8)
def Scs (k : List Pt) (l : List Int) (i : Nat) : Prop := (k.take i).all (scB l) = true
theorem Scs.step {k : List Pt} {l : List Int} {i : Nat} {p : Pt} (h : Scs k l i) (hp : k[i]? = some p) (hb : scB l p = true) : Scs k l (i + 1) := by
  unfold Scs at *
  rw [List.take_add_one, hp, List.all_append, h]
  simp [hb]
theorem Scs.hit {k : List Pt} {l : List Int} {i : Nat} {p : Pt} (hp : k[i]? = some p) (hb : scB l p = false) : scoT k l = (0, 0, 8) := by
  unfold scoT
  rw [if_neg]
  intro h
  have := List.all_eq_true.1 h p (List.mem_of_getElem? hp)
  rw [hb] at this
  cases this
theorem Scs.all {k : List Pt} {l : List Int} {i : Nat} (h : Scs k l i) (hi : k.length ≤ i) : k.all (scB l) = true := by
  unfold Scs at h
  rwa [List.take_of_length_le hi] at h

set_option maxHeartbeats 4000000 in
set_option maxRecDepth 100000 in
theorem score_any (B : Nat) (v u : Value) (ts : List Tr) (l : List Int) (w : World) (hB : B ≤ w.heap.size) (hp : Parts w B v ts) (hu : Num w B u l) (x y er : Int) (hr : scoT (rd ts) l = (x, y, er)) :
    Calls Try.prog 12 #[v, u] w fun e w' => e = .returned (.tuple #[.int .i64 x, .int .i64 y, .int .i64 er]) ∧ Below w.heap.size w w' := by
  have HP : Hid (Parts w B v ts) := hp
  have HU : Hid (Num w B u l) := hu
  have HR : Hid (scoT (rd ts) l = (x, y, er)) := hr
  obtain ⟨a, c, rfl, hc, htl, _⟩ := hp
  obtain ⟨ua, uc, rfl, huc, hul, _⟩ := hu
  clear hr
  go_enter Try.func12, Try.ntmps12
  go_wp2
  obtain ⟨w1, hw1⟩ : ∃ w1, w.alloc (.cells #[.slice ua l.length uc] 24) = w1 := ⟨_, rfl⟩
  have G1 : Below w.heap.size w w1 := hw1 ▸ ba _ _
  have k0 : w1.cell? ⟨w.heap.size, 0, none⟩ = some (.slice ua l.length uc) := by rw [← hw1]; simp [go_sem]
  have klt : w.heap.size < w1.heap.size := by rw [← hw1]; simp
  rw [hw1]
  clear hw1
  go_loopw [12] (fun iv wr => ∃ i : Nat, i ≤ ts.length ∧ iv = .int .i64 (i : Int) ∧ Hid (Scs (rd ts) l i) ∧ Below w1.heap.size w1 wr) (fun iv _ => ts.length - (intOf iv).toNat)
  case atStart => exact ⟨0, Nat.zero_le _, rfl, rfl, Below.refl _ _⟩
  case round =>
    obtain ⟨i, hi, rfl, HS, hbl⟩ := hrel
    by_cases h1 : i < ts.length
    · obtain ⟨b, o, sa, sc, xs, k, rfl, hb, hs, c1, c2, hIx⟩ := HP.out.get hB (bt G1 hbl) h1
      have HT : Hid ((rd ts)[i]? = some (xs, k)) := by show _ = _; simp [rd, hs]
      have j0 : wr.cell? ⟨w.heap.size, 0, none⟩ = some (.slice ua l.length uc) := (hbl.cell (p := ⟨w.heap.size, 0, none⟩) klt).trans k0
      have jlt : w.heap.size < wr.heap.size := by have := hbl.size; omega
      have jne : ¬ w.heap.size = wr.heap.size := by omega
      clear hs
      by_cases cl : xs.length = 1
      · obtain ⟨z, rfl⟩ : ∃ z, xs = [z] := List.length_eq_one_iff.1 cl
        obtain ⟨ia, ic, he, hic, _, hcell⟩ := hIx
        obtain ⟨bi, oi, rfl, hbi, _, hcell⟩ := hcell (by simp)
        have hz := hcell 0 z (by simp)
        simp only [Value.slice.injEq] at he
        obtain ⟨rfl, -, rfl⟩ := he
        simp only [List.length_singleton, Nat.add_zero] at hic hz ⊢
        clear hcell cl
        have hbi2 : bi < wr.heap.size := by have := hbl.size; have := G1.size; omega
        by_cases cz : z < 0
        · have hbad : scB l ([z], k) = false := by simp [scB]; omega
          have hx := HR.out
          rw [Scs.hit HT.out hbad] at hx
          simp only [Prod.mk.injEq] at hx
          obtain ⟨rfl, rfl, rfl⟩ := hx
          have d1 : decide (z < 0) = true := by simpa using cz
          have G2 := bt G1 hbl
          clear HS HT hbad
          go_wp2
          go_quiet (fail)
          go_wp2
          exact bodyPost_ret (v := .tuple #[.int .i64 0, .int .i64 0, .int .i64 8]) (by simp [results, Try.results12, go_sem]) rfl ⟨rfl, below_drewN (bal G2 _) _⟩
        · have d1 : decide (z < 0) = false := by simpa using cz
          by_cases cy : (l.length : Int) ≤ z
          · have hbad : scB l ([z], k) = false := by simp [scB]; omega
            have hx := HR.out
            rw [Scs.hit HT.out hbad] at hx
            simp only [Prod.mk.injEq] at hx
            obtain ⟨rfl, rfl, rfl⟩ := hx
            have d2 : decide ((l.length : Int) ≤ z) = true := by simpa using cy
            have G2 := bt G1 hbl
            clear HS HT hbad
            go_wp2
            go_quiet (fail)
            go_wp2
            exact bodyPost_ret (v := .tuple #[.int .i64 0, .int .i64 0, .int .i64 8]) (by simp [results, Try.results12, go_sem]) rfl ⟨rfl, below_drewN (bal G2 _) _⟩
          · have d2 : decide ((l.length : Int) ≤ z) = false := by simpa using cy
            have HS2 : Hid (Scs (rd ts) l (i + 1)) := HS.out.step HT.out (by simp [scB]; omega)
            have HB2 : Hid (Below w1.heap.size w1 wr) := hbl
            clear HS HT
            go_wp2
            go_quiet (fail)
            go_wp2
            go_roundw
            case rel => exact ⟨i + 1, h1, by go_num, HS2, below_drewN (bal HB2.out _) _⟩
            case measure => simp [intOf]; omega
      · have hbad : scB l (xs, k) = false := by simp [scB, cl]
        have hx := HR.out
        rw [Scs.hit HT.out hbad] at hx
        simp only [Prod.mk.injEq] at hx
        obtain ⟨rfl, rfl, rfl⟩ := hx
        have d1 : ((xs.length : Int) == 1) = false := beq_eq_false_iff_ne.2 (by omega)
        have d2 : ((xs.length : Int) != 1) = true := by simp only [bne, d1, Bool.not_false]
        have G2 := bt G1 hbl
        clear HS HT hbad
        go_wp2
        go_quiet (fail)
        go_wp2
        exact bodyPost_ret (v := .tuple #[.int .i64 0, .int .i64 0, .int .i64 8]) (by simp [results, Try.results12, go_sem]) rfl ⟨rfl, below_drewN (bal G2 _) _⟩
    · have hall := HS.out.all (by simp [rd]; omega)
      obtain ⟨⟨m, e1⟩, hm⟩ : ∃ z, scT (rd ts) l = z := ⟨_, rfl⟩
      have hx := HR.out
      unfold scoT at hx
      rw [if_pos hall, hm] at hx
      simp only at hx
      have HX : Hid ((if e1 = 0 then meanT m 0 else (0, 0, e1)) = (x, y, er)) := hx
      have G2 := bt G1 hbl
      have kd := dscore_any B w.heap.size (.slice a ts.length c) (.slice ua l.length uc) ts l wr (by have := G2.size; omega) (by have := hbl.size; omega) ((hbl.cell (p := ⟨w.heap.size, 0, none⟩) klt).trans k0) (HP.out.at hB G2) (HU.out.at hB G2) hall m e1 hm
      clear HS hall hm hx HR
      go_wp2_with fail
      refine kd.mono ?_
      rintro e w3 ⟨v3, us, rfl, h3, o3, b3⟩
      clear kd
      obtain ⟨a3, c3, rfl⟩ := o3.slice
      have G3 := bt G2 b3
      by_cases ce : e1 = 0
      · subst ce
        have hx := HX.out
        rw [if_pos rfl] at hx
        have km := mean_any w3.heap.size (.slice a3 us.length c3) 0 us w3 (Nat.le_refl _) o3.parts x y er (by rw [h3]; exact hx)
        clear hx HX h3 o3
        go_wp2_with fail
        refine km.mono ?_
        rintro e w4 ⟨rfl, b4⟩
        clear km
        have G4 := bt G3 b4
        go_wp2
        exact bodyPost_ret (v := .tuple #[.int .i64 x, .int .i64 y, .int .i64 er]) (by simp [results, Try.results12, go_sem]) rfl ⟨rfl, G4⟩
      · have c1 : (e1 == 0) = false := by simpa using ce
        have c2 : (e1 != 0) = true := by simpa using ce
        have hx := HX.out
        rw [if_neg ce] at hx
        simp only [Prod.mk.injEq] at hx
        obtain ⟨rfl, rfl, rfl⟩ := hx
        clear HX h3 o3
        go_wp2
        exact bodyPost_ret (v := .tuple #[.int .i64 0, .int .i64 0, .int .i64 e1]) (by simp [results, Try.results12, go_sem]) rfl ⟨rfl, G3⟩
end Go.Proofs.Ythmkbkombjhaeaa
