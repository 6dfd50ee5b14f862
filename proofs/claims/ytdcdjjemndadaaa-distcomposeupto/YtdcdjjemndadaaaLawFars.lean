import Derived.Test.YtdcdjjemndadaaaRff
namespace Go.Proofs.Ytdcdjjemndadaaa
open Go.RowKit Go.Proofs.Ytdcdjjemndadaaa.Ds

/-- a fraction in a cell of one's own -/
def Fc (b : Nat) (n m : Int) (W : World) : Prop :=
  W.cell? ⟨b, 0, none⟩ = some (.int .i64 n) ∧ W.cell? ⟨b, 1, none⟩ = some (.int .i64 m) ∧ W.frozen? ⟨b, 0, none⟩ = false ∧ W.frozen? ⟨b, 1, none⟩ = false
theorem fc_new (w : World) (n m : Int) : Fc w.heap.size n m (w.alloc (.cells #[.int .i64 n, .int .i64 m] 34)) := by
  refine ⟨?_, ?_, ?_, ?_⟩ <;> simp [go_sem]
theorem Fc.at {b : Nat} {n m : Int} {W W' : World} (h : Fc b n m W) (hb : Below W.heap.size W W') (hl : b < W.heap.size) : Fc b n m W' := by
  obtain ⟨h1, h2, h3, h4⟩ := h
  obtain ⟨hc, hf⟩ := bcell hb
  exact ⟨(hc _ 0 hl).trans h1, (hc _ 1 hl).trans h2, (hf _ 0 hl).trans h3, (hf _ 1 hl).trans h4⟩
theorem Fc.set {b : Nat} {n m : Int} {W : World} (h : Fc b n m W) (n' m' : Int) : Fc b n' m' ((W.setCell ⟨b, 0, none⟩ (.int .i64 n')).setCell ⟨b, 1, none⟩ (.int .i64 m')) := by
  obtain ⟨h1, h2, h3, h4⟩ := h
  refine ⟨(sc_other (by simp)).trans (sc_same h1), sc_same (u := .int .i64 m) ((sc_other (by simp)).trans h2), ?_, ?_⟩
  · rw [sc_frozen, sc_frozen]; exact h3
  · rw [sc_frozen, sc_frozen]; exact h4
theorem Fc.beside {b b' : Nat} {n m : Int} {W : World} (h : Fc b n m W) (hne : b ≠ b') (o : Nat) (u : Value) : Fc b n m (W.setCell ⟨b', o, none⟩ u) := by
  obtain ⟨h1, h2, h3, h4⟩ := h
  refine ⟨(sc_other (by simp)).trans h1, (sc_other (by simp)).trans h2, ?_, ?_⟩
  · rw [sc_frozen]; exact h3
  · rw [sc_frozen]; exact h4

set_option maxHeartbeats 4000000 in
set_option maxRecDepth 100000 in
theorem distFars_walk (B : Nat) (v0 v1 : Value) (ts us : List Tr) (w : World) (hB : B ≤ w.heap.size) (hp : Parts w B v0 ts) (hq : Parts w B v1 us) :
    Calls Try.prog 5 #[v0, v1] w fun e w' => e = .returned (.bool true) ∧ Below w.heap.size w w' := by
  have H0 : Hid (Parts w B v0 ts) := hp
  have H1 : Hid (Parts w B v1 us) := hq
  obtain ⟨a0, c0, rfl, _⟩ := hp
  obtain ⟨a1, c1, rfl, _⟩ := hq
  obtain ⟨⟨n1, m1, e1⟩, HF⟩ : ∃ x, Hid (farT (rd ts) (rd us) = x) := ⟨_, rfl⟩
  obtain ⟨⟨n2, m2, e2⟩, HA⟩ : ∃ x, Hid (apartT (rd ts) (rd us) = x) := ⟨_, rfl⟩
  go_enter Try.func5, Try.ntmps5
  go_wp2_with fail
  refine (far_any B _ _ ts us w hB H0.out H1.out n1 m1 e1 HF.out).mono ?_
  rintro e w1 ⟨rfl, hb1⟩
  go_wp2_with fail
  have G1 : Below w.heap.size w (w1.alloc (.cells #[.int .i64 n1, .int .i64 m1] 34)) := bal hb1 _
  have s1 := G1.size
  have HC1 : Hid (Fc w1.heap.size n1 m1 (w1.alloc (.cells #[.int .i64 n1, .int .i64 m1] 34))) := fc_new _ _ _
  have hs1 := hb1.size
  refine (farR_any B _ _ ts us _ (Nat.le_trans hB s1) (H0.out.at hB G1) (H1.out.at hB G1) n1 m1 e1 HF.out).mono ?_
  rintro e w2 ⟨rfl, hb2⟩
  have HC2 : Hid (Fc w1.heap.size n1 m1 w2) := HC1.out.at hb2 (by simp)
  have G2 : Below w.heap.size w w2 := bt G1 hb2
  have s2 : w1.heap.size < w2.heap.size := by have := hb2.size; simp at this; omega
  have HC2' : Hid (Fc w2.heap.size n1 m1 (w2.alloc (.cells #[.int .i64 n1, .int .i64 m1] 34))) := fc_new _ _ _
  have HC1' : Hid (Fc w1.heap.size n1 m1 (w2.alloc (.cells #[.int .i64 n1, .int .i64 m1] 34))) := HC2.out.at (ba _ _) (by omega)
  obtain ⟨k1, k2, _, _⟩ := HC2.out
  clear hb1 hb2 G1 s1 HC1
  go_wp2_with fail
  have G3 : Below w.heap.size w (w2.alloc (.cells #[.int .i64 n1, .int .i64 m1] 34)) := bal G2 _
  refine (apart_any B _ _ ts us _ (Nat.le_trans hB G3.size) (H0.out.at hB G3) (H1.out.at hB G3) n2 m2 e2 HA.out).mono ?_
  rintro e w3 ⟨rfl, hb3⟩
  have HC3 : Hid (Fc w1.heap.size n1 m1 w3) := HC1'.out.at hb3 (by simp; omega)
  have HC3' : Hid (Fc w2.heap.size n1 m1 w3) := HC2'.out.at hb3 (by simp)
  have G4 : Below w.heap.size w w3 := bt G3 hb3
  have s3 : w2.heap.size < w3.heap.size := by have := hb3.size; simp at this; omega
  obtain ⟨l1, l2, l3, l4⟩ := HC3.out
  clear k1 k2 hb3 G2 G3 HC2 HC2' HC1'
  go_wp2_with fail
  have HC4 : Hid (Fc w1.heap.size n2 m2 ((w3.setCell ⟨w1.heap.size, 0, none⟩ (.int .i64 n2)).setCell ⟨w1.heap.size, 1, none⟩ (.int .i64 m2))) := HC3.out.set _ _
  have HC4' : Hid (Fc w2.heap.size n1 m1 ((w3.setCell ⟨w1.heap.size, 0, none⟩ (.int .i64 n2)).setCell ⟨w1.heap.size, 1, none⟩ (.int .i64 m2))) := (HC3'.out.beside (by omega) _ _).beside (by omega) _ _
  obtain ⟨W, hW⟩ : ∃ W, (w3.setCell ⟨w1.heap.size, 0, none⟩ (.int .i64 n2)).setCell ⟨w1.heap.size, 1, none⟩ (.int .i64 m2) = W := ⟨_, rfl⟩
  have G5 : Below w.heap.size w W := by rw [← hW]; exact bs (bs G4 (by simp; omega) _) (by simp; omega) _
  have s4 : W.heap.size = w3.heap.size := by rw [← hW]; simp
  rw [hW] at HC4 HC4' ⊢
  clear hW
  refine (apartR_any B _ _ ts us _ (Nat.le_trans hB G5.size) (H0.out.at hB G5) (H1.out.at hB G5) n2 m2 e2 HA.out).mono ?_
  rintro e w5 ⟨rfl, hb5⟩
  have HC5 : Hid (Fc w1.heap.size n2 m2 w5) := HC4.out.at hb5 (by omega)
  have HC5' : Hid (Fc w2.heap.size n1 m1 w5) := HC4'.out.at hb5 (by omega)
  have G6 : Below w.heap.size w w5 := bt G5 hb5
  obtain ⟨j1, j2, j3, j4⟩ := HC5.out
  obtain ⟨i1, i2, i3, i4⟩ := HC5'.out
  have ne : ¬ w1.heap.size = w2.heap.size := by omega
  have ne' : ¬ w2.heap.size = w1.heap.size := by omega
  clear hb5 HC3 HC3' HC4 HC4' HC5 HC5' G4 G5 l1 l2 l3 l4
  go_wp2
  go_ret
  exact ⟨rfl, bs (bs G6 (by simp; omega) _) (by simp; omega) _⟩
end Go.Proofs.Ytdcdjjemndadaaa
