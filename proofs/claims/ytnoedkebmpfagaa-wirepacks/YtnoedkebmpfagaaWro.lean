import Derived.Test.YtnoedkebmpfagaaWrn
/-
  The reference's Unpack, of any text.
-/
namespace Go.Proofs.Ytnoedkebmpfagaa
open Go.RowKit Wc

set_option maxHeartbeats 4000000 in
set_option maxRecDepth 100000 in
theorem refunp_long (t : By) (ht : 65536 < t.length) (w : World) (m : Msg) (er' : Int) (hu : unpT t = (m, er')) :
    Calls Try.prog 10 #[.string (tx t)] w fun e w' => ∃ sv, e = .returned (.tuple #[mv m sv, .int .i64 er']) ∧ Num w' w'.heap.size sv m.vals ∧ Below w.heap.size w w' := by
  have hsz := tx_size t
  have d1 : (65536 : Int) < (t.length : Int) := by omega
  have HU : Hid (m = msgZ ∧ er' = 4) := by
    unfold unpT at hu
    rw [if_pos ht] at hu
    simp only [Prod.mk.injEq] at hu
    exact ⟨hu.1.symm, hu.2.symm⟩
  clear hu
  obtain ⟨W, hW⟩ : ∃ W, w.alloc (.cells #[.int .i64 0, .string ⟨#[]⟩, .int .i64 0, .string ⟨#[]⟩, .string ⟨#[]⟩, .int .i64 0, .int .i64 0, .int .i64 0, .int .i64 0, .int .i64 0, .slice none 0 0, .int .i64 0, .int .i64 0] 27) = W := ⟨_, rfl⟩
  have bW : Hid (Below w.heap.size w W) := by rw [Hid, ← hW]; exact ba _ _
  have HZ : Hid (Bx W w.heap.size [.int .i64 0, .string ⟨#[]⟩, .int .i64 0, .string ⟨#[]⟩, .string ⟨#[]⟩, .int .i64 0, .int .i64 0, .int .i64 0, .int .i64 0, .int .i64 0, .slice none 0 0, .int .i64 0, .int .i64 0]) := by rw [Hid, ← hW]; exact Bx.new w _ 27 rfl
  have v0 := (HZ.out 0 _ rfl).c
  have vf0 := (HZ.out 0 _ rfl).f
  have v1 := (HZ.out 1 _ rfl).c
  have vf1 := (HZ.out 1 _ rfl).f
  have v2 := (HZ.out 2 _ rfl).c
  have vf2 := (HZ.out 2 _ rfl).f
  have v3 := (HZ.out 3 _ rfl).c
  have vf3 := (HZ.out 3 _ rfl).f
  have v4 := (HZ.out 4 _ rfl).c
  have vf4 := (HZ.out 4 _ rfl).f
  have v5 := (HZ.out 5 _ rfl).c
  have vf5 := (HZ.out 5 _ rfl).f
  have v6 := (HZ.out 6 _ rfl).c
  have vf6 := (HZ.out 6 _ rfl).f
  have v7 := (HZ.out 7 _ rfl).c
  have vf7 := (HZ.out 7 _ rfl).f
  have v8 := (HZ.out 8 _ rfl).c
  have vf8 := (HZ.out 8 _ rfl).f
  have v9 := (HZ.out 9 _ rfl).c
  have vf9 := (HZ.out 9 _ rfl).f
  have v10 := (HZ.out 10 _ rfl).c
  have vf10 := (HZ.out 10 _ rfl).f
  have v11 := (HZ.out 11 _ rfl).c
  have vf11 := (HZ.out 11 _ rfl).f
  have v12 := (HZ.out 12 _ rfl).c
  have vf12 := (HZ.out 12 _ rfl).f
  obtain ⟨Y, hY⟩ : ∃ Y, (((((((((((((W.setCell ⟨w.heap.size, 0, none⟩ (.int .i64 0)).setCell ⟨w.heap.size, 1, none⟩ (.string ⟨#[]⟩)).setCell ⟨w.heap.size, 2, none⟩ (.int .i64 0)).setCell ⟨w.heap.size, 3, none⟩ (.string ⟨#[]⟩)).setCell ⟨w.heap.size, 4, none⟩ (.string ⟨#[]⟩)).setCell ⟨w.heap.size, 5, none⟩ (.int .i64 0)).setCell ⟨w.heap.size, 6, none⟩ (.int .i64 0)).setCell ⟨w.heap.size, 7, none⟩ (.int .i64 0)).setCell ⟨w.heap.size, 8, none⟩ (.int .i64 0)).setCell ⟨w.heap.size, 9, none⟩ (.int .i64 0)).setCell ⟨w.heap.size, 10, none⟩ (.slice none 0 0)).setCell ⟨w.heap.size, 11, none⟩ (.int .i64 0)).setCell ⟨w.heap.size, 12, none⟩ (.int .i64 0)) = Y := ⟨_, rfl⟩
  have hYB : Bx Y w.heap.size [.int .i64 0, .string ⟨#[]⟩, .int .i64 0, .string ⟨#[]⟩, .string ⟨#[]⟩, .int .i64 0, .int .i64 0, .int .i64 0, .int .i64 0, .int .i64 0, .slice none 0 0, .int .i64 0, .int .i64 0] := by rw [← hY]; exact (((((((((((((HZ.out.set (i := 0) (by simp) (.int .i64 0)).set (i := 1) (by simp) (.string ⟨#[]⟩)).set (i := 2) (by simp) (.int .i64 0)).set (i := 3) (by simp) (.string ⟨#[]⟩)).set (i := 4) (by simp) (.string ⟨#[]⟩)).set (i := 5) (by simp) (.int .i64 0)).set (i := 6) (by simp) (.int .i64 0)).set (i := 7) (by simp) (.int .i64 0)).set (i := 8) (by simp) (.int .i64 0)).set (i := 9) (by simp) (.int .i64 0)).set (i := 10) (by simp) (.slice none 0 0)).set (i := 11) (by simp) (.int .i64 0)).set (i := 12) (by simp) (.int .i64 0))
  have HYB : Hid (Below w.heap.size w Y) := by rw [Hid, ← hY]; exact (bs ((bs ((bs ((bs ((bs ((bs ((bs ((bs ((bs ((bs ((bs ((bs ((bs (bW.out) (p := ⟨w.heap.size, 0, none⟩) (Nat.le_refl _) _)) (p := ⟨w.heap.size, 1, none⟩) (Nat.le_refl _) _)) (p := ⟨w.heap.size, 2, none⟩) (Nat.le_refl _) _)) (p := ⟨w.heap.size, 3, none⟩) (Nat.le_refl _) _)) (p := ⟨w.heap.size, 4, none⟩) (Nat.le_refl _) _)) (p := ⟨w.heap.size, 5, none⟩) (Nat.le_refl _) _)) (p := ⟨w.heap.size, 6, none⟩) (Nat.le_refl _) _)) (p := ⟨w.heap.size, 7, none⟩) (Nat.le_refl _) _)) (p := ⟨w.heap.size, 8, none⟩) (Nat.le_refl _) _)) (p := ⟨w.heap.size, 9, none⟩) (Nat.le_refl _) _)) (p := ⟨w.heap.size, 10, none⟩) (Nat.le_refl _) _)) (p := ⟨w.heap.size, 11, none⟩) (Nat.le_refl _) _)) (p := ⟨w.heap.size, 12, none⟩) (Nat.le_refl _) _)
  have p0 := (hYB 0 _ rfl).c
  have p1 := (hYB 1 _ rfl).c
  have p2 := (hYB 2 _ rfl).c
  have p3 := (hYB 3 _ rfl).c
  have p4 := (hYB 4 _ rfl).c
  have p5 := (hYB 5 _ rfl).c
  have p6 := (hYB 6 _ rfl).c
  have p7 := (hYB 7 _ rfl).c
  have p8 := (hYB 8 _ rfl).c
  have p9 := (hYB 9 _ rfl).c
  have p10 := (hYB 10 _ rfl).c
  have p11 := (hYB 11 _ rfl).c
  have p12 := (hYB 12 _ rfl).c
  clear hYB
  go_enter Try.func10, Try.ntmps10
  go_wp2
  (try simp only [Exit.inBlock, Exit.then])
  refine bodyPost_ret (v := .tuple #[.agg #[.int .i64 0, .string ⟨#[]⟩, .int .i64 0, .string ⟨#[]⟩, .string ⟨#[]⟩, .int .i64 0, .int .i64 0, .int .i64 0, .int .i64 0, .int .i64 0, .slice none 0 0, .int .i64 0, .int .i64 0], .int .i64 4]) (by simp [results, Try.results10, go_sem, p0, p1, p2, p3, p4, p5, p6, p7, p8, p9, p10, p11, p12]) rfl ?_
  obtain ⟨rfl, rfl⟩ := HU.out
  exact ⟨_, rfl, num_nil _ _, HYB.out⟩
set_option maxHeartbeats 4000000 in
set_option maxRecDepth 100000 in
theorem refunp_nil (w : World) (m : Msg) (er' : Int) (hu : unpT [] = (m, er')) :
    Calls Try.prog 10 #[.string (tx [])] w fun e w' => ∃ sv, e = .returned (.tuple #[mv m sv, .int .i64 er']) ∧ Num w' w'.heap.size sv m.vals ∧ Below w.heap.size w w' := by
  have hsz := tx_size []
  have HU : Hid (m = msgZ ∧ er' = 2) := by
    have e : unpT [] = (msgZ, 2) := by simp [unpT, msgR, bd, nxR]
    rw [e] at hu
    simp only [Prod.mk.injEq] at hu
    exact ⟨hu.1.symm, hu.2.symm⟩
  clear hu
  obtain ⟨W, hW⟩ : ∃ W, w.alloc (.cells #[.int .i64 0, .string ⟨#[]⟩, .int .i64 0, .string ⟨#[]⟩, .string ⟨#[]⟩, .int .i64 0, .int .i64 0, .int .i64 0, .int .i64 0, .int .i64 0, .slice none 0 0, .int .i64 0, .int .i64 0] 27) = W := ⟨_, rfl⟩
  have bW : Hid (Below w.heap.size w W) := by rw [Hid, ← hW]; exact ba _ _
  have HZ : Hid (Bx W w.heap.size [.int .i64 0, .string ⟨#[]⟩, .int .i64 0, .string ⟨#[]⟩, .string ⟨#[]⟩, .int .i64 0, .int .i64 0, .int .i64 0, .int .i64 0, .int .i64 0, .slice none 0 0, .int .i64 0, .int .i64 0]) := by rw [Hid, ← hW]; exact Bx.new w _ 27 rfl
  have v0 := (HZ.out 0 _ rfl).c
  have vf0 := (HZ.out 0 _ rfl).f
  have v1 := (HZ.out 1 _ rfl).c
  have vf1 := (HZ.out 1 _ rfl).f
  have v2 := (HZ.out 2 _ rfl).c
  have vf2 := (HZ.out 2 _ rfl).f
  have v3 := (HZ.out 3 _ rfl).c
  have vf3 := (HZ.out 3 _ rfl).f
  have v4 := (HZ.out 4 _ rfl).c
  have vf4 := (HZ.out 4 _ rfl).f
  have v5 := (HZ.out 5 _ rfl).c
  have vf5 := (HZ.out 5 _ rfl).f
  have v6 := (HZ.out 6 _ rfl).c
  have vf6 := (HZ.out 6 _ rfl).f
  have v7 := (HZ.out 7 _ rfl).c
  have vf7 := (HZ.out 7 _ rfl).f
  have v8 := (HZ.out 8 _ rfl).c
  have vf8 := (HZ.out 8 _ rfl).f
  have v9 := (HZ.out 9 _ rfl).c
  have vf9 := (HZ.out 9 _ rfl).f
  have v10 := (HZ.out 10 _ rfl).c
  have vf10 := (HZ.out 10 _ rfl).f
  have v11 := (HZ.out 11 _ rfl).c
  have vf11 := (HZ.out 11 _ rfl).f
  have v12 := (HZ.out 12 _ rfl).c
  have vf12 := (HZ.out 12 _ rfl).f
  obtain ⟨Y, hY⟩ : ∃ Y, (((((((((((((W.setCell ⟨w.heap.size, 0, none⟩ (.int .i64 0)).setCell ⟨w.heap.size, 1, none⟩ (.string ⟨#[]⟩)).setCell ⟨w.heap.size, 2, none⟩ (.int .i64 0)).setCell ⟨w.heap.size, 3, none⟩ (.string ⟨#[]⟩)).setCell ⟨w.heap.size, 4, none⟩ (.string ⟨#[]⟩)).setCell ⟨w.heap.size, 5, none⟩ (.int .i64 0)).setCell ⟨w.heap.size, 6, none⟩ (.int .i64 0)).setCell ⟨w.heap.size, 7, none⟩ (.int .i64 0)).setCell ⟨w.heap.size, 8, none⟩ (.int .i64 0)).setCell ⟨w.heap.size, 9, none⟩ (.int .i64 0)).setCell ⟨w.heap.size, 10, none⟩ (.slice none 0 0)).setCell ⟨w.heap.size, 11, none⟩ (.int .i64 0)).setCell ⟨w.heap.size, 12, none⟩ (.int .i64 0)) = Y := ⟨_, rfl⟩
  have hYB : Bx Y w.heap.size [.int .i64 0, .string ⟨#[]⟩, .int .i64 0, .string ⟨#[]⟩, .string ⟨#[]⟩, .int .i64 0, .int .i64 0, .int .i64 0, .int .i64 0, .int .i64 0, .slice none 0 0, .int .i64 0, .int .i64 0] := by rw [← hY]; exact (((((((((((((HZ.out.set (i := 0) (by simp) (.int .i64 0)).set (i := 1) (by simp) (.string ⟨#[]⟩)).set (i := 2) (by simp) (.int .i64 0)).set (i := 3) (by simp) (.string ⟨#[]⟩)).set (i := 4) (by simp) (.string ⟨#[]⟩)).set (i := 5) (by simp) (.int .i64 0)).set (i := 6) (by simp) (.int .i64 0)).set (i := 7) (by simp) (.int .i64 0)).set (i := 8) (by simp) (.int .i64 0)).set (i := 9) (by simp) (.int .i64 0)).set (i := 10) (by simp) (.slice none 0 0)).set (i := 11) (by simp) (.int .i64 0)).set (i := 12) (by simp) (.int .i64 0))
  have HYB : Hid (Below w.heap.size w Y) := by rw [Hid, ← hY]; exact (bs ((bs ((bs ((bs ((bs ((bs ((bs ((bs ((bs ((bs ((bs ((bs ((bs (bW.out) (p := ⟨w.heap.size, 0, none⟩) (Nat.le_refl _) _)) (p := ⟨w.heap.size, 1, none⟩) (Nat.le_refl _) _)) (p := ⟨w.heap.size, 2, none⟩) (Nat.le_refl _) _)) (p := ⟨w.heap.size, 3, none⟩) (Nat.le_refl _) _)) (p := ⟨w.heap.size, 4, none⟩) (Nat.le_refl _) _)) (p := ⟨w.heap.size, 5, none⟩) (Nat.le_refl _) _)) (p := ⟨w.heap.size, 6, none⟩) (Nat.le_refl _) _)) (p := ⟨w.heap.size, 7, none⟩) (Nat.le_refl _) _)) (p := ⟨w.heap.size, 8, none⟩) (Nat.le_refl _) _)) (p := ⟨w.heap.size, 9, none⟩) (Nat.le_refl _) _)) (p := ⟨w.heap.size, 10, none⟩) (Nat.le_refl _) _)) (p := ⟨w.heap.size, 11, none⟩) (Nat.le_refl _) _)) (p := ⟨w.heap.size, 12, none⟩) (Nat.le_refl _) _)
  have p0 := (hYB 0 _ rfl).c
  have p1 := (hYB 1 _ rfl).c
  have p2 := (hYB 2 _ rfl).c
  have p3 := (hYB 3 _ rfl).c
  have p4 := (hYB 4 _ rfl).c
  have p5 := (hYB 5 _ rfl).c
  have p6 := (hYB 6 _ rfl).c
  have p7 := (hYB 7 _ rfl).c
  have p8 := (hYB 8 _ rfl).c
  have p9 := (hYB 9 _ rfl).c
  have p10 := (hYB 10 _ rfl).c
  have p11 := (hYB 11 _ rfl).c
  have p12 := (hYB 12 _ rfl).c
  clear hYB
  go_enter Try.func10, Try.ntmps10
  go_wp2
  (try simp only [Exit.inBlock, Exit.then])
  refine bodyPost_ret (v := .tuple #[.agg #[.int .i64 0, .string ⟨#[]⟩, .int .i64 0, .string ⟨#[]⟩, .string ⟨#[]⟩, .int .i64 0, .int .i64 0, .int .i64 0, .int .i64 0, .int .i64 0, .slice none 0 0, .int .i64 0, .int .i64 0], .int .i64 2]) (by simp [results, Try.results10, go_sem, p0, p1, p2, p3, p4, p5, p6, p7, p8, p9, p10, p11, p12]) rfl ?_
  obtain ⟨rfl, rfl⟩ := HU.out
  exact ⟨_, rfl, num_nil _ _, HYB.out⟩
set_option maxHeartbeats 4000000 in
set_option maxRecDepth 100000 in
theorem refunp_oth (c : UInt8) (t1 t : By) (hT : t = c :: t1) (n1 : ¬ c.toNat = 1) (n2 : ¬ c.toNat = 2) (ht : t.length ≤ 65536) (w : World) (m : Msg) (er' : Int) (hu : unpT t = (m, er')) :
    Calls Try.prog 10 #[.string (tx t)] w fun e w' => ∃ sv, e = .returned (.tuple #[mv m sv, .int .i64 er']) ∧ Num w' w'.heap.size sv m.vals ∧ Below w.heap.size w w' := by
  have hsz := tx_size t
  have HU : Hid (m = msgZ ∧ er' = 2) := by
    unfold unpT at hu
    rw [if_neg (by omega), if_pos (by left; rw [hT]; simp [msgR, bd, nxR, n1, n2])] at hu
    simp only [Prod.mk.injEq] at hu
    exact ⟨hu.1.symm, hu.2.symm⟩
  have hlen : 0 < t.length := by rw [hT]; simp
  have d1 : ¬ (65536 : Int) < (t.length : Int) := by omega
  have d2 : ¬ (t.length : Int) = 0 := by omega
  have d2' : ¬ t = [] := by rw [hT]; simp
  have d3 : (0 : Int) < (t.length : Int) := by omega
  have e1 : ∀ h, (tx t)[0]'h = c := fun h => by subst hT; rfl
  have m1 : ¬ (c.toNat : Int) = 1 := by omega
  have m2 : ¬ (c.toNat : Int) = 2 := by omega
  have o1 : ¬ c = 1 := fun e => n1 (by rw [e]; rfl)
  have o2 : ¬ c = 2 := fun e => n2 (by rw [e]; rfl)
  have b1 : ((c.toNat : Int) != 1) = true := by simpa using m1
  have b2 : ((c.toNat : Int) != 2) = true := by simpa using m2
  have b0 : ((t.length : Int) == 0) = false := by simpa using d2'
  clear hu hT n1 n2 m1 m2 o1 o2
  obtain ⟨W, hW⟩ : ∃ W, w.alloc (.cells #[.int .i64 0, .string ⟨#[]⟩, .int .i64 0, .string ⟨#[]⟩, .string ⟨#[]⟩, .int .i64 0, .int .i64 0, .int .i64 0, .int .i64 0, .int .i64 0, .slice none 0 0, .int .i64 0, .int .i64 0] 27) = W := ⟨_, rfl⟩
  have bW : Hid (Below w.heap.size w W) := by rw [Hid, ← hW]; exact ba _ _
  have HZ : Hid (Bx W w.heap.size [.int .i64 0, .string ⟨#[]⟩, .int .i64 0, .string ⟨#[]⟩, .string ⟨#[]⟩, .int .i64 0, .int .i64 0, .int .i64 0, .int .i64 0, .int .i64 0, .slice none 0 0, .int .i64 0, .int .i64 0]) := by rw [Hid, ← hW]; exact Bx.new w _ 27 rfl
  have v0 := (HZ.out 0 _ rfl).c
  have vf0 := (HZ.out 0 _ rfl).f
  have v1 := (HZ.out 1 _ rfl).c
  have vf1 := (HZ.out 1 _ rfl).f
  have v2 := (HZ.out 2 _ rfl).c
  have vf2 := (HZ.out 2 _ rfl).f
  have v3 := (HZ.out 3 _ rfl).c
  have vf3 := (HZ.out 3 _ rfl).f
  have v4 := (HZ.out 4 _ rfl).c
  have vf4 := (HZ.out 4 _ rfl).f
  have v5 := (HZ.out 5 _ rfl).c
  have vf5 := (HZ.out 5 _ rfl).f
  have v6 := (HZ.out 6 _ rfl).c
  have vf6 := (HZ.out 6 _ rfl).f
  have v7 := (HZ.out 7 _ rfl).c
  have vf7 := (HZ.out 7 _ rfl).f
  have v8 := (HZ.out 8 _ rfl).c
  have vf8 := (HZ.out 8 _ rfl).f
  have v9 := (HZ.out 9 _ rfl).c
  have vf9 := (HZ.out 9 _ rfl).f
  have v10 := (HZ.out 10 _ rfl).c
  have vf10 := (HZ.out 10 _ rfl).f
  have v11 := (HZ.out 11 _ rfl).c
  have vf11 := (HZ.out 11 _ rfl).f
  have v12 := (HZ.out 12 _ rfl).c
  have vf12 := (HZ.out 12 _ rfl).f
  obtain ⟨Y, hY⟩ : ∃ Y, (((((((((((((W.setCell ⟨w.heap.size, 0, none⟩ (.int .i64 0)).setCell ⟨w.heap.size, 1, none⟩ (.string ⟨#[]⟩)).setCell ⟨w.heap.size, 2, none⟩ (.int .i64 0)).setCell ⟨w.heap.size, 3, none⟩ (.string ⟨#[]⟩)).setCell ⟨w.heap.size, 4, none⟩ (.string ⟨#[]⟩)).setCell ⟨w.heap.size, 5, none⟩ (.int .i64 0)).setCell ⟨w.heap.size, 6, none⟩ (.int .i64 0)).setCell ⟨w.heap.size, 7, none⟩ (.int .i64 0)).setCell ⟨w.heap.size, 8, none⟩ (.int .i64 0)).setCell ⟨w.heap.size, 9, none⟩ (.int .i64 0)).setCell ⟨w.heap.size, 10, none⟩ (.slice none 0 0)).setCell ⟨w.heap.size, 11, none⟩ (.int .i64 0)).setCell ⟨w.heap.size, 12, none⟩ (.int .i64 0)) = Y := ⟨_, rfl⟩
  have hYB : Bx Y w.heap.size [.int .i64 0, .string ⟨#[]⟩, .int .i64 0, .string ⟨#[]⟩, .string ⟨#[]⟩, .int .i64 0, .int .i64 0, .int .i64 0, .int .i64 0, .int .i64 0, .slice none 0 0, .int .i64 0, .int .i64 0] := by rw [← hY]; exact (((((((((((((HZ.out.set (i := 0) (by simp) (.int .i64 0)).set (i := 1) (by simp) (.string ⟨#[]⟩)).set (i := 2) (by simp) (.int .i64 0)).set (i := 3) (by simp) (.string ⟨#[]⟩)).set (i := 4) (by simp) (.string ⟨#[]⟩)).set (i := 5) (by simp) (.int .i64 0)).set (i := 6) (by simp) (.int .i64 0)).set (i := 7) (by simp) (.int .i64 0)).set (i := 8) (by simp) (.int .i64 0)).set (i := 9) (by simp) (.int .i64 0)).set (i := 10) (by simp) (.slice none 0 0)).set (i := 11) (by simp) (.int .i64 0)).set (i := 12) (by simp) (.int .i64 0))
  have HYB : Hid (Below w.heap.size w Y) := by rw [Hid, ← hY]; exact (bs ((bs ((bs ((bs ((bs ((bs ((bs ((bs ((bs ((bs ((bs ((bs ((bs (bW.out) (p := ⟨w.heap.size, 0, none⟩) (Nat.le_refl _) _)) (p := ⟨w.heap.size, 1, none⟩) (Nat.le_refl _) _)) (p := ⟨w.heap.size, 2, none⟩) (Nat.le_refl _) _)) (p := ⟨w.heap.size, 3, none⟩) (Nat.le_refl _) _)) (p := ⟨w.heap.size, 4, none⟩) (Nat.le_refl _) _)) (p := ⟨w.heap.size, 5, none⟩) (Nat.le_refl _) _)) (p := ⟨w.heap.size, 6, none⟩) (Nat.le_refl _) _)) (p := ⟨w.heap.size, 7, none⟩) (Nat.le_refl _) _)) (p := ⟨w.heap.size, 8, none⟩) (Nat.le_refl _) _)) (p := ⟨w.heap.size, 9, none⟩) (Nat.le_refl _) _)) (p := ⟨w.heap.size, 10, none⟩) (Nat.le_refl _) _)) (p := ⟨w.heap.size, 11, none⟩) (Nat.le_refl _) _)) (p := ⟨w.heap.size, 12, none⟩) (Nat.le_refl _) _)
  have p0 := (hYB 0 _ rfl).c
  have p1 := (hYB 1 _ rfl).c
  have p2 := (hYB 2 _ rfl).c
  have p3 := (hYB 3 _ rfl).c
  have p4 := (hYB 4 _ rfl).c
  have p5 := (hYB 5 _ rfl).c
  have p6 := (hYB 6 _ rfl).c
  have p7 := (hYB 7 _ rfl).c
  have p8 := (hYB 8 _ rfl).c
  have p9 := (hYB 9 _ rfl).c
  have p10 := (hYB 10 _ rfl).c
  have p11 := (hYB 11 _ rfl).c
  have p12 := (hYB 12 _ rfl).c
  clear hYB
  go_enter Try.func10, Try.ntmps10
  go_wp2
  (try simp only [Exit.inBlock, Exit.then])
  refine bodyPost_ret (v := .tuple #[.agg #[.int .i64 0, .string ⟨#[]⟩, .int .i64 0, .string ⟨#[]⟩, .string ⟨#[]⟩, .int .i64 0, .int .i64 0, .int .i64 0, .int .i64 0, .int .i64 0, .slice none 0 0, .int .i64 0, .int .i64 0], .int .i64 2]) (by simp [results, Try.results10, go_sem, p0, p1, p2, p3, p4, p5, p6, p7, p8, p9, p10, p11, p12]) rfl ?_
  obtain ⟨rfl, rfl⟩ := HU.out
  exact ⟨_, rfl, num_nil _ _, HYB.out⟩
/-- UNPACK, the reference's, of any text -/
theorem refunp_any (t : By) (w : World) (m : Msg) (er' : Int) (hu : unpT t = (m, er')) :
    Calls Try.prog 10 #[.string (tx t)] w fun e w' => ∃ sv, e = .returned (.tuple #[mv m sv, .int .i64 er']) ∧ Num w' w'.heap.size sv m.vals ∧ Below w.heap.size w w' := by
  by_cases h : 65536 < t.length
  · exact refunp_long t h w m er' hu
  · cases t with
    | nil => exact refunp_nil w m er' hu
    | cons c t1 =>
      by_cases h1 : c.toNat = 1
      · exact refunp_ask c t1 _ rfl h1 (by omega) w m er' hu
      · by_cases h2 : c.toNat = 2
        · exact refunp_rpl c t1 _ rfl h2 (by omega) w m er' hu
        · exact refunp_oth c t1 _ rfl h1 h2 (by omega) w m er' hu
end Go.Proofs.Ytnoedkebmpfagaa
