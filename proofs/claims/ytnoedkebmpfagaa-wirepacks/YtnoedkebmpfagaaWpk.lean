import Derived.Test.YtnoedkebmpfagaaWwy
import Derived.Laws.StructEq
/-
  PACKAGE wire: formed, Pack.
-/
namespace Go.Proofs.Ytnoedkebmpfagaa
open Go.RowKit Wc

set_option maxHeartbeats 2000000 in
set_option maxRecDepth 100000 in
theorem formed_any (m : Msg) (av : Option Addr) (cv : Nat) (w : World) :
    Calls Try.prog 18 #[mv m (.slice av m.vals.length cv)] w fun e w' => e = .returned (.bool (formB m)) ∧ Below w.heap.size w w' := by
  obtain ⟨bv, hbv⟩ : ∃ b, formB m = b := ⟨_, rfl⟩
  rw [hbv]
  have HF : Hid (formB m = bv) := hbv
  clear hbv
  obtain ⟨kd, ss, nu, pu, te, ru, rd, lo, hg, er, vs, lu, ld⟩ := m
  obtain ⟨W, hW⟩ : ∃ W, w.alloc (.cells #[.int .i64 kd, .string (tx ss), .int .i64 nu, .string (tx pu), .string (tx te), .int .i64 ru, .int .i64 rd, .int .i64 lo, .int .i64 hg, .int .i64 er, .slice av vs.length cv, .int .i64 lu, .int .i64 ld] 27) = W := ⟨_, rfl⟩
  have bW : Below w.heap.size w W := by rw [← hW]; exact ba _ _
  have hsW : W.heap.size = w.heap.size + 1 := by rw [← hW]; simp
  have hB : Bx W w.heap.size [.int .i64 kd, .string (tx ss), .int .i64 nu, .string (tx pu), .string (tx te), .int .i64 ru, .int .i64 rd, .int .i64 lo, .int .i64 hg, .int .i64 er, .slice av vs.length cv, .int .i64 lu, .int .i64 ld] := by rw [← hW]; exact Bx.new w _ 27 rfl
  obtain ⟨X, hX⟩ : ∃ X, W.alloc (.cells #[.int .i64 0, .int .i64 0] 23) = X := ⟨_, rfl⟩
  have bX : Below w.heap.size w X := by rw [← hX]; exact bal bW _
  have hZ : TwoB X (w.heap.size + 1) (.int .i64 0) (.int .i64 0) := by rw [← hX]; exact TwoB.new W _ _ _ _ hsW.symm
  have hB2 : Bx X w.heap.size _ := hB.at (by rw [← hX]; exact ba _ _)
  have z0 := hZ.c0
  have z1 := hZ.c1
  have c0 := (hB2 0 _ rfl).c
  have c3 := (hB2 3 _ rfl).c
  have c4 := (hB2 4 _ rfl).c
  have c5 := (hB2 5 _ rfl).c
  have c6 := (hB2 6 _ rfl).c
  have c7 := (hB2 7 _ rfl).c
  have c8 := (hB2 8 _ rfl).c
  have c9 := (hB2 9 _ rfl).c
  have c10 := (hB2 10 _ rfl).c
  have c11 := (hB2 11 _ rfl).c
  have c12 := (hB2 12 _ rfl).c
  clear hB hB2 bW hZ
  go_enter Try.func18, Try.ntmps18
  by_cases k1 : kd = 1
  · subst k1
    by_cases e_er : er = 0
    · subst e_er
      by_cases e_vs : vs.length = 0
      · have f_vs : (vs.length : Int) = 0 := by omega
        by_cases e_lu : lu = 0
        · subst e_lu
          by_cases e_ld : ld = 0
          · subst e_ld
            go_wp2
            go_ret
            refine ⟨?_, by first | exact bX | exact bal (ba _ _) _⟩
            have h := HF.out
            simp [formB, *] at h
            simp [← h]
          · have f_ld : (ld == 0) = false := by simpa using e_ld
            go_wp2
            go_ret
            refine ⟨?_, by first | exact bX | exact bal (ba _ _) _⟩
            have h := HF.out
            simp [formB, *] at h
            simp [← h]
        · have f_lu : (lu == 0) = false := by simpa using e_lu
          go_wp2
          go_ret
          refine ⟨?_, by first | exact bX | exact bal (ba _ _) _⟩
          have h := HF.out
          simp [formB, *] at h
          simp [← h]
      · have f_vs : ¬ (vs.length : Int) = 0 := by omega
        have g_vs : ((vs.length : Int) == 0) = false := by simpa using e_vs
        go_wp2
        go_ret
        refine ⟨?_, by first | exact bX | exact bal (ba _ _) _⟩
        have h := HF.out
        simp [formB, *] at h
        simp [← h]
    · have f_er : (er == 0) = false := by simpa using e_er
      go_wp2
      go_ret
      refine ⟨?_, by first | exact bX | exact bal (ba _ _) _⟩
      have h := HF.out
      simp [formB, *] at h
      simp [← h]
  · have k1f : (kd == 1) = false := by simpa using k1
    by_cases k2 : kd = 2
    · subst k2
      by_cases e_pu : pu = []
      · subst e_pu
        by_cases e_te : te = []
        · subst e_te
          by_cases e_ru : ru = 0
          · subst e_ru
            by_cases e_rd : rd = 0
            · subst e_rd
              by_cases e_lo : lo = 0
              · subst e_lo
                by_cases e_hg : hg = 0
                · subst e_hg
                  go_wp2
                  go_ret
                  refine ⟨?_, by first | exact bX | exact bal (ba _ _) _⟩
                  have h := HF.out
                  simp [formB, *] at h
                  simp [← h]
                · have f_hg : (hg == 0) = false := by simpa using e_hg
                  go_wp2
                  go_ret
                  refine ⟨?_, by first | exact bX | exact bal (ba _ _) _⟩
                  have h := HF.out
                  simp [formB, *] at h
                  simp [← h]
              · have f_lo : (lo == 0) = false := by simpa using e_lo
                go_wp2
                go_ret
                refine ⟨?_, by first | exact bX | exact bal (ba _ _) _⟩
                have h := HF.out
                simp [formB, *] at h
                simp [← h]
            · have f_rd : (rd == 0) = false := by simpa using e_rd
              go_wp2
              go_ret
              refine ⟨?_, by first | exact bX | exact bal (ba _ _) _⟩
              have h := HF.out
              simp [formB, *] at h
              simp [← h]
          · have f_ru : (ru == 0) = false := by simpa using e_ru
            go_wp2
            go_ret
            refine ⟨?_, by first | exact bX | exact bal (ba _ _) _⟩
            have h := HF.out
            simp [formB, *] at h
            simp [← h]
        · have f_te : ∀ u, (binOp .eql 9 (.string (tx te)) (.string { data := #[] })).run Try.prog u = .ok (.bool false) u := eqs te [] false (by simpa using e_te)
          have g_te : (te == []) = false := by simpa using e_te
          go_wp2
          go_ret
          refine ⟨?_, by first | exact bX | exact bal (ba _ _) _⟩
          have h := HF.out
          simp [formB, *] at h
          simp [← h]
      · have f_pu : ∀ u, (binOp .eql 9 (.string (tx pu)) (.string { data := #[] })).run Try.prog u = .ok (.bool false) u := eqs pu [] false (by simpa using e_pu)
        have g_pu : (pu == []) = false := by simpa using e_pu
        go_wp2
        go_ret
        refine ⟨?_, by first | exact bX | exact bal (ba _ _) _⟩
        have h := HF.out
        simp [formB, *] at h
        simp [← h]
    · have k2f : (kd == 2) = false := by simpa using k2
      go_wp2
      go_ret
      refine ⟨?_, by first | exact bX | exact bal (ba _ _) _⟩
      have h := HF.out
      simp [formB, *] at h
      simp [← h]
end Go.Proofs.Ytnoedkebmpfagaa
