import Derived.Test.YtnoedkebmpfagaaWrh
import Derived.Test.YtnoedkebmpfagaaWwy
import Derived.Laws.StructEq
/-
  The reference's Clean, Frame, ratio.
-/
namespace Go.Proofs.Ytnoedkebmpfagaa
open Go.RowKit Wc

set_option maxHeartbeats 2000000 in
set_option maxRecDepth 100000 in
theorem clean_any (m : Msg) (av : Option Addr) (cv : Nat) (w : World) :
    Calls Try.prog 20 #[mv m (.slice av m.vals.length cv)] w fun e w' => e = .returned (.bool (formB m)) ∧ Below w.heap.size w w' := by
  obtain ⟨bv, hbv⟩ : ∃ b, formB m = b := ⟨_, rfl⟩
  rw [hbv]
  have HF : Hid (formB m = bv) := hbv
  clear hbv
  obtain ⟨kd, ss, nu, pu, te, ru, rd, lo, hg, er, vs, lu, ld⟩ := m
  obtain ⟨X, hX⟩ : ∃ X, w.alloc (.cells #[.int .i64 kd, .string (tx ss), .int .i64 nu, .string (tx pu), .string (tx te), .int .i64 ru, .int .i64 rd, .int .i64 lo, .int .i64 hg, .int .i64 er, .slice av vs.length cv, .int .i64 lu, .int .i64 ld] 27) = X := ⟨_, rfl⟩
  have bX : Below w.heap.size w X := by rw [← hX]; exact ba _ _
  have hB2 : Bx X w.heap.size [.int .i64 kd, .string (tx ss), .int .i64 nu, .string (tx pu), .string (tx te), .int .i64 ru, .int .i64 rd, .int .i64 lo, .int .i64 hg, .int .i64 er, .slice av vs.length cv, .int .i64 lu, .int .i64 ld] := by rw [← hX]; exact Bx.new w _ 27 rfl
  have c0 := (hB2 0 _ rfl).c
  have c3 := (hB2 3 _ rfl).c
  have c4 := (hB2 4 _ rfl).c
  have c5 := (hB2 5 _ rfl).c
  have c6 := (hB2 6 _ rfl).c
  have c7 := (hB2 7 _ rfl).c
  have c8 := (hB2 8 _ rfl).c
  have c9 := (hB2 9 _ rfl).c
  have c10 := (hB2 10 _ rfl).c
  have c11 := (hB2 11 _ rfl).c
  have c12 := (hB2 12 _ rfl).c
  clear hB2
  go_enter Try.func20, Try.ntmps20
  by_cases k1 : kd = 1
  · subst k1
    by_cases e_er : er = 0
    · subst e_er
      by_cases e_vs : vs.length = 0
      · have f_vs : (vs.length : Int) = 0 := by omega
        by_cases e_lu : lu = 0
        · subst e_lu
          by_cases e_ld : ld = 0
          · subst e_ld
            go_wp2
            go_ret
            refine ⟨?_, by first | exact bX | exact ba _ _⟩
            have h := HF.out
            simp [formB, *] at h
            simp [← h]
          · have f_ld : (ld == 0) = false := by simpa using e_ld
            go_wp2
            go_ret
            refine ⟨?_, by first | exact bX | exact ba _ _⟩
            have h := HF.out
            simp [formB, *] at h
            simp [← h]
        · have f_lu : (lu == 0) = false := by simpa using e_lu
          go_wp2
          go_ret
          refine ⟨?_, by first | exact bX | exact ba _ _⟩
          have h := HF.out
          simp [formB, *] at h
          simp [← h]
      · have f_vs : ¬ (vs.length : Int) = 0 := by omega
        have g_vs : ((vs.length : Int) == 0) = false := by simpa using e_vs
        go_wp2
        go_ret
        refine ⟨?_, by first | exact bX | exact ba _ _⟩
        have h := HF.out
        simp [formB, *] at h
        simp [← h]
    · have f_er : (er == 0) = false := by simpa using e_er
      go_wp2
      go_ret
      refine ⟨?_, by first | exact bX | exact ba _ _⟩
      have h := HF.out
      simp [formB, *] at h
      simp [← h]
  · have k1f : (kd == 1) = false := by simpa using k1
    by_cases k2 : kd = 2
    · subst k2
      by_cases e_pu : pu = []
      · subst e_pu
        by_cases e_te : te = []
        · subst e_te
          by_cases e_ru : ru = 0
          · subst e_ru
            by_cases e_rd : rd = 0
            · subst e_rd
              by_cases e_lo : lo = 0
              · subst e_lo
                by_cases e_hg : hg = 0
                · subst e_hg
                  go_wp2
                  go_ret
                  refine ⟨?_, by first | exact bX | exact ba _ _⟩
                  have h := HF.out
                  simp [formB, *] at h
                  simp [← h]
                · have f_hg : (hg == 0) = false := by simpa using e_hg
                  go_wp2
                  go_ret
                  refine ⟨?_, by first | exact bX | exact ba _ _⟩
                  have h := HF.out
                  simp [formB, *] at h
                  simp [← h]
              · have f_lo : (lo == 0) = false := by simpa using e_lo
                go_wp2
                go_ret
                refine ⟨?_, by first | exact bX | exact ba _ _⟩
                have h := HF.out
                simp [formB, *] at h
                simp [← h]
            · have f_rd : (rd == 0) = false := by simpa using e_rd
              go_wp2
              go_ret
              refine ⟨?_, by first | exact bX | exact ba _ _⟩
              have h := HF.out
              simp [formB, *] at h
              simp [← h]
          · have f_ru : (ru == 0) = false := by simpa using e_ru
            go_wp2
            go_ret
            refine ⟨?_, by first | exact bX | exact ba _ _⟩
            have h := HF.out
            simp [formB, *] at h
            simp [← h]
        · have f_te : ∀ u, (binOp .eql 9 (.string (tx te)) (.string { data := #[] })).run Try.prog u = .ok (.bool false) u := eqs te [] false (by simpa using e_te)
          have g_te : (te == []) = false := by simpa using e_te
          go_wp2
          go_ret
          refine ⟨?_, by first | exact bX | exact ba _ _⟩
          have h := HF.out
          simp [formB, *] at h
          simp [← h]
      · have f_pu : ∀ u, (binOp .eql 9 (.string (tx pu)) (.string { data := #[] })).run Try.prog u = .ok (.bool false) u := eqs pu [] false (by simpa using e_pu)
        have g_pu : (pu == []) = false := by simpa using e_pu
        go_wp2
        go_ret
        refine ⟨?_, by first | exact bX | exact ba _ _⟩
        have h := HF.out
        simp [formB, *] at h
        simp [← h]
    · have k2f : (kd == 2) = false := by simpa using k2
      go_wp2
      go_ret
      refine ⟨?_, by first | exact bX | exact ba _ _⟩
      have h := HF.out
      simp [formB, *] at h
      simp [← h]
theorem conv4 (n : Nat) (hn : n ≤ 65536) (w : World) : (convert 47 9 (.slice (some ⟨w.heap.size, 0, none⟩) 4 4)).run Try.prog (w.alloc (.cells #[.int .u8 ((n : Int) / 16777216), .int .u8 ((n : Int) / 65536 % 256), .int .u8 ((n : Int) / 256 % 256), .int .u8 ((n : Int) % 256)] 5)) = .ok (.string (tx (hd4 n))) (w.alloc (.cells #[.int .u8 ((n : Int) / 16777216), .int .u8 ((n : Int) / 65536 % 256), .int .u8 ((n : Int) / 256 % 256), .int .u8 ((n : Int) % 256)] 5)) := by
  refine run_convert_bytes_back (P := Try.prog) _ 47 9 5 ⟨w.heap.size, 0, none⟩ 4 (hd4 n) Try.underlying47 Try.underlying5 Try.underlying9 (fun j hj => ?_)
  rw [Addr.add_lit, Nat.zero_add, World.cell?_alloc_at _ _ _ _ rfl]
  have h0 := u8c (a := n / 16777216) (by omega)
  have h1 := u8c (a := n / 65536 % 256) (by omega)
  have h2 := u8c (a := n / 256 % 256) (by omega)
  have h3 := u8c (a := n % 256) (by omega)
  have hj4 : j < 4 := hj
  match j, hj4 with
  | 0, _ =>
    show some (Value.int .u8 ((n : Int) / 16777216)) = some (Value.int .u8 (((UInt8.ofNat (n / 16777216)).toNat : Nat) : Int))
    rw [h0]; rfl
  | 1, _ =>
    show some (Value.int .u8 ((n : Int) / 65536 % 256)) = some (Value.int .u8 (((UInt8.ofNat (n / 65536 % 256)).toNat : Nat) : Int))
    rw [h1]; rfl
  | 2, _ =>
    show some (Value.int .u8 ((n : Int) / 256 % 256)) = some (Value.int .u8 (((UInt8.ofNat (n / 256 % 256)).toNat : Nat) : Int))
    rw [h2]; rfl
  | 3, _ =>
    show some (Value.int .u8 ((n : Int) % 256)) = some (Value.int .u8 (((UInt8.ofNat (n % 256)).toNat : Nat) : Int))
    rw [h3]; rfl
theorem refframe_any (t : By) (ht : t.length ≤ 9223372036854775807) (w : World) (s : By) (er : Int) (hf : frmT t = (s, er)) :
    Calls Try.prog 13 #[.string (tx t)] w fun e w' => e = .returned (.tuple #[.string (tx s), .int .i64 er]) ∧ Below w.heap.size w w' := by
  have hsz := tx_size t
  unfold frmT at hf
  by_cases c : 0 < t.length ∧ t.length ≤ 65536
  · obtain ⟨c0, c1⟩ := c
    rw [if_pos ⟨c0, c1⟩] at hf
    simp only [Prod.mk.injEq] at hf
    obtain ⟨rfl, rfl⟩ := hf
    have z0 : ¬ (t.length : Int) < 1 := by omega
    have z1 : ¬ (65536 : Int) < (t.length : Int) := by omega
    have hadd := tx_add (hd4 t.length) t
    have hlen : ¬ (9223372036854775807 < (hd4 t.length).length + t.length) := by simp only [hd4, List.length_cons, List.length_nil]; omega
    obtain ⟨H, hH⟩ : ∃ H, hd4 t.length = H := ⟨_, rfl⟩
    have hcv := conv4 t.length c1 w
    rw [hH] at hadd hlen hcv ⊢
    clear hH
    go_enter Try.func13, Try.ntmps13
    go_wp2
    go_ret2
    exact ⟨rfl, ba _ _⟩
  · rw [if_neg c] at hf
    simp only [Prod.mk.injEq] at hf
    obtain ⟨rfl, rfl⟩ := hf
    by_cases c0 : t.length = 0
    · have z0 : (t.length : Int) = 0 := by omega
      clear c
      go_enter Try.func13, Try.ntmps13
      go_wp2
      go_ret2
      exact ⟨rfl, Below.refl _ _⟩
    · have z0 : ¬ (t.length : Int) < 1 := by omega
      have z1 : (65536 : Int) < (t.length : Int) := by omega
      clear c
      go_enter Try.func13, Try.ntmps13
      go_wp2
      go_ret2
      exact ⟨rfl, Below.refl _ _⟩
theorem nmT_len {x : Int} (h : I64 x) : (nmT x).length ≤ 10 := cntT_len _ (nmN_lt h)
set_option maxHeartbeats 1000000 in
theorem refratio_any (x y : Int) (hx : I64 x) (hy : I64 y) (w : World) : Calls Try.prog 23 #[rat x y] w fun e w' => e = .returned (.string (tx (nmT x ++ nmT y))) ∧ Below w.heap.size w w' := by
  obtain ⟨W, hW⟩ : ∃ W, w.alloc (.cells #[.int .i64 x, .int .i64 y] 23) = W := ⟨_, rfl⟩
  have T0 : TwoB W w.heap.size (.int .i64 x) (.int .i64 y) := by rw [← hW]; exact TwoB.new w _ _ _ _ rfl
  have bW : Below w.heap.size w W := by rw [← hW]; exact ba _ _
  have kx := fun V => refnumber_any x hx V
  have ky := fun V => refnumber_any y hy V
  have hadd := tx_add (nmT x) (nmT y)
  have hlen : ¬ (9223372036854775807 < (nmT x).length + (nmT y).length) := by have := nmT_len hx; have := nmT_len hy; omega
  generalize nmT x = A at *
  generalize nmT y = B at *
  have c0 := T0.c0
  have c1 := T0.c1
  have hlt := T0.lt
  clear T0 hx hy
  go_enter Try.func23, Try.ntmps23
  go_wp2_with fail
  clear hW
  go_region_held3 (fun w' => w'.cell? ⟨w.heap.size, 0, none⟩ = some (.int .i64 x) ∧ w'.cell? ⟨w.heap.size, 1, none⟩ = some (.int .i64 y))
    ((go_split_ands; refine ⟨?_, ?_⟩ <;> first | assumption | (simp [go_sem, *]; done)))
    (first | (go_at_call 22; (with_reducible refine (kx _).mono ?_); rintro e w1 ⟨rfl, b1⟩; have q0 := (b1.cell (p := ⟨w.heap.size, 0, none⟩) hlt).trans c0; have q1 := (b1.cell (p := ⟨w.heap.size, 1, none⟩) hlt).trans c1; have hl1 := Nat.lt_of_lt_of_le hlt b1.size) | (go_at_call 22; (with_reducible refine (ky _).mono ?_); rintro e w2 ⟨rfl, b2⟩; have r0 := (b2.cell (p := ⟨w.heap.size, 0, none⟩) hl1).trans q0; have r1 := (b2.cell (p := ⟨w.heap.size, 1, none⟩) hl1).trans q1))
  have bT : Below w.heap.size w w2 := bt (bt bW ((Below.refl _ _).drew.trans b1)) b2
  clear q0 q1 r0 r1 kx ky b1 b2
  go_wp2
  go_ret
  exact ⟨rfl, bT⟩
end Go.Proofs.Ytnoedkebmpfagaa
