import Derived.Test.YtnoedkebmpfagaaWrl
/-
  The reference's Unpack.
-/
namespace Go.Proofs.Ytnoedkebmpfagaa
open Go.RowKit Wc

theorem at_full {t : By} {st : Option By} (hs : Suf t st) (h : st ≠ some []) : ¬ atI t st = (t.length : Int) := by
  cases st with
  | none => simp only [atI]; omega
  | some r =>
    have hl : r.length ≤ t.length := List.IsSuffix.length_le hs
    have hp : 0 < r.length := by cases r with | nil => exact absurd rfl h | cons a b => simp
    simp only [atI]; omega
set_option maxHeartbeats 4000000 in
set_option maxRecDepth 100000 in
theorem refunp_ask (c : UInt8) (t1 t : By) (hT : t = c :: t1) (hc : c.toNat = 1) (ht : t.length ≤ 65536) (w : World) (m : Msg) (er' : Int) (hu : unpT t = (m, er')) :
    Calls Try.prog 10 #[.string (tx t)] w fun e w' => ∃ sv, e = .returned (.tuple #[mv m sv, .int .i64 er']) ∧ Num w' w'.heap.size sv m.vals ∧ Below w.heap.size w w' := by
  have hsz := tx_size t
  have HUN : Hid (unpT t = (m, er')) := hu
  have HT : Hid (t = c :: t1) := hT
  have HC : Hid (c.toNat = 1) := hc
  have hlen : 0 < t.length := by rw [hT]; simp
  have d1 : ¬ (65536 : Int) < (t.length : Int) := by omega
  have d2 : ¬ (t.length : Int) = 0 := by omega
  have d2' : ¬ t = [] := by rw [hT]; simp
  have d3 : (0 : Int) < (t.length : Int) := by omega
  have e1 : ∀ h, (tx t)[0]'h = 1 := fun h => by
    have : (tx t)[0]'h = c := by subst hT; rfl
    rw [this]
    exact UInt8.toNat_inj.1 (by rw [hc]; rfl)
  have HF0 : Hid (Suf t (some t1)) := by rw [hT]; exact List.suffix_cons c t1
  have HA0 : Hid (atI t (some t1) = 1) := by rw [Hid, hT]; simp [atI]
  obtain ⟨s0, hs0⟩ : ∃ s : Option By, some t1 = s := ⟨_, rfl⟩
  obtain ⟨ses, s1, h1⟩ : ∃ v s, stS [] tnR s0 = (v, s) := ⟨_, _, rfl⟩
  obtain ⟨nu, s2, h2⟩ : ∃ v s, stS 0 nmR s1 = (v, s) := ⟨_, _, rfl⟩
  obtain ⟨p, s3, h3⟩ : ∃ v s, stS [] tnR s2 = (v, s) := ⟨_, _, rfl⟩
  obtain ⟨te, s4, h4⟩ : ∃ v s, stS [] tnR s3 = (v, s) := ⟨_, _, rfl⟩
  obtain ⟨ru, s5, h5⟩ : ∃ v s, stS 0 nmR s4 = (v, s) := ⟨_, _, rfl⟩
  obtain ⟨rd, s6, h6⟩ : ∃ v s, stS 0 nmR s5 = (v, s) := ⟨_, _, rfl⟩
  obtain ⟨lo, s7, h7⟩ : ∃ v s, stS 0 nmR s6 = (v, s) := ⟨_, _, rfl⟩
  obtain ⟨hi, s8, h8⟩ : ∃ v s, stS 0 nmR s7 = (v, s) := ⟨_, _, rfl⟩
  rw [hs0] at HF0 HA0
  have HS0 : Hid (some t1 = s0) := hs0
  clear hu hT hc hs0
  obtain ⟨W, hW⟩ : ∃ W, w.alloc (.cells #[.int .i64 0, .string ⟨#[]⟩, .int .i64 0, .string ⟨#[]⟩, .string ⟨#[]⟩, .int .i64 0, .int .i64 0, .int .i64 0, .int .i64 0, .int .i64 0, .slice none 0 0, .int .i64 0, .int .i64 0] 27) = W := ⟨_, rfl⟩
  have bW : Below w.heap.size w W := by rw [← hW]; exact ba _ _
  have hZ : Bx W w.heap.size [.int .i64 0, .string ⟨#[]⟩, .int .i64 0, .string ⟨#[]⟩, .string ⟨#[]⟩, .int .i64 0, .int .i64 0, .int .i64 0, .int .i64 0, .int .i64 0, .slice none 0 0, .int .i64 0, .int .i64 0] := by rw [← hW]; exact Bx.new w _ 27 rfl
  have hlt : w.heap.size < W.heap.size := (hZ 0 _ rfl).lt
  have bX : Below W.heap.size W (W.alloc (.cells #[.int .i64 1, .string ⟨#[]⟩, .int .i64 0, .string ⟨#[]⟩, .string ⟨#[]⟩, .int .i64 0, .int .i64 0, .int .i64 0, .int .i64 0, .int .i64 0, .slice none 0 0, .int .i64 0, .int .i64 0] 27)) := ba _ _
  have HB0 : Hid (Bx (W.alloc (.cells #[.int .i64 1, .string ⟨#[]⟩, .int .i64 0, .string ⟨#[]⟩, .string ⟨#[]⟩, .int .i64 0, .int .i64 0, .int .i64 0, .int .i64 0, .int .i64 0, .slice none 0 0, .int .i64 0, .int .i64 0] 27)) W.heap.size [.int .i64 1, .string ⟨#[]⟩, .int .i64 0, .string ⟨#[]⟩, .string ⟨#[]⟩, .int .i64 0, .int .i64 0, .int .i64 0, .int .i64 0, .int .i64 0, .slice none 0 0, .int .i64 0, .int .i64 0]) := Bx.new W _ 27 rfl
  have HZ0 : Hid (Bx (W.alloc (.cells #[.int .i64 1, .string ⟨#[]⟩, .int .i64 0, .string ⟨#[]⟩, .string ⟨#[]⟩, .int .i64 0, .int .i64 0, .int .i64 0, .int .i64 0, .int .i64 0, .slice none 0 0, .int .i64 0, .int .i64 0] 27)) w.heap.size [.int .i64 0, .string ⟨#[]⟩, .int .i64 0, .string ⟨#[]⟩, .string ⟨#[]⟩, .int .i64 0, .int .i64 0, .int .i64 0, .int .i64 0, .int .i64 0, .slice none 0 0, .int .i64 0, .int .i64 0]) := hZ.at bX
  have HW0 : Hid (Below w.heap.size w (W.alloc (.cells #[.int .i64 1, .string ⟨#[]⟩, .int .i64 0, .string ⟨#[]⟩, .string ⟨#[]⟩, .int .i64 0, .int .i64 0, .int .i64 0, .int .i64 0, .int .i64 0, .slice none 0 0, .int .i64 0, .int .i64 0] 27))) := bt bW bX
  have hb42 : w.heap.size ≤ W.heap.size := by omega
  clear bX hZ bW
  go_enter Try.func10, Try.ntmps10
  have HF1 : Hid (Suf t s1) := by have := HF0.out.step ([] : By) tnR tnR_suf; rw [h1] at this; exact this
  have k := refword_st t ht s0 s1 HF0.out (W.alloc (.cells #[.int .i64 1, .string ⟨#[]⟩, .int .i64 0, .string ⟨#[]⟩, .string ⟨#[]⟩, .int .i64 0, .int .i64 0, .int .i64 0, .int .i64 0, .int .i64 0, .slice none 0 0, .int .i64 0, .int .i64 0] 27)) ses h1
  obtain ⟨A1, hA1⟩ : ∃ A, atI t s1 = A := ⟨_, rfl⟩
  have HA1 : Hid (atI t s1 = A1) := hA1
  rw [HA0.out, hA1] at k
  clear hA1
  go_wp2_with fail
  refine k.mono ?_
  rintro e y1 ⟨rfl, rfl⟩
  clear k
  have q0 := (HB0.out 1 _ rfl).c
  have qf := (HB0.out 1 _ rfl).f
  obtain ⟨X1, hX1⟩ : ∃ X, (W.alloc (.cells #[.int .i64 1, .string ⟨#[]⟩, .int .i64 0, .string ⟨#[]⟩, .string ⟨#[]⟩, .int .i64 0, .int .i64 0, .int .i64 0, .int .i64 0, .int .i64 0, .slice none 0 0, .int .i64 0, .int .i64 0] 27)).setCell ⟨W.heap.size, 1, none⟩ (.string (tx ses)) = X := ⟨_, rfl⟩
  have HX := hX1
  clear hX1
  have HB1 : Hid (Bx X1 W.heap.size [.int .i64 1, .string (tx ses), .int .i64 0, .string ⟨#[]⟩, .string ⟨#[]⟩, .int .i64 0, .int .i64 0, .int .i64 0, .int .i64 0, .int .i64 0, .slice none 0 0, .int .i64 0, .int .i64 0]) := by rw [Hid, ← HX]; exact HB0.out.set (i := 1) (by simp) (.string (tx ses))
  have HZ1 : Hid (Bx X1 w.heap.size [.int .i64 0, .string ⟨#[]⟩, .int .i64 0, .string ⟨#[]⟩, .string ⟨#[]⟩, .int .i64 0, .int .i64 0, .int .i64 0, .int .i64 0, .int .i64 0, .slice none 0 0, .int .i64 0, .int .i64 0]) := by rw [Hid, ← HX]; exact HZ0.out.oth (b' := W.heap.size) (by omega) _
  have HW1 : Hid (Below w.heap.size w X1) := by rw [Hid, ← HX]; exact bs HW0.out (p := ⟨W.heap.size, 1, none⟩) hb42 _
  clear HB0 HZ0 HW0
  have HF2 : Hid (Suf t s2) := by have := HF1.out.step (0 : Int) nmR nmR_suf; rw [h2] at this; exact this
  have k := refnum_st t ht s1 s2 HF1.out X1 nu h2
  obtain ⟨A2, hA2⟩ : ∃ A, atI t s2 = A := ⟨_, rfl⟩
  have HA2 : Hid (atI t s2 = A2) := hA2
  rw [HA1.out, hA2] at k
  clear hA2
  go_wp2_with fail
  refine k.mono ?_
  rintro e y2 ⟨rfl, rfl⟩
  clear k HX
  have q0 := (HB1.out 2 _ rfl).c
  have qf := (HB1.out 2 _ rfl).f
  obtain ⟨X2, hX2⟩ : ∃ X, (y2).setCell ⟨W.heap.size, 2, none⟩ (.int .i64 nu) = X := ⟨_, rfl⟩
  have HX := hX2
  clear hX2
  have HB2 : Hid (Bx X2 W.heap.size [.int .i64 1, .string (tx ses), .int .i64 nu, .string ⟨#[]⟩, .string ⟨#[]⟩, .int .i64 0, .int .i64 0, .int .i64 0, .int .i64 0, .int .i64 0, .slice none 0 0, .int .i64 0, .int .i64 0]) := by rw [Hid, ← HX]; exact HB1.out.set (i := 2) (by simp) (.int .i64 nu)
  have HZ2 : Hid (Bx X2 w.heap.size [.int .i64 0, .string ⟨#[]⟩, .int .i64 0, .string ⟨#[]⟩, .string ⟨#[]⟩, .int .i64 0, .int .i64 0, .int .i64 0, .int .i64 0, .int .i64 0, .slice none 0 0, .int .i64 0, .int .i64 0]) := by rw [Hid, ← HX]; exact HZ1.out.oth (b' := W.heap.size) (by omega) _
  have HW2 : Hid (Below w.heap.size w X2) := by rw [Hid, ← HX]; exact bs HW1.out (p := ⟨W.heap.size, 2, none⟩) hb42 _
  clear HB1 HZ1 HW1
  have qk := (HB2.out 0 _ rfl).c
  have HF3 : Hid (Suf t s3) := by have := HF2.out.step ([] : By) tnR tnR_suf; rw [h3] at this; exact this
  have k := refword_st t ht s2 s3 HF2.out X2 p h3
  obtain ⟨A3, hA3⟩ : ∃ A, atI t s3 = A := ⟨_, rfl⟩
  have HA3 : Hid (atI t s3 = A3) := hA3
  rw [HA2.out, hA3] at k
  clear hA3
  go_wp2_with fail
  refine k.mono ?_
  rintro e y3 ⟨rfl, rfl⟩
  clear k HX
  have q0 := (HB2.out 3 _ rfl).c
  have qf := (HB2.out 3 _ rfl).f
  obtain ⟨X3, hX3⟩ : ∃ X, (y3).setCell ⟨W.heap.size, 3, none⟩ (.string (tx p)) = X := ⟨_, rfl⟩
  have HX := hX3
  clear hX3
  have HB3 : Hid (Bx X3 W.heap.size [.int .i64 1, .string (tx ses), .int .i64 nu, .string (tx p), .string ⟨#[]⟩, .int .i64 0, .int .i64 0, .int .i64 0, .int .i64 0, .int .i64 0, .slice none 0 0, .int .i64 0, .int .i64 0]) := by rw [Hid, ← HX]; exact HB2.out.set (i := 3) (by simp) (.string (tx p))
  have HZ3 : Hid (Bx X3 w.heap.size [.int .i64 0, .string ⟨#[]⟩, .int .i64 0, .string ⟨#[]⟩, .string ⟨#[]⟩, .int .i64 0, .int .i64 0, .int .i64 0, .int .i64 0, .int .i64 0, .slice none 0 0, .int .i64 0, .int .i64 0]) := by rw [Hid, ← HX]; exact HZ2.out.oth (b' := W.heap.size) (by omega) _
  have HW3 : Hid (Below w.heap.size w X3) := by rw [Hid, ← HX]; exact bs HW2.out (p := ⟨W.heap.size, 3, none⟩) hb42 _
  clear HB2 HZ2 HW2
  have HF4 : Hid (Suf t s4) := by have := HF3.out.step ([] : By) tnR tnR_suf; rw [h4] at this; exact this
  have k := refword_st t ht s3 s4 HF3.out X3 te h4
  obtain ⟨A4, hA4⟩ : ∃ A, atI t s4 = A := ⟨_, rfl⟩
  have HA4 : Hid (atI t s4 = A4) := hA4
  rw [HA3.out, hA4] at k
  clear hA4
  go_wp2_with fail
  refine k.mono ?_
  rintro e y4 ⟨rfl, rfl⟩
  clear k HX
  have q0 := (HB3.out 4 _ rfl).c
  have qf := (HB3.out 4 _ rfl).f
  obtain ⟨X4, hX4⟩ : ∃ X, (y4).setCell ⟨W.heap.size, 4, none⟩ (.string (tx te)) = X := ⟨_, rfl⟩
  have HX := hX4
  clear hX4
  have HB4 : Hid (Bx X4 W.heap.size [.int .i64 1, .string (tx ses), .int .i64 nu, .string (tx p), .string (tx te), .int .i64 0, .int .i64 0, .int .i64 0, .int .i64 0, .int .i64 0, .slice none 0 0, .int .i64 0, .int .i64 0]) := by rw [Hid, ← HX]; exact HB3.out.set (i := 4) (by simp) (.string (tx te))
  have HZ4 : Hid (Bx X4 w.heap.size [.int .i64 0, .string ⟨#[]⟩, .int .i64 0, .string ⟨#[]⟩, .string ⟨#[]⟩, .int .i64 0, .int .i64 0, .int .i64 0, .int .i64 0, .int .i64 0, .slice none 0 0, .int .i64 0, .int .i64 0]) := by rw [Hid, ← HX]; exact HZ3.out.oth (b' := W.heap.size) (by omega) _
  have HW4 : Hid (Below w.heap.size w X4) := by rw [Hid, ← HX]; exact bs HW3.out (p := ⟨W.heap.size, 4, none⟩) hb42 _
  clear HB3 HZ3 HW3
  have HF5 : Hid (Suf t s5) := by have := HF4.out.step (0 : Int) nmR nmR_suf; rw [h5] at this; exact this
  have k := refnum_st t ht s4 s5 HF4.out X4 ru h5
  obtain ⟨A5, hA5⟩ : ∃ A, atI t s5 = A := ⟨_, rfl⟩
  have HA5 : Hid (atI t s5 = A5) := hA5
  rw [HA4.out, hA5] at k
  clear hA5
  go_wp2_with fail
  refine k.mono ?_
  rintro e y5 ⟨rfl, rfl⟩
  clear k HX
  have q0 := (HB4.out 5 _ rfl).c
  have qf := (HB4.out 5 _ rfl).f
  obtain ⟨X5, hX5⟩ : ∃ X, (y5).setCell ⟨W.heap.size, 5, none⟩ (.int .i64 ru) = X := ⟨_, rfl⟩
  have HX := hX5
  clear hX5
  have HB5 : Hid (Bx X5 W.heap.size [.int .i64 1, .string (tx ses), .int .i64 nu, .string (tx p), .string (tx te), .int .i64 ru, .int .i64 0, .int .i64 0, .int .i64 0, .int .i64 0, .slice none 0 0, .int .i64 0, .int .i64 0]) := by rw [Hid, ← HX]; exact HB4.out.set (i := 5) (by simp) (.int .i64 ru)
  have HZ5 : Hid (Bx X5 w.heap.size [.int .i64 0, .string ⟨#[]⟩, .int .i64 0, .string ⟨#[]⟩, .string ⟨#[]⟩, .int .i64 0, .int .i64 0, .int .i64 0, .int .i64 0, .int .i64 0, .slice none 0 0, .int .i64 0, .int .i64 0]) := by rw [Hid, ← HX]; exact HZ4.out.oth (b' := W.heap.size) (by omega) _
  have HW5 : Hid (Below w.heap.size w X5) := by rw [Hid, ← HX]; exact bs HW4.out (p := ⟨W.heap.size, 5, none⟩) hb42 _
  clear HB4 HZ4 HW4
  have HF6 : Hid (Suf t s6) := by have := HF5.out.step (0 : Int) nmR nmR_suf; rw [h6] at this; exact this
  have k := refnum_st t ht s5 s6 HF5.out X5 rd h6
  obtain ⟨A6, hA6⟩ : ∃ A, atI t s6 = A := ⟨_, rfl⟩
  have HA6 : Hid (atI t s6 = A6) := hA6
  rw [HA5.out, hA6] at k
  clear hA6
  go_wp2_with fail
  refine k.mono ?_
  rintro e y6 ⟨rfl, rfl⟩
  clear k HX
  have q0 := (HB5.out 6 _ rfl).c
  have qf := (HB5.out 6 _ rfl).f
  obtain ⟨X6, hX6⟩ : ∃ X, (y6).setCell ⟨W.heap.size, 6, none⟩ (.int .i64 rd) = X := ⟨_, rfl⟩
  have HX := hX6
  clear hX6
  have HB6 : Hid (Bx X6 W.heap.size [.int .i64 1, .string (tx ses), .int .i64 nu, .string (tx p), .string (tx te), .int .i64 ru, .int .i64 rd, .int .i64 0, .int .i64 0, .int .i64 0, .slice none 0 0, .int .i64 0, .int .i64 0]) := by rw [Hid, ← HX]; exact HB5.out.set (i := 6) (by simp) (.int .i64 rd)
  have HZ6 : Hid (Bx X6 w.heap.size [.int .i64 0, .string ⟨#[]⟩, .int .i64 0, .string ⟨#[]⟩, .string ⟨#[]⟩, .int .i64 0, .int .i64 0, .int .i64 0, .int .i64 0, .int .i64 0, .slice none 0 0, .int .i64 0, .int .i64 0]) := by rw [Hid, ← HX]; exact HZ5.out.oth (b' := W.heap.size) (by omega) _
  have HW6 : Hid (Below w.heap.size w X6) := by rw [Hid, ← HX]; exact bs HW5.out (p := ⟨W.heap.size, 6, none⟩) hb42 _
  clear HB5 HZ5 HW5
  have HF7 : Hid (Suf t s7) := by have := HF6.out.step (0 : Int) nmR nmR_suf; rw [h7] at this; exact this
  have k := refnum_st t ht s6 s7 HF6.out X6 lo h7
  obtain ⟨A7, hA7⟩ : ∃ A, atI t s7 = A := ⟨_, rfl⟩
  have HA7 : Hid (atI t s7 = A7) := hA7
  rw [HA6.out, hA7] at k
  clear hA7
  go_wp2_with fail
  refine k.mono ?_
  rintro e y7 ⟨rfl, rfl⟩
  clear k HX
  have q0 := (HB6.out 7 _ rfl).c
  have qf := (HB6.out 7 _ rfl).f
  obtain ⟨X7, hX7⟩ : ∃ X, (y7).setCell ⟨W.heap.size, 7, none⟩ (.int .i64 lo) = X := ⟨_, rfl⟩
  have HX := hX7
  clear hX7
  have HB7 : Hid (Bx X7 W.heap.size [.int .i64 1, .string (tx ses), .int .i64 nu, .string (tx p), .string (tx te), .int .i64 ru, .int .i64 rd, .int .i64 lo, .int .i64 0, .int .i64 0, .slice none 0 0, .int .i64 0, .int .i64 0]) := by rw [Hid, ← HX]; exact HB6.out.set (i := 7) (by simp) (.int .i64 lo)
  have HZ7 : Hid (Bx X7 w.heap.size [.int .i64 0, .string ⟨#[]⟩, .int .i64 0, .string ⟨#[]⟩, .string ⟨#[]⟩, .int .i64 0, .int .i64 0, .int .i64 0, .int .i64 0, .int .i64 0, .slice none 0 0, .int .i64 0, .int .i64 0]) := by rw [Hid, ← HX]; exact HZ6.out.oth (b' := W.heap.size) (by omega) _
  have HW7 : Hid (Below w.heap.size w X7) := by rw [Hid, ← HX]; exact bs HW6.out (p := ⟨W.heap.size, 7, none⟩) hb42 _
  clear HB6 HZ6 HW6
  have HF8 : Hid (Suf t s8) := by have := HF7.out.step (0 : Int) nmR nmR_suf; rw [h8] at this; exact this
  have k := refnum_st t ht s7 s8 HF7.out X7 hi h8
  obtain ⟨A8, hA8⟩ : ∃ A, atI t s8 = A := ⟨_, rfl⟩
  have HA8 : Hid (atI t s8 = A8) := hA8
  rw [HA7.out, hA8] at k
  clear hA8
  go_wp2_with fail
  refine k.mono ?_
  rintro e y8 ⟨rfl, rfl⟩
  clear k HX
  have q0 := (HB7.out 8 _ rfl).c
  have qf := (HB7.out 8 _ rfl).f
  obtain ⟨X8, hX8⟩ : ∃ X, (y8).setCell ⟨W.heap.size, 8, none⟩ (.int .i64 hi) = X := ⟨_, rfl⟩
  have HX := hX8
  clear hX8
  have HB8 : Hid (Bx X8 W.heap.size [.int .i64 1, .string (tx ses), .int .i64 nu, .string (tx p), .string (tx te), .int .i64 ru, .int .i64 rd, .int .i64 lo, .int .i64 hi, .int .i64 0, .slice none 0 0, .int .i64 0, .int .i64 0]) := by rw [Hid, ← HX]; exact HB7.out.set (i := 8) (by simp) (.int .i64 hi)
  have HZ8 : Hid (Bx X8 w.heap.size [.int .i64 0, .string ⟨#[]⟩, .int .i64 0, .string ⟨#[]⟩, .string ⟨#[]⟩, .int .i64 0, .int .i64 0, .int .i64 0, .int .i64 0, .int .i64 0, .slice none 0 0, .int .i64 0, .int .i64 0]) := by rw [Hid, ← HX]; exact HZ7.out.oth (b' := W.heap.size) (by omega) _
  have HW8 : Hid (Below w.heap.size w X8) := by rw [Hid, ← HX]; exact bs HW7.out (p := ⟨W.heap.size, 8, none⟩) hb42 _
  clear HB7 HZ7 HW7
  have u0 := (HB8.out 0 _ rfl).c
  have u1 := (HB8.out 1 _ rfl).c
  have u2 := (HB8.out 2 _ rfl).c
  have u3 := (HB8.out 3 _ rfl).c
  have u4 := (HB8.out 4 _ rfl).c
  have u5 := (HB8.out 5 _ rfl).c
  have u6 := (HB8.out 6 _ rfl).c
  have u7 := (HB8.out 7 _ rfl).c
  have u8 := (HB8.out 8 _ rfl).c
  have u9 := (HB8.out 9 _ rfl).c
  have u10 := (HB8.out 10 _ rfl).c
  have u11 := (HB8.out 11 _ rfl).c
  have u12 := (HB8.out 12 _ rfl).c
  have v0 := (HZ8.out 0 _ rfl).c
  have vf0 := (HZ8.out 0 _ rfl).f
  have v1 := (HZ8.out 1 _ rfl).c
  have vf1 := (HZ8.out 1 _ rfl).f
  have v2 := (HZ8.out 2 _ rfl).c
  have vf2 := (HZ8.out 2 _ rfl).f
  have v3 := (HZ8.out 3 _ rfl).c
  have vf3 := (HZ8.out 3 _ rfl).f
  have v4 := (HZ8.out 4 _ rfl).c
  have vf4 := (HZ8.out 4 _ rfl).f
  have v5 := (HZ8.out 5 _ rfl).c
  have vf5 := (HZ8.out 5 _ rfl).f
  have v6 := (HZ8.out 6 _ rfl).c
  have vf6 := (HZ8.out 6 _ rfl).f
  have v7 := (HZ8.out 7 _ rfl).c
  have vf7 := (HZ8.out 7 _ rfl).f
  have v8 := (HZ8.out 8 _ rfl).c
  have vf8 := (HZ8.out 8 _ rfl).f
  have v9 := (HZ8.out 9 _ rfl).c
  have vf9 := (HZ8.out 9 _ rfl).f
  have v10 := (HZ8.out 10 _ rfl).c
  have vf10 := (HZ8.out 10 _ rfl).f
  have v11 := (HZ8.out 11 _ rfl).c
  have vf11 := (HZ8.out 11 _ rfl).f
  have v12 := (HZ8.out 12 _ rfl).c
  have vf12 := (HZ8.out 12 _ rfl).f
  by_cases hfin : s8 = some []
  · have hend : A8 = (t.length : Int) := by rw [← HA8.out, hfin]; simp [atI]
    have HU : Hid (m = (⟨1, ses, nu, p, te, ru, rd, lo, hi, 0, [], 0, 0⟩ : Msg) ∧ er' = 0) := by
      have h := HUN.out
      unfold unpT at h
      rw [if_neg (by omega), HT.out, (ask_iff HC.out (by rw [HS0.out]; exact h1) h2 h3 h4 h5 h6 h7 h8).1 hfin] at h
      simp only [Bool.false_eq_true, ne_eq, not_true_eq_false, or_self, if_false, Prod.mk.injEq] at h
      exact ⟨h.1.symm, h.2.symm⟩
    clear hfin
    obtain ⟨Y, hY⟩ : ∃ Y, (((((((((((((X8.setCell ⟨w.heap.size, 0, none⟩ (.int .i64 1)).setCell ⟨w.heap.size, 1, none⟩ (.string (tx ses))).setCell ⟨w.heap.size, 2, none⟩ (.int .i64 nu)).setCell ⟨w.heap.size, 3, none⟩ (.string (tx p))).setCell ⟨w.heap.size, 4, none⟩ (.string (tx te))).setCell ⟨w.heap.size, 5, none⟩ (.int .i64 ru)).setCell ⟨w.heap.size, 6, none⟩ (.int .i64 rd)).setCell ⟨w.heap.size, 7, none⟩ (.int .i64 lo)).setCell ⟨w.heap.size, 8, none⟩ (.int .i64 hi)).setCell ⟨w.heap.size, 9, none⟩ (.int .i64 0)).setCell ⟨w.heap.size, 10, none⟩ (.slice none 0 0)).setCell ⟨w.heap.size, 11, none⟩ (.int .i64 0)).setCell ⟨w.heap.size, 12, none⟩ (.int .i64 0)) = Y := ⟨_, rfl⟩
    have hYB : Bx Y w.heap.size [.int .i64 1, .string (tx ses), .int .i64 nu, .string (tx p), .string (tx te), .int .i64 ru, .int .i64 rd, .int .i64 lo, .int .i64 hi, .int .i64 0, .slice none 0 0, .int .i64 0, .int .i64 0] := by rw [← hY]; exact (((((((((((((HZ8.out.set (i := 0) (by simp) (.int .i64 1)).set (i := 1) (by simp) (.string (tx ses))).set (i := 2) (by simp) (.int .i64 nu)).set (i := 3) (by simp) (.string (tx p))).set (i := 4) (by simp) (.string (tx te))).set (i := 5) (by simp) (.int .i64 ru)).set (i := 6) (by simp) (.int .i64 rd)).set (i := 7) (by simp) (.int .i64 lo)).set (i := 8) (by simp) (.int .i64 hi)).set (i := 9) (by simp) (.int .i64 0)).set (i := 10) (by simp) (.slice none 0 0)).set (i := 11) (by simp) (.int .i64 0)).set (i := 12) (by simp) (.int .i64 0))
    have HYB : Hid (Below w.heap.size w Y) := by rw [Hid, ← hY]; exact (bs ((bs ((bs ((bs ((bs ((bs ((bs ((bs ((bs ((bs ((bs ((bs ((bs (HW8.out) (p := ⟨w.heap.size, 0, none⟩) (Nat.le_refl _) _)) (p := ⟨w.heap.size, 1, none⟩) (Nat.le_refl _) _)) (p := ⟨w.heap.size, 2, none⟩) (Nat.le_refl _) _)) (p := ⟨w.heap.size, 3, none⟩) (Nat.le_refl _) _)) (p := ⟨w.heap.size, 4, none⟩) (Nat.le_refl _) _)) (p := ⟨w.heap.size, 5, none⟩) (Nat.le_refl _) _)) (p := ⟨w.heap.size, 6, none⟩) (Nat.le_refl _) _)) (p := ⟨w.heap.size, 7, none⟩) (Nat.le_refl _) _)) (p := ⟨w.heap.size, 8, none⟩) (Nat.le_refl _) _)) (p := ⟨w.heap.size, 9, none⟩) (Nat.le_refl _) _)) (p := ⟨w.heap.size, 10, none⟩) (Nat.le_refl _) _)) (p := ⟨w.heap.size, 11, none⟩) (Nat.le_refl _) _)) (p := ⟨w.heap.size, 12, none⟩) (Nat.le_refl _) _)
    have p0 := (hYB 0 _ rfl).c
    have p1 := (hYB 1 _ rfl).c
    have p2 := (hYB 2 _ rfl).c
    have p3 := (hYB 3 _ rfl).c
    have p4 := (hYB 4 _ rfl).c
    have p5 := (hYB 5 _ rfl).c
    have p6 := (hYB 6 _ rfl).c
    have p7 := (hYB 7 _ rfl).c
    have p8 := (hYB 8 _ rfl).c
    have p9 := (hYB 9 _ rfl).c
    have p10 := (hYB 10 _ rfl).c
    have p11 := (hYB 11 _ rfl).c
    have p12 := (hYB 12 _ rfl).c
    clear hYB
    go_wp2
    (try simp only [Exit.inBlock, Exit.then])
    refine bodyPost_ret (v := .tuple #[.agg #[.int .i64 1, .string (tx ses), .int .i64 nu, .string (tx p), .string (tx te), .int .i64 ru, .int .i64 rd, .int .i64 lo, .int .i64 hi, .int .i64 0, .slice none 0 0, .int .i64 0, .int .i64 0], .int .i64 0]) (by simp [results, Try.results10, go_sem, p0, p1, p2, p3, p4, p5, p6, p7, p8, p9, p10, p11, p12]) rfl ?_
    obtain ⟨rfl, rfl⟩ := HU.out
    exact ⟨_, rfl, num_nil _ _, HYB.out⟩
  · have hend : ¬ A8 = (t.length : Int) := by rw [← HA8.out]; exact at_full HF8.out hfin
    have hend2 : (A8 == (t.length : Int)) = false := by simpa using hend
    have HU : Hid (m = msgZ ∧ er' = 2) := by
      have h := HUN.out
      unfold unpT at h
      have hb := (ask_iff HC.out (by rw [HS0.out]; exact h1) h2 h3 h4 h5 h6 h7 h8).2 hfin
      rw [if_neg (by omega), HT.out, if_pos (by
        cases hq : (msgR (c :: t1)).2.2 with
        | true => exact .inl rfl
        | false => exact .inr fun h => hb ⟨hq, h⟩)] at h
      simp only [Prod.mk.injEq] at h
      exact ⟨h.1.symm, h.2.symm⟩
    clear hfin
    obtain ⟨Y, hY⟩ : ∃ Y, (((((((((((((X8.setCell ⟨w.heap.size, 0, none⟩ (.int .i64 0)).setCell ⟨w.heap.size, 1, none⟩ (.string ⟨#[]⟩)).setCell ⟨w.heap.size, 2, none⟩ (.int .i64 0)).setCell ⟨w.heap.size, 3, none⟩ (.string ⟨#[]⟩)).setCell ⟨w.heap.size, 4, none⟩ (.string ⟨#[]⟩)).setCell ⟨w.heap.size, 5, none⟩ (.int .i64 0)).setCell ⟨w.heap.size, 6, none⟩ (.int .i64 0)).setCell ⟨w.heap.size, 7, none⟩ (.int .i64 0)).setCell ⟨w.heap.size, 8, none⟩ (.int .i64 0)).setCell ⟨w.heap.size, 9, none⟩ (.int .i64 0)).setCell ⟨w.heap.size, 10, none⟩ (.slice none 0 0)).setCell ⟨w.heap.size, 11, none⟩ (.int .i64 0)).setCell ⟨w.heap.size, 12, none⟩ (.int .i64 0)) = Y := ⟨_, rfl⟩
    have hYB : Bx Y w.heap.size [.int .i64 0, .string ⟨#[]⟩, .int .i64 0, .string ⟨#[]⟩, .string ⟨#[]⟩, .int .i64 0, .int .i64 0, .int .i64 0, .int .i64 0, .int .i64 0, .slice none 0 0, .int .i64 0, .int .i64 0] := by rw [← hY]; exact (((((((((((((HZ8.out.set (i := 0) (by simp) (.int .i64 0)).set (i := 1) (by simp) (.string ⟨#[]⟩)).set (i := 2) (by simp) (.int .i64 0)).set (i := 3) (by simp) (.string ⟨#[]⟩)).set (i := 4) (by simp) (.string ⟨#[]⟩)).set (i := 5) (by simp) (.int .i64 0)).set (i := 6) (by simp) (.int .i64 0)).set (i := 7) (by simp) (.int .i64 0)).set (i := 8) (by simp) (.int .i64 0)).set (i := 9) (by simp) (.int .i64 0)).set (i := 10) (by simp) (.slice none 0 0)).set (i := 11) (by simp) (.int .i64 0)).set (i := 12) (by simp) (.int .i64 0))
    have HYB : Hid (Below w.heap.size w Y) := by rw [Hid, ← hY]; exact (bs ((bs ((bs ((bs ((bs ((bs ((bs ((bs ((bs ((bs ((bs ((bs ((bs (HW8.out) (p := ⟨w.heap.size, 0, none⟩) (Nat.le_refl _) _)) (p := ⟨w.heap.size, 1, none⟩) (Nat.le_refl _) _)) (p := ⟨w.heap.size, 2, none⟩) (Nat.le_refl _) _)) (p := ⟨w.heap.size, 3, none⟩) (Nat.le_refl _) _)) (p := ⟨w.heap.size, 4, none⟩) (Nat.le_refl _) _)) (p := ⟨w.heap.size, 5, none⟩) (Nat.le_refl _) _)) (p := ⟨w.heap.size, 6, none⟩) (Nat.le_refl _) _)) (p := ⟨w.heap.size, 7, none⟩) (Nat.le_refl _) _)) (p := ⟨w.heap.size, 8, none⟩) (Nat.le_refl _) _)) (p := ⟨w.heap.size, 9, none⟩) (Nat.le_refl _) _)) (p := ⟨w.heap.size, 10, none⟩) (Nat.le_refl _) _)) (p := ⟨w.heap.size, 11, none⟩) (Nat.le_refl _) _)) (p := ⟨w.heap.size, 12, none⟩) (Nat.le_refl _) _)
    have p0 := (hYB 0 _ rfl).c
    have p1 := (hYB 1 _ rfl).c
    have p2 := (hYB 2 _ rfl).c
    have p3 := (hYB 3 _ rfl).c
    have p4 := (hYB 4 _ rfl).c
    have p5 := (hYB 5 _ rfl).c
    have p6 := (hYB 6 _ rfl).c
    have p7 := (hYB 7 _ rfl).c
    have p8 := (hYB 8 _ rfl).c
    have p9 := (hYB 9 _ rfl).c
    have p10 := (hYB 10 _ rfl).c
    have p11 := (hYB 11 _ rfl).c
    have p12 := (hYB 12 _ rfl).c
    clear hYB
    go_wp2
    (try simp only [Exit.inBlock, Exit.then])
    refine bodyPost_ret (v := .tuple #[.agg #[.int .i64 0, .string ⟨#[]⟩, .int .i64 0, .string ⟨#[]⟩, .string ⟨#[]⟩, .int .i64 0, .int .i64 0, .int .i64 0, .int .i64 0, .int .i64 0, .slice none 0 0, .int .i64 0, .int .i64 0], .int .i64 2]) (by simp [results, Try.results10, go_sem, p0, p1, p2, p3, p4, p5, p6, p7, p8, p9, p10, p11, p12]) rfl ?_
    obtain ⟨rfl, rfl⟩ := HU.out
    exact ⟨_, rfl, num_nil _ _, HYB.out⟩
end Go.Proofs.Ytnoedkebmpfagaa
