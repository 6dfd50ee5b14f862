import Derived.Test.YtnoedkebmpfagaaWrm
/-
  The reference's Unpack, of a reply.
-/
namespace Go.Proofs.Ytnoedkebmpfagaa
open Go.RowKit Wc

theorem num_of_owns {w : World} {base : Nat} {v : Value} {xs : List Int} (hl : xs.length ≤ 9223372036854775807) (h : w.ownsRow base 3 1 v xs.length (xs.map (.int .i64))) : Num w w.heap.size v xs := by
  obtain ⟨_, ⟨hv, h0⟩ | ⟨g, cap, cur, hv, hb, hcur, hc, _, hsz, hx⟩⟩ := h
  · obtain rfl : xs = [] := List.eq_nil_of_length_eq_zero h0
    exact ⟨none, 0, hv, Nat.le_refl _, hl, fun h => absurd rfl h⟩
  · refine ⟨_, cap, hv, hc, hl, fun _ => ⟨g, 0, rfl, (Array.getElem?_eq_some_iff.1 hcur).1, fun i x hi => ?_⟩⟩
    have hi2 : i < xs.length := (List.getElem?_eq_some_iff.1 hi).1
    have : cur[i]? = some (.int .i64 x) := by
      have h1 : (xs.map (Value.int .i64))[i]? = some (.int .i64 x) := by simp [hi]
      rw [← hx, List.getElem?_take_of_lt (by omega)] at h1
      simpa using h1
    simp [World.cell?, hcur, this]
theorem vsI_len {t : By} {s4 st : Option By} {n0 rem : Nat} {vs : List Int} {y : By} (h : VsI s4 n0 rem vs st) (hst : st = some y) (hs : Suf t s4) : vs.length ≤ t.length := by
  cases s4 with
  | none => rw [hst] at h; cases h
  | some x =>
    rcases h with ⟨y', e, h1, h2⟩ | ⟨e, -⟩
    · have h3 := nsR_glen _ _ _ _ h1
      have h4 : x.length ≤ t.length := List.IsSuffix.length_le hs
      omega
    · rw [hst] at e; cases e
set_option maxHeartbeats 4000000 in
set_option maxRecDepth 100000 in
theorem refunp_rpl (c : UInt8) (t1 t : By) (hT : t = c :: t1) (hc : c.toNat = 2) (ht : t.length ≤ 65536) (w : World) (m : Msg) (er' : Int) (hu : unpT t = (m, er')) :
    Calls Try.prog 10 #[.string (tx t)] w fun e w' => ∃ sv, e = .returned (.tuple #[mv m sv, .int .i64 er']) ∧ Num w' w'.heap.size sv m.vals ∧ Below w.heap.size w w' := by
  have hsz := tx_size t
  have HUN : Hid (unpT t = (m, er')) := hu
  have HT : Hid (t = c :: t1) := hT
  have HC : Hid (c.toNat = 2) := hc
  have hlen : 0 < t.length := by rw [hT]; simp
  have d1 : ¬ (65536 : Int) < (t.length : Int) := by omega
  have d2 : ¬ (t.length : Int) = 0 := by omega
  have d2' : ¬ t = [] := by rw [hT]; simp
  have d3 : (0 : Int) < (t.length : Int) := by omega
  have e1 : ∀ h, (tx t)[0]'h = 2 := fun h => by
    have : (tx t)[0]'h = c := by subst hT; rfl
    rw [this]
    exact UInt8.toNat_inj.1 (by rw [hc]; rfl)
  have HF0 : Hid (Suf t (some t1)) := by rw [hT]; exact List.suffix_cons c t1
  have HA0 : Hid (atI t (some t1) = 1) := by rw [Hid, hT]; simp [atI]
  obtain ⟨s0, hs0⟩ : ∃ s : Option By, some t1 = s := ⟨_, rfl⟩
  obtain ⟨ses, s1, h1⟩ : ∃ v s, stS [] tnR s0 = (v, s) := ⟨_, _, rfl⟩
  obtain ⟨nu, s2, h2⟩ : ∃ v s, stS 0 nmR s1 = (v, s) := ⟨_, _, rfl⟩
  obtain ⟨er, s3, h3⟩ : ∃ v s, stS 0 nmR s2 = (v, s) := ⟨_, _, rfl⟩
  obtain ⟨n0, s4, h4⟩ : ∃ v s, stS 0 ctR s3 = (v, s) := ⟨_, _, rfl⟩
  obtain ⟨i0, hi0, hz0, hz1, hz2⟩ := info_parts infoI
  rw [hs0] at HF0 HA0
  have HS0 : Hid (some t1 = s0) := hs0
  clear hu hT hc hs0
  obtain ⟨W, hW⟩ : ∃ W, w.alloc (.cells #[.int .i64 0, .string ⟨#[]⟩, .int .i64 0, .string ⟨#[]⟩, .string ⟨#[]⟩, .int .i64 0, .int .i64 0, .int .i64 0, .int .i64 0, .int .i64 0, .slice none 0 0, .int .i64 0, .int .i64 0] 27) = W := ⟨_, rfl⟩
  have bW : Below w.heap.size w W := by rw [← hW]; exact ba _ _
  have hZ : Bx W w.heap.size [.int .i64 0, .string ⟨#[]⟩, .int .i64 0, .string ⟨#[]⟩, .string ⟨#[]⟩, .int .i64 0, .int .i64 0, .int .i64 0, .int .i64 0, .int .i64 0, .slice none 0 0, .int .i64 0, .int .i64 0] := by rw [← hW]; exact Bx.new w _ 27 rfl
  have hlt : w.heap.size < W.heap.size := (hZ 0 _ rfl).lt
  have bX : Below W.heap.size W (W.alloc (.cells #[.int .i64 2, .string ⟨#[]⟩, .int .i64 0, .string ⟨#[]⟩, .string ⟨#[]⟩, .int .i64 0, .int .i64 0, .int .i64 0, .int .i64 0, .int .i64 0, .slice none 0 0, .int .i64 0, .int .i64 0] 27)) := ba _ _
  have HB0 : Hid (Bx (W.alloc (.cells #[.int .i64 2, .string ⟨#[]⟩, .int .i64 0, .string ⟨#[]⟩, .string ⟨#[]⟩, .int .i64 0, .int .i64 0, .int .i64 0, .int .i64 0, .int .i64 0, .slice none 0 0, .int .i64 0, .int .i64 0] 27)) W.heap.size [.int .i64 2, .string ⟨#[]⟩, .int .i64 0, .string ⟨#[]⟩, .string ⟨#[]⟩, .int .i64 0, .int .i64 0, .int .i64 0, .int .i64 0, .int .i64 0, .slice none 0 0, .int .i64 0, .int .i64 0]) := Bx.new W _ 27 rfl
  have HZ0 : Hid (Bx (W.alloc (.cells #[.int .i64 2, .string ⟨#[]⟩, .int .i64 0, .string ⟨#[]⟩, .string ⟨#[]⟩, .int .i64 0, .int .i64 0, .int .i64 0, .int .i64 0, .int .i64 0, .slice none 0 0, .int .i64 0, .int .i64 0] 27)) w.heap.size [.int .i64 0, .string ⟨#[]⟩, .int .i64 0, .string ⟨#[]⟩, .string ⟨#[]⟩, .int .i64 0, .int .i64 0, .int .i64 0, .int .i64 0, .int .i64 0, .slice none 0 0, .int .i64 0, .int .i64 0]) := hZ.at bX
  have HW0 : Hid (Below w.heap.size w (W.alloc (.cells #[.int .i64 2, .string ⟨#[]⟩, .int .i64 0, .string ⟨#[]⟩, .string ⟨#[]⟩, .int .i64 0, .int .i64 0, .int .i64 0, .int .i64 0, .int .i64 0, .slice none 0 0, .int .i64 0, .int .i64 0] 27))) := bt bW bX
  have hb42 : w.heap.size ≤ W.heap.size := by omega
  clear bX hZ bW
  go_enter Try.func10, Try.ntmps10
  have HF1 : Hid (Suf t s1) := by have := HF0.out.step ([] : By) tnR tnR_suf; rw [h1] at this; exact this
  have k := refword_st t ht s0 s1 HF0.out (W.alloc (.cells #[.int .i64 2, .string ⟨#[]⟩, .int .i64 0, .string ⟨#[]⟩, .string ⟨#[]⟩, .int .i64 0, .int .i64 0, .int .i64 0, .int .i64 0, .int .i64 0, .slice none 0 0, .int .i64 0, .int .i64 0] 27)) ses h1
  obtain ⟨A1, hA1⟩ : ∃ A, atI t s1 = A := ⟨_, rfl⟩
  have HA1 : Hid (atI t s1 = A1) := hA1
  rw [HA0.out, hA1] at k
  clear hA1
  go_wp2_with fail
  refine k.mono ?_
  rintro e y1 ⟨rfl, rfl⟩
  clear k
  have q0 := (HB0.out 1 _ rfl).c
  have qf := (HB0.out 1 _ rfl).f
  obtain ⟨X1, hX1⟩ : ∃ X, (W.alloc (.cells #[.int .i64 2, .string ⟨#[]⟩, .int .i64 0, .string ⟨#[]⟩, .string ⟨#[]⟩, .int .i64 0, .int .i64 0, .int .i64 0, .int .i64 0, .int .i64 0, .slice none 0 0, .int .i64 0, .int .i64 0] 27)).setCell ⟨W.heap.size, 1, none⟩ (.string (tx ses)) = X := ⟨_, rfl⟩
  have HX := hX1
  clear hX1
  have HB1 : Hid (Bx X1 W.heap.size [.int .i64 2, .string (tx ses), .int .i64 0, .string ⟨#[]⟩, .string ⟨#[]⟩, .int .i64 0, .int .i64 0, .int .i64 0, .int .i64 0, .int .i64 0, .slice none 0 0, .int .i64 0, .int .i64 0]) := by rw [Hid, ← HX]; exact HB0.out.set (i := 1) (by simp) (.string (tx ses))
  have HZ1 : Hid (Bx X1 w.heap.size [.int .i64 0, .string ⟨#[]⟩, .int .i64 0, .string ⟨#[]⟩, .string ⟨#[]⟩, .int .i64 0, .int .i64 0, .int .i64 0, .int .i64 0, .int .i64 0, .slice none 0 0, .int .i64 0, .int .i64 0]) := by rw [Hid, ← HX]; exact HZ0.out.oth (b' := W.heap.size) (by omega) _
  have HW1 : Hid (Below w.heap.size w X1) := by rw [Hid, ← HX]; exact bs HW0.out (p := ⟨W.heap.size, 1, none⟩) hb42 _
  clear HB0 HZ0 HW0
  have HF2 : Hid (Suf t s2) := by have := HF1.out.step (0 : Int) nmR nmR_suf; rw [h2] at this; exact this
  have k := refnum_st t ht s1 s2 HF1.out X1 nu h2
  obtain ⟨A2, hA2⟩ : ∃ A, atI t s2 = A := ⟨_, rfl⟩
  have HA2 : Hid (atI t s2 = A2) := hA2
  rw [HA1.out, hA2] at k
  clear hA2
  go_wp2_with fail
  refine k.mono ?_
  rintro e y2 ⟨rfl, rfl⟩
  clear k HX
  have q0 := (HB1.out 2 _ rfl).c
  have qf := (HB1.out 2 _ rfl).f
  obtain ⟨X2, hX2⟩ : ∃ X, (y2).setCell ⟨W.heap.size, 2, none⟩ (.int .i64 nu) = X := ⟨_, rfl⟩
  have HX := hX2
  clear hX2
  have HB2 : Hid (Bx X2 W.heap.size [.int .i64 2, .string (tx ses), .int .i64 nu, .string ⟨#[]⟩, .string ⟨#[]⟩, .int .i64 0, .int .i64 0, .int .i64 0, .int .i64 0, .int .i64 0, .slice none 0 0, .int .i64 0, .int .i64 0]) := by rw [Hid, ← HX]; exact HB1.out.set (i := 2) (by simp) (.int .i64 nu)
  have HZ2 : Hid (Bx X2 w.heap.size [.int .i64 0, .string ⟨#[]⟩, .int .i64 0, .string ⟨#[]⟩, .string ⟨#[]⟩, .int .i64 0, .int .i64 0, .int .i64 0, .int .i64 0, .int .i64 0, .slice none 0 0, .int .i64 0, .int .i64 0]) := by rw [Hid, ← HX]; exact HZ1.out.oth (b' := W.heap.size) (by omega) _
  have HW2 : Hid (Below w.heap.size w X2) := by rw [Hid, ← HX]; exact bs HW1.out (p := ⟨W.heap.size, 2, none⟩) hb42 _
  clear HB1 HZ1 HW1
  have qk := (HB2.out 0 _ rfl).c
  have HF3 : Hid (Suf t s3) := by have := HF2.out.step (0 : Int) nmR nmR_suf; rw [h3] at this; exact this
  have k := refnum_st t ht s2 s3 HF2.out X2 er h3
  obtain ⟨A3, hA3⟩ : ∃ A, atI t s3 = A := ⟨_, rfl⟩
  have HA3 : Hid (atI t s3 = A3) := hA3
  rw [HA2.out, hA3] at k
  clear hA3
  go_wp2_with fail
  refine k.mono ?_
  rintro e y3 ⟨rfl, rfl⟩
  clear k HX
  have q0 := (HB2.out 9 _ rfl).c
  have qf := (HB2.out 9 _ rfl).f
  obtain ⟨X3, hX3⟩ : ∃ X, (y3).setCell ⟨W.heap.size, 9, none⟩ (.int .i64 er) = X := ⟨_, rfl⟩
  have HX := hX3
  clear hX3
  have HB3 : Hid (Bx X3 W.heap.size [.int .i64 2, .string (tx ses), .int .i64 nu, .string ⟨#[]⟩, .string ⟨#[]⟩, .int .i64 0, .int .i64 0, .int .i64 0, .int .i64 0, .int .i64 er, .slice none 0 0, .int .i64 0, .int .i64 0]) := by rw [Hid, ← HX]; exact HB2.out.set (i := 9) (by simp) (.int .i64 er)
  have HZ3 : Hid (Bx X3 w.heap.size [.int .i64 0, .string ⟨#[]⟩, .int .i64 0, .string ⟨#[]⟩, .string ⟨#[]⟩, .int .i64 0, .int .i64 0, .int .i64 0, .int .i64 0, .int .i64 0, .slice none 0 0, .int .i64 0, .int .i64 0]) := by rw [Hid, ← HX]; exact HZ2.out.oth (b' := W.heap.size) (by omega) _
  have HW3 : Hid (Below w.heap.size w X3) := by rw [Hid, ← HX]; exact bs HW2.out (p := ⟨W.heap.size, 9, none⟩) hb42 _
  clear HB2 HZ2 HW2
  have HF4 : Hid (Suf t s4) := by have := HF3.out.step (0 : Nat) ctR ctR_suf; rw [h4] at this; exact this
  have k := refcnt_st t ht s3 s4 HF3.out X3 n0 h4
  obtain ⟨A4, hA4⟩ : ∃ A, atI t s4 = A := ⟨_, rfl⟩
  have HA4 : Hid (atI t s4 = A4) := hA4
  rw [HA3.out, hA4] at k
  clear hA4
  go_wp2_with fail
  refine k.mono ?_
  rintro e y4 ⟨rfl, rfl⟩
  clear k HX
  have hn0 := ct_lt h4
  have hbz5 : W.heap.size < y4.heap.size := (HB3.out 0 _ rfl).lt
  have hbz4 : w.heap.size < y4.heap.size := by omega
  clear q0 qf
  go_wp2_with fail
  go_loopw [5, 7] (fun av nv wr => ∃ (rem : Nat) (vs : List Int) (st : Option By) (va : Option Addr) (vc : Nat), av = .int .i64 (atI t st) ∧ nv = .int .u64 (rem : Int) ∧ rem < 18446744073709551616 ∧ Hid (VsI s4 n0 rem vs st) ∧ Hid (Suf t st) ∧ Hid (Bx wr W.heap.size [.int .i64 2, .string (tx ses), .int .i64 nu, .string ⟨#[]⟩, .string ⟨#[]⟩, .int .i64 0, .int .i64 0, .int .i64 0, .int .i64 0, .int .i64 er, .slice va vs.length vc, .int .i64 0, .int .i64 0]) ∧ Hid (Bx wr w.heap.size [.int .i64 0, .string ⟨#[]⟩, .int .i64 0, .string ⟨#[]⟩, .string ⟨#[]⟩, .int .i64 0, .int .i64 0, .int .i64 0, .int .i64 0, .int .i64 0, .slice none 0 0, .int .i64 0, .int .i64 0]) ∧ Hid (Below w.heap.size w wr) ∧ Hid (y4.heap.size ≤ wr.heap.size) ∧ Hid (wr.ownsRow y4.heap.size 3 1 (.slice va vs.length vc) vs.length (vs.map (.int .i64)))) (fun _ nv _ => (intOf nv).toNat)
  case atStart => exact ⟨n0, [], s4, none, 0, by rw [HA4.out], rfl, hn0, VsI.start _ _, HF4, HB3, HZ3, HW3, Nat.le_refl _, ⟨rfl, .inl ⟨rfl, rfl⟩⟩⟩
  case round =>
    obtain ⟨rem, vs, st, va, vc, rfl, rfl, hrem, HV, HS, HB, HZ, HWb, HY, HR⟩ := hrel
    have hvnew : ∀ a : Addr, va = some a → y4.heap.size ≤ a.block := fun a e => (row_lt HR.out (by rw [e]; rfl)).1
    by_cases hr0 : rem = 0
    · subst hr0
      obtain ⟨A5, hA5⟩ : ∃ A, atI t st = A := ⟨_, rfl⟩
      have HA5 : Hid (atI t st = A5) := hA5
      rw [hA5]
      clear hA5
      have HF5 : Hid (Suf t st) := HS
      have HB5 : Hid (Bx wr W.heap.size [.int .i64 2, .string (tx ses), .int .i64 nu, .string ⟨#[]⟩, .string ⟨#[]⟩, .int .i64 0, .int .i64 0, .int .i64 0, .int .i64 0, .int .i64 er, .slice va vs.length vc, .int .i64 0, .int .i64 0]) := HB
      have HZ5 : Hid (Bx wr w.heap.size [.int .i64 0, .string ⟨#[]⟩, .int .i64 0, .string ⟨#[]⟩, .string ⟨#[]⟩, .int .i64 0, .int .i64 0, .int .i64 0, .int .i64 0, .int .i64 0, .slice none 0 0, .int .i64 0, .int .i64 0]) := HZ
      have HW5 : Hid (Below w.heap.size w wr) := HWb
      obtain ⟨lu, s6, h6⟩ : ∃ v s, stS 0 nmR st = (v, s) := ⟨_, _, rfl⟩
      obtain ⟨ld, s7, h7⟩ : ∃ v s, stS 0 nmR s6 = (v, s) := ⟨_, _, rfl⟩
      have HIF := rpl_iff HC.out (by rw [HS0.out]; exact h1) h2 h3 h4 _ HV.out (.inl rfl) h6 h7
      have hvl : vs.length ≤ 9223372036854775807 := by
        obtain ⟨a', c', e, -, -⟩ : ∃ a c, Value.slice va vs.length vc = .slice a vs.length c ∧ True ∧ True := ⟨_, _, rfl, trivial, trivial⟩
        rcases HR.out.2 with ⟨-, h0⟩ | ⟨g, cap, cur, -, -, -, h4', h5', -⟩
        · omega
        · have : maxLen = 9223372036854775807 := by decide
          omega
      have HN5 : Hid (Num wr wr.heap.size (.slice va vs.length vc) vs) := num_of_owns hvl HR.out
      clear HB HZ HWb HR hvl
      have HF6 : Hid (Suf t s6) := by have := HF5.out.step (0 : Int) nmR nmR_suf; rw [h6] at this; exact this
      have k := refnum_st t ht st s6 HF5.out wr lu h6
      obtain ⟨A6, hA6⟩ : ∃ A, atI t s6 = A := ⟨_, rfl⟩
      have HA6 : Hid (atI t s6 = A6) := hA6
      rw [HA5.out, hA6] at k
      clear hA6
      go_wp2_with fail
      refine k.mono ?_
      rintro e y6 ⟨rfl, rfl⟩
      clear k
      have q0 := (HB5.out 11 _ rfl).c
      have qf := (HB5.out 11 _ rfl).f
      obtain ⟨X6, hX6⟩ : ∃ X, (y6).setCell ⟨W.heap.size, 11, none⟩ (.int .i64 lu) = X := ⟨_, rfl⟩
      have HX6' : Hid ((y6).setCell ⟨W.heap.size, 11, none⟩ (.int .i64 lu) = X6) := hX6
      have HX := hX6
      clear hX6
      have HB6 : Hid (Bx X6 W.heap.size [.int .i64 2, .string (tx ses), .int .i64 nu, .string ⟨#[]⟩, .string ⟨#[]⟩, .int .i64 0, .int .i64 0, .int .i64 0, .int .i64 0, .int .i64 er, .slice va vs.length vc, .int .i64 lu, .int .i64 0]) := by rw [Hid, ← HX]; exact HB5.out.set (i := 11) (by simp) (.int .i64 lu)
      have HZ6 : Hid (Bx X6 w.heap.size [.int .i64 0, .string ⟨#[]⟩, .int .i64 0, .string ⟨#[]⟩, .string ⟨#[]⟩, .int .i64 0, .int .i64 0, .int .i64 0, .int .i64 0, .int .i64 0, .slice none 0 0, .int .i64 0, .int .i64 0]) := by rw [Hid, ← HX]; exact HZ5.out.oth (b' := W.heap.size) (by omega) _
      have HW6 : Hid (Below w.heap.size w X6) := by rw [Hid, ← HX]; exact bs HW5.out (p := ⟨W.heap.size, 11, none⟩) hb42 _
      clear HB5 HZ5 HW5
      have HF7 : Hid (Suf t s7) := by have := HF6.out.step (0 : Int) nmR nmR_suf; rw [h7] at this; exact this
      have k := refnum_st t ht s6 s7 HF6.out X6 ld h7
      obtain ⟨A7, hA7⟩ : ∃ A, atI t s7 = A := ⟨_, rfl⟩
      have HA7 : Hid (atI t s7 = A7) := hA7
      rw [HA6.out, hA7] at k
      clear hA7
      go_wp2_with fail
      refine k.mono ?_
      rintro e y7 ⟨rfl, rfl⟩
      clear k HX
      have q0 := (HB6.out 12 _ rfl).c
      have qf := (HB6.out 12 _ rfl).f
      obtain ⟨X7, hX7⟩ : ∃ X, (y7).setCell ⟨W.heap.size, 12, none⟩ (.int .i64 ld) = X := ⟨_, rfl⟩
      have HX := hX7
      clear hX7
      have HB7 : Hid (Bx X7 W.heap.size [.int .i64 2, .string (tx ses), .int .i64 nu, .string ⟨#[]⟩, .string ⟨#[]⟩, .int .i64 0, .int .i64 0, .int .i64 0, .int .i64 0, .int .i64 er, .slice va vs.length vc, .int .i64 lu, .int .i64 ld]) := by rw [Hid, ← HX]; exact HB6.out.set (i := 12) (by simp) (.int .i64 ld)
      have HZ7 : Hid (Bx X7 w.heap.size [.int .i64 0, .string ⟨#[]⟩, .int .i64 0, .string ⟨#[]⟩, .string ⟨#[]⟩, .int .i64 0, .int .i64 0, .int .i64 0, .int .i64 0, .int .i64 0, .slice none 0 0, .int .i64 0, .int .i64 0]) := by rw [Hid, ← HX]; exact HZ6.out.oth (b' := W.heap.size) (by omega) _
      have HW7 : Hid (Below w.heap.size w X7) := by rw [Hid, ← HX]; exact bs HW6.out (p := ⟨W.heap.size, 12, none⟩) hb42 _
      clear HB6 HZ6 HW6
      have HNUM : Hid (Num X7 X7.heap.size (.slice va vs.length vc) vs) := by
        have hgg : y6.grownBy X7 (some W.heap.size) := by
          have e7 := HX
          rw [← e7]
          have e6 := HX6'.out
          rw [← e6]
          exact gb_set (gb_set (gb_refl _ _) 11 _) 12 _
        exact (Num.gb (R := W.heap.size) HN5.out hgg (by
          intro a n c e
          simp only [Value.slice.injEq] at e
          have := hvnew a e.1
          omega)).mono hgg.size
      have u0 := (HB7.out 0 _ rfl).c
      have u1 := (HB7.out 1 _ rfl).c
      have u2 := (HB7.out 2 _ rfl).c
      have u3 := (HB7.out 3 _ rfl).c
      have u4 := (HB7.out 4 _ rfl).c
      have u5 := (HB7.out 5 _ rfl).c
      have u6 := (HB7.out 6 _ rfl).c
      have u7 := (HB7.out 7 _ rfl).c
      have u8 := (HB7.out 8 _ rfl).c
      have u9 := (HB7.out 9 _ rfl).c
      have u10 := (HB7.out 10 _ rfl).c
      have u11 := (HB7.out 11 _ rfl).c
      have u12 := (HB7.out 12 _ rfl).c
      have v0 := (HZ7.out 0 _ rfl).c
      have vf0 := (HZ7.out 0 _ rfl).f
      have v1 := (HZ7.out 1 _ rfl).c
      have vf1 := (HZ7.out 1 _ rfl).f
      have v2 := (HZ7.out 2 _ rfl).c
      have vf2 := (HZ7.out 2 _ rfl).f
      have v3 := (HZ7.out 3 _ rfl).c
      have vf3 := (HZ7.out 3 _ rfl).f
      have v4 := (HZ7.out 4 _ rfl).c
      have vf4 := (HZ7.out 4 _ rfl).f
      have v5 := (HZ7.out 5 _ rfl).c
      have vf5 := (HZ7.out 5 _ rfl).f
      have v6 := (HZ7.out 6 _ rfl).c
      have vf6 := (HZ7.out 6 _ rfl).f
      have v7 := (HZ7.out 7 _ rfl).c
      have vf7 := (HZ7.out 7 _ rfl).f
      have v8 := (HZ7.out 8 _ rfl).c
      have vf8 := (HZ7.out 8 _ rfl).f
      have v9 := (HZ7.out 9 _ rfl).c
      have vf9 := (HZ7.out 9 _ rfl).f
      have v10 := (HZ7.out 10 _ rfl).c
      have vf10 := (HZ7.out 10 _ rfl).f
      have v11 := (HZ7.out 11 _ rfl).c
      have vf11 := (HZ7.out 11 _ rfl).f
      have v12 := (HZ7.out 12 _ rfl).c
      have vf12 := (HZ7.out 12 _ rfl).f
      by_cases hfin : s7 = some []
      · have hend : A7 = (t.length : Int) := by rw [← HA7.out, hfin]; simp [atI]
        have HU : Hid (m = (⟨2, ses, nu, [], [], 0, 0, 0, 0, er, vs, lu, ld⟩ : Msg) ∧ er' = 0) := by
          have h := HUN.out
          unfold unpT at h
          rw [if_neg (by omega), HT.out, (HIF).1 hfin] at h
          simp only [Bool.false_eq_true, ne_eq, not_true_eq_false, or_self, if_false, Prod.mk.injEq] at h
          exact ⟨h.1.symm, h.2.symm⟩
        clear hfin
        obtain ⟨Y, hY⟩ : ∃ Y, (((((((((((((X7.setCell ⟨w.heap.size, 0, none⟩ (.int .i64 2)).setCell ⟨w.heap.size, 1, none⟩ (.string (tx ses))).setCell ⟨w.heap.size, 2, none⟩ (.int .i64 nu)).setCell ⟨w.heap.size, 3, none⟩ (.string ⟨#[]⟩)).setCell ⟨w.heap.size, 4, none⟩ (.string ⟨#[]⟩)).setCell ⟨w.heap.size, 5, none⟩ (.int .i64 0)).setCell ⟨w.heap.size, 6, none⟩ (.int .i64 0)).setCell ⟨w.heap.size, 7, none⟩ (.int .i64 0)).setCell ⟨w.heap.size, 8, none⟩ (.int .i64 0)).setCell ⟨w.heap.size, 9, none⟩ (.int .i64 er)).setCell ⟨w.heap.size, 10, none⟩ (.slice va vs.length vc)).setCell ⟨w.heap.size, 11, none⟩ (.int .i64 lu)).setCell ⟨w.heap.size, 12, none⟩ (.int .i64 ld)) = Y := ⟨_, rfl⟩
        have hYB : Bx Y w.heap.size [.int .i64 2, .string (tx ses), .int .i64 nu, .string ⟨#[]⟩, .string ⟨#[]⟩, .int .i64 0, .int .i64 0, .int .i64 0, .int .i64 0, .int .i64 er, .slice va vs.length vc, .int .i64 lu, .int .i64 ld] := by rw [← hY]; exact (((((((((((((HZ7.out.set (i := 0) (by simp) (.int .i64 2)).set (i := 1) (by simp) (.string (tx ses))).set (i := 2) (by simp) (.int .i64 nu)).set (i := 3) (by simp) (.string ⟨#[]⟩)).set (i := 4) (by simp) (.string ⟨#[]⟩)).set (i := 5) (by simp) (.int .i64 0)).set (i := 6) (by simp) (.int .i64 0)).set (i := 7) (by simp) (.int .i64 0)).set (i := 8) (by simp) (.int .i64 0)).set (i := 9) (by simp) (.int .i64 er)).set (i := 10) (by simp) (.slice va vs.length vc)).set (i := 11) (by simp) (.int .i64 lu)).set (i := 12) (by simp) (.int .i64 ld))
        have HYB : Hid (Below w.heap.size w Y) := by rw [Hid, ← hY]; exact (bs ((bs ((bs ((bs ((bs ((bs ((bs ((bs ((bs ((bs ((bs ((bs ((bs (HW7.out) (p := ⟨w.heap.size, 0, none⟩) (Nat.le_refl _) _)) (p := ⟨w.heap.size, 1, none⟩) (Nat.le_refl _) _)) (p := ⟨w.heap.size, 2, none⟩) (Nat.le_refl _) _)) (p := ⟨w.heap.size, 3, none⟩) (Nat.le_refl _) _)) (p := ⟨w.heap.size, 4, none⟩) (Nat.le_refl _) _)) (p := ⟨w.heap.size, 5, none⟩) (Nat.le_refl _) _)) (p := ⟨w.heap.size, 6, none⟩) (Nat.le_refl _) _)) (p := ⟨w.heap.size, 7, none⟩) (Nat.le_refl _) _)) (p := ⟨w.heap.size, 8, none⟩) (Nat.le_refl _) _)) (p := ⟨w.heap.size, 9, none⟩) (Nat.le_refl _) _)) (p := ⟨w.heap.size, 10, none⟩) (Nat.le_refl _) _)) (p := ⟨w.heap.size, 11, none⟩) (Nat.le_refl _) _)) (p := ⟨w.heap.size, 12, none⟩) (Nat.le_refl _) _)
        have HYN : Hid (Num Y Y.heap.size (.slice va vs.length vc) vs) := by
          have s2 := Num.gb (R := w.heap.size) HNUM.out (gb_set (gb_set (gb_set (gb_set (gb_set (gb_set (gb_set (gb_set (gb_set (gb_set (gb_set (gb_set (gb_set (gb_refl _ _) 0 (.int .i64 2)) 1 (.string (tx ses))) 2 (.int .i64 nu)) 3 (.string ⟨#[]⟩)) 4 (.string ⟨#[]⟩)) 5 (.int .i64 0)) 6 (.int .i64 0)) 7 (.int .i64 0)) 8 (.int .i64 0)) 9 (.int .i64 er)) 10 (.slice va vs.length vc)) 11 (.int .i64 lu)) 12 (.int .i64 ld)) (by
            intro a n c e
            simp only [Value.slice.injEq] at e
            have := hvnew a e.1
            omega)
          rw [hY] at s2
          have e6 : X7.heap.size = Y.heap.size := by rw [← hY]; simp
          rw [e6] at s2
          exact s2
        have p0 := (hYB 0 _ rfl).c
        have p1 := (hYB 1 _ rfl).c
        have p2 := (hYB 2 _ rfl).c
        have p3 := (hYB 3 _ rfl).c
        have p4 := (hYB 4 _ rfl).c
        have p5 := (hYB 5 _ rfl).c
        have p6 := (hYB 6 _ rfl).c
        have p7 := (hYB 7 _ rfl).c
        have p8 := (hYB 8 _ rfl).c
        have p9 := (hYB 9 _ rfl).c
        have p10 := (hYB 10 _ rfl).c
        have p11 := (hYB 11 _ rfl).c
        have p12 := (hYB 12 _ rfl).c
        clear hYB
        go_wp2
        (try simp only [Exit.inBlock, Exit.then])
        refine bodyPost_ret (v := .tuple #[.agg #[.int .i64 2, .string (tx ses), .int .i64 nu, .string ⟨#[]⟩, .string ⟨#[]⟩, .int .i64 0, .int .i64 0, .int .i64 0, .int .i64 0, .int .i64 er, .slice va vs.length vc, .int .i64 lu, .int .i64 ld], .int .i64 0]) (by simp [results, Try.results10, go_sem, p0, p1, p2, p3, p4, p5, p6, p7, p8, p9, p10, p11, p12]) rfl ?_
        obtain ⟨rfl, rfl⟩ := HU.out
        exact ⟨_, rfl, HYN.out, HYB.out⟩
      · have hend : ¬ A7 = (t.length : Int) := by rw [← HA7.out]; exact at_full HF7.out hfin
        have hend2 : (A7 == (t.length : Int)) = false := by simpa using hend
        have HU : Hid (m = msgZ ∧ er' = 2) := by
          have h := HUN.out
          unfold unpT at h
          have hb := (HIF).2 hfin
          rw [if_neg (by omega), HT.out, if_pos (by
            cases hq : (msgR (c :: t1)).2.2 with
            | true => exact .inl rfl
            | false => exact .inr fun h => hb ⟨hq, h⟩)] at h
          simp only [Prod.mk.injEq] at h
          exact ⟨h.1.symm, h.2.symm⟩
        clear hfin
        obtain ⟨Y, hY⟩ : ∃ Y, (((((((((((((X7.setCell ⟨w.heap.size, 0, none⟩ (.int .i64 0)).setCell ⟨w.heap.size, 1, none⟩ (.string ⟨#[]⟩)).setCell ⟨w.heap.size, 2, none⟩ (.int .i64 0)).setCell ⟨w.heap.size, 3, none⟩ (.string ⟨#[]⟩)).setCell ⟨w.heap.size, 4, none⟩ (.string ⟨#[]⟩)).setCell ⟨w.heap.size, 5, none⟩ (.int .i64 0)).setCell ⟨w.heap.size, 6, none⟩ (.int .i64 0)).setCell ⟨w.heap.size, 7, none⟩ (.int .i64 0)).setCell ⟨w.heap.size, 8, none⟩ (.int .i64 0)).setCell ⟨w.heap.size, 9, none⟩ (.int .i64 0)).setCell ⟨w.heap.size, 10, none⟩ (.slice none 0 0)).setCell ⟨w.heap.size, 11, none⟩ (.int .i64 0)).setCell ⟨w.heap.size, 12, none⟩ (.int .i64 0)) = Y := ⟨_, rfl⟩
        have hYB : Bx Y w.heap.size [.int .i64 0, .string ⟨#[]⟩, .int .i64 0, .string ⟨#[]⟩, .string ⟨#[]⟩, .int .i64 0, .int .i64 0, .int .i64 0, .int .i64 0, .int .i64 0, .slice none 0 0, .int .i64 0, .int .i64 0] := by rw [← hY]; exact (((((((((((((HZ7.out.set (i := 0) (by simp) (.int .i64 0)).set (i := 1) (by simp) (.string ⟨#[]⟩)).set (i := 2) (by simp) (.int .i64 0)).set (i := 3) (by simp) (.string ⟨#[]⟩)).set (i := 4) (by simp) (.string ⟨#[]⟩)).set (i := 5) (by simp) (.int .i64 0)).set (i := 6) (by simp) (.int .i64 0)).set (i := 7) (by simp) (.int .i64 0)).set (i := 8) (by simp) (.int .i64 0)).set (i := 9) (by simp) (.int .i64 0)).set (i := 10) (by simp) (.slice none 0 0)).set (i := 11) (by simp) (.int .i64 0)).set (i := 12) (by simp) (.int .i64 0))
        have HYB : Hid (Below w.heap.size w Y) := by rw [Hid, ← hY]; exact (bs ((bs ((bs ((bs ((bs ((bs ((bs ((bs ((bs ((bs ((bs ((bs ((bs (HW7.out) (p := ⟨w.heap.size, 0, none⟩) (Nat.le_refl _) _)) (p := ⟨w.heap.size, 1, none⟩) (Nat.le_refl _) _)) (p := ⟨w.heap.size, 2, none⟩) (Nat.le_refl _) _)) (p := ⟨w.heap.size, 3, none⟩) (Nat.le_refl _) _)) (p := ⟨w.heap.size, 4, none⟩) (Nat.le_refl _) _)) (p := ⟨w.heap.size, 5, none⟩) (Nat.le_refl _) _)) (p := ⟨w.heap.size, 6, none⟩) (Nat.le_refl _) _)) (p := ⟨w.heap.size, 7, none⟩) (Nat.le_refl _) _)) (p := ⟨w.heap.size, 8, none⟩) (Nat.le_refl _) _)) (p := ⟨w.heap.size, 9, none⟩) (Nat.le_refl _) _)) (p := ⟨w.heap.size, 10, none⟩) (Nat.le_refl _) _)) (p := ⟨w.heap.size, 11, none⟩) (Nat.le_refl _) _)) (p := ⟨w.heap.size, 12, none⟩) (Nat.le_refl _) _)
        have p0 := (hYB 0 _ rfl).c
        have p1 := (hYB 1 _ rfl).c
        have p2 := (hYB 2 _ rfl).c
        have p3 := (hYB 3 _ rfl).c
        have p4 := (hYB 4 _ rfl).c
        have p5 := (hYB 5 _ rfl).c
        have p6 := (hYB 6 _ rfl).c
        have p7 := (hYB 7 _ rfl).c
        have p8 := (hYB 8 _ rfl).c
        have p9 := (hYB 9 _ rfl).c
        have p10 := (hYB 10 _ rfl).c
        have p11 := (hYB 11 _ rfl).c
        have p12 := (hYB 12 _ rfl).c
        clear hYB
        go_wp2
        (try simp only [Exit.inBlock, Exit.then])
        refine bodyPost_ret (v := .tuple #[.agg #[.int .i64 0, .string ⟨#[]⟩, .int .i64 0, .string ⟨#[]⟩, .string ⟨#[]⟩, .int .i64 0, .int .i64 0, .int .i64 0, .int .i64 0, .int .i64 0, .slice none 0 0, .int .i64 0, .int .i64 0], .int .i64 2]) (by simp [results, Try.results10, go_sem, p0, p1, p2, p3, p4, p5, p6, p7, p8, p9, p10, p11, p12]) rfl ?_
        obtain ⟨rfl, rfl⟩ := HU.out
        exact ⟨_, rfl, num_nil _ _, HYB.out⟩
    · cases st with
      | none =>
        have hrp : (0 : Int) < (rem : Int) := by omega
        have HA5 : Hid (atI t none = -1) := rfl
        rw [HA5.out]
        have HF5 : Hid (Suf t none) := HS
        have HB5 : Hid (Bx wr W.heap.size [.int .i64 2, .string (tx ses), .int .i64 nu, .string ⟨#[]⟩, .string ⟨#[]⟩, .int .i64 0, .int .i64 0, .int .i64 0, .int .i64 0, .int .i64 er, .slice va vs.length vc, .int .i64 0, .int .i64 0]) := HB
        have HZ5 : Hid (Bx wr w.heap.size [.int .i64 0, .string ⟨#[]⟩, .int .i64 0, .string ⟨#[]⟩, .string ⟨#[]⟩, .int .i64 0, .int .i64 0, .int .i64 0, .int .i64 0, .int .i64 0, .slice none 0 0, .int .i64 0, .int .i64 0]) := HZ
        have HW5 : Hid (Below w.heap.size w wr) := HWb
        obtain ⟨lu, s6, h6⟩ : ∃ v s, stS 0 nmR none = (v, s) := ⟨_, _, rfl⟩
        obtain ⟨ld, s7, h7⟩ : ∃ v s, stS 0 nmR s6 = (v, s) := ⟨_, _, rfl⟩
        have HIF := rpl_iff HC.out (by rw [HS0.out]; exact h1) h2 h3 h4 _ HV.out (.inr rfl) h6 h7
        have hvl : vs.length ≤ 9223372036854775807 := by
          obtain ⟨a', c', e, -, -⟩ : ∃ a c, Value.slice va vs.length vc = .slice a vs.length c ∧ True ∧ True := ⟨_, _, rfl, trivial, trivial⟩
          rcases HR.out.2 with ⟨-, h0⟩ | ⟨g, cap, cur, -, -, -, h4', h5', -⟩
          · omega
          · have : maxLen = 9223372036854775807 := by decide
            omega
        have HN5 : Hid (Num wr wr.heap.size (.slice va vs.length vc) vs) := num_of_owns hvl HR.out
        clear HB HZ HWb HR hvl
        have HF6 : Hid (Suf t s6) := by have := HF5.out.step (0 : Int) nmR nmR_suf; rw [h6] at this; exact this
        have k := refnum_st t ht none s6 HF5.out wr lu h6
        obtain ⟨A6, hA6⟩ : ∃ A, atI t s6 = A := ⟨_, rfl⟩
        have HA6 : Hid (atI t s6 = A6) := hA6
        rw [HA5.out, hA6] at k
        clear hA6
        go_wp2_with fail
        refine k.mono ?_
        rintro e y6 ⟨rfl, rfl⟩
        clear k
        have q0 := (HB5.out 11 _ rfl).c
        have qf := (HB5.out 11 _ rfl).f
        obtain ⟨X6, hX6⟩ : ∃ X, (y6).setCell ⟨W.heap.size, 11, none⟩ (.int .i64 lu) = X := ⟨_, rfl⟩
        have HX6' : Hid ((y6).setCell ⟨W.heap.size, 11, none⟩ (.int .i64 lu) = X6) := hX6
        have HX := hX6
        clear hX6
        have HB6 : Hid (Bx X6 W.heap.size [.int .i64 2, .string (tx ses), .int .i64 nu, .string ⟨#[]⟩, .string ⟨#[]⟩, .int .i64 0, .int .i64 0, .int .i64 0, .int .i64 0, .int .i64 er, .slice va vs.length vc, .int .i64 lu, .int .i64 0]) := by rw [Hid, ← HX]; exact HB5.out.set (i := 11) (by simp) (.int .i64 lu)
        have HZ6 : Hid (Bx X6 w.heap.size [.int .i64 0, .string ⟨#[]⟩, .int .i64 0, .string ⟨#[]⟩, .string ⟨#[]⟩, .int .i64 0, .int .i64 0, .int .i64 0, .int .i64 0, .int .i64 0, .slice none 0 0, .int .i64 0, .int .i64 0]) := by rw [Hid, ← HX]; exact HZ5.out.oth (b' := W.heap.size) (by omega) _
        have HW6 : Hid (Below w.heap.size w X6) := by rw [Hid, ← HX]; exact bs HW5.out (p := ⟨W.heap.size, 11, none⟩) hb42 _
        clear HB5 HZ5 HW5
        have HF7 : Hid (Suf t s7) := by have := HF6.out.step (0 : Int) nmR nmR_suf; rw [h7] at this; exact this
        have k := refnum_st t ht s6 s7 HF6.out X6 ld h7
        obtain ⟨A7, hA7⟩ : ∃ A, atI t s7 = A := ⟨_, rfl⟩
        have HA7 : Hid (atI t s7 = A7) := hA7
        rw [HA6.out, hA7] at k
        clear hA7
        go_wp2_with fail
        refine k.mono ?_
        rintro e y7 ⟨rfl, rfl⟩
        clear k HX
        have q0 := (HB6.out 12 _ rfl).c
        have qf := (HB6.out 12 _ rfl).f
        obtain ⟨X7, hX7⟩ : ∃ X, (y7).setCell ⟨W.heap.size, 12, none⟩ (.int .i64 ld) = X := ⟨_, rfl⟩
        have HX := hX7
        clear hX7
        have HB7 : Hid (Bx X7 W.heap.size [.int .i64 2, .string (tx ses), .int .i64 nu, .string ⟨#[]⟩, .string ⟨#[]⟩, .int .i64 0, .int .i64 0, .int .i64 0, .int .i64 0, .int .i64 er, .slice va vs.length vc, .int .i64 lu, .int .i64 ld]) := by rw [Hid, ← HX]; exact HB6.out.set (i := 12) (by simp) (.int .i64 ld)
        have HZ7 : Hid (Bx X7 w.heap.size [.int .i64 0, .string ⟨#[]⟩, .int .i64 0, .string ⟨#[]⟩, .string ⟨#[]⟩, .int .i64 0, .int .i64 0, .int .i64 0, .int .i64 0, .int .i64 0, .slice none 0 0, .int .i64 0, .int .i64 0]) := by rw [Hid, ← HX]; exact HZ6.out.oth (b' := W.heap.size) (by omega) _
        have HW7 : Hid (Below w.heap.size w X7) := by rw [Hid, ← HX]; exact bs HW6.out (p := ⟨W.heap.size, 12, none⟩) hb42 _
        clear HB6 HZ6 HW6
        have HNUM : Hid (Num X7 X7.heap.size (.slice va vs.length vc) vs) := by
          have hgg : y6.grownBy X7 (some W.heap.size) := by
            have e7 := HX
            rw [← e7]
            have e6 := HX6'.out
            rw [← e6]
            exact gb_set (gb_set (gb_refl _ _) 11 _) 12 _
          exact (Num.gb (R := W.heap.size) HN5.out hgg (by
            intro a n c e
            simp only [Value.slice.injEq] at e
            have := hvnew a e.1
            omega)).mono hgg.size
        have u0 := (HB7.out 0 _ rfl).c
        have u1 := (HB7.out 1 _ rfl).c
        have u2 := (HB7.out 2 _ rfl).c
        have u3 := (HB7.out 3 _ rfl).c
        have u4 := (HB7.out 4 _ rfl).c
        have u5 := (HB7.out 5 _ rfl).c
        have u6 := (HB7.out 6 _ rfl).c
        have u7 := (HB7.out 7 _ rfl).c
        have u8 := (HB7.out 8 _ rfl).c
        have u9 := (HB7.out 9 _ rfl).c
        have u10 := (HB7.out 10 _ rfl).c
        have u11 := (HB7.out 11 _ rfl).c
        have u12 := (HB7.out 12 _ rfl).c
        have v0 := (HZ7.out 0 _ rfl).c
        have vf0 := (HZ7.out 0 _ rfl).f
        have v1 := (HZ7.out 1 _ rfl).c
        have vf1 := (HZ7.out 1 _ rfl).f
        have v2 := (HZ7.out 2 _ rfl).c
        have vf2 := (HZ7.out 2 _ rfl).f
        have v3 := (HZ7.out 3 _ rfl).c
        have vf3 := (HZ7.out 3 _ rfl).f
        have v4 := (HZ7.out 4 _ rfl).c
        have vf4 := (HZ7.out 4 _ rfl).f
        have v5 := (HZ7.out 5 _ rfl).c
        have vf5 := (HZ7.out 5 _ rfl).f
        have v6 := (HZ7.out 6 _ rfl).c
        have vf6 := (HZ7.out 6 _ rfl).f
        have v7 := (HZ7.out 7 _ rfl).c
        have vf7 := (HZ7.out 7 _ rfl).f
        have v8 := (HZ7.out 8 _ rfl).c
        have vf8 := (HZ7.out 8 _ rfl).f
        have v9 := (HZ7.out 9 _ rfl).c
        have vf9 := (HZ7.out 9 _ rfl).f
        have v10 := (HZ7.out 10 _ rfl).c
        have vf10 := (HZ7.out 10 _ rfl).f
        have v11 := (HZ7.out 11 _ rfl).c
        have vf11 := (HZ7.out 11 _ rfl).f
        have v12 := (HZ7.out 12 _ rfl).c
        have vf12 := (HZ7.out 12 _ rfl).f
        by_cases hfin : s7 = some []
        · have hend : A7 = (t.length : Int) := by rw [← HA7.out, hfin]; simp [atI]
          have HU : Hid (m = (⟨2, ses, nu, [], [], 0, 0, 0, 0, er, vs, lu, ld⟩ : Msg) ∧ er' = 0) := by
            have h := HUN.out
            unfold unpT at h
            rw [if_neg (by omega), HT.out, (HIF).1 hfin] at h
            simp only [Bool.false_eq_true, ne_eq, not_true_eq_false, or_self, if_false, Prod.mk.injEq] at h
            exact ⟨h.1.symm, h.2.symm⟩
          clear hfin
          obtain ⟨Y, hY⟩ : ∃ Y, (((((((((((((X7.setCell ⟨w.heap.size, 0, none⟩ (.int .i64 2)).setCell ⟨w.heap.size, 1, none⟩ (.string (tx ses))).setCell ⟨w.heap.size, 2, none⟩ (.int .i64 nu)).setCell ⟨w.heap.size, 3, none⟩ (.string ⟨#[]⟩)).setCell ⟨w.heap.size, 4, none⟩ (.string ⟨#[]⟩)).setCell ⟨w.heap.size, 5, none⟩ (.int .i64 0)).setCell ⟨w.heap.size, 6, none⟩ (.int .i64 0)).setCell ⟨w.heap.size, 7, none⟩ (.int .i64 0)).setCell ⟨w.heap.size, 8, none⟩ (.int .i64 0)).setCell ⟨w.heap.size, 9, none⟩ (.int .i64 er)).setCell ⟨w.heap.size, 10, none⟩ (.slice va vs.length vc)).setCell ⟨w.heap.size, 11, none⟩ (.int .i64 lu)).setCell ⟨w.heap.size, 12, none⟩ (.int .i64 ld)) = Y := ⟨_, rfl⟩
          have hYB : Bx Y w.heap.size [.int .i64 2, .string (tx ses), .int .i64 nu, .string ⟨#[]⟩, .string ⟨#[]⟩, .int .i64 0, .int .i64 0, .int .i64 0, .int .i64 0, .int .i64 er, .slice va vs.length vc, .int .i64 lu, .int .i64 ld] := by rw [← hY]; exact (((((((((((((HZ7.out.set (i := 0) (by simp) (.int .i64 2)).set (i := 1) (by simp) (.string (tx ses))).set (i := 2) (by simp) (.int .i64 nu)).set (i := 3) (by simp) (.string ⟨#[]⟩)).set (i := 4) (by simp) (.string ⟨#[]⟩)).set (i := 5) (by simp) (.int .i64 0)).set (i := 6) (by simp) (.int .i64 0)).set (i := 7) (by simp) (.int .i64 0)).set (i := 8) (by simp) (.int .i64 0)).set (i := 9) (by simp) (.int .i64 er)).set (i := 10) (by simp) (.slice va vs.length vc)).set (i := 11) (by simp) (.int .i64 lu)).set (i := 12) (by simp) (.int .i64 ld))
          have HYB : Hid (Below w.heap.size w Y) := by rw [Hid, ← hY]; exact (bs ((bs ((bs ((bs ((bs ((bs ((bs ((bs ((bs ((bs ((bs ((bs ((bs (HW7.out) (p := ⟨w.heap.size, 0, none⟩) (Nat.le_refl _) _)) (p := ⟨w.heap.size, 1, none⟩) (Nat.le_refl _) _)) (p := ⟨w.heap.size, 2, none⟩) (Nat.le_refl _) _)) (p := ⟨w.heap.size, 3, none⟩) (Nat.le_refl _) _)) (p := ⟨w.heap.size, 4, none⟩) (Nat.le_refl _) _)) (p := ⟨w.heap.size, 5, none⟩) (Nat.le_refl _) _)) (p := ⟨w.heap.size, 6, none⟩) (Nat.le_refl _) _)) (p := ⟨w.heap.size, 7, none⟩) (Nat.le_refl _) _)) (p := ⟨w.heap.size, 8, none⟩) (Nat.le_refl _) _)) (p := ⟨w.heap.size, 9, none⟩) (Nat.le_refl _) _)) (p := ⟨w.heap.size, 10, none⟩) (Nat.le_refl _) _)) (p := ⟨w.heap.size, 11, none⟩) (Nat.le_refl _) _)) (p := ⟨w.heap.size, 12, none⟩) (Nat.le_refl _) _)
          have HYN : Hid (Num Y Y.heap.size (.slice va vs.length vc) vs) := by
            have s2 := Num.gb (R := w.heap.size) HNUM.out (gb_set (gb_set (gb_set (gb_set (gb_set (gb_set (gb_set (gb_set (gb_set (gb_set (gb_set (gb_set (gb_set (gb_refl _ _) 0 (.int .i64 2)) 1 (.string (tx ses))) 2 (.int .i64 nu)) 3 (.string ⟨#[]⟩)) 4 (.string ⟨#[]⟩)) 5 (.int .i64 0)) 6 (.int .i64 0)) 7 (.int .i64 0)) 8 (.int .i64 0)) 9 (.int .i64 er)) 10 (.slice va vs.length vc)) 11 (.int .i64 lu)) 12 (.int .i64 ld)) (by
              intro a n c e
              simp only [Value.slice.injEq] at e
              have := hvnew a e.1
              omega)
            rw [hY] at s2
            have e6 : X7.heap.size = Y.heap.size := by rw [← hY]; simp
            rw [e6] at s2
            exact s2
          have p0 := (hYB 0 _ rfl).c
          have p1 := (hYB 1 _ rfl).c
          have p2 := (hYB 2 _ rfl).c
          have p3 := (hYB 3 _ rfl).c
          have p4 := (hYB 4 _ rfl).c
          have p5 := (hYB 5 _ rfl).c
          have p6 := (hYB 6 _ rfl).c
          have p7 := (hYB 7 _ rfl).c
          have p8 := (hYB 8 _ rfl).c
          have p9 := (hYB 9 _ rfl).c
          have p10 := (hYB 10 _ rfl).c
          have p11 := (hYB 11 _ rfl).c
          have p12 := (hYB 12 _ rfl).c
          clear hYB
          go_wp2
          (try simp only [Exit.inBlock, Exit.then])
          refine bodyPost_ret (v := .tuple #[.agg #[.int .i64 2, .string (tx ses), .int .i64 nu, .string ⟨#[]⟩, .string ⟨#[]⟩, .int .i64 0, .int .i64 0, .int .i64 0, .int .i64 0, .int .i64 er, .slice va vs.length vc, .int .i64 lu, .int .i64 ld], .int .i64 0]) (by simp [results, Try.results10, go_sem, p0, p1, p2, p3, p4, p5, p6, p7, p8, p9, p10, p11, p12]) rfl ?_
          obtain ⟨rfl, rfl⟩ := HU.out
          exact ⟨_, rfl, HYN.out, HYB.out⟩
        · have hend : ¬ A7 = (t.length : Int) := by rw [← HA7.out]; exact at_full HF7.out hfin
          have hend2 : (A7 == (t.length : Int)) = false := by simpa using hend
          have HU : Hid (m = msgZ ∧ er' = 2) := by
            have h := HUN.out
            unfold unpT at h
            have hb := (HIF).2 hfin
            rw [if_neg (by omega), HT.out, if_pos (by
              cases hq : (msgR (c :: t1)).2.2 with
              | true => exact .inl rfl
              | false => exact .inr fun h => hb ⟨hq, h⟩)] at h
            simp only [Prod.mk.injEq] at h
            exact ⟨h.1.symm, h.2.symm⟩
          clear hfin
          obtain ⟨Y, hY⟩ : ∃ Y, (((((((((((((X7.setCell ⟨w.heap.size, 0, none⟩ (.int .i64 0)).setCell ⟨w.heap.size, 1, none⟩ (.string ⟨#[]⟩)).setCell ⟨w.heap.size, 2, none⟩ (.int .i64 0)).setCell ⟨w.heap.size, 3, none⟩ (.string ⟨#[]⟩)).setCell ⟨w.heap.size, 4, none⟩ (.string ⟨#[]⟩)).setCell ⟨w.heap.size, 5, none⟩ (.int .i64 0)).setCell ⟨w.heap.size, 6, none⟩ (.int .i64 0)).setCell ⟨w.heap.size, 7, none⟩ (.int .i64 0)).setCell ⟨w.heap.size, 8, none⟩ (.int .i64 0)).setCell ⟨w.heap.size, 9, none⟩ (.int .i64 0)).setCell ⟨w.heap.size, 10, none⟩ (.slice none 0 0)).setCell ⟨w.heap.size, 11, none⟩ (.int .i64 0)).setCell ⟨w.heap.size, 12, none⟩ (.int .i64 0)) = Y := ⟨_, rfl⟩
          have hYB : Bx Y w.heap.size [.int .i64 0, .string ⟨#[]⟩, .int .i64 0, .string ⟨#[]⟩, .string ⟨#[]⟩, .int .i64 0, .int .i64 0, .int .i64 0, .int .i64 0, .int .i64 0, .slice none 0 0, .int .i64 0, .int .i64 0] := by rw [← hY]; exact (((((((((((((HZ7.out.set (i := 0) (by simp) (.int .i64 0)).set (i := 1) (by simp) (.string ⟨#[]⟩)).set (i := 2) (by simp) (.int .i64 0)).set (i := 3) (by simp) (.string ⟨#[]⟩)).set (i := 4) (by simp) (.string ⟨#[]⟩)).set (i := 5) (by simp) (.int .i64 0)).set (i := 6) (by simp) (.int .i64 0)).set (i := 7) (by simp) (.int .i64 0)).set (i := 8) (by simp) (.int .i64 0)).set (i := 9) (by simp) (.int .i64 0)).set (i := 10) (by simp) (.slice none 0 0)).set (i := 11) (by simp) (.int .i64 0)).set (i := 12) (by simp) (.int .i64 0))
          have HYB : Hid (Below w.heap.size w Y) := by rw [Hid, ← hY]; exact (bs ((bs ((bs ((bs ((bs ((bs ((bs ((bs ((bs ((bs ((bs ((bs ((bs (HW7.out) (p := ⟨w.heap.size, 0, none⟩) (Nat.le_refl _) _)) (p := ⟨w.heap.size, 1, none⟩) (Nat.le_refl _) _)) (p := ⟨w.heap.size, 2, none⟩) (Nat.le_refl _) _)) (p := ⟨w.heap.size, 3, none⟩) (Nat.le_refl _) _)) (p := ⟨w.heap.size, 4, none⟩) (Nat.le_refl _) _)) (p := ⟨w.heap.size, 5, none⟩) (Nat.le_refl _) _)) (p := ⟨w.heap.size, 6, none⟩) (Nat.le_refl _) _)) (p := ⟨w.heap.size, 7, none⟩) (Nat.le_refl _) _)) (p := ⟨w.heap.size, 8, none⟩) (Nat.le_refl _) _)) (p := ⟨w.heap.size, 9, none⟩) (Nat.le_refl _) _)) (p := ⟨w.heap.size, 10, none⟩) (Nat.le_refl _) _)) (p := ⟨w.heap.size, 11, none⟩) (Nat.le_refl _) _)) (p := ⟨w.heap.size, 12, none⟩) (Nat.le_refl _) _)
          have p0 := (hYB 0 _ rfl).c
          have p1 := (hYB 1 _ rfl).c
          have p2 := (hYB 2 _ rfl).c
          have p3 := (hYB 3 _ rfl).c
          have p4 := (hYB 4 _ rfl).c
          have p5 := (hYB 5 _ rfl).c
          have p6 := (hYB 6 _ rfl).c
          have p7 := (hYB 7 _ rfl).c
          have p8 := (hYB 8 _ rfl).c
          have p9 := (hYB 9 _ rfl).c
          have p10 := (hYB 10 _ rfl).c
          have p11 := (hYB 11 _ rfl).c
          have p12 := (hYB 12 _ rfl).c
          clear hYB
          go_wp2
          (try simp only [Exit.inBlock, Exit.then])
          refine bodyPost_ret (v := .tuple #[.agg #[.int .i64 0, .string ⟨#[]⟩, .int .i64 0, .string ⟨#[]⟩, .string ⟨#[]⟩, .int .i64 0, .int .i64 0, .int .i64 0, .int .i64 0, .int .i64 0, .slice none 0 0, .int .i64 0, .int .i64 0], .int .i64 2]) (by simp [results, Try.results10, go_sem, p0, p1, p2, p3, p4, p5, p6, p7, p8, p9, p10, p11, p12]) rfl ?_
          obtain ⟨rfl, rfl⟩ := HU.out
          exact ⟨_, rfl, num_nil _ _, HYB.out⟩
      | some y =>
        obtain ⟨v, s5, h5⟩ : ∃ v s, stS 0 nmR (some y) = (v, s) := ⟨_, _, rfl⟩
        have hat0 : (0 : Int) ≤ atI t (some y) := by
          have : y.length ≤ t.length := List.IsSuffix.length_le HS.out
          simp only [atI]; omega
        have hrp : (0 : Int) < (rem : Int) := by omega
        have HF5 : Hid (Suf t s5) := by have := HS.out.step (0 : Int) nmR nmR_suf; rw [h5] at this; exact this
        have HV5 : Hid (VsI s4 n0 (rem - 1) (vs ++ [v]) s5) := VsI.step (rem := rem - 1) (by have e : rem - 1 + 1 = rem := by omega
                                                                                             rw [e]; exact HV.out) v s5 h5
        have hvl : vs.length ≤ 65536 := by have := vsI_len HV.out rfl HF4.out; omega
        have k := refnum_st t ht (some y) s5 HS.out wr v h5
        obtain ⟨A, hA⟩ : ∃ A, atI t (some y) = A := ⟨_, rfl⟩
        rw [hA] at k hat0 ⊢
        obtain ⟨A5, hA5⟩ : ∃ A, atI t s5 = A := ⟨_, rfl⟩
        have HA5 : Hid (atI t s5 = A5) := hA5
        rw [hA5] at k
        clear hA hA5 h5 HV
        go_wp2_with fail
        refine k.mono ?_
        rintro e y5 ⟨rfl, rfl⟩
        clear k
        have qc := (HB.out 10 _ rfl).c
        have hy := HY.out
        have HOW : Hid ((y5.alloc (.cells #[.int .i64 v] 3)).ownsRow y4.heap.size 3 1 (.slice va vs.length vc) vs.length (vs.map (.int .i64))) := row_gb HR.out (gb_none (ba _ _)) (by simp)
        go_wp2_with (at_builtin; refine wpList_append_own_at _ rfl _ _ 25 rfl y4.heap.size 3 i0 (.int .i64 0) 1 8 Try.underlying25 hi0 hz0 hz1 hz2 rfl (by decide) (.slice va vs.length vc) vs.length (vs.map (.int .i64)) rfl HOW.out ⟨y5.heap.size, 0, none⟩ 1 1 [.int .i64 v] rfl rfl (one_cells y5 _ _ _ rfl) (by intro z hz; simp at hz; subst hz; rfl) (by unfold maxLen; omega) (by omega) (by simp; omega) ?_)
        intro nv' w5 hown hgrow hnil hat
        obtain ⟨na, ncc, rfl⟩ := row_slice hown
        have hne : ∀ b, b < y4.heap.size → some b ≠ (Value.slice va vs.length vc).ownBlock := fun b hb e => by
          have := (row_lt HR.out e.symm).1
          omega
        have hgr : y5.grownBy w5 (Value.slice va vs.length vc).ownBlock := gb_trans (gb_below (ba _ _)) hgrow
        have hB6 : Bx w5 W.heap.size [.int .i64 2, .string (tx ses), .int .i64 nu, .string ⟨#[]⟩, .string ⟨#[]⟩, .int .i64 0, .int .i64 0, .int .i64 0, .int .i64 0, .int .i64 er, .slice va vs.length vc, .int .i64 0, .int .i64 0] := HB.out.gb hgr (hne _ hbz5)
        have hZ6 : Bx w5 w.heap.size [.int .i64 0, .string ⟨#[]⟩, .int .i64 0, .string ⟨#[]⟩, .string ⟨#[]⟩, .int .i64 0, .int .i64 0, .int .i64 0, .int .i64 0, .int .i64 0, .slice none 0 0, .int .i64 0, .int .i64 0] := HZ.out.gb hgr (hne _ hbz4)
        have hW6 : Below w.heap.size w w5 := HWb.out.grown hgr (by have := HWb.out.size; exact this) (fun y e => by
          have := (row_lt HR.out e).1
          omega)
        have q1 := (hB6 10 _ rfl).c
        have q2 := (hB6 10 _ rfl).f
        have HB7 : Hid (Bx (w5.setCell ⟨W.heap.size, 10, none⟩ (.slice na (vs.length + 1) ncc)) W.heap.size [.int .i64 2, .string (tx ses), .int .i64 nu, .string ⟨#[]⟩, .string ⟨#[]⟩, .int .i64 0, .int .i64 0, .int .i64 0, .int .i64 0, .int .i64 er, .slice na (vs.length + 1) ncc, .int .i64 0, .int .i64 0]) := hB6.set (i := 10) (by simp) (.slice na (vs.length + 1) ncc)
        have HZ7 : Hid (Bx (w5.setCell ⟨W.heap.size, 10, none⟩ (.slice na (vs.length + 1) ncc)) w.heap.size [.int .i64 0, .string ⟨#[]⟩, .int .i64 0, .string ⟨#[]⟩, .string ⟨#[]⟩, .int .i64 0, .int .i64 0, .int .i64 0, .int .i64 0, .int .i64 0, .slice none 0 0, .int .i64 0, .int .i64 0]) := hZ6.oth (b' := W.heap.size) (by omega) _
        have HW7 : Hid (Below w.heap.size w (w5.setCell ⟨W.heap.size, 10, none⟩ (.slice na (vs.length + 1) ncc))) := bs hW6 (p := ⟨W.heap.size, 10, none⟩) hb42 _
        have hsz5 : y5.heap.size ≤ w5.heap.size := hgr.size
        have HR7 : Hid ((w5.setCell ⟨W.heap.size, 10, none⟩ (.slice na (vs.length + 1) ncc)).ownsRow y4.heap.size 3 1 (.slice na (vs.length + 1) ncc) (vs.length + 1) ((vs ++ [v]).map (.int .i64))) := by
          rw [Hid, List.map_append, List.map_cons, List.map_nil]
          refine row_gb hown (gb_set (gb_refl _ _) 10 _) (fun g e h => ?_)
          have h1 := (row_lt hown e).1
          simp only [Option.some.injEq] at h
          omega
        have HY7 : Hid (y4.heap.size ≤ (w5.setCell ⟨W.heap.size, 10, none⟩ (.slice na (vs.length + 1) ncc)).heap.size) := by rw [Hid]; simp; omega
        clear hown hgrow hnil hat HOW hgr hB6 hZ6 hW6 HB HZ HWb HR HY
        go_wp2
        go_roundw
        case rel => exact ⟨rem - 1, vs ++ [v], s5, na, ncc, by rw [HA5.out], by go_num, by omega, HV5, HF5, by rw [List.length_append]; exact HB7, HZ7, HW7, HY7, by rw [List.length_append]; exact HR7⟩
        case measure => simp [intOf]; omega
end Go.Proofs.Ytnoedkebmpfagaa
