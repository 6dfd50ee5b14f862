import Derived.Test.YtnoedkebmpfagaaWre
import Derived.Test.YtnoedkebmpfagaaWwy
/-
  PACKAGE wire, the reader: message.
-/
namespace Go.Proofs.Ytnoedkebmpfagaa
open Go.RowKit Wc

theorem w64 {x : Nat} (h : x < 256) : wrap64 (x : Int) = (x : Int) := by unfold wrap64; omega
/-- what message answers -/
def RmP (w : World) (R : Nat) (b : Bool) (m : Msg) (r : By) (f : Bool) (e : Ending) (w' : World) : Prop := ∃ sv, e = .returned (mv m sv) ∧ Num w' w'.heap.size sv m.vals ∧ (∀ a n c, sv = .slice (some a) n c → w.heap.size ≤ a.block) ∧ Rdm w' R r (b || f) ∧ w.grownBy w' (some R)
theorem num_nil (w : World) (B : Nat) : Num w B (.slice none 0 0) [] := ⟨none, 0, rfl, Nat.le_refl _, by simp, fun h => absurd rfl h⟩
theorem Num.gb {w w' : World} {B R : Nat} {v : Value} {xs : List Int} (h : Num w B v xs) (hg : w.grownBy w' (some R)) (hn : ∀ a n c, v = .slice (some a) n c → a.block ≠ R) : Num w' B v xs := by
  obtain ⟨a, c, hv, hc, hl, hx⟩ := h
  refine ⟨a, c, hv, hc, hl, fun hne => ?_⟩
  obtain ⟨g, o, rfl, hb, hcell⟩ := hx hne
  have := hn _ _ _ hv
  exact ⟨g, o, rfl, hb, fun i x hi => hg.cell (a := ⟨g, o + i, none⟩) (hcell i x hi) (by simpa using this)⟩
set_option maxHeartbeats 4000000 in
set_option maxRecDepth 100000 in
theorem rmessage_ask {w : World} {R : Nat} {t : By} {b : Bool} (h : Rdm w R t b) (x : Nat) (c : UInt8) (t1 : By) (f1 : Bool) (h1 : nxR t = (c, t1, f1)) (s : By) (t2 : By) (f2 : Bool) (h2 : tnR t1 = (s, t2, f2)) (nu : Int) (t3 : By) (f3 : Bool) (h3 : nmR t2 = (nu, t3, f3)) (p : By) (t4 : By) (f4 : Bool) (h4 : tnR t3 = (p, t4, f4)) (te : By) (t5 : By) (f5 : Bool) (h5 : tnR t4 = (te, t5, f5)) (ru rd : Int) (t6 : By) (f6 : Bool) (h6 : rtR t5 = ((ru, rd), t6, f6)) (lo : Int) (t7 : By) (f7 : Bool) (h7 : nmR t6 = (lo, t7, f7)) (hi : Int) (t8 : By) (f8 : Bool) (h8 : nmR t7 = (hi, t8, f8)) (hk : x = 1) (hx : c.toNat = x) :
    Calls Try.prog 25 #[ptR R] w fun e w' => ∃ sv, e = .returned (mv ⟨(x : Int), s, nu, p, te, ru, rd, lo, hi, 0, [], 0, 0⟩ sv) ∧ Num w' w'.heap.size sv [] ∧ (∀ a n c, sv = .slice (some a) n c → w.heap.size ≤ a.block) ∧ Rdm w' R t8 ((((((((b || f1) || f2) || f3) || f4) || f5) || f6) || f7) || f8) ∧ w.grownBy w' (some R) := by
  have hR : R < w.heap.size := h.f.lt
  have hx2 : x < 256 := by have := c.toNat_lt; rw [← hx]; simpa using this
  have hwx := w64 hx2
  obtain ⟨W, hW⟩ : ∃ W, w.alloc (.cells #[.int .i64 0, .string ⟨#[]⟩, .int .i64 0, .string ⟨#[]⟩, .string ⟨#[]⟩, .int .i64 0, .int .i64 0, .int .i64 0, .int .i64 0, .int .i64 0, .slice none 0 0, .int .i64 0, .int .i64 0] 27) = W := ⟨_, rfl⟩
  have bW : Below w.heap.size w W := by rw [← hW]; exact ba _ _
  have hZ : Bx W w.heap.size [.int .i64 0, .string ⟨#[]⟩, .int .i64 0, .string ⟨#[]⟩, .string ⟨#[]⟩, .int .i64 0, .int .i64 0, .int .i64 0, .int .i64 0, .int .i64 0, .slice none 0 0, .int .i64 0, .int .i64 0] := by rw [← hW]; exact Bx.new w _ 27 rfl
  have k := next_any (h.gbn bW) c t1 f1 _ h1 rfl
  rw [hx] at k
  clear h h1
  go_enter Try.func25, Try.ntmps25
  go_wp2_with fail
  refine k.mono ?_
  rintro e y ⟨rfl, d1, g1⟩
  clear k hW
  subst hk
  have b1 : Below y.heap.size y (y.alloc (.cells #[.int .i64 1, .string ⟨#[]⟩, .int .i64 0, .string ⟨#[]⟩, .string ⟨#[]⟩, .int .i64 0, .int .i64 0, .int .i64 0, .int .i64 0, .int .i64 0, .slice none 0 0, .int .i64 0, .int .i64 0] 27)) := ba _ _
  have hlt : w.heap.size < y.heap.size := by have := g1.size; have h0 := (hZ 0 _ rfl).lt; omega
  have hRB : R < y.heap.size := by omega
  have nZ : some w.heap.size ≠ some R := by simp; omega
  have nB : some y.heap.size ≠ some R := by simp; omega
  have HB1 : Hid (Bx (y.alloc (.cells #[.int .i64 1, .string ⟨#[]⟩, .int .i64 0, .string ⟨#[]⟩, .string ⟨#[]⟩, .int .i64 0, .int .i64 0, .int .i64 0, .int .i64 0, .int .i64 0, .slice none 0 0, .int .i64 0, .int .i64 0] 27)) y.heap.size [.int .i64 1, .string ⟨#[]⟩, .int .i64 0, .string ⟨#[]⟩, .string ⟨#[]⟩, .int .i64 0, .int .i64 0, .int .i64 0, .int .i64 0, .int .i64 0, .slice none 0 0, .int .i64 0, .int .i64 0]) := Bx.new y _ 27 rfl
  have HZ1 : Hid (Bx (y.alloc (.cells #[.int .i64 1, .string ⟨#[]⟩, .int .i64 0, .string ⟨#[]⟩, .string ⟨#[]⟩, .int .i64 0, .int .i64 0, .int .i64 0, .int .i64 0, .int .i64 0, .slice none 0 0, .int .i64 0, .int .i64 0] 27)) w.heap.size [.int .i64 0, .string ⟨#[]⟩, .int .i64 0, .string ⟨#[]⟩, .string ⟨#[]⟩, .int .i64 0, .int .i64 0, .int .i64 0, .int .i64 0, .int .i64 0, .slice none 0 0, .int .i64 0, .int .i64 0]) := (hZ.gb g1 nZ).at b1
  have HD1 : Hid (Rdm (y.alloc (.cells #[.int .i64 1, .string ⟨#[]⟩, .int .i64 0, .string ⟨#[]⟩, .string ⟨#[]⟩, .int .i64 0, .int .i64 0, .int .i64 0, .int .i64 0, .int .i64 0, .slice none 0 0, .int .i64 0, .int .i64 0] 27)) R t1 (b || f1)) := d1.gbn b1
  have HG1 : Hid (w.grownBy (y.alloc (.cells #[.int .i64 1, .string ⟨#[]⟩, .int .i64 0, .string ⟨#[]⟩, .string ⟨#[]⟩, .int .i64 0, .int .i64 0, .int .i64 0, .int .i64 0, .int .i64 0, .slice none 0 0, .int .i64 0, .int .i64 0] 27)) (some R)) := gb_trans (gb_trans (gb_below bW) g1) (gb_below b1)
  have hlw : w.heap.size ≤ y.heap.size := by omega
  clear d1 g1 hZ bW b1
  have k := rtext_any HD1.out s t2 f2 h2
  go_wp2_with fail
  refine k.mono ?_
  rintro e y2 ⟨rfl, d2, g2⟩
  clear k 
  have hBy : Bx y2 y.heap.size [.int .i64 1, .string ⟨#[]⟩, .int .i64 0, .string ⟨#[]⟩, .string ⟨#[]⟩, .int .i64 0, .int .i64 0, .int .i64 0, .int .i64 0, .int .i64 0, .slice none 0 0, .int .i64 0, .int .i64 0] := HB1.out.gb g2 nB
  have q1 := (hBy 1 _ rfl).c
  have qf1 := (hBy 1 _ rfl).f
  obtain ⟨X2, hX2⟩ : ∃ X, (y2.setCell ⟨y.heap.size, 1, none⟩ (.string (tx s))) = X := ⟨_, rfl⟩
  have HB2 : Hid (Bx X2 y.heap.size [.int .i64 1, .string (tx s), .int .i64 0, .string ⟨#[]⟩, .string ⟨#[]⟩, .int .i64 0, .int .i64 0, .int .i64 0, .int .i64 0, .int .i64 0, .slice none 0 0, .int .i64 0, .int .i64 0]) := by rw [Hid, ← hX2]; exact (hBy.set (i := 1) (by simp) (.string (tx s)))
  have HZ2 : Hid (Bx X2 w.heap.size [.int .i64 0, .string ⟨#[]⟩, .int .i64 0, .string ⟨#[]⟩, .string ⟨#[]⟩, .int .i64 0, .int .i64 0, .int .i64 0, .int .i64 0, .int .i64 0, .slice none 0 0, .int .i64 0, .int .i64 0]) := by rw [Hid, ← hX2]; exact (Bx.oth (HZ1.out.gb g2 nZ) (b' := y.heap.size) (k := 1) (by omega) (.string (tx s)))
  have HD2 : Hid (Rdm X2 R t2 ((b || f1) || f2)) := by rw [Hid, ← hX2]; exact d2.high (hset (Below.refl _ _) hRB 1 _)
  have HG2 : Hid (w.grownBy X2 (some R)) := by rw [Hid, ← hX2]; exact gb_new (gb_trans HG1.out g2) (p := ⟨y.heap.size, 1, none⟩) hlw _
  clear d2 g2 hBy HB1 HZ1 HD1 HG1
  have k := rnumber_any HD2.out nu t3 f3 h3
  go_wp2_with fail
  refine k.mono ?_
  rintro e y3 ⟨rfl, d3, g3⟩
  clear k hX2 q1 qf1
  have hBy : Bx y3 y.heap.size [.int .i64 1, .string (tx s), .int .i64 0, .string ⟨#[]⟩, .string ⟨#[]⟩, .int .i64 0, .int .i64 0, .int .i64 0, .int .i64 0, .int .i64 0, .slice none 0 0, .int .i64 0, .int .i64 0] := HB2.out.gb g3 nB
  have q2 := (hBy 2 _ rfl).c
  have qf2 := (hBy 2 _ rfl).f
  obtain ⟨X3, hX3⟩ : ∃ X, (y3.setCell ⟨y.heap.size, 2, none⟩ (.int .i64 nu)) = X := ⟨_, rfl⟩
  have Hy.heap.size : Hid (Bx X3 y.heap.size [.int .i64 1, .string (tx s), .int .i64 nu, .string ⟨#[]⟩, .string ⟨#[]⟩, .int .i64 0, .int .i64 0, .int .i64 0, .int .i64 0, .int .i64 0, .slice none 0 0, .int .i64 0, .int .i64 0]) := by rw [Hid, ← hX3]; exact (hBy.set (i := 2) (by simp) (.int .i64 nu))
  have HZ3 : Hid (Bx X3 w.heap.size [.int .i64 0, .string ⟨#[]⟩, .int .i64 0, .string ⟨#[]⟩, .string ⟨#[]⟩, .int .i64 0, .int .i64 0, .int .i64 0, .int .i64 0, .int .i64 0, .slice none 0 0, .int .i64 0, .int .i64 0]) := by rw [Hid, ← hX3]; exact (Bx.oth (HZ2.out.gb g3 nZ) (b' := y.heap.size) (k := 2) (by omega) (.int .i64 nu))
  have HD3 : Hid (Rdm X3 R t3 (((b || f1) || f2) || f3)) := by rw [Hid, ← hX3]; exact d3.high (hset (Below.refl _ _) hRB 2 _)
  have HG3 : Hid (w.grownBy X3 (some R)) := by rw [Hid, ← hX3]; exact gb_new (gb_trans HG2.out g3) (p := ⟨y.heap.size, 2, none⟩) hlw _
  clear d3 g3 hBy HB2 HZ2 HD2 HG2
  have qk := (Hy.heap.size.out 0 _ rfl).c
  have k := rtext_any HD3.out p t4 f4 h4
  go_wp2_with fail
  refine k.mono ?_
  rintro e y4 ⟨rfl, d4, g4⟩
  clear k hX3 q2 qf2
  clear qk
  have hBy : Bx y4 y.heap.size [.int .i64 1, .string (tx s), .int .i64 nu, .string ⟨#[]⟩, .string ⟨#[]⟩, .int .i64 0, .int .i64 0, .int .i64 0, .int .i64 0, .int .i64 0, .slice none 0 0, .int .i64 0, .int .i64 0] := Hy.heap.size.out.gb g4 nB
  have q3 := (hBy 3 _ rfl).c
  have qf3 := (hBy 3 _ rfl).f
  obtain ⟨X4, hX4⟩ : ∃ X, (y4.setCell ⟨y.heap.size, 3, none⟩ (.string (tx p))) = X := ⟨_, rfl⟩
  have HB4 : Hid (Bx X4 y.heap.size [.int .i64 1, .string (tx s), .int .i64 nu, .string (tx p), .string ⟨#[]⟩, .int .i64 0, .int .i64 0, .int .i64 0, .int .i64 0, .int .i64 0, .slice none 0 0, .int .i64 0, .int .i64 0]) := by rw [Hid, ← hX4]; exact (hBy.set (i := 3) (by simp) (.string (tx p)))
  have HZ4 : Hid (Bx X4 w.heap.size [.int .i64 0, .string ⟨#[]⟩, .int .i64 0, .string ⟨#[]⟩, .string ⟨#[]⟩, .int .i64 0, .int .i64 0, .int .i64 0, .int .i64 0, .int .i64 0, .slice none 0 0, .int .i64 0, .int .i64 0]) := by rw [Hid, ← hX4]; exact (Bx.oth (HZ3.out.gb g4 nZ) (b' := y.heap.size) (k := 3) (by omega) (.string (tx p)))
  have HD4 : Hid (Rdm X4 R t4 ((((b || f1) || f2) || f3) || f4)) := by rw [Hid, ← hX4]; exact d4.high (hset (Below.refl _ _) hRB 3 _)
  have HG4 : Hid (w.grownBy X4 (some R)) := by rw [Hid, ← hX4]; exact gb_new (gb_trans HG3.out g4) (p := ⟨y.heap.size, 3, none⟩) hlw _
  clear d4 g4 hBy Hy.heap.size HZ3 HD3 HG3
  have k := rtext_any HD4.out te t5 f5 h5
  go_wp2_with fail
  refine k.mono ?_
  rintro e y5 ⟨rfl, d5, g5⟩
  clear k hX4 q3 qf3
  have hBy : Bx y5 y.heap.size [.int .i64 1, .string (tx s), .int .i64 nu, .string (tx p), .string ⟨#[]⟩, .int .i64 0, .int .i64 0, .int .i64 0, .int .i64 0, .int .i64 0, .slice none 0 0, .int .i64 0, .int .i64 0] := HB4.out.gb g5 nB
  have q4 := (hBy 4 _ rfl).c
  have qf4 := (hBy 4 _ rfl).f
  obtain ⟨X5, hX5⟩ : ∃ X, (y5.setCell ⟨y.heap.size, 4, none⟩ (.string (tx te))) = X := ⟨_, rfl⟩
  have HB5 : Hid (Bx X5 y.heap.size [.int .i64 1, .string (tx s), .int .i64 nu, .string (tx p), .string (tx te), .int .i64 0, .int .i64 0, .int .i64 0, .int .i64 0, .int .i64 0, .slice none 0 0, .int .i64 0, .int .i64 0]) := by rw [Hid, ← hX5]; exact (hBy.set (i := 4) (by simp) (.string (tx te)))
  have HZ5 : Hid (Bx X5 w.heap.size [.int .i64 0, .string ⟨#[]⟩, .int .i64 0, .string ⟨#[]⟩, .string ⟨#[]⟩, .int .i64 0, .int .i64 0, .int .i64 0, .int .i64 0, .int .i64 0, .slice none 0 0, .int .i64 0, .int .i64 0]) := by rw [Hid, ← hX5]; exact (Bx.oth (HZ4.out.gb g5 nZ) (b' := y.heap.size) (k := 4) (by omega) (.string (tx te)))
  have HD5 : Hid (Rdm X5 R t5 (((((b || f1) || f2) || f3) || f4) || f5)) := by rw [Hid, ← hX5]; exact d5.high (hset (Below.refl _ _) hRB 4 _)
  have HG5 : Hid (w.grownBy X5 (some R)) := by rw [Hid, ← hX5]; exact gb_new (gb_trans HG4.out g5) (p := ⟨y.heap.size, 4, none⟩) hlw _
  clear d5 g5 hBy HB4 HZ4 HD4 HG4
  have k := rratio_any HD5.out ru rd t6 f6 h6
  go_wp2_with fail
  refine k.mono ?_
  rintro e y6 ⟨rfl, d6, g6⟩
  clear k hX5 q4 qf4
  have hBy : Bx y6 y.heap.size [.int .i64 1, .string (tx s), .int .i64 nu, .string (tx p), .string (tx te), .int .i64 0, .int .i64 0, .int .i64 0, .int .i64 0, .int .i64 0, .slice none 0 0, .int .i64 0, .int .i64 0] := HB5.out.gb g6 nB
  have q5 := (hBy 5 _ rfl).c
  have qf5 := (hBy 5 _ rfl).f
  have q6 := (hBy 6 _ rfl).c
  have qf6 := (hBy 6 _ rfl).f
  obtain ⟨X6, hX6⟩ : ∃ X, ((y6.setCell ⟨y.heap.size, 5, none⟩ (.int .i64 ru)).setCell ⟨y.heap.size, 6, none⟩ (.int .i64 rd)) = X := ⟨_, rfl⟩
  have HB6 : Hid (Bx X6 y.heap.size [.int .i64 1, .string (tx s), .int .i64 nu, .string (tx p), .string (tx te), .int .i64 ru, .int .i64 rd, .int .i64 0, .int .i64 0, .int .i64 0, .slice none 0 0, .int .i64 0, .int .i64 0]) := by rw [Hid, ← hX6]; exact ((hBy.set (i := 5) (by simp) (.int .i64 ru)).set (i := 6) (by simp) (.int .i64 rd))
  have HZ6 : Hid (Bx X6 w.heap.size [.int .i64 0, .string ⟨#[]⟩, .int .i64 0, .string ⟨#[]⟩, .string ⟨#[]⟩, .int .i64 0, .int .i64 0, .int .i64 0, .int .i64 0, .int .i64 0, .slice none 0 0, .int .i64 0, .int .i64 0]) := by rw [Hid, ← hX6]; exact (Bx.oth (Bx.oth (HZ5.out.gb g6 nZ) (b' := y.heap.size) (k := 5) (by omega) (.int .i64 ru)) (b' := y.heap.size) (k := 6) (by omega) (.int .i64 rd))
  have HD6 : Hid (Rdm X6 R t6 ((((((b || f1) || f2) || f3) || f4) || f5) || f6)) := by rw [Hid, ← hX6]; exact d6.high (hset (hset (Below.refl _ _) hRB 5 _) hRB 6 _)
  have HG6 : Hid (w.grownBy X6 (some R)) := by rw [Hid, ← hX6]; exact gb_new (gb_new (gb_trans HG5.out g6) (p := ⟨y.heap.size, 5, none⟩) hlw _) (p := ⟨y.heap.size, 6, none⟩) hlw _
  have qs := (hBy.set (i := 5) (by simp) (.int .i64 ru) 6 _ rfl).c
  clear d6 g6 hBy HB5 HZ5 HD5 HG5
  have k := rnumber_any HD6.out lo t7 f7 h7
  go_wp2_with fail
  refine k.mono ?_
  rintro e y7 ⟨rfl, d7, g7⟩
  clear k hX6 q5 qf5 q6 qf6 qs
  have hBy : Bx y7 y.heap.size [.int .i64 1, .string (tx s), .int .i64 nu, .string (tx p), .string (tx te), .int .i64 ru, .int .i64 rd, .int .i64 0, .int .i64 0, .int .i64 0, .slice none 0 0, .int .i64 0, .int .i64 0] := HB6.out.gb g7 nB
  have q7 := (hBy 7 _ rfl).c
  have qf7 := (hBy 7 _ rfl).f
  obtain ⟨X7, hX7⟩ : ∃ X, (y7.setCell ⟨y.heap.size, 7, none⟩ (.int .i64 lo)) = X := ⟨_, rfl⟩
  have HB7 : Hid (Bx X7 y.heap.size [.int .i64 1, .string (tx s), .int .i64 nu, .string (tx p), .string (tx te), .int .i64 ru, .int .i64 rd, .int .i64 lo, .int .i64 0, .int .i64 0, .slice none 0 0, .int .i64 0, .int .i64 0]) := by rw [Hid, ← hX7]; exact (hBy.set (i := 7) (by simp) (.int .i64 lo))
  have HZ7 : Hid (Bx X7 w.heap.size [.int .i64 0, .string ⟨#[]⟩, .int .i64 0, .string ⟨#[]⟩, .string ⟨#[]⟩, .int .i64 0, .int .i64 0, .int .i64 0, .int .i64 0, .int .i64 0, .slice none 0 0, .int .i64 0, .int .i64 0]) := by rw [Hid, ← hX7]; exact (Bx.oth (HZ6.out.gb g7 nZ) (b' := y.heap.size) (k := 7) (by omega) (.int .i64 lo))
  have HD7 : Hid (Rdm X7 R t7 (((((((b || f1) || f2) || f3) || f4) || f5) || f6) || f7)) := by rw [Hid, ← hX7]; exact d7.high (hset (Below.refl _ _) hRB 7 _)
  have HG7 : Hid (w.grownBy X7 (some R)) := by rw [Hid, ← hX7]; exact gb_new (gb_trans HG6.out g7) (p := ⟨y.heap.size, 7, none⟩) hlw _
  clear d7 g7 hBy HB6 HZ6 HD6 HG6
  have k := rnumber_any HD7.out hi t8 f8 h8
  go_wp2_with fail
  refine k.mono ?_
  rintro e y8 ⟨rfl, d8, g8⟩
  clear k hX7 q7 qf7
  have hBy : Bx y8 y.heap.size [.int .i64 1, .string (tx s), .int .i64 nu, .string (tx p), .string (tx te), .int .i64 ru, .int .i64 rd, .int .i64 lo, .int .i64 0, .int .i64 0, .slice none 0 0, .int .i64 0, .int .i64 0] := HB7.out.gb g8 nB
  have q8 := (hBy 8 _ rfl).c
  have qf8 := (hBy 8 _ rfl).f
  obtain ⟨X8, hX8⟩ : ∃ X, (y8.setCell ⟨y.heap.size, 8, none⟩ (.int .i64 hi)) = X := ⟨_, rfl⟩
  have HB8 : Hid (Bx X8 y.heap.size [.int .i64 1, .string (tx s), .int .i64 nu, .string (tx p), .string (tx te), .int .i64 ru, .int .i64 rd, .int .i64 lo, .int .i64 hi, .int .i64 0, .slice none 0 0, .int .i64 0, .int .i64 0]) := by rw [Hid, ← hX8]; exact (hBy.set (i := 8) (by simp) (.int .i64 hi))
  have HZ8 : Hid (Bx X8 w.heap.size [.int .i64 0, .string ⟨#[]⟩, .int .i64 0, .string ⟨#[]⟩, .string ⟨#[]⟩, .int .i64 0, .int .i64 0, .int .i64 0, .int .i64 0, .int .i64 0, .slice none 0 0, .int .i64 0, .int .i64 0]) := by rw [Hid, ← hX8]; exact (Bx.oth (HZ7.out.gb g8 nZ) (b' := y.heap.size) (k := 8) (by omega) (.int .i64 hi))
  have HD8 : Hid (Rdm X8 R t8 ((((((((b || f1) || f2) || f3) || f4) || f5) || f6) || f7) || f8)) := by rw [Hid, ← hX8]; exact d8.high (hset (Below.refl _ _) hRB 8 _)
  have HG8 : Hid (w.grownBy X8 (some R)) := by rw [Hid, ← hX8]; exact gb_new (gb_trans HG7.out g8) (p := ⟨y.heap.size, 8, none⟩) hlw _
  clear d8 g8 hBy HB7 HZ7 HD7 HG7
  have u0 := (HB8.out 0 _ rfl).c
  have u1 := (HB8.out 1 _ rfl).c
  have u2 := (HB8.out 2 _ rfl).c
  have u3 := (HB8.out 3 _ rfl).c
  have u4 := (HB8.out 4 _ rfl).c
  have u5 := (HB8.out 5 _ rfl).c
  have u6 := (HB8.out 6 _ rfl).c
  have u7 := (HB8.out 7 _ rfl).c
  have u8 := (HB8.out 8 _ rfl).c
  have u9 := (HB8.out 9 _ rfl).c
  have u10 := (HB8.out 10 _ rfl).c
  have u11 := (HB8.out 11 _ rfl).c
  have u12 := (HB8.out 12 _ rfl).c
  have v0 := (HZ8.out 0 _ rfl).c
  have vf0 := (HZ8.out 0 _ rfl).f
  have v1 := (HZ8.out 1 _ rfl).c
  have vf1 := (HZ8.out 1 _ rfl).f
  have v2 := (HZ8.out 2 _ rfl).c
  have vf2 := (HZ8.out 2 _ rfl).f
  have v3 := (HZ8.out 3 _ rfl).c
  have vf3 := (HZ8.out 3 _ rfl).f
  have v4 := (HZ8.out 4 _ rfl).c
  have vf4 := (HZ8.out 4 _ rfl).f
  have v5 := (HZ8.out 5 _ rfl).c
  have vf5 := (HZ8.out 5 _ rfl).f
  have v6 := (HZ8.out 6 _ rfl).c
  have vf6 := (HZ8.out 6 _ rfl).f
  have v7 := (HZ8.out 7 _ rfl).c
  have vf7 := (HZ8.out 7 _ rfl).f
  have v8 := (HZ8.out 8 _ rfl).c
  have vf8 := (HZ8.out 8 _ rfl).f
  have v9 := (HZ8.out 9 _ rfl).c
  have vf9 := (HZ8.out 9 _ rfl).f
  have v10 := (HZ8.out 10 _ rfl).c
  have vf10 := (HZ8.out 10 _ rfl).f
  have v11 := (HZ8.out 11 _ rfl).c
  have vf11 := (HZ8.out 11 _ rfl).f
  have v12 := (HZ8.out 12 _ rfl).c
  have vf12 := (HZ8.out 12 _ rfl).f
  obtain ⟨Y, hY⟩ : ∃ Y, (((((((((((((X8.setCell ⟨w.heap.size, 0, none⟩ (.int .i64 1)).setCell ⟨w.heap.size, 1, none⟩ (.string (tx s))).setCell ⟨w.heap.size, 2, none⟩ (.int .i64 nu)).setCell ⟨w.heap.size, 3, none⟩ (.string (tx p))).setCell ⟨w.heap.size, 4, none⟩ (.string (tx te))).setCell ⟨w.heap.size, 5, none⟩ (.int .i64 ru)).setCell ⟨w.heap.size, 6, none⟩ (.int .i64 rd)).setCell ⟨w.heap.size, 7, none⟩ (.int .i64 lo)).setCell ⟨w.heap.size, 8, none⟩ (.int .i64 hi)).setCell ⟨w.heap.size, 9, none⟩ (.int .i64 0)).setCell ⟨w.heap.size, 10, none⟩ (.slice none 0 0)).setCell ⟨w.heap.size, 11, none⟩ (.int .i64 0)).setCell ⟨w.heap.size, 12, none⟩ (.int .i64 0)) = Y := ⟨_, rfl⟩
  have hYB : Bx Y w.heap.size [.int .i64 1, .string (tx s), .int .i64 nu, .string (tx p), .string (tx te), .int .i64 ru, .int .i64 rd, .int .i64 lo, .int .i64 hi, .int .i64 0, .slice none 0 0, .int .i64 0, .int .i64 0] := by rw [← hY]; exact (((((((((((((HZ8.out.set (i := 0) (by simp) (.int .i64 1)).set (i := 1) (by simp) (.string (tx s))).set (i := 2) (by simp) (.int .i64 nu)).set (i := 3) (by simp) (.string (tx p))).set (i := 4) (by simp) (.string (tx te))).set (i := 5) (by simp) (.int .i64 ru)).set (i := 6) (by simp) (.int .i64 rd)).set (i := 7) (by simp) (.int .i64 lo)).set (i := 8) (by simp) (.int .i64 hi)).set (i := 9) (by simp) (.int .i64 0)).set (i := 10) (by simp) (.slice none 0 0)).set (i := 11) (by simp) (.int .i64 0)).set (i := 12) (by simp) (.int .i64 0))
  have HYD : Hid (Rdm Y R t8 ((((((((b || f1) || f2) || f3) || f4) || f5) || f6) || f7) || f8)) := by rw [Hid, ← hY]; exact HD8.out.high (hset (hset (hset (hset (hset (hset (hset (hset (hset (hset (hset (hset (hset (Below.refl _ _) hR 0 _) hR 1 _) hR 2 _) hR 3 _) hR 4 _) hR 5 _) hR 6 _) hR 7 _) hR 8 _) hR 9 _) hR 10 _) hR 11 _) hR 12 _)
  have HYG : Hid (w.grownBy Y (some R)) := by rw [Hid, ← hY]; exact gb_new (gb_new (gb_new (gb_new (gb_new (gb_new (gb_new (gb_new (gb_new (gb_new (gb_new (gb_new (gb_new (HG8.out) (p := ⟨w.heap.size, 0, none⟩) (Nat.le_refl _) _) (p := ⟨w.heap.size, 1, none⟩) (Nat.le_refl _) _) (p := ⟨w.heap.size, 2, none⟩) (Nat.le_refl _) _) (p := ⟨w.heap.size, 3, none⟩) (Nat.le_refl _) _) (p := ⟨w.heap.size, 4, none⟩) (Nat.le_refl _) _) (p := ⟨w.heap.size, 5, none⟩) (Nat.le_refl _) _) (p := ⟨w.heap.size, 6, none⟩) (Nat.le_refl _) _) (p := ⟨w.heap.size, 7, none⟩) (Nat.le_refl _) _) (p := ⟨w.heap.size, 8, none⟩) (Nat.le_refl _) _) (p := ⟨w.heap.size, 9, none⟩) (Nat.le_refl _) _) (p := ⟨w.heap.size, 10, none⟩) (Nat.le_refl _) _) (p := ⟨w.heap.size, 11, none⟩) (Nat.le_refl _) _) (p := ⟨w.heap.size, 12, none⟩) (Nat.le_refl _) _
  have p0 := (hYB 0 _ rfl).c
  have p1 := (hYB 1 _ rfl).c
  have p2 := (hYB 2 _ rfl).c
  have p3 := (hYB 3 _ rfl).c
  have p4 := (hYB 4 _ rfl).c
  have p5 := (hYB 5 _ rfl).c
  have p6 := (hYB 6 _ rfl).c
  have p7 := (hYB 7 _ rfl).c
  have p8 := (hYB 8 _ rfl).c
  have p9 := (hYB 9 _ rfl).c
  have p10 := (hYB 10 _ rfl).c
  have p11 := (hYB 11 _ rfl).c
  have p12 := (hYB 12 _ rfl).c
  clear hYB HB8 HZ8 HD8 HG8
  go_wp2
  (try simp only [Exit.inBlock, Exit.then])
  refine bodyPost_ret (v := .agg #[.int .i64 1, .string (tx s), .int .i64 nu, .string (tx p), .string (tx te), .int .i64 ru, .int .i64 rd, .int .i64 lo, .int .i64 hi, .int .i64 0, .slice none 0 0, .int .i64 0, .int .i64 0]) (by simp [results, Try.results25, go_sem, p0, p1, p2, p3, p4, p5, p6, p7, p8, p9, p10, p11, p12]) rfl ?_
  exact ⟨_, rfl, num_nil _ _, (by intro a n c e; simp at e), HYD.out, HYG.out⟩
set_option maxHeartbeats 4000000 in
set_option maxRecDepth 100000 in
theorem rmessage_rpl {w : World} {R : Nat} {t : By} {b : Bool} (h : Rdm w R t b) (x : Nat) (c : UInt8) (t1 : By) (f1 : Bool) (h1 : nxR t = (c, t1, f1)) (s : By) (t2 : By) (f2 : Bool) (h2 : tnR t1 = (s, t2, f2)) (nu : Int) (t3 : By) (f3 : Bool) (h3 : nmR t2 = (nu, t3, f3)) (er : Int) (t4 : By) (f4 : Bool) (h4 : nmR t3 = (er, t4, f4)) (l : List Int) (t5 : By) (f5 : Bool) (h5 : vsR t4 = (l, t5, f5)) (lu ld : Int) (t6 : By) (f6 : Bool) (h6 : rtR t5 = ((lu, ld), t6, f6)) (hk : x = 2) (hx : c.toNat = x) :
    Calls Try.prog 25 #[ptR R] w fun e w' => ∃ sv, e = .returned (mv ⟨(x : Int), s, nu, [], [], 0, 0, 0, 0, er, l, lu, ld⟩ sv) ∧ Num w' w'.heap.size sv l ∧ (∀ a n c, sv = .slice (some a) n c → w.heap.size ≤ a.block) ∧ Rdm w' R t6 ((((((b || f1) || f2) || f3) || f4) || f5) || f6) ∧ w.grownBy w' (some R) := by
  have hR : R < w.heap.size := h.f.lt
  have hx2 : x < 256 := by have := c.toNat_lt; rw [← hx]; simpa using this
  have hwx := w64 hx2
  obtain ⟨W, hW⟩ : ∃ W, w.alloc (.cells #[.int .i64 0, .string ⟨#[]⟩, .int .i64 0, .string ⟨#[]⟩, .string ⟨#[]⟩, .int .i64 0, .int .i64 0, .int .i64 0, .int .i64 0, .int .i64 0, .slice none 0 0, .int .i64 0, .int .i64 0] 27) = W := ⟨_, rfl⟩
  have bW : Below w.heap.size w W := by rw [← hW]; exact ba _ _
  have hZ : Bx W w.heap.size [.int .i64 0, .string ⟨#[]⟩, .int .i64 0, .string ⟨#[]⟩, .string ⟨#[]⟩, .int .i64 0, .int .i64 0, .int .i64 0, .int .i64 0, .int .i64 0, .slice none 0 0, .int .i64 0, .int .i64 0] := by rw [← hW]; exact Bx.new w _ 27 rfl
  have k := next_any (h.gbn bW) c t1 f1 _ h1 rfl
  rw [hx] at k
  clear h h1
  go_enter Try.func25, Try.ntmps25
  go_wp2_with fail
  refine k.mono ?_
  rintro e y ⟨rfl, d1, g1⟩
  clear k hW
  subst hk
  have b1 : Below y.heap.size y (y.alloc (.cells #[.int .i64 2, .string ⟨#[]⟩, .int .i64 0, .string ⟨#[]⟩, .string ⟨#[]⟩, .int .i64 0, .int .i64 0, .int .i64 0, .int .i64 0, .int .i64 0, .slice none 0 0, .int .i64 0, .int .i64 0] 27)) := ba _ _
  have hlt : w.heap.size < y.heap.size := by have := g1.size; have h0 := (hZ 0 _ rfl).lt; omega
  have hRB : R < y.heap.size := by omega
  have nZ : some w.heap.size ≠ some R := by simp; omega
  have nB : some y.heap.size ≠ some R := by simp; omega
  have HB1 : Hid (Bx (y.alloc (.cells #[.int .i64 2, .string ⟨#[]⟩, .int .i64 0, .string ⟨#[]⟩, .string ⟨#[]⟩, .int .i64 0, .int .i64 0, .int .i64 0, .int .i64 0, .int .i64 0, .slice none 0 0, .int .i64 0, .int .i64 0] 27)) y.heap.size [.int .i64 2, .string ⟨#[]⟩, .int .i64 0, .string ⟨#[]⟩, .string ⟨#[]⟩, .int .i64 0, .int .i64 0, .int .i64 0, .int .i64 0, .int .i64 0, .slice none 0 0, .int .i64 0, .int .i64 0]) := Bx.new y _ 27 rfl
  have HZ1 : Hid (Bx (y.alloc (.cells #[.int .i64 2, .string ⟨#[]⟩, .int .i64 0, .string ⟨#[]⟩, .string ⟨#[]⟩, .int .i64 0, .int .i64 0, .int .i64 0, .int .i64 0, .int .i64 0, .slice none 0 0, .int .i64 0, .int .i64 0] 27)) w.heap.size [.int .i64 0, .string ⟨#[]⟩, .int .i64 0, .string ⟨#[]⟩, .string ⟨#[]⟩, .int .i64 0, .int .i64 0, .int .i64 0, .int .i64 0, .int .i64 0, .slice none 0 0, .int .i64 0, .int .i64 0]) := (hZ.gb g1 nZ).at b1
  have HD1 : Hid (Rdm (y.alloc (.cells #[.int .i64 2, .string ⟨#[]⟩, .int .i64 0, .string ⟨#[]⟩, .string ⟨#[]⟩, .int .i64 0, .int .i64 0, .int .i64 0, .int .i64 0, .int .i64 0, .slice none 0 0, .int .i64 0, .int .i64 0] 27)) R t1 (b || f1)) := d1.gbn b1
  have HG1 : Hid (w.grownBy (y.alloc (.cells #[.int .i64 2, .string ⟨#[]⟩, .int .i64 0, .string ⟨#[]⟩, .string ⟨#[]⟩, .int .i64 0, .int .i64 0, .int .i64 0, .int .i64 0, .int .i64 0, .slice none 0 0, .int .i64 0, .int .i64 0] 27)) (some R)) := gb_trans (gb_trans (gb_below bW) g1) (gb_below b1)
  have hlw : w.heap.size ≤ y.heap.size := by omega
  clear d1 g1 hZ bW b1
  have k := rtext_any HD1.out s t2 f2 h2
  go_wp2_with fail
  refine k.mono ?_
  rintro e y2 ⟨rfl, d2, g2⟩
  clear k 
  have hBy : Bx y2 y.heap.size [.int .i64 2, .string ⟨#[]⟩, .int .i64 0, .string ⟨#[]⟩, .string ⟨#[]⟩, .int .i64 0, .int .i64 0, .int .i64 0, .int .i64 0, .int .i64 0, .slice none 0 0, .int .i64 0, .int .i64 0] := HB1.out.gb g2 nB
  have q1 := (hBy 1 _ rfl).c
  have qf1 := (hBy 1 _ rfl).f
  obtain ⟨X2, hX2⟩ : ∃ X, (y2.setCell ⟨y.heap.size, 1, none⟩ (.string (tx s))) = X := ⟨_, rfl⟩
  have HB2 : Hid (Bx X2 y.heap.size [.int .i64 2, .string (tx s), .int .i64 0, .string ⟨#[]⟩, .string ⟨#[]⟩, .int .i64 0, .int .i64 0, .int .i64 0, .int .i64 0, .int .i64 0, .slice none 0 0, .int .i64 0, .int .i64 0]) := by rw [Hid, ← hX2]; exact (hBy.set (i := 1) (by simp) (.string (tx s)))
  have HZ2 : Hid (Bx X2 w.heap.size [.int .i64 0, .string ⟨#[]⟩, .int .i64 0, .string ⟨#[]⟩, .string ⟨#[]⟩, .int .i64 0, .int .i64 0, .int .i64 0, .int .i64 0, .int .i64 0, .slice none 0 0, .int .i64 0, .int .i64 0]) := by rw [Hid, ← hX2]; exact (Bx.oth (HZ1.out.gb g2 nZ) (b' := y.heap.size) (k := 1) (by omega) (.string (tx s)))
  have HD2 : Hid (Rdm X2 R t2 ((b || f1) || f2)) := by rw [Hid, ← hX2]; exact d2.high (hset (Below.refl _ _) hRB 1 _)
  have HG2 : Hid (w.grownBy X2 (some R)) := by rw [Hid, ← hX2]; exact gb_new (gb_trans HG1.out g2) (p := ⟨y.heap.size, 1, none⟩) hlw _
  clear d2 g2 hBy HB1 HZ1 HD1 HG1
  have k := rnumber_any HD2.out nu t3 f3 h3
  go_wp2_with fail
  refine k.mono ?_
  rintro e y3 ⟨rfl, d3, g3⟩
  clear k hX2 q1 qf1
  have hBy : Bx y3 y.heap.size [.int .i64 2, .string (tx s), .int .i64 0, .string ⟨#[]⟩, .string ⟨#[]⟩, .int .i64 0, .int .i64 0, .int .i64 0, .int .i64 0, .int .i64 0, .slice none 0 0, .int .i64 0, .int .i64 0] := HB2.out.gb g3 nB
  have q2 := (hBy 2 _ rfl).c
  have qf2 := (hBy 2 _ rfl).f
  obtain ⟨X3, hX3⟩ : ∃ X, (y3.setCell ⟨y.heap.size, 2, none⟩ (.int .i64 nu)) = X := ⟨_, rfl⟩
  have Hy.heap.size : Hid (Bx X3 y.heap.size [.int .i64 2, .string (tx s), .int .i64 nu, .string ⟨#[]⟩, .string ⟨#[]⟩, .int .i64 0, .int .i64 0, .int .i64 0, .int .i64 0, .int .i64 0, .slice none 0 0, .int .i64 0, .int .i64 0]) := by rw [Hid, ← hX3]; exact (hBy.set (i := 2) (by simp) (.int .i64 nu))
  have HZ3 : Hid (Bx X3 w.heap.size [.int .i64 0, .string ⟨#[]⟩, .int .i64 0, .string ⟨#[]⟩, .string ⟨#[]⟩, .int .i64 0, .int .i64 0, .int .i64 0, .int .i64 0, .int .i64 0, .slice none 0 0, .int .i64 0, .int .i64 0]) := by rw [Hid, ← hX3]; exact (Bx.oth (HZ2.out.gb g3 nZ) (b' := y.heap.size) (k := 2) (by omega) (.int .i64 nu))
  have HD3 : Hid (Rdm X3 R t3 (((b || f1) || f2) || f3)) := by rw [Hid, ← hX3]; exact d3.high (hset (Below.refl _ _) hRB 2 _)
  have HG3 : Hid (w.grownBy X3 (some R)) := by rw [Hid, ← hX3]; exact gb_new (gb_trans HG2.out g3) (p := ⟨y.heap.size, 2, none⟩) hlw _
  clear d3 g3 hBy HB2 HZ2 HD2 HG2
  have qk := (Hy.heap.size.out 0 _ rfl).c
  have k := rnumber_any HD3.out er t4 f4 h4
  go_wp2_with fail
  refine k.mono ?_
  rintro e y4 ⟨rfl, d4, g4⟩
  clear k hX3 q2 qf2
  clear qk
  have hBy : Bx y4 y.heap.size [.int .i64 2, .string (tx s), .int .i64 nu, .string ⟨#[]⟩, .string ⟨#[]⟩, .int .i64 0, .int .i64 0, .int .i64 0, .int .i64 0, .int .i64 0, .slice none 0 0, .int .i64 0, .int .i64 0] := Hy.heap.size.out.gb g4 nB
  have q9 := (hBy 9 _ rfl).c
  have qf9 := (hBy 9 _ rfl).f
  obtain ⟨X4, hX4⟩ : ∃ X, (y4.setCell ⟨y.heap.size, 9, none⟩ (.int .i64 er)) = X := ⟨_, rfl⟩
  have HB4 : Hid (Bx X4 y.heap.size [.int .i64 2, .string (tx s), .int .i64 nu, .string ⟨#[]⟩, .string ⟨#[]⟩, .int .i64 0, .int .i64 0, .int .i64 0, .int .i64 0, .int .i64 er, .slice none 0 0, .int .i64 0, .int .i64 0]) := by rw [Hid, ← hX4]; exact (hBy.set (i := 9) (by simp) (.int .i64 er))
  have HZ4 : Hid (Bx X4 w.heap.size [.int .i64 0, .string ⟨#[]⟩, .int .i64 0, .string ⟨#[]⟩, .string ⟨#[]⟩, .int .i64 0, .int .i64 0, .int .i64 0, .int .i64 0, .int .i64 0, .slice none 0 0, .int .i64 0, .int .i64 0]) := by rw [Hid, ← hX4]; exact (Bx.oth (HZ3.out.gb g4 nZ) (b' := y.heap.size) (k := 9) (by omega) (.int .i64 er))
  have HD4 : Hid (Rdm X4 R t4 ((((b || f1) || f2) || f3) || f4)) := by rw [Hid, ← hX4]; exact d4.high (hset (Below.refl _ _) hRB 9 _)
  have HG4 : Hid (w.grownBy X4 (some R)) := by rw [Hid, ← hX4]; exact gb_new (gb_trans HG3.out g4) (p := ⟨y.heap.size, 9, none⟩) hlw _
  clear d4 g4 hBy Hy.heap.size HZ3 HD3 HG3
  have k := rvalues_any HD4.out l t5 f5 h5
  go_wp2_with fail
  refine k.mono ?_
  rintro e y5 ⟨la, lc, rfl, nm, lnew, d5, g5⟩
  clear k hX4 q9 qf9
  have hBy : Bx y5 y.heap.size [.int .i64 2, .string (tx s), .int .i64 nu, .string ⟨#[]⟩, .string ⟨#[]⟩, .int .i64 0, .int .i64 0, .int .i64 0, .int .i64 0, .int .i64 er, .slice none 0 0, .int .i64 0, .int .i64 0] := HB4.out.gb g5 nB
  have q10 := (hBy 10 _ rfl).c
  have qf10 := (hBy 10 _ rfl).f
  obtain ⟨X5, hX5⟩ : ∃ X, (y5.setCell ⟨y.heap.size, 10, none⟩ (.slice la l.length lc)) = X := ⟨_, rfl⟩
  have HB5 : Hid (Bx X5 y.heap.size [.int .i64 2, .string (tx s), .int .i64 nu, .string ⟨#[]⟩, .string ⟨#[]⟩, .int .i64 0, .int .i64 0, .int .i64 0, .int .i64 0, .int .i64 er, .slice la l.length lc, .int .i64 0, .int .i64 0]) := by rw [Hid, ← hX5]; exact (hBy.set (i := 10) (by simp) (.slice la l.length lc))
  have HZ5 : Hid (Bx X5 w.heap.size [.int .i64 0, .string ⟨#[]⟩, .int .i64 0, .string ⟨#[]⟩, .string ⟨#[]⟩, .int .i64 0, .int .i64 0, .int .i64 0, .int .i64 0, .int .i64 0, .slice none 0 0, .int .i64 0, .int .i64 0]) := by rw [Hid, ← hX5]; exact (Bx.oth (HZ4.out.gb g5 nZ) (b' := y.heap.size) (k := 10) (by omega) (.slice la l.length lc))
  have HD5 : Hid (Rdm X5 R t5 (((((b || f1) || f2) || f3) || f4) || f5)) := by rw [Hid, ← hX5]; exact d5.high (hset (Below.refl _ _) hRB 10 _)
  have HG5 : Hid (w.grownBy X5 (some R)) := by rw [Hid, ← hX5]; exact gb_new (gb_trans HG4.out g5) (p := ⟨y.heap.size, 10, none⟩) hlw _
  have hlas : ∀ g, la = some g → y.heap.size < g.block := fun g hg => Nat.lt_of_lt_of_le (HB4.out 0 _ rfl).lt (lnew g hg)
  have HNM5 : Hid (Num X5 X5.heap.size (.slice la l.length lc) l) := by
    rw [Hid, ← hX5]
    have h0 : (y5.setCell ⟨y.heap.size, 10, none⟩ (.slice la l.length lc)).heap.size = y5.heap.size := by simp
    rw [h0]
    refine Num.gb (R := y.heap.size) nm (gb_set (gb_refl _ _) 10 _) (fun a n c e => ?_)
    simp only [Value.slice.injEq] at e
    have := hlas a e.1
    omega
  clear nm lnew
  clear d5 g5 hBy HB4 HZ4 HD4 HG4
  have k := rratio_any HD5.out lu ld t6 f6 h6
  go_wp2_with fail
  refine k.mono ?_
  rintro e y6 ⟨rfl, d6, g6⟩
  clear k hX5 q10 qf10
  have hBy : Bx y6 y.heap.size [.int .i64 2, .string (tx s), .int .i64 nu, .string ⟨#[]⟩, .string ⟨#[]⟩, .int .i64 0, .int .i64 0, .int .i64 0, .int .i64 0, .int .i64 er, .slice la l.length lc, .int .i64 0, .int .i64 0] := HB5.out.gb g6 nB
  have q11 := (hBy 11 _ rfl).c
  have qf11 := (hBy 11 _ rfl).f
  have q12 := (hBy 12 _ rfl).c
  have qf12 := (hBy 12 _ rfl).f
  obtain ⟨X6, hX6⟩ : ∃ X, ((y6.setCell ⟨y.heap.size, 11, none⟩ (.int .i64 lu)).setCell ⟨y.heap.size, 12, none⟩ (.int .i64 ld)) = X := ⟨_, rfl⟩
  have HB6 : Hid (Bx X6 y.heap.size [.int .i64 2, .string (tx s), .int .i64 nu, .string ⟨#[]⟩, .string ⟨#[]⟩, .int .i64 0, .int .i64 0, .int .i64 0, .int .i64 0, .int .i64 er, .slice la l.length lc, .int .i64 lu, .int .i64 ld]) := by rw [Hid, ← hX6]; exact ((hBy.set (i := 11) (by simp) (.int .i64 lu)).set (i := 12) (by simp) (.int .i64 ld))
  have HZ6 : Hid (Bx X6 w.heap.size [.int .i64 0, .string ⟨#[]⟩, .int .i64 0, .string ⟨#[]⟩, .string ⟨#[]⟩, .int .i64 0, .int .i64 0, .int .i64 0, .int .i64 0, .int .i64 0, .slice none 0 0, .int .i64 0, .int .i64 0]) := by rw [Hid, ← hX6]; exact (Bx.oth (Bx.oth (HZ5.out.gb g6 nZ) (b' := y.heap.size) (k := 11) (by omega) (.int .i64 lu)) (b' := y.heap.size) (k := 12) (by omega) (.int .i64 ld))
  have HD6 : Hid (Rdm X6 R t6 ((((((b || f1) || f2) || f3) || f4) || f5) || f6)) := by rw [Hid, ← hX6]; exact d6.high (hset (hset (Below.refl _ _) hRB 11 _) hRB 12 _)
  have HG6 : Hid (w.grownBy X6 (some R)) := by rw [Hid, ← hX6]; exact gb_new (gb_new (gb_trans HG5.out g6) (p := ⟨y.heap.size, 11, none⟩) hlw _) (p := ⟨y.heap.size, 12, none⟩) hlw _
  have qs := (hBy.set (i := 11) (by simp) (.int .i64 lu) 12 _ rfl).c
  have HNM6 : Hid (Num X6 X6.heap.size (.slice la l.length lc) l) := by
    have hn5 : ∀ (r : Nat), r ≤ y.heap.size → ∀ (a : Addr) (n c : Nat), Value.slice la l.length lc = .slice (some a) n c → a.block ≠ r := by
      intro r hr a n c e
      simp only [Value.slice.injEq] at e
      have := hlas a e.1
      omega
    have s1 := (Num.gb (R := R) HNM5.out g6 (hn5 R (by omega))).mono g6.size
    have s2 := Num.gb (R := y.heap.size) s1 (gb_set (gb_set (gb_refl _ _) 11 (.int .i64 lu)) 12 (.int .i64 ld)) (hn5 y.heap.size (Nat.le_refl _))
    rw [hX6] at s2
    have e6 : y6.heap.size = X6.heap.size := by rw [← hX6]; simp
    rw [e6] at s2
    exact s2
  clear d6 g6 hBy HB5 HZ5 HD5 HG5
  have u0 := (HB6.out 0 _ rfl).c
  have u1 := (HB6.out 1 _ rfl).c
  have u2 := (HB6.out 2 _ rfl).c
  have u3 := (HB6.out 3 _ rfl).c
  have u4 := (HB6.out 4 _ rfl).c
  have u5 := (HB6.out 5 _ rfl).c
  have u6 := (HB6.out 6 _ rfl).c
  have u7 := (HB6.out 7 _ rfl).c
  have u8 := (HB6.out 8 _ rfl).c
  have u9 := (HB6.out 9 _ rfl).c
  have u10 := (HB6.out 10 _ rfl).c
  have u11 := (HB6.out 11 _ rfl).c
  have u12 := (HB6.out 12 _ rfl).c
  have v0 := (HZ6.out 0 _ rfl).c
  have vf0 := (HZ6.out 0 _ rfl).f
  have v1 := (HZ6.out 1 _ rfl).c
  have vf1 := (HZ6.out 1 _ rfl).f
  have v2 := (HZ6.out 2 _ rfl).c
  have vf2 := (HZ6.out 2 _ rfl).f
  have v3 := (HZ6.out 3 _ rfl).c
  have vf3 := (HZ6.out 3 _ rfl).f
  have v4 := (HZ6.out 4 _ rfl).c
  have vf4 := (HZ6.out 4 _ rfl).f
  have v5 := (HZ6.out 5 _ rfl).c
  have vf5 := (HZ6.out 5 _ rfl).f
  have v6 := (HZ6.out 6 _ rfl).c
  have vf6 := (HZ6.out 6 _ rfl).f
  have v7 := (HZ6.out 7 _ rfl).c
  have vf7 := (HZ6.out 7 _ rfl).f
  have v8 := (HZ6.out 8 _ rfl).c
  have vf8 := (HZ6.out 8 _ rfl).f
  have v9 := (HZ6.out 9 _ rfl).c
  have vf9 := (HZ6.out 9 _ rfl).f
  have v10 := (HZ6.out 10 _ rfl).c
  have vf10 := (HZ6.out 10 _ rfl).f
  have v11 := (HZ6.out 11 _ rfl).c
  have vf11 := (HZ6.out 11 _ rfl).f
  have v12 := (HZ6.out 12 _ rfl).c
  have vf12 := (HZ6.out 12 _ rfl).f
  obtain ⟨Y, hY⟩ : ∃ Y, (((((((((((((X6.setCell ⟨w.heap.size, 0, none⟩ (.int .i64 2)).setCell ⟨w.heap.size, 1, none⟩ (.string (tx s))).setCell ⟨w.heap.size, 2, none⟩ (.int .i64 nu)).setCell ⟨w.heap.size, 3, none⟩ (.string ⟨#[]⟩)).setCell ⟨w.heap.size, 4, none⟩ (.string ⟨#[]⟩)).setCell ⟨w.heap.size, 5, none⟩ (.int .i64 0)).setCell ⟨w.heap.size, 6, none⟩ (.int .i64 0)).setCell ⟨w.heap.size, 7, none⟩ (.int .i64 0)).setCell ⟨w.heap.size, 8, none⟩ (.int .i64 0)).setCell ⟨w.heap.size, 9, none⟩ (.int .i64 er)).setCell ⟨w.heap.size, 10, none⟩ (.slice la l.length lc)).setCell ⟨w.heap.size, 11, none⟩ (.int .i64 lu)).setCell ⟨w.heap.size, 12, none⟩ (.int .i64 ld)) = Y := ⟨_, rfl⟩
  have hYB : Bx Y w.heap.size [.int .i64 2, .string (tx s), .int .i64 nu, .string ⟨#[]⟩, .string ⟨#[]⟩, .int .i64 0, .int .i64 0, .int .i64 0, .int .i64 0, .int .i64 er, .slice la l.length lc, .int .i64 lu, .int .i64 ld] := by rw [← hY]; exact (((((((((((((HZ6.out.set (i := 0) (by simp) (.int .i64 2)).set (i := 1) (by simp) (.string (tx s))).set (i := 2) (by simp) (.int .i64 nu)).set (i := 3) (by simp) (.string ⟨#[]⟩)).set (i := 4) (by simp) (.string ⟨#[]⟩)).set (i := 5) (by simp) (.int .i64 0)).set (i := 6) (by simp) (.int .i64 0)).set (i := 7) (by simp) (.int .i64 0)).set (i := 8) (by simp) (.int .i64 0)).set (i := 9) (by simp) (.int .i64 er)).set (i := 10) (by simp) (.slice la l.length lc)).set (i := 11) (by simp) (.int .i64 lu)).set (i := 12) (by simp) (.int .i64 ld))
  have HYD : Hid (Rdm Y R t6 ((((((b || f1) || f2) || f3) || f4) || f5) || f6)) := by rw [Hid, ← hY]; exact HD6.out.high (hset (hset (hset (hset (hset (hset (hset (hset (hset (hset (hset (hset (hset (Below.refl _ _) hR 0 _) hR 1 _) hR 2 _) hR 3 _) hR 4 _) hR 5 _) hR 6 _) hR 7 _) hR 8 _) hR 9 _) hR 10 _) hR 11 _) hR 12 _)
  have HYG : Hid (w.grownBy Y (some R)) := by rw [Hid, ← hY]; exact gb_new (gb_new (gb_new (gb_new (gb_new (gb_new (gb_new (gb_new (gb_new (gb_new (gb_new (gb_new (gb_new (HG6.out) (p := ⟨w.heap.size, 0, none⟩) (Nat.le_refl _) _) (p := ⟨w.heap.size, 1, none⟩) (Nat.le_refl _) _) (p := ⟨w.heap.size, 2, none⟩) (Nat.le_refl _) _) (p := ⟨w.heap.size, 3, none⟩) (Nat.le_refl _) _) (p := ⟨w.heap.size, 4, none⟩) (Nat.le_refl _) _) (p := ⟨w.heap.size, 5, none⟩) (Nat.le_refl _) _) (p := ⟨w.heap.size, 6, none⟩) (Nat.le_refl _) _) (p := ⟨w.heap.size, 7, none⟩) (Nat.le_refl _) _) (p := ⟨w.heap.size, 8, none⟩) (Nat.le_refl _) _) (p := ⟨w.heap.size, 9, none⟩) (Nat.le_refl _) _) (p := ⟨w.heap.size, 10, none⟩) (Nat.le_refl _) _) (p := ⟨w.heap.size, 11, none⟩) (Nat.le_refl _) _) (p := ⟨w.heap.size, 12, none⟩) (Nat.le_refl _) _
  have p0 := (hYB 0 _ rfl).c
  have p1 := (hYB 1 _ rfl).c
  have p2 := (hYB 2 _ rfl).c
  have p3 := (hYB 3 _ rfl).c
  have p4 := (hYB 4 _ rfl).c
  have p5 := (hYB 5 _ rfl).c
  have p6 := (hYB 6 _ rfl).c
  have p7 := (hYB 7 _ rfl).c
  have p8 := (hYB 8 _ rfl).c
  have p9 := (hYB 9 _ rfl).c
  have p10 := (hYB 10 _ rfl).c
  have p11 := (hYB 11 _ rfl).c
  have p12 := (hYB 12 _ rfl).c
  have HYN : Hid (Num Y Y.heap.size (.slice la l.length lc) l) := by
    have s2 := Num.gb (R := w.heap.size) HNM6.out (gb_set (gb_set (gb_set (gb_set (gb_set (gb_set (gb_set (gb_set (gb_set (gb_set (gb_set (gb_set (gb_set (gb_refl _ _) 0 (.int .i64 2)) 1 (.string (tx s))) 2 (.int .i64 nu)) 3 (.string ⟨#[]⟩)) 4 (.string ⟨#[]⟩)) 5 (.int .i64 0)) 6 (.int .i64 0)) 7 (.int .i64 0)) 8 (.int .i64 0)) 9 (.int .i64 er)) 10 (.slice la l.length lc)) 11 (.int .i64 lu)) 12 (.int .i64 ld)) (by
      intro a n c e
      simp only [Value.slice.injEq] at e
      have := hlas a e.1
      omega)
    rw [hY] at s2
    have e6 : X6.heap.size = Y.heap.size := by rw [← hY]; simp
    rw [e6] at s2
    exact s2
  clear hYB HB6 HZ6 HD6 HG6
  go_wp2
  (try simp only [Exit.inBlock, Exit.then])
  refine bodyPost_ret (v := .agg #[.int .i64 2, .string (tx s), .int .i64 nu, .string ⟨#[]⟩, .string ⟨#[]⟩, .int .i64 0, .int .i64 0, .int .i64 0, .int .i64 0, .int .i64 er, .slice la l.length lc, .int .i64 lu, .int .i64 ld]) (by simp [results, Try.results25, go_sem, p0, p1, p2, p3, p4, p5, p6, p7, p8, p9, p10, p11, p12]) rfl ?_
  exact ⟨_, rfl, HYN.out, (by intro a n c e; simp only [Value.slice.injEq] at e; have := hlas a e.1; omega), HYD.out, HYG.out⟩
set_option maxHeartbeats 4000000 in
set_option maxRecDepth 100000 in
theorem rmessage_no {w : World} {R : Nat} {t : By} {b : Bool} (h : Rdm w R t b) (x : Nat) (c : UInt8) (t1 : By) (f1 : Bool) (h1 : nxR t = (c, t1, f1)) (s : By) (t2 : By) (f2 : Bool) (h2 : tnR t1 = (s, t2, f2)) (nu : Int) (t3 : By) (f3 : Bool) (h3 : nmR t2 = (nu, t3, f3)) (hk1 : ¬ x = 1) (hk2 : ¬ x = 2) (hx : c.toNat = x) :
    Calls Try.prog 25 #[ptR R] w fun e w' => ∃ sv, e = .returned (mv ⟨(x : Int), s, nu, [], [], 0, 0, 0, 0, 0, [], 0, 0⟩ sv) ∧ Num w' w'.heap.size sv [] ∧ (∀ a n c, sv = .slice (some a) n c → w.heap.size ≤ a.block) ∧ Rdm w' R t3 true ∧ w.grownBy w' (some R) := by
  have hR : R < w.heap.size := h.f.lt
  have hx2 : x < 256 := by have := c.toNat_lt; rw [← hx]; simpa using this
  have hwx := w64 hx2
  obtain ⟨W, hW⟩ : ∃ W, w.alloc (.cells #[.int .i64 0, .string ⟨#[]⟩, .int .i64 0, .string ⟨#[]⟩, .string ⟨#[]⟩, .int .i64 0, .int .i64 0, .int .i64 0, .int .i64 0, .int .i64 0, .slice none 0 0, .int .i64 0, .int .i64 0] 27) = W := ⟨_, rfl⟩
  have bW : Below w.heap.size w W := by rw [← hW]; exact ba _ _
  have hZ : Bx W w.heap.size [.int .i64 0, .string ⟨#[]⟩, .int .i64 0, .string ⟨#[]⟩, .string ⟨#[]⟩, .int .i64 0, .int .i64 0, .int .i64 0, .int .i64 0, .int .i64 0, .slice none 0 0, .int .i64 0, .int .i64 0] := by rw [← hW]; exact Bx.new w _ 27 rfl
  have k := next_any (h.gbn bW) c t1 f1 _ h1 rfl
  rw [hx] at k
  clear h h1
  go_enter Try.func25, Try.ntmps25
  go_wp2_with fail
  refine k.mono ?_
  rintro e y ⟨rfl, d1, g1⟩
  clear k hW
  have k1 : ¬ (x : Int) = 1 := by omega
  have k1' : ((x : Int) == 1) = false := by simpa using k1
  have k2 : ¬ (x : Int) = 2 := by omega
  have k2' : ((x : Int) == 2) = false := by simpa using k2
  have b1 : Below y.heap.size y (y.alloc (.cells #[.int .i64 (x : Int), .string ⟨#[]⟩, .int .i64 0, .string ⟨#[]⟩, .string ⟨#[]⟩, .int .i64 0, .int .i64 0, .int .i64 0, .int .i64 0, .int .i64 0, .slice none 0 0, .int .i64 0, .int .i64 0] 27)) := ba _ _
  have hlt : w.heap.size < y.heap.size := by have := g1.size; have h0 := (hZ 0 _ rfl).lt; omega
  have hRB : R < y.heap.size := by omega
  have nZ : some w.heap.size ≠ some R := by simp; omega
  have nB : some y.heap.size ≠ some R := by simp; omega
  have HB1 : Hid (Bx (y.alloc (.cells #[.int .i64 (x : Int), .string ⟨#[]⟩, .int .i64 0, .string ⟨#[]⟩, .string ⟨#[]⟩, .int .i64 0, .int .i64 0, .int .i64 0, .int .i64 0, .int .i64 0, .slice none 0 0, .int .i64 0, .int .i64 0] 27)) y.heap.size [.int .i64 (x : Int), .string ⟨#[]⟩, .int .i64 0, .string ⟨#[]⟩, .string ⟨#[]⟩, .int .i64 0, .int .i64 0, .int .i64 0, .int .i64 0, .int .i64 0, .slice none 0 0, .int .i64 0, .int .i64 0]) := Bx.new y _ 27 rfl
  have HZ1 : Hid (Bx (y.alloc (.cells #[.int .i64 (x : Int), .string ⟨#[]⟩, .int .i64 0, .string ⟨#[]⟩, .string ⟨#[]⟩, .int .i64 0, .int .i64 0, .int .i64 0, .int .i64 0, .int .i64 0, .slice none 0 0, .int .i64 0, .int .i64 0] 27)) w.heap.size [.int .i64 0, .string ⟨#[]⟩, .int .i64 0, .string ⟨#[]⟩, .string ⟨#[]⟩, .int .i64 0, .int .i64 0, .int .i64 0, .int .i64 0, .int .i64 0, .slice none 0 0, .int .i64 0, .int .i64 0]) := (hZ.gb g1 nZ).at b1
  have HD1 : Hid (Rdm (y.alloc (.cells #[.int .i64 (x : Int), .string ⟨#[]⟩, .int .i64 0, .string ⟨#[]⟩, .string ⟨#[]⟩, .int .i64 0, .int .i64 0, .int .i64 0, .int .i64 0, .int .i64 0, .slice none 0 0, .int .i64 0, .int .i64 0] 27)) R t1 (b || f1)) := d1.gbn b1
  have HG1 : Hid (w.grownBy (y.alloc (.cells #[.int .i64 (x : Int), .string ⟨#[]⟩, .int .i64 0, .string ⟨#[]⟩, .string ⟨#[]⟩, .int .i64 0, .int .i64 0, .int .i64 0, .int .i64 0, .int .i64 0, .slice none 0 0, .int .i64 0, .int .i64 0] 27)) (some R)) := gb_trans (gb_trans (gb_below bW) g1) (gb_below b1)
  have hlw : w.heap.size ≤ y.heap.size := by omega
  clear d1 g1 hZ bW b1
  have k := rtext_any HD1.out s t2 f2 h2
  go_wp2_with fail
  refine k.mono ?_
  rintro e y2 ⟨rfl, d2, g2⟩
  clear k 
  have hBy : Bx y2 y.heap.size [.int .i64 (x : Int), .string ⟨#[]⟩, .int .i64 0, .string ⟨#[]⟩, .string ⟨#[]⟩, .int .i64 0, .int .i64 0, .int .i64 0, .int .i64 0, .int .i64 0, .slice none 0 0, .int .i64 0, .int .i64 0] := HB1.out.gb g2 nB
  have q1 := (hBy 1 _ rfl).c
  have qf1 := (hBy 1 _ rfl).f
  obtain ⟨X2, hX2⟩ : ∃ X, (y2.setCell ⟨y.heap.size, 1, none⟩ (.string (tx s))) = X := ⟨_, rfl⟩
  have HB2 : Hid (Bx X2 y.heap.size [.int .i64 (x : Int), .string (tx s), .int .i64 0, .string ⟨#[]⟩, .string ⟨#[]⟩, .int .i64 0, .int .i64 0, .int .i64 0, .int .i64 0, .int .i64 0, .slice none 0 0, .int .i64 0, .int .i64 0]) := by rw [Hid, ← hX2]; exact (hBy.set (i := 1) (by simp) (.string (tx s)))
  have HZ2 : Hid (Bx X2 w.heap.size [.int .i64 0, .string ⟨#[]⟩, .int .i64 0, .string ⟨#[]⟩, .string ⟨#[]⟩, .int .i64 0, .int .i64 0, .int .i64 0, .int .i64 0, .int .i64 0, .slice none 0 0, .int .i64 0, .int .i64 0]) := by rw [Hid, ← hX2]; exact (Bx.oth (HZ1.out.gb g2 nZ) (b' := y.heap.size) (k := 1) (by omega) (.string (tx s)))
  have HD2 : Hid (Rdm X2 R t2 ((b || f1) || f2)) := by rw [Hid, ← hX2]; exact d2.high (hset (Below.refl _ _) hRB 1 _)
  have HG2 : Hid (w.grownBy X2 (some R)) := by rw [Hid, ← hX2]; exact gb_new (gb_trans HG1.out g2) (p := ⟨y.heap.size, 1, none⟩) hlw _
  clear d2 g2 hBy HB1 HZ1 HD1 HG1
  have k := rnumber_any HD2.out nu t3 f3 h3
  go_wp2_with fail
  refine k.mono ?_
  rintro e y3 ⟨rfl, d3, g3⟩
  clear k hX2 q1 qf1
  have hBy : Bx y3 y.heap.size [.int .i64 (x : Int), .string (tx s), .int .i64 0, .string ⟨#[]⟩, .string ⟨#[]⟩, .int .i64 0, .int .i64 0, .int .i64 0, .int .i64 0, .int .i64 0, .slice none 0 0, .int .i64 0, .int .i64 0] := HB2.out.gb g3 nB
  have q2 := (hBy 2 _ rfl).c
  have qf2 := (hBy 2 _ rfl).f
  obtain ⟨X3, hX3⟩ : ∃ X, (y3.setCell ⟨y.heap.size, 2, none⟩ (.int .i64 nu)) = X := ⟨_, rfl⟩
  have Hy.heap.size : Hid (Bx X3 y.heap.size [.int .i64 (x : Int), .string (tx s), .int .i64 nu, .string ⟨#[]⟩, .string ⟨#[]⟩, .int .i64 0, .int .i64 0, .int .i64 0, .int .i64 0, .int .i64 0, .slice none 0 0, .int .i64 0, .int .i64 0]) := by rw [Hid, ← hX3]; exact (hBy.set (i := 2) (by simp) (.int .i64 nu))
  have HZ3 : Hid (Bx X3 w.heap.size [.int .i64 0, .string ⟨#[]⟩, .int .i64 0, .string ⟨#[]⟩, .string ⟨#[]⟩, .int .i64 0, .int .i64 0, .int .i64 0, .int .i64 0, .int .i64 0, .slice none 0 0, .int .i64 0, .int .i64 0]) := by rw [Hid, ← hX3]; exact (Bx.oth (HZ2.out.gb g3 nZ) (b' := y.heap.size) (k := 2) (by omega) (.int .i64 nu))
  have HD3 : Hid (Rdm X3 R t3 (((b || f1) || f2) || f3)) := by rw [Hid, ← hX3]; exact d3.high (hset (Below.refl _ _) hRB 2 _)
  have HG3 : Hid (w.grownBy X3 (some R)) := by rw [Hid, ← hX3]; exact gb_new (gb_trans HG2.out g3) (p := ⟨y.heap.size, 2, none⟩) hlw _
  clear d3 g3 hBy HB2 HZ2 HD2 HG2
  have qk := (Hy.heap.size.out 0 _ rfl).c
  have rb := HD3.out.f.c
  have rbf := HD3.out.f.f
  obtain ⟨X4, hX4⟩ : ∃ X, X3.setCell ⟨R, 1, none⟩ (.bool true) = X := ⟨_, rfl⟩
  have HB4 : Hid (Bx X4 y.heap.size [.int .i64 (x : Int), .string (tx s), .int .i64 nu, .string ⟨#[]⟩, .string ⟨#[]⟩, .int .i64 0, .int .i64 0, .int .i64 0, .int .i64 0, .int .i64 0, .slice none 0 0, .int .i64 0, .int .i64 0]) := by rw [Hid, ← hX4]; exact Hy.heap.size.out.oth (by omega) _
  have HZ4 : Hid (Bx X4 w.heap.size [.int .i64 0, .string ⟨#[]⟩, .int .i64 0, .string ⟨#[]⟩, .string ⟨#[]⟩, .int .i64 0, .int .i64 0, .int .i64 0, .int .i64 0, .int .i64 0, .slice none 0 0, .int .i64 0, .int .i64 0]) := by rw [Hid, ← hX4]; exact HZ3.out.oth (by omega) _
  have HD4 : Hid (Rdm X4 R t3 true) := by
    rw [Hid, ← hX4]
    obtain ⟨v, hv, ho⟩ := HD3.out.c
    exact ⟨⟨v, hv.oth (.inr (by decide)) _, ho.gb (gb_set (gb_refl _ _) 1 _)⟩, HD3.out.f.set _, HD3.out.l⟩
  have HG4 : Hid (w.grownBy X4 (some R)) := by rw [Hid, ← hX4]; exact gb_set HG3.out 1 _
  have u0 := (HB4.out 0 _ rfl).c
  have u1 := (HB4.out 1 _ rfl).c
  have u2 := (HB4.out 2 _ rfl).c
  have u3 := (HB4.out 3 _ rfl).c
  have u4 := (HB4.out 4 _ rfl).c
  have u5 := (HB4.out 5 _ rfl).c
  have u6 := (HB4.out 6 _ rfl).c
  have u7 := (HB4.out 7 _ rfl).c
  have u8 := (HB4.out 8 _ rfl).c
  have u9 := (HB4.out 9 _ rfl).c
  have u10 := (HB4.out 10 _ rfl).c
  have u11 := (HB4.out 11 _ rfl).c
  have u12 := (HB4.out 12 _ rfl).c
  have v0 := (HZ4.out 0 _ rfl).c
  have vf0 := (HZ4.out 0 _ rfl).f
  have v1 := (HZ4.out 1 _ rfl).c
  have vf1 := (HZ4.out 1 _ rfl).f
  have v2 := (HZ4.out 2 _ rfl).c
  have vf2 := (HZ4.out 2 _ rfl).f
  have v3 := (HZ4.out 3 _ rfl).c
  have vf3 := (HZ4.out 3 _ rfl).f
  have v4 := (HZ4.out 4 _ rfl).c
  have vf4 := (HZ4.out 4 _ rfl).f
  have v5 := (HZ4.out 5 _ rfl).c
  have vf5 := (HZ4.out 5 _ rfl).f
  have v6 := (HZ4.out 6 _ rfl).c
  have vf6 := (HZ4.out 6 _ rfl).f
  have v7 := (HZ4.out 7 _ rfl).c
  have vf7 := (HZ4.out 7 _ rfl).f
  have v8 := (HZ4.out 8 _ rfl).c
  have vf8 := (HZ4.out 8 _ rfl).f
  have v9 := (HZ4.out 9 _ rfl).c
  have vf9 := (HZ4.out 9 _ rfl).f
  have v10 := (HZ4.out 10 _ rfl).c
  have vf10 := (HZ4.out 10 _ rfl).f
  have v11 := (HZ4.out 11 _ rfl).c
  have vf11 := (HZ4.out 11 _ rfl).f
  have v12 := (HZ4.out 12 _ rfl).c
  have vf12 := (HZ4.out 12 _ rfl).f
  obtain ⟨Y, hY⟩ : ∃ Y, (((((((((((((X4.setCell ⟨w.heap.size, 0, none⟩ (.int .i64 (x : Int))).setCell ⟨w.heap.size, 1, none⟩ (.string (tx s))).setCell ⟨w.heap.size, 2, none⟩ (.int .i64 nu)).setCell ⟨w.heap.size, 3, none⟩ (.string ⟨#[]⟩)).setCell ⟨w.heap.size, 4, none⟩ (.string ⟨#[]⟩)).setCell ⟨w.heap.size, 5, none⟩ (.int .i64 0)).setCell ⟨w.heap.size, 6, none⟩ (.int .i64 0)).setCell ⟨w.heap.size, 7, none⟩ (.int .i64 0)).setCell ⟨w.heap.size, 8, none⟩ (.int .i64 0)).setCell ⟨w.heap.size, 9, none⟩ (.int .i64 0)).setCell ⟨w.heap.size, 10, none⟩ (.slice none 0 0)).setCell ⟨w.heap.size, 11, none⟩ (.int .i64 0)).setCell ⟨w.heap.size, 12, none⟩ (.int .i64 0)) = Y := ⟨_, rfl⟩
  have hYB : Bx Y w.heap.size [.int .i64 (x : Int), .string (tx s), .int .i64 nu, .string ⟨#[]⟩, .string ⟨#[]⟩, .int .i64 0, .int .i64 0, .int .i64 0, .int .i64 0, .int .i64 0, .slice none 0 0, .int .i64 0, .int .i64 0] := by rw [← hY]; exact (((((((((((((HZ4.out.set (i := 0) (by simp) (.int .i64 (x : Int))).set (i := 1) (by simp) (.string (tx s))).set (i := 2) (by simp) (.int .i64 nu)).set (i := 3) (by simp) (.string ⟨#[]⟩)).set (i := 4) (by simp) (.string ⟨#[]⟩)).set (i := 5) (by simp) (.int .i64 0)).set (i := 6) (by simp) (.int .i64 0)).set (i := 7) (by simp) (.int .i64 0)).set (i := 8) (by simp) (.int .i64 0)).set (i := 9) (by simp) (.int .i64 0)).set (i := 10) (by simp) (.slice none 0 0)).set (i := 11) (by simp) (.int .i64 0)).set (i := 12) (by simp) (.int .i64 0))
  have HYD : Hid (Rdm Y R t3 true) := by rw [Hid, ← hY]; exact HD4.out.high (hset (hset (hset (hset (hset (hset (hset (hset (hset (hset (hset (hset (hset (Below.refl _ _) hR 0 _) hR 1 _) hR 2 _) hR 3 _) hR 4 _) hR 5 _) hR 6 _) hR 7 _) hR 8 _) hR 9 _) hR 10 _) hR 11 _) hR 12 _)
  have HYG : Hid (w.grownBy Y (some R)) := by rw [Hid, ← hY]; exact gb_new (gb_new (gb_new (gb_new (gb_new (gb_new (gb_new (gb_new (gb_new (gb_new (gb_new (gb_new (gb_new (HG4.out) (p := ⟨w.heap.size, 0, none⟩) (Nat.le_refl _) _) (p := ⟨w.heap.size, 1, none⟩) (Nat.le_refl _) _) (p := ⟨w.heap.size, 2, none⟩) (Nat.le_refl _) _) (p := ⟨w.heap.size, 3, none⟩) (Nat.le_refl _) _) (p := ⟨w.heap.size, 4, none⟩) (Nat.le_refl _) _) (p := ⟨w.heap.size, 5, none⟩) (Nat.le_refl _) _) (p := ⟨w.heap.size, 6, none⟩) (Nat.le_refl _) _) (p := ⟨w.heap.size, 7, none⟩) (Nat.le_refl _) _) (p := ⟨w.heap.size, 8, none⟩) (Nat.le_refl _) _) (p := ⟨w.heap.size, 9, none⟩) (Nat.le_refl _) _) (p := ⟨w.heap.size, 10, none⟩) (Nat.le_refl _) _) (p := ⟨w.heap.size, 11, none⟩) (Nat.le_refl _) _) (p := ⟨w.heap.size, 12, none⟩) (Nat.le_refl _) _
  have p0 := (hYB 0 _ rfl).c
  have p1 := (hYB 1 _ rfl).c
  have p2 := (hYB 2 _ rfl).c
  have p3 := (hYB 3 _ rfl).c
  have p4 := (hYB 4 _ rfl).c
  have p5 := (hYB 5 _ rfl).c
  have p6 := (hYB 6 _ rfl).c
  have p7 := (hYB 7 _ rfl).c
  have p8 := (hYB 8 _ rfl).c
  have p9 := (hYB 9 _ rfl).c
  have p10 := (hYB 10 _ rfl).c
  have p11 := (hYB 11 _ rfl).c
  have p12 := (hYB 12 _ rfl).c
  clear hYB HB4 HZ4 HD4 HG4
  go_wp2
  (try simp only [Exit.inBlock, Exit.then])
  refine bodyPost_ret (v := .agg #[.int .i64 (x : Int), .string (tx s), .int .i64 nu, .string ⟨#[]⟩, .string ⟨#[]⟩, .int .i64 0, .int .i64 0, .int .i64 0, .int .i64 0, .int .i64 0, .slice none 0 0, .int .i64 0, .int .i64 0]) (by simp [results, Try.results25, go_sem, p0, p1, p2, p3, p4, p5, p6, p7, p8, p9, p10, p11, p12]) rfl ?_
  exact ⟨_, rfl, num_nil _ _, (by intro a n c e; simp at e), HYD.out, HYG.out⟩
end Go.Proofs.Ytnoedkebmpfagaa
