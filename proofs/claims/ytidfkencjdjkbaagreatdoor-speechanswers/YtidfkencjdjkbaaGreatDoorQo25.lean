import Derived.Test.YtidfkencjdjkbaaGreatDoorQo19
/-
  PACKAGE speech, Print: what a kind of question may have.
-/
namespace Go.Proofs.YtidfkencjdjkbaaGreatDoor
open Go.RowKit Sp

def ShP (w : World) (r : Option Shp) (e : Ending) (w' : World) : Prop := (match r with | some s => e = .returned (shV s) | none => e = .panicked (chn 2 0)) ∧ Below w.heap.size w w'
set_option maxHeartbeats 4000000 in
set_option maxRecDepth 100000 in
theorem shaped_any (kd : Int) (w : World) (r : Option Shp) (hr : shpT kd = r) : Calls Tryz.prog 32 #[.int .i64 kd] w (ShP w r) := by
  obtain ⟨W0, hW0⟩ : ∃ W0, w.alloc (.cells #[.int .i64 0, .bool false, .int .i64 0, .int .i64 0, .int .i64 0, .int .i64 0] 77) = W0 := ⟨_, rfl⟩
  have hb0 : Below w.heap.size w W0 := hW0 ▸ ba _ _
  have HB0 : Hid (Bx W0 w.heap.size [.int .i64 0, .bool false, .int .i64 0, .int .i64 0, .int .i64 0, .int .i64 0]) := hW0 ▸ Bx.new w [.int .i64 0, .bool false, .int .i64 0, .int .i64 0, .int .i64 0, .int .i64 0] 77 rfl
  have HG0 : Hid (w.grownBy W0 none) := gb_none hb0
  have HBL0 : Hid (Below w.heap.size w W0) := hb0
  have z0 := (HB0.out 0 _ rfl).c
  have z1 := (HB0.out 1 _ rfl).c
  have z2 := (HB0.out 2 _ rfl).c
  have z3 := (HB0.out 3 _ rfl).c
  have z4 := (HB0.out 4 _ rfl).c
  have z5 := (HB0.out 5 _ rfl).c
  have y0 := (HB0.out 0 _ rfl).f
  have y1 := (HB0.out 1 _ rfl).f
  have y2 := (HB0.out 2 _ rfl).f
  have y3 := (HB0.out 3 _ rfl).f
  have y4 := (HB0.out 4 _ rfl).f
  have y5 := (HB0.out 5 _ rfl).f
  clear hb0
  by_cases h1 : kd = 1
  · subst h1
    obtain rfl : some (0, false, 0, 0, 0, 64) = r := by rw [← hr]; rfl
    obtain ⟨W7, hW7⟩ : ∃ W7, set6 W0 w.heap.size (.int .i64 (0)) (.bool false) (.int .i64 (0)) (.int .i64 (0)) (.int .i64 (0)) (.int .i64 (64)) = W7 := ⟨_, rfl⟩
    have HB7 : Hid (Bx W7 w.heap.size [(.int .i64 (0)), (.bool false), (.int .i64 (0)), (.int .i64 (0)), (.int .i64 (0)), (.int .i64 (64))]) := hW7 ▸ set6_bx HB0.out _ _ _ _ _ _
    have HG7 : Hid (w.grownBy W7 none) := hW7 ▸ set6_gb HG0.out (Nat.le_refl _) _ _ _ _ _ _
    clear hr
    unfold set6 at hW7
    go_enter Tryz.func32, Tryz.ntmps32
    go_wp2
    have x0 := (HB7.out 0 _ rfl).c
    have x1 := (HB7.out 1 _ rfl).c
    have x2 := (HB7.out 2 _ rfl).c
    have x3 := (HB7.out 3 _ rfl).c
    have x4 := (HB7.out 4 _ rfl).c
    have x5 := (HB7.out 5 _ rfl).c
    exact bodyPost_ret (v := .agg #[(.int .i64 (0)), (.bool false), (.int .i64 (0)), (.int .i64 (0)), (.int .i64 (0)), (.int .i64 (64))]) (by simp [results, Tryz.results32, go_sem, x0, x1, x2, x3, x4, x5]) rfl ⟨rfl, ⟨HG7.out.os, HG7.out.tape, HG7.out.output, HG7.out.size, fun k hk => HG7.out.block k hk (by simp)⟩⟩
  by_cases h2 : kd = 2
  · subst h2
    obtain rfl : some (0, true, -1048576, 1048576, 1048576, 64) = r := by rw [← hr]; rfl
    obtain ⟨W7, hW7⟩ : ∃ W7, set6 W0 w.heap.size (.int .i64 (0)) (.bool true) (.int .i64 (-1048576)) (.int .i64 (1048576)) (.int .i64 (1048576)) (.int .i64 (64)) = W7 := ⟨_, rfl⟩
    have HB7 : Hid (Bx W7 w.heap.size [(.int .i64 (0)), (.bool true), (.int .i64 (-1048576)), (.int .i64 (1048576)), (.int .i64 (1048576)), (.int .i64 (64))]) := hW7 ▸ set6_bx HB0.out _ _ _ _ _ _
    have HG7 : Hid (w.grownBy W7 none) := hW7 ▸ set6_gb HG0.out (Nat.le_refl _) _ _ _ _ _ _
    clear hr
    unfold set6 at hW7
    go_enter Tryz.func32, Tryz.ntmps32
    go_wp2
    have x0 := (HB7.out 0 _ rfl).c
    have x1 := (HB7.out 1 _ rfl).c
    have x2 := (HB7.out 2 _ rfl).c
    have x3 := (HB7.out 3 _ rfl).c
    have x4 := (HB7.out 4 _ rfl).c
    have x5 := (HB7.out 5 _ rfl).c
    exact bodyPost_ret (v := .agg #[(.int .i64 (0)), (.bool true), (.int .i64 (-1048576)), (.int .i64 (1048576)), (.int .i64 (1048576)), (.int .i64 (64))]) (by simp [results, Tryz.results32, go_sem, x0, x1, x2, x3, x4, x5]) rfl ⟨rfl, ⟨HG7.out.os, HG7.out.tape, HG7.out.output, HG7.out.size, fun k hk => HG7.out.block k hk (by simp)⟩⟩
  by_cases h3 : kd = 3
  · subst h3
    obtain rfl : some (0, true, 0, 0, 0, 64) = r := by rw [← hr]; rfl
    obtain ⟨W7, hW7⟩ : ∃ W7, set6 W0 w.heap.size (.int .i64 (0)) (.bool true) (.int .i64 (0)) (.int .i64 (0)) (.int .i64 (0)) (.int .i64 (64)) = W7 := ⟨_, rfl⟩
    have HB7 : Hid (Bx W7 w.heap.size [(.int .i64 (0)), (.bool true), (.int .i64 (0)), (.int .i64 (0)), (.int .i64 (0)), (.int .i64 (64))]) := hW7 ▸ set6_bx HB0.out _ _ _ _ _ _
    have HG7 : Hid (w.grownBy W7 none) := hW7 ▸ set6_gb HG0.out (Nat.le_refl _) _ _ _ _ _ _
    clear hr
    unfold set6 at hW7
    go_enter Tryz.func32, Tryz.ntmps32
    go_wp2
    have x0 := (HB7.out 0 _ rfl).c
    have x1 := (HB7.out 1 _ rfl).c
    have x2 := (HB7.out 2 _ rfl).c
    have x3 := (HB7.out 3 _ rfl).c
    have x4 := (HB7.out 4 _ rfl).c
    have x5 := (HB7.out 5 _ rfl).c
    exact bodyPost_ret (v := .agg #[(.int .i64 (0)), (.bool true), (.int .i64 (0)), (.int .i64 (0)), (.int .i64 (0)), (.int .i64 (64))]) (by simp [results, Tryz.results32, go_sem, x0, x1, x2, x3, x4, x5]) rfl ⟨rfl, ⟨HG7.out.os, HG7.out.tape, HG7.out.output, HG7.out.size, fun k hk => HG7.out.block k hk (by simp)⟩⟩
  by_cases h4 : kd = 4
  · subst h4
    obtain rfl : some (2, false, 0, 0, 0, 0) = r := by rw [← hr]; rfl
    obtain ⟨W7, hW7⟩ : ∃ W7, set6 W0 w.heap.size (.int .i64 (2)) (.bool false) (.int .i64 (0)) (.int .i64 (0)) (.int .i64 (0)) (.int .i64 (0)) = W7 := ⟨_, rfl⟩
    have HB7 : Hid (Bx W7 w.heap.size [(.int .i64 (2)), (.bool false), (.int .i64 (0)), (.int .i64 (0)), (.int .i64 (0)), (.int .i64 (0))]) := hW7 ▸ set6_bx HB0.out _ _ _ _ _ _
    have HG7 : Hid (w.grownBy W7 none) := hW7 ▸ set6_gb HG0.out (Nat.le_refl _) _ _ _ _ _ _
    clear hr
    unfold set6 at hW7
    go_enter Tryz.func32, Tryz.ntmps32
    go_wp2
    have x0 := (HB7.out 0 _ rfl).c
    have x1 := (HB7.out 1 _ rfl).c
    have x2 := (HB7.out 2 _ rfl).c
    have x3 := (HB7.out 3 _ rfl).c
    have x4 := (HB7.out 4 _ rfl).c
    have x5 := (HB7.out 5 _ rfl).c
    exact bodyPost_ret (v := .agg #[(.int .i64 (2)), (.bool false), (.int .i64 (0)), (.int .i64 (0)), (.int .i64 (0)), (.int .i64 (0))]) (by simp [results, Tryz.results32, go_sem, x0, x1, x2, x3, x4, x5]) rfl ⟨rfl, ⟨HG7.out.os, HG7.out.tape, HG7.out.output, HG7.out.size, fun k hk => HG7.out.block k hk (by simp)⟩⟩
  by_cases h5 : kd = 5
  · subst h5
    obtain rfl : some (2, false, 0, 0, 0, 0) = r := by rw [← hr]; rfl
    obtain ⟨W7, hW7⟩ : ∃ W7, set6 W0 w.heap.size (.int .i64 (2)) (.bool false) (.int .i64 (0)) (.int .i64 (0)) (.int .i64 (0)) (.int .i64 (0)) = W7 := ⟨_, rfl⟩
    have HB7 : Hid (Bx W7 w.heap.size [(.int .i64 (2)), (.bool false), (.int .i64 (0)), (.int .i64 (0)), (.int .i64 (0)), (.int .i64 (0))]) := hW7 ▸ set6_bx HB0.out _ _ _ _ _ _
    have HG7 : Hid (w.grownBy W7 none) := hW7 ▸ set6_gb HG0.out (Nat.le_refl _) _ _ _ _ _ _
    clear hr
    unfold set6 at hW7
    go_enter Tryz.func32, Tryz.ntmps32
    go_wp2
    have x0 := (HB7.out 0 _ rfl).c
    have x1 := (HB7.out 1 _ rfl).c
    have x2 := (HB7.out 2 _ rfl).c
    have x3 := (HB7.out 3 _ rfl).c
    have x4 := (HB7.out 4 _ rfl).c
    have x5 := (HB7.out 5 _ rfl).c
    exact bodyPost_ret (v := .agg #[(.int .i64 (2)), (.bool false), (.int .i64 (0)), (.int .i64 (0)), (.int .i64 (0)), (.int .i64 (0))]) (by simp [results, Tryz.results32, go_sem, x0, x1, x2, x3, x4, x5]) rfl ⟨rfl, ⟨HG7.out.os, HG7.out.tape, HG7.out.output, HG7.out.size, fun k hk => HG7.out.block k hk (by simp)⟩⟩
  by_cases h7 : kd = 7
  · subst h7
    obtain rfl : some (2, false, 0, 0, 0, 0) = r := by rw [← hr]; rfl
    obtain ⟨W7, hW7⟩ : ∃ W7, set6 W0 w.heap.size (.int .i64 (2)) (.bool false) (.int .i64 (0)) (.int .i64 (0)) (.int .i64 (0)) (.int .i64 (0)) = W7 := ⟨_, rfl⟩
    have HB7 : Hid (Bx W7 w.heap.size [(.int .i64 (2)), (.bool false), (.int .i64 (0)), (.int .i64 (0)), (.int .i64 (0)), (.int .i64 (0))]) := hW7 ▸ set6_bx HB0.out _ _ _ _ _ _
    have HG7 : Hid (w.grownBy W7 none) := hW7 ▸ set6_gb HG0.out (Nat.le_refl _) _ _ _ _ _ _
    clear hr
    unfold set6 at hW7
    go_enter Tryz.func32, Tryz.ntmps32
    go_wp2
    have x0 := (HB7.out 0 _ rfl).c
    have x1 := (HB7.out 1 _ rfl).c
    have x2 := (HB7.out 2 _ rfl).c
    have x3 := (HB7.out 3 _ rfl).c
    have x4 := (HB7.out 4 _ rfl).c
    have x5 := (HB7.out 5 _ rfl).c
    exact bodyPost_ret (v := .agg #[(.int .i64 (2)), (.bool false), (.int .i64 (0)), (.int .i64 (0)), (.int .i64 (0)), (.int .i64 (0))]) (by simp [results, Tryz.results32, go_sem, x0, x1, x2, x3, x4, x5]) rfl ⟨rfl, ⟨HG7.out.os, HG7.out.tape, HG7.out.output, HG7.out.size, fun k hk => HG7.out.block k hk (by simp)⟩⟩
  by_cases h6 : kd = 6
  · subst h6
    obtain rfl : some (1, false, -1048576, 1048576, 0, 0) = r := by rw [← hr]; rfl
    obtain ⟨W7, hW7⟩ : ∃ W7, set6 W0 w.heap.size (.int .i64 (1)) (.bool false) (.int .i64 (-1048576)) (.int .i64 (1048576)) (.int .i64 (0)) (.int .i64 (0)) = W7 := ⟨_, rfl⟩
    have HB7 : Hid (Bx W7 w.heap.size [(.int .i64 (1)), (.bool false), (.int .i64 (-1048576)), (.int .i64 (1048576)), (.int .i64 (0)), (.int .i64 (0))]) := hW7 ▸ set6_bx HB0.out _ _ _ _ _ _
    have HG7 : Hid (w.grownBy W7 none) := hW7 ▸ set6_gb HG0.out (Nat.le_refl _) _ _ _ _ _ _
    clear hr
    unfold set6 at hW7
    go_enter Tryz.func32, Tryz.ntmps32
    go_wp2
    have x0 := (HB7.out 0 _ rfl).c
    have x1 := (HB7.out 1 _ rfl).c
    have x2 := (HB7.out 2 _ rfl).c
    have x3 := (HB7.out 3 _ rfl).c
    have x4 := (HB7.out 4 _ rfl).c
    have x5 := (HB7.out 5 _ rfl).c
    exact bodyPost_ret (v := .agg #[(.int .i64 (1)), (.bool false), (.int .i64 (-1048576)), (.int .i64 (1048576)), (.int .i64 (0)), (.int .i64 (0))]) (by simp [results, Tryz.results32, go_sem, x0, x1, x2, x3, x4, x5]) rfl ⟨rfl, ⟨HG7.out.os, HG7.out.tape, HG7.out.output, HG7.out.size, fun k hk => HG7.out.block k hk (by simp)⟩⟩
  by_cases h8 : kd = 8
  · subst h8
    obtain rfl : some (1, false, 0, 0, 0, 0) = r := by rw [← hr]; rfl
    obtain ⟨W7, hW7⟩ : ∃ W7, set6 W0 w.heap.size (.int .i64 (1)) (.bool false) (.int .i64 (0)) (.int .i64 (0)) (.int .i64 (0)) (.int .i64 (0)) = W7 := ⟨_, rfl⟩
    have HB7 : Hid (Bx W7 w.heap.size [(.int .i64 (1)), (.bool false), (.int .i64 (0)), (.int .i64 (0)), (.int .i64 (0)), (.int .i64 (0))]) := hW7 ▸ set6_bx HB0.out _ _ _ _ _ _
    have HG7 : Hid (w.grownBy W7 none) := hW7 ▸ set6_gb HG0.out (Nat.le_refl _) _ _ _ _ _ _
    clear hr
    unfold set6 at hW7
    go_enter Tryz.func32, Tryz.ntmps32
    go_wp2
    have x0 := (HB7.out 0 _ rfl).c
    have x1 := (HB7.out 1 _ rfl).c
    have x2 := (HB7.out 2 _ rfl).c
    have x3 := (HB7.out 3 _ rfl).c
    have x4 := (HB7.out 4 _ rfl).c
    have x5 := (HB7.out 5 _ rfl).c
    exact bodyPost_ret (v := .agg #[(.int .i64 (1)), (.bool false), (.int .i64 (0)), (.int .i64 (0)), (.int .i64 (0)), (.int .i64 (0))]) (by simp [results, Tryz.results32, go_sem, x0, x1, x2, x3, x4, x5]) rfl ⟨rfl, ⟨HG7.out.os, HG7.out.tape, HG7.out.output, HG7.out.size, fun k hk => HG7.out.block k hk (by simp)⟩⟩
  by_cases h9 : kd = 9
  · subst h9
    obtain rfl : some (1, false, 0, 1048576, 0, 0) = r := by rw [← hr]; rfl
    obtain ⟨W7, hW7⟩ : ∃ W7, set6 W0 w.heap.size (.int .i64 (1)) (.bool false) (.int .i64 (0)) (.int .i64 (1048576)) (.int .i64 (0)) (.int .i64 (0)) = W7 := ⟨_, rfl⟩
    have HB7 : Hid (Bx W7 w.heap.size [(.int .i64 (1)), (.bool false), (.int .i64 (0)), (.int .i64 (1048576)), (.int .i64 (0)), (.int .i64 (0))]) := hW7 ▸ set6_bx HB0.out _ _ _ _ _ _
    have HG7 : Hid (w.grownBy W7 none) := hW7 ▸ set6_gb HG0.out (Nat.le_refl _) _ _ _ _ _ _
    clear hr
    unfold set6 at hW7
    go_enter Tryz.func32, Tryz.ntmps32
    go_wp2
    have x0 := (HB7.out 0 _ rfl).c
    have x1 := (HB7.out 1 _ rfl).c
    have x2 := (HB7.out 2 _ rfl).c
    have x3 := (HB7.out 3 _ rfl).c
    have x4 := (HB7.out 4 _ rfl).c
    have x5 := (HB7.out 5 _ rfl).c
    exact bodyPost_ret (v := .agg #[(.int .i64 (1)), (.bool false), (.int .i64 (0)), (.int .i64 (1048576)), (.int .i64 (0)), (.int .i64 (0))]) (by simp [results, Tryz.results32, go_sem, x0, x1, x2, x3, x4, x5]) rfl ⟨rfl, ⟨HG7.out.os, HG7.out.tape, HG7.out.output, HG7.out.size, fun k hk => HG7.out.block k hk (by simp)⟩⟩
  by_cases h10 : kd = 10
  · subst h10
    obtain rfl : some (1, false, -1048576, 1048576, 1048576, 0) = r := by rw [← hr]; rfl
    obtain ⟨W7, hW7⟩ : ∃ W7, set6 W0 w.heap.size (.int .i64 (1)) (.bool false) (.int .i64 (-1048576)) (.int .i64 (1048576)) (.int .i64 (1048576)) (.int .i64 (0)) = W7 := ⟨_, rfl⟩
    have HB7 : Hid (Bx W7 w.heap.size [(.int .i64 (1)), (.bool false), (.int .i64 (-1048576)), (.int .i64 (1048576)), (.int .i64 (1048576)), (.int .i64 (0))]) := hW7 ▸ set6_bx HB0.out _ _ _ _ _ _
    have HG7 : Hid (w.grownBy W7 none) := hW7 ▸ set6_gb HG0.out (Nat.le_refl _) _ _ _ _ _ _
    clear hr
    unfold set6 at hW7
    go_enter Tryz.func32, Tryz.ntmps32
    go_wp2
    have x0 := (HB7.out 0 _ rfl).c
    have x1 := (HB7.out 1 _ rfl).c
    have x2 := (HB7.out 2 _ rfl).c
    have x3 := (HB7.out 3 _ rfl).c
    have x4 := (HB7.out 4 _ rfl).c
    have x5 := (HB7.out 5 _ rfl).c
    exact bodyPost_ret (v := .agg #[(.int .i64 (1)), (.bool false), (.int .i64 (-1048576)), (.int .i64 (1048576)), (.int .i64 (1048576)), (.int .i64 (0))]) (by simp [results, Tryz.results32, go_sem, x0, x1, x2, x3, x4, x5]) rfl ⟨rfl, ⟨HG7.out.os, HG7.out.tape, HG7.out.output, HG7.out.size, fun k hk => HG7.out.block k hk (by simp)⟩⟩
  obtain rfl : none = r := by rw [← hr]; simp [shpT, h1, h2, h3, h4, h5, h7, h6, h8, h9, h10]
  have e1 : (kd == 1) = false := by simpa using h1
  have e2 : (kd == 2) = false := by simpa using h2
  have e3 : (kd == 3) = false := by simpa using h3
  have e4 : (kd == 4) = false := by simpa using h4
  have e5 : (kd == 5) = false := by simpa using h5
  have e7 : (kd == 7) = false := by simpa using h7
  have e6 : (kd == 6) = false := by simpa using h6
  have e8 : (kd == 8) = false := by simpa using h8
  have e9 : (kd == 9) = false := by simpa using h9
  have e10 : (kd == 10) = false := by simpa using h10
  clear hr
  go_enter Tryz.func32, Tryz.ntmps32
  go_wp2
  exact ⟨rfl, rfl, HBL0.out⟩
end Go.Proofs.YtidfkencjdjkbaaGreatDoor
