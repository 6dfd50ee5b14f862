import Derived.Test.YtfibbjngllelbaaGreatPoq
namespace Go.Proofs.YtfibbjngllelbaaGreat
open Go.RowKit Go.Proofs.YtfibbjngllelbaaGreat.Ds

set_option maxHeartbeats 1000000 in
theorem pnamed_any (s : ByteArray) (hs : s.size ≤ 9223372036854775807) (w : World) (r : Bool) (hr : namB s.data.toList = r) : Calls Tryz.prog 33 #[.string s] w fun e w' => e = .returned (.bool r) ∧ Below w.heap.size w w' := by
  have HC : Hid (Cols (w.alloc (.cells #[.string s, .int .i64 1] 88)) (w.heap.size + 1) (.slice (some ⟨w.heap.size, 0, none⟩) 1 1) [(s, 1)]) := ⟨_, 1, rfl, Nat.le_refl _, by simp, by simpa using hs, fun _ => ⟨w.heap.size, 0, rfl, by omega, fun i x hi => by
    obtain ⟨rfl, rfl⟩ : i = 0 ∧ x = (s, 1) := by
      cases i with
      | zero => simpa using hi.symm
      | succ i => simp at hi
    exact ⟨nc _ _ 0 _ rfl rfl, nc _ _ 1 _ rfl rfl⟩⟩⟩
  have hE : colE [(s, 1)] = if r then 0 else 2 := by
    unfold colE
    rw [if_neg (by simp)]
    have : colL [] [(s, 1)] = if r then 0 else 2 := by
      cases r <;> simp [colL, hr]
    rw [this]
    cases r <;> simp [prd]
  cases r with
  | true =>
    have kc := fun W h => columns_any (w.heap.size + 1) (.slice (some ⟨w.heap.size, 0, none⟩) 1 1) [(s, 1)] W h (er := 0)
    go_enter Tryz.func33, Tryz.ntmps33
    go_wp2_with fail
    refine (kc _ (by simp) HC.out (by simpa using hE)).mono ?_
    rintro e w1 ⟨rfl, hb1⟩
    go_wp2_with fail
    go_ret
    exact ⟨rfl, bt (ba _ _) hb1⟩
  | false =>
    have kc := fun W h => columns_any (w.heap.size + 1) (.slice (some ⟨w.heap.size, 0, none⟩) 1 1) [(s, 1)] W h (er := 2)
    go_enter Tryz.func33, Tryz.ntmps33
    go_wp2_with fail
    refine (kc _ (by simp) HC.out (by simpa using hE)).mono ?_
    rintro e w1 ⟨rfl, hb1⟩
    go_wp2_with fail
    go_ret
    exact ⟨rfl, bt (ba _ _) hb1⟩

/-- an entry's value -/
abbrev ev (e : En) : Value := .agg #[.int .i64 e.1, .string e.2.1, .int .i64 e.2.2.1, .int .i64 e.2.2.2.1, .int .i64 e.2.2.2.2]

set_option maxHeartbeats 1000000 in
set_option maxRecDepth 100000 in
theorem written_any (e : En) (hs : e.2.1.size ≤ 281474976710656) (w : World) : Calls Tryz.prog 24 #[ev e] w fun x w' => x = .returned (ev (nrm e)) ∧ Below w.heap.size w w' := by
  obtain ⟨d, nm, p, u, v⟩ := e
  simp only at hs
  have kc := fun W => cloneS_any nm W hs
  by_cases h3 : d = 3
  · subst h3
    rw [show nrm (3, nm, p, u, v) = (3, nm, p, u, v) from rfl]
    have V0 : Hid (FivB ((w.alloc (.cells #[.int .i64 3, .string nm, .int .i64 p, .int .i64 u, .int .i64 v] 45)).alloc (.cells #[.int .i64 0, .string ⟨#[]⟩, .int .i64 0, .int .i64 0, .int .i64 0] 45)) w.heap.size (.int .i64 3) (.string nm) (.int .i64 p) (.int .i64 u) (.int .i64 v)) := (FivB.new _ _ _ _ _ _ 45 _ rfl).below (ba _ _)
    have V1 : Hid (FivB ((w.alloc (.cells #[.int .i64 3, .string nm, .int .i64 p, .int .i64 u, .int .i64 v] 45)).alloc (.cells #[.int .i64 0, .string ⟨#[]⟩, .int .i64 0, .int .i64 0, .int .i64 0] 45)) (w.heap.size + 1) (.int .i64 0) (.string ⟨#[]⟩) (.int .i64 0) (.int .i64 0) (.int .i64 0)) := FivB.new _ _ _ _ _ _ 45 _ (by simp)
    go_enter Tryz.func24, Tryz.ntmps24
    go_wp2_with fail
    refine (kc _).mono ?_
    rintro e1 w1 ⟨rfl, hb1⟩
    obtain ⟨c0, c1, c2, c3, c4, f0, f1, f2, f3, f4, hl0⟩ := V0.out.below hb1
    obtain ⟨d0, d1, d2, d3, d4, g0, g1, g2, g3, g4, hl1⟩ := V1.out.below hb1
    go_wp2_with fail
    exact bodyPost_ret (v := ev (3, nm, p, u, v)) (by simp [results, Tryz.results24, go_sem, d0, d1, d2, d3, d4]) rfl ⟨rfl, bs5 (bs (bt (bal (ba _ _) _) hb1) (Nat.le_refl _) _) (by omega) _ _ _ _ _⟩
  · rw [show nrm (d, nm, p, u, v) = (d, nm, 0, u, v) from by simp [nrm, h3]]
    have hq : (d != 3) = true := by simpa using h3
    have V0 : Hid (FivB ((w.alloc (.cells #[.int .i64 d, .string nm, .int .i64 0, .int .i64 u, .int .i64 v] 45)).alloc (.cells #[.int .i64 0, .string ⟨#[]⟩, .int .i64 0, .int .i64 0, .int .i64 0] 45)) w.heap.size (.int .i64 d) (.string nm) (.int .i64 0) (.int .i64 u) (.int .i64 v)) := (FivB.new _ _ _ _ _ _ 45 _ rfl).below (ba _ _)
    have V1 : Hid (FivB ((w.alloc (.cells #[.int .i64 d, .string nm, .int .i64 0, .int .i64 u, .int .i64 v] 45)).alloc (.cells #[.int .i64 0, .string ⟨#[]⟩, .int .i64 0, .int .i64 0, .int .i64 0] 45)) (w.heap.size + 1) (.int .i64 0) (.string ⟨#[]⟩) (.int .i64 0) (.int .i64 0) (.int .i64 0)) := FivB.new _ _ _ _ _ _ 45 _ (by simp)
    go_enter Tryz.func24, Tryz.ntmps24
    go_wp2_with fail
    refine (kc _).mono ?_
    rintro e1 w1 ⟨rfl, hb1⟩
    obtain ⟨c0, c1, c2, c3, c4, f0, f1, f2, f3, f4, hl0⟩ := V0.out.below hb1
    obtain ⟨d0, d1, d2, d3, d4, g0, g1, g2, g3, g4, hl1⟩ := V1.out.below hb1
    go_wp2_with fail
    exact bodyPost_ret (v := ev (d, nm, 0, u, v)) (by simp [results, Tryz.results24, go_sem, d0, d1, d2, d3, d4]) rfl ⟨rfl, bs5 (bs (bt (bal (ba _ _) _) hb1) (Nat.le_refl _) _) (by omega) _ _ _ _ _⟩

/-- wrong -/
theorem bad_is (e : En) : (¬ (e.1 = 1 ∨ e.1 = 2 ∨ e.1 = 3) ∧ badT e = 1) ∨ ((e.1 = 1 ∨ e.1 = 2 ∨ e.1 = 3) ∧ ((namB e.2.1.data.toList = false ∧ badT e = 2) ∨ (namB e.2.1.data.toList = true ∧ Rt.rightB e.2.2.2.1 e.2.2.2.2 = false ∧ badT e = 2) ∨
    (namB e.2.1.data.toList = true ∧ Rt.rightB e.2.2.2.1 e.2.2.2.2 = true ∧ e.2.2.2.1 < e.2.2.2.2 ∧ badT e = 3) ∨ (namB e.2.1.data.toList = true ∧ Rt.rightB e.2.2.2.1 e.2.2.2.2 = true ∧ ¬ e.2.2.2.1 < e.2.2.2.2 ∧ badT e = 0))) := by
  unfold badT
  by_cases c : e.1 < 1 ∨ 3 < e.1
  · left; exact ⟨by omega, by rw [if_pos c]⟩
  right
  rw [if_neg c]
  refine ⟨by omega, ?_⟩
  cases hn : namB e.2.1.data.toList with
  | false => left; simp
  | true =>
    right
    cases hr : Rt.rightB e.2.2.2.1 e.2.2.2.2 with
    | false => left; simp
    | true =>
      right
      by_cases c2 : e.2.2.2.1 < e.2.2.2.2
      · left; simp [c2]
      · right; simp [c2]
set_option maxHeartbeats 1000000 in
set_option maxRecDepth 100000 in
theorem wrong_any (e : En) (hs : e.2.1.size ≤ 9223372036854775807) (w : World) (er : Int) (hr : badT e = er) : Calls Tryz.prog 22 #[ev e] w fun x w' => x = .returned (.int .i64 er) ∧ Below w.heap.size w w' := by
  obtain ⟨d, nm, p, u, v⟩ := e
  have hb := bad_is (d, nm, p, u, v)
  rw [hr] at hb
  clear hr
  simp only at hb hs
  rcases hb with ⟨h0, rfl⟩ | ⟨h0, hb⟩
  · have q1 : (d != 1) = true := by simp; omega
    have q2 : (d != 2) = true := by simp; omega
    have q3 : (d != 3) = true := by simp; omega
    go_enter Tryz.func22, Tryz.ntmps22
    go_wp2
    go_ret
    exact ⟨rfl, ba _ _⟩
  · rcases hb with ⟨h1, rfl⟩ | ⟨h1, h2, rfl⟩ | ⟨h1, h2, h3, rfl⟩ | ⟨h1, h2, h3, rfl⟩
    · have kn := fun W => pnamed_any nm hs W false h1
      clear h1
      rcases h0 with rfl | rfl | rfl
      all_goals
        go_enter Tryz.func22, Tryz.ntmps22
        go_wp2_with fail
        refine (kn _).mono ?_
        rintro e1 w1 ⟨rfl, hb1⟩
        go_wp2_with fail
        go_ret
        exact ⟨rfl, bt (ba _ _) hb1⟩
    · have kn := fun W => pnamed_any nm hs W true h1
      have kr := fun W => right_any u v false h2 W
      clear h1 h2
      have V0 : Hid (FivB (w.alloc (.cells #[.int .i64 d, .string nm, .int .i64 p, .int .i64 u, .int .i64 v] 45)) w.heap.size (.int .i64 d) (.string nm) (.int .i64 p) (.int .i64 u) (.int .i64 v)) := FivB.new _ _ _ _ _ _ 45 _ rfl
      rcases h0 with rfl | rfl | rfl
      all_goals
        go_enter Tryz.func22, Tryz.ntmps22
        go_wp2_with fail
        refine (kn _).mono ?_
        rintro e1 w1 ⟨rfl, hb1⟩
        obtain ⟨c0, c1, c2, c3, c4, f0, f1, f2, f3, f4, hl0⟩ := V0.out.below hb1
        go_wp2_with fail
        refine (kr _).mono ?_
        rintro e2 w2 ⟨rfl, hb2⟩
        go_wp2_with fail
        go_ret
        exact ⟨rfl, bt (bt (ba _ _) hb1) hb2⟩
    · have kn := fun W => pnamed_any nm hs W true h1
      have kr := fun W => right_any u v true h2 W
      clear h1 h2
      have V0 : Hid (FivB (w.alloc (.cells #[.int .i64 d, .string nm, .int .i64 p, .int .i64 u, .int .i64 v] 45)) w.heap.size (.int .i64 d) (.string nm) (.int .i64 p) (.int .i64 u) (.int .i64 v)) := FivB.new _ _ _ _ _ _ 45 _ rfl
      rcases h0 with rfl | rfl | rfl
      all_goals
        go_enter Tryz.func22, Tryz.ntmps22
        go_wp2_with fail
        refine (kn _).mono ?_
        rintro e1 w1 ⟨rfl, hb1⟩
        obtain ⟨c0, c1, c2, c3, c4, f0, f1, f2, f3, f4, hl0⟩ := V0.out.below hb1
        go_wp2_with fail
        refine (kr _).mono ?_
        rintro e2 w2 ⟨rfl, hb2⟩
        obtain ⟨d0, d1, d2, d3, d4, g0, g1, g2, g3, g4, hl1⟩ := (V0.out.below hb1).below hb2
        go_wp2_with fail
        go_ret
        exact ⟨rfl, bt (bt (ba _ _) hb1) hb2⟩
    · have kn := fun W => pnamed_any nm hs W true h1
      have kr := fun W => right_any u v true h2 W
      clear h1 h2
      have V0 : Hid (FivB (w.alloc (.cells #[.int .i64 d, .string nm, .int .i64 p, .int .i64 u, .int .i64 v] 45)) w.heap.size (.int .i64 d) (.string nm) (.int .i64 p) (.int .i64 u) (.int .i64 v)) := FivB.new _ _ _ _ _ _ 45 _ rfl
      rcases h0 with rfl | rfl | rfl
      all_goals
        go_enter Tryz.func22, Tryz.ntmps22
        go_wp2_with fail
        refine (kn _).mono ?_
        rintro e1 w1 ⟨rfl, hb1⟩
        obtain ⟨c0, c1, c2, c3, c4, f0, f1, f2, f3, f4, hl0⟩ := V0.out.below hb1
        go_wp2_with fail
        refine (kr _).mono ?_
        rintro e2 w2 ⟨rfl, hb2⟩
        obtain ⟨d0, d1, d2, d3, d4, g0, g1, g2, g3, g4, hl1⟩ := (V0.out.below hb1).below hb2
        go_wp2_with fail
        go_ret
        exact ⟨rfl, bt (bt (ba _ _) hb1) hb2⟩
end Go.Proofs.YtfibbjngllelbaaGreat
