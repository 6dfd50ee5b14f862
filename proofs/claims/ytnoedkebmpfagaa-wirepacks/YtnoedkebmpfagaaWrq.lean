import Derived.Test.YtnoedkebmpfagaaWrp
/-
  The reference's Pack.
-/
namespace Go.Proofs.Ytnoedkebmpfagaa
open Go.RowKit Wc

theorem tnT_len (s : By) (h : s.length ≤ 9007199254740992) : (tnT s).length ≤ 9007199254741002 := by
  have := cntT_len s.length (by omega)
  unfold tnT; rw [List.length_append]; omega
theorem conv3 (N : Nat) (w1 : World) (x : Int) (n : Nat) (hn : n < 256) (hx : x = (n : Int)) (h : w1.cell? ⟨N, 0, none⟩ = some (.int .u8 x)) : (convert 47 9 (.slice (some ⟨N, 0, none⟩) 1 1)).run Try.prog w1 = .ok (.string (tx [UInt8.ofNat n])) w1 := by
  subst hx
  refine run_convert_bytes_back (P := Try.prog) _ 47 9 5 ⟨N, 0, none⟩ 1 [UInt8.ofNat n] Try.underlying47 Try.underlying5 Try.underlying9 (fun j hj => ?_)
  have hj0 : j = 0 := by simp at hj; exact hj
  subst hj0
  rw [Addr.add_lit, Nat.zero_add, h]
  show some (Value.int .u8 (n : Int)) = some (Value.int .u8 (((UInt8.ofNat n).toNat : Nat) : Int))
  rw [u8c hn]
set_option maxHeartbeats 4000000 in
set_option maxRecDepth 100000 in
theorem refpack_ask (ss pu te : By) (nu ru rd lo hg er lu ld : Int) (vs : List Int) (av : Option Addr) (cv : Nat) (w : World) (hs : ss.length ≤ 9007199254740992) (hp : pu.length ≤ 9007199254740992) (ht : te.length ≤ 9007199254740992) (h1 : I64 nu) (h2 : I64 ru) (h3 : I64 rd) (h4 : I64 lo) (h5 : I64 hg) (hF : formB ⟨1, ss, nu, pu, te, ru, rd, lo, hg, er, vs, lu, ld⟩ = true) (s : By) (e' : Int) (hP : packT ⟨1, ss, nu, pu, te, ru, rd, lo, hg, er, vs, lu, ld⟩ = (s, e')) :
    Calls Try.prog 8 #[mv ⟨1, ss, nu, pu, te, ru, rd, lo, hg, er, vs, lu, ld⟩ (.slice av vs.length cv)] w fun e w' => e = .returned (.tuple #[.string (tx s), .int .i64 e']) ∧ Below w.heap.size w w' := by
  have kc := fun V => clean_any ⟨1, ss, nu, pu, te, ru, rd, lo, hg, er, vs, lu, ld⟩ av cv V
  rw [hF] at kc
  have HF : Hid (vs.length = 0) := by
    have h := hF
    simp [formB] at h
    simp [Hid, h.2.1]
  have kt1 := fun V => reftext_any ss hs V
  have kn1 := fun V => refnumber_any nu h1 V
  have kt2 := fun V => reftext_any pu hp V
  have kt3 := fun V => reftext_any te ht V
  have kr := fun V => refratio_any ru rd h2 h3 V
  have kn2 := fun V => refnumber_any lo h4 V
  have kn3 := fun V => refnumber_any hg h5 V
  obtain ⟨L, hL⟩ : ∃ L, vs.length = L := ⟨_, rfl⟩
  simp only [mv] at kc
  rw [hL] at kc ⊢
  have q1 := tnT_len ss hs
  have q2 := nmT_len h1
  have q3 := tnT_len pu hp
  have q4 := tnT_len te ht
  have q5 := nmT_len h2
  have q6 := nmT_len h3
  have q7 := nmT_len h4
  have q8 := nmT_len h5
  have HM : Hid (packT ⟨1, ss, nu, pu, te, ru, rd, lo, hg, er, vs, lu, ld⟩ = (s, e') ∧ formB ⟨1, ss, nu, pu, te, ru, rd, lo, hg, er, vs, lu, ld⟩ = true ∧ msgT ⟨1, ss, nu, pu, te, ru, rd, lo, hg, er, vs, lu, ld⟩ = (((((([UInt8.ofNat 1] ++ tnT ss) ++ nmT nu) ++ tnT pu) ++ tnT te) ++ (nmT ru ++ nmT rd)) ++ nmT lo) ++ nmT hg) := ⟨hP, hF, by simp [msgT, askT, hdT]⟩
  clear hP hF h1 h2 h3 h4 h5 hs hp ht
  obtain ⟨y, hy⟩ : ∃ y, IntKind.u8.wrap 1 = y := ⟨_, rfl⟩
  have hy2 : y = ((1 : Nat) : Int) := by rw [← hy]; rfl
  have HCG : Hid (∀ (N : Nat) (w1 : World), w1.cell? ⟨N, 0, none⟩ = some (.int .u8 y) → (convert 47 9 (.slice (some ⟨N, 0, none⟩) 1 1)).run Try.prog w1 = .ok (.string (tx [UInt8.ofNat 1])) w1) := fun N w1 h => conv3 N w1 y 1 (by omega) hy2 h
  clear hy2
  generalize UInt8.ofNat 1 = B0 at *
  generalize tnT ss = T1 at *
  generalize nmT nu = N1 at *
  generalize tnT pu = T2 at *
  generalize tnT te = T3 at *
  have hz0 : ([B0] : By).length = 1 := rfl
  have q9 : (nmT ru ++ nmT rd).length ≤ 20 := by rw [List.length_append]; omega
  generalize nmT ru ++ nmT rd = R1 at *
  generalize nmT lo = N2 at *
  generalize nmT hg = N3 at *
  clear q5 q6
  have a1 := tx_add [B0] T1
  have l1 : ¬ (9223372036854775807 < ([B0]).length + T1.length) := by (try simp only [List.length_cons, List.length_nil]); omega
  obtain ⟨P1, hP1⟩ : ∃ P, [B0] ++ T1 = P := ⟨_, rfl⟩
  have g1 : P1.length = ([B0]).length + T1.length := by rw [← hP1, List.length_append]
  rw [hP1] at a1 HM
  clear hP1
  have a2 := tx_add P1 N1
  have l2 : ¬ (9223372036854775807 < (P1).length + N1.length) := by (try simp only [List.length_cons, List.length_nil]); omega
  obtain ⟨P2, hP2⟩ : ∃ P, P1 ++ N1 = P := ⟨_, rfl⟩
  have g2 : P2.length = (P1).length + N1.length := by rw [← hP2, List.length_append]
  rw [hP2] at a2 HM
  clear hP2
  have a3 := tx_add P2 T2
  have l3 : ¬ (9223372036854775807 < (P2).length + T2.length) := by (try simp only [List.length_cons, List.length_nil]); omega
  obtain ⟨P3, hP3⟩ : ∃ P, P2 ++ T2 = P := ⟨_, rfl⟩
  have g3 : P3.length = (P2).length + T2.length := by rw [← hP3, List.length_append]
  rw [hP3] at a3 HM
  clear hP3
  have a4 := tx_add P3 T3
  have l4 : ¬ (9223372036854775807 < (P3).length + T3.length) := by (try simp only [List.length_cons, List.length_nil]); omega
  obtain ⟨P4, hP4⟩ : ∃ P, P3 ++ T3 = P := ⟨_, rfl⟩
  have g4 : P4.length = (P3).length + T3.length := by rw [← hP4, List.length_append]
  rw [hP4] at a4 HM
  clear hP4
  have a5 := tx_add P4 R1
  have l5 : ¬ (9223372036854775807 < (P4).length + R1.length) := by (try simp only [List.length_cons, List.length_nil]); omega
  obtain ⟨P5, hP5⟩ : ∃ P, P4 ++ R1 = P := ⟨_, rfl⟩
  have g5 : P5.length = (P4).length + R1.length := by rw [← hP5, List.length_append]
  rw [hP5] at a5 HM
  clear hP5
  have a6 := tx_add P5 N2
  have l6 : ¬ (9223372036854775807 < (P5).length + N2.length) := by (try simp only [List.length_cons, List.length_nil]); omega
  obtain ⟨P6, hP6⟩ : ∃ P, P5 ++ N2 = P := ⟨_, rfl⟩
  have g6 : P6.length = (P5).length + N2.length := by rw [← hP6, List.length_append]
  rw [hP6] at a6 HM
  clear hP6
  have a7 := tx_add P6 N3
  have l7 : ¬ (9223372036854775807 < (P6).length + N3.length) := by (try simp only [List.length_cons, List.length_nil]); omega
  obtain ⟨P7, hP7⟩ : ∃ P, P6 ++ N3 = P := ⟨_, rfl⟩
  have g7 : P7.length = (P6).length + N3.length := by rw [← hP7, List.length_append]
  rw [hP7] at a7 HM
  clear hP7
  have HL : Hid (P7.length ≤ 9223372036854775807) := by rw [Hid]; omega
  clear q1 q2 q3 q4 q7 q8 q9 g1 g2 g3 g4 g5 g6 g7 hz0
  obtain ⟨W, hW⟩ : ∃ W, w.alloc (.cells #[.int .i64 1, .string (tx ss), .int .i64 nu, .string (tx pu), .string (tx te), .int .i64 ru, .int .i64 rd, .int .i64 lo, .int .i64 hg, .int .i64 er, .slice av L cv, .int .i64 lu, .int .i64 ld] 27) = W := ⟨_, rfl⟩
  have bW : Below w.heap.size w W := by rw [← hW]; exact ba _ _
  have hB : Bx W w.heap.size [.int .i64 1, .string (tx ss), .int .i64 nu, .string (tx pu), .string (tx te), .int .i64 ru, .int .i64 rd, .int .i64 lo, .int .i64 hg, .int .i64 er, .slice av L cv, .int .i64 lu, .int .i64 ld] := by rw [← hW]; exact Bx.new w _ 27 rfl
  have hlt : w.heap.size < W.heap.size := (hB 0 _ rfl).lt
  have c0 := (hB 0 _ rfl).c
  have c1 := (hB 1 _ rfl).c
  have c2 := (hB 2 _ rfl).c
  have c3 := (hB 3 _ rfl).c
  have c4 := (hB 4 _ rfl).c
  have c5 := (hB 5 _ rfl).c
  have c6 := (hB 6 _ rfl).c
  have c7 := (hB 7 _ rfl).c
  have c8 := (hB 8 _ rfl).c
  have c9 := (hB 9 _ rfl).c
  have c10 := (hB 10 _ rfl).c
  have c11 := (hB 11 _ rfl).c
  have c12 := (hB 12 _ rfl).c
  go_enter Try.func8, Try.ntmps8
  go_wp2_with fail
  refine (kc _).mono ?_
  rintro e V ⟨rfl, bV⟩
  have hB := hB.at bV
  have hlt : w.heap.size < V.heap.size := (hB 0 _ rfl).lt
  have bW : Below w.heap.size w V := bt bW bV
  clear c0 c1 c2 c3 c4 c5 c6 c7 c8 c9 c10 c11 c12 bV kc hW
  have c0 := (hB 0 _ rfl).c
  have c1 := (hB 1 _ rfl).c
  have c2 := (hB 2 _ rfl).c
  have c3 := (hB 3 _ rfl).c
  have c4 := (hB 4 _ rfl).c
  have c5 := (hB 5 _ rfl).c
  have c6 := (hB 6 _ rfl).c
  have c7 := (hB 7 _ rfl).c
  have c8 := (hB 8 _ rfl).c
  have c9 := (hB 9 _ rfl).c
  have c10 := (hB 10 _ rfl).c
  have c11 := (hB 11 _ rfl).c
  have c12 := (hB 12 _ rfl).c
  have HB : Hid (Bx V w.heap.size [.int .i64 1, .string (tx ss), .int .i64 nu, .string (tx pu), .string (tx te), .int .i64 ru, .int .i64 rd, .int .i64 lo, .int .i64 hg, .int .i64 er, .slice av L cv, .int .i64 lu, .int .i64 ld]) := hB
  clear hB
  have l1' : ¬ (9223372036854775807 < (tx [B0]).size + (tx T1).size) := by rw [tx_size, tx_size]; exact l1
  have l2' : ¬ (9223372036854775807 < (tx P1).size + (tx N1).size) := by rw [tx_size, tx_size]; exact l2
  have hbx : ∀ X, Below V.heap.size V X → X.cell? ⟨w.heap.size, 0, none⟩ = some (.int .i64 1) ∧ X.cell? ⟨w.heap.size, 1, none⟩ = some (.string (tx ss)) ∧ X.cell? ⟨w.heap.size, 2, none⟩ = some (.int .i64 nu) := fun X hX => ⟨(hX.cell (p := ⟨w.heap.size, 0, none⟩) hlt).trans c0, (hX.cell (p := ⟨w.heap.size, 1, none⟩) hlt).trans c1, (hX.cell (p := ⟨w.heap.size, 2, none⟩) hlt).trans c2⟩
  have HBX : Hid (∀ X, Below V.heap.size V X → X.cell? ⟨w.heap.size, 0, none⟩ = some (.int .i64 1) ∧ X.cell? ⟨w.heap.size, 1, none⟩ = some (.string (tx ss)) ∧ X.cell? ⟨w.heap.size, 2, none⟩ = some (.int .i64 nu)) := hbx
  clear hbx
  go_upto_region 3 with fail
  refine wp_region_noPanic (region3 (fun _ _ _ _ _ h => h) _ _ _ _ _ _ _ _ _ _ _ _ _ _ _ _ _ _ _ _ _ _ _ _ _ _ _ _ _ _ _ _ _ _ _ _ _ _ _ _ _ _ _ _ _ _ _ _ _ _ _ _ _ _ _ _ _ _ _ _ _ _ _ _ _ _ _ _ _ _ _ _ _ _ _ _ _ _ V w.heap.size 1 nu y (tx ss) (tx T1) (tx N1) (tx [B0]) (tx P1) (tx P2) hy a1 a2 l1' l2' HBX.out kt1 kn1 HCG.out ?_)
  intro g0 X bX
  refine NoPanic.normal ?_
  have hB := HB.out.at bX
  have hltX : w.heap.size < X.heap.size := (hB 0 _ rfl).lt
  have bW : Hid (Below w.heap.size w X) := bt bW bX
  clear c0 c1 c2 c3 c4 c5 c6 c7 c8 c9 c10 c11 c12 bX HBX kt1 kn1 HCG a1 a2 l1 l2 l1' l2' hy HB
  have c0 := (hB 0 _ rfl).c
  have c3 := (hB 3 _ rfl).c
  have c4 := (hB 4 _ rfl).c
  have c5 := (hB 5 _ rfl).c
  have c6 := (hB 6 _ rfl).c
  have c7 := (hB 7 _ rfl).c
  have c8 := (hB 8 _ rfl).c
  clear hB
  go_wp2_with fail
  go_region_held3 (fun w' => w'.cell? ⟨w.heap.size, 3, none⟩ = some (.string (tx pu)) ∧ w'.cell? ⟨w.heap.size, 4, none⟩ = some (.string (tx te)) ∧ w'.cell? ⟨w.heap.size, 5, none⟩ = some (.int .i64 ru) ∧ w'.cell? ⟨w.heap.size, 6, none⟩ = some (.int .i64 rd) ∧ w'.cell? ⟨w.heap.size, 7, none⟩ = some (.int .i64 lo) ∧ w'.cell? ⟨w.heap.size, 8, none⟩ = some (.int .i64 hg))
    ((go_split_ands; refine ⟨?_, ?_, ?_, ?_, ?_, ?_⟩ <;> first | assumption | (simp [go_sem, *]; done)))
    (first | (go_at_call 21; (with_reducible refine (kt2 _).mono ?_); rintro e w1 ⟨rfl, b1⟩; have d3 := (b1.cell (p := ⟨w.heap.size, 3, none⟩) hltX).trans c3; have d4 := (b1.cell (p := ⟨w.heap.size, 4, none⟩) hltX).trans c4; have d5 := (b1.cell (p := ⟨w.heap.size, 5, none⟩) hltX).trans c5; have d6 := (b1.cell (p := ⟨w.heap.size, 6, none⟩) hltX).trans c6; have d7 := (b1.cell (p := ⟨w.heap.size, 7, none⟩) hltX).trans c7; have d8 := (b1.cell (p := ⟨w.heap.size, 8, none⟩) hltX).trans c8; have hl1 := Nat.lt_of_lt_of_le hltX b1.size) | (go_at_call 21; (with_reducible refine (kt3 _).mono ?_); rintro e w2 ⟨rfl, b2⟩; have e3 := (b2.cell (p := ⟨w.heap.size, 3, none⟩) hl1).trans d3; have e4 := (b2.cell (p := ⟨w.heap.size, 4, none⟩) hl1).trans d4; have e5 := (b2.cell (p := ⟨w.heap.size, 5, none⟩) hl1).trans d5; have e6 := (b2.cell (p := ⟨w.heap.size, 6, none⟩) hl1).trans d6; have e7 := (b2.cell (p := ⟨w.heap.size, 7, none⟩) hl1).trans d7; have e8 := (b2.cell (p := ⟨w.heap.size, 8, none⟩) hl1).trans d8; have hl2 := Nat.lt_of_lt_of_le hl1 b2.size) | (go_at_call 23; (with_reducible refine (kr _).mono ?_); rintro e w3 ⟨rfl, b3⟩; have f3 := (b3.cell (p := ⟨w.heap.size, 3, none⟩) hl2).trans e3; have f4 := (b3.cell (p := ⟨w.heap.size, 4, none⟩) hl2).trans e4; have f5 := (b3.cell (p := ⟨w.heap.size, 5, none⟩) hl2).trans e5; have f6 := (b3.cell (p := ⟨w.heap.size, 6, none⟩) hl2).trans e6; have f7 := (b3.cell (p := ⟨w.heap.size, 7, none⟩) hl2).trans e7; have f8 := (b3.cell (p := ⟨w.heap.size, 8, none⟩) hl2).trans e8; have hl3 := Nat.lt_of_lt_of_le hl2 b3.size) | (go_at_call 22; (with_reducible refine (kn2 _).mono ?_); rintro e w4 ⟨rfl, b4⟩; have g3 := (b4.cell (p := ⟨w.heap.size, 3, none⟩) hl3).trans f3; have g4 := (b4.cell (p := ⟨w.heap.size, 4, none⟩) hl3).trans f4; have g5 := (b4.cell (p := ⟨w.heap.size, 5, none⟩) hl3).trans f5; have g6 := (b4.cell (p := ⟨w.heap.size, 6, none⟩) hl3).trans f6; have g7 := (b4.cell (p := ⟨w.heap.size, 7, none⟩) hl3).trans f7; have g8 := (b4.cell (p := ⟨w.heap.size, 8, none⟩) hl3).trans f8; have hl4 := Nat.lt_of_lt_of_le hl3 b4.size) | (go_at_call 22; (with_reducible refine (kn3 _).mono ?_); rintro e w5 ⟨rfl, b5⟩; have h3 := (b5.cell (p := ⟨w.heap.size, 3, none⟩) hl4).trans g3; have h4 := (b5.cell (p := ⟨w.heap.size, 4, none⟩) hl4).trans g4; have h5 := (b5.cell (p := ⟨w.heap.size, 5, none⟩) hl4).trans g5; have h6 := (b5.cell (p := ⟨w.heap.size, 6, none⟩) hl4).trans g6; have h7 := (b5.cell (p := ⟨w.heap.size, 7, none⟩) hl4).trans g7; have h8 := (b5.cell (p := ⟨w.heap.size, 8, none⟩) hl4).trans g8; have hl5 := Nat.lt_of_lt_of_le hl4 b5.size))
  have bT : Hid (Below w.heap.size w w5) := bt (bt (bt (bt (bt bW.out ((Below.refl _ _).drew.trans b1)) b2) b3) b4) b5
  clear c3 c4 c5 c6 c7 c8 d3 d4 d5 d6 d7 d8 e3 e4 e5 e6 e7 e8 f3 f4 f5 f6 f7 f8 g3 g4 g5 g6 g7 g8 h3 h4 h5 h6 h7 h8 c0 b1 b2 b3 b4 b5 kt2 kt3 kr kn2 kn3 bW
  have hszP := tx_size P7
  by_cases hbig : 65536 < P7.length
  · have z : (65536 : Int) < (P7.length : Int) := by omega
    have HR : Hid (s = [] ∧ e' = 4) := by
      obtain ⟨p1, p2, p3⟩ := HM.out
      unfold packT at p1
      rw [if_pos p2, p3, if_pos hbig] at p1
      simp only [Prod.mk.injEq] at p1
      exact ⟨p1.1.symm, p1.2.symm⟩
    clear hbig
    go_wp2
    go_ret2
    obtain ⟨rfl, rfl⟩ := HR.out
    exact ⟨rfl, bT.out⟩
  · have z : ¬ (65536 : Int) < (P7.length : Int) := by omega
    have HR : Hid (s = P7 ∧ e' = 0) := by
      obtain ⟨p1, p2, p3⟩ := HM.out
      unfold packT at p1
      rw [if_pos p2, p3, if_neg hbig] at p1
      simp only [Prod.mk.injEq] at p1
      exact ⟨p1.1.symm, p1.2.symm⟩
    clear hbig
    go_wp2
    go_ret2
    obtain ⟨rfl, rfl⟩ := HR.out
    exact ⟨rfl, bT.out⟩
end Go.Proofs.Ytnoedkebmpfagaa
