import Derived.Test.YtnoedkebmpfagaaWrq
/-
  The reference's Pack, of a reply.
-/
namespace Go.Proofs.Ytnoedkebmpfagaa
open Go.RowKit Wc

theorem nsT_len : ∀ (l : List Int), (∀ x ∈ l, I64 x) → (nsT l).length ≤ 10 * l.length
  | [], _ => by simp [nsT]
  | x :: l, h => by
    have h1 := nmT_len (h x (List.mem_cons_self ..))
    have h2 := nsT_len l (fun y hy => h y (List.mem_cons_of_mem _ hy))
    simp only [nsT, List.length_append, List.length_cons]
    omega
set_option maxHeartbeats 4000000 in
set_option maxRecDepth 100000 in
theorem refpack_rpl (ss pu te : By) (nu ru rd lo hg er lu ld : Int) (vs : List Int) (av : Option Addr) (cv : Nat) (w : World) (hs : ss.length ≤ 9007199254740992) (hvl : vs.length ≤ 9007199254740992) (h1 : I64 nu) (h2 : I64 er) (h3 : I64 lu) (h4 : I64 ld) (hvs : ∀ x ∈ vs, I64 x) (hN : Num w w.heap.size (.slice av vs.length cv) vs) (hF : formB ⟨2, ss, nu, pu, te, ru, rd, lo, hg, er, vs, lu, ld⟩ = true) (s : By) (e' : Int) (hP : packT ⟨2, ss, nu, pu, te, ru, rd, lo, hg, er, vs, lu, ld⟩ = (s, e')) :
    Calls Try.prog 8 #[mv ⟨2, ss, nu, pu, te, ru, rd, lo, hg, er, vs, lu, ld⟩ (.slice av vs.length cv)] w fun e w' => e = .returned (.tuple #[.string (tx s), .int .i64 e']) ∧ Below w.heap.size w w' := by
  have kc := fun V => clean_any ⟨2, ss, nu, pu, te, ru, rd, lo, hg, er, vs, lu, ld⟩ av cv V
  rw [hF] at kc
  have kt1 := fun V => reftext_any ss hs V
  have kn1 := fun V => refnumber_any nu h1 V
  have ke := fun V => refnumber_any er h2 V
  have kn := fun V => refcount_any vs.length (by omega) V
  have kr := fun V => refratio_any lu ld h3 h4 V
  have HN : Hid (Num w w.heap.size (.slice av vs.length cv) vs) := hN
  have HVS : Hid (∀ x ∈ vs, I64 x) := hvs
  have q1 := tnT_len ss hs
  have q2 := nmT_len h1
  have q3 := nmT_len h2
  have q4 := cntT_len vs.length (by omega)
  have q5 := nmT_len h3
  have q6 := nmT_len h4
  have HM : Hid (packT ⟨2, ss, nu, pu, te, ru, rd, lo, hg, er, vs, lu, ld⟩ = (s, e') ∧ formB ⟨2, ss, nu, pu, te, ru, rd, lo, hg, er, vs, lu, ld⟩ = true ∧ msgT ⟨2, ss, nu, pu, te, ru, rd, lo, hg, er, vs, lu, ld⟩ = ((((([UInt8.ofNat 2] ++ tnT ss) ++ nmT nu) ++ nmT er) ++ cntT vs.length) ++ nsT vs) ++ (nmT lu ++ nmT ld)) := ⟨hP, hF, by simp [msgT, rplT, hdT]⟩
  clear hP hF h1 h2 h3 h4 hs hN hvs
  obtain ⟨L, hL⟩ : ∃ L, vs.length = L := ⟨_, rfl⟩
  have HL : Hid (vs.length = L) := hL
  simp only [mv] at kc
  rw [hL] at kc kn hvl HM q4 HN ⊢
  clear hL
  have hwL : IntKind.u64.wrap (L : Int) = (L : Int) := by rw [IntKind.wrap_u64]; omega
  obtain ⟨y, hy⟩ : ∃ y, IntKind.u8.wrap 2 = y := ⟨_, rfl⟩
  have hy2 : y = ((2 : Nat) : Int) := by rw [← hy]; rfl
  have HCG : Hid (∀ (N : Nat) (w1 : World), w1.cell? ⟨N, 0, none⟩ = some (.int .u8 y) → (convert 47 9 (.slice (some ⟨N, 0, none⟩) 1 1)).run Try.prog w1 = .ok (.string (tx [UInt8.ofNat 2])) w1) := fun N w1 h => conv3 N w1 y 2 (by omega) hy2 h
  clear hy2
  generalize UInt8.ofNat 2 = B0 at *
  generalize tnT ss = T1 at *
  generalize nmT nu = N1 at *
  generalize nmT er = N2 at *
  generalize cntT L = C1 at *
  have hz0 : ([B0] : By).length = 1 := rfl
  have q9 : (nmT lu ++ nmT ld).length ≤ 20 := by rw [List.length_append]; omega
  generalize nmT lu ++ nmT ld = R1 at *
  clear q5 q6
  have a1 := tx_add [B0] T1
  have l1 : ¬ (9223372036854775807 < ([B0]).length + T1.length) := by (try simp only [List.length_cons, List.length_nil]); omega
  obtain ⟨P1, hP1⟩ : ∃ P, [B0] ++ T1 = P := ⟨_, rfl⟩
  have g1 : P1.length = ([B0]).length + T1.length := by rw [← hP1, List.length_append]
  rw [hP1] at a1 HM
  clear hP1
  have a2 := tx_add P1 N1
  have l2 : ¬ (9223372036854775807 < (P1).length + N1.length) := by (try simp only [List.length_cons, List.length_nil]); omega
  obtain ⟨P2, hP2⟩ : ∃ P, P1 ++ N1 = P := ⟨_, rfl⟩
  have g2 : P2.length = (P1).length + N1.length := by rw [← hP2, List.length_append]
  rw [hP2] at a2 HM
  clear hP2
  have a3 := tx_add P2 N2
  have l3 : ¬ (9223372036854775807 < (P2).length + N2.length) := by (try simp only [List.length_cons, List.length_nil]); omega
  obtain ⟨P3, hP3⟩ : ∃ P, P2 ++ N2 = P := ⟨_, rfl⟩
  have g3 : P3.length = (P2).length + N2.length := by rw [← hP3, List.length_append]
  rw [hP3] at a3 HM
  clear hP3
  have a4 := tx_add P3 C1
  have l4 : ¬ (9223372036854775807 < (P3).length + C1.length) := by (try simp only [List.length_cons, List.length_nil]); omega
  obtain ⟨P4, hP4⟩ : ∃ P, P3 ++ C1 = P := ⟨_, rfl⟩
  have g4 : P4.length = (P3).length + C1.length := by rw [← hP4, List.length_append]
  rw [hP4] at a4 HM
  clear hP4
  have HL4 : Hid (P4.length ≤ 18014398509482984) := by rw [Hid]; omega
  clear q1 q2 q3 q4 g1 g2 g3 g4 hz0
  obtain ⟨W, hW⟩ : ∃ W, w.alloc (.cells #[.int .i64 2, .string (tx ss), .int .i64 nu, .string (tx pu), .string (tx te), .int .i64 ru, .int .i64 rd, .int .i64 lo, .int .i64 hg, .int .i64 er, .slice av L cv, .int .i64 lu, .int .i64 ld] 27) = W := ⟨_, rfl⟩
  have bW : Below w.heap.size w W := by rw [← hW]; exact ba _ _
  have hB : Bx W w.heap.size [.int .i64 2, .string (tx ss), .int .i64 nu, .string (tx pu), .string (tx te), .int .i64 ru, .int .i64 rd, .int .i64 lo, .int .i64 hg, .int .i64 er, .slice av L cv, .int .i64 lu, .int .i64 ld] := by rw [← hW]; exact Bx.new w _ 27 rfl
  have hlt : w.heap.size < W.heap.size := (hB 0 _ rfl).lt
  have c0 := (hB 0 _ rfl).c
  have c1 := (hB 1 _ rfl).c
  have c2 := (hB 2 _ rfl).c
  have c3 := (hB 3 _ rfl).c
  have c4 := (hB 4 _ rfl).c
  have c5 := (hB 5 _ rfl).c
  have c6 := (hB 6 _ rfl).c
  have c7 := (hB 7 _ rfl).c
  have c8 := (hB 8 _ rfl).c
  have c9 := (hB 9 _ rfl).c
  have c10 := (hB 10 _ rfl).c
  have c11 := (hB 11 _ rfl).c
  have c12 := (hB 12 _ rfl).c
  go_enter Try.func8, Try.ntmps8
  go_wp2_with fail
  refine (kc _).mono ?_
  rintro e V ⟨rfl, bV⟩
  have hB := hB.at bV
  have hlt : w.heap.size < V.heap.size := (hB 0 _ rfl).lt
  have bW : Below w.heap.size w V := bt bW bV
  clear c0 c1 c2 c3 c4 c5 c6 c7 c8 c9 c10 c11 c12 bV kc hW
  have c0 := (hB 0 _ rfl).c
  have c1 := (hB 1 _ rfl).c
  have c2 := (hB 2 _ rfl).c
  have c3 := (hB 3 _ rfl).c
  have c4 := (hB 4 _ rfl).c
  have c5 := (hB 5 _ rfl).c
  have c6 := (hB 6 _ rfl).c
  have c7 := (hB 7 _ rfl).c
  have c8 := (hB 8 _ rfl).c
  have c9 := (hB 9 _ rfl).c
  have c10 := (hB 10 _ rfl).c
  have c11 := (hB 11 _ rfl).c
  have c12 := (hB 12 _ rfl).c
  have HB : Hid (Bx V w.heap.size [.int .i64 2, .string (tx ss), .int .i64 nu, .string (tx pu), .string (tx te), .int .i64 ru, .int .i64 rd, .int .i64 lo, .int .i64 hg, .int .i64 er, .slice av L cv, .int .i64 lu, .int .i64 ld]) := hB
  clear hB
  have l1' : ¬ (9223372036854775807 < (tx [B0]).size + (tx T1).size) := by rw [tx_size, tx_size]; exact l1
  have l2' : ¬ (9223372036854775807 < (tx P1).size + (tx N1).size) := by rw [tx_size, tx_size]; exact l2
  have hbx : ∀ X, Below V.heap.size V X → X.cell? ⟨w.heap.size, 0, none⟩ = some (.int .i64 2) ∧ X.cell? ⟨w.heap.size, 1, none⟩ = some (.string (tx ss)) ∧ X.cell? ⟨w.heap.size, 2, none⟩ = some (.int .i64 nu) := fun X hX => ⟨(hX.cell (p := ⟨w.heap.size, 0, none⟩) hlt).trans c0, (hX.cell (p := ⟨w.heap.size, 1, none⟩) hlt).trans c1, (hX.cell (p := ⟨w.heap.size, 2, none⟩) hlt).trans c2⟩
  have HBX : Hid (∀ X, Below V.heap.size V X → X.cell? ⟨w.heap.size, 0, none⟩ = some (.int .i64 2) ∧ X.cell? ⟨w.heap.size, 1, none⟩ = some (.string (tx ss)) ∧ X.cell? ⟨w.heap.size, 2, none⟩ = some (.int .i64 nu)) := hbx
  clear hbx
  go_upto_region 3 with fail
  refine wp_region_noPanic (region3 (fun _ _ _ _ _ h => h) _ _ _ _ _ _ _ _ _ _ _ _ _ _ _ _ _ _ _ _ _ _ _ _ _ _ _ _ _ _ _ _ _ _ _ _ _ _ _ _ _ _ _ _ _ _ _ _ _ _ _ _ _ _ _ _ _ _ _ _ _ _ _ _ _ _ _ _ _ _ _ _ _ _ _ _ _ _ V w.heap.size 2 nu y (tx ss) (tx T1) (tx N1) (tx [B0]) (tx P1) (tx P2) hy a1 a2 l1' l2' HBX.out kt1 kn1 HCG.out ?_)
  intro g0 X bX
  refine NoPanic.normal ?_
  have hB := HB.out.at bX
  have HB : Hid (Bx X w.heap.size [.int .i64 2, .string (tx ss), .int .i64 nu, .string (tx pu), .string (tx te), .int .i64 ru, .int .i64 rd, .int .i64 lo, .int .i64 hg, .int .i64 er, .slice av L cv, .int .i64 lu, .int .i64 ld]) := hB
  have hltX : w.heap.size < X.heap.size := (hB 0 _ rfl).lt
  have bW : Hid (Below w.heap.size w X) := bt bW bX
  clear c0 c1 c2 c3 c4 c5 c6 c7 c8 c9 c10 c11 c12 bX HBX kt1 kn1 HCG a1 a2 l1 l2 l1' l2' hy
  have c0 := (hB 0 _ rfl).c
  have c9 := (hB 9 _ rfl).c
  have c10 := (hB 10 _ rfl).c
  clear hB
  go_wp2_with fail
  go_region_held3 (fun w' => w'.cell? ⟨w.heap.size, 9, none⟩ = some (.int .i64 er) ∧ w'.cell? ⟨w.heap.size, 10, none⟩ = some (.slice av L cv))
    ((go_split_ands; refine ⟨?_, ?_⟩ <;> first | assumption | (simp [go_sem, *]; done)))
    (first | (go_at_call 22; (with_reducible refine (ke _).mono ?_); rintro e w1 ⟨rfl, b1⟩; have d9 := (b1.cell (p := ⟨w.heap.size, 9, none⟩) hltX).trans c9; have d10 := (b1.cell (p := ⟨w.heap.size, 10, none⟩) hltX).trans c10; have hl1 := Nat.lt_of_lt_of_le hltX b1.size) | (go_at_call 24; (with_reducible refine (kn _).mono ?_); rintro e w2 ⟨rfl, b2⟩; have e9 := (b2.cell (p := ⟨w.heap.size, 9, none⟩) hl1).trans d9; have e10 := (b2.cell (p := ⟨w.heap.size, 10, none⟩) hl1).trans d10))
  have bT : Hid (Below w.heap.size w w2) := bt (bt bW.out ((Below.refl _ _).drew.trans b1)) b2
  have HB2 : Hid (Bx w2 w.heap.size [.int .i64 2, .string (tx ss), .int .i64 nu, .string (tx pu), .string (tx te), .int .i64 ru, .int .i64 rd, .int .i64 lo, .int .i64 hg, .int .i64 er, .slice av L cv, .int .i64 lu, .int .i64 ld]) := (HB.out.at ((Below.refl _ _).drew.trans b1)).at b2
  clear c0 c9 c10 d9 d10 e9 HB b1 b2 ke kn bW
  go_wp2_with fail
  go_loopw [4, 61] (fun zv iv wr => ∃ (i : Nat) (Z : By), zv = .string (tx Z) ∧ iv = .int .i64 (i : Int) ∧ i ≤ L ∧ Hid (Z = P4 ++ nsT (vs.take i)) ∧ Hid (Bx wr w.heap.size [.int .i64 2, .string (tx ss), .int .i64 nu, .string (tx pu), .string (tx te), .int .i64 ru, .int .i64 rd, .int .i64 lo, .int .i64 hg, .int .i64 er, .slice av L cv, .int .i64 lu, .int .i64 ld]) ∧ Hid (Below w.heap.size w wr)) (fun _ iv _ => L - (intOf iv).toNat)
  case atStart => exact ⟨0, P4, rfl, rfl, Nat.zero_le _, by rw [Hid, List.take_zero, nsT, List.append_nil], HB2, bT⟩
  case round =>
    obtain ⟨i, Z, rfl, rfl, hi, HZ, HB, HW⟩ := hrel
    have hZl : Z.length ≤ 108086391056900000 := by
      have h1 := nsT_len (vs.take i) (fun x hx => HVS.out x (List.mem_of_mem_take hx))
      have h2 : (vs.take i).length ≤ L := by rw [List.length_take, HL.out]; omega
      have h3 := HL4.out
      rw [HZ.out, List.length_append]
      omega
    by_cases c1 : i < L
    · have z1 : (i : Int) < (L : Int) := by omega
      have hNr := HN.out.keep HW.out
      rw [← HL.out] at hNr
      obtain ⟨b', o, c', x, e1, _, _, hxx, hcx⟩ := hNr.get (i := i) (by rw [HL.out]; exact c1)
      simp only [Value.slice.injEq] at e1
      obtain ⟨rfl, -, rfl⟩ := e1
      have hxi : I64 x := HVS.out x (List.mem_of_getElem? hxx)
      have HE : Hid (Z ++ nmT x = P4 ++ nsT (vs.take (i + 1))) := by
        rw [Hid, take_get hxx, nsT_snoc, HZ.out]; simp only [List.append_assoc]
      have k := refnumber_any x hxi wr
      have hxl := nmT_len hxi
      have aa := tx_add Z (nmT x)
      have ll : ¬ (9223372036854775807 < Z.length + (nmT x).length) := by omega
      generalize nmT x = X1 at *
      obtain ⟨Z2, hZ2⟩ : ∃ P, Z ++ X1 = P := ⟨_, rfl⟩
      rw [hZ2] at aa HE
      clear hZ2 hxx hNr hxl hxi hZl
      go_wp2_with fail
      refine k.mono ?_
      rintro e w3 ⟨rfl, b3⟩
      clear k
      go_wp2
      go_roundw
      case rel => exact ⟨i + 1, Z2, rfl, by go_num, c1, HE.out, HB.out.at b3, bt HW.out b3⟩
      case measure => simp [intOf]; omega
    · obtain rfl : i = L := by omega
      have z1 : ¬ (i : Int) < (i : Int) := by omega
      have HZ2 : Hid (Z = P4 ++ nsT vs) := by
        rw [Hid, HZ.out, ← HL.out, List.take_length]
      have aa := tx_add Z R1
      have ll : ¬ (9223372036854775807 < Z.length + R1.length) := by omega
      obtain ⟨P7, hP7⟩ : ∃ P, Z ++ R1 = P := ⟨_, rfl⟩
      have HP : Hid (P4 ++ nsT vs ++ R1 = P7) := by rw [Hid, ← HZ2.out, hP7]
      rw [hP7] at aa
      clear hP7 hZl c1
      have c11 := (HB.out 11 _ rfl).c
      have c12 := (HB.out 12 _ rfl).c
      have k := kr wr
      clear kr
      go_wp2_with fail
      refine k.mono ?_
      rintro e w3 ⟨rfl, b3⟩
      clear k
      have bT : Hid (Below w.heap.size w w3) := bt HW.out b3
      have hszP := tx_size P7
      by_cases hbig : 65536 < P7.length
      · have z : (65536 : Int) < (P7.length : Int) := by omega
        have HR : Hid (s = [] ∧ e' = 4) := by
          obtain ⟨p1, p2, p3⟩ := HM.out
          unfold packT at p1
          rw [if_pos p2, p3, HP.out, if_pos hbig] at p1
          simp only [Prod.mk.injEq] at p1
          exact ⟨p1.1.symm, p1.2.symm⟩
        clear hbig
        go_wp2
        go_ret2
        obtain ⟨rfl, rfl⟩ := HR.out
        exact ⟨rfl, bT.out⟩
      · have z : ¬ (65536 : Int) < (P7.length : Int) := by omega
        have HR : Hid (s = P7 ∧ e' = 0) := by
          obtain ⟨p1, p2, p3⟩ := HM.out
          unfold packT at p1
          rw [if_pos p2, p3, HP.out, if_neg hbig] at p1
          simp only [Prod.mk.injEq] at p1
          exact ⟨p1.1.symm, p1.2.symm⟩
        clear hbig
        go_wp2
        go_ret2
        obtain ⟨rfl, rfl⟩ := HR.out
        exact ⟨rfl, bT.out⟩
end Go.Proofs.Ytnoedkebmpfagaa
