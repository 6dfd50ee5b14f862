import Derived.Test.YtnoedkebmpfagaaWwx
/-
  PACKAGE wire, the writer: values, message.
-/
namespace Go.Proofs.Ytnoedkebmpfagaa
open Go.RowKit Wc

theorem Fw.bx {R : Nat} {w w' : World} {b : Nat} {cs : List Value} (h : Fw R w w') (hc : Bx w b cs) (hR : b ≠ R) (hr : rowOf w R ≠ some b) : Bx w' b cs := fun k v hk => h.cl (hc k v hk) hR hr
theorem nsT_snoc : ∀ (l : List Int) (x : Int), nsT (l ++ [x]) = nsT l ++ nmT x
  | [], x => by simp [nsT]
  | y :: l, x => by simp [nsT, nsT_snoc l x]
theorem take_get {α : Type} {l : List α} {i : Nat} {x : α} (h : l[i]? = some x) : l.take (i + 1) = l.take i ++ [x] := by
  rw [List.take_add_one, h]; rfl
set_option maxHeartbeats 1000000 in
theorem wvalues_any {w : World} {base R : Nat} {F : By} (hb : base ≤ w.heap.size) (h : Wrt w base R F) (sv : Value) (xs : List Int) (hx : Num w base sv xs) (hall : ∀ x ∈ xs, I64 x) :
    Calls Try.prog 37 #[ptR R, sv] w fun e w' => e = .returned (.tuple #[]) ∧ Wrt w' base R (F ++ (cntT xs.length ++ nsT xs)) ∧ Fw R w w' := by
  obtain ⟨a, c, rfl, hc, hl⟩ := hx.slice
  have HA : Hid (∀ x ∈ xs, I64 x) := hall
  have HX : Hid (Num w base (.slice a xs.length c) xs) := hx
  have HW : Hid (Wrt w base R F) := h
  have k := count_any hb h xs.length (by omega)
  have hw : IntKind.u64.wrap (xs.length : Int) = (xs.length : Int) := by rw [IntKind.wrap_u64]; omega
  clear h hall hx
  go_enter Try.func37, Try.ntmps37
  go_wp2_with fail
  refine k.mono ?_
  rintro e w1 ⟨rfl, h1, b1⟩
  clear k
  have H1 : Hid (Wrt w1 base R (F ++ cntT xs.length)) := h1
  clear h1
  go_wp2_with fail
  go_loopw [13] (fun iv wr => ∃ (i : Nat), iv = .int .i64 (i : Int) ∧ i ≤ xs.length ∧ Hid (Wrt wr base R (F ++ cntT xs.length ++ nsT (xs.take i))) ∧ Hid (Fw R w wr)) (fun iv _ => xs.length - (intOf iv).toNat)
  case atStart => exact ⟨0, rfl, Nat.zero_le _, by rw [List.take_zero, nsT, List.append_nil]; exact H1, b1⟩
  case round =>
    obtain ⟨i, rfl, hi, HG, HB⟩ := hrel
    have hbr : base ≤ wr.heap.size := Nat.le_trans hb HB.out.size
    by_cases c1 : i < xs.length
    · have z1 : (i : Int) < (xs.length : Int) := by omega
      obtain ⟨b', o, c', x, e1, _, _, hxx, hcx⟩ := (HX.out.keep (HW.out.below HB.out)).get (i := i) c1
      simp only [Value.slice.injEq] at e1
      obtain ⟨rfl, -, rfl⟩ := e1
      have hxi : I64 x := HA.out x (List.mem_of_getElem? hxx)
      have HE : Hid (F ++ cntT xs.length ++ nsT (xs.take (i + 1)) = F ++ cntT xs.length ++ nsT (xs.take i) ++ nmT x) := by
        rw [Hid, take_get hxx, nsT_snoc]; simp only [List.append_assoc]
      have k := wnumber_any hbr HG.out x hxi
      clear hxx
      go_wp2_with fail
      refine k.mono ?_
      rintro e w2 ⟨rfl, h2, b2⟩
      clear k
      go_wp2
      go_roundw
      case rel => exact ⟨i + 1, by go_num, c1, by rw [HE.out]; exact h2, HB.out.trans b2⟩
      case measure => simp [intOf]; omega
    · obtain rfl : i = xs.length := by omega
      have z1 : ¬ (xs.length : Int) < (xs.length : Int) := by omega
      go_wp2
      go_end0
      refine ⟨rfl, ?_, HB.out⟩
      have := HG.out
      rw [List.take_length, List.append_assoc] at this
      exact this
/-- a message as a value -/
abbrev mv (m : Msg) (sv : Value) : Value := .agg #[.int .i64 m.kind, .string (tx m.ses), .int .i64 m.num, .string (tx m.pur), .string (tx m.txt), .int .i64 m.ru, .int .i64 m.rd, .int .i64 m.low, .int .i64 m.high, .int .i64 m.err, sv, .int .i64 m.lu, .int .i64 m.ld]
/-- what is known of a message that comes in -/
structure MsgI (w : World) (B : Nat) (m : Msg) (sv : Value) : Prop where
  s : m.ses.length ≤ 9223372036854775807
  p : m.pur.length ≤ 9223372036854775807
  t : m.txt.length ≤ 9223372036854775807
  v : Num w B sv m.vals
  num : I64 m.num
  ru : I64 m.ru
  rd : I64 m.rd
  low : I64 m.low
  high : I64 m.high
  err : I64 m.err
  lu : I64 m.lu
  ld : I64 m.ld
  vs : ∀ x ∈ m.vals, I64 x
theorem MsgI.ok {w : World} {B : Nat} {m : Msg} {sv : Value} (h : MsgI w B m sv) : OkM m := by
  obtain ⟨a, c, -, -, hl⟩ := h.v.slice
  exact ⟨by have := h.s; omega, by have := h.p; omega, by have := h.t; omega, by omega, h.num, h.ru, h.rd, h.low, h.high, h.err, h.lu, h.ld, h.vs⟩
theorem MsgI.keep {w w' : World} {B : Nat} {m : Msg} {sv : Value} (h : MsgI w B m sv) (hb : Below B w w') : MsgI w' B m sv := { h with v := h.v.keep hb }
set_option maxHeartbeats 2000000 in
set_option maxRecDepth 100000 in
theorem wmessage_ask {w : World} {base R : Nat} (hb : base ≤ w.heap.size) (h : Wrt w base R []) (m : Msg) (sv : Value) (hI : MsgI w base m sv) (hk : m.kind = 1) :
    Calls Try.prog 19 #[ptR R, mv m sv] w fun e w' => e = .returned (.tuple #[]) ∧ Wrt w' base R (msgT m) ∧ Fw R w w' := by
  have HI : Hid (MsgI w base m sv) := hI
  obtain ⟨av, nv, cv, hsv⟩ : ∃ a n c, sv = .slice a n c := by obtain ⟨a, c, e, -, -⟩ := hI.v.slice; exact ⟨a, _, c, e⟩
  obtain ⟨kd, ss, nu, pu, te, ru, rd, lo, hg, er, vs, lu, ld⟩ := m
  simp only at hk
  subst hk hsv
  have HM : Hid (msgT ⟨1, ss, nu, pu, te, ru, rd, lo, hg, er, vs, lu, ld⟩ = askT ⟨1, ss, nu, pu, te, ru, rd, lo, hg, er, vs, lu, ld⟩) := by simp [Hid, msgT]
  have hne : w.heap.size ≠ R := by have := h.lt; omega
  obtain ⟨W, hW⟩ : ∃ W, w.alloc (.cells #[.int .i64 1, .string (tx ss), .int .i64 nu, .string (tx pu), .string (tx te), .int .i64 ru, .int .i64 rd, .int .i64 lo, .int .i64 hg, .int .i64 er, .slice av nv cv, .int .i64 lu, .int .i64 ld] 27) = W := ⟨_, rfl⟩
  have bW : Below w.heap.size w W := by rw [← hW]; exact ba _ _
  have hsW : W.heap.size = w.heap.size + 1 := by rw [← hW]; simp
  have HB0 : Hid (Bx W w.heap.size [.int .i64 1, .string (tx ss), .int .i64 nu, .string (tx pu), .string (tx te), .int .i64 ru, .int .i64 rd, .int .i64 lo, .int .i64 hg, .int .i64 er, .slice av nv cv, .int .i64 lu, .int .i64 ld]) := by rw [Hid, ← hW]; exact Bx.new w _ 27 rfl
  have HN0 : Hid (rowOf W R ≠ some w.heap.size) := (Fw.new h.lt.1 bW).rowne2 h bW
  have HF0 : Hid (Fw R w W) := Fw.new h.lt.1 bW
  have H0 : Hid (Wrt W base R []) := h.at bW
  have HH : Hid (Wrt w base R []) := h
  clear h hI
  go_enter Try.func19, Try.ntmps19
  have q0_0 := (HB0.out 0 _ rfl).c
  have hs0 := HF0.out.size
  have k := put_nat (by omega) H0.out 1 (by omega)
  go_wp2_with fail
  refine k.mono ?_
  rintro e w1 ⟨rfl, h1, b1⟩
  clear k q0_0
  have HB1 : Hid (Bx w1 w.heap.size [.int .i64 1, .string (tx ss), .int .i64 nu, .string (tx pu), .string (tx te), .int .i64 ru, .int .i64 rd, .int .i64 lo, .int .i64 hg, .int .i64 er, .slice av nv cv, .int .i64 lu, .int .i64 ld]) := b1.bx HB0.out hne HN0.out
  have HN1 : Hid (rowOf w1 R ≠ some w.heap.size) := b1.rowne (HB0.out 0 _ rfl).lt HN0.out
  have HF1 : Hid (Fw R w w1) := HF0.out.trans b1
  have H1 : Hid (Wrt w1 base R _) := h1
  clear h1 b1 H0 HB0 HN0 HF0
  have q1_1 := (HB1.out 1 _ rfl).c
  have hs1 := HF1.out.size
  have k := wtext_any (by omega) H1.out ss HI.out.s
  go_wp2_with fail
  refine k.mono ?_
  rintro e w2 ⟨rfl, h2, b2⟩
  clear k q1_1
  have HB2 : Hid (Bx w2 w.heap.size [.int .i64 1, .string (tx ss), .int .i64 nu, .string (tx pu), .string (tx te), .int .i64 ru, .int .i64 rd, .int .i64 lo, .int .i64 hg, .int .i64 er, .slice av nv cv, .int .i64 lu, .int .i64 ld]) := b2.bx HB1.out hne HN1.out
  have HN2 : Hid (rowOf w2 R ≠ some w.heap.size) := b2.rowne (HB1.out 0 _ rfl).lt HN1.out
  have HF2 : Hid (Fw R w w2) := HF1.out.trans b2
  have H2 : Hid (Wrt w2 base R _) := h2
  clear h2 b2 H1 HB1 HN1 HF1
  have q2_2 := (HB2.out 2 _ rfl).c
  have hs2 := HF2.out.size
  have k := wnumber_any (by omega) H2.out nu HI.out.num
  go_wp2_with fail
  refine k.mono ?_
  rintro e w3 ⟨rfl, h3, b3⟩
  clear k q2_2
  have HB3 : Hid (Bx w3 w.heap.size [.int .i64 1, .string (tx ss), .int .i64 nu, .string (tx pu), .string (tx te), .int .i64 ru, .int .i64 rd, .int .i64 lo, .int .i64 hg, .int .i64 er, .slice av nv cv, .int .i64 lu, .int .i64 ld]) := b3.bx HB2.out hne HN2.out
  have HN3 : Hid (rowOf w3 R ≠ some w.heap.size) := b3.rowne (HB2.out 0 _ rfl).lt HN2.out
  have HF3 : Hid (Fw R w w3) := HF2.out.trans b3
  have H3 : Hid (Wrt w3 base R _) := h3
  clear h3 b3 H2 HB2 HN2 HF2
  have q3_0 := (HB3.out 0 _ rfl).c
  have q3_3 := (HB3.out 3 _ rfl).c
  have hs3 := HF3.out.size
  have k := wtext_any (by omega) H3.out pu HI.out.p
  go_wp2_with fail
  refine k.mono ?_
  rintro e w4 ⟨rfl, h4, b4⟩
  clear k q3_0 q3_3
  have HB4 : Hid (Bx w4 w.heap.size [.int .i64 1, .string (tx ss), .int .i64 nu, .string (tx pu), .string (tx te), .int .i64 ru, .int .i64 rd, .int .i64 lo, .int .i64 hg, .int .i64 er, .slice av nv cv, .int .i64 lu, .int .i64 ld]) := b4.bx HB3.out hne HN3.out
  have HN4 : Hid (rowOf w4 R ≠ some w.heap.size) := b4.rowne (HB3.out 0 _ rfl).lt HN3.out
  have HF4 : Hid (Fw R w w4) := HF3.out.trans b4
  have H4 : Hid (Wrt w4 base R _) := h4
  clear h4 b4 H3 HB3 HN3 HF3
  have q4_4 := (HB4.out 4 _ rfl).c
  have hs4 := HF4.out.size
  have k := wtext_any (by omega) H4.out te HI.out.t
  go_wp2_with fail
  refine k.mono ?_
  rintro e w5 ⟨rfl, h5, b5⟩
  clear k q4_4
  have HB5 : Hid (Bx w5 w.heap.size [.int .i64 1, .string (tx ss), .int .i64 nu, .string (tx pu), .string (tx te), .int .i64 ru, .int .i64 rd, .int .i64 lo, .int .i64 hg, .int .i64 er, .slice av nv cv, .int .i64 lu, .int .i64 ld]) := b5.bx HB4.out hne HN4.out
  have HN5 : Hid (rowOf w5 R ≠ some w.heap.size) := b5.rowne (HB4.out 0 _ rfl).lt HN4.out
  have HF5 : Hid (Fw R w w5) := HF4.out.trans b5
  have H5 : Hid (Wrt w5 base R _) := h5
  clear h5 b5 H4 HB4 HN4 HF4
  have q5_5 := (HB5.out 5 _ rfl).c
  have q5_6 := (HB5.out 6 _ rfl).c
  have hs5 := HF5.out.size
  have k := wratio_any (by omega) H5.out ru rd HI.out.ru HI.out.rd
  go_wp2_with fail
  refine k.mono ?_
  rintro e w6 ⟨rfl, h6, b6⟩
  clear k q5_5 q5_6
  have HB6 : Hid (Bx w6 w.heap.size [.int .i64 1, .string (tx ss), .int .i64 nu, .string (tx pu), .string (tx te), .int .i64 ru, .int .i64 rd, .int .i64 lo, .int .i64 hg, .int .i64 er, .slice av nv cv, .int .i64 lu, .int .i64 ld]) := b6.bx HB5.out hne HN5.out
  have HN6 : Hid (rowOf w6 R ≠ some w.heap.size) := b6.rowne (HB5.out 0 _ rfl).lt HN5.out
  have HF6 : Hid (Fw R w w6) := HF5.out.trans b6
  have H6 : Hid (Wrt w6 base R _) := h6
  clear h6 b6 H5 HB5 HN5 HF5
  have q6_7 := (HB6.out 7 _ rfl).c
  have hs6 := HF6.out.size
  have k := wnumber_any (by omega) H6.out lo HI.out.low
  go_wp2_with fail
  refine k.mono ?_
  rintro e w7 ⟨rfl, h7, b7⟩
  clear k q6_7
  have HB7 : Hid (Bx w7 w.heap.size [.int .i64 1, .string (tx ss), .int .i64 nu, .string (tx pu), .string (tx te), .int .i64 ru, .int .i64 rd, .int .i64 lo, .int .i64 hg, .int .i64 er, .slice av nv cv, .int .i64 lu, .int .i64 ld]) := b7.bx HB6.out hne HN6.out
  have HN7 : Hid (rowOf w7 R ≠ some w.heap.size) := b7.rowne (HB6.out 0 _ rfl).lt HN6.out
  have HF7 : Hid (Fw R w w7) := HF6.out.trans b7
  have H7 : Hid (Wrt w7 base R _) := h7
  clear h7 b7 H6 HB6 HN6 HF6
  have q7_8 := (HB7.out 8 _ rfl).c
  have hs7 := HF7.out.size
  have k := wnumber_any (by omega) H7.out hg HI.out.high
  go_wp2_with fail
  refine k.mono ?_
  rintro e w8 ⟨rfl, h8, b8⟩
  clear k q7_8
  have HB8 : Hid (Bx w8 w.heap.size [.int .i64 1, .string (tx ss), .int .i64 nu, .string (tx pu), .string (tx te), .int .i64 ru, .int .i64 rd, .int .i64 lo, .int .i64 hg, .int .i64 er, .slice av nv cv, .int .i64 lu, .int .i64 ld]) := b8.bx HB7.out hne HN7.out
  have HN8 : Hid (rowOf w8 R ≠ some w.heap.size) := b8.rowne (HB7.out 0 _ rfl).lt HN7.out
  have HF8 : Hid (Fw R w w8) := HF7.out.trans b8
  have H8 : Hid (Wrt w8 base R _) := h8
  clear h8 b8 H7 HB7 HN7 HF7
  go_wp2
  (try simp only [Exit.inBlock, Exit.then])
  refine bodyPost_ret (results_none rfl _ _ _) rfl ?_
  refine ⟨rfl, ?_, HF8.out⟩
  have := H8.out
  rw [HM.out]; exact this
set_option maxHeartbeats 2000000 in
set_option maxRecDepth 100000 in
theorem wmessage_rpl {w : World} {base R : Nat} (hb : base ≤ w.heap.size) (h : Wrt w base R []) (m : Msg) (sv : Value) (hI : MsgI w base m sv) (hk : m.kind = 2) :
    Calls Try.prog 19 #[ptR R, mv m sv] w fun e w' => e = .returned (.tuple #[]) ∧ Wrt w' base R (msgT m) ∧ Fw R w w' := by
  have HI : Hid (MsgI w base m sv) := hI
  obtain ⟨av, nv, cv, hsv⟩ : ∃ a n c, sv = .slice a n c := by obtain ⟨a, c, e, -, -⟩ := hI.v.slice; exact ⟨a, _, c, e⟩
  obtain ⟨kd, ss, nu, pu, te, ru, rd, lo, hg, er, vs, lu, ld⟩ := m
  simp only at hk
  subst hk hsv
  have HM : Hid (msgT ⟨2, ss, nu, pu, te, ru, rd, lo, hg, er, vs, lu, ld⟩ = rplT ⟨2, ss, nu, pu, te, ru, rd, lo, hg, er, vs, lu, ld⟩) := by simp [Hid, msgT]
  have hne : w.heap.size ≠ R := by have := h.lt; omega
  obtain ⟨W, hW⟩ : ∃ W, w.alloc (.cells #[.int .i64 2, .string (tx ss), .int .i64 nu, .string (tx pu), .string (tx te), .int .i64 ru, .int .i64 rd, .int .i64 lo, .int .i64 hg, .int .i64 er, .slice av nv cv, .int .i64 lu, .int .i64 ld] 27) = W := ⟨_, rfl⟩
  have bW : Below w.heap.size w W := by rw [← hW]; exact ba _ _
  have hsW : W.heap.size = w.heap.size + 1 := by rw [← hW]; simp
  have HB0 : Hid (Bx W w.heap.size [.int .i64 2, .string (tx ss), .int .i64 nu, .string (tx pu), .string (tx te), .int .i64 ru, .int .i64 rd, .int .i64 lo, .int .i64 hg, .int .i64 er, .slice av nv cv, .int .i64 lu, .int .i64 ld]) := by rw [Hid, ← hW]; exact Bx.new w _ 27 rfl
  have HN0 : Hid (rowOf W R ≠ some w.heap.size) := (Fw.new h.lt.1 bW).rowne2 h bW
  have HF0 : Hid (Fw R w W) := Fw.new h.lt.1 bW
  have H0 : Hid (Wrt W base R []) := h.at bW
  have HH : Hid (Wrt w base R []) := h
  clear h hI
  go_enter Try.func19, Try.ntmps19
  have q0_0 := (HB0.out 0 _ rfl).c
  have hs0 := HF0.out.size
  have k := put_nat (by omega) H0.out 2 (by omega)
  go_wp2_with fail
  refine k.mono ?_
  rintro e w1 ⟨rfl, h1, b1⟩
  clear k q0_0
  have HB1 : Hid (Bx w1 w.heap.size [.int .i64 2, .string (tx ss), .int .i64 nu, .string (tx pu), .string (tx te), .int .i64 ru, .int .i64 rd, .int .i64 lo, .int .i64 hg, .int .i64 er, .slice av nv cv, .int .i64 lu, .int .i64 ld]) := b1.bx HB0.out hne HN0.out
  have HN1 : Hid (rowOf w1 R ≠ some w.heap.size) := b1.rowne (HB0.out 0 _ rfl).lt HN0.out
  have HF1 : Hid (Fw R w w1) := HF0.out.trans b1
  have H1 : Hid (Wrt w1 base R _) := h1
  clear h1 b1 H0 HB0 HN0 HF0
  have q1_1 := (HB1.out 1 _ rfl).c
  have hs1 := HF1.out.size
  have k := wtext_any (by omega) H1.out ss HI.out.s
  go_wp2_with fail
  refine k.mono ?_
  rintro e w2 ⟨rfl, h2, b2⟩
  clear k q1_1
  have HB2 : Hid (Bx w2 w.heap.size [.int .i64 2, .string (tx ss), .int .i64 nu, .string (tx pu), .string (tx te), .int .i64 ru, .int .i64 rd, .int .i64 lo, .int .i64 hg, .int .i64 er, .slice av nv cv, .int .i64 lu, .int .i64 ld]) := b2.bx HB1.out hne HN1.out
  have HN2 : Hid (rowOf w2 R ≠ some w.heap.size) := b2.rowne (HB1.out 0 _ rfl).lt HN1.out
  have HF2 : Hid (Fw R w w2) := HF1.out.trans b2
  have H2 : Hid (Wrt w2 base R _) := h2
  clear h2 b2 H1 HB1 HN1 HF1
  have q2_2 := (HB2.out 2 _ rfl).c
  have hs2 := HF2.out.size
  have k := wnumber_any (by omega) H2.out nu HI.out.num
  go_wp2_with fail
  refine k.mono ?_
  rintro e w3 ⟨rfl, h3, b3⟩
  clear k q2_2
  have HB3 : Hid (Bx w3 w.heap.size [.int .i64 2, .string (tx ss), .int .i64 nu, .string (tx pu), .string (tx te), .int .i64 ru, .int .i64 rd, .int .i64 lo, .int .i64 hg, .int .i64 er, .slice av nv cv, .int .i64 lu, .int .i64 ld]) := b3.bx HB2.out hne HN2.out
  have HN3 : Hid (rowOf w3 R ≠ some w.heap.size) := b3.rowne (HB2.out 0 _ rfl).lt HN2.out
  have HF3 : Hid (Fw R w w3) := HF2.out.trans b3
  have H3 : Hid (Wrt w3 base R _) := h3
  clear h3 b3 H2 HB2 HN2 HF2
  have q3_0 := (HB3.out 0 _ rfl).c
  have q3_9 := (HB3.out 9 _ rfl).c
  have hs3 := HF3.out.size
  have k := wnumber_any (by omega) H3.out er HI.out.err
  go_wp2_with fail
  refine k.mono ?_
  rintro e w4 ⟨rfl, h4, b4⟩
  clear k q3_0 q3_9
  have HB4 : Hid (Bx w4 w.heap.size [.int .i64 2, .string (tx ss), .int .i64 nu, .string (tx pu), .string (tx te), .int .i64 ru, .int .i64 rd, .int .i64 lo, .int .i64 hg, .int .i64 er, .slice av nv cv, .int .i64 lu, .int .i64 ld]) := b4.bx HB3.out hne HN3.out
  have HN4 : Hid (rowOf w4 R ≠ some w.heap.size) := b4.rowne (HB3.out 0 _ rfl).lt HN3.out
  have HF4 : Hid (Fw R w w4) := HF3.out.trans b4
  have H4 : Hid (Wrt w4 base R _) := h4
  clear h4 b4 H3 HB3 HN3 HF3
  have q4_10 := (HB4.out 10 _ rfl).c
  have hs4 := HF4.out.size
  have k := wvalues_any (by omega) H4.out (.slice av nv cv) vs (HI.out.v.keep (HH.out.below HF4.out)) HI.out.vs
  go_wp2_with fail
  refine k.mono ?_
  rintro e w5 ⟨rfl, h5, b5⟩
  clear k q4_10
  have HB5 : Hid (Bx w5 w.heap.size [.int .i64 2, .string (tx ss), .int .i64 nu, .string (tx pu), .string (tx te), .int .i64 ru, .int .i64 rd, .int .i64 lo, .int .i64 hg, .int .i64 er, .slice av nv cv, .int .i64 lu, .int .i64 ld]) := b5.bx HB4.out hne HN4.out
  have HN5 : Hid (rowOf w5 R ≠ some w.heap.size) := b5.rowne (HB4.out 0 _ rfl).lt HN4.out
  have HF5 : Hid (Fw R w w5) := HF4.out.trans b5
  have H5 : Hid (Wrt w5 base R _) := h5
  clear h5 b5 H4 HB4 HN4 HF4
  have q5_11 := (HB5.out 11 _ rfl).c
  have q5_12 := (HB5.out 12 _ rfl).c
  have hs5 := HF5.out.size
  have k := wratio_any (by omega) H5.out lu ld HI.out.lu HI.out.ld
  go_wp2_with fail
  refine k.mono ?_
  rintro e w6 ⟨rfl, h6, b6⟩
  clear k q5_11 q5_12
  have HB6 : Hid (Bx w6 w.heap.size [.int .i64 2, .string (tx ss), .int .i64 nu, .string (tx pu), .string (tx te), .int .i64 ru, .int .i64 rd, .int .i64 lo, .int .i64 hg, .int .i64 er, .slice av nv cv, .int .i64 lu, .int .i64 ld]) := b6.bx HB5.out hne HN5.out
  have HN6 : Hid (rowOf w6 R ≠ some w.heap.size) := b6.rowne (HB5.out 0 _ rfl).lt HN5.out
  have HF6 : Hid (Fw R w w6) := HF5.out.trans b6
  have H6 : Hid (Wrt w6 base R _) := h6
  clear h6 b6 H5 HB5 HN5 HF5
  go_wp2
  go_end0
  refine ⟨rfl, ?_, HF6.out⟩
  have := H6.out
  rw [HM.out]; exact this
end Go.Proofs.Ytnoedkebmpfagaa
