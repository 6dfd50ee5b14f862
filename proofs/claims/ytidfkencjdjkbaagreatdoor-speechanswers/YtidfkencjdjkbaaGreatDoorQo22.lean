import Derived.Test.YtidfkencjdjkbaaGreatDoorQo21
/-
  PACKAGE speech, Print: within, sum.
-/
namespace Go.Proofs.YtidfkencjdjkbaaGreatDoor
open Go.RowKit Sp
open Go.Lib (decDigits itoa)

set_option maxRecDepth 100000 in
set_option maxHeartbeats 1000000 in
theorem sum3 {Q : Exit → Act → World → Prop} (hQp : ∀ c a d v w, Q (.panic c) (Act.put a d v) w → Q (.panic c) a w) (t1 t2 t3 t4 t5 t6 t8 t9 t10 t11 t12 t13 t14 t15 t16 t17 t18 t19 : Value) (A : World) (B R : Nat) (hB : B ≤ A.heap.size) (Y : Nat) (kq : Int) (cq : By) (loq hiq : Int) (waq : Option Addr) (wnq wcq : Nat) (kaq : Option Addr) (knq kcq : Nat) (L : List By) (b : Bool)
    (h0 : ∀ W : World, Kpw B R A W → W.cell? ⟨Y, 0, none⟩ = some (.int .i64 kq))
    (h1 : ∀ W : World, Kpw B R A W → W.cell? ⟨Y, 1, none⟩ = some (.string (tx cq)))
    (h2 : ∀ W : World, Kpw B R A W → W.cell? ⟨Y, 2, none⟩ = some (.int .i64 loq))
    (h3 : ∀ W : World, Kpw B R A W → W.cell? ⟨Y, 3, none⟩ = some (.int .i64 hiq))
    (h4 : ∀ W : World, Kpw B R A W → W.cell? ⟨Y, 4, none⟩ = some (.slice waq wnq wcq))
    (h5 : ∀ W : World, Kpw B R A W → W.cell? ⟨Y, 5, none⟩ = some (.slice kaq knq kcq))
    (hI : ∀ W : World, Below A.heap.size A W → Calls Tryz.prog 75 #[.agg #[.int .i64 kq, .string (tx cq), .int .i64 loq, .int .i64 hiq, .slice waq wnq wcq, .slice kaq knq kcq]] W fun e W' => e = .returned (.bool b) ∧ Below W.heap.size W W')
    (hP : ∀ W : World, Below A.heap.size A W → Calls Tryz.prog 74 #[.pointer (some ⟨R, 0, none⟩), .agg #[.int .i64 kq, .string (tx cq), .int .i64 loq, .int .i64 hiq, .slice waq wnq wcq, .slice kaq knq kcq], .bool b] W (WgP B R W L))
    (hEnd : ∀ W : World, Wg B R L W → Kpw B R A W → Q .normal { tmps := #[.pointer (some ⟨R, 0, none⟩), t1, t2, t3, t4, t5, t6, .pointer (some ⟨Y, 0, none⟩), t8, t9, t10, t11, t12, t13, t14, .pointer (some ⟨R, 0, none⟩), .agg #[.int .i64 kq, .string (tx cq), .int .i64 loq, .int .i64 hiq, .slice waq wnq wcq, .slice kaq knq kcq], .agg #[.int .i64 kq, .string (tx cq), .int .i64 loq, .int .i64 hiq, .slice waq wnq wcq, .slice kaq knq kcq], .bool b, .tuple #[]], defers := [] } W) (hEnP : ∀ (a : Act) (W : World), a.defers = [] → ¬ (wrs [] L).length ≤ 65536 → Below B A W → Q (.panic (chn 4 0)) a W) :
    (Code.region 3 #[{ dst := some 15, op := Go.Op.move (Go.Operand.tmp 0), type := 115, pos := "writer.go:86", after := #[], guard := none }, { dst := some 16, op := Go.Op.load 25 (Go.Operand.tmp 7), type := 25, pos := "writer.go:86", after := #[], guard := none }, { dst := some 17, op := Go.Op.load 25 (Go.Operand.tmp 7), type := 25, pos := "writer.go:86", after := #[], guard := none }, { dst := some 18, op := Go.Op.call { callee := Go.Callee.value (Go.Operand.func 75), args := #[Go.Operand.tmp 17], argTypes := #[25] }, type := 4, pos := "writer.go:86", after := #[{ on := 2, ground := Go.Ground.data }], guard := none }, { dst := some 19, op := Go.Op.call { callee := Go.Callee.value (Go.Operand.func 74), args := #[Go.Operand.tmp 15, Go.Operand.tmp 16, Go.Operand.tmp 18], argTypes := #[115, 25, 4] }, type := 0, pos := "writer.go:86", after := #[{ on := 0, ground := Go.Ground.data }, { on := 1, ground := Go.Ground.data }, { on := 3, ground := Go.Ground.data }, { on := 3, ground := Go.Ground.chain }], guard := none }] true).wp Tryz.prog Q { tmps := #[.pointer (some ⟨R, 0, none⟩), t1, t2, t3, t4, t5, t6, .pointer (some ⟨Y, 0, none⟩), t8, t9, t10, t11, t12, t13, t14, t15, t16, t17, t18, t19], defers := [] } A := by
  have HEND : Hid (∀ W : World, Wg B R L W → Kpw B R A W → Q .normal { tmps := #[.pointer (some ⟨R, 0, none⟩), t1, t2, t3, t4, t5, t6, .pointer (some ⟨Y, 0, none⟩), t8, t9, t10, t11, t12, t13, t14, .pointer (some ⟨R, 0, none⟩), .agg #[.int .i64 kq, .string (tx cq), .int .i64 loq, .int .i64 hiq, .slice waq wnq wcq, .slice kaq knq kcq], .agg #[.int .i64 kq, .string (tx cq), .int .i64 loq, .int .i64 hiq, .slice waq wnq wcq, .slice kaq knq kcq], .bool b, .tuple #[]], defers := [] } W) := hEnd
  have HENP : Hid (∀ (a : Act) (W : World), a.defers = [] → ¬ (wrs [] L).length ≤ 65536 → Below B A W → Q (.panic (chn 4 0)) a W) := hEnP
  have H_h0 : Hid (∀ W : World, Kpw B R A W → W.cell? ⟨Y, 0, none⟩ = some (.int .i64 kq)) := h0
  have H_h1 : Hid (∀ W : World, Kpw B R A W → W.cell? ⟨Y, 1, none⟩ = some (.string (tx cq))) := h1
  have H_h2 : Hid (∀ W : World, Kpw B R A W → W.cell? ⟨Y, 2, none⟩ = some (.int .i64 loq)) := h2
  have H_h3 : Hid (∀ W : World, Kpw B R A W → W.cell? ⟨Y, 3, none⟩ = some (.int .i64 hiq)) := h3
  have H_h4 : Hid (∀ W : World, Kpw B R A W → W.cell? ⟨Y, 4, none⟩ = some (.slice waq wnq wcq)) := h4
  have H_h5 : Hid (∀ W : World, Kpw B R A W → W.cell? ⟨Y, 5, none⟩ = some (.slice kaq knq kcq)) := h5
  have H_hI : Hid (∀ W : World, Below A.heap.size A W → Calls Tryz.prog 75 #[.agg #[.int .i64 kq, .string (tx cq), .int .i64 loq, .int .i64 hiq, .slice waq wnq wcq, .slice kaq knq kcq]] W fun e W' => e = .returned (.bool b) ∧ Below W.heap.size W W') := hI
  have H_hP : Hid (∀ W : World, Below A.heap.size A W → Calls Tryz.prog 74 #[.pointer (some ⟨R, 0, none⟩), .agg #[.int .i64 kq, .string (tx cq), .int .i64 loq, .int .i64 hiq, .slice waq wnq wcq, .slice kaq knq kcq], .bool b] W (WgP B R W L)) := hP
  have G0 : Hid (Below A.heap.size A A.drew) := (Below.refl _ _).drew
  clear hEnd hEnP h0 h1 h2 h3 h4 h5 hI hP
  refine wp_region_any (by kernel_rfl) ?_
  change wpAny _ _ _ _ _ _ _ (World.drew _)
  obtain ⟨V0, hV0⟩ : ∃ V0, A.drew = V0 := ⟨_, rfl⟩
  rw [hV0] at G0 ⊢
  clear hV0
  refine wpAny_of_J (S := fun W => Kpw B R A W) (J := fun _ => true) _ _ _ _ ?_
  refine wpAnyJ_take (i := 0) (oi := { dst := some 15, op := Go.Op.move (Go.Operand.tmp 0), type := 115, pos := "writer.go:86", after := #[], guard := none }) (v := .pointer (some ⟨R, 0, none⟩)) rfl rfl (waits_of (by kernel_rfl)) (by kernel_rfl) (by kernel_rfl) (by kernel_rfl) (fun _ _ _ h => hQp _ _ _ _ _ h) (Or.inl ⟨by rfl, fun W hS => ?_⟩) (kpw_of hB G0.out) ?_
  · go_simp
  simp only [Act.put, List.setIfInBounds_toArray, List.set_cons_zero, List.set_cons_succ]
  refine wpAnyJ_take (i := 1) (oi := { dst := some 16, op := Go.Op.load 25 (Go.Operand.tmp 7), type := 25, pos := "writer.go:86", after := #[], guard := none }) (v := .agg #[.int .i64 kq, .string (tx cq), .int .i64 loq, .int .i64 hiq, .slice waq wnq wcq, .slice kaq knq kcq]) rfl rfl (waits_of (by kernel_rfl)) (by kernel_rfl) (by kernel_rfl) (by kernel_rfl) (fun _ _ _ h => hQp _ _ _ _ _ h) (Or.inl ⟨by rfl, fun W hS => ?_⟩) (kpw_of hB G0.out) ?_
  · have z0 := H_h0.out W hS; have z1 := H_h1.out W hS; have z2 := H_h2.out W hS; have z3 := H_h3.out W hS; have z4 := H_h4.out W hS; have z5 := H_h5.out W hS; go_simp
  simp only [Act.put, List.setIfInBounds_toArray, List.set_cons_zero, List.set_cons_succ]
  refine wpAnyJ_take (i := 2) (oi := { dst := some 17, op := Go.Op.load 25 (Go.Operand.tmp 7), type := 25, pos := "writer.go:86", after := #[], guard := none }) (v := .agg #[.int .i64 kq, .string (tx cq), .int .i64 loq, .int .i64 hiq, .slice waq wnq wcq, .slice kaq knq kcq]) rfl rfl (waits_of (by kernel_rfl)) (by kernel_rfl) (by kernel_rfl) (by kernel_rfl) (fun _ _ _ h => hQp _ _ _ _ _ h) (Or.inl ⟨by rfl, fun W hS => ?_⟩) (kpw_of hB G0.out) ?_
  · have z0 := H_h0.out W hS; have z1 := H_h1.out W hS; have z2 := H_h2.out W hS; have z3 := H_h3.out W hS; have z4 := H_h4.out W hS; have z5 := H_h5.out W hS; go_simp
  simp only [Act.put, List.setIfInBounds_toArray, List.set_cons_zero, List.set_cons_succ]
  refine wpAnyJ_ready (rs := [3]) (by kernel_rfl) (by simp) ?_
  refine AllJ.cons (o := { dst := some 18, op := Go.Op.call { callee := Go.Callee.value (Go.Operand.func 75), args := #[Go.Operand.tmp 17], argTypes := #[25] }, type := 4, pos := "writer.go:86", after := #[{ on := 2, ground := Go.Ground.data }], guard := none }) rfl (fun K hK => ?_) AllJ.nil
  have kk := H_hI.out V0 G0.out
  go_simp
  go_at_call 75
  refine kk.mono ?_
  rintro e1 W1 ⟨rfl, hW⟩
  have G1 : Hid (Below A.heap.size A W1) := bt G0.out hW
  clear hW kk
  refine hK.out _ _ (fun _ => (kpw_of hB G1.out)) ?_
  clear hK K
  try simp only [Act.put, List.setIfInBounds_toArray, List.set_cons_zero, List.set_cons_succ]
  refine wpAnyJ_ready (rs := [4]) (by kernel_rfl) (by simp) ?_
  refine AllJ.cons (o := { dst := some 19, op := Go.Op.call { callee := Go.Callee.value (Go.Operand.func 74), args := #[Go.Operand.tmp 15, Go.Operand.tmp 16, Go.Operand.tmp 18], argTypes := #[115, 25, 4] }, type := 0, pos := "writer.go:86", after := #[{ on := 0, ground := Go.Ground.data }, { on := 1, ground := Go.Ground.data }, { on := 3, ground := Go.Ground.data }, { on := 3, ground := Go.Ground.chain }], guard := none }) rfl (fun K hK => ?_) AllJ.nil
  have kk := H_hP.out W1 G1.out
  go_simp
  go_at_call 74
  refine kk.mono ?_
  rintro e1 W9 (⟨rfl, hw9, hk9⟩ | ⟨rfl, hn9, hb9⟩)
  · have S9 : Kpw B R A W9 := (kpw_of hB G1.out).trans hk9
    refine hK.out _ _ (fun _ => S9) ?_
    clear hK K kk
    try simp only [Act.put, List.setIfInBounds_toArray, List.set_cons_zero, List.set_cons_succ]
    exact wpAnyJ_done (by kernel_rfl) (HEND.out W9 hw9 S9) _
  · exact HENP.out _ _ rfl hn9 ((G1.out.mono hB).trans hb9)
/-- the pieces of a question -/
def qtx (q : Qu) : List By := (chks q).map Ck.txt
/-- a question is written -/
def QW (B R : Nat) (q : Qu) : Prop := ∀ (w : World) (l : List By) (cs : List Value), Wg B R l w → QI w B q cs → Glo w → PT B w → Calls Tryz.prog 35 #[.pointer (some ⟨R, 0, none⟩), .agg cs.toArray] w (WgP B R w (l ++ qtx q))
def wtx (b : Bool) (q : Qu) : List By := (brcC b (chks q)).map Ck.txt
theorem wtx_f (q : Qu) : wtx false q = qtx q := rfl
theorem wtx_t (q : Qu) : wtx true q = [sOpen] ++ qtx q ++ [sShut] := by simp [wtx, qtx, brcC, Ck.txt]
theorem QI.six {w : World} {B : Nat} {q : Qu} {cs : List Value} (h : QI w B q cs) : ∃ (k : Int) (c : By) (lo hi : Int) (wa : Option Addr) (wn wc : Nat) (ka : Option Addr) (kn kc : Nat), cs = [.int .i64 k, .string (tx c), .int .i64 lo, .int .i64 hi, .slice wa wn wc, .slice ka kn kc] := by
  cases q with
  | none => exact h.elim
  | node k c lo hi wh n x y =>
    obtain ⟨wv, ka, kc, rfl, ⟨wa, wc, rfl, _⟩, _⟩ := h
    exact ⟨k, c, lo, hi, wa, wh.length, wc, ka, n, kc, rfl⟩
set_option maxHeartbeats 1000000 in
theorem within_of {B R : Nat} {q : Qu} (hQ : QW B R q) (h5 : 5 ≤ B) (b : Bool) (w : World) (l : List By) (cs : List Value) (h : Wg B R l w) (hI : QI w B q cs) (hG : Glo w) (hpt : PT B w) : Calls Tryz.prog 74 #[.pointer (some ⟨R, 0, none⟩), .agg cs.toArray, .bool b] w (WgP B R w (l ++ wtx b q)) := by
  have HQ : Hid (QW B R q) := hQ
  have HI : Hid (QI w B q cs) := hI
  have HG : Hid (Glo w) := hG
  have HP : Hid (PT B w) := hpt
  have HW : Hid (Wg B R l w) := h
  obtain ⟨k, c, lo, hi, wa, wn, wc, ka, kn, kc, rfl⟩ := hI.six
  obtain ⟨W0, hW0⟩ : ∃ W0, w.alloc (.cells #[.int .i64 k, .string (tx c), .int .i64 lo, .int .i64 hi, .slice wa wn wc, .slice ka kn kc] 25) = W0 := ⟨_, rfl⟩
  have hb0 : Below w.heap.size w W0 := hW0 ▸ ba _ _
  have HX : Hid (Kbx W0 w.heap.size #[.int .i64 k, .string (tx c), .int .i64 lo, .int .i64 hi, .slice wa wn wc, .slice ka kn kc] 25) := hW0 ▸ Kbx.new w _ _
  have hXR : w.heap.size ≠ R := Nat.ne_of_gt HW.out.t.lt
  have HW0 : Hid (Wg B R l W0) := HW.out.at hb0
  have HK0 : Hid (Kpw B R w W0) := HW.out.kp hb0
  clear hQ hI hG hpt h hb0
  cases b with
  | false =>
    rw [wtx_f]
    have z0 := HX.out.c 0 _ rfl
    have z1 := HX.out.c 1 _ rfl
    have z2 := HX.out.c 2 _ rfl
    have z3 := HX.out.c 3 _ rfl
    have z4 := HX.out.c 4 _ rfl
    have z5 := HX.out.c 5 _ rfl
    have k1 := HQ.out W0 l _ HW0.out (QI.keep HK0.out.b q HI.out) (HG.out.bel h5 HK0.out.b) (HP.out.on HK0.out.b)
    go_enter Tryz.func74, Tryz.ntmps74
    go_wp2_with fail
    clear hW0
    refine k1.mono ?_
    rintro e w1 (⟨rfl, hw1, hk1⟩ | ⟨rfl, hn1, hb1⟩)
    · go_wp2
      go_end0
      exact .inl ⟨rfl, hw1, HK0.out.trans hk1⟩
    · go_wp2
      exact ⟨rfl, .inr ⟨rfl, hn1, HK0.out.b.trans hb1⟩⟩
  | true =>
    rw [wtx_t, ← List.append_assoc, ← List.append_assoc]
    obtain ⟨L, hL⟩ : ∃ L, l ++ [sOpen] ++ qtx q ++ [sShut] = L := ⟨_, rfl⟩
    have HL : Hid (l ++ [sOpen] ++ qtx q ++ [sShut] = L) := hL
    rw [hL]
    clear hL
    have kp := put_new HW0.out [sOpen] #[.string (tx [40])] rfl 1 rfl (by omega) (by decide)
    go_enter Tryz.func74, Tryz.ntmps74
    go_wp2_with fail
    clear hW0
    refine kp.mono ?_
    rintro e w1 (⟨rfl, hw1, hk1⟩ | ⟨rfl, hn1, hb1⟩)
    · have HW1 : Hid (Wg B R (l ++ [sOpen]) w1) := hw1
      have HK1 : Hid (Kpw B R w w1) := HK0.out.trans hk1
      have HX1 : Hid (Kbx w1 w.heap.size #[.int .i64 k, .string (tx c), .int .i64 lo, .int .i64 hi, .slice wa wn wc, .slice ka kn kc] 25) := HX.out.kp hk1 hXR (by decide)
      have z0 := HX1.out.c 0 _ rfl
      have z1 := HX1.out.c 1 _ rfl
      have z2 := HX1.out.c 2 _ rfl
      have z3 := HX1.out.c 3 _ rfl
      have z4 := HX1.out.c 4 _ rfl
      have z5 := HX1.out.c 5 _ rfl
      have k1 := HQ.out w1 (l ++ [sOpen]) _ HW1.out (QI.keep HK1.out.b q HI.out) (HG.out.bel h5 HK1.out.b) (HP.out.on HK1.out.b)
      clear hw1 hk1 kp
      go_wp2_with fail
      refine k1.mono ?_
      rintro e w2 (⟨rfl, hw2, hk2⟩ | ⟨rfl, hn2, hb2⟩)
      · have HW2 : Hid (Wg B R (l ++ [sOpen] ++ qtx q) w2) := hw2
        have HK2 : Hid (Kpw B R w w2) := HK1.out.trans hk2
        have kp := put_new HW2.out [sShut] #[.string (tx [41])] rfl 1 rfl (by omega) (by decide)
        clear hw2 hk2 k1 z0 z1 z2 z3 z4 z5
        go_wp2_with fail
        refine kp.mono ?_
        rintro e w3 (⟨rfl, hw3, hk3⟩ | ⟨rfl, hn3, hb3⟩)
        · rw [HL.out] at hw3
          go_wp2
          go_end0
          exact .inl ⟨rfl, hw3, HK2.out.trans hk3⟩
        · rw [HL.out] at hn3
          go_wp2
          exact ⟨rfl, .inr ⟨rfl, hn3, HK2.out.b.trans hb3⟩⟩
      · go_wp2
        exact ⟨rfl, HL.out ▸ WgP.more _ hn2 (HK1.out.b.trans hb2)⟩
    · go_wp2
      exact ⟨rfl, HL.out ▸ (by rw [List.append_assoc (l ++ [sOpen])]; exact WgP.more _ hn1 (HK0.out.b.trans hb1))⟩
set_option maxHeartbeats 1000000 in
theorem sum_of {B R : Nat} {x y : Qu} (hX : QW B R x) (hY : QW B R y) (h5 : 5 ≤ B) (s : By) (hs : s.length ≤ 65536) (w : World) (l : List By) (xs ys : List Value) (h : Wg B R l w) (hIx : QI w B x xs) (hIy : QI w B y ys) (hG : Glo w) (hpt : PT B w) : Calls Tryz.prog 72 #[.pointer (some ⟨R, 0, none⟩), .string (tx s), .agg xs.toArray, .agg ys.toArray] w (WgP B R w (l ++ qtx x ++ [s] ++ wtx (isS y) y)) := by
  have HX : Hid (QW B R x) := hX
  have HY : Hid (QW B R y) := hY
  have HIx : Hid (QI w B x xs) := hIx
  have HIy : Hid (QI w B y ys) := hIy
  have HG : Hid (Glo w) := hG
  have HP : Hid (PT B w) := hpt
  have HW : Hid (Wg B R l w) := h
  obtain ⟨kp, cp, lop, hip, wap, wnp, wcp, kap, knp, kcp, rfl⟩ := hIx.six
  obtain ⟨kq, cq, loq, hiq, waq, wnq, wcq, kaq, knq, kcq, rfl⟩ := hIy.six
  have HB : Hid ((decide (kq = 4) || decide (kq = 5)) = isS y) := by
    rw [Hid]
    cases y with
    | none => exact hIy.elim
    | node k2 c2 lo2 hi2 wh2 n2 x2 y2 =>
      obtain ⟨wv, ka, kc, e, _⟩ := hIy
      simp only [List.cons.injEq, Value.int.injEq, true_and] at e
      rw [e.1]
      rfl
  obtain ⟨W1, hW1⟩ : ∃ W1, (w.alloc (.cells #[.int .i64 kp, .string (tx cp), .int .i64 lop, .int .i64 hip, .slice wap wnp wcp, .slice kap knp kcp] 25)).alloc (.cells #[.int .i64 kq, .string (tx cq), .int .i64 loq, .int .i64 hiq, .slice waq wnq wcq, .slice kaq knq kcq] 25) = W1 := ⟨_, rfl⟩
  have hb0 : Below w.heap.size w W1 := hW1 ▸ bal (ba _ _) _
  have HXp : Hid (Kbx W1 w.heap.size #[.int .i64 kp, .string (tx cp), .int .i64 lop, .int .i64 hip, .slice wap wnp wcp, .slice kap knp kcp] 25) := hW1 ▸ (Kbx.new w _ _).at (ba _ _)
  have HXq : Hid (Kbx W1 (w.heap.size + 1) #[.int .i64 kq, .string (tx cq), .int .i64 loq, .int .i64 hiq, .slice waq wnq wcq, .slice kaq knq kcq] 25) := by
    have e : (w.alloc (.cells #[.int .i64 kp, .string (tx cp), .int .i64 lop, .int .i64 hip, .slice wap wnp wcp, .slice kap knp kcp] 25)).heap.size = w.heap.size + 1 := by simp
    rw [← hW1, ← e]
    exact Kbx.new _ _ _
  have hRlt := HW.out.t.lt
  have hXR : w.heap.size + 1 ≠ R := by omega
  have HW0 : Hid (Wg B R l W1) := HW.out.at hb0
  have HK0 : Hid (Kpw B R w W1) := HW.out.kp hb0
  have z0 := HXp.out.c 0 _ rfl
  have z1 := HXp.out.c 1 _ rfl
  have z2 := HXp.out.c 2 _ rfl
  have z3 := HXp.out.c 3 _ rfl
  have z4 := HXp.out.c 4 _ rfl
  have z5 := HXp.out.c 5 _ rfl
  have k1 := HX.out W1 l _ HW0.out (QI.keep HK0.out.b x HIx.out) (HG.out.bel h5 HK0.out.b) (HP.out.on HK0.out.b)
  obtain ⟨L, hL⟩ : ∃ L, l ++ qtx x ++ [s] ++ wtx (isS y) y = L := ⟨_, rfl⟩
  have HL : Hid (l ++ qtx x ++ [s] ++ wtx (isS y) y = L) := hL
  rw [hL]
  clear hX hY hIx hIy hG hpt h hb0 hL
  go_enter Tryz.func72, Tryz.ntmps72
  go_wp2_with fail
  clear hW1
  refine k1.mono ?_
  rintro e w1 (⟨rfl, hw1, hk1⟩ | ⟨rfl, hn1, hb1⟩)
  · have HW1 : Hid (Wg B R (l ++ qtx x) w1) := hw1
    have HK1 : Hid (Kpw B R w w1) := HK0.out.trans hk1
    have HX1 : Hid (Kbx w1 (w.heap.size + 1) #[.int .i64 kq, .string (tx cq), .int .i64 loq, .int .i64 hiq, .slice waq wnq wcq, .slice kaq knq kcq] 25) := HXq.out.kp hk1 hXR (by decide)
    have kpt := put_new HW1.out [s] #[.string (tx s)] rfl 1 rfl (by omega) (by simpa using hs)
    clear hw1 hk1 k1 z0 z1 z2 z3 z4 z5
    go_wp2_with fail
    refine kpt.mono ?_
    rintro e w2 (⟨rfl, hw2, hk2⟩ | ⟨rfl, hn2, hb2⟩)
    · have HW2 : Hid (Wg B R (l ++ qtx x ++ [s]) w2) := hw2
      have HK2 : Hid (Kpw B R w w2) := HK1.out.trans hk2
      have HX2 : Hid (Kbx w2 (w.heap.size + 1) #[.int .i64 kq, .string (tx cq), .int .i64 loq, .int .i64 hiq, .slice waq wnq wcq, .slice kaq knq kcq] 25) := HX1.out.kp hk2 hXR (by decide)
      clear hw2 hk2 kpt
      go_wp2_with fail
      refine sum3 (fun _ _ d _ _ h => by cases d <;> exact h) _ _ _ _ _ _ _ _ _ _ _ _ _ _ _ _ _ _ w2 B R HW2.out.le (w.heap.size + 1) kq cq loq hiq waq wnq wcq kaq knq kcq L (isS y)
        (fun W hW => (HX2.out.kp hW hXR (by decide)).c 0 _ rfl) (fun W hW => (HX2.out.kp hW hXR (by decide)).c 1 _ rfl) (fun W hW => (HX2.out.kp hW hXR (by decide)).c 2 _ rfl) (fun W hW => (HX2.out.kp hW hXR (by decide)).c 3 _ rfl) (fun W hW => (HX2.out.kp hW hXR (by decide)).c 4 _ rfl) (fun W hW => (HX2.out.kp hW hXR (by decide)).c 5 _ rfl)
        (fun W _ => isSum_any _ _ _ _ _ _ _ HB.out W) (fun W hW => HL.out ▸ within_of HY.out h5 (isS y) W _ _ (HW2.out.at hW) (QI.keep (HK2.out.b.trans (hW.mono HW2.out.le)) y HIy.out) (HG.out.bel h5 (HK2.out.b.trans (hW.mono HW2.out.le))) (HP.out.on (HK2.out.b.trans (hW.mono HW2.out.le)))) ?_ ?_
      · intro w3 hw3 hk3
        go_wp2
        go_end0
        exact .inl ⟨rfl, hw3, HK2.out.trans hk3⟩
      · exact fun a W hd hn hb => ⟨hd, .inr ⟨rfl, hn, HK2.out.b.trans hb⟩⟩
    · go_wp2
      exact ⟨rfl, HL.out ▸ WgP.more _ hn2 (HK1.out.b.trans hb2)⟩
  · go_wp2
    exact ⟨rfl, HL.out ▸ (by rw [List.append_assoc (l ++ qtx x)]; exact WgP.more _ hn1 (HK0.out.b.trans hb1))⟩
end Go.Proofs.YtidfkencjdjkbaaGreatDoor
