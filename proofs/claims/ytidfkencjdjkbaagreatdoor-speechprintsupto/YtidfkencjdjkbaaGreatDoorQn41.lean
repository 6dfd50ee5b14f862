import Derived.Test.YtidfkencjdjkbaaGreatDoorQn38
import Derived.Test.YtidfkencjdjkbaaGreatDoorQn37
/-
  The document's own answer, chapter 15, Print: the text of a question, kind by kind.
-/
namespace Go.Proofs.YtidfkencjdjkbaaGreatDoor
open Go.RowKit Sp
open Go.Lib (decDigits itoa)

set_option maxHeartbeats 4000000 in
set_option maxRecDepth 100000 in
theorem txt8 (x : Qu) (hSx : Say x) (hTx : TX x) (w : World) (B : Nat) (cs : List Value) (lv : Int) (hB : B ≤ w.heap.size) (h : QI w B (.node 8 [] 0 0 [] 1 x .none) cs) (hz : sizQ (.node 8 [] 0 0 [] 1 x .none) ≤ 1073741824) (h1 : 1 ≤ lv) (h64 : lv ≤ 64) : Calls Tryz.prog 18 #[.agg cs.toArray, .int .i64 lv] w (TxA (okT (.node 8 [] 0 0 [] 1 x .none) (lvl lv)) (tQ (.node 8 [] 0 0 [] 1 x .none)) (200000000 * sizQ (.node 8 [] 0 0 [] 1 x .none)) w) := by
  obtain ⟨wv, ka, kc, rfl, hTI, hnk, -, -, -, -, -, -, -, hkids⟩ := h
  have HTI : Hid (TI w B [] wv) := hTI
  obtain ⟨wa, wc, rfl, hwc, -, -, -⟩ := hTI
  have HL0 : Hid (([] : List Tst).length = 0) := rfl
  rw [HL0.out]
  obtain ⟨m, hm⟩ : ∃ m : Nat, lvl lv = m + 1 := ⟨(64 - lv).toNat, by unfold lvl; omega⟩
  have HM : Hid (lvl lv = m + 1) := hm
  have HM1 : Hid (lvl (lv + 1) = m) := by unfold lvl at *; rw [Hid]; omega
  have hgl : ¬ (64 : Int) < lv := by omega
  have hgd : decide ((64 : Int) < lv) = false := by simpa using hgl
  obtain ⟨W0, hW0⟩ : ∃ W0, w.alloc (.cells #[.int .i64 8, .string (tx []), .int .i64 0, .int .i64 0, .slice wa 0 wc, .slice ka 1 kc] 25) = W0 := ⟨_, rfl⟩
  have HB0 : Hid (Below w.heap.size w W0) := hW0 ▸ ba _ _
  have HX0 : Hid (Bx W0 w.heap.size [.int .i64 8, .string (tx []), .int .i64 0, .int .i64 0, .slice wa 0 wc, .slice ka 1 kc]) := hW0 ▸ Bx.new w [.int .i64 8, .string (tx []), .int .i64 0, .int .i64 0, .slice wa 0 wc, .slice ka 1 kc] 25 rfl
  have z0 := (HX0.out 0 _ rfl).c
  have z1 := (HX0.out 1 _ rfl).c
  have z2 := (HX0.out 2 _ rfl).c
  have z3 := (HX0.out 3 _ rfl).c
  have z4 := (HX0.out 4 _ rfl).c
  have z5 := (HX0.out 5 _ rfl).c
  rw [hm]
  obtain ⟨r, hr⟩ : ∃ r, okT (.node 8 [] 0 0 [] 1 x .none) (m + 1) = r := ⟨_, rfl⟩
  have HR : Hid (okT (.node 8 [] 0 0 [] 1 x .none) (m + 1) = r) := hr
  rw [hr]
  clear hr
  obtain ⟨bb, ob, rfl, hbb, ⟨xs, hxs, hxc⟩, hyy⟩ := hkids (by omega) (by omega)
  have hbw : bb < w.heap.size := by omega
  obtain ⟨kdx, cx, lox, hix, wax, wnx, wcx, kax, knx, kcx, rfl⟩ := hxs.six
  have HXC : Hid (∀ (j : Nat) u, [.int .i64 kdx, .string (tx cx), .int .i64 lox, .int .i64 hix, .slice wax wnx wcx, .slice kax knx kcx][j]? = some u → w.cell? ⟨bb, ob + j, none⟩ = some u) := hxc
  have HXS : Hid (QI w B x [.int .i64 kdx, .string (tx cx), .int .i64 lox, .int .i64 hix, .slice wax wnx wcx, .slice kax knx kcx]) := hxs
  clear hxc hxs
  have hsz : sizQ (.node 8 [] 0 0 [] 1 x .none) = 1 + sizQ x := by simp [sizQ]
  rw [hsz] at hz ⊢
  clear hkids hyy hm
  have kx := brk43 hTx W0 B _ lv (Nat.le_trans hB HB0.out.size) (QI.keep (HB0.out.mono hB) _ HXS.out) hSx (by omega) (by omega) (by omega)
  have xp0 : W0.cell? ⟨bb, ob, none⟩ = some (.int .i64 kdx) := (HB0.out.cell (p := ⟨bb, ob, none⟩) hbw).trans (HXC.out 0 _ rfl)
  have xp1 : W0.cell? ⟨bb, ob + 1, none⟩ = some (.string (tx cx)) := (HB0.out.cell (p := ⟨bb, ob + 1, none⟩) hbw).trans (HXC.out 1 _ rfl)
  have xp2 : W0.cell? ⟨bb, ob + 2, none⟩ = some (.int .i64 lox) := (HB0.out.cell (p := ⟨bb, ob + 2, none⟩) hbw).trans (HXC.out 2 _ rfl)
  have xp3 : W0.cell? ⟨bb, ob + 3, none⟩ = some (.int .i64 hix) := (HB0.out.cell (p := ⟨bb, ob + 3, none⟩) hbw).trans (HXC.out 3 _ rfl)
  have xp4 : W0.cell? ⟨bb, ob + 4, none⟩ = some (.slice wax wnx wcx) := (HB0.out.cell (p := ⟨bb, ob + 4, none⟩) hbw).trans (HXC.out 4 _ rfl)
  have xp5 : W0.cell? ⟨bb, ob + 5, none⟩ = some (.slice kax knx kcx) := (HB0.out.cell (p := ⟨bb, ob + 5, none⟩) hbw).trans (HXC.out 5 _ rfl)
  obtain ⟨b1, hb1⟩ : ∃ b, okT x (lvl (lv + 1)) = b := ⟨_, rfl⟩
  rw [hb1] at kx
  have HB1 : Hid (okT x (lvl (lv + 1)) = b1) := hb1
  clear hb1
  go_enter Tryz.func18, Tryz.ntmps18
  go_wp2_with fail
  clear hW0
  refine kx.mono ?_
  rintro e w1 ⟨⟨s1, rfl, hs1, hl1⟩, hbw1⟩
  have HS1 : Hid _ := hs1
  have HW1 : Hid (Below w.heap.size w w1) := bt HB0.out hbw1
  have HX1 : Hid (Bx w1 w.heap.size [.int .i64 8, .string (tx []), .int .i64 0, .int .i64 0, .slice wa 0 wc, .slice (some ⟨bb, ob, none⟩) 1 kc]) := HX0.out.at hbw1
  clear kx hs1 hbw1 z0 z1 z2 z3 z4 z5 xp0 xp1 xp2 xp3 xp4 xp5
  have z0 := (HX1.out 0 _ rfl).c
  have z1 := (HX1.out 1 _ rfl).c
  have z2 := (HX1.out 2 _ rfl).c
  have z3 := (HX1.out 3 _ rfl).c
  have z4 := (HX1.out 4 _ rfl).c
  have z5 := (HX1.out 5 _ rfl).c
  have a1 := tx_addR (([116, 111, 116, 97, 108, 32] : By)) (s1)
  have l1 : ¬ (9223372036854775807 < (([116, 111, 116, 97, 108, 32] : By) : By).length + (s1 : By).length) := by first | omega | (simp only [List.length_cons, List.length_nil]; omega)
  obtain ⟨S1, hT1⟩ : ∃ S, (([116, 111, 116, 97, 108, 32] : By) : By) ++ (s1) = S := ⟨_, rfl⟩
  rw [hT1] at a1
  have hq1 : S1.length = (([116, 111, 116, 97, 108, 32] : By) : By).length + (s1 : By).length := by rw [← hT1, List.length_append]
  try simp only [List.length_cons, List.length_nil] at hq1
  have HFI : Hid (b1 = true → S1 = tQ (.node 8 [] 0 0 [] 1 x .none)) := fun e1 => by
    subst hT1
    rw [HS1.out e1]
    rfl
  have HOK : Hid (r = b1) := by
    have e1 := HB1.out
    rw [HM1.out] at e1
    rw [Hid, ← HR.out, okT_one (by decide), e1]
  have hfl : S1.length ≤ 200000000 * (1 + sizQ x) := by omega
  obtain rfl : b1 = r := HOK.out.symm
  clear hT1
  go_wp2
  go_ret2
  exact ⟨⟨S1, rfl, HFI.out, by omega⟩, HW1.out⟩
end Go.Proofs.YtidfkencjdjkbaaGreatDoor

/-
  PACKAGE speech, Print: a text, whole; what Print calls.
-/
namespace Go.Proofs.YtidfkencjdjkbaaGreatDoor
open Go.RowKit Sp
open Go.Lib (decDigits itoa)

theorem info5 : (Tryz.prog.info? 5).map (·.size) = some 1 := by kernel_rfl
set_option maxHeartbeats 1000000 in
set_option maxRecDepth 100000 in
theorem string_any {w : World} {B R : Nat} {l last : By} (h : Wtr w B R l last) (h0 : l ≠ []) : Calls Tryz.prog 36 #[.pointer (some ⟨R, 0, none⟩)] w fun e w' => e = .returned (.string (tx l)) ∧ Below B w w' := by
  obtain ⟨p, hB, v, hbk, hown, hne⟩ := h.one
  have hl0 : l.length ≠ 0 := by simpa using h0
  obtain ⟨g, cap, cur, rfl, hbg, hg, hnc, hcm, hcs, htake⟩ : ∃ g cap cur, v = .slice (some ⟨g, 0, none⟩) l.length cap ∧ B ≤ g ∧ w.heap[g]? = some (.cells cur 5 (0, 0)) ∧ l.length ≤ cap ∧ cap ≤ maxLen ∧ cur.size = cap * 1 ∧ cur.toList.take (l.length * 1) = Lib.byteCells l := by
    rcases hown.2 with ⟨_, hz⟩ | ⟨g, cap, cur, hv, r⟩
    · exact absurd hz hl0
    · exact ⟨g, cap, cur, hv, r⟩
  have c1 : w.drew.cell? ⟨R, 1, none⟩ = some (.slice (some ⟨g, 0, none⟩) l.length cap) := by
    have : w.drew.heap[R]? = some (.cells #[p, .slice (some ⟨g, 0, none⟩) l.length cap, .string (tx last)] 87 (0, 0)) := hbk
    rw [Lib.cell_of_heap this]; rfl
  have hSD : (Builtin.unsafeSliceData_ #[83] 120 #[.slice (some ⟨g, 0, none⟩) l.length cap]).run Tryz.prog w.drew = .ok (.pointer (some ⟨g, 0, none⟩)) w.drew :=
    Lib.run_unsafeSliceData_row _ _ _ _ _ _ (by omega)
  have hUS : (Builtin.unsafeString_ #[120, 3] 9 #[.pointer (some ⟨g, 0, none⟩), .int .i64 l.length]).run Tryz.prog w.drew = .ok (.string ⟨l.toArray⟩) (w.drew.freeze ⟨g, 0, none⟩ l.length) := by
    refine Lib.run_unsafeString_row w.drew 120 3 9 5 Tryz.underlying120 (by kernel_rfl) g cur.size (by have hg' : w.drew.heap[g]? = some (.cells cur 5 (0, 0)) := hg; simp [World.shape?, hg']) l h0 (by omega) (by unfold maxLen at hcm; omega) ?_
    intro j x hx
    have := hown.cells (g := g) rfl j (.int .u8 x.toNat) (by simp [Lib.byteCells, hx])
    exact this
  go_enter Tryz.func36, Tryz.ntmps36
  go_wp2
  go_region
  all_goals (go_wp2; go_ret; exact ⟨rfl, Lib.below_freeze (Below.drew (Below.refl B w)) (p := ⟨g, 0, none⟩) hbg _⟩)
theorem TI.mono {w : World} {B B' : Nat} {l : List Tst} {v : Value} (h : TI w B l v) (hB : B ≤ B') : TI w B' l v := by
  obtain ⟨a, c, h1, h2, h3, h4, h5⟩ := h
  refine ⟨a, c, h1, h2, h3, h4, fun hne => ?_⟩
  obtain ⟨b, o, e1, e2, e3⟩ := h5 hne
  exact ⟨b, o, e1, Nat.lt_of_lt_of_le e2 hB, e3⟩
theorem QI.mono {w : World} {B B' : Nat} (hB : B ≤ B') : ∀ (q : Qu) {cs : List Value}, QI w B q cs → QI w B' q cs
  | .none, _, h => h
  | .node k c l h' wh n x y, cs, h => by
    obtain ⟨wv, ka, kc, h1, h2, h3, h4, h5, h6, h7, h8, h9, h10, h11⟩ := h
    refine ⟨wv, ka, kc, h1, h2.mono hB, h3, h4, h5, h6, h7, h8, h9, h10, fun n1 n2 => ?_⟩
    obtain ⟨b, o, e1, e2, ⟨xs, e3, e4⟩, e5⟩ := h11 n1 n2
    refine ⟨b, o, e1, Nat.lt_of_lt_of_le e2 hB, ⟨xs, QI.mono hB x e3, e4⟩, fun n3 => ?_⟩
    obtain ⟨ys, e6, e7⟩ := e5 n3
    exact ⟨ys, QI.mono hB y e6, e7⟩
theorem PT.mono {B B' : Nat} {w : World} (h : PT B w) (hb : B ≤ B') : PT B' w := fun w' k => h w' (k.mono hb)
def WrP (w : World) (q : Qu) (e : Ending) (w' : World) : Prop := (if (txtT q).length ≤ 65536 then e = .returned (.string (tx (txtT q))) else e = .panicked (chn 4 0)) ∧ Below w.heap.size w w'
set_option maxHeartbeats 1000000 in
set_option maxRecDepth 100000 in
theorem written_any (q : Qu) (hq : Say q) (w : World) (B : Nat) (cs : List Value) (hB : B ≤ w.heap.size) (h5 : 5 ≤ B) (hI : QI w B q cs) (hG : Glo w) (hpt : PT B w) : Calls Tryz.prog 15 #[.agg cs.toArray] w (WrP w q) := by
  have HI : Hid (QI w w.heap.size q cs) := QI.mono hB q hI
  have HG : Hid (Glo w) := hG
  have HP : Hid (PT w.heap.size w) := hpt.mono hB
  have HQ : Hid (Say q) := hq
  have h5' : 5 ≤ w.heap.size := Nat.le_trans h5 hB
  obtain ⟨k, c, lo, hi, wa, wn, wc, ka, kn, kc, rfl⟩ := hI.six
  obtain ⟨W1, hW1⟩ : ∃ W1, (w.alloc (.cells #[.int .i64 k, .string (tx c), .int .i64 lo, .int .i64 hi, .slice wa wn wc, .slice ka kn kc] 25)).alloc (.cells #[.pointer none, .slice none 0 0, .string ⟨#[]⟩] 87) = W1 := ⟨_, rfl⟩
  have hb0 : Below w.heap.size w W1 := hW1 ▸ bal (ba _ _) _
  have HX : Hid (Kbx W1 w.heap.size #[.int .i64 k, .string (tx c), .int .i64 lo, .int .i64 hi, .slice wa wn wc, .slice ka kn kc] 25) := hW1 ▸ (Kbx.new w _ _).at (ba _ _)
  have HK : Hid (Kbx W1 (w.heap.size + 1) #[.pointer none, .slice none 0 0, .string ⟨#[]⟩] 87) := by
    have e : (w.alloc (.cells #[.int .i64 k, .string (tx c), .int .i64 lo, .int .i64 hi, .slice wa wn wc, .slice ka kn kc] 25)).heap.size = w.heap.size + 1 := by simp
    rw [← hW1, ← e]
    exact Kbx.new _ _ _
  have HW : Hid (Wg w.heap.size (w.heap.size + 1) [] W1) := ⟨.inl ⟨Nat.le_succ _, _, HK.out, ⟨rfl, .inl ⟨rfl, rfl⟩⟩, by simp [Value.ownBlock]⟩, by simp [wrs]⟩
  have z0 := HX.out.c 0 _ rfl
  have z1 := HX.out.c 1 _ rfl
  have z2 := HX.out.c 2 _ rfl
  have z3 := HX.out.c 3 _ rfl
  have z4 := HX.out.c 4 _ rfl
  have z5 := HX.out.c 5 _ rfl
  have HBL : Hid (Below w.heap.size w W1) := hb0
  have k1 := wq_any (B := w.heap.size) (R := w.heap.size + 1) h5' q hq W1 [] _ HW.out (QI.keep hb0 q HI.out) (HG.out.at hb0) (HP.out.on hb0)
  rw [List.nil_append] at k1
  have HT : Hid (txtT q = wrs [] (qtx q)) := txtT_qtx q
  have HN : Hid (txtT q ≠ []) := txtT_ne hq
  clear hq hI hG hpt hb0
  go_enter Tryz.func15, Tryz.ntmps15
  go_wp2_with fail
  clear hW1
  refine k1.mono ?_
  rintro e w2 (⟨rfl, hw2, hk2⟩ | ⟨rfl, hn2, hb2⟩)
  · have ks := string_any hw2.t (by rw [← HT.out]; exact HN.out)
    have HLE : Hid ((txtT q).length ≤ 65536) := by rw [Hid, HT.out]; exact hw2.n
    have HB2 : Hid (Below w.heap.size w w2) := HBL.out.trans hk2.b
    rw [← HT.out] at ks
    clear hw2 hk2 k1
    go_wp2_with fail
    refine ks.mono ?_
    rintro e w3 ⟨rfl, hb3⟩
    go_wp2
    go_ret
    exact ⟨by rw [if_pos HLE.out]; rfl, HB2.out.trans hb3⟩
  · rw [← HT.out] at hn2
    go_wp2
    exact ⟨rfl, by rw [if_neg hn2], HBL.out.trans hb2⟩
set_option maxRecDepth 100000 in
set_option maxHeartbeats 1000000 in
theorem pr1 {Q : Exit → Act → World → Prop} (hQp : ∀ c a d v w, Q (.panic c) (Act.put a d v) w → Q (.panic c) a w) (t1 t2 t3 t4 t5 t6 t7 t8 t9 t10 t11 t12 t13 t14 t15 t16 t17 t18 t19 : Value) (A : World) (X : Nat) (k : Int) (c : By) (lo hi : Int) (wa : Option Addr) (wn wc : Nat) (ka : Option Addr) (kn kc : Nat) (r : Bool)
    (h0 : ∀ W : World, Below A.heap.size A W → W.cell? ⟨X, 0, none⟩ = some (.int .i64 k))
    (h1 : ∀ W : World, Below A.heap.size A W → W.cell? ⟨X, 1, none⟩ = some (.string (tx c)))
    (h2 : ∀ W : World, Below A.heap.size A W → W.cell? ⟨X, 2, none⟩ = some (.int .i64 lo))
    (h3 : ∀ W : World, Below A.heap.size A W → W.cell? ⟨X, 3, none⟩ = some (.int .i64 hi))
    (h4 : ∀ W : World, Below A.heap.size A W → W.cell? ⟨X, 4, none⟩ = some (.slice wa wn wc))
    (h5 : ∀ W : World, Below A.heap.size A W → W.cell? ⟨X, 5, none⟩ = some (.slice ka kn kc))
    (hN : ∀ W : World, Below A.heap.size A W → Calls Tryz.prog 13 #[] W fun e W' => ∃ b, e = .returned (.map (some b)) ∧ Wds W' b ∧ W.heap.size ≤ b ∧ b < W'.heap.size ∧ Below W.heap.size W W')
    (hC : ∀ W : World, ∀ b : Nat, Below A.heap.size A W → Wds W b → Calls Tryz.prog 14 #[.map (some b), .agg #[.int .i64 k, .string (tx c), .int .i64 lo, .int .i64 hi, .slice wa wn wc, .slice ka kn kc]] W (CkP W r))
    (hEnd : (r = true → ∀ (b : Nat) (W : World), Below A.heap.size A W → Q .normal { tmps := #[.pointer (some ⟨X, 0, none⟩), t1, t2, t3, t4, .map (some b), .agg #[.int .i64 k, .string (tx c), .int .i64 lo, .int .i64 hi, .slice wa wn wc, .slice ka kn kc], .tuple #[], t8, t9, t10, t11, t12, t13, t14, t15, t16, t17, t18, t19], defers := [] } W) ∧ (r = false → ∀ (a : Act) (W : World), a.defers = [] → Below A.heap.size A W → Q (.panic (chn 2 0)) a W)) :
    (Code.region 1 #[{ dst := some 5, op := Go.Op.call { callee := Go.Callee.value (Go.Operand.func 13), args := #[], argTypes := #[] }, type := 47, pos := "speech.go:9", after := #[], guard := none }, { dst := some 6, op := Go.Op.load 25 (Go.Operand.tmp 0), type := 25, pos := "speech.go:9", after := #[], guard := none }, { dst := some 7, op := Go.Op.call { callee := Go.Callee.value (Go.Operand.func 14), args := #[Go.Operand.tmp 5, Go.Operand.tmp 6], argTypes := #[47, 25] }, type := 0, pos := "speech.go:9", after := #[{ on := 0, ground := Go.Ground.data }, { on := 1, ground := Go.Ground.data }, { on := 0, ground := Go.Ground.chain }], guard := none }] true).wp Tryz.prog Q { tmps := #[.pointer (some ⟨X, 0, none⟩), t1, t2, t3, t4, t5, t6, t7, t8, t9, t10, t11, t12, t13, t14, t15, t16, t17, t18, t19], defers := [] } A := by
  have HEND : Hid ((r = true → ∀ (b : Nat) (W : World), Below A.heap.size A W → Q .normal { tmps := #[.pointer (some ⟨X, 0, none⟩), t1, t2, t3, t4, .map (some b), .agg #[.int .i64 k, .string (tx c), .int .i64 lo, .int .i64 hi, .slice wa wn wc, .slice ka kn kc], .tuple #[], t8, t9, t10, t11, t12, t13, t14, t15, t16, t17, t18, t19], defers := [] } W) ∧ (r = false → ∀ (a : Act) (W : World), a.defers = [] → Below A.heap.size A W → Q (.panic (chn 2 0)) a W)) := hEnd
  have H_h0 : Hid (∀ W : World, Below A.heap.size A W → W.cell? ⟨X, 0, none⟩ = some (.int .i64 k)) := h0
  have H_h1 : Hid (∀ W : World, Below A.heap.size A W → W.cell? ⟨X, 1, none⟩ = some (.string (tx c))) := h1
  have H_h2 : Hid (∀ W : World, Below A.heap.size A W → W.cell? ⟨X, 2, none⟩ = some (.int .i64 lo)) := h2
  have H_h3 : Hid (∀ W : World, Below A.heap.size A W → W.cell? ⟨X, 3, none⟩ = some (.int .i64 hi)) := h3
  have H_h4 : Hid (∀ W : World, Below A.heap.size A W → W.cell? ⟨X, 4, none⟩ = some (.slice wa wn wc)) := h4
  have H_h5 : Hid (∀ W : World, Below A.heap.size A W → W.cell? ⟨X, 5, none⟩ = some (.slice ka kn kc)) := h5
  have H_hN : Hid (∀ W : World, Below A.heap.size A W → Calls Tryz.prog 13 #[] W fun e W' => ∃ b, e = .returned (.map (some b)) ∧ Wds W' b ∧ W.heap.size ≤ b ∧ b < W'.heap.size ∧ Below W.heap.size W W') := hN
  have H_hC : Hid (∀ W : World, ∀ b : Nat, Below A.heap.size A W → Wds W b → Calls Tryz.prog 14 #[.map (some b), .agg #[.int .i64 k, .string (tx c), .int .i64 lo, .int .i64 hi, .slice wa wn wc, .slice ka kn kc]] W (CkP W r)) := hC
  have G0 : Hid (Below A.heap.size A A.drew) := (Below.refl _ _).drew
  clear hEnd h0 h1 h2 h3 h4 h5 hN hC
  refine wp_region_any (by kernel_rfl) ?_
  change wpAny _ _ _ _ _ _ _ (World.drew _)
  obtain ⟨V0, hV0⟩ : ∃ V0, A.drew = V0 := ⟨_, rfl⟩
  rw [hV0] at G0 ⊢
  clear hV0
  refine wpAny_of_J (S := fun W => Below A.heap.size A W) (J := fun _ => true) _ _ _ _ ?_
  refine wpAnyJ_take (i := 1) (oi := { dst := some 6, op := Go.Op.load 25 (Go.Operand.tmp 0), type := 25, pos := "speech.go:9", after := #[], guard := none }) (v := .agg #[.int .i64 k, .string (tx c), .int .i64 lo, .int .i64 hi, .slice wa wn wc, .slice ka kn kc]) rfl rfl (waits_of (by kernel_rfl)) (by kernel_rfl) (by kernel_rfl) (by kernel_rfl) (fun _ _ _ h => hQp _ _ _ _ _ h) (Or.inl ⟨by rfl, fun W hS => ?_⟩) G0.out ?_
  · have z0 := H_h0.out W hS; have z1 := H_h1.out W hS; have z2 := H_h2.out W hS; have z3 := H_h3.out W hS; have z4 := H_h4.out W hS; have z5 := H_h5.out W hS; go_simp
  simp only [Act.put, List.setIfInBounds_toArray, List.set_cons_zero, List.set_cons_succ]
  refine wpAnyJ_ready (rs := [0]) (by kernel_rfl) (by simp) ?_
  refine AllJ.cons (o := { dst := some 5, op := Go.Op.call { callee := Go.Callee.value (Go.Operand.func 13), args := #[], argTypes := #[] }, type := 47, pos := "speech.go:9", after := #[], guard := none }) rfl (fun K hK => ?_) AllJ.nil
  have kk := H_hN.out V0 G0.out
  go_simp
  go_at_call 13
  refine kk.mono ?_
  rintro e1 W1 ⟨b, rfl, hwd, hb1, hb2, hW⟩
  have G1 : Hid (Below A.heap.size A W1) := bt G0.out hW
  clear hW kk
  refine hK.out _ _ (fun _ => G1.out) ?_
  clear hK K
  try simp only [Act.put, List.setIfInBounds_toArray, List.set_cons_zero, List.set_cons_succ]
  refine wpAnyJ_ready (rs := [2]) (by kernel_rfl) (by simp) ?_
  refine AllJ.cons (o := { dst := some 7, op := Go.Op.call { callee := Go.Callee.value (Go.Operand.func 14), args := #[Go.Operand.tmp 5, Go.Operand.tmp 6], argTypes := #[47, 25] }, type := 0, pos := "speech.go:9", after := #[{ on := 0, ground := Go.Ground.data }, { on := 1, ground := Go.Ground.data }, { on := 0, ground := Go.Ground.chain }], guard := none }) rfl (fun K hK => ?_) AllJ.nil
  have kk := H_hC.out W1 b G1.out hwd
  go_simp
  go_at_call 14
  refine kk.mono ?_
  rintro e1 W9 ⟨he, hb9⟩
  have G9 : Below A.heap.size A W9 := bt G1.out hb9
  cases r with
  | true =>
    obtain rfl : e1 = .returned (.tuple #[]) := he
    refine hK.out _ _ (fun _ => G9) ?_
    clear hK K kk
    try simp only [Act.put, List.setIfInBounds_toArray, List.set_cons_zero, List.set_cons_succ]
    exact wpAnyJ_done (by kernel_rfl) (HEND.out.1 rfl b W9 G9) _
  | false =>
    obtain rfl : e1 = .panicked (chn 2 0) := he
    exact HEND.out.2 rfl _ W9 rfl G9
end Go.Proofs.YtidfkencjdjkbaaGreatDoor

/-
  PACKAGE speech: Print.
-/
namespace Go.Proofs.YtidfkencjdjkbaaGreatDoor
open Go.RowKit Sp

/-- is it too much for Read? -/
def mchB (t : By) : Bool := match readT t with
  | .error (c, _) => decide (c = 4)
  | .ok _ => false
/-- PRINT -/
def prtT (q : Qu) : Except Int By := if ckB q then (if (txtT q).length ≤ 65536 then (if mchB (txtT q) then .error 4 else .ok (txtT q)) else .error 4) else .error 2
def P1P (w : World) (q : Qu) (e : Ending) (w' : World) : Prop := (match prtT q with | .ok t => e = .returned (.string (tx t)) | .error c => e = .panicked (chn c 0)) ∧ Below w.heap.size w w'
/-- what Read tells of a fault -/
theorem cap_err {t : By} {w w' : World} {e : Ending} (h : CaP t w e w') : ∃ (k : Int) (c : By) (lo hi : Int) (wa : Option Addr) (wn wc : Nat) (ka : Option Addr) (kn kc : Nat) (er at' : Int), e = .returned (.tuple #[.agg #[.int .i64 k, .string (tx c), .int .i64 lo, .int .i64 hi, .slice wa wn wc, .slice ka kn kc], .agg #[.int .i64 er, .int .i64 at']]) ∧ decide (er = 4) = mchB t := by
  obtain ⟨h, _⟩ := h
  unfold mchB
  cases hr : readT t with
  | ok a =>
    rw [hr] at h
    obtain ⟨cs, rfl, hq⟩ := h
    obtain ⟨k, c, l, hh, a4, n4, c4, a5, n5, c5, rfl⟩ := hq.six
    exact ⟨_, _, _, _, _, _, _, _, _, _, 0, 0, rfl, rfl⟩
  | error x =>
    obtain ⟨c, x⟩ := x
    rw [hr] at h
    exact ⟨0, [], 0, 0, none, 0, 0, none, 0, 0, c, x, h, rfl⟩
theorem prt_ck {q : Qu} (h : ckB q = false) : prtT q = .error 2 := by simp [prtT, h]
theorem prt_long {q : Qu} (h : ckB q = true) (h2 : ¬ (txtT q).length ≤ 65536) : prtT q = .error 4 := by simp [prtT, h, h2]
theorem prt_much {q : Qu} (h : ckB q = true) (h2 : (txtT q).length ≤ 65536) (h3 : mchB (txtT q) = true) : prtT q = .error 4 := by simp [prtT, h, h2, h3]
theorem prt_ok {q : Qu} (h : ckB q = true) (h2 : (txtT q).length ≤ 65536) (h3 : mchB (txtT q) = false) : prtT q = .ok (txtT q) := by simp [prtT, h, h2, h3]
set_option maxHeartbeats 2000000 in
set_option maxRecDepth 100000 in
theorem print1_any (q : Qu) (w : World) (B X : Nat) (cs : List Value) (hB : B ≤ w.heap.size) (h5 : 5 ≤ B) (hI : QI w B q cs) (hX : Bx w X cs) (hG : Glo w) (hpt : PT B w) : Calls Tryz.prog 12 #[.pointer (some ⟨X, 0, none⟩)] w (P1P w q) := by
  have HI : Hid (QI w B q cs) := hI
  have HG : Hid (Glo w) := hG
  have HP : Hid (PT B w) := hpt
  obtain ⟨k, c, lo, hi, wa, wn, wc, ka, kn, kc, rfl⟩ := hI.six
  have HX : Hid (Bx w X [.int .i64 k, .string (tx c), .int .i64 lo, .int .i64 hi, .slice wa wn wc, .slice ka kn kc]) := hX
  obtain ⟨r, hr⟩ : ∃ r, ckB q = r := ⟨_, rfl⟩
  have HR : Hid (ckB q = r) := hr
  clear hI hG hpt hX hr
  go_enter Tryz.func12, Tryz.ntmps12
  go_wp2_with fail
  refine pr1 (fun _ _ d _ _ h => by cases d <;> exact h) _ _ _ _ _ _ _ _ _ _ _ _ _ _ _ _ _ _ _ w X k c lo hi wa wn wc ka kn kc r
    (fun W hW => ((HX.out.at hW) 0 _ rfl).c) (fun W hW => ((HX.out.at hW) 1 _ rfl).c) (fun W hW => ((HX.out.at hW) 2 _ rfl).c) (fun W hW => ((HX.out.at hW) 3 _ rfl).c) (fun W hW => ((HX.out.at hW) 4 _ rfl).c) (fun W hW => ((HX.out.at hW) 5 _ rfl).c)
    (fun W _ => known_any W) (fun W b hW hwd => HR.out ▸ check_any q W B _ (Nat.le_trans hB hW.size) (QI.keep (hW.mono hB) q HI.out) hwd) ⟨?_, ?_⟩
  · rintro rfl b w1 hb1
    have HB1 : Hid (Below w.heap.size w w1) := hb1
    have HX1 : Hid (Bx w1 X [.int .i64 k, .string (tx c), .int .i64 lo, .int .i64 hi, .slice wa wn wc, .slice ka kn kc]) := HX.out.at hb1
    have z0 := (HX1.out 0 _ rfl).c
    have z1 := (HX1.out 1 _ rfl).c
    have z2 := (HX1.out 2 _ rfl).c
    have z3 := (HX1.out 3 _ rfl).c
    have z4 := (HX1.out 4 _ rfl).c
    have z5 := (HX1.out 5 _ rfl).c
    have HS : Hid (Say q) := say_of_ck q _ HI.out HR.out
    have k1 := written_any q HS.out w1 B _ (Nat.le_trans hB hb1.size) h5 (QI.keep (hb1.mono hB) q HI.out) (HG.out.at hb1) (HP.out.on (hb1.mono hB))
    clear hb1
    go_wp2_with fail
    refine k1.mono ?_
    rintro e w2 ⟨he, hb2⟩
    have HB2 : Hid (Below w.heap.size w w2) := bt HB1.out hb2
    clear hb2 k1
    by_cases hle : (txtT q).length ≤ 65536
    · rw [if_pos hle] at he
      subst he
      have HLE : Hid ((txtT q).length ≤ 65536) := hle
      obtain ⟨t, ht⟩ : ∃ t, txtT q = t := ⟨_, rfl⟩
      have HT : Hid (txtT q = t) := ht
      have kr := read_any t (by rw [← ht]; omega) w2 (HG.out.at HB2.out)
      rw [ht]
      clear hle ht z0 z1 z2 z3 z4 z5
      go_wp2_with fail
      refine kr.mono ?_
      rintro e w3 hcap
      have HB3 : Hid (Below w.heap.size w w3) := bt HB2.out hcap.2
      obtain ⟨ak, ac, al, ah, awa, awn, awc, aka, akn, akc, er, at', rfl, hm⟩ := cap_err hcap
      have HM : Hid (decide (er = 4) = mchB t) := hm
      clear hcap kr hm
      obtain ⟨W4, hW4⟩ : ∃ W4, (w3.alloc (.cells #[.int .i64 ak, .string (tx ac), .int .i64 al, .int .i64 ah, .slice awa awn awc, .slice aka akn akc] 25)).alloc (.cells #[.int .i64 er, .int .i64 at'] 36) = W4 := ⟨_, rfl⟩
      have HB4 : Hid (Below w.heap.size w W4) := hW4 ▸ bal (bal HB3.out _) _
      have HF : Hid (Bx W4 (w3.heap.size + 1) [.int .i64 er, .int .i64 at']) := hW4 ▸ Bx.new (w3.alloc (.cells #[.int .i64 ak, .string (tx ac), .int .i64 al, .int .i64 ah, .slice awa awn awc, .slice aka akn akc] 25)) [.int .i64 er, .int .i64 at'] 36 (by simp)
      have f0 := (HF.out 0 _ rfl).c
      by_cases he4 : er = 4
      · subst he4
        have HP4 : Hid (prtT q = .error 4) := prt_much HR.out HLE.out (by rw [HT.out, ← HM.out]; rfl)
        have km := must_no 4 0 W4
        go_wp2_with fail
        clear hW4
        refine km.mono ?_
        rintro e w5 ⟨rfl, rfl⟩
        go_wp2
        exact ⟨rfl, by rw [HP4.out], HB4.out⟩
      · have HP4 : Hid (prtT q = .ok t) := by rw [Hid, prt_ok HR.out HLE.out (by rw [HT.out, ← HM.out]; simpa using he4), HT.out]
        have d4 : (er == 4) = false := by simpa using he4
        have d5 : (er != 4) = true := by simpa using he4
        have km := must_ok 4 0 W4
        go_wp2_with fail
        clear hW4
        refine km.mono ?_
        rintro e w5 ⟨rfl, rfl⟩
        go_wp2
        go_ret
        exact ⟨by rw [HP4.out]; rfl, HB4.out⟩
    · rw [if_neg hle] at he
      subst he
      have HP4 : Hid (prtT q = .error 4) := prt_long HR.out hle
      clear hle
      go_wp2
      exact ⟨rfl, by rw [HP4.out], HB2.out⟩
  · rintro rfl a W hd hb
    exact ⟨hd, by rw [P1P, prt_ck HR.out]; exact ⟨rfl, hb⟩⟩
end Go.Proofs.YtidfkencjdjkbaaGreatDoor
