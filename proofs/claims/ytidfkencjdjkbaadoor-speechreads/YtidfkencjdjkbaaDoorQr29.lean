import Derived.Test.YtidfkencjdjkbaaDoorQr28
import Derived.Laws.StructEq
/-
  The document's own Same, of one question in two places.
-/
namespace Go.Proofs.YtidfkencjdjkbaaDoor
open Go.RowKit Sp

/-- what was read can come in -/
theorem ti_of {lo : Nat} {w : World} {l : List Tst} {v : Value} (h : TsV lo w l v) (hl : WOk l) : TI w w.heap.size l v := by
  have hb : ∀ t ∈ l, t.1.length ≤ 9223372036854775807 ∧ (-9223372036854775808 ≤ t.2.1 ∧ t.2.1 ≤ 9223372036854775807) ∧ (-9223372036854775808 ≤ t.2.2 ∧ t.2.2 ≤ 9223372036854775807) := fun t ht => by
    obtain ⟨h1, h2, h3, h4, h5⟩ := hl.2 t ht
    have := nmd_len h1
    exact ⟨by omega, ⟨by omega, by omega⟩, ⟨by omega, by omega⟩⟩
  rcases h with ⟨rfl, rfl⟩ | ⟨g, c, rfl, h2, h3, h4, h5, h6⟩
  · exact ⟨none, 0, rfl, Nat.le_refl _, by simp, hb, fun hne => absurd rfl hne⟩
  · exact ⟨_, c, rfl, h2, by omega, hb, fun _ => ⟨g, 0, rfl, h4, fun i t ht j u hu => by rw [Nat.zero_add]; exact h6 i t ht j u hu⟩⟩
theorem qi_of {lo : Nat} {w : World} : ∀ (q : Qu) {cs : List Value}, QV lo w q cs → Say q → QI w w.heap.size q cs
  | .none, _, h, _ => h.elim
  | .node k c l h' wh n x y, cs, h, hs => by
    obtain ⟨wv, kv, rfl, hT, hk⟩ := h
    have hS : WOk wh ∧ c.length ≤ 32 ∧ (0 < k ∧ k ≤ 10) ∧ (-1048576 ≤ l ∧ l ≤ 1048576) ∧ (-1048576 ≤ h' ∧ h' ≤ 1048576) ∧ (n = 0 → x = .none) ∧ (n ≤ 1 → y = .none) ∧ (1 ≤ n → Say x) ∧ (2 ≤ n → Say y) := by
      rcases hs with ⟨rfl, rfl, rfl, rfl, rfl, hwh, rfl, rfl⟩ | ⟨rfl, hc, hlo, hhi, rfl, hwh, rfl, rfl⟩ | ⟨rfl, hc, rfl, rfl, rfl, hwh, rfl, rfl⟩ | ⟨hk4, rfl, rfl, rfl, rfl, rfl, hx, hy⟩ | ⟨rfl, rfl, hlo, rfl, rfl, rfl, hx, rfl⟩ | ⟨rfl, rfl, rfl, rfl, rfl, rfl, hx, rfl⟩ | ⟨rfl, rfl, hlo, rfl, rfl, rfl, hx, rfl⟩ | ⟨rfl, rfl, hlo, hhi, rfl, rfl, hx, rfl⟩
      · exact ⟨hwh, by simp, by omega, by omega, by omega, fun _ => rfl, fun _ => rfl, fun h => by omega, fun h => by omega⟩
      · exact ⟨hwh, nmd_len hc, by omega, hlo, hhi, fun _ => rfl, fun _ => rfl, fun h => by omega, fun h => by omega⟩
      · exact ⟨hwh, nmd_len hc, by omega, by omega, by omega, fun _ => rfl, fun _ => rfl, fun h => by omega, fun h => by omega⟩
      · exact ⟨⟨by simp, by simp⟩, by simp, by rcases hk4 with rfl | rfl | rfl <;> exact ⟨by decide, by decide⟩, by omega, by omega, fun h => by omega, fun h => by omega, fun _ => hx, fun _ => hy⟩
      · exact ⟨⟨by simp, by simp⟩, by simp, by omega, hlo, by omega, fun h => by omega, fun _ => rfl, fun _ => hx, fun h => by omega⟩
      · exact ⟨⟨by simp, by simp⟩, by simp, by omega, by omega, by omega, fun h => by omega, fun _ => rfl, fun _ => hx, fun h => by omega⟩
      · exact ⟨⟨by simp, by simp⟩, by simp, by omega, ⟨by omega, hlo.2⟩, by omega, fun h => by omega, fun _ => rfl, fun _ => hx, fun h => by omega⟩
      · exact ⟨⟨by simp, by simp⟩, by simp, by omega, hlo, hhi, fun h => by omega, fun _ => rfl, fun _ => hx, fun h => by omega⟩
    obtain ⟨hwh, hcl, hkb, hlb, hhb, hx0, hy0, hx, hy⟩ := hS
    have hT2 := ti_of hT hwh
    rcases hk with ⟨rfl, rfl⟩ | ⟨rfl, g, xs, rfl, h1, h2, h3, h4⟩ | ⟨rfl, g, xs, ys, rfl, h1, h2, h3, h4, h5⟩
    · exact ⟨wv, none, 0, rfl, hT2, Nat.le_refl _, by omega, by omega, by omega, by omega, by omega, hx0, hy0, fun h => by omega⟩
    · exact ⟨wv, _, 1, rfl, hT2, Nat.le_refl _, by omega, by omega, by omega, by omega, by omega, hx0, hy0, fun _ _ => ⟨g, 0, rfl, h2, ⟨xs, qi_of x h3 (hx (by omega)), fun j u hu => by rw [Nat.zero_add]; exact h4 j u hu⟩, fun h => by omega⟩⟩
    · refine ⟨wv, _, 2, rfl, hT2, Nat.le_refl _, by omega, by omega, by omega, by omega, by omega, hx0, hy0, fun _ _ => ⟨g, 0, rfl, h2, ⟨xs, qi_of x h3 (hx (by omega)), fun j u hu => ?_⟩, fun _ => ⟨ys, qi_of y h4 (hy (by omega)), fun j u hu => ?_⟩⟩⟩
      · rw [Nat.zero_add]
        exact h5 j u (by rw [List.getElem?_append_left (List.getElem?_eq_some_iff.1 hu).1]; exact hu)
      · obtain ⟨q1, q2, q3, q4, q5, q6, q7, q8, q9, q10, rfl⟩ := h3.six
        rw [Nat.zero_add]
        refine h5 (6 + j) u ?_
        rw [List.getElem?_append_right (by simp)]
        simpa using hu
/-- nothing -/
abbrev Qz : Qu := .node 0 [] 0 0 [] 0 .none .none
theorem qi_zero (w : World) (B : Nat) : QI w B Qz [.int .i64 0, .string ⟨#[]⟩, .int .i64 0, .int .i64 0, .slice none 0 0, .slice none 0 0] :=
  ⟨_, none, 0, rfl, ⟨none, 0, rfl, Nat.le_refl _, by simp, by simp, fun h => absurd rfl h⟩, Nat.le_refl _, by omega, by simp, by omega, by omega, by omega, fun _ => rfl, fun _ => rfl, fun h => by omega⟩
/-- no more than two kids -/
def Sm : Qu → Prop
  | .none => True
  | .node _ _ _ _ _ n x y => n ≤ 2 ∧ Sm x ∧ Sm y
theorem say_sm : ∀ q : Qu, Say q → Sm q
  | .none, _ => trivial
  | .node k c l h' wh n x y, hs => by
    rcases hs with ⟨rfl, rfl, rfl, rfl, rfl, hwh, rfl, rfl⟩ | ⟨rfl, hc, hlo, hhi, rfl, hwh, rfl, rfl⟩ | ⟨rfl, hc, rfl, rfl, rfl, hwh, rfl, rfl⟩ | ⟨hk, rfl, rfl, rfl, rfl, rfl, hx, hy⟩ | ⟨rfl, rfl, hlo, rfl, rfl, rfl, hx, rfl⟩ | ⟨rfl, rfl, rfl, rfl, rfl, rfl, hx, rfl⟩ | ⟨rfl, rfl, hlo, rfl, rfl, rfl, hx, rfl⟩ | ⟨rfl, rfl, hlo, hhi, rfl, rfl, hx, rfl⟩
    · exact ⟨by omega, trivial, trivial⟩
    · exact ⟨by omega, trivial, trivial⟩
    · exact ⟨by omega, trivial, trivial⟩
    · exact ⟨by omega, say_sm x hx, say_sm y hy⟩
    · exact ⟨by omega, say_sm x hx, trivial⟩
    · exact ⟨by omega, say_sm x hx, trivial⟩
    · exact ⟨by omega, say_sm x hx, trivial⟩
    · exact ⟨by omega, say_sm x hx, trivial⟩
theorem tst_struct : Tryd.prog.underlying 61 = some (.struct (Tryd.prog.fieldsOf 61)) := by rw [Program.fieldsOf, Tryd.underlying61]
theorem tst_held : Tryd.prog.stoodInHeld 61 = false := by kernel_rfl
theorem tst_guard : Tryd.prog.eqGuardType Tryd.prog.depth 61 = false := by kernel_rfl
theorem tst_fields : ∃ f0 f1 f2 : Field, (Tryd.prog.fieldsOf 61).toList = [f0, f1, f2] ∧ f0.name ≠ "_" ∧ f1.name ≠ "_" ∧ f2.name ≠ "_" ∧ f0.type = 9 ∧ f1.type = 3 ∧ f2.type = 3 ∧ f0.offset = 0 ∧ f1.offset = 1 ∧ f2.offset = 2 := by
  refine ⟨_, _, _, by rw [Program.fieldsOf, Tryd.underlying61], by decide, by decide, by decide, rfl, rfl, rfl, rfl, rfl, rfl⟩
theorem tst_neq (a : ByteArray) (s t : Int) (u : World) : (binOp .neq 61 (.agg #[.string a, .int .i64 s, .int .i64 t]) (.agg #[.string a, .int .i64 s, .int .i64 t])).run Tryd.prog u = .ok (.bool false) u := by
  obtain ⟨f0, f1, f2, hf, n0, n1, n2, t0, t1, t2, o0, o1, o2⟩ := tst_fields
  rw [run_neq_struct, run_equalIn_struct u 9999 61 _ _ tst_struct tst_held, hf]
  simp [Op.eqFields, n0, n1, n2, t0, t1, t2, o0, o1, o2, go_sem, Tryd.underlying9, Tryd.underlying3]
set_option maxRecDepth 100000 in
set_option maxHeartbeats 1000000 in
theorem sam12 {Q : Exit → Act → World → Prop} (hQp : ∀ c a d v w, Q (.panic c) (Act.put a d v) w → Q (.panic c) a w) (t0 t1 t4 t5 t7 t8 t9 t10 t11 t12 t13 t14 t15 t16 t17 t18 t19 t20 t21 t22 t23 t24 t25 t26 t27 t28 t29 t30 t31 t32 t33 t34 t35 t36 t37 t38 t39 t40 t41 t42 t43 t44 t45 t46 t47 t48 t49 t50 t51 t52 t53 t54 t55 t56 t57 t58 t59 t60 t61 t62 t63 t64 t65 t66 t67 t68 t69 t70 t71 t72 t73 t74 t75 t76 t77 t78 t79 t80 t81 t82 t83 t84 t85 t86 t87 : Value) (A : World) (X Y b o b2 o2 n kc kc2 i : Nat) (hin : i < n) (kk : Int) (ck : By) (lok hik : Int) (wak : Option Addr) (wnk wck : Nat) (kak : Option Addr) (knk kck : Nat) (km : Int) (cm : By) (lom him : Int) (wam : Option Addr) (wnm wcm : Nat) (kam : Option Addr) (knm kcm : Nat)
    (hx : ∀ W : World, Below A.heap.size A W → W.cell? ⟨X, 5, none⟩ = some (.slice (some ⟨b, o, none⟩) n kc))
    (hy : ∀ W : World, Below A.heap.size A W → W.cell? ⟨Y, 5, none⟩ = some (.slice (some ⟨b2, o2, none⟩) n kc2))
    (u0 : ∀ W : World, Below A.heap.size A W → W.cell? ⟨b, o + i * 6, none⟩ = some (.int .i64 kk))
    (u1 : ∀ W : World, Below A.heap.size A W → W.cell? ⟨b, o + i * 6 + 1, none⟩ = some (.string (tx ck)))
    (u2 : ∀ W : World, Below A.heap.size A W → W.cell? ⟨b, o + i * 6 + 2, none⟩ = some (.int .i64 lok))
    (u3 : ∀ W : World, Below A.heap.size A W → W.cell? ⟨b, o + i * 6 + 3, none⟩ = some (.int .i64 hik))
    (u4 : ∀ W : World, Below A.heap.size A W → W.cell? ⟨b, o + i * 6 + 4, none⟩ = some (.slice wak wnk wck))
    (u5 : ∀ W : World, Below A.heap.size A W → W.cell? ⟨b, o + i * 6 + 5, none⟩ = some (.slice kak knk kck))
    (v0 : ∀ W : World, Below A.heap.size A W → W.cell? ⟨b2, o2 + i * 6, none⟩ = some (.int .i64 km))
    (v1 : ∀ W : World, Below A.heap.size A W → W.cell? ⟨b2, o2 + i * 6 + 1, none⟩ = some (.string (tx cm)))
    (v2 : ∀ W : World, Below A.heap.size A W → W.cell? ⟨b2, o2 + i * 6 + 2, none⟩ = some (.int .i64 lom))
    (v3 : ∀ W : World, Below A.heap.size A W → W.cell? ⟨b2, o2 + i * 6 + 3, none⟩ = some (.int .i64 him))
    (v4 : ∀ W : World, Below A.heap.size A W → W.cell? ⟨b2, o2 + i * 6 + 4, none⟩ = some (.slice wam wnm wcm))
    (v5 : ∀ W : World, Below A.heap.size A W → W.cell? ⟨b2, o2 + i * 6 + 5, none⟩ = some (.slice kam knm kcm))
    (hC : ∀ W : World, Below A.heap.size A W → Calls Tryd.prog 7 #[.agg #[.int .i64 kk, .string (tx ck), .int .i64 lok, .int .i64 hik, .slice wak wnk wck, .slice kak knk kck], .agg #[.int .i64 km, .string (tx cm), .int .i64 lom, .int .i64 him, .slice wam wnm wcm, .slice kam knm kcm]] W fun e W' => e = .returned (.bool true) ∧ Below W.heap.size W W')
    (hEnd : ∀ W : World, Below A.heap.size A W → Q .normal { tmps := #[t0, t1, .pointer (some ⟨X, 0, none⟩), .pointer (some ⟨Y, 0, none⟩), t4, t5, .int .i64 (i : Int), t7, t8, t9, t10, t11, t12, t13, t14, t15, t16, t17, t18, t19, t20, t21, t22, t23, t24, t25, t26, t27, t28, t29, t30, t31, t32, t33, t34, t35, t36, t37, t38, t39, t40, t41, t42, t43, t44, t45, t46, t47, t48, t49, t50, t51, t52, t53, t54, t55, t56, t57, t58, t59, t60, t61, t62, t63, t64, t65, t66, t67, t68, t69, t70, t71, t72, t73, t74, .pointer (some ⟨X, 5, none⟩), .slice (some ⟨b, o, none⟩) n kc, .int .i64 (i : Int), .pointer (some ⟨b, o + i * 6, none⟩), .agg #[.int .i64 kk, .string (tx ck), .int .i64 lok, .int .i64 hik, .slice wak wnk wck, .slice kak knk kck], .pointer (some ⟨Y, 5, none⟩), .slice (some ⟨b2, o2, none⟩) n kc2, .int .i64 (i : Int), .pointer (some ⟨b2, o2 + i * 6, none⟩), .agg #[.int .i64 km, .string (tx cm), .int .i64 lom, .int .i64 him, .slice wam wnm wcm, .slice kam knm kcm], .bool true, .bool false, t87], defers := [] } W) :
    (Code.region 12 #[{ dst := some 75, op := Go.Op.fieldAddr 25 (Go.Operand.tmp 2) 5, type := 0, pos := "ref.go:304", after := #[], guard := none }, { dst := some 76, op := Go.Op.load 23 (Go.Operand.tmp 75), type := 23, pos := "ref.go:304", after := #[{ on := 0, ground := Go.Ground.data }], guard := none }, { dst := some 77, op := Go.Op.move (Go.Operand.tmp 6), type := 3, pos := "ref.go:304", after := #[], guard := none }, { dst := some 78, op := Go.Op.indexAddr 23 (Go.Operand.tmp 76) (Go.Operand.tmp 77), type := 0, pos := "ref.go:304", after := #[{ on := 1, ground := Go.Ground.data }, { on := 2, ground := Go.Ground.data }], guard := none }, { dst := some 79, op := Go.Op.load 25 (Go.Operand.tmp 78), type := 25, pos := "ref.go:304", after := #[{ on := 3, ground := Go.Ground.data }], guard := none }, { dst := some 80, op := Go.Op.fieldAddr 25 (Go.Operand.tmp 3) 5, type := 0, pos := "ref.go:304", after := #[], guard := none }, { dst := some 81, op := Go.Op.load 23 (Go.Operand.tmp 80), type := 23, pos := "ref.go:304", after := #[{ on := 5, ground := Go.Ground.data }], guard := none }, { dst := some 82, op := Go.Op.move (Go.Operand.tmp 6), type := 3, pos := "ref.go:304", after := #[], guard := none }, { dst := some 83, op := Go.Op.indexAddr 23 (Go.Operand.tmp 81) (Go.Operand.tmp 82), type := 0, pos := "ref.go:304", after := #[{ on := 6, ground := Go.Ground.data }, { on := 7, ground := Go.Ground.data }], guard := none }, { dst := some 84, op := Go.Op.load 25 (Go.Operand.tmp 83), type := 25, pos := "ref.go:304", after := #[{ on := 8, ground := Go.Ground.data }], guard := none }, { dst := some 85, op := Go.Op.call { callee := Go.Callee.value (Go.Operand.func 7), args := #[Go.Operand.tmp 79, Go.Operand.tmp 84], argTypes := #[25, 25] }, type := 4, pos := "ref.go:304", after := #[{ on := 4, ground := Go.Ground.data }, { on := 9, ground := Go.Ground.data }], guard := none }, { dst := some 86, op := Go.Op.unOp Go.UnOp.not 4 (Go.Operand.tmp 85), type := 4, pos := "ref.go:304", after := #[{ on := 10, ground := Go.Ground.data }], guard := none }] true).wp Tryd.prog Q { tmps := #[t0, t1, .pointer (some ⟨X, 0, none⟩), .pointer (some ⟨Y, 0, none⟩), t4, t5, .int .i64 (i : Int), t7, t8, t9, t10, t11, t12, t13, t14, t15, t16, t17, t18, t19, t20, t21, t22, t23, t24, t25, t26, t27, t28, t29, t30, t31, t32, t33, t34, t35, t36, t37, t38, t39, t40, t41, t42, t43, t44, t45, t46, t47, t48, t49, t50, t51, t52, t53, t54, t55, t56, t57, t58, t59, t60, t61, t62, t63, t64, t65, t66, t67, t68, t69, t70, t71, t72, t73, t74, t75, t76, t77, t78, t79, t80, t81, t82, t83, t84, t85, t86, t87], defers := [] } A := by
  have HEND : Hid (∀ W : World, Below A.heap.size A W → Q .normal { tmps := #[t0, t1, .pointer (some ⟨X, 0, none⟩), .pointer (some ⟨Y, 0, none⟩), t4, t5, .int .i64 (i : Int), t7, t8, t9, t10, t11, t12, t13, t14, t15, t16, t17, t18, t19, t20, t21, t22, t23, t24, t25, t26, t27, t28, t29, t30, t31, t32, t33, t34, t35, t36, t37, t38, t39, t40, t41, t42, t43, t44, t45, t46, t47, t48, t49, t50, t51, t52, t53, t54, t55, t56, t57, t58, t59, t60, t61, t62, t63, t64, t65, t66, t67, t68, t69, t70, t71, t72, t73, t74, .pointer (some ⟨X, 5, none⟩), .slice (some ⟨b, o, none⟩) n kc, .int .i64 (i : Int), .pointer (some ⟨b, o + i * 6, none⟩), .agg #[.int .i64 kk, .string (tx ck), .int .i64 lok, .int .i64 hik, .slice wak wnk wck, .slice kak knk kck], .pointer (some ⟨Y, 5, none⟩), .slice (some ⟨b2, o2, none⟩) n kc2, .int .i64 (i : Int), .pointer (some ⟨b2, o2 + i * 6, none⟩), .agg #[.int .i64 km, .string (tx cm), .int .i64 lom, .int .i64 him, .slice wam wnm wcm, .slice kam knm kcm], .bool true, .bool false, t87], defers := [] } W) := hEnd
  have H_hx : Hid (∀ W : World, Below A.heap.size A W → W.cell? ⟨X, 5, none⟩ = some (.slice (some ⟨b, o, none⟩) n kc)) := hx
  have H_hy : Hid (∀ W : World, Below A.heap.size A W → W.cell? ⟨Y, 5, none⟩ = some (.slice (some ⟨b2, o2, none⟩) n kc2)) := hy
  have H_u0 : Hid (∀ W : World, Below A.heap.size A W → W.cell? ⟨b, o + i * 6, none⟩ = some (.int .i64 kk)) := u0
  have H_u1 : Hid (∀ W : World, Below A.heap.size A W → W.cell? ⟨b, o + i * 6 + 1, none⟩ = some (.string (tx ck))) := u1
  have H_u2 : Hid (∀ W : World, Below A.heap.size A W → W.cell? ⟨b, o + i * 6 + 2, none⟩ = some (.int .i64 lok)) := u2
  have H_u3 : Hid (∀ W : World, Below A.heap.size A W → W.cell? ⟨b, o + i * 6 + 3, none⟩ = some (.int .i64 hik)) := u3
  have H_u4 : Hid (∀ W : World, Below A.heap.size A W → W.cell? ⟨b, o + i * 6 + 4, none⟩ = some (.slice wak wnk wck)) := u4
  have H_u5 : Hid (∀ W : World, Below A.heap.size A W → W.cell? ⟨b, o + i * 6 + 5, none⟩ = some (.slice kak knk kck)) := u5
  have H_v0 : Hid (∀ W : World, Below A.heap.size A W → W.cell? ⟨b2, o2 + i * 6, none⟩ = some (.int .i64 km)) := v0
  have H_v1 : Hid (∀ W : World, Below A.heap.size A W → W.cell? ⟨b2, o2 + i * 6 + 1, none⟩ = some (.string (tx cm))) := v1
  have H_v2 : Hid (∀ W : World, Below A.heap.size A W → W.cell? ⟨b2, o2 + i * 6 + 2, none⟩ = some (.int .i64 lom)) := v2
  have H_v3 : Hid (∀ W : World, Below A.heap.size A W → W.cell? ⟨b2, o2 + i * 6 + 3, none⟩ = some (.int .i64 him)) := v3
  have H_v4 : Hid (∀ W : World, Below A.heap.size A W → W.cell? ⟨b2, o2 + i * 6 + 4, none⟩ = some (.slice wam wnm wcm)) := v4
  have H_v5 : Hid (∀ W : World, Below A.heap.size A W → W.cell? ⟨b2, o2 + i * 6 + 5, none⟩ = some (.slice kam knm kcm)) := v5
  have H_hC : Hid (∀ W : World, Below A.heap.size A W → Calls Tryd.prog 7 #[.agg #[.int .i64 kk, .string (tx ck), .int .i64 lok, .int .i64 hik, .slice wak wnk wck, .slice kak knk kck], .agg #[.int .i64 km, .string (tx cm), .int .i64 lom, .int .i64 him, .slice wam wnm wcm, .slice kam knm kcm]] W fun e W' => e = .returned (.bool true) ∧ Below W.heap.size W W') := hC
  have G0 : Hid (Below A.heap.size A A.drew) := (Below.refl _ _).drew
  clear hEnd hx hy u0 u1 u2 u3 u4 u5 v0 v1 v2 v3 v4 v5 hC
  refine wp_region_any (by kernel_rfl) ?_
  change wpAny _ _ _ _ _ _ _ (World.drew _)
  obtain ⟨V0, hV0⟩ : ∃ V0, A.drew = V0 := ⟨_, rfl⟩
  rw [hV0] at G0 ⊢
  clear hV0
  refine wpAny_of_J (S := fun W => Below A.heap.size A W) (J := fun _ => true) _ _ _ _ ?_
  have hii : (i : Int) < (n : Int) := by omega
  refine wpAnyJ_take (i := 0) (oi := { dst := some 75, op := Go.Op.fieldAddr 25 (Go.Operand.tmp 2) 5, type := 0, pos := "ref.go:304", after := #[], guard := none }) (v := .pointer (some ⟨X, 5, none⟩)) rfl rfl (waits_of (by kernel_rfl)) (by kernel_rfl) (by kernel_rfl) (by kernel_rfl) (fun _ _ _ h => hQp _ _ _ _ _ h) (Or.inl ⟨by rfl, fun W hS => ?_⟩) G0.out ?_
  · go_simp
  simp only [Act.put, List.setIfInBounds_toArray, List.set_cons_zero, List.set_cons_succ]
  refine wpAnyJ_take (i := 1) (oi := { dst := some 76, op := Go.Op.load 23 (Go.Operand.tmp 75), type := 23, pos := "ref.go:304", after := #[{ on := 0, ground := Go.Ground.data }], guard := none }) (v := .slice (some ⟨b, o, none⟩) n kc) rfl rfl (waits_of (by kernel_rfl)) (by kernel_rfl) (by kernel_rfl) (by kernel_rfl) (fun _ _ _ h => hQp _ _ _ _ _ h) (Or.inl ⟨by rfl, fun W hS => ?_⟩) G0.out ?_
  · have z := H_hx.out W hS; go_simp
  simp only [Act.put, List.setIfInBounds_toArray, List.set_cons_zero, List.set_cons_succ]
  refine wpAnyJ_take (i := 2) (oi := { dst := some 77, op := Go.Op.move (Go.Operand.tmp 6), type := 3, pos := "ref.go:304", after := #[], guard := none }) (v := .int .i64 (i : Int)) rfl rfl (waits_of (by kernel_rfl)) (by kernel_rfl) (by kernel_rfl) (by kernel_rfl) (fun _ _ _ h => hQp _ _ _ _ _ h) (Or.inl ⟨by rfl, fun W hS => ?_⟩) G0.out ?_
  · go_simp
  simp only [Act.put, List.setIfInBounds_toArray, List.set_cons_zero, List.set_cons_succ]
  refine wpAnyJ_take (i := 3) (oi := { dst := some 78, op := Go.Op.indexAddr 23 (Go.Operand.tmp 76) (Go.Operand.tmp 77), type := 0, pos := "ref.go:304", after := #[{ on := 1, ground := Go.Ground.data }, { on := 2, ground := Go.Ground.data }], guard := none }) (v := .pointer (some ⟨b, o + i * 6, none⟩)) rfl rfl (waits_of (by kernel_rfl)) (by kernel_rfl) (by kernel_rfl) (by kernel_rfl) (fun _ _ _ h => hQp _ _ _ _ _ h) (Or.inl ⟨by rfl, fun W hS => ?_⟩) G0.out ?_
  · go_simp
  simp only [Act.put, List.setIfInBounds_toArray, List.set_cons_zero, List.set_cons_succ]
  refine wpAnyJ_take (i := 4) (oi := { dst := some 79, op := Go.Op.load 25 (Go.Operand.tmp 78), type := 25, pos := "ref.go:304", after := #[{ on := 3, ground := Go.Ground.data }], guard := none }) (v := .agg #[.int .i64 kk, .string (tx ck), .int .i64 lok, .int .i64 hik, .slice wak wnk wck, .slice kak knk kck]) rfl rfl (waits_of (by kernel_rfl)) (by kernel_rfl) (by kernel_rfl) (by kernel_rfl) (fun _ _ _ h => hQp _ _ _ _ _ h) (Or.inl ⟨by rfl, fun W hS => ?_⟩) G0.out ?_
  · have zu0 := H_u0.out W hS; have zu1 := H_u1.out W hS; have zu2 := H_u2.out W hS; have zu3 := H_u3.out W hS; have zu4 := H_u4.out W hS; have zu5 := H_u5.out W hS; go_simp
  simp only [Act.put, List.setIfInBounds_toArray, List.set_cons_zero, List.set_cons_succ]
  refine wpAnyJ_take (i := 5) (oi := { dst := some 80, op := Go.Op.fieldAddr 25 (Go.Operand.tmp 3) 5, type := 0, pos := "ref.go:304", after := #[], guard := none }) (v := .pointer (some ⟨Y, 5, none⟩)) rfl rfl (waits_of (by kernel_rfl)) (by kernel_rfl) (by kernel_rfl) (by kernel_rfl) (fun _ _ _ h => hQp _ _ _ _ _ h) (Or.inl ⟨by rfl, fun W hS => ?_⟩) G0.out ?_
  · go_simp
  simp only [Act.put, List.setIfInBounds_toArray, List.set_cons_zero, List.set_cons_succ]
  refine wpAnyJ_take (i := 6) (oi := { dst := some 81, op := Go.Op.load 23 (Go.Operand.tmp 80), type := 23, pos := "ref.go:304", after := #[{ on := 5, ground := Go.Ground.data }], guard := none }) (v := .slice (some ⟨b2, o2, none⟩) n kc2) rfl rfl (waits_of (by kernel_rfl)) (by kernel_rfl) (by kernel_rfl) (by kernel_rfl) (fun _ _ _ h => hQp _ _ _ _ _ h) (Or.inl ⟨by rfl, fun W hS => ?_⟩) G0.out ?_
  · have z := H_hy.out W hS; go_simp
  simp only [Act.put, List.setIfInBounds_toArray, List.set_cons_zero, List.set_cons_succ]
  refine wpAnyJ_take (i := 7) (oi := { dst := some 82, op := Go.Op.move (Go.Operand.tmp 6), type := 3, pos := "ref.go:304", after := #[], guard := none }) (v := .int .i64 (i : Int)) rfl rfl (waits_of (by kernel_rfl)) (by kernel_rfl) (by kernel_rfl) (by kernel_rfl) (fun _ _ _ h => hQp _ _ _ _ _ h) (Or.inl ⟨by rfl, fun W hS => ?_⟩) G0.out ?_
  · go_simp
  simp only [Act.put, List.setIfInBounds_toArray, List.set_cons_zero, List.set_cons_succ]
  refine wpAnyJ_take (i := 8) (oi := { dst := some 83, op := Go.Op.indexAddr 23 (Go.Operand.tmp 81) (Go.Operand.tmp 82), type := 0, pos := "ref.go:304", after := #[{ on := 6, ground := Go.Ground.data }, { on := 7, ground := Go.Ground.data }], guard := none }) (v := .pointer (some ⟨b2, o2 + i * 6, none⟩)) rfl rfl (waits_of (by kernel_rfl)) (by kernel_rfl) (by kernel_rfl) (by kernel_rfl) (fun _ _ _ h => hQp _ _ _ _ _ h) (Or.inl ⟨by rfl, fun W hS => ?_⟩) G0.out ?_
  · go_simp
  simp only [Act.put, List.setIfInBounds_toArray, List.set_cons_zero, List.set_cons_succ]
  refine wpAnyJ_take (i := 9) (oi := { dst := some 84, op := Go.Op.load 25 (Go.Operand.tmp 83), type := 25, pos := "ref.go:304", after := #[{ on := 8, ground := Go.Ground.data }], guard := none }) (v := .agg #[.int .i64 km, .string (tx cm), .int .i64 lom, .int .i64 him, .slice wam wnm wcm, .slice kam knm kcm]) rfl rfl (waits_of (by kernel_rfl)) (by kernel_rfl) (by kernel_rfl) (by kernel_rfl) (fun _ _ _ h => hQp _ _ _ _ _ h) (Or.inl ⟨by rfl, fun W hS => ?_⟩) G0.out ?_
  · have zv0 := H_v0.out W hS; have zv1 := H_v1.out W hS; have zv2 := H_v2.out W hS; have zv3 := H_v3.out W hS; have zv4 := H_v4.out W hS; have zv5 := H_v5.out W hS; go_simp
  simp only [Act.put, List.setIfInBounds_toArray, List.set_cons_zero, List.set_cons_succ]
  refine wpAnyJ_ready (rs := [10]) (by kernel_rfl) (by simp) ?_
  refine AllJ.cons (o := { dst := some 85, op := Go.Op.call { callee := Go.Callee.value (Go.Operand.func 7), args := #[Go.Operand.tmp 79, Go.Operand.tmp 84], argTypes := #[25, 25] }, type := 4, pos := "ref.go:304", after := #[{ on := 4, ground := Go.Ground.data }, { on := 9, ground := Go.Ground.data }], guard := none }) rfl (fun K hK => ?_) AllJ.nil
  have kk := H_hC.out V0 G0.out
  go_simp
  go_at_call 7
  refine kk.mono ?_
  rintro e1 W1 ⟨rfl, hW⟩
  have G1 : Hid (Below A.heap.size A W1) := bt G0.out hW
  clear hW kk
  refine hK.out _ _ (fun _ => G1.out) ?_
  clear hK K
  try simp only [Act.put, List.setIfInBounds_toArray, List.set_cons_zero, List.set_cons_succ]
  refine wpAnyJ_take (i := 11) (oi := { dst := some 86, op := Go.Op.unOp Go.UnOp.not 4 (Go.Operand.tmp 85), type := 4, pos := "ref.go:304", after := #[{ on := 10, ground := Go.Ground.data }], guard := none }) (v := .bool false) rfl rfl (waits_of (by kernel_rfl)) (by kernel_rfl) (by kernel_rfl) (by kernel_rfl) (fun _ _ _ h => hQp _ _ _ _ _ h) (Or.inl ⟨by rfl, fun W hS => ?_⟩) G1.out ?_
  · go_simp
  simp only [Act.put, List.setIfInBounds_toArray, List.set_cons_zero, List.set_cons_succ]
  exact wpAnyJ_done (by kernel_rfl) (HEND.out W1 G1.out) _
set_option maxHeartbeats 4000000 in
set_option maxRecDepth 100000 in
theorem same_any : ∀ (q : Qu) (w : World) (B : Nat) (cs ds : List Value), B ≤ w.heap.size → Sm q → QI w B q cs → QI w B q ds → Calls Tryd.prog 7 #[.agg cs.toArray, .agg ds.toArray] w fun e w' => e = .returned (.bool true) ∧ Below w.heap.size w w'
  | .none, _, _, _, _, _, _, h, _ => h.elim
  | .node k c lo hi wh n x y, w, B, cs, ds, hB, hsm, h1, h2 => by
    obtain ⟨hn2, hsx, hsy⟩ := hsm
    have HIX : Hid (∀ (w : World) (cs ds : List Value), B ≤ w.heap.size → QI w B x cs → QI w B x ds → Calls Tryd.prog 7 #[.agg cs.toArray, .agg ds.toArray] w fun e w' => e = .returned (.bool true) ∧ Below w.heap.size w w') := fun w cs ds hB => same_any x w B cs ds hB hsx
    have HIY : Hid (∀ (w : World) (cs ds : List Value), B ≤ w.heap.size → QI w B y cs → QI w B y ds → Calls Tryd.prog 7 #[.agg cs.toArray, .agg ds.toArray] w fun e w' => e = .returned (.bool true) ∧ Below w.heap.size w w') := fun w cs ds hB => same_any y w B cs ds hB hsy
    obtain ⟨wv, ka, kc, rfl, hTI, hnk, hn63, hc60, hk64, hl64, hh64, hx0, hy0, hkids⟩ := h1
    have HTI : Hid (TI w B wh wv) := hTI
    obtain ⟨wa, wc, rfl, hwc, hw63, _, _⟩ := hTI
    obtain ⟨wv2, ka2, kc2, rfl, hTI2, hnk2, _, _, _, _, _, _, _, hkids2⟩ := h2
    have HTI2 : Hid (TI w B wh wv2) := hTI2
    obtain ⟨wa2, wc2, rfl, hwc2, _, _, _⟩ := hTI2
    have HKI : Hid _ := hkids
    have HKI2 : Hid _ := hkids2
    obtain ⟨wl, hwl⟩ : ∃ wl, wh.length = wl := ⟨_, rfl⟩
    have HWL : Hid (wh.length = wl) := hwl
    rw [hwl] at hwc hw63 hwc2 ⊢
    obtain ⟨W0, hW0⟩ : ∃ W0, (w.alloc (.cells #[.int .i64 k, .string (tx c), .int .i64 lo, .int .i64 hi, .slice wa wl wc, .slice ka n kc] 25)).alloc (.cells #[.int .i64 k, .string (tx c), .int .i64 lo, .int .i64 hi, .slice wa2 wl wc2, .slice ka2 n kc2] 25) = W0 := ⟨_, rfl⟩
    have hb0 : Below w.heap.size w W0 := hW0 ▸ bal (ba _ _) _
    have HX : Hid (Bx W0 w.heap.size [.int .i64 k, .string (tx c), .int .i64 lo, .int .i64 hi, .slice wa wl wc, .slice ka n kc]) := hW0 ▸ (Bx.new w [.int .i64 k, .string (tx c), .int .i64 lo, .int .i64 hi, .slice wa wl wc, .slice ka n kc] 25 rfl).at (ba _ _)
    have HY : Hid (Bx W0 (w.heap.size + 1) [.int .i64 k, .string (tx c), .int .i64 lo, .int .i64 hi, .slice wa2 wl wc2, .slice ka2 n kc2]) := hW0 ▸ Bx.new (w.alloc (.cells #[.int .i64 k, .string (tx c), .int .i64 lo, .int .i64 hi, .slice wa wl wc, .slice ka n kc] 25)) [.int .i64 k, .string (tx c), .int .i64 lo, .int .i64 hi, .slice wa2 wl wc2, .slice ka2 n kc2] 25 (by simp)
    have HBL0 : Hid (Below w.heap.size w W0) := hb0
    have g0 := (HX.out 0 _ rfl).c
    have g1 := (HX.out 1 _ rfl).c
    have g2 := (HX.out 2 _ rfl).c
    have g3 := (HX.out 3 _ rfl).c
    have g4 := (HX.out 4 _ rfl).c
    have g5 := (HX.out 5 _ rfl).c
    have f0 := (HY.out 0 _ rfl).c
    have f1 := (HY.out 1 _ rfl).c
    have f2 := (HY.out 2 _ rfl).c
    have f3 := (HY.out 3 _ rfl).c
    have f4 := (HY.out 4 _ rfl).c
    have f5 := (HY.out 5 _ rfl).c
    clear hkids hkids2 hb0 hx0 hy0 hwl
    go_enter Tryd.func7, Tryd.ntmps7
    go_wp2
    clear hW0
    go_loopw [54] (fun iv wr => ∃ i : Nat, iv = .int .i64 (i : Int) ∧ i ≤ wl ∧ Below W0.heap.size W0 wr) (fun iv _ => wl - (intOf iv).toNat)
    case atStart => exact ⟨0, rfl, Nat.zero_le _, Below.refl _ _⟩
    case round =>
      obtain ⟨i, rfl, hil, hbl⟩ := hrel
      by_cases c9 : i < wl
      · obtain ⟨⟨t1, t2, t3⟩, ht⟩ : ∃ t, wh[i]? = some t := ⟨_, List.getElem?_eq_getElem (by rw [HWL.out]; exact c9)⟩
        obtain ⟨wa', wc', hv, _, _, _, hcel⟩ := HTI.out
        simp only [Value.slice.injEq] at hv
        obtain ⟨rfl, -, rfl⟩ := hv
        obtain ⟨tb, tf, rfl, htb, hcl⟩ := hcel (by intro e; rw [e] at ht; simp at ht)
        obtain ⟨wa2', wc2', hv2, _, _, _, hcel2⟩ := HTI2.out
        simp only [Value.slice.injEq] at hv2
        obtain ⟨rfl, -, rfl⟩ := hv2
        obtain ⟨tb2, tf2, rfl, htb2, hcl2⟩ := hcel2 (by intro e; rw [e] at ht; simp at ht)
        have hBW : Below w.heap.size w wr := bt HBL0.out hbl
        have p0 : wr.cell? ⟨tb, tf + i * 3, none⟩ = some (.string (tx t1)) := (hBW.cell (p := ⟨tb, tf + i * 3, none⟩) (by dsimp only; omega)).trans (hcl i _ ht 0 _ rfl)
        have p1 : wr.cell? ⟨tb, tf + i * 3 + 1, none⟩ = some (.int .i64 t2) := (hBW.cell (p := ⟨tb, tf + i * 3 + 1, none⟩) (by dsimp only; omega)).trans (hcl i _ ht 1 _ rfl)
        have p2 : wr.cell? ⟨tb, tf + i * 3 + 2, none⟩ = some (.int .i64 t3) := (hBW.cell (p := ⟨tb, tf + i * 3 + 2, none⟩) (by dsimp only; omega)).trans (hcl i _ ht 2 _ rfl)
        have r0 : wr.cell? ⟨tb2, tf2 + i * 3, none⟩ = some (.string (tx t1)) := (hBW.cell (p := ⟨tb2, tf2 + i * 3, none⟩) (by dsimp only; omega)).trans (hcl2 i _ ht 0 _ rfl)
        have r1 : wr.cell? ⟨tb2, tf2 + i * 3 + 1, none⟩ = some (.int .i64 t2) := (hBW.cell (p := ⟨tb2, tf2 + i * 3 + 1, none⟩) (by dsimp only; omega)).trans (hcl2 i _ ht 1 _ rfl)
        have r2 : wr.cell? ⟨tb2, tf2 + i * 3 + 2, none⟩ = some (.int .i64 t3) := (hBW.cell (p := ⟨tb2, tf2 + i * 3 + 2, none⟩) (by dsimp only; omega)).trans (hcl2 i _ ht 2 _ rfl)
        have c9i : (i : Int) < (wl : Int) := by omega
        have q4 := ((HX.out.at hbl) 4 _ rfl).c
        have q5 := ((HY.out.at hbl) 4 _ rfl).c
        have hbn := tst_neq (tx t1) t2 t3
        have hgd := tst_guard
        clear ht hcl hcel hcl2 hcel2
        go_wp2
        go_quiet (fail)
        go_wp2
        go_roundw
        case rel => exact ⟨i + 1, by go_num, c9, below_drewN hbl _⟩
        case measure => simp [intOf]; omega
      · obtain ⟨wt, hwt⟩ : ∃ wt : World, wt = wr := ⟨_, rfl⟩
        subst hwt
        have HBT : Hid (Below w.heap.size w wt) := bt HBL0.out hbl
        have HXT : Hid (Bx wt w.heap.size [.int .i64 k, .string (tx c), .int .i64 lo, .int .i64 hi, .slice wa wl wc, .slice ka n kc]) := HX.out.at hbl
        have HYT : Hid (Bx wt (w.heap.size + 1) [.int .i64 k, .string (tx c), .int .i64 lo, .int .i64 hi, .slice wa2 wl wc2, .slice ka2 n kc2]) := HY.out.at hbl
        have q5 := (HXT.out 5 _ rfl).c
        clear hbl g0 g1 g2 g3 g4 g5 f0 f1 f2 f3 f4 f5
        go_wp2
        go_loopw [72] (fun jv wr => ∃ j : Nat, jv = .int .i64 (j : Int) ∧ j ≤ n ∧ Below wt.heap.size wt wr) (fun jv _ => n - (intOf jv).toNat)
        case atStart => exact ⟨0, rfl, Nat.zero_le _, Below.refl _ _⟩
        case round =>
          obtain ⟨j, rfl, hjn, hbk⟩ := hrel
          by_cases c10 : j < n
          · obtain ⟨kb, ko, rfl, hkb, ⟨xs, hxq, hxc⟩, hyy⟩ := HKI.out (by omega) hn2
            obtain ⟨kb2, ko2, rfl, hkb2, ⟨xs2, hxq2, hxc2⟩, hyy2⟩ := HKI2.out (by omega) hn2
            obtain ⟨q, qs, ps, hq, hqc, hp, hpc, hqk⟩ : ∃ (q : Qu) (qs ps : List Value), QI w B q qs ∧ (∀ (m : Nat) u, qs[m]? = some u → w.cell? ⟨kb, ko + j * 6 + m, none⟩ = some u) ∧ QI w B q ps ∧ (∀ (m : Nat) u, ps[m]? = some u → w.cell? ⟨kb2, ko2 + j * 6 + m, none⟩ = some u) ∧ ∀ (w : World) (cs ds : List Value), B ≤ w.heap.size → QI w B q cs → QI w B q ds → Calls Tryd.prog 7 #[.agg cs.toArray, .agg ds.toArray] w fun e w' => e = .returned (.bool true) ∧ Below w.heap.size w w' := by
              by_cases hj : j = 0
              · subst hj
                exact ⟨x, xs, xs2, hxq, by intro m u hu; have := hxc m u hu; simpa using this, hxq2, by intro m u hu; have := hxc2 m u hu; simpa using this, HIX.out⟩
              · obtain rfl : j = 1 := by omega
                obtain ⟨ys, hyq, hyc⟩ := hyy (by omega)
                obtain ⟨ys2, hyq2, hyc2⟩ := hyy2 (by omega)
                exact ⟨y, ys, ys2, hyq, by intro m u hu; have := hyc m u hu; simpa using this, hyq2, by intro m u hu; have := hyc2 m u hu; simpa using this, HIY.out⟩
            have hBK : Below w.heap.size w wr := bt HBT.out hbk
            have HBK : Hid (Below w.heap.size w wr) := hBK
            have HQ : Hid (QI w B q qs) := hq
            have HQ2 : Hid (QI w B q ps) := hp
            obtain ⟨k1, c1, lo1, hi1, wa1, wn1, wc1, ka1, kn1, kc1, rfl⟩ := hq.six
            obtain ⟨k3, c3, lo3, hi3, wa3, wn3, wc3, ka3, kn3, kc3, rfl⟩ := hp.six
            have c10i : (j : Int) < (n : Int) := by omega
            go_wp2
            clear hxq hxc hyy hxq2 hxc2 hyy2 hq hp
            refine sam12 (fun _ _ d _ _ h => by cases d <;> exact h) _ _ _ _ _ _ _ _ _ _ _ _ _ _ _ _ _ _ _ _ _ _ _ _ _ _ _ _ _ _ _ _ _ _ _ _ _ _ _ _ _ _ _ _ _ _ _ _ _ _ _ _ _ _ _ _ _ _ _ _ _ _ _ _ _ _ _ _ _ _ _ _ _ _ _ _ _ _ _ _ _ _ _ _ _ wr w.heap.size (w.heap.size + 1) kb ko kb2 ko2 n kc kc2 j c10 k1 c1 lo1 hi1 wa1 wn1 wc1 ka1 kn1 kc1 k3 c3 lo3 hi3 wa3 wn3 wc3 ka3 kn3 kc3
              (fun W hW => (((HXT.out.at hbk).at hW) 5 _ rfl).c) (fun W hW => (((HYT.out.at hbk).at hW) 5 _ rfl).c)
              (fun W hW => ((bt HBK.out hW).cell (p := ⟨kb, ko + j * 6 + 0, none⟩) (Nat.lt_of_lt_of_le hkb hB)).trans (hqc 0 _ rfl)) (fun W hW => ((bt HBK.out hW).cell (p := ⟨kb, ko + j * 6 + 1, none⟩) (Nat.lt_of_lt_of_le hkb hB)).trans (hqc 1 _ rfl)) (fun W hW => ((bt HBK.out hW).cell (p := ⟨kb, ko + j * 6 + 2, none⟩) (Nat.lt_of_lt_of_le hkb hB)).trans (hqc 2 _ rfl)) (fun W hW => ((bt HBK.out hW).cell (p := ⟨kb, ko + j * 6 + 3, none⟩) (Nat.lt_of_lt_of_le hkb hB)).trans (hqc 3 _ rfl)) (fun W hW => ((bt HBK.out hW).cell (p := ⟨kb, ko + j * 6 + 4, none⟩) (Nat.lt_of_lt_of_le hkb hB)).trans (hqc 4 _ rfl)) (fun W hW => ((bt HBK.out hW).cell (p := ⟨kb, ko + j * 6 + 5, none⟩) (Nat.lt_of_lt_of_le hkb hB)).trans (hqc 5 _ rfl))
              (fun W hW => ((bt HBK.out hW).cell (p := ⟨kb2, ko2 + j * 6 + 0, none⟩) (Nat.lt_of_lt_of_le hkb2 hB)).trans (hpc 0 _ rfl)) (fun W hW => ((bt HBK.out hW).cell (p := ⟨kb2, ko2 + j * 6 + 1, none⟩) (Nat.lt_of_lt_of_le hkb2 hB)).trans (hpc 1 _ rfl)) (fun W hW => ((bt HBK.out hW).cell (p := ⟨kb2, ko2 + j * 6 + 2, none⟩) (Nat.lt_of_lt_of_le hkb2 hB)).trans (hpc 2 _ rfl)) (fun W hW => ((bt HBK.out hW).cell (p := ⟨kb2, ko2 + j * 6 + 3, none⟩) (Nat.lt_of_lt_of_le hkb2 hB)).trans (hpc 3 _ rfl)) (fun W hW => ((bt HBK.out hW).cell (p := ⟨kb2, ko2 + j * 6 + 4, none⟩) (Nat.lt_of_lt_of_le hkb2 hB)).trans (hpc 4 _ rfl)) (fun W hW => ((bt HBK.out hW).cell (p := ⟨kb2, ko2 + j * 6 + 5, none⟩) (Nat.lt_of_lt_of_le hkb2 hB)).trans (hpc 5 _ rfl))
              (fun W hW => hqk W _ _ (Nat.le_trans hB (bt HBK.out hW).size) (QI.keep ((bt HBK.out hW).mono hB) _ HQ.out) (QI.keep ((bt HBK.out hW).mono hB) _ HQ2.out)) ?_
            intro w5 hb5
            go_wp2
            go_roundw
            case rel => exact ⟨j + 1, by go_num, c10, bt hbk hb5⟩
            case measure => simp [intOf]; omega
          · go_wp2
            go_ret
            exact ⟨rfl, bt HBT.out hbk⟩
end Go.Proofs.YtidfkencjdjkbaaDoor
