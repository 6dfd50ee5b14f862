import Derived.Test.YtidfkencjdjkbaaGreatDoorQo20
/-
  PACKAGE speech, Print: what is written so far; tests.
-/
namespace Go.Proofs.YtidfkencjdjkbaaGreatDoor
open Go.RowKit Sp
open Go.Lib (decDigits itoa)

/-- these pieces are written, and it is not too much -/
structure Wg (B R : Nat) (l : List By) (w : World) : Prop where
  t : Wtr w B R (wrs [] l) (lsT [] l)
  n : (wrs [] l).length ≤ 65536
def WgP (B R : Nat) (w : World) (l : List By) (e : Ending) (w' : World) : Prop :=
  (e = .returned (.tuple #[]) ∧ Wg B R l w' ∧ Kpw B R w w') ∨ (e = .panicked (chn 4 0) ∧ ¬ (wrs [] l).length ≤ 65536 ∧ Below B w w')
theorem kpw_of {B R : Nat} {w w' : World} (hB : B ≤ w.heap.size) (hb : Below w.heap.size w w') : Kpw B R w w' :=
  ⟨hb.mono hB, fun k o hk _ _ => by
    have hlt : k < w.heap.size := (Array.getElem?_eq_some_iff.1 hk).1
    exact (hb.block k hlt).trans hk⟩
theorem Wg.le {B R : Nat} {w : World} {l : List By} (h : Wg B R l w) : B ≤ w.heap.size := Nat.le_of_lt (Nat.lt_of_le_of_lt h.t.le h.t.lt)
theorem Wg.at {B R : Nat} {w w' : World} {l : List By} (h : Wg B R l w) (hb : Below w.heap.size w w') : Wg B R l w' := ⟨h.t.kept hb, h.n⟩
theorem Wg.kp {B R : Nat} {w w' : World} {l : List By} (h : Wg B R l w) (hb : Below w.heap.size w w') : Kpw B R w w' := kpw_of h.le hb
theorem Txs.new (w : World) (l : List By) (cs : Array Value) (h : cs = (l.map fun s => Value.string (tx s)).toArray) : Txs (w.alloc (.cells cs 9)) w.heap.size l := by
  subst h
  exact heap_alloc_new w _
theorem wlen_le (l r : List By) : (wrs [] l).length ≤ (wrs [] (l ++ r)).length := by rw [wrs_app, List.length_append]; omega
/-- .. told by whether it is too much -/
theorem WgP.ok {B R f : Nat} {w v : World} {l : List By} {args : Array Value} (h : Calls Tryz.prog f args v (WgP B R w l)) (hl : (wrs [] l).length ≤ 65536) : Calls Tryz.prog f args v fun e w' => e = .returned (.tuple #[]) ∧ Wg B R l w' ∧ Kpw B R w w' :=
  h.mono (by rintro e w' (h | ⟨_, h, _⟩); exact h; exact absurd hl h)
theorem WgP.no {B R f : Nat} {w v : World} {l : List By} {args : Array Value} (h : Calls Tryz.prog f args v (WgP B R w l)) (hl : ¬ (wrs [] l).length ≤ 65536) : Calls Tryz.prog f args v fun e w' => e = .panicked (chn 4 0) ∧ Below B w w' :=
  h.mono (by rintro e w' (⟨_, h, _⟩ | ⟨h1, _, h2⟩); exact absurd h.n hl; exact ⟨h1, h2⟩)
/-- .. told of a world ahead -/
theorem WgP.no' {B R f : Nat} {w v u : World} {l : List By} {args : Array Value} (h : Calls Tryz.prog f args v (WgP B R w l)) (hl : ¬ (wrs [] l).length ≤ 65536) (hb : Below B u w) : Calls Tryz.prog f args v fun e w' => e = .panicked (chn 4 0) ∧ Below B u w' :=
  (WgP.no h hl).mono (by rintro e w' ⟨h1, h2⟩; exact ⟨h1, hb.trans h2⟩)
/-- pieces of a new row are written -/
theorem put_new {B R : Nat} {w : World} {l : List By} (h : Wg B R l w) (ss : List By) (cs : Array Value) (hcs : cs = (ss.map fun s => Value.string (tx s)).toArray) (n : Nat) (hn : ss.length = n) (hn4 : n ≤ 4) (hl : ∀ s ∈ ss, s.length ≤ 65536) : Calls Tryz.prog 70 #[.pointer (some ⟨R, 0, none⟩), .slice (some ⟨w.heap.size, 0, none⟩) n n] (w.alloc (.cells cs 9)) (WgP B R w (l ++ ss)) := by
  subst hn
  have h1 : Wg B R l (w.alloc (.cells cs 9)) := h.at (ba _ _)
  have k1 : Kpw B R w (w.alloc (.cells cs 9)) := h.kp (ba _ _)
  refine (put_any ss (Nat.ne_of_gt h.t.lt) _ _ _ h1.t (Txs.new w ss cs hcs) h1.le h.n hl hn4).mono ?_
  rintro e w' ⟨he, hk⟩
  split at he
  · rename_i hle
    refine .inl ⟨he.1, ⟨?_, ?_⟩, k1.trans hk⟩
    · rw [wrs_app, lsT_app]; exact he.2
    · rw [wrs_app]; exact hle
  · rename_i hle
    exact .inr ⟨he, by rw [wrs_app]; exact hle, (k1.trans hk).b⟩
theorem WgP.more {B R : Nat} {w0 w : World} {l : List By} (r : List By) (h : ¬ (wrs [] l).length ≤ 65536) (hb : Below B w0 w) : WgP B R w0 (l ++ r) (.panicked (chn 4 0)) w :=
  .inr ⟨rfl, fun h2 => h (Nat.le_trans (wlen_le l r) h2), hb⟩
/-- a block of another type -/
def Kbx (w : World) (X : Nat) (cs : Array Value) (ty : TypeId) : Prop := w.heap[X]? = some (.cells cs ty (0, 0))
theorem Kbx.new (w : World) (cs : Array Value) (ty : TypeId) : Kbx (w.alloc (.cells cs ty)) w.heap.size cs ty := heap_alloc_new w _
theorem Kbx.lt {w : World} {X : Nat} {cs : Array Value} {ty : TypeId} (h : Kbx w X cs ty) : X < w.heap.size := (Array.getElem?_eq_some_iff.1 h).1
theorem Kbx.at {w w' : World} {X : Nat} {cs : Array Value} {ty : TypeId} (h : Kbx w X cs ty) (hb : Below w.heap.size w w') : Kbx w' X cs ty := (hb.block X h.lt).trans h
theorem Kbx.kp {w w' : World} {B R X : Nat} {cs : Array Value} {ty : TypeId} (h : Kbx w X cs ty) (k : Kpw B R w w') (hX : X ≠ R) (h5 : ty ≠ 5) : Kbx w' X cs ty :=
  k.o X _ h (by simpa using hX) (by intro c fz e; injection e with _ e2 _; exact h5 e2)
theorem Kbx.c {w : World} {X : Nat} {cs : Array Value} {ty : TypeId} (h : Kbx w X cs ty) (i : Nat) (v : Value) (hv : cs[i]? = some v) : w.cell? ⟨X, i, none⟩ = some v := by rw [Lib.cell_of_heap h]; exact hv
theorem Glo.bel {B : Nat} {w w' : World} (h : Glo w) (hB : 5 ≤ B) (hb : Below B w w') : Glo w' := by
  obtain ⟨ev, h1, h2⟩ := h.er
  exact ⟨fun i t ht => (hb.cell (p := ⟨0, i, none⟩) (by dsimp only; omega)).trans (h.sg i t ht), ⟨ev, (hb.cell (p := ⟨4, 0, none⟩) (by dsimp only; omega)).trans h1, h2⟩, Nat.le_trans h.sz hb.size⟩
/-! ### tests -/
def whT (i : Nat) : By := if i = 0 then wWhere else wAnd
def chx (l : List Tst) : List By := (chkW l).map Ck.txt
theorem chx_nil : chx [] = [] := rfl
theorem chx_snoc {l : List Tst} {i : Nat} {t : Tst} (h : l[i]? = some t) : chx (l.take (i + 1)) = chx (l.take i) ++ [whT i, t.1, sigN t.2.1, itoa t.2.2] := by
  have e : l.take (i + 1) = l.take i ++ [t] := by rw [List.take_add_one, h]; rfl
  rw [e]
  cases i with
  | zero => simp [chx, chkW, chkT, Ck.txt, whT]
  | succ i =>
    cases l with
    | nil => simp at h
    | cons a r => simp [chx, chkW, chkT, Ck.txt, whT]
theorem chx_le (l : List Tst) (i : Nat) : ∃ r, chx l = chx (l.take i) ++ r := by
  cases i with
  | zero => exact ⟨chx l, by simp [chx_nil]⟩
  | succ i =>
    by_cases h : i < l.length
    · cases i with
      | zero =>
        cases l with
        | nil => exact ⟨[], by simp⟩
        | cons a r => exact ⟨((r.flatMap fun t => Ck.cw wAnd :: chkT t).map Ck.txt), by simp [chx, chkW]⟩
      | succ i =>
        cases l with
        | nil => exact ⟨[], by simp⟩
        | cons a r =>
          refine ⟨(((r.drop (i + 1)).flatMap fun t => Ck.cw wAnd :: chkT t).map Ck.txt), ?_⟩
          have e3 : (r.flatMap fun t => Ck.cw wAnd :: chkT t) = ((r.take (i + 1)).flatMap fun t => Ck.cw wAnd :: chkT t) ++ ((r.drop (i + 1)).flatMap fun t => Ck.cw wAnd :: chkT t) := by rw [← List.flatMap_append, List.take_append_drop]
          simp only [chx, chkW, List.take_succ_cons, e3, List.map_cons, List.map_append, List.cons_append, List.append_assoc]
    · exact ⟨[], by rw [List.take_of_length_le (by omega)]; simp⟩
theorem sgs_sig {d : Nat} (h1 : 1 ≤ d) (h2 : d ≤ 6) : sgs[d]? = some (sigN (d : Int)) := by
  have : d = 1 ∨ d = 2 ∨ d = 3 ∨ d = 4 ∨ d = 5 ∨ d = 6 := by omega
  rcases this with rfl | rfl | rfl | rfl | rfl | rfl <;> rfl
theorem sig_len {d : Nat} (h1 : 1 ≤ d) (h2 : d ≤ 6) : (sigN (d : Int)).length ≤ 2 := by
  have : d = 1 ∨ d = 2 ∨ d = 3 ∨ d = 4 ∨ d = 5 ∨ d = 6 := by omega
  rcases this with rfl | rfl | rfl | rfl | rfl | rfl <;> decide
theorem nmd_len {c : By} (h : nmd c = true) : c.length ≤ 32 := by
  simp [nmd, namB] at h
  omega
set_option maxRecDepth 100000 in
set_option maxHeartbeats 1000000 in
theorem tst4 {Q : Exit → Act → World → Prop} (hQp : ∀ c a d v w, Q (.panic c) (Act.put a d v) w → Q (.panic c) a w) (t1 t2 t3 t5 t7 t8 t9 t10 t11 t12 t13 t14 t15 t16 t17 t18 t19 t20 t21 t22 t23 t24 t25 t26 : Value) (A : World) (B R X : Nat) (w0 : World) (ww c1 sg ai : By) (D : Nat) (hD : D < 7) (z3 : Int)
    (h0 : ∀ W : World, Below A.heap.size A W → W.cell? ⟨X, 0, none⟩ = some (.string (tx c1)))
    (h1 : ∀ W : World, Below A.heap.size A W → W.cell? ⟨X, 1, none⟩ = some (.int .i64 (D : Int)))
    (h2 : ∀ W : World, Below A.heap.size A W → W.cell? ⟨X, 2, none⟩ = some (.int .i64 z3))
    (h3 : ∀ W : World, Below A.heap.size A W → W.cell? ⟨0, D, none⟩ = some (.string (tx sg)))
    (hI : ∀ W : World, Below A.heap.size A W → Calls Tryz.prog 73 #[.int .i64 z3] W fun e W' => e = .returned (.string (tx ai)) ∧ Below W.heap.size W W')
    (hP : ∀ W : World, Below A.heap.size A W → Calls Tryz.prog 70 #[.pointer (some ⟨R, 0, none⟩), .slice (some ⟨W.heap.size, 0, none⟩) 4 4] (W.alloc (.cells #[.string (tx ww), .string (tx c1), .string (tx sg), .string (tx ai)] 9)) fun e W' => e = .panicked (chn 4 0) ∧ Below B w0 W')
    (hEnd : ∀ (a : Act) (W : World), a.defers = [] → Below B w0 W → Q (.panic (chn 4 0)) a W) :
    (Code.region 4 #[{ dst := some 13, op := Go.Op.move (Go.Operand.tmp 0), type := 115, pos := "writer.go:103", after := #[], guard := none }, { dst := some 14, op := Go.Op.move (Go.Operand.tmp 4), type := 9, pos := "writer.go:103", after := #[], guard := none }, { dst := some 15, op := Go.Op.fieldAddr 81 (Go.Operand.tmp 6) 0, type := 0, pos := "writer.go:103", after := #[], guard := none }, { dst := some 16, op := Go.Op.load 9 (Go.Operand.tmp 15), type := 9, pos := "writer.go:103", after := #[{ on := 2, ground := Go.Ground.data }], guard := none }, { dst := some 17, op := Go.Op.fieldAddr 81 (Go.Operand.tmp 6) 1, type := 0, pos := "writer.go:103", after := #[], guard := none }, { dst := some 18, op := Go.Op.load 3 (Go.Operand.tmp 17), type := 3, pos := "writer.go:103", after := #[{ on := 4, ground := Go.Ground.data }], guard := none }, { dst := some 19, op := Go.Op.indexAddr 137 (Go.Operand.global 0) (Go.Operand.tmp 18), type := 0, pos := "writer.go:103", after := #[{ on := 5, ground := Go.Ground.data }], guard := none }, { dst := some 20, op := Go.Op.load 9 (Go.Operand.tmp 19), type := 9, pos := "writer.go:103", after := #[{ on := 6, ground := Go.Ground.data }], guard := none }, { dst := some 21, op := Go.Op.fieldAddr 81 (Go.Operand.tmp 6) 2, type := 0, pos := "writer.go:103", after := #[], guard := none }, { dst := some 22, op := Go.Op.load 3 (Go.Operand.tmp 21), type := 3, pos := "writer.go:103", after := #[{ on := 8, ground := Go.Ground.data }], guard := none }, { dst := some 23, op := Go.Op.call { callee := Go.Callee.value (Go.Operand.func 73), args := #[Go.Operand.tmp 22], argTypes := #[3] }, type := 9, pos := "writer.go:103", after := #[{ on := 9, ground := Go.Ground.data }], guard := none }, { dst := some 24, op := Go.Op.buildSlice 121 4 #[(0, Go.Operand.tmp 14), (1, Go.Operand.tmp 16), (2, Go.Operand.tmp 20), (3, Go.Operand.tmp 23)], type := 121, pos := "writer.go:103", after := #[{ on := 1, ground := Go.Ground.data }, { on := 3, ground := Go.Ground.data }, { on := 7, ground := Go.Ground.data }, { on := 10, ground := Go.Ground.data }], guard := none }, { dst := some 25, op := Go.Op.call { callee := Go.Callee.value (Go.Operand.func 70), args := #[Go.Operand.tmp 13, Go.Operand.tmp 24], argTypes := #[115, 121] }, type := 0, pos := "writer.go:103", after := #[{ on := 0, ground := Go.Ground.data }, { on := 11, ground := Go.Ground.data }, { on := 10, ground := Go.Ground.chain }], guard := none }] true).wp Tryz.prog Q { tmps := #[.pointer (some ⟨R, 0, none⟩), t1, t2, t3, .string (tx ww), t5, .pointer (some ⟨X, 0, none⟩), t7, t8, t9, t10, t11, t12, t13, t14, t15, t16, t17, t18, t19, t20, t21, t22, t23, t24, t25, t26], defers := [] } A := by
  have HEND : Hid (∀ (a : Act) (W : World), a.defers = [] → Below B w0 W → Q (.panic (chn 4 0)) a W) := hEnd
  have H_h0 : Hid (∀ W : World, Below A.heap.size A W → W.cell? ⟨X, 0, none⟩ = some (.string (tx c1))) := h0
  have H_h1 : Hid (∀ W : World, Below A.heap.size A W → W.cell? ⟨X, 1, none⟩ = some (.int .i64 (D : Int))) := h1
  have H_h2 : Hid (∀ W : World, Below A.heap.size A W → W.cell? ⟨X, 2, none⟩ = some (.int .i64 z3)) := h2
  have H_h3 : Hid (∀ W : World, Below A.heap.size A W → W.cell? ⟨0, D, none⟩ = some (.string (tx sg))) := h3
  have H_hI : Hid (∀ W : World, Below A.heap.size A W → Calls Tryz.prog 73 #[.int .i64 z3] W fun e W' => e = .returned (.string (tx ai)) ∧ Below W.heap.size W W') := hI
  have H_hP : Hid (∀ W : World, Below A.heap.size A W → Calls Tryz.prog 70 #[.pointer (some ⟨R, 0, none⟩), .slice (some ⟨W.heap.size, 0, none⟩) 4 4] (W.alloc (.cells #[.string (tx ww), .string (tx c1), .string (tx sg), .string (tx ai)] 9)) fun e W' => e = .panicked (chn 4 0) ∧ Below B w0 W') := hP
  have G0 : Hid (Below A.heap.size A A.drew) := (Below.refl _ _).drew
  clear hEnd h0 h1 h2 h3 hI hP
  refine wp_region_any (by kernel_rfl) ?_
  change wpAny _ _ _ _ _ _ _ (World.drew _)
  obtain ⟨V0, hV0⟩ : ∃ V0, A.drew = V0 := ⟨_, rfl⟩
  rw [hV0] at G0 ⊢
  clear hV0
  refine wpAny_of_J (S := fun W => Below A.heap.size A W) (J := fun _ => true) _ _ _ _ ?_
  have d1i : (0 : Int) ≤ (D : Int) := by omega
  have d2i : (D : Int) < 7 := by omega
  refine wpAnyJ_take (i := 0) (oi := { dst := some 13, op := Go.Op.move (Go.Operand.tmp 0), type := 115, pos := "writer.go:103", after := #[], guard := none }) (v := .pointer (some ⟨R, 0, none⟩)) rfl rfl (waits_of (by kernel_rfl)) (by kernel_rfl) (by kernel_rfl) (by kernel_rfl) (fun _ _ _ h => hQp _ _ _ _ _ h) (Or.inl ⟨by rfl, fun W hS => ?_⟩) G0.out ?_
  · go_simp
  simp only [Act.put, List.setIfInBounds_toArray, List.set_cons_zero, List.set_cons_succ]
  refine wpAnyJ_take (i := 1) (oi := { dst := some 14, op := Go.Op.move (Go.Operand.tmp 4), type := 9, pos := "writer.go:103", after := #[], guard := none }) (v := .string (tx ww)) rfl rfl (waits_of (by kernel_rfl)) (by kernel_rfl) (by kernel_rfl) (by kernel_rfl) (fun _ _ _ h => hQp _ _ _ _ _ h) (Or.inl ⟨by rfl, fun W hS => ?_⟩) G0.out ?_
  · go_simp
  simp only [Act.put, List.setIfInBounds_toArray, List.set_cons_zero, List.set_cons_succ]
  refine wpAnyJ_take (i := 2) (oi := { dst := some 15, op := Go.Op.fieldAddr 81 (Go.Operand.tmp 6) 0, type := 0, pos := "writer.go:103", after := #[], guard := none }) (v := .pointer (some ⟨X, 0, none⟩)) rfl rfl (waits_of (by kernel_rfl)) (by kernel_rfl) (by kernel_rfl) (by kernel_rfl) (fun _ _ _ h => hQp _ _ _ _ _ h) (Or.inl ⟨by rfl, fun W hS => ?_⟩) G0.out ?_
  · go_simp
  simp only [Act.put, List.setIfInBounds_toArray, List.set_cons_zero, List.set_cons_succ]
  refine wpAnyJ_take (i := 3) (oi := { dst := some 16, op := Go.Op.load 9 (Go.Operand.tmp 15), type := 9, pos := "writer.go:103", after := #[{ on := 2, ground := Go.Ground.data }], guard := none }) (v := .string (tx c1)) rfl rfl (waits_of (by kernel_rfl)) (by kernel_rfl) (by kernel_rfl) (by kernel_rfl) (fun _ _ _ h => hQp _ _ _ _ _ h) (Or.inl ⟨by rfl, fun W hS => ?_⟩) G0.out ?_
  · have z := H_h0.out W hS; go_simp
  simp only [Act.put, List.setIfInBounds_toArray, List.set_cons_zero, List.set_cons_succ]
  refine wpAnyJ_take (i := 4) (oi := { dst := some 17, op := Go.Op.fieldAddr 81 (Go.Operand.tmp 6) 1, type := 0, pos := "writer.go:103", after := #[], guard := none }) (v := .pointer (some ⟨X, 1, none⟩)) rfl rfl (waits_of (by kernel_rfl)) (by kernel_rfl) (by kernel_rfl) (by kernel_rfl) (fun _ _ _ h => hQp _ _ _ _ _ h) (Or.inl ⟨by rfl, fun W hS => ?_⟩) G0.out ?_
  · go_simp
  simp only [Act.put, List.setIfInBounds_toArray, List.set_cons_zero, List.set_cons_succ]
  refine wpAnyJ_take (i := 5) (oi := { dst := some 18, op := Go.Op.load 3 (Go.Operand.tmp 17), type := 3, pos := "writer.go:103", after := #[{ on := 4, ground := Go.Ground.data }], guard := none }) (v := .int .i64 (D : Int)) rfl rfl (waits_of (by kernel_rfl)) (by kernel_rfl) (by kernel_rfl) (by kernel_rfl) (fun _ _ _ h => hQp _ _ _ _ _ h) (Or.inl ⟨by rfl, fun W hS => ?_⟩) G0.out ?_
  · have z := H_h1.out W hS; go_simp
  simp only [Act.put, List.setIfInBounds_toArray, List.set_cons_zero, List.set_cons_succ]
  refine wpAnyJ_take (i := 6) (oi := { dst := some 19, op := Go.Op.indexAddr 137 (Go.Operand.global 0) (Go.Operand.tmp 18), type := 0, pos := "writer.go:103", after := #[{ on := 5, ground := Go.Ground.data }], guard := none }) (v := .pointer (some ⟨0, D, none⟩)) rfl rfl (waits_of (by kernel_rfl)) (by kernel_rfl) (by kernel_rfl) (by kernel_rfl) (fun _ _ _ h => hQp _ _ _ _ _ h) (Or.inl ⟨by rfl, fun W hS => ?_⟩) G0.out ?_
  · go_simp
  simp only [Act.put, List.setIfInBounds_toArray, List.set_cons_zero, List.set_cons_succ]
  refine wpAnyJ_take (i := 7) (oi := { dst := some 20, op := Go.Op.load 9 (Go.Operand.tmp 19), type := 9, pos := "writer.go:103", after := #[{ on := 6, ground := Go.Ground.data }], guard := none }) (v := .string (tx sg)) rfl rfl (waits_of (by kernel_rfl)) (by kernel_rfl) (by kernel_rfl) (by kernel_rfl) (fun _ _ _ h => hQp _ _ _ _ _ h) (Or.inl ⟨by rfl, fun W hS => ?_⟩) G0.out ?_
  · have z := H_h3.out W hS; go_simp
  simp only [Act.put, List.setIfInBounds_toArray, List.set_cons_zero, List.set_cons_succ]
  refine wpAnyJ_take (i := 8) (oi := { dst := some 21, op := Go.Op.fieldAddr 81 (Go.Operand.tmp 6) 2, type := 0, pos := "writer.go:103", after := #[], guard := none }) (v := .pointer (some ⟨X, 2, none⟩)) rfl rfl (waits_of (by kernel_rfl)) (by kernel_rfl) (by kernel_rfl) (by kernel_rfl) (fun _ _ _ h => hQp _ _ _ _ _ h) (Or.inl ⟨by rfl, fun W hS => ?_⟩) G0.out ?_
  · go_simp
  simp only [Act.put, List.setIfInBounds_toArray, List.set_cons_zero, List.set_cons_succ]
  refine wpAnyJ_take (i := 9) (oi := { dst := some 22, op := Go.Op.load 3 (Go.Operand.tmp 21), type := 3, pos := "writer.go:103", after := #[{ on := 8, ground := Go.Ground.data }], guard := none }) (v := .int .i64 z3) rfl rfl (waits_of (by kernel_rfl)) (by kernel_rfl) (by kernel_rfl) (by kernel_rfl) (fun _ _ _ h => hQp _ _ _ _ _ h) (Or.inl ⟨by rfl, fun W hS => ?_⟩) G0.out ?_
  · have z := H_h2.out W hS; go_simp
  simp only [Act.put, List.setIfInBounds_toArray, List.set_cons_zero, List.set_cons_succ]
  refine wpAnyJ_ready (rs := [10]) (by kernel_rfl) (by simp) ?_
  refine AllJ.cons (o := { dst := some 23, op := Go.Op.call { callee := Go.Callee.value (Go.Operand.func 73), args := #[Go.Operand.tmp 22], argTypes := #[3] }, type := 9, pos := "writer.go:103", after := #[{ on := 9, ground := Go.Ground.data }], guard := none }) rfl (fun K hK => ?_) AllJ.nil
  have kk := H_hI.out V0 G0.out
  go_simp
  go_at_call 73
  refine kk.mono ?_
  rintro e1 W1 ⟨rfl, hW⟩
  have G1 : Hid (Below A.heap.size A W1) := bt G0.out hW
  clear hW kk
  refine hK.out _ _ (fun _ => G1.out) ?_
  clear hK K
  try simp only [Act.put, List.setIfInBounds_toArray, List.set_cons_zero, List.set_cons_succ]
  refine wpAnyJ_ready (rs := [11]) (by kernel_rfl) (by simp) ?_
  refine AllJ.cons (o := { dst := some 24, op := Go.Op.buildSlice 121 4 #[(0, Go.Operand.tmp 14), (1, Go.Operand.tmp 16), (2, Go.Operand.tmp 20), (3, Go.Operand.tmp 23)], type := 121, pos := "writer.go:103", after := #[{ on := 1, ground := Go.Ground.data }, { on := 3, ground := Go.Ground.data }, { on := 7, ground := Go.Ground.data }, { on := 10, ground := Go.Ground.data }], guard := none }) rfl (fun K hK => ?_) AllJ.nil
  have G2 : Hid (Below A.heap.size A (W1.alloc (.cells #[.string (tx ww), .string (tx c1), .string (tx sg), .string (tx ai)] 9))) := bal G1.out _
  go_simp
  refine hK.out _ _ (fun _ => G2.out) ?_
  clear hK K
  try simp only [Act.put, List.setIfInBounds_toArray, List.set_cons_zero, List.set_cons_succ]
  refine wpAnyJ_ready (rs := [12]) (by kernel_rfl) (by simp) ?_
  refine AllJ.cons (o := { dst := some 25, op := Go.Op.call { callee := Go.Callee.value (Go.Operand.func 70), args := #[Go.Operand.tmp 13, Go.Operand.tmp 24], argTypes := #[115, 121] }, type := 0, pos := "writer.go:103", after := #[{ on := 0, ground := Go.Ground.data }, { on := 11, ground := Go.Ground.data }, { on := 10, ground := Go.Ground.chain }], guard := none }) rfl (fun K hK => ?_) AllJ.nil
  have kk := H_hP.out W1 G1.out
  go_simp
  go_at_call 70
  refine kk.mono ?_
  rintro e1 W9 ⟨rfl, hW9⟩
  exact HEND.out _ _ rfl hW9
set_option maxHeartbeats 2000000 in
set_option maxRecDepth 100000 in
theorem wtests_any {B R : Nat} {w : World} {l0 : List By} (l : List Tst) (v : Value) (h : Wg B R l0 w) (hT : TI w B l v) (hok : ∀ t ∈ l, TOk t) (hG : Glo w) (hpt : PT B w) (h5 : 5 ≤ B) : Calls Tryz.prog 76 #[.pointer (some ⟨R, 0, none⟩), v] w (WgP B R w (l0 ++ chx l)) := by
  have HTI : Hid (TI w B l v) := hT
  have HOK : Hid (∀ t ∈ l, TOk t) := hok
  have HG : Hid (Glo w) := hG
  have HPT : Hid (PT B w) := hpt
  have HH : Hid (Wg B R l0 w) := h
  obtain ⟨la, lc, rfl, hlc, hl63, _, _⟩ := hT
  obtain ⟨n, hn⟩ : ∃ n, l.length = n := ⟨_, rfl⟩
  have HN : Hid (l.length = n) := hn
  rw [hn] at hlc hl63 ⊢
  clear hok hG hpt h hn
  go_enter Tryz.func76, Tryz.ntmps76
  go_wp2
  go_loopw [4, 9] (fun sv iv wr => ∃ i : Nat, iv = .int .i64 (i : Int) ∧ sv = .string (tx (whT i)) ∧ i ≤ n ∧ Hid (Wg B R (l0 ++ chx (l.take i)) wr) ∧ Hid (Kpw B R w wr)) (fun _ iv _ => n - (intOf iv).toNat)
  case atStart => exact ⟨0, rfl, rfl, Nat.zero_le _, by rw [Hid]; simpa [chx_nil] using HH.out, Kpw.refl B R w⟩
  case round =>
    obtain ⟨i, rfl, rfl, hil, HW, HK⟩ := hrel
    by_cases c9 : i < n
    · obtain ⟨⟨t1, t2, t3⟩, ht⟩ : ∃ t, l[i]? = some t := ⟨_, List.getElem?_eq_getElem (by rw [HN.out]; exact c9)⟩
      obtain ⟨hnm, hd1, hd2, hv1, hv2⟩ := HOK.out _ (List.mem_of_getElem? ht)
      simp only at hnm hd1 hd2 hv1 hv2
      obtain ⟨D, rfl⟩ : ∃ D : Nat, t2 = D := ⟨t2.toNat, by omega⟩
      obtain ⟨la', lc', hv, _, _, hbd, hcel⟩ := HTI.out
      simp only [Value.slice.injEq] at hv
      obtain ⟨rfl, -, rfl⟩ := hv
      obtain ⟨tb, tf, rfl, htb, hcl⟩ := hcel (by intro e; rw [e] at ht; simp at ht)
      have p0 : wr.cell? ⟨tb, tf + i * 3, none⟩ = some (.string (tx t1)) := (HK.out.b.cell (p := ⟨tb, tf + i * 3, none⟩) (by dsimp only; omega)).trans (hcl i _ ht 0 _ rfl)
      have p1 : wr.cell? ⟨tb, tf + i * 3 + 1, none⟩ = some (.int .i64 (D : Int)) := (HK.out.b.cell (p := ⟨tb, tf + i * 3 + 1, none⟩) (by dsimp only; omega)).trans (hcl i _ ht 1 _ rfl)
      have p2 : wr.cell? ⟨tb, tf + i * 3 + 2, none⟩ = some (.int .i64 t3) := (HK.out.b.cell (p := ⟨tb, tf + i * 3 + 2, none⟩) (by dsimp only; omega)).trans (hcl i _ ht 2 _ rfl)
      have c9i : (i : Int) < (n : Int) := by omega
      obtain ⟨W5, hW5⟩ : ∃ W5, wr.alloc (.cells #[.string (tx t1), .int .i64 (D : Int), .int .i64 t3] 81) = W5 := ⟨_, rfl⟩
      have hB5 : Below wr.heap.size wr W5 := hW5 ▸ ba _ _
      have HX5 : Hid (Bx W5 wr.heap.size [.string (tx t1), .int .i64 (D : Int), .int .i64 t3]) := hW5 ▸ Bx.new wr [.string (tx t1), .int .i64 (D : Int), .int .i64 t3] 81 rfl
      have HW5 : Hid (Wg B R (l0 ++ chx (l.take i)) W5) := HW.out.at hB5
      have HK5 : Hid (Kpw B R w W5) := HK.out.trans (HW.out.kp hB5)
      have HG5 : Hid (Glo W5) := HG.out.bel h5 HK5.out.b
      have HP5 : Hid (PT B W5) := HPT.out.on HK5.out.b
      have HX7 : Hid (Kbx W5 wr.heap.size #[.string (tx t1), .int .i64 (D : Int), .int .i64 t3] 81) := hW5 ▸ Kbx.new wr _ _
      have hXR : wr.heap.size ≠ R := Nat.ne_of_gt HW.out.t.lt
      have hB0 : 0 < B := by omega
      have m0 := (HX5.out 0 _ rfl).c
      have m1 := (HX5.out 1 _ rfl).c
      have m2 := (HX5.out 2 _ rfl).c
      have hlt := (HX5.out 0 _ rfl).lt
      obtain ⟨sg, hsg⟩ : ∃ sg, sigN (D : Int) = sg := ⟨_, rfl⟩
      have m3 : W5.cell? ⟨0, D, none⟩ = some (.string (tx sg)) := by rw [← hsg]; exact HG5.out.sg D _ (sgs_sig (by omega) (by omega))
      have hz5 : 0 < W5.heap.size := by have := HG5.out.sz; omega
      have hsgl : sg.length ≤ 65536 := by have := sig_len (d := D) (by omega) (by omega); rw [hsg] at this; omega
      have hnml : t1.length ≤ 65536 := by have := nmd_len hnm; omega
      have hil3 : (itoa t3).length ≤ 65536 := by have := itoa_len (v := t3) (by omega) (by omega); omega
      have HKI : Hid (∀ W : World, Below W5.heap.size W5 W → Calls Tryz.prog 73 #[.int .i64 t3] W fun e w' => e = .returned (.string (tx (itoa t3))) ∧ Below W.heap.size W w') := fun W hW => itoa_any B t3 (by omega) (by omega) W (HP5.out.on (hW.mono HW5.out.le))
      have kx : Calls Tryz.prog 73 #[.int .i64 t3] W5.drew fun e w' => e = .returned (.string (tx (itoa t3))) ∧ Below W5.drew.heap.size W5.drew w' := itoa_any B t3 (by omega) (by omega) W5.drew (HP5.out.on (Below.refl B W5).drew)
      have HT : Hid (l[i]? = some (t1, (D : Int), t3)) := ht
      have HSG : Hid (sigN (D : Int) = sg) := hsg
      obtain ⟨ww, hww⟩ : ∃ ww, whT i = ww := ⟨_, rfl⟩
      have hwwl : ww.length ≤ 65536 := by rw [← hww, whT]; split <;> decide
      have HWW : Hid (whT i = ww) := hww
      have HSN : Hid (chx (l.take (i + 1)) = chx (l.take i) ++ [ww, t1, sg, itoa t3]) := by rw [Hid, chx_snoc ht, hww, hsg]
      rw [hww]
      generalize hA : itoa t3 = A at *
      have d1i : (0 : Int) ≤ (D : Int) := by omega
      have d2i : (D : Int) < 7 := by omega
      have d3i : D < 7 := by omega
      have hss : ∀ s ∈ [ww, t1, sg, A], s.length ≤ 65536 := by
        intro s hs
        simp only [List.mem_cons, List.not_mem_nil, or_false] at hs
        rcases hs with rfl | rfl | rfl | rfl <;> assumption
      have HSS : Hid (∀ s ∈ [ww, t1, sg, A], s.length ≤ 65536) := hss
      clear hA ht hcl hcel hbd hsg hww hnm hd1 hd2 hv1 hv2 HK HW hB5 hss
      by_cases hov : (wrs [] (l0 ++ chx (l.take i) ++ [ww, t1, sg, A])).length ≤ 65536
      · have HOV : Hid ((wrs [] (l0 ++ chx (l.take i) ++ [ww, t1, sg, A])).length ≤ 65536) := hov
        clear hov
        go_wp2_with fail
        clear hW5
        go_region_held3 (fun w' => w'.cell? ⟨wr.heap.size, 0, none⟩ = some (.string (tx t1)) ∧ w'.cell? ⟨wr.heap.size, 1, none⟩ = some (.int .i64 (D : Int)) ∧ w'.cell? ⟨wr.heap.size, 2, none⟩ = some (.int .i64 t3) ∧ w'.cell? ⟨0, D, none⟩ = some (.string (tx sg)))
          ((go_split_ands; refine ⟨?_, ?_, ?_, ?_⟩ <;> first | assumption | (simp [go_sem, *]; done)))
          (first | (go_at_call 73; (with_reducible refine kx.mono ?_); rintro e w1 ⟨rfl, b1⟩; have q0 := (b1.cell (p := ⟨wr.heap.size, 0, none⟩) hlt).trans m0; have q1 := (b1.cell (p := ⟨wr.heap.size, 1, none⟩) hlt).trans m1; have q2 := (b1.cell (p := ⟨wr.heap.size, 2, none⟩) hlt).trans m2; have q3 := (b1.cell (p := ⟨0, D, none⟩) hz5).trans m3; have hlt1 := Nat.lt_of_lt_of_le hlt b1.size; have hz1 := Nat.lt_of_lt_of_le hz5 b1.size) | (go_at_call 70; (have kp := WgP.ok (put_new (HW5.out.at ((Below.refl _ _).drew.trans b1)) [ww, t1, sg, A] #[.string (tx ww), .string (tx t1), .string (tx sg), .string (tx A)] rfl 4 rfl (by omega) HSS.out) HOV.out); (with_reducible refine kp.mono ?_); rintro e w2 ⟨rfl, hw2, hk2⟩; have r0 := ((HX7.out.at ((Below.refl _ _).drew.trans b1)).kp hk2 hXR (by decide)).c 0 _ rfl; have r1 := ((HX7.out.at ((Below.refl _ _).drew.trans b1)).kp hk2 hXR (by decide)).c 1 _ rfl; have r2 := ((HX7.out.at ((Below.refl _ _).drew.trans b1)).kp hk2 hXR (by decide)).c 2 _ rfl; have r3 := (hk2.b.cell (p := ⟨0, D, none⟩) hB0).trans q3))
        have HW2 : Hid (Wg B R (l0 ++ chx (l.take (i + 1))) w2) := by rw [Hid, HSN.out, ← List.append_assoc]; exact hw2
        have HK2 : Hid (Kpw B R w w2) := HK5.out.trans ((HW5.out.kp ((Below.refl _ _).drew.trans b1)).trans hk2)
        clear hw2 hk2 q0 q1 q2 q3 r0 r1 r2 r3 kx b1
        go_wp2
        go_roundw
        case rel => exact ⟨i + 1, by go_num, by simp [whT], by omega, HW2, HK2⟩
        case measure => simp [intOf]; omega
      · have HOV : Hid (¬ (wrs [] (l0 ++ chx (l.take i) ++ [ww, t1, sg, A])).length ≤ 65536) := hov
        clear hov
        go_wp2_with fail
        clear hW5
        exact tst4 (fun _ _ d _ _ h => by cases d <;> exact h) _ _ _ _ _ _ _ _ _ _ _ _ _ _ _ _ _ _ _ _ _ _ _ _ W5 B R wr.heap.size w ww t1 sg A D d3i t3
          (fun W hW => (hW.cell (p := ⟨wr.heap.size, 0, none⟩) hlt).trans m0) (fun W hW => (hW.cell (p := ⟨wr.heap.size, 1, none⟩) hlt).trans m1) (fun W hW => (hW.cell (p := ⟨wr.heap.size, 2, none⟩) hlt).trans m2) (fun W hW => (hW.cell (p := ⟨0, D, none⟩) hz5).trans m3)
          (fun W hW => HKI.out W hW) (fun W hW => WgP.no' (put_new (HW5.out.at hW) [ww, t1, sg, A] #[.string (tx ww), .string (tx t1), .string (tx sg), .string (tx A)] rfl 4 rfl (by omega) HSS.out) HOV.out (HK5.out.b.trans (hW.mono HW5.out.le)))
          (fun a W hd hb => ⟨hd, by obtain ⟨r, hr⟩ := chx_le l (i + 1); rw [hr, HSN.out, ← List.append_assoc, ← List.append_assoc]; exact WgP.more r HOV.out hb⟩)
    · obtain rfl : i = n := by omega
      have hti : l.take i = l := List.take_of_length_le (by rw [HN.out]; omega)
      rw [hti] at HW
      clear hti
      go_wp2
      go_end0
      exact .inl ⟨rfl, HW.out, HK.out⟩
end Go.Proofs.YtidfkencjdjkbaaGreatDoor
