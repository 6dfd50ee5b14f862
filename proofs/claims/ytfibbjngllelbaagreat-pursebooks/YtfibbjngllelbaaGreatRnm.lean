import Derived.Test.YtfibbjngllelbaaGreatPlw
import Derived.Deep.Upon
import Derived.Deep.AppendLies
import Derived.Test.YtfibbjngllelbaaGreatPbr
import Derived.Sort.Walk0
namespace Go.Proofs.YtfibbjngllelbaaGreat
open Go.RowKit Go.Proofs.YtfibbjngllelbaaGreat.Ds

theorem app_nothing (w : World) (t ty e : TypeId) (i : TypeInfo) (size : Nat) (ht : Tryz.prog.underlying t = some (.slice e)) (hi : Tryz.prog.info? e = some i) (hz1 : i.size = size) (base a : Option Addr) (sLen sCap c : Nat) (hle : sLen ≤ sCap) :
    (Builtin.append_ #[t, t] ty #[.slice base sLen sCap, .slice a 0 c]).run Tryz.prog w = .ok (.slice base sLen sCap) w := by
  refine run_append_nothing (P := Tryz.prog) w t t ty e i ht hi base sLen sCap hle (.slice a 0 c) ?_
  rw [hz1]
  have key : ∀ W : World, (Builtin.firstCells size 0 (.slice a 0 c)).run Tryz.prog W = .ok ([] : List Value).toArray W := by
    intro W
    cases a with
    | none => exact run_firstCells_none W size 0 0 c
    | some ad => exact run_firstCells_some W size 0 ad 0 c [] (by simp) (by simp)
  exact ⟨.inl ⟨e, ht⟩, fun w' => by simp [Builtin.lenOf], key w, key w.drew, by simp, by simp⟩
theorem owns_le {w : World} {base : Nat} {e : TypeId} {size : Nat} {a : Option Addr} {n c : Nat} {xs : List Value} (h : w.ownsRow base e size (.slice a n c) n xs) : n ≤ c := by
  rcases h.2 with ⟨h1, h2⟩ | ⟨g, cap, cur, h1, _, _, h2, _⟩
  · simp only [Value.slice.injEq] at h1; omega
  · simp only [Value.slice.injEq] at h1; omega
/-- 'append' of what another slice holds (nothing, it may be) to a row of one's own, in a region that draws its order -/
theorem step_app {ops : Array Oper} {o : Oper} {a : Act} {K : Act → World → Prop} {Q : Exit → Act → World → Prop} {E : Prop} (w : World) (hgd : o.guard = none) (s x : Operand) (t : TypeId) (ho : o.op = .call { callee := .builtin .append, args := #[s, x], argTypes := #[t, t] })
    (base : Nat) (e : TypeId) (i : TypeInfo) (z : Value) (size bytes : Nat) (ht : Tryz.prog.underlying t = some (.slice e)) (hi : Tryz.prog.info? e = some i) (hz : i.zero = some z) (hsize : i.size = size) (hby : i.bytes = bytes) (hzs : z.cells.size = size) (hsz : 0 < size)
    (sa : Option Addr) (n sc : Nat) (xs : List Value) (hs : a.eval s = .slice sa n sc) (hown : w.ownsRow base e size (.slice sa n sc) n xs)
    (ua : Option Addr) (m uc : Nat) (news : List Value) (hx : a.eval x = .slice ua m uc) (hl : news.length = m * size) (hsrc : m ≠ 0 → ∃ ad, ua = some ad ∧ ∀ j u, news[j]? = some u → w.cell? (ad.add j) = some u) (h1 : ∀ u ∈ news, u.oneCell' = true)
    (h63 : n + m ≤ maxLen) (hbytes : (n + m) * bytes ≤ 140737488355328) (hbase : base ≤ w.heap.size) (n' : Nat) (hn' : n + m = n')
    (h : ∀ a' c' w', w'.ownsRow base e size (.slice a' n' c') n' (xs ++ news) → w.grownBy w' (Value.slice sa n sc).ownBlock → ((Value.slice a' n' c').ownBlock = (Value.slice sa n sc).ownBlock ∨ (Value.slice a' n' c').ownBlock = some w.heap.size) → K (a.put o.dst (.slice a' n' c')) w') :
    if Region.wanted o (yielded ops a.tmps) = true then Oper.wp Tryz.prog o a w K Q else E := by
  subst hn'
  have hw : Region.wanted o (yielded ops a.tmps) = true := by simp [Region.wanted, hgd]
  rw [if_pos hw]
  have key : ∃ a' c' w', (Builtin.append_ #[t, t] o.type #[.slice sa n sc, .slice ua m uc]).run Tryz.prog w = .ok (.slice a' (n + m) c') w' ∧ w'.ownsRow base e size (.slice a' (n + m) c') (n + m) (xs ++ news) ∧ w.grownBy w' (Value.slice sa n sc).ownBlock ∧ ((Value.slice a' (n + m) c').ownBlock = (Value.slice sa n sc).ownBlock ∨ (Value.slice a' (n + m) c').ownBlock = some w.heap.size) := by
    by_cases hm : m = 0
    · subst hm
      obtain rfl : news = [] := List.eq_nil_of_length_eq_zero (by omega)
      exact ⟨sa, sc, w, app_nothing w t _ e i size ht hi hsize sa ua n sc uc (owns_le hown), by simpa using hown, World.grownBy.refl _ _, .inl rfl⟩
    · obtain ⟨ad, rfl, hcell⟩ := hsrc hm
      obtain ⟨v', w', h1, h2, h3, _, h5⟩ := run_append_own_at (P := Tryz.prog) w base t o.type e i z size bytes ht hi hz hsize hby hzs hsz (.slice sa n sc) n xs hown ad m uc news hl hcell h1 h63 hbytes hbase
      obtain ⟨a', c', rfl⟩ := row_slice h2
      exact ⟨a', c', w', h1, h2, h3, h5⟩
  obtain ⟨a', c', w', hr, h2, h3, h4⟩ := key
  unfold Oper.wp execOp
  simp only [ho, resolve, invoke, builtin, Sem.run_bind, Sem.run_pure, Result.andThen_ok, List.map_toArray, List.map_cons, List.map_nil, hs, hx, hr]
  exact h a' c' w' h2 h3 h4
/-- an empty slice of one's own, made anew -/
theorem owns_empty (w : World) (t : TypeId) (sz base : Nat) (hb : base ≤ w.heap.size) : (w.alloc (.cells #[] t)).ownsRow base t sz (.slice (some ⟨w.heap.size, 0, none⟩) 0 0) 0 [] :=
  ⟨by simp, .inr ⟨w.heap.size, 0, #[], rfl, hb, heap_alloc_new w _, Nat.le_refl _, by decide, by simp, by simp⟩⟩
theorem ents_src {w : World} {B : Nat} {a : Option Addr} {n c : Nat} {l : List En} (h : Ents w B (.slice a n c) l) : n ≠ 0 → ∃ ad, a = some ad ∧ ∀ j u, (enc l)[j]? = some u → w.cell? (ad.add j) = some u := by
  intro hn
  obtain ⟨a', c', hv, _, _, _, hx⟩ := h
  simp only [Value.slice.injEq] at hv
  obtain ⟨rfl, rfl, rfl⟩ := hv
  obtain ⟨b, o, rfl, _, hcell⟩ := hx (fun e => by subst e; exact hn rfl)
  refine ⟨_, rfl, fun j u hj => ?_⟩
  rw [Addr.add_lit]
  have hlt : j < (enc l).length := (List.getElem?_eq_some_iff.1 hj).1
  rw [enc_len] at hlt
  have hi : j / 5 < l.length := by omega
  obtain ⟨x, hx2⟩ := get_lt hi
  have hg := enc_get hx2
  obtain ⟨k0, k1, k2, k3, k4⟩ := hcell _ x hx2
  have hj5 : j = j / 5 * 5 + j % 5 := by omega
  have hm : j % 5 < 5 := Nat.mod_lt _ (by decide)
  generalize j / 5 = q at *
  generalize j % 5 = r at *
  subst hj5
  rcases (by omega : r = 0 ∨ r = 1 ∨ r = 2 ∨ r = 3 ∨ r = 4) with rfl | rfl | rfl | rfl | rfl
  · have := hg.1; rw [Nat.add_zero] at hj; rw [this] at hj; cases hj; simpa using k0
  · rw [hg.2.1] at hj; cases hj; rw [← Nat.add_assoc]; exact k1
  · rw [hg.2.2.1] at hj; cases hj; rw [← Nat.add_assoc]; exact k2
  · rw [hg.2.2.2.1] at hj; cases hj; rw [← Nat.add_assoc]; exact k3
  · rw [hg.2.2.2.2] at hj; cases hj; rw [← Nat.add_assoc]; exact k4
end Go.Proofs.YtfibbjngllelbaaGreat

namespace Go.Proofs.YtfibbjngllelbaaGreat
open Go.RowKit Go.Shelf Go.Proofs.YtfibbjngllelbaaGreat.Ds

theorem gb_own {A W W' : World} {r : Option Nat} (h : A.grownBy W none) (g : W.grownBy W' r) (hr : ∀ x, r = some x → A.heap.size ≤ x) : A.grownBy W' none :=
  ⟨g.os.trans h.os, g.tape.trans h.tape, g.output.trans h.output, Nat.le_trans h.size g.size, fun b hb _ => (g.block b (Nat.lt_of_lt_of_le hb h.size) (fun e => by have := hr b e.symm; omega)).trans (h.block b hb (by simp))⟩
theorem box_news {W : World} {b : Nat} {t : TypeId} {x : Value} (h : Boxed W b t x) : ∀ j u, [x][j]? = some u → W.cell? ((⟨b, 0, none⟩ : Addr).add j) = some u := by
  intro j u hj
  have hj2 : j < 1 := by have := (List.getElem?_eq_some_iff.1 hj).1; simpa using this
  obtain rfl : j = 0 := by omega
  simp at hj; subst hj
  rw [Addr.add_lit]; exact h.cell
theorem enc_nm (nm : ByteArray) : encStr nm.data.toList = .string nm := by cases nm; simp
theorem run_sl1 (oa : Option Addr) (n oc k : Nat) (hk : k ≤ oc) (W : World) : (Instr.slice 24 (.slice oa n oc) none (some (.int .i64 (k : Int))) none).run Tryz.prog W = .ok (.slice oa k oc) W := by
  have he : Tryz.prog.elem 24 = 9 := by simp [Program.elem, Tryz.underlying24]
  rw [run_slice_h (P := Tryz.prog) (w := W) (t := 24) (a := oa) (len := n) (cap := oc) (by rw [he]; exact Tryz.underlying24) .i64 (k : Int) (by omega) (by omega), he]
  have hs : (sizeOf 9).run Tryz.prog W = .ok 1 W := by obtain ⟨i9, hi, _, h1, _⟩ := info_parts info9; simp [sizeOf, typeInfo, hi, h1]
  rw [hs]
  simp only [Result.andThen_ok, sliced, Int.toNat_natCast, Nat.sub_zero, Nat.zero_mul]
  have : (if oc = 0 then oa else Option.map (fun x => x.add 0) oa) = oa := by
    split
    · rfl
    · cases oa <;> simp [Addr.add]
  rw [this]
theorem run_sl2 (oa : Option Addr) (n oc k : Nat) (hk : k ≤ n) (W : World) : (Instr.slice 24 (.slice oa n oc) (some (.int .i64 (k : Int))) none none).run Tryz.prog W = .ok (.slice (if oc = k then oa else oa.map (·.add k)) (n - k) (oc - k)) W := by
  have he : Tryz.prog.elem 24 = 9 := by simp [Program.elem, Tryz.underlying24]
  rw [run_slice_l (P := Tryz.prog) (w := W) (t := 24) (a := oa) (len := n) (cap := oc) (by rw [he]; exact Tryz.underlying24) .i64 (k : Int) (by omega) (by omega), he]
  have hs : (sizeOf 9).run Tryz.prog W = .ok 1 W := by obtain ⟨i9, hi, _, h1, _⟩ := info_parts info9; simp [sizeOf, typeInfo, hi, h1]
  rw [hs]
  simp only [Result.andThen_ok, sliced, Int.toNat_natCast, Nat.mul_one]

set_option maxRecDepth 100000 in
set_option maxHeartbeats 4000000 in
theorem region9 {Q : Exit → Act → World → Prop} (hQp : ∀ c a d v w, Q (.panic c) (Act.put a d v) w → Q (.panic c) a w) (t0 t1 t2 t4 t7 t8 t9 t10 t11 t12 t13 t14 t15 t16 t17 t18 t19 t20 t21 t22 t23 t24 t25 t26 t27 t28 t29 t30 t31 t32 t33 t34 t35 t36 t37 t38 t39 t40 t41 t42 t43 t44 t45 : Value) (A : World) (base k oc eb : Nat) (oa : Option Addr) (os : List (List UInt8)) (nm : ByteArray)
    (hsm : os.length < 4096) (hk : k ≤ os.length) (hown : A.ownsRow base 9 1 (.slice oa os.length oc) os.length (os.map encStr)) (hcn : A.cell? ⟨eb, 1, none⟩ = some (.string nm))
    (hEnd : ∀ (u31 u32 u33 u34 u35 u36 u37 u38 u39 u40 u41 u42 u43 : Value) (na : Option Addr) (nc : Nat) (Wf : World), Wf.ownsRow A.heap.size 9 1 (.slice na (os.length + 1) nc) (os.length + 1) (((os.take k ++ [nm.data.toList]) ++ os.drop k).map encStr) → A.grownBy Wf none → Q .normal { tmps := #[t0, t1, t2, .slice na (os.length + 1) nc, t4, .pointer (some ⟨eb, 0, none⟩), .int .i64 (k : Int), t7, t8, t9, t10, t11, t12, t13, t14, t15, t16, t17, t18, t19, t20, t21, t22, t23, t24, t25, t26, t27, t28, t29, t30, u31, u32, u33, u34, u35, u36, u37, u38, u39, u40, u41, u42, u43, t44, t45], defers := [] } Wf) :
    (Code.region 9 #[{ dst := some 31, op := Op.buildSlice 24 0 #[], type := 24, pos := "ref.go:84", after := #[], guard := none }, { dst := some 32, op := Op.move (Operand.tmp 3), type := 24, pos := "ref.go:84", after := #[], guard := none }, { dst := some 33, op := Op.move (Operand.tmp 6), type := 3, pos := "ref.go:84", after := #[], guard := none }, { dst := some 34, op := Op.slice 24 (Operand.tmp 32) none (some (Operand.tmp 33)) none, type := 24, pos := "ref.go:84", after := #[{ on := 1, ground := Ground.data }, { on := 2, ground := Ground.data }], guard := none }, { dst := some 35, op := Op.call { callee := Callee.builtin Builtin.append, args := #[Operand.tmp 31, Operand.tmp 34], argTypes := #[24, 24] }, type := 24, pos := "ref.go:84", after := #[{ on := 0, ground := Ground.data }, { on := 3, ground := Ground.data }], guard := none }, { dst := some 36, op := Op.fieldAddr 45 (Operand.tmp 5) 1, type := 0, pos := "ref.go:84", after := #[], guard := none }, { dst := some 37, op := Op.load 9 (Operand.tmp 36), type := 9, pos := "ref.go:84", after := #[{ on := 5, ground := Ground.data }], guard := none }, { dst := some 38, op := Op.buildSlice 24 1 #[(0, Operand.tmp 37)], type := 24, pos := "ref.go:84", after := #[{ on := 6, ground := Ground.data }], guard := none }, { dst := some 39, op := Op.call { callee := Callee.builtin Builtin.append, args := #[Operand.tmp 35, Operand.tmp 38], argTypes := #[24, 24] }, type := 24, pos := "ref.go:84", after := #[{ on := 4, ground := Ground.data }, { on := 7, ground := Ground.data }, { on := 4, ground := Ground.chain }], guard := none }, { dst := some 40, op := Op.move (Operand.tmp 3), type := 24, pos := "ref.go:84", after := #[], guard := none }, { dst := some 41, op := Op.move (Operand.tmp 6), type := 3, pos := "ref.go:84", after := #[], guard := none }, { dst := some 42, op := Op.slice 24 (Operand.tmp 40) (some (Operand.tmp 41)) none none, type := 24, pos := "ref.go:84", after := #[{ on := 9, ground := Ground.data }, { on := 10, ground := Ground.data }], guard := none }, { dst := some 43, op := Op.call { callee := Callee.builtin Builtin.append, args := #[Operand.tmp 39, Operand.tmp 42], argTypes := #[24, 24] }, type := 24, pos := "ref.go:84", after := #[{ on := 8, ground := Ground.data }, { on := 11, ground := Ground.data }, { on := 8, ground := Ground.chain }], guard := none }, { dst := some 3, op := Op.assign (Operand.tmp 43), type := 24, pos := "ref.go:84", after := #[{ on := 12, ground := Ground.data }, { on := 12, ground := Ground.chain }, { on := 0, ground := Ground.phase }, { on := 1, ground := Ground.phase }, { on := 2, ground := Ground.phase }, { on := 3, ground := Ground.phase }, { on := 4, ground := Ground.phase }, { on := 5, ground := Ground.phase }, { on := 6, ground := Ground.phase }, { on := 7, ground := Ground.phase }, { on := 8, ground := Ground.phase }, { on := 9, ground := Ground.phase }, { on := 10, ground := Ground.phase }, { on := 11, ground := Ground.phase }, { on := 12, ground := Ground.phase }], guard := none }] true).wp Tryz.prog Q { tmps := #[t0, t1, t2, .slice oa os.length oc, t4, .pointer (some ⟨eb, 0, none⟩), .int .i64 (k : Int), t7, t8, t9, t10, t11, t12, t13, t14, t15, t16, t17, t18, t19, t20, t21, t22, t23, t24, t25, t26, t27, t28, t29, t30, t31, t32, t33, t34, t35, t36, t37, t38, t39, t40, t41, t42, t43, t44, t45], defers := [] } A := by
  obtain ⟨i9, hi9, hq0, hq1, hq2⟩ := info_parts info9
  have hoc : os.length ≤ oc := owns_le hown
  have HEND : Hid (∀ (u31 u32 u33 u34 u35 u36 u37 u38 u39 u40 u41 u42 u43 : Value) (na : Option Addr) (nc : Nat) (Wf : World), Wf.ownsRow A.heap.size 9 1 (.slice na (os.length + 1) nc) (os.length + 1) (((os.take k ++ [nm.data.toList]) ++ os.drop k).map encStr) → A.grownBy Wf none → Q .normal { tmps := #[t0, t1, t2, .slice na (os.length + 1) nc, t4, .pointer (some ⟨eb, 0, none⟩), .int .i64 (k : Int), t7, t8, t9, t10, t11, t12, t13, t14, t15, t16, t17, t18, t19, t20, t21, t22, t23, t24, t25, t26, t27, t28, t29, t30, u31, u32, u33, u34, u35, u36, u37, u38, u39, u40, u41, u42, u43, t44, t45], defers := [] } Wf) := hEnd
  have hs1 := run_sl1 oa os.length oc k (by omega)
  obtain ⟨ub, hub⟩ : ∃ ub, (if oc = k then oa else oa.map (·.add k)) = ub := ⟨_, rfl⟩
  have hs2 := run_sl2 oa os.length oc k hk
  rw [hub] at hs2
  obtain ⟨m2, hm2⟩ : ∃ m2, os.length - k = m2 := ⟨_, rfl⟩
  obtain ⟨c2, hc2⟩ : ∃ c2, oc - k = c2 := ⟨_, rfl⟩
  rw [hm2, hc2] at hs2
  have HSRC : Hid (∀ W, A.grownBy W none → (k ≠ 0 → ∃ ad, oa = some ad ∧ ∀ j u, ((os.take k).map encStr)[j]? = some u → W.cell? (ad.add j) = some u)) := by
    intro W hg hk0
    have hr := row_gb hown hg (by simp)
    obtain ⟨y, hy⟩ := get_lt (show 0 < os.length by omega)
    obtain ⟨g, rfl, _, _, _⟩ := row_cell hr (j := 0) (u := encStr y) (by simp [hy])
    refine ⟨_, rfl, fun j u hj => ?_⟩
    rw [Addr.add_lit, Nat.zero_add]
    have hj2 : (os.map encStr)[j]? = some u := by
      have hlt : j < k := by have := (List.getElem?_eq_some_iff.1 hj).1; simp at this; omega
      rw [List.map_take, List.getElem?_take_of_lt hlt] at hj
      exact hj
    obtain ⟨g', e, _, _, hc⟩ := row_cell hr hj2
    simp only [Option.some.injEq, Addr.mk.injEq] at e
    rw [e.1]; exact hc
  have HSRC2 : Hid (∀ W, A.grownBy W none → (m2 ≠ 0 → ∃ ad, ub = some ad ∧ ∀ j u, ((os.drop k).map encStr)[j]? = some u → W.cell? (ad.add j) = some u)) := by
    intro W hg hk0
    have hr := row_gb hown hg (by simp)
    obtain ⟨y, hy⟩ := get_lt (show 0 < os.length by omega)
    obtain ⟨g, rfl, _, _, _⟩ := row_cell hr (j := 0) (u := encStr y) (by simp [hy])
    rw [if_neg (by omega)] at hub
    simp only [Option.map_some] at hub
    refine ⟨_, hub.symm, fun j u hj => ?_⟩
    rw [Addr.add_lit, Addr.add_lit, Nat.zero_add]
    have hj2 : (os.map encStr)[k + j]? = some u := by
      rw [List.map_drop, List.getElem?_drop] at hj
      exact hj
    obtain ⟨g', e, _, _, hc⟩ := row_cell hr hj2
    simp only [Option.some.injEq, Addr.mk.injEq] at e
    rw [e.1]; exact hc
  have hl1 : ((os.take k).map encStr).length = k * 1 := by simp; omega
  have hl2 : ((os.drop k).map encStr).length = m2 * 1 := by simp; omega
  have hkn : k + 1 + m2 = os.length + 1 := by omega
  have HONE : Hid (∀ l : List (List UInt8), ∀ u ∈ l.map encStr, u.oneCell' = true) := fun l u hu => by obtain ⟨y, _, rfl⟩ := List.mem_map.1 hu; rfl
  have HCN : Hid (∀ W, A.grownBy W none → W.cell? ⟨eb, 1, none⟩ = some (.string nm)) := fun W hg => hg.cell hcn (by simp)
  have G0 : Hid (A.grownBy A.drew none) := gb_drew (gb_refl _ none)
  clear hEnd hown hcn hub hm2 hc2
  refine wp_region_any (by kernel_rfl) ?_
  change wpAny _ _ _ _ _ _ _ (World.drew _)
  obtain ⟨V0, hV0⟩ : ∃ V0, A.drew = V0 := ⟨_, rfl⟩
  rw [hV0] at G0 ⊢
  clear hV0
  refine wpAny_of_J (S := fun W => A.grownBy W none) (J := fun _ => true) _ _ _ _ ?_
  refine wpAnyJ_take (i := 1) (oi := { dst := some 32, op := Op.move (Operand.tmp 3), type := 24, pos := "ref.go:84", after := #[], guard := none }) (v := .slice oa os.length oc) rfl rfl (waits_of (by kernel_rfl)) (by kernel_rfl) (by kernel_rfl) (by kernel_rfl) (fun _ _ _ h => hQp _ _ _ _ _ h) (Or.inl ⟨by rfl, fun W hS => ?_⟩) G0.out ?_
  · go_simp
  simp only [Act.put, List.setIfInBounds_toArray, List.set_cons_zero, List.set_cons_succ]
  refine wpAnyJ_take (i := 2) (oi := { dst := some 33, op := Op.move (Operand.tmp 6), type := 3, pos := "ref.go:84", after := #[], guard := none }) (v := .int .i64 (k : Int)) rfl rfl (waits_of (by kernel_rfl)) (by kernel_rfl) (by kernel_rfl) (by kernel_rfl) (fun _ _ _ h => hQp _ _ _ _ _ h) (Or.inl ⟨by rfl, fun W hS => ?_⟩) G0.out ?_
  · go_simp
  simp only [Act.put, List.setIfInBounds_toArray, List.set_cons_zero, List.set_cons_succ]
  refine wpAnyJ_take (i := 3) (oi := { dst := some 34, op := Op.slice 24 (Operand.tmp 32) none (some (Operand.tmp 33)) none, type := 24, pos := "ref.go:84", after := #[{ on := 1, ground := Ground.data }, { on := 2, ground := Ground.data }], guard := none }) (v := .slice oa k oc) rfl rfl (waits_of (by kernel_rfl)) (by kernel_rfl) (by kernel_rfl) (by kernel_rfl) (fun _ _ _ h => hQp _ _ _ _ _ h) (Or.inl ⟨by rfl, fun W hS => ?_⟩) G0.out ?_
  · go_simp
  simp only [Act.put, List.setIfInBounds_toArray, List.set_cons_zero, List.set_cons_succ]
  refine wpAnyJ_take (i := 5) (oi := { dst := some 36, op := Op.fieldAddr 45 (Operand.tmp 5) 1, type := 0, pos := "ref.go:84", after := #[], guard := none }) (v := .pointer (some ⟨eb, 1, none⟩)) rfl rfl (waits_of (by kernel_rfl)) (by kernel_rfl) (by kernel_rfl) (by kernel_rfl) (fun _ _ _ h => hQp _ _ _ _ _ h) (Or.inl ⟨by rfl, fun W hS => ?_⟩) G0.out ?_
  · go_simp
  simp only [Act.put, List.setIfInBounds_toArray, List.set_cons_zero, List.set_cons_succ]
  refine wpAnyJ_take (i := 6) (oi := { dst := some 37, op := Op.load 9 (Operand.tmp 36), type := 9, pos := "ref.go:84", after := #[{ on := 5, ground := Ground.data }], guard := none }) (v := .string nm) rfl rfl (waits_of (by kernel_rfl)) (by kernel_rfl) (by kernel_rfl) (by kernel_rfl) (fun _ _ _ h => hQp _ _ _ _ _ h) (Or.inl ⟨by rfl, fun W hS => ?_⟩) G0.out ?_
  · have z := HCN.out W hS; go_simp
  simp only [Act.put, List.setIfInBounds_toArray, List.set_cons_zero, List.set_cons_succ]
  refine wpAnyJ_take (i := 9) (oi := { dst := some 40, op := Op.move (Operand.tmp 3), type := 24, pos := "ref.go:84", after := #[], guard := none }) (v := .slice oa os.length oc) rfl rfl (waits_of (by kernel_rfl)) (by kernel_rfl) (by kernel_rfl) (by kernel_rfl) (fun _ _ _ h => hQp _ _ _ _ _ h) (Or.inl ⟨by rfl, fun W hS => ?_⟩) G0.out ?_
  · go_simp
  simp only [Act.put, List.setIfInBounds_toArray, List.set_cons_zero, List.set_cons_succ]
  refine wpAnyJ_take (i := 10) (oi := { dst := some 41, op := Op.move (Operand.tmp 6), type := 3, pos := "ref.go:84", after := #[], guard := none }) (v := .int .i64 (k : Int)) rfl rfl (waits_of (by kernel_rfl)) (by kernel_rfl) (by kernel_rfl) (by kernel_rfl) (fun _ _ _ h => hQp _ _ _ _ _ h) (Or.inl ⟨by rfl, fun W hS => ?_⟩) G0.out ?_
  · go_simp
  simp only [Act.put, List.setIfInBounds_toArray, List.set_cons_zero, List.set_cons_succ]
  refine wpAnyJ_take (i := 11) (oi := { dst := some 42, op := Op.slice 24 (Operand.tmp 40) (some (Operand.tmp 41)) none none, type := 24, pos := "ref.go:84", after := #[{ on := 9, ground := Ground.data }, { on := 10, ground := Ground.data }], guard := none }) (v := .slice ub m2 c2) rfl rfl (waits_of (by kernel_rfl)) (by kernel_rfl) (by kernel_rfl) (by kernel_rfl) (fun _ _ _ h => hQp _ _ _ _ _ h) (Or.inl ⟨by rfl, fun W hS => ?_⟩) G0.out ?_
  · go_simp
  simp only [Act.put, List.setIfInBounds_toArray, List.set_cons_zero, List.set_cons_succ]
  refine wpAnyJ_ready (rs := [0, 7]) (by kernel_rfl) (by simp) ?_
  refine AllJ.cons (o := { dst := some 31, op := Op.buildSlice 24 0 #[], type := 24, pos := "ref.go:84", after := #[], guard := none }) rfl (fun K hK => ?_) ?_
  ·
    go_simp
    have G2 : Hid (A.grownBy (V0.alloc (.cells #[] 9)) none) := gb_own G0.out (gb_none (ba _ _)) (by simp)
    have R3 : Hid ((V0.alloc (.cells #[] 9)).ownsRow A.heap.size 9 1 (.slice (some ⟨V0.heap.size, 0, none⟩) 0 0) 0 []) := owns_empty _ 9 1 _ G0.out.size
    refine hK.out _ _ (fun _ => G2.out) ?_
    clear hK K
    try simp only [Act.put, List.setIfInBounds_toArray, List.set_cons_zero, List.set_cons_succ]
    obtain ⟨B4, hB4⟩ : ∃ B4 : Nat, B4 = V0.heap.size := ⟨_, rfl⟩
    obtain ⟨W1, hW1⟩ : ∃ W1, W1 = (V0.alloc (.cells #[] 9)) := ⟨_, rfl⟩
    rw [← hW1, ← hB4] at R3 ⊢
    rw [← hW1] at G2
    clear hW1
    clear hB4
    refine wpAnyJ_ready (rs := [4, 7]) (by kernel_rfl) (by simp) ?_
    refine AllJ.cons (o := { dst := some 35, op := Op.call { callee := Callee.builtin Builtin.append, args := #[Operand.tmp 31, Operand.tmp 34], argTypes := #[24, 24] }, type := 24, pos := "ref.go:84", after := #[{ on := 0, ground := Ground.data }, { on := 3, ground := Ground.data }], guard := none }) rfl (fun K hK => ?_) ?_
    ·
      refine step_app _ rfl _ _ 24 rfl A.heap.size 9 i9 (.string ⟨#[]⟩) 1 16 Tryz.underlying24 hi9 hq0 hq1 hq2 rfl (by decide) (some ⟨B4, 0, none⟩) 0 0 [] rfl R3.out oa k oc ((os.take k).map encStr) rfl hl1 (HSRC.out W1 G2.out) (HONE.out _) (by unfold maxLen; omega) (by omega) G2.out.size k (by omega) ?_
      intro a8 c9 W5 ho10 hg11 ha12
      have G6 : Hid (A.grownBy W5 none) := gb_own G2.out hg11 (fun x hx => (row_lt R3.out hx).1)
      have R7 : Hid (W5.ownsRow A.heap.size 9 1 (.slice a8 k c9) k ([] ++ ((os.take k).map encStr))) := ho10
      refine hK.out _ _ (fun _ => G6.out) ?_
      clear hK K
      try simp only [Act.put, List.setIfInBounds_toArray, List.set_cons_zero, List.set_cons_succ]
      clear ho10 hg11 ha12
      refine wpAnyJ_ready (rs := [7]) (by kernel_rfl) (by simp) ?_
      refine AllJ.cons (o := { dst := some 38, op := Op.buildSlice 24 1 #[(0, Operand.tmp 37)], type := 24, pos := "ref.go:84", after := #[{ on := 6, ground := Ground.data }], guard := none }) rfl (fun K hK => ?_) ?_
      ·
        go_simp
        have G14 : Hid (A.grownBy (W5.alloc (.cells #[.string nm] 9)) none) := gb_own G6.out (gb_none (ba _ _)) (by simp)
        have C15 : Hid (Boxed (W5.alloc (.cells #[.string nm] 9)) W5.heap.size 9 (.string nm)) := Boxed.new _ _ _
        have R16 : Hid ((W5.alloc (.cells #[.string nm] 9)).ownsRow A.heap.size 9 1 (.slice a8 k c9) k ([] ++ ((os.take k).map encStr))) := row_gb R7.out (gb_none (ba _ _)) (by simp)
        refine hK.out _ _ (fun _ => G14.out) ?_
        clear hK K
        try simp only [Act.put, List.setIfInBounds_toArray, List.set_cons_zero, List.set_cons_succ]
        obtain ⟨B17, hB17⟩ : ∃ B17 : Nat, B17 = W5.heap.size := ⟨_, rfl⟩
        obtain ⟨W13, hW13⟩ : ∃ W13, W13 = (W5.alloc (.cells #[.string nm] 9)) := ⟨_, rfl⟩
        rw [← hW13, ← hB17] at C15 ⊢
        rw [← hW13] at G14 R16
        clear hW13
        have lB17 : A.heap.size ≤ B17 := by rw [hB17]; exact G6.out.size
        clear hB17
        refine wpAnyJ_ready (rs := [8]) (by kernel_rfl) (by simp) ?_
        refine AllJ.cons (o := { dst := some 39, op := Op.call { callee := Callee.builtin Builtin.append, args := #[Operand.tmp 35, Operand.tmp 38], argTypes := #[24, 24] }, type := 24, pos := "ref.go:84", after := #[{ on := 4, ground := Ground.data }, { on := 7, ground := Ground.data }, { on := 4, ground := Ground.chain }], guard := none }) rfl (fun K hK => ?_) ?_
        ·
          refine step_app _ rfl _ _ 24 rfl A.heap.size 9 i9 (.string ⟨#[]⟩) 1 16 Tryz.underlying24 hi9 hq0 hq1 hq2 rfl (by decide) a8 k c9 ([] ++ ((os.take k).map encStr)) rfl R16.out (some ⟨B17, 0, none⟩) 1 1 [.string nm] rfl rfl (fun _ => ⟨_, rfl, box_news C15.out⟩) (by intro z hz; simp at hz; subst hz; rfl) (by unfold maxLen; omega) (by omega) G14.out.size (k + 1) (by omega) ?_
          intro a21 c22 W18 ho23 hg24 ha25
          have G19 : Hid (A.grownBy W18 none) := gb_own G14.out hg24 (fun x hx => (row_lt R16.out hx).1)
          have R20 : Hid (W18.ownsRow A.heap.size 9 1 (.slice a21 (k + 1) c22) (k + 1) (([] ++ ((os.take k).map encStr)) ++ [.string nm])) := ho23
          refine hK.out _ _ (fun _ => G19.out) ?_
          clear hK K
          try simp only [Act.put, List.setIfInBounds_toArray, List.set_cons_zero, List.set_cons_succ]
          clear ho23 hg24 ha25
          refine wpAnyJ_ready (rs := [12]) (by kernel_rfl) (by simp) ?_
          refine AllJ.cons (o := { dst := some 43, op := Op.call { callee := Callee.builtin Builtin.append, args := #[Operand.tmp 39, Operand.tmp 42], argTypes := #[24, 24] }, type := 24, pos := "ref.go:84", after := #[{ on := 8, ground := Ground.data }, { on := 11, ground := Ground.data }, { on := 8, ground := Ground.chain }], guard := none }) rfl (fun K hK => ?_) ?_
          ·
            refine step_app _ rfl _ _ 24 rfl A.heap.size 9 i9 (.string ⟨#[]⟩) 1 16 Tryz.underlying24 hi9 hq0 hq1 hq2 rfl (by decide) a21 (k + 1) c22 (([] ++ ((os.take k).map encStr)) ++ [.string nm]) rfl R20.out ub m2 c2 ((os.drop k).map encStr) rfl hl2 (HSRC2.out W18 G19.out) (HONE.out _) (by unfold maxLen; omega) (by omega) G19.out.size (k + 1 + m2) (by omega) ?_
            intro a29 c30 W26 ho31 hg32 ha33
            have G27 : Hid (A.grownBy W26 none) := gb_own G19.out hg32 (fun x hx => (row_lt R20.out hx).1)
            have R28 : Hid (W26.ownsRow A.heap.size 9 1 (.slice a29 (k + 1 + m2) c30) (k + 1 + m2) ((([] ++ ((os.take k).map encStr)) ++ [.string nm]) ++ ((os.drop k).map encStr))) := ho31
            refine hK.out _ _ (fun _ => G27.out) ?_
            clear hK K
            try simp only [Act.put, List.setIfInBounds_toArray, List.set_cons_zero, List.set_cons_succ]
            clear ho31 hg32 ha33
            refine wpAnyJ_ready (rs := [13]) (by kernel_rfl) (by simp) ?_
            refine AllJ.cons (o := { dst := some 3, op := Op.assign (Operand.tmp 43), type := 24, pos := "ref.go:84", after := #[{ on := 12, ground := Ground.data }, { on := 12, ground := Ground.chain }, { on := 0, ground := Ground.phase }, { on := 1, ground := Ground.phase }, { on := 2, ground := Ground.phase }, { on := 3, ground := Ground.phase }, { on := 4, ground := Ground.phase }, { on := 5, ground := Ground.phase }, { on := 6, ground := Ground.phase }, { on := 7, ground := Ground.phase }, { on := 8, ground := Ground.phase }, { on := 9, ground := Ground.phase }, { on := 10, ground := Ground.phase }, { on := 11, ground := Ground.phase }, { on := 12, ground := Ground.phase }], guard := none }) rfl (fun K hK => ?_) ?_
            ·
              go_simp
              refine hK.out _ _ (fun _ => G27.out) ?_
              clear hK K
              try simp only [Act.put, List.setIfInBounds_toArray, List.set_cons_zero, List.set_cons_succ]
              refine wpAnyJ_done (by kernel_rfl) ?_ _
              exact HEND.out _ _ _ _ _ _ _ _ _ _ _ _ _ _ _ _ (by rw [← hkn]; simpa [List.map_append, enc_nm] using R28.out) G27.out
            exact AllJ.nil
          exact AllJ.nil
        exact AllJ.nil
      exact AllJ.nil
    refine AllJ.cons (o := { dst := some 38, op := Op.buildSlice 24 1 #[(0, Operand.tmp 37)], type := 24, pos := "ref.go:84", after := #[{ on := 6, ground := Ground.data }], guard := none }) rfl (fun K hK => ?_) ?_
    ·
      go_simp
      have G35 : Hid (A.grownBy (W1.alloc (.cells #[.string nm] 9)) none) := gb_own G2.out (gb_none (ba _ _)) (by simp)
      have C36 : Hid (Boxed (W1.alloc (.cells #[.string nm] 9)) W1.heap.size 9 (.string nm)) := Boxed.new _ _ _
      have R37 : Hid ((W1.alloc (.cells #[.string nm] 9)).ownsRow A.heap.size 9 1 (.slice (some ⟨B4, 0, none⟩) 0 0) 0 []) := row_gb R3.out (gb_none (ba _ _)) (by simp)
      refine hK.out _ _ (fun _ => G35.out) ?_
      clear hK K
      try simp only [Act.put, List.setIfInBounds_toArray, List.set_cons_zero, List.set_cons_succ]
      obtain ⟨B38, hB38⟩ : ∃ B38 : Nat, B38 = W1.heap.size := ⟨_, rfl⟩
      obtain ⟨W34, hW34⟩ : ∃ W34, W34 = (W1.alloc (.cells #[.string nm] 9)) := ⟨_, rfl⟩
      rw [← hW34, ← hB38] at C36 ⊢
      rw [← hW34] at G35 R37
      clear hW34
      have lB38 : A.heap.size ≤ B38 := by rw [hB38]; exact G2.out.size
      clear hB38
      have nB4B38 : B4 ≠ B38 := by
        intro e
        have h1 := C36.out
        have h2 := R37.out.2
        rcases h2 with ⟨h3, _⟩ | ⟨g, cap, cur, h3, _, h4, _, _, h5, _⟩
        · cases h3
        · simp only [Value.slice.injEq, Option.some.injEq, Addr.mk.injEq] at h3
          rw [← h3.1.1, e, show W34.heap[B38]? = _ from h1] at h4
          simp only [Option.some.injEq, Obj.cells.injEq] at h4
          rw [← h4.1, ← h3.2.2] at h5
          simp at h5
      refine wpAnyJ_ready (rs := [4]) (by kernel_rfl) (by simp) ?_
      refine AllJ.cons (o := { dst := some 35, op := Op.call { callee := Callee.builtin Builtin.append, args := #[Operand.tmp 31, Operand.tmp 34], argTypes := #[24, 24] }, type := 24, pos := "ref.go:84", after := #[{ on := 0, ground := Ground.data }, { on := 3, ground := Ground.data }], guard := none }) rfl (fun K hK => ?_) ?_
      ·
        refine step_app _ rfl _ _ 24 rfl A.heap.size 9 i9 (.string ⟨#[]⟩) 1 16 Tryz.underlying24 hi9 hq0 hq1 hq2 rfl (by decide) (some ⟨B4, 0, none⟩) 0 0 [] rfl R37.out oa k oc ((os.take k).map encStr) rfl hl1 (HSRC.out W34 G35.out) (HONE.out _) (by unfold maxLen; omega) (by omega) G35.out.size k (by omega) ?_
        intro a42 c43 W39 ho44 hg45 ha46
        have G40 : Hid (A.grownBy W39 none) := gb_own G35.out hg45 (fun x hx => (row_lt R37.out hx).1)
        have R41 : Hid (W39.ownsRow A.heap.size 9 1 (.slice a42 k c43) k ([] ++ ((os.take k).map encStr))) := ho44
        have C47 : Hid (Boxed W39 B38 9 (.string nm)) := C36.out.kept hg45 (by simp only [Value.ownBlock, ne_eq, Option.some.injEq]; exact fun e => nB4B38 e.symm)
        refine hK.out _ _ (fun _ => G40.out) ?_
        clear hK K
        try simp only [Act.put, List.setIfInBounds_toArray, List.set_cons_zero, List.set_cons_succ]
        clear ho44 hg45 ha46
        refine wpAnyJ_ready (rs := [8]) (by kernel_rfl) (by simp) ?_
        refine AllJ.cons (o := { dst := some 39, op := Op.call { callee := Callee.builtin Builtin.append, args := #[Operand.tmp 35, Operand.tmp 38], argTypes := #[24, 24] }, type := 24, pos := "ref.go:84", after := #[{ on := 4, ground := Ground.data }, { on := 7, ground := Ground.data }, { on := 4, ground := Ground.chain }], guard := none }) rfl (fun K hK => ?_) ?_
        ·
          refine step_app _ rfl _ _ 24 rfl A.heap.size 9 i9 (.string ⟨#[]⟩) 1 16 Tryz.underlying24 hi9 hq0 hq1 hq2 rfl (by decide) a42 k c43 ([] ++ ((os.take k).map encStr)) rfl R41.out (some ⟨B38, 0, none⟩) 1 1 [.string nm] rfl rfl (fun _ => ⟨_, rfl, box_news C47.out⟩) (by intro z hz; simp at hz; subst hz; rfl) (by unfold maxLen; omega) (by omega) G40.out.size (k + 1) (by omega) ?_
          intro a51 c52 W48 ho53 hg54 ha55
          have G49 : Hid (A.grownBy W48 none) := gb_own G40.out hg54 (fun x hx => (row_lt R41.out hx).1)
          have R50 : Hid (W48.ownsRow A.heap.size 9 1 (.slice a51 (k + 1) c52) (k + 1) (([] ++ ((os.take k).map encStr)) ++ [.string nm])) := ho53
          refine hK.out _ _ (fun _ => G49.out) ?_
          clear hK K
          try simp only [Act.put, List.setIfInBounds_toArray, List.set_cons_zero, List.set_cons_succ]
          clear ho53 hg54 ha55
          refine wpAnyJ_ready (rs := [12]) (by kernel_rfl) (by simp) ?_
          refine AllJ.cons (o := { dst := some 43, op := Op.call { callee := Callee.builtin Builtin.append, args := #[Operand.tmp 39, Operand.tmp 42], argTypes := #[24, 24] }, type := 24, pos := "ref.go:84", after := #[{ on := 8, ground := Ground.data }, { on := 11, ground := Ground.data }, { on := 8, ground := Ground.chain }], guard := none }) rfl (fun K hK => ?_) ?_
          ·
            refine step_app _ rfl _ _ 24 rfl A.heap.size 9 i9 (.string ⟨#[]⟩) 1 16 Tryz.underlying24 hi9 hq0 hq1 hq2 rfl (by decide) a51 (k + 1) c52 (([] ++ ((os.take k).map encStr)) ++ [.string nm]) rfl R50.out ub m2 c2 ((os.drop k).map encStr) rfl hl2 (HSRC2.out W48 G49.out) (HONE.out _) (by unfold maxLen; omega) (by omega) G49.out.size (k + 1 + m2) (by omega) ?_
            intro a59 c60 W56 ho61 hg62 ha63
            have G57 : Hid (A.grownBy W56 none) := gb_own G49.out hg62 (fun x hx => (row_lt R50.out hx).1)
            have R58 : Hid (W56.ownsRow A.heap.size 9 1 (.slice a59 (k + 1 + m2) c60) (k + 1 + m2) ((([] ++ ((os.take k).map encStr)) ++ [.string nm]) ++ ((os.drop k).map encStr))) := ho61
            refine hK.out _ _ (fun _ => G57.out) ?_
            clear hK K
            try simp only [Act.put, List.setIfInBounds_toArray, List.set_cons_zero, List.set_cons_succ]
            clear ho61 hg62 ha63
            refine wpAnyJ_ready (rs := [13]) (by kernel_rfl) (by simp) ?_
            refine AllJ.cons (o := { dst := some 3, op := Op.assign (Operand.tmp 43), type := 24, pos := "ref.go:84", after := #[{ on := 12, ground := Ground.data }, { on := 12, ground := Ground.chain }, { on := 0, ground := Ground.phase }, { on := 1, ground := Ground.phase }, { on := 2, ground := Ground.phase }, { on := 3, ground := Ground.phase }, { on := 4, ground := Ground.phase }, { on := 5, ground := Ground.phase }, { on := 6, ground := Ground.phase }, { on := 7, ground := Ground.phase }, { on := 8, ground := Ground.phase }, { on := 9, ground := Ground.phase }, { on := 10, ground := Ground.phase }, { on := 11, ground := Ground.phase }, { on := 12, ground := Ground.phase }], guard := none }) rfl (fun K hK => ?_) ?_
            ·
              go_simp
              refine hK.out _ _ (fun _ => G57.out) ?_
              clear hK K
              try simp only [Act.put, List.setIfInBounds_toArray, List.set_cons_zero, List.set_cons_succ]
              refine wpAnyJ_done (by kernel_rfl) ?_ _
              exact HEND.out _ _ _ _ _ _ _ _ _ _ _ _ _ _ _ _ (by rw [← hkn]; simpa [List.map_append, enc_nm] using R58.out) G57.out
            exact AllJ.nil
          exact AllJ.nil
        exact AllJ.nil
      exact AllJ.nil
    exact AllJ.nil
  refine AllJ.cons (o := { dst := some 38, op := Op.buildSlice 24 1 #[(0, Operand.tmp 37)], type := 24, pos := "ref.go:84", after := #[{ on := 6, ground := Ground.data }], guard := none }) rfl (fun K hK => ?_) ?_
  ·
    go_simp
    have G65 : Hid (A.grownBy (V0.alloc (.cells #[.string nm] 9)) none) := gb_own G0.out (gb_none (ba _ _)) (by simp)
    have C66 : Hid (Boxed (V0.alloc (.cells #[.string nm] 9)) V0.heap.size 9 (.string nm)) := Boxed.new _ _ _
    refine hK.out _ _ (fun _ => G65.out) ?_
    clear hK K
    try simp only [Act.put, List.setIfInBounds_toArray, List.set_cons_zero, List.set_cons_succ]
    obtain ⟨B67, hB67⟩ : ∃ B67 : Nat, B67 = V0.heap.size := ⟨_, rfl⟩
    obtain ⟨W64, hW64⟩ : ∃ W64, W64 = (V0.alloc (.cells #[.string nm] 9)) := ⟨_, rfl⟩
    rw [← hW64, ← hB67] at C66 ⊢
    rw [← hW64] at G65
    clear hW64
    have lB67 : A.heap.size ≤ B67 := by rw [hB67]; exact G0.out.size
    clear hB67
    refine wpAnyJ_ready (rs := [0]) (by kernel_rfl) (by simp) ?_
    refine AllJ.cons (o := { dst := some 31, op := Op.buildSlice 24 0 #[], type := 24, pos := "ref.go:84", after := #[], guard := none }) rfl (fun K hK => ?_) ?_
    ·
      go_simp
      have G69 : Hid (A.grownBy (W64.alloc (.cells #[] 9)) none) := gb_own G65.out (gb_none (ba _ _)) (by simp)
      have R70 : Hid ((W64.alloc (.cells #[] 9)).ownsRow A.heap.size 9 1 (.slice (some ⟨W64.heap.size, 0, none⟩) 0 0) 0 []) := owns_empty _ 9 1 _ G65.out.size
      have C71 : Hid (Boxed (W64.alloc (.cells #[] 9)) B67 9 (.string nm)) := C66.out.alloc _
      refine hK.out _ _ (fun _ => G69.out) ?_
      clear hK K
      try simp only [Act.put, List.setIfInBounds_toArray, List.set_cons_zero, List.set_cons_succ]
      obtain ⟨B72, hB72⟩ : ∃ B72 : Nat, B72 = W64.heap.size := ⟨_, rfl⟩
      obtain ⟨W68, hW68⟩ : ∃ W68, W68 = (W64.alloc (.cells #[] 9)) := ⟨_, rfl⟩
      rw [← hW68, ← hB72] at R70 ⊢
      rw [← hW68] at G69 C71
      clear hW68
      clear hB72
      have nB72B67 : B72 ≠ B67 := by
        intro e
        have h1 := C71.out
        have h2 := R70.out.2
        rcases h2 with ⟨h3, _⟩ | ⟨g, cap, cur, h3, _, h4, _, _, h5, _⟩
        · cases h3
        · simp only [Value.slice.injEq, Option.some.injEq, Addr.mk.injEq] at h3
          rw [← h3.1.1, e, show W68.heap[B67]? = _ from h1] at h4
          simp only [Option.some.injEq, Obj.cells.injEq] at h4
          rw [← h4.1, ← h3.2.2] at h5
          simp at h5
      refine wpAnyJ_ready (rs := [4]) (by kernel_rfl) (by simp) ?_
      refine AllJ.cons (o := { dst := some 35, op := Op.call { callee := Callee.builtin Builtin.append, args := #[Operand.tmp 31, Operand.tmp 34], argTypes := #[24, 24] }, type := 24, pos := "ref.go:84", after := #[{ on := 0, ground := Ground.data }, { on := 3, ground := Ground.data }], guard := none }) rfl (fun K hK => ?_) ?_
      ·
        refine step_app _ rfl _ _ 24 rfl A.heap.size 9 i9 (.string ⟨#[]⟩) 1 16 Tryz.underlying24 hi9 hq0 hq1 hq2 rfl (by decide) (some ⟨B72, 0, none⟩) 0 0 [] rfl R70.out oa k oc ((os.take k).map encStr) rfl hl1 (HSRC.out W68 G69.out) (HONE.out _) (by unfold maxLen; omega) (by omega) G69.out.size k (by omega) ?_
        intro a76 c77 W73 ho78 hg79 ha80
        have G74 : Hid (A.grownBy W73 none) := gb_own G69.out hg79 (fun x hx => (row_lt R70.out hx).1)
        have R75 : Hid (W73.ownsRow A.heap.size 9 1 (.slice a76 k c77) k ([] ++ ((os.take k).map encStr))) := ho78
        have C81 : Hid (Boxed W73 B67 9 (.string nm)) := C71.out.kept hg79 (by simp only [Value.ownBlock, ne_eq, Option.some.injEq]; exact fun e => nB72B67 e.symm)
        refine hK.out _ _ (fun _ => G74.out) ?_
        clear hK K
        try simp only [Act.put, List.setIfInBounds_toArray, List.set_cons_zero, List.set_cons_succ]
        clear ho78 hg79 ha80
        refine wpAnyJ_ready (rs := [8]) (by kernel_rfl) (by simp) ?_
        refine AllJ.cons (o := { dst := some 39, op := Op.call { callee := Callee.builtin Builtin.append, args := #[Operand.tmp 35, Operand.tmp 38], argTypes := #[24, 24] }, type := 24, pos := "ref.go:84", after := #[{ on := 4, ground := Ground.data }, { on := 7, ground := Ground.data }, { on := 4, ground := Ground.chain }], guard := none }) rfl (fun K hK => ?_) ?_
        ·
          refine step_app _ rfl _ _ 24 rfl A.heap.size 9 i9 (.string ⟨#[]⟩) 1 16 Tryz.underlying24 hi9 hq0 hq1 hq2 rfl (by decide) a76 k c77 ([] ++ ((os.take k).map encStr)) rfl R75.out (some ⟨B67, 0, none⟩) 1 1 [.string nm] rfl rfl (fun _ => ⟨_, rfl, box_news C81.out⟩) (by intro z hz; simp at hz; subst hz; rfl) (by unfold maxLen; omega) (by omega) G74.out.size (k + 1) (by omega) ?_
          intro a85 c86 W82 ho87 hg88 ha89
          have G83 : Hid (A.grownBy W82 none) := gb_own G74.out hg88 (fun x hx => (row_lt R75.out hx).1)
          have R84 : Hid (W82.ownsRow A.heap.size 9 1 (.slice a85 (k + 1) c86) (k + 1) (([] ++ ((os.take k).map encStr)) ++ [.string nm])) := ho87
          refine hK.out _ _ (fun _ => G83.out) ?_
          clear hK K
          try simp only [Act.put, List.setIfInBounds_toArray, List.set_cons_zero, List.set_cons_succ]
          clear ho87 hg88 ha89
          refine wpAnyJ_ready (rs := [12]) (by kernel_rfl) (by simp) ?_
          refine AllJ.cons (o := { dst := some 43, op := Op.call { callee := Callee.builtin Builtin.append, args := #[Operand.tmp 39, Operand.tmp 42], argTypes := #[24, 24] }, type := 24, pos := "ref.go:84", after := #[{ on := 8, ground := Ground.data }, { on := 11, ground := Ground.data }, { on := 8, ground := Ground.chain }], guard := none }) rfl (fun K hK => ?_) ?_
          ·
            refine step_app _ rfl _ _ 24 rfl A.heap.size 9 i9 (.string ⟨#[]⟩) 1 16 Tryz.underlying24 hi9 hq0 hq1 hq2 rfl (by decide) a85 (k + 1) c86 (([] ++ ((os.take k).map encStr)) ++ [.string nm]) rfl R84.out ub m2 c2 ((os.drop k).map encStr) rfl hl2 (HSRC2.out W82 G83.out) (HONE.out _) (by unfold maxLen; omega) (by omega) G83.out.size (k + 1 + m2) (by omega) ?_
            intro a93 c94 W90 ho95 hg96 ha97
            have G91 : Hid (A.grownBy W90 none) := gb_own G83.out hg96 (fun x hx => (row_lt R84.out hx).1)
            have R92 : Hid (W90.ownsRow A.heap.size 9 1 (.slice a93 (k + 1 + m2) c94) (k + 1 + m2) ((([] ++ ((os.take k).map encStr)) ++ [.string nm]) ++ ((os.drop k).map encStr))) := ho95
            refine hK.out _ _ (fun _ => G91.out) ?_
            clear hK K
            try simp only [Act.put, List.setIfInBounds_toArray, List.set_cons_zero, List.set_cons_succ]
            clear ho95 hg96 ha97
            refine wpAnyJ_ready (rs := [13]) (by kernel_rfl) (by simp) ?_
            refine AllJ.cons (o := { dst := some 3, op := Op.assign (Operand.tmp 43), type := 24, pos := "ref.go:84", after := #[{ on := 12, ground := Ground.data }, { on := 12, ground := Ground.chain }, { on := 0, ground := Ground.phase }, { on := 1, ground := Ground.phase }, { on := 2, ground := Ground.phase }, { on := 3, ground := Ground.phase }, { on := 4, ground := Ground.phase }, { on := 5, ground := Ground.phase }, { on := 6, ground := Ground.phase }, { on := 7, ground := Ground.phase }, { on := 8, ground := Ground.phase }, { on := 9, ground := Ground.phase }, { on := 10, ground := Ground.phase }, { on := 11, ground := Ground.phase }, { on := 12, ground := Ground.phase }], guard := none }) rfl (fun K hK => ?_) ?_
            ·
              go_simp
              refine hK.out _ _ (fun _ => G91.out) ?_
              clear hK K
              try simp only [Act.put, List.setIfInBounds_toArray, List.set_cons_zero, List.set_cons_succ]
              refine wpAnyJ_done (by kernel_rfl) ?_ _
              exact HEND.out _ _ _ _ _ _ _ _ _ _ _ _ _ _ _ _ (by rw [← hkn]; simpa [List.map_append, enc_nm] using R92.out) G91.out
            exact AllJ.nil
          exact AllJ.nil
        exact AllJ.nil
      exact AllJ.nil
    exact AllJ.nil
  exact AllJ.nil
end Go.Proofs.YtfibbjngllelbaaGreat

namespace Go.Proofs.YtfibbjngllelbaaGreat
open Go.RowKit Go.Shelf Go.Proofs.YtfibbjngllelbaaGreat.Ds

theorem rowb {w : World} {base base' : Nat} {t : TypeId} {sz : Nat} {v : Value} {n : Nat} {xs : List Value} (h : w.ownsRow base t sz v n xs) (hb : base' ≤ base) : w.ownsRow base' t sz v n xs := by
  refine ⟨h.1, ?_⟩
  rcases h.2 with h0 | ⟨g, cap, cur, hv, hb2, hc⟩
  · exact .inl h0
  · exact .inr ⟨g, cap, cur, hv, by omega, hc⟩
theorem le_trans' (a b c : List UInt8) (h1 : decide (a ≤ b) = true) (h2 : decide (b ≤ c) = true) : decide (a ≤ c) = true := by
  simp only [decide_eq_true_eq] at *
  exact List.le_trans h1 h2
theorem le_total' (a b : List UInt8) : (decide (a ≤ b) || decide (b ≤ a)) = true := by
  simp only [Bool.or_eq_true, decide_eq_true_eq]
  exact List.le_total a b
theorem nLs_sorted (l : List En) : (nLs l).Pairwise (fun x y => decide (x ≤ y) = true) := List.pairwise_mergeSort le_trans' le_total' _
theorem nLs_ins {l : List En} {i : Nat} {nm : ByteArray} {p u v : Int} (hg : l[i]? = some (1, nm, p, u, v)) {k : Nat} (h1 : ∀ y ∈ (nLs (l.take i)).take k, y < nm.data.toList) (h2 : ∀ y, (nLs (l.take i))[k]? = some y → ¬ y < nm.data.toList) :
    nLs (l.take (i + 1)) = (nLs (l.take i)).take k ++ [nm.data.toList] ++ (nLs (l.take i)).drop k := by
  have hs := nLs_sorted (l.take i)
  have hops : (opsT (l.take (i + 1))).map (fun x => x.data.toList) = (opsT (l.take i)).map (fun x => x.data.toList) ++ [nm.data.toList] := by
    rw [List.take_add_one, hg]
    have := ops_snoc (l.take i) (1, nm, p, u, v)
    simp only [Option.toList_some]
    rw [this]; simp
  obtain ⟨os, hos⟩ : ∃ os, nLs (l.take i) = os := ⟨_, rfl⟩
  have hp0 : os.Perm ((opsT (l.take i)).map (fun x => x.data.toList)) := by rw [← hos]; exact List.mergeSort_perm _ _
  rw [hos] at hs h1 h2 ⊢
  have hperm : (os.take k ++ [nm.data.toList] ++ os.drop k).Perm ((opsT (l.take (i + 1))).map (fun x => x.data.toList)) := by
    rw [hops]
    refine List.Perm.trans ?_ (List.Perm.append_right _ hp0)
    have : os ++ [nm.data.toList] = os.take k ++ (os.drop k ++ [nm.data.toList]) := by rw [← List.append_assoc, List.take_append_drop]
    rw [this, List.append_assoc]
    exact List.Perm.append_left _ List.perm_append_comm
  have hsort : (os.take k ++ [nm.data.toList] ++ os.drop k).Pairwise (fun x y => decide (x ≤ y) = true) := by
    have hle : ∀ y ∈ os.drop k, nm.data.toList ≤ y := by
      intro y hy
      obtain ⟨j, hj⟩ := List.mem_iff_getElem?.1 hy
      rw [List.getElem?_drop] at hj
      have hklt : k < os.length := by have := (List.getElem?_eq_some_iff.1 hj).1; omega
      obtain ⟨z, hz⟩ := get_lt hklt
      have h3 : nm.data.toList ≤ z := List.not_lt.1 (h2 z hz)
      by_cases hj0 : j = 0
      · subst hj0; rw [Nat.add_zero, hz] at hj; cases hj; exact h3
      · have h4 := List.pairwise_iff_getElem.1 hs k (k + j) hklt (List.getElem?_eq_some_iff.1 hj).1 (by omega)
        rw [(List.getElem?_eq_some_iff.1 hz).2, (List.getElem?_eq_some_iff.1 hj).2] at h4
        exact List.le_trans h3 (of_decide_eq_true h4)
    rw [List.pairwise_append, List.pairwise_append]
    refine ⟨⟨hs.sublist (List.take_sublist _ _), by simp, fun x hx y hy => ?_⟩, hs.sublist (List.drop_sublist _ _), fun x hx y hy => ?_⟩
    · simp only [List.mem_singleton] at hy
      subst hy
      exact decide_eq_true (List.le_of_lt (h1 x hx))
    · rw [List.mem_append] at hx
      rcases hx with hx | hx
      · exact decide_eq_true (List.le_trans (List.le_of_lt (h1 x hx)) (hle y hy))
      · simp only [List.mem_singleton] at hx
        subst hx
        exact decide_eq_true (hle y hy)
  have e1 := Go.mergeSort_of_perm hperm
  have e2 := List.mergeSort_of_pairwise (le := fun x y => decide (x ≤ y)) hsort
  unfold nLs
  exact e1.symm.trans e2
theorem nLs_not {l : List En} {i : Nat} {d : Int} {nm : ByteArray} {p u v : Int} (hg : l[i]? = some (d, nm, p, u, v)) (hd : d ≠ 1) : nLs (l.take (i + 1)) = nLs (l.take i) := by
  unfold nLs
  rw [List.take_add_one, hg]
  have := ops_snoc (l.take i) (d, nm, p, u, v)
  simp only [Option.toList_some]
  rw [this, if_neg hd]; simp

set_option maxHeartbeats 2000000 in
set_option maxRecDepth 100000 in
/-- Names -/
theorem rnames_any (B : Nat) (v : Value) (l : List En) (w : World) (hB : B ≤ w.heap.size) (hx : Ents w B v l) (hsm : l.length ≤ 4096) :
    Calls Tryz.prog 8 #[v] w fun x w' => ∃ r, x = .returned r ∧ w'.ownsRow w.heap.size 9 1 r (nLs l).length ((nLs l).map encStr) ∧ Below w.heap.size w w' := by
  have HX : Hid (Ents w B v l) := hx
  obtain ⟨a, c, rfl, hc, hl⟩ := hx.slice
  obtain ⟨i9, hi9, hy0, hy1, hy2⟩ := info_parts info9
  go_enter Tryz.func8, Tryz.ntmps8
  go_wp2
  go_loopw [3, 9] (fun ov s wr => ∃ (i : Nat) (oa : Option Addr) (oc : Nat) (os : List (List UInt8)), s = .int .i64 (i : Int) ∧ ov = .slice oa os.length oc ∧ i ≤ l.length ∧ Hid (nLs (l.take i) = os) ∧ os.length ≤ i ∧ Hid (wr.ownsRow w.heap.size 9 1 (.slice oa os.length oc) os.length (os.map encStr)) ∧ Below w.heap.size w wr) (fun _ s _ => l.length - (intOf s).toNat)
  case atStart => exact ⟨0, none, 0, [], rfl, rfl, Nat.zero_le _, by simp [Hid, nLs, opsT], Nat.le_refl _, ⟨rfl, .inl ⟨rfl, rfl⟩⟩, Below.refl _ _⟩
  case round =>
    obtain ⟨i, oa, oc, os, rfl, rfl, hi, HO, hol, HW, hbl⟩ := hrel
    have hrs : w.heap.size ≤ wr.heap.size := hbl.size
    by_cases h1 : i < l.length
    · obtain ⟨b, o, d, nm, p, u, v, rfl, hb, hg, e0, e1, e2, e3, e4, hnm⟩ := HX.out.get hB hbl h1
      by_cases hd : d = 1
      · subst hd
        obtain ⟨W, hW⟩ : ∃ W, wr.alloc (.cells #[.int .i64 1, .string nm, .int .i64 p, .int .i64 u, .int .i64 v] 45) = W := ⟨_, rfl⟩
        have BW : Below wr.heap.size wr W := by rw [← hW]; exact ba _ _
        have hzW : W.heap.size = wr.heap.size + 1 := by rw [← hW]; simp
        have VX := FivB.new wr (.int .i64 1) (.string nm) (.int .i64 p) (.int .i64 u) (.int .i64 v) 45 _ rfl
        rw [hW] at VX
        have HVX : Hid (FivB W wr.heap.size (.int .i64 1) (.string nm) (.int .i64 p) (.int .i64 u) (.int .i64 v)) := VX
        obtain ⟨x0, x1, x2, x3, x4, _, _, _, _, _, hlx⟩ := VX
        have HWW : Hid (W.ownsRow w.heap.size 9 1 (.slice oa os.length oc) os.length (os.map encStr)) := row_gb HW.out (gb_none BW) (by simp)
        have hbW : Below w.heap.size w W := bt hbl BW
        obtain ⟨ws, hws⟩ : ∃ ws : World, ws = wr := ⟨_, rfl⟩
        subst hws
        go_wp2
        go_loopw [6] (fun s wr => ∃ (k : Nat), s = .int .i64 (k : Int) ∧ k ≤ os.length ∧ Hid (∀ y ∈ os.take k, y < nm.data.toList) ∧ Below W.heap.size W wr) (fun s _ => os.length - (intOf s).toNat)
        case atStart => exact ⟨0, rfl, Nat.zero_le _, by simp [Hid], Below.refl _ _⟩
        case round =>
          obtain ⟨k, rfl, hk, HK, hbk⟩ := hrel
          by_cases hk1 : k < os.length
          · obtain ⟨y, hy⟩ := get_lt hk1
            obtain ⟨g, rfl, _, hgl, hcy⟩ := row_cell (row_gb HWW.out (gb_none hbk) (by simp)) (j := k) (u := encStr y) (by simp [hy])
            have z1 : (k : Int) < (os.length : Int) := by omega
            have xx1 : wr.cell? ⟨ws.heap.size, 1, none⟩ = some (.string nm) := (hbk.cell (p := ⟨ws.heap.size, 1, none⟩) hlx).trans x1
            by_cases hlt : y < nm.data.toList
            · have hb : Op.bytesLess y nm.toList = true := by rw [bytesLess_eq, Lib.toList_data]; exact decide_eq_true hlt
              have HK2 : Hid (∀ z ∈ os.take (k + 1), z < nm.data.toList) := by
                intro z hz
                rw [List.take_add_one, hy] at hz
                rcases List.mem_append.1 hz with hz | hz
                · exact HK.out z hz
                · simp at hz; subst hz; exact hlt
              clear hlt hy
              go_wp2
              go_quiet (fail)
              go_wp2
              go_roundw
              case rel => exact ⟨k + 1, by go_num, by omega, HK2, below_drewN hbk _⟩
              case measure => simp [intOf]; omega
            · have hb : Op.bytesLess y nm.toList = false := by rw [bytesLess_eq, Lib.toList_data]; exact decide_eq_false hlt
              have HINS : Hid (nLs (l.take (i + 1)) = os.take k ++ [nm.data.toList] ++ os.drop k) := by
                have h := nLs_ins hg (k := k) (by rw [HO.out]; exact HK.out) (by rw [HO.out]; intro z hz; rw [hy] at hz; cases hz; exact hlt)
                rw [HO.out] at h; exact h
              clear hlt hy
              go_wp2
              go_quiet (fail)
              go_wp2
              refine region9 (fun _ _ d _ _ h => by cases d <;> exact h) _ _ _ _ _ _ _ _ _ _ _ _ _ _ _ _ _ _ _ _ _ _ _ _ _ _ _ _ _ _ _ _ _ _ _ _ _ _ _ _ _ _ _ (wr.drewN nq) w.heap.size k oc ws.heap.size (some ⟨g, 0, none⟩) os nm (by omega) hk ?_ ?_ ?_
              · exact row_gb HWW.out (gb_none (below_drewN hbk nq)) (by simp)
              · exact ((below_drewN hbk nq).cell (p := ⟨ws.heap.size, 1, none⟩) hlx).trans x1
              intro v31 v32 v33 v34 v35 v36 v37 v38 v39 v40 v41 v42 v43 na nc Wf hrow hgf
              obtain ⟨os', hos'⟩ : ∃ os', os.take k ++ [nm.data.toList] ++ os.drop k = os' := ⟨_, rfl⟩
              have hol' : os'.length = os.length + 1 := by rw [← hos']; simp; omega
              have HO' : Hid (nLs (l.take (i + 1)) = os') := by rw [Hid, HINS.out, hos']
              have hszf : w.heap.size ≤ (wr.drewN nq).heap.size := (bt hbW (below_drewN hbk nq)).size
              have HR' : Hid (Wf.ownsRow w.heap.size 9 1 (.slice na os'.length nc) os'.length (os'.map encStr)) := by
                rw [hos', ← hol'] at hrow
                exact rowb hrow hszf
              have HB' : Below w.heap.size w Wf := (bt hbW (below_drewN hbk nq)).grown hgf hszf (by simp)
              have hq : Value.slice na (os.length + 1) nc = .slice na os'.length nc := by rw [hol']
              have HQ : Hid (Value.slice na (os.length + 1) nc = .slice na os'.length nc) := hq
              clear hrow hgf hos' hq
              go_wp2
              go_roundw
              case rel => exact ⟨i + 1, na, nc, os', by go_num, HQ.out, by omega, HO', by omega, HR', HB'⟩
              case measure => simp [intOf]; omega
          · have hk' : k = os.length := by omega
            subst hk'
            have HINS : Hid (nLs (l.take (i + 1)) = os.take os.length ++ [nm.data.toList] ++ os.drop os.length) := by
              have h := nLs_ins hg (k := os.length) (by rw [HO.out]; exact HK.out) (by rw [HO.out]; intro z hz; have := (List.getElem?_eq_some_iff.1 hz).1; omega)
              rw [HO.out] at h; exact h
            have z1 : ¬ (os.length : Int) < (os.length : Int) := by omega
            go_wp2
            go_quiet (fail)
            go_wp2
            refine region9 (fun _ _ d _ _ h => by cases d <;> exact h) _ _ _ _ _ _ _ _ _ _ _ _ _ _ _ _ _ _ _ _ _ _ _ _ _ _ _ _ _ _ _ _ _ _ _ _ _ _ _ _ _ _ _ (wr.drewN nq) w.heap.size os.length oc ws.heap.size oa os nm (by omega) hk ?_ ?_ ?_
            · exact row_gb HWW.out (gb_none (below_drewN hbk nq)) (by simp)
            · exact ((below_drewN hbk nq).cell (p := ⟨ws.heap.size, 1, none⟩) hlx).trans x1
            intro v31 v32 v33 v34 v35 v36 v37 v38 v39 v40 v41 v42 v43 na nc Wf hrow hgf
            obtain ⟨os', hos'⟩ : ∃ os', os.take os.length ++ [nm.data.toList] ++ os.drop os.length = os' := ⟨_, rfl⟩
            have hol' : os'.length = os.length + 1 := by rw [← hos']; simp
            have HO' : Hid (nLs (l.take (i + 1)) = os') := by rw [Hid, HINS.out, hos']
            have hszf : w.heap.size ≤ (wr.drewN nq).heap.size := (bt hbW (below_drewN hbk nq)).size
            have HR' : Hid (Wf.ownsRow w.heap.size 9 1 (.slice na os'.length nc) os'.length (os'.map encStr)) := by
              rw [hos', ← hol'] at hrow
              exact rowb hrow hszf
            have HB' : Below w.heap.size w Wf := (bt hbW (below_drewN hbk nq)).grown hgf hszf (by simp)
            have hq : Value.slice na (os.length + 1) nc = .slice na os'.length nc := by rw [hol']
            have HQ : Hid (Value.slice na (os.length + 1) nc = .slice na os'.length nc) := hq
            clear hrow hgf hos' hq
            go_wp2
            go_roundw
            case rel => exact ⟨i + 1, na, nc, os', by go_num, HQ.out, by omega, HO', by omega, HR', HB'⟩
            case measure => simp [intOf]; omega
      · have HNO : Hid (nLs (l.take (i + 1)) = os) := by have h := nLs_not hg hd; rw [HO.out] at h; exact h
        have hd1 : (d != 1) = true := by simpa using hd
        clear hd
        go_wp2
        go_roundw
        case rel => exact ⟨i + 1, oa, oc, os, by go_num, rfl, by omega, HNO, by omega, row_gb HW.out (gb_none (ba _ _)) (by simp), bt hbl (ba _ _)⟩
        case measure => simp [intOf]; omega
    · have hi' : i = l.length := by omega
      subst hi'
      have HZ : Hid (nLs l = os) := by have h := HO.out; rw [List.take_length] at h; exact h
      go_wp2
      go_ret
      exact ⟨_, rfl, by rw [HZ.out]; exact HW.out, hbl⟩
end Go.Proofs.YtfibbjngllelbaaGreat
