import Derived.Test.YthmkbkombjhaeaaQw21
import Derived.Deep.Upon
import Derived.Test.YthmkbkombjhaeaaQw08
namespace Go.Proofs.Ythmkbkombjhaeaa
open Go.RowKit Go.Proofs.Ythmkbkombjhaeaa.Ds

/-! ### LISTS OF LISTS OF NUMBERS, OF ONE's OWN -/
abbrev Ol := Value × List Int
/-- a list of numbers from the first cell of a block that is not m -/
def OE (w : World) (m : Nat) (v : Value) (xs : List Int) : Prop :=
  ∃ g cap, v = .slice (some ⟨g, 0, none⟩) xs.length cap ∧ xs.length ≤ cap ∧ xs.length ≤ 1073741824 ∧ g < w.heap.size ∧ g ≠ m ∧ ∀ i x, xs[i]? = some x → w.cell? ⟨g, i, none⟩ = some (.int .i64 x)
theorem OE.keep {w w' : World} {m : Nat} {v : Value} {xs : List Int} (h : OE w m v xs) (hb : Below w.heap.size w w') : OE w' m v xs := by
  obtain ⟨g, cap, hv, hc, hl, hg, hm, hx⟩ := h
  exact ⟨g, cap, hv, hc, hl, Nat.lt_of_lt_of_le hg hb.size, hm, fun i x hi => (hb.cell (p := ⟨g, i, none⟩) hg).trans (hx i x hi)⟩
theorem OE.grow {w w' : World} {m m' : Nat} {v : Value} {xs : List Int} {row : Option Nat} (h : OE w m v xs) (hg : w.grownBy w' row) (hrow : ∀ g, row = some g → m = g) (hm : m' = m ∨ w.heap.size ≤ m') : OE w' m' v xs := by
  obtain ⟨g, cap, hv, hc, hl, hgl, hne, hx⟩ := h
  have := hg.size
  refine ⟨g, cap, hv, hc, hl, by omega, by rcases hm with h | h <;> omega, fun i x hi => ?_⟩
  exact hg.cell (hx i x hi) fun e => hne (hrow g e.symm).symm
def Lls (w : World) (lo : Nat) (v : Value) (os : List Ol) : Prop :=
  w.ownsRow lo 24 1 v os.length (os.map (·.1)) ∧ ∀ t ∈ os, ∃ m, OE w m t.1 t.2 ∧ ∀ g, v.ownBlock = some g → m = g
theorem Lls.nil (w : World) (lo : Nat) : Lls w lo (.slice none 0 0) [] := ⟨⟨rfl, .inl ⟨rfl, rfl⟩⟩, fun t ht => by cases ht⟩
theorem Lls.keep {w w' : World} {lo : Nat} {v : Value} {os : List Ol} (h : Lls w lo v os) (hb : Below w.heap.size w w') : Lls w' lo v os :=
  ⟨owns_below h.1 hb, fun t ht => let ⟨m, h1, h2⟩ := h.2 t ht; ⟨m, h1.keep hb, h2⟩⟩
theorem Lls.slice {w : World} {lo : Nat} {v : Value} {os : List Ol} (h : Lls w lo v os) : ∃ a c, v = .slice a os.length c := owns_slice h.1
theorem Lls.lt {w : World} {lo : Nat} {v : Value} {os : List Ol} (h : Lls w lo v os) : ∀ g, v.ownBlock = some g → lo ≤ g ∧ g < w.heap.size := h.1.lt
theorem Lls.app {W w' : World} {lo : Nat} {v v' s : Value} {os : List Ol} {xs : List Int} {m : Nat} (h : Lls W lo v os) (hown : w'.ownsRow lo 24 1 v' (os.length + 1) (os.map (·.1) ++ [s])) (hg : W.grownBy w' v.ownBlock)
    (hat : v'.ownBlock = v.ownBlock ∨ v'.ownBlock = some W.heap.size) (hi : OE W m s xs) (hm : ∀ g, v.ownBlock = some g → m = g) : Lls w' lo v' (os ++ [(s, xs)]) := by
  refine ⟨by simpa using hown, fun t ht => ?_⟩
  have key : ∀ (m : Nat) (s : Value) (xs : List Int), OE W m s xs → (∀ g, v.ownBlock = some g → m = g) → ∃ m', OE w' m' s xs ∧ ∀ g, v'.ownBlock = some g → m' = g := by
    intro m s xs h1 h2
    rcases hat with hat | hat
    · exact ⟨m, h1.grow hg h2 (.inl rfl), by rw [hat]; exact h2⟩
    · exact ⟨W.heap.size, h1.grow hg h2 (.inr (Nat.le_refl _)), by rw [hat]; intro g e; simpa using e⟩
  rcases List.mem_append.1 ht with ht | ht
  · obtain ⟨m, h1, h2⟩ := h.2 t ht
    exact key m t.1 t.2 h1 h2
  · obtain rfl : t = (s, xs) := by simpa using ht
    exact key m s xs hi hm
/-- one of them -/
theorem Lls.get {w : World} {lo : Nat} {v : Value} {os : List Ol} (h : Lls w lo v os) {i : Nat} (hi : i < os.length) :
    ∃ b c g cap xs, v = .slice (some ⟨b, 0, none⟩) os.length c ∧ os.length ≤ c ∧ lo ≤ b ∧ b < w.heap.size ∧ os[i]? = some (.slice (some ⟨g, 0, none⟩) xs.length cap, xs) ∧ w.cell? ⟨b, i, none⟩ = some (.slice (some ⟨g, 0, none⟩) xs.length cap) ∧ xs.length ≤ cap ∧ xs.length ≤ 1073741824 ∧ g < w.heap.size ∧ ∀ j x, xs[j]? = some x → w.cell? ⟨g, j, none⟩ = some (.int .i64 x) := by
  obtain ⟨⟨t, xs⟩, ht⟩ := get_lt hi
  obtain ⟨m, ⟨g, cap, hv, hc, hl, hg, _, hx⟩, _⟩ := h.2 _ (List.mem_of_getElem? ht)
  simp only at hv hx hc hl
  subst hv
  obtain ⟨_, ⟨hv0, h0⟩ | ⟨b, c, cur, hvv, hb, hcur, hcc, _, hsz, hxx⟩⟩ := h.1
  · have : os = [] := List.length_eq_zero_iff.1 h0
    subst this
    simp at hi
  · refine ⟨b, c, g, cap, xs, hvv, hcc, hb, (Array.getElem?_eq_some_iff.1 hcur).1, ht, ?_, hc, hl, hg, hx⟩
    have : cur[i]? = some (.slice (some ⟨g, 0, none⟩) xs.length cap) := by
      have h1 : (os.map (·.1))[i]? = some (.slice (some ⟨g, 0, none⟩) xs.length cap) := by simp [ht]
      rw [← hxx, List.getElem?_take_of_lt (by omega)] at h1
      simpa using h1
    simp [World.cell?, hcur, this]

theorem info24 : (Try.prog.info? 24).map (fun i => (i.zero, i.size, i.bytes)) = some (some (.slice none 0 0), 1, 24) := by kernel_rfl

/-- append to numbers of one's own, in a region that draws its order -/
theorem step_ow {ops : Array Oper} {o : Oper} {a : Act} {K : Act → World → Prop} {Q : Exit → Act → World → Prop} {E : Prop} (w : World) (hgd : o.guard = none) (s x : Operand) (ho : o.op = .call { callee := .builtin .append, args := #[s, x], argTypes := #[24, 24] })
    (base B n : Nat) (sa : Option Addr) (sc : Nat) (L ys M : List Int) (hs : a.eval s = .slice sa n sc) (hn : L.length = n) (hown : Ow w base (.slice sa n sc) L) (u : Value) (hx : a.eval x = u) (hu : Num w B u ys) (hM : L ++ ys = M) (hb : n + ys.length ≤ 17592186044416) (hbase : base ≤ w.heap.size) (n' : Nat) (hn' : n + ys.length = n')
    (h : ∀ a' c' w', Ow w' base (.slice a' n' c') M → w.grownBy w' (Value.slice sa n sc).ownBlock → Below base w w' → K (a.put o.dst (.slice a' n' c')) w') :
    if Region.wanted o (yielded ops a.tmps) = true then Oper.wp Try.prog o a w K Q else E := by
  subst hn hn' hM
  have hw : Region.wanted o (yielded ops a.tmps) = true := by simp [Region.wanted, hgd]
  rw [if_pos hw]
  obtain ⟨i0, hi, hz0, hz1, hz2⟩ := info_parts infoI
  have key : ∃ a' c' w', (Builtin.append_ #[24, 24] o.type #[.slice sa L.length sc, u]).run Try.prog w = .ok (.slice a' (L.length + ys.length) c') w' ∧ Ow w' base (.slice a' (L.length + ys.length) c') (L ++ ys) ∧ w.grownBy w' (Value.slice sa L.length sc).ownBlock ∧ Below base w w' := by
    obtain ⟨ua, uc, rfl, hc, hl, hxx⟩ := hu
    by_cases hy : ys = []
    · subst hy
      exact ⟨sa, sc, w, app0 w _ sa ua L.length sc uc (owns_le hown) i0 hi hz1, by simpa using hown, World.grownBy.refl _ _, Below.refl _ _⟩
    · obtain ⟨b', o', rfl, hb', hcell⟩ := hxx hy
      obtain ⟨v', w', h1, h2, h3, _, h5⟩ := run_append_own_at (P := Try.prog) w base 24 o.type 3 i0 (.int .i64 0) 1 8 Try.underlying24 hi hz0 hz1 hz2 rfl (by decide) (.slice sa L.length sc) L.length (L.map (Value.int .i64)) hown ⟨b', o', none⟩ ys.length uc (ys.map (Value.int .i64)) (by simp) (by
        intro m z hm
        have hlt : m < ys.length := by have := (List.getElem?_eq_some_iff.1 hm).1; simpa using this
        obtain ⟨y, hy2⟩ := get_lt hlt
        rw [Addr.add_lit, hcell m y hy2]
        simpa [hy2] using hm) (by intro z hz; obtain ⟨y, _, rfl⟩ := List.mem_map.1 hz; rfl) (by unfold maxLen; omega) (by omega) hbase
      obtain ⟨a', c', rfl⟩ := owns_slice h2
      refine ⟨a', c', w', h1, ?_, h3, (Below.refl _ _).grown h3 hbase (owns_block hown)⟩
      unfold Ow
      rw [List.length_append, List.map_append]
      exact h2
  obtain ⟨a', c', w', hr, h2, h4, h3⟩ := key
  unfold Oper.wp execOp
  simp only [ho, resolve, invoke, builtin, Sem.run_bind, Sem.run_pure, Result.andThen_ok, List.map_toArray, List.map_cons, List.map_nil, hs, hx, hr]
  exact h a' c' w' h2 h4 h3
/-- append of one list to lists of one's own, in a region that draws its order -/
theorem step_lls {ops : Array Oper} {o : Oper} {a : Act} {K : Act → World → Prop} {Q : Exit → Act → World → Prop} {E : Prop} (w : World) (hgd : o.guard = none) (s x : Operand) (ho : o.op = .call { callee := .builtin .append, args := #[s, x], argTypes := #[61, 61] })
    (base n : Nat) (sa : Option Addr) (sc : Nat) (os M : List Ol) (hs : a.eval s = .slice sa n sc) (hn : os.length = n) (hown : Lls w base (.slice sa n sc) os) (ad : Addr) (hx : a.eval x = .slice (some ad) 1 1) (t : Value) (xs : List Int)
    (hc : w.cell? (ad.add 0) = some t) (h1 : t.oneCell' = true) (hI : ∃ m, OE w m t xs ∧ ∀ g, (Value.slice sa n sc).ownBlock = some g → m = g) (hM : os ++ [(t, xs)] = M) (hb : n + 1 ≤ 1073741824) (hbase : base ≤ w.heap.size) (n' : Nat) (hn' : n + 1 = n')
    (h : ∀ a' c' w', Lls w' base (.slice a' n' c') M → w.grownBy w' (Value.slice sa n sc).ownBlock → Below base w w' → K (a.put o.dst (.slice a' n' c')) w') :
    if Region.wanted o (yielded ops a.tmps) = true then Oper.wp Try.prog o a w K Q else E := by
  subst hn hn' hM
  have hw : Region.wanted o (yielded ops a.tmps) = true := by simp [Region.wanted, hgd]
  rw [if_pos hw]
  obtain ⟨i0, hi, hz0, hz1, hz2⟩ := info_parts info24
  obtain ⟨v', w', hr, h2, h3, _, h5⟩ := run_append_own_at (P := Try.prog) w base 61 o.type 24 i0 (.slice none 0 0) 1 24 Try.underlying61 hi hz0 hz1 hz2 rfl (by decide) (.slice sa os.length sc) os.length (os.map (·.1)) hown.1 ad 1 1 [t] (by simp) (by
    intro j u hj
    match j, hj with
    | 0, hj => simp at hj; subst hj; exact hc) (by intro z hz; simp at hz; subst hz; exact h1) (by unfold maxLen; omega) (by omega) hbase
  obtain ⟨a', c', rfl⟩ := owns_slice h2
  obtain ⟨m, hm1, hm2⟩ := hI
  have key : Lls w' base (.slice a' (os.length + 1) c') (os ++ [(t, xs)]) := hown.app h2 h3 h5 hm1 hm2
  unfold Oper.wp execOp
  simp only [ho, resolve, invoke, builtin, Sem.run_bind, Sem.run_pure, Result.andThen_ok, List.map_toArray, List.map_cons, List.map_nil, hs, hx, hr]
  exact h a' c' w' key h3 ((Below.refl _ _).grown h3 hbase (owns_block hown.1))
/-- a list of one's own lies in a block of one's own -/
theorem oe_of_ow {w : World} {lo : Nat} {v : Value} {M : List Int} (h : Ow w lo v M) (hM : 0 < M.length) (hl : M.length ≤ 1073741824) : ∀ m, m < lo → OE w m v M := by
  intro m hm
  obtain ⟨a, c, rfl⟩ := h.slice
  obtain ⟨g, cap, hv, hcap, hg, hr⟩ := rowi_of_owns rfl h (owns_some h hM)
  exact ⟨g, cap, hv, hcap, hl, hr.lt, by omega, fun i x hi => hr.cells i x hi⟩
theorem num_cell {w : World} {b B : Nat} {x : Int} (h : w.cell? ⟨b, 0, none⟩ = some (.int .i64 x)) (hb : b < B) : Num w B (.slice (some ⟨b, 0, none⟩) 1 1) [x] := by
  refine ⟨_, 1, rfl, Nat.le_refl _, by simp, fun _ => ⟨b, 0, rfl, hb, fun i z hi => ?_⟩⟩
  match i, hi with
  | 0, hi => simp at hi; subst hi; exact h
end Go.Proofs.Ythmkbkombjhaeaa

namespace Go.Proofs.Ythmkbkombjhaeaa
open Go.RowKit Go.Proofs.Ythmkbkombjhaeaa.Ds

/-- a product, up to the limit -/
def prdT (fs : List Int) : Int := fs.foldl (fun o x => lim (o * x)) 1
theorem prd_take {fs : List Int} {k : Nat} {x : Int} (h : fs[k]? = some x) : prdT (fs.take (k + 1)) = lim (prdT (fs.take k) * x) := by
  unfold prdT
  rw [List.take_add_one, h, List.foldl_append]
  rfl
/-- a factor -/
def Fac (x : Int) : Prop := 1 ≤ x ∧ x ≤ 1073741825
theorem prd_bd {fs : List Int} (h : ∀ x ∈ fs, Fac x) : Fac (prdT fs) := by
  have key : ∀ (fs : List Int) (o : Int), (∀ x ∈ fs, Fac x) → Fac o → Fac (fs.foldl (fun o x => lim (o * x)) o) := by
    intro fs
    induction fs with
    | nil => intro o _ h; exact h
    | cons a fs ih =>
      intro o h h1
      refine ih _ (fun x hx => h x (List.mem_cons_of_mem _ hx)) ?_
      have h2 := h a (List.mem_cons_self ..)
      have h3 := Int.mul_le_mul h1.1 h2.1 (by omega) (by have := h1.1; omega)
      have h4 := lim_bd (x := o * a) (by omega)
      exact ⟨h4.1, h4.2.1⟩
  exact key fs 1 h ⟨by omega, by omega⟩

set_option maxHeartbeats 400000 in
theorem product_any (B : Nat) (v : Value) (fs : List Int) (w : World) (h : Num w B v fs) (hf : ∀ x ∈ fs, Fac x) (r : Int) (hr : prdT fs = r) :
    Calls Try.prog 24 #[v] w fun e w' => e = .returned (.int .i64 r) ∧ w' = w := by
  have HN : Hid (Num w B v fs) := h
  have HR : Hid (prdT fs = r) := hr
  have HF : Hid (∀ x ∈ fs, Fac x) := hf
  obtain ⟨a, c, rfl, hc, hl, _⟩ := h
  clear hr hf
  go_enter Try.func24, Try.ntmps24
  go_wp2
  go_loop [3, 8] (fun m i => ∃ (k : Nat) (z : Int), k ≤ fs.length ∧ Hid (prdT (fs.take k) = z) ∧ m = .int .i64 z ∧ i = .int .i64 (k : Int)) (fun _ i => fs.length - (intOf i).toNat)
  case atStart => exact ⟨0, 1, Nat.zero_le _, rfl, rfl, rfl⟩
  case round =>
    obtain ⟨k, z, hk, HZ, rfl, rfl⟩ := hrel
    by_cases h1 : k < fs.length
    · obtain ⟨b, o, c', x, he, _, _, hx, hcx⟩ := HN.out.get h1
      simp only [Value.slice.injEq] at he
      obtain ⟨rfl, _, rfl⟩ := he
      have hz : Fac z := by rw [← HZ.out]; exact prd_bd fun x hx => HF.out x (List.mem_of_mem_take hx)
      have hx1 : Fac x := HF.out x (List.mem_of_getElem? hx)
      have HS : Hid (prdT (fs.take (k + 1)) = lim (z * x)) := by
        show _ = _
        rw [prd_take hx, HZ.out]
      obtain ⟨z1, z2⟩ := hz
      obtain ⟨x1, x2⟩ := hx1
      have b0 : 0 ≤ z * x := Int.mul_nonneg (by omega) (by omega)
      have b1 : z * x ≤ 1073741825 * 1073741825 := Int.mul_le_mul z2 x2 (by omega) (by omega)
      obtain ⟨P, hP⟩ : ∃ P, z * x = P := ⟨_, rfl⟩
      rw [hP] at HS
      rw [lim_min] at HS
      rw [hP] at b0 b1
      clear hx
      go_wp2
      go_round
      case rel => exact ⟨k + 1, min P 1073741825, h1, HS, by first | rfl | go_num | (congr 1; omega) | (rw [hP]; congr 1; omega), by go_num⟩
      case measure => simp [intOf]; omega
    · have : k = fs.length := by omega
      subst this
      have hz : z = r := by rw [← HR.out, ← HZ.out, List.take_length]
      subst hz
      clear HZ HR
      go_wp2
      go_ret
      exact ⟨rfl, rfl⟩

/-- two factors of one's own -/
theorem num_two (w : World) (x y : Int) : Num (w.alloc (.cells #[.int .i64 x, .int .i64 y] 3)) (w.heap.size + 1) (.slice (some ⟨w.heap.size, 0, none⟩) 2 2) [x, y] := by
  refine ⟨_, 2, rfl, Nat.le_refl _, by simp, fun _ => ⟨w.heap.size, 0, rfl, by omega, fun i z hi => ?_⟩⟩
  match i, hi with
  | 0, hi => simp at hi; subst hi; simp [go_sem]
  | 1, hi => simp at hi; subst hi; simp [go_sem]
theorem num_three (w : World) (x y z : Int) : Num (w.alloc (.cells #[.int .i64 x, .int .i64 y, .int .i64 z] 3)) (w.heap.size + 1) (.slice (some ⟨w.heap.size, 0, none⟩) 3 3) [x, y, z] := by
  refine ⟨_, 3, rfl, Nat.le_refl _, by simp, fun _ => ⟨w.heap.size, 0, rfl, by omega, fun i u hi => ?_⟩⟩
  match i, hi with
  | 0, hi => simp at hi; subst hi; simp [go_sem]
  | 1, hi => simp at hi; subst hi; simp [go_sem]
  | 2, hi => simp at hi; subst hi; simp [go_sem]

theorem pow_fac {x : Int} (h : 1 ≤ x) (n : Nat) : Fac (lim (x ^ n)) := by
  have := lim_bd (pow_pos' h n)
  exact ⟨this.1, this.2.1⟩
theorem prd_two {a b : Int} (ha : Fac a) : prdT [a, b] = lim (a * b) := by
  show lim (lim (1 * a) * b) = _
  have : lim (1 * a) = a := by rw [lim_min]; have := ha.2; omega
  rw [this]
theorem prd_three {a b c : Int} (ha : Fac a) : prdT [a, b, c] = lim (lim (a * b) * c) := by
  show lim (lim (lim (1 * a) * b) * c) = _
  have : lim (1 * a) = a := by rw [lim_min]; have := ha.2; omega
  rw [this]

set_option maxHeartbeats 400000 in
theorem cpow_any (x : Int) (n : Nat) (hn : n ≤ 4096) (hx : 1 ≤ x) (h : x ≤ 1073741824) (r : Int) (hr : lim (x ^ n) = r) (w : World) :
    Calls Try.prog 25 #[.int .i64 x, .int .i64 (n : Int)] w fun e w' => e = .returned (.int .i64 r) ∧ Below w.heap.size w w' := by
  have HR : Hid (lim (x ^ n) = r) := hr
  clear hr
  go_enter Try.func25, Try.ntmps25
  go_wp2
  go_loopw [5, 7] (fun m i wr => ∃ (k : Nat) (z : Int), k ≤ n ∧ Hid (lim (x ^ k) = z) ∧ m = .int .i64 z ∧ i = .int .i64 (k : Int) ∧ Below w.heap.size w wr) (fun _ i _ => n - (intOf i).toNat)
  case atStart => exact ⟨0, 1, Nat.zero_le _, (by show lim (x ^ 0) = 1; rw [Int.pow_zero]; rfl), rfl, rfl, Below.refl _ _⟩
  case round =>
    obtain ⟨k, z, hk, HZ, rfl, rfl, hb⟩ := hrel
    by_cases h1 : k < n
    · have HS : Hid (lim (x ^ (k + 1)) = prdT [z, x]) := by
        show _ = _
        have hf := pow_fac hx k
        rw [HZ.out] at hf
        rw [prd_two hf, ← HZ.out, lim_mul hx, Int.pow_succ]
      obtain ⟨s, hs⟩ : ∃ s, prdT [z, x] = s := ⟨_, rfl⟩
      rw [hs] at HS
      have kc := product_any (wr.heap.size + 1) _ [z, x] _ (num_two wr z x) (by
        intro y hy
        simp at hy
        rcases hy with rfl | rfl
        · have := pow_fac hx k; rw [HZ.out] at this; exact this
        · exact ⟨hx, by omega⟩) s hs
      clear hs
      go_wp2_with fail
      refine kc.mono ?_
      rintro e w1 ⟨rfl, rfl⟩
      clear kc
      go_wp2
      go_roundw
      case rel => exact ⟨k + 1, s, h1, HS, rfl, by go_num, bal hb _⟩
      case measure => simp [intOf]; omega
    · have : k = n := by omega
      subst this
      have hz : z = r := by rw [← HR.out, ← HZ.out]
      subst hz
      clear HZ HR
      go_wp2
      go_ret
      exact ⟨rfl, hb⟩
end Go.Proofs.Ythmkbkombjhaeaa
