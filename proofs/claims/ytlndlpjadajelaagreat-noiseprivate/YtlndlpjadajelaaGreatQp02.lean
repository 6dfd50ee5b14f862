import Derived.Test.YtlndlpjadajelaaGreatRows
import Derived.Test.YtlndlpjadajelaaGreatQp01
import Derived.WalkKit
import Derived.WalkSpells
import Derived.Deep.QuietTactic
import Derived.BigQuiet
import Derived.WalkSmall
import Derived.Sort.Grow
namespace Go.Proofs.YtlndlpjadajelaaGreat
open Go.RowKit Go.Proofs.YtlndlpjadajelaaGreat.Ds

/-- a part in memory: its list's value, the numbers behind it, its weight -/
abbrev Tr := Value × List Int × Int

/-- THE NUMBERS BEHIND A SLICE, in a block below B that is not nb. -/
def Ints (w : World) (B nb : Nat) (v : Value) (xs : List Int) : Prop :=
  ∃ a c, v = .slice a xs.length c ∧ xs.length ≤ c ∧ xs.length ≤ 1073741824 ∧
    (xs ≠ [] → ∃ b o, a = some ⟨b, o, none⟩ ∧ b < B ∧ b ≠ nb ∧ ∀ i x, xs[i]? = some x → w.cell? ⟨b, o + i, none⟩ = some (.int .i64 x))

theorem Ints.keep {w w' : World} {B nb : Nat} {v : Value} {xs : List Int} (h : Ints w B nb v xs) (hb : Below B w w') : Ints w' B nb v xs := by
  obtain ⟨a, c, hv, hc, hl, hx⟩ := h
  refine ⟨a, c, hv, hc, hl, fun hne => ?_⟩
  obtain ⟨b, o, ha, hB, hn, hcell⟩ := hx hne
  exact ⟨b, o, ha, hB, hn, fun i x hi => (hb.cell (p := ⟨b, o + i, none⟩) hB).trans (hcell i x hi)⟩

theorem Ints.mono {w : World} {B B' nb nb' : Nat} {v : Value} {xs : List Int} (h : Ints w B nb v xs) (hB : B ≤ B') (hn : nb' = nb ∨ B ≤ nb') : Ints w B' nb' v xs := by
  obtain ⟨a, c, hv, hc, hl, hx⟩ := h
  refine ⟨a, c, hv, hc, hl, fun hne => ?_⟩
  obtain ⟨b, o, ha, hb, hnb, hcell⟩ := hx hne
  exact ⟨b, o, ha, by omega, by rcases hn with h | h <;> omega, hcell⟩

/-- the cells of a row of parts -/
def Cells (w : World) (b o : Nat) (ts : List Tr) : Prop :=
  ∀ i t, ts[i]? = some t → w.cell? ⟨b, o + i * 2, none⟩ = some t.1 ∧ w.cell? ⟨b, o + i * 2 + 1, none⟩ = some (.int .i64 t.2.2)

/-- PARTS BEHIND A SLICE: what they are is 'rd ts'. -/
def Parts (w : World) (B : Nat) (v : Value) (ts : List Tr) : Prop :=
  ∃ a c, v = .slice a ts.length c ∧ ts.length ≤ c ∧ ts.length ≤ 1073741824 ∧ (∀ t ∈ ts, Ints w B B t.1 t.2.1) ∧
    (ts ≠ [] → ∃ b o, a = some ⟨b, o, none⟩ ∧ b < B ∧ Cells w b o ts)

def rd (ts : List Tr) : List Pt := ts.map (·.2)

theorem Cells.keep {w w' : World} {B b o : Nat} {ts : List Tr} (h : Cells w b o ts) (hb : Below B w w') (hB : b < B) : Cells w' b o ts :=
  fun i t hi => ⟨(hb.cell (p := ⟨b, o + i * 2, none⟩) hB).trans (h i t hi).1, (hb.cell (p := ⟨b, o + i * 2 + 1, none⟩) hB).trans (h i t hi).2⟩

theorem Parts.keep {w w' : World} {B : Nat} {v : Value} {ts : List Tr} (h : Parts w B v ts) (hb : Below B w w') : Parts w' B v ts := by
  obtain ⟨a, c, hv, hc, hl, hi, hx⟩ := h
  refine ⟨a, c, hv, hc, hl, fun t ht => (hi t ht).keep hb, fun hne => ?_⟩
  obtain ⟨b, o, ha, hB, hcell⟩ := hx hne
  exact ⟨b, o, ha, hB, hcell.keep hb hB⟩

theorem Parts.mono {w : World} {B B' : Nat} {v : Value} {ts : List Tr} (h : Parts w B v ts) (hB : B ≤ B') : Parts w B' v ts := by
  obtain ⟨a, c, hv, hc, hl, hi, hx⟩ := h
  refine ⟨a, c, hv, hc, hl, fun t ht => (hi t ht).mono hB (.inr hB), fun hne => ?_⟩
  obtain ⟨b, o, ha, hb, hcell⟩ := hx hne
  exact ⟨b, o, ha, by omega, hcell⟩

theorem get_lt {α : Type} {l : List α} {i : Nat} (h : i < l.length) : ∃ x, l[i]? = some x := ⟨l[i], List.getElem?_eq_getElem h⟩
theorem ne_of_lt {α : Type} {l : List α} {i : Nat} (h : i < l.length) : l ≠ [] := by rintro rfl; simp at h
theorem ret_b {a b : Bool} (h : a = b) : Ending.returned (.bool a) = .returned (.bool b) := by rw [h]

theorem dr2 (w : World) (a b c : Nat) : ∃ q, ((w.drewN a).drewN b).drewN c = w.drewN q := by simp only [World.drewN_drewN]; exact ⟨_, rfl⟩
theorem dr1 (w : World) (a b : Nat) : ∃ q, (w.drewN a).drewN b = w.drewN q := by simp only [World.drewN_drewN]; exact ⟨_, rfl⟩

/-! ### comparing -/

theorem cmpT_step {x y : List Int} {i : Nat} {a b : Int} (hx : x[i]? = some a) (hy : y[i]? = some b) :
    cmpT (x.drop i) (y.drop i) = if a < b then -1 else if b < a then 1 else cmpT (x.drop (i + 1)) (y.drop (i + 1)) := by
  rw [List.drop_eq_getElem_cons (List.getElem?_eq_some_iff.1 hx).1, List.drop_eq_getElem_cons (List.getElem?_eq_some_iff.1 hy).1, (List.getElem?_eq_some_iff.1 hx).2, (List.getElem?_eq_some_iff.1 hy).2]
  rfl

set_option maxHeartbeats 400000 in
theorem refCompare_any (B n1 n2 : Nat) (u v : Value) (x y : List Int) (w : World) (hx : Ints w B n1 u x) (hy : Ints w B n2 v y) (r : Int) (hr : cmpT x y = r) :
    Calls Tryz.prog 58 #[u, v] w fun e w' => e = .returned (.int .i64 r) ∧ ∃ q, w' = w.drewN q := by
  obtain ⟨ax, cx, rfl, hcx, hlx, hxx⟩ := hx
  obtain ⟨ay, cy, rfl, hcy, hly, hyy⟩ := hy
  have HX : Hid (x ≠ [] → ∃ b o, ax = some ⟨b, o, none⟩ ∧ b < B ∧ b ≠ n1 ∧ ∀ i z, x[i]? = some z → w.cell? ⟨b, o + i, none⟩ = some (.int .i64 z)) := hxx
  have HY : Hid (y ≠ [] → ∃ b o, ay = some ⟨b, o, none⟩ ∧ b < B ∧ b ≠ n2 ∧ ∀ i z, y[i]? = some z → w.cell? ⟨b, o + i, none⟩ = some (.int .i64 z)) := hyy
  have HR : Hid (cmpT x y = r) := hr
  clear hxx hyy hr
  go_enter Tryz.func58, Tryz.ntmps58
  go_wp2
  go_loopw [8] (fun s wr => ∃ i : Nat, s = .int .i64 (i : Int) ∧ i ≤ x.length ∧ i ≤ y.length ∧ cmpT (x.drop i) (y.drop i) = r ∧ ∃ q, wr = w.drewN q) (fun s _ => x.length - (intOf s).toNat)
  case atStart => exact ⟨0, rfl, Nat.zero_le _, Nat.zero_le _, HR.out, 0, rfl⟩
  case round =>
    obtain ⟨i, rfl, hix, hiy, hc, q, rfl⟩ := hrel
    have HC : Hid (cmpT (x.drop i) (y.drop i) = r) := hc
    clear hc
    by_cases h1 : i < x.length
    · obtain ⟨bx, ox, rfl, hbx, hnx, hcx⟩ := HX.out (ne_of_lt h1)
      obtain ⟨zx, hzx⟩ := get_lt h1
      have cx1 := hcx i zx hzx
      by_cases h2 : i < y.length
      · obtain ⟨by', oy, rfl, hby, hny, hcy⟩ := HY.out (ne_of_lt h2)
        obtain ⟨zy, hzy⟩ := get_lt h2
        have cy1 := hcy i zy hzy
        have st := cmpT_step hzx hzy
        have ST : Hid (cmpT (x.drop i) (y.drop i) = if zx < zy then -1 else if zy < zx then 1 else cmpT (x.drop (i + 1)) (y.drop (i + 1))) := st
        clear st hcx hcy HX HY hzx hzy
        by_cases c1 : zx = zy
        · subst c1
          go_wp2
          go_quiet (fail)
          go_wp2
          go_roundw
          case rel => exact ⟨i + 1, by go_num, h1, h2, by rw [← HC.out, ST.out]; simp, _, rfl⟩
          case measure => simp [intOf]; omega
        · by_cases c2 : zx < zy
          · have hr1 : r = -1 := by rw [← HC.out, ST.out]; simp [c2]
            subst hr1
            go_wp2
            go_quiet (fail)
            go_wp2
            go_quiet (fail)
            go_wp2
            go_ret
            exact ⟨rfl, dr2 _ _ _ _⟩
          · have hr1 : r = 1 := by rw [← HC.out, ST.out]; simp [c2, show zy < zx by omega]
            subst hr1
            go_wp2
            go_quiet (fail)
            go_wp2
            go_quiet (fail)
            go_wp2
            go_ret
            exact ⟨rfl, dr2 _ _ _ _⟩
      · have hr1 : r = 1 := by
          rw [← HC.out, List.drop_eq_getElem_cons h1, List.drop_eq_nil_of_le (show y.length ≤ i by omega)]; rfl
        subst hr1
        clear hcx HX HY
        go_wp2
        go_ret
        exact ⟨rfl, _, rfl⟩
    · by_cases h2 : i < y.length
      · have hr1 : r = -1 := by
          rw [← HC.out, List.drop_eq_nil_of_le (show x.length ≤ i by omega), List.drop_eq_getElem_cons h2]; rfl
        subst hr1
        have h3 : x.length < y.length := by omega
        clear HX HY
        go_wp2
        go_ret
        exact ⟨rfl, _, rfl⟩
      · have hr1 : r = 0 := by
          rw [← HC.out, List.drop_eq_nil_of_le (show x.length ≤ i by omega), List.drop_eq_nil_of_le (show y.length ≤ i by omega)]; rfl
        subst hr1
        have h3 : ¬ x.length < y.length := by omega
        clear HX HY
        go_wp2
        go_ret
        exact ⟨rfl, _, rfl⟩
end Go.Proofs.YtlndlpjadajelaaGreat

namespace Go.Proofs.YtlndlpjadajelaaGreat
open Go.RowKit Go.Proofs.YtlndlpjadajelaaGreat.Ds

/-- a part as a value -/
abbrev pv (t : Tr) : Value := .agg #[t.1, .int .i64 t.2.2]

theorem isNaN_any (x : Int) (w : World) : Calls Tryz.prog 233 #[.int .i64 x] w fun e w' => e = .returned (.bool false) ∧ w' = w := by
  go_enter Tryz.func233, Tryz.ntmps233
  go_wp2
  go_ret
  exact ⟨rfl, rfl⟩

theorem cmpInt_any (a b r : Int) (hr : (if a < b then -1 else if b < a then 1 else 0) = r) (w : World) :
    Calls Tryz.prog 212 #[.int .i64 a, .int .i64 b] w fun e w' => e = .returned (.int .i64 r) ∧ w' = w := by
  subst hr
  by_cases h1 : a < b
  · simp only [h1, if_true]
    go_enter Tryz.func212, Tryz.ntmps212
    go_wp2_with (go_at_call 233; refine (isNaN_any _ _).mono ?_; rintro e w' ⟨rfl, rfl⟩)
    go_ret
    exact ⟨rfl, rfl⟩
  · by_cases h2 : b < a
    · simp only [h1, h2, if_true, if_false]
      go_enter Tryz.func212, Tryz.ntmps212
      go_wp2_with (go_at_call 233; refine (isNaN_any _ _).mono ?_; rintro e w' ⟨rfl, rfl⟩)
      go_ret
      exact ⟨rfl, rfl⟩
    · simp only [h1, h2, if_false]
      go_enter Tryz.func212, Tryz.ntmps212
      go_wp2_with (go_at_call 233; refine (isNaN_any _ _).mono ?_; rintro e w' ⟨rfl, rfl⟩)
      go_ret
      exact ⟨rfl, rfl⟩

set_option maxHeartbeats 400000 in
theorem compare_any (B n1 n2 : Nat) (u v : Value) (x y : List Int) (w : World) (hx : Ints w B n1 u x) (hy : Ints w B n2 v y) (r : Int) (hr : cmpT x y = r) :
    Calls Tryz.prog 186 #[u, v] w fun e w' => e = .returned (.int .i64 r) ∧ w' = w := by
  obtain ⟨ax, cx, rfl, hcx, hlx, hxx⟩ := hx
  obtain ⟨ay, cy, rfl, hcy, hly, hyy⟩ := hy
  have HX : Hid (x ≠ [] → ∃ b o, ax = some ⟨b, o, none⟩ ∧ b < B ∧ b ≠ n1 ∧ ∀ i z, x[i]? = some z → w.cell? ⟨b, o + i, none⟩ = some (.int .i64 z)) := hxx
  have HY : Hid (y ≠ [] → ∃ b o, ay = some ⟨b, o, none⟩ ∧ b < B ∧ b ≠ n2 ∧ ∀ i z, y[i]? = some z → w.cell? ⟨b, o + i, none⟩ = some (.int .i64 z)) := hyy
  have HR : Hid (cmpT x y = r) := hr
  clear hxx hyy hr
  go_enter Tryz.func186, Tryz.ntmps186
  go_wp2
  go_loop [11] (fun s => ∃ i : Nat, s = .int .i64 (i : Int) ∧ i ≤ x.length ∧ i ≤ y.length ∧ cmpT (x.drop i) (y.drop i) = r) (fun s => x.length - (intOf s).toNat)
  case atStart => exact ⟨0, rfl, Nat.zero_le _, Nat.zero_le _, HR.out⟩
  case round =>
    obtain ⟨i, rfl, hix, hiy, hc⟩ := hrel
    have HC : Hid (cmpT (x.drop i) (y.drop i) = r) := hc
    clear hc
    by_cases h1 : i < x.length
    · obtain ⟨bx, ox, rfl, hbx, hnx, hcx⟩ := HX.out (ne_of_lt h1)
      obtain ⟨zx, hzx⟩ := get_lt h1
      have cx1 := hcx i zx hzx
      by_cases h2 : i < y.length
      · obtain ⟨by', oy, rfl, hby, hny, hcy⟩ := HY.out (ne_of_lt h2)
        obtain ⟨zy, hzy⟩ := get_lt h2
        have cy1 := hcy i zy hzy
        have st := cmpT_step hzx hzy
        have ST : Hid (cmpT (x.drop i) (y.drop i) = if zx < zy then -1 else if zy < zx then 1 else cmpT (x.drop (i + 1)) (y.drop (i + 1))) := st
        clear st hcx hcy HX HY hzx hzy
        by_cases c1 : zx = zy
        · subst c1
          have kc := cmpInt_any zx zx 0 (by simp) w
          go_wp2_with (go_at_call 212; refine kc.mono ?_; rintro e w' ⟨rfl, rfl⟩)
          go_round
          case rel => exact ⟨i + 1, by go_num, h1, h2, by rw [← HC.out, ST.out]; simp⟩
          case measure => simp [intOf]; omega
        · by_cases c2 : zx < zy
          · have hr1 : r = -1 := by rw [← HC.out, ST.out]; simp [c2]
            subst hr1
            have kc := cmpInt_any zx zy (-1) (by simp [c2]) w
            go_wp2_with (go_at_call 212; refine kc.mono ?_; rintro e w' ⟨rfl, rfl⟩)
            go_ret
            exact ⟨rfl, rfl⟩
          · have c3 : zy < zx := by omega
            have hr1 : r = 1 := by rw [← HC.out, ST.out]; simp [c2, c3]
            subst hr1
            have kc := cmpInt_any zx zy 1 (by rw [if_neg c2, if_pos c3]) w
            go_wp2_with (go_at_call 212; refine kc.mono ?_; rintro e w' ⟨rfl, rfl⟩)
            go_ret
            exact ⟨rfl, rfl⟩
      · have hr1 : r = 1 := by
          rw [← HC.out, List.drop_eq_getElem_cons h1, List.drop_eq_nil_of_le (show y.length ≤ i by omega)]; rfl
        subst hr1
        clear hcx HX HY
        go_wp2
        go_ret
        exact ⟨rfl, rfl⟩
    · by_cases h2 : i < y.length
      · have hr1 : r = -1 := by
          rw [← HC.out, List.drop_eq_nil_of_le (show x.length ≤ i by omega), List.drop_eq_getElem_cons h2]; rfl
        subst hr1
        have h3 : x.length < y.length := by omega
        clear HX HY
        go_wp2
        go_ret
        exact ⟨rfl, rfl⟩
      · have hr1 : r = 0 := by
          rw [← HC.out, List.drop_eq_nil_of_le (show x.length ≤ i by omega), List.drop_eq_nil_of_le (show y.length ≤ i by omega)]; rfl
        subst hr1
        have h3 : ¬ x.length < y.length := by omega
        clear HX HY
        go_wp2
        go_ret
        exact ⟨rfl, rfl⟩

theorem ba (w : World) (o : Obj) : Below w.heap.size w (w.alloc o) := (Below.refl _ _).alloc (Nat.le_refl _) o
theorem bt {w w1 w2 : World} (h : Below w.heap.size w w1) (k : Below w1.heap.size w1 w2) : Below w.heap.size w w2 := h.trans (k.mono h.size)
theorem bal {w w1 : World} (h : Below w.heap.size w w1) (o : Obj) : Below w.heap.size w (w1.alloc o) := h.alloc h.size o
theorem bs {w w1 : World} (h : Below w.heap.size w w1) {p : Addr} (hp : w.heap.size ≤ p.block) (u : Value) : Below w.heap.size w (w1.setCell p u) := h.setCell hp u
theorem bdr (w : World) (q : Nat) : Below w.heap.size w (w.drewN q) := below_drewN (Below.refl _ _) q
theorem bcell {W w1 : World} (hb : Below W.heap.size W w1) : (∀ b o, b < W.heap.size → w1.cell? ⟨b, o, none⟩ = W.cell? ⟨b, o, none⟩) ∧ (∀ b o, b < W.heap.size → w1.frozen? ⟨b, o, none⟩ = W.frozen? ⟨b, o, none⟩) :=
  ⟨fun b o h => hb.cell (p := ⟨b, o, none⟩) h, fun b o h => hb.frozen (p := ⟨b, o, none⟩) h⟩

theorem Ints.at {w w' : World} {B nb : Nat} {v : Value} {xs : List Int} (h : Ints w B nb v xs) (hB : B ≤ w.heap.size) (hb : Below w.heap.size w w') : Ints w' B nb v xs := h.keep (hb.mono hB)
theorem Parts.at {w w' : World} {B : Nat} {v : Value} {ts : List Tr} (h : Parts w B v ts) (hB : B ≤ w.heap.size) (hb : Below w.heap.size w w') : Parts w' B v ts := h.keep (hb.mono hB)

set_option maxHeartbeats 400000 in
theorem order_any (B n1 n2 : Nat) (u v : Value) (k l : Int) (x y : List Int) (w : World) (hB : B ≤ w.heap.size) (hx : Ints w B n1 u x) (hy : Ints w B n2 v y) (r : Int) (hr : cmpT x y = r) :
    Calls Tryz.prog 150 #[.agg #[u, .int .i64 k], .agg #[v, .int .i64 l]] w fun e w' => e = .returned (.int .i64 r) ∧ ∃ o1 o2, w' = (w.alloc o1).alloc o2 := by
  have HX : Hid (Ints w B n1 u x) := hx
  have HY : Hid (Ints w B n2 v y) := hy
  have HR : Hid (cmpT x y = r) := hr
  obtain ⟨au, cu, rfl, _⟩ := hx
  obtain ⟨av, cv, rfl, _⟩ := hy
  clear hr
  go_enter Tryz.func150, Tryz.ntmps150
  go_wp2_with (go_at_call 186; refine (compare_any B n1 n2 _ _ x y _ ?_ ?_ r HR.out).mono ?_; exact HX.out.at hB (bal (ba _ _) _); exact HY.out.at hB (bal (ba _ _) _); rintro e w' ⟨rfl, rfl⟩)
  go_ret
  exact ⟨rfl, _, _, rfl⟩

set_option maxHeartbeats 400000 in
theorem same_any (B n1 n2 : Nat) (u v : Value) (k l : Int) (x y : List Int) (w : World) (hB : B ≤ w.heap.size) (hx : Ints w B n1 u x) (hy : Ints w B n2 v y) (r : Bool) (hr : decide (k = l ∧ x = y) = r) :
    Calls Tryz.prog 149 #[.agg #[u, .int .i64 k], .agg #[v, .int .i64 l]] w fun e w' => e = .returned (.bool r) ∧ Below w.heap.size w w' := by
  subst hr
  have HX : Hid (Ints w B n1 u x) := hx
  have HY : Hid (Ints w B n2 v y) := hy
  obtain ⟨au, cu, rfl, _⟩ := hx
  obtain ⟨av, cv, rfl, _⟩ := hy
  by_cases h : k = l
  · subst h
    by_cases h2 : x = y
    · have hc : Hid (cmpT x y = 0) := (cmpT_zero x y).2 h2
      rw [decide_eq_true (show k = k ∧ x = y from ⟨rfl, h2⟩)]
      clear h2
      go_enter Tryz.func149, Tryz.ntmps149
      go_wp2_with (go_at_call 150; refine (order_any B n1 n2 _ _ _ _ x y _ ?_ ?_ ?_ _ hc.out).mono ?_; (simp; omega); exact HX.out.at hB (bal (ba _ _) _); exact HY.out.at hB (bal (ba _ _) _); rintro e w' ⟨rfl, o1, o2, rfl⟩)
      go_ret
      exact ⟨rfl, bal (bal (bal (ba _ _) _) _) _⟩
    · have hc : ¬ (cmpT x y = 0) := fun h => h2 ((cmpT_zero x y).1 h)
      rw [decide_eq_false (show ¬ (k = k ∧ x = y) from fun h => h2 h.2)]
      obtain ⟨r, hr⟩ : ∃ r, Hid (cmpT x y = r) := ⟨_, rfl⟩
      have hr0 : (r == 0) = false := by rw [← hr.out]; simpa using hc
      clear h2 hc
      go_enter Tryz.func149, Tryz.ntmps149
      go_wp2_with (go_at_call 150; refine (order_any B n1 n2 _ _ _ _ x y _ ?_ ?_ ?_ _ hr.out).mono ?_; (simp; omega); exact HX.out.at hB (bal (ba _ _) _); exact HY.out.at hB (bal (ba _ _) _); rintro e w' ⟨rfl, o1, o2, rfl⟩)
      go_ret
      exact ⟨rfl, bal (bal (bal (ba _ _) _) _) _⟩
  · rw [decide_eq_false (show ¬ (k = l ∧ x = y) from fun h' => h h'.1)]
    have h' : (k == l) = false := by simpa using h
    go_enter Tryz.func149, Tryz.ntmps149
    go_wp2
    go_ret
    exact ⟨rfl, bal (ba _ _) _⟩

/-! ### what is beyond -/
theorem beyondN_any (n : Int) (w : World) : Calls Tryz.prog 203 #[.int .i64 n] w fun e w' => e = .returned (.bool (!okN n)) ∧ w' = w := by
  unfold okN
  by_cases h1 : n < -1073741824
  · rw [decide_eq_false (by omega)]
    go_enter Tryz.func203, Tryz.ntmps203
    go_wp2
    go_ret
    exact ⟨rfl, rfl⟩
  · by_cases h2 : 1073741824 < n
    · rw [decide_eq_false (by omega)]
      go_enter Tryz.func203, Tryz.ntmps203
      go_wp2
      go_ret
      exact ⟨rfl, rfl⟩
    · rw [decide_eq_true (by omega)]
      go_enter Tryz.func203, Tryz.ntmps203
      go_wp2
      go_ret
      exact ⟨rfl, rfl⟩

theorem all_take {α : Type} {l : List α} {f : α → Bool} {i : Nat} {x : α} (h : l[i]? = some x) : (l.take (i + 1)).all f = ((l.take i).all f && f x) := by
  rw [List.take_add_one, h]; simp

theorem all_false {α : Type} {l : List α} {f : α → Bool} {i : Nat} {x : α} (h : l[i]? = some x) (hf : f x = false) : l.all f = false := by
  rw [List.all_eq_false]
  exact ⟨x, List.mem_of_getElem? h, by simp [hf]⟩

set_option maxHeartbeats 400000 in
theorem indexN_any (B nb : Nat) (v : Value) (x : List Int) (w : World) (hx : Ints w B nb v x) :
    Calls Tryz.prog 223 #[v, .func (.func 203) #[] #[]] w fun e w' => ∃ r : Int, e = .returned (.int .i64 r) ∧ (decide (0 ≤ r) = !x.all okN) ∧ w' = w := by
  obtain ⟨a, c, rfl, hc, hl, hxx⟩ := hx
  have HX : Hid (x ≠ [] → ∃ b o, a = some ⟨b, o, none⟩ ∧ b < B ∧ b ≠ nb ∧ ∀ i z, x[i]? = some z → w.cell? ⟨b, o + i, none⟩ = some (.int .i64 z)) := hxx
  clear hxx
  go_enter Tryz.func223, Tryz.ntmps223
  go_wp2
  go_loop [8] (fun s => ∃ i : Nat, s = .int .i64 (i : Int) ∧ i ≤ x.length ∧ (x.take i).all okN = true) (fun s => x.length - (intOf s).toNat)
  case atStart => exact ⟨0, rfl, Nat.zero_le _, by simp⟩
  case round =>
    obtain ⟨i, rfl, hix, hall⟩ := hrel
    have HA : Hid ((x.take i).all okN = true) := hall
    clear hall
    by_cases h1 : i < x.length
    · obtain ⟨b, o, rfl, hb, hn, hcell⟩ := HX.out (ne_of_lt h1)
      obtain ⟨z, hz⟩ := get_lt h1
      have cx1 := hcell i z hz
      have HZ : Hid (x[i]? = some z) := hz
      clear hcell HX hz
      cases hk : okN z with
      | true =>
        have hk' : Hid (okN z = true) := hk
        clear hk
        have kc := beyondN_any z w
        rw [hk'.out] at kc
        go_wp2_with (go_at_call 203; refine kc.mono ?_; rintro e w' ⟨rfl, rfl⟩)
        go_round
        case rel => exact ⟨i + 1, by go_num, h1, by rw [all_take HZ.out, HA.out, hk'.out]; rfl⟩
        case measure => simp [intOf]; omega
      | false =>
        have hk' : Hid (okN z = false) := hk
        clear hk
        have kc := beyondN_any z w
        rw [hk'.out] at kc
        go_wp2_with (go_at_call 203; refine kc.mono ?_; rintro e w' ⟨rfl, rfl⟩)
        go_ret
        exact ⟨_, rfl, by rw [all_false HZ.out hk'.out]; simp, rfl⟩
    · have hi : i = x.length := by omega
      have hA : x.all okN = true := by have := HA.out; rw [hi, List.take_length] at this; exact this
      have HA2 : Hid (x.all okN = true) := hA
      clear hA HX
      go_wp2
      go_ret
      exact ⟨_, rfl, by rw [HA2.out]; simp, rfl⟩

set_option maxHeartbeats 400000 in
theorem containsN_any (B nb : Nat) (v : Value) (x : List Int) (w : World) (hx : Ints w B nb v x) (r : Bool) (hr : x.all okN = r) :
    Calls Tryz.prog 202 #[v, .func (.func 203) #[] #[]] w fun e w' => e = .returned (.bool (!r)) ∧ w' = w := by
  subst hr
  have HX : Hid (Ints w B nb v x) := hx
  obtain ⟨a, c, rfl, _⟩ := hx
  go_enter Tryz.func202, Tryz.ntmps202
  go_wp2_with (go_at_call 223; refine (indexN_any B nb _ x _ HX.out).mono ?_; rintro e w' ⟨r, rfl, hr, rfl⟩)
  go_ret
  exact ⟨ret_b (by rw [← hr]), rfl⟩

set_option maxHeartbeats 400000 in
theorem beyond_any (B nb : Nat) (v : Value) (k : Int) (x : List Int) (w : World) (hB : B ≤ w.heap.size) (hx : Ints w B nb v x) (r : Bool) (hr : okP (x, k) = r) :
    Calls Tryz.prog 165 #[.agg #[v, .int .i64 k]] w fun e w' => e = .returned (.bool (!r)) ∧ Below w.heap.size w w' := by
  subst hr
  have HX : Hid (Ints w B nb v x) := hx
  obtain ⟨a, c, rfl, hc, hl, _⟩ := hx
  by_cases h1 : k < 0
  · have e : okP (x, k) = false := by unfold okP; rw [decide_eq_false (by simp; omega)]; rfl
    rw [e]
    clear e
    go_enter Tryz.func165, Tryz.ntmps165
    go_wp2
    go_ret
    exact ⟨rfl, ba _ _⟩
  by_cases h2 : 1073741824 < k
  · have e : okP (x, k) = false := by unfold okP; rw [decide_eq_false (by simp; omega)]; rfl
    rw [e]
    clear e
    go_enter Tryz.func165, Tryz.ntmps165
    go_wp2
    go_ret
    exact ⟨rfl, ba _ _⟩
  by_cases h3 : 16 < x.length
  · have e : okP (x, k) = false := by unfold okP okO; rw [show decide (x.length ≤ 16) = false from decide_eq_false (by omega)]; simp
    rw [e]
    clear e
    go_enter Tryz.func165, Tryz.ntmps165
    go_wp2
    go_ret
    exact ⟨rfl, ba _ _⟩
  · have e : okP (x, k) = x.all okN := by unfold okP okO; rw [show decide (x.length ≤ 16) = true from decide_eq_true (by omega), decide_eq_true (by simp; omega)]; rfl
    rw [e]
    clear e
    generalize hr : x.all okN = r
    have HR : Hid (x.all okN = r) := hr
    clear hr
    go_enter Tryz.func165, Tryz.ntmps165
    go_wp2_with (go_at_call 202; refine (containsN_any B nb _ x _ ?_ r HR.out).mono ?_; exact HX.out.at hB (ba _ _); rintro e w' ⟨rfl, rfl⟩)
    go_ret
    exact ⟨rfl, ba _ _⟩
end Go.Proofs.YtlndlpjadajelaaGreat
