import Derived.Test.YtjnclbhpdaonhaaOwn
import Derived.Test.YtjnclbhpdaonhaaDmt
import Derived.BigRegion
import Derived.Deep.RegionHeld3
namespace Go.Proofs.Ytjnclbhpdaonhaa
open Go.RowKit Go.Proofs.Ytjnclbhpdaonhaa.Ds

/-- an even drawer in memory -/
structure Evo (w : World) (E : Nat) (n v c u : Int) : Prop where
  c0 : w.cell? ⟨E, 0, none⟩ = some (.int .i64 n)
  c1 : w.cell? ⟨E, 1, none⟩ = some (.int .i64 v)
  c2 : w.cell? ⟨E, 2, none⟩ = some (.int .i64 c)
  c3 : w.cell? ⟨E, 3, none⟩ = some (.int .i64 u)
  f0 : w.frozen? ⟨E, 0, none⟩ = false
  f1 : w.frozen? ⟨E, 1, none⟩ = false
  f2 : w.frozen? ⟨E, 2, none⟩ = false
  f3 : w.frozen? ⟨E, 3, none⟩ = false
  lt : E < w.heap.size

theorem gb_refl (w : World) (r : Option Nat) : w.grownBy w r := World.grownBy.refl w r
theorem gb_trans {a b c : World} {r : Option Nat} (h : a.grownBy b r) (k : b.grownBy c r) : a.grownBy c r :=
  ⟨k.os.trans h.os, k.tape.trans h.tape, k.output.trans h.output, Nat.le_trans h.size k.size, fun i hi hr => (k.block i (Nat.lt_of_lt_of_le hi h.size) hr).trans (h.block i hi hr)⟩
theorem gb_alloc {a b : World} {r : Option Nat} (h : a.grownBy b r) (o : Obj) : a.grownBy (b.alloc o) r := gb_trans h (World.grownBy_alloc b o r)
theorem gb_drew {a b : World} {r : Option Nat} (h : a.grownBy b r) : a.grownBy b.drew r := ⟨h.os, h.tape, h.output, h.size, h.block⟩
theorem gb_set {a b : World} {E : Nat} (h : a.grownBy b (some E)) {p : Addr} (hp : p.block = E) (u : Value) : a.grownBy (b.setCell p u) (some E) :=
  gb_trans h ⟨rfl, rfl, rfl, by simp [World.setCell], fun k _ hr => Below.heap_setCell _ _ _ _ (by rw [hp]; intro e; exact hr (by rw [e]))⟩
theorem gb_s {a b : World} {E : Nat} (h : a.grownBy b (some E)) (k : Nat) (u : Value) : a.grownBy (b.setCell ⟨E, k, none⟩ u) (some E) := gb_set h rfl u
/-- a store into new memory -/
theorem gb_new {a b : World} {r : Option Nat} (h : a.grownBy b r) {p : Addr} (hp : a.heap.size ≤ p.block) (u : Value) : a.grownBy (b.setCell p u) r :=
  ⟨h.os, h.tape, h.output, by simp [World.setCell]; exact h.size, fun k hk hr => (Below.heap_setCell _ _ _ _ (by omega)).trans (h.block k hk hr)⟩
/-- .. of what lies below -/
theorem gb_below {a b : World} {E : Nat} (h : Below a.heap.size a b) : a.grownBy b (some E) := ⟨h.os, h.tape, h.output, h.size, fun k hk _ => h.block k hk⟩
theorem below_gb {a b : World} {E B : Nat} (h : a.grownBy b (some E)) (hB : B ≤ E) (hE : B ≤ a.heap.size) : Below B a b := ⟨h.os, h.tape, h.output, h.size, fun k hk => h.block k (by omega) (by simp; omega)⟩

theorem nc {w : World} {N : Nat} (cs : Array Value) (t : TypeId) (k : Nat) (x : Value) (hN : N = w.heap.size) (hx : cs[k]? = some x) : (w.alloc (.cells cs t)).cell? ⟨N, k, none⟩ = some x := by
  rw [World.cell?_alloc_at _ _ _ _ hN]; exact hx
theorem nf {w : World} {N : Nat} (cs : Array Value) (t : TypeId) (k : Nat) (hN : N = w.heap.size) : (w.alloc (.cells cs t)).frozen? ⟨N, k, none⟩ = false := World.frozen?_alloc_at _ _ _ _ hN

/-- what was answered lies there -/
structure Rv (w : World) (R : Nat) (s : Value) (k : Int) : Prop where
  c0 : w.cell? ⟨R, 0, none⟩ = some s
  c1 : w.cell? ⟨R, 1, none⟩ = some (.int .i64 k)
  f0 : w.frozen? ⟨R, 0, none⟩ = false
  f1 : w.frozen? ⟨R, 1, none⟩ = false
  lt : R < w.heap.size
theorem Rv.below {w w' : World} {R : Nat} {s : Value} {k : Int} (h : Rv w R s k) (b : Below w.heap.size w w') : Rv w' R s k :=
  ⟨(b.cell (p := ⟨R, 0, none⟩) h.lt).trans h.c0, (b.cell (p := ⟨R, 1, none⟩) h.lt).trans h.c1, (b.frozen (p := ⟨R, 0, none⟩) h.lt).trans h.f0, (b.frozen (p := ⟨R, 1, none⟩) h.lt).trans h.f1, Nat.lt_of_lt_of_le h.lt b.size⟩
theorem Rv.alloc {w : World} {R : Nat} {s : Value} {k : Int} (h : Rv w R s k) (o : Obj) : Rv (w.alloc o) R s k := h.below ((Below.refl _ w).alloc (Nat.le_refl _) o)
theorem Rv.drew {w : World} {R : Nat} {s : Value} {k : Int} (h : Rv w R s k) : Rv w.drew R s k := ⟨h.c0, h.c1, h.f0, h.f1, h.lt⟩
theorem Rv.new (w : World) (s : Value) (k : Int) (t : TypeId) (N : Nat) (hN : N = w.heap.size) : Rv (w.alloc (.cells #[s, .int .i64 k] t)) N s k :=
  ⟨nc _ _ 0 _ hN rfl, nc _ _ 1 _ hN rfl, nf _ _ 0 hN, nf _ _ 1 hN, by simp; omega⟩

theorem one_new (w : World) (x : Int) (N : Nat) (t : TypeId) (hN : N = w.heap.size) : ∀ m, m < N → Ints (w.alloc (.cells #[.int .i64 x] t)) (N + 1) m (.slice (some ⟨N, 0, none⟩) 1 1) [x] := by
  intro m hm
  refine ⟨_, 1, rfl, by simp, by simp, fun _ => ⟨N, 0, rfl, by omega, by omega, fun i z hi => ?_⟩⟩
  match i, hi with
  | 0, hi => simp at hi; subst hi; exact nc _ _ 0 _ hN rfl

theorem Ints.setm {w : World} {B N : Nat} {v : Value} {xs : List Int} (h : ∀ m, m < N → Ints w B m v xs) (b k : Nat) (hp : b < N) (u : Value) : ∀ m, m < N → Ints (w.setCell ⟨b, k, none⟩ u) B m v xs := by
  intro m hm
  have h0 := h b hp
  obtain ⟨a, c, hv, hc, hl, hx⟩ := h m hm
  refine ⟨a, c, hv, hc, hl, fun hne => ?_⟩
  obtain ⟨b1, o1, ha, hb, hn, hcell⟩ := hx hne
  refine ⟨b1, o1, ha, hb, hn, fun i x hi => ?_⟩
  rw [sc_other]
  · exact hcell i x hi
  · obtain ⟨a2, c2, hv2, _, _, hx2⟩ := h0
    obtain ⟨b2, o2, ha2, _, hn2, _⟩ := hx2 hne
    rw [hv, ha, ha2] at hv2
    simp only [Value.slice.injEq, Option.some.injEq, Addr.mk.injEq] at hv2
    intro e
    simp only [Addr.mk.injEq] at e
    omega

theorem Evo.other {w : World} {E : Nat} {n v c u : Int} (h : Evo w E n v c u) (b k : Nat) (hb : b ≠ E) (x : Value) : Evo (w.setCell ⟨b, k, none⟩ x) E n v c u :=
  have hne : ∀ j, (⟨b, k, none⟩ : Addr) ≠ ⟨E, j, none⟩ := fun j e => hb (congrArg Addr.block e)
  ⟨by rw [sc_other (hne 0)]; exact h.c0, by rw [sc_other (hne 1)]; exact h.c1, by rw [sc_other (hne 2)]; exact h.c2, by rw [sc_other (hne 3)]; exact h.c3, by rw [sc_frozen]; exact h.f0, by rw [sc_frozen]; exact h.f1, by rw [sc_frozen]; exact h.f2, by rw [sc_frozen]; exact h.f3, by simpa using h.lt⟩

theorem Evo.alloc {w : World} {E : Nat} {n v c u : Int} (h : Evo w E n v c u) (o : Obj) : Evo (w.alloc o) E n v c u :=
  let b := (Below.refl _ w).alloc (Nat.le_refl w.heap.size) o
  ⟨(b.cell (p := ⟨E, 0, none⟩) h.lt).trans h.c0, (b.cell (p := ⟨E, 1, none⟩) h.lt).trans h.c1, (b.cell (p := ⟨E, 2, none⟩) h.lt).trans h.c2, (b.cell (p := ⟨E, 3, none⟩) h.lt).trans h.c3,
   (b.frozen (p := ⟨E, 0, none⟩) h.lt).trans h.f0, (b.frozen (p := ⟨E, 1, none⟩) h.lt).trans h.f1, (b.frozen (p := ⟨E, 2, none⟩) h.lt).trans h.f2, (b.frozen (p := ⟨E, 3, none⟩) h.lt).trans h.f3, Nat.lt_of_lt_of_le h.lt b.size⟩
theorem Evo.below {w w' : World} {E : Nat} {n v c u : Int} (h : Evo w E n v c u) (b : Below w.heap.size w w') : Evo w' E n v c u :=
  ⟨(b.cell (p := ⟨E, 0, none⟩) h.lt).trans h.c0, (b.cell (p := ⟨E, 1, none⟩) h.lt).trans h.c1, (b.cell (p := ⟨E, 2, none⟩) h.lt).trans h.c2, (b.cell (p := ⟨E, 3, none⟩) h.lt).trans h.c3,
   (b.frozen (p := ⟨E, 0, none⟩) h.lt).trans h.f0, (b.frozen (p := ⟨E, 1, none⟩) h.lt).trans h.f1, (b.frozen (p := ⟨E, 2, none⟩) h.lt).trans h.f2, (b.frozen (p := ⟨E, 3, none⟩) h.lt).trans h.f3, Nat.lt_of_lt_of_le h.lt b.size⟩
theorem Evo.drew {w : World} {E : Nat} {n v c u : Int} (h : Evo w E n v c u) : Evo w.drew E n v c u := ⟨h.c0, h.c1, h.c2, h.c3, h.f0, h.f1, h.f2, h.f3, h.lt⟩
theorem Evo.s0 {w : World} {E : Nat} {n v c u : Int} (h : Evo w E n v c u) (x : Int) : Evo (w.setCell ⟨E, 0, none⟩ (.int .i64 x)) E x v c u :=
  ⟨sc_same h.c0, by rw [sc_other (by simp)]; exact h.c1, by rw [sc_other (by simp)]; exact h.c2, by rw [sc_other (by simp)]; exact h.c3, by rw [sc_frozen]; exact h.f0, by rw [sc_frozen]; exact h.f1, by rw [sc_frozen]; exact h.f2, by rw [sc_frozen]; exact h.f3, by simpa using h.lt⟩
theorem Evo.s1 {w : World} {E : Nat} {n v c u : Int} (h : Evo w E n v c u) (x : Int) : Evo (w.setCell ⟨E, 1, none⟩ (.int .i64 x)) E n x c u :=
  ⟨by rw [sc_other (by simp)]; exact h.c0, sc_same h.c1, by rw [sc_other (by simp)]; exact h.c2, by rw [sc_other (by simp)]; exact h.c3, by rw [sc_frozen]; exact h.f0, by rw [sc_frozen]; exact h.f1, by rw [sc_frozen]; exact h.f2, by rw [sc_frozen]; exact h.f3, by simpa using h.lt⟩
theorem Evo.s2 {w : World} {E : Nat} {n v c u : Int} (h : Evo w E n v c u) (x : Int) : Evo (w.setCell ⟨E, 2, none⟩ (.int .i64 x)) E n v x u :=
  ⟨by rw [sc_other (by simp)]; exact h.c0, by rw [sc_other (by simp)]; exact h.c1, sc_same h.c2, by rw [sc_other (by simp)]; exact h.c3, by rw [sc_frozen]; exact h.f0, by rw [sc_frozen]; exact h.f1, by rw [sc_frozen]; exact h.f2, by rw [sc_frozen]; exact h.f3, by simpa using h.lt⟩
theorem Evo.s3 {w : World} {E : Nat} {n v c u : Int} (h : Evo w E n v c u) (x : Int) : Evo (w.setCell ⟨E, 3, none⟩ (.int .i64 x)) E n v c x :=
  ⟨by rw [sc_other (by simp)]; exact h.c0, by rw [sc_other (by simp)]; exact h.c1, by rw [sc_other (by simp)]; exact h.c2, sc_same h.c3, by rw [sc_frozen]; exact h.f0, by rw [sc_frozen]; exact h.f1, by rw [sc_frozen]; exact h.f2, by rw [sc_frozen]; exact h.f3, by simpa using h.lt⟩

set_option maxHeartbeats 1000000 in
theorem evFeed_less (E : Nat) (n v c u b : Int) (w : World) (h : Evo w E n v c u) (hn : 2 ≤ n ∧ n ≤ 1073741824) (hv : 1 ≤ v ∧ v < n) (hc : 0 ≤ c ∧ c < v) (hb : 0 ≤ b ∧ b ≤ 1) (hu : 0 ≤ u ∧ u ≤ 65536) (hl : 2 * v < n) :
    Calls Try.prog 94 #[.pointer (some ⟨E, 0, none⟩), .int .i64 b] w fun e w' => e = .returned (.tuple #[.agg #[.slice none 0 0, .int .i64 0], .bool false]) ∧ Evo w' E n (2 * v) (2 * c + b) (u + 1) ∧ w.grownBy w' (some E) := by
  have H : Hid (Evo w E n v c u) := h
  obtain ⟨c0, c1, c2, c3, f0, f1, f2, f3, lt⟩ := h
  go_enter Try.func94, Try.ntmps94
  go_wp2
  go_region
  go_wp2
  go_region
  go_wp2
  exact bodyPost_ret (v := .tuple #[.agg #[.slice none 0 0, .int .i64 0], .bool false]) (by simp [results, Try.results94, go_sem]) rfl ⟨rfl, ((((H.out.s3 (u + 1)).s1 (2 * v)).s2 (2 * c + b)).alloc _).drew.drew, gb_drew (gb_drew (gb_alloc (gb_s (gb_s (gb_s (gb_refl w (some E)) 3 _) 1 _) 2 _) _))⟩
set_option maxHeartbeats 1000000 in
theorem evFeed_past (E : Nat) (n v c u b : Int) (w : World) (h : Evo w E n v c u) (hn : 2 ≤ n ∧ n ≤ 1073741824) (hv : 1 ≤ v ∧ v < n) (hc : 0 ≤ c ∧ c < v) (hb : 0 ≤ b ∧ b ≤ 1) (hu : 0 ≤ u ∧ u ≤ 65536) (hl : n ≤ 2 * v) (hm : n ≤ 2 * c + b) :
    Calls Try.prog 94 #[.pointer (some ⟨E, 0, none⟩), .int .i64 b] w fun e w' => e = .returned (.tuple #[.agg #[.slice none 0 0, .int .i64 0], .bool false]) ∧ Evo w' E n (2 * v - n) (2 * c + b - n) (u + 1) ∧ w.grownBy w' (some E) := by
  have H : Hid (Evo w E n v c u) := h
  obtain ⟨c0, c1, c2, c3, f0, f1, f2, f3, lt⟩ := h
  go_enter Try.func94, Try.ntmps94
  go_wp2
  go_region
  go_wp2
  go_region
  go_wp2
  go_region
  go_wp2
  go_region
  go_wp2
  exact bodyPost_ret (v := .tuple #[.agg #[.slice none 0 0, .int .i64 0], .bool false]) (by simp [results, Try.results94, go_sem]) rfl ⟨rfl, ((((((H.out.s3 (u + 1)).s1 (2 * v)).s2 (2 * c + b)).s1 (2 * v - n)).s2 (2 * c + b - n)).alloc _).drew.drew.drew.drew, gb_drew (gb_drew (gb_drew (gb_drew (gb_alloc (gb_s (gb_s (gb_s (gb_s (gb_s (gb_refl w (some E)) 3 _) 1 _) 2 _) 1 _) 2 _) _))))⟩
set_option maxHeartbeats 1000000 in
theorem evFeed_ends (E : Nat) (n v c u b : Int) (w : World) (h : Evo w E n v c u) (hn : 2 ≤ n ∧ n ≤ 1073741824) (hv : 1 ≤ v ∧ v < n) (hc : 0 ≤ c ∧ c < v) (hb : 0 ≤ b ∧ b ≤ 1) (hu : 0 ≤ u ∧ u ≤ 65536) (hl : n ≤ 2 * v) (hm : 2 * c + b < n) :
    Calls Try.prog 94 #[.pointer (some ⟨E, 0, none⟩), .int .i64 b] w fun e w' => (∃ s, e = .returned (.tuple #[.agg #[s, .int .i64 (u + 1)], .bool true]) ∧ ∀ m, m < w.heap.size → Ints w' w'.heap.size m s [2 * c + b]) ∧ Evo w' E n 1 0 0 ∧ w.grownBy w' (some E) := by
  have H : Hid (Evo w E n v c u) := h
  obtain ⟨c0, c1, c2, c3, f0, f1, f2, f3, lt⟩ := h
  go_enter Try.func94, Try.ntmps94
  go_wp2
  go_region
  go_wp2
  go_region
  go_wp2
  go_region
  go_wp2
  generalize hW : ((((w.setCell ⟨E, 3, none⟩ (.int .i64 (u + 1))).setCell ⟨E, 1, none⟩ (.int .i64 (2 * v))).setCell ⟨E, 2, none⟩ (.int .i64 (2 * c + b))).alloc (.cells #[.slice none 0 0, .int .i64 0] 38)).drew.drew.drew = W
  have HW : Hid (Evo W E n (2 * v) (2 * c + b) (u + 1)) := hW ▸ ((((H.out.s3 (u + 1)).s1 (2 * v)).s2 (2 * c + b)).alloc _).drew.drew.drew
  have HG : Hid (w.grownBy W (some E)) := hW ▸ gb_drew (gb_drew (gb_drew (gb_alloc (gb_s (gb_s (gb_s (gb_refl w (some E)) 3 _) 1 _) 2 _) _)))
  have ew : W.heap.size = w.heap.size + 1 := by rw [← hW]; simp
  have HR : Hid (Rv W w.heap.size (.slice none 0 0) 0) := hW ▸ (Rv.new _ _ _ _ w.heap.size (by simp)).drew.drew.drew
  clear hW c0 c1 c2 c3 f0 f1 f2 f3
  have c2 := HW.out.c2
  have c3 := HW.out.c3
  have d2 := fun o => (HW.out.alloc o).c2
  have d3 := fun o => (HW.out.alloc o).c3
  have g2 := fun o o' => ((HW.out.alloc o).alloc o').c2
  have g3 := fun o o' => ((HW.out.alloc o).alloc o').c3
  go_region
  · generalize hV : ((W.alloc (.cells #[.int .i64 (2 * c + b)] 3)).alloc (.cells #[.slice (some ⟨w.heap.size + 1, 0, none⟩) 1 1, .int .i64 (u + 1)] 38)).drew = V
    have HV : Hid (Evo V E n (2 * v) (2 * c + b) (u + 1)) := hV ▸ ((HW.out.alloc _).alloc _).drew
    have HGV : Hid (w.grownBy V (some E)) := hV ▸ gb_drew (gb_alloc (gb_alloc HG.out _) _)
    have HRV : Hid (Rv V w.heap.size (.slice none 0 0) 0) := hV ▸ ((HR.out.alloc _).alloc _).drew
    have HD : Hid (Rv V (w.heap.size + 2) (.slice (some ⟨w.heap.size + 1, 0, none⟩) 1 1) (u + 1)) := hV ▸ (Rv.new _ _ _ _ (w.heap.size + 2) (by simp [ew])).drew
    have ev : V.heap.size = w.heap.size + 3 := by rw [← hV]; simp [ew]
    have HI : Hid (∀ m, m < w.heap.size + 1 → Ints V V.heap.size m (.slice (some ⟨w.heap.size + 1, 0, none⟩) 1 1) [2 * c + b]) := fun m hm => by
      have := ((one_new W (2 * c + b) (w.heap.size + 1) 3 (by rw [ew]) m hm).keep ((ba _ (.cells #[.slice (some ⟨w.heap.size + 1, 0, none⟩) 1 1, .int .i64 (u + 1)] 38)).drew.mono (by simp [ew])))
      rw [hV] at this
      exact this.mono (by omega) (.inl rfl)
    clear hV c2 c3 d2 d3 g2 g3
    obtain ⟨e0, e1, e2, e3, f0, f1, f2, f3, lt'⟩ := HV.out
    obtain ⟨r0, r1, r2, r3, _⟩ := HRV.out
    obtain ⟨k0, k1, k2, k3, _⟩ := HD.out
    have ne1 : ¬ E = w.heap.size := by omega
    have ne2 : ¬ E = w.heap.size + 2 := by omega
    have ne3 : ¬ w.heap.size = E := by omega
    have ne4 : ¬ w.heap.size + 2 = E := by omega
    go_wp2
    refine bodyPost_ret (v := .tuple #[.agg #[.slice (some ⟨w.heap.size + 1, 0, none⟩) 1 1, .int .i64 (u + 1)], .bool true]) (by simp [results, Try.results94, go_sem, *]) rfl ⟨⟨_, rfl, ?_⟩, ?_, ?_⟩
    · have := Ints.setm (Ints.setm (Ints.setm (Ints.setm (Ints.setm (Ints.setm HI.out E 0 (by omega) (.int .i64 n)) E 1 (by omega) (.int .i64 1)) E 2 (by omega) (.int .i64 0)) E 3 (by omega) (.int .i64 0)) w.heap.size 0 (by omega) (.slice (some ⟨w.heap.size + 1, 0, none⟩) 1 1)) w.heap.size 1 (by omega) (.int .i64 (u + 1))
      intro m hm
      have := this m (by omega)
      simpa using this
    · exact ((((((HV.out.s0 n).s1 1).s2 0).s3 0).other w.heap.size 0 (by omega) _).other w.heap.size 1 (by omega) _)
    · exact gb_new (gb_new (gb_s (gb_s (gb_s (gb_s HGV.out 0 _) 1 _) 2 _) 3 _) (p := ⟨w.heap.size, 0, none⟩) (Nat.le_refl _) _) (p := ⟨w.heap.size, 1, none⟩) (Nat.le_refl _) _
  · generalize hV : ((W.alloc (.cells #[.slice (some ⟨w.heap.size + 1 + 1, 0, none⟩) 1 1, .int .i64 (u + 1)] 38)).alloc (.cells #[.int .i64 (2 * c + b)] 3)).drew = V
    have HV : Hid (Evo V E n (2 * v) (2 * c + b) (u + 1)) := hV ▸ ((HW.out.alloc _).alloc _).drew
    have HGV : Hid (w.grownBy V (some E)) := hV ▸ gb_drew (gb_alloc (gb_alloc HG.out _) _)
    have HRV : Hid (Rv V w.heap.size (.slice none 0 0) 0) := hV ▸ ((HR.out.alloc _).alloc _).drew
    have HD : Hid (Rv V (w.heap.size + 1) (.slice (some ⟨w.heap.size + 1 + 1, 0, none⟩) 1 1) (u + 1)) := hV ▸ ((Rv.new _ _ _ _ (w.heap.size + 1) (by simp [ew])).alloc _).drew
    have ev : V.heap.size = w.heap.size + 3 := by rw [← hV]; simp [ew]
    have HI : Hid (∀ m, m < w.heap.size + 1 + 1 → Ints V V.heap.size m (.slice (some ⟨w.heap.size + 1 + 1, 0, none⟩) 1 1) [2 * c + b]) := fun m hm => by
      have := (one_new (W.alloc (.cells #[.slice (some ⟨w.heap.size + 1 + 1, 0, none⟩) 1 1, .int .i64 (u + 1)] 38)) (2 * c + b) (w.heap.size + 1 + 1) 3 (by simp [ew]) m hm).keep (w' := ((W.alloc (.cells #[.slice (some ⟨w.heap.size + 1 + 1, 0, none⟩) 1 1, .int .i64 (u + 1)] 38)).alloc (.cells #[.int .i64 (2 * c + b)] 3)).drew) (Below.refl _ _).drew
      rw [hV] at this
      exact this.mono (by omega) (.inl rfl)
    clear hV c2 c3 d2 d3 g2 g3
    obtain ⟨e0, e1, e2, e3, f0, f1, f2, f3, lt'⟩ := HV.out
    obtain ⟨r0, r1, r2, r3, _⟩ := HRV.out
    obtain ⟨k0, k1, k2, k3, _⟩ := HD.out
    have ne1 : ¬ E = w.heap.size := by omega
    have ne2 : ¬ E = w.heap.size + 1 := by omega
    have ne3 : ¬ w.heap.size = E := by omega
    have ne4 : ¬ w.heap.size + 1 = E := by omega
    go_wp2
    refine bodyPost_ret (v := .tuple #[.agg #[.slice (some ⟨w.heap.size + 1 + 1, 0, none⟩) 1 1, .int .i64 (u + 1)], .bool true]) (by simp [results, Try.results94, go_sem, *]) rfl ⟨⟨_, rfl, ?_⟩, ?_, ?_⟩
    · have := Ints.setm (Ints.setm (Ints.setm (Ints.setm (Ints.setm (Ints.setm HI.out E 0 (by omega) (.int .i64 n)) E 1 (by omega) (.int .i64 1)) E 2 (by omega) (.int .i64 0)) E 3 (by omega) (.int .i64 0)) w.heap.size 0 (by omega) (.slice (some ⟨w.heap.size + 1 + 1, 0, none⟩) 1 1)) w.heap.size 1 (by omega) (.int .i64 (u + 1))
      intro m hm
      have := this m (by omega)
      simpa using this
    · exact ((((((HV.out.s0 n).s1 1).s2 0).s3 0).other w.heap.size 0 (by omega) _).other w.heap.size 1 (by omega) _)
    · exact gb_new (gb_new (gb_s (gb_s (gb_s (gb_s HGV.out 0 _) 1 _) 2 _) 3 _) (p := ⟨w.heap.size, 0, none⟩) (Nat.le_refl _) _) (p := ⟨w.heap.size, 1, none⟩) (Nat.le_refl _) _

end Go.Proofs.Ytjnclbhpdaonhaa
