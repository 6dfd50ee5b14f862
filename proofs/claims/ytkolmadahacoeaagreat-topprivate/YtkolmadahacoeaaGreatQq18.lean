import Derived.Test.YtkolmadahacoeaaGreatQq17
import Derived.Test.YtkolmadahacoeaaGreatQq14
import Derived.Lib.AppendZerosOnto
import Derived.Deep.Upon
namespace Go.Proofs.YtkolmadahacoeaaGreat
open Go.RowKit Go.Proofs.YtkolmadahacoeaaGreat.Ds
theorem Ints.away {w : World} {B nb m : Nat} {s : Value} {xs : List Int} (h : Ints w B nb s xs) (hx : xs ≠ [] → ∀ b o sp n c, s = .slice (some ⟨b, o, sp⟩) n c → b ≠ m) : Ints w B m s xs := by
 obtain ⟨a, c, hv, hc, hl, hy⟩ := h
 refine ⟨a, c, hv, hc, hl, fun hne => ?_⟩
 obtain ⟨b, o, ha, hb, _, hcell⟩ := hy hne
 exact ⟨b, o, ha, hb, hx hne b o none xs.length c (by rw [hv, ha]), hcell⟩
def PartsN (w : World) (B nb : Nat) (v : Value) (ts : List Tr) : Prop :=
 ∃ a c, v = .slice a ts.length c ∧ ts.length ≤ c ∧ ts.length ≤ 1073741824 ∧ (∀ t ∈ ts, Ints w B nb t.1 t.2.1) ∧
  (ts ≠ [] → ∃ b o, a = some ⟨b, o, none⟩ ∧ b < B ∧ b ≠ nb ∧ Cells w b o ts)
theorem PartsN.parts {w : World} {nb : Nat} {v : Value} {ts : List Tr} (h : PartsN w w.heap.size nb v ts) : Parts w w.heap.size v ts := by
 obtain ⟨a, c, hv, hc, hl, hi, hx⟩ := h
 refine ⟨a, c, hv, hc, hl, fun t ht => (hi t ht).mono (Nat.le_refl _) (.inr (Nat.le_refl _)), fun hne => ?_⟩
 obtain ⟨b, o, ha, hb, _, hcell⟩ := hx hne
 exact ⟨b, o, ha, hb, hcell⟩
theorem PartsN.at2 {w w' : World} {nb : Nat} {v : Value} {ts : List Tr} (h : PartsN w w.heap.size nb v ts) (hb : Below w.heap.size w w') : PartsN w' w'.heap.size nb v ts := by
 obtain ⟨a, c, hv, hc, hl, hi, hx⟩ := h
 refine ⟨a, c, hv, hc, hl, fun t ht => (hi t ht).at2 hb, fun hne => ?_⟩
 obtain ⟨b, o, ha, hB, hn, hcell⟩ := hx hne
 exact ⟨b, o, ha, Nat.lt_of_lt_of_le hB hb.size, hn, hcell.keep hb hB⟩
theorem PartsN.grow {W w' : World} {m m' : Nat} {v : Value} {ts : List Tr} {row : Option Nat} (h : PartsN W W.heap.size m v ts) (hg : W.grownBy w' row) (hrow : ∀ g, row = some g → m = g) (hm : m' = m ∨ W.heap.size ≤ m') : PartsN w' w'.heap.size m' v ts := by
 obtain ⟨a, c, hv, hc, hl, hi, hx⟩ := h
 refine ⟨a, c, hv, hc, hl, fun t ht => (hi t ht).grow hg (Nat.le_refl _) hrow hm, fun hne => ?_⟩
 obtain ⟨b, o, ha, hb, hn, hcell⟩ := hx hne
 have := hg.size
 refine ⟨b, o, ha, by omega, by rcases hm with h | h <;> omega, fun i t ht => ?_⟩
 have hne' : some b ≠ row := fun e => hn (hrow b e.symm).symm
 exact ⟨hg.cell (hcell i t ht).1 hne', hg.cell (hcell i t ht).2 hne'⟩
theorem own_away {w : World} {lo m : Nat} {v : Value} {ts : List Tr} (h : OwnN w lo v ts) (hf : Frs lo ts) (hm : m < lo) : PartsN w w.heap.size m v ts := by
 rcases h with ⟨rfl, rfl⟩ | ⟨b, o, c, rfl, hc, hl, hlo, hr, hi⟩
 ·exact ⟨none, 0, rfl, Nat.le_refl _, by simp, by simp, fun h => absurd rfl h⟩
 ·refine ⟨_, c, rfl, hc, hl, fun t ht => (hi t ht).away fun hne b o sp n c e => ?_, fun _ => ⟨b, o, rfl, hr.lt, by omega, hr.cells⟩⟩
  have := hf t ht hne b o sp n c e
  omega
abbrev Dl := Value × List Tr
def Dss (w : World) (B : Nat) (v : Value) (ns : List Dl) : Prop :=
 ∃ a c, v = .slice a ns.length c ∧ ns.length ≤ c ∧ ns.length ≤ 1073741824 ∧ (∀ n ∈ ns, Parts w B n.1 n.2) ∧
  (ns ≠ [] → ∃ b o, a = some ⟨b, o, none⟩ ∧ b < B ∧ ∀ i n, ns[i]? = some n → w.cell? ⟨b, o + i, none⟩ = some n.1)
theorem Dss.keep {w w' : World} {B : Nat} {v : Value} {ns : List Dl} (h : Dss w B v ns) (hb : Below B w w') : Dss w' B v ns := by
 obtain ⟨a, c, hv, hc, hl, hi, hx⟩ := h
 refine ⟨a, c, hv, hc, hl, fun t ht => (hi t ht).keep hb, fun hne => ?_⟩
 obtain ⟨b, o, ha, hB, hcell⟩ := hx hne
 exact ⟨b, o, ha, hB, fun i z hz => (hb.cell (p := ⟨b, o + i, none⟩) hB).trans (hcell i z hz)⟩
theorem Dss.at {w w' : World} {B : Nat} {v : Value} {ns : List Dl} (h : Dss w B v ns) (hB : B ≤ w.heap.size) (hb : Below w.heap.size w w') : Dss w' B v ns := h.keep (hb.mono hB)
theorem Dss.get {w wr : World} {B : Nat} {a : Option Addr} {n c : Nat} {ns : List Dl} (hp : Dss w B (.slice a n c) ns) (hB : B ≤ w.heap.size) (hbl : Below w.heap.size w wr) {i : Nat} (h : i < ns.length) :
  ∃ b o na nc us, a = some ⟨b, o, none⟩ ∧ b < w.heap.size ∧ ns[i]? = some (.slice na us.length nc, us) ∧ wr.cell? ⟨b, o + i, none⟩ = some (.slice na us.length nc) ∧ Parts wr B (.slice na us.length nc) us := by
 obtain ⟨a', c', hv, hc, hl, hi, hx⟩ := hp
 simp only [Value.slice.injEq] at hv
 obtain ⟨rfl, rfl, rfl⟩ := hv
 obtain ⟨b, o, ha, hb, hcell⟩ := hx (ne_of_lt h)
 obtain ⟨⟨s, us⟩, hs⟩ := get_lt h
 have hI := hi _ (List.mem_of_getElem? hs)
 have hI2 := hI.at hB hbl
 obtain ⟨na, nc, he, _⟩ := hI
 simp only at he
 subst he
 have hlt : b < w.heap.size := by omega
 exact ⟨b, o, na, nc, us, ha, hlt, hs, (hbl.cell (p := ⟨b, o + i, none⟩) hlt).trans (hcell i _ hs), hI2⟩
theorem Ints.grow2 {W w' : World} {m m0 : Nat} {s : Value} {xs : List Int} {row : Option Nat} (h : Ints W W.heap.size m s xs) (h0 : Ints W W.heap.size m0 s xs) (hg : W.grownBy w' row) (hrow : ∀ g, row = some g → m0 = g) : Ints w' w'.heap.size m s xs := by
 obtain ⟨a, c, hv, hc, hl, hx⟩ := h
 obtain ⟨a0, c0, hv0, _, _, hx0⟩ := h0
 refine ⟨a, c, hv, hc, hl, fun hne => ?_⟩
 obtain ⟨b, o, ha, hb, hn, hcell⟩ := hx hne
 obtain ⟨b0, o0, ha0, _, hn0, _⟩ := hx0 hne
 rw [hv, ha, ha0] at hv0
 simp only [Value.slice.injEq, Option.some.injEq, Addr.mk.injEq] at hv0
 have hbb := hv0.1.1
 have := hg.size
 exact ⟨b, o, ha, by omega, hn, fun i x hi => hg.cell (hcell i x hi) fun e => hn0 (by rw [← hbb]; exact (hrow b e.symm).symm)⟩
theorem PartsN.grow2 {W w' : World} {m m0 : Nat} {v : Value} {ts : List Tr} {row : Option Nat} (h : PartsN W W.heap.size m v ts) (h0 : PartsN W W.heap.size m0 v ts) (hg : W.grownBy w' row) (hrow : ∀ g, row = some g → m0 = g) : PartsN w' w'.heap.size m v ts := by
 obtain ⟨a, c, hv, hc, hl, hi, hx⟩ := h
 obtain ⟨a0, c0, hv0, _, _, hi0, hx0⟩ := h0
 refine ⟨a, c, hv, hc, hl, fun t ht => (hi t ht).grow2 (hi0 t ht) hg hrow, fun hne => ?_⟩
 obtain ⟨b, o, ha, hb, hn, hcell⟩ := hx hne
 obtain ⟨b0, o0, ha0, _, hn0, _⟩ := hx0 hne
 rw [hv, ha, ha0] at hv0
 simp only [Value.slice.injEq, Option.some.injEq, Addr.mk.injEq] at hv0
 have hbb := hv0.1.1
 have hne' : some b ≠ row := fun e => hn0 (by rw [← hbb]; exact (hrow b e.symm).symm)
 have := hg.size
 exact ⟨b, o, ha, by omega, hn, fun i t ht => ⟨hg.cell (hcell i t ht).1 hne', hg.cell (hcell i t ht).2 hne'⟩⟩
def DssA (w : World) (h : Nat) (v : Value) (zs : List Dz) : Prop :=
 ∃ a c, v = .slice a zs.length c ∧ zs.length ≤ c ∧ zs.length ≤ 1073741824 ∧ (∀ z ∈ zs, ∀ m, m < h → PartsN w w.heap.size m z.1 z.2) ∧
  (zs ≠ [] → ∃ b o, a = some ⟨b, o, none⟩ ∧ h ≤ b ∧ b < w.heap.size ∧ ∀ i z, zs[i]? = some z → w.cell? ⟨b, o + i, none⟩ = some z.1)
theorem DssA.nil (w : World) (h : Nat) : DssA w h (.slice none 0 0) [] := ⟨none, 0, rfl, Nat.le_refl _, by simp, by simp, fun h => absurd rfl h⟩
theorem DssA.keep {w w' : World} {h : Nat} {v : Value} {zs : List Dz} (d : DssA w h v zs) (hb : Below w.heap.size w w') : DssA w' h v zs := by
 obtain ⟨a, c, hv, hc, hl, hi, hx⟩ := d
 refine ⟨a, c, hv, hc, hl, fun z hz m hm => (hi z hz m hm).at2 hb, fun hne => ?_⟩
 obtain ⟨b, o, ha, h1, h2, hcell⟩ := hx hne
 exact ⟨b, o, ha, h1, Nat.lt_of_lt_of_le h2 hb.size, fun i z hz => (hb.cell (p := ⟨b, o + i, none⟩) h2).trans (hcell i z hz)⟩
theorem DssA.mono {w : World} {h h' : Nat} {v : Value} {zs : List Dz} (d : DssA w h v zs) (hl : h' ≤ h) : DssA w h' v zs := by
 obtain ⟨a, c, hv, hc, hl', hi, hx⟩ := d
 exact ⟨a, c, hv, hc, hl', fun z hz m hm => hi z hz m (by omega), fun hne => let ⟨b, o, ha, h1, h2⟩ := hx hne; ⟨b, o, ha, by omega, h2⟩⟩
theorem DssA.dss {w : World} {h : Nat} {v : Value} {zs : List Dz} (d : DssA w h v zs) (h0 : 0 < h) : Dss w w.heap.size v zs := by
 obtain ⟨a, c, hv, hc, hl, hi, hx⟩ := d
 exact ⟨a, c, hv, hc, hl, fun z hz => (hi z hz 0 h0).parts, fun hne => let ⟨b, o, ha, _, h2, h3⟩ := hx hne; ⟨b, o, ha, h2, h3⟩⟩
theorem DssA.set {w : World} {h g k : Nat} {v x : Value} {zs : List Dz} (d : DssA w h v zs) (hg : g < h) : DssA (w.setCell ⟨g, k, none⟩ x) h v zs := by
 obtain ⟨a, c, hv, hc, hl, hi, hx⟩ := d
 refine ⟨a, c, hv, hc, hl, fun z hz m hm => (hi z hz m hm).grow2 (hi z hz g hg) (gb_setc w g k x) (fun g' e => by simpa using e), fun hne => ?_⟩
 obtain ⟨b, o, ha, h1, h2, hcell⟩ := hx hne
 exact ⟨b, o, ha, h1, by simpa using h2, fun i z hz => (gb_setc w g k x).cell (hcell i z hz) (by simp; omega)⟩
theorem DosN.dssA {w : World} {h : Nat} {v : Value} {zs : List Dz} (d : DosN w h v zs) : DssA w h v zs := by
 rcases d with ⟨rfl, rfl⟩ | ⟨g, cap, lo, rfl, h1, h2, hr, hg, hlo⟩
 ·exact DssA.nil w h
 ·exact ⟨_, cap, rfl, h1, by omega, fun z hz m hm => own_away (hr.el z hz).1 (hr.el z hz).2 (by omega), fun _ => ⟨g, 0, rfl, hg, hr.lt, fun i z hz => by rw [Nat.zero_add]; exact hr.cell i z hz⟩⟩
set_option maxHeartbeats 1000000 in
set_option maxRecDepth 100000 in
theorem grow_any (n : Nat) (hn : n ≤ 1073741824) (w : World) :
  Calls Tryz.prog 133 #[.slice none 0 0, .int .i64 (n : Int)] w fun e w' => ∃ v', e = .returned v' ∧ w'.ownsRow w.heap.size 3 1 v' 0 [] ∧ Below w.heap.size w w' := by
 obtain ⟨i0, hi, hz0, hz1, hz2⟩ := info_parts info3
 by_cases h0 : n = 0
 ·subst h0
  go_enter Tryz.func133, Tryz.ntmps133
  go_wp2
  go_ret
  exact ⟨_, rfl, ⟨rfl, .inl ⟨rfl, rfl⟩⟩, Below.refl _ _⟩
 ·have hrz := fun ty => Lib.run_append_nil_zeros (P := Tryz.prog) w 46 3 ty 3 i0 (.int .i64 0) .i64 .i64 Tryz.underlying46 Tryz.underlying3 hi hz0 n (by omega) (by omega) (by omega) (by rw [hz2]; omega)
  have hGn : n ≤ grownCap w n 0 3 := grownCap_ge w _ _ _
  have hGm : grownCap w n 0 3 ≤ maxLen := grownCap_le_maxLen w n 0 3 (by unfold maxLen; omega)
  obtain ⟨G, hG⟩ : ∃ G, grownCap w n 0 3 = G := ⟨_, rfl⟩
  rw [hG] at hrz hGn hGm
  obtain ⟨cur, hcur⟩ : ∃ cur, Builtin.zeroCells (Value.int .i64 0).cells n ++ Builtin.zeroCells (Value.int .i64 0).cells (G - n) = cur := ⟨_, rfl⟩
  rw [hcur] at hrz
  have hcs : cur.size = G * 1 := by rw [← hcur]; simp [Builtin.zeroCells, Value.cells]; omega
  have HO : Hid ((w.drew.alloc (.cells cur 3)).ownsRow w.heap.size 3 1 (.slice (some ⟨w.heap.size, 0, none⟩) 0 G) 0 []) :=
   ⟨rfl, .inr ⟨w.heap.size, G, cur, rfl, Nat.le_refl _, World.alloc_heap_new w.drew _, Nat.zero_le _, hGm, hcs, by simp⟩⟩
  have h1 : ¬ ((n : Int) < 0) := by omega
  have h4 : (0 : Int) < (n : Int) := by omega
  have hG63 : G ≤ 9223372036854775807 := by unfold maxLen at hGm; omega
  clear hG hcur
  go_enter Tryz.func133, Tryz.ntmps133
  go_wp2_with (at_builtin; refine Lib.wpList_append_run _ rfl _ _ _ _ rfl _ _ rfl rfl _ _ (hrz _) ?_)
  go_ret
  exact ⟨_, rfl, HO.out, bal (Below.refl _ _).drew _⟩
theorem app0 (w : World) (ty : TypeId) (base a : Option Addr) (sLen sCap c : Nat) (hle : sLen ≤ sCap) (i0 : TypeInfo) (hi : Tryz.prog.info? 3 = some i0) (hz1 : i0.size = 1) : (Builtin.append_ #[46, 46] ty #[.slice base sLen sCap, .slice a 0 c]).run Tryz.prog w = .ok (.slice base sLen sCap) w := by
 refine run_append_nothing (P := Tryz.prog) w 46 46 ty 3 i0 Tryz.underlying46 hi base sLen sCap hle (.slice a 0 c) ?_
 rw [hz1]
 have key : ∀ W : World, (Builtin.firstCells 1 0 (.slice a 0 c)).run Tryz.prog W = .ok ([] : List Value).toArray W := by
  intro W
  cases a with
  | none => exact run_firstCells_none W 1 0 0 c
  | some ad => exact run_firstCells_some W 1 0 ad 0 c [] rfl (by simp)
 exact ⟨.inl ⟨3, Tryz.underlying46⟩, fun w' => by simp [Builtin.lenOf], key w, key w.drew, rfl, by simp⟩
theorem owns_le {w : World} {base : Nat} {e : TypeId} {size : Nat} {a : Option Addr} {n c : Nat} {xs : List Value} (h : w.ownsRow base e size (.slice a n c) n xs) : n ≤ c := by
 rcases h.2 with ⟨h1, h2⟩ | ⟨g, cap, cur, h1, _, _, h2, _⟩
 ·simp only [Value.slice.injEq] at h1; omega
 ·simp only [Value.slice.injEq] at h1; omega
def cat (zs : List Vl) : List Int := zs.flatMap (·.2)
theorem cat_take {zs : List Vl} {i : Nat} {z : Vl} (h : zs[i]? = some z) : cat (zs.take (i + 1)) = cat (zs.take i) ++ z.2 := by
 unfold cat
 rw [List.take_add_one, h]
 simp
set_option maxHeartbeats 2000000 in
set_option maxRecDepth 100000 in
theorem concat_any (C : Nat) (v : Value) (zs : List Vl) (w : World) (hC : C ≤ w.heap.size) (hp : Lsts w C v zs) (hz : zs.length ≤ 1073741824) (hs : (cat zs).length ≤ 1073741824) :
  Calls Tryz.prog 82 #[v] w fun e w' => ∃ v', e = .returned v' ∧ (∀ m, m < w.heap.size → Ints w' w'.heap.size m v' (cat zs)) ∧ Below w.heap.size w w' := by
 have HP : Hid (Lsts w C v zs) := hp
 obtain ⟨a, c, rfl, hcc, _, _⟩ := hp
 obtain ⟨i0, hi, hz0, hz1, hz2⟩ := info_parts info3
 have hlen : ∀ i, (cat (zs.take i)).length ≤ 1073741824 := by
  intro i
  have e : cat zs = cat (zs.take i) ++ cat (zs.drop i) := by unfold cat; rw [← List.flatMap_append, List.take_append_drop]
  rw [e, List.length_append] at hs
  omega
 have HLN : Hid (∀ i, (cat (zs.take i)).length ≤ 1073741824) := hlen
 clear hlen
 go_enter Tryz.func82, Tryz.ntmps82
 go_wp2
 go_loopw [3, 11] (fun s u wr => ∃ i n : Nat, u = .int .i64 (i : Int) ∧ s = .int .i64 (n : Int) ∧ i ≤ zs.length ∧ n ≤ 1073741824 ∧ Hid ((cat (zs.take i)).length = n) ∧ Below w.heap.size w wr) (fun _ u _ => zs.length - (intOf u).toNat)
 case atStart => exact ⟨0, 0, rfl, rfl, Nat.zero_le _, by omega, by simp [Hid, cat], Below.refl _ _⟩
 case round =>
  obtain ⟨i, n, rfl, rfl, hit, hn, HN, hbl⟩ := hrel
  by_cases h1 : i < zs.length
  ·obtain ⟨b, o, sa, sc, xs, rfl, hb, hsg, d1, hI⟩ := HP.out.get hC hbl h1
   have hn2 : n + xs.length ≤ 1073741824 := by
    have h5 := HLN.out (i + 1)
    rw [cat_take hsg, List.length_append, HN.out] at h5
    exact h5
   have HN2 : Hid ((cat (zs.take (i + 1))).length = n + xs.length) := by rw [Hid, cat_take hsg, List.length_append, HN.out]
   have hneg : ¬ ((n : Int) + (xs.length : Int) < 0) := by omega
   clear hsg hI
   go_wp2
   go_roundw
   case rel => exact ⟨i + 1, n + xs.length, by go_num, by go_num, h1, hn2, HN2, hbl⟩
   case measure => simp [intOf]; omega
  ·have kg := grow_any n hn wr
   go_wp2_with fail
   refine kg.mono ?_
   rintro e w1 ⟨v1, rfl, ho1, hb1⟩
   obtain ⟨va, vc, rfl⟩ := owns_slice ho1
   have b1 : Below w.heap.size w w1 := bt hbl hb1
   have HO1 : Hid (w1.ownsRow w.heap.size 3 1 (.slice va 0 vc) 0 []) := ⟨ho1.1, ho1.2.imp id fun ⟨g, cap, cur, h1, h2, h3⟩ => ⟨g, cap, cur, h1, Nat.le_trans hbl.size h2, h3⟩⟩
   clear kg ho1
   go_wp2
   go_loopw [6, 27] (fun pv u wq => ∃ (j : Nat), u = .int .i64 (j : Int) ∧ j ≤ zs.length ∧ Hid (wq.ownsRow w.heap.size 3 1 pv (cat (zs.take j)).length ((cat (zs.take j)).map (Value.int .i64))) ∧ Below w.heap.size w wq) (fun _ u _ => zs.length - (intOf u).toNat)
   case atStart => exact ⟨0, rfl, Nat.zero_le _, by simpa [Hid, cat] using HO1.out, b1⟩
   case round =>
    obtain ⟨j, rfl, hjt, HR, hbq⟩ := hrel
    have hqs := hbq.size
    obtain ⟨pa, pc, rfl⟩ := owns_slice HR.out
    obtain ⟨P, hP⟩ : ∃ P, (cat (zs.take j)).length = P := ⟨_, rfl⟩
    rw [hP] at HR ⊢
    have HPB : Hid (P ≤ 1073741824 ∧ (cat (zs.take j)).length = P) := ⟨by rw [← hP]; exact HLN.out j, hP⟩
    clear hP
    by_cases h2 : j < zs.length
    ·obtain ⟨b, o, sa, sc, xs, rfl, hb, hsg, d1, hI⟩ := HP.out.get hC hbq h2
     have hn2 : P + xs.length ≤ 1073741824 := by
      have h5 := HLN.out (j + 1)
      rw [cat_take hsg, List.length_append, HPB.out.2] at h5
      exact h5
     have HCT : Hid (cat (zs.take (j + 1)) = cat (zs.take j) ++ xs) := cat_take hsg
     by_cases hx : xs = []
     ·subst hx
      have hle := owns_le HR.out
      have hap := fun (W : World) ty => app0 W ty pa sa P pc sc hle i0 hi hz1
      have HR2 : Hid (wr.ownsRow w.heap.size 3 1 (.slice pa P pc) (cat (zs.take (j + 1))).length ((cat (zs.take (j + 1))).map (Value.int .i64))) := by rw [Hid, HCT.out, List.append_nil, HPB.out.2]; exact HR.out
      clear hsg hI HR hle
      go_wp2_with (at_builtin; refine Lib.wpList_append_run _ rfl _ _ _ _ rfl _ _ rfl rfl _ _ (hap _ _) ?_)
      go_roundw
      case rel => exact ⟨j + 1, by go_num, h2, HR2, hbq⟩
      case measure => simp [intOf]; omega
     ·obtain ⟨sa', sc', hv, hscc, _, hxx⟩ := hI
      simp only [Value.slice.injEq] at hv
      obtain ⟨rfl, _, rfl⟩ := hv
      obtain ⟨b', o', rfl, hb', _, hcell⟩ := hxx hx
      have HCE : Hid (∀ m u, (xs.map (Value.int .i64))[m]? = some u → wr.cell? ((⟨b', o', none⟩ : Addr).add m) = some u) := by
       intro m u hm
       have hlt : m < xs.length := by have := (List.getElem?_eq_some_iff.1 hm).1; simpa using this
       obtain ⟨x, hx2⟩ := get_lt hlt
       rw [Addr.add_lit, hcell m x hx2]
       simpa [hx2] using hm
      clear hsg hxx hcell
      go_wp2_with (at_builtin; refine wpList_append_own _ rfl _ _ 46 rfl w.heap.size 3 i0 (.int .i64 0) 1 8 Tryz.underlying46 hi hz0 hz1 hz2 rfl (by decide) _ _ _ rfl HR.out ⟨b', o', none⟩ xs.length sc (xs.map (Value.int .i64)) rfl ?q1 ?q2 ?q3 ?q4 ?q5 ?q6 ?_)
      case q1 => simp
      case q2 => exact HCE.out
      case q3 => intro u hu; obtain ⟨x, _, rfl⟩ := List.mem_map.1 hu; rfl
      case q4 => unfold maxLen; omega
      case q5 => omega
      case q6 => omega
      intro v2 w2 hown hgrow _
      have HR2 : Hid (w2.ownsRow w.heap.size 3 1 v2 (cat (zs.take (j + 1))).length ((cat (zs.take (j + 1))).map (Value.int .i64))) := by
       rw [Hid, HCT.out, List.length_append, HPB.out.2, List.map_append]; exact hown
      have B2 : Below w.heap.size w w2 := hbq.grown hgrow hqs (owns_block HR.out)
      obtain ⟨a2, c2, hv2⟩ := owns_slice hown
      subst hv2
      clear hown hgrow HR
      go_wp2
      go_roundw
      case rel => exact ⟨j + 1, by go_num, h2, HR2, B2⟩
      case measure => simp [intOf]; omega
    ·have htk : zs.take j = zs := List.take_of_length_le (by omega)
     have HF : Hid (∀ m, m < w.heap.size → Ints wr wr.heap.size m (.slice pa P pc) (cat zs)) := by
      intro m hm
      have h5 := HR.out
      rw [htk] at h5
      have h6 := HPB.out.2
      rw [htk] at h6
      exact ints_of_owns h6.symm hs h5 hm
     clear htk HR
     go_wp2
     go_ret
     exact ⟨_, rfl, HF.out, hbq⟩
end Go.Proofs.YtkolmadahacoeaaGreat
namespace Go.Proofs.YtkolmadahacoeaaGreat
open Go.RowKit Go.Shelf Go.Proofs.YtkolmadahacoeaaGreat.Ds
def pre (x : List Int) (b : List Pt) : List Pt := b.map fun q => (x ++ q.1, q.2)
def behT (x : List Int) (b : List Pt) : List Pt × Int := if (pre x b).all okP then (pre x b, 0) else ([], 3)
theorem lsts_two (w : World) (C : Nat) (u v : Value) (xs ys : List Int) (hC : C ≤ w.heap.size) (hu : Ints w C C u xs) (hv : Ints w C C v ys) :
  Lsts (w.alloc (.cells #[u, v] 46)) (w.heap.size + 1) (.slice (some ⟨w.heap.size, 0, none⟩) 2 2) [(u, xs), (v, ys)] := by
 refine ⟨_, 2, rfl, by simp, by simp, fun z hz => ?_, fun _ => ⟨w.heap.size, 0, rfl, by omega, fun i z hi => ?_⟩⟩
 ·simp at hz
  rcases hz with rfl | rfl
  ·exact (hu.at hC (ba _ _)).mono (by omega) (.inr (by omega))
  ·exact (hv.at hC (ba _ _)).mono (by omega) (.inr (by omega))
 ·match i, hi with
  | 0, hi => simp at hi; subst hi; simp [go_sem]
  | 1, hi => simp at hi; subst hi; simp [go_sem]
def Bhd (x : List Int) (b : List Pt) (us : List Tr) (i : Nat) : Prop := us.length = b.length ∧ (rd us).take i = (pre x b).take i ∧ ((pre x b).take i).all okP = true
theorem Bhd.step {x : List Int} {b : List Pt} {us : List Tr} {i : Nat} {y : List Int} {k : Int} {s : Value} (h : Bhd x b us i) (hp : b[i]? = some (y, k)) (hk : okP (x ++ y, k) = true) : Bhd x b (us.set i (s, x ++ y, k)) (i + 1) := by
 obtain ⟨h1, h2, h3⟩ := h
 have hi := (List.getElem?_eq_some_iff.1 hp).1
 have hg : (pre x b)[i]? = some (x ++ y, k) := by simp [pre, hp]
 refine ⟨by simp [h1], ?_, ?_⟩
 ·rw [rd_set, take_set_succ _ (by rw [rd_len]; omega), h2, List.take_add_one, hg]; rfl
 ·rw [List.take_add_one, hg, List.all_append, h3]; simp [hk]
set_option maxHeartbeats 2000000 in
set_option maxRecDepth 100000 in
theorem behind_any (C D : Nat) (u v : Value) (xs : List Int) (ts : List Tr) (w : World) (hC : C ≤ w.heap.size) (hD : D ≤ w.heap.size) (hx : Ints w C C u xs) (hp : Parts w D v ts) (hxl : xs.length ≤ 16) (hd : Dis (rd ts)) (l : List Pt) (er : Int) (hr : behT xs (rd ts) = (l, er)) :
  Calls Tryz.prog 42 #[u, v] w fun e w' => ∃ v' us, e = .returned (.tuple #[v', .int .i64 er]) ∧ rd us = l ∧ OwnN w' w.heap.size v' us ∧ Below w.heap.size w w' ∧ Frs w.heap.size us := by
 have HP : Hid (Parts w D v ts) := hp
 have HX : Hid (Ints w C C u xs) := hx
 have HR : Hid (behT xs (rd ts) = (l, er) ∧ Dis (rd ts)) := ⟨hr, hd⟩
 obtain ⟨a, c, rfl, hc, hl, _⟩ := hp
 obtain ⟨xa, xc, rfl, _⟩ := hx
 obtain ⟨i0, hi, hz0, hz1, hz2⟩ := info_parts info32
 have hmk : ∀ u : World, (Instr.makeSlice 37 (.int .i64 (ts.length : Int)) (.int .i64 (ts.length : Int))).run Tryz.prog u =
   .ok (.slice (some ⟨u.heap.size, 0, none⟩) ts.length ts.length) (u.alloc (.cells (madeCells #[.slice none 0 0, .int .i64 0] (ts.length * 2)) 61)) := fun u => by
  have h := run_make (P := Tryz.prog) u 37 61 i0 (.agg #[.slice none 0 0, .int .i64 0]) Tryz.underlying37 hi hz0 .i64 .i64 (ts.length : Int) (ts.length : Int) (by omega) (Int.le_refl _) (by rw [hz2]; omega) (by omega)
  rw [Int.toNat_natCast] at h
  simpa [hz1, Value.cells] using h
 clear hr hd
 go_enter Tryz.func42, Tryz.ntmps42
 go_wp2
 go_loopw [14] (fun s wr => ∃ (i : Nat) (us : List Tr), s = .int .i64 (i : Int) ∧ i ≤ ts.length ∧ Hid (Bhd xs (rd ts) us i) ∧ Row wr w.heap.size 0 us ∧ (∀ t ∈ us, Ints wr wr.heap.size w.heap.size t.1 t.2.1) ∧ Below w.heap.size w wr ∧ Hid (Frs w.heap.size us)) (fun s _ => ts.length - (intOf s).toNat)
 case atStart =>
  refine ⟨0, List.replicate ts.length no, rfl, Nat.zero_le _, ⟨by simp [rd], by simp, by simp⟩, row_made _ _, fun t ht => ?_, ba _ _, fun t ht hne => ?_⟩
  ·rw [List.eq_of_mem_replicate ht]
   exact ints_nil _ _ _
  ·rw [List.eq_of_mem_replicate ht] at hne
   exact absurd rfl hne
 case round =>
  obtain ⟨i, us, rfl, hit, HT, hrow, hI, hbl, HFR⟩ := hrel
  have hul : us.length = ts.length := by have := HT.out.1; rw [rd_len] at this; exact this
  by_cases h1 : i < ts.length
  ·obtain ⟨b, o, sa, sc, ys, k, rfl, hb, hs, c1, c2, hIx⟩ := HP.out.get hD hbl h1
   have HS : Hid ((rd ts)[i]? = some (ys, k)) := rd_get hs
   have hyl : ys.length ≤ 16 := by
    have h5 := dis_okO HR.out.2 (List.mem_of_getElem? HS.out)
    simp [okO] at h5
    exact h5.1
   obtain ⟨t0, ht0⟩ := get_lt (l := us) (i := i) (by omega)
   have r1 := hrow.cells i t0 ht0
   have r2 := hrow.thaw (i * 2) (by omega)
   have r3 := hrow.thaw (i * 2 + 1) (by omega)
   have HRo : Hid (Row wr w.heap.size 0 us ∧ us.length = ts.length) := ⟨hrow, hul⟩
   have HI : Hid (∀ t ∈ us, Ints wr wr.heap.size w.heap.size t.1 t.2.1) := hI
   have HIx : Hid (Ints wr D D (.slice sa ys.length sc) ys) := hIx
   have hs1 := hbl.size
   have hlt := hrow.lt
   obtain ⟨r4, r5⟩ := r1
   simp only [Nat.zero_add] at r2 r3 r4 r5
   obtain ⟨v0, hv0⟩ : ∃ v0, t0.1 = v0 := ⟨_, rfl⟩
   rw [hv0] at r4
   clear hs hrow hI hIx ht0 hv0 hul
   have r6 : ∀ o, (wr.alloc o).cell? ⟨w.heap.size, i * 2, none⟩ = some v0 := fun o => by rw [World.cell?_alloc_lt _ _ _ hlt]; exact r4
   have r7 : ∀ o, (wr.alloc o).cell? ⟨w.heap.size, i * 2 + 1, none⟩ = some (.int .i64 t0.2.2) := fun o => by rw [World.cell?_alloc_lt _ _ _ hlt]; exact r5
   have r8 : ∀ o, (wr.alloc o).frozen? ⟨w.heap.size, i * 2, none⟩ = false := fun o => by rw [(ba wr o).frozen hlt]; exact r2
   have r9 : ∀ o, (wr.alloc o).frozen? ⟨w.heap.size, i * 2 + 1, none⟩ = false := fun o => by rw [(ba wr o).frozen hlt]; exact r3
   go_wp2_with fail
   generalize hO : Obj.cells #[Value.slice sa ys.length sc, Value.int IntKind.i64 k] 61 = O
   have g1 : (wr.alloc O).cell? ⟨wr.heap.size, 0, none⟩ = some (.slice sa ys.length sc) := by rw [← hO]; simp [go_sem]
   have g2 : (wr.alloc O).cell? ⟨wr.heap.size, 1, none⟩ = some (.int .i64 k) := by rw [← hO]; simp [go_sem]
   have g3 := r6 O
   have g4 := r7 O
   have g5 := r8 O
   have g6 := r9 O
   have g7 : (wr.alloc O).heap.size = wr.heap.size + 1 := by simp
   obtain ⟨W, hW⟩ : ∃ W, wr.alloc O = W := ⟨_, rfl⟩
   have HW : Hid (Below wr.heap.size wr W) := hW ▸ ba wr O
   rw [hW] at g1 g2 g3 g4 g5 g6 g7 ⊢
   clear r2 r3 r4 r5 r6 r7 r8 r9 hO hW
   have HB : Below w.heap.size w W := bt hbl HW.out
   have ne1 : ¬ w.heap.size = wr.heap.size := by omega
   have ne2 : ¬ wr.heap.size = w.heap.size := by omega
   have lw1 : w.heap.size < W.heap.size := by omega
   have lw2 : wr.heap.size < W.heap.size := by omega
   have z1 : (0 : Int) ≤ (i : Int) := by omega
   have z2 : (i : Int) < (ts.length : Int) := by omega
   obtain ⟨WA, hWA0⟩ : ∃ WA, (W.alloc (.cells #[.slice xa xs.length xc, .slice sa ys.length sc] 46)).drew = WA := ⟨_, rfl⟩
   have hWA : Below W.heap.size W WA := by rw [← hWA0]; exact (bal (Below.refl _ _) _).drew
   have hWAs : WA.heap.size = wr.heap.size + 2 := by rw [← hWA0]; show (W.alloc _).heap.size = _; simp; omega
   have HL2 : Hid (Lsts WA (W.heap.size + 1) (.slice (some ⟨wr.heap.size + 1, 0, none⟩) 2 2) [(.slice xa xs.length xc, xs), (.slice sa ys.length sc, ys)]) := by
    rw [Hid, ← hWA0, ← g7]
    exact (lsts_two W W.heap.size _ _ xs ys (Nat.le_refl _) ((HX.out.at hC HB).mono (by omega) (.inr (by omega))) ((HIx.out.at (by omega) HW.out).mono (by omega) (.inr (by omega)))).keep (Below.refl _ _).drew
   have kcat := concat_any (W.heap.size + 1) (.slice (some ⟨wr.heap.size + 1, 0, none⟩) 2 2) [(.slice xa xs.length xc, xs), (.slice sa ys.length sc, ys)] WA (by omega) HL2.out (by simp) (by simp [cat]; omega)
   have ecat : cat [((.slice xa xs.length xc, xs) : Vl), (.slice sa ys.length sc, ys)] = xs ++ ys := by simp [cat]
   obtain ⟨zs, hzs⟩ : ∃ zs, xs ++ ys = zs := ⟨_, rfl⟩
   rw [ecat, hzs] at kcat
   have HZ : Hid (xs ++ ys = zs) := hzs
   clear hzs
   have HKC : Hid (Calls Tryz.prog 82 #[.slice (some ⟨wr.heap.size + 1, 0, none⟩) 2 2] WA fun e w' => ∃ v', e = .returned v' ∧ (∀ m, m < WA.heap.size → Ints w' w'.heap.size m v' zs) ∧ Below WA.heap.size WA w') := kcat
   have kA1 : WA.cell? ⟨wr.heap.size, 0, none⟩ = some (.slice sa ys.length sc) := (hWA.cell (p := ⟨wr.heap.size, 0, none⟩) lw2).trans g1
   have kA2 : WA.cell? ⟨wr.heap.size, 1, none⟩ = some (.int .i64 k) := (hWA.cell (p := ⟨wr.heap.size, 1, none⟩) lw2).trans g2
   have kB1 : (W.alloc (.cells #[.slice xa xs.length xc, .slice sa ys.length sc] 46)).cell? ⟨wr.heap.size, 0, none⟩ = some (.slice sa ys.length sc) := ((ba W _).cell (p := ⟨wr.heap.size, 0, none⟩) lw2).trans g1
   have kB2 : (W.alloc (.cells #[.slice xa xs.length xc, .slice sa ys.length sc] 46)).cell? ⟨wr.heap.size, 1, none⟩ = some (.int .i64 k) := ((ba W _).cell (p := ⟨wr.heap.size, 1, none⟩) lw2).trans g2
   have hza : 0 < WA.heap.size := by omega
   clear kcat ecat HL2
   go_region_held3 (fun w' => w'.cell? ⟨wr.heap.size, 0, none⟩ = some (.slice sa ys.length sc) ∧ w'.cell? ⟨wr.heap.size, 1, none⟩ = some (.int .i64 k))
    ((go_split_ands; refine ⟨?_, ?_⟩ <;> first | assumption | (simp [go_sem, *]; done)))
    ((go_at_call 82; refine HKC.out.mono ?_; rintro x1 w1 ⟨v', rfl, hI1, hb1⟩; obtain ⟨av, cv, hv1, _⟩ := hI1 0 hza; subst hv1; have hb2 : Below W.heap.size W w1 := (bt hWA hb1); obtain ⟨hc1, hf1⟩ := bcell hb2; have hs1' := hb2.size; have k1 : w1.cell? ⟨w.heap.size, i * 2, none⟩ = some v0 := (hc1 _ _ lw1).trans g3; have k2 : w1.cell? ⟨w.heap.size, i * 2 + 1, none⟩ = some (.int .i64 t0.2.2) := (hc1 _ _ lw1).trans g4; have k3 : w1.frozen? ⟨w.heap.size, i * 2, none⟩ = false := (hf1 _ _ lw1).trans g5; have k4 : w1.frozen? ⟨w.heap.size, i * 2 + 1, none⟩ = false := (hf1 _ _ lw1).trans g6; have k5 : w1.cell? ⟨wr.heap.size, 0, none⟩ = some (.slice sa ys.length sc) := (hc1 _ _ lw2).trans g1; have k6 : w1.cell? ⟨wr.heap.size, 1, none⟩ = some (.int .i64 k) := (hc1 _ _ lw2).trans g2; clear hc1 hf1))
   have HB1 : Below wr.heap.size wr w1 := bt HW.out hb2
   obtain ⟨W2, hW2⟩ : ∃ W2, (w1.setCell ⟨w.heap.size, i * 2, none⟩ (.slice av zs.length cv)).setCell ⟨w.heap.size, i * 2 + 1, none⟩ (.int .i64 k) = W2 := ⟨_, rfl⟩
   have hmW : w.heap.size < WA.heap.size := by omega
   have HRn : Hid (Row W2 w.heap.size 0 (us.set i (.slice av zs.length cv, zs, k))) := hW2 ▸ (HRo.out.1.keep HB1).set0 (by rw [HRo.out.2]; exact h1) _ zs k
   have hIs : ∀ t ∈ us.set i (.slice av zs.length cv, zs, k), Ints W2 W2.heap.size w.heap.size t.1 t.2.1 := by
    intro t ht
    have hI2 : Ints w1 w1.heap.size w.heap.size t.1 t.2.1 := by
     rcases List.mem_or_eq_of_mem_set ht with h | rfl
     ·exact (HI.out t h).at2 HB1
     ·exact hI1 _ hmW
    have := (hI2.set (p := ⟨w.heap.size, i * 2, none⟩) rfl (.slice av zs.length cv)).set (p := ⟨w.heap.size, i * 2 + 1, none⟩) rfl (.int .i64 k)
    rw [← hW2]
    simpa using this
   have HIn : Hid (∀ t ∈ us.set i (.slice av zs.length cv, zs, k), Ints W2 W2.heap.size w.heap.size t.1 t.2.1) := hIs
   have HFn : Hid (Frs w.heap.size (us.set i (.slice av zs.length cv, zs, k))) := by
    intro t ht
    rcases List.mem_or_eq_of_mem_set ht with h | rfl
    ·exact HFR.out t h
    ·exact fr_of (w := w1) (B := w1.heap.size) fun m hm => hI1 m (by omega)
   have B2 : Below w.heap.size w W2 := by rw [← hW2]; exact bs (bs (bt hbl HB1) (Nat.le_refl _) _) (Nat.le_refl _) _
   have e1 : W2.cell? ⟨w.heap.size, i * 2, none⟩ = some (.slice av zs.length cv) := by rw [← hW2]; exact (sc_other (by simp)).trans (sc_same k1)
   have e2 : W2.cell? ⟨w.heap.size, i * 2 + 1, none⟩ = some (.int .i64 k) := by rw [← hW2]; exact sc_same (u := .int .i64 t0.2.2) ((sc_other (by simp)).trans k2)
   have hmem : ((.slice av zs.length cv, zs, k) : Tr) ∈ us.set i (.slice av zs.length cv, zs, k) := by
    refine List.mem_of_getElem? (i := i) ?_
    rw [List.getElem?_set_self (by rw [HRo.out.2]; exact h1)]
   obtain ⟨r, HOK⟩ : ∃ r, Hid (okP (zs, k) = r) := ⟨_, rfl⟩
   have kb := beyond_any W2.heap.size w.heap.size (.slice av zs.length cv) k zs W2 (Nat.le_refl _) (hIs _ hmem) r HOK.out
   clear hI1 hb1 hb2 HB1 k1 k2 k3 k4 k5 k6 g1 g2 g3 g4 g5 g6 hIs hmem kA1 kA2 kB1 kB2 HKC hWA0 hWA
   go_wp2_with fail
   refine kb.mono ?_
   rintro e w3 ⟨rfl, hb3⟩
   clear kb
   cases r with
   | true =>
    have HTn : Hid (Bhd xs (rd ts) (us.set i (.slice av zs.length cv, zs, k)) (i + 1)) := by
     have h5 := HT.out.step (s := .slice av zs.length cv) HS.out (by rw [HZ.out]; exact HOK.out)
     rwa [HZ.out] at h5
    have HRn3 : Hid (Row w3 w.heap.size 0 (us.set i (.slice av zs.length cv, zs, k))) := HRn.out.keep hb3
    go_wp2
    go_roundw
    case rel => exact ⟨i + 1, us.set i (.slice av zs.length cv, zs, k), by go_num, h1, HTn, HRn3.out, fun t ht => (HIn.out t ht).at2 hb3, bt B2 hb3, HFn⟩
    case measure => simp [intOf]; omega
   | false =>
    have hbeh := HR.out.1
    have hno : ¬ (pre xs (rd ts)).all okP = true := by
     rw [List.all_eq_true]
     intro h5
     have h6 := h5 (zs, k) (List.mem_map.2 ⟨(ys, k), List.mem_of_getElem? HS.out, by simp only [HZ.out]⟩)
     rw [HOK.out] at h6
     cases h6
    unfold behT at hbeh
    rw [if_neg hno] at hbeh
    simp only [Prod.mk.injEq] at hbeh
    obtain ⟨rfl, rfl⟩ := hbeh
    clear hno
    go_wp2
    exact bodyPost_ret (v := .tuple #[.slice none 0 0, .int .i64 3]) (by simp [results, Tryz.results42, go_sem]) rfl ⟨_, [], rfl, rfl, .inl ⟨rfl, rfl⟩, bt B2 hb3, Frs.nil _⟩
  ·have hlen2 : (pre xs (rd ts)).length = ts.length := by simp [pre, rd_len]
   have htk : (pre xs (rd ts)).take i = pre xs (rd ts) := List.take_of_length_le (by omega)
   have hrd : rd us = pre xs (rd ts) := by
    have h5 := HT.out.2.1
    rw [htk, List.take_of_length_le (by rw [rd_len]; omega)] at h5
    exact h5
   have hbeh := HR.out.1
   unfold behT at hbeh
   have hall := HT.out.2.2
   rw [htk] at hall
   rw [if_pos hall] at hbeh
   simp only [Prod.mk.injEq] at hbeh
   obtain ⟨hbl1, rfl⟩ := hbeh
   have HD2 : Hid (rd us = l ∧ us.length = ts.length) := ⟨hrd.trans hbl1, hul⟩
   have HRo : Hid (Row wr w.heap.size 0 us) := hrow
   have HI : Hid (∀ t ∈ us, Ints wr wr.heap.size w.heap.size t.1 t.2.1) := hI
   clear hrow hI hrd htk hall hlen2 hul hbl1
   go_wp2
   exact bodyPost_ret (v := .tuple #[.slice (some ⟨w.heap.size, 0, none⟩) ts.length ts.length, .int .i64 0]) (by simp [results, Tryz.results42, go_sem]) rfl ⟨_, us, rfl, HD2.out.1, .inr ⟨w.heap.size, 0, ts.length, by rw [HD2.out.2], by rw [HD2.out.2]; exact Nat.le_refl _, by rw [HD2.out.2]; exact hl, Nat.le_refl _, HRo.out, HI.out⟩, hbl, HFR.out⟩
end Go.Proofs.YtkolmadahacoeaaGreat
