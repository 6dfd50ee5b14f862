import Derived.Test.YtjembpcpefgdpaaDoorQc21
import Derived.Test.YtjembpcpefgdpaaDoorQc15
namespace Go.Proofs.YtjembpcpefgdpaaDoor
open Go.RowKit Go.Proofs.YtjembpcpefgdpaaDoor.Ds

/-- what is wrong with a counter -/
def newE (high u d lo hi : Int) : Int :=
  if 0 ≤ high ∧ high ≤ 10 then (if (hideT u d lo hi 0).2 = 0 then (Rt.powT u d (high + 1)).2.2 else (hideT u d lo hi 0).2) else 3
/-- a counter in memory: its cells in block R, what is open in block g, both not older than N -/
structure Ctr (w : World) (N R : Nat) (k : Nat) (u d lo hi : Int) (t g cap : Nat) (xs : List Int) : Prop where
  box : SevB w R (.int .i64 (k : Int)) (.int .i64 u) (.int .i64 d) (.int .i64 lo) (.int .i64 hi) (.int .i64 (t : Int)) (.slice (some ⟨g, 0, none⟩) (k + 1) cap)
  row : RowI w g xs
  len : xs.length = k + 1
  cap : k + 1 ≤ cap
  nR : N ≤ R
  ng : N ≤ g
  ne : R ≠ g
theorem Ctr.keep {w w' : World} {N R k : Nat} {u d lo hi : Int} {t g cap : Nat} {xs : List Int} (h : Ctr w N R k u d lo hi t g cap xs) (hb : Below w.heap.size w w') : Ctr w' N R k u d lo hi t g cap xs :=
  ⟨h.box.keep hb h.box.lt, h.row.keep hb h.row.lt, h.len, h.cap, h.nR, h.ng, h.ne⟩
/-- what New answers -/
def NewP (w : World) (high u d lo hi er : Int) (e : Ending) (w' : World) : Prop :=
  ∃ p, e = .returned (.tuple #[p, .int .i64 er]) ∧ Below w.heap.size w w' ∧ (er ≠ 0 ∨ (∃ R g cap, p = .pointer (some ⟨R, 0, none⟩) ∧ Ctr w' w.heap.size R high.toNat u d lo hi 0 g cap (List.replicate (high.toNat + 1) 0)))

set_option maxHeartbeats 1000000 in
set_option maxRecDepth 100000 in
theorem newNo_any (high u d lo hi : Int) (h : ¬ (0 ≤ high ∧ high ≤ 10)) (w : World) :
    Calls Tryd.prog 14 #[.int .i64 high, rv u d, .int .i64 lo, .int .i64 hi] w (NewP w high u d lo hi 3) := by
  have kt := tall_any high false (by simpa using h)
  clear h
  go_enter Tryd.func14, Tryd.ntmps14
  go_wp2_with fail
  refine (kt _).mono ?_
  rintro e w1 ⟨rfl, rfl⟩
  go_wp2
  go_ret2
  exact ⟨_, rfl, ba _ _, .inl (by decide)⟩

set_option maxHeartbeats 1000000 in
set_option maxRecDepth 100000 in
theorem newHide_any (high u d lo hi er : Int) (l : List Pt) (h : 0 ≤ high ∧ high ≤ 10) (hh : hideT u d lo hi 0 = (l, er)) (hne : er ≠ 0) (w : World) :
    Calls Tryd.prog 14 #[.int .i64 high, rv u d, .int .i64 lo, .int .i64 hi] w (NewP w high u d lo hi er) := by
  have kt := tall_any high true (by simpa using h)
  have kh := hide_fr u d lo hi 0 l er hh
  have c1 : (er == 0) = false := by simpa using hne
  have c2 : (er != 0) = true := by simpa using hne
  clear h hh
  go_enter Tryd.func14, Tryd.ntmps14
  go_wp2_with fail
  refine (kt _).mono ?_
  rintro e w1 ⟨rfl, rfl⟩
  go_wp2_with fail
  refine (kh _).mono ?_
  rintro e w2 ⟨v2, us, rfl, k1, k2, k3, k4⟩
  have G : Below w.heap.size w w2 := bt (ba _ _) k3
  obtain ⟨a2, c2', hv2⟩ := k2.slice
  subst hv2
  clear k2 k4
  go_wp2
  go_ret2
  exact ⟨_, rfl, G, .inl hne⟩

set_option maxHeartbeats 1000000 in
set_option maxRecDepth 100000 in
theorem newPow_any (high u d lo hi er p q : Int) (l : List Pt) (h : 0 ≤ high ∧ high ≤ 10) (hh : hideT u d lo hi 0 = (l, 0)) (hp : Rt.powT u d (high + 1) = (p, q, er)) (w : World) :
    Calls Tryd.prog 14 #[.int .i64 high, rv u d, .int .i64 lo, .int .i64 hi] w (NewP w high u d lo hi er) := by
  have kt := tall_any high true (by simpa using h)
  have kh := hide_fr u d lo hi 0 l 0 hh
  have kp := power_any u d (high + 1) p q er hp
  obtain ⟨k, hk⟩ : ∃ k : Nat, high = (k : Int) := ⟨high.toNat, by omega⟩
  have hk10 : k ≤ 10 := by omega
  subst hk
  clear h hh hp
  have hw1 : IntKind.i64.wrap ((k : Int) + 1) = (k : Int) + 1 := by rw [IntKind.wrap_i64]; omega
  have hmk := make_ints (k + 1) (by omega)
  rw [show ((k + 1 : Nat) : Int) = (k : Int) + 1 from rfl] at hmk
  go_enter Tryd.func14, Tryd.ntmps14
  go_wp2_with fail
  refine (kt _).mono ?_
  rintro e w1 ⟨rfl, rfl⟩
  go_wp2_with fail
  refine (kh _).mono ?_
  rintro e w2 ⟨v2, us, rfl, k1, k2, k3, k4⟩
  have G : Below w.heap.size w w2 := bt (ba _ _) k3
  obtain ⟨a2, c2', hv2⟩ := k2.slice
  subst hv2
  have hs2 : w.heap.size + 1 ≤ w2.heap.size := by have := k3.size; simpa using this
  have e1 : w2.cell? ⟨w.heap.size, 0, none⟩ = some (.int .i64 u) := ((bcell k3).1 _ _ (by simp)).trans (by simp [go_sem])
  have e2 : w2.cell? ⟨w.heap.size, 1, none⟩ = some (.int .i64 d) := ((bcell k3).1 _ _ (by simp)).trans (by simp [go_sem])
  clear k2 k4 k3 kh kt
  go_wp2_with fail
  refine (kp _).mono ?_
  rintro e w3 ⟨rfl, hb3⟩
  have G3 : Below w.heap.size w w3 := bt G hb3
  have hs3 := hb3.size
  have f1 : w3.cell? ⟨w.heap.size, 0, none⟩ = some (.int .i64 u) := ((bcell hb3).1 _ _ (by omega)).trans e1
  have f2 : w3.cell? ⟨w.heap.size, 1, none⟩ = some (.int .i64 d) := ((bcell hb3).1 _ _ (by omega)).trans e2
  clear hb3 kp e1 e2 G
  by_cases c : er = 0
  · subst c
    have hlt : w.heap.size < w3.heap.size := by omega
    obtain ⟨W, hW⟩ : ∃ W, w3.alloc (.cells #[.int .i64 p, .int .i64 q] 23) = W := ⟨_, rfl⟩
    have GW : Below w.heap.size w W := by rw [← hW]; exact bal G3 _
    have hsW : W.heap.size = w3.heap.size + 1 := by rw [← hW]; simp
    have g1 : W.cell? ⟨w.heap.size, 0, none⟩ = some (.int .i64 u) := by rw [← hW, World.cell?_alloc_lt _ _ _ (by exact hlt)]; exact f1
    have g2 : W.cell? ⟨w.heap.size, 1, none⟩ = some (.int .i64 d) := by rw [← hW, World.cell?_alloc_lt _ _ _ (by exact hlt)]; exact f2
    have g3 : ∀ o, (W.alloc o).cell? ⟨w.heap.size, 0, none⟩ = some (.int .i64 u) := fun o => by rw [World.cell?_alloc_lt _ _ _ (by show w.heap.size < W.heap.size; omega)]; exact g1
    have g4 : ∀ o, (W.alloc o).cell? ⟨w.heap.size, 1, none⟩ = some (.int .i64 d) := fun o => by rw [World.cell?_alloc_lt _ _ _ (by show w.heap.size < W.heap.size; omega)]; exact g2
    have R1 : RowI (W.alloc (.cells (madeCells #[.int .i64 0] (k + 1)) 3)) W.heap.size (List.replicate (k + 1) 0) := RowI.made W (k + 1)
    have C : Hid (Ctr ((W.alloc (.cells (madeCells #[.int .i64 0] (k + 1)) 3)).alloc (.cells #[.int .i64 (k : Int), .int .i64 u, .int .i64 d, .int .i64 lo, .int .i64 hi, .int .i64 0, .slice (some ⟨W.heap.size, 0, none⟩) (k + 1) (k + 1)] 73)) w.heap.size (W.heap.size + 1) k u d lo hi 0 W.heap.size (k + 1) (List.replicate (k + 1) 0)) :=
      ⟨SevB.new _ _ _ _ _ _ _ _ _ (by simp), R1.keep (ba _ _) (by simp), by simp, Nat.le_refl _, by omega, by omega, by omega⟩
    clear R1 f1 f2
    go_wp2_with fail
    try simp only [hW]
    go_region
    all_goals go_wp2
    all_goals go_ret2
    all_goals exact ⟨_, rfl, (bal (bal GW _) _).drew, .inr ⟨_, _, _, rfl, (by have c := C.out; rw [hsW] at c; exact c.keep (Below.refl _ _).drew)⟩⟩
  · have c1 : (er == 0) = false := by simpa using c
    have c2 : (er != 0) = true := by simpa using c
    go_wp2
    go_ret2
    exact ⟨_, rfl, bal G3 _, .inl c⟩

theorem new_any (high u d lo hi er : Int) (h : newE high u d lo hi = er) (w : World) :
    Calls Tryd.prog 14 #[.int .i64 high, rv u d, .int .i64 lo, .int .i64 hi] w (NewP w high u d lo hi er) := by
  unfold newE at h
  by_cases c : 0 ≤ high ∧ high ≤ 10
  · rw [if_pos c] at h
    obtain ⟨⟨l, e1⟩, hh⟩ : ∃ y, hideT u d lo hi 0 = y := ⟨_, rfl⟩
    rw [hh] at h
    by_cases c1 : e1 = 0
    · subst c1
      obtain ⟨⟨p, q, e2⟩, hp⟩ : ∃ y, Rt.powT u d (high + 1) = y := ⟨_, rfl⟩
      rw [if_pos rfl, hp] at h
      subst h
      exact newPow_any high u d lo hi _ p q l c hh hp w
    · rw [if_neg c1] at h
      subst h
      exact newHide_any high u d lo hi _ l c hh c1 w
  · rw [if_neg c] at h
    subst h
    exact newNo_any high u d lo hi c w
end Go.Proofs.YtjembpcpefgdpaaDoor

namespace Go.Proofs.YtjembpcpefgdpaaDoor
open Go.RowKit Go.Proofs.YtjembpcpefgdpaaDoor.Ds

set_option maxRecDepth 100000 in
/-- Clone of parts: nil of none, or a row of one's own. -/
theorem cloneD_any (B : Nat) (v : Value) (ts : List Tr) (w : World) (hB : B ≤ w.heap.size) (hx : Parts w B v ts) :
    Calls Tryd.prog 66 #[v] w fun e w' => ∃ v', e = .returned v' ∧ Below w.heap.size w w' ∧
      ((ts = [] ∧ v' = .slice none 0 0) ∨ ∃ g cap, v' = .slice (some ⟨g, 0, none⟩) ts.length cap ∧ ts.length ≤ cap ∧ w.heap.size ≤ g ∧ Row w' g 0 ts) := by
  obtain ⟨a, c, rfl, hc, hl, hI, hxx⟩ := hx
  have q23 : ∀ (w : World) (a : Option Addr) (n c n' c' : Nat), (binOp .eql 43 (.slice a n c) (.slice none n' c')).run Tryd.prog w = .ok (.bool a.isNone) w := fun w a n c n' c' => Lib.run_eql_slice_nil w _ _ a n c n' c' Tryd.underlying43
  cases a with
  | none =>
    obtain rfl : ts = [] := by
      cases ts with
      | nil => rfl
      | cons x l => obtain ⟨b, o, h, _⟩ := hxx (by simp); cases h
    clear hxx hI
    go_enter Tryd.func66, Tryd.ntmps66
    go_wp2
    go_ret
    exact ⟨_, rfl, Below.refl _ _, by simp⟩
  | some ad =>
    have A : Hid (∀ j u, (flat ts)[j]? = some u → ∀ o, (w.alloc o).cell? (ad.add j) = some u) := by
      intro j u hj o
      have hlt : j < ts.length * 2 := by rw [← flat_len]; exact (List.getElem?_eq_some_iff.1 hj).1
      obtain ⟨b, o', he, hb, hcell⟩ := hxx (by rintro rfl; simp at hlt)
      simp only [Option.some.injEq] at he
      subst he
      rw [Addr.add_lit, World.cell?_alloc_lt _ _ _ (by simp; omega)]
      exact flat_cells hcell j u hj
    have A1 : Hid (∀ u ∈ flat ts, u.oneCell' = true) := by
      intro u hu
      obtain ⟨t, ht, hu⟩ := List.mem_flatMap.1 hu
      obtain ⟨sa, sc, he, _⟩ := hI t ht
      simp only [List.mem_cons, List.not_mem_nil, or_false] at hu
      rcases hu with rfl | rfl
      · rw [he]; rfl
      · rfl
    obtain ⟨i0, hi, hz0, hz1, hz2⟩ := info_parts info32
    clear hxx hI
    have hnb : Hid (ts.length * 32 ≤ 140737488355328 ∧ ts.length ≤ maxLen) := ⟨by omega, by simp [maxLen]; omega⟩
    go_enter Tryd.func66, Tryd.ntmps66
    go_wp2_with (at_builtin; refine wpList_append_own _ rfl _ _ 43 rfl w.heap.size 68 i0 (.agg #[.slice none 0 0, .int .i64 0]) 2 32 Tryd.underlying43 hi hz0 hz1 hz2 rfl (by decide) _ _ _ rfl (World.ownsRow_made w #[] 0 (Nat.le_refl _) (Nat.zero_le _) (by simp)) ad ts.length c (flat ts) rfl ?qc1 ?qc2 ?qc3 ?qc4 ?qc5 ?qc6 ?_)
    case qc1 => exact flat_len ts
    case qc2 => intro j u hj; exact A.out j u hj _
    case qc3 => exact A1.out
    case qc4 => rw [Nat.zero_add]; exact hnb.out.2
    case qc5 => rw [Nat.zero_add]; exact hnb.out.1
    case qc6 => simp
    intro v' w1 hown hgrow hnil
    go_wp2
    go_ret
    refine ⟨v', rfl, ?_, .inr ?_⟩
    · exact ((Below.refl _ w).alloc (Nat.le_refl _) _).grown hgrow (by simp) (by intro k hk; simp [Value.ownBlock] at hk; omega)
    · exact row_of_owns (Nat.zero_add _) (by simpa using hown) hnil
end Go.Proofs.YtjembpcpefgdpaaDoor
