import Derived.Test.YtjembpcpefgdpaaDoorQc27
import Derived.Test.YtjembpcpefgdpaaDoorQc36
namespace Go.Proofs.YtjembpcpefgdpaaDoor
open Go.RowKit Go.Proofs.YtjembpcpefgdpaaDoor.Ds

/-- what the last p of them make -/
def lastS (xs : List Int) (p : Nat) : Int := (xs.drop (xs.length - p)).sum
theorem lastS_zero (xs : List Int) : lastS xs 0 = 0 := by simp [lastS]
theorem lastS_snoc {xs : List Int} {p : Nat} (x : Int) (h : p ≤ xs.length) : lastS (xs ++ [x]) (p + 1) = lastS xs p + x := by
  unfold lastS
  rw [List.length_append, List.length_singleton, show xs.length + 1 - (p + 1) = xs.length - p by omega, List.drop_append_of_le_length (by omega), List.sum_append]
  simp
/-- what is open, level by level -/
def opX (came : List Int) (l : Nat) : Int := lastS came (came.length % 2 ^ l)
def opL (k : Nat) (came : List Int) : List Int := (List.range (k + 1)).map (opX came)
theorem opL_len (k : Nat) (came : List Int) : (opL k came).length = k + 1 := by simp [opL]
theorem opL_nil (k : Nat) : opL k [] = List.replicate (k + 1) 0 := by
  rw [List.eq_replicate_iff]
  refine ⟨opL_len k [], fun x hx => ?_⟩
  obtain ⟨l, _, rfl⟩ := List.mem_map.1 hx
  simp [opX, lastS]
theorem mod_succ (t q : Nat) (hq : 0 < q) : ((t + 1) % q = 0 ∧ t % q + 1 = q) ∨ ((t + 1) % q = t % q + 1) := by
  have h1 : t % q < q := Nat.mod_lt _ hq
  have h2 : (t + 1) % q = (t % q + 1) % q := by rw [Nat.mod_add_mod]
  by_cases c : t % q + 1 = q
  · left; exact ⟨by rw [h2, c, Nat.mod_self], c⟩
  · right; rw [h2]; exact Nat.mod_eq_of_lt (by omega)
theorem op_take {k : Nat} {came : List Int} (x : Int) (h64 : came.length + 1 < 2 ^ 64) (hn : enT came.length ≤ k + 1) : ((opL k came).map (· + x)).take (enT came.length) = (List.range (enT came.length)).map fun l => lastS (came ++ [x]) (2 ^ l) := by
  apply List.ext_getElem?
  intro i
  by_cases c : i < enT came.length
  · have hd := (enT_dvd came.length i h64).2 c
    have hp : 0 < 2 ^ i := Nat.two_pow_pos _
    rcases mod_succ came.length (2 ^ i) hp with ⟨_, h2⟩ | h2
    · have h3 : came.length % 2 ^ i ≤ came.length := Nat.mod_le _ _
      rw [List.getElem?_take_of_lt c]
      have e1 : ((opL k came).map (· + x))[i]? = some (opX came i + x) := by simp [opL, show i < k + 1 by omega]
      rw [e1, show ((List.range (enT came.length)).map fun l => lastS (came ++ [x]) (2 ^ l))[i]? = some (lastS (came ++ [x]) (2 ^ i)) by simp [c]]
      rw [← h2, lastS_snoc x h3]
      rfl
    · rw [hd] at h2; omega
  · rw [List.getElem?_eq_none (by simp; omega), List.getElem?_eq_none (by simp; omega)]
theorem op_next {k : Nat} {came : List Int} (x : Int) (h64 : came.length + 1 < 2 ^ 64) (hn : enT came.length ≤ k + 1) : List.replicate (enT came.length) 0 ++ ((opL k came).map (· + x)).drop (enT came.length) = opL k (came ++ [x]) := by
  apply List.ext_getElem?
  intro i
  by_cases ck : i < k + 1
  · have er : (opL k (came ++ [x]))[i]? = some (opX (came ++ [x]) i) := by simp [opL, ck]
    have hp : 0 < 2 ^ i := Nat.two_pow_pos _
    rw [er]
    by_cases c : i < enT came.length
    · have hd := (enT_dvd came.length i h64).2 c
      rw [List.getElem?_append_left (by simpa using c), List.getElem?_replicate, if_pos c]
      unfold opX
      rw [List.length_append, List.length_singleton, hd, lastS_zero]
    · rw [List.getElem?_append_right (by simp; omega), List.length_replicate, List.getElem?_drop, show enT came.length + (i - enT came.length) = i by omega]
      have e1 : ((opL k came).map (· + x))[i]? = some (opX came i + x) := by simp [opL, ck]
      rw [e1]
      rcases mod_succ came.length (2 ^ i) hp with ⟨h1, _⟩ | h2
      · exact absurd ((enT_dvd came.length i h64).1 h1) c
      · unfold opX
        rw [List.length_append, List.length_singleton, h2, lastS_snoc x (Nat.mod_le _ _)]
  · rw [List.getElem?_eq_none (by simp [opL_len]; omega), List.getElem?_eq_none (by rw [opL_len]; omega)]
def Cbd (xs : List Int) : Prop := ∀ x ∈ xs, 0 ≤ x ∧ x ≤ 1048576
theorem sum_bd : ∀ (xs : List Int), Cbd xs → 0 ≤ xs.sum ∧ xs.sum ≤ 1048576 * (xs.length : Int)
  | [], _ => by simp
  | x :: xs, h => by
    have h1 := sum_bd xs fun y hy => h y (List.mem_cons_of_mem _ hy)
    have h2 := h x (List.mem_cons_self ..)
    simp only [List.sum_cons, List.length_cons]
    omega
theorem lastS_bd {xs : List Int} (h : Cbd xs) (p : Nat) : 0 ≤ lastS xs p ∧ lastS xs p ≤ 1048576 * (xs.length : Int) := by
  have h1 := sum_bd (xs.drop (xs.length - p)) fun y hy => h y (List.mem_of_mem_drop hy)
  have h2 : (xs.drop (xs.length - p)).length ≤ xs.length := by simp
  unfold lastS
  omega
/-- what Step answers, of what came, of one more item -/
def stT (k : Nat) (u d lo hi : Int) (came : List Int) (x : Int) : List (List Pt) × Int :=
  if 2 ^ k ≤ came.length then ([], 9) else if x < 0 ∨ 1048576 < x then ([], 3) else ((List.range (enT came.length)).map fun l => (hideT u d lo hi (lastS (came ++ [x]) (2 ^ l))).1, 0)
/-- what has come then -/
def nxT (k : Nat) (came : List Int) (x : Int) : List Int := if 2 ^ k ≤ came.length then came else if x < 0 ∨ 1048576 < x then came else came ++ [x]
structure Cam (k : Nat) (came : List Int) : Prop where
  len : came.length ≤ 2 ^ k
  bd : Cbd came
theorem Cam.nil (k : Nat) : Cam k [] := ⟨Nat.zero_le _, fun x hx => by cases hx⟩
theorem Cam.next {k : Nat} {came : List Int} (h : Cam k came) (x : Int) : Cam k (nxT k came x) := by
  unfold nxT
  by_cases c : 2 ^ k ≤ came.length
  · rw [if_pos c]; exact h
  · rw [if_neg c]
    by_cases c1 : x < 0 ∨ 1048576 < x
    · rw [if_pos c1]; exact h
    · rw [if_neg c1]
      refine ⟨by simp; omega, fun y hy => ?_⟩
      rcases List.mem_append.1 hy with hy | hy
      · exact h.bd y hy
      · obtain rfl := List.mem_singleton.1 hy; omega
theorem stT_next {k : Nat} {u d lo hi : Int} {came : List Int} {x : Int} {l : List (List Pt)} {er : Int} (h : stT k u d lo hi came x = (l, er)) : nxT k came x = if er = 0 then came ++ [x] else came := by
  unfold stT at h
  unfold nxT
  by_cases c : 2 ^ k ≤ came.length
  · rw [if_pos c] at *
    simp only [Prod.mk.injEq] at h
    rw [← h.2]; rfl
  · rw [if_neg c] at *
    by_cases c1 : x < 0 ∨ 1048576 < x
    · rw [if_pos c1] at *
      simp only [Prod.mk.injEq] at h
      rw [← h.2]; rfl
    · rw [if_neg c1] at *
      simp only [Prod.mk.injEq] at h
      rw [if_pos h.2.symm]
/-- what has come behind so many items -/
def camT (k : Nat) (xs : List Int) : List Int := xs.foldl (nxT k) []
theorem camT_cam (k : Nat) (xs : List Int) : Cam k (camT k xs) := by
  unfold camT
  have : ∀ (ys : List Int) (c : List Int), Cam k c → Cam k (ys.foldl (nxT k) c) := by
    intro ys
    induction ys with
    | nil => exact fun c h => h
    | cons y ys ih => exact fun c h => ih _ (h.next y)
  exact this xs [] (Cam.nil k)
theorem camT_succ {k : Nat} {xs : List Int} {i : Nat} {x : Int} (h : xs[i]? = some x) : camT k (xs.take (i + 1)) = nxT k (camT k (xs.take i)) x := by
  unfold camT
  rw [List.take_add_one, h, List.foldl_append]
  rfl
theorem op_bd {k : Nat} {came : List Int} (hk : k ≤ 10) (h : Cam k came) : ∀ x ∈ opL k came, 0 ≤ x ∧ x ≤ 1099511627776 := by
  intro x hx
  obtain ⟨l, _, rfl⟩ := List.mem_map.1 hx
  have h1 := lastS_bd h.bd (came.length % 2 ^ l)
  have h2 : 2 ^ k ≤ 2 ^ 10 := Nat.pow_le_pow_right (by decide) hk
  have h3 := h.len
  unfold opX
  omega
theorem cam_len {k : Nat} {came : List Int} (hk : k ≤ 10) (h : Cam k came) : came.length ≤ 1024 := by
  have h2 : 2 ^ k ≤ 2 ^ 10 := Nat.pow_le_pow_right (by decide) hk
  have h3 := h.len
  omega
theorem hide_zero {u d lo hi : Int} (h : (hideT u d lo hi 0).2 = 0) (n : Int) : (hideT u d lo hi n).2 = 0 := by
  obtain ⟨l', h1, _⟩ := hide_two (n := n) (show hideT u d lo hi 0 = ((hideT u d lo hi 0).1, 0) from Prod.ext rfl h)
  rw [h1]
theorem newE_ok {k : Nat} {u d lo hi : Int} (h : newE (k : Int) u d lo hi = 0) : k ≤ 10 ∧ (hideT u d lo hi 0).2 = 0 ∧ (Rt.powT u d ((k : Int) + 1)).2.2 = 0 := by
  unfold newE at h
  by_cases c : 0 ≤ (k : Int) ∧ (k : Int) ≤ 10
  · rw [if_pos c] at h
    by_cases c1 : (hideT u d lo hi 0).2 = 0
    · rw [if_pos c1] at h
      exact ⟨by omega, c1, h⟩
    · rw [if_neg c1] at h
      exact absurd h c1
  · rw [if_neg c] at h
    simp at h

/-- STEP, of anything -/
theorem step_any (N R k : Nat) (u d lo hi : Int) (g cap : Nat) (came : List Int) (item : Int) (w : World) (C : Ctr w N R k u d lo hi came.length g cap (opL k came)) (hN : 2 ≤ N) (hT : TabAt 1 Lib.deBruijn64tab w) (hk : k ≤ 10) (hc : Cam k came) (hh : (hideT u d lo hi 0).2 = 0) (hlo : I64 lo) (hhi : I64 hi) (l : List (List Pt)) (er : Int) (hr : stT k u d lo hi came item = (l, er)) :
    Calls Tryd.prog 15 #[.pointer (some ⟨R, 0, none⟩), .int .i64 item] w (StepP w N R k u d lo hi g (nxT k came item).length (opL k (nxT k came item)) l er) := by
  unfold stT at hr
  unfold nxT
  by_cases c : 2 ^ k ≤ came.length
  · rw [if_pos c] at *
    simp only [Prod.mk.injEq] at hr
    obtain ⟨rfl, rfl⟩ := hr
    exact stepState_any N R k u d lo hi _ g cap _ item w C hk c
  · rw [if_neg c] at *
    by_cases c1 : item < 0 ∨ 1048576 < item
    · rw [if_pos c1] at *
      simp only [Prod.mk.injEq] at hr
      obtain ⟨rfl, rfl⟩ := hr
      exact stepRange_any N R k u d lo hi _ g cap _ item w C hk c (by omega)
    · rw [if_neg c1] at *
      simp only [Prod.mk.injEq] at hr
      obtain ⟨rfl, rfl⟩ := hr
      have h4 := cam_len hk hc
      have h64 : came.length + 1 < 2 ^ 64 := by omega
      have hn := enT_le came.length k (by omega) (by omega)
      have := stepGood_any N R k u d lo hi came.length g cap (opL k came) item w C hN hT hk (by omega) (by omega) (by omega) (op_bd hk hc) hlo hhi _ (by rw [op_take item h64 hn]; exact hids_ok (fun n _ => hide_zero hh n))
      rw [op_next item h64 hn, List.map_map] at this
      rw [List.length_append]
      exact this
end Go.Proofs.YtjembpcpefgdpaaDoor

namespace Go.Proofs.YtjembpcpefgdpaaDoor
open Go.RowKit Go.Proofs.YtjembpcpefgdpaaDoor.Ds

theorem time_any (N R k : Nat) (u d lo hi : Int) (t g cap : Nat) (xs : List Int) (w : World) (C : Ctr w N R k u d lo hi t g cap xs) :
    Calls Tryd.prog 16 #[.pointer (some ⟨R, 0, none⟩)] w fun e w' => e = .returned (.int .i64 (t : Int)) ∧ w' = w := by
  have c5 := C.box.c5
  clear C
  go_enter Tryd.func16, Tryd.ntmps16
  go_wp2
  go_ret
  exact ⟨rfl, rfl⟩

theorem two_new {w w3 : World} (k3 : Below ((w.alloc (.cells #[.int .i64 0, .int .i64 0] 23)).alloc (.cells #[.int .i64 0, .int .i64 0] 23)).drew.heap.size ((w.alloc (.cells #[.int .i64 0, .int .i64 0] 23)).alloc (.cells #[.int .i64 0, .int .i64 0] 23)).drew w3) :
    w3.cell? ⟨w.heap.size + 1, 0, none⟩ = some (.int .i64 0) ∧ w3.cell? ⟨w.heap.size + 1, 1, none⟩ = some (.int .i64 0) ∧ w3.frozen? ⟨w.heap.size + 1, 0, none⟩ = false ∧ w3.frozen? ⟨w.heap.size + 1, 1, none⟩ = false := by
  obtain ⟨hc3, hf3⟩ := bcell k3
  exact ⟨(hc3 _ _ (by simp)).trans (by simp [go_sem]), (hc3 _ _ (by simp)).trans (by simp [go_sem]), (hf3 _ _ (by simp)).trans (by simp [go_sem]), (hf3 _ _ (by simp)).trans (by simp [go_sem])⟩

theorem fin_cells {X : World} {n : Nat} {x y p q : Value} (h0 : X.cell? ⟨n, 0, none⟩ = some x) (h1 : X.cell? ⟨n, 1, none⟩ = some y) : ((X.setCell ⟨n, 0, none⟩ p).setCell ⟨n, 1, none⟩ q).cell? ⟨n, 0, none⟩ = some p ∧ ((X.setCell ⟨n, 0, none⟩ p).setCell ⟨n, 1, none⟩ q).cell? ⟨n, 1, none⟩ = some q :=
  ⟨(sc_other (by simp)).trans (sc_same h0), sc_same ((sc_other (by simp)).trans h1)⟩
theorem fin1 {w w3 : World} {p q : Int} {x y : Value} (a0 : w3.cell? ⟨w.heap.size, 0, none⟩ = some x) (a1 : w3.cell? ⟨w.heap.size, 1, none⟩ = some y) (G : Below w.heap.size w w3) :
    ((((w3.setCell ⟨w.heap.size + 1, 0, none⟩ (.int .i64 p)).setCell ⟨w.heap.size + 1, 1, none⟩ (.int .i64 q)).setCell ⟨w.heap.size, 0, none⟩ (.int .i64 p)).setCell ⟨w.heap.size, 1, none⟩ (.int .i64 q)).cell? ⟨w.heap.size, 0, none⟩ = some (.int .i64 p) ∧
    ((((w3.setCell ⟨w.heap.size + 1, 0, none⟩ (.int .i64 p)).setCell ⟨w.heap.size + 1, 1, none⟩ (.int .i64 q)).setCell ⟨w.heap.size, 0, none⟩ (.int .i64 p)).setCell ⟨w.heap.size, 1, none⟩ (.int .i64 q)).cell? ⟨w.heap.size, 1, none⟩ = some (.int .i64 q) ∧
    Below w.heap.size w ((((w3.setCell ⟨w.heap.size + 1, 0, none⟩ (.int .i64 p)).setCell ⟨w.heap.size + 1, 1, none⟩ (.int .i64 q)).setCell ⟨w.heap.size, 0, none⟩ (.int .i64 p)).setCell ⟨w.heap.size, 1, none⟩ (.int .i64 q)) := by
  have h := fin_cells (X := (w3.setCell ⟨w.heap.size + 1, 0, none⟩ (.int .i64 p)).setCell ⟨w.heap.size + 1, 1, none⟩ (.int .i64 q)) (n := w.heap.size) (p := .int .i64 p) (q := .int .i64 q) ((sc_other (by simp)).trans ((sc_other (by simp)).trans a0)) ((sc_other (by simp)).trans ((sc_other (by simp)).trans a1))
  exact ⟨h.1, h.2, bs (bs (bs (bs G (by exact Nat.le_succ _) _) (by exact Nat.le_succ _) _) (by exact Nat.le_refl _) _) (by exact Nat.le_refl _) _⟩
theorem fin3 {w w3 : World} {p q : Int} {x y : Value} (a0 : w3.cell? ⟨w.heap.size, 0, none⟩ = some x) (a1 : w3.cell? ⟨w.heap.size, 1, none⟩ = some y) (hs : w.heap.size + 1 ≤ w3.heap.size) (G : Below w.heap.size w w3) :
    (((w3.alloc (.cells #[.int .i64 p, .int .i64 q] 23)).setCell ⟨w.heap.size, 0, none⟩ (.int .i64 p)).setCell ⟨w.heap.size, 1, none⟩ (.int .i64 q)).cell? ⟨w.heap.size, 0, none⟩ = some (.int .i64 p) ∧
    (((w3.alloc (.cells #[.int .i64 p, .int .i64 q] 23)).setCell ⟨w.heap.size, 0, none⟩ (.int .i64 p)).setCell ⟨w.heap.size, 1, none⟩ (.int .i64 q)).cell? ⟨w.heap.size, 1, none⟩ = some (.int .i64 q) ∧
    Below w.heap.size w (((w3.alloc (.cells #[.int .i64 p, .int .i64 q] 23)).setCell ⟨w.heap.size, 0, none⟩ (.int .i64 p)).setCell ⟨w.heap.size, 1, none⟩ (.int .i64 q)) := by
  have h := fin_cells (X := w3.alloc (.cells #[.int .i64 p, .int .i64 q] 23)) (n := w.heap.size) (p := .int .i64 p) (q := .int .i64 q)
    ((World.cell?_alloc_lt _ _ _ (by exact hs)).trans a0) ((World.cell?_alloc_lt _ _ _ (by exact hs)).trans a1)
  exact ⟨h.1, h.2, bs (bs (bal G _) (by exact Nat.le_refl _) _) (by exact Nat.le_refl _) _⟩

set_option maxHeartbeats 8000000 in
set_option maxRecDepth 100000 in
theorem lost_any (N R k : Nat) (u d lo hi : Int) (t g cap : Nat) (xs : List Int) (w : World) (C : Ctr w N R k u d lo hi t g cap xs) (hk : k ≤ 10) (p q er : Int) (hp : Rt.powT u d ((k : Int) + 1) = (p, q, er)) :
    Calls Tryd.prog 17 #[.pointer (some ⟨R, 0, none⟩)] w fun e w' => e = .returned (rv p q) ∧ Below w.heap.size w w' := by
  have c0 := C.box.c0
  have c1 := C.box.c1
  have c2 := C.box.c2
  have lR := C.box.lt
  have kp := power_any u d ((k : Int) + 1) p q er hp
  have hw1 : IntKind.i64.wrap ((k : Int) + 1) = (k : Int) + 1 := by rw [IntKind.wrap_i64]; omega
  have e0 : ∀ o, (w.alloc o).cell? ⟨R, 0, none⟩ = some (.int .i64 (k : Int)) := fun o => by rw [World.cell?_alloc_lt _ _ _ (by exact lR)]; exact c0
  have e1 : ∀ o, (w.alloc o).cell? ⟨R, 1, none⟩ = some (.int .i64 u) := fun o => by rw [World.cell?_alloc_lt _ _ _ (by exact lR)]; exact c1
  have e2 : ∀ o, (w.alloc o).cell? ⟨R, 2, none⟩ = some (.int .i64 d) := fun o => by rw [World.cell?_alloc_lt _ _ _ (by exact lR)]; exact c2
  clear C hp
  go_enter Tryd.func17, Tryd.ntmps17
  go_wp2_with fail
  go_region_with ((go_at_call 31; refine (kp _).mono ?_; rintro x3 w3 ⟨rfl, k3⟩; obtain ⟨hc3, hf3⟩ := bcell k3; have hs3 := k3.size; have a0 : w3.cell? ⟨w.heap.size, 0, none⟩ = some (.int .i64 0) := (hc3 _ _ (by simp; try omega)).trans (by simp [go_sem]); have a1 : w3.cell? ⟨w.heap.size, 1, none⟩ = some (.int .i64 0) := (hc3 _ _ (by simp; try omega)).trans (by simp [go_sem]); have a2 : w3.frozen? ⟨w.heap.size, 0, none⟩ = false := (hf3 _ _ (by simp; try omega)).trans (by simp [go_sem]); have a3 : w3.frozen? ⟨w.heap.size, 1, none⟩ = false := (hf3 _ _ (by simp; try omega)).trans (by simp [go_sem]); try (obtain ⟨b0, b1, b2, b3⟩ := two_new k3); clear hc3 hf3))
  all_goals
    have hs4 : w.heap.size + 1 ≤ w3.heap.size := by simp at hs3; omega
    have ne1 : ¬ w.heap.size = w3.heap.size := by omega
    have ne2 : ¬ w3.heap.size = w.heap.size := by omega
    have x0 : ∀ o, (w3.alloc o).cell? ⟨w.heap.size, 0, none⟩ = some (.int .i64 0) := fun o => by rw [World.cell?_alloc_lt _ _ _ (by exact hs4)]; exact a0
    have x1 : ∀ o, (w3.alloc o).cell? ⟨w.heap.size, 1, none⟩ = some (.int .i64 0) := fun o => by rw [World.cell?_alloc_lt _ _ _ (by exact hs4)]; exact a1
    have x2 : ∀ o, (w3.alloc o).frozen? ⟨w.heap.size, 0, none⟩ = false := fun o => by rw [(ba w3 o).frozen (by exact hs4)]; exact a2
    have x3 : ∀ o, (w3.alloc o).frozen? ⟨w.heap.size, 1, none⟩ = false := fun o => by rw [(ba w3 o).frozen (by exact hs4)]; exact a3
    go_wp2_with fail
  all_goals first
    | (have G3 : Below w.heap.size w w3 := bt (bal (ba _ _) _).drew k3
       obtain ⟨f0, f1, fB⟩ := fin1 (p := p) (q := q) a0 a1 G3
       revert f0 f1 fB
       generalize ((((w3.setCell ⟨w.heap.size + 1, 0, none⟩ (.int .i64 p)).setCell ⟨w.heap.size + 1, 1, none⟩ (.int .i64 q)).setCell ⟨w.heap.size, 0, none⟩ (.int .i64 p)).setCell ⟨w.heap.size, 1, none⟩ (.int .i64 q)) = W
       intro f0 f1 fB
       exact bodyPost_ret (v := rv p q) (by simp [results, Tryd.results17, go_sem, f0, f1]) rfl ⟨rfl, fB⟩)
    | (have G3 : Below w.heap.size w w3 := bt (ba _ _).drew k3
       obtain ⟨f0, f1, fB⟩ := fin3 (p := p) (q := q) a0 a1 hs4 G3
       revert f0 f1 fB
       generalize ((((w3.alloc (.cells #[.int .i64 p, .int .i64 q] 23)).setCell ⟨w.heap.size, 0, none⟩ (.int .i64 p)).setCell ⟨w.heap.size, 1, none⟩ (.int .i64 q))) = W
       intro f0 f1 fB
       exact bodyPost_ret (v := rv p q) (by simp [results, Tryd.results17, go_sem, f0, f1]) rfl ⟨rfl, fB⟩)
end Go.Proofs.YtjembpcpefgdpaaDoor
