import Derived.Test.YtjnclbhpdaonhaaDre
namespace Go.Proofs.Ytjnclbhpdaonhaa
open Go.RowKit Go.Proofs.Ytjnclbhpdaonhaa.Ds

/-- how far an even draw has come -/
abbrev EvI := Int × Int × Int
def EvSt (E : Nat) (n : Int) (w : World) (s : EvI) : Prop := Evo w E n s.1 s.2.1 s.2.2 ∧ (2 ≤ n → 1 ≤ s.1 ∧ s.1 < n ∧ 0 ≤ s.2.1 ∧ s.2.1 < s.1)
def evGo (n : Int) (s : EvI) : Nx := fun l => match evT n s.1 s.2.1 s.2.2 l with
  | none => none
  | some (x, u, r) => some ([x], u, r)
/-- the draw that needs no bits -/
def evSure (n : Int) : Option (List Int) := if n = 1 then some [0] else none

theorem evN_is (n : Int) : nxT (evGo n) (1, 0, 0) (evSure n) = evN n := by
  funext l
  unfold nxT evN evSure evGo
  by_cases h : n = 1
  · simp [h]
  · simp only [if_neg h]
    cases evT n 1 0 0 l <;> rfl

set_option maxHeartbeats 1000000 in
theorem evSure_any (E : Nat) (n v c u : Int) (w : World) (h : Evo w E n v c u) : Calls Try.prog 95 #[.pointer (some ⟨E, 0, none⟩)] w (SureP (evSure n) w) := by
  obtain ⟨c0, c1, c2, c3, f0, f1, f2, f3, lt⟩ := h
  by_cases h1 : n = 1
  · subst h1
    go_enter Try.func95, Try.ntmps95
    go_wp2
    refine bodyPost_ret (v := .tuple #[.agg #[.slice (some ⟨w.heap.size + 1, 0, none⟩) 1 1, .int .i64 0], .bool true]) (by simp [results, Try.results95, go_sem]) rfl ⟨bal (ba _ _) _, fun h => ?_, fun o ho => ?_⟩
    · simp [evSure] at h
    · obtain rfl : [0] = o := by simpa [evSure] using ho
      exact ⟨_, _, rfl, fun m hm => (one_new (w.alloc (.cells #[.slice (some ⟨w.heap.size + 1, 0, none⟩) 1 1, .int .i64 0] 38)) 0 (w.heap.size + 1) 3 (by simp) m (by omega)).mono (by simp) (.inl rfl)⟩
  · have h1' : (n == 1) = false := by simpa using h1
    go_enter Try.func95, Try.ntmps95
    go_wp2
    refine bodyPost_ret (v := .tuple #[noD, .bool false]) (by simp [results, Try.results95, go_sem]) rfl ⟨ba _ _, fun _ => rfl, fun o ho => ?_⟩
    simp [evSure, h1] at ho

theorem Evo.keep {w w' : World} {E N : Nat} {n v c u : Int} (h : Evo w E n v c u) (b : Below N w w') (hE : E < N) : Evo w' E n v c u :=
  ⟨(b.cell (p := ⟨E, 0, none⟩) hE).trans h.c0, (b.cell (p := ⟨E, 1, none⟩) hE).trans h.c1, (b.cell (p := ⟨E, 2, none⟩) hE).trans h.c2, (b.cell (p := ⟨E, 3, none⟩) hE).trans h.c3,
   (b.frozen (p := ⟨E, 0, none⟩) hE).trans h.f0, (b.frozen (p := ⟨E, 1, none⟩) hE).trans h.f1, (b.frozen (p := ⟨E, 2, none⟩) hE).trans h.f2, (b.frozen (p := ⟨E, 3, none⟩) hE).trans h.f3, Nat.lt_of_lt_of_le h.lt b.size⟩

theorem ev_drw (E : Nat) (n : Int) (hn : 1 ≤ n ∧ n ≤ 1073741824) : Drw (E + 1) E 94 95 (EvSt E n) (evGo n) (fun s => s.2.2) (1, 0, 0) (evSure n) where
  keep := fun h hb _ => ⟨h.1.keep hb (by omega), h.2⟩
  lt := by omega
  nil := fun s => rfl
  u0 := rfl
  sure := fun w s h _ => evSure_any E n s.1 s.2.1 s.2.2 w h.1
  feed := by
    intro hs w s b h _ hb hu
    have h2 : 2 ≤ n := by
      rcases Int.lt_or_le n 2 with h | h
      · have : n = 1 := by omega
        simp [evSure, this] at hs
      · exact h
    obtain ⟨v, c, u⟩ := s
    obtain ⟨q1, q2, q3, q4⟩ := h.2 h2
    simp only at q1 q2 q3 q4 hu
    by_cases c1 : 2 * v < n
    · refine (evFeed_less E n v c u b w h.1 ⟨h2, hn.2⟩ ⟨q1, q2⟩ ⟨q3, q4⟩ hb hu c1).mono ?_
      rintro e w' ⟨rfl, k1, k2⟩
      refine ⟨k2, .inl ⟨rfl, (2 * v, 2 * c + b, u + 1), ⟨k1, fun _ => by simp only; omega⟩, rfl, fun l => ?_⟩⟩
      simp only [evGo, evT, if_pos c1]
    · by_cases c2 : n ≤ 2 * c + b
      · refine (evFeed_past E n v c u b w h.1 ⟨h2, hn.2⟩ ⟨q1, q2⟩ ⟨q3, q4⟩ hb hu (by omega) c2).mono ?_
        rintro e w' ⟨rfl, k1, k2⟩
        refine ⟨k2, .inl ⟨rfl, (2 * v - n, 2 * c + b - n, u + 1), ⟨k1, fun _ => by simp only; omega⟩, rfl, fun l => ?_⟩⟩
        simp only [evGo, evT, if_neg c1, if_pos c2]
      · refine (evFeed_ends E n v c u b w h.1 ⟨h2, hn.2⟩ ⟨q1, q2⟩ ⟨q3, q4⟩ hb hu (by omega) (by omega)).mono ?_
        rintro e w' ⟨⟨s, rfl, k0⟩, k1, k2⟩
        obtain ⟨a, c', rfl, _⟩ := k0 0 (by have := h.1.lt; omega)
        refine ⟨k2, .inr ⟨a, c', [2 * c + b], rfl, k0, ⟨k1, fun _ => by simp only; omega⟩, fun l => ?_⟩⟩
        simp only [evGo, evT, if_neg c1, if_neg c2]

set_option maxHeartbeats 1000000 in
theorem evens_any (B nb : Nat) (n : Int) (v : Value) (bits : List Int) (times : Int) (w : World) (hB : B ≤ w.heap.size) (hv : Ints w B nb v bits) (hn : -9223372036854775808 ≤ n ∧ n ≤ 9223372036854775807) (ht : -9223372036854775808 ≤ times ∧ times ≤ 9223372036854775807) (l : List Pt) (er : Int) (hr : evensT n bits times = (l, er)) :
    Calls Try.prog 10 #[.int .i64 n, v, .int .i64 times] w (AnsP l er w) := by
  have HV : Hid (Ints w B nb v bits) := hv
  have HR : Hid (evensT n bits times = (l, er)) := hr
  obtain ⟨a, c, rfl, hc, hl, _⟩ := hv
  clear hr
  by_cases h1 : n < 1
  · have h := HR.out
    simp only [evensT, if_pos (show n < 1 ∨ 1073741824 < n from .inl h1)] at h
    simp at h
    obtain ⟨rfl, rfl⟩ := h
    go_enter Try.func10, Try.ntmps10
    go_wp2
    exact bodyPost_ret (v := .tuple #[.slice none 0 0, .int .i64 3]) (by simp [results, Try.results10, go_sem]) rfl ⟨.slice none 0 0, [], rfl, rfl, parts_nil _ _, Below.refl _ _, NewAt.nil _⟩
  by_cases h2 : 1073741824 < n
  · have h := HR.out
    simp only [evensT, if_pos (show n < 1 ∨ 1073741824 < n from .inr h2)] at h
    simp at h
    obtain ⟨rfl, rfl⟩ := h
    go_enter Try.func10, Try.ntmps10
    go_wp2
    exact bodyPost_ret (v := .tuple #[.slice none 0 0, .int .i64 3]) (by simp [results, Try.results10, go_sem]) rfl ⟨.slice none 0 0, [], rfl, rfl, parts_nil _ _, Below.refl _ _, NewAt.nil _⟩
  have h : drawsT (nxT (evGo n) (1, 0, 0) (evSure n)) bits times = (l, er) := by
    have h := HR.out
    simp only [evensT, if_neg (show ¬ (n < 1 ∨ 1073741824 < n) by omega)] at h
    rw [evN_is]
    exact h
  have hS : EvSt w.heap.size n (w.alloc (.cells #[.int .i64 n, .int .i64 1, .int .i64 0, .int .i64 0] 54)) (1, 0, 0) :=
    ⟨⟨nc _ _ 0 _ rfl rfl, nc _ _ 1 _ rfl rfl, nc _ _ 2 _ rfl rfl, nc _ _ 3 _ rfl rfl, nf _ _ 0 rfl, nf _ _ 1 rfl, nf _ _ 2 rfl, nf _ _ 3 rfl, by simp⟩, fun _ => by simp only; omega⟩
  have kc := draws_e w.heap.size (w.heap.size + 1) w.heap.size (EvSt w.heap.size n) (evGo n) (fun s => s.2.2) (1, 0, 0) (evSure n) (ev_drw w.heap.size n (by omega)) (.slice a bits.length c) bits times (w.alloc (.cells #[.int .i64 n, .int .i64 1, .int .i64 0, .int .i64 0] 54)) (by omega) (by simp) hS ((HV.out.at hB (ba _ _)).mono hB (.inr hB)) ht l er h
  clear h hS
  go_enter Try.func10, Try.ntmps10
  go_wp2_with fail
  refine kc.mono ?_
  rintro e w1 ⟨v1, ds, rfl, k1, k2, k3, k4⟩
  obtain ⟨a1, c1, rfl, _⟩ := id k2
  have K : Hid (rd ds = l ∧ Parts w1 w1.heap.size (.slice a1 ds.length c1) ds ∧ Below w.heap.size w w1 ∧ NewAt w.heap.size (.slice a1 ds.length c1) ds) := ⟨k1, k2, (ba w (.cells #[.int .i64 n, .int .i64 1, .int .i64 0, .int .i64 0] 54)).trans (below_gb k3 (Nat.le_refl _) (by simp)), k4.mono (by simp)⟩
  clear kc k1 k2 k3 k4
  go_wp2
  exact bodyPost_ret (v := .tuple #[.slice a1 ds.length c1, .int .i64 er]) (by simp [results, Try.results10, go_sem]) rfl ⟨_, ds, rfl, K.out.1, K.out.2.1, K.out.2.2.1, K.out.2.2.2⟩
end Go.Proofs.Ytjnclbhpdaonhaa
