import Derived.Test.YtlndlpjadajelaaGreatQa11
import Derived.Maps.AppendAt
import Derived.Deep.RegionWith
import Derived.Test.YtlndlpjadajelaaGreatQa09
import Derived.Deep.RegionHeld3
namespace Go.Proofs.YtlndlpjadajelaaGreat
open Go.RowKit Go.Proofs.YtlndlpjadajelaaGreat.Ds

/-- PARTS OF ONE's OWN THAT GROW: a row, and each part's numbers outside of it -/
def Rws (w : World) (lo : Nat) (v : Value) (ds : List Tr) : Prop :=
  w.ownsRow lo 82 2 v ds.length (flat ds) ∧ ∀ t ∈ ds, ∃ m, Ints w w.heap.size m t.1 t.2.1 ∧ ∀ g, v.ownBlock = some g → m = g

theorem Rws.nil (w : World) (lo : Nat) : Rws w lo (.slice none 0 0) [] := ⟨⟨rfl, .inl ⟨rfl, rfl⟩⟩, fun t ht => by cases ht⟩
theorem Rws.keep {w w' : World} {lo : Nat} {v : Value} {ds : List Tr} (h : Rws w lo v ds) (hb : Below w.heap.size w w') : Rws w' lo v ds :=
  ⟨owns_below h.1 hb, fun t ht => let ⟨m, h1, h2⟩ := h.2 t ht; ⟨m, h1.at2 hb, h2⟩⟩
theorem Rws.slice {w : World} {lo : Nat} {v : Value} {ds : List Tr} (h : Rws w lo v ds) : ∃ a c, v = .slice a ds.length c := owns_slice h.1
theorem Rws.lt {w : World} {lo : Nat} {v : Value} {ds : List Tr} (h : Rws w lo v ds) : ∀ g, v.ownBlock = some g → lo ≤ g ∧ g < w.heap.size := h.1.lt

theorem Ints.grow {W w' : World} {B m m' : Nat} {s : Value} {xs : List Int} {row : Option Nat} (h : Ints W B m s xs) (hg : W.grownBy w' row) (hB : B ≤ W.heap.size) (hrow : ∀ g, row = some g → m = g) (hm : m' = m ∨ B ≤ m') : Ints w' w'.heap.size m' s xs := by
  obtain ⟨a, c, hv, hc, hl, hx⟩ := h
  refine ⟨a, c, hv, hc, hl, fun hne => ?_⟩
  obtain ⟨b, o, ha, hb, hn, hcell⟩ := hx hne
  have := hg.size
  refine ⟨b, o, ha, by omega, by rcases hm with h | h <;> omega, fun i x hi => ?_⟩
  refine hg.cell (hcell i x hi) fun e => hn ?_
  exact (hrow b e.symm).symm

theorem Rws.app {W w' : World} {lo : Nat} {v v' s : Value} {ds : List Tr} {xs : List Int} {k : Int} {m : Nat} (h : Rws W lo v ds) (hown : w'.ownsRow lo 82 2 v' (ds.length + 1) (flat ds ++ [s, .int .i64 k])) (hg : W.grownBy w' v.ownBlock)
    (hat : v'.ownBlock = v.ownBlock ∨ v'.ownBlock = some W.heap.size) (hi : Ints W W.heap.size m s xs) (hm : ∀ g, v.ownBlock = some g → m = g) : Rws w' lo v' (ds ++ [(s, xs, k)]) := by
  refine ⟨by rw [← flat_snoc]; simpa using hown, fun t ht => ?_⟩
  have key : ∀ (m : Nat) (s : Value) (xs : List Int), Ints W W.heap.size m s xs → (∀ g, v.ownBlock = some g → m = g) → ∃ m', Ints w' w'.heap.size m' s xs ∧ ∀ g, v'.ownBlock = some g → m' = g := by
    intro m s xs h1 h2
    rcases hat with hat | hat
    · exact ⟨m, h1.grow hg (Nat.le_refl _) h2 (.inl rfl), by rw [hat]; exact h2⟩
    · exact ⟨W.heap.size, h1.grow hg (Nat.le_refl _) h2 (.inr (Nat.le_refl _)), by rw [hat]; intro g e; simpa using e⟩
  rcases List.mem_append.1 ht with ht | ht
  · obtain ⟨m, h1, h2⟩ := h.2 t ht
    exact key m t.1 t.2.1 h1 h2
  · obtain rfl : t = (s, xs, k) := by simpa using ht
    exact key m s xs hi hm

theorem Rws.more {W w' : World} {lo : Nat} {v s : Value} {ds : List Tr} {xs : List Int} {k : Int} {m g cap : Nat} (h : Rws W lo v ds) (hown : w'.ownsRow lo 82 2 (.slice (some ⟨g, 0, none⟩) (ds.length + 1) cap) (ds.length + 1) (flat ds ++ [s, .int .i64 k])) (hg : W.grownBy w' v.ownBlock)
    (hat : v.ownBlock = some g ∨ g = W.heap.size) (hi : Ints W W.heap.size m s xs) (hm : ∀ g, v.ownBlock = some g → m = g) : Rws w' lo (.slice (some ⟨g, 0, none⟩) (ds.length + 1) cap) (ds ++ [(s, xs, k)]) :=
  h.app hown hg (hat.imp (fun e => by rw [e]; rfl) (fun e => by rw [e]; rfl)) hi hm

theorem Rws.parts {w : World} {lo : Nat} {v : Value} {ds : List Tr} (h : Rws w lo v ds) (hl : ds.length ≤ 1073741824) : Parts w w.heap.size v ds := by
  have hi : ∀ t ∈ ds, Ints w w.heap.size w.heap.size t.1 t.2.1 := fun t ht => let ⟨m, h1, _⟩ := h.2 t ht; h1.mono (Nat.le_refl _) (.inr (Nat.le_refl _))
  by_cases hv : v = .slice none 0 0
  · subst hv
    have h0 : ds = [] := by
      obtain ⟨_, ⟨_, h0⟩ | ⟨g, cap, cur, hv, _⟩⟩ := h.1
      · exact List.length_eq_zero_iff.1 h0
      · cases hv
    subst h0
    exact parts_nil w _
  · obtain ⟨g, cap, rfl, hcap, hgb, hrow⟩ := row_of_owns rfl h.1 hv
    exact ⟨_, cap, rfl, hcap, hl, hi, fun _ => ⟨g, 0, rfl, hrow.lt, hrow.cells⟩⟩

end Go.Proofs.YtlndlpjadajelaaGreat

namespace Go.Proofs.YtlndlpjadajelaaGreat
open Go.RowKit Go.Proofs.YtlndlpjadajelaaGreat.Ds

set_option maxHeartbeats 400000 in
theorem right_any (u d : Int) (b : Bool) (hb : Rt.rightB u d = b) (w : World) :
    Calls Tryz.prog 63 #[rv u d] w fun e w' => e = .returned (.bool b) ∧ Below w.heap.size w w' := by
  have HB : Hid (Rt.rightB u d = b) := hb
  clear hb
  by_cases c : 0 ≤ u ∧ u ≤ 1073741824 ∧ 1 ≤ d ∧ d ≤ 1073741824
  · obtain ⟨c1, c2, c3, c4⟩ := c
    obtain ⟨x, rfl⟩ := Int.eq_ofNat_of_zero_le c1
    obtain ⟨y, rfl⟩ := Int.eq_ofNat_of_zero_le (show 0 ≤ d by omega)
    have hbb : b = (((Nat.gcd x y : Nat) : Int) == 1) := by
      rw [← HB.out]; unfold Rt.rightB; rw [Bool.eq_iff_iff]; simp [Rt.mx]; omega
    subst hbb
    clear HB
    go_enter Tryz.func63, Tryz.ntmps63
    go_wp2_with (go_at_call 90; refine (divisor_any _ _ (by omega) (by omega) _).mono ?_; rintro e w' ⟨rfl, hbl⟩)
    go_ret
    exact ⟨rfl, bt (ba _ _) hbl⟩
  · have hbb : b = false := by
      rw [← HB.out]; unfold Rt.rightB Rt.mx; exact decide_eq_false (fun h => c ⟨h.1, h.2.1, h.2.2.1, h.2.2.2.1⟩)
    subst hbb
    clear HB
    by_cases c1 : u < 0
    · clear c
      go_enter Tryz.func63, Tryz.ntmps63
      go_wp2
      go_ret
      exact ⟨rfl, ba _ _⟩
    by_cases c2 : 1073741824 < u
    · clear c
      go_enter Tryz.func63, Tryz.ntmps63
      go_wp2
      go_ret
      exact ⟨rfl, ba _ _⟩
    by_cases c3 : d < 1
    · clear c
      go_enter Tryz.func63, Tryz.ntmps63
      go_wp2
      go_ret
      exact ⟨rfl, ba _ _⟩
    · have c4 : 1073741824 < d := by omega
      clear c
      go_enter Tryz.func63, Tryz.ntmps63
      go_wp2
      go_ret
      exact ⟨rfl, ba _ _⟩

set_option maxHeartbeats 400000 in
theorem refRight_any (u d : Int) (b : Bool) (hb : Rt.rightB u d = b) (w : World) :
    Calls Tryz.prog 42 #[rv u d] w fun e w' => e = .returned (.bool b) ∧ Below w.heap.size w w' := by
  have HB : Hid (Rt.rightB u d = b) := hb
  clear hb
  by_cases c : 0 ≤ u ∧ u ≤ 1073741824 ∧ 1 ≤ d ∧ d ≤ 1073741824
  · obtain ⟨c1, c2, c3, c4⟩ := c
    obtain ⟨x, rfl⟩ := Int.eq_ofNat_of_zero_le c1
    obtain ⟨y, rfl⟩ := Int.eq_ofNat_of_zero_le (show 0 ≤ d by omega)
    have hbb : b = (((Nat.gcd x y : Nat) : Int) == 1) := by
      rw [← HB.out]; unfold Rt.rightB; rw [Bool.eq_iff_iff]; simp [Rt.mx]; omega
    subst hbb
    clear HB
    go_enter Tryz.func42, Tryz.ntmps42
    go_wp2_with (go_at_call 56; refine (refDivisor_any _ _ (by omega) (by omega) (by omega) _).mono ?_; rintro e w' ⟨rfl, rfl⟩)
    go_ret
    exact ⟨rfl, ba _ _⟩
  · have hbb : b = false := by
      rw [← HB.out]; unfold Rt.rightB Rt.mx; exact decide_eq_false (fun h => c ⟨h.1, h.2.1, h.2.2.1, h.2.2.2.1⟩)
    subst hbb
    clear HB
    by_cases c1 : u < 0
    · clear c
      go_enter Tryz.func42, Tryz.ntmps42
      go_wp2
      go_ret
      exact ⟨rfl, ba _ _⟩
    by_cases c3 : d < 1
    · clear c
      go_enter Tryz.func42, Tryz.ntmps42
      go_wp2
      go_ret
      exact ⟨rfl, ba _ _⟩
    by_cases c2 : 1073741824 < u
    · clear c
      go_enter Tryz.func42, Tryz.ntmps42
      go_wp2
      go_ret
      exact ⟨rfl, ba _ _⟩
    · have c4 : 1073741824 < d := by omega
      clear c
      go_enter Tryz.func42, Tryz.ntmps42
      go_wp2
      go_ret
      exact ⟨rfl, ba _ _⟩

theorem timesLit (a b c d : Int) (p q : Nat) (w : World) (a1 : 0 ≤ a) (a2 : a ≤ 1073741824) (b1 : 1 ≤ b) (b2 : b ≤ 1073741824) (c1 : 0 ≤ c) (c2 : c ≤ 1073741824) (d1 : 1 ≤ d) (d2 : d ≤ 1073741824)
    (k1 : w.cell? ⟨p, 0, none⟩ = some (.int .i64 a)) (k2 : w.cell? ⟨p, 1, none⟩ = some (.int .i64 b)) (k3 : w.cell? ⟨q, 0, none⟩ = some (.int .i64 c)) (k4 : w.cell? ⟨q, 1, none⟩ = some (.int .i64 d)) :
    Calls Tryz.prog 118 #[.pointer (some ⟨p, 0, none⟩), .pointer (some ⟨q, 0, none⟩)] w fun x w' => x = .returned (.tuple #[.int .i64 (a * c), .int .i64 (b * d)]) ∧ Below w.heap.size w w' := by
  obtain ⟨p1, p2⟩ := Rt.mul_bd a1 a2 c1 c2
  obtain ⟨p3, p4⟩ := Rt.mul_bd (a := b) (b := d) (by omega) b2 (by omega) d2
  obtain ⟨p5, p6⟩ := Rt.mul_bd (a := a) (b := d) (by omega) a2 (by omega) d2
  obtain ⟨p7, p8⟩ := Rt.mul_bd (a := c) (b := b) (by omega) c2 (by omega) b2
  obtain ⟨p9, p10⟩ := Rt.mul_bd (a := b) (b := c) (by omega) b2 (by omega) c2
  go_enter Tryz.func118, Tryz.ntmps118
  go_wp2
  go_quiet (fail)
  go_wp2
  go_ret2
  exact ⟨rfl, below_drewN (Below.refl _ _) _⟩

set_option maxHeartbeats 400000 in
theorem timesReckon (a b c d n m e : Int) (r1 : Rt.rightB a b = true) (r2 : Rt.rightB c d = true) (hm : Rt.mkT (a * c) (b * d) = (n, m, e)) (p q : Nat) (w : World) (hp : p < w.heap.size) (hq : q < w.heap.size)
    (k1 : w.cell? ⟨p, 0, none⟩ = some (.int .i64 a)) (k2 : w.cell? ⟨p, 1, none⟩ = some (.int .i64 b)) (k3 : w.cell? ⟨q, 0, none⟩ = some (.int .i64 c)) (k4 : w.cell? ⟨q, 1, none⟩ = some (.int .i64 d)) :
    Calls Tryz.prog 117 #[rv a b, rv c d, .func (.func 118) #[] #[.pointer (some ⟨p, 0, none⟩), .pointer (some ⟨q, 0, none⟩)]] w fun x w' => x = .returned (.tuple #[rv n m, .int .i64 e]) ∧ Below w.heap.size w w' := by
  have HM : Hid (Rt.mkT (a * c) (b * d) = (n, m, e)) := hm
  have R1 : Hid (Rt.rightB a b = true) := r1
  have R2 : Hid (Rt.rightB c d = true) := r2
  obtain ⟨a1, a2, b1, b2⟩ := Rt.right_bd r1
  obtain ⟨c1, c2, d1, d2⟩ := Rt.right_bd r2
  clear r1 r2 hm
  obtain ⟨p1, p2⟩ := Rt.mul_bd a1 a2 c1 c2
  obtain ⟨p3, p4⟩ := Rt.mul_bd (a := b) (b := d) (by omega) b2 (by omega) d2
  obtain ⟨p5, p6⟩ := Rt.mul_bd (a := a) (b := d) (by omega) a2 (by omega) d2
  obtain ⟨p7, p8⟩ := Rt.mul_bd (a := c) (b := b) (by omega) c2 (by omega) b2
  obtain ⟨p9, p10⟩ := Rt.mul_bd (a := b) (b := c) (by omega) b2 (by omega) c2
  go_enter Tryz.func117, Tryz.ntmps117
  go_wp2_with fail
  refine (right_any a b true R1.out _).mono ?_
  rintro e1 w1 ⟨rfl, hb1⟩
  obtain ⟨hc1, hf1⟩ := bcell hb1
  go_wp2_with fail
  refine (right_any c d true R2.out _).mono ?_
  rintro e2 w2 ⟨rfl, hb2⟩
  have F2 := bt hb1 hb2
  clear hc1 hf1 hb1 hb2
  have G2 := bt (bal (bal (ba _ _) _) _) F2
  go_wp2_with fail
  refine (timesLit a b c d p q _ a1 a2 b1 b2 c1 c2 d1 d2 ((G2.cell (p := ⟨p, 0, none⟩) hp).trans k1) ((G2.cell (p := ⟨p, 1, none⟩) hp).trans k2) ((G2.cell (p := ⟨q, 0, none⟩) hq).trans k3) ((G2.cell (p := ⟨q, 1, none⟩) hq).trans k4)).mono ?_
  rintro e3 w3 ⟨rfl, hb3⟩
  go_wp2_with fail
  refine (rmake_any (a * c) (b * d) n m e (by omega) (by omega) HM.out _).mono ?_
  rintro e4 w4 ⟨rfl, hb4⟩
  have F4 := bt (bt F2 hb3) hb4
  have G4 := bt (bal (bal (ba _ _) _) _) F4
  clear F2 hb3 hb4 G2
  obtain ⟨hc4, hf4⟩ := bcell F4
  go_wp2_with fail
  exact bodyPost_ret (v := .tuple #[rv n m, .int .i64 e]) (by simp [results, Tryz.results117, go_sem, hc4]) rfl ⟨rfl, bs (bs G4 (by simp; omega) _) (by simp; omega) _⟩

set_option maxHeartbeats 400000 in
theorem reckonNo (a b c d : Int) (f : Value) (h : Rt.rightB a b = false ∨ (Rt.rightB a b = true ∧ Rt.rightB c d = false)) (w : World) :
    Calls Tryz.prog 117 #[rv a b, rv c d, f] w fun x w' => x = .returned (.tuple #[rv 0 0, .int .i64 2]) ∧ Below w.heap.size w w' := by
  rcases h with r1 | ⟨r1, r2⟩
  · have R1 : Hid (Rt.rightB a b = false) := r1
    clear r1
    go_enter Tryz.func117, Tryz.ntmps117
    go_wp2_with fail
    refine (right_any a b false R1.out _).mono ?_
    rintro e1 w1 ⟨rfl, hb1⟩
    have G1 := bt (bal (bal (ba _ _) _) _) hb1
    obtain ⟨hc1, hf1⟩ := bcell hb1
    go_wp2_with fail
    exact bodyPost_ret (v := .tuple #[rv 0 0, .int .i64 2]) (by simp [results, Tryz.results117, go_sem, hc1]) rfl ⟨rfl, bs (bs G1 (by simp; omega) _) (by simp; omega) _⟩
  · have R1 : Hid (Rt.rightB a b = true) := r1
    have R2 : Hid (Rt.rightB c d = false) := r2
    clear r1 r2
    go_enter Tryz.func117, Tryz.ntmps117
    go_wp2_with fail
    refine (right_any a b true R1.out _).mono ?_
    rintro e1 w1 ⟨rfl, hb1⟩
    obtain ⟨hc1, hf1⟩ := bcell hb1
    go_wp2_with fail
    refine (right_any c d false R2.out _).mono ?_
    rintro e2 w2 ⟨rfl, hb2⟩
    have F2 := bt hb1 hb2
    clear hc1 hf1 hb1 hb2
    have G2 := bt (bal (bal (ba _ _) _) _) F2
    obtain ⟨hc1, hf1⟩ := bcell F2
    go_wp2_with fail
    exact bodyPost_ret (v := .tuple #[rv 0 0, .int .i64 2]) (by simp [results, Tryz.results117, go_sem, hc1]) rfl ⟨rfl, bs (bs G2 (by simp; omega) _) (by simp; omega) _⟩

set_option maxHeartbeats 400000 in
theorem times_any (a b c d n m e : Int) (h : Rt.timesT a b c d = (n, m, e)) (w : World) :
    Calls Tryz.prog 64 #[rv a b, rv c d] w fun x w' => x = .returned (.tuple #[rv n m, .int .i64 e]) ∧ Below w.heap.size w w' := by
  have H : Hid (Rt.timesT a b c d = (n, m, e)) := h
  clear h
  by_cases r : Rt.rightB a b = true ∧ Rt.rightB c d = true
  · obtain ⟨r1, r2⟩ := r
    have hm : Rt.mkT (a * c) (b * d) = (n, m, e) := by rw [← H.out]; unfold Rt.timesT; rw [if_pos ⟨r1, r2⟩]
    have HM : Hid (Rt.mkT (a * c) (b * d) = (n, m, e)) := hm
    have R1 : Hid (Rt.rightB a b = true) := r1
    have R2 : Hid (Rt.rightB c d = true) := r2
    clear hm r1 r2 H
    go_enter Tryz.func64, Tryz.ntmps64
    go_wp2_with fail
    refine (timesReckon a b c d n m e R1.out R2.out HM.out w.heap.size (w.heap.size + 1) _ (by simp <;> omega) (by simp <;> omega) (by simp [go_sem]) (by simp [go_sem]) (by simp [go_sem]) (by simp [go_sem])).mono ?_
    rintro e1 w1 ⟨rfl, hb1⟩
    have G1 := bt (bal (bal (ba _ _) _) _) hb1
    obtain ⟨hc1, hf1⟩ := bcell hb1
    go_wp2_with fail
    exact bodyPost_ret (v := .tuple #[rv n m, .int .i64 e]) (by simp [results, Tryz.results64, go_sem, hc1]) rfl ⟨rfl, bs (bs G1 (by simp; omega) _) (by simp; omega) _⟩
  · have hr : (0, 0, 2) = (n, m, e) := by rw [← H.out]; unfold Rt.timesT; rw [if_neg r]
    simp only [Prod.mk.injEq] at hr
    obtain ⟨rfl, rfl, rfl⟩ := hr
    have r' : Rt.rightB a b = false ∨ (Rt.rightB a b = true ∧ Rt.rightB c d = false) := by
      cases h1 : Rt.rightB a b <;> cases h2 : Rt.rightB c d <;> simp_all
    have R : Hid (Rt.rightB a b = false ∨ (Rt.rightB a b = true ∧ Rt.rightB c d = false)) := r'
    clear r r' H
    go_enter Tryz.func64, Tryz.ntmps64
    go_wp2_with fail
    refine (reckonNo a b c d _ R.out _).mono ?_
    rintro e1 w1 ⟨rfl, hb1⟩
    have G1 := bt (bal (bal (ba _ _) _) _) hb1
    obtain ⟨hc1, hf1⟩ := bcell hb1
    go_wp2_with fail
    exact bodyPost_ret (v := .tuple #[rv 0 0, .int .i64 2]) (by simp [results, Tryz.results64, go_sem, hc1]) rfl ⟨rfl, bs (bs G1 (by simp; omega) _) (by simp; omega) _⟩
end Go.Proofs.YtlndlpjadajelaaGreat
