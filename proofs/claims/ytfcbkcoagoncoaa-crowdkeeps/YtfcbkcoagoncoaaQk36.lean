import Derived.Test.YtfcbkcoagoncoaaQk35
import Derived.Test.YtfcbkcoagoncoaaQk20
namespace Go.Proofs.Ytfcbkcoagoncoaa
open Go.RowKit Go.Shelf Go.Proofs.Ytfcbkcoagoncoaa.Ds

/-- what is wrong with two -/
def twoE (l m : List Pt) : Int := if (ownT l).2 = 0 then (ownT m).2 else (ownT l).2

set_option maxHeartbeats 1000000 in
theorem ownTwo_any (B : Nat) (u v : Value) (ts us : List Tr) (w : World) (hB : B ≤ w.heap.size) (hp : Parts w B u ts) (hq : Parts w B v us) (er : Int) (hr : twoE (rd ts) (rd us) = er) :
    Calls Try.prog 28 #[u, v] w fun e w' => ∃ a1 n1 c1 a2 n2 c2, e = .returned (.tuple #[.slice a1 n1 c1, .slice a2 n2 c2, .int .i64 er]) ∧ Below w.heap.size w w' ∧
      (er = 0 → ∃ ts' us', rd ts' = rd ts ∧ rd us' = rd us ∧ Parts w' w'.heap.size (.slice a1 n1 c1) ts' ∧ Parts w' w'.heap.size (.slice a2 n2 c2) us') := by
  have HP : Hid (Parts w B u ts) := hp
  have HQ : Hid (Parts w B v us) := hq
  obtain ⟨a, c, rfl, _⟩ := hp
  obtain ⟨a', c', rfl, _⟩ := hq
  obtain ⟨⟨l, e1⟩, ho⟩ : ∃ x, ownT (rd ts) = x := ⟨_, rfl⟩
  obtain ⟨⟨m, e2⟩, ho2⟩ : ∃ x, ownT (rd us) = x := ⟨_, rfl⟩
  rw [twoE, ho, ho2] at hr
  simp only at hr
  have HR : Hid ((if e1 = 0 then e2 else e1) = er ∧ ownT (rd ts) = (l, e1) ∧ ownT (rd us) = (m, e2)) := ⟨hr, ho, ho2⟩
  clear hr ho ho2
  have kc := own_any B _ ts w hB HP.out l e1 HR.out.2.1
  go_enter Try.func28, Try.ntmps28
  go_wp2_with fail
  refine kc.mono ?_
  rintro e w1 ⟨v1, x1, rfl, hrd1, ho1, hb1⟩
  obtain ⟨b1, d1, rfl⟩ := ho1.slice
  have HO1 : Hid (OwnN w1 w.heap.size (.slice b1 x1.length d1) x1) := ho1
  have HD1 : Hid (rd x1 = l) := hrd1
  clear ho1 hrd1 kc
  by_cases h1 : e1 = 0
  · subst h1
    have h3 := HR.out.1
    rw [if_pos rfl] at h3
    subst h3
    have kc := own_any B _ us w1 (Nat.le_trans hB hb1.size) (HQ.out.at hB hb1) m e2 HR.out.2.2
    go_wp2_with fail
    refine kc.mono ?_
    rintro e w2 ⟨v2, x2, rfl, hrd2, ho2, hb2⟩
    obtain ⟨b2, d2, rfl⟩ := ho2.slice
    have HO2 : Hid (OwnN w2 w1.heap.size (.slice b2 x2.length d2) x2) := ho2
    have HD2 : Hid (rd x2 = m) := hrd2
    have hbb := bt hb1 hb2
    clear ho2 hrd2 kc
    by_cases h2 : e2 = 0
    · subst h2
      have HZ : Hid (rd x1 = rd ts ∧ rd x2 = rd us ∧ Parts w2 w2.heap.size (.slice b1 x1.length d1) x1 ∧ Parts w2 w2.heap.size (.slice b2 x2.length d2) x2) :=
        ⟨HD1.out.trans (ownT_ok HR.out.2.1).1, HD2.out.trans (ownT_ok HR.out.2.2).1, (HO1.out.keep hb2).parts, HO2.out.parts⟩
      clear HR
      go_wp2
      exact bodyPost_ret (v := .tuple #[.slice b1 x1.length d1, .slice b2 x2.length d2, .int .i64 0]) (by simp [results, Try.results28, go_sem]) rfl ⟨_, _, _, _, _, _, rfl, hbb, ⟨x1, HZ.out.1, x2, HZ.out.2.1, HZ.out.2.2.1, HZ.out.2.2.2⟩⟩
    · have h2' : (e2 == 0) = false := by simpa using h2
      have h2'' : (e2 != 0) = true := by simpa using h2
      go_wp2
      exact bodyPost_ret (v := .tuple #[.slice none 0 0, .slice none 0 0, .int .i64 e2]) (by simp [results, Try.results28, go_sem]) rfl ⟨_, _, _, _, _, _, rfl, hbb, by first | exact fun h => absurd h h2 | simp [h2]⟩
  · have h3 := HR.out.1
    rw [if_neg h1] at h3
    subst h3
    have h1' : (e1 == 0) = false := by simpa using h1
    have h1'' : (e1 != 0) = true := by simpa using h1
    go_wp2
    exact bodyPost_ret (v := .tuple #[.slice none 0 0, .slice none 0 0, .int .i64 e1]) (by simp [results, Try.results28, go_sem]) rfl ⟨_, _, _, _, _, _, rfl, hb1, by first | exact fun h => absurd h h1 | simp [h1]⟩

theorem twoE_ok {l m : List Pt} (h : twoE l m = 0) : Dis l ∧ Dis m := by
  unfold twoE at h
  split at h
  · rename_i h1
    exact ⟨(ownT_ok (m := (ownT l).1) (by rw [← h1])).2, (ownT_ok (m := (ownT m).1) (by rw [← h])).2⟩
  · rename_i h1; exact absurd h h1

set_option maxHeartbeats 1000000 in
theorem pairs_in (n : Nat) (aa ab : Option Addr) (na nb ca cb : Nat) (w : World) :
    CallsIn Fence.wide n Try.prog 30 #[.slice aa na ca, .slice ab nb cb] w fun e w' => e = .returned (.func (.func 43) #[] #[.pointer (some ⟨w.heap.size, 0, none⟩), .pointer (some ⟨w.heap.size + 1, 0, none⟩)]) ∧ w' = (w.alloc (.cells #[.slice aa na ca] 26)).alloc (.cells #[.slice ab nb cb] 26) := by
  refine callsIn_wide.2 ?_
  go_enter Try.func30, Try.ntmps30
  go_wp2
  go_ret
  exact ⟨rfl, rfl⟩

theorem pairs_stops (n : Nat) (hn : 1 ≤ n) (Ba Bb n₀ : Nat) (M : Int) (hM0 : 0 ≤ M) (va vb : Value) (A0 B0 : List Tr) (w : World) (hn₀ : n₀ ≤ w.heap.size) (hBa : Ba < w.heap.size) (hBb : Bb < w.heap.size)
    (ha : w.cell? ⟨Ba, 0, none⟩ = some va) (hb : w.cell? ⟨Bb, 0, none⟩ = some vb) (hpa : Parts w n₀ va A0) (hpb : Parts w n₀ vb B0) (hma : ∀ t ∈ A0, 0 ≤ t.2.2 ∧ t.2.2 ≤ M) (hmb : ∀ t ∈ B0, 0 ≤ t.2.2 ∧ t.2.2 ≤ M) :
    SeqStopsK Fence.wide n Try.prog 43 #[.pointer (some ⟨Ba, 0, none⟩), .pointer (some ⟨Bb, 0, none⟩)] (encPP (w := w) (B := n₀) (M := M)) (Below n₀) (fun ys => ys.map (·.1) = mrg A0 B0) (fun pre => pre.map (·.1) <+: mrg A0 B0) (A0.length + B0.length) w :=
  fun l J Jx W hW hJ _ hY h0 => pairs1_in n hn l Ba Bb n₀ M hM0 va vb A0 B0 w J Jx W hJ (hW.mono hn₀) (Nat.le_trans hn₀ hW.size) hY ((hW.cell (p := ⟨Ba, 0, none⟩) hBa).trans ha) ((hW.cell (p := ⟨Bb, 0, none⟩) hBb).trans hb) hpa hpb hma hmb h0
end Go.Proofs.Ytfcbkcoagoncoaa

namespace Go.Proofs.Ytfcbkcoagoncoaa
open Go.RowKit Go.Shelf Go.Proofs.Ytfcbkcoagoncoaa.Ds
attribute [local go_sem] Oper.semAt_some

/-- all that two may be, in order -/
def mrgP : List Pt → List Pt → List (Pt × Pt)
  | [], [] => []
  | [], b :: bs => (([], 0), b) :: mrgP [] bs
  | a :: az, [] => (a, ([], 0)) :: mrgP az []
  | a :: az, b :: bs => if cmpT a.1 b.1 < 0 then (a, ([], 0)) :: mrgP az (b :: bs) else if 0 < cmpT a.1 b.1 then (([], 0), b) :: mrgP (a :: az) bs else (a, b) :: mrgP az bs
termination_by az bs => az.length + bs.length

/-- what is handed on, without its memory -/
def bare (p : Tr × Tr) : Pt × Pt := (p.1.2, p.2.2)

theorem mrg_rd (az bz : List Tr) : (mrg az bz).map bare = mrgP (rd az) (rd bz) := by
  induction az, bz using mrg.induct with
  | case1 => simp [mrg, mrgP, rd]
  | case2 b bs ih => rw [mrg]; simp only [rd, List.map_cons, List.map_nil] at *; rw [mrgP, ih]; rfl
  | case3 a az ih => rw [mrg]; simp only [rd, List.map_cons, List.map_nil] at *; rw [mrgP, ih]; rfl
  | case4 a az b bs h ih => rw [mrg_lt h]; simp only [rd, List.map_cons] at *; rw [mrgP, if_pos h, ih]; rfl
  | case5 a az b bs h1 h2 ih => rw [mrg_gt h2]; simp only [rd, List.map_cons] at *; rw [mrgP, if_neg h1, if_pos h2, ih]; rfl
  | case6 a az b bs h1 h2 ih => rw [mrg_eq (by omega)]; simp only [rd, List.map_cons] at *; rw [mrgP, if_neg h1, if_neg h2, ih]; rfl

/-- what stands in two lists' pairs is in order and of weights of theirs -/
theorem mrgP_mem {az bz : List Pt} {p : Pt × Pt} (h : p ∈ mrgP az bz) : (p.1 ∈ az ∨ p.1 = ([], 0)) ∧ (p.2 ∈ bz ∨ p.2 = ([], 0)) := by
  induction az, bz using mrgP.induct with
  | case1 => simp [mrgP] at h
  | case2 b bs ih =>
    rw [mrgP] at h
    rcases List.mem_cons.1 h with rfl | h
    · exact ⟨.inr rfl, .inl (by simp)⟩
    · have := ih h; simp at this ⊢; rcases this with ⟨h1, h2 | h2⟩ <;> simp_all
  | case3 a az ih =>
    rw [mrgP] at h
    rcases List.mem_cons.1 h with rfl | h
    · exact ⟨.inl (by simp), .inr rfl⟩
    · have := ih h; simp at this ⊢; rcases this with ⟨h1 | h1, h2⟩ <;> simp_all
  | case4 a az b bs h1 ih =>
    rw [mrgP, if_pos h1] at h
    rcases List.mem_cons.1 h with rfl | h
    · exact ⟨.inl (by simp), .inr rfl⟩
    · obtain ⟨h2, h3⟩ := ih h
      exact ⟨h2.imp (fun h => by simp [h]) id, h3⟩
  | case5 a az b bs h1 h2 ih =>
    rw [mrgP, if_neg h1, if_pos h2] at h
    rcases List.mem_cons.1 h with rfl | h
    · exact ⟨.inr rfl, .inl (by simp)⟩
    · obtain ⟨h2, h3⟩ := ih h
      exact ⟨h2, h3.imp (fun h => by simp [h]) id⟩
  | case6 a az b bs h1 h2 ih =>
    rw [mrgP, if_neg h1, if_neg h2] at h
    rcases List.mem_cons.1 h with rfl | h
    · exact ⟨.inl (by simp), .inl (by simp)⟩
    · obtain ⟨h2, h3⟩ := ih h
      exact ⟨h2.imp (fun h => by simp [h]) id, h3.imp (fun h => by simp [h]) id⟩

end Go.Proofs.Ytfcbkcoagoncoaa
