import Derived.Test.YthmkbkombjhaeaaQb14
import Derived.Test.YthmkbkombjhaeaaQb15
namespace Go.Proofs.Ythmkbkombjhaeaa
open Go.RowKit Go.Proofs.Ythmkbkombjhaeaa.Ds

/-- a distribution -/
structure Dis (l : List Pt) : Prop where
  rise : Rise l
  pos : Pos l
  le : tot l ≤ 1073741824
  ne : l ≠ []
  ok : l.all okP = true
  few : l.length ≤ 4096
  one : dv l = 1

theorem cut_rise {g : Int} {l : List Pt} (h : Rise l) : Rise (cut g l) := by
  unfold Rise cut
  rw [List.pairwise_map]
  exact h

theorem dv_mul (g : Nat) : ∀ l : List Pt, dv (l.map fun p => (p.1, (g : Int) * p.2)) = g * dv l
  | [] => by simp [dv]
  | p :: l => by
    simp only [List.map_cons, dv, dv_mul g l]
    rw [Int.natAbs_mul, Int.natAbs_natCast, Nat.gcd_mul_left]

theorem cut_back {l : List Pt} {g : Nat} (h : ∀ p ∈ l, (g : Int) ∣ p.2) : (cut g l).map (fun p => (p.1, (g : Int) * p.2)) = l := by
  simp only [cut, List.map_map]
  conv => rhs; rw [← List.map_id l]
  refine List.map_congr_left fun p hp => ?_
  simp only [Function.comp, id]
  rw [Int.mul_ediv_cancel' (h p hp)]

theorem lowT_ok {l m : List Pt} (hp : Pos l) (hr : Rise l) (h : lowT l = (m, 0)) : Rise m ∧ Pos m ∧ tot m ≤ 1073741824 ∧ m ≠ [] ∧ m.length ≤ 4096 ∧ dv m = 1 := by
  unfold lowT at h
  split at h
  · simp at h
  · rename_i hne
    split at h
    · simp at h
    · rename_i hc
      simp only [Prod.mk.injEq, and_true] at h
      subst h
      have hd := dv_pos hp hne
      have hdv : ∀ p ∈ l, ((dv l : Nat) : Int) ∣ p.2 := fun p hp => dv_dvd_int hp
      refine ⟨cut_rise hr, ?_, by omega, ?_, by rw [cut_length]; omega, ?_⟩
      · intro p hpm
        obtain ⟨q, hq, rfl⟩ := List.mem_map.1 hpm
        have h1 := hp q hq
        exact Int.ediv_pos_of_pos_of_dvd h1 (by omega) (hdv q hq)
      · simp [cut, hne]
      · have e := dv_mul (dv l) (cut (dv l) l)
        rw [cut_back hdv] at e
        exact Nat.eq_of_mul_eq_mul_left hd (by rw [← e, Nat.mul_one])

theorem ownT_ok {l m : List Pt} (h : ownT l = (m, 0)) : m = l ∧ Dis l := by
  unfold ownT at h
  split at h
  · rename_i h0
    split at h
    · rename_i h1
      simp only [Prod.mk.injEq, and_true] at h
      have hm : makeT l = (l, 0) := Prod.ext h1 h0
      unfold makeT at hm
      split at hm
      · rename_i hok
        obtain ⟨a, b, c, d, e, f⟩ := lowT_ok (gath_pos (all_okP hok).1) (gath_rise l) hm
        exact ⟨h.symm, a, b, c, d, hok, e, f⟩
      · simp at hm
    · simp at h
  · rename_i h0
    simp only [Prod.mk.injEq] at h
    exact absurd h.2 h0

theorem wt_at {l : List Pt} (h : Rise l) {i : Nat} {p : Pt} (hp : l[i]? = some p) : wt l p.1 = p.2 := by
  induction l generalizing i with
  | nil => simp at hp
  | cons q l ih =>
    cases i with
    | zero => simp at hp; subst hp; exact wt_head h
    | succ i =>
      simp at hp
      rw [wt_cons, ih (rise_tail h) hp, if_neg (ltL_ne ((List.pairwise_cons.1 h).1 p (List.mem_of_getElem? hp)))]
      omega

theorem tot_pos2 {l : List Pt} (h : Pos l) (hne : l ≠ []) : 0 < tot l := by
  cases l with
  | nil => exact absurd rfl hne
  | cons p l => have := h p (by simp); have := tot_pos (l := l) fun q hq => h q (by simp [hq]); rw [tot_cons]; omega

end Go.Proofs.Ythmkbkombjhaeaa

namespace Go.Proofs.Ythmkbkombjhaeaa
open Go.RowKit Go.Shelf Go.Proofs.Ythmkbkombjhaeaa.Ds

/-- what is wrong with two -/
def twoE (l m : List Pt) : Int := if (ownT l).2 = 0 then (ownT m).2 else (ownT l).2

set_option maxHeartbeats 1000000 in
theorem ownTwo_any (B : Nat) (u v : Value) (ts us : List Tr) (w : World) (hB : B ≤ w.heap.size) (hp : Parts w B u ts) (hq : Parts w B v us) (er : Int) (hr : twoE (rd ts) (rd us) = er) :
    Calls Try.prog 56 #[u, v] w fun e w' => ∃ a1 n1 c1 a2 n2 c2, e = .returned (.tuple #[.slice a1 n1 c1, .slice a2 n2 c2, .int .i64 er]) ∧ Below w.heap.size w w' ∧
      (er = 0 → ∃ ts' us', rd ts' = rd ts ∧ rd us' = rd us ∧ Parts w' w'.heap.size (.slice a1 n1 c1) ts' ∧ Parts w' w'.heap.size (.slice a2 n2 c2) us') := by
  have HP : Hid (Parts w B u ts) := hp
  have HQ : Hid (Parts w B v us) := hq
  obtain ⟨a, c, rfl, _⟩ := hp
  obtain ⟨a', c', rfl, _⟩ := hq
  obtain ⟨⟨l, e1⟩, ho⟩ : ∃ x, ownT (rd ts) = x := ⟨_, rfl⟩
  obtain ⟨⟨m, e2⟩, ho2⟩ : ∃ x, ownT (rd us) = x := ⟨_, rfl⟩
  rw [twoE, ho, ho2] at hr
  simp only at hr
  have HR : Hid ((if e1 = 0 then e2 else e1) = er ∧ ownT (rd ts) = (l, e1) ∧ ownT (rd us) = (m, e2)) := ⟨hr, ho, ho2⟩
  clear hr ho ho2
  have kc := own_any B _ ts w hB HP.out l e1 HR.out.2.1
  go_enter Try.func56, Try.ntmps56
  go_wp2_with fail
  refine kc.mono ?_
  rintro e w1 ⟨v1, x1, rfl, hrd1, ho1, hb1⟩
  obtain ⟨b1, d1, rfl⟩ := ho1.slice
  have HO1 : Hid (OwnN w1 w.heap.size (.slice b1 x1.length d1) x1) := ho1
  have HD1 : Hid (rd x1 = l) := hrd1
  clear ho1 hrd1 kc
  by_cases h1 : e1 = 0
  · subst h1
    have h3 := HR.out.1
    rw [if_pos rfl] at h3
    subst h3
    have kc := own_any B _ us w1 (Nat.le_trans hB hb1.size) (HQ.out.at hB hb1) m e2 HR.out.2.2
    go_wp2_with fail
    refine kc.mono ?_
    rintro e w2 ⟨v2, x2, rfl, hrd2, ho2, hb2⟩
    obtain ⟨b2, d2, rfl⟩ := ho2.slice
    have HO2 : Hid (OwnN w2 w1.heap.size (.slice b2 x2.length d2) x2) := ho2
    have HD2 : Hid (rd x2 = m) := hrd2
    have hbb := bt hb1 hb2
    clear ho2 hrd2 kc
    by_cases h2 : e2 = 0
    · subst h2
      have HZ : Hid (rd x1 = rd ts ∧ rd x2 = rd us ∧ Parts w2 w2.heap.size (.slice b1 x1.length d1) x1 ∧ Parts w2 w2.heap.size (.slice b2 x2.length d2) x2) :=
        ⟨HD1.out.trans (ownT_ok HR.out.2.1).1, HD2.out.trans (ownT_ok HR.out.2.2).1, (HO1.out.keep hb2).parts, HO2.out.parts⟩
      clear HR
      go_wp2
      exact bodyPost_ret (v := .tuple #[.slice b1 x1.length d1, .slice b2 x2.length d2, .int .i64 0]) (by simp [results, Try.results56, go_sem]) rfl ⟨_, _, _, _, _, _, rfl, hbb, ⟨x1, HZ.out.1, x2, HZ.out.2.1, HZ.out.2.2.1, HZ.out.2.2.2⟩⟩
    · have h2' : (e2 == 0) = false := by simpa using h2
      have h2'' : (e2 != 0) = true := by simpa using h2
      go_wp2
      exact bodyPost_ret (v := .tuple #[.slice none 0 0, .slice none 0 0, .int .i64 e2]) (by simp [results, Try.results56, go_sem]) rfl ⟨_, _, _, _, _, _, rfl, hbb, by first | exact fun h => absurd h h2 | simp [h2]⟩
  · have h3 := HR.out.1
    rw [if_neg h1] at h3
    subst h3
    have h1' : (e1 == 0) = false := by simpa using h1
    have h1'' : (e1 != 0) = true := by simpa using h1
    go_wp2
    exact bodyPost_ret (v := .tuple #[.slice none 0 0, .slice none 0 0, .int .i64 e1]) (by simp [results, Try.results56, go_sem]) rfl ⟨_, _, _, _, _, _, rfl, hb1, by first | exact fun h => absurd h h1 | simp [h1]⟩

theorem twoE_ok {l m : List Pt} (h : twoE l m = 0) : Dis l ∧ Dis m := by
  unfold twoE at h
  split at h
  · rename_i h1
    exact ⟨(ownT_ok (m := (ownT l).1) (by rw [← h1])).2, (ownT_ok (m := (ownT m).1) (by rw [← h])).2⟩
  · rename_i h1; exact absurd h h1

set_option maxHeartbeats 1000000 in
theorem pairs_in (n : Nat) (aa ab : Option Addr) (na nb ca cb : Nat) (w : World) :
    CallsIn Fence.wide n Try.prog 57 #[.slice aa na ca, .slice ab nb cb] w fun e w' => e = .returned (.func (.func 69) #[] #[.pointer (some ⟨w.heap.size, 0, none⟩), .pointer (some ⟨w.heap.size + 1, 0, none⟩)]) ∧ w' = (w.alloc (.cells #[.slice aa na ca] 26)).alloc (.cells #[.slice ab nb cb] 26) := by
  refine callsIn_wide.2 ?_
  go_enter Try.func57, Try.ntmps57
  go_wp2
  go_ret
  exact ⟨rfl, rfl⟩

theorem pairs_stops (n : Nat) (hn : 1 ≤ n) (Ba Bb n₀ : Nat) (M : Int) (hM0 : 0 ≤ M) (va vb : Value) (A0 B0 : List Tr) (w : World) (hn₀ : n₀ ≤ w.heap.size) (hBa : Ba < w.heap.size) (hBb : Bb < w.heap.size)
    (ha : w.cell? ⟨Ba, 0, none⟩ = some va) (hb : w.cell? ⟨Bb, 0, none⟩ = some vb) (hpa : Parts w n₀ va A0) (hpb : Parts w n₀ vb B0) (hma : ∀ t ∈ A0, 0 ≤ t.2.2 ∧ t.2.2 ≤ M) (hmb : ∀ t ∈ B0, 0 ≤ t.2.2 ∧ t.2.2 ≤ M) :
    SeqStopsK Fence.wide n Try.prog 69 #[.pointer (some ⟨Ba, 0, none⟩), .pointer (some ⟨Bb, 0, none⟩)] (encPP (w := w) (B := n₀) (M := M)) (Below n₀) (fun ys => ys.map (·.1) = mrg A0 B0) (fun pre => pre.map (·.1) <+: mrg A0 B0) (A0.length + B0.length) w :=
  fun l J Jx W hW hJ _ hY h0 => pairs1_in n hn l Ba Bb n₀ M hM0 va vb A0 B0 w J Jx W hJ (hW.mono hn₀) (Nat.le_trans hn₀ hW.size) hY ((hW.cell (p := ⟨Ba, 0, none⟩) hBa).trans ha) ((hW.cell (p := ⟨Bb, 0, none⟩) hBb).trans hb) hpa hpb hma hmb h0
end Go.Proofs.Ythmkbkombjhaeaa
