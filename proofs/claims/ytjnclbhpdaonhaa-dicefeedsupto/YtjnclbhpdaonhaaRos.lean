import Derived.Test.YtjnclbhpdaonhaaRol
import Derived.Test.YtjnclbhpdaonhaaDis
namespace Go.Proofs.Ytjnclbhpdaonhaa
open Go.RowKit Go.Proofs.Ytjnclbhpdaonhaa.Ds

/-- the draw that needs no bits -/
def roSure (l : List Pt) : Option (List Int) := match l with
  | [p] => some p.1
  | _ => none
theorem roSure_one {l : List Pt} {p : Pt} (h : l[0]? = some p) (h1 : l.length = 1) : roSure l = some p.1 := by
  match l, h1, h with
  | [q], _, h => simp at h; subst h; rfl
theorem roSure_none {l : List Pt} (h1 : l.length ≠ 1) : roSure l = none := by
  match l, h1 with
  | [], _ => rfl
  | _ :: _ :: _, _ => rfl

set_option maxHeartbeats 1000000 in
theorem roSure_any (N E : Nat) (a : Option Addr) (c : Nat) (ts : List Tr) (T nd u pl : Int) (w : World) (h : Rob w E (.slice a ts.length c) T nd u pl) (hP : Rop w N E a c ts) (hN : N ≤ w.heap.size) :
    Calls Try.prog 23 #[.pointer (some ⟨E, 0, none⟩)] w (SureP (roSure (rd ts)) w) := by
  have H : Hid (Rob w E (.slice a ts.length c) T nd u pl) := h
  have HP : Hid (Rop w N E a c ts) := hP
  obtain ⟨c0, _, _, _, _, _, lt⟩ := h
  have hfw := hP.few
  clear hP
  by_cases h1 : ts.length = 1
  · obtain ⟨bb, bo, sa, sc, xs, k, rfl, hbN, hbE, hs, d1, d2, hI⟩ := HP.out.get (i := 0) (by omega)
    have HS : Hid (roSure (rd ts) = some xs) := roSure_one (rd_get hs) (by rw [rd_len, h1])
    have HI : Hid (Ints w N E (.slice sa xs.length sc) xs) := hI
    simp only [Nat.zero_mul, Nat.add_zero] at d1
    rw [h1] at c0
    have hc1 : 1 ≤ c := by have := HP.out.cap; omega
    have HV : Hid (Rv (w.alloc (.cells #[.slice none 0 0, .int .i64 0] 38)) w.heap.size (.slice none 0 0) 0) := Rv.new _ _ _ _ _ rfl
    have hb0 : Below w.heap.size w (w.alloc (.cells #[.slice none 0 0, .int .i64 0] 38)) := ba _ _
    have kc := cloneN_any N E (.slice sa xs.length sc) xs (w.alloc (.cells #[.slice none 0 0, .int .i64 0] 38)) (by simp; omega) (HI.out.at hN hb0)
    have d3 : ∀ o, (w.alloc o).cell? ⟨bb, bo, none⟩ = some (.slice sa xs.length sc) := fun o => ((ba w o).cell (p := ⟨bb, bo, none⟩) (show bb < w.heap.size by omega)).trans d1
    clear hs hI h1
    go_enter Try.func23, Try.ntmps23
    go_wp2_with fail
    refine kc.mono ?_
    rintro e w1 ⟨v1, rfl, hI1, hb1⟩
    obtain ⟨av, cv, rfl, _⟩ := hI1 w.heap.size (by simp)
    have HV1 : Hid (Rv w1 w.heap.size (.slice none 0 0) 0) := HV.out.below hb1
    have HI1 : Hid (∀ m, m < w.heap.size + 1 → Ints w1 w1.heap.size m (.slice av xs.length cv) xs) := fun m hm => hI1 m (by simpa using hm)
    have hbw : Below w.heap.size w w1 := bt hb0 hb1
    clear kc hI1 hb1
    obtain ⟨r0, r1, r2, r3, r4⟩ := id HV1.out
    go_wp2
    generalize hZ : (w1.setCell ⟨w.heap.size, 0, none⟩ (.slice av xs.length cv)).setCell ⟨w.heap.size, 1, none⟩ (.int .i64 0) = Z
    have hbZ : Below w.heap.size w Z := hZ ▸ bs (bs hbw (p := ⟨w.heap.size, 0, none⟩) (Nat.le_refl _) _) (p := ⟨w.heap.size, 1, none⟩) (Nat.le_refl _) _
    have HVZ : Rv Z w.heap.size (.slice av xs.length cv) 0 := hZ ▸ HV1.out.put _ _
    have HFZ : ∀ m, m < w.heap.size + 1 → Ints Z Z.heap.size m (.slice av xs.length cv) xs := by
      have h1 := Ints.setm (Ints.setm HI1.out w.heap.size 0 (by omega) (.slice av xs.length cv)) w.heap.size 1 (by omega) (.int .i64 0)
      intro m hm
      have h2 := h1 m hm
      rw [← hZ]
      simpa using h2
    clear hZ
    obtain ⟨z0, z1, _, _, _⟩ := HVZ
    refine bodyPost_ret (v := .tuple #[.agg #[.slice av xs.length cv, .int .i64 0], .bool true]) (by simp [results, Try.results23, go_sem, z0, z1]) rfl ⟨hbZ, fun hh => ?_, fun o ho => ?_⟩
    · rw [HS.out] at hh; cases hh
    · rw [HS.out] at ho
      simp only [Option.some.injEq] at ho
      subst ho
      exact ⟨av, cv, rfl, fun m hm => HFZ m (by omega)⟩
  · have HS : Hid (roSure (rd ts) = none) := roSure_none (by rw [rd_len]; exact h1)
    have h1' : ((ts.length : Int) == 1) = false := by simp; omega
    have h1'' : ¬ (ts.length : Int) = 1 := by omega
    go_enter Try.func23, Try.ntmps23
    go_wp2
    refine bodyPost_ret (v := .tuple #[noD, .bool false]) (by simp [results, Try.results23, go_sem]) rfl ⟨ba _ _, fun _ => rfl, fun o ho => ?_⟩
    rw [HS.out] at ho; cases ho
end Go.Proofs.Ytjnclbhpdaonhaa
