import Derived.Test.YtcglfojbgdlbhaaDmp
namespace Go.Proofs.Ytcglfojbgdlbhaa
open Go.RowKit Go.Proofs.Ytcglfojbgdlbhaa.Ds

theorem pmap_any (B : Nat) (v u : Value) (ts : List Tr) (ps : List Pr) (w : World) (hB : B ≤ w.heap.size) (hp : Parts w B v ts) (hq : Prs w B u ps) (l : List Pt) (er : Int) (hr : mapT (rd ts) (pd ps) = (l, er)) :
    Calls Try.prog 19 #[v, u] w fun e w' => ∃ v' us, e = .returned (.tuple #[v', .int .i64 er]) ∧ rd us = l ∧ OwnN w' w.heap.size v' us ∧ Below w.heap.size w w' := by
  have HP : Hid (Parts w B v ts) := hp
  have HQ : Hid (Prs w B u ps) := hq
  have HR : Hid (mapT (rd ts) (pd ps) = (l, er)) := hr
  obtain ⟨a, c, rfl, _⟩ := hp
  obtain ⟨ua, uc, rfl, _⟩ := hq
  have kc := dmap_any B w.heap.size (.slice a ts.length c) (.slice ua ps.length uc) ts ps (w.alloc (.cells #[.slice ua ps.length uc] 40)) (by simp; omega) (by simp) (by simp [go_sem]) (HP.out.at hB (ba _ _)) (HQ.out.at hB (ba _ _)) l er HR.out
  clear hr
  go_enter Try.func19, Try.ntmps19
  go_wp2_with fail
  refine kc.mono ?_
  rintro e w1 ⟨v1, us, rfl, h1, h2, h3⟩
  obtain ⟨b1, d1, rfl⟩ := h2.slice
  have hb : Below w.heap.size w w1 := bt (ba _ _) h3
  clear kc
  go_wp2
  exact bodyPost_ret (v := .tuple #[.slice b1 us.length d1, .int .i64 er]) (by simp [results, Try.results19, go_sem]) rfl ⟨_, us, rfl, h1, h2.mono (by simp), hb⟩
end Go.Proofs.Ytcglfojbgdlbhaa
