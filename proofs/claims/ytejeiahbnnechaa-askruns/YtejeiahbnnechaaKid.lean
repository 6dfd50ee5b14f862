import Derived.Test.YtejeiahbnnechaaGth
import Derived.Test.YtejeiahbnnechaaTyp
import Derived.Deep.RegionHeld3
import Derived.Deep.RegionLaw
namespace Go.Proofs.Ytejeiahbnnechaa
open Go.RowKit Go.Proofs.Ytejeiahbnnechaa.Ds

theorem AnsP.up {w W : World} {xs : List Int} {e : Ending} {w' : World} (h : AnsP W xs e w') (hb : Below w.heap.size w W) : AnsP w xs e w' := by
  obtain ⟨g, c, he, ha, hbw⟩ := h
  exact ⟨g, c, he, ha.mono hb.size, bt hb hbw⟩
theorem clt {w : World} {a : Addr} {v : Value} (h : w.cell? a = some v) : a.block < w.heap.size := by
  unfold World.cell? at h
  split at h
  · rename_i hb; exact (Array.getElem?_eq_some_iff.1 hb).1
  · cases h
theorem ansP_drew {w : World} {xs : List Int} {e : Ending} {w' : World} (h : AnsP w.drew xs e w') : AnsP w xs e w' := AnsP.up h (Below.refl _ _).drew

set_option maxHeartbeats 2000000 in
set_option maxRecDepth 100000 in
theorem kid0_any (N N1 : Nat) (cv rv : Value) (b o n cap : Nat) (hn : 0 < n) (xs : List Int) (w : World) (t0 : w.cell? ⟨N, 0, none⟩ = some cv) (t1 : w.cell? ⟨N, 1, none⟩ = some rv) (t5 : w.cell? ⟨N1, 5, none⟩ = some (.slice (some ⟨b, o, none⟩) n cap)) (B : Nat) (x : Qu) (u0 u1 u2 u3 u4 u5 : Value) (hu : At6 w b (o) u0 u1 u2 u3 u4 u5) (hq : Qm w B x u0 u1 u2 u3 u4 u5) (l : List Col) (ts : List Rw) (hp : Cols w B cv l) (hr : Rws w B rv ts)
    (kc : Calls Try.prog 36 #[.agg #[cv, rv], .agg #[u0, u1, u2, u3, u4, u5]] w.drew (AnsP w.drew xs)) :
    Calls Try.prog 57 #[.int .i64 0, .pointer (some ⟨N, 0, none⟩), .pointer (some ⟨N1, 0, none⟩)] w (AnsP w xs) := by
  obtain ⟨la, lc, rfl, _⟩ := hp.slice
  obtain ⟨ra, rc, rfl, _⟩ := hr.slice
  obtain ⟨kk, kc', kl, kh, ka, kn', kd, kb, km, kp, rfl, rfl, rfl, rfl, rfl, rfl⟩ := hq.shape
  obtain ⟨c0, c1, c2, c3, c4, c5⟩ := hu
  have lN : N < w.heap.size := clt t0
  have lN1 : N1 < w.heap.size := clt t5
  have lb : b < w.heap.size := clt c0
  have hn1 : ((0 : Int)) < (n : Int) := by omega
  have hn2 : (0 : Int) ≤ 0 := by decide
  clear hp hr hq
  go_enter Try.func57, Try.ntmps57
  go_wp2
  go_region_held3 (fun w' => w'.cell? ⟨N, 0, none⟩ = some (.slice la l.length lc) ∧ w'.cell? ⟨N, 1, none⟩ = some (.slice ra ts.length rc) ∧ w'.cell? ⟨N1, 5, none⟩ = some (.slice (some ⟨b, o, none⟩) n cap) ∧ w'.cell? ⟨b, o, none⟩ = some (.int .i64 kk) ∧ w'.cell? ⟨b, o + 1, none⟩ = some (.string kc') ∧ w'.cell? ⟨b, o + 2, none⟩ = some (.int .i64 kl) ∧ w'.cell? ⟨b, o + 3, none⟩ = some (.int .i64 kh) ∧ w'.cell? ⟨b, o + 4, none⟩ = some (.slice ka kn' kd) ∧ w'.cell? ⟨b, o + 5, none⟩ = some (.slice kb km kp)) (first | assumption | (simp [go_sem, *]; done)) ((go_at_call 36; refine kc.mono ?_; rintro x3 w3 hA; obtain ⟨g3, c3', rfl, hA3, hb3⟩ := hA; have z0 := (hb3.cell (p := ⟨N, 0, none⟩) lN).trans t0; have z1 := (hb3.cell (p := ⟨N, 1, none⟩) lN).trans t1; have z2 := (hb3.cell (p := ⟨N1, 5, none⟩) lN1).trans t5; have y0 := (hb3.cell (p := ⟨b, o, none⟩) lb).trans c0; have y1 := (hb3.cell (p := ⟨b, o + 1, none⟩) lb).trans c1; have y2 := (hb3.cell (p := ⟨b, o + 2, none⟩) lb).trans c2; have y3 := (hb3.cell (p := ⟨b, o + 3, none⟩) lb).trans c3; have y4 := (hb3.cell (p := ⟨b, o + 4, none⟩) lb).trans c4; have y5 := (hb3.cell (p := ⟨b, o + 5, none⟩) lb).trans c5))
  go_wp2
  go_ret
  exact ansP_drew ⟨g3, c3', rfl, hA3, hb3⟩
set_option maxHeartbeats 2000000 in
set_option maxRecDepth 100000 in
theorem kid1_any (N N1 : Nat) (cv rv : Value) (b o n cap : Nat) (hn : 1 < n) (xs : List Int) (w : World) (t0 : w.cell? ⟨N, 0, none⟩ = some cv) (t1 : w.cell? ⟨N, 1, none⟩ = some rv) (t5 : w.cell? ⟨N1, 5, none⟩ = some (.slice (some ⟨b, o, none⟩) n cap)) (B : Nat) (x : Qu) (u0 u1 u2 u3 u4 u5 : Value) (hu : At6 w b (o + 6) u0 u1 u2 u3 u4 u5) (hq : Qm w B x u0 u1 u2 u3 u4 u5) (l : List Col) (ts : List Rw) (hp : Cols w B cv l) (hr : Rws w B rv ts)
    (kc : Calls Try.prog 36 #[.agg #[cv, rv], .agg #[u0, u1, u2, u3, u4, u5]] w.drew (AnsP w.drew xs)) :
    Calls Try.prog 57 #[.int .i64 1, .pointer (some ⟨N, 0, none⟩), .pointer (some ⟨N1, 0, none⟩)] w (AnsP w xs) := by
  obtain ⟨la, lc, rfl, _⟩ := hp.slice
  obtain ⟨ra, rc, rfl, _⟩ := hr.slice
  obtain ⟨kk, kc', kl, kh, ka, kn', kd, kb, km, kp, rfl, rfl, rfl, rfl, rfl, rfl⟩ := hq.shape
  obtain ⟨c0, c1, c2, c3, c4, c5⟩ := hu
  have lN : N < w.heap.size := clt t0
  have lN1 : N1 < w.heap.size := clt t5
  have lb : b < w.heap.size := clt c0
  have hn1 : ((1 : Int)) < (n : Int) := by omega
  have hn2 : (0 : Int) ≤ 1 := by decide
  clear hp hr hq
  go_enter Try.func57, Try.ntmps57
  go_wp2
  go_region_held3 (fun w' => w'.cell? ⟨N, 0, none⟩ = some (.slice la l.length lc) ∧ w'.cell? ⟨N, 1, none⟩ = some (.slice ra ts.length rc) ∧ w'.cell? ⟨N1, 5, none⟩ = some (.slice (some ⟨b, o, none⟩) n cap) ∧ w'.cell? ⟨b, o + 6, none⟩ = some (.int .i64 kk) ∧ w'.cell? ⟨b, o + 6 + 1, none⟩ = some (.string kc') ∧ w'.cell? ⟨b, o + 6 + 2, none⟩ = some (.int .i64 kl) ∧ w'.cell? ⟨b, o + 6 + 3, none⟩ = some (.int .i64 kh) ∧ w'.cell? ⟨b, o + 6 + 4, none⟩ = some (.slice ka kn' kd) ∧ w'.cell? ⟨b, o + 6 + 5, none⟩ = some (.slice kb km kp)) (first | assumption | (simp [go_sem, *]; done)) ((go_at_call 36; refine kc.mono ?_; rintro x3 w3 hA; obtain ⟨g3, c3', rfl, hA3, hb3⟩ := hA; have z0 := (hb3.cell (p := ⟨N, 0, none⟩) lN).trans t0; have z1 := (hb3.cell (p := ⟨N, 1, none⟩) lN).trans t1; have z2 := (hb3.cell (p := ⟨N1, 5, none⟩) lN1).trans t5; have y0 := (hb3.cell (p := ⟨b, o + 6, none⟩) lb).trans c0; have y1 := (hb3.cell (p := ⟨b, o + 6 + 1, none⟩) lb).trans c1; have y2 := (hb3.cell (p := ⟨b, o + 6 + 2, none⟩) lb).trans c2; have y3 := (hb3.cell (p := ⟨b, o + 6 + 3, none⟩) lb).trans c3; have y4 := (hb3.cell (p := ⟨b, o + 6 + 4, none⟩) lb).trans c4; have y5 := (hb3.cell (p := ⟨b, o + 6 + 5, none⟩) lb).trans c5))
  go_wp2
  go_ret
  exact ansP_drew ⟨g3, c3', rfl, hA3, hb3⟩
end Go.Proofs.Ytejeiahbnnechaa
