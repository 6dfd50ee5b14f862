import Derived.Test.YtjembpcpefgdpaaDoorQc22
import Derived.Test.YtjembpcpefgdpaaDoorQc20
namespace Go.Proofs.YtjembpcpefgdpaaDoor
open Go.RowKit Go.Proofs.YtjembpcpefgdpaaDoor.Ds

/-- a list is stored -/
theorem Row.setS {w : World} {b : Nat} {us : List Tr} (h : Row w b 0 us) {i : Nat} {t : Tr} (ht : us[i]? = some t) (s : Value) :
    Row (w.setCell ⟨b, i * 2, none⟩ s) b 0 (us.set i (s, t.2.1, t.2.2)) := by
  have hi := (List.getElem?_eq_some_iff.1 ht).1
  refine ⟨fun j u hu => ?_, fun j hj => by rw [sc_frozen]; exact h.thaw j (by simpa using hj), by simpa using h.lt⟩
  by_cases hj : i = j
  · subst hj
    rw [List.getElem?_set_self hi] at hu
    obtain rfl : (s, t.2.1, t.2.2) = u := by simpa using hu
    have c := h.cells i t ht
    rw [Nat.zero_add] at c ⊢
    exact ⟨sc_same c.1, by rw [sc_other (by simp)]; exact c.2⟩
  · rw [List.getElem?_set_ne hj] at hu
    have c := h.cells j u hu
    exact ⟨by rw [sc_other (by simp <;> omega)]; exact c.1, by rw [sc_other (by simp <;> omega)]; exact c.2⟩
theorem rd_setS {us : List Tr} {i : Nat} {t : Tr} (ht : us[i]? = some t) (s : Value) : rd (us.set i (s, t.2.1, t.2.2)) = rd us := by
  rw [rd_set]
  have := rd_get ht
  apply List.ext_getElem?
  intro j
  rw [List.getElem?_set]
  by_cases hj : i = j
  · subst hj
    rw [if_pos rfl, this]
    split
    · rfl
    · rename_i hh; exact absurd (List.getElem?_eq_some_iff.1 this).1 hh
  · rw [if_neg hj]
theorem frs_set {lo i : Nat} {us : List Tr} (h : Frs lo (us.take i)) (hi : i < us.length) {t : Tr} (ht : t.2.1 ≠ [] → ∀ b o sp n c, t.1 = .slice (some ⟨b, o, sp⟩) n c → lo ≤ b) : Frs lo ((us.set i t).take (i + 1)) := by
  rw [take_set_succ _ hi]
  intro x hx
  rcases List.mem_append.1 hx with h1 | h1
  · exact h x h1
  · obtain rfl : x = t := by simpa using h1
    exact ht

set_option maxHeartbeats 2000000 in
set_option maxRecDepth 100000 in
/-- copied -/
theorem ncopied_fr (B : Nat) (v : Value) (ts : List Tr) (w : World) (hB : B ≤ w.heap.size) (hp : Parts w B v ts) :
    Calls Tryd.prog 54 #[v] w fun e w' => ∃ v' us, e = .returned v' ∧ OwnN w' w.heap.size v' us ∧ rd us = rd ts ∧ Below w.heap.size w w' ∧ Frs w.heap.size us := by
  have HP : Hid (Parts w B v ts) := hp
  have kc := cloneD_any B v ts w hB hp
  obtain ⟨a, c, rfl, hc, hl, _⟩ := hp
  go_enter Tryd.func54, Tryd.ntmps54
  go_wp2_with fail
  refine kc.mono ?_
  rintro e w1 ⟨v1, rfl, hb1, hv1⟩
  rcases hv1 with ⟨hts, rfl⟩ | ⟨g, cap, rfl, hcap, hgb, hrow⟩
  · subst hts
    clear kc
    go_wp2
    go_loopw [10] (fun s wr => s = .int .i64 0 ∧ wr = w1) (fun _ _ => 0)
    case atStart => exact ⟨rfl, rfl⟩
    case round =>
      obtain ⟨rfl, rfl⟩ := hrel
      go_wp2
      go_ret
      exact ⟨_, [], rfl, .inl ⟨rfl, rfl⟩, rfl, hb1, Frs.nil _⟩
  · have HR : Hid (Row w1 g 0 ts) := hrow
    have hgl := hrow.lt
    clear hrow kc
    go_wp2
    go_loopw [10] (fun s wr => ∃ (i : Nat) (us : List Tr), s = .int .i64 (i : Int) ∧ i ≤ ts.length ∧ Hid (us.length = ts.length ∧ rd us = rd ts) ∧ Hid (Row wr g 0 us) ∧ Hid (∀ t ∈ us, Ints wr wr.heap.size g t.1 t.2.1) ∧ Hid (Frs w.heap.size (us.take i)) ∧ Below w.heap.size w wr) (fun s _ => ts.length - (intOf s).toNat)
    case atStart =>
      refine ⟨0, ts, rfl, Nat.zero_le _, ⟨rfl, rfl⟩, HR, fun t ht => ?_, by simp [Hid, Frs.nil], hb1⟩
      exact ((HP.out.elem hB (Below.refl _ _) ht).at hB hb1).mono (Nat.le_trans hB hb1.size) (.inr (by omega))
    case round =>
      obtain ⟨i, us, rfl, hit, HU, HRw, HI, HF, hbl⟩ := hrel
      have hsz := hbl.size
      have hgw := HRw.out.lt
      by_cases h1 : i < ts.length
      · obtain ⟨b, o, sa, sc, xs, k, rfl, hb, hs, c1, c2, hIx⟩ := HP.out.get hB hbl h1
        have HIx : Hid (Ints wr B B (.slice sa xs.length sc) xs) := hIx
        obtain ⟨⟨s0, x0, k0⟩, ht0⟩ := get_lt (l := us) (i := i) (by rw [HU.out.1]; exact h1)
        have hxk : x0 = xs ∧ k0 = k := by
          have e1 := rd_get ht0
          have e2 := rd_get hs
          rw [HU.out.2, e2] at e1
          simp at e1
          exact ⟨e1.1.symm, e1.2.symm⟩
        obtain ⟨rfl, rfl⟩ := hxk
        have HT0 : Hid (us[i]? = some (s0, x0, k0)) := ht0
        obtain ⟨r4, r5⟩ := HRw.out.cells i _ ht0
        have r2 := HRw.out.thaw (i * 2) (by rw [HU.out.1]; omega)
        simp only [Nat.zero_add] at r2 r4 r5
        have kn := fun W (h : Below wr.heap.size wr W) => cloneN_any B B (.slice sa x0.length sc) x0 W (Nat.le_trans hB (Nat.le_trans hbl.size h.size)) (HIx.out.at (Nat.le_trans hB hbl.size) h)
        clear hs hIx ht0
        have q1 : (wr.alloc (.cells #[.slice sa x0.length sc, .int .i64 k0] 68)).cell? ⟨g, i * 2, none⟩ = some s0 := by rw [World.cell?_alloc_lt _ _ _ hgw]; exact r4
        have q2 : (wr.alloc (.cells #[.slice sa x0.length sc, .int .i64 k0] 68)).frozen? ⟨g, i * 2, none⟩ = false := by rw [(ba wr _).frozen hgw]; exact r2
        go_wp2_with fail
        refine (kn _ (ba _ _)).mono ?_
        rintro e w2 ⟨v2, rfl, hI2, hb2⟩
        have hs2 : wr.heap.size < w2.heap.size := by have := hb2.size; simp at this; omega
        have hz2 : 0 < (wr.alloc (.cells #[.slice sa x0.length sc, .int .i64 k0] 68)).heap.size := by simp
        obtain ⟨av, cv, hv2, _⟩ := hI2 0 hz2
        subst hv2
        have hgl2 : g < (wr.alloc (.cells #[.slice sa x0.length sc, .int .i64 k0] 68)).heap.size := by simp; omega
        have k1 : w2.cell? ⟨g, i * 2, none⟩ = some s0 := ((bcell hb2).1 _ _ hgl2).trans q1
        have k2 : w2.frozen? ⟨g, i * 2, none⟩ = false := ((bcell hb2).2 _ _ hgl2).trans q2
        have HB2 : Hid (Below wr.heap.size wr w2) := bt (ba _ _) hb2
        have HR2 : Hid (Row (w2.setCell ⟨g, i * 2, none⟩ (.slice av x0.length cv)) g 0 (us.set i (.slice av x0.length cv, x0, k0))) := (HRw.out.keep HB2.out).setS HT0.out (.slice av x0.length cv)
        have HI3 : Hid (∀ t ∈ us.set i (.slice av x0.length cv, x0, k0), Ints (w2.setCell ⟨g, i * 2, none⟩ (.slice av x0.length cv)) (w2.setCell ⟨g, i * 2, none⟩ (.slice av x0.length cv)).heap.size g t.1 t.2.1) := by
          intro t ht
          have h3 : Ints w2 w2.heap.size g t.1 t.2.1 := by
            rcases List.mem_or_eq_of_mem_set ht with h | rfl
            · exact (HI.out t h).at2 HB2.out
            · exact hI2 g hgl2
          have h4 := h3.set (p := ⟨g, i * 2, none⟩) rfl (.slice av x0.length cv)
          simpa using h4
        have HF2 : Hid (Frs w.heap.size ((us.set i (.slice av x0.length cv, x0, k0)).take (i + 1))) := frs_set HF.out (by rw [HU.out.1]; exact h1) (fr_of (w := w2) (B := w2.heap.size) fun m hm => hI2 m (by simp; omega))
        have HU2 : Hid ((us.set i (.slice av x0.length cv, x0, k0)).length = ts.length ∧ rd (us.set i (.slice av x0.length cv, x0, k0)) = rd ts) := ⟨by simp [HU.out.1], (rd_setS HT0.out _).trans HU.out.2⟩
        have HB3 : Hid (Below w.heap.size w (w2.setCell ⟨g, i * 2, none⟩ (.slice av x0.length cv))) := bs (bt hbl HB2.out) hgb _
        clear hI2 hb2 q1 q2 kn HT0
        go_wp2
        go_roundw
        case rel => exact ⟨i + 1, _, by go_num, h1, HU2, HR2, HI3, HF2, HB3.out⟩
        case measure => simp [intOf]; omega
      · have hii : ts.length ≤ i := by omega
        have HZ : Hid (OwnN wr w.heap.size (.slice (some ⟨g, 0, none⟩) ts.length cap) us ∧ rd us = rd ts ∧ Frs w.heap.size us) := by
          refine ⟨.inr ⟨g, 0, cap, by rw [HU.out.1], by rw [HU.out.1]; exact hcap, by rw [HU.out.1]; exact hl, hgb, HRw.out, HI.out⟩, HU.out.2, ?_⟩
          have := HF.out
          rwa [List.take_of_length_le (by rw [HU.out.1]; exact hii)] at this
        go_wp2
        go_ret
        exact ⟨_, us, rfl, HZ.out.1, HZ.out.2.1, hbl, HZ.out.2.2⟩
end Go.Proofs.YtjembpcpefgdpaaDoor
