import Derived.Test.YtjnclbhpdaonhaaRfo
import Derived.Test.YtjnclbhpdaonhaaEvs
namespace Go.Proofs.Ytjnclbhpdaonhaa
open Go.RowKit Go.Proofs.Ytjnclbhpdaonhaa.Ds

/-- what is still to be done where v may be n or more -/
def evH (n v c k : Int) (l : List Int) : Option (List Int × Int × List Int) :=
  if v < n then evGo n (v, c, k) l else if n ≤ c then evGo n (v - n, c - n, k) l else some ([c], k, l)
theorem evH_start (n : Int) (l : List Int) (hn : 1 ≤ n) : evN n l = evH n 1 0 0 l := by
  unfold evN evH
  by_cases h : n = 1
  · subst h; simp
  · rw [if_neg h, if_pos (by omega)]
    unfold evGo
    cases evT n 1 0 0 l <;> rfl
theorem evH_step (n v c k b : Int) (l : List Int) (hv : v < n) : evH n v c k (b :: l) = evH n (2 * v) (2 * c + b) (k + 1) l := by
  unfold evH
  rw [if_pos hv]
  unfold evGo
  simp only [evT]
  by_cases h1 : 2 * v < n
  · rw [if_pos h1, if_pos h1]
  · rw [if_neg h1, if_neg h1]
    by_cases h2 : n ≤ 2 * c + b
    · rw [if_pos h2, if_pos h2]
    · rw [if_neg h2, if_neg h2]

theorem one_new3 (w : World) (x : Int) (m : Nat) (t : TypeId) (hm : m ≠ w.heap.size) : Ints (w.alloc (.cells #[.int .i64 x] t)) (w.heap.size + 1) m (.slice (some ⟨w.heap.size, 0, none⟩) 1 1) [x] := by
  refine ⟨_, 1, rfl, by simp, by simp, fun _ => ⟨w.heap.size, 0, rfl, by omega, by omega, fun i z hi => ?_⟩⟩
  match i, hi with
  | 0, hi => simp at hi; subst hi; exact nc _ _ 0 _ rfl rfl

set_option maxHeartbeats 2000000 in
set_option maxRecDepth 100000 in
theorem evenR_any (lo B nb : Nat) (n : Int) (u : Value) (bits : List Int) (w : World) (hB : B ≤ w.heap.size) (hu : Ints w B nb u bits) (hn : 1 ≤ n ∧ n ≤ 1073741824) (hbad : badB bits = false) (hlen : bits.length ≤ 65536) :
    Calls Try.prog 22 #[.int .i64 n, u] w (OneP lo (evN n) bits w) := by
  have HU : Hid (Ints w B nb u bits) := hu
  have HBad : Hid (badB bits = false) := hbad
  have HR0 : Hid (Rv (w.alloc (.cells #[.slice none 0 0, .int .i64 0] 38)) w.heap.size (.slice none 0 0) 0) := Rv.new _ _ _ _ _ rfl
  have hb0 : Below w.heap.size w (w.alloc (.cells #[.slice none 0 0, .int .i64 0] 38)) := ba _ _
  have HS : Hid (evN n bits = evH n 1 0 0 bits) := evH_start n bits hn.1
  obtain ⟨ua, uc, rfl, huc, _⟩ := hu
  clear hbad
  go_enter Try.func22, Try.ntmps22
  go_wp2
  go_loopw [6, 7, 8] (fun vv cv kv wr => ∃ (v c : Int) (k : Nat), vv = .int .i64 v ∧ cv = .int .i64 c ∧ kv = .int .i64 (k : Int) ∧ 1 ≤ v ∧ v < 2 * n ∧ 0 ≤ c ∧ c < v ∧ k ≤ bits.length ∧ Hid (evN n bits = evH n v c k (bits.drop k)) ∧ Below w.heap.size w wr ∧ Hid (Rv wr w.heap.size (.slice none 0 0) 0)) (fun _ _ kv _ => bits.length - (intOf kv).toNat)
  case atStart => exact ⟨1, 0, 0, rfl, rfl, rfl, by omega, by omega, by omega, by omega, Nat.zero_le _, by simpa [Hid] using HS.out, hb0, HR0⟩
  case round =>
    obtain ⟨v0, c0, k, rfl, rfl, rfl, hv1, hv2, hc1, hc2, hk, HE, hbl, HV⟩ := hrel
    have hz : w.heap.size + 1 ≤ wr.heap.size := HV.out.lt
    obtain ⟨wo, hwo⟩ : ∃ wo : World, wo = wr := ⟨_, rfl⟩
    subst hwo
    go_wp2
    go_loop [6, 7] (fun vv cv => ∃ (v c : Int), vv = .int .i64 v ∧ cv = .int .i64 c ∧ 1 ≤ v ∧ v < 2 * n ∧ 0 ≤ c ∧ c < v ∧ Hid (evN n bits = evH n v c k (bits.drop k))) (fun vv _ => (intOf vv).toNat)
    case atStart => exact ⟨v0, c0, rfl, rfl, hv1, hv2, hc1, hc2, HE⟩
    case round =>
      obtain ⟨v, c, rfl, rfl, q1, q2, q3, q4, HE1⟩ := hrel
      by_cases h1 : n ≤ v
      · by_cases h2 : n ≤ c
        · have HE2 : Hid (evN n bits = evH n (v - n) (c - n) k (bits.drop k)) := by
            rw [Hid, HE1.out]
            unfold evH
            rw [if_neg (by omega), if_pos h2, if_pos (by omega)]
          go_wp2
          go_round
          case rel => exact ⟨v - n, c - n, rfl, rfl, by omega, by omega, by omega, by omega, HE2⟩
          case measure => simp [intOf]; omega
        · have HE2 : Hid (evN n bits = some ([c], (k : Int), bits.drop k)) := by
            rw [Hid, HE1.out]
            unfold evH
            rw [if_neg (by omega), if_neg h2]
          obtain ⟨r0, r1, r2, r3, r4⟩ := id HV.out
          go_wp2
          generalize hY : (wo.setCell ⟨w.heap.size, 0, none⟩ (.slice (some ⟨wo.heap.size, 0, none⟩) 1 1)).setCell ⟨w.heap.size, 1, none⟩ (.int .i64 (k : Int)) = Y
          have hys : Y.heap.size = wo.heap.size := by rw [← hY]; simp
          have HVY : Rv (Y.alloc (.cells #[.int .i64 c] 3)) w.heap.size (.slice (some ⟨wo.heap.size, 0, none⟩) 1 1) (k : Int) := hY ▸ (HV.out.put _ _).alloc _
          have hbY : Below w.heap.size w (Y.alloc (.cells #[.int .i64 c] 3)) := (hY ▸ bs (bs hbl (p := ⟨w.heap.size, 0, none⟩) (Nat.le_refl _) _) (p := ⟨w.heap.size, 1, none⟩) (Nat.le_refl _) _ : Below w.heap.size w Y).alloc (by omega) _
          have HIY : ∀ m, m ≠ wo.heap.size → Ints (Y.alloc (.cells #[.int .i64 c] 3)) (wo.heap.size + 1) m (.slice (some ⟨wo.heap.size, 0, none⟩) 1 1) [c] := fun m hm => by
            have := one_new3 Y c m 3 (by rw [hys]; exact hm)
            rw [hys] at this
            exact this
          have hxs : (Y.alloc (.cells #[.int .i64 c] 3)).heap.size = wo.heap.size + 1 := by simp [hys]
          clear hY
          generalize hX : Y.alloc (.cells #[.int .i64 c] 3) = X at HVY hbY HIY hxs ⊢
          obtain ⟨z0, z1, _, _, _⟩ := HVY
          exact bodyPost_ret (v := .tuple #[.agg #[.slice (some ⟨wo.heap.size, 0, none⟩) 1 1, .int .i64 (k : Int)], .bool true]) (by simp [results, Try.results22, go_sem, z0, z1]) rfl ⟨hbY, .inr ⟨some ⟨wo.heap.size, 0, none⟩, 1, [c], k, HE2.out, hk, rfl, fun m hm => by rw [hxs]; exact HIY m (by omega)⟩⟩
      · by_cases h3 : k < bits.length
        · obtain ⟨b, hb⟩ := get_lt h3
          have hbit := bad_get HBad.out hb
          obtain ⟨_, _, hv', _, _, hx⟩ := HU.out.at hB hbl
          simp only [Value.slice.injEq] at hv'
          obtain ⟨rfl, _, rfl⟩ := hv'
          obtain ⟨ub, uo, rfl, hubB, _, hcell⟩ := hx (ne_of_lt h3)
          have c1 := hcell k b hb
          have hkl : (k : Int) < (bits.length : Int) := by omega
          have hke : ((k : Int) == (bits.length : Int)) = false := by simp; omega
          have hke2 : ¬ (k : Int) = (bits.length : Int) := by omega
          have HE2 : Hid (evN n bits = evH n (2 * v) (2 * c + b) (k + 1 : Nat) (bits.drop (k + 1))) := by
            rw [Hid, HE1.out, List.drop_eq_getElem_cons h3, (List.getElem?_eq_some_iff.1 hb).2, evH_step n v c k b _ (by omega)]; rfl
          clear hb hx hcell
          go_wp2
          go_quiet (fail)
          go_wp2
          go_roundw
          case rel => exact ⟨2 * v, 2 * c + b, k + 1, rfl, rfl, by go_num, by omega, by omega, by omega, by omega, h3, HE2, below_drewN hbl _, HV.out.below (below_drewN (Below.refl _ _) _)⟩
          case measure => simp [intOf]; omega
        · have HE2 : Hid (evN n bits = none) := by
            rw [Hid, HE1.out, List.drop_eq_nil_of_le (by omega)]
            unfold evH
            rw [if_pos (by omega)]; rfl
          have hke : ((k : Int) == (bits.length : Int)) = true := by simp; omega
          have hke2 : (k : Int) = (bits.length : Int) := by omega
          have HVZ := HV.out.put (.slice none 0 0) 0
          obtain ⟨r0, r1, r2, r3, _⟩ := id HV.out
          have hbl2 := hbl
          go_wp2
          obtain ⟨z0, z1, _, _, _⟩ := HVZ
          exact bodyPost_ret (v := .tuple #[noD, .bool false]) (by simp [results, Try.results22, go_sem, z0, z1]) rfl ⟨bs (bs hbl2 (p := ⟨w.heap.size, 0, none⟩) (Nat.le_refl _) _) (p := ⟨w.heap.size, 1, none⟩) (Nat.le_refl _) _, .inl ⟨HE2.out, rfl⟩⟩
end Go.Proofs.Ytjnclbhpdaonhaa
