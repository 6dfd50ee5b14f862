import Derived.Test.YtjnclbhpdaonhaaRof
import Derived.Test.YtjnclbhpdaonhaaNew
import Derived.Test.YtjnclbhpdaonhaaDrr
namespace Go.Proofs.Ytjnclbhpdaonhaa
open Go.RowKit Go.Proofs.Ytjnclbhpdaonhaa.Ds

/-- how far a roller has come: node, bits, place -/
abbrev RoI := Int × Int × Int
def RoSt (N E : Nat) (a : Option Addr) (c : Nat) (us : List Tr) (w : World) (s : RoI) : Prop :=
  Rob w E (.slice a us.length c) (tot (rd us)) s.1 s.2.1 s.2.2 ∧ Rop w N E a c us ∧ (2 ≤ us.length → 0 ≤ s.2.2 ∧ s.2.2 < tot (rd us) ∧ Nd (tot (rd us)) s.2.2 (rd us) s.1)
def roGo (l : List Pt) (s : RoI) : Nx := fun bits => roT (tot l) l s.2.2 s.1 s.2.1 bits

theorem roN_is {l : List Pt} : nxT (roGo l) (0, 0, 1) (roSure l) = roN l := by
  funext bits
  match l with
  | [] => rfl
  | [p] => rfl
  | _ :: _ :: _ => rfl

theorem RoSt.start {N E : Nat} {a : Option Addr} {c : Nat} {us : List Tr} {w : World} (hD : Dis (rd us)) (h : Rob w E (.slice a us.length c) (tot (rd us)) 0 0 1) (hP : Rop w N E a c us) : RoSt N E a c us w (0, 0, 1) := by
  refine ⟨h, hP, fun h2 => ?_⟩
  have h3 := hD.less (by rw [rd_len]; exact h2)
  refine ⟨by simp, ?_, Nd.start h3⟩
  cases us with
  | nil => simp at h2
  | cons t us =>
    have h4 := h3 t.2 (by simp [rd])
    have h5 := hD.pos t.2 (by simp [rd])
    simp only
    omega

theorem ro_drw (N E : Nat) (a : Option Addr) (c : Nat) (us : List Tr) (hD : Dis (rd us)) (hE : E < N) : Drw N E 24 23 (RoSt N E a c us) (roGo (rd us)) (fun s => s.2.1) (0, 0, 1) (roSure (rd us)) where
  keep := fun h hb _ => ⟨h.1.keep hb hE, h.2.1.keep hb, h.2.2⟩
  lt := hE
  nil := fun s => rfl
  u0 := rfl
  sure := fun w s h hN => roSure_any N E a c us _ s.1 s.2.1 s.2.2 w h.1 h.2.1 hN
  feed := by
    intro hs w s b h hN hb hu
    have hl : 2 ≤ us.length := by
      rcases Nat.lt_or_ge us.length 2 with h1 | h1
      · match us, hs, hD, h1 with
        | [], _, hD, _ => exact absurd rfl hD.ne
        | [t], hs, _, _ => simp [roSure, rd] at hs
      · exact h1
    obtain ⟨nd, u, pl⟩ := s
    obtain ⟨q1, q2, q3⟩ := h.2.2 hl
    simp only at q1 q2 q3 hu
    have hT := hD.tpos
    have hT2 := hD.le
    have hnd := q3.le (by omega)
    have hfw := h.2.1.few
    have hk : ∀ t ∈ us, 0 ≤ t.2.2 ∧ t.2.2 ≤ 1073741824 := fun t ht => by
      have := hD.less (by rw [rd_len]; exact hl) t.2 (List.mem_map_of_mem (f := fun t : Tr => t.2) ht)
      omega
    rw [rd_len] at hnd
    have hbit : bits .and .i64 b 1 = b := by
      rcases (show b = 0 ∨ b = 1 by omega) with rfl | rfl <;> decide
    refine (roFeed_any N E a c us (tot (rd us)) nd u pl b b w h.1 h.2.1 hN hl ⟨hT, hT2⟩ ⟨q1, q2⟩ hk ⟨hu.1, by omega⟩ ⟨hnd.1, by omega⟩ hb hbit).mono ?_
    rintro e w' ⟨hg, ⟨rfl, k1, k2⟩ | ⟨a', c', o, rfl, k0, k1, k2⟩⟩
    · have hlen := List.getElem?_eq_none_iff.1 k1
      refine ⟨hg, .inl ⟨rfl, (2 * nd + b - (lvT (tot (rd us)) pl (rd us)).length, u + 1, 2 * pl % tot (rd us)), ⟨k2, h.2.1.gb hg, fun _ => ?_⟩, rfl, fun l => ?_⟩⟩
      · refine ⟨Int.emod_nonneg _ (by omega), Int.emod_lt_of_pos _ (by omega), q3.next (by omega) hb (by omega)⟩
      · simp only [roGo, roT, k1]
    · refine ⟨hg, .inr ⟨a', c', o, rfl, k0, RoSt.start hD k2 (h.2.1.gb hg), fun l => ?_⟩⟩
      simp only [roGo, roT, k1]

/-- Rolls -/
def rollsT (l : List Pt) (bits : List Int) (times : Int) : List Pt × Int := if (ownT l).2 = 0 then drawsT (roN l) bits times else ([], (ownT l).2)

set_option maxHeartbeats 1000000 in
theorem rolls_any (B nb : Nat) (v u : Value) (ts : List Tr) (bits : List Int) (times : Int) (w : World) (hB : B ≤ w.heap.size) (hp : Parts w B v ts) (hv : Ints w B nb u bits) (ht : -9223372036854775808 ≤ times ∧ times ≤ 9223372036854775807) (l : List Pt) (er : Int) (hr : rollsT (rd ts) bits times = (l, er)) :
    Calls Try.prog 7 #[v, u, .int .i64 times] w (AnsP l er w) := by
  obtain ⟨⟨l0, e0⟩, ho⟩ : ∃ x, ownT (rd ts) = x := ⟨_, rfl⟩
  have kn := new_any B v ts w hB hp l0 e0 ho
  have HV : Hid (Ints w B nb u bits) := hv
  have HO : Hid (ownT (rd ts) = (l0, e0)) := ho
  have HR : Hid (rollsT (rd ts) bits times = (l, er)) := hr
  obtain ⟨a, c, rfl, hc, hl, _⟩ := hp
  obtain ⟨ua, uc, rfl, _⟩ := hv
  clear hr ho
  go_enter Try.func7, Try.ntmps7
  go_wp2_with fail
  refine kn.mono ?_
  rintro e w1 ⟨hb1, ⟨h0, rfl⟩ | ⟨rfl, E, ra, rc, us, rfl, h1, h2, h3, h4⟩⟩
  · have h0' : (e0 == 0) = false := by simpa using h0
    have h := HR.out
    simp only [rollsT, HO.out, if_neg h0, Prod.mk.injEq] at h
    obtain ⟨rfl, rfl⟩ := h
    clear kn
    go_wp2
    exact bodyPost_ret (v := .tuple #[.slice none 0 0, .int .i64 e0]) (by simp [results, Try.results7, go_sem]) rfl ⟨.slice none 0 0, [], rfl, rfl, parts_nil _ _, hb1, NewAt.nil _⟩
  · obtain ⟨_, hD⟩ := ownT_ok HO.out
    have h : drawsT (nxT (roGo (rd us)) (0, 0, 1) (roSure (rd us))) bits times = (l, er) := by
      have h := HR.out
      simp only [rollsT, HO.out, if_true] at h
      rw [roN_is, h1]
      exact h
    rw [← h1] at hD h2
    have hs1 := hb1.size
    have kd := draws_r w.heap.size w1.heap.size E (RoSt w1.heap.size E ra rc us) (roGo (rd us)) (fun s => s.2.1) (0, 0, 1) (roSure (rd us)) (ro_drw w1.heap.size E ra rc us hD h2.lt) (.slice ua bits.length uc) bits times w1 (by omega) (Nat.le_refl _) (RoSt.start hD h2 h3) ((HV.out.at hB hb1).mono hB (.inr (by omega))) ht l er h
    clear kn h h2 h3 hD h1
    go_wp2_with fail
    refine kd.mono ?_
    rintro e w2 ⟨v2, ds, rfl, k1, k2, k3, k4⟩
    obtain ⟨a2, c2, rfl, _⟩ := id k2
    have K : Hid (rd ds = l ∧ Parts w2 w2.heap.size (.slice a2 ds.length c2) ds ∧ Below w.heap.size w w2 ∧ NewAt w.heap.size (.slice a2 ds.length c2) ds) := ⟨k1, k2, hb1.trans (below_gb k3 h4 hs1), k4.mono hs1⟩
    clear kd k1 k2 k3 k4
    go_wp2
    exact bodyPost_ret (v := .tuple #[.slice a2 ds.length c2, .int .i64 er]) (by simp [results, Try.results7, go_sem]) rfl ⟨_, ds, rfl, K.out.1, K.out.2.1, K.out.2.2.1, K.out.2.2.2⟩
end Go.Proofs.Ytjnclbhpdaonhaa
