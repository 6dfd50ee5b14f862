import Derived.Test.YtfibbjngllelbaaGreatPrg
namespace Go.Proofs.YtfibbjngllelbaaGreat
open Go.RowKit Go.Shelf Go.Proofs.YtfibbjngllelbaaGreat.Ds

attribute [local go_sem] Oper.semAt_some

/-- what the names' iterator reads -/
structure NamF (w : World) (g b : Nat) (a : Option Addr) (c : Nat) (xs : List (List UInt8)) : Prop where
  cc : w.cell? ⟨g, 0, none⟩ = some (.slice a xs.length c)
  ax : xs ≠ [] → a = some ⟨b, 0, none⟩
  cx : ∀ i x, xs[i]? = some x → w.cell? ⟨b, i, none⟩ = some (encStr x)
theorem NamF.kpt {w w' : World} {g b : Nat} {a : Option Addr} {c : Nat} {xs : List (List UInt8)} {K : Nat → Prop} (h : NamF w g b a c xs) (k : Kpt K w w') (h1 : K g) (h2 : K b) : NamF w' g b a c xs :=
  ⟨(World.cell?_of_block (w := w) (a := ⟨g, 0, none⟩) (k.same _ h1)).trans h.cc, h.ax, fun i x hi => (World.cell?_of_block (w := w) (a := ⟨b, i, none⟩) (k.same _ h2)).trans (h.cx i x hi)⟩
/-- what is handed on: a name -/
def HdN (x : List UInt8) (Wc W1 : World) (args : Array Value) : Prop := W1 = Wc ∧ args = #[encStr x]

set_option maxRecDepth 100000 in
set_option maxHeartbeats 2000000 in
theorem nseq (n : Nat) (hn : 1 ≤ n) (g b : Nat) (a : Option Addr) (c : Nat) (xs : List (List UInt8)) (K : Nat → Prop) (W0 : World) (hsm : xs.length ≤ 4096) (hf : NamF W0 g b a c xs) (kg : K g) (kb : K b) :
    SeqW n 27 #[.pointer (some ⟨g, 0, none⟩)] HdN K xs W0 := by
  intro y J Jx hJ hJx hst hY
  have HF0 : Hid (NamF W0 g b a c xs) := hf
  have c0 := hf.cc
  have HJ0 : Hid (J W0.heap.size [] W0) := hst W0 (gb_refl _ _)
  obtain ⟨m, hm⟩ : ∃ m, W0.heap.size = m := ⟨_, rfl⟩
  have HM0 : Hid (m ≤ W0.heap.size) := by rw [Hid, hm]; exact Nat.le_refl _
  rw [hm] at HJ0
  have hm0 : W0.heap.size ≤ m := by omega
  clear hf hm
  refine callsIn_of_wp Tryz.func27 rfl trivial ?_ rfl
  simp only [Tryz.ntmps27, List.size_toArray, List.length_cons, List.length_nil, Nat.reduceAdd, Nat.reduceSub, Array.replicate_succ, Array.replicate_zero, List.push_toArray, List.append_toArray, List.nil_append, List.cons_append]
  gi_wp2
  gi_loopw [7] (fun s wr => ∃ (k : Nat), s = .int .i64 (k : Int) ∧ k ≤ xs.length ∧ Hid (J m (xs.take k) wr) ∧ Hid (NamF wr g b a c xs) ∧ Hid (m ≤ wr.heap.size)) (fun s _ => xs.length - (intOf s).toNat)
  case atStart => exact ⟨0, rfl, Nat.zero_le _, HJ0, HF0, HM0⟩
  case round =>
    obtain ⟨k, rfl, hk, HJ, HF, HM⟩ := hrel
    by_cases hk1 : k < xs.length
    · obtain ⟨x, hx⟩ := get_lt hk1
      obtain rfl := HF.out.ax (ne_of_lt hk1)
      have e1 := HF.out.cx k x hx
      have e0 := HF.out.cc
      have z1 : (k : Int) < (xs.length : Int) := by omega
      have htk : xs.take (k + 1) = xs.take k ++ [x] := by rw [List.take_add_one, hx]; rfl
      have HTK : Hid (xs.take (k + 1) = xs.take k ++ [x]) := htk
      have hpx : xs.take k ++ [x] <+: xs := by rw [← htk]; exact List.take_prefix _ _
      obtain ⟨fn, tmps, assign, body, hy, hR⟩ := hY m (xs.take k) x wr wr #[encStr x] hm0 HM.out hpx HJ.out (Below.refl _ _) ⟨rfl, rfl⟩
      clear hx htk hpx
      gi_wp2
      refine hR.mono ?_
      rintro e W5 (⟨rfl, hJ5, hk5⟩ | ⟨rfl, hJx5, hk5⟩)
      · have HF5 : Hid (NamF W5 g b (some ⟨b, 0, none⟩) c xs) := HF.out.kpt hk5 (.inl kg) (.inl kb)
        have HM5 : Hid (m ≤ W5.heap.size) := Nat.le_trans HM.out hk5.size
        have HJ5 : Hid (J m (xs.take (k + 1)) W5) := by rw [Hid, HTK.out]; exact hJ5
        clear hJ5
        gi_wp2
        go_roundw
        case rel => exact ⟨k + 1, by go_num, by omega, HJ5, HF5, HM5⟩
        case measure => simp [intOf]; omega
      · gi_wp2
        refine bodyPost_ret (results_none rfl _ _ _) rfl ?_
        exact ⟨⟨_, rfl⟩, m, hm0, .inr ⟨_, hJx5⟩⟩
    · have hk2 : k = xs.length := by omega
      subst hk2
      have e0 := HF.out.cc
      gi_wp2
      go_end0
      exact ⟨⟨_, rfl⟩, m, hm0, .inl (by have := HJ.out; rwa [List.take_length] at this)⟩

set_option maxRecDepth 100000 in
set_option maxHeartbeats 2000000 in
theorem nfun (n : Nat) (hn : 1 ≤ n) (g b : Nat) (a : Option Addr) (c : Nat) (xs : List (List UInt8)) (K : Nat → Prop) (W0 : World) (hsm : xs.length ≤ 4096) (hf : NamF W0 g b a c xs) (kg : K g) (kb : K b) (lb : Array Value) (J Jx : Nat → List (List UInt8) → World → Prop) (hst : ∀ W', W0.grownBy W' none → J W'.heap.size [] W')
    (hY : ∀ m pre x Wc, W0.heap.size ≤ m → m ≤ Wc.heap.size → pre ++ [x] <+: xs → J m pre Wc →
      Calls Tryz.prog 16 (#[encStr x] ++ lb) Wc fun e W' =>
        (e = .returned (.bool true) ∧ J m (pre ++ [x]) W' ∧ Kpt (fun b => K b ∨ (W0.heap.size ≤ b ∧ b < m)) Wc W') ∨
        (e = .returned (.bool false) ∧ Jx m (pre ++ [x]) W' ∧ Kpt (fun b => K b ∨ (W0.heap.size ≤ b ∧ b < m)) Wc W')) :
    CallsIn Fence.wide n Tryz.prog 27 #[.func (.func 16) #[] lb, .pointer (some ⟨g, 0, none⟩)] W0 fun e W' => (∃ v, e = .returned v) ∧ ∃ m, W0.heap.size ≤ m ∧ (J m xs W' ∨ ∃ pre, Jx m pre W') := by
  have HF0 : Hid (NamF W0 g b a c xs) := hf
  have c0 := hf.cc
  have HJ0 : Hid (J W0.heap.size [] W0) := hst W0 (gb_refl _ _)
  obtain ⟨m, hm⟩ : ∃ m, W0.heap.size = m := ⟨_, rfl⟩
  have HM0 : Hid (m ≤ W0.heap.size) := by rw [Hid, hm]; exact Nat.le_refl _
  rw [hm] at HJ0
  have hm0 : W0.heap.size ≤ m := by omega
  clear hf hm
  refine callsIn_of_wp Tryz.func27 rfl trivial ?_ rfl
  simp only [Tryz.ntmps27, List.size_toArray, List.length_cons, List.length_nil, Nat.reduceAdd, Nat.reduceSub, Array.replicate_succ, Array.replicate_zero, List.push_toArray, List.append_toArray, List.nil_append, List.cons_append]
  gi_wp2
  gi_loopw [7] (fun s wr => ∃ (k : Nat), s = .int .i64 (k : Int) ∧ k ≤ xs.length ∧ Hid (J m (xs.take k) wr) ∧ Hid (NamF wr g b a c xs) ∧ Hid (m ≤ wr.heap.size)) (fun s _ => xs.length - (intOf s).toNat)
  case atStart => exact ⟨0, rfl, Nat.zero_le _, HJ0, HF0, HM0⟩
  case round =>
    obtain ⟨k, rfl, hk, HJ, HF, HM⟩ := hrel
    by_cases hk1 : k < xs.length
    · obtain ⟨x, hx⟩ := get_lt hk1
      obtain rfl := HF.out.ax (ne_of_lt hk1)
      have e1 := HF.out.cx k x hx
      have e0 := HF.out.cc
      have z1 : (k : Int) < (xs.length : Int) := by omega
      have htk : xs.take (k + 1) = xs.take k ++ [x] := by rw [List.take_add_one, hx]; rfl
      have HTK : Hid (xs.take (k + 1) = xs.take k ++ [x]) := htk
      have hpx : xs.take k ++ [x] <+: xs := by rw [← htk]; exact List.take_prefix _ _
      have hR := hY m (xs.take k) x wr hm0 HM.out hpx HJ.out
      clear hx htk hpx
      gi_wp2_with fail
      refine ⟨trivial, ?_⟩
      refine (callsIn_wide.2 hR).mono ?_
      rintro e W5 (⟨rfl, hJ5, hk5⟩ | ⟨rfl, hJx5, hk5⟩)
      · have HF5 : Hid (NamF W5 g b (some ⟨b, 0, none⟩) c xs) := HF.out.kpt hk5 (.inl kg) (.inl kb)
        have HM5 : Hid (m ≤ W5.heap.size) := Nat.le_trans HM.out hk5.size
        have HJ5 : Hid (J m (xs.take (k + 1)) W5) := by rw [Hid, HTK.out]; exact hJ5
        clear hJ5
        gi_wp2
        go_roundw
        case rel => exact ⟨k + 1, by go_num, by omega, HJ5, HF5, HM5⟩
        case measure => simp [intOf]; omega
      · gi_wp2
        refine bodyPost_ret (results_none rfl _ _ _) rfl ?_
        exact ⟨⟨_, rfl⟩, m, hm0, .inr ⟨_, hJx5⟩⟩
    · have hk2 : k = xs.length := by omega
      subst hk2
      have e0 := HF.out.cc
      gi_wp2
      go_end0
      exact ⟨⟨_, rfl⟩, m, hm0, .inl (by have := HJ.out; rwa [List.take_length] at this)⟩

end Go.Proofs.YtfibbjngllelbaaGreat
