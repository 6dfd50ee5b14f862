import Derived.Test.YtnoedkebmpfagaaWfr
import Derived.BigRegion
/-
  The reference's Count, Number, text, Frame.
-/
namespace Go.Proofs.Ytnoedkebmpfagaa
open Go.RowKit Wc

/-- a byte of its own, as a text -/
theorem conv1 (V : World) (x : Int) (n : Nat) (hn : n < 256) (hx : x = (n : Int)) : (convert 47 9 (.slice (some ⟨V.heap.size, 0, none⟩) 1 1)).run Try.prog (V.alloc (.cells #[.int .u8 x] 5)) = .ok (.string (tx [UInt8.ofNat n])) (V.alloc (.cells #[.int .u8 x] 5)) := by
  subst hx
  refine run_convert_bytes_back (P := Try.prog) _ 47 9 5 ⟨V.heap.size, 0, none⟩ 1 [UInt8.ofNat n] Try.underlying47 Try.underlying5 Try.underlying9 (fun j hj => ?_)
  have hj0 : j = 0 := by simp at hj; exact hj
  subst hj0
  rw [Addr.add_lit, Nat.zero_add, World.cell?_alloc_at _ _ _ _ rfl]
  show some (Value.int .u8 (n : Int)) = some (Value.int .u8 (((UInt8.ofNat n).toNat : Nat) : Int))
  rw [u8c hn]
theorem conv2 {V w1 : World} {x : Int} {n g : Nat} (hn : n < 256) (hx : x = (n : Int)) (hg : g = V.heap.size) (b : Below (V.alloc (.cells #[.int .u8 x] 5)).heap.size (V.alloc (.cells #[.int .u8 x] 5)) w1) : (convert 47 9 (.slice (some ⟨g, 0, none⟩) 1 1)).run Try.prog w1 = .ok (.string (tx [UInt8.ofNat n])) w1 := by
  subst hx hg
  refine run_convert_bytes_back (P := Try.prog) _ 47 9 5 ⟨V.heap.size, 0, none⟩ 1 [UInt8.ofNat n] Try.underlying47 Try.underlying5 Try.underlying9 (fun j hj => ?_)
  have hj0 : j = 0 := by simp at hj; exact hj
  subst hj0
  rw [Addr.add_lit, Nat.zero_add]
  rw [b.cell (p := ⟨V.heap.size, 0, none⟩) (by simp), World.cell?_alloc_at _ _ _ _ rfl]
  show some (Value.int .u8 (n : Int)) = some (Value.int .u8 (((UInt8.ofNat n).toNat : Nat) : Int))
  rw [u8c hn]
theorem conv1d (V : World) (x : Int) (n : Nat) (hn : n < 256) (hx : x = (n : Int)) : (convert 47 9 (.slice (some ⟨V.heap.size, 0, none⟩) 1 1)).run Try.prog (V.alloc (.cells #[.int .u8 x] 5)).drew = .ok (.string (tx [UInt8.ofNat n])) (V.alloc (.cells #[.int .u8 x] 5)).drew :=
  conv2 hn hx rfl (Below.refl _ _).drew
theorem conv2d {V w1 : World} {x : Int} {n g : Nat} (hn : n < 256) (hx : x = (n : Int)) (hg : g = V.heap.size) (b : Below (V.alloc (.cells #[.int .u8 x] 5)).drew.heap.size (V.alloc (.cells #[.int .u8 x] 5)).drew w1) : (convert 47 9 (.slice (some ⟨g, 0, none⟩) 1 1)).run Try.prog w1 = .ok (.string (tx [UInt8.ofNat n])) w1 :=
  conv2 (V := V) hn hx hg ((Below.refl _ _).drew.trans b)
theorem bdA {V w1 : World} {o : Obj} (b : Below (V.alloc o).drew.heap.size (V.alloc o).drew w1) : Below V.heap.size V w1 := (ba V o).drew.trans (b.mono (by simp))
theorem bdB {V w1 : World} {o : Obj} (b : Below V.drew.heap.size V.drew w1) : Below V.heap.size V (w1.alloc o) := bal ((Below.refl _ _).drew.trans b) o
theorem cntT_len (n : Nat) (h : n < 18446744073709551616) : (cntT n).length ≤ 10 := by
  have key : ∀ k n, n < 128 ^ (k + 1) → (cntT n).length ≤ k + 1 := by
    intro k
    induction k with
    | zero => intro n h; rw [cntT_lt (by simpa using h)]; simp
    | succ k ih =>
      intro n h
      by_cases c : n < 128
      · rw [cntT_lt c]; simp
      · rw [cntT_ge c]
        have := ih (n / 128) (by rw [Nat.pow_succ] at h; exact Nat.div_lt_of_lt_mul (by rw [Nat.mul_comm]; exact h))
        simp only [List.length_cons]; omega
  exact key 9 n (by have : (128 : Nat) ^ 10 = 1180591620717411303424 := by decide
                    omega)
set_option maxHeartbeats 1000000 in
theorem refcount_any (n : Nat) (hn : n < 18446744073709551616) (w : World) : Calls Try.prog 24 #[.int .u64 (n : Int)] w fun e w' => e = .returned (.string (tx (cntT n))) ∧ Below w.heap.size w w' := by
  induction n using Nat.strongRecOn generalizing w with
  | ind n ih =>
    by_cases c : n < 128
    · have z : (n : Int) < 128 := by omega
      have hc := conv1 w (n : Int) n (by omega) rfl
      rw [cntT_lt c]
      clear ih
      generalize UInt8.ofNat n = B at *
      go_enter Try.func24, Try.ntmps24
      go_wp2
      go_ret
      exact ⟨rfl, ba _ _⟩
    · have z : ¬ (n : Int) < 128 := by omega
      have k := fun W => ih (n / 128) (by omega) (by omega) W
      obtain ⟨d, hd⟩ : ∃ d, (n : Int) / 128 = d := ⟨_, rfl⟩
      have hd2 : ((n / 128 : Nat) : Int) = d := by omega
      rw [hd2] at k
      have hwd : IntKind.u64.wrap d = d := by rw [IntKind.wrap_u64]; omega
      obtain ⟨r, hr⟩ : ∃ r, (n : Int).tmod 128 = r := ⟨_, rfl⟩
      have hr2 : r = (n : Int) % 128 := by rw [← hr, Int.tmod_eq_emod_of_nonneg (by omega)]
      obtain ⟨q, hq⟩ : ∃ q, IntKind.u64.wrap (128 + r) = q := ⟨_, rfl⟩
      have hq2 : q = 128 + r := by rw [← hq, IntKind.wrap_u64]; omega
      obtain ⟨y, hy⟩ : ∃ y, IntKind.u8.wrap q = y := ⟨_, rfl⟩
      have hy2 : y = ((128 + n % 128 : Nat) : Int) := by
        have e8 : IntKind.u8.wrap q = q % 256 := by simp [IntKind.wrap, IntKind.bits, IntKind.signed]
        rw [← hy, e8]; omega
      have hcU := fun V => conv1 V y (128 + n % 128) (by omega) hy2
      have hcD := fun V => conv1d V y (128 + n % 128) (by omega) hy2
      have hcV := fun (V w1 : World) (g : Nat) (hg : g = V.heap.size) (b : Below (V.alloc (.cells #[.int .u8 y] 5)).drew.heap.size (V.alloc (.cells #[.int .u8 y] 5)).drew w1) => conv2d (n := 128 + n % 128) (by omega) hy2 hg b
      have hadd := tx_add [UInt8.ofNat (128 + n % 128)] (cntT (n / 128))
      have hlen : ¬ (9223372036854775807 < ([UInt8.ofNat (128 + n % 128)] : By).length + (cntT (n / 128)).length) := by
        have := cntT_len (n / 128) (by omega)
        simp only [List.length_cons, List.length_nil]; omega
      have HC : Hid (cntT n = [UInt8.ofNat (128 + n % 128)] ++ cntT (n / 128)) := by rw [Hid, cntT_ge c]; rfl
      rw [HC.out]
      generalize UInt8.ofNat (128 + n % 128) = B at *
      generalize cntT (n / 128) = C at *
      have HV : Hid (∀ (V w1 : World) (g : Nat), g = V.heap.size → Below (V.alloc (.cells #[.int .u8 y] 5)).drew.heap.size (V.alloc (.cells #[.int .u8 y] 5)).drew w1 → (convert 47 9 (.slice (some ⟨g, 0, none⟩) 1 1)).run Try.prog w1 = .ok (.string (tx [B])) w1) := hcV
      clear ih hcV HC c hd2 hr2 hq2 hy2
      go_enter Try.func24, Try.ntmps24
      go_wp2_with fail
      go_region_with (go_at_call 24; refine (k _).mono ?_; rintro e w1 ⟨rfl, b1⟩; try (have hc2 := HV.out _ _ w.heap.size rfl b1))
      all_goals (go_wp2; go_ret; refine ⟨rfl, ?_⟩; first | exact bdA b1 | exact bdB b1)
theorem refnumber_any (x : Int) (hx : I64 x) (w : World) : Calls Try.prog 22 #[.int .i64 x] w fun e w' => e = .returned (.string (tx (nmT x))) ∧ Below w.heap.size w w' := by
  have k := refcount_any (nmN x) (nmN_lt hx) w
  have hlt := nmN_lt hx
  have HX : Hid (nmT x = cntT (nmN x)) := rfl
  rw [HX.out]
  unfold I64 at hx
  by_cases c : x < 0
  · have c' : ¬ 0 ≤ x := by omega
    have e1 : (nmN x : Int) = 2 * (-(x + 1)) + 1 := by unfold nmN; rw [if_neg (by omega)]; omega
    have w1 : IntKind.i64.wrap (x + 1) = x + 1 := by rw [IntKind.wrap_i64]; omega
    have w2 : IntKind.i64.wrap (-(x + 1)) = -(x + 1) := by rw [IntKind.wrap_i64]; omega
    have w3 : IntKind.u64.wrap (-(x + 1)) = -(x + 1) := by rw [IntKind.wrap_u64]; omega
    have w4 : IntKind.u64.wrap (2 * (-(x + 1))) = 2 * (-(x + 1)) := by rw [IntKind.wrap_u64]; omega
    have w5 : IntKind.u64.wrap (2 * (-(x + 1)) + 1) = 2 * (-(x + 1)) + 1 := by rw [IntKind.wrap_u64]; omega
    rw [e1] at k
    clear e1 hlt
    generalize cntT (nmN x) = C at *
    obtain ⟨y, hy⟩ : ∃ y, x + 1 = y := ⟨_, rfl⟩
    obtain ⟨z, hz⟩ : ∃ z, -y = z := ⟨_, rfl⟩
    obtain ⟨u, hu⟩ : ∃ u, 2 * z = u := ⟨_, rfl⟩
    obtain ⟨v, hv⟩ : ∃ v, u + 1 = v := ⟨_, rfl⟩
    rw [hy] at w1 w2 w3 w4 w5 k
    rw [hz] at w2 w3 w4 w5 k
    rw [hu] at w4 w5 k
    rw [hv] at w5 k
    go_enter Try.func22, Try.ntmps22
    go_wp2_with fail
    refine k.mono ?_
    rintro e w2 ⟨rfl, b2⟩
    clear k
    go_wp2
    go_ret
    exact ⟨rfl, b2⟩
  · have c' : 0 ≤ x := by omega
    have e1 : (nmN x : Int) = 2 * x := by unfold nmN; rw [if_pos (by omega)]; omega
    have w3 : IntKind.u64.wrap x = x := by rw [IntKind.wrap_u64]; omega
    have w4 : IntKind.u64.wrap (2 * x) = 2 * x := by rw [IntKind.wrap_u64]; omega
    rw [e1] at k
    clear e1 hlt
    generalize cntT (nmN x) = C at *
    go_enter Try.func22, Try.ntmps22
    go_wp2_with fail
    refine k.mono ?_
    rintro e w2 ⟨rfl, b2⟩
    clear k
    go_wp2
    go_ret
    exact ⟨rfl, b2⟩
theorem reftext_any (s : By) (hs : s.length ≤ 9007199254740992) (w : World) : Calls Try.prog 21 #[.string (tx s)] w fun e w' => e = .returned (.string (tx (tnT s))) ∧ Below w.heap.size w w' := by
  have hsz := tx_size s
  have k := refcount_any s.length (by omega) w
  have hw : IntKind.u64.wrap (s.length : Int) = (s.length : Int) := by rw [IntKind.wrap_u64]; omega
  have hadd := tx_add (cntT s.length) s
  have hlen : ¬ (9223372036854775807 < (cntT s.length).length + s.length) := by have := cntT_len s.length (by omega); omega
  have HX : Hid (tnT s = cntT s.length ++ s) := rfl
  rw [HX.out]
  generalize cntT s.length = C at *
  go_enter Try.func21, Try.ntmps21
  go_wp2_with fail
  refine k.mono ?_
  rintro e w2 ⟨rfl, b2⟩
  clear k
  go_wp2
  go_ret
  exact ⟨rfl, b2⟩
end Go.Proofs.Ytnoedkebmpfagaa
