import Derived.Test.YtnoedkebmpfagaaWbs
/-
  PACKAGE wire: Frame.
-/
namespace Go.Proofs.Ytnoedkebmpfagaa
open Go.RowKit Wc

theorem sendable_any (n : Nat) (b : Bool) (hb : decide (0 < n ∧ n ≤ 65536) = b) (w : World) : Calls Try.prog 29 #[.int .u64 (n : Int)] w fun e w' => e = .returned (.bool b) ∧ w' = w := by
  by_cases c0 : 0 < n
  · have z0 : (0 : Int) < (n : Int) := by omega
    by_cases c1 : n ≤ 65536
    · have z1 : (n : Int) ≤ 65536 := by omega
      obtain rfl : true = b := by rw [← hb]; simp [c0, c1]
      go_enter Try.func29, Try.ntmps29
      go_wp2
      go_ret
      exact ⟨rfl, rfl⟩
    · have z1 : ¬ (n : Int) ≤ 65536 := by omega
      obtain rfl : false = b := by rw [← hb]; simp [c1]
      go_enter Try.func29, Try.ntmps29
      go_wp2
      go_ret
      exact ⟨rfl, rfl⟩
  · obtain rfl : n = 0 := by omega
    obtain rfl : false = b := by rw [← hb]; simp
    go_enter Try.func29, Try.ntmps29
    go_wp2
    go_ret
    exact ⟨rfl, rfl⟩
def hd4 (n : Nat) : By := [UInt8.ofNat (n / 16777216), UInt8.ofNat (n / 65536 % 256), UInt8.ofNat (n / 256 % 256), UInt8.ofNat (n % 256)]
theorem u8c {a : Nat} (h : a < 256) : (((UInt8.ofNat a).toNat : Nat) : Int) = (a : Int) := by rw [u8_toNat h]
theorem head_any (n : Nat) (hn : n ≤ 65536) (w : World) : Calls Try.prog 30 #[.int .i64 (n : Int)] w fun e w' => e = .returned (.string (tx (hd4 n))) ∧ Below w.heap.size w w' := by
  have hcv : (convert 47 9 (.slice (some ⟨w.heap.size, 0, none⟩) 4 4)).run Try.prog (w.alloc (.cells #[.int .u8 ((n : Int) / 16777216), .int .u8 ((n : Int) / 65536), .int .u8 ((n : Int) / 256 % 256), .int .u8 ((n : Int) % 256)] 5)) = .ok (.string (tx (hd4 n))) (w.alloc (.cells #[.int .u8 ((n : Int) / 16777216), .int .u8 ((n : Int) / 65536), .int .u8 ((n : Int) / 256 % 256), .int .u8 ((n : Int) % 256)] 5)) := by
    refine run_convert_bytes_back (P := Try.prog) _ 47 9 5 ⟨w.heap.size, 0, none⟩ 4 (hd4 n) Try.underlying47 Try.underlying5 Try.underlying9 (fun j hj => ?_)
    rw [Addr.add_lit, Nat.zero_add, World.cell?_alloc_at _ _ _ _ rfl]
    have h0 := u8c (a := n / 16777216) (by omega)
    have h1 := u8c (a := n / 65536 % 256) (by omega)
    have h2 := u8c (a := n / 256 % 256) (by omega)
    have h3 := u8c (a := n % 256) (by omega)
    have hj4 : j < 4 := hj
    match j, hj4 with
    | 0, _ =>
      show some (Value.int .u8 ((n : Int) / 16777216)) = some (Value.int .u8 (((UInt8.ofNat (n / 16777216)).toNat : Nat) : Int))
      rw [h0]; rfl
    | 1, _ =>
      show some (Value.int .u8 ((n : Int) / 65536)) = some (Value.int .u8 (((UInt8.ofNat (n / 65536 % 256)).toNat : Nat) : Int))
      rw [h1]
      have : (n : Int) / 65536 = ((n / 65536 % 256 : Nat) : Int) := by omega
      rw [this]
    | 2, _ =>
      show some (Value.int .u8 ((n : Int) / 256 % 256)) = some (Value.int .u8 (((UInt8.ofNat (n / 256 % 256)).toNat : Nat) : Int))
      rw [h2]; rfl
    | 3, _ =>
      show some (Value.int .u8 ((n : Int) % 256)) = some (Value.int .u8 (((UInt8.ofNat (n % 256)).toNat : Nat) : Int))
      rw [h3]; rfl
  generalize hd4 n = H at *
  go_enter Try.func30, Try.ntmps30
  go_wp2
  go_ret
  exact ⟨rfl, ba _ _⟩
def frmT (t : By) : By × Int := if 0 < t.length ∧ t.length ≤ 65536 then (hd4 t.length ++ t, 0) else ([], 3)
theorem tx_add (s t : By) : tx s ++ tx t = tx (s ++ t) := by
  apply ByteArray.ext
  simp
theorem frame_any (t : By) (ht : t.length ≤ 9223372036854775807) (w : World) (s : By) (er : Int) (hf : frmT t = (s, er)) :
    Calls Try.prog 12 #[.string (tx t)] w fun e w' => e = .returned (.tuple #[.string (tx s), .int .i64 er]) ∧ Below w.heap.size w w' := by
  have hsz := tx_size t
  have hw : IntKind.u64.wrap (t.length : Int) = (t.length : Int) := by rw [IntKind.wrap_u64]; omega
  unfold frmT at hf
  by_cases c : 0 < t.length ∧ t.length ≤ 65536
  · have k := sendable_any t.length true (by simpa using c) w
    have k2 := fun W => head_any t.length c.2 W
    rw [if_pos c] at hf
    simp only [Prod.mk.injEq] at hf
    obtain ⟨rfl, rfl⟩ := hf
    have hadd := tx_add (hd4 t.length) t
    have hlen : ¬ (9223372036854775807 < (hd4 t.length).length + t.length) := by simp only [hd4, List.length_cons, List.length_nil]; omega
    generalize hd4 t.length = H at *
    clear c
    go_enter Try.func12, Try.ntmps12
    go_wp2_with fail
    refine k.mono ?_
    rintro e w1 ⟨rfl, rfl⟩
    clear k
    go_wp2_with fail
    refine (k2 _).mono ?_
    rintro e w2 ⟨rfl, b2⟩
    clear k2
    go_wp2
    go_ret2
    exact ⟨rfl, b2⟩
  · have k := sendable_any t.length false (by simpa using c) w
    rw [if_neg c] at hf
    simp only [Prod.mk.injEq] at hf
    obtain ⟨rfl, rfl⟩ := hf
    clear c
    go_enter Try.func12, Try.ntmps12
    go_wp2_with fail
    refine k.mono ?_
    rintro e w1 ⟨rfl, rfl⟩
    clear k
    go_wp2
    go_ret2
    exact ⟨rfl, Below.refl _ _⟩
theorem alive_any (w : World) : Calls Try.prog 17 #[] w fun e w' => e = .returned (.bool true) ∧ Below w.heap.size w w' := by
  have k := frame_any [97] (by simp) w (hd4 1 ++ [97]) 0 rfl
  have hsz := tx_size (hd4 1 ++ [97])
  have hl : (hd4 1 ++ [97]).length = 5 := rfl
  rw [hl] at hsz
  generalize hd4 1 ++ [97] = H at *
  clear hl
  go_enter Try.func17, Try.ntmps17
  go_wp2_with fail
  refine k.mono ?_
  rintro e w1 ⟨rfl, b1⟩
  clear k
  go_wp2
  go_ret
  exact ⟨rfl, b1⟩
end Go.Proofs.Ytnoedkebmpfagaa
