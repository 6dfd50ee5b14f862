import Derived.Test.YtnoedkebmpfagaaWww
import Derived.Deep.DeepCutAuto
import Derived.Laws.BitsAllLaws
/-
  PACKAGE wire, the writer: count, number, text, ratio, values.
-/
namespace Go.Proofs.Ytnoedkebmpfagaa
open Go.RowKit Wc

theorem or128 (a : Nat) (h : a < 256) : a ||| 128 = 128 + a % 128 := by
  have : ∀ a : Fin 256, a.val ||| 128 = 128 + a.val % 128 := by decide +kernel
  exact this ⟨a, h⟩
theorem put_nat {w : World} {base R : Nat} {F : By} (hb : base ≤ w.heap.size) (h : Wrt w base R F) (x : Nat) (hx : x < 256) :
    Calls Try.prog 33 #[ptR R, .int .u8 (x : Int)] w fun e w' => e = .returned (.tuple #[]) ∧ Wrt w' base R (F ++ [UInt8.ofNat x]) ∧ Fw R w w' := by
  have := put_any hb h (UInt8.ofNat x)
  rw [u8_toNat hx] at this
  exact this
set_option maxHeartbeats 1000000 in
theorem count_any {w : World} {base R : Nat} {F : By} (hb : base ≤ w.heap.size) (h : Wrt w base R F) (n : Nat) (hn : n < 18446744073709551616) :
    Calls Try.prog 47 #[ptR R, .int .u64 (n : Int)] w fun e w' => e = .returned (.tuple #[]) ∧ Wrt w' base R (F ++ cntT n) ∧ Fw R w w' := by
  have HW : Hid (Wrt w base R F) := h
  clear h
  go_enter Try.func47, Try.ntmps47
  go_wp2_with fail
  go_loopw [1] (fun nv wr => ∃ (m : Nat) (G : By), nv = .int .u64 (m : Int) ∧ m < 18446744073709551616 ∧ Hid (G ++ cntT m = F ++ cntT n) ∧ Hid (Wrt wr base R G) ∧ Hid (Fw R w wr)) (fun nv _ => (intOf nv).toNat)
  case atStart => exact ⟨n, F, rfl, hn, rfl, HW, Fw.refl _ _⟩
  case round =>
    obtain ⟨m, G, rfl, hm, HE, HG, HB⟩ := hrel
    have hbr : base ≤ wr.heap.size := Nat.le_trans hb HB.out.size
    by_cases c : m < 128
    · have z1 : ¬ (128 : Int) ≤ (m : Int) := by omega
      have k := put_nat hbr HG.out m (by omega)
      have HF : Hid (F ++ cntT n = G ++ [UInt8.ofNat m]) := by rw [Hid, ← HE.out, cntT_lt c]
      go_wp2_with fail
      refine k.mono ?_
      rintro e w2 ⟨rfl, h2, b2⟩
      clear k
      go_wp2
      go_end0
      exact ⟨rfl, by rw [HF.out]; exact h2, HB.out.trans b2⟩
    · have z1 : (128 : Int) ≤ (m : Int) := by omega
      have ho : bits .or .u8 ((m : Int) % 256) 128 = ((128 + m % 128 : Nat) : Int) := by
        have := u8_or_nat (m % 256) 128 (by omega) (by omega)
        rw [or128 _ (by omega)] at this
        have e : m % 256 % 128 = m % 128 := by omega
        rw [e] at this
        exact this
      have k := put_nat hbr HG.out (128 + m % 128) (by omega)
      have HF : Hid (G ++ [UInt8.ofNat (128 + m % 128)] ++ cntT (m / 128) = F ++ cntT n) := by rw [Hid, ← HE.out, cntT_ge c]; simp
      obtain ⟨X, hX⟩ : ∃ X : Nat, 128 + m % 128 = X := ⟨_, rfl⟩
      rw [hX] at ho k HF
      clear hX
      go_wp2_with fail
      refine k.mono ?_
      rintro e w2 ⟨rfl, h2, b2⟩
      clear k ho
      go_wp2
      go_roundw
      case rel => exact ⟨m / 128, _, by go_num, by omega, HF, h2, HB.out.trans b2⟩
      case measure => simp [intOf]; omega
theorem wnumber_any {w : World} {base R : Nat} {F : By} (hb : base ≤ w.heap.size) (h : Wrt w base R F) (x : Int) (hx : I64 x) :
    Calls Try.prog 35 #[ptR R, .int .i64 x] w fun e w' => e = .returned (.tuple #[]) ∧ Wrt w' base R (F ++ nmT x) ∧ Fw R w w' := by
  have k := count_any hb h (nmN x) (nmN_lt hx)
  have hlt := nmN_lt hx
  unfold I64 at hx
  by_cases c : x < 0
  · have e1 : (nmN x : Int) = 2 * (-(x + 1)) + 1 := by unfold nmN; rw [if_neg (by omega)]; omega
    have w1 : IntKind.i64.wrap (x + 1) = x + 1 := by rw [IntKind.wrap_i64]; omega
    have w2 : IntKind.i64.wrap (-(x + 1)) = -(x + 1) := by rw [IntKind.wrap_i64]; omega
    have w3 : IntKind.u64.wrap (-(x + 1)) = -(x + 1) := by rw [IntKind.wrap_u64]; omega
    have w4 : IntKind.u64.wrap (2 * (-(x + 1))) = 2 * (-(x + 1)) := by rw [IntKind.wrap_u64]; omega
    have w5 : IntKind.u64.wrap (2 * (-(x + 1)) + 1) = 2 * (-(x + 1)) + 1 := by rw [IntKind.wrap_u64]; omega
    rw [e1] at k
    clear e1 h hlt
    obtain ⟨y, hy⟩ : ∃ y, x + 1 = y := ⟨_, rfl⟩
    obtain ⟨z, hz⟩ : ∃ z, -y = z := ⟨_, rfl⟩
    obtain ⟨u, hu⟩ : ∃ u, 2 * z = u := ⟨_, rfl⟩
    obtain ⟨v, hv⟩ : ∃ v, u + 1 = v := ⟨_, rfl⟩
    rw [hy] at w1 w2 w3 w4 w5 k
    rw [hz] at w2 w3 w4 w5 k
    rw [hu] at w4 w5 k
    rw [hv] at w5 k
    go_enter Try.func35, Try.ntmps35
    go_wp2_with fail
    refine k.mono ?_
    rintro e w2 ⟨rfl, h2, b2⟩
    clear k
    go_wp2
    (try simp only [Exit.inBlock, Exit.then])
    refine bodyPost_ret (results_none rfl _ _ _) rfl ?_
    exact ⟨rfl, h2, b2⟩
  · have e1 : (nmN x : Int) = 2 * x := by unfold nmN; rw [if_pos (by omega)]; omega
    have w3 : IntKind.u64.wrap x = x := by rw [IntKind.wrap_u64]; omega
    have w4 : IntKind.u64.wrap (2 * x) = 2 * x := by rw [IntKind.wrap_u64]; omega
    rw [e1] at k
    clear e1 h hlt
    go_enter Try.func35, Try.ntmps35
    go_wp2_with fail
    refine k.mono ?_
    rintro e w2 ⟨rfl, h2, b2⟩
    clear k
    go_wp2
    go_end0
    exact ⟨rfl, h2, b2⟩
set_option maxHeartbeats 1000000 in
theorem wtext_any {w : World} {base R : Nat} {F : By} (hb : base ≤ w.heap.size) (h : Wrt w base R F) (s : By) (hs : s.length ≤ 9223372036854775807) :
    Calls Try.prog 34 #[ptR R, .string (tx s)] w fun e w' => e = .returned (.tuple #[]) ∧ Wrt w' base R (F ++ tnT s) ∧ Fw R w w' := by
  have hsz := tx_size s
  have k := count_any hb h s.length (by omega)
  have hw : IntKind.u64.wrap (s.length : Int) = (s.length : Int) := by rw [IntKind.wrap_u64]; omega
  have HE : Hid (F ++ tnT s = F ++ cntT s.length ++ s) := by rw [Hid, tnT, List.append_assoc]
  clear h
  generalize F ++ cntT s.length = G at *
  go_enter Try.func34, Try.ntmps34
  go_wp2_with fail
  refine k.mono ?_
  rintro e w1 ⟨rfl, h1, b1⟩
  clear k
  have hb1 := b1.size
  by_cases hc : ∃ _ : WrO w1 base R G, G.length + s.length ≤ 65536
  · obtain ⟨ho, hl⟩ := hc
    have k := fit_yes ho s.length hl
    clear h1 ho
    go_wp2_with fail
    refine k.mono ?_
    rintro e w2 ⟨rfl, h2, b2⟩
    clear k
    obtain ⟨v, hv, ho⟩ := h2.c
    have c0 := hv.c
    have hR := h2.o.lt
    have hb2 := b2.size
    obtain ⟨v', w', hr, hO, hg, hn⟩ := run_app_str w2 base R v G ho 47 s (by omega) (by omega) hR
    obtain ⟨a', c', rfl, -, -⟩ := hO.sl
    have hv2 := hv.gb hg (by intro e; exact ((ho.own R e.symm).2.1) rfl)
    have ho2 := h2.o.gb hg (by intro e; exact ((ho.own R e.symm).2.1) rfl)
    have HF : Hid (Wrt (w'.setCell ⟨R, 0, none⟩ (.slice a' (G ++ s).length c')) base R (G ++ s) ∧ Fw R w (w'.setCell ⟨R, 0, none⟩ (.slice a' (G ++ s).length c'))) := by
      refine ⟨.inl ⟨⟨_, hv2.set _, hO.setR 0 _⟩, ho2.oth (.inr (by decide)) _, by simp; omega, h2.b⟩, ?_⟩
      exact (b1.trans b2).trans (Fw.app hv hv2 hg hn)
    have c2 := hv2.c
    have f2 := hv2.f
    have hf0 := hv.f
    obtain ⟨LL, hLL⟩ : ∃ L, (G ++ s).length = L := ⟨_, rfl⟩
    rw [hLL] at HF hr
    clear hv hv2 ho2 hO ho hn hLL h2 hsz
    go_wp2_with (at_builtin; refine wpList_app rfl _ _ 47 9 rfl v (.string (tx s)) _ w' rfl rfl hr ?_)
    go_wp2
    go_end0
    exact ⟨rfl, by rw [HE.out]; exact HF.out.1, HF.out.2⟩
  · have hl : 65536 < (G ++ s).length := by
      rcases h1 with h1 | ⟨_, h2⟩
      · have : ¬ G.length + s.length ≤ 65536 := fun e => hc ⟨h1, e⟩
        simp; omega
      · simp; omega
    have k := fit_no h1 s.length (by rw [← List.length_append]; exact hl)
    have HL : Hid (65536 < (G ++ s).length) := hl
    clear h1 hc hl
    go_wp2_with fail
    refine k.mono ?_
    rintro e w2 ⟨rfl, h2, b2⟩
    clear k
    go_wp2
    go_end0
    exact ⟨rfl, by rw [HE.out]; exact .inr ⟨h2, HL.out⟩, b1.trans b2⟩
theorem Fw.rowne2 {R : Nat} {w w' : World} {base : Nat} {F : By} (_ : Fw R w w') (h : Wrt w base R F) (hb : Below w.heap.size w w') : rowOf w' R ≠ some w.heap.size := by
  have e : rowOf w' R = rowOf w R := by unfold rowOf; rw [hb.cell (p := ⟨R, 0, none⟩) h.lt.1]
  rw [e]
  intro e2
  have := (h.row _ e2).2.2
  omega
abbrev rat (x y : Int) : Value := .agg #[.int .i64 x, .int .i64 y]
theorem wratio_any {w : World} {base R : Nat} {F : By} (hb : base ≤ w.heap.size) (h : Wrt w base R F) (x y : Int) (hx : I64 x) (hy : I64 y) :
    Calls Try.prog 36 #[ptR R, rat x y] w fun e w' => e = .returned (.tuple #[]) ∧ Wrt w' base R (F ++ (nmT x ++ nmT y)) ∧ Fw R w w' := by
  obtain ⟨W, hW⟩ : ∃ W, w.alloc (.cells #[.int .i64 x, .int .i64 y] 23) = W := ⟨_, rfl⟩
  have T0 : TwoB W w.heap.size (.int .i64 x) (.int .i64 y) := by rw [← hW]; exact TwoB.new w _ _ _ _ rfl
  have bW : Below w.heap.size w W := by rw [← hW]; exact ba _ _
  have hsW : W.heap.size = w.heap.size + 1 := by rw [← hW]; simp
  have h1 := h.at bW
  have c0 := T0.c0
  have k := wnumber_any (by omega) h1 x hx
  go_enter Try.func36, Try.ntmps36
  go_wp2_with fail
  refine k.mono ?_
  rintro e w2 ⟨rfl, h2, b2⟩
  clear k
  have hb2 := b2.size
  have k := wnumber_any (by omega) h2 y hy
  have hne : w.heap.size ≠ R := by have := h.lt; omega
  have hrn : rowOf W R ≠ some w.heap.size := (Fw.new h.lt.1 bW).rowne2 h bW
  have c1 := (b2.cl (k := 1) ⟨T0.c1, T0.f1, T0.lt⟩ hne hrn).c
  go_wp2_with fail
  refine k.mono ?_
  rintro e w3 ⟨rfl, h3, b3⟩
  clear k
  go_wp2
  go_end0
  exact ⟨rfl, by rw [← List.append_assoc]; exact h3, ((Fw.new h.lt.1 bW).trans b2).trans b3⟩
end Go.Proofs.Ytnoedkebmpfagaa
