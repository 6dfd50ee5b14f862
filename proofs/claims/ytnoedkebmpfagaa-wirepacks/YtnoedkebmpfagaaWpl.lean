import Derived.Test.YtnoedkebmpfagaaWpk
/-
  PACKAGE wire: Pack.
-/
namespace Go.Proofs.Ytnoedkebmpfagaa
open Go.RowKit Wc

theorem OB.conv {w : World} {base R : Nat} {v : Value} {t : By} (h : OB w base R v t) (W : World) (hW : W.heap = w.heap) : (convert 47 9 v).run Try.prog W = .ok (.string (tx t)) W := by
  obtain ⟨a, c, rfl, -, -⟩ := h.sl
  cases t with
  | nil =>
    cases a with
    | none => exact run_convert_bytes_nil (P := Try.prog) W 47 5 Try.underlying47 Try.underlying5 _ c 9 Try.underlying9
    | some a => exact run_convert_bytes_back (P := Try.prog) W 47 9 5 a c [] Try.underlying47 Try.underlying5 Try.underlying9 (fun j hj => by simp at hj)
  | cons x r =>
    obtain ⟨g, o, rfl, -, -, hc⟩ := h.cell (by simp)
    refine run_convert_bytes_back (P := Try.prog) W 47 9 5 ⟨g, o, none⟩ c (x :: r) Try.underlying47 Try.underlying5 Try.underlying9 (fun j hj => ?_)
    rw [Addr.add_lit]
    have := hc j _ (List.getElem?_eq_getElem hj)
    simpa [World.cell?, hW] using this
def packT (m : Msg) : By × Int := if formB m then (if 65536 < (msgT m).length then ([], 4) else (msgT m, 0)) else ([], 2)
theorem MsgI.mono {w : World} {B B' : Nat} {m : Msg} {sv : Value} (h : MsgI w B m sv) (hB : B ≤ B') : MsgI w B' m sv := { h with v := h.v.mono hB }
theorem form_kind {m : Msg} (h : formB m = true) : m.kind = 1 ∨ m.kind = 2 := by
  unfold formB at h
  split at h
  · exact .inl ‹_›
  · split at h
    · exact .inr ‹_›
    · cases h
theorem wmessage_any {w : World} {base R : Nat} (hb : base ≤ w.heap.size) (h : Wrt w base R []) (m : Msg) (sv : Value) (hI : MsgI w base m sv) (hk : m.kind = 1 ∨ m.kind = 2) :
    Calls Try.prog 19 #[ptR R, mv m sv] w fun e w' => e = .returned (.tuple #[]) ∧ Wrt w' base R (msgT m) ∧ Fw R w w' := by
  rcases hk with hk | hk
  · exact wmessage_ask hb h m sv hI hk
  · exact wmessage_rpl hb h m sv hI hk
set_option maxHeartbeats 2000000 in
set_option maxRecDepth 100000 in
theorem pack_any (m : Msg) (sv : Value) (w : World) (hI : MsgI w w.heap.size m sv) (s : By) (er : Int) (hp : packT m = (s, er)) :
    Calls Try.prog 7 #[mv m sv] w fun e w' => e = .returned (.tuple #[.string (tx s), .int .i64 er]) ∧ Below w.heap.size w w' := by
  obtain ⟨av, cv, rfl, -, -⟩ := hI.v.slice
  have HI : Hid (MsgI w w.heap.size m (.slice av m.vals.length cv)) := hI
  have HP : Hid (packT m = (s, er)) := hp
  obtain ⟨bv, hbv⟩ : ∃ b, formB m = b := ⟨_, rfl⟩
  have HF : Hid (formB m = bv) := hbv
  have kf := fun W => formed_any m av cv W
  rw [hbv] at kf
  obtain ⟨L, hL⟩ : ∃ L, m.vals.length = L := ⟨_, rfl⟩
  rw [hL] at HI kf ⊢
  obtain ⟨W, hW⟩ : ∃ W, w.alloc (.cells #[.int .i64 m.kind, .string (tx m.ses), .int .i64 m.num, .string (tx m.pur), .string (tx m.txt), .int .i64 m.ru, .int .i64 m.rd, .int .i64 m.low, .int .i64 m.high, .int .i64 m.err, .slice av L cv, .int .i64 m.lu, .int .i64 m.ld] 27) = W := ⟨_, rfl⟩
  have bW : Below w.heap.size w W := by rw [← hW]; exact ba _ _
  have hB : Bx W w.heap.size [.int .i64 m.kind, .string (tx m.ses), .int .i64 m.num, .string (tx m.pur), .string (tx m.txt), .int .i64 m.ru, .int .i64 m.rd, .int .i64 m.low, .int .i64 m.high, .int .i64 m.err, .slice av L cv, .int .i64 m.lu, .int .i64 m.ld] := by rw [← hW]; exact Bx.new w _ 27 rfl
  have HB : Hid (Bx W w.heap.size _) := hB
  have c0 := (hB 0 _ rfl).c
  have c1 := (hB 1 _ rfl).c
  have c2 := (hB 2 _ rfl).c
  have c3 := (hB 3 _ rfl).c
  have c4 := (hB 4 _ rfl).c
  have c5 := (hB 5 _ rfl).c
  have c6 := (hB 6 _ rfl).c
  have c7 := (hB 7 _ rfl).c
  have c8 := (hB 8 _ rfl).c
  have c9 := (hB 9 _ rfl).c
  have c10 := (hB 10 _ rfl).c
  have c11 := (hB 11 _ rfl).c
  have c12 := (hB 12 _ rfl).c
  have k := kf W
  clear hI hp hbv hB kf hL
  go_enter Try.func7, Try.ntmps7
  go_wp2_with fail
  refine k.mono ?_
  rintro e w1 ⟨rfl, b1⟩
  clear k c0 c1 c2 c3 c4 c5 c6 c7 c8 c9 c10 c11 c12 hW
  have b01 : Below w.heap.size w w1 := bt bW b1
  cases bv with
  | false =>
    have h := HP.out
    rw [packT, HF.out] at h
    simp only [Bool.false_eq_true, if_false, Prod.mk.injEq] at h
    obtain ⟨rfl, rfl⟩ := h
    go_wp2
    go_ret2
    exact ⟨rfl, b01⟩
  | true =>
    obtain ⟨X, hX⟩ : ∃ X, w1.alloc (.cells #[.slice none 0 0, .bool false] 49) = X := ⟨_, rfl⟩
    have bX : Below w1.heap.size w1 X := by rw [← hX]; exact ba _ _
    have hXs : w1.heap.size ≤ X.heap.size := bX.size
    have TX : TwoB X w1.heap.size (.slice none 0 0) (.bool false) := by rw [← hX]; exact TwoB.new w1 _ _ _ _ rfl
    have hWr : Wrt X w1.heap.size w1.heap.size [] := .inl ⟨⟨_, ⟨TX.c0, TX.f0, TX.lt⟩, .nil _ _ _⟩, ⟨TX.c1, TX.f1, TX.lt⟩, by simp, Nat.le_refl _⟩
    have hI2 : MsgI X w1.heap.size m (.slice av L cv) := ((HI.out.keep b01).mono b01.size).keep bX
    have hB2 := (HB.out.at b1).at bX
    have c0 := (hB2 0 _ rfl).c
    have c1 := (hB2 1 _ rfl).c
    have c2 := (hB2 2 _ rfl).c
    have c3 := (hB2 3 _ rfl).c
    have c4 := (hB2 4 _ rfl).c
    have c5 := (hB2 5 _ rfl).c
    have c6 := (hB2 6 _ rfl).c
    have c7 := (hB2 7 _ rfl).c
    have c8 := (hB2 8 _ rfl).c
    have c9 := (hB2 9 _ rfl).c
    have c10 := (hB2 10 _ rfl).c
    have c11 := (hB2 11 _ rfl).c
    have c12 := (hB2 12 _ rfl).c
    have k := wmessage_any hXs hWr m _ hI2 (form_kind HF.out)
    have HW0 : Hid (Wrt X w1.heap.size w1.heap.size []) := hWr
    clear hB2 TX hWr hI2
    go_wp2_with fail
    refine k.mono ?_
    rintro e w3 ⟨rfl, h3, b3⟩
    clear k c0 c1 c2 c3 c4 c5 c6 c7 c8 c9 c10 c11 c12 hX
    have b03 : Below w.heap.size w w3 := b01.trans ((bX.trans (HW0.out.below b3)).mono b01.size)
    have h := HP.out
    rw [packT, HF.out, if_pos rfl] at h
    rcases h3 with h3 | ⟨h3, hl⟩
    · rw [if_neg (by have := h3.l; omega)] at h
      simp only [Prod.mk.injEq] at h
      obtain ⟨rfl, rfl⟩ := h
      obtain ⟨v, hv, ho⟩ := h3.c
      have hc := ho.conv w3 rfl
      have d0 := hv.c
      have d1 := h3.o.c
      clear ho hv h3
      go_wp2
      go_ret2
      exact ⟨rfl, b03⟩
    · rw [if_pos hl] at h
      simp only [Prod.mk.injEq] at h
      obtain ⟨rfl, rfl⟩ := h
      have d1 := h3.o.c
      clear h3
      go_wp2
      go_ret2
      exact ⟨rfl, b03⟩
end Go.Proofs.Ytnoedkebmpfagaa
