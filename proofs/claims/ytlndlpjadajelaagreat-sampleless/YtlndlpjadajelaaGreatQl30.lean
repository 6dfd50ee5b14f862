import Derived.Test.YtlndlpjadajelaaGreatQl29
import Derived.Test.YtlndlpjadajelaaGreatQl28
import Derived.RangeFuncBox
import Derived.Laws.EntriesVeiled
namespace Go.Proofs.YtlndlpjadajelaaGreat.K
open Go.RowKit Go.Proofs.YtlndlpjadajelaaGreat.K.Ds

/-- TESTS BEHIND A SLICE, in a block below B. -/
def Tss (w : World) (B : Nat) (v : Value) (l : List Tst) : Prop :=
  ∃ a c, v = .slice a l.length c ∧ l.length ≤ c ∧ l.length ≤ 9223372036854775807 ∧ (∀ x ∈ l, x.1.size ≤ 9223372036854775807) ∧
    (l ≠ [] → ∃ b o, a = some ⟨b, o, none⟩ ∧ b < B ∧ ∀ i x, l[i]? = some x → w.cell? ⟨b, o + i * 3, none⟩ = some (.string x.1) ∧ w.cell? ⟨b, o + i * 3 + 1, none⟩ = some (.int .i64 x.2.1) ∧ w.cell? ⟨b, o + i * 3 + 2, none⟩ = some (.int .i64 x.2.2))
theorem Tss.keep {w w' : World} {B : Nat} {v : Value} {l : List Tst} (h : Tss w B v l) (hb : Below B w w') : Tss w' B v l := by
  obtain ⟨a, c, hv, hc, hl, hn, hx⟩ := h
  refine ⟨a, c, hv, hc, hl, hn, fun hne => ?_⟩
  obtain ⟨b, o, ha, hB, hcell⟩ := hx hne
  exact ⟨b, o, ha, hB, fun i x hi => ⟨(hb.cell (p := ⟨b, o + i * 3, none⟩) hB).trans (hcell i x hi).1, (hb.cell (p := ⟨b, o + i * 3 + 1, none⟩) hB).trans (hcell i x hi).2.1, (hb.cell (p := ⟨b, o + i * 3 + 2, none⟩) hB).trans (hcell i x hi).2.2⟩⟩
theorem Tss.at {w w' : World} {B : Nat} {v : Value} {l : List Tst} (h : Tss w B v l) (hB : B ≤ w.heap.size) (hb : Below w.heap.size w w') : Tss w' B v l := h.keep (hb.mono hB)
theorem Tss.mono {w : World} {B B' : Nat} {v : Value} {l : List Tst} (h : Tss w B v l) (hB : B ≤ B') : Tss w B' v l := by
  obtain ⟨a, c, hv, hc, hl, hn, hx⟩ := h
  refine ⟨a, c, hv, hc, hl, hn, fun hne => ?_⟩
  obtain ⟨b, o, ha, hb, hcell⟩ := hx hne
  exact ⟨b, o, ha, by omega, hcell⟩
theorem Tss.slice {w : World} {B : Nat} {v : Value} {l : List Tst} (h : Tss w B v l) : ∃ a c, v = .slice a l.length c ∧ l.length ≤ c ∧ l.length ≤ 9223372036854775807 := by
  obtain ⟨a, c, hv, hc, hl, _⟩ := h
  exact ⟨a, c, hv, hc, hl⟩
theorem Tss.get {w wr : World} {B : Nat} {a : Option Addr} {n c : Nat} {l : List Tst} (h : Tss w B (.slice a n c) l) (hB : B ≤ w.heap.size) (hb : Below w.heap.size w wr) {i : Nat} (hi : i < l.length) :
    ∃ b o nm d z, a = some ⟨b, o, none⟩ ∧ b < B ∧ l[i]? = some (nm, d, z) ∧ wr.cell? ⟨b, o + i * 3, none⟩ = some (.string nm) ∧ wr.cell? ⟨b, o + i * 3 + 1, none⟩ = some (.int .i64 d) ∧ wr.cell? ⟨b, o + i * 3 + 2, none⟩ = some (.int .i64 z) ∧ nm.size ≤ 9223372036854775807 := by
  obtain ⟨a', c', hv, _, _, hn, hx⟩ := h.at hB hb
  simp only [Value.slice.injEq] at hv
  obtain ⟨rfl, rfl, rfl⟩ := hv
  obtain ⟨b, o, rfl, hbB, hcell⟩ := hx (ne_of_lt hi)
  obtain ⟨⟨nm, d, z⟩, hx⟩ := get_lt hi
  exact ⟨b, o, nm, d, z, rfl, hbB, hx, (hcell i _ hx).1, (hcell i _ hx).2.1, (hcell i _ hx).2.2, hn _ (List.mem_of_getElem? hx)⟩

/-- a question as it lies in six cells -/
def At6 (w : World) (b o : Nat) (v0 v1 v2 v3 v4 v5 : Value) : Prop :=
  w.cell? ⟨b, o, none⟩ = some v0 ∧ w.cell? ⟨b, o + 1, none⟩ = some v1 ∧ w.cell? ⟨b, o + 2, none⟩ = some v2 ∧ w.cell? ⟨b, o + 3, none⟩ = some v3 ∧ w.cell? ⟨b, o + 4, none⟩ = some v4 ∧ w.cell? ⟨b, o + 5, none⟩ = some v5
theorem At6.keep {w w' : World} {B b o : Nat} {v0 v1 v2 v3 v4 v5 : Value} (h : At6 w b o v0 v1 v2 v3 v4 v5) (hb : Below B w w') (hB : b < B) : At6 w' b o v0 v1 v2 v3 v4 v5 :=
  ⟨(hb.cell (p := ⟨b, o, none⟩) hB).trans h.1, (hb.cell (p := ⟨b, o + 1, none⟩) hB).trans h.2.1, (hb.cell (p := ⟨b, o + 2, none⟩) hB).trans h.2.2.1, (hb.cell (p := ⟨b, o + 3, none⟩) hB).trans h.2.2.2.1, (hb.cell (p := ⟨b, o + 4, none⟩) hB).trans h.2.2.2.2.1, (hb.cell (p := ⟨b, o + 5, none⟩) hB).trans h.2.2.2.2.2⟩

/-- A QUESTION: its fields; its kids behind a slice, in blocks below B. -/
def Qm (w : World) (B : Nat) : Qu → Value → Value → Value → Value → Value → Value → Prop
  | .none, _, _, _, _, _, _ => False
  | .node k c lo hi wh n x y, v0, v1, v2, v3, v4, v5 =>
    (v0 = .int .i64 k ∧ v1 = .string c ∧ v2 = .int .i64 lo ∧ v3 = .int .i64 hi ∧ c.size ≤ 9223372036854775807 ∧ Tss w B v4 wh ∧ ∃ a cap, v5 = .slice a n cap ∧ n ≤ cap ∧ n ≤ 9223372036854775807 ∧
      (1 ≤ n → n ≤ 2 → ∃ b o, a = some ⟨b, o, none⟩ ∧ b < B ∧ (∃ u0 u1 u2 u3 u4 u5, At6 w b o u0 u1 u2 u3 u4 u5 ∧ Qm w B x u0 u1 u2 u3 u4 u5) ∧
        (2 ≤ n → ∃ u0 u1 u2 u3 u4 u5, At6 w b (o + 6) u0 u1 u2 u3 u4 u5 ∧ Qm w B y u0 u1 u2 u3 u4 u5)))
theorem Qm.keep {w w' : World} {B : Nat} (hb : Below B w w') (q : Qu) : ∀ {v0 v1 v2 v3 v4 v5 : Value}, Qm w B q v0 v1 v2 v3 v4 v5 → Qm w' B q v0 v1 v2 v3 v4 v5 := by
  induction q with
  | none => intro v0 v1 v2 v3 v4 v5 h; exact h
  | node k c lo hi wh n x y ihx ihy =>
    rintro v0 v1 v2 v3 v4 v5 ⟨h0, h1, h2, h3, hc, hw, a, cap, h5, hn, hm, hk⟩
    refine ⟨h0, h1, h2, h3, hc, hw.keep hb, a, cap, h5, hn, hm, fun g1 g2 => ?_⟩
    obtain ⟨b, o, ha, hB, ⟨u0, u1, u2, u3, u4, u5, hx, hq⟩, h2⟩ := hk g1 g2
    refine ⟨b, o, ha, hB, ⟨u0, u1, u2, u3, u4, u5, hx.keep hb hB, ihx hq⟩, fun g => ?_⟩
    obtain ⟨u0, u1, u2, u3, u4, u5, hx, hq⟩ := h2 g
    exact ⟨u0, u1, u2, u3, u4, u5, hx.keep hb hB, ihy hq⟩
theorem Qm.at {w w' : World} {B : Nat} {q : Qu} {v0 v1 v2 v3 v4 v5 : Value} (h : Qm w B q v0 v1 v2 v3 v4 v5) (hB : B ≤ w.heap.size) (hb : Below w.heap.size w w') : Qm w' B q v0 v1 v2 v3 v4 v5 := Qm.keep (hb.mono hB) q h
end Go.Proofs.YtlndlpjadajelaaGreat.K

namespace Go.Proofs.YtlndlpjadajelaaGreat.K
open Go.RowKit Go.Proofs.YtlndlpjadajelaaGreat.K.Ds

/-- a test holds of a value -/
def tstB (d z v : Int) : Bool := if d = 1 then v == z else if d = 2 then decide (v < z) else if d = 3 then decide (v ≤ z) else if d = 4 then decide (z < v) else if d = 5 then decide (z ≤ v) else !(v == z)

/-- holding: which function -/
abbrev holV (d : Int) (p : Nat) : Value := .func (.func (226 + d.toNat)) #[] #[.pointer (some ⟨p, 0, none⟩)]
theorem hold_ok (d z : Int) (w : World) (hd : doB d = true) :
    Calls Tryz.prog 209 #[.int .i64 d, .int .i64 z] w fun e w' => e = .returned (holV d w.heap.size) ∧ w' = w.alloc (.cells #[.int .i64 z] 3) := by
  have hmf := hmf
  simp only [doB, decide_eq_true_eq] at hd
  go_enter Tryz.func209, Tryz.ntmps209
  by_cases h1 : d = 1
  · subst h1; go_wp2; go_ret; exact ⟨rfl, rfl⟩
  by_cases h2 : d = 2
  · subst h2; go_wp2; go_ret; exact ⟨rfl, rfl⟩
  by_cases h3 : d = 3
  · subst h3; go_wp2; go_ret; exact ⟨rfl, rfl⟩
  by_cases h4 : d = 4
  · subst h4; go_wp2; go_ret; exact ⟨rfl, rfl⟩
  by_cases h5 : d = 5
  · subst h5; go_wp2; go_ret; exact ⟨rfl, rfl⟩
  obtain rfl : d = 6 := by omega
  go_wp2; go_ret; exact ⟨rfl, rfl⟩
theorem hold_no (d z : Int) (w : World) (hd : doB d = false) :
    Calls Tryz.prog 209 #[.int .i64 d, .int .i64 z] w fun e w' => e = .panicked (chn 1) ∧ Below w.heap.size w w' := by
  have g1 : (d == 1) = false := by rw [beq_eq_false_iff_ne]; rintro rfl; simp [doB] at hd
  have g2 : (d == 2) = false := by rw [beq_eq_false_iff_ne]; rintro rfl; simp [doB] at hd
  have g3 : (d == 3) = false := by rw [beq_eq_false_iff_ne]; rintro rfl; simp [doB] at hd
  have g4 : (d == 4) = false := by rw [beq_eq_false_iff_ne]; rintro rfl; simp [doB] at hd
  have g5 : (d == 5) = false := by rw [beq_eq_false_iff_ne]; rintro rfl; simp [doB] at hd
  have g6 : (d == 6) = false := by rw [beq_eq_false_iff_ne]; rintro rfl; simp [doB] at hd
  clear hd
  go_enter Tryz.func209, Tryz.ntmps209
  go_wp2
  exact ⟨rfl, rfl, ba _ _⟩
/-- what such a function tells -/
theorem tst_any (d z v : Int) (p : Nat) (w : World) (hd : doB d = true) (hc : w.cell? ⟨p, 0, none⟩ = some (.int .i64 z)) :
    Calls Tryz.prog (226 + d.toNat) #[.int .i64 v, .pointer (some ⟨p, 0, none⟩)] w fun e w' => e = .returned (.bool (tstB d z v)) ∧ w' = w := by
  simp only [doB, decide_eq_true_eq] at hd
  by_cases h1 : d = 1
  · subst h1; go_enter Tryz.func227, Tryz.ntmps227; go_wp2; go_ret; exact ⟨rfl, rfl⟩
  by_cases h2 : d = 2
  · subst h2; go_enter Tryz.func228, Tryz.ntmps228; go_wp2; go_ret; exact ⟨rfl, rfl⟩
  by_cases h3 : d = 3
  · subst h3; go_enter Tryz.func229, Tryz.ntmps229; go_wp2; go_ret; exact ⟨rfl, rfl⟩
  by_cases h4 : d = 4
  · subst h4; go_enter Tryz.func230, Tryz.ntmps230; go_wp2; go_ret; exact ⟨rfl, rfl⟩
  by_cases h5 : d = 5
  · subst h5; go_enter Tryz.func231, Tryz.ntmps231; go_wp2; go_ret; exact ⟨rfl, rfl⟩
  obtain rfl : d = 6 := by omega
  go_enter Tryz.func232, Tryz.ntmps232; go_wp2; go_ret; exact ⟨rfl, rfl⟩
end Go.Proofs.YtlndlpjadajelaaGreat.K

namespace Go.Proofs.YtlndlpjadajelaaGreat.K
open Go.RowKit Go.Proofs.YtlndlpjadajelaaGreat.K.Ds

theorem Boxed.at {w w' : World} {b : Nat} {t : TypeId} {v : Value} (h : Boxed w b t v) (hb : Below w.heap.size w w') : Boxed w' b t v := (hb.block b h.lt).trans h
/-- a test as a function: of place a, with d, z -/
def Tcl (w : World) (V : Value) (e : Nat × Int × Int) : Prop :=
  ∃ h i p, V = .func (.func 210) #[] #[.pointer (some ⟨h, 0, none⟩), .pointer (some ⟨i, 0, none⟩)] ∧ Boxed w h 229 (holV e.2.1 p) ∧ Boxed w i 3 (.int .i64 (e.1 : Int)) ∧ Boxed w p 3 (.int .i64 e.2.2)
theorem Tcl.at {w w' : World} {V : Value} {e : Nat × Int × Int} (h : Tcl w V e) (hb : Below w.heap.size w w') : Tcl w' V e := by
  obtain ⟨h, i, p, e, h1, h2, h3⟩ := h
  exact ⟨h, i, p, e, Boxed.at h1 hb, Boxed.at h2 hb, Boxed.at h3 hb⟩
/-- all of them, behind a slice of one's own -/
def Tcs (w : World) (lo : Nat) (v : Value) (es : List (Value × Nat × Int × Int)) : Prop :=
  w.ownsRow lo 202 1 v es.length (es.map (·.1)) ∧ ∀ e ∈ es, Tcl w e.1 e.2
theorem Tcs.at {w w' : World} {lo : Nat} {v : Value} {es : List (Value × Nat × Int × Int)} (h : Tcs w lo v es) (hb : Below w.heap.size w w') : Tcs w' lo v es :=
  ⟨owns_below h.1 hb, fun e he => (h.2 e he).at hb⟩
theorem Tcl.grow {w w' : World} {V v : Value} {e : Nat × Int × Int} {lo n : Nat} {xs : List Value} (h : Tcl w V e) (hr : w.ownsRow lo 202 1 v n xs) (hg : w.grownBy w' v.ownBlock) : Tcl w' V e := by
  obtain ⟨h, i, p, e, h1, h2, h3⟩ := h
  exact ⟨h, i, p, e, h1.kept hg (h1.not_row (by decide) hr), h2.kept hg (h2.not_row (by decide) hr), h3.kept hg (h3.not_row (by decide) hr)⟩
theorem Tcl.setb {w : World} {V u v : Value} {e : Nat × Int × Int} {A : Nat} (h : Tcl w V e) (hA : Boxed w A 234 u) : Tcl (w.setCell ⟨A, 0, none⟩ v) V e := by
  have ne : ∀ {b : Nat} {t : TypeId} {x : Value}, Boxed w b t x → t ≠ 234 → some b ≠ some A := by
    intro b t x hb ht e
    simp only [Option.some.injEq] at e
    subst e
    have := (show w.heap[b]? = _ from hb).symm.trans (show w.heap[b]? = _ from hA)
    simp at this
    exact ht this.2
  obtain ⟨h, i, p, e, h1, h2, h3⟩ := h
  exact ⟨h, i, p, e, h1.kept (grownBy_setCell' _ _ _) (ne h1 (by decide)), h2.kept (grownBy_setCell' _ _ _) (ne h2 (by decide)), h3.kept (grownBy_setCell' _ _ _) (ne h3 (by decide))⟩

def trp (l : List Col) (t : Tst) : Nat × Int × Int := ((fnd l t.1).getD 0, t.2.1, t.2.2)
/-- what passing answers -/
def PasP (w : World) (ps : List (Nat × Int × Int)) (er : Int) (e : Ending) (w' : World) : Prop :=
  Below w.heap.size w w' ∧ ((er = 0 ∧ ∃ A sv es, w.heap.size ≤ A ∧ e = .returned (.func (.func 211) #[] #[.pointer (some ⟨A, 0, none⟩)]) ∧ Boxed w' A 234 sv ∧ Tcs w' w.heap.size sv es ∧ es.map (·.2) = ps) ∨ (er ≠ 0 ∧ e = .panicked (chn er)))
theorem info94 : (Tryz.prog.info? 202).map (fun i => (i.zero, i.size, i.bytes)) = some (some .nilFunc, 1, 8) := by kernel_rfl

set_option maxHeartbeats 4000000 in
set_option maxRecDepth 100000 in
theorem passing_any (B : Nat) (lv v : Value) (l : List Col) (wh : List Tst) (w : World) (hB : B ≤ w.heap.size) (hp : Cols w B lv l) (hq : Tss w B v wh) (er : Int) (hr : whE l wh = er) :
    Calls Tryz.prog 178 #[lv, v] w fun e w' => PasP w (wh.map (trp l)) er e w' := by
  have HP : Hid (Cols w B lv l) := hp
  have HQ : Hid (Tss w B v wh) := hq
  have HR : Hid (whE l wh = er) := hr
  obtain ⟨a, c, rfl, hc, hl⟩ := hq.slice
  obtain ⟨a', c', rfl, hc', hl'⟩ := hp.slice
  obtain ⟨i0, hi0, hz0, hz1, hz2⟩ := info_parts info94
  have hmf := hmf
  clear hr
  go_enter Tryz.func178, Tryz.ntmps178
  by_cases h64 : 64 < wh.length
  · obtain rfl : 4 = er := by rw [← HR.out, whE, if_pos h64]
    have hle : ¬ (wh.length : Int) ≤ 64 := by omega
    go_wp2_with fail
    refine (must_no 4 w).mono ?_
    rintro e w2 ⟨rfl, rfl⟩
    go_wp2
    exact ⟨rfl, Below.refl _ _, .inr ⟨by decide, rfl⟩⟩
  have HR2 : Hid (tsE l wh = er) := by have := HR.out; rwa [whE, if_neg h64] at this
  have hle : (wh.length : Int) ≤ 64 := by omega
  go_wp2_with fail
  refine (must_ok 4 w).mono ?_
  rintro e w2 ⟨rfl, rfl⟩
  go_wp2
  go_loopw [16] (fun s wr => ∃ (i : Nat), s = .int .i64 (i : Int) ∧ i ≤ wh.length ∧ Hid (tsE l (wh.drop i) = er) ∧ Below w2.heap.size w2 wr ∧
    ∃ sv es, Boxed wr w2.heap.size 234 sv ∧ Tcs wr w2.heap.size sv es ∧ es.map (·.2) = (wh.take i).map (trp l)) (fun s _ => wh.length - (intOf s).toNat)
  case atStart => exact ⟨0, rfl, Nat.zero_le _, by simpa [Hid] using HR2.out, ba _ _, .slice none 0 0, [], Boxed.new _ _ _, ⟨⟨rfl, .inl ⟨rfl, rfl⟩⟩, fun e he => by cases he⟩, by simp⟩
  case round =>
    obtain ⟨i, rfl, hi, HI, hbl, sv, es, hbx, hts, hes⟩ := hrel
    have HBX : Hid (Boxed wr w2.heap.size 234 sv) := hbx
    have HT : Hid (Tcs wr w2.heap.size sv es) := hts
    have HES : Hid (es.map (·.2) = (wh.take i).map (trp l)) := hes
    have hsz := hbl.size
    clear hbx hes
    obtain ⟨sa, sc, rfl⟩ := owns_slice hts.1
    clear hts
    by_cases h1 : i < wh.length
    · obtain ⟨b, o, nm, d, z, rfl, hb, hgt, c1, c2, c3, hn⟩ := HQ.out.get hB hbl h1
      have HG : Hid (wh[i]? = some (nm, d, z)) := hgt
      have HST : Hid (tsE l (wh.drop i) = if (fnd l nm).isSome then (if doB d then tsE l (wh.drop (i + 1)) else 1) else 7) := tsE_step hgt
      have kcol : Cols (wr.alloc (.cells #[.string nm, .int .i64 d, .int .i64 z] 214)) B (.slice a' l.length c') l := (HP.out.at hB hbl).at (by omega) (ba _ _)
      clear hgt
      cases hf : fnd l nm with
      | none =>
        obtain rfl : 7 = er := by rw [← HI.out, HST.out, hf]; rfl
        have k1 := find_no B _ l nm _ (by simp; omega) kcol hf
        clear hf kcol
        go_wp2_with fail
        refine k1.mono ?_
        rintro e w3 ⟨rfl, hb3⟩
        go_wp2
        exact ⟨rfl, bt (bal hbl _) hb3, .inr ⟨by decide, rfl⟩⟩
      | some p =>
        have k1 := find_ok B _ l nm _ (by simp; omega) kcol p hf
        have HF : Hid (fnd l nm = some p) := hf
        clear hf kcol
        go_wp2_with fail
        refine k1.mono ?_
        rintro e w3 ⟨rfl, hb3⟩
        clear k1
        have e0 : Cl w3 wr.heap.size 0 (.string nm) := (Cl.new (w := wr) #[.string nm, .int .i64 d, .int .i64 z] 214 0 _ rfl rfl).at hb3
        have e1 : Cl w3 wr.heap.size 1 (.int .i64 d) := (Cl.new (w := wr) #[.string nm, .int .i64 d, .int .i64 z] 214 1 _ rfl rfl).at hb3
        have e2 : Cl w3 wr.heap.size 2 (.int .i64 z) := (Cl.new (w := wr) #[.string nm, .int .i64 d, .int .i64 z] 214 2 _ rfl rfl).at hb3
        have hb3' : Below wr.heap.size wr w3 := bt (ba _ _) hb3
        have t1 := (e1.at (ba w3 (.cells #[.int .i64 (p : Int)] 3))).c
        have t2 := (e2.at (ba w3 (.cells #[.int .i64 (p : Int)] 3))).c
        cases hd : doB d with
        | false =>
          obtain rfl : 1 = er := by rw [← HI.out, HST.out, HF.out, hd]; rfl
          have k2 := hold_no d z (w3.alloc (.cells #[.int .i64 (p : Int)] 3)) hd
          clear hd
          go_wp2_with fail
          refine k2.mono ?_
          rintro e w4 ⟨rfl, hb4⟩
          go_wp2
          exact ⟨rfl, bt (bt hbl (bt hb3' (ba _ _))) hb4, .inr ⟨by decide, rfl⟩⟩
        | true =>
          have k2 := hold_ok d z (w3.alloc (.cells #[.int .i64 (p : Int)] 3)) hd
          have HI2 : Hid (tsE l (wh.drop (i + 1)) = er) := by have := HI.out; rwa [HST.out, HF.out, hd] at this
          clear hd
          go_wp2_with fail
          refine k2.mono ?_
          rintro e w4 ⟨rfl, hw4⟩
          have es1 : (w3.alloc (.cells #[.int .i64 (p : Int)] 3)).heap.size = w3.heap.size + 1 := by simp
          rw [es1]
          have hs4 : Hid (w4.heap.size = w3.heap.size + 2) := by show _ = _; rw [hw4]; simp
          have X1 : Boxed w4 w3.heap.size 3 (.int .i64 (p : Int)) := by rw [hw4]; exact (Boxed.new w3 3 _).alloc _
          have X2 : Boxed w4 (w3.heap.size + 1) 3 (.int .i64 z) := by rw [hw4]; have := Boxed.new (w3.alloc (.cells #[.int .i64 (p : Int)] 3)) 3 (.int .i64 z); rwa [es1] at this
          have hb34 : Below w3.heap.size w3 w4 := by rw [hw4]; exact bal (ba _ _) _
          have hb4 : Below wr.heap.size wr w4 := bt hb3' hb34
          clear hw4 k2 t1 t2 e0 e1 e2 hb3 hb34 es1
          obtain ⟨W5, hW5⟩ : ∃ W5, w4.alloc (.cells #[holV d (w3.heap.size + 1)] 229) = W5 := ⟨_, rfl⟩
          have hb5 : Below wr.heap.size wr W5 := by rw [← hW5]; exact bal hb4 _
          have hs5 : Hid (W5.heap.size = w4.heap.size + 1) := by show _ = _; rw [← hW5]; simp
          have Y1 := Boxed.at X1 (by rw [← hW5]; exact ba _ _ : Below w4.heap.size w4 W5)
          have Y2 := Boxed.at X2 (by rw [← hW5]; exact ba _ _ : Below w4.heap.size w4 W5)
          have Y3 : Boxed W5 w4.heap.size 229 (holV d (w3.heap.size + 1)) := by rw [← hW5]; exact Boxed.new w4 229 _
          have YA : Boxed W5 w2.heap.size 234 (.slice sa es.length sc) := Boxed.at HBX.out hb5
          have YT : Tcs W5 w2.heap.size (.slice sa es.length sc) es := HT.out.at hb5
          have tA := YA.cell
          have HY : Hid (Boxed W5 w3.heap.size 3 (.int .i64 (p : Int)) ∧ Boxed W5 (w3.heap.size + 1) 3 (.int .i64 z) ∧ Boxed W5 w4.heap.size 229 (holV d (w3.heap.size + 1)) ∧ Boxed W5 w2.heap.size 234 (.slice sa es.length sc) ∧ Tcs W5 w2.heap.size (.slice sa es.length sc) es) := ⟨Y1, Y2, Y3, YA, YT⟩
          clear Y1 Y2 Y3 X1 X2 YA YT
          have HW5 : Hid (w4.alloc (.cells #[holV d (w3.heap.size + 1)] 229) = W5) := hW5
          have tA2 : (w4.alloc (.cells #[holV d (w3.heap.size + 1)] 229)).cell? ⟨w2.heap.size, 0, none⟩ = some (.slice sa es.length sc) := by rw [hW5]; exact tA
          have HO : Hid (((w4.alloc (.cells #[holV d (w3.heap.size + 1)] 229)).alloc (.cells #[.func (.func 210) #[] #[.pointer (some ⟨w4.heap.size, 0, none⟩), .pointer (some ⟨w3.heap.size, 0, none⟩)]] 202)).ownsRow w2.heap.size 202 1 (.slice sa es.length sc) es.length (es.map (·.1))) := by
            show World.ownsRow _ _ _ _ _ _ _; rw [hW5]; exact owns_below HY.out.2.2.2.2.1 (ba _ _)
          have hlen : Hid (es.length ≤ 64) := by have := congrArg List.length HES.out; simp at this; show _ ≤ _; omega
          have hsA : Hid (w2.heap.size ≤ w4.heap.size) := by show _ ≤ _; exact Nat.le_trans hsz hb4.size
          clear hW5 tA
          simp only [holV] at tA2 HO ⊢
          go_wp2_with (at_builtin; refine wpList_append_own _ rfl _ _ 234 rfl w2.heap.size 202 i0 .nilFunc 1 8 Tryz.underlying234 hi0 hz0 hz1 hz2 rfl (by decide) _ _ _ rfl HO.out ⟨w4.heap.size + 1, 0, none⟩ 1 1 [.func (.func 210) #[] #[.pointer (some ⟨w4.heap.size, 0, none⟩), .pointer (some ⟨w3.heap.size, 0, none⟩)]] rfl ?q1 ?q2 ?q3 ?q4 ?q5 ?q6 ?_)
          case q1 => rfl
          case q2 =>
            intro j u hj
            match j, hj with
            | 0, hj => simp at hj; subst hj; simp [go_sem, Addr.add]
          case q3 => intro u hu; simp at hu; subst hu; rfl
          case q4 => have := hlen.out; simp [maxLen]; omega
          case q5 => have := hlen.out; omega
          case q6 => have := hsA.out; simp; omega
          intro v6 w6 hown6 hgrow hnil
          rw [show (w4.alloc (.cells #[.func (.func (226 + d.toNat)) #[] #[.pointer (some ⟨w3.heap.size + 1, 0, none⟩)]] 229)) = W5 from HW5.out] at hgrow
          obtain ⟨Z1, Z2, Z3, _, Z5⟩ := Boxed.appended HY.out.2.2.2.1 (by decide) HY.out.2.2.2.2.1 (Nat.le_trans hsz hb5.size) (Nat.le_refl _) hown6 hgrow
          obtain ⟨va, vc, rfl⟩ := owns_slice hown6
          have ZC : Hid (Tcs (w6.setCell ⟨w2.heap.size, 0, none⟩ (.slice va (es.length + 1) vc)) w2.heap.size (.slice va (es.length + 1) vc) (es ++ [(.func (.func 210) #[] #[.pointer (some ⟨w4.heap.size, 0, none⟩), .pointer (some ⟨w3.heap.size, 0, none⟩)], (p, d, z))])) := by
            have key : ∀ V e, Tcl W5 V e → Tcl (w6.setCell ⟨w2.heap.size, 0, none⟩ (.slice va (es.length + 1) vc)) V e := fun V e he =>
              ((he.at (ba _ _)).grow (owns_below HY.out.2.2.2.2.1 (ba _ _)) hgrow).setb Z1
            refine ⟨by simpa using Z3, fun e he => ?_⟩
            rcases List.mem_append.1 he with he | he
            · exact key _ _ (HY.out.2.2.2.2.2 e he)
            · obtain rfl := List.mem_singleton.1 he
              exact key _ _ ⟨_, _, _, rfl, HY.out.2.2.1, HY.out.1, HY.out.2.1⟩
          have ZE : Hid ((es ++ [((.func (.func 210) #[] #[.pointer (some ⟨w4.heap.size, 0, none⟩), .pointer (some ⟨w3.heap.size, 0, none⟩)] : Value), (p, d, z))]).map (·.2) = (wh.take (i + 1)).map (trp l)) := by
            show _ = _
            rw [List.map_append, HES.out, List.take_add_one, HG.out, List.map_append]
            simp [trp, HF.out]
          have hbz : Below w2.heap.size w2 (w6.setCell ⟨w2.heap.size, 0, none⟩ (.slice va (es.length + 1) vc)) := (bt hbl hb5).trans Z5
          have ZB : Hid (Boxed (w6.setCell ⟨w2.heap.size, 0, none⟩ (.slice va (es.length + 1) vc)) w2.heap.size 234 (.slice va (es.length + 1) vc)) := Z2
          have z1 := Z1.cell
          have z2 := Z1.frozen
          clear Z1 Z2 Z3 Z5 hgrow hown6 hnil tA2 HO
          go_wp2
          go_roundw
          case rel => exact ⟨i + 1, by go_num, h1, HI2, hbz, _, _, ZB.out, ZC.out, ZE.out⟩
          case measure => simp [intOf]; omega
    · obtain rfl : 0 = er := by have := HI.out; rw [List.drop_of_length_le (by omega)] at this; exact this
      have HES2 : Hid (es.map (·.2) = wh.map (trp l)) := by have := HES.out; rwa [List.take_of_length_le (by omega)] at this
      go_wp2
      go_ret
      exact ⟨hbl, .inl ⟨rfl, _, _, es, Nat.le_refl _, rfl, HBX.out, HT.out, HES2.out⟩⟩
end Go.Proofs.YtlndlpjadajelaaGreat.K
