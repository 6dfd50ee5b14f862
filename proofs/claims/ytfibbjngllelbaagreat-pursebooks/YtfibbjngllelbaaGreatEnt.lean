import Derived.Test.YtfibbjngllelbaaGreatPsp
import Derived.Laws.StructEq
namespace Go.Proofs.YtfibbjngllelbaaGreat
open Go.RowKit Go.Proofs.YtfibbjngllelbaaGreat.Ds

/-- ENTRIES BEHIND A SLICE, in a block below B. -/
def Ents (w : World) (B : Nat) (v : Value) (l : List En) : Prop :=
  ∃ a c, v = .slice a l.length c ∧ l.length ≤ c ∧ l.length ≤ 9223372036854775807 ∧ (∀ x ∈ l, x.2.1.size ≤ 9223372036854775807) ∧
    (l ≠ [] → ∃ b o, a = some ⟨b, o, none⟩ ∧ b < B ∧ ∀ i x, l[i]? = some x → w.cell? ⟨b, o + i * 5, none⟩ = some (.int .i64 x.1) ∧ w.cell? ⟨b, o + i * 5 + 1, none⟩ = some (.string x.2.1) ∧ w.cell? ⟨b, o + i * 5 + 2, none⟩ = some (.int .i64 x.2.2.1) ∧ w.cell? ⟨b, o + i * 5 + 3, none⟩ = some (.int .i64 x.2.2.2.1) ∧ w.cell? ⟨b, o + i * 5 + 4, none⟩ = some (.int .i64 x.2.2.2.2))
theorem Ents.keep {w w' : World} {B : Nat} {v : Value} {l : List En} (h : Ents w B v l) (hb : Below B w w') : Ents w' B v l := by
  obtain ⟨a, c, hv, hc, hl, hn, hx⟩ := h
  refine ⟨a, c, hv, hc, hl, hn, fun hne => ?_⟩
  obtain ⟨b, o, ha, hB, hcell⟩ := hx hne
  refine ⟨b, o, ha, hB, fun i x hi => ?_⟩
  obtain ⟨h0, h1, h2, h3, h4⟩ := hcell i x hi
  exact ⟨(hb.cell (p := ⟨b, o + i * 5, none⟩) hB).trans h0, (hb.cell (p := ⟨b, o + i * 5 + 1, none⟩) hB).trans h1, (hb.cell (p := ⟨b, o + i * 5 + 2, none⟩) hB).trans h2, (hb.cell (p := ⟨b, o + i * 5 + 3, none⟩) hB).trans h3, (hb.cell (p := ⟨b, o + i * 5 + 4, none⟩) hB).trans h4⟩
theorem Ents.mono {w : World} {B B' : Nat} {v : Value} {l : List En} (h : Ents w B v l) (hB : B ≤ B') : Ents w B' v l := by
  obtain ⟨a, c, hv, hc, hl, hn, hx⟩ := h
  refine ⟨a, c, hv, hc, hl, hn, fun hne => ?_⟩
  obtain ⟨b, o, ha, hb, hcell⟩ := hx hne
  exact ⟨b, o, ha, by omega, hcell⟩
theorem Ents.at {w w' : World} {B : Nat} {v : Value} {l : List En} (h : Ents w B v l) (hB : B ≤ w.heap.size) (hb : Below w.heap.size w w') : Ents w' B v l := h.keep (hb.mono hB)
theorem Ents.slice {w : World} {B : Nat} {v : Value} {l : List En} (h : Ents w B v l) : ∃ a c, v = .slice a l.length c ∧ l.length ≤ c ∧ l.length ≤ 9223372036854775807 := by
  obtain ⟨a, c, hv, hc, hl, _⟩ := h
  exact ⟨a, c, hv, hc, hl⟩
theorem Ents.get {w wr : World} {B : Nat} {a : Option Addr} {n c : Nat} {l : List En} (h : Ents w B (.slice a n c) l) (hB : B ≤ w.heap.size) (hb : Below w.heap.size w wr) {i : Nat} (hi : i < l.length) :
    ∃ b o d nm p u v, a = some ⟨b, o, none⟩ ∧ b < B ∧ l[i]? = some (d, nm, p, u, v) ∧ wr.cell? ⟨b, o + i * 5, none⟩ = some (.int .i64 d) ∧ wr.cell? ⟨b, o + i * 5 + 1, none⟩ = some (.string nm) ∧ wr.cell? ⟨b, o + i * 5 + 2, none⟩ = some (.int .i64 p) ∧ wr.cell? ⟨b, o + i * 5 + 3, none⟩ = some (.int .i64 u) ∧ wr.cell? ⟨b, o + i * 5 + 4, none⟩ = some (.int .i64 v) ∧ nm.size ≤ 9223372036854775807 := by
  obtain ⟨a', c', hv, _, _, hn, hx⟩ := h.at hB hb
  simp only [Value.slice.injEq] at hv
  obtain ⟨rfl, rfl, rfl⟩ := hv
  obtain ⟨b, o, rfl, hbB, hcell⟩ := hx (ne_of_lt hi)
  obtain ⟨⟨d, nm, p, u, v⟩, hx⟩ := get_lt hi
  obtain ⟨h0, h1, h2, h3, h4⟩ := hcell i _ hx
  exact ⟨b, o, d, nm, p, u, v, rfl, hbB, hx, h0, h1, h2, h3, h4, hn _ (List.mem_of_getElem? hx)⟩

theorem rat_struct : Tryz.prog.underlying 35 = some (.struct (Tryz.prog.fieldsOf 35)) := by rw [Program.fieldsOf, Tryz.underlying35]
theorem rat_held : Tryz.prog.stoodInHeld 35 = false := by kernel_rfl
theorem rat_fields : ∃ f0 f1 : Field, (Tryz.prog.fieldsOf 35).toList = [f0, f1] ∧ f0.name ≠ "_" ∧ f1.name ≠ "_" ∧ f0.type = 3 ∧ f1.type = 3 ∧ f0.offset = 0 ∧ f1.offset = 1 := by
  refine ⟨_, _, by rw [Program.fieldsOf, Tryz.underlying35], by decide, by decide, rfl, rfl, rfl, rfl⟩
theorem ent_struct : Tryz.prog.underlying 45 = some (.struct (Tryz.prog.fieldsOf 45)) := by rw [Program.fieldsOf, Tryz.underlying45]
theorem ent_held : Tryz.prog.stoodInHeld 45 = false := by kernel_rfl
theorem ent_fields : ∃ f0 f1 f2 f3 : Field, (Tryz.prog.fieldsOf 45).toList = [f0, f1, f2, f3] ∧ f0.name ≠ "_" ∧ f1.name ≠ "_" ∧ f2.name ≠ "_" ∧ f3.name ≠ "_" ∧ f0.type = 3 ∧ f1.type = 9 ∧ f2.type = 3 ∧ f3.type = 35 ∧ f0.offset = 0 ∧ f1.offset = 1 ∧ f2.offset = 2 ∧ f3.offset = 3 := by
  refine ⟨_, _, _, _, by rw [Program.fieldsOf, Tryz.underlying45], by decide, by decide, by decide, by decide, rfl, rfl, rfl, rfl, rfl, rfl, rfl, rfl⟩
theorem rat_eq (d : Nat) (a b c e : Int) (u : World) : (Op.equalIn (d + 1 + 1) 35 (.agg #[.int .i64 a, .int .i64 b]) (.agg #[.int .i64 c, .int .i64 e])).run Tryz.prog u = .ok (decide (a = c ∧ b = e)) u := by
  obtain ⟨f0, f1, hf, n0, n1, t0, t1, o0, o1⟩ := rat_fields
  rw [run_equalIn_struct u (d + 1) 35 _ _ rat_struct rat_held, hf]
  simp [Op.eqFields, n0, n1, t0, t1, o0, o1, go_sem, Tryz.underlying3]
  by_cases h1 : a = c <;> by_cases h2 : b = e <;> simp [h1, h2]
theorem ent_neq (d d' p p' u u' v v' : Int) (nm nm' : ByteArray) (r : Bool) (hr : (!decide ((d, nm, p, u, v) = (d', nm', p', u', v'))) = r) (W : World) :
    (binOp .neq 45 (.agg #[.int .i64 d, .string nm, .int .i64 p, .int .i64 u, .int .i64 v]) (.agg #[.int .i64 d', .string nm', .int .i64 p', .int .i64 u', .int .i64 v'])).run Tryz.prog W = .ok (.bool r) W := by
  obtain ⟨f0, f1, f2, f3, hf, n0, n1, n2, n3, t0, t1, t2, t3, o0, o1, o2, o3⟩ := ent_fields
  rw [run_neq_struct, run_equalIn_struct W 9999 45 _ _ ent_struct ent_held, hf, ← hr]
  simp [Op.eqFields, n0, n1, n2, n3, t0, t1, t2, t3, o0, o1, o2, o3, go_sem, Tryz.underlying9, Tryz.underlying3, str_eq]
  by_cases h1 : d = d' <;> by_cases h2 : nm = nm' <;> by_cases h3 : p = p' <;> by_cases h4 : u = u' <;> by_cases h5 : v = v' <;> simp [h1, h2, h3, h4, h5]
theorem take_all {α : Type} [DecidableEq α] {x y : List α} {i : Nat} {a b : α} (hx : x[i]? = some a) (hy : y[i]? = some b) (h : x.take i = y.take i) : x.take (i + 1) = y.take (i + 1) ↔ a = b := by
  rw [List.take_add_one, List.take_add_one, hx, hy, h]; simp

set_option maxHeartbeats 1000000 in
set_option maxRecDepth 100000 in
/-- SameEntries -/
theorem sameEntries_any (B : Nat) (v1 v2 : Value) (x y : List En) (w : World) (hB : B ≤ w.heap.size) (hx : Ents w B v1 x) (hy : Ents w B v2 y) (r : Bool) (hr : decide (x = y) = r) :
    Calls Tryz.prog 7 #[v1, v2] w fun e w' => e = .returned (.bool r) ∧ Below w.heap.size w w' := by
  have HX : Hid (Ents w B v1 x) := hx
  have HY : Hid (Ents w B v2 y) := hy
  have HR : Hid (decide (x = y) = r) := hr
  obtain ⟨a, c, rfl, hc, hl⟩ := hx.slice
  obtain ⟨a2, c2, rfl, hc2, hl2⟩ := hy.slice
  clear hr
  by_cases hlen : x.length = y.length
  · have hq : ((x.length : Int) != (y.length : Int)) = false := by simp [hlen]
    have HL : Hid (x.length = y.length) := hlen
    clear hlen
    go_enter Tryz.func7, Tryz.ntmps7
    go_wp2
    go_loopw [13] (fun s wr => ∃ (i : Nat), s = .int .i64 (i : Int) ∧ i ≤ x.length ∧ Hid (x.take i = y.take i) ∧ Below w.heap.size w wr) (fun s _ => x.length - (intOf s).toNat)
    case atStart => exact ⟨0, rfl, Nat.zero_le _, by simp [Hid], Below.refl _ _⟩
    case round =>
      obtain ⟨i, rfl, hi, HI, hbl⟩ := hrel
      by_cases h1 : i < x.length
      · have h2 : i < y.length := by have := HL.out; omega
        obtain ⟨b, o, d, nm, p, u, v, rfl, hb, hg, e0, e1, e2, e3, e4, _⟩ := HX.out.get hB hbl h1
        obtain ⟨b', o', d', nm', p', u', v', rfl, hb', hg', g0, g1, g2, g3, g4, _⟩ := HY.out.get hB hbl h2
        have HT : Hid (x.take (i + 1) = y.take (i + 1) ↔ (d, nm, p, u, v) = (d', nm', p', u', v')) := take_all hg hg' HI.out
        clear hg hg'
        by_cases he : (d, nm, p, u, v) = (d', nm', p', u', v')
        · have hne := fun W => ent_neq d d' p p' u u' v v' nm nm' false (by simpa using he) W
          have HE : Hid ((d, nm, p, u, v) = (d', nm', p', u', v')) := he
          clear he
          go_wp2
          go_quiet (fail)
          go_wp2
          go_roundw
          case rel => exact ⟨i + 1, by go_num, by omega, HT.out.2 HE.out, below_drewN hbl _⟩
          case measure => simp [intOf]; omega
        · have hne := fun W => ent_neq d d' p p' u u' v v' nm nm' true (by rw [decide_eq_false he]; rfl) W
          have hf : false = r := by
            rw [← HR.out]
            refine (decide_eq_false fun e => he (HT.out.1 (by rw [e]))).symm
          subst hf
          clear he
          go_wp2
          go_quiet (fail)
          go_wp2
          go_ret
          exact ⟨rfl, below_drewN hbl _⟩
      · have hi' : i = x.length := by omega
        have ht : true = r := by
          rw [← HR.out]
          have h3 := HI.out
          rw [hi', List.take_length, HL.out, List.take_length] at h3
          exact (decide_eq_true h3).symm
        subst ht
        subst hi'
        go_wp2
        go_ret
        exact ⟨rfl, hbl⟩
  · have hq : ((x.length : Int) != (y.length : Int)) = true := by simp; omega
    have hf : false = r := by rw [← HR.out]; exact (decide_eq_false fun e => hlen (by rw [e])).symm
    subst hf
    clear hlen
    go_enter Tryz.func7, Tryz.ntmps7
    go_wp2
    go_ret
    exact ⟨rfl, Below.refl _ _⟩
end Go.Proofs.YtfibbjngllelbaaGreat
