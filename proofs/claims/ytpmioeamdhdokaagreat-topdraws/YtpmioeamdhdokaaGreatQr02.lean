import Derived.Test.YtpmioeamdhdokaaGreatQr01
import Derived.Deep.OwnRows
import Derived.Laws.OwnMore
namespace Go.Proofs.YtpmioeamdhdokaaGreat
open Go.RowKit Go.Proofs.YtpmioeamdhdokaaGreat.Ds
open Go.Proofs.YtpmioeamdhdokaaGreat.K (Cl)
open Go.Proofs.YtpmioeamdhdokaaGreat.K.P (HSt Keeps keeps_below keeps_set keeps_refl HouM HouK DskM HdoP doesT stepH Ev Sn quV priT TwoB W64 liesT row_keeps row_lt row_base row_gb row_same enc infocloneI_any)

/-- a step with what its cells hold -/
structure Stv where
  x : Stp
  v0 : Int
  v1 : ByteArray
  v2 : Int
  v3 : Int
  a4 : Option Addr
  n4 : Nat
  c4 : Nat
  a5 : Option Addr
  n5 : Nat
  c5 : Nat
  xa : Option Addr
  xc : Nat
def Stv.cs (s : Stv) : List Value := [.int .i64 s.x.act, .int .i64 s.x.n, .string s.x.nm, .int .i64 s.x.bu, .int .i64 s.x.bd, .string s.x.pn, .int .i64 s.v0, .string s.v1, .int .i64 s.v2, .int .i64 s.v3, .slice s.a4 s.n4 s.c4, .slice s.a5 s.n5 s.c5, .int .i64 s.x.u, .int .i64 s.x.d, .int .i64 s.x.lo, .int .i64 s.x.hi, .slice s.xa s.x.bits.length s.xc, .int .i64 s.x.word]
theorem Stv.len (s : Stv) : s.cs.length = 18 := rfl
/-- what its cells lead to -/
def StvM (w : World) (B : Nat) (s : Stv) : Prop :=
  ∃ nb, K.Qm w B s.x.q (.int .i64 s.v0) (.string s.v1) (.int .i64 s.v2) (.int .i64 s.v3) (.slice s.a4 s.n4 s.c4) (.slice s.a5 s.n5 s.c5) ∧ Ints w B nb (.slice s.xa s.x.bits.length s.xc) s.x.bits ∧ (s.xa = none → s.xc = 0) ∧ I64 s.x.lo ∧ I64 s.x.hi ∧ I64 s.x.n ∧ I64 s.x.word ∧ s.x.nm.size ≤ 9223372036854775807 ∧ s.x.pn.size ≤ 9223372036854775807
theorem stv_stp {w : World} {B b o : Nat} {s : Stv} (h : w.rangeAt b o s.cs) (hm : StvM w B s) : StpM w B b o s.x := by
  obtain ⟨nb, h2, h3, h4⟩ := hm
  exact ⟨_, _, _, _, _, _, s.xa, s.xc, nb, h, h2, h3, h4⟩
/-- a script in memory, with what its cells hold -/
def Svs (w : World) (B : Nat) (v : Value) (ss : List Stv) : Prop :=
  ∃ a c, v = .slice a ss.length c ∧ ss.length ≤ c ∧ (∀ s ∈ ss, StvM w B s) ∧ (ss ≠ [] → ∃ b o, a = some ⟨b, o, none⟩ ∧ b < B ∧ ∀ (i : Nat) s, ss[i]? = some s → w.rangeAt b (o + i * 18) s.cs)
def sfl (ss : List Stv) : List Value := ss.flatMap Stv.cs
theorem sfl_at : ∀ (ss : List Stv) (i : Nat) (s : Stv) (j : Nat) (u : Value), ss[i]? = some s → s.cs[j]? = some u → (sfl ss)[i * 18 + j]? = some u
  | [], i, s, j, u, h, _ => by simp at h
  | t :: ss, i, s, j, u, h, hj => by
    unfold sfl
    rw [List.flatMap_cons]
    have hj18 : j < 18 := by have := (List.getElem?_eq_some_iff.1 hj).1; rwa [Stv.len] at this
    cases i with
    | zero =>
      simp only [List.getElem?_cons_zero, Option.some.injEq] at h
      subst h
      rw [List.getElem?_append_left (by rw [Stv.len]; omega), Nat.zero_mul, Nat.zero_add]
      exact hj
    | succ i =>
      rw [List.getElem?_cons_succ] at h
      rw [List.getElem?_append_right (by rw [Stv.len]; omega), Stv.len, show (i + 1) * 18 + j - 18 = i * 18 + j by omega]
      exact sfl_at ss i s j u h hj
theorem svs_stps {w : World} {B : Nat} {v : Value} {ss : List Stv} (h : Svs w B v ss) (hl : ss.length ≤ 9223372036854775807) : Stps w B v (ss.map Stv.x) := by
  obtain ⟨a, c, rfl, h1, h2, h3⟩ := h
  refine ⟨a, c, by rw [List.length_map], by rw [List.length_map]; exact h1, by rw [List.length_map]; exact hl, fun hn => ?_⟩
  obtain ⟨b, o, rfl, hB, h4⟩ := h3 (fun e => hn (by rw [e]; rfl))
  refine ⟨b, o, rfl, hB, fun i x hx => ?_⟩
  rw [List.getElem?_map] at hx
  obtain ⟨s, hs, rfl⟩ := Option.map_eq_some_iff.1 hx
  exact stv_stp (h4 i s hs) (h2 s (List.mem_of_getElem? hs))
end Go.Proofs.YtpmioeamdhdokaaGreat
namespace Go.Proofs.YtpmioeamdhdokaaGreat
open Go.RowKit Go.Proofs.YtpmioeamdhdokaaGreat.Ds
open Go.Proofs.YtpmioeamdhdokaaGreat.K (Cl)
open Go.Proofs.YtpmioeamdhdokaaGreat.K.P (HSt Keeps keeps_below keeps_set keeps_refl HouM HouK DskM HdoP doesT stepH Ev Sn quV priT TwoB W64 liesT row_keeps row_lt row_base row_gb row_same enc infocloneI_any)

theorem bx_range {w : World} {b : Nat} {cs : List Value} (h : Bx w b cs) : w.rangeAt b 0 cs := fun j v hj => by rw [Nat.zero_add]; exact (h j v hj).c
end Go.Proofs.YtpmioeamdhdokaaGreat
namespace Go.Proofs.YtpmioeamdhdokaaGreat
open Go.RowKit Go.Shelf Go.Proofs.YtpmioeamdhdokaaGreat.Ds

/-- a block that holds just these cells -/
def Owb (w : World) (b : Nat) (t : TypeId) (cs : List Value) : Prop := w.heap[b]? = some (.cells cs.toArray t (0, 0))
theorem Owb.lt {w : World} {b : Nat} {t : TypeId} {cs : List Value} (h : Owb w b t cs) : b < w.heap.size := (Array.getElem?_eq_some_iff.1 h).1
theorem Owb.new (w : World) (cs : List Value) (t : TypeId) : Owb (w.alloc (.cells cs.toArray t)) w.heap.size t cs := Go.heap_alloc_last w _
theorem Owb.set {w : World} {b : Nat} {t : TypeId} {cs : List Value} (h : Owb w b t cs) (ds : List Value) : Owb (w.setRow b ds.toArray) b t ds := by
  unfold Owb World.setRow at *
  simp [Array.getElem?_modify, h]
theorem below_row {A w : World} {b : Nat} (h : Below A.heap.size A w) (hb : A.heap.size ≤ b) (ds : Array Value) : Below A.heap.size A (w.setRow b ds) :=
  ⟨h.os, h.tape, h.output, by simpa [World.setRow] using h.size, fun k hk => by
    refine Eq.trans ?_ (h.block k hk)
    unfold World.setRow
    simp [Array.getElem?_modify, show ¬ b = k by omega]⟩
theorem Owb.bx {w : World} {b : Nat} {t : TypeId} {cs : List Value} (h : Owb w b t cs) : Bx w b cs := fun k v hk => ⟨by unfold Owb at h; simp [World.cell?, h]; simpa using hk, by unfold Owb at h; simp [World.frozen?, h], h.lt⟩
end Go.Proofs.YtpmioeamdhdokaaGreat
namespace Go.Proofs.YtpmioeamdhdokaaGreat
open Go.RowKit Go.Proofs.YtpmioeamdhdokaaGreat.Ds
open Go.Proofs.YtpmioeamdhdokaaGreat.K (Cl)
open Go.Proofs.YtpmioeamdhdokaaGreat.K.P (HSt Keeps keeps_below keeps_set keeps_refl HouM HouK DskM HdoP doesT stepH Ev Sn quV priT TwoB W64 liesT row_keeps row_lt row_base row_gb row_same enc Rl noteH Tame rl_step nrm)

/-- what was seen, in its row -/
theorem seen_row {w : World} {G : Nat → Prop} {N0 : Nat} {ov : Value} {os : List (Sn Tol)} {css : List (List Value)} (h1 : css.length = os.length) (h2 : w.ownsRow N0 42 6 ov os.length css.flatten)
    (h4 : ∀ (i : Nat) x cs, os[i]? = some x → css[i]? = some cs → SeenM w G x cs) {i : Nat} {x : Sn Tol} (hi : os[i]? = some x) :
    ∃ cs g c, ov = .slice (some ⟨g, 0, none⟩) os.length c ∧ N0 ≤ g ∧ g < w.heap.size ∧ w.rangeAt g (0 + i * 6) cs ∧ SeenM w G x cs := by
  have hlt := (List.getElem?_eq_some_iff.1 hi).1
  obtain ⟨cs, hcs⟩ : ∃ cs, css[i]? = some cs := ⟨_, List.getElem?_eq_getElem (by omega)⟩
  have h6 : ∀ (j : Nat) ds, css[j]? = some ds → ds.length = 6 := by
    intro j ds hj
    have hjl := (List.getElem?_eq_some_iff.1 hj).1
    obtain ⟨_, _, _, _, _, e, _⟩ := h4 j _ ds (List.getElem?_eq_getElem (by omega)) hj
    rw [e]; rfl
  have hfl : ∀ (l : List (List Value)), (∀ (j : Nat) ds, l[j]? = some ds → ds.length = 6) → ∀ (k : Nat) ds, l[k]? = some ds → ∀ (q : Nat) u, ds[q]? = some u → l.flatten[k * 6 + q]? = some u := by
    intro l
    induction l with
    | nil => intro _ k ds h; simp at h
    | cons a l ih =>
      intro hl k ds hk q u hq
      have ha := hl 0 a rfl
      rw [List.flatten_cons]
      cases k with
      | zero =>
        simp only [List.getElem?_cons_zero, Option.some.injEq] at hk
        subst hk
        have := (List.getElem?_eq_some_iff.1 hq).1
        rw [List.getElem?_append_left (by omega)]
        simpa using hq
      | succ k =>
        rw [List.getElem?_cons_succ] at hk
        rw [List.getElem?_append_right (by omega), ha, show (k + 1) * 6 + q - 6 = k * 6 + q by omega]
        exact ih (fun j ds hj => hl (j + 1) ds (by simpa using hj)) k ds hk q u hq
  rcases h2.2 with ⟨_, h0⟩ | ⟨g, cap, cur, rfl, hb, hc, _⟩
  · omega
  · refine ⟨cs, g, cap, rfl, hb, (Array.getElem?_eq_some_iff.1 hc).1, fun q u hq => ?_, h4 i x cs hi hcs⟩
    have h3 := h2.cells (g := g) rfl (i * 6 + q) u (hfl css h6 i cs hcs q u hq)
    have e : (⟨g, 0, none⟩ : Addr).add (i * 6 + q) = ⟨g, 0 + i * 6 + q, none⟩ := by unfold Addr.add; split <;> simp_all
    rwa [e] at h3
end Go.Proofs.YtpmioeamdhdokaaGreat
namespace Go.Proofs.YtpmioeamdhdokaaGreat
open Go.RowKit Go.Proofs.YtpmioeamdhdokaaGreat.Ds
open Go.Proofs.YtpmioeamdhdokaaGreat.K.P (HSt Keeps keeps_below W64 row_keeps row_lt enc)

def mkS (act bu bd : Int) (nm : ByteArray) : Stv := ⟨⟨act, 0, nm, bu, bd, ⟨#[]⟩, .node 0 ⟨#[]⟩ 0 0 [] 0 .none .none, 0, 0, 0, 0, [], 0⟩, 0, ⟨#[]⟩, 0, 0, none, 0, 0, none, 0, 0, none, 0⟩
theorem mk_m (w : World) (B : Nat) (act bu bd : Int) (nm : ByteArray) (hn : nm.size ≤ 9223372036854775807) : StvM w B (mkS act bu bd nm) := by
  have z0 : I64 0 := ⟨by decide, by decide⟩
  refine ⟨0, ⟨rfl, rfl, rfl, rfl, by decide, ?_, none, 0, rfl, Nat.le_refl _, by decide, fun h => by omega⟩, ⟨none, 0, rfl, Nat.le_refl _, Nat.zero_le _, fun h => absurd rfl h⟩, fun _ => rfl, z0, z0, z0, z0, hn, Nat.zero_le _⟩
  exact ⟨none, 0, rfl, Nat.le_refl _, by decide, (fun x hx => by cases hx), fun h => absurd rfl h⟩
theorem bl1 : Tryz.prog.built 56 [(0, .int .i64 1)] = some (mkS 1 0 0 ⟨#[]⟩).cs.toArray := by kernel_rfl
theorem bls3 (a b c : Stv) : Tryz.prog.builtSlice 56 3 [(0, .agg a.cs.toArray), (1, .agg b.cs.toArray), (2, .agg c.cs.toArray)] = some (sfl [a, b, c]).toArray := by kernel_rfl
theorem wpList_built1 {P : Program} {ops : Array Oper} {rest : List Oper} {o : Oper} {a : Act} {w : World} {Q : Exit → Act → World → Prop} (hg : o.guard = none) (t : TypeId) (n : Nat) (x : Operand) (ho : o.op = .build t #[(n, x)]) (d : Option Tmp) (hd : o.dst = d) (v : Value) (hv : a.eval x = v) (cells : Array Value) (hf : P.built t [(n, v)] = some cells)
    (h : wpList P ops Q rest (a.put d (.agg cells)) w) : wpList P ops Q (o :: rest) a w := wpList_buildTo hg t _ ho d hd cells (by subst hv; simpa using hf) h
theorem wpList_built3 {P : Program} {ops : Array Oper} {rest : List Oper} {o : Oper} {a : Act} {w : World} {Q : Exit → Act → World → Prop} (hg : o.guard = none) (t : TypeId) (n m k : Nat) (x y z : Operand) (ho : o.op = .build t #[(n, x), (m, y), (k, z)]) (d : Option Tmp) (hd : o.dst = d) (v v' v'' : Value) (hv : a.eval x = v) (hv' : a.eval y = v') (hv'' : a.eval z = v'') (cells : Array Value) (hf : P.built t [(n, v), (m, v'), (k, v'')] = some cells)
    (h : wpList P ops Q rest (a.put d (.agg cells)) w) : wpList P ops Q (o :: rest) a w := wpList_buildTo hg t _ ho d hd cells (by subst hv hv' hv''; simpa using hf) h
theorem wpList_build3 {P : Program} {ops : Array Oper} {rest : List Oper} {o : Oper} {a : Act} {w : World} {Q : Exit → Act → World → Prop} (hg : o.guard = none) (t e : TypeId) (x y z : Operand) (ho : o.op = .buildSlice t 3 #[(0, x), (1, y), (2, z)])
    (N : Nat) (hN : w.heap.size = N) (dst : Option Tmp) (hdst : o.dst = dst) (hu : P.underlying t = some (.slice e)) (v v' v'' : Value) (hv : a.eval x = v) (hv' : a.eval y = v') (hv'' : a.eval z = v'') (cells : Array Value) (hf : P.builtSlice e 3 [(0, v), (1, v'), (2, v'')] = some cells)
    (h : wpList P ops Q rest (a.put dst (.slice (some ⟨N, 0, none⟩) 3 3)) (w.alloc (.cells cells e))) : wpList P ops Q (o :: rest) a w :=
  Great.wpList_buildSliceTo hg t e 3 _ ho N hN dst hdst hu cells (by subst hv hv' hv''; simpa using hf) h
/-- a block of steps is a script -/
theorem blk_svs {w : World} {g c : Nat} {ss : List Stv} (h : Owb w g 56 (sfl ss)) (hc : ss.length ≤ c) (hm : ∀ s ∈ ss, StvM w w.heap.size s) : Svs w w.heap.size (.slice (some ⟨g, 0, none⟩) ss.length c) ss := by
  refine ⟨_, c, rfl, hc, hm, fun _ => ⟨g, 0, rfl, h.lt, fun i s hs j u hj => ?_⟩⟩
  have := (h.bx (i * 18 + j) u (sfl_at ss i s j u hs hj)).c
  rwa [show 0 + i * 18 + j = i * 18 + j by omega]

end Go.Proofs.YtpmioeamdhdokaaGreat
