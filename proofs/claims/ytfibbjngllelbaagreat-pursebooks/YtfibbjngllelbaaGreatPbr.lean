import Derived.Test.YtfibbjngllelbaaGreatPbo
namespace Go.Proofs.YtfibbjngllelbaaGreat
open Go.RowKit Go.Shelf Go.Proofs.YtfibbjngllelbaaGreat.Ds

/-- nothing below m has turned but block P -/
structure Stay (P m : Nat) (A B : World) : Prop where
  os : B.os = A.os
  tape : B.tape = A.tape
  output : B.output = A.output
  size : A.heap.size ≤ B.heap.size
  block : ∀ b, b < m → b ≠ P → B.heap[b]? = A.heap[b]?
theorem Stay.refl (P m : Nat) (A : World) : Stay P m A A := ⟨rfl, rfl, rfl, Nat.le_refl _, fun _ _ _ => rfl⟩
theorem Stay.trans {P m : Nat} {A B C : World} (h : Stay P m A B) (k : Stay P m B C) : Stay P m A C :=
  ⟨k.os.trans h.os, k.tape.trans h.tape, k.output.trans h.output, Nat.le_trans h.size k.size, fun b hb hn => (k.block b hb hn).trans (h.block b hb hn)⟩
theorem Stay.mono {P m m' : Nat} {A B : World} (h : Stay P m A B) (hm : m' ≤ m) : Stay P m' A B := ⟨h.os, h.tape, h.output, h.size, fun b hb hn => h.block b (by omega) hn⟩
theorem Stay.gb {P m : Nat} {A B C : World} {r : Option Nat} (h : Stay P m A B) (k : B.grownBy C r) (hm : m ≤ B.heap.size) (hr : ∀ x, r = some x → m ≤ x ∨ x = P) : Stay P m A C :=
  h.trans ⟨k.os, k.tape, k.output, k.size, fun b hb hn => k.block b (by omega) (fun e => by rcases hr b e.symm with h | h; omega; exact hn h)⟩
theorem Stay.below {P m : Nat} {A B C : World} (h : Stay P m A B) (k : Below B.heap.size B C) (hm : m ≤ B.heap.size) : Stay P m A C := h.gb (gb_none k) hm (by simp)
theorem Stay.grown {P : Nat} {A B : World} (h : Stay P A.heap.size A B) : A.grownBy B (some P) := ⟨h.os, h.tape, h.output, h.size, fun b hb hn => h.block b hb (fun e => hn (by rw [e]))⟩
theorem stay_of_gb {P : Nat} {A B : World} (h : A.grownBy B (some P)) : Stay P A.heap.size A B := ⟨h.os, h.tape, h.output, h.size, fun b hb hn => h.block b hb (fun e => hn (by simpa using e))⟩
theorem Stay.kpt {P m : Nat} {A B : World} {K : Nat → Prop} (h : Stay P m A B) (hK : ∀ b, K b → b < m ∧ b ≠ P) : Kpt K A B := ⟨h.size, fun b hb => h.block b (hK b hb).1 (hK b hb).2⟩

def encQ (l : List Rq) : List Value := l.flatMap fun r => [.int .i64 r.1, .int .i64 r.2]
theorem encQ_len (l : List Rq) : (encQ l).length = l.length * 2 := by
  induction l with
  | nil => rfl
  | cons e l ih => simp only [encQ, List.flatMap_cons, List.length_append, List.length_cons] at *; rw [ih]; simp; omega
theorem encQ_snoc (l : List Rq) (r : Rq) : encQ (l ++ [r]) = encQ l ++ [.int .i64 r.1, .int .i64 r.2] := by simp [encQ]
def spQ (dn : List En) (x : List UInt8) : Rq := (spentT dn ⟨x.toArray⟩).1
def buQ (dn : List En) (x : List UInt8) : Rq := (budT dn ⟨x.toArray⟩).getD (0, 0)
theorem nam_ok {dn : List En} (h : Inv dn) {x : List UInt8} (hx : x ∈ nLs dn) : budT dn ⟨x.toArray⟩ = some (buQ dn x) ∧ x.length ≤ 32 := by
  obtain ⟨y, hy, rfl⟩ := (nLs_mem dn x).1 hx
  have he : (⟨y.data.toList.toArray⟩ : ByteArray) = y := by cases y; simp
  refine ⟨?_, ?_⟩
  · unfold buQ
    rw [he]
    cases hb : budT dn y with
    | some b => rfl
    | none => exact absurd hy ((bud_ops dn y).1 hb)
  · unfold opsT at hy
    obtain ⟨e, he2, rfl⟩ := List.mem_map.1 hy
    have h1 := (bad_ok (h.bad e (List.mem_filter.1 he2).1).1).2.2.1
    unfold namB at h1
    simp only [Bool.and_eq_true, decide_eq_true_eq] at h1
    exact h1.1.2

/-- three rows that grow, in blocks of their own from m on -/
structure Trio (W : World) (m : Nat) (nv sv bv : Value) (ns : List (List UInt8)) (ss bs : List Rq) : Prop where
  n : W.ownsRow m 9 1 nv ns.length (ns.map encStr)
  s : W.ownsRow m 35 2 sv ss.length (encQ ss)
  b : W.ownsRow m 35 2 bv bs.length (encQ bs)
  ds : ∀ g, nv.ownBlock = some g → sv.ownBlock ≠ some g
  db : ∀ g, nv.ownBlock = some g → bv.ownBlock ≠ some g
  dd : ∀ g, sv.ownBlock = some g → bv.ownBlock ≠ some g
theorem row_gb {W W' : World} {m : Nat} {t : TypeId} {z : Nat} {v : Value} {n : Nat} {xs : List Value} {r : Option Nat} (h : W.ownsRow m t z v n xs) (hg : W.grownBy W' r) (hr : ∀ g, v.ownBlock = some g → r ≠ some g) : W'.ownsRow m t z v n xs :=
  row_same h fun g hg2 => hg.block g (row_lt h hg2).2 (fun e => hr g hg2 e.symm)
theorem row_low {W W' : World} {m P : Nat} {t : TypeId} {z : Nat} {v : Value} {n : Nat} {xs : List Value} (h : W.ownsRow m t z v n xs) (hg : W.grownBy W' (some P)) (hP : P < m) : W'.ownsRow m t z v n xs :=
  row_gb h hg fun g hg2 e => by have := (row_lt h hg2).1; simp only [Option.some.injEq] at e; omega
theorem Trio.none {W W' : World} {m : Nat} {nv sv bv : Value} {ns : List (List UInt8)} {ss bs : List Rq} (h : Trio W m nv sv bv ns ss bs) (hg : W.grownBy W' none) : Trio W' m nv sv bv ns ss bs :=
  ⟨row_gb h.n hg (by simp), row_gb h.s hg (by simp), row_gb h.b hg (by simp), h.ds, h.db, h.dd⟩
theorem Trio.low {W W' : World} {m P : Nat} {nv sv bv : Value} {ns : List (List UInt8)} {ss bs : List Rq} (h : Trio W m nv sv bv ns ss bs) (hg : W.grownBy W' (some P)) (hP : P < m) : Trio W' m nv sv bv ns ss bs :=
  ⟨row_low h.n hg hP, row_low h.s hg hP, row_low h.b hg hP, h.ds, h.db, h.dd⟩
theorem Trio.nil (W : World) (m : Nat) : Trio W m nilv nilv nilv [] [] [] :=
  ⟨⟨rfl, .inl ⟨rfl, rfl⟩⟩, ⟨rfl, .inl ⟨rfl, rfl⟩⟩, ⟨rfl, .inl ⟨rfl, rfl⟩⟩, fun g hg => (by cases hg), fun g hg => (by cases hg), fun g hg => (by cases hg)⟩
/-- a name more -/
theorem Trio.name {W W' : World} {m : Nat} {nv nv' sv bv : Value} {ns : List (List UInt8)} {ss bs : List Rq} {x : List UInt8} (h : Trio W m nv sv bv ns ss bs) (hg : W.grownBy W' nv.ownBlock)
    (hown : W'.ownsRow m 9 1 nv' (ns.length + 1) (ns.map encStr ++ [encStr x])) (hat : nv'.ownBlock = nv.ownBlock ∨ nv'.ownBlock = some W.heap.size) : Trio W' m nv' sv bv (ns ++ [x]) ss bs := by
  refine ⟨by simpa using hown, row_gb h.s hg (fun g h1 e => h.ds g e h1), row_gb h.b hg (fun g h1 e => h.db g e h1), fun g h1 h2 => ?_, fun g h1 h2 => ?_, h.dd⟩
  · rcases hat with e | e
    · rw [e] at h1; exact h.ds g h1 h2
    · rw [e] at h1; have := (row_lt h.s h2).2; simp only [Option.some.injEq] at h1; omega
  · rcases hat with e | e
    · rw [e] at h1; exact h.db g h1 h2
    · rw [e] at h1; have := (row_lt h.b h2).2; simp only [Option.some.injEq] at h1; omega
/-- what was spent, once more -/
theorem Trio.spent {W W' : World} {m : Nat} {nv sv sv' bv : Value} {ns : List (List UInt8)} {ss bs : List Rq} {x : Rq} (h : Trio W m nv sv bv ns ss bs) (hg : W.grownBy W' sv.ownBlock)
    (hown : W'.ownsRow m 35 2 sv' (ss.length + 1) (encQ ss ++ [.int .i64 x.1, .int .i64 x.2])) (hat : sv.ownBlock = sv'.ownBlock ∨ sv'.ownBlock = some W.heap.size) : Trio W' m nv sv' bv ns (ss ++ [x]) bs := by
  refine ⟨row_gb h.n hg (fun g h1 e => h.ds g h1 e), by simpa [encQ_snoc] using hown, row_gb h.b hg (fun g h1 e => h.dd g e h1), fun g h1 h2 => ?_, h.db, fun g h1 h2 => ?_⟩
  · rcases hat with e | e
    · rw [← e] at h2; exact h.ds g h1 h2
    · rw [e] at h2; have := (row_lt h.n h1).2; simp only [Option.some.injEq] at h2; omega
  · rcases hat with e | e
    · rw [← e] at h1; exact h.dd g h1 h2
    · rw [e] at h1; have := (row_lt h.b h2).2; simp only [Option.some.injEq] at h1; omega
/-- a budget more -/
theorem Trio.bud {W W' : World} {m : Nat} {nv sv bv bv' : Value} {ns : List (List UInt8)} {ss bs : List Rq} {x : Rq} (h : Trio W m nv sv bv ns ss bs) (hg : W.grownBy W' bv.ownBlock)
    (hown : W'.ownsRow m 35 2 bv' (bs.length + 1) (encQ bs ++ [.int .i64 x.1, .int .i64 x.2])) (hat : bv.ownBlock = bv'.ownBlock ∨ bv'.ownBlock = some W.heap.size) : Trio W' m nv sv bv' ns ss (bs ++ [x]) := by
  refine ⟨row_gb h.n hg (fun g h1 e => h.db g h1 e), row_gb h.s hg (fun g h1 e => h.dd g h1 e), by simpa [encQ_snoc] using hown, h.ds, fun g h1 h2 => ?_, fun g h1 h2 => ?_⟩
  · rcases hat with e | e
    · rw [← e] at h2; exact h.db g h1 h2
    · rw [e] at h2; have := (row_lt h.n h1).2; simp only [Option.some.injEq] at h2; omega
  · rcases hat with e | e
    · rw [← e] at h2; exact h.dd g h1 h2
    · rw [e] at h2; have := (row_lt h.s h1).2; simp only [Option.some.injEq] at h2; omega

/-- names gone through: what stands in the answer -/
structure BkR (W7 : World) (P : Nat) (er en : Value) (dn : List En) (m : Nat) (pre : List (List UInt8)) (W : World) : Prop where
  st : Stay P W7.heap.size W7 W
  ex : ∃ nv sv bv, SixB W P er en nv sv bv (.bool true) ∧ Trio W m nv sv bv pre (pre.map (spQ dn)) (pre.map (buQ dn))
theorem bkR_clo {W7 : World} {P : Nat} {er en : Value} {dn : List En} (hP : P < W7.heap.size) : Clo W7.heap.size (BkR W7 P er en dn) := by
  rintro m pre A B row hm ⟨h1, nv, sv, bv, h2, h3⟩ hg hr
  refine ⟨h1.gb hg h1.size (fun x e => .inl (hr x e).1), nv, sv, bv, h2.gb hg (fun e => by have := hr P e.symm; omega), ?_⟩
  have hno : ∀ v : Value, ∀ z t n xs, A.ownsRow m t z v n xs → ∀ g, v.ownBlock = some g → row ≠ some g := fun v z t n xs hw g hv e => by have h4 := (row_lt hw hv).1; have h5 := hr g e; omega
  exact ⟨row_gb h3.n hg (hno _ _ _ _ _ h3.n), row_gb h3.s hg (hno _ _ _ _ _ h3.s), row_gb h3.b hg (hno _ _ _ _ _ h3.b), h3.ds, h3.db, h3.dd⟩
theorem bkR_start {W7 W' : World} {P : Nat} {er en : Value} {dn : List En} {m : Nat} (h : SixB W7 P er en nilv nilv nilv (.bool true)) (hg : W7.grownBy W' none) : BkR W7 P er en dn m [] W' :=
  ⟨(Stay.refl P _ W7).gb hg (Nat.le_refl _) (by simp), nilv, nilv, nilv, h.gb hg (by simp), Trio.nil _ _⟩
theorem namF_of {W : World} {g base : Nat} {r : Value} {xs : List (List UInt8)} (hg : W.cell? ⟨g, 0, none⟩ = some r) (hgl : g < W.heap.size) (hrow : W.ownsRow base 9 1 r xs.length (xs.map encStr)) :
    ∃ b a c, r = .slice a xs.length c ∧ NamF W g b a c xs ∧ b < W.heap.size ∧ (b = g ∨ base ≤ b) := by
  rcases hrow.2 with ⟨rfl, h0⟩ | ⟨b, cap, cur, rfl, hb, hc, h1, h2, h3, h4⟩
  · obtain rfl : xs = [] := List.eq_nil_of_length_eq_zero h0
    exact ⟨g, none, 0, rfl, ⟨hg, fun h => absurd rfl h, fun i x hi => by simp at hi⟩, hgl, .inl rfl⟩
  · refine ⟨b, _, _, rfl, ⟨hg, fun _ => rfl, fun i x hi => ?_⟩, (Array.getElem?_eq_some_iff.1 hc).1, .inr hb⟩
    have hi2 : i < xs.length := (List.getElem?_eq_some_iff.1 hi).1
    have h5 : (xs.map encStr)[i]? = some (encStr x) := by simp [hi]
    rw [← h4, List.getElem?_take_of_lt (by omega)] at h5
    simp [World.cell?, hc]
    simpa using h5
theorem info9 : (Tryz.prog.info? 9).map (fun i => (i.zero, i.size, i.bytes)) = some (some (.string ⟨#[]⟩), 1, 16) := by kernel_rfl
theorem info31' : (Tryz.prog.info? 35).map (fun i => (i.zero, i.size, i.bytes)) = some (some (.agg #[.int .i64 0, .int .i64 0]), 2, 16) := by kernel_rfl

/-- in the midst of a name: the answer's block, and two boxes -/
structure Mid (Wc : World) (P m b1 : Nat) (er en nv sv bv : Value) (sp bu : Rq) (W : World) : Prop where
  six : SixB W P er en nv sv bv (.bool true)
  t1 : TwoB W b1 (.int .i64 sp.1) (.int .i64 sp.2)
  t2 : TwoB W (b1 + 1) (.int .i64 bu.1) (.int .i64 bu.2)
  st : Stay P m Wc W
theorem Mid.gb {Wc W W' : World} {P m b1 : Nat} {er en nv sv bv : Value} {sp bu : Rq} {r : Option Nat} (h : Mid Wc P m b1 er en nv sv bv sp bu W) (hg : W.grownBy W' r) (hP : P < m) (hm : m ≤ b1) (hr : ∀ x, r = some x → m ≤ x ∧ x < b1) : Mid Wc P m b1 er en nv sv bv sp bu W' :=
  ⟨h.six.gb hg (fun e => by have := hr P e.symm; omega), h.t1.gb hg (fun e => by have := hr _ e.symm; omega), h.t2.gb hg (fun e => by have := hr _ e.symm; omega), h.st.gb hg (by have := h.t1.lt; omega) (fun x e => .inl (hr x e).1)⟩
theorem bkR_end {W7 Wc Wf : World} {P m b1 : Nat} {er en nv sv bv sv' bv' : Value} {dn : List En} {pre : List (List UInt8)} {x : List UInt8} (hst : Stay P W7.heap.size W7 Wc) (h7 : W7.heap.size ≤ m) (hP : P < m) (hm : m ≤ b1)
    (hM : Mid Wc P m b1 er en nv sv bv (spQ dn x) (buQ dn x) Wf) (hT : Trio Wf m nv sv' bv' (pre ++ [x]) (pre.map (spQ dn) ++ [spQ dn x]) (pre.map (buQ dn) ++ [buQ dn x])) :
    BkR W7 P er en dn m (pre ++ [x]) ((Wf.setCell ⟨P, 3, none⟩ sv').setCell ⟨P, 4, none⟩ bv') ∧ Stay P m Wc ((Wf.setCell ⟨P, 3, none⟩ sv').setCell ⟨P, 4, none⟩ bv') := by
  have hg : Wf.grownBy ((Wf.setCell ⟨P, 3, none⟩ sv').setCell ⟨P, 4, none⟩ bv') (some P) := gb_set (gb_set (gb_refl _ _) 3 _) 4 _
  have hs : Stay P m Wc ((Wf.setCell ⟨P, 3, none⟩ sv').setCell ⟨P, 4, none⟩ bv') := hM.st.gb hg (by have := hM.t1.lt; omega) (fun y hy => .inr (by simpa using hy.symm))
  refine ⟨⟨hst.trans (hs.mono h7), nv, sv', bv', (hM.six.put3 _).put4 _, ?_⟩, hs⟩
  have := hT.low hg hP
  rw [List.map_append, List.map_append]
  exact this
/-- what is not in J waits for i: reckoned -/
def waitsB (md : Region.Mode) (ops : Array Oper) (J : Nat → Bool) (i : Nat) : Bool := (List.range ops.size).all fun j => J j || match ops[j]? with | some oj => oj.after.any (fun e => Region.binds md e && e.on == i) | none => true
theorem waits_of {md : Region.Mode} {ops : Array Oper} {J : Nat → Bool} {i : Nat} (h : waitsB md ops J i = true) : Waits md ops J i := by
  intro j oj hj hJ
  have hlt : j < ops.size := (Array.getElem?_eq_some_iff.1 hj).1
  have h1 := List.all_eq_true.1 h j (List.mem_range.2 hlt)
  simp only [hJ, Bool.false_or, hj] at h1
  obtain ⟨k, hk, he⟩ := Array.any_eq_true.1 h1
  simp only [Bool.and_eq_true, beq_iff_eq] at he
  exact ⟨_, Array.getElem_mem hk, he.1, he.2⟩
end Go.Proofs.YtfibbjngllelbaaGreat
