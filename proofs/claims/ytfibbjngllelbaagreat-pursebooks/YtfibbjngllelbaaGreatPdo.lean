import Derived.Test.YtfibbjngllelbaaGreatPah
import Derived.Deep.AppendLies
namespace Go.Proofs.YtfibbjngllelbaaGreat
open Go.RowKit Go.Proofs.YtfibbjngllelbaaGreat.Ds

/-- nothing has turned but blocks of which N holds, and new ones -/
structure Keeps (w w' : World) (N : Nat → Prop) : Prop where
  os : w'.os = w.os
  tape : w'.tape = w.tape
  output : w'.output = w.output
  size : w.heap.size ≤ w'.heap.size
  block : ∀ k, k < w.heap.size → ¬ N k → w'.heap[k]? = w.heap[k]?
theorem Keeps.trans {a b c : World} {N : Nat → Prop} (h : Keeps a b N) (k : Keeps b c N) : Keeps a c N :=
  ⟨k.os.trans h.os, k.tape.trans h.tape, k.output.trans h.output, Nat.le_trans h.size k.size, fun i hi hr => (k.block i (Nat.lt_of_lt_of_le hi h.size) hr).trans (h.block i hi hr)⟩
theorem keeps_below {a b : World} {N : Nat → Prop} (h : Below a.heap.size a b) : Keeps a b N := ⟨h.os, h.tape, h.output, h.size, fun k hk _ => h.block k hk⟩
theorem keeps_gb {a b : World} {N : Nat → Prop} {r : Option Nat} (h : a.grownBy b r) (hr : ∀ k, r = some k → N k ∨ a.heap.size ≤ k) : Keeps a b N := ⟨h.os, h.tape, h.output, h.size, fun k hk hn => h.block k hk (fun e => by rcases hr k e.symm with h | h; exact hn h; omega)⟩
theorem keeps_after {a b c : World} {N : Nat → Prop} {r : Option Nat} (h : Keeps a b N) (k : b.grownBy c r) (hr : ∀ k, r = some k → N k ∨ a.heap.size ≤ k) : Keeps a c N :=
  ⟨k.os.trans h.os, k.tape.trans h.tape, k.output.trans h.output, Nat.le_trans h.size k.size, fun i hi hn => (k.block i (Nat.lt_of_lt_of_le hi h.size) (fun e => by rcases hr i e.symm with h | h; exact hn h; omega)).trans (h.block i hi hn)⟩
def DoP (w : World) (N : Nat → Prop) (bk bm : Nat) (done : List En) (e : En) : Ending → World → Prop := fun x w' =>
  x = .returned (.int .i64 (doT done (nrm e))) ∧ Keeps w w' N ∧ ∃ n v D, BookM w' N bk bm n v D (stepD done e)

theorem info33 : (Tryz.prog.info? 45).map (fun i => (i.zero, i.size, i.bytes)) = some (some (.agg #[.int .i64 0, .string ⟨#[]⟩, .int .i64 0, .int .i64 0, .int .i64 0]), 5, 48) := by kernel_rfl
theorem BookM.slice {w : World} {N : Nat → Prop} {bk bm n : Nat} {v : Value} {D : DataW Value} {done : List En} (h : BookM w N bk bm n v D done) : ∃ a c, v = .slice a done.length c := by
  rcases h.row.2 with ⟨hv, h0⟩ | ⟨g, cap, cur, hv, _⟩
  · exact ⟨none, 0, by rw [hv, h0]⟩
  · exact ⟨_, _, hv⟩

set_option maxHeartbeats 1000000 in
set_option maxRecDepth 100000 in
/-- an entry that is wrong, or comes to a full book -/
theorem doBad_any (N : Nat → Prop) (bk bm n : Nat) (v : Value) (D : DataW Value) (done : List En) (e : En) (w : World) (hB : BookM w N bk bm n v D done) (hs : e.2.1.size ≤ 9223372036854775807) (hb : badT e ≠ 0 ∨ 4096 ≤ done.length) :
    Calls Tryz.prog 12 #[.pointer (some ⟨bk, 0, none⟩), ev e] w fun x w' => x = .returned (.int .i64 (doT done (nrm e))) ∧ Below w.heap.size w w' := by
  obtain ⟨er, her⟩ : ∃ er, doT done (nrm e) = er := ⟨_, rfl⟩
  rw [her]
  obtain ⟨eb, heb⟩ : ∃ eb, badT e = eb := ⟨_, rfl⟩
  have kw := fun W => wrong_any e (by omega) W eb heb
  have hbk := hB.two.lt
  obtain ⟨va, vc, rfl⟩ := hB.slice
  unfold doT at her
  rw [bad_nrm, heb] at her
  by_cases h0 : eb = 0
  · subst h0
    have hl : 4096 ≤ done.length := by rcases hb with h | h; exact absurd heb h; exact h
    rw [if_neg (by simp), if_pos hl] at her
    subst her
    have hq : decide ((4096 : Int) ≤ (done.length : Int)) = true := decide_eq_true (by omega)
    have T0 : Hid (TwoB w bk (.map (some bm)) (.slice va done.length vc)) := hB.two
    clear hb hl heb hB
    obtain ⟨d, nm, p, u, v'⟩ := e
    go_enter Tryz.func12, Tryz.ntmps12
    go_wp2_with fail
    refine (kw _).mono ?_
    rintro e1 w1 ⟨rfl, hb1⟩
    obtain ⟨t0, t1, tf0, tf1, htl⟩ := (T0.out.below (ba _ _)).below hb1
    go_wp2_with fail
    go_ret
    exact ⟨rfl, bt (ba _ _) hb1⟩
  · rw [if_pos h0] at her
    subst her
    clear hb heb hB
    obtain ⟨d, nm, p, u, v'⟩ := e
    go_enter Tryz.func12, Tryz.ntmps12
    go_wp2_with fail
    refine (kw _).mono ?_
    rintro e1 w1 ⟨rfl, hb1⟩
    go_wp2_with fail
    go_ret
    exact ⟨rfl, bt (ba _ _) hb1⟩

set_option maxHeartbeats 1000000 in
set_option maxRecDepth 100000 in
/-- an entry that may not be done -/
theorem doNo_any (N : Nat → Prop) (bk bm n : Nat) (v : Value) (D : DataW Value) (done : List En) (e : En) (w : World) (hB : BookM w N bk bm n v D done) (hs : e.2.1.size ≤ 4294967296) (hN : ∀ k, w.heap.size ≤ k → N k) (hbad : badT e = 0) (hl : done.length < 4096) (hpI : -9223372036854775808 ≤ e.2.2.1 ∧ e.2.2.1 ≤ 9223372036854775807) (er : Int) (her : doT done (nrm e) = er) (h0 : er ≠ 0) :
    Calls Tryz.prog 12 #[.pointer (some ⟨bk, 0, none⟩), ev e] w fun x w' => x = .returned (.int .i64 er) ∧ Below w.heap.size w w' := by
  have kw := fun W => wrong_any e (by omega) W 0 hbad
  have ka := fun W (hW : BookM W N bk bm n v D done) (hNW : ∀ k, W.heap.size ≤ k → N k) => after_any N bk bm n v D done e W hW hs hNW hbad hl hpI er her
  have HB : Hid (BookM w N bk bm n v D done) := hB
  have hbk := hB.two.lt
  obtain ⟨va, vc, rfl⟩ := hB.slice
  have hq : decide ((4096 : Int) ≤ (done.length : Int)) = false := decide_eq_false (by omega)
  obtain ⟨d, nm, p, u, v'⟩ := e
  have V0 : Hid (FivB (w.alloc (.cells #[.int .i64 d, .string nm, .int .i64 p, .int .i64 u, .int .i64 v'] 45)) w.heap.size (.int .i64 d) (.string nm) (.int .i64 p) (.int .i64 u) (.int .i64 v')) := FivB.new _ _ _ _ _ _ 45 _ rfl
  clear hbad her hB
  go_enter Tryz.func12, Tryz.ntmps12
  go_wp2_with fail
  refine (kw _).mono ?_
  rintro e1 w1 ⟨rfl, hb1⟩
  have B1 := bt (ba _ _) hb1
  have BK1 := HB.out.keep B1
  obtain ⟨t0, t1, tf0, tf1, htl⟩ := BK1.two
  obtain ⟨c0, c1, c2, c3, c4, f0, f1, f2, f3, f4, hl0⟩ := V0.out.below hb1
  go_wp2_with fail
  refine (ka _ BK1 (fun k hk => hN k (Nat.le_trans B1.size hk))).mono ?_
  rintro e2 w2 ⟨hb2, ⟨_, rfl⟩ | ⟨hz, _⟩⟩
  · have hq2 : (er != 0) = true := by simpa using h0
    go_wp2_with fail
    go_ret
    exact ⟨rfl, bal (bt B1 hb2) _⟩
  · exact absurd hz h0
end Go.Proofs.YtfibbjngllelbaaGreat
