import Derived.Test.YtfibbjngllelbaaGreatPbk
namespace Go.Proofs.YtfibbjngllelbaaGreat
open Go.RowKit Go.Proofs.YtfibbjngllelbaaGreat.Ds

def AfterP (w : World) (N : Nat → Prop) (bk bm : Nat) (done : List En) (e : En) (er : Int) : Ending → World → Prop := fun x w' =>
  Below w.heap.size w w' ∧ ((er ≠ 0 ∧ x = .returned (.tuple #[zp, .int .i64 er])) ∨
    (er = 0 ∧ ∃ b bp np Dp, x = .returned (.tuple #[pv b (allP (done ++ [e]) e.2.1).1 bp, .int .i64 0]) ∧ budT (done ++ [e]) e.2.1 = some b ∧
      Pts w' bp np Dp (fun p => p ∈ prs (done ++ [e]) e.2.1) (fun p => (prtP (done ++ [e]) e.2.1 p).1) ∧ np ≤ done.length + 1 ∧ Maps.size Dp = (parT (done ++ [e]) e.2.1).length ∧ N bp ∧ bp ≠ bk ∧ bp ≠ bm))

theorem BookM.lookAt {w : World} {N : Nat → Prop} {bk bm n : Nat} {v : Value} {D : DataW Value} {done : List En} (h : BookM w N bk bm n v D done) {x : ByteArray} (hx : x.size ≤ 4294967296) {vv : Value} (hv : D.atKey (kN x) (.held zp) = .held vv) {t : Bool} (ht : Maps.has D (kN x) = t) {w' : World} (hg : w.grownBy w' none) :
    (Instr.lookup 58 (.map (some bm)) (.string x) true).run Tryz.prog w' = .ok (.tuple #[vv, .bool t]) w' := by
  obtain ⟨v', ps, hrun, hat⟩ := (h.gb hg (by simp)).own.look_ok law9 Tryz.underlying58 (zero60 w') (zd := .held zp) (zp := []) rfl (Go.WideMaps.keyOf_string_mk Tryz.underlying9 (s := x) (by unfold maxLen; omega))
  rw [hv] at hat
  simp [hR] at hat
  rw [hrun, hat.1, ht]
theorem BookM.has_no {w : World} {N : Nat → Prop} {bk bm n : Nat} {v : Value} {D : DataW Value} {done : List En} (h : BookM w N bk bm n v D done) {x : ByteArray} (hb : budT done x = none) : Maps.has D (kN x) = false ∧ D.atKey (kN x) (.held zp) = .held zp := by
  have hh : Maps.has D (kN x) = false := by
    cases hc : Maps.has D (kN x) with
    | false => rfl
    | true => obtain ⟨b, hb'⟩ := (h.is x).1 hc; rw [hb] at hb'; cases hb'
  exact ⟨hh, Maps.atKey_of_not_has hh _⟩
abbrev Zc : Obj := .cells #[.int .i64 0, .int .i64 0, .int .i64 0, .int .i64 0, .map none] 63

def Aft10 (w : World) (u v' er : Int) : Ending → World → Prop := fun x w' => Below w.heap.size w w' ∧ ((er ≠ 0 ∧ x = .returned (.tuple #[zp, .int .i64 er])) ∨ (er = 0 ∧ ∃ bp, x = .returned (.tuple #[pv (u, v') oneQ bp, .int .i64 0]) ∧ w.heap.size ≤ bp ∧ Pts w' bp 0 (.map []) (fun _ => False) (fun _ => oneQ)))
def Aft21 (w : World) (N : Nat → Prop) (bk bm : Nat) (done : List En) (nm : ByteArray) (b al : Rq) (er : Int) : Ending → World → Prop := fun x w' => Below w.heap.size w w' ∧ ((er ≠ 0 ∧ x = .returned (.tuple #[zp, .int .i64 er])) ∨ (er = 0 ∧ ∃ bp np Dp, x = .returned (.tuple #[pv b al bp, .int .i64 0]) ∧ Pts w' bp np Dp (fun p => p ∈ prs done nm) (fun p => (prtP done nm p).1) ∧ np ≤ done.length ∧ Maps.size Dp = (parT done nm).length ∧ N bp ∧ bp ≠ bk ∧ bp ≠ bm))
def Aft31 (w : World) (done : List En) (nm : ByteArray) (b al q : Rq) (p er : Int) : Ending → World → Prop := fun x w' => Below w.heap.size w w' ∧ ((er ≠ 0 ∧ x = .returned (.tuple #[zp, .int .i64 er])) ∨ (er = 0 ∧ ∃ bp np Dp, x = .returned (.tuple #[pv b al bp, .int .i64 0]) ∧ Pts w' bp (np + 1) Dp (fun y => y ∈ prs done nm ∨ y = p) (fun y => if y = p then q else (prtP done nm y).1) ∧ np ≤ done.length ∧ Maps.size Dp = (if decide (p ∈ prs done nm) then (parT done nm).length else (parT done nm).length + 1) ∧ w.heap.size ≤ bp))

set_option maxHeartbeats 800000 in
set_option maxRecDepth 100000 in
theorem after11_any (N : Nat → Prop) (bk bm n : Nat) (v : Value) (D : DataW Value) (done : List En) (nm : ByteArray) (p u v' : Int) (w : World) (hB : BookM w N bk bm n v D done) (hs : nm.size ≤ 4294967296) (b : Rq) (hbud : budT done nm = some b) :
    Calls Tryz.prog 23 #[.pointer (some ⟨bk, 0, none⟩), ev (1, nm, p, u, v')] w fun x w' => Below w.heap.size w w' ∧ x = .returned (.tuple #[zp, .int .i64 7]) := by
  have HB : Hid (BookM w N bk bm n v D done) := hB
  obtain ⟨w0, hw0⟩ : ∃ w0, (w.alloc (.cells #[.int .i64 1, .string nm, .int .i64 p, .int .i64 u, .int .i64 v'] 45)).alloc (.cells #[.int .i64 0, .int .i64 0, .int .i64 0, .int .i64 0, .map none] 63) = w0 := ⟨_, rfl⟩
  have hz0 : w0.heap.size = w.heap.size + 1 + 1 := by rw [← hw0]; simp
  have B0 : Below w.heap.size w w0 := by rw [← hw0]; exact bal (ba _ _) _
  have V0 : Hid (FivB w0 w.heap.size (.int .i64 1) (.string nm) (.int .i64 p) (.int .i64 u) (.int .i64 v')) := by rw [← hw0]; exact (FivB.new _ _ _ _ _ _ 45 _ rfl).below (ba _ _)
  have V1 : Hid (FivB w0 (w.heap.size + 1) (.int .i64 0) (.int .i64 0) (.int .i64 0) (.int .i64 0) (.map none)) := by rw [← hw0]; exact FivB.new _ _ _ _ _ _ 63 _ (by simp)
  have BK : Hid (BookM w0 N bk bm n v D done) := hB.keep B0
  obtain ⟨bp, np, Dp, hat, hPp, hnp, hszp, hlop, hbpk, hbpm⟩ := (hB.el nm b hbud).ex
  have hhas : Maps.has D (kN nm) = true := (hB.is nm).2 ⟨b, hbud⟩
  have HX : Hid (np ≤ done.length ∧ Maps.size Dp = (parT done nm).length ∧ N bp ∧ bp ≠ bk ∧ bp ≠ bm) := ⟨hnp, hszp, hlop, hbpk, hbpm⟩
  have HPp : Hid (Pts w bp np Dp (fun p => p ∈ prs done nm) (fun p => (prtP done nm p).1)) := hPp
  have HBU : Hid (budT done nm = some b) := hbud
  clear hnp hszp hlop hbpk hbpm hPp hbud
  obtain ⟨al, hal⟩ : ∃ al, (allP done nm).1 = al := ⟨_, rfl⟩
  have HAL : Hid ((allP done nm).1 = al) := hal
  rw [hal] at hat
  clear hal
  have hlk1 := BK.out.lookAt hs hat hhas (gb_drew (gb_refl w0 none))
  have hlk2 := BK.out.lookAt hs hat hhas (gb_drew (gb_alloc (gb_refl w0 none) (.cells #[.int .i64 0, .int .i64 0, .int .i64 0, .int .i64 0, .map none] 63)))
  obtain ⟨c0, c1, c2, c3, c4, f0, f1, f2, f3, f4, hl0⟩ := V0.out
  obtain ⟨d0, d1, d2, d3, d4, g0, g1, g2, g3, g4, hl1⟩ := V1.out
  obtain ⟨t0, t1, tf0, tf1, htl⟩ := BK.out.two
  have hbk : bk < w.heap.size := HB.out.two.lt
  have hbk2 : bk < w.heap.size + 1 + 1 := by omega
  clear hB hat hhas
  go_enter Tryz.func23, Tryz.ntmps23
  go_wp2_with fail
  go_region
  all_goals go_wp2_with fail
  all_goals exact bodyPost_ret (v := .tuple #[zp, .int .i64 7]) (by simp [results, Tryz.results23, go_sem, d0, d1, d2, d3, d4, hl1]) rfl ⟨(bal (bs5 B0 (by omega) _ _ _ _ _) _).drew, rfl⟩

set_option maxHeartbeats 800000 in
set_option maxRecDepth 100000 in
theorem after20_any (N : Nat → Prop) (bk bm n : Nat) (v : Value) (D : DataW Value) (done : List En) (nm : ByteArray) (p u v' : Int) (w : World) (hB : BookM w N bk bm n v D done) (hs : nm.size ≤ 4294967296) (hbud : budT done nm = none) :
    Calls Tryz.prog 23 #[.pointer (some ⟨bk, 0, none⟩), ev (2, nm, p, u, v')] w fun x w' => Below w.heap.size w w' ∧ x = .returned (.tuple #[zp, .int .i64 7]) := by
  have HB : Hid (BookM w N bk bm n v D done) := hB
  obtain ⟨w0, hw0⟩ : ∃ w0, (w.alloc (.cells #[.int .i64 2, .string nm, .int .i64 p, .int .i64 u, .int .i64 v'] 45)).alloc (.cells #[.int .i64 0, .int .i64 0, .int .i64 0, .int .i64 0, .map none] 63) = w0 := ⟨_, rfl⟩
  have hz0 : w0.heap.size = w.heap.size + 1 + 1 := by rw [← hw0]; simp
  have B0 : Below w.heap.size w w0 := by rw [← hw0]; exact bal (ba _ _) _
  have V0 : Hid (FivB w0 w.heap.size (.int .i64 2) (.string nm) (.int .i64 p) (.int .i64 u) (.int .i64 v')) := by rw [← hw0]; exact (FivB.new _ _ _ _ _ _ 45 _ rfl).below (ba _ _)
  have V1 : Hid (FivB w0 (w.heap.size + 1) (.int .i64 0) (.int .i64 0) (.int .i64 0) (.int .i64 0) (.map none)) := by rw [← hw0]; exact FivB.new _ _ _ _ _ _ 63 _ (by simp)
  have BK : Hid (BookM w0 N bk bm n v D done) := hB.keep B0
  obtain ⟨hhas, hat⟩ := hB.has_no hbud
  have HBU : Hid (budT done nm = none) := hbud
  clear hbud
  have hlk1 := BK.out.lookAt hs hat hhas (gb_drew (gb_refl w0 none))
  have hlk2 := BK.out.lookAt hs hat hhas (gb_drew (gb_alloc (gb_refl w0 none) (.cells #[.int .i64 0, .int .i64 0, .int .i64 0, .int .i64 0, .map none] 63)))
  obtain ⟨c0, c1, c2, c3, c4, f0, f1, f2, f3, f4, hl0⟩ := V0.out
  obtain ⟨d0, d1, d2, d3, d4, g0, g1, g2, g3, g4, hl1⟩ := V1.out
  obtain ⟨t0, t1, tf0, tf1, htl⟩ := BK.out.two
  have hbk : bk < w.heap.size := HB.out.two.lt
  have hbk2 : bk < w.heap.size + 1 + 1 := by omega
  clear hB hat hhas
  go_enter Tryz.func23, Tryz.ntmps23
  go_wp2_with fail
  go_region
  all_goals go_wp2_with fail
  all_goals exact bodyPost_ret (v := .tuple #[zp, .int .i64 7]) (by simp [results, Tryz.results23, go_sem, d0, d1, d2, d3, d4, hl1]) rfl ⟨(bal (bs5 B0 (by omega) _ _ _ _ _) _).drew, rfl⟩

set_option maxHeartbeats 800000 in
set_option maxRecDepth 100000 in
theorem after30_any (N : Nat → Prop) (bk bm n : Nat) (v : Value) (D : DataW Value) (done : List En) (nm : ByteArray) (p u v' : Int) (w : World) (hB : BookM w N bk bm n v D done) (hs : nm.size ≤ 4294967296) (hbud : budT done nm = none) :
    Calls Tryz.prog 23 #[.pointer (some ⟨bk, 0, none⟩), ev (3, nm, p, u, v')] w fun x w' => Below w.heap.size w w' ∧ x = .returned (.tuple #[zp, .int .i64 7]) := by
  have HB : Hid (BookM w N bk bm n v D done) := hB
  obtain ⟨w0, hw0⟩ : ∃ w0, (w.alloc (.cells #[.int .i64 3, .string nm, .int .i64 p, .int .i64 u, .int .i64 v'] 45)).alloc (.cells #[.int .i64 0, .int .i64 0, .int .i64 0, .int .i64 0, .map none] 63) = w0 := ⟨_, rfl⟩
  have hz0 : w0.heap.size = w.heap.size + 1 + 1 := by rw [← hw0]; simp
  have B0 : Below w.heap.size w w0 := by rw [← hw0]; exact bal (ba _ _) _
  have V0 : Hid (FivB w0 w.heap.size (.int .i64 3) (.string nm) (.int .i64 p) (.int .i64 u) (.int .i64 v')) := by rw [← hw0]; exact (FivB.new _ _ _ _ _ _ 45 _ rfl).below (ba _ _)
  have V1 : Hid (FivB w0 (w.heap.size + 1) (.int .i64 0) (.int .i64 0) (.int .i64 0) (.int .i64 0) (.map none)) := by rw [← hw0]; exact FivB.new _ _ _ _ _ _ 63 _ (by simp)
  have BK : Hid (BookM w0 N bk bm n v D done) := hB.keep B0
  obtain ⟨hhas, hat⟩ := hB.has_no hbud
  have HBU : Hid (budT done nm = none) := hbud
  clear hbud
  have hlk1 := BK.out.lookAt hs hat hhas (gb_drew (gb_refl w0 none))
  have hlk2 := BK.out.lookAt hs hat hhas (gb_drew (gb_alloc (gb_refl w0 none) (.cells #[.int .i64 0, .int .i64 0, .int .i64 0, .int .i64 0, .map none] 63)))
  obtain ⟨c0, c1, c2, c3, c4, f0, f1, f2, f3, f4, hl0⟩ := V0.out
  obtain ⟨d0, d1, d2, d3, d4, g0, g1, g2, g3, g4, hl1⟩ := V1.out
  obtain ⟨t0, t1, tf0, tf1, htl⟩ := BK.out.two
  have hbk : bk < w.heap.size := HB.out.two.lt
  have hbk2 : bk < w.heap.size + 1 + 1 := by omega
  clear hB hat hhas
  go_enter Tryz.func23, Tryz.ntmps23
  go_wp2_with fail
  go_region
  all_goals go_wp2_with fail
  all_goals exact bodyPost_ret (v := .tuple #[zp, .int .i64 7]) (by simp [results, Tryz.results23, go_sem, d0, d1, d2, d3, d4, hl1]) rfl ⟨(bal (bs5 B0 (by omega) _ _ _ _ _) _).drew, rfl⟩

set_option maxHeartbeats 800000 in
set_option maxRecDepth 100000 in
theorem after10_any (N : Nat → Prop) (bk bm n : Nat) (v : Value) (D : DataW Value) (done : List En) (nm : ByteArray) (p u v' : Int) (w : World) (hB : BookM w N bk bm n v D done) (hs : nm.size ≤ 4294967296) (hbud : budT done nm = none) (k : Nat) (hk : (opsT done).length = k) (er : Int) (her : (if 64 ≤ k then 5 else 0) = er) :
    Calls Tryz.prog 23 #[.pointer (some ⟨bk, 0, none⟩), ev (1, nm, p, u, v')] w (Aft10 w u v' er) := by
  have HB : Hid (BookM w N bk bm n v D done) := hB
  obtain ⟨w0, hw0⟩ : ∃ w0, (w.alloc (.cells #[.int .i64 1, .string nm, .int .i64 p, .int .i64 u, .int .i64 v'] 45)).alloc (.cells #[.int .i64 0, .int .i64 0, .int .i64 0, .int .i64 0, .map none] 63) = w0 := ⟨_, rfl⟩
  have hz0 : w0.heap.size = w.heap.size + 1 + 1 := by rw [← hw0]; simp
  have B0 : Below w.heap.size w w0 := by rw [← hw0]; exact bal (ba _ _) _
  have V0 : Hid (FivB w0 w.heap.size (.int .i64 1) (.string nm) (.int .i64 p) (.int .i64 u) (.int .i64 v')) := by rw [← hw0]; exact (FivB.new _ _ _ _ _ _ 45 _ rfl).below (ba _ _)
  have V1 : Hid (FivB w0 (w.heap.size + 1) (.int .i64 0) (.int .i64 0) (.int .i64 0) (.int .i64 0) (.map none)) := by rw [← hw0]; exact FivB.new _ _ _ _ _ _ 63 _ (by simp)
  have BK : Hid (BookM w0 N bk bm n v D done) := hB.keep B0
  obtain ⟨hhas, hat⟩ := hB.has_no hbud
  have HBU : Hid (budT done nm = none) := hbud
  clear hbud
  have hlk1 := BK.out.lookAt hs hat hhas (gb_drew (gb_refl w0 none))
  have hlk2 := BK.out.lookAt hs hat hhas (gb_drew (gb_alloc (gb_refl w0 none) (.cells #[.int .i64 0, .int .i64 0, .int .i64 0, .int .i64 0, .map none] 63)))
  obtain ⟨c0, c1, c2, c3, c4, f0, f1, f2, f3, f4, hl0⟩ := V0.out
  obtain ⟨d0, d1, d2, d3, d4, g0, g1, g2, g3, g4, hl1⟩ := V1.out
  obtain ⟨t0, t1, tf0, tf1, htl⟩ := BK.out.two
  have hbk : bk < w.heap.size := HB.out.two.lt
  have hbk2 : bk < w.heap.size + 1 + 1 := by omega
  clear hB hat hhas
  have hlen := (BK.out.gb (gb_drew (gb_alloc (gb_refl w0 none) (.cells #[.int .i64 0, .int .i64 0, .int .i64 0, .int .i64 0, .map none] 63))) (by simp)).own.len Tryz.underlying58 3
  rw [BK.out.sz, hk] at hlen
  have hkb : k ≤ 64 := by rw [← hk]; exact BK.out.inv.ops
  have ko := fun W => opened_any (u, v') (fun _ => oneQ) W
  have W1 : Hid (FivB (w0.alloc (.cells #[.int .i64 0, .int .i64 0, .int .i64 0, .int .i64 0, .map none] 63)).drew (w.heap.size + 1) (.int .i64 0) (.int .i64 0) (.int .i64 0) (.int .i64 0) (.map none)) := (V1.out.below (ba _ _)).gb (gb_drew (gb_refl _ none)) (by simp)
  go_enter Tryz.func23, Tryz.ntmps23
  go_wp2_with fail
  go_region
  all_goals
    by_cases c : 64 ≤ k
    · rw [if_pos c] at her
      subst her
      have hq : decide ((64 : Int) ≤ (k : Int)) = true := decide_eq_true (by omega)
      go_wp2_with fail
      exact bodyPost_ret (v := .tuple #[zp, .int .i64 5]) (by simp [results, Tryz.results23, go_sem, d0, d1, d2, d3, d4, hl1]) rfl ⟨(bal (bs5 B0 (by omega) _ _ _ _ _) _).drew, .inl ⟨by decide, rfl⟩⟩
    · rw [if_neg c] at her
      subst her
      have hq : decide ((64 : Int) ≤ (k : Int)) = false := decide_eq_false (by omega)
      go_wp2_with fail
      refine (ko _).mono ?_
      rintro e1 w1 ⟨bp, rfl, hb1, hbp, hP1⟩
      obtain ⟨x0, x1, x2, x3, x4, y0, y1, y2, y3, y4, hx⟩ := W1.out.below hb1
      have hbp' : w.heap.size + 1 + 1 < bp := by simp [hz0] at hbp; omega
      go_wp2_with fail
      exact bodyPost_ret (v := .tuple #[pv (u, v') oneQ bp, .int .i64 0]) (by simp [results, Tryz.results23, go_sem, x0, x1, x2, x3, x4]) rfl ⟨bs5 (bt (bal B0 _).drew hb1) (by omega) _ _ _ _ _, .inr ⟨rfl, bp, rfl, by omega, hP1.gb (gb_set (gb_set (gb_set (gb_set (gb_set (gb_refl _ _) _ _) _ _) _ _) _ _) _ _) (by simp; omega)⟩⟩

set_option maxHeartbeats 800000 in
set_option maxRecDepth 100000 in
theorem after21_any (N : Nat → Prop) (bk bm n : Nat) (v : Value) (D : DataW Value) (done : List En) (nm : ByteArray) (p u v' : Int) (w : World) (hB : BookM w N bk bm n v D done) (hs : nm.size ≤ 4294967296) (b : Rq) (hbud : budT done nm = some b) (m : Rq) (ht : Top (fun p => (prtP done nm p).1) (fun p => p ∈ prs done nm) m) (hob : OkR b) (hls : OkR (u, v')) (er : Int) (her : onaT b (allP done nm).1 (u, v') m = er) :
    Calls Tryz.prog 23 #[.pointer (some ⟨bk, 0, none⟩), ev (2, nm, p, u, v')] w (Aft21 w N bk bm done nm b (mulT (allP done nm).1 (u, v')).1 er) := by
  have HB : Hid (BookM w N bk bm n v D done) := hB
  obtain ⟨w0, hw0⟩ : ∃ w0, (w.alloc (.cells #[.int .i64 2, .string nm, .int .i64 p, .int .i64 u, .int .i64 v'] 45)).alloc (.cells #[.int .i64 0, .int .i64 0, .int .i64 0, .int .i64 0, .map none] 63) = w0 := ⟨_, rfl⟩
  have hz0 : w0.heap.size = w.heap.size + 1 + 1 := by rw [← hw0]; simp
  have B0 : Below w.heap.size w w0 := by rw [← hw0]; exact bal (ba _ _) _
  have V0 : Hid (FivB w0 w.heap.size (.int .i64 2) (.string nm) (.int .i64 p) (.int .i64 u) (.int .i64 v')) := by rw [← hw0]; exact (FivB.new _ _ _ _ _ _ 45 _ rfl).below (ba _ _)
  have V1 : Hid (FivB w0 (w.heap.size + 1) (.int .i64 0) (.int .i64 0) (.int .i64 0) (.int .i64 0) (.map none)) := by rw [← hw0]; exact FivB.new _ _ _ _ _ _ 63 _ (by simp)
  have BK : Hid (BookM w0 N bk bm n v D done) := hB.keep B0
  obtain ⟨bp, np, Dp, hat, hPp, hnp, hszp, hlop, hbpk, hbpm⟩ := (hB.el nm b hbud).ex
  have hhas : Maps.has D (kN nm) = true := (hB.is nm).2 ⟨b, hbud⟩
  have HX : Hid (np ≤ done.length ∧ Maps.size Dp = (parT done nm).length ∧ N bp ∧ bp ≠ bk ∧ bp ≠ bm) := ⟨hnp, hszp, hlop, hbpk, hbpm⟩
  have HPp : Hid (Pts w bp np Dp (fun p => p ∈ prs done nm) (fun p => (prtP done nm p).1)) := hPp
  have HBU : Hid (budT done nm = some b) := hbud
  clear hnp hszp hlop hbpk hbpm hPp hbud
  obtain ⟨al, hal⟩ : ∃ al, (allP done nm).1 = al := ⟨_, rfl⟩
  have HAL : Hid ((allP done nm).1 = al) := hal
  rw [hal] at hat
  clear hal
  have hlk1 := BK.out.lookAt hs hat hhas (gb_drew (gb_refl w0 none))
  have hlk2 := BK.out.lookAt hs hat hhas (gb_drew (gb_alloc (gb_refl w0 none) (.cells #[.int .i64 0, .int .i64 0, .int .i64 0, .int .i64 0, .map none] 63)))
  obtain ⟨c0, c1, c2, c3, c4, f0, f1, f2, f3, f4, hl0⟩ := V0.out
  obtain ⟨d0, d1, d2, d3, d4, g0, g1, g2, g3, g4, hl1⟩ := V1.out
  obtain ⟨t0, t1, tf0, tf1, htl⟩ := BK.out.two
  have hbk : bk < w.heap.size := HB.out.two.lt
  have hbk2 : bk < w.heap.size + 1 + 1 := by omega
  clear hB hat hhas
  rw [HAL.out] at her
  rw [HAL.out]
  have hal1 : OkR al := HAL.out ▸ (HB.out.inv.all nm).2
  have hln := HB.out.inv.len
  have ko := fun W (hW : Pts W bp np Dp (fun p => p ∈ prs done nm) (fun p => (prtP done nm p).1)) => onAll_any b al (u, v') bp np Dp _ _ W hW (by have := HX.out.1; omega) m ht hal1 hob hls er her
  have P1 : Hid (Pts (w0.alloc (.cells #[.int .i64 b.1, .int .i64 b.2, .int .i64 al.1, .int .i64 al.2, .map (some bp)] 63)).drew bp np Dp (fun p => p ∈ prs done nm) (fun p => (prtP done nm p).1)) := (HPp.out.keep (bal B0 _)).gb (gb_drew (gb_refl _ none)) (by simp)
  have W1 : Hid (FivB (w0.alloc (.cells #[.int .i64 b.1, .int .i64 b.2, .int .i64 al.1, .int .i64 al.2, .map (some bp)] 63)).drew (w.heap.size + 1) (.int .i64 0) (.int .i64 0) (.int .i64 0) (.int .i64 0) (.map none)) := (V1.out.below (ba _ _)).gb (gb_drew (gb_refl _ none)) (by simp)
  have hbpl : bp < w.heap.size := HPp.out.own.lt
  clear her hln ht
  go_enter Tryz.func23, Tryz.ntmps23
  go_wp2_with fail
  go_region
  all_goals
    by_cases her : er = 0
    · subst her
      simp only [↓reduceIte] at ko
      go_wp2_with fail
      refine (ko _ P1.out).mono ?_
      rintro e1 w1 ⟨rfl, hb1⟩
      obtain ⟨x0, x1, x2, x3, x4, y0, y1, y2, y3, y4, hx⟩ := W1.out.below hb1
      go_wp2_with fail
      exact bodyPost_ret (v := .tuple #[pv b (mulT al (u, v')).1 bp, .int .i64 0]) (by simp [results, Tryz.results23, go_sem, x0, x1, x2, x3, x4]) rfl ⟨bs5 (bt (bal B0 _).drew hb1) (by omega) _ _ _ _ _, .inr ⟨rfl, bp, np, Dp, rfl, (P1.out.keep hb1).gb (gb_set (gb_set (gb_set (gb_set (gb_set (gb_refl _ _) _ _) _ _) _ _) _ _) _ _) (by simp; omega), HX.out⟩⟩
    · simp only [her, ↓reduceIte] at ko
      go_wp2_with fail
      refine (ko _ P1.out).mono ?_
      rintro e1 w1 ⟨rfl, hb1⟩
      obtain ⟨x0, x1, x2, x3, x4, y0, y1, y2, y3, y4, hx⟩ := W1.out.below hb1
      go_wp2_with fail
      exact bodyPost_ret (v := .tuple #[zp, .int .i64 er]) (by simp [results, Tryz.results23, go_sem, x0, x1, x2, x3, x4]) rfl ⟨bs5 (bt (bal B0 _).drew hb1) (by omega) _ _ _ _ _, .inl ⟨her, rfl⟩⟩

end Go.Proofs.YtfibbjngllelbaaGreat
