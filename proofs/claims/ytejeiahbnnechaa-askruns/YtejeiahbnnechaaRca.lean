import Derived.Test.YtejeiahbnnechaaRckx
namespace Go.Proofs.Ytejeiahbnnechaa
open Go.RowKit Go.Proofs.Ytejeiahbnnechaa.Ds

theorem kidN_cases {k : Int} (h : ¬ kidN k < 0) : k = 1 ∨ k = 2 ∨ k = 3 ∨ k = 4 ∨ k = 5 ∨ k = 6 ∨ k = 7 ∨ k = 8 ∨ k = 9 ∨ k = 10 := by
  unfold kidN at h
  split at h
  · omega
  · split at h
    · omega
    · split at h
      · omega
      · omega
/-- reckoned, of every kind -/
theorem rck_any (k : Int) (hk : ¬ kidN k < 0) (lv : Value) (c : ByteArray) (lo hi : Int) (wv kv : Value) (x y : Bnd) (hx : BOk x) (hy : BOk y) (w : World) (B : Nat) (l : List Col) (wh : List Tst) (hB : B ≤ w.heap.size) (hp : Cols w B lv l) (hq : Tss w B wv wh)
    (r : Except Int Bnd) (hr : rec l k c lo hi wh x y = r) : RkC w lv k c lo hi wv kv x.1 x.2.1 x.2.2 y.1 y.2.1 y.2.2 r := by
  obtain ⟨x1, x2, x3⟩ := x
  obtain ⟨y1, y2, y3⟩ := y
  rcases kidN_cases hk with rfl | rfl | rfl | rfl | rfl | rfl | rfl | rfl | rfl | rfl
  · exact rck1_any lv c lo hi wv kv x1 x2 x3 y1 y2 y3 hx hy w B l wh hB hp hq r (by rw [← hr]; simp [rec])
  · exact rck2_any lv c lo hi wv kv x1 x2 x3 y1 y2 y3 hx hy w B l wh hB hp hq r hr
  · exact rck3_any lv c lo hi wv kv x1 x2 x3 y1 y2 y3 hx hy w B l wh hB hp hq r hr
  · subst hr; have := rck4_any lv c lo hi wv kv x1 x2 x3 y1 y2 y3 hx hy w; simpa [rec] using this
  · subst hr; have := rck5_any lv c lo hi wv kv x1 x2 x3 y1 y2 y3 hx hy w; simpa [rec] using this
  · subst hr; have := rck6_any lv c lo hi wv kv x1 x2 x3 y1 y2 y3 hx hy w; simpa [rec] using this
  · subst hr; have := rck7_any lv c lo hi wv kv x1 x2 x3 y1 y2 y3 hx hy w; simpa [rec] using this
  · subst hr; have := rck8_any lv c lo hi wv kv x1 x2 x3 y1 y2 y3 hx hy w; simpa [rec] using this
  · subst hr; have := rck9_any lv c lo hi wv kv x1 x2 x3 y1 y2 y3 hx hy w; simpa [rec] using this
  · subst hr; have := rck10_any lv c lo hi wv kv x1 x2 x3 y1 y2 y3 hx hy w; simpa [rec] using this
end Go.Proofs.Ytejeiahbnnechaa
