namespace Go.Proofs.YtfibbjngllelbaaGreat.Ds

/-- the order of lists: -1, 0, 1 -/
def cmpT : List Int → List Int → Int
  | [], [] => 0
  | [], _ :: _ => -1
  | _ :: _, [] => 1
  | a :: x, b :: y => if a < b then -1 else if b < a then 1 else cmpT x y

theorem cmpT_cases (x y : List Int) : cmpT x y = -1 ∨ cmpT x y = 0 ∨ cmpT x y = 1 := by
  induction x generalizing y with
  | nil => cases y <;> simp [cmpT]
  | cons a x ih => cases y with
    | nil => simp [cmpT]
    | cons b y => simp only [cmpT]; split; · simp
                  · split; · simp
                    · exact ih y

theorem cmpT_swap (x y : List Int) : cmpT y x = - cmpT x y := by
  induction x generalizing y with
  | nil => cases y <;> simp [cmpT]
  | cons a x ih => cases y with
    | nil => simp [cmpT]
    | cons b y =>
      simp only [cmpT]
      by_cases h1 : a < b
      · simp [h1, Int.not_lt.2 (Int.le_of_lt h1)]
      · by_cases h2 : b < a
        · simp [h1, h2]
        · simp [h1, h2, ih y]

theorem cmpT_self (x : List Int) : cmpT x x = 0 := by
  have := cmpT_swap x x; omega

theorem cmpT_zero (x y : List Int) : cmpT x y = 0 ↔ x = y := by
  constructor
  · intro h
    induction x generalizing y with
    | nil => cases y with | nil => rfl | cons b y => simp [cmpT] at h
    | cons a x ih => cases y with
      | nil => simp [cmpT] at h
      | cons b y =>
        simp only [cmpT] at h
        by_cases h1 : a < b
        · simp [h1] at h
        · by_cases h2 : b < a
          · simp [h1, h2] at h
          · simp [h1, h2] at h
            rw [ih y h, show a = b by omega]
  · rintro rfl; exact cmpT_self x


end Go.Proofs.YtfibbjngllelbaaGreat.Ds
