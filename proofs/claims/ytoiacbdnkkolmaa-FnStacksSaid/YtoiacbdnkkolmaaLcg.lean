namespace Go.Proofs.Ytoiacbdnkkolmaa

/-- The sequence behind the code's end, unreduced. -/
def lcg (s : Nat) : Nat := 6364136223846793005 * s + 1442695040888963407
def itr : Nat → Nat → Nat
  | 0, s => s
  | t + 1, s => itr t (lcg s)

theorem itr_add (a b s : Nat) : itr (a + b) s = itr b (itr a s) := by
  induction a generalizing s with
  | zero => simp [itr]
  | succ a ih => rw [show a + 1 + b = (a + b) + 1 by omega]; exact ih (lcg s)

theorem itr_pow (k : Nat) : ∃ p q : Nat, ∀ s, itr (2 ^ k) s = s + 2 ^ (k + 2) * p * s + 2 ^ k * (2 * q + 1) := by
  induction k with
  | zero => exact ⟨1591034055961698251, 721347520444481703, fun s => by simp only [itr, lcg]; omega⟩
  | succ k ih =>
    obtain ⟨p, q, h⟩ := ih
    refine ⟨p + 2 ^ (k + 1) * (p * p), q + 2 ^ k * p * (2 * q + 1), fun s => ?_⟩
    rw [show 2 ^ (k + 1) = 2 ^ k + 2 ^ k by omega, itr_add, h, h]
    have e1 : 2 ^ (k + 2) = 4 * 2 ^ k := by rw [Nat.pow_succ, Nat.pow_succ]; omega
    have e2 : 2 ^ (k + 1 + 2) = 8 * 2 ^ k := by rw [Nat.pow_succ, Nat.pow_succ, Nat.pow_succ]; omega
    have e3 : 2 ^ (k + 1) = 2 * 2 ^ k := by omega
    rw [e1, e2]
    generalize 2 ^ k = z
    grind

theorem itr_any (k : Nat) : ∀ s τ : Nat, ∃ t, t < 2 ^ k ∧ itr t s % 2 ^ k = τ % 2 ^ k := by
  induction k with
  | zero => exact fun s τ => ⟨0, by omega, by simp [Nat.mod_one]⟩
  | succ k ih =>
    intro s τ
    obtain ⟨t, ht, e⟩ := ih s τ
    obtain ⟨p, q, h⟩ := itr_pow k
    by_cases hx : itr t s % 2 ^ (k + 1) = τ % 2 ^ (k + 1)
    · exact ⟨t, by omega, hx⟩
    · refine ⟨t + 2 ^ k, by omega, ?_⟩
      rw [itr_add, h]
      generalize itr t s = x at *
      have e1 : 2 ^ (k + 2) = 2 ^ (k + 1) * 2 := Nat.pow_succ ..
      have e2 : x + 2 ^ (k + 2) * p * x + 2 ^ k * (2 * q + 1) = (x + 2 ^ k) + 2 ^ (k + 1) * (2 * (p * x) + q) := by
        rw [e1, show 2 ^ (k + 1) = 2 * 2 ^ k by omega]
        generalize 2 ^ k = z
        grind
      rw [e2, Nat.add_mul_mod_self_left]
      have e3 : 2 ^ (k + 1) = 2 ^ k * 2 := by omega
      have a1 := Nat.mod_mul (x := x) (a := 2 ^ k) (b := 2)
      have a2 := Nat.mod_mul (x := τ) (a := 2 ^ k) (b := 2)
      have a3 := Nat.mod_mul (x := x + 2 ^ k) (a := 2 ^ k) (b := 2)
      have hz : 0 < 2 ^ k := Nat.two_pow_pos k
      rw [Nat.add_mod_right, Nat.add_div_right _ hz] at a3
      rw [e3] at hx ⊢
      rw [a1, a2, e] at hx
      rw [a3, a2, e]
      have b1 := Nat.mod_lt (x / 2 ^ k) (show 0 < 2 by omega)
      have b2 := Nat.mod_lt (τ / 2 ^ k) (show 0 < 2 by omega)
      have hne : x / 2 ^ k % 2 ≠ τ / 2 ^ k % 2 := fun e => hx (by rw [e])
      have : (x / 2 ^ k).succ % 2 = τ / 2 ^ k % 2 := by omega
      rw [this]

theorem itr_mod (t s : Nat) : itr t (s % 2 ^ 64) % 2 ^ 64 = itr t s % 2 ^ 64 := by
  induction t generalizing s with
  | zero => simp [itr]
  | succ t ih =>
    simp only [itr]
    rw [← ih (lcg (s % 2 ^ 64)), ← ih (lcg s)]
    have e : lcg (s % 2 ^ 64) % 2 ^ 64 = lcg s % 2 ^ 64 := by
      unfold lcg
      rw [Nat.add_mod, Nat.mul_mod, Nat.mod_mod, ← Nat.mul_mod, ← Nat.add_mod]
    rw [e]

/-- Draws until the sequence stands at 10 modulo 2^48. -/
theorem rank_ex (s : Nat) : ∃ t, itr t s % 2 ^ 48 = 10 := by
  obtain ⟨t, _, h⟩ := itr_any 48 s 10
  exact ⟨t, by simpa using h⟩

end Go.Proofs.Ytoiacbdnkkolmaa
