import Derived.Test.YtoiacbdnkkolmaaT5
import Derived.Test.YtoiacbdnkkolmaaLcg
import Derived.Laws.BitsLemmas
import Derived.Laws.Bits64
namespace Go.Proofs.Ytoiacbdnkkolmaa
open Go.RowKit

/-- Where a cursor stands. -/
structure Cu where
  at_ : Nat
  seed : Nat

/-- The cursor at block pc over a code of so many bytes, all of it below K. -/
structure Cur (K : Nat) (w : World) (pc : Nat) (len : Nat) (c : Cu) : Prop where
  hk : pc < K
  cs : ∃ a cap, w.cell? ⟨pc, 0, none⟩ = some (.slice a len cap) ∧ ∀ i, i < len → ∃ b o x, a = some ⟨b, o, none⟩ ∧ b ≠ pc ∧ b < K ∧ w.cell? ⟨b, o + i, none⟩ = some (.int .u8 x) ∧ 0 ≤ x ∧ x < 256
  c1 : w.cell? ⟨pc, 1, none⟩ = some (.int .i64 c.at_)
  c2 : w.cell? ⟨pc, 2, none⟩ = some (.int .u64 c.seed)
  f1 : w.frozen? ⟨pc, 1, none⟩ = false
  f2 : w.frozen? ⟨pc, 2, none⟩ = false
  hs : c.seed < 18446744073709551616
  hl : len ≤ 1048576

/-- One draw. -/
structure Drew (len : Nat) (c c' : Cu) (x : Int) : Prop where
  x0 : 0 ≤ x
  x1 : x < 256
  at1 : c'.at_ = c.at_ + 1
  far : len ≤ c.at_ → c'.seed = lcg c.seed % 18446744073709551616 ∧ x = (c'.seed / 1099511627776 % 256 : Nat)

theorem Cur.below {K : Nat} {w w' : World} {pc len : Nat} {c : Cu} (h : Cur K w pc len c) (hb : Below K w w') : Cur K w' pc len c := by
  obtain ⟨hk, ⟨a, cap, h0, hx⟩, h1, h2, h3, h4, h5, h6⟩ := h
  have hf : ∀ o, w'.frozen? ⟨pc, o, none⟩ = w.frozen? ⟨pc, o, none⟩ := fun o => hb.frozen hk
  have hc : ∀ o, w'.cell? ⟨pc, o, none⟩ = w.cell? ⟨pc, o, none⟩ := fun o => hb.cell hk
  refine ⟨hk, ⟨a, cap, by rw [hc]; exact h0, fun i hi => ?_⟩, by rw [hc]; exact h1, by rw [hc]; exact h2, by rw [hf]; exact h3, by rw [hf]; exact h4, h5, h6⟩
  obtain ⟨b, o, x, ha, hne, hbk, hcx, hr⟩ := hx i hi
  exact ⟨b, o, x, ha, hne, hbk, by rw [hb.cell (p := ⟨b, o + i, none⟩) hbk]; exact hcx, hr⟩

theorem wrap_u64_63 (n : Int) (h₀ : 0 ≤ n) (h₁ : n < 2 ^ 63) : IntKind.u64.wrap n = n := by rw [IntKind.wrap_u64]; omega

theorem low8 (a : Int) (h0 : 0 ≤ a) (h1 : a < 16777216) : bits .and .u64 a 255 = a % 256 := by
  have h := bits_mask .u64 63 (by decide) wrap_u64_63 8 (by decide) a h0 (by omega)
  have e : ((2 : Int) ^ 8 - 1) = 255 := by decide
  have e2 : ((2 : Int) ^ 8) = 256 := by decide
  rwa [e, e2] at h

theorem seed_far (s : Nat) : IntKind.u64.wrap (IntKind.u64.wrap ((s : Int) * 6364136223846793005) + 1442695040888963407) = ((lcg s % 18446744073709551616 : Nat) : Int) := by
  rw [IntKind.wrap_u64, IntKind.wrap_u64]
  unfold lcg
  omega

theorem seed_near (s : Nat) (x : Int) : ∃ z : Nat, z < 18446744073709551616 ∧ IntKind.u64.wrap (IntKind.u64.wrap (IntKind.u64.wrap ((s : Int) * 6364136223846793005) + x) + 1442695040888963407) = (z : Int) := by
  rw [IntKind.wrap_u64]
  generalize IntKind.u64.wrap (IntKind.u64.wrap ((s : Int) * 6364136223846793005) + x) + 1442695040888963407 = y
  exact ⟨(y % 18446744073709551616).toNat, by omega, by omega⟩

theorem draw_far (z : Nat) (hz : z < 18446744073709551616) : wrap64 (bits .and .u64 ((z : Int) / 1099511627776) 255) = ((z / 1099511627776 % 256 : Nat) : Int) := by
  rw [low8 _ (by omega) (by omega)]
  unfold wrap64
  omega

/-- The cursor's two cells written. -/
theorem Cur.go {K : Nat} {w : World} {pc len p s : Nat} (h : Cur K w pc len ⟨p, s⟩) (p' s' : Nat) (hs : s' < 18446744073709551616) :
    (Cur K ((w.setCell ⟨pc, 1, none⟩ (.int .i64 p')).setCell ⟨pc, 2, none⟩ (.int .u64 s')) pc len ⟨p', s'⟩ ∧ Betw pc (pc + 1) w ((w.setCell ⟨pc, 1, none⟩ (.int .i64 p')).setCell ⟨pc, 2, none⟩ (.int .u64 s'))) ∧
    (Cur K ((w.setCell ⟨pc, 2, none⟩ (.int .u64 s')).setCell ⟨pc, 1, none⟩ (.int .i64 p')) pc len ⟨p', s'⟩ ∧ Betw pc (pc + 1) w ((w.setCell ⟨pc, 2, none⟩ (.int .u64 s')).setCell ⟨pc, 1, none⟩ (.int .i64 p'))) := by
  obtain ⟨hk, ⟨a, cap, h0, hx⟩, h1, h2, h3, h4, h5, h6⟩ := h
  simp only at h1 h2 h5
  have n12 : (⟨pc, 1, none⟩ : Addr) ≠ ⟨pc, 2, none⟩ := by simp
  have n21 : (⟨pc, 2, none⟩ : Addr) ≠ ⟨pc, 1, none⟩ := by simp
  have n10 : (⟨pc, 1, none⟩ : Addr) ≠ ⟨pc, 0, none⟩ := by simp
  have n20 : (⟨pc, 2, none⟩ : Addr) ≠ ⟨pc, 0, none⟩ := by simp
  have s1 : ∀ u, (w.setCell ⟨pc, 1, none⟩ u).cell? ⟨pc, 2, none⟩ = some (.int .u64 s) := fun u => by rw [World.cell?_setCell_other _ _ _ _ n12]; exact h2
  have s2 : ∀ u, (w.setCell ⟨pc, 2, none⟩ u).cell? ⟨pc, 1, none⟩ = some (.int .i64 p) := fun u => by rw [World.cell?_setCell_other _ _ _ _ n21]; exact h1
  refine ⟨⟨⟨hk, ⟨a, cap, ?_, fun i hi => ?_⟩, ?_, ?_, ?_, ?_, hs, h6⟩, ?_⟩, ⟨⟨hk, ⟨a, cap, ?_, fun i hi => ?_⟩, ?_, ?_, ?_, ?_, hs, h6⟩, ?_⟩⟩
  · rw [World.cell?_setCell_other _ _ _ _ n20, World.cell?_setCell_other _ _ _ _ n10]; exact h0
  · obtain ⟨b, o, x, ha, hne, hbk, hc, hr⟩ := hx i hi
    exact ⟨b, o, x, ha, hne, hbk, cell_set_ne (fun e => hne e.symm) (cell_set_ne (fun e => hne e.symm) hc), hr⟩
  · rw [World.cell?_setCell_other _ _ _ _ n21]; exact World.cell?_setCell_same' _ _ _ (by rw [h1]; rfl)
  · exact World.cell?_setCell_same' _ _ _ (by rw [s1]; rfl)
  · rw [World.frozen?_setCell, World.frozen?_setCell]; exact h3
  · rw [World.frozen?_setCell, World.frozen?_setCell]; exact h4
  · exact ((Betw.refl _ _ _).setCell (Nat.le_refl _) (Nat.lt_succ_self _) h1 rfl rfl).setCell (Nat.le_refl _) (Nat.lt_succ_self _) (s1 _) rfl rfl
  · rw [World.cell?_setCell_other _ _ _ _ n10, World.cell?_setCell_other _ _ _ _ n20]; exact h0
  · obtain ⟨b, o, x, ha, hne, hbk, hc, hr⟩ := hx i hi
    exact ⟨b, o, x, ha, hne, hbk, cell_set_ne (fun e => hne e.symm) (cell_set_ne (fun e => hne e.symm) hc), hr⟩
  · exact World.cell?_setCell_same' _ _ _ (by rw [s2]; rfl)
  · rw [World.cell?_setCell_other _ _ _ _ n12]; exact World.cell?_setCell_same' _ _ _ (by rw [h2]; rfl)
  · rw [World.frozen?_setCell, World.frozen?_setCell]; exact h3
  · rw [World.frozen?_setCell, World.frozen?_setCell]; exact h4
  · exact ((Betw.refl _ _ _).setCell (Nat.le_refl _) (Nat.lt_succ_self _) h2 rfl rfl).setCell (Nat.le_refl _) (Nat.lt_succ_self _) (s2 _) rfl rfl

set_option maxRecDepth 100000 in
set_option maxHeartbeats 1000000 in
theorem next_any (K pc len : Nat) (c : Cu) (w : World) (h : Cur K w pc len c) (hat : c.at_ < 4611686018427387904) :
    Calls Try.prog 87 #[.pointer (some ⟨pc, 0, none⟩)] w fun e w' => (∃ x c', e = .returned (.int .i64 x) ∧ Drew len c c' x ∧ Cur K w' pc len c') ∧ Betw pc (pc + 1) w w' := by
  have H := hide h
  obtain ⟨-, ⟨a, cap, h0, hx⟩, h1, h2, h3, h4, h5, h6⟩ := h
  have HX := hide hx
  obtain ⟨p, s⟩ := c
  simp only at h1 h2 h5 hat
  clear hx
  by_cases hlt : p < len
  · obtain ⟨b, o, x, rfl, hne, -, hc, hx0, hx1⟩ := unhide HX p hlt
    have hi1 : (0 : Int) ≤ (p : Int) := by omega
    have hi2 : (p : Int) < (len : Int) := by omega
    have hd : decide ((p : Int) < (len : Int)) = true := by simpa using hi2
    go_enter Try.func87, Try.ntmps87
    go_wp2
    go_quiet (fail)
    go_wp2
    go_quiet (fail)
    obtain ⟨z, hz, ez⟩ := seed_near s x
    go_wp2
    go_ret
    have HC := fun q => (((unhide H).below (below_drewN (Below.refl K _) q)).go (p + 1) z hz).1
    exact ⟨⟨x, ⟨p + 1, z⟩, rfl, ⟨hx0, hx1, rfl, fun hf => absurd hf (by simpa using hlt)⟩, (HC _).1⟩, (Betw.of_below _ _ (below_drewN' _ _)).trans (HC _).2⟩
  · have hd : decide ((p : Int) < (len : Int)) = false := by simpa using hlt
    go_enter Try.func87, Try.ntmps87
    go_wp2
    go_quiet (fail)
    have ez := seed_far s
    obtain ⟨z, hz⟩ : ∃ z, z = lcg s % 18446744073709551616 := ⟨_, rfl⟩
    have HZ := hide hz
    have hz2 : z < 18446744073709551616 := by rw [hz]; exact Nat.mod_lt _ (by omega)
    rw [← hz] at ez
    clear hz
    have ed := draw_far z hz2
    go_wp2
    go_ret
    have HC := fun q => (((unhide H).below (below_drewN (Below.refl K _) q)).go (p + 1) z hz2).2
    exact ⟨⟨_, ⟨p + 1, z⟩, rfl, ⟨by omega, by omega, rfl, fun _ => ⟨unhide HZ, ed⟩⟩, (HC _).1⟩, (Betw.of_below _ _ (below_drewN' _ _)).trans (HC _).2⟩
end Go.Proofs.Ytoiacbdnkkolmaa
