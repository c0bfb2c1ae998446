import Derived.Test.YtoiacbdnkkolmaaD1
namespace Go.Proofs.Ytoiacbdnkkolmaa
open Go.RowKit

set_option maxRecDepth 100000 in
set_option maxHeartbeats 400000 in
theorem pick_any (K pc len : Nat) (c : Cu) (n : Nat) (w : World) (h : Cur K w pc len c) (hat : c.at_ < 4611686018427387904) (hn : 2 ≤ n) (hn2 : n ≤ 200) :
    Calls Try.prog 46 #[.pointer (some ⟨pc, 0, none⟩), .int .i64 n] w fun e w' => (∃ (x : Nat) (c' : Cu), e = .returned (.int .i64 ((x % n : Nat) : Int)) ∧ Drew len c c' x ∧ Cur K w' pc len c') ∧ Betw pc (pc + 1) w w' := by
  have H := hide h
  clear h
  go_enter Try.func46, Try.ntmps46
  go_wp2_with fail
  refine (next_any K pc len c _ (unhide H) hat).mono ?_
  rintro e w1 ⟨⟨x, c', rfl, hd, hc⟩, hb⟩
  have HD := hide hd
  have HC := hide hc
  have HB := hide hb
  obtain ⟨y, rfl⟩ : ∃ y : Nat, x = (y : Int) := Int.eq_ofNat_of_zero_le hd.x0
  have hy : (y : Int) < 256 := hd.x1
  clear hd hc hb
  obtain ⟨r, hr⟩ : ∃ r, r = y % n := ⟨_, rfl⟩
  have em : (y : Int).tmod (n : Int) = (r : Int) := by rw [hr]; exact (Int.ofNat_tmod y n).symm
  have HR := hide hr
  clear hr
  go_wp2
  go_ret
  exact ⟨⟨y, c', by rw [unhide HR]; rfl, unhide HD, unhide HC⟩, unhide HB⟩

set_option maxHeartbeats 400000 in
theorem pick_one (pc : Nat) (n : Int) (w : World) (hn : n ≤ 1) :
    Calls Try.prog 46 #[.pointer (some ⟨pc, 0, none⟩), .int .i64 n] w fun e w' => e = .returned (.int .i64 0) ∧ w' = w := by
  go_enter Try.func46, Try.ntmps46
  go_wp2
  go_ret
  exact ⟨rfl, rfl⟩

/-- So many draws. -/
structure Draws (len d : Nat) (c c' : Cu) : Prop where
  at1 : c'.at_ = c.at_ + d
  far : len ≤ c.at_ → c'.seed % 18446744073709551616 = itr d c.seed % 18446744073709551616

theorem Draws.refl (len : Nat) (c : Cu) : Draws len 0 c c := ⟨rfl, fun _ => rfl⟩

theorem Draws.next {len d : Nat} {c c1 c2 : Cu} {x : Int} (h : Draws len d c c1) (k : Drew len c1 c2 x) : Draws len (d + 1) c c2 := by
  refine ⟨by rw [k.at1, h.at1]; omega, fun hf => ?_⟩
  have h1 := h.far hf
  have h2 := (k.far (by rw [h.at1]; omega)).1
  rw [h2, Nat.mod_mod]
  rw [show d + 1 = d + 1 from rfl, itr_add]
  show lcg c1.seed % _ = lcg (itr d c.seed) % _
  unfold lcg
  rw [Nat.add_mod, Nat.mul_mod, h1, ← Nat.mul_mod, ← Nat.add_mod]
end Go.Proofs.Ytoiacbdnkkolmaa
