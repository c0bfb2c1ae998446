import Derived.Test.YtjhfdjdmiombpabE1
import Derived.Test.YtjhfdjdmiombpabE3
import Derived.Test.YtjhfdjdmiombpabR2
import Derived.RangeFuncNested
import Derived.RangeFuncBound
import Derived.RangeFuncCalls
import Derived.RangeFuncLeaves
import Derived.RangeFuncBox
import Derived.Shelf.Abstract
import Derived.Shelf.RegionOpen
import Derived.WalkKit
import Derived.OwnWalkIn
import Derived.TacticsInMore
import Derived.LoopNIn
import Derived.LoopIn
namespace Go.Proofs.Ytjhfdjdmiombpab
open Go.RowKit Go.Shelf

attribute [local go_sem] Oper.semAt_some

theorem field_top2 (a b c : Value) (w : World) : (Instr.field 112 (.agg #[a, b, c]) 1).run Try.prog w = .ok b w := by kernel_rfl

set_option maxHeartbeats 1000000 in
theorem shownBy_any (lo : Nat) (v : Value) (n : Nat) (f : Nat → M) (k : Nat) (w : World) (h : PlacesAt lo w v n f) (hn : n ≤ 3000) (hk : k < n) :
    Calls Try.prog 184 #[v, .int .i64 k, .int .i64 (f k).kind] w fun e w' => (∃ p, e = .returned (.pointer p) ∧ ListAt w' (runs f (if (f k).kind = 3 then k else k + 1)) p) ∧ Below w.heap.size w w' := by
  have H := hide h
  clear h
  have hft := field_top2
  by_cases h3 : (f k).kind = 3
  · rw [if_pos h3, h3]
    clear h3
    have wx : IntKind.i64.wrap ((k : Int) - 1) = (k : Int) - 1 := by rw [IntKind.wrap_i64]; omega
    go_enter Try.func184, Try.ntmps184
    go_wp2_with fail
    refine (placeAt_any lo v n f ((k : Int) - 1) w (unhide H) hn (by omega) (by omega)).mono ?_
    rintro e w1 ⟨⟨top, bw, rfl, hpl⟩, hb⟩
    rw [show upto n ((k : Int) - 1) = k by unfold upto; omega] at hpl
    have HP := hide (And.intro hpl.1 hb)
    clear hpl hb
    go_wp2_with fail
    go_ret
    exact ⟨⟨_, rfl, (unhide HP).1⟩, (unhide HP).2⟩
  · have h3b : ((f k).kind == 3) = false := by simpa using h3
    rw [if_neg h3]
    clear h3
    go_enter Try.func184, Try.ntmps184
    go_wp2_with fail
    refine (placeAt_any lo v n f (k : Int) w (unhide H) hn (by omega) (by omega)).mono ?_
    rintro e w1 ⟨⟨top, bw, rfl, hpl⟩, hb⟩
    rw [show upto n (k : Int) = k + 1 by unfold upto; omega] at hpl
    have HP := hide (And.intro hpl.1 hb)
    clear hpl hb
    go_wp2_with fail
    go_ret
    exact ⟨⟨_, rfl, (unhide HP).1⟩, (unhide HP).2⟩

/-- What has come when k rounds are over: the places from the end on. -/
def down (nv k : Nat) : List Nat := (List.range k).map fun j => nv - 1 - j
theorem down_succ (nv k : Nat) : down nv (k + 1) = down nv k ++ [nv - 1 - k] := by simp [down, List.range_succ]
theorem down_length (nv k : Nat) : (down nv k).length = k := by simp [down]

def varEnc (vs : Nat → V) (i : Nat) : Array Value := #[.int .i64 (i : Int), .agg #[.string (vs i).name, .string (vs i).text]]

set_option maxRecDepth 100000 in
set_option maxHeartbeats 2000000 in
theorem back1_in (F : Fence) (m : Nat) (hf : F.fn 202) (hro : F.round = none) (hm : 1 ≤ m) (l Bs n₀ lo nv : Nat) (sv : Value) (vs : Nat → V) (hnv : nv ≤ 200) (J Jx : List Nat → World → Prop)
    (hY : ∀ (pre : List Nat) (x : Nat) W, J pre W → pre.length < nv → YieldAt F (m - 1) Try.prog l #[.int .i64 (x : Int), .agg #[.string (vs x).name, .string (vs x).text]] W fun e W' =>
      (e = .returned (.bool true) ∧ J (pre ++ [x]) W' ∧ Below n₀ W W') ∨ (e = .returned (.bool false) ∧ Jx (pre ++ [x]) W'))
    (W : World) (hBs : W.cell? ⟨Bs, 0, none⟩ = some sv) (hBl : Bs < n₀) (hv : VarsAt lo W sv nv vs) (hb : ∀ a n c, 0 < nv → sv = .slice (some a) n c → a.block < n₀) (h0 : J [] W) :
    CallsIn F m Try.prog 202 #[.func (.yield l) #[] #[], .pointer (some ⟨Bs, 0, none⟩)] W fun e W' => (∃ v, e = .returned v) ∧
      ((∃ ys, ys = down nv nv ∧ J ys W') ∨ (∃ pre, (∃ k, k ≤ nv ∧ pre = down nv k) ∧ Jx pre W')) := by
  obtain ⟨a, cap, rfl, -, hc⟩ := hv
  have wx : IntKind.i64.wrap ((nv : Int) - 1) = (nv : Int) - 1 := by rw [IntKind.wrap_i64]; omega
  refine callsIn_of_wp Try.func202 rfl hf ?_ hro
  simp only [Try.ntmps202, List.size_toArray, List.length_cons, List.length_nil, Nat.reduceAdd, Nat.reduceSub, Array.replicate_succ, Array.replicate_zero, List.push_toArray, List.append_toArray, List.nil_append, List.cons_append]
  gi_wp2
  gi_loopw [3] (fun i wr => ∃ k : Nat, k ≤ nv ∧ i = .int .i64 (((nv - k : Nat) : Int) - 1) ∧ J (down nv k) wr ∧ Below n₀ W wr)
    (fun i _ => (intOf i + 1).toNat)
  case atStart => exact ⟨0, Nat.zero_le _, by simp, h0, Below.refl _ _⟩
  case round =>
    obtain ⟨k, hk, rfl, hJs, hnx⟩ := hrel
    by_cases hlt : k < nv
    · obtain ⟨j, hj⟩ : ∃ j, j = nv - 1 - k := ⟨_, rfl⟩
      have ej : (((nv - k : Nat) : Int) - 1) = (j : Int) := by omega
      rw [ej]
      obtain ⟨b, o, rfl, c0, c1, -⟩ := hc j (by omega)
      have hbn := hb _ _ _ (by omega) rfl
      have c0' : wr.cell? ⟨b, o + j * 2, none⟩ = some (.string (vs j).name) := (hnx.cell (p := ⟨b, o + j * 2, none⟩) hbn).trans c0
      have c1' : wr.cell? ⟨b, o + j * 2 + 1, none⟩ = some (.string (vs j).text) := (hnx.cell (p := ⟨b, o + j * 2 + 1, none⟩) hbn).trans c1
      have hBs' : wr.cell? ⟨Bs, 0, none⟩ = some (.slice (some ⟨b, o, none⟩) nv cap) := (hnx.cell (p := ⟨Bs, 0, none⟩) hBl).trans hBs
      obtain ⟨fn, tmps, assign, body, hy, hR⟩ := hY _ j wr hJs (by rw [down_length]; exact hlt)
      have hj0 : (0 : Int) ≤ (j : Int) := by omega
      have hj1 : (j : Int) < (nv : Int) := by omega
      have wj : IntKind.i64.wrap ((j : Int) - 1) = (j : Int) - 1 := by rw [IntKind.wrap_i64]; omega
      have HJ := hide hj
      have HR := hide hR
      clear hj ej c0 c1 hBs hR hY hJs hb hc hbn
      gi_wp2
      refine (unhide HR).mono ?_
      rintro e W3 (⟨rfl, hJ3, hk3⟩ | ⟨rfl, hJx3⟩)
      · gi_wp2
        go_roundw
        case rel =>
          have hj := unhide HJ
          exact ⟨k + 1, by omega, by congr 1; omega, by rw [down_succ, ← hj]; exact hJ3, hnx.trans hk3⟩
        case measure => first | (simp [intOf]; done) | (simp [intOf]; omega)
      · gi_wp2
        refine bodyPost_ret (results_none rfl _ _ _) rfl ?_
        have hj := unhide HJ
        exact ⟨⟨_, rfl⟩, .inr ⟨_, ⟨k + 1, by omega, by rw [down_succ, ← hj]⟩, hJx3⟩⟩
    · obtain rfl : k = nv := by omega
      have ej : (((k - k : Nat) : Int) - 1) = -1 := by omega
      rw [ej]
      gi_wp2
      go_end0
      exact ⟨⟨_, rfl⟩, .inl ⟨_, rfl, hJs⟩⟩
end Go.Proofs.Ytjhfdjdmiombpab
