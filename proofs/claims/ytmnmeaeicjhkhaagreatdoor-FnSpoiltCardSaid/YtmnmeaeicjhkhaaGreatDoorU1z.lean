import Derived.Test.YtmnmeaeicjhkhaaGreatDoorGScz
import Derived.Laws.BytesArg
import Derived.Lib.ItoaNum
import Derived.Deep.LoopGhost
/-
  Numbers in decimal: spec.l5decimal.
-/
namespace Go.Proofs.YtmnmeaeicjhkhaaGreatDoor
open Go.RowKit Go.Lib

/-- A number's decimal text. -/
def decS (u : Nat) : ByteArray := ⟨(Lib.decDigits u).toArray⟩

theorem u8_wrap (n : Int) : IntKind.u8.wrap n = n % 256 := by simp [IntKind.wrap, IntKind.bits, IntKind.signed]

theorem conv_dig (W : World) (b : Nat) (d : Int) (h : W.cell? ⟨b, 0, none⟩ = some (.int .u8 d)) : Sem.run Tryz.prog (convert 22 9 (.slice (some ⟨b, 0, none⟩) 1 1)) W = .ok (.string (strOfNums [d])) W := by
  refine run_convert_bytes_arg (P := Tryz.prog) (w := W) 22 5 Tryz.underlying22 Tryz.underlying5 b 0 1 1 [d] rfl (fun i hi => ?_) 9 Tryz.underlying9
  have e : i = 0 := by omega
  subst e
  exact h

theorem bytes_ext {a b : ByteArray} (h : a.data = b.data) : a = b := by cases a; cases b; simpa using h

theorem bytes_mk_app (a b : List UInt8) : (⟨a.toArray⟩ : ByteArray) ++ ⟨b.toArray⟩ = ⟨(a ++ b).toArray⟩ := bytes_ext (by simp)

/-- So far: u's numeral is m's, and then what is written. -/
def DecTo (u m : Nat) (out : ByteArray) : Prop := ∃ l : List UInt8, out = ⟨l.toArray⟩ ∧ Lib.decDigits u = Lib.decDigits m ++ l

theorem DecTo.step {u m : Nat} {out : ByteArray} (h : DecTo u m out) (hm : ¬ m < 10) : DecTo u (m / 10) (strOfNums [48 + ((m % 10 : Nat) : Int)] ++ out) := by
  obtain ⟨l, rfl, h⟩ := h
  refine ⟨UInt8.ofNat (48 + m % 10) :: l, ?_, ?_⟩
  · have e : strOfNums [48 + ((m % 10 : Nat) : Int)] = ⟨[UInt8.ofNat (48 + m % 10)].toArray⟩ := by
      unfold strOfNums
      have : (48 + ((m % 10 : Nat) : Int)).toNat = 48 + m % 10 := by omega
      simp only [List.map_cons, List.map_nil, this]
    rw [e, bytes_mk_app]; rfl
  · rw [h]
    conv => lhs; rw [Lib.decDigits, dif_neg hm]
    rw [List.append_assoc]; rfl

theorem DecTo.last {u m : Nat} {out : ByteArray} (h : DecTo u m out) (hm : m < 10) : strOfNums [48 + ((m % 10 : Nat) : Int)] ++ out = decS u := by
  obtain ⟨l, rfl, h⟩ := h
  have e : strOfNums [48 + ((m % 10 : Nat) : Int)] = ⟨[UInt8.ofNat (48 + m)].toArray⟩ := by
    unfold strOfNums
    have : (48 + ((m % 10 : Nat) : Int)).toNat = 48 + m := by omega
    simp only [List.map_cons, List.map_nil, this]
  rw [e, bytes_mk_app]
  unfold decS
  rw [h]
  conv => rhs; rw [Lib.decDigits, dif_pos hm]

theorem decDigits_le (u : Nat) : (Lib.decDigits u).length ≤ u + 1 := by
  induction u using Nat.strongRecOn with
  | ind u ih =>
    by_cases h : u < 10
    · rw [Lib.decDigits, dif_pos h]; simp
    · have h2 := ih (u / 10) (by omega)
      rw [Lib.decDigits, dif_neg h, List.length_append]
      simp only [List.length_cons, List.length_nil]
      omega

theorem DecTo.size {u m : Nat} {out : ByteArray} (h : DecTo u m out) : out.size ≤ u + 1 := by
  obtain ⟨l, rfl, h⟩ := h
  have h1 := decDigits_le u
  rw [h, List.length_append] at h1
  show l.toArray.size ≤ u + 1
  simp only [List.size_toArray]
  omega

theorem dig_size (d : Int) : (strOfNums [d]).size = 1 := rfl

set_option maxRecDepth 100000 in
set_option maxHeartbeats 2000000 in
theorem l5decimal_any (u : Nat) (w : World) (hu : u ≤ 1000000) :
    Calls Tryz.prog 50 #[.int .i64 (u : Int)] w fun e w' => e = .returned (.string (decS u)) ∧ Below w.heap.size w w' := by
  have h0 : ¬ (u : Int) < 0 := by omega
  go_enter Tryz.func50, Tryz.ntmps50
  go_wp2_with fail
  go_loopg [0, 3] u (fun gg nv ov W => nv = .int .i64 (gg : Int) ∧ gg ≤ 1000000 ∧ (∃ out, ov = .string out ∧ DecTo u gg out) ∧ Below w.heap.size w W)
  case atStart => exact ⟨rfl, hu, ⟨_, rfl, [], rfl, by simp⟩, Below.refl _ _⟩
  case round =>
    obtain ⟨rfl, hg, ⟨out, rfl, hd⟩, hb⟩ := hrel
    have HD := hide hd
    have HB := hide hb
    clear hd hb
    have wl : IntKind.i64.wrap (48 + (gk : Int) % 10) = 48 + (gk : Int) % 10 := by rw [IntKind.wrap_i64]; omega
    have wu : IntKind.u8.wrap (48 + (gk : Int) % 10) = 48 + (gk : Int) % 10 := by rw [u8_wrap]; omega
    have ec := conv_dig (wr.alloc (.cells #[.int .u8 (48 + (gk : Int) % 10)] 5)) wr.heap.size (48 + (gk : Int) % 10) (by rw [cell_of_row _ _ 0 _ _ _ (heap_alloc_new wr _)]; rfl)
    have ed : (48 : Int) + (gk : Int) % 10 = 48 + ((gk % 10 : Nat) : Int) := by omega
    have HED := hide ed
    clear ed
    have HBN := hide ((unhide HB).trans ((below_new wr (.cells #[.int .u8 (48 + (gk : Int) % 10)] 5)).mono (unhide HB).size))
    have hos := (unhide HD).size
    have hds := dig_size (48 + (gk : Int) % 10)
    have hcs : ¬ (9223372036854775807 : Int) < ((1 + out.size : Nat) : Int) := by omega
    have hcs2 : ((1 + out.size : Nat) : Int) ≤ 9223372036854775807 := by omega
    by_cases h10 : gk < 10
    · have hb : ((gk : Int) / 10 == 0) = true := by simp; omega
      have HL := hide ((unhide HD).last h10)
      clear h10
      go_wp2
      go_ret
      exact ⟨by rw [← unhide HL, ← unhide HED]; rfl, unhide HBN⟩
    · have hb : ((gk : Int) / 10 == 0) = false := by simp; omega
      have HS := hide ((unhide HD).step h10)
      have hlt : gk / 10 < gk := by omega
      have hle : gk / 10 ≤ 1000000 := by omega
      clear h10
      go_wp2_with fail
      go_roundg (gk / 10)
      case measure => exact hlt
      case rel => exact ⟨by go_num, hle, ⟨_, rfl, by rw [unhide HED]; exact unhide HS⟩, unhide HBN⟩
end Go.Proofs.YtmnmeaeicjhkhaaGreatDoor
