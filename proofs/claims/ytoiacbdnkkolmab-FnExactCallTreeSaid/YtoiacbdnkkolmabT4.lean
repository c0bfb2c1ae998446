import Derived.Test.YtoiacbdnkkolmabT3
namespace Go.Proofs.Ytoiacbdnkkolmab
open Go.RowKit

set_option maxRecDepth 100000 in
set_option maxHeartbeats 1000000 in
theorem markText_any (k : Int) (w : World) (h1 : 0 < k) (h2 : k ≤ 4398046511104) :
    Calls Try.prog 113 #[.int .i64 k] w fun e w' => (∃ s, e = .returned (.string s)) ∧ Below w.heap.size w w' := by
  go_enter Try.func113, Try.ntmps113
  go_wp2
  go_loopw [0, 3] (fun q o wr => ∃ (z : Int) (s : ByteArray), q = .int .i64 z ∧ o = .string s ∧ 0 ≤ z ∧ z + s.size ≤ k ∧ Below w.heap.size w wr) (fun q _ _ => (intOf q).toNat)
  case atStart => exact ⟨k, ByteArray.empty, rfl, rfl, by omega, by simp, Below.refl _ _⟩
  case round =>
    obtain ⟨z, s, rfl, rfl, hz, hs, hb⟩ := hrel
    have HB := hide hb
    clear hb
    by_cases hlt : 0 < z
    · have hcv : ∀ d : Int, Sem.run Try.prog (convert 194 9 (.slice (some ⟨wr.heap.size, 0, none⟩) 1 1)) (wr.alloc (.cells #[.int .u8 d] 5)) = .ok (.string (strOfNums [d])) (wr.alloc (.cells #[.int .u8 d] 5)) := fun d => by
        refine run_convert_bytes_arg (P := Try.prog) (w := wr.alloc (.cells #[.int .u8 d] 5)) 194 5 Try.underlying194 Try.underlying5 wr.heap.size 0 1 1 [d] rfl (fun i hi => ?_) 9 Try.underlying9
        have e : i = 0 := by omega
        subst e
        rw [cell_alloc_at _ _ _ _ _ rfl]; rfl
      have hsz : ∀ d : Int, (strOfNums [d]).size = 1 := fun d => strOfNums_size [d]
      go_wp2
      refine ⟨⟨z / 10, _, rfl, rfl, by omega, ?_, (unhide HB).alloc (unhide HB).size _⟩, ?_⟩
      · rw [ByteArray.size_append, hsz]; omega
      · simp only [intOf]; omega
    · go_wp2
      go_ret
      exact ⟨⟨_, rfl⟩, unhide HB⟩
end Go.Proofs.Ytoiacbdnkkolmab
