import Derived.Test.YtoiacbdnkkolmabI5
import Derived.Test.YtoiacbdnkkolmabI7
namespace Go.Proofs.Ytoiacbdnkkolmab
open Go.RowKit

theorem refuses_any (s : St) (k t fn l : Int) (top : Option Addr) (bw : Nat) (w : World) (h : PlaceAt w s top bw) (h1 : 1 ≤ k) (h2 : k ≤ 7) :
    Calls Try.prog 145 #[.agg #[.int .i64 s.cur, .pointer top, .pointer (some ⟨bw, 0, none⟩)], evOf k t fn l] w (Refused w s k t fn) := by
  obtain ⟨hl, -, hc, hx⟩ := h
  obtain ⟨hx1, hx2⟩ := hx _ hc
  have task : ∀ {P : Prop}, ((t != (s.cur : Int)) = true → P) → ((t != (s.cur : Int)) = false → P) → P := fun a b => by
    cases h : t != (s.cur : Int) with
    | true => exact a h
    | false => exact b h
  have fnc : ∀ {P : Prop}, ((fn != topFn (s.tasks s.cur)) = true → P) → ((fn != topFn (s.tasks s.cur)) = false → P) → P := fun a b => by
    cases h : fn != topFn (s.tasks s.cur) with
    | true => exact a h
    | false => exact b h
  rcases seven h1 h2 with rfl | rfl | rfl | rfl | rfl | rfl | rfl
  · refine task (refuses_task1 s t fn l top bw w) (fun ht => ?_)
    cases hs : s.tasks s.cur with
    | nil => exact refuses_none1 s t fn l top bw w hl ht hs
    | cons f r => exact fnc (refuses_line_no s t fn l top bw w hl ht f r hs) (refuses_line_yes s t fn l top bw w hl ht f r hs)
  · refine task (refuses_task2 s t fn l top bw w) (fun ht => ?_)
    by_cases hd : (s.tasks s.cur).length = 200
    · exact refuses_deep s t fn l top bw w hl ht hd
    · exact refuses_call s t fn l top bw w hl ht (by omega)
  · refine task (refuses_task3 s t fn l top bw w) (fun ht => ?_)
    cases hs : s.tasks s.cur with
    | nil => exact refuses_none3 s t fn l top bw w hl ht hs
    | cons f r =>
      by_cases hf : f.frm = -1
      · exact refuses_text s t fn l top bw w hl ht f r hs hf
      · have h0 : 0 ≤ f.frm := by have := hx2 f (by rw [hs]; exact List.mem_cons_self ..); omega
        exact fnc (refuses_back_no s t fn l top bw w hl ht f r hs h0) (refuses_back_yes s t fn l top bw w hl ht f r hs h0)
  · exact task (refuses_task4 s t fn l top bw w) (fun ht => fnc (refuses_other4_no s t fn l top bw w hl ht) (refuses_other4_yes s t fn l top bw w hl ht))
  · exact task (refuses_task5 s t fn l top bw w) (fun ht => fnc (refuses_other5_no s t fn l top bw w hl ht) (refuses_other5_yes s t fn l top bw w hl ht))
  · exact task (refuses_task6 s t fn l top bw w) (fun ht => fnc (refuses_other6_no s t fn l top bw w hl ht) (refuses_other6_yes s t fn l top bw w hl ht))
  · exact refuses_turned s t fn l top bw w

theorem after_any (s : St) (k t fn l i : Int) (top : Option Addr) (bw : Nat) (w : World) (h : PlaceAt w s top bw) (h1 : 1 ≤ k) (h2 : k ≤ 7) (h3 : 0 ≤ t) (h4 : t ≤ 100) (hi : 0 ≤ i) (hc : code s k t fn = 0) :
    Calls Try.prog 146 #[.agg #[.int .i64 s.cur, .pointer top, .pointer (some ⟨bw, 0, none⟩)], evOf k t fn l, .int .i64 i] w (Went w s k t fn l i) := by
  rcases seven h1 h2 with rfl | rfl | rfl | rfl | rfl | rfl | rfl
  · cases hs : s.tasks s.cur with
    | nil =>
      exfalso
      by_cases ht : t = s.cur
      · by_cases hf : fn = 0
        · simp [code, ht, hs, topFn, hf] at hc
        · simp [code, ht, hs, topFn, hf] at hc
      · simp [code, ht] at hc
    | cons f r => exact after_line s t fn l i top bw w h f r hs
  · have hd : (s.tasks s.cur).length < 200 := by
      have hx := (h.2.2.2 _ h.2.2.1).1
      by_cases hd : (s.tasks s.cur).length = 200
      · exfalso
        by_cases ht : t = s.cur
        · simp [code, ht, hd] at hc
        · simp [code, ht] at hc
      · omega
    exact after_call s t fn l i top bw w h hd hi
  · cases hs : s.tasks s.cur with
    | nil =>
      exfalso
      by_cases ht : t = s.cur
      · by_cases hf : fn = 0
        · simp [code, ht, hs, topFn, topFrom, hf] at hc
        · simp [code, ht, hs, topFn, hf] at hc
      · simp [code, ht] at hc
    | cons f r => exact after_back s t fn l i top bw w h f r hs
  · exact after_other4 s t fn l i top bw w h
  · exact after_other5 s t fn l i top bw w h
  · exact after_other6 s t fn l i top bw w h
  · by_cases ht : t = s.cur
    · exact after_turn_same s t fn l i top bw w h ht
    · obtain ⟨n, rfl⟩ := Int.eq_ofNat_of_zero_le h3
      exact after_turn_other s n fn l i top bw w h n rfl (by omega) (fun e => ht (by rw [e]))

end Go.Proofs.Ytoiacbdnkkolmab
