import Derived.Test.YtmnmeaeicjhkhaaGreatDoorGTz
import Derived.Test.YtmnmeaeicjhkhaaGreatDoorGDbz
import Derived.Test.YtmnmeaeicjhkhaaGreatDoorD9z
namespace Go.Proofs.YtmnmeaeicjhkhaaGreatDoor
open Go.RowKit

/-- A slice of frames, wherever it lies. -/
def FrsR (w : World) (v : Value) (l : List Fr) : Prop :=
  ∃ a cap, v = .slice a l.length cap ∧ ∀ i (h : i < l.length), ∃ b o, a = some ⟨b, o, none⟩ ∧ w.cell? ⟨b, o + i * 3, none⟩ = some (.int .i64 l[i].fn) ∧ w.cell? ⟨b, o + i * 3 + 1, none⟩ = some (.int .i64 l[i].line) ∧ w.cell? ⟨b, o + i * 3 + 2, none⟩ = some (.int .i64 l[i].frm)

theorem FrsR.below {w w' : World} {v : Value} {l : List Fr} (h : FrsR w v l) (hb : Below w.heap.size w w') : FrsR w' v l := by
  obtain ⟨a, cap, hv, h⟩ := h
  refine ⟨a, cap, hv, fun i hi => ?_⟩
  obtain ⟨b, o, ha, h1, h2, h3⟩ := h i hi
  exact ⟨b, o, ha, cell_below hb h1, cell_below hb h2, cell_below hb h3⟩

theorem FrsAt.read {lo : Nat} {w : World} {v : Value} {l : List Fr} (h : FrsAt lo w v l) : FrsR w v l := by
  obtain ⟨a, cap, rfl⟩ := owns_slice h
  refine ⟨a, cap, rfl, fun i hi => ?_⟩
  obtain ⟨g, e, -, -, c0, c1, c2⟩ := FrsAt.cells h i hi
  exact ⟨g, 0, e, by rw [Nat.zero_add]; exact c0, by rw [Nat.zero_add]; exact c1, by rw [Nat.zero_add]; exact c2⟩

set_option maxRecDepth 100000 in
set_option maxHeartbeats 1000000 in
theorem wFrames_any (v v' : Value) (l : List Fr) (w : World) (hv : FrsR w v l) (hv' : FrsR w v' l) (hl : l.length ≤ 200) :
    Calls Tryz.prog 42 #[v, v'] w fun e w' => e = .returned (.bool true) ∧ Below w.heap.size w w' := by
  have HV := hide hv
  have HV' := hide hv'
  obtain ⟨a, cap, rfl, _⟩ := hv
  obtain ⟨a', cap', rfl, _⟩ := hv'
  obtain ⟨n, hn⟩ : ∃ n, n = l.length := ⟨_, rfl⟩
  have HN := hide hn
  rw [← hn] at hl
  rw [← hn]
  rw [← hn] at HV HV'
  clear hn
  go_enter Tryz.func42, Tryz.ntmps42
  go_wp2
  go_loopw [5, 13] (fun _ i w' => ∃ (k : Nat), k ≤ n ∧ i = .int .i64 k ∧ Below w.heap.size w w') (fun _ i _ => n - (intOf i).toNat)
  case atStart => exact ⟨0, by omega, rfl, Below.refl _ _⟩
  case round =>
    obtain ⟨k, hk, rfl, hb⟩ := hrel
    by_cases hlt : k < n
    · have hkl : k < l.length := by rw [← unhide HN]; exact hlt
      obtain ⟨x, xc, ex, hx⟩ := (unhide HV).below hb
      obtain ⟨y, yc, ey, hy⟩ := (unhide HV').below hb
      injection ex with e1 e2 e3
      subst e1
      subst e3
      clear e2
      injection ey with e1 e2 e3
      subst e1
      subst e3
      clear e2
      obtain ⟨b, o, rfl, c0, c1, c2⟩ := hx k hkl
      obtain ⟨b', o', rfl, d0, d1, d2⟩ := hy k hkl
      clear hx hy
      generalize l[k].fn = fa at *
      generalize l[k].line = fb at *
      generalize l[k].frm = fc at *
      have hi1 : (0 : Int) ≤ (k : Int) := by omega
      have hi2 : (k : Int) < (n : Int) := by omega
      clear hkl
      go_wp2
      go_quiet (fail)
      go_wp2
      go_roundw
      case rel => exact ⟨k + 1, by omega, by go_num, below_drewN hb _⟩
      case measure => simp [intOf]; omega
    · go_wp2
      go_ret
      exact ⟨rfl, hb⟩
end Go.Proofs.YtmnmeaeicjhkhaaGreatDoor

namespace Go.Proofs.YtmnmeaeicjhkhaaGreatDoor
open Go.RowKit

/-- A slice of bytes. -/
def BytesAt (w : World) (v : Value) (len : Nat) : Prop :=
  ∃ a cap, v = .slice a len cap ∧ ∀ i, i < len → ∃ b o x, a = some ⟨b, o, none⟩ ∧ w.cell? ⟨b, o + i, none⟩ = some (.int .u8 x) ∧ 0 ≤ x ∧ x < 256

/-- The drawing's contract. -/
def DrawsWell : Prop := ∀ (v : Value) (len : Nat) (w : World), BytesAt w v len → len ≤ 1048576 →
    Calls Tryz.prog 8 #[v] w fun e w' => (∃ v1 v2 n ms, e = .returned (.agg #[v1, v2]) ∧ n < 90 ∧ StrsAt w.heap.size w' v1 4 drawnFns ∧ MomsAt w.heap.size w' v2 n (momOf ms) ∧ Sound 4 drawnFns n (momOf ms)) ∧ Below w.heap.size w w'

/-- What a moment makes of a task's open calls, told as the law tells it. -/
def wantOf (l : List Fr) (kind fn line k : Int) : List Fr :=
  if kind = 2 then ⟨fn, 0, k⟩ :: l else if kind = 3 then l.tail else if kind = 1 then setLine line l else l

theorem wantOf_2 (l : List Fr) {kind fn line k : Int} (h : kind = 2) : wantOf l kind fn line k = ⟨fn, 0, k⟩ :: l := by unfold wantOf; rw [if_pos h]
theorem wantOf_3 (l : List Fr) {kind fn line k : Int} (h : kind = 3) : wantOf l kind fn line k = l.tail := by unfold wantOf; rw [if_neg (by omega), if_pos h]
theorem wantOf_1 (l : List Fr) {kind fn line k : Int} (h : kind = 1) : wantOf l kind fn line k = setLine line l := by unfold wantOf; rw [if_neg (by omega), if_neg (by omega), if_pos h]
theorem wantOf_0 (l : List Fr) {kind fn line k : Int} (h2 : kind ≠ 2) (h3 : kind ≠ 3) (h1 : kind ≠ 1) : wantOf l kind fn line k = l := by unfold wantOf; rw [if_neg h2, if_neg h3, if_neg h1]

theorem after_task {nf : Nat} {fns : Nat → ByteArray} {n : Nat} {f : Nat → M} (h : Sound nf fns n f) (k : Nat) (hk : k < n) (j : Nat) :
    (St.after f (k + 1)).tasks j = if (j : Int) = (f k).task then wantOf ((St.after f k).tasks j) (f k).kind (f k).fn (f k).line k else (St.after f k).tasks j := by
  have hc := h.2.2 k hk
  unfold codeAt code at hc
  show ((St.after f k).step _ _ _ _ _).tasks j = _
  unfold St.step
  by_cases k7 : (f k).kind = 7
  · rw [if_pos k7, wantOf_0 _ (by omega) (by omega) (by omega)]
    simp
  · rw [if_neg k7] at hc
    rw [if_neg k7]
    have ht : (f k).task = (St.after f k).cur := by
      by_cases e : (f k).task = (St.after f k).cur
      · exact e
      · rw [if_pos e] at hc; omega
    have hp : ∀ l, ((St.after f k).put l).tasks j = if (j : Int) = (f k).task then l else (St.after f k).tasks j := fun l => by
      simp only [St.put, ht]
      by_cases e : j = (St.after f k).cur
      · rw [if_pos e, if_pos (by omega)]
      · rw [if_neg e, if_neg (by omega)]
    have hq : (j : Int) = (f k).task → (St.after f k).tasks (St.after f k).cur = (St.after f k).tasks j := fun e => by
      rw [show j = (St.after f k).cur by omega]
    by_cases k2 : (f k).kind = 2
    · rw [if_pos k2, hp, wantOf_2 _ k2]
      by_cases e : (j : Int) = (f k).task
      · rw [if_pos e, if_pos e, hq e]
      · rw [if_neg e, if_neg e]
    · rw [if_neg k2]
      by_cases k1 : (f k).kind = 1
      · rw [if_pos k1, hp, wantOf_1 _ k1]
        by_cases e : (j : Int) = (f k).task
        · rw [if_pos e, if_pos e, hq e]
        · rw [if_neg e, if_neg e]
      · rw [if_neg k1]
        by_cases k3 : (f k).kind = 3
        · rw [if_pos k3, hp, wantOf_3 _ k3]
          by_cases e : (j : Int) = (f k).task
          · rw [if_pos e, if_pos e, hq e]
          · rw [if_neg e, if_neg e]
        · rw [if_neg k3, wantOf_0 _ k2 k3 k1]; simp

theorem after_cur {n : Nat} {f : Nat → M} (k : Nat) (_ : k < n) :
    (St.after f (k + 1)).cur = if (f k).kind = 7 then (f k).task.toNat else (St.after f k).cur := by
  show ((St.after f k).step _ _ _ _ _).cur = _
  unfold St.step
  repeat' split
  all_goals first | rfl | omega

/-- At a line, and at a leaving, something is open in the moment's task. -/
theorem after_open {nf : Nat} {fns : Nat → ByteArray} {n : Nat} {f : Nat → M} (h : Sound nf fns n f) (k : Nat) (hk : k < n) (j : Nat) (hj : (j : Int) = (f k).task) (h1 : (f k).kind = 1 ∨ (f k).kind = 3) :
    (St.after f k).tasks j ≠ [] := by
  have hc := h.2.2 k hk
  unfold codeAt code at hc
  rw [if_neg (by omega)] at hc
  have ht : (f k).task = (St.after f k).cur := by
    by_cases e : (f k).task = (St.after f k).cur
    · exact e
    · rw [if_pos e] at hc; omega
  have ej : j = (St.after f k).cur := by omega
  rw [if_neg (by omega), if_neg (by omega)] at hc
  intro e
  rw [ej] at e
  by_cases hf : (f k).fn = topFn ((St.after f k).tasks (St.after f k).cur)
  · rw [if_neg (by simpa using hf), e] at hc
    rcases h1 with h1 | h1
    · rw [if_pos h1] at hc; simp at hc
    · rw [if_neg (by omega), if_pos h1] at hc; simp [topFrom] at hc
  · rw [if_pos hf] at hc; omega

/-- The law's memory: the drawn trace's box stands at D, the three slices at D + 1. -/
structure L4At (Wd W : World) (v1 v2 : Value) (V : Nat → Value) (l : Nat → List Fr) (q : Nat) : Prop where
  bd : Below Wd.heap.size Wd W
  b0 : W.cell? ⟨Wd.heap.size, 0, none⟩ = some v1
  b1 : W.cell? ⟨Wd.heap.size, 1, none⟩ = some v2
  row : W.rowIs (Wd.heap.size + 1) 35 3 V
  fr : ∀ t, t < q → FrsAt (Wd.heap.size + 2) W (V t) (l t) ∧ (l t).length ≤ 200

theorem L4At.below {Wd W W' : World} {v1 v2 : Value} {V : Nat → Value} {l : Nat → List Fr} {q : Nat} (h : L4At Wd W v1 v2 V l q) (hb : Below W.heap.size W W') : L4At Wd W' v1 v2 V l q :=
  ⟨h.bd.trans (hb.mono h.bd.size), cell_below hb h.b0, cell_below hb h.b1, h.row.of_block (hb.block _ h.row.lt), fun t ht => ⟨(h.fr t ht).1.below hb, (h.fr t ht).2⟩⟩

theorem L4At.start (Wd : World) (v1 v2 : Value) (l : Nat → List Fr) :
    L4At Wd ((Wd.alloc (.cells #[v1, v2] 26)).alloc (.cells #[.slice none 0 0, .slice none 0 0, .slice none 0 0] 35)) v1 v2 (fun _ => .slice none 0 0) l 0 := by
  have hs : (Wd.alloc (.cells #[v1, v2] 26)).heap.size = Wd.heap.size + 1 := by simp
  have hb := below_new (Wd.alloc (.cells #[v1, v2] 26)) (.cells #[.slice none 0 0, .slice none 0 0, .slice none 0 0] 35)
  have h0 : ((Wd.alloc (.cells #[v1, v2] 26)).alloc (.cells #[.slice none 0 0, .slice none 0 0, .slice none 0 0] 35)).heap[Wd.heap.size]? = some (.cells #[v1, v2] 26 (0, 0)) := by
    rw [hb.block _ (by omega)]; exact heap_alloc_new Wd _
  have h1 := heap_alloc_new (Wd.alloc (.cells #[v1, v2] 26)) (.cells #[.slice none 0 0, .slice none 0 0, .slice none 0 0] 35)
  rw [hs] at h1
  refine ⟨(below_new Wd _).trans (hb.mono (by omega)), ?_, ?_, ⟨_, h1, rfl, fun i hi => ?_⟩, fun t ht => absurd ht (Nat.not_lt_zero _)⟩
  · rw [cell_of_row _ _ 0 _ _ _ h0]; rfl
  · rw [cell_of_row _ _ 1 _ _ _ h0]; rfl
  · rcases (show i = 0 ∨ i = 1 ∨ i = 2 by omega) with rfl | rfl | rfl
    all_goals rfl

theorem L4At.put {Wd W : World} {v1 v2 v : Value} {V : Nat → Value} {l l' : Nat → List Fr} {q q' j : Nat} (h : L4At Wd W v1 v2 V l q) (hv : FrsAt (Wd.heap.size + 2) W v (l' j)) (hl : (l' j).length ≤ 200) (hq : ∀ t, t < q' → t ≠ j → t < q ∧ l' t = l t) :
    L4At Wd (W.setCell ⟨Wd.heap.size + 1, j, none⟩ v) v1 v2 (fun t => if t = j then v else V t) l' q' := by
  have hfs2 : ∀ {u : Value} {l : List Fr}, FrsAt (Wd.heap.size + 2) W u l → FrsAt (Wd.heap.size + 2) (W.setCell ⟨Wd.heap.size + 1, j, none⟩ v) u l := fun h => owns_setCell h (fun e => by have := (h.lt _ e).1; simp only at this; omega)
  refine ⟨h.bd.setCell (p := ⟨Wd.heap.size + 1, j, none⟩) (by simp) _, ?_, ?_, h.row.set j v, fun t ht => ?_⟩
  · exact cell_set_ne (by simp) h.b0
  · exact cell_set_ne (by simp) h.b1
  · by_cases e : t = j
    · subst e
      rw [if_pos rfl]
      exact ⟨hfs2 hv, hl⟩
    · obtain ⟨h1, h2⟩ := hq t ht e
      rw [if_neg e, h2]
      exact ⟨hfs2 (h.fr t h1).1, (h.fr t h1).2⟩

theorem L4At.lt {Wd W : World} {v1 v2 : Value} {V : Nat → Value} {l : Nat → List Fr} {q : Nat} (h : L4At Wd W v1 v2 V l q) : Wd.heap.size + 2 ≤ W.heap.size := h.row.lt
end Go.Proofs.YtmnmeaeicjhkhaaGreatDoor

namespace Go.Proofs.YtmnmeaeicjhkhaaGreatDoor
open Go.RowKit

theorem BytesAt.cur {w : World} {v : Value} {len : Nat} (h : BytesAt w v len) (hl : len ≤ 1048576) (o : Obj) :
    Cur (w.heap.size + 2) ((w.alloc o).alloc (.cells #[v, .int .i64 0, .int .u64 0] 73)) (w.heap.size + 1) len ⟨0, 0⟩ := by
  obtain ⟨a, cap, rfl, h⟩ := h
  have hs : (w.alloc o).heap.size = w.heap.size + 1 := by simp
  have hn := heap_alloc_new (w.alloc o) (.cells #[.slice a len cap, .int .i64 0, .int .u64 0] 73)
  rw [hs] at hn
  have hb : Below w.heap.size w ((w.alloc o).alloc (.cells #[.slice a len cap, .int .i64 0, .int .u64 0] 73)) := ((Below.refl _ _).alloc (Nat.le_refl _) _).alloc (by simp) _
  refine ⟨by omega, ⟨a, cap, ?_, fun i hi => ?_⟩, ?_, ?_, ?_, ?_, by decide, hl⟩
  · rw [cell_of_row _ _ 0 _ _ _ hn]; rfl
  · obtain ⟨b, off, x, ha, hc, h0, h1⟩ := h i hi
    have := cell_lt hc
    simp only at this
    exact ⟨b, off, x, ha, by omega, by omega, cell_below hb hc, h0, h1⟩
  · rw [cell_of_row _ _ 1 _ _ _ hn]; rfl
  · rw [cell_of_row _ _ 2 _ _ _ hn]; rfl
  · unfold World.frozen?; rw [hn]; rfl
  · unfold World.frozen?; rw [hn]; rfl

set_option maxRecDepth 100000 in
set_option maxHeartbeats 1000000 in
theorem drawn_any : DrawsWell := by
  intro v len w h hl
  have H := hide (h.cur hl (.cells #[.slice none 0 0, .slice none 0 0] 26))
  obtain ⟨a, cap, rfl, _⟩ := h
  have HB0 : Hid (Below w.heap.size w ((w.alloc (.cells #[.slice none 0 0, .slice none 0 0] 26)).alloc (.cells #[.slice a len cap, .int .i64 0, .int .u64 0] 73))) := hide (((Below.refl _ _).alloc (Nat.le_refl _) _).alloc (by simp) _)
  have HR0 : Hid (((w.alloc (.cells #[.slice none 0 0, .slice none 0 0] 26)).alloc (.cells #[.slice a len cap, .int .i64 0, .int .u64 0] 73)).heap[w.heap.size]? = some (.cells #[.slice none 0 0, .slice none 0 0] 26 (0, 0))) := by
    rw [Below.heap_alloc _ _ _ (by simp)]
    exact hide (heap_alloc_new w _)
  go_enter Tryz.func8, Tryz.ntmps8
  go_wp2_with fail
  refine (pick_any (w.heap.size + 2) (w.heap.size + 1) len ⟨0, 0⟩ 90 _ (unhide H) (by decide) (by omega) (by omega)).mono ?_
  rintro e w1 ⟨⟨x, c1, rfl, hd, hc⟩, hb1⟩
  obtain ⟨n, hn⟩ : ∃ n, n = x % 90 := ⟨_, rfl⟩
  have hn90 : n < 90 := by omega
  rw [← hn]
  have hs1 : w.heap.size + 2 ≤ w1.heap.size := by have := hb1.size; simpa using this
  have hat : c1.at_ ≤ 1 := by rw [hd.at1]; decide
  have HB1 := hide hb1
  have HC := hide hc
  clear hd hc hb1 hn
  go_wp2_with fail
  refine (trace_any (w.heap.size + 2) (w.heap.size + 1) len c1 n _ (unhide HC) hs1 hn90 (by omega)).mono ?_
  rintro e w2 ⟨⟨v1, v2, ms, rfl, hs, hm, hso, -, -⟩, hb2, -⟩
  have HB2 := hide ((unhide HB1).trans hb2)
  have hrb : w2.heap[w.heap.size]? = some (.cells #[.slice none 0 0, .slice none 0 0] 26 (0, 0)) := by
    rw [(unhide HB2).block w.heap.size (by simp; omega) (.inl (by omega))]
    exact unhide HR0
  have r0 : w2.cell? ⟨w.heap.size, 0, none⟩ = some (.slice none 0 0) := by rw [cell_of_row w2 w.heap.size 0 _ _ _ hrb]; rfl
  have r1 : w2.cell? ⟨w.heap.size, 1, none⟩ = some (.slice none 0 0) := by rw [cell_of_row w2 w.heap.size 1 _ _ _ hrb]; rfl
  have f0 : w2.frozen? ⟨w.heap.size, 0, none⟩ = false := by simp [World.frozen?, hrb]
  have f1 : w2.frozen? ⟨w.heap.size, 1, none⟩ = false := by simp [World.frozen?, hrb]
  have DS := hide hs
  have DM := hide hm
  have DD := hide hso
  obtain ⟨a1, cap1, rfl, _⟩ := hs
  obtain ⟨a2, cap2, rfl, _⟩ := hm
  clear hso hb2 hrb
  go_wp2_with fail
  refine bodyPost_ret (v := .agg #[.slice a1 4 cap1, .slice a2 n cap2]) (by simp [results, Tryz.results8, go_sem, r0, r1]) rfl ?_
  refine ⟨⟨.slice a1 4 cap1, .slice a2 n cap2, n, ms, rfl, hn90, ?_, ?_, unhide DD⟩, ?_⟩
  · exact (((unhide DS).set (q := ⟨w.heap.size, 0, none⟩) (by simp; omega)).set (q := ⟨w.heap.size, 1, none⟩) (by simp; omega)).low (by omega)
  · exact (((unhide DM).set (q := ⟨w.heap.size, 0, none⟩) (by simp; omega)).set (q := ⟨w.heap.size, 1, none⟩) (by simp; omega)).low (by omega)
  · exact (((unhide HB0).trans (((unhide HB2).below (by simp)).mono (by omega))).setCell (p := ⟨w.heap.size, 0, none⟩) (Nat.le_refl _) _).setCell (p := ⟨w.heap.size, 1, none⟩) (Nat.le_refl _) _
end Go.Proofs.YtmnmeaeicjhkhaaGreatDoor
