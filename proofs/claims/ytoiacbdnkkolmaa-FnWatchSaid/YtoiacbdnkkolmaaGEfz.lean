import Derived.Test.YtoiacbdnkkolmaaGEez
import Derived.Test.YtoiacbdnkkolmaaGEaz
import Derived.Test.YtoiacbdnkkolmaaGCaz
import Derived.Test.YtoiacbdnkkolmaaA4z
import Derived.Test.YtoiacbdnkkolmaaGEdz
import Derived.Maps.AppendAt
namespace Go.Proofs.Ytoiacbdnkkolmaa
open Go.RowKit Go.Lib

theorem info_int' : (Try.prog.info? 3).map (fun i => (i.zero, i.size, i.bytes)) = some (some (.int .i64 0), 1, 8) := by kernel_rfl

/-- A slice of integers of its own. -/
def IntsOwn (B : Nat) (w : World) (v : Value) (l : List Nat) : Prop := w.ownsRow B 3 1 v l.length (l.map fun (x : Nat) => Value.int .i64 (x : Int))

theorem IntsOwn.below {B : Nat} {w w' : World} {v : Value} {l : List Nat} (h : IntsOwn B w v l) (hb : Below w.heap.size w w') : IntsOwn B w' v l := owns_below h hb

/-- What Hits answers. -/
def HitsSay (nf : Nat) (fns : Nat → ByteArray) (n : Nat) (f : Nat → M) (s : Sp) (B : Nat) (e : Ending) (w' : World) : Prop :=
  ∃ hv l, e = .returned hv ∧ IntsOwn B w' hv l ∧ ((Sound nf fns n f ∧ StopIs s) ∧ l = ups (hit f s) 0 n ∨ ¬ (Sound nf fns n f ∧ StopIs s) ∧ l = []) ∧ ∃ a m c, hv = .slice a m c

set_option maxRecDepth 100000 in
set_option maxHeartbeats 4000000 in
theorem specHits_any (lo : Nat) (v1 v2 : Value) (nf : Nat) (fns : Nat → ByteArray) (n : Nat) (f : Nat → M) (s : Sp) (w : World) (h1 : StrsAt lo w v1 nf fns) (h2 : MomsAt lo w v2 n f) (hz : s.name.size ≤ maxLen) (hn : n ≤ 1048576) :
    Calls Try.prog 22 #[.agg #[v1, v2], .agg #[.int .i64 s.kind, .int .i64 s.fn, .int .i64 s.line, .string s.name]] w fun e w' => HitsSay nf fns n f s w.heap.size e w' ∧ Below w.heap.size w w' := by
  have H1 := hide h1; clear h1
  have H2 := hide h2
  obtain ⟨a2, cap2, rfl, hn2, -⟩ := h2
  unfold maxLen at hn2
  have HB0 := hide (TSBox.new w v1 (.slice a2 n cap2) s)
  obtain ⟨i0, hi0, hz0, hz1, hz2⟩ := info_parts info_int'
  have II := hide (And.intro hi0 (And.intro hz0 (And.intro hz1 hz2)))
  clear hi0 hz0 hz1 hz2
  go_enter Try.func22, Try.ntmps22
  go_wp2_with fail
  refine (l1ok_any lo _ _ nf fns n f _ ((unhide H1).below (unhide HB0).below) ((unhide H2).below (unhide HB0).below)).mono ?_
  rintro e w1 ⟨⟨ok, rfl, hok⟩, hb1⟩
  have HB1 := hide ((unhide HB0).go hb1)
  clear hb1 HB0
  cases ok with
  | false =>
    have HN : Hid (¬ Sound nf fns n f) := hide (fun h => by have := hok.2 h; cases this)
    clear hok
    go_wp2_with fail
    go_ret
    exact ⟨⟨_, [], rfl, World.ownsRow_nil _ _ _ _, .inr ⟨fun h => unhide HN h.1, rfl⟩, ⟨_, _, _, rfl⟩⟩, (unhide HB1).below⟩
  | true =>
    have HS := hide (hok.1 rfl)
    have y0 := (unhide HB1).s0
    have y1 := (unhide HB1).s1
    have y2 := (unhide HB1).s2
    have y3 := (unhide HB1).s3
    clear hok
    go_wp2_with fail
    refine (specStopOk_any s.kind s.fn s.line s.name _ hz).mono ?_
    rintro e w2 ⟨⟨ok2, rfl, hok2⟩, hb2⟩
    have HB2 := hide ((unhide HB1).go hb2)
    clear hb2 HB1 y0 y1 y2 y3
    cases ok2 with
    | false =>
      have HN : Hid (¬ StopIs s) := hide (fun h => by have := hok2.2 h; cases this)
      clear hok2
      go_wp2_with fail
      go_ret
      exact ⟨⟨_, [], rfl, World.ownsRow_nil _ _ _ _, .inr ⟨fun h => unhide HN h.2, rfl⟩, ⟨_, _, _, rfl⟩⟩, (unhide HB2).below⟩
    | true =>
      have HT := hide (hok2.1 rfl)
      have x0 := (unhide HB2).t0
      have x1 := (unhide HB2).t1
      have y0 := (unhide HB2).s0
      have y1 := (unhide HB2).s1
      have y2 := (unhide HB2).s2
      have y3 := (unhide HB2).s3
      clear hok2
      go_wp2_with fail
      refine (l3hits_any lo _ _ nf fns n f s _ ((unhide H2).below (unhide HB2).below) (unhide HS)).mono ?_
      rintro e w3 ⟨⟨b, rfl, hbo, hbb⟩, hb3⟩
      have HB3 := hide ((unhide HB2).go hb3)
      have HBO := hide hbo
      have hb0 : b < w3.heap.size := hbo.lt
      have hwb : w.heap.size ≤ w3.heap.size := (unhide HB3).below.size
      clear hb3 HB2 hbo hbb x0 x1 y0 y1 y2 y3
      obtain ⟨B, hB⟩ : ∃ B, B = w3.heap.size := ⟨_, rfl⟩
      have HBE := hide hB
      have HBB : Hid (Below B w3 w3) := hide (Below.refl _ _)
      have HI0 : Hid (IntsOwn B w3 (.slice none 0 0) (ups (hit f s) 0 0)) := hide (World.ownsRow_nil _ _ _ _)
      clear hB
      go_wp2_with fail
      go_loopg [5, 20] n (fun gg hv i W => ∃ (k m : Nat) (ta : Option Addr) (tc : Nat), k + gg = n ∧ i = .int .i64 k ∧ hv = .slice ta m tc ∧ m = (ups (hit f s) 0 k).length ∧ m ≤ k ∧ IntsOwn B W hv (ups (hit f s) 0 k) ∧ Below B w3 W)
      case atStart => exact ⟨0, 0, _, _, by omega, rfl, rfl, rfl, Nat.le_refl _, unhide HI0, unhide HBB⟩
      case round =>
        clear HI0 HBB
        obtain ⟨k, m, ta, tc, hk, rfl, rfl, hm, hmk, ht, hb⟩ := hrel
        have HTS := hide ht
        have HM := hide hm
        have hBr : B ≤ wr.heap.size := Nat.le_trans (Nat.le_of_eq (unhide HBE)) hb.size
        have HBP := hide hb
        have HBW := hide ((unhide HBO).below (by have h := hb; rw [unhide HBE] at h; exact h))
        clear ht hb hm
        by_cases hlt : k < n
        · have hkn : (k : Int) < (n : Int) := by omega
          have hkz : (0 : Int) ≤ (k : Int) := by omega
          have c0 := (unhide HBW).2 k hlt
          cases e : hit f s k with
          | false =>
            rw [e] at c0
            have HE := hide e
            clear e
            go_wp2_with fail
            go_roundg (n - (k + 1))
            case measure => omega
            case rel => exact ⟨k + 1, m, ta, tc, by omega, by go_num, rfl, by rw [ups_no (unhide HE)]; exact unhide HM, by omega, by rw [ups_no (unhide HE)]; exact unhide HTS, unhide HBP⟩
          | true =>
            rw [e] at c0
            have HE := hide e
            clear e
            have HA := hide (owns_below (unhide HTS) (below_new wr (.cells #[.int .i64 (k : Int)] 3)))
            have HNW : Hid (∀ j u, ([.int .i64 (k : Int)] : List Value)[j]? = some u → (wr.alloc (.cells #[.int .i64 (k : Int)] 3)).cell? ((⟨wr.heap.size, 0, none⟩ : Addr).add j) = some u) := hide (World.news_of_block (cs := #[.int .i64 (k : Int)]) (t := 3) (fr := (0, 0)) (heap_alloc_new wr _))
            go_wp2_with (at_builtin; refine wpList_append_lies _ (by rfl) _ _ _ (by rfl) B 3 i0 _ 1 8 Try.underlying54 (unhide II).1 (unhide II).2.1 (unhide II).2.2.1 (unhide II).2.2.2 rfl (by omega) (.slice ta m tc) m ((ups (hit f s) 0 k).map fun (x : Nat) => Value.int .i64 (x : Int)) (by rfl) (by have h := unhide HA; rw [← unhide HM] at h; exact h) ⟨wr.heap.size, 0, none⟩ 1 1 [.int .i64 (k : Int)] (by rfl) (by rfl) (unhide HNW) (by intro u hu; rw [List.mem_singleton.1 hu]; rfl) (by omega) (by unfold maxLen; omega) (by omega) (by simp; omega) (wr.heap.size + 1) (by simp) ?_; intro g2 cp2 w7 hown7 hgrow _ _; have HO7 := hide hown7; have HG7 := hide hgrow; clear hown7 hgrow)
            have hty : ∀ b, (Value.slice ta m tc).ownBlock = some b → B ≤ b ∧ ∃ cs fr, (wr.alloc (.cells #[.int .i64 (k : Int)] 3)).heap[b]? = some (.cells cs 3 fr) := owns_typed (by have h := unhide HA; rw [← unhide HM] at h; exact h)
            have HT7 : Hid (IntsOwn B w7 (.slice (some ⟨g2, 0, none⟩) (m + 1) cp2) (ups (hit f s) 0 (k + 1))) := hide (by
              rw [ups_yes (Nat.zero_le _) (unhide HE)]
              have h := unhide HO7
              unfold IntsOwn
              rw [List.map_append, List.length_append, ← unhide HM]
              exact h)
            have HB7 : Hid (Below B w3 w7) := hide (Below.grown ((unhide HBP).alloc hBr _) (unhide HG7) (by simp; omega) (fun b e => (hty b e).1))
            clear hty HA HNW HG7 HO7
            go_roundg (n - (k + 1))
            case measure => omega
            case rel => exact ⟨k + 1, m + 1, _, _, by omega, by go_num, rfl, by rw [ups_yes (Nat.zero_le _) (unhide HE), List.length_append, ← unhide HM]; rfl, by omega, unhide HT7, unhide HB7⟩
        · have e : n = k := by omega
          subst e
          have hnk : ¬ ((n : Int) < (n : Int)) := by omega
          go_wp2_with fail
          go_ret
          exact ⟨⟨_, _, rfl, owns_low (unhide HTS) (by have := unhide HBE; omega), .inl ⟨⟨unhide HS, unhide HT⟩, rfl⟩, ⟨_, _, _, rfl⟩⟩, (unhide HB3).below.trans ((unhide HBP).mono (by have := unhide HBE; omega))⟩
end Go.Proofs.Ytoiacbdnkkolmaa

namespace Go.Proofs.Ytoiacbdnkkolmaa
open Go.RowKit

theorem IntsOwn.rows {B : Nat} {w : World} {v : Value} {l : List Nat} (h : IntsOwn B w v l) : RowsAt B w v 1 l.length (fun i _ => ((l.getD i 0 : Nat) : Int)) :=
  RowsAt.of_owns h (fun i j hi hj => by
    obtain rfl : j = 0 := by omega
    simp [List.getElem?_eq_getElem hi])

end Go.Proofs.Ytoiacbdnkkolmaa

namespace Go.Proofs.Ytoiacbdnkkolmaa
open Go.RowKit Go.Shelf

attribute [local go_sem] Oper.semAt_some

/-- Every block of cells but c0 and c stays. -/
def KeepsC2 (c0 c : Nat) (A B : World) : Prop := ∀ b cs t fr, b ≠ c0 → b ≠ c → A.heap[b]? = some (.cells cs t fr) → B.heap[b]? = some (.cells cs t fr)

theorem KeepsC2.t {c0 c : Nat} {A B C : World} (h : KeepsC2 c0 c A B) (k : KeepsC2 c0 c B C) : KeepsC2 c0 c A C := fun b cs t fr hb hc e => k b cs t fr hb hc (h b cs t fr hb hc e)

theorem KeepsC2.put {c0 c : Nat} {W : World} {l : Nat} {o : Obj} (o' : Obj) (h : W.heap[l]? = some o) (ho : o.isCells = false) : KeepsC2 c0 c W (W.putObj l o') := fun b cs t fr _ _ e => by
  rw [World.putObj_heap_other (by intro e'; subst e'; rw [h] at e; cases e; cases ho)]; exact e

/-- All of S came. -/
def Came {α : Type} (S : List α → Prop) (J : List α → Nat → World → Prop) (B : World) : Prop := ∃ xs c, S xs ∧ J xs c B

/-- An iterator that only lays blocks of its own, for a body that collects: it writes the box c0 and the row's block (the Nat of J), and lays new rows. -/
def SeqCol {α : Type} (F : Fence) (n : Nat) (P : Program) (gf : Nat) (lb : Array Value) (encs : α → Array Value) (n₁ c0 N : Nat) (S : List α → Prop) (w : World) : Prop :=
  ∀ (l : Nat) (J : List α → Nat → World → Prop) (W : World), Below w.heap.size w W → (∀ s c A B, J s c A → Below A.heap.size A B → J s c B) → (∀ s c A, J s c A → c < A.heap.size ∧ (c = c0 ∨ W.heap.size ≤ c)) →
    (∀ pre c x A, pre.length < N → J pre c A → YieldAt F (n - 1) P l (encs x) A fun e B => e = .returned (.bool true) ∧ ∃ c', J (pre ++ [x]) c' B ∧ Below n₁ A B ∧ KeepsC2 c0 c A B) →
    J [] c0 W → CallsIn F n P gf (#[.func (.yield l) #[] #[]] ++ lb) W fun e B => (∃ v, e = .returned v) ∧ Came S J B

/-- A range over such an iterator, in no other, with a body that collects. -/
theorem wpIn_range_col {α : Type} {F : Fence} {n : Nat} {P : Program} {g : Operand} {ps : Array Tmp} {assign body : Code} {Q : Exit → Act → World → Prop} {a : Act} {w : World}
    (hro : F.round = none) (h1 : 1 ≤ n) {gf : Nat} {lb : Array Value} (hg : a.eval g = .func (.func gf) #[] lb) (hFg : F.fn gf) (eg : ∀ args w, (callFunc gf args).run P w = .ok (.enter gf args) w)
    {encs : α → Array Value} {n₁ c0 N : Nat} {S : List α → Prop} (hseq : SeqCol F (n - 1) P gf lb encs n₁ c0 N S w) (hn : n₁ ≤ w.heap.size) (hps : ∀ x, (encs x).size = ps.size)
    (I : List α → Nat → World → Prop) (hIg : ∀ s c A B, I s c A → Below A.heap.size A B → I s c B) (hIp : ∀ s c A l o o', I s c A → w.heap.size ≤ l → A.heap[l]? = some o → o.isCells = false → I s c (A.putObj l o'))
    (hIc : ∀ s c A, I s c A → (c = c0 ∧ c0 < A.heap.size) ∨ (w.heap.size ≤ c ∧ ∃ cs t fr, A.heap[c]? = some (.cells cs t fr))) (h0 : I [] c0 w) (a₁ : α → Act)
    (hassign : ∀ (l : Nat) (x : α) (W : World) (K : Act → World → Prop), K (a₁ x) W → assign.wpIn (F.inRound l) (n - 1 - 1) P (Exit.then K (fun _ _ _ => False)) { tmps := (ps.zip (encs x)).foldl (fun t (p, v) => t.setIfInBounds p v) a.tmps, defers := [] } W)
    (hbody : ∀ (l : Nat) (pre : List α) (c : Nat) (x : α) (W : World), pre.length < N → I pre c W → body.wpIn (F.inRound l) (n - 1 - 1) P (fun e _ B => e = .normal ∧ KeepsFrom w.heap.size W B ∧ ∃ c', I (pre ++ [x]) c' B ∧ Below n₁ W B ∧ KeepsC2 c0 c W B) (a₁ x) W)
    (hdone : ∀ (xs : List α) (c : Nat) (W : World), S xs → I xs c W → W.heap[w.heap.size]? = some (.deferred (some [])) → Q .normal { a with defers := { target := .collected w.heap.size, args := #[] } :: a.defers } W) :
    (Code.rangeFunc g ps assign body).wpIn F n P Q a w := by
  refine wpIn_rangeFunc fun fn hfn => ?_
  rw [hro]
  obtain ⟨r, hr⟩ : ∃ r : LoopState → Option Code → Loop, r = fun st pe => { state := st, pending := pe, fn, tmps := a.tmps, params := ps, assign, body, defers := w.heap.size } := ⟨_, rfl⟩
  obtain ⟨W1, hW1⟩ : ∃ W1, W1 = (w.alloc (.deferred (some []))).alloc (.loop (r .ready none)) := ⟨_, rfl⟩
  have s1 : W1.heap.size = w.heap.size + 2 := by rw [hW1]; simp
  have b1 : Below w.heap.size w W1 := by rw [hW1]; exact ((Below.refl _ _).alloc (Nat.le_refl _) _).alloc (by simp) _
  have d1 : W1.heap[w.heap.size]? = some (.deferred (some [])) := by rw [hW1, Below.heap_alloc _ _ _ (by simp)]; exact World.alloc_heap_new w _
  have l1 : W1.heap[w.heap.size + 1]? = some (.loop (r .ready none)) := by
    rw [hW1]; have := World.alloc_heap_new (w.alloc (.deferred (some []))) (.loop (r .ready none)); rwa [World.size_alloc] at this
  refine ⟨w.heap.size + 1, [{ target := .collected w.heap.size, args := #[] }], W1, { target := .fn (.func gf) lb, args := #[.func (.yield (w.heap.size + 1)) #[] #[]] }, W1, gf, #[.func (.yield (w.heap.size + 1)) #[] #[]] ++ lb, W1, ?_, ?_, ?_, ?_, fun _ => h1, ?_⟩
  · rw [hW1, hr]; exact run_enterLoop_outer _ _ _ _ _
  · simp only [resolve, hg]
    simp [go_sem]
  · intro f' hf'; simp [Target.leads] at hf'; subst hf'; exact hFg
  · simp [invoke, go_sem, eg]
  refine (hseq (w.heap.size + 1)
    (fun pre c W => I pre c W ∧ W.heap[w.heap.size]? = some (.deferred (some [])) ∧ W.heap[w.heap.size + 1]? = some (.loop (r .ready none))) W1 b1
    (fun s c A B ⟨h, hd, hl⟩ hb => ⟨hIg s c A B h hb, (hb.block _ (Array.getElem?_eq_some_iff.1 hd).1).trans hd, (hb.block _ (Array.getElem?_eq_some_iff.1 hl).1).trans hl⟩)
    (fun s c A ⟨h, hd, hl⟩ => by
      rcases hIc s c A h with ⟨rfl, hc⟩ | ⟨hc, cs, t, fr, e⟩
      · exact ⟨hc, .inl rfl⟩
      · refine ⟨(Array.getElem?_eq_some_iff.1 e).1, .inr ?_⟩
        have n1 : c ≠ w.heap.size := fun e' => by subst e'; rw [hd] at e; cases e
        have n2 : c ≠ w.heap.size + 1 := fun e' => by subst e'; rw [hl] at e; cases e
        omega)
    ?_ ⟨hIg _ _ _ _ h0 b1, d1, l1⟩).mono ?_
  · rintro pre c x A hlen ⟨hi, hd, hl⟩
    have hy := run_yield (P := P) (args := encs x) hl (by rw [hr]; exact hps x)
    rw [hr] at hy
    refine ⟨fn, _, assign, body, hy, roundIn_of_wpIn hfn (hassign _ x A _ ?_)⟩
    clear hy
    have lA : w.heap.size + 1 < A.heap.size := (Array.getElem?_eq_some_iff.1 hl).1
    refine ⟨_, run_beginRound hl (by rw [hr]), ?_⟩
    obtain ⟨ob, hob⟩ : ∃ ob, ob = Obj.loop { r .ready none with state := .busy } := ⟨_, rfl⟩
    rw [← hob]
    have nb : ob.isCells = false := by rw [hob]; rfl
    have l2 : (A.putObj (w.heap.size + 1) ob).heap[w.heap.size + 1]? = some ob := World.putObj_heap_same lA
    have d2 : (A.putObj (w.heap.size + 1) ob).heap[w.heap.size]? = some (.deferred (some [])) := (World.putObj_heap_other (by omega)).trans hd
    refine wpIn_mono (hbody _ pre c x _ hlen (hIp _ _ _ _ _ ob hi (by omega) hl rfl)) ?_
    rintro e a3 B ⟨rfl, hk, c', hi3, hb3, hk3⟩
    obtain ⟨h3, h4⟩ := keepsFrom_two hk d2 rfl l2 nb
    have h5 := h4
    rw [hob] at h5
    have h6 := run_endRound (P := P) none h5
    have lB := (Array.getElem?_eq_some_iff.1 h4).1
    refine ⟨_, _, h6, rfl, c', ⟨hIp _ _ _ _ _ _ hi3 (by omega) h4 nb, (World.putObj_heap_other (by omega)).trans h3, ?_⟩, ?_, ?_⟩
    · rw [hr]; exact World.putObj_heap_same lB
    · exact (((below_put w A _ ob (by omega)).mono hn).trans hb3).trans ((below_put w B _ _ (by omega)).mono hn)
    · exact ((KeepsC2.put ob hl rfl).t hk3).t (KeepsC2.put _ h4 nb)
  · rintro e B ⟨⟨v, rfl⟩, xs, c, hS, hi, hd, hl⟩
    have q := run_endLoop (P := P) hl (by rw [hr]; simp)
    refine ⟨_, _, q, ?_⟩
    rw [hr]
    exact hdone xs c _ hS (hIp _ _ _ _ _ _ hi (by omega) hl rfl) ((World.putObj_heap_other (by omega)).trans hd)

theorem ups_le (P : Nat → Bool) (a q : Nat) : (ups P a q).length ≤ q := by
  have := List.length_filter_le (fun i => decide (a ≤ i) && P i) (List.range q)
  simpa [ups] using this

set_option maxRecDepth 100000 in
set_option maxHeartbeats 4000000 in
theorem hits1c_in (m : Nat) (hm : 1 ≤ m) (l c0 B lo bF bE bT : Nat) (w0 : World) (tv mv : Value) (n : Nat) (f : Nat → M) (ns : Nat) (ss : Nat → Sp) (a : Nat) (tt : Int) (hto : tt ≤ n) (hns : ns ≤ 50) (hn : n ≤ 1048576)
    (ht : TestsAt B w0 tv mv ns n f ss) (h2 : MomsAt lo w0 mv n f) (J : List Nat → Nat → World → Prop) (W : World) (hW : Below w0.heap.size w0 W)
    (hF : W.heap[bF]? = some (.cells #[.int .i64 (a : Int)] 3 (0, 0))) (hE : W.heap[bE]? = some (.cells #[.int .i64 tt] 3 (0, 0))) (hT : W.heap[bT]? = some (.cells #[tv] 123 (0, 0))) (nE : bE ≠ c0) (nT : bT ≠ c0) (hc : c0 < W.heap.size)
    (hJ : ∀ s c A B, J s c A → Below A.heap.size A B → J s c B) (hJc : ∀ s c A, J s c A → c < A.heap.size ∧ (c = c0 ∨ W.heap.size ≤ c))
    (hY : ∀ pre c (x : Nat) A, pre.length < n → J pre c A → YieldAt Fence.wide (m - 1) Try.prog l #[.int .i64 (x : Int)] A fun e B => e = .returned (.bool true) ∧ ∃ c', J (pre ++ [x]) c' B ∧ Below w0.heap.size A B ∧ KeepsC2 c0 c A B)
    (h0 : J [] c0 W) :
    CallsIn Fence.wide m Try.prog 103 #[.func (.yield l) #[] #[], .pointer (some ⟨bF, 0, none⟩), .pointer (some ⟨bE, 0, none⟩), .pointer (some ⟨bT, 0, none⟩)] W fun e W' => (∃ v, e = .returned v) ∧
      Came (fun xs => ∃ q : Nat, xs = ups (anyOf f ns ss) a q ∧ a ≤ q ∧ tt ≤ (q : Int) ∧ (q = a ∨ (q : Int) ≤ tt)) J W' := by
  have HT0 := hide ht
  have H2 := hide h2
  obtain ⟨ta, tc, rfl, -⟩ := ht.cells
  clear ht h2
  have cF : W.cell? ⟨bF, 0, none⟩ = some (.int .i64 (a : Int)) := by rw [cell_of_row W _ 0 _ _ _ hF]; rfl
  have lE : bE < W.heap.size := heap_in hE
  have lT : bT < W.heap.size := heap_in hT
  refine callsIn_of_wp Try.func103 rfl trivial ?_ rfl
  simp only [Try.ntmps103, List.size_toArray, List.length_cons, List.length_nil, Nat.reduceAdd, Nat.reduceSub, Array.replicate_succ, Array.replicate_zero, List.push_toArray, List.append_toArray, List.nil_append, List.cons_append]
  gi_wp2
  gi_loopw [5] (fun p wr => ∃ q kb c : Nat, p = .pointer (some ⟨kb, 0, none⟩) ∧ wr.heap[kb]? = some (.cells #[.int .i64 (q : Int)] 3 (0, 0)) ∧ W.heap.size ≤ kb ∧ a ≤ q ∧ (q = a ∨ (q : Int) ≤ tt) ∧ J (ups (anyOf f ns ss) a q) c wr ∧ c ≠ kb ∧ Below w0.heap.size w0 wr ∧ W.heap.size ≤ wr.heap.size ∧ wr.heap[bE]? = some (.cells #[.int .i64 tt] 3 (0, 0)) ∧ wr.heap[bT]? = some (.cells #[.slice ta ns tc] 123 (0, 0)))
    (fun p wr => leftTo tt p wr)
  case atStart => exact ⟨a, W.heap.size, c0, rfl, heap_alloc_new W _, Nat.le_refl _, Nat.le_refl _, .inl rfl, by rw [ups_self]; exact hJ _ _ _ _ h0 (below_new _ _), by omega, hW.trans ((below_new _ _).mono hW.size), (below_new W _).size, ((below_new W _).block _ lE).trans hE, ((below_new W _).block _ lT).trans hT⟩
  case round =>
    obtain ⟨q, kb, c, rfl, hk, hkb, haq, hqt, hJq, hck, hb, hsz, hE', hT'⟩ := hrel
    have ck : wr.cell? ⟨kb, 0, none⟩ = some (.int .i64 (q : Int)) := by rw [cell_of_row wr _ 0 _ _ _ hk]; rfl
    have cE : wr.cell? ⟨bE, 0, none⟩ = some (.int .i64 tt) := by rw [cell_of_row wr _ 0 _ _ _ hE']; rfl
    have cT : wr.cell? ⟨bT, 0, none⟩ = some (.slice ta ns tc) := by rw [cell_of_row wr _ 0 _ _ _ hT']; rfl
    have lK : kb < wr.heap.size := heap_in hk
    by_cases hlt : (q : Int) < tt
    · have hqn : q < n := by omega
      have HK := hide hk
      have HME := hide (leftTo_at (tt := tt) hk)
      have HE := hide hE'
      have HTT := hide hT'
      have HJQ := hide hJq
      have HB := hide hb
      have HY := hide hY
      clear hk hE' hT' hJq hb hY h0 hF hE hT cF
      gi_wp2_with fail
      refine ⟨trivial, (callsIn_wide.2 (contains_any B lo kb _ mv n f ns ss q _ hqn hns ((unhide HT0).below (unhide HB)) ((unhide H2).below (unhide HB)) ck)).mono ?_⟩
      rintro e w3 ⟨rfl, hb3⟩
      have hk3 : w3.heap[kb]? = some (.cells #[.int .i64 (q : Int)] 3 (0, 0)) := (hb3.block _ lK).trans (unhide HK)
      have HE3 := hide ((hb3.block _ (by omega)).trans (unhide HE))
      have HT3 := hide ((hb3.block _ (by omega)).trans (unhide HTT))
      have hJ3 : J (ups (anyOf f ns ss) a q) c w3 := hJ _ _ _ _ (unhide HJQ) hb3
      obtain ⟨hc3, hcc⟩ := hJc _ _ _ hJ3
      have HB3 := hide ((unhide HB).trans (hb3.mono (unhide HB).size))
      have hs3 : W.heap.size ≤ w3.heap.size := Nat.le_trans hsz hb3.size
      have c3 : w3.cell? ⟨kb, 0, none⟩ = some (.int .i64 (q : Int)) := by rw [cell_of_row w3 _ 0 _ _ _ hk3]; rfl
      have HK3 := hide hk3
      clear hb3 ck cE cT HK HE HTT HJQ HB hk3
      have wq : IntKind.i64.wrap ((q : Int) + 1) = ((q + 1 : Nat) : Int) := by rw [IntKind.wrap_i64]; omega
      cases ep : anyOf f ns ss q with
      | false =>
        have HP := hide ep
        have HJ3 := hide hJ3
        clear ep hJ3
        gi_wp2_with fail
        refine ⟨fun _ h => (by cases h), ?_⟩
        gi_wp2
        go_roundw
        case rel =>
          obtain ⟨e1, e2⟩ := step_box w3 q
          exact ⟨q + 1, w3.heap.size, c, rfl, e1, hs3, by omega, .inr (by omega), by rw [ups_no (unhide HP)]; exact hJ _ _ _ _ (unhide HJ3) e2, by omega, (unhide HB3).trans (e2.mono (unhide HB3).size), Nat.le_trans hs3 e2.size, (e2.block _ (by omega)).trans (unhide HE3), (e2.block _ (by omega)).trans (unhide HT3)⟩
        case measure =>
          rw [unhide HME, leftTo_at (step_box w3 q).1]
          omega
      | true =>
        obtain ⟨fn, tmps, assign, body, hy, hR⟩ := unhide HY _ c q w3 (by have := ups_le (anyOf f ns ss) a q; omega) hJ3
        have HP := hide ep
        have HR := hide hR
        clear ep hR hJ3
        gi_wp2_with fail
        refine (unhide HR).mono ?_
        rintro e W5 ⟨rfl, c', hJ5, hb5, hk5⟩
        · have hk5k := hk5 kb _ _ _ (by omega) (Ne.symm hck) (unhide HK3)
          have hc5 := (hJc _ _ _ hJ5).1
          have c5 : W5.cell? ⟨kb, 0, none⟩ = some (.int .i64 (q : Int)) := by rw [cell_of_row W5 _ 0 _ _ _ hk5k]; rfl
          have HE5 := hide (hk5 bE _ _ _ nE (by omega) (unhide HE3))
          have HT5 := hide (hk5 bT _ _ _ nT (by omega) (unhide HT3))
          have HB5 := hide ((unhide HB3).trans hb5)
          have hs5 : W.heap.size ≤ W5.heap.size := Nat.le_trans hs3 hb5.size
          have HJ5 := hide hJ5
          have lE5 : bE < W5.heap.size := by omega
          have lT5 : bT < W5.heap.size := by omega
          clear hJ5 hk5 hb5 hk5k c3 HE3 HT3 HB3 HK3
          gi_wp2
          go_roundw
          case rel =>
            obtain ⟨e1, e2⟩ := step_box W5 q
            exact ⟨q + 1, W5.heap.size, c', rfl, e1, hs5, by omega, .inr (by omega), by rw [ups_yes haq (unhide HP)]; exact hJ _ _ _ _ (unhide HJ5) e2, by omega, (unhide HB5).trans (e2.mono (unhide HB5).size), Nat.le_trans hs5 e2.size, (e2.block _ lE5).trans (unhide HE5), (e2.block _ lT5).trans (unhide HT5)⟩
          case measure =>
            rw [unhide HME, leftTo_at (step_box W5 q).1]
            omega
    · gi_wp2
      go_end0
      exact ⟨⟨_, rfl⟩, _, _, ⟨q, rfl, haq, by omega, hqt⟩, hJq⟩
end Go.Proofs.Ytoiacbdnkkolmaa

namespace Go.Proofs.Ytoiacbdnkkolmaa
open Go.RowKit Go.Shelf

attribute [local go_sem] Oper.semAt_some

/-- What AppendSeq's box and row are. -/
def ColI (w : World) (pre : List Nat) (c : Nat) (W : World) : Prop :=
  ∃ v, Boxed W w.heap.size 54 v ∧ IntsOwn (w.heap.size + 1) W v pre ∧ c = v.ownBlock.getD w.heap.size ∧ Below w.heap.size w W

theorem ColI.grow {w : World} {pre : List Nat} {c : Nat} {A B : World} (h : ColI w pre c A) (hb : Below A.heap.size A B) : ColI w pre c B := by
  obtain ⟨v, h1, h2, h3, h4⟩ := h
  exact ⟨v, (hb.block _ h1.lt).trans h1, h2.below hb, h3, h4.trans (hb.mono h4.size)⟩

theorem ColI.put {w : World} {pre : List Nat} {c : Nat} {A : World} {l : Nat} {o : Obj} (o' : Obj) (h : ColI w pre c A) (hl : w.heap.size + 1 ≤ l) (ho : A.heap[l]? = some o) (hc : o.isCells = false) : ColI w pre c (A.putObj l o') := by
  obtain ⟨v, h1, h2, h3, h4⟩ := h
  refine ⟨v, (World.putObj_heap_other (by omega)).trans h1, ownsRow_putObj h2 o' ho hc, h3, h4.trans ⟨rfl, rfl, rfl, by simp [World.putObj], fun k hk => World.putObj_heap_other (by omega)⟩⟩

theorem ColI.at {w : World} {pre : List Nat} {c : Nat} {A : World} (h : ColI w pre c A) : (c = w.heap.size ∧ w.heap.size < A.heap.size) ∨ (w.heap.size + 1 ≤ c ∧ ∃ cs t fr, A.heap[c]? = some (.cells cs t fr)) := by
  obtain ⟨v, h1, h2, h3, -⟩ := h
  rcases h2.2 with ⟨rfl, _⟩ | ⟨g, cap, cur, rfl, hb, hg, _⟩
  · exact .inl ⟨h3, h1.lt⟩
  · have : c = g := h3
    subst this
    exact .inr ⟨hb, _, _, _, hg⟩

set_option maxRecDepth 100000 in
set_option maxHeartbeats 4000000 in
theorem appendSeq_any (gf : Nat) (lb : Array Value) (N : Nat) (S : List Nat → Prop) (w : World) (eg : ∀ args w, (callFunc gf args).run Try.prog w = .ok (.enter gf args) w) (hN : N ≤ 1048576)
    (hseq : SeqCol Fence.wide 5 Try.prog gf lb (fun x : Nat => #[.int .i64 (x : Int)]) w.heap.size w.heap.size N S (w.alloc (.cells #[.slice none 0 0] 54))) :
    Calls Try.prog 102 #[.slice none 0 0, .func (.func gf) #[] lb] w fun e w' => (∃ v xs, e = .returned v ∧ S xs ∧ IntsOwn w.heap.size w' v xs ∧ ∃ a m c, v = .slice a m c) ∧ Below w.heap.size w w' := by
  obtain ⟨i0, hi0, hz0, hz1, hz2⟩ := info_parts info_int'
  refine (callsIn_wide (n := 6)).1 ?_
  refine callsIn_of_wp_marks Try.func102 rfl trivial ?_ rfl
  simp only [Try.ntmps102, List.size_toArray, List.length_cons, List.length_nil, Nat.reduceAdd, Nat.reduceSub, Array.replicate_succ, Array.replicate_zero, List.push_toArray, List.append_toArray, List.nil_append, List.cons_append]
  gi_wp2_with fail
  obtain ⟨W0, hW0⟩ : ∃ W0, W0 = w.alloc (.cells #[.slice none 0 0] 54) := ⟨_, rfl⟩
  have s0 : W0.heap.size = w.heap.size + 1 := by rw [hW0]; simp
  have k0 : W0.heap[w.heap.size]? = some (.cells #[.slice none 0 0] 54 (0, 0)) := by rw [hW0]; exact heap_alloc_new w _
  have b0 : Below w.heap.size w W0 := by rw [hW0]; exact below_new _ _
  rw [← hW0] at hseq ⊢
  clear hW0
  refine wpIn_range_col rfl (by omega) (gf := gf) (lb := lb) rfl trivial eg hseq (by omega) (fun _ => rfl)
    (ColI w)
    (fun s c A B h hb => h.grow hb)
    (fun s c A l o o' h hl ho hc => h.put o' (by omega) ho hc)
    (fun s c A h => by rw [s0]; exact h.at)
    ⟨_, k0, World.ownsRow_nil _ _ _ _, rfl, b0⟩
    (fun x => { tmps := #[.slice none 0 0, .func (.func gf) #[] lb, .pointer (some ⟨w.heap.size, 0, none⟩), undef, .slice none 0 0, .int .i64 (x : Int), .func (.func gf) #[] lb, .int .i64 (x : Int), undef, undef, undef, undef, undef], defers := [] })
    ?assign ?body ?done
  case assign =>
    intro l x W K hK
    gi_wp2
    exact hK
  case body =>
    rintro l pre c x W hlen ⟨v, hv, hrow, hc, hB⟩
    have hcell := hv.cell
    have hrow' : W.ownsRow (w.heap.size + 1) 3 1 v pre.length (pre.map fun (x : Nat) => Value.int .i64 (x : Int)) := hrow
    have hsz : w.heap.size + 1 ≤ W.heap.size := hv.lt
    gi_wp2_with (gi_at_builtin; refine wpListIn_append_own _ (by rfl) _ _ _ (by rfl) (w.heap.size + 1) 3 i0 _ 1 8 Try.underlying54 hi0 hz0 hz1 hz2 rfl (by decide) _ _ _ (by rfl) (hrow'.alloc _) ⟨W.heap.size, 0, none⟩ 1 1 [.int .i64 (x : Int)] (by rfl) (by rfl) (cell_one_new _ _ _) (by simp [Value.oneCell']) (by unfold maxLen; omega) (by omega) (by simp; omega) ?_; intro v' w1 hown' hgrow _; obtain ⟨g', cap', rfl⟩ := ownsRow_succ hown'; obtain ⟨hv1, hv2, hr2, hk2, hb2⟩ := hv.appended (n₀ := w.heap.size) (by decide) (owns_low hrow' (Nat.le_succ _)) (by omega) (Nat.le_refl _) (owns_low hown' (Nat.le_succ _)) hgrow; have hc1 := hv1.cell; have hf1 := hv1.frozen)
    have hown3 := hown'.kept (grownBy_setCell' w1 w.heap.size (.slice (some ⟨g', 0, none⟩) (pre.length + 1) cap')) (.inr (hv1.not_row (by decide) hown').symm)
    refine ⟨hk2.from _, ⟨_, _, hv2, ?_, rfl, hB.trans hb2⟩, fun b cs t fr hb hbc e => ?_⟩
    · unfold IntsOwn
      rw [List.map_append, List.length_append]
      exact hown3
    · have hne : some b ≠ v.ownBlock := fun e' => hbc (by rw [← e']; rfl)
      have hlb : b < W.heap.size := heap_in e
      rw [heap_setCell_other _ _ _ _ hb, hgrow.block b (by simp; omega) hne, Below.heap_alloc _ _ _ (by omega)]
      exact e
  case done =>
    rintro xs c W hS ⟨v, hv, hrow, hc, hB⟩ hK
    have hcell := hv.cell
    obtain ⟨va, vm, vc, rfl⟩ : ∃ a m c, v = .slice a m c := by
      rcases hrow.2 with ⟨rfl, _⟩ | ⟨g, cap, cur, rfl, _⟩
      · exact ⟨_, _, _, rfl⟩
      · exact ⟨_, _, _, rfl⟩
    gi_wp2
    refine ⟨by simp, .inl ⟨_, _, rfl, run_takeDeferred hK, ?_⟩⟩
    refine ⟨_, results_tmp rfl _ _ _, ⟨⟨_, xs, rfl, hS, owns_low (ownsRow_putObj hrow _ hK rfl) (Nat.le_succ _), ⟨_, _, _, rfl⟩⟩, hB.trans ((below_put W0 W _ _ (Nat.le_refl _)).mono (by omega))⟩⟩
end Go.Proofs.Ytoiacbdnkkolmaa

namespace Go.Proofs.Ytoiacbdnkkolmaa
open Go.RowKit Go.Shelf

set_option maxRecDepth 100000 in
set_option maxHeartbeats 1000000 in
theorem collect_any (gf : Nat) (lb : Array Value) (N : Nat) (S : List Nat → Prop) (w : World) (eg : ∀ args w, (callFunc gf args).run Try.prog w = .ok (.enter gf args) w) (hN : N ≤ 1048576)
    (hseq : SeqCol Fence.wide 5 Try.prog gf lb (fun x : Nat => #[.int .i64 (x : Int)]) w.heap.size w.heap.size N S (w.alloc (.cells #[.slice none 0 0] 54))) :
    Calls Try.prog 66 #[.func (.func gf) #[] lb] w fun e w' => (∃ v xs, e = .returned v ∧ S xs ∧ IntsOwn w.heap.size w' v xs ∧ ∃ a m c, v = .slice a m c) ∧ Below w.heap.size w w' := by
  have HQ := hide hseq
  have HG := hide eg
  clear hseq eg
  go_enter Try.func66, Try.ntmps66
  go_wp2_with fail
  refine (appendSeq_any gf lb N S _ (unhide HG) hN (unhide HQ)).mono ?_
  rintro e w1 ⟨⟨v, xs, rfl, hS, ho, va, vm, vc, rfl⟩, hb1⟩
  have HS := hide hS
  have HO := hide ho
  have HB := hide hb1
  clear hS ho hb1
  go_wp2
  go_ret
  exact ⟨⟨_, xs, rfl, unhide HS, unhide HO, ⟨_, _, _, rfl⟩⟩, unhide HB⟩

theorem anyOf_one (f : Nat → M) (s : Sp) : anyOf f 1 (fun _ => s) = hit f s := by
  funext q
  simp [anyOf]

set_option maxRecDepth 100000 in
set_option maxHeartbeats 4000000 in
theorem implHits_any (lo : Nat) (v1 v2 : Value) (nf : Nat) (fns : Nat → ByteArray) (n : Nat) (f : Nat → M) (s : Sp) (w : World) (h1 : StrsAt lo w v1 nf fns) (h2 : MomsAt lo w v2 n f) (hz : s.name.size ≤ maxLen) (hn : n ≤ 1048576) :
    Calls Try.prog 21 #[.agg #[v1, v2], .agg #[.int .i64 s.kind, .int .i64 s.fn, .int .i64 s.line, .string s.name]] w fun e w' => HitsSay nf fns n f s w.heap.size e w' ∧ Below w.heap.size w w' := by
  have H1 := hide h1; clear h1
  have H2 := hide h2
  obtain ⟨a2, cap2, rfl, hn2, -⟩ := h2
  unfold maxLen at hn2
  have HB0 := hide (TSBox.new w v1 (.slice a2 n cap2) s)
  go_enter Try.func21, Try.ntmps21
  go_upto_region 1 with fail
  have x0 := (unhide HB0).t0
  have x1 := (unhide HB0).t1
  have y0 := (unhide HB0).s0
  have y1 := (unhide HB0).s1
  have y2 := (unhide HB0).s2
  have y3 := (unhide HB0).s3
  generalize (w.alloc (.cells #[v1, .slice a2 n cap2] 26)).alloc (.cells #[.int .i64 s.kind, .int .i64 s.fn, .int .i64 s.line, .string s.name] 52) = W0 at HB0 x0 x1 y0 y1 y2 y3 ⊢
  have HBN := hide (below_new W0 (.cells #[.int .i64 s.kind, .int .i64 s.fn, .int .i64 s.line, .string s.name] 52))
  have HSI := hide (StopsIn.one (heap_alloc_new W0 (.cells #[.int .i64 s.kind, .int .i64 s.fn, .int .i64 s.line, .string s.name] 52)) hz)
  go_wp2_with fail
  have HB1 := hide ((unhide HB0).go (unhide HBN))
  refine (stopTests_any lo _ _ _ nf fns n f 1 (fun _ => s) _ ((unhide H1).below (unhide HB1).below) ((unhide H2).below (unhide HB1).below) (unhide HSI)).mono ?_
  rintro e w2 ⟨⟨tv, ok, rfl, hok, htt, ta, tm, tc, rfl⟩, hb2⟩
  have HB2 := hide ((unhide HB1).go hb2)
  clear hb2 HB1 HSI HBN HB0 x0 x1 y0 y1 y2 y3
  cases ok with
  | false =>
    have HN : Hid (¬ (Sound nf fns n f ∧ StopIs s)) := hide (fun h => by have := hok.2 ⟨h.1, by omega, fun _ _ => h.2⟩; cases this)
    clear hok htt
    go_wp2_with fail
    go_ret
    exact ⟨⟨_, [], rfl, World.ownsRow_nil _ _ _ _, .inr ⟨unhide HN, rfl⟩, ⟨_, _, _, rfl⟩⟩, (unhide HB2).below⟩
  | true =>
    have HS := hide (hok.1 rfl)
    have HT := hide (htt rfl)
    have x1 := (unhide HB2).t1
    clear hok htt
    go_wp2_with fail
    refine (callsIn_wide.1 (hitsOf_in _ _ _ _ _ _)).mono ?_
    rintro e w3 ⟨rfl, rfl⟩
    obtain ⟨W3, hW3, s3, k1, k2, k3, b3⟩ := three_boxes w2 (.cells #[.slice ta tm tc] 123) (.cells #[.int .i64 0] 3) (.cells #[.int .i64 (n : Int)] 3)
    rw [← hW3]
    have HB3 := hide ((unhide HB2).go b3)
    have HT3 := hide ((unhide HT).below b3)
    have HM3 := hide ((unhide H2).below (unhide HB3).below)
    clear hW3 b3 HT HB2 x1
    have hseq : SeqCol Fence.wide 5 Try.prog 103 #[.pointer (some ⟨w2.heap.size + 1, 0, none⟩), .pointer (some ⟨w2.heap.size + 1 + 1, 0, none⟩), .pointer (some ⟨w2.heap.size, 0, none⟩)] (fun x : Nat => #[.int .i64 (x : Int)]) W3.heap.size W3.heap.size n
        (fun xs => ∃ q : Nat, xs = ups (anyOf f 1 (fun _ => s)) 0 q ∧ 0 ≤ q ∧ (n : Int) ≤ (q : Int) ∧ (q = 0 ∨ (q : Int) ≤ (n : Int))) (W3.alloc (.cells #[.slice none 0 0] 54)) := fun l J W hW hJ hJc hY h0 =>
      have hW' : Below W3.heap.size W3 W := (below_new W3 (.cells #[.slice none 0 0] 54)).trans (hW.mono (by simp))
      hits1c_in 5 (by omega) l W3.heap.size _ lo (w2.heap.size + 1) (w2.heap.size + 1 + 1) w2.heap.size W3 (.slice ta tm tc) _ n f 1 (fun _ => s) 0 n (Int.le_refl _) (by omega) hn (unhide HT3) (unhide HM3) J W hW'
        ((hW'.block _ (by omega)).trans k2) ((hW'.block _ (by omega)).trans k3) ((hW'.block _ (by omega)).trans k1) (by omega) (by omega) (by have := hW.size; simp at this; omega) hJ hJc hY h0
    have HQ := hide hseq
    clear hseq
    clear k1 k2 k3 s3
    go_wp2_with fail
    refine (collect_any 103 _ n _ _ (enters_of Try.func103 (by kernel_rfl) rfl) hn (unhide HQ)).mono ?_
    rintro e w4 ⟨⟨v, xs, rfl, ⟨q, rfl, -, hq1, hq2⟩, ho, va, vm, vc, rfl⟩, hb4⟩
    have HB4 := hide ((unhide HB3).go hb4)
    have hle : w.heap.size ≤ W3.heap.size := (unhide HB3).below.size
    have HO : Hid (IntsOwn w.heap.size w4 (.slice va vm vc) (ups (hit f s) 0 n)) := hide (by
      have e : q = n := by omega
      rw [e, anyOf_one] at ho
      exact owns_low ho hle)
    clear ho hb4 HB3 hle
    go_wp2
    go_ret
    exact ⟨⟨_, _, rfl, unhide HO, .inl ⟨⟨(unhide HS).1, (unhide HS).2.2 0 (by omega)⟩, rfl⟩, ⟨_, _, _, rfl⟩⟩, (unhide HB4).below⟩
end Go.Proofs.Ytoiacbdnkkolmaa
