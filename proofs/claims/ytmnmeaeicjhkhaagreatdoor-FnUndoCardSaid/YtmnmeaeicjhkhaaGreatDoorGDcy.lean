import Derived.Test.YtmnmeaeicjhkhaaGreatDoorGTy
import Derived.Test.YtmnmeaeicjhkhaaGreatDoorGDby
import Derived.Test.YtmnmeaeicjhkhaaGreatDoorD9y
set_option maxRecDepth 100000
set_option maxHeartbeats 16000000
namespace Go.Proofs.YtmnmeaeicjhkhaaGreatDoor
open Go.RowKit
end Go.Proofs.YtmnmeaeicjhkhaaGreatDoor
namespace Go.Proofs.YtmnmeaeicjhkhaaGreatDoor
open Go.RowKit
def BytesAt (w:World) (v:Value) (len:Nat):Prop :=
 ∃ a cap,v=.slice a len cap∧∀ i,i < len→∃ b o x,a=some ⟨b,o,none⟩∧w.cell? ⟨b,o + i,none⟩=some (.int .u8 x)∧0≤x∧x < 256
def DrawsWell:Prop:=∀ (v:Value) (len:Nat) (w:World),BytesAt w v len→len≤1048576 →
  Calls Tryz.prog 8 #[v] w fun e w'=>(∃ v1 v2 n ms,e=.returned (.agg #[v1,v2])∧n < 90∧StrsAt w.heap.size w' v1 4 drawnFns∧MomsAt w.heap.size w' v2 n (momOf ms)∧Sound 4 drawnFns n (momOf ms))∧Below w.heap.size w w'
end Go.Proofs.YtmnmeaeicjhkhaaGreatDoor
namespace Go.Proofs.YtmnmeaeicjhkhaaGreatDoor
open Go.RowKit
theorem BytesAt.cur {w:World} {v:Value} {len:Nat} (h:BytesAt w v len) (hl:len≤1048576) (o:Obj) :
  Cur (w.heap.size + 2) ((w.alloc o).alloc (.cells #[v,.int .i64 0,.int .u64 0] 73)) (w.heap.size + 1) len ⟨0,0⟩:=by
 obtain ⟨a,cap,rfl,h⟩:=h
 have hs:(w.alloc o).heap.size=w.heap.size + 1:=by simp
 have hn:=heap_alloc_new (w.alloc o) (.cells #[.slice a len cap,.int .i64 0,.int .u64 0] 73)
 rw [hs] at hn
 have hb:Below w.heap.size w ((w.alloc o).alloc (.cells #[.slice a len cap,.int .i64 0,.int .u64 0] 73)):=((Below.refl _ _).alloc (Nat.le_refl _) _).alloc (by simp) _
 refine ⟨by omega,⟨a,cap,?_,fun i hi=>?_⟩,?_,?_,?_,?_,by decide,hl⟩
 ·rw [cell_of_row _ _ 0 _ _ _ hn];rfl
 ·obtain ⟨b,off,x,ha,hc,h0,h1⟩:=h i hi
  have:=cell_lt hc
  simp only at this
  exact ⟨b,off,x,ha,by omega,by omega,cell_below hb hc,h0,h1⟩
 ·rw [cell_of_row _ _ 1 _ _ _ hn];rfl
 ·rw [cell_of_row _ _ 2 _ _ _ hn];rfl
 ·unfold World.frozen?;rw [hn];rfl
 ·unfold World.frozen?;rw [hn];rfl
theorem drawn_any:DrawsWell:=by
 intro v len w h hl
 have H:=hide (h.cur hl (.cells #[.slice none 0 0,.slice none 0 0] 26))
 obtain ⟨a,cap,rfl,_⟩:=h
 have HB0:Hid (Below w.heap.size w ((w.alloc (.cells #[.slice none 0 0,.slice none 0 0] 26)).alloc (.cells #[.slice a len cap,.int .i64 0,.int .u64 0] 73))):=hide (((Below.refl _ _).alloc (Nat.le_refl _) _).alloc (by simp) _)
 have HR0:Hid (((w.alloc (.cells #[.slice none 0 0,.slice none 0 0] 26)).alloc (.cells #[.slice a len cap,.int .i64 0,.int .u64 0] 73)).heap[w.heap.size]?=some (.cells #[.slice none 0 0,.slice none 0 0] 26 (0,0))):=by
  rw [Below.heap_alloc _ _ _ (by simp)]
  exact hide (heap_alloc_new w _)
 go_enter Tryz.func8,Tryz.ntmps8
 go_wp2_with fail
 refine (pick_any (w.heap.size + 2) (w.heap.size + 1) len ⟨0,0⟩ 90 _ (uh H) (by decide) (by omega) (by omega)).mono ?_
 rintro e w1 ⟨⟨x,c1,rfl,hd,hc⟩,hb1⟩
 obtain ⟨n,hn⟩:∃ n,n=x % 90:=⟨_,rfl⟩
 have hn90:n < 90:=by omega
 rw [← hn]
 have hs1:w.heap.size + 2≤w1.heap.size:=by have:=hb1.size;simpa using this
 have hat:c1.at_≤1:=by rw [hd.at1];decide
 have HB1:=hide hb1
 have HC:=hide hc
 clear hd hc hb1 hn
 go_wp2_with fail
 refine (trace_any (w.heap.size + 2) (w.heap.size + 1) len c1 n _ (uh HC) hs1 hn90 (by omega)).mono ?_
 rintro e w2 ⟨⟨v1,v2,ms,rfl,hs,hm,hso,-,-⟩,hb2,-⟩
 have HB2:=hide ((uh HB1).trans hb2)
 have hrb:w2.heap[w.heap.size]?=some (.cells #[.slice none 0 0,.slice none 0 0] 26 (0,0)):=by
  rw [(uh HB2).block w.heap.size (by simp;omega) (.inl (by omega))]
  exact uh HR0
 have r0:w2.cell? ⟨w.heap.size,0,none⟩=some (.slice none 0 0):=by rw [cell_of_row w2 w.heap.size 0 _ _ _ hrb];rfl
 have r1:w2.cell? ⟨w.heap.size,1,none⟩=some (.slice none 0 0):=by rw [cell_of_row w2 w.heap.size 1 _ _ _ hrb];rfl
 have f0:w2.frozen? ⟨w.heap.size,0,none⟩=false:=by simp [World.frozen?,hrb]
 have f1:w2.frozen? ⟨w.heap.size,1,none⟩=false:=by simp [World.frozen?,hrb]
 have DS:=hide hs
 have DM:=hide hm
 have DD:=hide hso
 obtain ⟨a1,cap1,rfl,_⟩:=hs
 obtain ⟨a2,cap2,rfl,_⟩:=hm
 clear hso hb2 hrb
 go_wp2_with fail
 refine bodyPost_ret (v:=.agg #[.slice a1 4 cap1,.slice a2 n cap2]) (by simp [results,Tryz.results8,go_sem,r0,r1]) rfl ?_
 refine ⟨⟨.slice a1 4 cap1,.slice a2 n cap2,n,ms,rfl,hn90,?_,?_,uh DD⟩,?_⟩
 ·exact (((uh DS).set (q:=⟨w.heap.size,0,none⟩) (by simp;omega)).set (q:=⟨w.heap.size,1,none⟩) (by simp;omega)).low (by omega)
 ·exact (((uh DM).set (q:=⟨w.heap.size,0,none⟩) (by simp;omega)).set (q:=⟨w.heap.size,1,none⟩) (by simp;omega)).low (by omega)
 ·exact (((uh HB0).trans (((uh HB2).below (by simp)).mono (by omega))).setCell (p:=⟨w.heap.size,0,none⟩) (Nat.le_refl _) _).setCell (p:=⟨w.heap.size,1,none⟩) (Nat.le_refl _) _
end Go.Proofs.YtmnmeaeicjhkhaaGreatDoor
