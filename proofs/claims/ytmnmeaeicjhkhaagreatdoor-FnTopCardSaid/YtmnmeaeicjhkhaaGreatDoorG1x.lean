import Derived.Test.YtmnmeaeicjhkhaaGreatDoorGDcx
import Derived.Test.YtmnmeaeicjhkhaaGreatDoorGE0x
namespace Go.Proofs.YtmnmeaeicjhkhaaGreatDoor
open Go.RowKit
attribute [local go_sem ↓] Go.wp_at_zero Go.wp_at_succ
theorem bG7 (d:Int):(strOfNums [d]).size=1:=rfl
theorem bytes_cur {w:World} {v:Value} {len:Nat} (h:qK w v len) (hl:len<=1048576) (o:Obj) :
  Cur (w.heap.size+2) ((w.alloc o).alloc (.cells #[v,.int .i64 0,.int .u64 0] 73)) (w.heap.size+1) len ⟨0,0⟩:=by
 obtain ⟨a,cap,rfl,h⟩:=h
 have hs:(w.alloc o).heap.size=w.heap.size+1:=by simp
 have hn:=heap_alloc_new (w.alloc o) (.cells #[.slice a len cap,.int .i64 0,.int .u64 0] 73)
 rw [hs] at hn
 have hb:Below w.heap.size w ((w.alloc o).alloc (.cells #[.slice a len cap,.int .i64 0,.int .u64 0] 73)):=((Below.refl _ _).alloc (Nat.le_refl _) _).alloc (by simp) _
 refine ⟨by omega,⟨a,cap,?_,fun i hi=>?_⟩,?_,?_,?_,?_,by decide,hl⟩
 ·rw [cell_of_row _ _ 0 _ _ _ hn];rfl
 ·obtain ⟨b,off,x,ha,hc,h0,h1⟩:=h i hi
  have:=bV hc
  simp only at this
  exact ⟨b,off,x,ha,by omega,by omega,bG hb hc,h0,h1⟩
 ·rw [cell_of_row _ _ 1 _ _ _ hn];rfl
 ·rw [cell_of_row _ _ 2 _ _ _ hn];rfl
 ·unfold World.frozen?;rw [hn];rfl
 unfold World.frozen?;rw [hn];rfl
end Go.Proofs.YtmnmeaeicjhkhaaGreatDoor
