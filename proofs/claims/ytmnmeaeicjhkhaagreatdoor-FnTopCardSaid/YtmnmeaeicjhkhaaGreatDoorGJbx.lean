import Derived.Test.YtmnmeaeicjhkhaaGreatDoorGJax
import Derived.Test.YtmnmeaeicjhkhaaGreatDoorShelfQx
import Derived.Test.YtmnmeaeicjhkhaaGreatDoorGLx
set_option maxRecDepth 100000
set_option maxHeartbeats 16000000
namespace Go.Proofs.YtmnmeaeicjhkhaaGreatDoor
section
open Go.RowKit Go.Shelf Go.Maps Go.Sort
attribute [local go_sem ↓] Go.wp_at_zero Go.wp_at_succ
def qF (x y:Int):Int:=if x<y then -1 else if y<x then 1 else 0
def bK1 (x y:Lk):Int:=if qF x.fn y.fn=0 then qF x.line y.line else qF x.fn y.fn
def orI (x y:Int):Int:=if x=0 then y else x
theorem bR3 (x:Int) (w:World):Calls Tryz.prog 198 #[.int .i64 x] w fun e w'=>e=.returned (.bool false)/\w'=w:=by
 go_enter Tryz.func198,Tryz.ntmps198
 go_wp2
 go_ret
 exact ⟨by simp,rfl⟩
theorem bC8 (x y:Int) (w:World):Calls Tryz.prog 167 #[.int .i64 x,.int .i64 y] w fun e w'=>e=.returned (.int .i64 (qF x y))/\w'=w:=by
 go_enter Tryz.func167,Tryz.ntmps167
 go_wp2_with fail
 refine (bR3 x _).mono ?_
 rintro e w1 ⟨rfl,rfl⟩
 go_wp2_with fail
 refine (bR3 y _).mono ?_
 rintro e w2 ⟨rfl,rfl⟩
 by_cases h1:x<y
 ·have HE:Hid (qF x y=-1):=O (by unfold qF;rw [if_pos h1])
  go_wp2
  go_ret
  exact ⟨by rw [Z HE];rfl,rfl⟩
 by_cases h2:y<x
 ·have HE:Hid (qF x y=1):=O (by unfold qF;rw [if_neg h1,if_pos h2])
  go_wp2
  go_ret
  exact ⟨by rw [Z HE];rfl,rfl⟩
 have HE:Hid (qF x y=0):=O (by unfold qF;rw [if_neg h1,if_neg h2])
 go_wp2
 go_ret
 exact ⟨by rw [Z HE];rfl,rfl⟩
theorem or_any (x y:Int) (b:Nat) (t:TypeId) (w:World) (h:w.heap[b]?=some (.cells #[.int .i64 x,.int .i64 y] t (0,0))) :
  Calls Tryz.prog 166 #[.slice (some ⟨b,0,none⟩) 2 2] w fun e w'=>e=.returned (.int .i64 (orI x y))/\w'=w:=by
 have c0:w.cell? ⟨b,0,none⟩=some (.int .i64 x):=by rw [cell_of_row w _ 0 _ _ _ h];rfl
 have c1:w.cell? ⟨b,1,none⟩=some (.int .i64 y):=by rw [cell_of_row w _ 1 _ _ _ h];rfl
 clear h
 go_enter Tryz.func166,Tryz.ntmps166
 go_wp2_with fail
 go_loopg [5,8] 2 (fun gg _ i W=>∃ q:Nat,q+gg=2/\i=.int .i64 q/\W=w/\Hid (1<=q->x=0)/\Hid (2<=q->y=0))
 case atStart=>exact ⟨0,by omega,rfl,rfl,O (by omega),O (by omega)⟩
 case round =>
  obtain ⟨q,hq,rfl,rfl,H1,H2⟩:=hrel
  rcases (show q=0∨q=1∨q=2 by omega) with rfl | rfl | rfl
  ·by_cases hx:x=0
   ·have hb:(x != 0)=false:=by simpa using hx
    have HX:=O hx
    clear hx
    go_wp2
    go_roundg 1
    case measure=>omega
    case rel=>exact ⟨1,by omega,by go_num,rfl,O (fun _=>Z HX),O (by omega)⟩
   have hb:(x != 0)=true:=by simpa using hx
   have HE:Hid (orI x y=x):=O (by unfold orI;rw [if_neg hx])
   clear hx
   go_wp2
   go_ret
   exact ⟨by rw [Z HE];rfl,rfl⟩
  ·have HE:Hid (orI x y=y):=O (by unfold orI;rw [if_pos (Z H1 (by omega))])
   by_cases hy:y=0
   ·have hb:(y != 0)=false:=by simpa using hy
    have HY:=O hy
    clear hy
    go_wp2
    go_roundg 0
    case measure=>omega
    case rel=>exact ⟨2,by omega,by go_num,rfl,O (fun _=>Z H1 (by omega)),O (fun _=>Z HY)⟩
   have hb:(y != 0)=true:=by simpa using hy
   clear hy
   go_wp2
   go_ret
   exact ⟨by rw [Z HE];rfl,rfl⟩
  have HE:Hid (orI x y=0):=O (by unfold orI;rw [if_pos (Z H1 (by omega)),Z H2 (by omega)])
  go_wp2
  go_ret
  exact ⟨by rw [Z HE];rfl,rfl⟩
abbrev tE (x:Lk):Obj:=.cells #[.int .i64 x.fn,.int .i64 x.line] 185
theorem zY (x y:Lk) (w:World):Calls Tryz.prog 119 #[.agg #[.int .i64 x.fn,.int .i64 x.line],.agg #[.int .i64 y.fn,.int .i64 y.line]] w fun e w'=>e=.returned (.int .i64 (bK1 x y))/\∃ q os',w'=grow (w.drewN q) os':=by
 go_enter Tryz.func119,Tryz.ntmps119
 go_upto_region 1 with fail
 have a0:((w.alloc (tE x)).alloc (tE y)).heap[w.heap.size]?=some (tE x):=by rw [Below.heap_alloc _ _ _ (by simp)];exact heap_alloc_new w _
 have a1:((w.alloc (tE x)).alloc (tE y)).heap[w.heap.size+1]?=some (tE y):=by have:=heap_alloc_new (w.alloc (tE x)) (tE y);rw [World.size_alloc] at this;exact this
 obtain ⟨W,hW⟩:∃ W,W=(w.alloc (tE x)).alloc (tE y):=⟨_,rfl⟩
 rw [<- hW] at a0 a1 ⊢
 have HW:=O hW
 have hsz:W.heap.size=w.heap.size+2:=by rw [hW];simp
 have x0:W.cell? ⟨w.heap.size,0,none⟩=some (.int .i64 x.fn):=by rw [cell_of_row W _ 0 _ _ _ a0];rfl
 have x1:W.cell? ⟨w.heap.size,1,none⟩=some (.int .i64 x.line):=by rw [cell_of_row W _ 1 _ _ _ a0];rfl
 have y0:W.cell? ⟨w.heap.size+1,0,none⟩=some (.int .i64 y.fn):=by rw [cell_of_row W _ 0 _ _ _ a1];rfl
 have y1:W.cell? ⟨w.heap.size+1,1,none⟩=some (.int .i64 y.line):=by rw [cell_of_row W _ 1 _ _ _ a1];rfl
 clear hW a0 a1
 refine wp_region_held_drew (S:=fun w'=>w'.cell? ⟨w.heap.size,0,none⟩=some (.int .i64 x.fn)/\w'.cell? ⟨w.heap.size,1,none⟩=some (.int .i64 x.line)/\w'.cell? ⟨w.heap.size+1,0,none⟩=some (.int .i64 y.fn)/\w'.cell? ⟨w.heap.size+1,1,none⟩=some (.int .i64 y.line)) (by kernel_rfl) ⟨x0,x1,y0,y1⟩ (fun hHeld=>?_)
 refine tka 0 5 (by assumption) ?_
 refine tka 1 6 (by assumption) ?_
 refine tka 2 7 (by assumption) ?_
 refine tka 3 8 (by assumption) ?_
 refine tka 5 10 (by assumption) ?_
 refine tka 6 11 (by assumption) ?_
 refine tka 7 12 (by assumption) ?_
 refine tka 8 13 (by assumption) ?_
 refine wpAnyH_ready (rs:=[4]) (by kernel_rfl) (by simp) ?_
 refine AllReadyH.cons rfl (fun K hK=>?_) AllReadyH.nil
 go_simp
 refine (bC8 x.fn y.fn _).mono ?_
 rintro e wa ⟨rfl,rfl⟩
 refine hK.out _ _ ⟨x0,x1,y0,y1⟩ (fun hHeld=>?_)
 clear hK K
 try simp only [Act.put,sy]
 refine wpAnyH_ready (rs:=[9]) (by kernel_rfl) (by simp) ?_
 refine AllReadyH.cons rfl (fun K hK=>?_) AllReadyH.nil
 go_simp
 refine (bC8 x.line y.line _).mono ?_
 rintro e wa ⟨rfl,rfl⟩
 refine hK.out _ _ ⟨x0,x1,y0,y1⟩ (fun hHeld=>?_)
 clear hK K
 try simp only [Act.put,sy]
 refine wpAnyH_ready (rs:=[10]) (by kernel_rfl) (by simp) ?_
 refine AllReadyH.cons rfl (fun K hK=>?_) AllReadyH.nil
 go_simp
 have HV:Hid (Below W.heap.size W (W.alloc (.cells #[.int .i64 (qF x.fn y.fn),.int .i64 (qF x.line y.line)] 3)).drew):=O (bH W _).drew
 have hvb:(W.alloc (.cells #[.int .i64 (qF x.fn y.fn),.int .i64 (qF x.line y.line)] 3)).drew.heap[w.heap.size+2]?=some (.cells #[.int .i64 (qF x.fn y.fn),.int .i64 (qF x.line y.line)] 3 (0,0)):=by
  rw [<- hsz];exact heap_alloc_new W _
 refine hK.out _ _ ⟨bG (Z HV) x0,bG (Z HV) x1,bG (Z HV) y0,bG (Z HV) y1⟩ (fun hHeld=>?_)
 clear hK K
 try simp only [Act.put,sy]
 refine wpAnyH_ready (rs:=[11]) (by kernel_rfl) (by simp) ?_
 refine AllReadyH.cons rfl (fun K hK=>?_) AllReadyH.nil
 go_simp
 refine (or_any _ _ _ _ _ hvb).mono ?_
 rintro e wa ⟨rfl,rfl⟩
 refine hK.out _ _ ⟨bG (Z HV) x0,bG (Z HV) x1,bG (Z HV) y0,bG (Z HV) y1⟩ (fun hHeld=>?_)
 clear hK K
 try simp only [Act.put,sy]
 refine tka 12 4 (by assumption) ?_
 refine wpAnyH_done (by kernel_rfl) ?_ _
 go_wp2
 go_ret
 refine ⟨rfl,1,#[tE x,tE y,.cells #[.int .i64 (qF x.fn y.fn),.int .i64 (qF x.line y.line)] 3],?_⟩
 rw [Z HW,alloc_eq_grow,alloc_eq_grow,alloc_eq_grow,grow_grow,grow_grow,drew_grow]
 rfl
theorem cmpI_lt (x y:Int):qF x y<0↔x<y:=by unfold qF;split<;>(try split)<;>omega
theorem cmpI_zero (x y:Int):qF x y=0↔x=y:=by unfold qF;split<;>(try split)<;>omega
def lkLt (x y:Lk):Prop:=x.fn<y.fn∨(x.fn=y.fn/\x.line<y.line)
theorem lkCmp_lt (x y:Lk):ltOf bK1 x y=true↔lkLt x y:=by
 unfold ltOf bK1 lkLt
 rw [decide_eq_true_iff]
 have h1:=cmpI_lt x.fn y.fn
 have h2:=cmpI_lt x.line y.line
 have h3:=cmpI_zero x.fn y.fn
 split<;>omega
theorem zZ (x y:Lk):ltOf bK1 x y=false ↔ ¬ lkLt x y:=by
 rw [<- lkCmp_lt];simp
theorem lkSwo:SWO (ltOf bK1) where
 irrefl x:=by rw [zZ];unfold lkLt;omega
 trans x y z h1 h2:=by rw [lkCmp_lt] at *;unfold lkLt at *;omega
 ntrans x y z h1 h2:=by rw [zZ] at *;unfold lkLt at *;omega
def vC (x:Lk):List Value:=[.int .i64 x.fn,.int .i64 x.line]
theorem lkCmpLays (blk off size:Nat) (w:World):CmpLays Tryz.prog 119 #[] vC 2 bK1 blk off size w :=
 fun _ _ _ _ x y=>zY x y _
end
section
open Go.RowKit Go.Shelf Go.Maps Go.Sort
attribute [local go_sem ↓] Go.wp_at_zero Go.wp_at_succ
theorem bK2 (w:World):Calls Tryz.prog 213 #[.int .u64 0] w fun e w'=>e=.returned (.int .i64 0)/\w'=w:=by
 go_enter Tryz.func213,Tryz.ntmps213
 go_wp2
 go_ret
 exact ⟨by kernel_rfl,rfl⟩
theorem bitsLen_zero (w:World):Calls Tryz.prog 171 #[.int .u64 0] w fun e w'=>e=.returned (.int .i64 0)/\w'=w:=by
 go_enter Tryz.func171,Tryz.ntmps171
 go_wp2_with fail
 refine (bK2 _).mono ?_
 rintro e w1 ⟨rfl,rfl⟩
 go_wp2
 go_ret
 exact ⟨rfl,rfl⟩
theorem bK3 (fv:Value) (w:World):Calls Tryz.prog 223 #[.slice none 0 0,.int .i64 0,.int .i64 0,fv] w fun e w'=>e=.returned (.tuple #[])/\w'=w:=by
 go_enter Tryz.func223,Tryz.ntmps223
 go_wp2_with fail
 go_loopg [8] 0 (fun _ i W=>i=.int .i64 1/\W=w)
 case atStart=>exact ⟨by go_num,rfl⟩
 case round =>
  obtain ⟨rfl,rfl⟩:=hrel
  go_wp2
  go_end0
  exact ⟨rfl,rfl⟩
theorem pdq_zero (fv:Value) (w:World):Calls Tryz.prog 197 #[.slice none 0 0,.int .i64 0,.int .i64 0,.int .i64 0,fv] w fun e w'=>e=.returned (.tuple #[])/\w'=w:=by
 go_enter Tryz.func197,Tryz.ntmps197
 go_wp2_with fail
 go_loopg [1,2] 0 (fun _ a b W=>a=.int .i64 0/\b=.int .i64 0/\W=w)
 case atStart=>exact ⟨rfl,rfl,rfl⟩
 case round =>
  obtain ⟨rfl,rfl,rfl⟩:=hrel
  go_wp2_with fail
  refine (bK3 fv _).mono ?_
  rintro e w1 ⟨rfl,rfl⟩
  go_wp2
  refine bodyPost_ret (results_none rfl _ _ _) rfl ?_
  exact ⟨rfl,rfl⟩
theorem bN9 (fv:Value) (w:World):Calls Tryz.prog 164 #[.slice none 0 0,fv] w fun e w'=>e=.returned (.tuple #[])/\w'=w:=by
 go_enter Tryz.func164,Tryz.ntmps164
 go_wp2_with fail
 refine (bitsLen_zero _).mono ?_
 rintro e w1 ⟨rfl,rfl⟩
 go_wp2_with fail
 refine (pdq_zero fv _).mono ?_
 rintro e w1 ⟨rfl,rfl⟩
 go_wp2
 go_end0
 exact ⟨rfl,rfl⟩
theorem bA0 (d:Array Lk) (i:Nat):d.toList[i]! = d[i]! := by cases d;simp
def lkRow (rs:List Lk) (i j:Nat):Int:=if j=0 then rs[i]!.fn else rs[i]!.line
theorem bP0 {B:Nat} {w:World} {blk off n:Nat} {d:Array Lk} (hB:B<=blk):Below B w (putRowK vC 2 (Sort.ahead w n) blk off d):=by
 refine ⟨rfl,rfl,rfl,by simp [putRowK,Sort.ahead],fun b hb=>?_⟩
 unfold putRowK putRow mapBlock
 simp [Sort.ahead,Array.getElem?_modify]
 intro h;omega
theorem bC9 {B:Nat} {w:World} {os:Array Obj} (hB:B<=w.heap.size):Below B w (Sort.grow w os):=by
 refine ⟨rfl,rfl,rfl,by simp [Sort.grow],fun b hb=>?_⟩
 simp [Sort.grow]
 rw [Array.getElem?_append_left (by omega)]
theorem lkHolds {B:Nat} {w:World} {g cap:Nat} {ss:List Lk} (h:w.ownsRow B 185 2 (.slice (some ⟨g,0,none⟩) ss.length cap) ss.length (mC ss)):HoldsK vC 2 w g 0 ss.toArray:=by
 intro j hj
 rw [size_flatK,List.size_toArray] at hj
 rw [get_flatK _ _ _ _ (by rw [List.size_toArray];exact hj),Nat.zero_add]
 refine bL h j _ ?_
 have hd:j / 2<ss.length:=by omega
 have hall:∀ (l:List Lk) (i:Nat),i<l.length->(mC l)[i*2]?=some (.int .i64 (l[i]!).fn)/\(mC l)[i*2+1]?=some (.int .i64 (l[i]!).line):=by
  intro l
  induction l with
  | nil=>intro i hi;exact absurd hi (Nat.not_lt_zero _)
  | cons x r ih =>
   intro i hi
   cases i with
   | zero=>exact ⟨rfl,rfl⟩
   | succ i =>
    have:=ih i (by simpa using hi)
    rw [show mC (x :: r)=.int .i64 x.fn :: .int .i64 x.line :: mC r from rfl,show (i+1)*2=i*2+1+1 by omega]
    simpa only [List.getElem?_cons_succ,List.getElem!_cons_succ] using this
 obtain ⟨h0,h1⟩:=hall ss (j / 2) hd
 have hg:ss.toArray[j / 2]! = ss[j / 2]! := by simp
 rw [hg]
 rcases (show j % 2=0∨j % 2=1 by omega) with e | e
 ·rw [e,show j=j / 2*2 by omega]
  rw [show (j / 2*2) / 2=j / 2 by omega]
  exact h0
 rw [e,show j=j / 2*2+1 by omega]
 rw [show (j / 2*2+1) / 2=j / 2 by omega]
 exact h1
theorem bK4 (gf:Nat) (lb:Array Value) (N:Nat) (S Sp:List Lk->Prop) (w w0:World) (eg:∀ args w,(callFunc gf args).run Tryz.prog w=.ok (.enter gf args) w) (hN:N<=1048576) (hb0:Below w0.heap.size w0 w) (hSN:∀ ss,S ss->ss.length<=N)
  (hseq:SeqStopsK Fence.wide 5 Tryz.prog gf lb (fun x:Lk=>#[lkV x]) KeepsWalks S Sp N w0) :
  Calls Tryz.prog 117 #[.func (.func gf) #[] lb,.func (.func 119) #[] #[]] w fun e w'=>(∃ v rs,e=.returned v/\(∃ ss,S ss/\rs.Perm ss)/\(∀ i j,i<j->j<rs.length->¬ lkLt rs[j]! rs[i]!)/\eQ w.heap.size w' v 2 rs.length (lkRow rs))/\Below w.heap.size w w':=by
 have HQ:=O hseq
 have HG:=O eg
 have HB0:=O hb0
 have HSN:=O hSN
 clear hseq eg hb0 hSN
 go_enter Tryz.func117,Tryz.ntmps117
 go_wp2_with fail
 refine (collect_lk gf lb N S Sp _ w0 (Z HG) hN (Z HB0) (Z HQ)).mono ?_
 rintro e w1 ⟨⟨v,ss,rfl,hS,ho,va,vm,vc,rfl⟩,hb1⟩
 have HS:=O hS
 have HB:=O hb1
 have hlen:=Z HSN ss hS
 clear hS hb1
 rcases ho.2 with ⟨e1,e2⟩ | ⟨g,cap,cur,e1,hgB,hgh,-⟩
 ·cases e1
  have HN:Hid (ss=[]):=O (List.eq_nil_of_length_eq_zero e2)
  clear ho e2
  go_wp2_with fail
  refine (bN9 _ _).mono ?_
  rintro e w2 ⟨rfl,rfl⟩
  go_wp2
  go_ret
  refine ⟨⟨_,[],rfl,⟨ss,Z HS,by rw [Z HN]⟩,fun i j _ h=>absurd h (Nat.not_lt_zero _),eQ.nil _ _ _ _⟩,Z HB⟩
 cases e1
 have HH:=O (lkHolds ho)
 have hgl:g<w1.heap.size:=(Array.getElem?_eq_some_iff.1 hgh).1
 have HGB:=O hgB
 have hcon:=Tryz.slices_SortFunc_lk vC (fun _=>rfl) (fun x v hv=>by simp [vC] at hv;rcases hv with rfl | rfl<;>rfl) bK1 lkSwo 119 #[] g 0 vc ss.toArray w1 (enters_of Tryz.func119 (by kernel_rfl) rfl) (lkCmpLays _ _ _ _) (Z HH) hgl (by simp;omega)
 rw [List.size_toArray] at hcon
 have HC:=O hcon
 clear ho hgh hgB hcon
 go_wp2_with fail
 refine (Z HC).mono ?_
 rintro e w2 ⟨rfl,d',n1,os,⟨hp1,-,hp2⟩,hso,hw2⟩
 replace hp1:d'.size=ss.length:=hp1
 have hpm:d'.toList.Perm ss:=by
  have e1:d'.extract 0 ss.length=d':=by rw [<- hp1];simp
  have e2:ss.toArray.extract 0 ss.length=ss.toArray:=by simp
  rw [e1,e2] at hp2
  exact hp2
 have hHK:HoldsK vC 2 w2 g 0 d':=by
  have h0:Holds id (putRow id (Sort.ahead w1 n1) g 0 (flatK vC 2 d')) g 0 (flatK vC 2 d'):=Sort.holds_putRow _ _ _ _ _ _ (show Holds id (Sort.ahead w1 n1) g 0 (flatK vC 2 ss.toArray) from fun j hj=>Z HH j hj) (by rw [size_flatK,size_flatK,hp1];rfl)
  intro j hj
  obtain ⟨c1,c2⟩:=h0 j hj
  have hb:Below (putRow id (Sort.ahead w1 n1) g 0 (flatK vC 2 d')).heap.size (putRow id (Sort.ahead w1 n1) g 0 (flatK vC 2 d')) w2:=by rw [hw2];exact bC9 (Nat.le_refl _)
  exact ⟨bG hb c1,by rw [hb.frozen (bV c1)];exact c2⟩
 have HB2:Hid (Below w.heap.size w w2):=O (by
  rw [hw2]
  refine ((Z HB).trans (bP0 (Z HGB))).trans (bC9 ?_)
  have:=(Z HB).size
  simp [putRowK,Sort.ahead]
  omega)
 have HHK:=O hHK
 have HPM:=O hpm
 have HSO:=O hso
 have HLE:Hid (d'.toList.length=ss.length):=O (by rw [Array.length_toList];exact hp1)
 clear hw2 hHK hpm hp1 hp2 hso
 go_wp2
 go_ret
 refine ⟨⟨_,d'.toList,rfl,⟨ss,Z HS,Z HPM⟩,fun i j hij hj=>?_,?_⟩,Z HB2⟩
 ·have:=Z HSO i j (Nat.zero_le _) hij (by rw [<- Z HLE];exact hj)
  rw [zZ] at this
  rw [bA0,bA0]
  exact this
 rw [Z HLE]
 refine ⟨_,_,rfl,fun i hi=>⟨g,rfl,Z HGB,fun j hj=>?_⟩⟩
 have hz:d'.size=ss.length:=by rw [<- Array.length_toList];exact Z HLE
 obtain ⟨c1,c2⟩:=Z HHK (i*2+j) (by rw [size_flatK,hz];omega)
 rw [Nat.zero_add] at c1 c2
 refine ⟨?_,c2⟩
 rw [c1,get_flatK _ _ _ _ (by rw [hz];omega),show (i*2+j) / 2=i by omega,show (i*2+j) % 2=j by omega]
 unfold lkRow
 rw [bA0]
 rcases (show j=0∨j=1 by omega) with rfl | rfl
 ·rfl
 rfl
end
section
open Go.RowKit Go.Maps
attribute [local go_sem ↓] Go.wp_at_zero Go.wp_at_succ
theorem bK5:(Tryz.prog.info? 104).map (fun i=>(i.zero,i.size,i.bytes))=some (some (.agg #[.int .i64 0,.int .i64 0,.int .i64 0]),3,24):=by kernel_rfl
def lcOf (f:Nat->M) (k:Nat) (p:Lk):Lc:=⟨p.fn,p.line,lcN f k p.fn p.line⟩
theorem lcN_from {f:Nat->M} {a b:Int}:∀ {k:Nat},1<=lcN f k a b->∃ i,i<k/\(f i).fn=a/\(f i).line=b
 | 0,h=>absurd (show (1:Int)<=0 from h) (by decide)
 | k+1,h=>by
  rw [gX] at h
  by_cases e:(f k).kind=1/\(f k).fn=a/\(f k).line=b
  ·exact ⟨k,Nat.lt_succ_self _,e.2⟩
  rw [if_neg e] at h
  obtain ⟨i,hi,h2⟩:=lcN_from (f:=f) (a:=a) (b:=b) (k:=k) (by omega)
  exact ⟨i,by omega,h2⟩
theorem lcN_wf {nf:Nat} {fns:Nat->ByteArray} {n:Nat} {f:Nat->M} {a b:Int} (hS:cB nf fns n f) (h:1<=lcN f n a b):(Lit.int .i64 a).wf=true/\(Lit.int .i64 b).wf=true:=by
 obtain ⟨i,hi,rfl,rfl⟩:=lcN_from h
 have hmo:=(hS.2.1 i hi).1
 have h0:=hS.1.2.1
 have h1:0<=(f i).fn:=hmo.2.2.2.2.1
 have h2:(f i).fn<nf:=hmo.2.2.2.2.2.1
 have h3:0<=(f i).line:=hmo.2.2.2.2.2.2.1
 have h4:(f i).line<=100000:=hmo.2.2.2.2.2.2.2.1
 exact ⟨WalkArith.wf_i64 (by omega),WalkArith.wf_i64 (by omega)⟩
theorem keys_wf {nf:Nat} {fns:Nat->ByteArray} {n:Nat} {f:Nat->M} {ss rs:List Lk} (hS:cB nf fns n f) (hk:bE7 (lcN f n) n ss) (hp:rs.Perm ss) (q:Nat) (hq:q<rs.length):(Lit.int .i64 rs[q]!.fn).wf=true/\(Lit.int .i64 rs[q]!.line).wf=true:=by
 rw [getElem!_pos rs q hq]
 exact lcN_wf hS (hk.has _ (hp.mem_iff.1 (List.getElem_mem hq)))
theorem lcIs_of {nf:Nat} {fns:Nat->ByteArray} {n:Nat} {f:Nat->M} {ss rs:List Lk} (hS:cB nf fns n f) (hk:bE7 (lcN f n) n ss) (hp:rs.Perm ss) (hso:∀ i j,i<j->j<rs.length->¬ lkLt rs[j]! rs[i]!):kT f n (rs.map (lcOf f n)):=by
 have hnd:rs.Nodup:=hp.nodup_iff.2 hk.nodup
 refine ⟨?_,fun r hr=>?_,fun a b hab=>?_⟩
 ·rw [List.pairwise_map,List.pairwise_iff_getElem]
  intro i j hi hj hij
  have h1:=hso i j hij hj
  rw [getElem!_pos rs i hi,getElem!_pos rs j hj] at h1
  have h2:rs[i]≠rs[j]:=List.pairwise_iff_getElem.1 hnd i j hi hj hij
  have h3:¬ (rs[i].fn=rs[j].fn/\rs[i].line=rs[j].line):=fun e=>h2 (by
   generalize rs[i]=x at e
   generalize rs[j]=y at e
   cases x;cases y
   simp only at e
   rw [e.1,e.2])
  show rs[i].fn<rs[j].fn∨(rs[i].fn=rs[j].fn/\rs[i].line<rs[j].line)
  unfold lkLt at h1
  omega
 ·obtain ⟨p,hp2,rfl⟩:=List.mem_map.1 hr
  exact ⟨rfl,hk.has p (hp.mem_iff.1 hp2)⟩
 obtain ⟨wa,wb⟩:=lcN_wf hS hab
 have:=hk.all ⟨a,b⟩ wa wb hab
 exact ⟨_,List.mem_map_of_mem (hp.mem_iff.2 this),rfl,rfl⟩
theorem xT (lo:Nat) (v1 v2:Value) (nf:Nat) (fns:Nat->ByteArray) (n:Nat) (f:Nat->M) (w:World) (h1:eE lo w v1 nf fns) (h2:bQ lo w v2 n f) :
  Calls Tryz.prog 44 #[.agg #[v1,v2]] w fun e w'=>(∃ v n' F,e=.returned v/\LcAns nf fns n f n' F/\eQ w.heap.size w' v 3 n' F)/\Below w.heap.size w w':=by
 obtain ⟨i0,hi0,hz0,hz1,hz2⟩:=info_parts bK5
 have II:=O (And.intro hi0 (And.intro hz0 (And.intro hz1 hz2)));clear hi0 hz0 hz1 hz2
 have H1:=O h1
 have H2:=O h2
 obtain ⟨a1,cap1,rfl,hn1,-⟩:=h1
 obtain ⟨a2,cap2,rfl,hn2,-⟩:=h2
 unfold maxLen at hn1 hn2
 have T0:=O (cS.new w (.slice a1 nf cap1) (.slice a2 n cap2))
 go_enter Tryz.func44,Tryz.ntmps44
 go_wp2_with fail
 refine (bD5 lo _ _ nf fns n f _ ((Z H1).below (Z T0).below) ((Z H2).below (Z T0).below)).mono ?_
 rintro e w1 ⟨⟨c,m,rfl,ha⟩,hb1⟩
 have T1:=O ((Z T0).go hb1)
 clear hb1 T0
 by_cases hc:c=0
 ·have hS:=ha.zero.1.1 hc
  have HS:=O hS
  have hm:=ha.zero.2 hc
  have hnf:nf<=300:=hS.1.2.1
  have hn3:n<=3000:=hS.1.2.2.1
  subst hm
  subst hc
  clear ha hS
  have g1:=(Z T1).b1
  have hwl:w.heap.size+1<=w1.heap.size:=(Z T1).size
  have HM0:=O ((dH.made w1).congr (g':=lcN f 0) (fun _ _=>rfl))
  have T2:=O ((Z T1).go (bH w1 (.map #[] 0)))
  have hmm:=@run_makeMap Tryz.prog
  go_upto_region 4 with fail
  clear hmm
  obtain ⟨b,hb⟩:∃ b,b=w1.heap.size:=⟨_,rfl⟩
  rw [<- hb] at HM0 hwl ⊢
  clear hb
  generalize w1.alloc (.map #[] 0)=W1 at HM0 T2 ⊢
  have g1:=(Z T2).b1
  go_wp2_with fail
  go_loopg [17] n (fun gg i W=>∃ (k:Nat) (D:DataW Unit),k+gg=n/\i=.int .i64 k/\dH W b k D (lcN f k)/\cS w (.slice a1 nf cap1) (.slice a2 n cap2) W)
  case atStart=>exact ⟨0,_,by omega,rfl,Z HM0,Z T2⟩
  case round =>
   clear HM0 T2 g1
   obtain ⟨k,D,hk,rfl,hl,ht⟩:=hrel
   have HL:=O hl
   have HT:=O ht
   have hbl:b<wr.heap.size:=hl.lt
   clear hl ht
   by_cases hlt:k<n
   ·obtain ⟨_,_,e,_,hv⟩:=(Z H2).below (Z HT).below
    cases e
    obtain ⟨bm,om,vv,rfl,hc0,hc1,hc2,hc3,hc4,hc5,-,hs2,-⟩:=hv k hlt
    clear hv
    obtain ⟨av,capv,rfl,-⟩:=hs2
    have hmo:=(Z HS).2.1 k hlt
    have hf1:0<=(f k).fn:=hmo.1.2.2.2.2.1
    have hf2:(f k).fn<nf:=hmo.1.2.2.2.2.2.1
    have hf3:0<=(f k).line:=hmo.1.2.2.2.2.2.2.1
    have hf4:(f k).line<=100000:=hmo.1.2.2.2.2.2.2.2.1
    clear hmo
    have hkn:(k:Int)<(n:Int):=by omega
    have hkz:(0:Int)<=(k:Int):=by omega
    have wq:IntKind.i64.wrap ((k:Int)+1)=((k+1:Nat):Int):=by rw [IntKind.wrap_i64];omega
    generalize hkk:(f k).kind=kk at hc0
    have HKK:=O hkk
    clear hkk
    have HBA:=O (bH wr (.cells #[.int .i64 kk,.int .i64 (f k).task,.int .i64 (f k).fn,.int .i64 (f k).line,.string (f k).text,.slice av (f k).nv capv] 108))
    have HBX:=O (heap_alloc_new wr (.cells #[.int .i64 kk,.int .i64 (f k).task,.int .i64 (f k).fn,.int .i64 (f k).line,.string (f k).text,.slice av (f k).nv capv] 108))
    by_cases k1:kk=1
    ·have k1b:(kk == 1)=true:=by simpa using k1
     have HK1:=O k1
     clear k1
     go_upto_region 8 with fail
     have HL2:=O ((Z HL).below (Z HBA))
     have HT2:=O ((Z HT).go (Z HBA))
     have hsz:wr.heap.size<(wr.alloc (.cells #[.int .i64 kk,.int .i64 (f k).task,.int .i64 (f k).fn,.int .i64 (f k).line,.string (f k).text,.slice av (f k).nv capv] 108)).heap.size:=by simp
     generalize wr.alloc (.cells #[.int .i64 kk,.int .i64 (f k).task,.int .i64 (f k).fn,.int .i64 (f k).line,.string (f k).text,.slice av (f k).nv capv] 108)=W3 at HL2 HT2 HBX hsz ⊢
     have c2:W3.cell? ⟨wr.heap.size,2,none⟩=some (.int .i64 (f k).fn):=by rw [cell_of_row W3 _ 2 _ _ _ (Z HBX)];rfl
     have c3:W3.cell? ⟨wr.heap.size,3,none⟩=some (.int .i64 (f k).line):=by rw [cell_of_row W3 _ 3 _ _ _ (Z HBX)];rfl
     have HL3:Hid (dH W3.drew b k D (lcN f k)):=O ((Z HL2).of_block rfl)
     have hx:=rD f (f k).fn (f k).line k
     clear hc0 hc1 hc2 hc3 hc4 hc5 HBA HBX HL HT HL2
     generalize hxx:lcN f k (f k).fn (f k).line=x at hx
     have HXX:=O hxx
     have wx:IntKind.i64.wrap (x+1)=x+1:=by rw [IntKind.wrap_i64];omega
     have wfa:(Lit.int .i64 (f k).fn).wf=true:=WalkArith.wf_i64 (by omega)
     have wfb:(Lit.int .i64 (f k).line).wf=true:=WalkArith.wf_i64 (by omega)
     have wfx:(Lit.int .i64 (x+1)).wf=true:=WalkArith.wf_i64 (by omega)
     clear hxx
     refine wp_region_held_drew (S:=fun w'=>w'.cell? ⟨wr.heap.size,2,none⟩=some (.int .i64 (f k).fn)/\w'.cell? ⟨wr.heap.size,3,none⟩=some (.int .i64 (f k).line)) (by kernel_rfl) ⟨c2,c3⟩ (fun hHeld=>?_)
     refine tka 0 24 (by assumption) ?_
     refine tka 1 25 (by assumption) ?_
     refine tka 2 26 (by assumption) ?_
     refine tka 3 27 (by assumption) ?_
     refine tka 4 28 (by assumption) ?_
     refine tka 5 29 (by assumption) ?_
     have hlk:(Instr.lookup 183 (.map (some b)) (.agg #[.int .i64 (f k).fn,.int .i64 (f k).line]) false).run Tryz.prog W3.drew=.ok (.int .i64 x) W3.drew:=by
      have h:=(Z HL3).look ⟨(f k).fn,(f k).line⟩ wfa wfb
      rw [<- Z HXX];exact h
     obtain ⟨v0,st,W4,hen,hg4,hlk4,W5,D5,hst,hl5,hg5⟩:=(Z HL3).entry (by unfold maxLen;omega) ⟨(f k).fn,(f k).line⟩ wfa wfb (x+1) (by omega) wfx
     replace hlk4:(Instr.lookup 183 (.map (some b)) (.agg #[.int .i64 (f k).fn,.int .i64 (f k).line]) false).run Tryz.prog W4=.ok (.int .i64 x) W4:=by rw [<- Z HXX];exact hlk4
     have HL5:=O hl5
     have HG5:=O hg5
     have c24:W4.cell? ⟨wr.heap.size,2,none⟩=some (.int .i64 (f k).fn):=(World.cell?_of_block (hg4.block _ hsz (by simp;omega))).trans c2
     have c34:W4.cell? ⟨wr.heap.size,3,none⟩=some (.int .i64 (f k).line):=(World.cell?_of_block (hg4.block _ hsz (by simp;omega))).trans c3
     have c25:W5.cell? ⟨wr.heap.size,2,none⟩=some (.int .i64 (f k).fn):=(World.cell?_of_block (hg5.block _ hsz (by simp;omega))).trans c2
     have c35:W5.cell? ⟨wr.heap.size,3,none⟩=some (.int .i64 (f k).line):=(World.cell?_of_block (hg5.block _ hsz (by simp;omega))).trans c3
     clear hl5 hg5 hg4
     refine wpAnyH_ready (rs:=[6,8]) (by kernel_rfl) (by simp) ?_
     refine AllReadyH.cons rfl (fun K hK=>?_) (AllReadyH.cons rfl (fun K hK=>?_) AllReadyH.nil)
     ·go_simp
      refine hK.out _ _ ⟨c2,c3⟩ (fun hHeld=>?_)
      clear hK K
      try simp only [Act.put,sy]
      clear hlk hlk4
      refine tka 7 31 (by assumption) ?_
      refine wpAnyH_ready (rs:=[8]) (by kernel_rfl) (by simp) ?_
      refine AllReadyH.cons rfl (fun K hK=>?_) AllReadyH.nil
      go_simp
      refine hK.out _ _ ⟨c24,c34⟩ (fun hHeld=>?_)
      clear hK K
      try simp only [Act.put,sy]
      refine tka 9 33 (by assumption) ?_
      refine wpAnyH_ready (rs:=[10]) (by kernel_rfl) (by simp) ?_
      refine AllReadyH.cons rfl (fun K hK=>?_) AllReadyH.nil
      go_simp
      refine hK.out _ _ ⟨c25,c35⟩ (fun hHeld=>?_)
      clear hK K
      try simp only [Act.put,sy]
      refine wpAnyH_done (by kernel_rfl) ?_ _
      clear hst hen
      have HT5:Hid (cS w (.slice a1 nf cap1) (.slice (some ⟨bm,om,none⟩) n cap2) W5):=O (Below.grown ((Z HT2).go ((Below.refl _ _).drew)) (Z HG5) (by have:=(Z HT2).size;exact this) (fun b' e=>by injection e with e;omega))
      clear c2 c3 c24 c34 c25 c35 hHeld wx HL3 HT2
      go_wp2_with fail
      go_roundg (n - (k+1))
      case measure=>omega
      case rel =>
       refine ⟨k+1,D5,by omega,by go_num,(Z HL5).congr (fun a c=>?_),Z HT5⟩
       rw [gX]
       show (if a=(f k).fn/\c=(f k).line then x+1 else lcN f k a c)=_
       by_cases e:a=(f k).fn/\c=(f k).line
       ·rw [if_pos e,if_pos ⟨by rw [Z HKK];exact Z HK1,e.1.symm,e.2.symm⟩,e.1,e.2,Z HXX]
       rw [if_neg e,if_neg (fun h=>e ⟨h.2.1.symm,h.2.2.symm⟩)]
       omega
     go_simp
     refine hK.out _ _ ⟨c24,c34⟩ (fun hHeld=>?_)
     clear hK K
     try simp only [Act.put,sy]
     clear hlk
     refine tka 9 33 (by assumption) ?_
     refine wpAnyH_ready (rs:=[6]) (by kernel_rfl) (by simp) ?_
     refine AllReadyH.cons rfl (fun K hK=>?_) AllReadyH.nil
     go_simp
     refine hK.out _ _ ⟨c24,c34⟩ (fun hHeld=>?_)
     clear hK K
     try simp only [Act.put,sy]
     clear hlk4
     refine tka 7 31 (by assumption) ?_
     refine wpAnyH_ready (rs:=[10]) (by kernel_rfl) (by simp) ?_
     refine AllReadyH.cons rfl (fun K hK=>?_) AllReadyH.nil
     go_simp
     refine hK.out _ _ ⟨c25,c35⟩ (fun hHeld=>?_)
     clear hK K
     try simp only [Act.put,sy]
     refine wpAnyH_done (by kernel_rfl) ?_ _
     clear hst hen
     have HT5:Hid (cS w (.slice a1 nf cap1) (.slice (some ⟨bm,om,none⟩) n cap2) W5):=O (Below.grown ((Z HT2).go ((Below.refl _ _).drew)) (Z HG5) (by have:=(Z HT2).size;exact this) (fun b' e=>by injection e with e;omega))
     clear c2 c3 c24 c34 c25 c35 hHeld wx HL3 HT2
     go_wp2_with fail
     go_roundg (n - (k+1))
     case measure=>omega
     case rel =>
      refine ⟨k+1,D5,by omega,by go_num,(Z HL5).congr (fun a c=>?_),Z HT5⟩
      rw [gX]
      show (if a=(f k).fn/\c=(f k).line then x+1 else lcN f k a c)=_
      by_cases e:a=(f k).fn/\c=(f k).line
      ·rw [if_pos e,if_pos ⟨by rw [Z HKK];exact Z HK1,e.1.symm,e.2.symm⟩,e.1,e.2,Z HXX]
      rw [if_neg e,if_neg (fun h=>e ⟨h.2.1.symm,h.2.2.symm⟩)]
      omega
    have k1b:(kk == 1)=false:=by simpa using k1
    have HK1:=O k1
    clear k1
    go_wp2_with fail
    go_roundg (n - (k+1))
    case measure=>omega
    case rel =>
     refine ⟨k+1,D,by omega,by go_num,(((Z HL).below (Z HBA)).mono (Nat.le_succ _)).congr (fun a c=>?_),(Z HT).go (Z HBA)⟩
     rw [gX,if_neg (fun h=>Z HK1 (by rw [<- Z HKK];exact h.1))]
     omega
   obtain rfl:k=n:=by omega
   have HBM:=O (bH wr (.cells #[.map (some b)] 183))
   have HBX:=O (heap_alloc_new wr (.cells #[.map (some b)] 183))
   have HL2:=O ((Z HL).below (Z HBM))
   have HT2:=O ((Z HT).go (Z HBM))
   go_wp2_with fail
   refine (callsIn_wide.1 (keys_in 5 (some b) _)).mono ?_
   rintro e w2 ⟨rfl,rfl⟩
   have hsz:wr.heap.size<(wr.alloc (.cells #[.map (some b)] 183)).heap.size:=by simp
   generalize wr.alloc (.cells #[.map (some b)] 183)=W2 at HL2 HT2 HBX HBM hsz ⊢
   have hcb:W2.cell? ⟨wr.heap.size,0,none⟩=some (.map (some b)):=by rw [cell_of_row W2 _ 0 _ _ _ (Z HBX)];rfl
   have HSQ:=O (keys_stops 5 (by omega) wr.heap.size b k D (lcN f k) W2 hsz hcb (Z HL2))
   clear hcb HBX HBM HL HT
   go_wp2_with fail
   refine (bK4 165 _ k _ _ W2 W2 (enters_of Tryz.func165 (by kernel_rfl) rfl) (by omega) (Below.refl _ _) (fun ss hs=>hs.len) (Z HSQ)).mono ?_
   rintro e wB ⟨⟨rv,rs,rfl,⟨ss,hks,hpm⟩,hso,hrow⟩,hbB⟩
   have HLI:=O (lcIs_of (Z HS) hks hpm hso)
   have hrl:rs.length<=k:=by rw [hpm.length_eq];exact hks.len
   have HWF:Hid (∀ q,q<rs.length->(Lit.int .i64 rs[q]!.fn).wf=true/\(Lit.int .i64 rs[q]!.line).wf=true):=O (fun q hq=>keys_wf (Z HS) hks hpm q hq)
   have HR:=O hrow
   obtain ⟨ra,rc,rfl⟩:=hrow.shape
   have HL3:=O ((Z HL2).below hbB)
   have HT3:=O ((Z HT2).go hbB)
   obtain ⟨L,hL⟩:∃ L,L=rs.map (lcOf f k):=⟨_,rfl⟩
   have hLl:L.length=rs.length:=by rw [hL,List.length_map]
   have HLE:Hid (∀ q (h:q<L.length),L[q]=lcOf f k rs[q]!):=O (fun q h=>by
    subst hL
    rw [List.getElem_map,getElem!_pos rs q (by omega)])
   rw [<- hL] at HLI
   clear hL hks hpm hso hrow hbB HL2 HT2 HSQ
   obtain ⟨B,hB⟩:∃ B,B=wB.heap.size:=⟨_,rfl⟩
   have HBE:=O hB
   have hbB2:b<B:=by rw [hB];exact (Z HL3).lt
   clear hB
   go_wp2_with fail
   go_loopg [6,39] rs.length (fun gg lv i W=>∃ (q:Nat) (la:Option Addr) (lc:Nat),q+gg=rs.length/\lv=.slice la q lc/\i=.int .i64 q/\W.ownsRow B 104 3 (.slice la q lc) q (dZ (L.take q))/\dH W b k D (lcN f k)/\Below B wB W)
   case atStart=>exact ⟨0,none,0,by omega,rfl,rfl,World.ownsRow_nil _ _ _ _,Z HL3,Below.refl _ _⟩
   case round =>
    clear HL3
    obtain ⟨q,la,lc,hq,rfl,rfl,ho,hl,hbw⟩:=hrel
    have HO:=O ho
    have HL:=O hl
    have HBW:=O hbw
    have hBr:B<=wr.heap.size:=by rw [Z HBE];exact hbw.size
    clear ho hl hbw
    by_cases hlt:q<rs.length
    ·as_aux_lemma =>
      obtain ⟨_,_,ec,hrow⟩:=(Z HR).below ((Z HBW).mono (by rw [Z HBE];exact Nat.le_refl _))
      cases ec
      obtain ⟨rb,rfl,-,hcr⟩:=hrow q hlt
      obtain ⟨wfa,wfb⟩:=Z HWF q hlt
      have e0:=(hcr 0 (by omega)).1
      have e1:=(hcr 1 (by omega)).1
      unfold lkRow at e0 e1
      rw [if_pos rfl] at e0
      rw [if_neg (by omega)] at e1
      have HTK:Hid (L.take (q+1)=L.take q ++ [lcOf f k rs[q]!]):=O (by
       rw [List.take_add_one,List.getElem?_eq_getElem (by omega),Z HLE q (by omega)];rfl)
      generalize rs[q]! = p at e0 e1 HTK wfa wfb
      have hi0:(0:Int)<=(q:Int):=by omega
      have hi1:(q:Int)<(rs.length:Int):=by omega
      have wq:IntKind.i64.wrap ((q:Int)+1)=((q+1:Nat):Int):=by rw [IntKind.wrap_i64];omega
      have HBA:=O (bH wr (.cells #[.int .i64 p.fn,.int .i64 p.line] 185))
      have HKB:=O (heap_alloc_new wr (.cells #[.int .i64 p.fn,.int .i64 p.line] 185))
      have hs4:(wr.alloc (.cells #[.int .i64 p.fn,.int .i64 p.line] 185)).heap.size=wr.heap.size+1:=by simp
      clear hcr hrow
      rw [Nat.add_zero] at e0
      go_upto_region 14 with fail
      have HO4:=O (bN (Z HO) (Z HBA))
      have HL4:=O ((Z HL).below (Z HBA))
      have HBW4:=O ((Z HBW).trans ((Z HBA).mono hBr))
      generalize wr.alloc (.cells #[.int .i64 p.fn,.int .i64 p.line] 185)=W4 at HO4 HL4 HBW4 HKB hs4 ⊢
      have c0:W4.cell? ⟨wr.heap.size,0,none⟩=some (.int .i64 p.fn):=by rw [cell_of_row W4 _ 0 _ _ _ (Z HKB)];rfl
      have c1:W4.cell? ⟨wr.heap.size,1,none⟩=some (.int .i64 p.line):=by rw [cell_of_row W4 _ 1 _ _ _ (Z HKB)];rfl
      obtain ⟨x,hx⟩:∃ x,x=lcN f k p.fn p.line:=⟨_,rfl⟩
      have HTK2:Hid (dZ [lcOf f k p]=[.int .i64 p.fn,.int .i64 p.line,.int .i64 x]):=O (by rw [hx];rfl)
      have lookX:∀ wx:World,wx.heap[b]?=W4.heap[b]?->(Instr.lookup 183 (.map (some b)) (.agg #[.int .i64 p.fn,.int .i64 p.line]) false).run Tryz.prog wx=.ok (.int .i64 x) wx:=fun wx hw=>by
       rw [hx];exact ((Z HL4).of_block hw).look p wfa wfb
      clear hx HO HL HBW HBA e0 e1
      refine wp_region_held_drew (S:=fun w'=>w'.cell? ⟨wr.heap.size,0,none⟩=some (.int .i64 p.fn)/\w'.cell? ⟨wr.heap.size,1,none⟩=some (.int .i64 p.line)/\w'.heap[b]?=W4.heap[b]?) (by kernel_rfl) ⟨c0,c1,rfl⟩ (fun hHeld=>?_)
      refine tka 0 43 (by assumption) ?_
      refine tka 1 44 (by assumption) ?_
      refine tka 2 45 (by assumption) ?_
      refine tka 3 46 (by assumption) ?_
      refine tka 4 47 (by assumption) ?_
      refine tka 5 48 (by assumption) ?_
      refine tka 6 49 (by assumption) ?_
      refine tkx 7 50 ?hy7n (by assumption) ?r7n (v:=?v7n)
      case hy7n=>intro wx hSw;have hlk:=lookX wx hSw.2.2;go_simp;with_reducible rfl
      simp only [Act.put,sx]
      refine tka 8 51 (by assumption) ?_
      refine wpAnyH_ready (rs:=[9]) (by kernel_rfl) (by simp) ?_
      refine AllReadyH.cons rfl (fun K hK=>?_) AllReadyH.nil
      go_simp
      have HV:Hid (Below W4.heap.size W4 (W4.alloc (.cells #[.int .i64 p.fn,.int .i64 p.line,.int .i64 x] 104)).drew):=O (bH W4 _).drew
      have hmb:(W4.alloc (.cells #[.int .i64 p.fn,.int .i64 p.line,.int .i64 x] 104)).drew.heap[wr.heap.size+1]?=some (.cells #[.int .i64 p.fn,.int .i64 p.line,.int .i64 x] 104 (0,0)):=by rw [<- hs4];exact heap_alloc_new W4 _
      have HO5:=O (bN (Z HO4) (Z HV))
      have hs5:(W4.alloc (.cells #[.int .i64 p.fn,.int .i64 p.line,.int .i64 x] 104)).drew.heap.size=W4.heap.size+1:=by show (W4.alloc _).heap.size=_;simp
      refine hK.out _ _ ⟨bG (Z HV) c0,bG (Z HV) c1,(Z HV).block _ (by omega)⟩ (fun hHeld=>?_)
      clear hK K
      try simp only [Act.put,sy]
      have HMB:=O hmb
      clear hmb
      generalize (W4.alloc (.cells #[.int .i64 p.fn,.int .i64 p.line,.int .i64 x] 104)).drew=W5 at HV HMB HO5 hs5 hHeld ⊢
      refine wpAnyH_ready (rs:=[10]) (by kernel_rfl) (by simp) ?_
      refine AllReadyH.cons rfl (fun K hK=>?_) AllReadyH.nil
      refine step_append_lies _ (by rfl) _ _ _ (by rfl) B 104 i0 _ 3 24 Tryz.underlying94 (Z II).1 (Z II).2.1 (Z II).2.2.1 (Z II).2.2.2 rfl (by omega) (.slice la q lc) q (dZ (L.take q)) (by rfl) (Z HO5) ⟨wr.heap.size+1,0,none⟩ 1 1 [.int .i64 p.fn,.int .i64 p.line,.int .i64 x] (by rfl) (by rfl) (World.news_of_block (cs:=#[.int .i64 p.fn,.int .i64 p.line,.int .i64 x]) (t:=104) (fr:=(0,0)) (Z HMB)) (by simp [Value.oneCell'])
       (by omega) (by unfold maxLen;omega) (by omega) (by omega) (W4.heap.size+1) (by omega) ?_
      intro g2 cp2 w7 hown hgrow _ _
      have hbk:∀ j,j<W4.heap.size->(∀ cs fr,W4.heap[j]? ≠ some (.cells cs 104 fr))->w7.heap[j]?=W4.heap[j]?:=fun j hj hne=>by
       have h5:W5.heap[j]?=W4.heap[j]?:=(Z HV).block j hj
       rw [hgrow.block j (by omega) (fun e=>?_),h5]
       obtain ⟨-,cs,fr,e2⟩:=zX (Z HO5) j e.symm
       rw [h5] at e2
       exact hne cs fr e2
      have kb7:w7.heap[wr.heap.size]?=W4.heap[wr.heap.size]?:=hbk _ (by omega) (fun cs fr e=>by rw [Z HKB] at e;cases e)
      have mb7:w7.heap[b]?=W4.heap[b]?:=hbk _ (by omega) (fun cs fr e=>by obtain ⟨es,ck,h0,-⟩:=(Z HL4).1;rw [h0] at e;cases e)
      have HM7:=O ((Z HL4).of_block mb7)
      have HBW7:Hid (Below B wB w7):=O (Below.grown ((Z HBW4).trans ((Z HV).mono (by omega))) hgrow (by omega) (fun j e=>(zX (Z HO5) j e).1))
      have HO7:Hid (w7.ownsRow B 104 3 (.slice (some ⟨g2,0,none⟩) (q+1) cp2) (q+1) (dZ (L.take (q+1)))):=O (by
       rw [Z HTK,bC5,Z HTK2]
       exact hown)
      clear hown hgrow hbk
      refine hK.out _ _ ⟨(World.cell?_of_block kb7).trans c0,(World.cell?_of_block kb7).trans c1,mb7⟩ (fun hHeld=>?_)
      clear hK K
      try simp only [Act.put,sy]
      refine tka 11 6 (by assumption) ?_
      refine wpAnyH_done (by kernel_rfl) ?_ _
      clear kb7 mb7 c0 c1 hHeld lookX
      go_wp2_with fail
      go_roundg (rs.length - (q+1))
      case measure=>omega
      case rel=>exact ⟨q+1,_,_,by omega,rfl,by go_num,Z HO7,Z HM7,Z HBW7⟩
    obtain rfl:q=rs.length:=by omega
    go_wp2_with fail
    go_ret
    refine ⟨⟨_,rs.length,fun i j=>if h:i<L.length then xQ L[i] j else 0,rfl,.inl ⟨Z HS,L,Z HLI,hLl.symm,fun i j h _=>dif_pos h⟩,?_⟩,?_⟩
    ·have hr:=eQ.of_owns (F:=fun i j=>if h:i<L.length then xQ L[i] j else 0) (Z HO) (fun i j hi hj=>by
      rw [<- hLl,List.take_length,dif_pos (by omega)]
      obtain ⟨h0,h1,h2⟩:=kV L i (by omega)
      rcases (show j=0∨j=1∨j=2 by omega) with rfl | rfl | rfl
      ·exact h0
      ·exact h1
      exact h2)
     exact hr.low (by have:=(Z HT3).below.size;rw [Z HBE];exact this)
    exact (Z HT3).below.trans ((Z HBW).mono (by have:=(Z HT3).below.size;rw [Z HBE];exact this))
 have HN:Hid (¬ cB nf fns n f):=O (fun h=>hc (ha.zero.1.2 h))
 have hcb:(c == 0)=false:=by simpa using hc
 clear ha
 go_wp2_with fail
 go_ret
 exact ⟨⟨_,0,fun _ _=>0,rfl,.inr ⟨Z HN,rfl⟩,eQ.nil _ _ _ _⟩,(Z T1).below⟩
end
end Go.Proofs.YtmnmeaeicjhkhaaGreatDoor
