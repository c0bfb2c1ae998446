import Derived.Test.YtmnmeaeicjhkhaaGreatDoorGEdx
set_option maxRecDepth 100000
set_option maxHeartbeats 16000000
namespace Go.Proofs.YtmnmeaeicjhkhaaGreatDoor
section
open Go.RowKit Go.Shelf
def SeqOwn {α:Type} (F:Fence) (n:Nat) (P:Program) (gf:Nat) (lb:Array Value) (encs:α->Array Value) (Kp:World->World->Prop) (S Sp:List α->Prop) (w:World):Prop :=
 ∀ (l:Nat) (J Jx:List α->World->Prop) (W:World),Below w.heap.size w W->(∀ s A B,J s A->Below W.heap.size A B->J s B)->(∀ s A B,Jx s A->Below W.heap.size A B->Jx s B) ->
  (∀ pre x A,J pre A->YieldAt F (n - 1) P l (encs x) A fun e B=>(e=.returned (.bool true)/\J (pre ++ [x]) B/\Kp A B)∨(e=.returned (.bool false)/\Jx (pre ++ [x]) B)) ->
  J [] W->CallsIn F n P gf (#[.func (.yield l) #[] #[]] ++ lb) W fun e B=>(∃ v,e=.returned v)/\((∃ xs,S xs/\J xs B)∨(∃ pre,Sp pre/\Jx pre B))
theorem fM (w W:World) (l:Nat) (o:Obj) (hl:w.heap.size<=l):Below w.heap.size W (W.putObj l o) :=
 ⟨rfl,rfl,rfl,by simp [World.putObj],fun k hk=>World.putObj_heap_other (by omega)⟩
theorem bN7 {w W W':World} {o1 o2:Obj} (h:KeepsFrom w.heap.size W W') (h1:W.heap[w.heap.size]?=some o1) (n1:o1.isCells=false) (h2:W.heap[w.heap.size+1]?=some o2) (n2:o2.isCells=false):W'.heap[w.heap.size]?=some o1/\W'.heap[w.heap.size+1]?=some o2 :=
 ⟨h.same _ _ (Nat.le_refl _) h1 n1,h.same _ _ (by omega) h2 n2⟩
theorem qD {α:Type} {F:Fence} {n:Nat} {P:Program} {g:Operand} {ps:Array Tmp} {assign body:Code} {Q:Exit->Act->World->Prop} {a:Act} {w:World}
  (hro:F.round=none) (h1:1<=n) {gf:Nat} {lb:Array Value} (hg:a.eval g=.func (.func gf) #[] lb) (hFg:F.fn gf) (eg:∀ args w,(callFunc gf args).run P w=.ok (.enter gf args) w)
  {encs:α->Array Value} {Kp:World->World->Prop} {S Sp:List α->Prop} (hseq:SeqOwn F (n - 1) P gf lb encs Kp S Sp w)
  (hKt:∀ {A B C:World},Kp A B->Kp B C->Kp A C) (hKb:∀ (W:World) (l:Nat) (o o':Obj),w.heap.size<=l->W.heap[l]?=some o->o.isCells=false->Kp W (W.putObj l o')) (hps:∀ x,(encs x).size=ps.size)
  (I:List α->World->Prop) (Ix:Code->List α->World->Prop) (hI:∀ s A B,I s A->Below w.heap.size A B->I s B) (hIx:∀ c s A B,Ix c s A->Below w.heap.size A B->Ix c s B) (h0:I [] w) (a₁:α->Act)
  (hassign:∀ (l:Nat) (x:α) (W:World) (K:Act->World->Prop),K (a₁ x) W->assign.wpIn (F.inRound l) (n - 1 - 1) P (Exit.then K (fun _ _ _=>False)) { tmps:=(ps.zip (encs x)).foldl (fun t (p,v)=>t.setIfInBounds p v) a.tmps,defers:=[] } W)
  (hbody:∀ (l:Nat) (pre:List α) (x:α) (W:World),I pre W->body.wpIn (F.inRound l) (n - 1 - 1) P (ownPostG w.heap.size Kp I Ix (pre ++ [x]) W) (a₁ x) W)
  (hdone:∀ (xs:List α) (W:World),S xs->I xs W->W.heap[w.heap.size]?=some (.deferred (some []))->Q .normal { a with defers:={ target:=.collected w.heap.size,args:=#[] } :: a.defers } W)
  (hstop:∀ (c:Code) (pre:List α) (W:World),Sp pre->Ix c pre W->W.heap[w.heap.size]?=some (.deferred (some []))->c.wpIn F n P Q { a with defers:={ target:=.collected w.heap.size,args:=#[] } :: a.defers } W) :
  (Code.rangeFunc g ps assign body).wpIn F n P Q a w:=by
 refine wpIn_rangeFunc fun fn hfn=>?_
 rw [hro]
 obtain ⟨r,hr⟩:∃ r:LoopState->Option Code->Loop,r=fun st pe=>{ state:=st,pending:=pe,fn,tmps:=a.tmps,params:=ps,assign,body,defers:=w.heap.size }:=⟨_,rfl⟩
 obtain ⟨W1,hW1⟩:∃ W1,W1=(w.alloc (.deferred (some []))).alloc (.loop (r .ready none)):=⟨_,rfl⟩
 have s1:W1.heap.size=w.heap.size+2:=by rw [hW1];simp
 have b1:Below w.heap.size w W1:=by rw [hW1];exact ((Below.refl _ _).alloc (Nat.le_refl _) _).alloc (by simp) _
 have d1:W1.heap[w.heap.size]?=some (.deferred (some [])):=by rw [hW1,Below.heap_alloc _ _ _ (by simp)];exact World.alloc_heap_new w _
 have l1:W1.heap[w.heap.size+1]?=some (.loop (r .ready none)):=by
  rw [hW1];have:=World.alloc_heap_new (w.alloc (.deferred (some []))) (.loop (r .ready none));rwa [World.size_alloc] at this
 refine ⟨w.heap.size+1,[{ target:=.collected w.heap.size,args:=#[] }],W1,{ target:=.fn (.func gf) lb,args:=#[.func (.yield (w.heap.size+1)) #[] #[]] },W1,gf,#[.func (.yield (w.heap.size+1)) #[] #[]] ++ lb,W1,?_,?_,?_,?_,fun _=>h1,?_⟩
 ·rw [hW1,hr];exact run_enterLoop_outer _ _ _ _ _
 ·simp only [resolve,hg]
  simp [go_sem]
 ·intro f' hf';simp [Target.leads] at hf';subst hf';exact hFg
 ·simp [invoke,go_sem,eg]
 have ab:∀ {A B:World},Below W1.heap.size A B->Below w.heap.size A B:=fun h=>h.mono (by omega)
 refine (hseq (w.heap.size+1)
  (fun pre W=>I pre W/\W.heap[w.heap.size]?=some (.deferred (some []))/\W.heap[w.heap.size+1]?=some (.loop (r .ready none)))
  (fun pre W=>∃ c,Ix c pre W/\W.heap[w.heap.size]?=some (.deferred (some []))/\W.heap[w.heap.size+1]?=some (.loop (r .done (some c)))) W1 b1
  (fun s A B ⟨h,hd,hl⟩ hb=>⟨hI s A B h (ab hb),(hb.block _ (by omega)).trans hd,(hb.block _ (by omega)).trans hl⟩)
  (fun s A B ⟨c,h,hd,hl⟩ hb=>⟨c,hIx c s A B h (ab hb),(hb.block _ (by omega)).trans hd,(hb.block _ (by omega)).trans hl⟩)
  ?_ ⟨hI _ _ _ h0 b1,d1,l1⟩).mono ?_
 ·rintro pre x A ⟨hi,hd,hl⟩
  have hy:=run_yield (P:=P) (args:=encs x) hl (by rw [hr];exact hps x)
  rw [hr] at hy
  refine ⟨fn,_,assign,body,hy,roundIn_of_wpIn hfn (hassign _ x A _ ?_)⟩
  clear hy
  have lA:w.heap.size+1<A.heap.size:=(Array.getElem?_eq_some_iff.1 hl).1
  refine ⟨_,run_beginRound hl (by rw [hr]),?_⟩
  obtain ⟨ob,hob⟩:∃ ob,ob=Obj.loop { r .ready none with state:=.busy }:=⟨_,rfl⟩
  rw [<- hob]
  have nb:ob.isCells=false:=by rw [hob];rfl
  have l2:(A.putObj (w.heap.size+1) ob).heap[w.heap.size+1]?=some ob:=World.putObj_heap_same lA
  have d2:(A.putObj (w.heap.size+1) ob).heap[w.heap.size]?=some (.deferred (some [])):=(World.putObj_heap_other (by omega)).trans hd
  have k2:Kp A (A.putObj (w.heap.size+1) ob):=hKb _ _ _ _ (by omega) hl rfl
  refine wpIn_mono (hbody _ pre x _ (hI _ _ _ hi (fM w A _ ob (by omega)))) ?_
  have fin:∀ (jump:Option Code) (B:World),KeepsFrom w.heap.size (A.putObj (w.heap.size+1) ob) B->∃ o',(Instr.endRound (w.heap.size+1) jump).run P B=.ok (.bool jump.isNone) (B.putObj (w.heap.size+1) o')/\o'=.loop (r (if jump.isNone then .ready else .done) jump)/\B.heap[w.heap.size+1]?=some ob/\(B.putObj (w.heap.size+1) o').heap[w.heap.size]?=some (.deferred (some []))/\(B.putObj (w.heap.size+1) o').heap[w.heap.size+1]?=some o':=fun jump B hk=>by
   obtain ⟨h3,h4⟩:=bN7 hk d2 rfl l2 nb
   have h5:=h4
   rw [hob] at h5
   have h6:=run_endRound (P:=P) jump h5
   refine ⟨_,h6,by rw [hr],h4,(World.putObj_heap_other (by omega)).trans h3,World.putObj_heap_same ((Array.getElem?_eq_some_iff.1 h4).1)⟩
  intro e a3 B hp
  cases e with
  | normal =>
   obtain ⟨hk,hkp,hi3⟩:=hp
   obtain ⟨o',q1,rfl,q2,q3,q4⟩:=fin none B hk
   exact ⟨_,_,q1,.inl ⟨rfl,⟨hI _ _ _ hi3 (fM w B _ _ (by omega)),q3,q4⟩,hKt (hKt k2 hkp) (hKb _ _ _ _ (by omega) q2 nb)⟩⟩
  | ret =>
   obtain ⟨hk,hi3⟩:=hp
   obtain ⟨o',q1,rfl,q2,q3,q4⟩:=fin (some .ret) B hk
   exact ⟨_,_,q1,.inr ⟨rfl,_,hIx _ _ _ _ hi3 (fM w B _ _ (by omega)),q3,q4⟩⟩
  | exit id =>
   obtain ⟨hk,hi3⟩:=hp
   obtain ⟨o',q1,rfl,q2,q3,q4⟩:=fin (some (.exit id)) B hk
   exact ⟨_,_,q1,.inr ⟨rfl,_,hIx _ _ _ _ hi3 (fM w B _ _ (by omega)),q3,q4⟩⟩
  | goto t =>
   obtain ⟨hk,hi3⟩:=hp
   obtain ⟨o',q1,rfl,q2,q3,q4⟩:=fin (some (.goto t)) B hk
   exact ⟨_,_,q1,.inr ⟨rfl,_,hIx _ _ _ _ hi3 (fM w B _ _ (by omega)),q3,q4⟩⟩
  | panic ch=>exact hp.elim
  | outgrown=>exact hp.elim
 rintro e B ⟨⟨v,rfl⟩,(⟨xs,hS,hi,hd,hl⟩ | ⟨pre,hSp,c,hi,hd,hl⟩)⟩
 ·have q:=run_endLoop (P:=P) hl (by rw [hr];simp)
  refine ⟨_,_,q,?_⟩
  rw [hr]
  exact hdone xs _ hS (hI _ _ _ hi (fM w B _ _ (by omega))) ((World.putObj_heap_other (by omega)).trans hd)
 have q:=run_endLoop (P:=P) hl (by rw [hr];simp)
 refine ⟨_,_,q,?_⟩
 rw [hr]
 exact hstop c pre _ hSp (hIx _ _ _ _ hi (fM w B _ _ (by omega))) ((World.putObj_heap_other (by omega)).trans hd)
end
section
open Go.RowKit
theorem bQ3 (lo kb:Nat) (v mv:Value) (n:Nat) (f:Nat->M) (s:Sp) (k:Nat) (w:World) (hk:k<n) (ht:jD w v mv n f s) (h2:bQ lo w mv n f) (h3:w.cell? ⟨kb,0,none⟩=some (.int .i64 k)) :
  Calls Tryz.prog 191 #[v,.pointer (some ⟨kb,0,none⟩)] w fun e w'=>e=.returned (.bool (hit f s k))/\Below w.heap.size w w':=by
 have HM:=O h2
 clear h2
 rcases ht with ⟨e,mb,sb,rfl,p1,p2⟩ | ⟨e,mb,sb,rfl,p1,p2⟩ | ⟨e,ib,b,rfl,p1,p2⟩ | ⟨e,mb,rfl,p1⟩
 ·have P1:=O p1;have P2:=O p2;have E1:=O e
  clear p1 p2 e
  go_enter Tryz.func191,Tryz.ntmps191
  go_wp2_with fail
  refine (test1_any lo mb sb _ n f s k _ hk (Z E1) (Z P1) (Z HM) (Z P2)).mono ?_
  rintro e w3 ⟨rfl,hb3⟩
  have HB3:=O hb3
  clear hb3
  go_wp2_with fail
  go_ret
  exact ⟨rfl,Z HB3⟩
 ·have P1:=O p1;have P2:=O p2;have E1:=O e
  clear p1 p2 e
  go_enter Tryz.func191,Tryz.ntmps191
  go_wp2_with fail
  refine (test2_any lo mb sb _ n f s k _ hk (Z E1) (Z P1) (Z HM) (Z P2)).mono ?_
  rintro e w3 ⟨rfl,hb3⟩
  have HB3:=O hb3
  clear hb3
  go_wp2_with fail
  go_ret
  exact ⟨rfl,Z HB3⟩
 ·have P1:=O p1;have P2:=O p2;have E1:=O e
  clear p1 p2 e
  go_enter Tryz.func191,Tryz.ntmps191
  go_wp2_with fail
  refine (test3_any ib b n f s k _ hk (Z E1) (Z P1) (Z P2)).mono ?_
  rintro e w3 ⟨rfl,hb3⟩
  have HB3:=O hb3
  clear hb3
  go_wp2_with fail
  go_ret
  exact ⟨rfl,Z HB3⟩
 have P1:=O p1;have E1:=O e
 clear p1 e
 go_enter Tryz.func191,Tryz.ntmps191
 go_wp2_with fail
 refine (test4_any lo mb _ n f s k _ hk (Z E1) (Z P1) (Z HM)).mono ?_
 rintro e w3 ⟨rfl,hb3⟩
 have HB3:=O hb3
 clear hb3
 go_wp2_with fail
 go_ret
 exact ⟨rfl,Z HB3⟩
theorem fU.cells {B:Nat} {w:World} {tv mv:Value} {ns n:Nat} {f:Nat->M} {ss:Nat->Sp} (h:fU B w tv mv ns n f ss) :
  ∃ a cap,tv=.slice a ns cap/\∀ i,i<ns->∃ g v,a=some ⟨g,0,none⟩/\w.cell? ⟨g,i,none⟩=some v/\g<w.heap.size/\jD w v mv n f (ss i):=by
 obtain ⟨vs,h1,h2⟩:=h
 have h1':=h1
 rcases h1.2 with ⟨e,h0⟩ | ⟨g,cap,cur,e,-⟩
 ·have hz:ns=0:=h0
  subst hz
  exact ⟨none,0,e,fun i hi=>absurd hi (Nat.not_lt_zero _)⟩
 subst e
 refine ⟨_,cap,rfl,fun i hi=>?_⟩
 have hc:=(bL h1' i (vs i) (by rw [List.getElem?_map,List.getElem?_range hi];rfl)).1
 exact ⟨g,vs i,rfl,hc,bV hc,h2 i hi⟩
theorem index_any (B lo kb:Nat) (tv mv:Value) (n:Nat) (f:Nat->M) (ns:Nat) (ss:Nat->Sp) (k:Nat) (w:World) (hk:k<n) (hns:ns<=50) (ht:fU B w tv mv ns n f ss) (h2:bQ lo w mv n f) (h3:w.cell? ⟨kb,0,none⟩=some (.int .i64 k)) :
  Calls Tryz.prog 222 #[tv,.func (.func 191) #[] #[.pointer (some ⟨kb,0,none⟩)]] w fun e w'=>(∃ z:Int,e=.returned (.int .i64 z)/\decide (0<=z)=dJ f ns ss k)/\Below w.heap.size w w':=by
 obtain ⟨a,cap,rfl,hc⟩:=ht.cells
 have HC:=O hc
 have H2:=O h2
 have H3:=O h3
 clear hc h2 h3 ht
 go_enter Tryz.func222,Tryz.ntmps222
 go_wp2_with fail
 go_loopg [5,8] ns (fun gg _ i W=>∃ q:Nat,q+gg=ns/\i=.int .i64 q/\(∀ j,j<q->hit f (ss j) k=false)/\Below w.heap.size w W)
 case atStart=>exact ⟨0,by omega,rfl,fun j hj=>absurd hj (Nat.not_lt_zero _),Below.refl _ _⟩
 case round =>
  obtain ⟨q,hq,rfl,hst,hb⟩:=hrel
  have HST:=O hst
  have HB:=O hb
  clear hst hb
  by_cases hlt:q<ns
  ·obtain ⟨g,v,rfl,c0,hg,htq⟩:=Z HC q hlt
   have c1:wr.cell? ⟨g,q,none⟩=some v:=bG (Z HB) c0
   have HT:=O (htq.below (Z HB))
   obtain ⟨fg,lb,rfl⟩:=htq.form
   have hkn:(q:Int)<(ns:Int):=by omega
   have hkz:(0:Int)<=(q:Int):=by omega
   clear c0 hg htq
   go_wp2_with fail
   refine (bQ3 lo kb _ mv n f (ss q) k _ hk (Z HT) ((Z H2).below (Z HB)) (bG (Z HB) (Z H3))).mono ?_
   rintro e w3 ⟨rfl,hb3⟩
   have HB3:=hT HB hb3
   clear hb3
   cases e:hit f (ss q) k with
   | true =>
    have HE:=O e
    clear e
    go_wp2_with fail
    go_ret
    exact ⟨⟨_,rfl,by rw [vN hlt (Z HE)];simp⟩,Z HB3⟩
   | false =>
    have HE:=O e
    clear e
    go_wp2_with fail
    go_roundg (ns - (q+1))
    case measure=>omega
    case rel =>
     have hst':∀ j,j<q+1->hit f (ss j) k=false:=fun j hj=>by
      by_cases e':j=q
      ·rw [e'];exact Z HE
      exact Z HST j (by omega)
     exact ⟨q+1,by omega,by go_num,hst',Z HB3⟩
  have e:ns=q:=by omega
  subst e
  have hnk:¬ ((ns:Int)<(ns:Int)):=by omega
  go_wp2_with fail
  go_ret
  exact ⟨⟨_,rfl,by rw [yP (Z HST)];rfl⟩,Z HB⟩
theorem contains_any (B lo kb:Nat) (tv mv:Value) (n:Nat) (f:Nat->M) (ns:Nat) (ss:Nat->Sp) (k:Nat) (w:World) (hk:k<n) (hns:ns<=50) (ht:fU B w tv mv ns n f ss) (h2:bQ lo w mv n f) (h3:w.cell? ⟨kb,0,none⟩=some (.int .i64 k)) :
  Calls Tryz.prog 190 #[tv,.func (.func 191) #[] #[.pointer (some ⟨kb,0,none⟩)]] w fun e w'=>e=.returned (.bool (dJ f ns ss k))/\Below w.heap.size w w':=by
 have HT:=O ht
 have H2:=O h2
 have H3:=O h3
 obtain ⟨a,cap,rfl,-⟩:=ht.cells
 clear h2 h3 ht
 go_enter Tryz.func190,Tryz.ntmps190
 go_wp2_with fail
 refine (index_any B lo kb _ mv n f ns ss k _ hk hns (Z HT) (Z H2) (Z H3)).mono ?_
 rintro e w3 ⟨⟨z,rfl,hz⟩,hb3⟩
 have HB3:=O hb3
 have HZ:=O hz
 clear hb3 hz
 go_wp2_with fail
 go_ret
 exact ⟨by rw [<- Z HZ];rfl,Z HB3⟩
end
section
open Go.RowKit Go.Shelf
attribute [local go_sem] Oper.semAt_some
def ups (P:Nat->Bool) (a q:Nat):List Nat:=(List.range q).filter fun i=>decide (a<=i) && P i
theorem bE4 {P:Nat->Bool} {a q:Nat} (ha:a<=q) (h:P q=true):ups P a (q+1)=ups P a q ++ [q]:=by
 simp [ups,List.range_succ,List.filter_append,ha,h]
theorem ups_no {P:Nat->Bool} {a q:Nat} (h:P q=false):ups P a (q+1)=ups P a q:=by
 simp [ups,List.range_succ,List.filter_append,h]
theorem ups_self (P:Nat->Bool) (a:Nat):ups P a a=[]:=by
 unfold ups
 rw [List.filter_eq_nil_iff]
 intro i hi
 have:=List.mem_range.1 hi
 simp
 omega
theorem mem_ups {P:Nat->Bool} {a q i:Nat}:i∈ups P a q↔i<q/\a<=i/\P i=true:=by
 simp [ups,List.mem_filter]
def KeepsC (c0:Nat) (A B:World):Prop:=∀ b cs t fr,b≠c0->A.heap[b]?=some (.cells cs t fr)->B.heap[b]?=some (.cells cs t fr)
def pF (n₁ c0:Nat) (A B:World):Prop:=Below n₁ A B/\KeepsC c0 A B
theorem pF.t {n₁ c0:Nat} {A B C:World} (h:pF n₁ c0 A B) (k:pF n₁ c0 B C):pF n₁ c0 A C:=⟨h.1.trans k.1,fun b cs t fr hb e=>k.2 b cs t fr hb (h.2 b cs t fr hb e)⟩
theorem pF.b {n₁ c0:Nat} {w:World} (hn:n₁<=w.heap.size) (W:World) (l:Nat) (o o':Obj) (hl:w.heap.size<=l) (h:W.heap[l]?=some o) (ho:o.isCells=false):pF n₁ c0 W (W.putObj l o') :=
 ⟨(fM w W l o' hl).mono hn,fun b cs t fr _ e=>by
  rw [World.putObj_heap_other (by intro e';subst e';rw [h] at e;cases e;cases ho)];exact e⟩
def leftTo (tt:Int) (p:Value) (W:World):Nat :=
 match p with
 | .pointer (some ad)=>(tt - intOf ((W.cell? ad).getD (.int .i64 0))).toNat
 | _=>0
theorem pU {tt:Int} {kb:Nat} {q:Int} {W:World} (h:W.heap[kb]?=some (.cells #[.int .i64 q] 3 (0,0))):leftTo tt (.pointer (some ⟨kb,0,none⟩)) W=(tt - q).toNat:=by
 have:W.cell? ⟨kb,0,none⟩=some (.int .i64 q):=by rw [cell_of_row W _ 0 _ _ _ h];rfl
 simp [leftTo,this,intOf]
theorem pG (w:World) (q:Nat):(w.alloc (.cells #[.int .i64 ((q:Int)+1)] 3)).heap[w.heap.size]?=some (.cells #[.int .i64 ((q+1:Nat):Int)] 3 (0,0))/\Below w.heap.size w (w.alloc (.cells #[.int .i64 ((q:Int)+1)] 3)) :=
 ⟨heap_alloc_new w _,bH w _⟩
theorem hits1_in (m:Nat) (hm:1<=m) (l c0 B lo bF bE bT:Nat) (w0:World) (tv mv:Value) (n:Nat) (f:Nat->M) (ns:Nat) (ss:Nat->Sp) (a:Nat) (tt:Int) (hto:tt<=n) (hns:ns<=50) (hn:n<=1048576)
  (ht:fU B w0 tv mv ns n f ss) (h2:bQ lo w0 mv n f) (J Jx:List Nat->World->Prop) (W:World) (hW:Below w0.heap.size w0 W)
  (hF:W.heap[bF]?=some (.cells #[.int .i64 (a:Int)] 3 (0,0))) (hE:W.heap[bE]?=some (.cells #[.int .i64 tt] 3 (0,0))) (hT:W.heap[bT]?=some (.cells #[tv] 169 (0,0))) (nE:bE≠c0) (nT:bT≠c0) (hc:c0<W.heap.size)
  (hJ:∀ s A B,J s A->Below W.heap.size A B->J s B)
  (hY:∀ pre (x:Nat) A,J pre A->YieldAt Fence.wide (m - 1) Tryz.prog l #[.int .i64 (x:Int)] A fun e B=>(e=.returned (.bool true)/\J (pre ++ [x]) B/\pF w0.heap.size c0 A B)∨(e=.returned (.bool false)/\Jx (pre ++ [x]) B))
  (h0:J [] W) :
  CallsIn Fence.wide m Tryz.prog 189 #[.func (.yield l) #[] #[],.pointer (some ⟨bF,0,none⟩),.pointer (some ⟨bE,0,none⟩),.pointer (some ⟨bT,0,none⟩)] W fun e W'=>(∃ v,e=.returned v) /\
   ((∃ xs,(∃ q:Nat,xs=ups (dJ f ns ss) a q/\a<=q/\tt<=(q:Int)/\(q=a∨(q:Int)<=tt))/\J xs W')∨(∃ pre,(∃ q:Nat,pre=ups (dJ f ns ss) a q ++ [q]/\a<=q/\(q:Int)<tt/\dJ f ns ss q=true)/\Jx pre W')):=by
 have HT0:=O ht
 have H2:=O h2
 obtain ⟨ta,tc,rfl,-⟩:=ht.cells
 clear ht h2
 have cF:W.cell? ⟨bF,0,none⟩=some (.int .i64 (a:Int)):=by rw [cell_of_row W _ 0 _ _ _ hF];rfl
 have lE:bE<W.heap.size:=cY hE
 have lT:bT<W.heap.size:=cY hT
 refine callsIn_of_wp Tryz.func189 rfl trivial ?_ rfl
 simp only [Tryz.ntmps189,List.size_toArray,List.length_cons,List.length_nil,Nat.reduceAdd,Nat.reduceSub,Array.replicate_succ,Array.replicate_zero,List.push_toArray,List.append_toArray,List.nil_append,List.cons_append]
 gi_wp2
 gi_loopw [5] (fun p wr=>∃ q kb:Nat,p=.pointer (some ⟨kb,0,none⟩)/\wr.heap[kb]?=some (.cells #[.int .i64 (q:Int)] 3 (0,0))/\W.heap.size<=kb/\a<=q/\(q=a∨(q:Int)<=tt)/\J (ups (dJ f ns ss) a q) wr/\Below w0.heap.size w0 wr/\W.heap.size<=wr.heap.size/\wr.heap[bE]?=some (.cells #[.int .i64 tt] 3 (0,0))/\wr.heap[bT]?=some (.cells #[.slice ta ns tc] 169 (0,0)))
  (fun p wr=>leftTo tt p wr)
 case atStart=>exact ⟨a,W.heap.size,rfl,heap_alloc_new W _,Nat.le_refl _,Nat.le_refl _,.inl rfl,by rw [ups_self];exact hJ _ _ _ h0 (bH _ _),hW.trans ((bH _ _).mono hW.size),(bH W _).size,((bH W _).block _ lE).trans hE,((bH W _).block _ lT).trans hT⟩
 case round =>
  obtain ⟨q,kb,rfl,hk,hkb,haq,hqt,hJq,hb,hsz,hE',hT'⟩:=hrel
  have ck:wr.cell? ⟨kb,0,none⟩=some (.int .i64 (q:Int)):=by rw [cell_of_row wr _ 0 _ _ _ hk];rfl
  have cE:wr.cell? ⟨bE,0,none⟩=some (.int .i64 tt):=by rw [cell_of_row wr _ 0 _ _ _ hE'];rfl
  have cT:wr.cell? ⟨bT,0,none⟩=some (.slice ta ns tc):=by rw [cell_of_row wr _ 0 _ _ _ hT'];rfl
  have lK:kb<wr.heap.size:=cY hk
  by_cases hlt:(q:Int)<tt
  ·have hqn:q<n:=by omega
   have HK:=O hk
   have HME:=O (pU (tt:=tt) hk)
   have HE:=O hE'
   have HTT:=O hT'
   have HJQ:=O hJq
   have HB:=O hb
   have HY:=O hY
   clear hk hE' hT' hJq hb hY h0 hF hE hT cF
   gi_wp2_with fail
   refine ⟨trivial,(callsIn_wide.2 (contains_any B lo kb _ mv n f ns ss q _ hqn hns ((Z HT0).below (Z HB)) ((Z H2).below (Z HB)) ck)).mono ?_⟩
   rintro e w3 ⟨rfl,hb3⟩
   have hk3:w3.heap[kb]?=some (.cells #[.int .i64 (q:Int)] 3 (0,0)):=(hb3.block _ lK).trans (Z HK)
   have HE3:=O ((hb3.block _ (by omega)).trans (Z HE))
   have HT3:=O ((hb3.block _ (by omega)).trans (Z HTT))
   have hJ3:J (ups (dJ f ns ss) a q) w3:=hJ _ _ _ (Z HJQ) (hb3.mono hsz)
   have HB3:=hT HB hb3
   have hs3:W.heap.size<=w3.heap.size:=Nat.le_trans hsz hb3.size
   have c3:w3.cell? ⟨kb,0,none⟩=some (.int .i64 (q:Int)):=by rw [cell_of_row w3 _ 0 _ _ _ hk3];rfl
   have HK3:=O hk3
   clear hb3 ck cE cT HK HE HTT HJQ HB hk3
   have wq:IntKind.i64.wrap ((q:Int)+1)=((q+1:Nat):Int):=by rw [IntKind.wrap_i64];omega
   cases ep:dJ f ns ss q with
   | false =>
    have HP:=O ep
    have HJ3:=O hJ3
    clear ep hJ3
    gi_wp2_with fail
    refine ⟨fun _ h=>(by cases h),?_⟩
    gi_wp2
    go_roundw
    case rel =>
     obtain ⟨e1,e2⟩:=pG w3 q
     exact ⟨q+1,w3.heap.size,rfl,e1,hs3,by omega,.inr (by omega),by rw [ups_no (Z HP)];exact hJ _ _ _ (Z HJ3) (e2.mono hs3),(Z HB3).trans (e2.mono (Z HB3).size),Nat.le_trans hs3 e2.size,(e2.block _ (by omega)).trans (Z HE3),(e2.block _ (by omega)).trans (Z HT3)⟩
    case measure =>
     rw [Z HME,pU (pG w3 q).1]
     omega
   | true =>
    obtain ⟨fn,tmps,assign,body,hy,hR⟩:=Z HY _ q w3 hJ3
    have HP:=O ep
    have HR:=O hR
    clear ep hR hJ3
    gi_wp2_with fail
    refine (Z HR).mono ?_
    rintro e W5 (⟨rfl,hJ5,hk5⟩ | ⟨rfl,hJx5⟩)
    ·have hk5k:=hk5.2 kb _ _ _ (by omega) (Z HK3)
     have c5:W5.cell? ⟨kb,0,none⟩=some (.int .i64 (q:Int)):=by rw [cell_of_row W5 _ 0 _ _ _ hk5k];rfl
     have HE5:=O (hk5.2 bE _ _ _ nE (Z HE3))
     have HT5:=O (hk5.2 bT _ _ _ nT (Z HT3))
     have HB5:=O ((Z HB3).trans hk5.1)
     have hs5:W.heap.size<=W5.heap.size:=Nat.le_trans hs3 hk5.1.size
     have HJ5:=O hJ5
     have lE5:bE<W5.heap.size:=by omega
     have lT5:bT<W5.heap.size:=by omega
     clear hJ5 hk5 hk5k c3 HE3 HT3 HB3 HK3
     gi_wp2
     go_roundw
     case rel =>
      obtain ⟨e1,e2⟩:=pG W5 q
      exact ⟨q+1,W5.heap.size,rfl,e1,hs5,by omega,.inr (by omega),by rw [bE4 haq (Z HP)];exact hJ _ _ _ (Z HJ5) (e2.mono hs5),(Z HB5).trans (e2.mono (Z HB5).size),Nat.le_trans hs5 e2.size,(e2.block _ lE5).trans (Z HE5),(e2.block _ lT5).trans (Z HT5)⟩
     case measure =>
      rw [Z HME,pU (pG W5 q).1]
      omega
    gi_wp2
    refine bodyPost_ret (results_none rfl _ _ _) rfl ?_
    exact ⟨⟨_,rfl⟩,.inr ⟨_,⟨q,rfl,haq,hlt,Z HP⟩,hJx5⟩⟩
  gi_wp2
  go_end0
  exact ⟨⟨_,rfl⟩,.inl ⟨_,⟨q,rfl,haq,by omega,hqt⟩,hJq⟩⟩
end
section
open Go.RowKit Go.Shelf
attribute [local go_sem] Oper.semAt_some
def tZ (l:List Nat):Int:=match l.getLast? with | some x=>(x:Int) | none=>-1
theorem bC0 (l:List Nat) (x:Nat):tZ (l ++ [x])=(x:Int):=by simp [tZ]
theorem bH7 (P:Nat->Bool):∀ q:Nat,rQ P (q:Int) (tZ (ups P 0 q))
 | 0=>.inr ⟨rfl,fun i hi=>by omega⟩
 | q+1=>by
  cases h:P q with
  | true=>rw [bE4 (Nat.zero_le _) h,bC0];exact .inl ⟨q,rfl,by omega,h,fun i h1 h2=>by omega⟩
  | false =>
   rw [ups_no h]
   rcases bH7 P q with ⟨j,e,h1,h2,h3⟩ | ⟨e,h3⟩
   ·exact .inl ⟨j,e,by omega,h2,fun i h4 h5=>by
     by_cases e':i=q
     ·rw [e'];exact h
     exact h3 i h4 (by omega)⟩
   exact .inr ⟨e,fun i h5=>by
    by_cases e':i=q
    ·rw [e'];exact h
    exact h3 i (by omega)⟩
theorem zQ (ta:Option Addr) (ns tc:Nat) (a b:Int) (w:World) :
  CallsIn Fence.wide 5 Tryz.prog 157 #[.slice ta ns tc,.int .i64 a,.int .i64 b] w fun e w'=>e=.returned (.func (.func 189) #[] #[.pointer (some ⟨w.heap.size+1,0,none⟩),.pointer (some ⟨w.heap.size+1+1,0,none⟩),.pointer (some ⟨w.heap.size,0,none⟩)])/\w'=((w.alloc (.cells #[.slice ta ns tc] 169)).alloc (.cells #[.int .i64 a] 3)).alloc (.cells #[.int .i64 b] 3):=by
 refine callsIn_of_wp Tryz.func157 rfl trivial ?_ rfl
 simp only [Tryz.ntmps157,List.size_toArray,List.length_cons,List.length_nil,Nat.reduceAdd,Nat.reduceSub,Array.replicate_succ,Array.replicate_zero,List.push_toArray,List.append_toArray,List.nil_append,List.cons_append]
 gi_wp2
 go_ret
 exact ⟨rfl,rfl⟩
theorem vA (w:World) (x y z:Obj):∃ W,W=((w.alloc x).alloc y).alloc z/\W.heap.size=w.heap.size+3/\W.heap[w.heap.size]?=some x/\W.heap[w.heap.size+1]?=some y/\W.heap[w.heap.size+1+1]?=some z/\Below w.heap.size w W:=by
 refine ⟨_,rfl,by simp,?_,?_,?_,(((Below.refl _ _).alloc (Nat.le_refl _) _).alloc (by simp) _).alloc (by simp;omega) _⟩
 ·rw [Below.heap_alloc _ _ _ (by simp;omega),Below.heap_alloc _ _ _ (by simp)];exact World.alloc_heap_new w _
 ·rw [Below.heap_alloc _ _ _ (by simp)];have:=World.alloc_heap_new (w.alloc x) y;rwa [World.size_alloc] at this
 have:=World.alloc_heap_new ((w.alloc x).alloc y) z;rwa [World.size_alloc,World.size_alloc] at this
theorem lastHit_any (B lo:Nat) (tv mv:Value) (n:Nat) (f:Nat->M) (ns:Nat) (ss:Nat->Sp) (k:Int) (w:World) (ht:fU B w tv mv ns n f ss) (h2:bQ lo w mv n f) (hns:ns<=50) (hn:n<=1048576) (hk0:-1<=k) (hk1:k<=n) :
  Calls Tryz.prog 151 #[tv,.int .i64 k] w fun e w'=>(∃ z,e=.returned (.int .i64 z)/\rQ (dJ f ns ss) k z)/\Below w.heap.size w w':=by
 have HT:=O ht
 have H2:=O h2
 obtain ⟨ta,tc,rfl,-⟩:=ht.cells
 clear ht h2
 refine (callsIn_wide (n:=6)).1 ?_
 refine callsIn_of_wp_marks Tryz.func151 rfl trivial ?_ rfl
 simp only [Tryz.ntmps151,List.size_toArray,List.length_cons,List.length_nil,Nat.reduceAdd,Nat.reduceSub,Array.replicate_succ,Array.replicate_zero,List.push_toArray,List.append_toArray,List.nil_append,List.cons_append]
 gi_wp2_with fail
 refine ⟨trivial,(zQ _ _ _ _ _ _).mono ?_⟩
 rintro e w' ⟨rfl,rfl⟩
 gi_wp2_with fail
 obtain ⟨WA,hWA⟩:∃ WA,WA=w.alloc (.cells #[.int .i64 (-1)] 3):=⟨_,rfl⟩
 have sA:WA.heap.size=w.heap.size+1:=by rw [hWA];simp
 have kA:WA.heap[w.heap.size]?=some (.cells #[.int .i64 (-1)] 3 (0,0)):=by rw [hWA];exact heap_alloc_new w _
 have bA:Below w.heap.size w WA:=by rw [hWA];exact bH _ _
 rw [<- hWA]
 obtain ⟨W0,hW0,s0,k1,k2,k3,b0⟩:=vA WA (.cells #[.slice ta ns tc] 169) (.cells #[.int .i64 0] 3) (.cells #[.int .i64 k] 3)
 rw [<- hW0]
 rw [sA] at k1 k2 k3 s0
 have kA0:W0.heap[w.heap.size]?=some (.cells #[.int .i64 (-1)] 3 (0,0)):=(b0.block _ (by omega)).trans kA
 have bw0:Below w.heap.size w W0:=bA.trans (b0.mono (by omega))
 clear hWA hW0 kA bA b0
 have hseq:SeqOwn Fence.wide 5 Tryz.prog 189 #[.pointer (some ⟨w.heap.size+1+1,0,none⟩),.pointer (some ⟨w.heap.size+1+1+1,0,none⟩),.pointer (some ⟨w.heap.size+1,0,none⟩)] (fun x:Nat=>#[.int .i64 (x:Int)]) (pF w.heap.size w.heap.size)
   (fun xs=>∃ q:Nat,xs=ups (dJ f ns ss) 0 q/\0<=q/\k<=(q:Int)/\(q=0∨(q:Int)<=k)) (fun pre=>∃ q:Nat,pre=ups (dJ f ns ss) 0 q ++ [q]/\0<=q/\(q:Int)<k/\dJ f ns ss q=true) W0:=fun l J Jx W hW hJ _ hY h0 =>
  hits1_in 5 (by omega) l w.heap.size B lo (w.heap.size+1+1) (w.heap.size+1+1+1) (w.heap.size+1) w (.slice ta ns tc) mv n f ns ss 0 k hk1 hns hn (Z HT) (Z H2) J Jx W (bw0.trans (hW.mono bw0.size))
   ((hW.block _ (by omega)).trans k2) ((hW.block _ (by omega)).trans k3) ((hW.block _ (by omega)).trans k1) (by omega) (by omega) (by have:=hW.size;omega) hJ hY h0
 refine qD rfl (by omega) (gf:=189) (lb:=#[.pointer (some ⟨w.heap.size+1+1,0,none⟩),.pointer (some ⟨w.heap.size+1+1+1,0,none⟩),.pointer (some ⟨w.heap.size+1,0,none⟩)]) rfl trivial (enters_of Tryz.func189 (by kernel_rfl) rfl)
  hseq pF.t (pF.b (by omega)) (fun _=>rfl)
  (fun pre W=>W.heap[w.heap.size]?=some (.cells #[.int .i64 (tZ pre)] 3 (0,0))/\Below w.heap.size w W)
  (fun _ _ _=>False)
  (fun s A B h hb=>⟨(hb.block _ (by omega)).trans h.1,h.2.trans (hb.mono (by omega))⟩)
  (fun _ _ _ _ h _=>h)
  ⟨kA0,bw0⟩
  (fun x=>{ tmps:=#[.slice ta ns tc,.int .i64 k,undef,undef,.int .i64 0,.pointer (some ⟨w.heap.size,0,none⟩),.int .i64 (x:Int),.slice ta ns tc,.int .i64 k,.func (.func 189) #[] #[.pointer (some ⟨w.heap.size+1+1,0,none⟩),.pointer (some ⟨w.heap.size+1+1+1,0,none⟩),.pointer (some ⟨w.heap.size+1,0,none⟩)],.int .i64 (x:Int),undef,undef],defers:=[] })
  ?assign ?body ?done ?stop
 case assign =>
  intro l x W K hK
  gi_wp2
  exact hK
 case body =>
  rintro l pre x W ⟨hc,hb⟩
  have c0:W.cell? ⟨w.heap.size,0,none⟩=some (.int .i64 (tZ pre)):=by rw [cell_of_row W _ 0 _ _ _ hc];rfl
  have f0:W.frozen? ⟨w.heap.size,0,none⟩=false:=frozen_of_row _ _ _ _ _ hc
  gi_wp2
  refine ⟨(KeepsOthers.setCell _ _ _).from _,⟨(Below.refl _ W).setCell (p:=⟨w.heap.size,0,none⟩) (Nat.le_refl _) _,fun b cs t fr hb e=>?_⟩,?_,hb.setCell (p:=⟨w.heap.size,0,none⟩) (Nat.le_refl _) _⟩
  ·rw [heap_setCell_other _ _ _ _ hb];exact e
  rw [bC0]
  exact heap_setCell_same _ _ 0 #[.int .i64 (tZ pre)] _ _ hc
 case done =>
  rintro xs W ⟨q,rfl,hq0,hq1,hq2⟩ ⟨hc,hb⟩ hK
  have c0:W.cell? ⟨w.heap.size,0,none⟩=some (.int .i64 (tZ (ups (dJ f ns ss) 0 q))):=by rw [cell_of_row W _ 0 _ _ _ hc];rfl
  gi_wp2
  refine ⟨by simp,.inl ⟨_,_,rfl,run_takeDeferred hK,?_⟩⟩
  refine ⟨_,results_tmp rfl _ _ _,⟨⟨_,rfl,?_⟩,hb.trans ((fM W0 W _ _ (Nat.le_refl _)).mono (by omega))⟩⟩
  have h:=bH7 (dJ f ns ss) q
  by_cases e:(q:Int)=k
  ·rw [<- e];exact h
  have hq:q=0:=by omega
  subst hq
  exact .inr ⟨by simp [ups,tZ],fun i hi=>by omega⟩
 case stop =>
  rintro c pre W _ h _
  exact h.elim
theorem nextHit_any (B lo:Nat) (tv mv:Value) (n:Nat) (f:Nat->M) (ns:Nat) (ss:Nat->Sp) (k:Int) (w:World) (ht:fU B w tv mv ns n f ss) (h2:bQ lo w mv n f) (hns:ns<=50) (hn:n<=1048576) (hk0:-1<=k) (hk1:k<=n) :
  Calls Tryz.prog 150 #[tv,.int .i64 k,.int .i64 n] w fun e w'=>(∃ z,e=.returned (.int .i64 z)/\tS n (dJ f ns ss) k z)/\Below w.heap.size w w':=by
 have HT:=O ht
 have H2:=O h2
 obtain ⟨ta,tc,rfl,-⟩:=ht.cells
 clear ht h2
 obtain ⟨p,hp⟩:∃ p:Nat,(p:Int)=k+1:=⟨(k+1).toNat,by omega⟩
 obtain rfl:k=(p:Int) - 1:=by omega
 have wk:IntKind.i64.wrap ((p:Int) - 1+1)=(p:Int):=by rw [IntKind.wrap_i64];omega
 clear hp
 refine (callsIn_wide (n:=6)).1 ?_
 refine callsIn_of_wp_marks Tryz.func150 rfl trivial ?_ rfl
 simp only [Tryz.ntmps150,List.size_toArray,List.length_cons,List.length_nil,Nat.reduceAdd,Nat.reduceSub,Array.replicate_succ,Array.replicate_zero,List.push_toArray,List.append_toArray,List.nil_append,List.cons_append]
 gi_wp2_with fail
 refine ⟨trivial,(zQ _ _ _ _ _ _).mono ?_⟩
 rintro e w' ⟨rfl,rfl⟩
 gi_wp2_with fail
 obtain ⟨WA,hWA⟩:∃ WA,WA=w.alloc (.cells #[.int .i64 0] 3):=⟨_,rfl⟩
 have sA:WA.heap.size=w.heap.size+1:=by rw [hWA];simp
 have kA:WA.heap[w.heap.size]?=some (.cells #[.int .i64 0] 3 (0,0)):=by rw [hWA];exact heap_alloc_new w _
 have bA:Below w.heap.size w WA:=by rw [hWA];exact bH _ _
 rw [<- hWA]
 obtain ⟨W0,hW0,s0,k1,k2,k3,b0⟩:=vA WA (.cells #[.slice ta ns tc] 169) (.cells #[.int .i64 (p:Int)] 3) (.cells #[.int .i64 (n:Int)] 3)
 rw [<- hW0]
 rw [sA] at k1 k2 k3 s0
 have kA0:W0.heap[w.heap.size]?=some (.cells #[.int .i64 0] 3 (0,0)):=(b0.block _ (by omega)).trans kA
 have bw0:Below w.heap.size w W0:=bA.trans (b0.mono (by omega))
 clear hWA hW0 kA bA b0
 have hseq:SeqOwn Fence.wide 5 Tryz.prog 189 #[.pointer (some ⟨w.heap.size+1+1,0,none⟩),.pointer (some ⟨w.heap.size+1+1+1,0,none⟩),.pointer (some ⟨w.heap.size+1,0,none⟩)] (fun x:Nat=>#[.int .i64 (x:Int)]) (pF w.heap.size w.heap.size)
   (fun xs=>∃ q:Nat,xs=ups (dJ f ns ss) p q/\p<=q/\(n:Int)<=(q:Int)/\(q=p∨(q:Int)<=(n:Int))) (fun pre=>∃ q:Nat,pre=ups (dJ f ns ss) p q ++ [q]/\p<=q/\(q:Int)<(n:Int)/\dJ f ns ss q=true) W0:=fun l J Jx W hW hJ _ hY h0 =>
  hits1_in 5 (by omega) l w.heap.size B lo (w.heap.size+1+1) (w.heap.size+1+1+1) (w.heap.size+1) w (.slice ta ns tc) mv n f ns ss p (n:Int) (Int.le_refl _) hns hn (Z HT) (Z H2) J Jx W (bw0.trans (hW.mono bw0.size))
   ((hW.block _ (by omega)).trans k2) ((hW.block _ (by omega)).trans k3) ((hW.block _ (by omega)).trans k1) (by omega) (by omega) (by have:=hW.size;omega) hJ hY h0
 refine qD rfl (by omega) (gf:=189) (lb:=#[.pointer (some ⟨w.heap.size+1+1,0,none⟩),.pointer (some ⟨w.heap.size+1+1+1,0,none⟩),.pointer (some ⟨w.heap.size+1,0,none⟩)]) rfl trivial (enters_of Tryz.func189 (by kernel_rfl) rfl)
  hseq pF.t (pF.b (by omega)) (fun _=>rfl)
  (fun pre W=>pre=[]/\W.heap[w.heap.size]?=some (.cells #[.int .i64 0] 3 (0,0))/\Below w.heap.size w W)
  (fun c pre W=>c=.ret/\(∃ x:Nat,pre=[x]/\W.heap[w.heap.size]?=some (.cells #[.int .i64 (x:Int)] 3 (0,0)))/\Below w.heap.size w W)
  (fun s A B h hb=>⟨h.1,(hb.block _ (by omega)).trans h.2.1,h.2.2.trans (hb.mono (by omega))⟩)
  (fun c s A B h hb=>by
   obtain ⟨h1,⟨x,h2,h3⟩,h4⟩:=h
   exact ⟨h1,⟨x,h2,(hb.block _ (by omega)).trans h3⟩,h4.trans (hb.mono (by omega))⟩)
  ⟨rfl,kA0,bw0⟩
  (fun x=>{ tmps:=#[.slice ta ns tc,.int .i64 ((p:Int) - 1),.int .i64 (n:Int),undef,undef,undef,.pointer (some ⟨w.heap.size,0,none⟩),.int .i64 (x:Int),.slice ta ns tc,.int .i64 ((p:Int) - 1),.int .i64 (p:Int),.int .i64 (n:Int),.func (.func 189) #[] #[.pointer (some ⟨w.heap.size+1+1,0,none⟩),.pointer (some ⟨w.heap.size+1+1+1,0,none⟩),.pointer (some ⟨w.heap.size+1,0,none⟩)],.int .i64 (x:Int),undef,undef],defers:=[] })
  ?assign ?body ?done ?stop
 case assign =>
  intro l x W K hK
  gi_wp2
  exact hK
 case body =>
  rintro l pre x W ⟨rfl,hc,hb⟩
  have c0:W.cell? ⟨w.heap.size,0,none⟩=some (.int .i64 0):=by rw [cell_of_row W _ 0 _ _ _ hc];rfl
  have f0:W.frozen? ⟨w.heap.size,0,none⟩=false:=frozen_of_row _ _ _ _ _ hc
  gi_wp2
  exact ⟨(KeepsOthers.setCell _ _ _).from _,rfl,⟨x,rfl,heap_setCell_same _ _ 0 #[.int .i64 0] _ _ hc⟩,hb.setCell (p:=⟨w.heap.size,0,none⟩) (Nat.le_refl _) _⟩
 case done =>
  rintro xs W ⟨q,hxs,hq0,hq1,hq2⟩ ⟨rfl,hc,hb⟩ hK
  have c0:W.cell? ⟨w.heap.size,0,none⟩=some (.int .i64 0):=by rw [cell_of_row W _ 0 _ _ _ hc];rfl
  have f0:W.frozen? ⟨w.heap.size,0,none⟩=false:=frozen_of_row _ _ _ _ _ hc
  gi_wp2
  have e1:(W.setCell ⟨w.heap.size,0,none⟩ (.int .i64 (n:Int))).heap[w.heap.size]?=some (.cells #[.int .i64 (n:Int)] 3 (0,0)):=heap_setCell_same _ _ 0 #[.int .i64 0] _ _ hc
  have hK2:=(KeepsOthers.setCell W ⟨w.heap.size,0,none⟩ (.int .i64 (n:Int))).same _ _ hK rfl
  have hb2:=hb.setCell (p:=⟨w.heap.size,0,none⟩) (Nat.le_refl _) (.int .i64 (n:Int))
  generalize W.setCell ⟨w.heap.size,0,none⟩ (.int .i64 (n:Int))=W2 at e1 hK2 hb2 ⊢
  refine ⟨by simp,.inl ⟨_,_,rfl,run_takeDeferred hK2,?_⟩⟩
  have e2:=((fM W0 W2 _ (.deferred none) (Nat.le_refl _)).block w.heap.size (by omega)).trans e1
  have r0:(W2.putObj W0.heap.size (.deferred none)).cell? ⟨w.heap.size,0,none⟩=some (.int .i64 (n:Int)):=by rw [cell_of_row _ _ 0 _ _ _ e2];rfl
  refine ⟨.int .i64 (n:Int),?_,⟨_,rfl,.inr ⟨rfl,fun i h1 h2=>?_⟩⟩,hb2.trans ((fM W0 W2 _ _ (Nat.le_refl _)).mono (by omega))⟩
  ·simp [results,Tryz.results150,go_sem,r0]
  cases hp:dJ f ns ss i with
  | false=>rfl
  | true =>
   have:i∈ups (dJ f ns ss) p q:=mem_ups.2 ⟨by omega,by omega,hp⟩
   rw [<- hxs] at this
   cases this
 case stop =>
  rintro c pre W ⟨q,hpre,hq0,hq1,hq2⟩ ⟨rfl,⟨x,rfl,hc⟩,hb⟩ hK
  have hx:ups (dJ f ns ss) p q=[]/\x=q:=by
   cases hu:ups (dJ f ns ss) p q with
   | nil=>rw [hu] at hpre;simp at hpre;exact ⟨rfl,hpre⟩
   | cons y ys=>rw [hu] at hpre;simp at hpre
  obtain ⟨hu,rfl⟩:=hx
  gi_wp2
  refine ⟨by simp,.inl ⟨_,_,rfl,run_takeDeferred hK,?_⟩⟩
  have e2:=((fM W0 W _ (.deferred none) (Nat.le_refl _)).block w.heap.size (by omega)).trans hc
  have r0:(W.putObj W0.heap.size (.deferred none)).cell? ⟨w.heap.size,0,none⟩=some (.int .i64 (x:Int)):=by rw [cell_of_row _ _ 0 _ _ _ e2];rfl
  refine ⟨.int .i64 (x:Int),?_,⟨_,rfl,.inl ⟨x,rfl,by omega,by omega,hq2,fun i h1 h2=>?_⟩⟩,hb.trans ((fM W0 W _ _ (Nat.le_refl _)).mono (by omega))⟩
  ·simp [results,Tryz.results150,go_sem,r0]
  cases hp:dJ f ns ss i with
  | false=>rfl
  | true =>
   have:i∈ups (dJ f ns ss) p x:=mem_ups.2 ⟨h2,by omega,hp⟩
   rw [hu] at this
   cases this
end
section
open Go.RowKit
end
end Go.Proofs.YtmnmeaeicjhkhaaGreatDoor
