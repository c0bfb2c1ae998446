import Derived.Test.YtmnmeaeicjhkhaaGreatDoorGYax
set_option maxRecDepth 100000
set_option maxHeartbeats 16000000
namespace Go.Proofs.YtmnmeaeicjhkhaaGreatDoor
open Go.RowKit Go.Shelf
section
attribute [local go_sem] Oper.semAt_some
def tA (w:World) (tv mv:Value) (ns n:Nat) (f:Nat->M) (ss:Nat->Sp):Prop :=
 ∃ a cap,tv=.slice a ns cap/\∀ i,i<ns->∃ g o v,a=some ⟨g,o,none⟩/\w.cell? ⟨g,o+i,none⟩=some v/\jD w v mv n f (ss i)
theorem tA.below {w w':World} {tv mv:Value} {ns n:Nat} {f:Nat->M} {ss:Nat->Sp} (h:tA w tv mv ns n f ss) (hb:Below w.heap.size w w'):tA w' tv mv ns n f ss:=by
 obtain ⟨a,cap,e,h⟩:=h
 refine ⟨a,cap,e,fun i hi=>?_⟩
 obtain ⟨g,o,v,ea,c,t⟩:=h i hi
 exact ⟨g,o,v,ea,bG hb c,t.below hb⟩
theorem indexR_any (lo kb:Nat) (tv mv:Value) (n:Nat) (f:Nat->M) (ns:Nat) (ss:Nat->Sp) (k:Nat) (w:World) (hk:k<n) (hns:ns<=50) (ht:tA w tv mv ns n f ss) (h2:bQ lo w mv n f) (h3:w.cell? ⟨kb,0,none⟩=some (.int .i64 k)) :
  Calls Tryz.prog 222 #[tv,.func (.func 191) #[] #[.pointer (some ⟨kb,0,none⟩)]] w fun e w'=>(∃ z:Int,e=.returned (.int .i64 z)/\decide (0<=z)=dJ f ns ss k)/\Below w.heap.size w w':=by
 obtain ⟨a,cap,rfl,hc⟩:=id ht
 have HC:=O hc
 have H2:=O h2
 have H3:=O h3
 clear hc h2 h3 ht
 go_enter Tryz.func222,Tryz.ntmps222
 go_wp2_with fail
 go_loopg [5,8] ns (fun gg _ i W=>∃ q:Nat,q+gg=ns/\i=.int .i64 q/\(∀ j,j<q->hit f (ss j) k=false)/\Below w.heap.size w W)
 case atStart=>exact ⟨0,by omega,rfl,fun j hj=>absurd hj (Nat.not_lt_zero _),Below.refl _ _⟩
 case round =>
  obtain ⟨q,hq,rfl,hst,hb⟩:=hrel
  have HST:=O hst
  have HB:=O hb
  clear hst hb
  by_cases hlt:q<ns
  ·obtain ⟨g,o,v,rfl,c0,htq⟩:=Z HC q hlt
   have c1:wr.cell? ⟨g,o+q,none⟩=some v:=bG (Z HB) c0
   have HT:=O (htq.below (Z HB))
   obtain ⟨fg,lb,rfl⟩:=htq.form
   have hkn:(q:Int)<(ns:Int):=by omega
   have hkz:(0:Int)<=(q:Int):=by omega
   clear c0 htq
   go_wp2_with fail
   refine (bQ3 lo kb _ mv n f (ss q) k _ hk (Z HT) ((Z H2).below (Z HB)) (bG (Z HB) (Z H3))).mono ?_
   rintro e w3 ⟨rfl,hb3⟩
   have HB3:=hT HB hb3
   clear hb3
   cases e:hit f (ss q) k with
   | true =>
    have HE:=O e
    clear e
    go_wp2_with fail
    go_ret
    exact ⟨⟨_,rfl,by rw [vN hlt (Z HE)];simp⟩,Z HB3⟩
   | false =>
    have HE:=O e
    clear e
    go_wp2_with fail
    go_roundg (ns - (q+1))
    case measure=>omega
    case rel =>
     have hst':∀ j,j<q+1->hit f (ss j) k=false:=fun j hj=>by
      by_cases e':j=q
      ·rw [e'];exact Z HE
      exact Z HST j (by omega)
     exact ⟨q+1,by omega,by go_num,hst',Z HB3⟩
  have e:ns=q:=by omega
  subst e
  have hnk:¬ ((ns:Int)<(ns:Int)):=by omega
  go_wp2_with fail
  go_ret
  exact ⟨⟨_,rfl,by rw [yP (Z HST)];rfl⟩,Z HB⟩
theorem bP2 (lo kb:Nat) (tv mv:Value) (n:Nat) (f:Nat->M) (ns:Nat) (ss:Nat->Sp) (k:Nat) (w:World) (hk:k<n) (hns:ns<=50) (ht:tA w tv mv ns n f ss) (h2:bQ lo w mv n f) (h3:w.cell? ⟨kb,0,none⟩=some (.int .i64 k)) :
  Calls Tryz.prog 190 #[tv,.func (.func 191) #[] #[.pointer (some ⟨kb,0,none⟩)]] w fun e w'=>e=.returned (.bool (dJ f ns ss k))/\Below w.heap.size w w':=by
 have HT:=O ht
 have H2:=O h2
 have H3:=O h3
 obtain ⟨a,cap,rfl,-⟩:=id ht
 clear h2 h3 ht
 go_enter Tryz.func190,Tryz.ntmps190
 go_wp2_with fail
 refine (indexR_any lo kb _ mv n f ns ss k _ hk hns (Z HT) (Z H2) (Z H3)).mono ?_
 rintro e w3 ⟨⟨z,rfl,hz⟩,hb3⟩
 have HB3:=O hb3
 have HZ:=O hz
 clear hb3 hz
 go_wp2_with fail
 go_ret
 exact ⟨by rw [<- Z HZ];rfl,Z HB3⟩
theorem hits1R_in (m:Nat) (hm:1<=m) (l c0 lo bF bE bT:Nat) (w0:World) (tv mv:Value) (n:Nat) (f:Nat->M) (ns:Nat) (ss:Nat->Sp) (a:Nat) (tt:Int) (hto:tt<=n) (hns:ns<=50) (hn:n<=1048576)
  (ht:tA w0 tv mv ns n f ss) (h2:bQ lo w0 mv n f) (J Jx:List Nat->World->Prop) (W:World) (hW:Below w0.heap.size w0 W)
  (hF:W.heap[bF]?=some (.cells #[.int .i64 (a:Int)] 3 (0,0))) (hE:W.heap[bE]?=some (.cells #[.int .i64 tt] 3 (0,0))) (hT:W.heap[bT]?=some (.cells #[tv] 169 (0,0))) (nE:bE≠c0) (nT:bT≠c0) (hc:c0<W.heap.size)
  (hJ:∀ s A B,J s A->Below W.heap.size A B->J s B)
  (hY:∀ pre (x:Nat) A,J pre A->YieldAt Fence.wide (m - 1) Tryz.prog l #[.int .i64 (x:Int)] A fun e B=>(e=.returned (.bool true)/\J (pre ++ [x]) B/\pF w0.heap.size c0 A B)∨(e=.returned (.bool false)/\Jx (pre ++ [x]) B))
  (h0:J [] W) :
  CallsIn Fence.wide m Tryz.prog 189 #[.func (.yield l) #[] #[],.pointer (some ⟨bF,0,none⟩),.pointer (some ⟨bE,0,none⟩),.pointer (some ⟨bT,0,none⟩)] W fun e W'=>(∃ v,e=.returned v) /\
   ((∃ xs,(∃ q:Nat,xs=ups (dJ f ns ss) a q/\a<=q/\tt<=(q:Int)/\(q=a∨(q:Int)<=tt))/\J xs W')∨(∃ pre,(∃ q:Nat,pre=ups (dJ f ns ss) a q ++ [q]/\a<=q/\(q:Int)<tt/\dJ f ns ss q=true)/\Jx pre W')):=by
 have HT0:=O ht
 have H2:=O h2
 obtain ⟨ta,tc,rfl,-⟩:=id ht
 clear ht h2
 have cF:W.cell? ⟨bF,0,none⟩=some (.int .i64 (a:Int)):=by rw [cell_of_row W _ 0 _ _ _ hF];rfl
 have lE:bE<W.heap.size:=cY hE
 have lT:bT<W.heap.size:=cY hT
 refine callsIn_of_wp Tryz.func189 rfl trivial ?_ rfl
 simp only [Tryz.ntmps189,List.size_toArray,List.length_cons,List.length_nil,Nat.reduceAdd,Nat.reduceSub,Array.replicate_succ,Array.replicate_zero,List.push_toArray,List.append_toArray,List.nil_append,List.cons_append]
 gi_wp2
 gi_loopw [5] (fun p wr=>∃ q kb:Nat,p=.pointer (some ⟨kb,0,none⟩)/\wr.heap[kb]?=some (.cells #[.int .i64 (q:Int)] 3 (0,0))/\W.heap.size<=kb/\a<=q/\(q=a∨(q:Int)<=tt)/\J (ups (dJ f ns ss) a q) wr/\Below w0.heap.size w0 wr/\W.heap.size<=wr.heap.size/\wr.heap[bE]?=some (.cells #[.int .i64 tt] 3 (0,0))/\wr.heap[bT]?=some (.cells #[.slice ta ns tc] 169 (0,0)))
  (fun p wr=>leftTo tt p wr)
 case atStart=>exact ⟨a,W.heap.size,rfl,heap_alloc_new W _,Nat.le_refl _,Nat.le_refl _,.inl rfl,by rw [ups_self];exact hJ _ _ _ h0 (bH _ _),hW.trans ((bH _ _).mono hW.size),(bH W _).size,((bH W _).block _ lE).trans hE,((bH W _).block _ lT).trans hT⟩
 case round =>
  obtain ⟨q,kb,rfl,hk,hkb,haq,hqt,hJq,hb,hsz,hE',hT'⟩:=hrel
  have ck:wr.cell? ⟨kb,0,none⟩=some (.int .i64 (q:Int)):=by rw [cell_of_row wr _ 0 _ _ _ hk];rfl
  have cE:wr.cell? ⟨bE,0,none⟩=some (.int .i64 tt):=by rw [cell_of_row wr _ 0 _ _ _ hE'];rfl
  have cT:wr.cell? ⟨bT,0,none⟩=some (.slice ta ns tc):=by rw [cell_of_row wr _ 0 _ _ _ hT'];rfl
  have lK:kb<wr.heap.size:=cY hk
  by_cases hlt:(q:Int)<tt
  ·have hqn:q<n:=by omega
   have HK:=O hk
   have HME:=O (pU (tt:=tt) hk)
   have HE:=O hE'
   have HTT:=O hT'
   have HJQ:=O hJq
   have HB:=O hb
   have HY:=O hY
   clear hk hE' hT' hJq hb hY h0 hF hE hT cF
   gi_wp2_with fail
   refine ⟨trivial,(callsIn_wide.2 (bP2 lo kb _ mv n f ns ss q _ hqn hns ((Z HT0).below (Z HB)) ((Z H2).below (Z HB)) ck)).mono ?_⟩
   rintro e w3 ⟨rfl,hb3⟩
   have hk3:w3.heap[kb]?=some (.cells #[.int .i64 (q:Int)] 3 (0,0)):=(hb3.block _ lK).trans (Z HK)
   have HE3:=O ((hb3.block _ (by omega)).trans (Z HE))
   have HT3:=O ((hb3.block _ (by omega)).trans (Z HTT))
   have hJ3:J (ups (dJ f ns ss) a q) w3:=hJ _ _ _ (Z HJQ) (hb3.mono hsz)
   have HB3:=hT HB hb3
   have hs3:W.heap.size<=w3.heap.size:=Nat.le_trans hsz hb3.size
   have c3:w3.cell? ⟨kb,0,none⟩=some (.int .i64 (q:Int)):=by rw [cell_of_row w3 _ 0 _ _ _ hk3];rfl
   have HK3:=O hk3
   clear hb3 ck cE cT HK HE HTT HJQ HB hk3
   have wq:IntKind.i64.wrap ((q:Int)+1)=((q+1:Nat):Int):=by rw [IntKind.wrap_i64];omega
   cases ep:dJ f ns ss q with
   | false =>
    have HP:=O ep
    have HJ3:=O hJ3
    clear ep hJ3
    gi_wp2_with fail
    refine ⟨fun _ h=>(by cases h),?_⟩
    gi_wp2
    go_roundw
    case rel =>
     obtain ⟨e1,e2⟩:=pG w3 q
     exact ⟨q+1,w3.heap.size,rfl,e1,hs3,by omega,.inr (by omega),by rw [ups_no (Z HP)];exact hJ _ _ _ (Z HJ3) (e2.mono hs3),(Z HB3).trans (e2.mono (Z HB3).size),Nat.le_trans hs3 e2.size,(e2.block _ (by omega)).trans (Z HE3),(e2.block _ (by omega)).trans (Z HT3)⟩
    case measure =>
     rw [Z HME,pU (pG w3 q).1]
     omega
   | true =>
    obtain ⟨fn,tmps,assign,body,hy,hR⟩:=Z HY _ q w3 hJ3
    have HP:=O ep
    have HR:=O hR
    clear ep hR hJ3
    gi_wp2_with fail
    refine (Z HR).mono ?_
    rintro e W5 (⟨rfl,hJ5,hk5⟩ | ⟨rfl,hJx5⟩)
    ·have hk5k:=hk5.2 kb _ _ _ (by omega) (Z HK3)
     have c5:W5.cell? ⟨kb,0,none⟩=some (.int .i64 (q:Int)):=by rw [cell_of_row W5 _ 0 _ _ _ hk5k];rfl
     have HE5:=O (hk5.2 bE _ _ _ nE (Z HE3))
     have HT5:=O (hk5.2 bT _ _ _ nT (Z HT3))
     have HB5:=O ((Z HB3).trans hk5.1)
     have hs5:W.heap.size<=W5.heap.size:=Nat.le_trans hs3 hk5.1.size
     have HJ5:=O hJ5
     have lE5:bE<W5.heap.size:=by omega
     have lT5:bT<W5.heap.size:=by omega
     clear hJ5 hk5 hk5k c3 HE3 HT3 HB3 HK3
     gi_wp2
     go_roundw
     case rel =>
      obtain ⟨e1,e2⟩:=pG W5 q
      exact ⟨q+1,W5.heap.size,rfl,e1,hs5,by omega,.inr (by omega),by rw [bE4 haq (Z HP)];exact hJ _ _ _ (Z HJ5) (e2.mono hs5),(Z HB5).trans (e2.mono (Z HB5).size),Nat.le_trans hs5 e2.size,(e2.block _ lE5).trans (Z HE5),(e2.block _ lT5).trans (Z HT5)⟩
     case measure =>
      rw [Z HME,pU (pG W5 q).1]
      omega
    gi_wp2
    refine bodyPost_ret (results_none rfl _ _ _) rfl ?_
    exact ⟨⟨_,rfl⟩,.inr ⟨_,⟨q,rfl,haq,hlt,Z HP⟩,hJx5⟩⟩
  gi_wp2
  go_end0
  exact ⟨⟨_,rfl⟩,.inl ⟨_,⟨q,rfl,haq,by omega,hqt⟩,hJq⟩⟩
theorem bR7 (P:Nat->Bool):∀ q:Nat,((ups P 0 q).length:Int)=(dK P q:Int)
 | 0=>rfl
 | q+1=>by
  have ih:=bR7 P q
  show ((ups P 0 (q+1)).length:Int)=((dK P q+(if P q then 1 else 0):Nat):Int)
  cases h:P q with
  | true=>rw [bE4 (Nat.zero_le _) h,List.length_append,List.length_singleton,if_pos rfl];omega
  | false=>rw [ups_no h,if_neg (by simp)];omega
theorem bL2 (B sb lo lp:Nat) (mv pv tv uv:Value) (D:Nat->Value) (nf:Nat) (fns:Nat->ByteArray) (n:Nat) (f:Nat->M) (s:LS) (nn:Int) (name:ByteArray) (kd fn line:Int) (sn:ByteArray) (w:World) (h:SS B w sb mv pv n f s tv uv D) (h2:∀ W,Below B w W->bQ lo W mv n f) (hp:∀ W,Below B w W->bW lp W pv n f) (hs:cB nf fns n f) (hok:gF n s) (hpl:s.past.length<=10000) (hB:B<=w.heap.size) (ho:cL (⟨13,nn,name,⟨kd,fn,line,sn⟩⟩:Ak)) (hge:(s.stops.length:Int)<=nn) :
  Calls Tryz.prog 114 #[.pointer (some ⟨sb,0,none⟩),.agg #[.int .i64 13,.int .i64 nn,.string name,.int .i64 kd,.int .i64 fn,.int .i64 line,.string sn]] w fun e w'=>pK B sb mv pv n f D s (⟨13,nn,name,⟨kd,fn,line,sn⟩⟩:Ak) w e w':=by
 have H:=O h
 have H2:=O h2
 have HP:=O hp
 have HS:=O hs
 have HOK:=O hok
 have HPL:=O hpl
 have HO:=O ho
 have A1:=O (DB.new w (⟨13,nn,name,⟨kd,fn,line,sn⟩⟩:Ak))
 have HB1:Hid (Below w.heap.size w ((w.alloc (.cells #[.int .i64 13,.int .i64 nn,.string name,.int .i64 kd,.int .i64 fn,.int .i64 line,.string sn] 47)).alloc tz0)):=O ((bH w (.cells #[.int .i64 13,.int .i64 nn,.string name,.int .i64 kd,.int .i64 fn,.int .i64 line,.string sn] 47)).alloc (by simp) tz0)
 have H1:=O ((Z H).below (Z HB1))
 clear h h2 hp hs hok hpl
 clear ho
 obtain ⟨ta,tc,hte⟩:=(Z H).tslice
 obtain ⟨ns,hns⟩:∃ ns,ns=s.stops.length:=⟨_,rfl⟩
 rw [<- hns] at hte
 subst hte
 have HGE:=O hge
 rw [<- hns] at hge
 have HNS:=O hns
 clear hns
 go_enter Tryz.func114,Tryz.ntmps114
 go_upto_region 1 with fail
 obtain ⟨w1,hw1⟩:∃ w1,w1=((w.alloc (.cells #[.int .i64 13,.int .i64 nn,.string name,.int .i64 kd,.int .i64 fn,.int .i64 line,.string sn] 47)).alloc tz0):=⟨_,rfl⟩
 rw [<- hw1] at A1 HB1 H1 ⊢
 clear hw1
 have c3:=(Z H1).box.c3
 have a1:w1.cell? ⟨w.heap.size,1,none⟩=some (.int .i64 nn):=(Z A1).a1
 go_quiet (fail)
 generalize hW2:w1.drewN _=w2
 have hb2:Below w1.heap.size w1 w2:=by rw [<- hW2];exact bP _ _
 have A2:=O ((Z A1).go hb2)
 have HL2:=O ((Z H1).below hb2)
 have HB2:=hT HB1 hb2
 clear hb2 hW2 c3 a1
 obtain ⟨⟨r0,r1,r2,r3,r4,r5⟩,x0,x1,x2,x3,x4,x5⟩:=(Z A2).rc
 go_wp2
 refine bodyPost_ret (v:=.tuple #[.agg #[.int .i64 0,.int .i64 0,.int .i64 0,.string ⟨#[]⟩,.slice none 0 0,.slice none 0 0],.iface 180 (.agg #[.int .i64 2])]) (by simp [results,Tryz.results114,go_sem,r0,r1,r2,r3,r4,r5]) rfl ?_
 exact cX (bU.count2 (Z HO) rfl (Z HGE)) (.inr ⟨rfl,by show (2:Int)≠0;omega,rfl⟩) (Z HL2) (Z A2) (cD _ _) (dD.nil _ _) ((Z HB2).mono hB) (bM.of_below (Z HB2)) hB
end
section
attribute [local go_sem] Oper.semAt_some
theorem putTold_row {W:World} {q:Nat} {c m:Int} {t:ByteArray} {v5 v6 a0 a1 a2 a3 a4 a5:Value} {ty:TypeId} {fr:Nat × Nat} (h:W.heap[q]?=some (.cells #[a0,a1,a2,a3,a4,a5] ty fr)):(dA W q c m t v5 v6).heap[q]?=some (.cells #[.int .i64 0,.int .i64 c,.int .i64 m,.string t,v5,v6] ty fr):=by
 simp [dA,World.setCell,Array.getElem?_modify,h]
theorem wrap_step (a:Int):IntKind.i64.wrap (IntKind.i64.wrap a+1)=IntKind.i64.wrap (a+1):=by
 rw [IntKind.wrap_i64,IntKind.wrap_i64,IntKind.wrap_i64];omega
theorem bL3 (P:Nat->Bool):∀ q,dK P q<=q
 | 0=>Nat.le_refl _
 | q+1=>by
  have:=bL3 P q
  show dK P q+(if P q then 1 else 0)<=q+1
  split<;>omega
theorem any_one (f:Nat->M) (sp:Sp):dJ f 1 (fun _=>sp)=hit f sp:=by
 funext k
 cases h:hit f sp k with
 | true=>exact vN (i:=0) (by omega) h
 | false=>exact yP (fun j hj=>h)
theorem bM.put {P:TypeId->Prop} {W:World} {l:Nat} {o o':Obj} (h:W.heap[l]?=some o) (ho:o.isCells=false):bM P W (W.putObj l o'):=fun b cs t fr hh _=>by
 by_cases e:b=l
 ·subst e;rw [hh] at h;cases h;cases ho
 rw [World.putObj_heap_other e];exact hh
theorem pK.put {B sb:Nat} {mv pv:Value} {n:Nat} {f:Nat->M} {D:Nat->Value} {s:LS} {a:Ak} {w W:World} {e:Ending} {l:Nat} {o o':Obj} (h:pK B sb mv pv n f D s a w e W) (hl:W.heap[l]?=some o) (ho:o.isCells=false) (hB:B<=l):pK B sb mv pv n f D s a w e (W.putObj l o'):=by
 obtain ⟨s',d,m,t,v5,v6,er,e1,h1,h2,⟨tv',uv',hL⟩,h5,h6,hb,hs⟩:=h
 have hp:bM (fun _=>True) W (W.putObj l o'):=bM.put hl ho
 exact ⟨s',d,m,t,v5,v6,er,e1,h1,h2,⟨tv',uv',hL.same hp trivial trivial trivial trivial trivial trivial trivial trivial trivial⟩,cK h5 hp trivial,h6.same hp trivial,hb.trans ⟨rfl,rfl,rfl,by simp [World.putObj],fun k hk=>World.putObj_heap_other (by omega)⟩,hs.trans (hp.mono fun _ _=>trivial)⟩
theorem bP3 (B sb lo lp:Nat) (mv pv tv uv:Value) (D:Nat->Value) (nf:Nat) (fns:Nat->ByteArray) (n:Nat) (f:Nat->M) (s:LS) (nn:Int) (name:ByteArray) (kd fn line:Int) (sn:ByteArray) (w:World) (h:SS B w sb mv pv n f s tv uv D) (h2:∀ W,Below B w W->bQ lo W mv n f) (hp:∀ W,Below B w W->bW lp W pv n f) (hs:cB nf fns n f) (hok:gF n s) (hpl:s.past.length<=10000) (hB:B<=w.heap.size) (ho:cL (⟨13,nn,name,⟨kd,fn,line,sn⟩⟩:Ak)) (hge:¬ (s.stops.length:Int)<=nn) :
  Calls Tryz.prog 114 #[.pointer (some ⟨sb,0,none⟩),.agg #[.int .i64 13,.int .i64 nn,.string name,.int .i64 kd,.int .i64 fn,.int .i64 line,.string sn]] w fun e w'=>pK B sb mv pv n f D s (⟨13,nn,name,⟨kd,fn,line,sn⟩⟩:Ak) w e w':=by
 have H:=O h
 have H2:=O h2
 have HP:=O hp
 have HS:=O hs
 have HOK:=O hok
 have HPL:=O hpl
 have HO:=O ho
 have A1:=O (DB.new w (⟨13,nn,name,⟨kd,fn,line,sn⟩⟩:Ak))
 have HB1:Hid (Below w.heap.size w ((w.alloc (.cells #[.int .i64 13,.int .i64 nn,.string name,.int .i64 kd,.int .i64 fn,.int .i64 line,.string sn] 47)).alloc tz0)):=O ((bH w (.cells #[.int .i64 13,.int .i64 nn,.string name,.int .i64 kd,.int .i64 fn,.int .i64 line,.string sn] 47)).alloc (by simp) tz0)
 have H1:=O ((Z H).below (Z HB1))
 clear h h2 hp hs hok hpl
 have hn0:0<=nn:=((gN (.inr rfl)).1 ho).1.1
 have hn49:nn<=49:=((gN (.inr rfl)).1 ho).1.2
 clear ho
 obtain ⟨a2,cap2,e2,hn2,-⟩:=Z H2 _ ((Z HB1).mono hB)
 subst e2
 clear hn2
 obtain ⟨ta,tc,hte⟩:=(Z H).tslice
 obtain ⟨ns,hns⟩:∃ ns,ns=s.stops.length:=⟨_,rfl⟩
 rw [<- hns] at hte hge
 subst hte
 have hn50:ns<=50:=by rw [hns];exact (Z HOK).st
 have HNS:=O hns
 clear hns
 have hlt:=(Z H).lt
 have hn3:n<=3000:=(Z HS).1.2.2.1
 have hk0:=(Z HOK).lo
 have hk1:=(Z HOK).hi
 obtain ⟨k,hk⟩:∃ k,k=s.at_:=⟨_,rfl⟩
 rw [<- hk] at hk0 hk1
 have HK:=O hk
 obtain ⟨j,hj⟩:∃ j:Nat,nn=(j:Int):=⟨nn.toNat,by omega⟩
 subst hj
 have hjn:j<ns:=by omega
 have hge':decide ((ns:Int)<=(j:Int))=false:=by simp;omega
 clear hk hge
 obtain ⟨U,hU⟩:∃ U,U=cQ n k:=⟨_,rfl⟩
 have HU:=O hU
 have hmin:(if (n:Int)<k+1 then (n:Int) else k+1)=(U:Int):=by rw [hU];unfold cQ;split<;>omega
 have hUn:U<=n:=by rw [hU];unfold cQ;omega
 have wk:IntKind.i64.wrap (k+1)=k+1:=by rw [IntKind.wrap_i64];omega
 have wj:IntKind.i64.wrap ((j:Int)+1)=(j:Int)+1:=by rw [IntKind.wrap_i64];omega
 clear hU
 refine (callsIn_wide (n:=6)).1 ?_
 refine callsIn_of_wp_marks Tryz.func114 rfl trivial ?_ rfl
 simp only [Tryz.ntmps114,List.size_toArray,List.length_cons,List.length_nil,Nat.reduceAdd,Nat.reduceSub,Array.replicate_succ,Array.replicate_zero,List.push_toArray,List.append_toArray,List.nil_append,List.cons_append]
 refine wpIn_wide.2 ?_
 go_upto_region 1 with fail
 obtain ⟨w1,hw1⟩:∃ w1,w1=((w.alloc (.cells #[.int .i64 13,.int .i64 (j:Int),.string name,.int .i64 kd,.int .i64 fn,.int .i64 line,.string sn] 47)).alloc tz0):=⟨_,rfl⟩
 rw [<- hw1] at A1 HB1 H1 ⊢
 clear hw1
 have c3:=(Z H1).box.c3
 have a1:w1.cell? ⟨w.heap.size,1,none⟩=some (.int .i64 (j:Int)):=(Z A1).a1
 go_quiet (fail)
 generalize hW2:w1.drewN _=w2
 have hb2:Below w1.heap.size w1 w2:=by rw [<- hW2];exact bP _ _
 have A2:=O ((Z A1).go hb2)
 have HL2:=O ((Z H1).below hb2)
 have HB2:=hT HB1 hb2
 clear hb2 hW2 c3 a1 A1 H1
 obtain ⟨vs,hrow,hbo⟩:=(Z HL2).tests
 rw [<- Z HNS] at hrow hbo
 obtain ⟨g,cap,eg,hBg,hcm,hnc⟩:=pE hrow (by omega)
 cases eg
 have HTR:Hid (tA w2 (.slice (some ⟨g,j,none⟩) 1 (tc - j)) (.slice a2 n cap2) 1 n f (fun _=>s.ss j)):=O ⟨_,_,rfl,fun i hi=>⟨g,j,vs j,rfl,by
  obtain rfl:i=0:=by omega
  exact (bL hrow j _ (by rw [List.getElem?_map,List.getElem?_range hjn];rfl)).1,hbo j hjn⟩⟩
 have HMO:=O (Z H2 _ ((Z HB2).mono hB))
 clear hrow hbo
 have htj:¬ tc=j:=by omega
 have t1:(0:Int)<=(j:Int):=by omega
 have t2:(j:Int)<=(j:Int)+1:=by omega
 have t3:(j:Int)+1<=(tc:Int):=by omega
 have t4:(0:Int)<=(j:Int)+1:=by omega
 have hk2:=(Z HL2).box.c2
 rw [<- Z HK] at hk2
 have HSS:Hid (∀ W,Below (w2.alloc (.cells #[.int .i64 0] 3)).heap.size (w2.alloc (.cells #[.int .i64 0] 3)) W->W.cell? ⟨sb,0,none⟩=some (.slice a2 n cap2)/\W.cell? ⟨sb,2,none⟩=some (.int .i64 k)/\W.cell? ⟨sb,3,none⟩=some (.slice (some ⟨g,0,none⟩) ns tc)/\W.cell? ⟨w.heap.size,1,none⟩=some (.int .i64 (j:Int))):=O (fun W hb=>⟨bG hb (bG (bH w2 _) (Z HL2).box.c0),bG hb (bG (bH w2 _) hk2),bG hb (bG (bH w2 _) (Z HL2).box.c3),bG hb (bG (bH w2 _) (Z A2).a1)⟩)
 clear hk2
 go_upto_region 4 with fail
 refine wp_region_noPanic ?_
 refine wp_region_held_drew (S:=fun W=>W.cell? ⟨sb,0,none⟩=some (.slice a2 n cap2)/\W.cell? ⟨sb,2,none⟩=some (.int .i64 k)/\W.cell? ⟨sb,3,none⟩=some (.slice (some ⟨g,0,none⟩) ns tc)/\W.cell? ⟨w.heap.size,1,none⟩=some (.int .i64 (j:Int))) (by kernel_rfl) (Z HSS _ (Below.refl _ _).drew) (fun hHeld=>?_)
 refine tka 0 18 hHeld ?_
 refine tka 1 19 hHeld ?_
 refine tka 2 20 hHeld ?_
 refine tka 3 21 hHeld ?_
 refine tka 4 22 hHeld ?_
 refine tka 5 23 hHeld ?_
 refine tka 6 24 hHeld ?_
 refine tka 7 25 hHeld ?_
 refine tka 8 26 hHeld ?_
 refine tka 9 27 hHeld ?_
 refine tka 10 28 hHeld ?_
 refine tka 11 29 hHeld ?_
 refine tka 12 30 hHeld ?_
 refine tka 13 31 hHeld ?_
 refine tka 14 32 hHeld ?_
 refine tka 15 33 hHeld ?_
 refine tka 16 34 hHeld ?_
 refine tka 17 35 hHeld ?_
 refine tka 18 36 hHeld ?_
 refine tka 19 37 hHeld ?_
 refine tka 20 38 hHeld ?_
 refine rdy 21 fun KK hK=>?_
 go_simp
 refine ((callsIn_wide).1 (zQ _ _ _ _ _ _)).mono ?_
 rintro e w' ⟨rfl,rfl⟩
 obtain ⟨WA,hWA⟩:∃ WA,WA=(w2.alloc (.cells #[.int .i64 0] 3)).drew:=⟨_,rfl⟩
 have sA:WA.heap.size=w2.heap.size+1:=by rw [hWA];simp [World.drew]
 have kA:WA.heap[w2.heap.size]?=some (.cells #[.int .i64 0] 3 (0,0)):=by rw [hWA];exact heap_alloc_new w2 _
 have bA:Below w2.heap.size w2 WA:=by rw [hWA];exact (bH w2 _).drew
 have bA':Below (w2.alloc (.cells #[.int .i64 0] 3)).heap.size (w2.alloc (.cells #[.int .i64 0] 3)) WA:=by rw [hWA];exact (Below.refl _ _).drew
 rw [<- hWA]
 clear hWA
 obtain ⟨W0,hW0,s0,k1,k2,k3,b0⟩:=vA WA (.cells #[.slice (some ⟨g,j,none⟩) 1 (tc - j)] 169) (.cells #[.int .i64 0] 3) (.cells #[.int .i64 (U:Int)] 3)
 rw [<- hW0]
 rw [sA] at k1 k2 k3 s0 ⊢
 have kA0:W0.heap[w2.heap.size]?=some (.cells #[.int .i64 0] 3 (0,0)):=(b0.block _ (by omega)).trans kA
 have bw0:Below w2.heap.size w2 W0:=bA.trans (b0.mono (by omega))
 refine hK.out _ _ (Z HSS _ (bA'.trans (b0.mono bA'.size))) (fun hHeld=>?_)
 clear hK KK hHeld hW0 kA bA bA'
 try simp only [Act.put,sy]
 refine wpAnyH_done (by kernel_rfl) ?_ _
 refine NoPanic.normal ?_
 go_simp
 rename_i KA hKA KB hKB
 refine hKB _ _ ?_
 refine (wpIn_wide (n:=6)).1 ?_
 gi_wp2_with fail
 have hseq:SeqOwn Fence.wide 5 Tryz.prog 189 #[.pointer (some ⟨w2.heap.size+1+1,0,none⟩),.pointer (some ⟨w2.heap.size+1+1+1,0,none⟩),.pointer (some ⟨w2.heap.size+1,0,none⟩)] (fun x:Nat=>#[.int .i64 (x:Int)]) (pF w2.heap.size w2.heap.size)
   (fun xs=>∃ q:Nat,xs=ups (dJ f 1 (fun _=>s.ss j)) 0 q/\0<=q/\(U:Int)<=(q:Int)/\(q=0∨(q:Int)<=(U:Int))) (fun pre=>∃ q:Nat,pre=ups (dJ f 1 (fun _=>s.ss j)) 0 q ++ [q]/\0<=q/\(q:Int)<(U:Int)/\dJ f 1 (fun _=>s.ss j) q=true) W0:=fun l J Jx W hW hJ _ hY h0 =>
  hits1R_in 5 (by omega) l w2.heap.size lo (w2.heap.size+1+1) (w2.heap.size+1+1+1) (w2.heap.size+1) w2 (.slice (some ⟨g,j,none⟩) 1 (tc - j)) (.slice a2 n cap2) n f 1 (fun _=>s.ss j) 0 (U:Int) (by omega) (by omega) (by omega) (Z HTR) (Z HMO) J Jx W (bw0.trans (hW.mono bw0.size))
   ((hW.block _ (by omega)).trans k2) ((hW.block _ (by omega)).trans k3) ((hW.block _ (by omega)).trans k1) (by omega) (by omega) (by have:=hW.size;omega) hJ hY h0
 refine qD rfl (by omega) (gf:=189) (lb:=#[.pointer (some ⟨w2.heap.size+1+1,0,none⟩),.pointer (some ⟨w2.heap.size+1+1+1,0,none⟩),.pointer (some ⟨w2.heap.size+1,0,none⟩)]) rfl trivial (enters_of Tryz.func189 (by kernel_rfl) rfl)
  hseq pF.t (pF.b (by omega)) (fun _=>rfl)
  (fun pre W=>W.heap[w2.heap.size]?=some (.cells #[.int .i64 (IntKind.i64.wrap (pre.length:Int))] 3 (0,0))/\Below w2.heap.size w2 W)
  (fun _ _ _=>False)
  (fun s A B h hb=>⟨(hb.block _ (by omega)).trans h.1,h.2.trans (hb.mono (by omega))⟩)
  (fun _ _ _ _ h _=>h)
  ⟨kA0,bw0⟩
  ?_
  ?assign ?body ?done ?stop
 case assign =>
  intro l x W K hK
  gi_wp2
  exact hK
 case body =>
  rintro l pre x W ⟨hc,hb⟩
  have c0:W.cell? ⟨w2.heap.size,0,none⟩=some (.int .i64 (IntKind.i64.wrap (pre.length:Int))):=by rw [cell_of_row W _ 0 _ _ _ hc];rfl
  have f0:W.frozen? ⟨w2.heap.size,0,none⟩=false:=frozen_of_row _ _ _ _ _ hc
  gi_wp2
  refine ⟨(KeepsOthers.setCell _ _ _).from _,⟨(Below.refl _ W).setCell (p:=⟨w2.heap.size,0,none⟩) (Nat.le_refl _) _,fun b cs t fr hb e=>?_⟩,?_,hb.setCell (p:=⟨w2.heap.size,0,none⟩) (Nat.le_refl _) _⟩
  ·rw [heap_setCell_other _ _ _ _ hb];exact e
  have hw:IntKind.i64.wrap (((pre ++ [x]).length:Nat):Int)=IntKind.i64.wrap (IntKind.i64.wrap (pre.length:Int)+1):=by
   rw [List.length_append,List.length_singleton,wrap_step];simp
  rw [hw]
  simp only [<- IntWalk.i64_left]
  exact (heap_setCell_same W _ 0 #[.int .i64 (IntKind.i64.wrap (pre.length:Int))] _ (.int .i64 (IntKind.i64.wrap (IntKind.i64.wrap (pre.length:Int)+1))) hc)
 case done =>
  rintro xs W ⟨q,rfl,hq0,hq1,hq2⟩ ⟨hc,hb⟩ hK
  have hqU:q=U:=by omega
  subst hqU
  have hct:IntKind.i64.wrap ((ups (dJ f 1 (fun _=>s.ss j)) 0 q).length:Int)=(dK (hit f (s.ss j)) q:Int):=by
   rw [bR7,any_one]
   have:=bL3 (hit f (s.ss j)) q
   rw [IntKind.wrap_i64];omega
  rw [hct] at hc
  have c0:W.cell? ⟨w2.heap.size,0,none⟩=some (.int .i64 (dK (hit f (s.ss j)) q:Int)):=by rw [cell_of_row W _ 0 _ _ _ hc];rfl
  have A3:=O ((Z A2).go hb)
  have HL3:=O ((Z HL2).below hb)
  have HB3:=hT HB2 hb
  obtain ⟨⟨r0,r1,r2,r3,r4,r5⟩,x0,x1,x2,x3,x4,x5⟩:=(Z A3).rc
  have sz:=hb.size
  have sz2:=(Z HB2).size
  have sz3:=(Z A2).size
  have hK':(dA W (w.heap.size+1) 0 (dK (hit f (s.ss j)) q:Int) ⟨#[]⟩ (.slice none 0 0) (.slice none 0 0)).heap[W0.heap.size]?=some (.deferred (some [])):=(qS _ _ _ _ _ _ _ _ (by omega)).trans hK
  rw [s0] at hK'
  clear hct
  gi_wp2
  go_wp2
  refine ⟨by simp,.inl ⟨_,_,rfl,run_takeDeferred hK',?_⟩⟩
  refine ⟨.tuple #[.agg #[.int .i64 0,.int .i64 0,.int .i64 (dK (hit f (s.ss j)) q:Int),.string ⟨#[]⟩,.slice none 0 0,.slice none 0 0],.nilIface],?_,?_⟩
  ·have hrow:((dA W (w.heap.size+1) 0 (dK (hit f (s.ss j)) q:Int) ⟨#[]⟩ (.slice none 0 0) (.slice none 0 0)).putObj (w2.heap.size+1+3) (.deferred none)).heap[w.heap.size+1]?=some (.cells #[.int .i64 0,.int .i64 0,.int .i64 (dK (hit f (s.ss j)) q:Int),.string ⟨#[]⟩,.slice none 0 0,.slice none 0 0] 38 (0,0)):=by
    rw [World.putObj_heap_other (by omega)]
    exact putTold_row (Z A3).rb
   change Sem.run _ _ ((dA W (w.heap.size+1) 0 (dK (hit f (s.ss j)) q:Int) ⟨#[]⟩ (.slice none 0 0) (.slice none 0 0)).putObj (w2.heap.size+1+3) (.deferred none))=Result.ok _ ((dA W (w.heap.size+1) 0 (dK (hit f (s.ss j)) q:Int) ⟨#[]⟩ (.slice none 0 0) (.slice none 0 0)).putObj (w2.heap.size+1+3) (.deferred none))
   generalize (dA W (w.heap.size+1) 0 (dK (hit f (s.ss j)) q:Int) ⟨#[]⟩ (.slice none 0 0) (.slice none 0 0)).putObj (w2.heap.size+1+3) (.deferred none)=WW at hrow ⊢
   have g0:WW.cell? ⟨w.heap.size+1,0,none⟩=_:=(cell_of_row WW _ 0 _ _ _ hrow)
   have g1:WW.cell? ⟨w.heap.size+1,1,none⟩=_:=(cell_of_row WW _ 1 _ _ _ hrow)
   have g2:WW.cell? ⟨w.heap.size+1,2,none⟩=_:=(cell_of_row WW _ 2 _ _ _ hrow)
   have g3:WW.cell? ⟨w.heap.size+1,3,none⟩=_:=(cell_of_row WW _ 3 _ _ _ hrow)
   have g4:WW.cell? ⟨w.heap.size+1,4,none⟩=_:=(cell_of_row WW _ 4 _ _ _ hrow)
   have g5:WW.cell? ⟨w.heap.size+1,5,none⟩=_:=(cell_of_row WW _ 5 _ _ _ hrow)
   simp [results,Tryz.results114,go_sem,g0,g1,g2,g3,g4,g5]
  have hd:=cX (sb:=sb) (mv:=.slice a2 n cap2) (pv:=pv) (D:=D) (er:=.nilIface) (m:=(dK (hit f (s.ss j)) q:Int)) (t:=⟨#[]⟩) (v5:=.slice none 0 0) (v6:=.slice none 0 0) (bU.count (n:=n) (f:=f) (Z HO) rfl (by show ¬ (s.stops.length:Int)<=(j:Int);rw [<- Z HNS];omega)) (.inl ⟨rfl,rfl,by show (dK (hit f (s.ss j)) q:Int)=((dK (hit f (s.ss (j:Int).toNat)) (cQ n s.at_):Nat):Int);rw [Int.toNat_natCast,Z HU,Z HK],rfl⟩) (Z HL3) (Z A3) (cD _ _) (dD.nil _ _) ((Z HB3).mono hB) (bM.of_below (Z HB3)) hB
  exact hd.put hK' rfl (by omega)
 case stop =>
  rintro c pre W _ h _
  exact h.elim
end
section
attribute [local go_sem] Oper.semAt_some
def TakesIs (least most:Int) (tn ts:Bool) (a:Ak):Prop :=
 least<=a.n/\a.n<=most/\(if ts=true then qN a.stop else mS a.stop)/\(if tn=true then 1<=a.name.size/\a.name.size<=40 else a.name=ByteArray.empty)
theorem takesN_any (dv:Value) (least most:Int) (op nn:Int) (name:ByteArray) (kd fn line:Int) (sn:ByteArray) (w:World) (hz:name.size<=maxLen) (hs:sn.size<=maxLen) :
  Calls Tryz.prog 158 #[.agg #[dv,.int .i64 least,.int .i64 most,.bool true,.bool false],.agg #[.int .i64 op,.int .i64 nn,.string name,.int .i64 kd,.int .i64 fn,.int .i64 line,.string sn]] w fun e w'=>bS (TakesIs least most true false ⟨op,nn,name,⟨kd,fn,line,sn⟩⟩) e/\Below w.heap.size w w':=by
 unfold maxLen at hz hs
 have B0:Hid (Below w.heap.size w ((w.alloc (.cells #[dv,.int .i64 least,.int .i64 most,.bool true,.bool false] 173)).alloc (.cells #[.int .i64 op,.int .i64 nn,.string name,.int .i64 kd,.int .i64 fn,.int .i64 line,.string sn] 47))):=O ((bH w (.cells #[dv,.int .i64 least,.int .i64 most,.bool true,.bool false] 173)).alloc (by simp) (.cells #[.int .i64 op,.int .i64 nn,.string name,.int .i64 kd,.int .i64 fn,.int .i64 line,.string sn] 47))
 by_cases f0:(decide (nn<least))=true
 ·as_aux_lemma =>
   go_enter Tryz.func158,Tryz.ntmps158
   go_wp2
   go_ret
   exact ⟨bS.no (fun h=>by have:=h.1;simp at f0;dsimp only at this;omega),Z B0⟩
 have f0:(decide (nn<least))=false:=Bool.of_not_eq_true f0
 by_cases f1:(decide (most<nn))=true
 ·as_aux_lemma =>
   go_enter Tryz.func158,Tryz.ntmps158
   go_wp2
   go_ret
   exact ⟨bS.no (fun h=>by have:=h.2.1;simp at f1;dsimp only at this;omega),Z B0⟩
 have f1:(decide (most<nn))=false:=Bool.of_not_eq_true f1
 by_cases k:(kd == 0)=false
 ·as_aux_lemma =>
   go_enter Tryz.func158,Tryz.ntmps158
   go_wp2
   go_ret
   exact ⟨bS.no (fun h=>by have:=h.2.2.1.1;simp_all),Z B0⟩
 have k:(kd == 0)=true:=Bool.of_not_eq_false k
 by_cases f:(fn == 0)=false
 ·as_aux_lemma =>
   go_enter Tryz.func158,Tryz.ntmps158
   go_wp2
   go_ret
   exact ⟨bS.no (fun h=>by have:=h.2.2.1.2.1;simp_all),Z B0⟩
 have f:(fn == 0)=true:=Bool.of_not_eq_false f
 by_cases l:(line == 0)=false
 ·as_aux_lemma =>
   go_enter Tryz.func158,Tryz.ntmps158
   go_wp2
   go_ret
   exact ⟨bS.no (fun h=>by have:=h.2.2.1.2.2.1;simp_all),Z B0⟩
 have l:(line == 0)=true:=Bool.of_not_eq_false l
 by_cases e:¬ sn=ByteArray.empty
 ·have n1:¬ sn.toList=[]:=fun q=>e ((toList_nil_iff_emptyBytes sn).1 q)
  have n3:(sn.toList == [])=false:=by simpa using n1
  have HE:=O e
  clear e
  as_aux_lemma =>
   go_enter Tryz.func158,Tryz.ntmps158
   go_wp2
   go_ret
   exact ⟨bS.no (fun h=>Z HE h.2.2.1.2.2.2),Z B0⟩
 have e:=Decidable.not_not.1 e
 subst e
 as_aux_lemma =>
  go_enter Tryz.func158,Tryz.ntmps158
  go_wp2
  all_goals go_ret
  all_goals (first | exact ⟨⟨decide ((name.size:Int)<=40),rfl,⟨fun h=>⟨by simp at f0;dsimp only;omega,by simp at f1;dsimp only;omega,(by rw [if_neg (by simp)];exact ⟨eq_of_beq k,eq_of_beq f,eq_of_beq l,rfl⟩),(by rw [if_pos rfl];have:=of_decide_eq_true h;dsimp only;omega)⟩,fun h=>by have q:=h.2.2.2;simp only [if_true] at q;exact decide_eq_true (by omega)⟩⟩,Z B0⟩ | exact ⟨bS.no (fun h=>by have q:=h.2.2.2;simp only [if_true] at q;omega),Z B0⟩ | exact ⟨bS.yes ⟨by simp at f0;dsimp only;omega,by simp at f1;dsimp only;omega,(by rw [if_neg (by simp)];exact ⟨eq_of_beq k,eq_of_beq f,eq_of_beq l,rfl⟩),(by rw [if_pos rfl];dsimp only;omega)⟩,Z B0⟩)
theorem gP (dv:Value) (least most:Int) (op nn:Int) (name:ByteArray) (kd fn line:Int) (sn:ByteArray) (w:World) (hz:name.size<=maxLen) (hs:sn.size<=maxLen) :
  Calls Tryz.prog 158 #[.agg #[dv,.int .i64 least,.int .i64 most,.bool false,.bool false],.agg #[.int .i64 op,.int .i64 nn,.string name,.int .i64 kd,.int .i64 fn,.int .i64 line,.string sn]] w fun e w'=>bS (TakesIs least most false false ⟨op,nn,name,⟨kd,fn,line,sn⟩⟩) e/\Below w.heap.size w w':=by
 unfold maxLen at hz hs
 have B0:Hid (Below w.heap.size w ((w.alloc (.cells #[dv,.int .i64 least,.int .i64 most,.bool false,.bool false] 173)).alloc (.cells #[.int .i64 op,.int .i64 nn,.string name,.int .i64 kd,.int .i64 fn,.int .i64 line,.string sn] 47))):=O ((bH w (.cells #[dv,.int .i64 least,.int .i64 most,.bool false,.bool false] 173)).alloc (by simp) (.cells #[.int .i64 op,.int .i64 nn,.string name,.int .i64 kd,.int .i64 fn,.int .i64 line,.string sn] 47))
 by_cases f0:(decide (nn<least))=true
 ·as_aux_lemma =>
   go_enter Tryz.func158,Tryz.ntmps158
   go_wp2
   go_ret
   exact ⟨bS.no (fun h=>by have:=h.1;simp at f0;dsimp only at this;omega),Z B0⟩
 have f0:(decide (nn<least))=false:=Bool.of_not_eq_true f0
 by_cases f1:(decide (most<nn))=true
 ·as_aux_lemma =>
   go_enter Tryz.func158,Tryz.ntmps158
   go_wp2
   go_ret
   exact ⟨bS.no (fun h=>by have:=h.2.1;simp at f1;dsimp only at this;omega),Z B0⟩
 have f1:(decide (most<nn))=false:=Bool.of_not_eq_true f1
 by_cases k:(kd == 0)=false
 ·as_aux_lemma =>
   go_enter Tryz.func158,Tryz.ntmps158
   go_wp2
   go_ret
   exact ⟨bS.no (fun h=>by have:=h.2.2.1.1;simp_all),Z B0⟩
 have k:(kd == 0)=true:=Bool.of_not_eq_false k
 by_cases f:(fn == 0)=false
 ·as_aux_lemma =>
   go_enter Tryz.func158,Tryz.ntmps158
   go_wp2
   go_ret
   exact ⟨bS.no (fun h=>by have:=h.2.2.1.2.1;simp_all),Z B0⟩
 have f:(fn == 0)=true:=Bool.of_not_eq_false f
 by_cases l:(line == 0)=false
 ·as_aux_lemma =>
   go_enter Tryz.func158,Tryz.ntmps158
   go_wp2
   go_ret
   exact ⟨bS.no (fun h=>by have:=h.2.2.1.2.2.1;simp_all),Z B0⟩
 have l:(line == 0)=true:=Bool.of_not_eq_false l
 by_cases e:¬ sn=ByteArray.empty
 ·have n1:¬ sn.toList=[]:=fun q=>e ((toList_nil_iff_emptyBytes sn).1 q)
  have n3:(sn.toList == [])=false:=by simpa using n1
  have HE:=O e
  clear e
  as_aux_lemma =>
   go_enter Tryz.func158,Tryz.ntmps158
   go_wp2
   go_ret
   exact ⟨bS.no (fun h=>Z HE h.2.2.1.2.2.2),Z B0⟩
 have e:=Decidable.not_not.1 e
 subst e
 by_cases e:¬ name=ByteArray.empty
 ·have n1:¬ name.toList=[]:=fun q=>e ((toList_nil_iff_emptyBytes name).1 q)
  have n3:(name.toList == [])=false:=by simpa using n1
  have HE:=O e
  clear e
  as_aux_lemma =>
   go_enter Tryz.func158,Tryz.ntmps158
   go_wp2
   go_ret
   exact ⟨bS.no (fun h=>by have q:=h.2.2.2;rw [if_neg (by simp)] at q;exact Z HE q),Z B0⟩
 have e:=Decidable.not_not.1 e
 subst e
 as_aux_lemma =>
  go_enter Tryz.func158,Tryz.ntmps158
  go_wp2
  all_goals go_ret
  all_goals (first | exact ⟨bS.yes ⟨by simp at f0;dsimp only;omega,by simp at f1;dsimp only;omega,(by rw [if_neg (by simp)];exact ⟨eq_of_beq k,eq_of_beq f,eq_of_beq l,rfl⟩),(by rw [if_neg (by simp)])⟩,Z B0⟩)
theorem takesS_any (dv:Value) (least most:Int) (op nn:Int) (name:ByteArray) (kd fn line:Int) (sn:ByteArray) (w:World) (hz:name.size<=maxLen) (hs:sn.size<=maxLen) :
  Calls Tryz.prog 158 #[.agg #[dv,.int .i64 least,.int .i64 most,.bool false,.bool true],.agg #[.int .i64 op,.int .i64 nn,.string name,.int .i64 kd,.int .i64 fn,.int .i64 line,.string sn]] w fun e w'=>bS (TakesIs least most false true ⟨op,nn,name,⟨kd,fn,line,sn⟩⟩) e/\Below w.heap.size w w':=by
 unfold maxLen at hz hs
 have B0:Hid (Below w.heap.size w ((w.alloc (.cells #[dv,.int .i64 least,.int .i64 most,.bool false,.bool true] 173)).alloc (.cells #[.int .i64 op,.int .i64 nn,.string name,.int .i64 kd,.int .i64 fn,.int .i64 line,.string sn] 47))):=O ((bH w (.cells #[dv,.int .i64 least,.int .i64 most,.bool false,.bool true] 173)).alloc (by simp) (.cells #[.int .i64 op,.int .i64 nn,.string name,.int .i64 kd,.int .i64 fn,.int .i64 line,.string sn] 47))
 by_cases f0:(decide (nn<least))=true
 ·as_aux_lemma =>
   go_enter Tryz.func158,Tryz.ntmps158
   go_wp2
   go_ret
   exact ⟨bS.no (fun h=>by have:=h.1;simp at f0;dsimp only at this;omega),Z B0⟩
 have f0:(decide (nn<least))=false:=Bool.of_not_eq_true f0
 by_cases f1:(decide (most<nn))=true
 ·as_aux_lemma =>
   go_enter Tryz.func158,Tryz.ntmps158
   go_wp2
   go_ret
   exact ⟨bS.no (fun h=>by have:=h.2.1;simp at f1;dsimp only at this;omega),Z B0⟩
 have f1:(decide (most<nn))=false:=Bool.of_not_eq_true f1
 by_cases q:¬ qN ⟨kd,fn,line,sn⟩
 ·as_aux_lemma =>
   go_enter Tryz.func158,Tryz.ntmps158
   go_wp2_with fail
   refine (pY kd fn line sn _ hs).mono ?_
   rintro e w2 ⟨hb,hb2⟩
   obtain ⟨b,rfl,hb⟩:=hb
   obtain rfl:b=false:=by cases b with
    | true=>exact absurd (hb.1 rfl) q
    | false=>rfl
   have HB2:=hT B0 hb2
   clear hb hb2
   go_wp2
   go_ret
   exact ⟨bS.no (fun h=>q (by have:=h.2.2.1;rwa [if_pos rfl] at this)),Z HB2⟩
 have q:=Classical.not_not.1 q
 have HD1:Hid (((w.alloc (.cells #[dv,.int .i64 least,.int .i64 most,.bool false,.bool true] 173)).alloc (.cells #[.int .i64 op,.int .i64 nn,.string name,.int .i64 kd,.int .i64 fn,.int .i64 line,.string sn] 47)).heap[w.heap.size]?=some (.cells #[dv,.int .i64 least,.int .i64 most,.bool false,.bool true] 173 (0,0))):=O (((bH (w.alloc (.cells #[dv,.int .i64 least,.int .i64 most,.bool false,.bool true] 173)) (.cells #[.int .i64 op,.int .i64 nn,.string name,.int .i64 kd,.int .i64 fn,.int .i64 line,.string sn] 47)).block _ (by simp)).trans (heap_alloc_new w (.cells #[dv,.int .i64 least,.int .i64 most,.bool false,.bool true] 173)))
 have HA1:Hid (((w.alloc (.cells #[dv,.int .i64 least,.int .i64 most,.bool false,.bool true] 173)).alloc (.cells #[.int .i64 op,.int .i64 nn,.string name,.int .i64 kd,.int .i64 fn,.int .i64 line,.string sn] 47)).heap[w.heap.size+1]?=some (.cells #[.int .i64 op,.int .i64 nn,.string name,.int .i64 kd,.int .i64 fn,.int .i64 line,.string sn] 47 (0,0))):=O (by have h:=heap_alloc_new (w.alloc (.cells #[dv,.int .i64 least,.int .i64 most,.bool false,.bool true] 173)) (.cells #[.int .i64 op,.int .i64 nn,.string name,.int .i64 kd,.int .i64 fn,.int .i64 line,.string sn] 47);rwa [World.size_alloc] at h)
 by_cases e:¬ name=ByteArray.empty
 ·have n1:¬ name.toList=[]:=fun q=>e ((toList_nil_iff_emptyBytes name).1 q)
  have n3:(name.toList == [])=false:=by simpa using n1
  have HE:=O e
  clear e
  as_aux_lemma =>
   go_enter Tryz.func158,Tryz.ntmps158
   go_wp2_with fail
   refine (pY kd fn line sn _ hs).mono ?_
   rintro e w2 ⟨hb,hb2⟩
   obtain ⟨b,rfl,hb⟩:=hb
   obtain rfl:b=true:=hb.2 q
   have HB2:=hT B0 hb2
   have hd2:=(hb2.block _ (cJ (Z HD1))).trans (Z HD1)
   have ha2:=(hb2.block _ (cJ (Z HA1))).trans (Z HA1)
   have e1:w2.cell? ⟨w.heap.size,3,none⟩=some (.bool false):=by rw [cell_of_row w2 _ 3 _ _ _ hd2];rfl
   have e2:w2.cell? ⟨w.heap.size,4,none⟩=some (.bool true):=by rw [cell_of_row w2 _ 4 _ _ _ hd2];rfl
   have e3:w2.cell? ⟨w.heap.size+1,2,none⟩=some (.string name):=by rw [cell_of_row w2 _ 2 _ _ _ ha2];rfl
   clear hb hb2 hd2 ha2
   go_wp2
   go_ret
   exact ⟨bS.no (fun h=>by have q:=h.2.2.2;rw [if_neg (by simp)] at q;exact Z HE q),Z HB2⟩
 have e:=Decidable.not_not.1 e
 subst e
 as_aux_lemma =>
  go_enter Tryz.func158,Tryz.ntmps158
  go_wp2_with fail
  refine (pY kd fn line sn _ hs).mono ?_
  rintro e w2 ⟨hb,hb2⟩
  obtain ⟨b,rfl,hb⟩:=hb
  obtain rfl:b=true:=hb.2 q
  have HB2:=hT B0 hb2
  have hd2:=(hb2.block _ (cJ (Z HD1))).trans (Z HD1)
  have ha2:=(hb2.block _ (cJ (Z HA1))).trans (Z HA1)
  have e1:w2.cell? ⟨w.heap.size,3,none⟩=some (.bool false):=by rw [cell_of_row w2 _ 3 _ _ _ hd2];rfl
  have e2:w2.cell? ⟨w.heap.size,4,none⟩=some (.bool true):=by rw [cell_of_row w2 _ 4 _ _ _ hd2];rfl
  have e3:w2.cell? ⟨w.heap.size+1,2,none⟩=some (.string ByteArray.empty):=by rw [cell_of_row w2 _ 2 _ _ _ ha2];rfl
  clear hb hb2 hd2 ha2
  go_wp2
  go_ret
  exact ⟨bS.yes ⟨by simp at f0;dsimp only;omega,by simp at f1;dsimp only;omega,(by rw [if_pos rfl];exact q),(by rw [if_neg (by simp)])⟩,Z HB2⟩
end
end Go.Proofs.YtmnmeaeicjhkhaaGreatDoor
