import Derived.Test.YtmnmeaeicjhkhaaGreatDoorGCax
import Derived.Deep.DeepCutAuto
import Derived.Lib.SlicesCompact
import Derived.Sort.Grow
import Derived.Test.YtmnmeaeicjhkhaaGreatDoorGTx
set_option maxRecDepth 100000
set_option maxHeartbeats 16000000
namespace Go.Proofs.YtmnmeaeicjhkhaaGreatDoor
section
open Go.RowKit
theorem yR:(Tryz.prog.info? 97).map (fun i=>(i.zero,i.size,i.bytes))=some (some (.agg #[.int .i64 0,.int .i64 0,.int .i64 0,.int .i64 0]),4,32):=by kernel_rfl
theorem info_bool:(Tryz.prog.info? 4).map (fun i=>(i.zero,i.size,i.bytes))=some (some (.bool false),1,1):=by kernel_rfl
theorem dV.over {B:Nat} {w w':World} {ps bt:Nat} {V:Nat->Value} {s:St} (h:dV B w ps bt V s) (hb:∀ b,B<=b->b<w.heap.size->w'.heap[b]?=w.heap[b]?):dV B w' ps bt V s:=by
 have hps:w'.heap[ps]?=w.heap[ps]?:=hb ps h.hp (bV h.c0)
 have hbt:w'.heap[bt]?=w.heap[bt]?:=hb bt h.hbt h.row.lt
 refine ⟨h.hp,h.hbt,h.ne,?_,?_,?_,h.row.of_block hbt,fun t ht=>?_,h.nps,h.nbt,h.dis,h.cur,h.len⟩
 ·rw [World.cell?_of_block hps];exact h.c0
 ·rw [World.cell?_of_block hps];exact h.c1
 ·rw [World.frozen?_of_block hps];exact h.fz
 obtain ⟨h1,h2⟩:=h.own t ht
 refine ⟨h1,?_⟩
 rcases h2 with h2 | ⟨g,cap,cur,hv,hg,hh,r⟩
 ·exact .inl h2
 exact .inr ⟨g,cap,cur,hv,hg,by rw [hb g hg (Array.getElem?_eq_some_iff.1 hh).1];exact hh,r⟩
theorem cG.over {B:Nat} {w w':World} {ps:Nat} {s:St} (h:cG B w ps s) (hb:∀ b,B<=b->b<w.heap.size->w'.heap[b]?=w.heap[b]?):cG B w' ps s:=by
 obtain ⟨bt,V,h⟩:=h
 exact ⟨bt,V,h.over hb⟩
theorem made_get (z:Array Value) (N q:Nat) (h:q<N):(madeCells z N)[q]?=some z[q % z.size]! := by simp [madeCells,h]
theorem eG.made (w:World) (nf:Nat):eG 97 w.heap.size (w.alloc (.cells (madeCells #[.int .i64 0,.int .i64 0,.int .i64 0,.int .i64 0] (nf*4)) 97)) 4 nf (fun _ _=>0):=by
 have hh:=heap_alloc_new w (.cells (madeCells #[.int .i64 0,.int .i64 0,.int .i64 0,.int .i64 0] (nf*4)) 97)
 refine ⟨⟨_,_,hh⟩,fun i j hi hj=>⟨?_,by unfold World.frozen?;rw [hh];simp⟩⟩
 rw [cell_of_row _ _ _ _ _ _ hh,made_get _ _ _ (by omega)]
 have hm:(i*4+j) % 4=j:=by omega
 show some (#[Value.int .i64 0,.int .i64 0,.int .i64 0,.int .i64 0][(i*4+j) % 4]!)=_
 rw [hm]
 rcases (show j=0∨j=1∨j=2∨j=3 by omega) with rfl | rfl | rfl | rfl
 all_goals rfl
def jS (sb:Nat) (w:World) (nf:Nat) (P:List Fr):Prop:=∀ i,i<nf->w.cell? ⟨sb,i,none⟩=some (.bool (gK P i))/\w.frozen? ⟨sb,i,none⟩=false
theorem jS.made (w:World) (nf:Nat):jS w.heap.size (w.alloc (.cells (madeCells #[.bool false] nf) 4)) nf []:=by
 intro i hi
 have hh:=heap_alloc_new w (.cells (madeCells #[.bool false] nf) 4)
 refine ⟨?_,by unfold World.frozen?;rw [hh];simp⟩
 rw [cell_of_row _ _ _ _ _ _ hh]
 simp [madeCells,hi,gK,Nat.mod_one]
theorem jS.below {sb nf:Nat} {w w':World} {P:List Fr} (h:jS sb w nf P) (hb:Below w.heap.size w w'):jS sb w' nf P:=fun i hi =>
 ⟨bG hb (h i hi).1,by rw [hb.frozen (bV (h i hi).1)];exact (h i hi).2⟩
theorem jS.other {sb nf b o:Nat} {w:World} {P:List Fr} {u:Value} (h:jS sb w nf P) (hne:b≠sb):jS sb (w.setCell ⟨b,o,none⟩ u) nf P:=fun i hi =>
 ⟨bJ hne (h i hi).1,by rw [World.frozen?_setCell];exact (h i hi).2⟩
theorem jS.set {sb nf j:Nat} {w:World} {P:List Fr} {fr:Fr} (h:jS sb w nf P) (hf:fr.fn=(j:Int)):jS sb (w.setCell ⟨sb,j,none⟩ (.bool true)) nf (P ++ [fr]):=by
 intro i hi
 refine ⟨?_,by rw [World.frozen?_setCell];exact (h i hi).2⟩
 rw [vL,vM,hf]
 by_cases e:i=j
 ·subst e
  rw [World.cell?_setCell_same _ _ _ (h i hi).1]
  simp
 rw [World.cell?_setCell_other _ _ _ _ (fun h=>e (by simpa using (congrArg Addr.off h).symm)),(h i hi).1]
 have:decide ((j:Int)=(i:Int))=false:=by simp;omega
 rw [this,Bool.or_false]
theorem fcAdd_bound (m:M) (l:List Fr) (i j:Nat):0<=pC m l i j/\pC m l i j<=1:=by
 unfold pC
 repeat' split
 all_goals decide
theorem dN (f:Nat->M) (i j:Nat) (hj:j≠0):∀ k,0<=dQ f k i j/\dQ f k i j<=k+1
 | 0=>by
  show 0<=(if j=0 then (i:Int) else if j=1/\i=0 then 1 else 0)/\(if j=0 then (i:Int) else if j=1/\i=0 then 1 else 0)<=_
  rw [if_neg hj]
  split<;>decide
 | k+1=>by
  have h:=dN f i j hj k
  have h2:=fcAdd_bound (f k) (tJ f (k+1)) i j
  show 0<=dQ f k i j+pC (f k) (tJ f (k+1)) i j/\dQ f k i j+pC (f k) (tJ f (k+1)) i j<=((k+1:Nat):Int)+1
  omega
theorem fcAdd_line {m:M} (hk:m.kind=1) (l:List Fr) (i j:Nat):pC m l i j=if j=2/\(i:Int)=m.fn then 1 else if j=3/\gK l i=true then 1 else 0:=by
 unfold pC
 rw [if_neg (by omega),if_pos hk]
def rC (f:Nat->M) (k fn:Nat) (P:List Fr) (i j:Nat):Int:=dQ f k i j+(if j=2/\i=fn then 1 else if j=3/\gK P i=true then 1 else 0)
theorem fcIn_all {f:Nat->M} {k fn:Nat} (hk:(f k).kind=1) (hf:(f k).fn=(fn:Int)) (l:List Fr) (hl:∀ i,gK l i=gK (tJ f (k+1)) i) (i j:Nat):rC f k fn l i j=dQ f (k+1) i j:=by
 show _=dQ f k i j+pC (f k) (tJ f (k+1)) i j
 rw [fcAdd_line hk]
 unfold rC
 rw [hf,hl i]
 by_cases e:j=2/\i=fn
 ·have e':j=2/\(i:Int)=(fn:Int):=by omega
  rw [if_pos e,if_pos e']
 have e':¬ (j=2/\(i:Int)=(fn:Int)):=by omega
 rw [if_neg e,if_neg e']
theorem fcIn_skip {f:Nat->M} {k fn:Nat} {P:List Fr} {fr:Fr} {q:Nat} (hq:fr.fn=(q:Int)) (hs:gK P q=true) (i j:Nat):rC f k fn P i j=rC f k fn (P ++ [fr]) i j:=by
 unfold rC
 rw [vL,vM,hq]
 by_cases e:q=i
 ·subst e;simp [hs]
 have:decide ((q:Int)=(i:Int))=false:=by simp;omega
 rw [this,Bool.or_false]
theorem bQ8 {f:Nat->M} {k fn:Nat} {P:List Fr} {fr:Fr} {q:Nat} (hq:fr.fn=(q:Int)) (hs:gK P q=false) (i j:Nat):(if i=q/\j=3 then rC f k fn P q 3+1 else rC f k fn P i j)=rC f k fn (P ++ [fr]) i j:=by
 unfold rC
 rw [vL,vM,hq]
 by_cases e:i=q
 ·subst e
  by_cases e3:j=3
  ·subst e3;simp [hs]
  rw [if_neg (by omega)]
  by_cases e2:j=2/\i=fn
  ·rw [if_pos e2,if_pos e2]
  rw [if_neg e2,if_neg e2,if_neg (by omega),if_neg (by omega)]
 have:decide ((q:Int)=(i:Int))=false:=by simp;omega
 rw [if_neg (by omega),this,Bool.or_false]
theorem jS.skip {sb nf q:Nat} {w:World} {P:List Fr} {fr:Fr} (h:jS sb w nf P) (hq:fr.fn=(q:Int)) (hs:gK P q=true):jS sb w nf (P ++ [fr]):=by
 intro i hi
 rw [vL,vM,hq]
 by_cases e:q=i
 ·subst e;rw [hs,Bool.true_or,<- hs];exact h q hi
 have:decide ((q:Int)=(i:Int))=false:=by simp;omega
 rw [this,Bool.or_false];exact h i hi
theorem bQ9 {α:Type} (l:List α) (i:Nat) (h:i<l.length):l.take (i+1)=l.take i ++ [l[i]]:=by
 rw [List.take_add_one,List.getElem?_eq_getElem h];rfl
theorem bJ1 (f:Nat->M) (k fn:Nat) (P:List Fr) (i:Nat):0<=rC f k fn P i 3/\rC f k fn P i 3<=k+2:=by
 have h:=dN f i 3 (by omega) k
 unfold rC
 rw [if_neg (by omega)]
 split<;>omega
theorem frGet:∀ (l:List Fr) (i:Nat) (h:i<l.length),(cA l)[i*3]?=some (.int .i64 l[i].fn)/\(cA l)[i*3+1]?=some (.int .i64 l[i].line)/\(cA l)[i*3+2]?=some (.int .i64 l[i].frm)
 | f :: r,0,_=>⟨rfl,rfl,rfl⟩
 | f :: r,i+1,h=>by
  have ih:=frGet r i (by simpa using h)
  have e:cA (f :: r)=[.int .i64 f.fn,.int .i64 f.line,.int .i64 f.frm] ++ cA r:=rfl
  rw [e,show (i+1)*3=3+i*3 by omega]
  refine ⟨?_,?_,?_⟩
  ·rw [List.getElem?_append_right (by simp)];simpa using ih.1
  ·rw [List.getElem?_append_right (by simp;omega),show 3+i*3+1 - [(Value.int .i64 f.fn),.int .i64 f.line,.int .i64 f.frm].length=i*3+1 by simp;omega];simpa using ih.2.1
  rw [List.getElem?_append_right (by simp;omega),show 3+i*3+2 - [(Value.int .i64 f.fn),.int .i64 f.line,.int .i64 f.frm].length=i*3+2 by simp;omega];simpa using ih.2.2
theorem rT (f:Nat->M) (k i j:Nat):dQ f (k+1) i j=dQ f k i j+pC (f k) (tJ f (k+1)) i j:=rfl
theorem zS (lo:Nat) (v1 v2:Value) (nf:Nat) (fns:Nat->ByteArray) (n:Nat) (f:Nat->M) (w:World) (h1:eE lo w v1 nf fns) (h2:bQ lo w v2 n f) :
  Calls Tryz.prog 49 #[.agg #[v1,v2]] w fun e w'=>(∃ v n' F,e=.returned v/\FcAns nf fns n f n' F/\eQ w.heap.size w' v 4 n' F)/\Below w.heap.size w w':=by
 have H1:=O h1
 have H2:=O h2
 obtain ⟨a1,cap1,rfl,hn1,-⟩:=h1
 obtain ⟨a2,cap2,rfl,hn2,-⟩:=h2
 unfold maxLen at hn1 hn2
 have T0:=O (cS.new w (.slice a1 nf cap1) (.slice a2 n cap2))
 go_enter Tryz.func49,Tryz.ntmps49
 go_wp2_with fail
 refine (xV lo _ _ nf fns n f _ ((Z H1).below (Z T0).below) ((Z H2).below (Z T0).below)).mono ?_
 rintro e w1 ⟨⟨ok,rfl,hok⟩,hb1⟩
 have T1:=O ((Z T0).go hb1)
 clear hb1 T0
 cases ok with
 | false =>
  have HN:Hid (¬ cB nf fns n f):=O (fun h=>by have:=hok.2 h;cases this)
  clear hok
  go_wp2_with fail
  go_ret
  exact ⟨⟨_,0,fun _ _=>0,rfl,.inr ⟨Z HN,rfl⟩,eQ.nil _ _ _ _⟩,(Z T1).below⟩
 | true =>
  have hS:=hok.1 rfl
  have HS:=O hS
  have hnf:nf<=300:=hS.1.2.1
  have hnf0:nf≠0:=hS.1.1
  have hn3:n<=3000:=hS.1.2.2.1
  clear hok hS
  obtain ⟨mc,hmc⟩:∃ mc,mc=madeCells #[.int .i64 0,.int .i64 0,.int .i64 0,.int .i64 0] (nf*4):=⟨_,rfl⟩
  have hmk:∀ w,(Instr.makeSlice 51 (.int .i64 nf) (.int .i64 nf)).run Tryz.prog w=.ok (.slice (some ⟨w.heap.size,0,none⟩) nf nf) (w.alloc (.cells mc 97)):=fun w=>by
   rw [hmc]
   exact gY (P:=Tryz.prog) 51 97 _ _ _ Tryz.underlying51 yR nf (by omega) (by omega) w
  have HR0:Hid (eG 97 w1.heap.size (w1.alloc (.cells mc 97)) 4 nf (fun _ _=>0)):=by rw [hmc];exact O (eG.made w1 nf)
  have T2:=O ((Z T1).go (bH w1 (.cells mc 97)))
  have g0:=(Z T1).b0
  obtain ⟨b,hb⟩:∃ b,b=w1.heap.size:=⟨_,rfl⟩
  have hbl:w.heap.size+1<=b:=by rw [hb];exact (Z T1).size
  rw [<- hb] at HR0
  clear hmc
  go_wp2_with fail
  rw [<- hb]
  clear hb
  go_loopw [4,20] (fun _ i W=>∃ (k:Nat),k<=nf/\i=.int .i64 k/\eG 97 b W 4 nf (fun i j=>if i<k/\j=0 then (i:Int) else 0)/\cS w (.slice a1 nf cap1) (.slice a2 n cap2) W) (fun _ i _=>nf - (intOf i).toNat)
  case atStart=>exact ⟨0,by omega,rfl,(Z HR0).congr (fun i j _ _=>by simp),Z T2⟩
  case round =>
   clear HR0 T1 T2 g0 hmk
   obtain ⟨k,hk,rfl,hr,ht⟩:=hrel
   have HR:=O hr
   have HT:=O ht
   clear hr ht
   by_cases hlt:k<nf
   ·have hi0:(0:Int)<=(k:Int):=by omega
    have hi1:(k:Int)<(nf:Int):=by omega
    obtain ⟨c0,f0⟩:=(Z HR).cell k 0 hlt (by omega)
    rw [Nat.add_zero] at c0 f0
    go_wp2_with fail
    go_roundw
    case rel =>
     refine ⟨k+1,by omega,by go_num,((Z HR).set k 0 (by omega) k).congr (fun i j hi hj=>?_),Below.setCell (p:=⟨b,k*4,none⟩) (Z HT) hbl _⟩
     by_cases e:i=k/\j=0
     ·rw [if_pos e,if_pos (by omega)];omega
     rw [if_neg e]
     by_cases e2:i<k/\j=0
     ·rw [if_pos e2,if_pos (by omega)]
     rw [if_neg e2,if_neg (by omega)]
    case measure=>simp [intOf];omega
   have e:nf=k:=by omega
   subst e
   clear hk hlt
   have g1:=(Z HT).b1
   obtain ⟨c1,f1⟩:=(Z HR).cell 0 1 (by omega) (by omega)
   rw [Nat.zero_mul,Nat.zero_add] at c1 f1
   have hk0:(0:Int)<(nf:Int):=by omega
   have HR1:=O (((Z HR).set 0 1 (by omega) 1).congr (G:=dQ f 0) (fun i j hi hj=>by
    show _=if j=0 then (i:Int) else if j=1/\i=0 then 1 else 0
    by_cases e:i=0/\j=1
    ·rw [if_pos e,if_neg (by omega),if_pos (by omega)]
    rw [if_neg e]
    by_cases e2:j=0
    ·rw [if_pos ⟨hi,e2⟩,if_pos e2]
    rw [if_neg (by omega),if_neg e2,if_neg (by omega)]))
   have HT1:Hid (cS w (.slice a1 nf cap1) (.slice a2 n cap2) (wr.setCell ⟨b,0*4+1,none⟩ (.int .i64 1))):=O (Below.setCell (p:=⟨b,0*4+1,none⟩) (Z HT) hbl _)
   rw [Nat.zero_mul,Nat.zero_add] at HR1 HT1
   go_wp2_with fail
   refine (pA _).mono ?_
   rintro e w2 ⟨⟨ps,rfl,hsp⟩,hb2⟩
   have hbw:b<wr.heap.size:=(Z HR).lt
   have HR2:=O ((Z HR1).below hb2)
   have HT2:=O ((Z HT1).go hb2)
   obtain ⟨B,hBe⟩:∃ B,B=wr.heap.size:=⟨_,rfl⟩
   have HSP:Hid (cG B w2 ps St.init):=by rw [hBe];exact O (by simpa using hsp)
   have hbB:b<B:=by omega
   have g1:=(Z HT2).b1
   clear hb2 hsp HR HT HR1 HT1 c1 f1 hBe hbw
   go_wp2_with fail
   go_loopg [6,36] n (fun gg _ i W=>∃ (k:Nat),k+gg=n/\i=.int .i64 k/\eG 97 b W 4 nf (dQ f k)/\cG B W ps (St.after f k)/\cS w (.slice a1 nf cap1) (.slice a2 n cap2) W)
   case atStart=>exact ⟨0,by omega,rfl,Z HR2,Z HSP,Z HT2⟩
   case round =>
    clear HR2 HSP HT2 g1
    obtain ⟨k,hk,rfl,hr,hsp,ht⟩:=hrel
    have HR:=O hr
    have HSP:=O hsp
    have HT:=O ht
    clear hr hsp ht
    by_cases hlt:k<n
    ·obtain ⟨_,_,e,_,hv⟩:=(Z H2).below (Z HT).below
     cases e
     obtain ⟨bm,om,vv,rfl,hc0,hc1,hc2,hc3,hc4,hc5,-,hs2,-⟩:=hv k hlt
     clear hv
     obtain ⟨av,capv,rfl,-⟩:=hs2
     have hmo:=(Z HS).2.1 k hlt
     have ht1:0<=(f k).task:=hmo.1.2.2.1
     have ht2:(f k).task<=100:=hmo.1.2.2.2.1
     have hf1:0<=(f k).fn:=hmo.1.2.2.2.2.1
     have hf2:(f k).fn<nf:=hmo.1.2.2.2.2.2.1
     clear hmo
     have hkn:(k:Int)<(n:Int):=by omega
     have HBN:=O (bH wr (.cells #[.int .i64 (f k).kind,.int .i64 (f k).task,.int .i64 (f k).fn,.int .i64 (f k).line,.string (f k).text,.slice av (f k).nv capv] 108))
     have HBX:=O (heap_alloc_new wr (.cells #[.int .i64 (f k).kind,.int .i64 (f k).task,.int .i64 (f k).fn,.int .i64 (f k).line,.string (f k).text,.slice av (f k).nv capv] 108))
     have hpsl:ps<wr.heap.size:=by obtain ⟨_,_,hh⟩:=Z HSP;exact bV hh.c0
     go_wp2_with fail
     refine (mZ B ps (St.after f k) _ _ _ _ _ _ _ _ ((Z HSP).below (Z HBN)) ht1 ht2).mono ?_
     rintro e w2 ⟨rfl,hsp,hb2,hkp⟩
     have HR2:=O (((Z HR).below (Z HBN)).of_block (hb2.block b hbB))
     have HT2:Hid (cS w (.slice a1 nf cap1) (.slice (some ⟨bm,om,none⟩) n cap2) w2):=O (Below.trans ((Z HT).go (Z HBN)) (hb2.mono (by omega)))
     have HSP2:Hid (cG B w2 ps (St.after f (k+1))):=O (hsp ((Z HS).2.2 k hlt))
     have HBX2:=O ((hkp _ _ _ _ (Z HBX) (by omega) (by decide) (by decide)).trans (Z HBX))
     obtain ⟨mb,hmb⟩:∃ mb,mb=wr.heap.size:=⟨_,rfl⟩
     rw [<- hmb] at HBX2
     rw [<- hmb]
     have hbmb:b≠mb:=by have:=(Z HR).lt;omega
     obtain ⟨fnn,hfn⟩:=Int.eq_ofNat_of_zero_le hf1
     have hfnn:fnn<nf:=by omega
     have m0:w2.cell? ⟨mb,0,none⟩=some (.int .i64 (f k).kind):=by rw [cell_of_row w2 mb 0 _ _ _ (Z HBX2)];rfl
     have m2:w2.cell? ⟨mb,2,none⟩=some (.int .i64 fnn):=by rw [cell_of_row w2 mb 2 _ _ _ (Z HBX2),<- hfn];rfl
     have HFN:=O hfn
     have hj0:(0:Int)<=(fnn:Int):=by omega
     have hj1:(fnn:Int)<(nf:Int):=by omega
     clear hsp hb2 hkp hmb hc0 hc1 hc2 hc3 hc4 hc5 HBN HBX HR HT HSP hf1 hf2 hfn hpsl
     generalize hcd:code (St.after f k) (f k).kind (f k).task (f k).fn=cd
     clear hcd
     generalize hkk:(f k).kind=kk at m0
     have HKK:=O hkk
     clear hkk HBX2
     by_cases k2:kk=2
     ·have k2b:(kk == 2)=true:=by simpa using k2
      have k2c:(kk != 1)=true:=by rw [k2];rfl
      have HK2:=O k2
      clear k2
      obtain ⟨c1,f1⟩:=(Z HR2).cell fnn 1 hfnn (by omega)
      have hx:=dN f fnn 1 (by omega) k
      generalize hxx:dQ f k fnn 1=x at c1 hx
      have HXX:=O hxx
      have wx:IntKind.i64.wrap (x+1)=x+1:=by rw [IntKind.wrap_i64];omega
      clear hxx
      go_wp2_with fail
      go_roundg (n - (k+1))
      case measure=>omega
      case rel =>
       refine ⟨k+1,by omega,by go_num,((Z HR2).set fnn 1 (by omega) (x+1)).congr (fun i j hi hj=>?_),(Z HSP2).over (fun b' h1 _=>Below.heap_setCell _ _ _ _ (by simp;omega)),Below.setCell (p:=⟨b,fnn*4+1,none⟩) (Z HT2) hbl _⟩
       rw [rT]
       unfold pC
       rw [Z HKK,if_pos (Z HK2),Z HFN,<- Z HXX]
       by_cases e:i=fnn/\j=1
       ·rw [if_pos e,if_pos (by omega),e.1,e.2]
       rw [if_neg e,if_neg (by omega)];omega
     have k2b:(kk == 2)=false:=by simpa using k2
     by_cases k1:kk=1
     ·have k1b:(kk != 1)=false:=by rw [k1];rfl
      have HK1:=O k1
      clear k1 k2
      obtain ⟨c2,f2⟩:=(Z HR2).cell fnn 2 hfnn (by omega)
      have hx:=dN f fnn 2 (by omega) k
      generalize hxx:dQ f k fnn 2=x at c2 hx
      have HXX:=O hxx
      have wx:IntKind.i64.wrap (x+1)=x+1:=by rw [IntKind.wrap_i64];omega
      have g0:=(Z HT2).b0
      have hne1:b≠w.heap.size:=by omega
      obtain ⟨mc2,hmc2⟩:∃ mc2,mc2=madeCells #[.bool false] nf:=⟨_,rfl⟩
      have hmk:∀ w,(Instr.makeSlice 157 (.int .i64 nf) (.int .i64 nf)).run Tryz.prog w=.ok (.slice (some ⟨w.heap.size,0,none⟩) nf nf) (w.alloc (.cells mc2 4)):=fun w=>by
       rw [hmc2]
       have:=gY (P:=Tryz.prog) 157 4 _ _ _ Tryz.underlying157 info_bool nf (by omega) (by omega) w
       rw [Nat.mul_one] at this
       exact this
      have HR3:=O ((((Z HR2).set fnn 2 (by omega) (x+1)).congr (G:=rC f k fnn []) (fun i j hi hj=>by
       unfold rC
       by_cases e:i=fnn/\j=2
       ·rw [if_pos e,if_pos ⟨e.2,e.1⟩,e.1,e.2,hxx]
       rw [if_neg e,if_neg (fun h=>e ⟨h.2,h.1⟩),if_neg (by simp [gK])];omega)).below (bH _ (.cells mc2 4)))
      have HSP3:=O (((Z HSP2).over (w':=w2.setCell ⟨b,fnn*4+2,none⟩ (.int .i64 (x+1))) (fun b' h1 _=>Below.heap_setCell _ _ _ _ (by simp;omega))).below (bH _ (.cells mc2 4)))
      have HT3:Hid (cS w (.slice a1 nf cap1) (.slice (some ⟨bm,om,none⟩) n cap2) ((w2.setCell ⟨b,fnn*4+2,none⟩ (.int .i64 (x+1))).alloc (.cells mc2 4))):=O (cS.go (Below.setCell (p:=⟨b,fnn*4+2,none⟩) (Z HT2) hbl _) (bH _ _))
      have HSE:Hid (jS (w2.setCell ⟨b,fnn*4+2,none⟩ (.int .i64 (x+1))).heap.size ((w2.setCell ⟨b,fnn*4+2,none⟩ (.int .i64 (x+1))).alloc (.cells mc2 4)) nf []):=by rw [hmc2];exact O (jS.made _ nf)
      have hsb:b<w2.heap.size/\B<=w2.heap.size:=⟨(Z HR2).lt,(Z HSP2).base⟩
      obtain ⟨bt,V,hcore⟩:=Z HSP2
      have HCO:=O hcore
      have HC3:=O ((hcore.over (w':=w2.setCell ⟨b,fnn*4+2,none⟩ (.int .i64 (x+1))) (fun b' h1 _=>Below.heap_setCell _ _ _ _ (by simp;omega))).grown (bH _ (.cells mc2 4)))
      have HSM:Hid (∀ b',B<=b'->b' < w2.heap.size->((w2.setCell ⟨b,fnn*4+2,none⟩ (.int .i64 (x+1))).alloc (.cells mc2 4)).heap[b']?=w2.heap[b']?):=O fun b' h1 h2=>by
       rw [Below.heap_alloc _ _ _ (by simpa using h2),Below.heap_setCell _ _ _ _ (by simp;omega)]
      have hss:(w2.setCell ⟨b,fnn*4+2,none⟩ (.int .i64 (x+1))).heap.size=w2.heap.size:=by simp
      rw [hss] at HSE
      have hs3:((w2.setCell ⟨b,fnn*4+2,none⟩ (.int .i64 (x+1))).alloc (.cells mc2 4)).heap.size=w2.heap.size+1:=by simp
      have HS3:=O hs3
      have hcl:=(Z HCO).own _ hcore.cur
      have HGL:=O hcl.lt
      have hlen:=hcore.len _ hcore.cur
      clear hxx hmc2 hss hs3 hcore HSP3 hcl
      go_upto_region 20 with fail
      obtain ⟨sb,hsbe⟩:∃ sb,sb=w2.heap.size:=⟨_,rfl⟩
      rw [<- hsbe] at HSE HSM HS3 hsb HGL
      rw [<- hsbe]
      have HSBE:=O hsbe
      generalize (w2.setCell ⟨b,fnn*4+2,none⟩ (.int .i64 (x+1))).alloc (.cells mc2 4)=W3 at HR3 HC3 HT3 HSE HSM HS3 ⊢
      obtain ⟨l,hl⟩:∃ l,l=(St.after f (k+1)).tasks (St.after f (k+1)).cur:=⟨_,rfl⟩
      have s0:=(Z HC3).c0
      have s1:=(Z HC3).c1
      have hcu:=(Z HC3).cur
      have hrc:=(Z HC3).row.cell hcu
      have hown:=(Z HC3).own _ hcu
      rw [<- hl] at hown hlen
      obtain ⟨xo,xc,hVx⟩:=bR hown
      rw [hVx] at hrc hown HGL
      have hown2:=(Z HCO).own _ (Z HCO).cur
      rw [<- hl,hVx] at hown2
      have HOW:=O hown2
      have HLL:=O hl
      obtain ⟨cu,hcue⟩:∃ cu,cu=(St.after f (k+1)).cur:=⟨_,rfl⟩
      rw [<- hcue] at s1 hcu hrc
      have hq1:(0:Int)<=(cu:Int):=by omega
      have hq2:(cu:Int)<101:=by omega
      have HFNS:Hid (∀ fr,fr∈l->0<=fr.fn/\fr.fn<nf):=O fun fr hfr=>zK (Z HS) (k+1) (by omega) _ fr (by rw [<- hl];exact hfr)
      obtain ⟨ln,hln⟩:∃ ln,ln=l.length:=⟨_,rfl⟩
      rw [<- hln] at hrc hlen
      have HLN:=O hln
      clear hl hcue hVx hown hown2 hln hsbe c2 f2 m0 m2 g0 wx hmk
      go_quiet (fail)
      generalize hW4:W3.drewN _=W4
      have HB4:Hid (Below W3.heap.size W3 W4):=by rw [<- hW4];exact O (bP _ _)
      have HS4:Hid (W4.heap.size=sb+1):=by rw [<- hW4];exact HS3
      clear hW4 s0 s1 hrc hcu hq1 hq2
      go_wp2_with fail
      go_loopg [84] ln (fun gg i W=>∃ (q:Nat),q+gg=ln/\i=.int .i64 q/\eG 97 b W 4 nf (rC f k fnn (l.reverse.take q))/\jS sb W nf (l.reverse.take q)/\(∀ b',B<=b'->b' < sb->W.heap[b']?=w2.heap[b']?)/\cS w (.slice a1 nf cap1) (.slice (some ⟨bm,om,none⟩) n cap2) W/\sb<W.heap.size)
      case atStart=>exact ⟨0,by omega,rfl,(Z HR3).below (Z HB4),(Z HSE).below (Z HB4),fun b' h1 h2=>by rw [(Z HB4).block b' (by rw [Z HS3];omega)];exact Z HSM b' h1 h2,(Z HT3).go (Z HB4),by rw [Z HS4];omega⟩
      case round =>
       clear HR3 HC3 HT3 HSE HSM HB4 HS4 HS3
       obtain ⟨q,hq,rfl,hr,hse,hsm,ht,hsw⟩:=hrel
       have HR:=O hr
       have HSE:=O hse
       have HSM:=O hsm
       have HT:=O ht
       clear hr hse hsm ht
       by_cases hql:q<ln
       ·have hqr:q<l.reverse.length:=by rw [List.length_reverse,<- Z HLN];exact hql
        obtain ⟨e0,e1,e2⟩:=frGet l.reverse q hqr
        obtain ⟨g,cap',eg,hgB,hgl⟩:=(Z HOW).form (by rw [<- Z HLN];omega)
        injection eg with eg1 eg2 eg3
        subst eg1
        clear eg2 eg3
        have hgs:g<sb:=by rw [Z HSBE];exact hgl
        have hgw:=Z HSM g hgB hgs
        have d0:=(World.cell?_of_block (a:=⟨g,q*3,none⟩) hgw).trans (bL (Z HOW) _ _ e0).1
        have d1:=(World.cell?_of_block (a:=⟨g,q*3+1,none⟩) hgw).trans (bL (Z HOW) _ _ e1).1
        have d2:=(World.cell?_of_block (a:=⟨g,q*3+2,none⟩) hgw).trans (bL (Z HOW) _ _ e2).1
        obtain ⟨fr,hfr⟩:∃ fr,fr=l.reverse[q]:=⟨_,rfl⟩
        have HTK:Hid (l.reverse.take (q+1)=l.reverse.take q ++ [fr]):=by rw [hfr];exact O (bQ9 _ _ hqr)
        have hrg:=Z HFNS fr (by rw [hfr];exact List.mem_reverse.1 (List.getElem_mem hqr))
        rw [<- hfr] at d0 d1 d2
        obtain ⟨fq,hfq⟩:=Int.eq_ofNat_of_zero_le hrg.1
        have hfq2:fq<nf:=by omega
        have HFQ:=O hfq
        rw [hfq] at d0
        obtain ⟨sc,sf⟩:=Z HSE fq hfq2
        obtain ⟨rc,rf⟩:=(Z HR).cell fq 3 hfq2 (by omega)
        have hx3:=bJ1 f k fnn (l.reverse.take q) fq
        have hbw:=(Z HR).lt
        have hn1':sb≠wr.heap.size:=by omega
        have hn2':b≠wr.heap.size:=by omega
        have hn3':b≠sb:=by omega
        have hq0:(0:Int)<=(q:Int):=by omega
        have hq1:(q:Int)<(ln:Int):=by omega
        have hq2:(0:Int)<=(fq:Int):=by omega
        have hq3:(fq:Int)<(nf:Int):=by omega
        have HBN:=O (bH wr (.cells #[.int .i64 fq,.int .i64 fr.line,.int .i64 fr.frm] 42))
        clear e0 e1 e2 hgw hgs hgl hgB hfr hrg hfq hqr
        cases hs:gK (l.reverse.take q) fq with
        | true =>
         rw [hs] at sc
         have HSS:=O hs
         clear hs rc rf hx3
         go_wp2_with fail
         go_roundg (ln - (q+1))
         case measure=>omega
         case rel =>
          refine ⟨q+1,by omega,by go_num,?_,?_,fun b' h1 h2=>?_,(Z HT).go (Z HBN),by simp;omega⟩
          ·rw [Z HTK]
           exact ((Z HR).below (Z HBN)).congr (fun i j _ _=>fcIn_skip (Z HFQ) (Z HSS) i j)
          ·rw [Z HTK]
           exact ((Z HSE).below (Z HBN)).skip (Z HFQ) (Z HSS)
          rw [(Z HBN).block b' (by omega)]
          exact Z HSM b' h1 h2
        | false =>
         rw [hs] at sc
         have HSS:=O hs
         generalize hx3e:rC f k fnn (l.reverse.take q) fq 3=x3 at rc hx3
         have HX3:=O hx3e
         have wx3:IntKind.i64.wrap (x3+1)=x3+1:=by rw [IntKind.wrap_i64];omega
         clear hs hx3e
         go_wp2_with fail
         go_roundg (ln - (q+1))
         case measure=>omega
         case rel =>
          refine ⟨q+1,by omega,by go_num,?_,?_,fun b' h1 h2=>?_,?_,by simp;omega⟩
          ·rw [Z HTK]
           refine ((((Z HR).other hn3').set fq 3 (by omega) (x3+1)).congr (fun i j _ _=>?_)).below (bH _ _)
           rw [<- Z HX3]
           exact bQ8 (Z HFQ) (Z HSS) i j
          ·rw [Z HTK]
           exact (((Z HSE).set (Z HFQ)).other hn3').below (bH _ _)
          ·rw [Below.heap_alloc _ _ _ (by simp;omega),Below.heap_setCell _ _ _ _ (by simp;omega),Below.heap_setCell _ _ _ _ (by simp;omega)]
           exact Z HSM b' h1 h2
          exact cS.go (Below.setCell (p:=⟨b,fq*4+3,none⟩) (Below.setCell (p:=⟨sb,fq,none⟩) (Z HT) (by simp;omega) _) (by simp;omega) _) (bH _ _)
       have e:ln=q:=by omega
       subst e
       have hqq:¬ ((ln:Int)<(ln:Int)):=by omega
       go_wp2_with fail
       go_roundg (n - (k+1))
       case measure=>omega
       case rel =>
        have et:l.reverse.take ln=l.reverse:=List.take_of_length_le (by rw [List.length_reverse,<- Z HLN];omega)
        have hr:=Z HR
        rw [et] at hr
        refine ⟨k+1,by omega,by go_num,hr.congr (fun i j hi hj=>fcIn_all (by rw [Z HKK];exact Z HK1) (Z HFN) _ (fun i=>?_) i j),(Z HSP2).over (fun b' h1 h2=>Z HSM b' h1 (by rw [Z HSBE];exact h2)),Z HT⟩
        rw [hasFn_rev,Z HLL];rfl
     have k1b:(kk != 1)=true:=by simpa using k1
     have HK:=O (And.intro k1 k2)
     clear k1 k2
     go_wp2_with fail
     go_roundg (n - (k+1))
     case measure=>omega
     case rel =>
      refine ⟨k+1,by omega,by go_num,(Z HR2).congr (fun i j hi hj=>?_),Z HSP2,Z HT2⟩
      rw [rT]
      unfold pC
      rw [Z HKK,if_neg (Z HK).2,if_neg (Z HK).1]
      omega
    have e:n=k:=by omega
    subst e
    have hnk:¬ ((n:Int)<(n:Int)):=by omega
    go_wp2_with fail
    go_ret
    exact ⟨⟨_,rfl,nf,dQ f n,.inl ⟨Z HS,rfl,fun _ _ _ _=>rfl⟩,(Z HR).rowsAt (by omega)⟩,(Z HT).below⟩
end
section
open Go.RowKit Go.Lib
theorem bC3 (d:Array Int) (hs:∀ i j,i<=j->j<d.size->d[i]! <= d[j]!):∀ m,m<=d.size->(compactUpTo d m).Pairwise (· < ·)/\(∀ x,x∈compactUpTo d m->∃ j,j<m/\x=d[j]!)/\∀ j,j<m->d[j]! ∈ compactUpTo d m
 | 0,_=>⟨List.Pairwise.nil,fun x hx=>(by cases hx),fun j hj=>absurd hj (Nat.not_lt_zero _)⟩
 | m+1,hm=>by
  obtain ⟨h1,h2,h3⟩:=bC3 d hs m (by omega)
  rw [compactUpTo_succ]
  cases hk:keeps d m with
  | true =>
   have hlt:∀ x,x∈compactUpTo d m->x<d[m]! := by
    intro x hx
    obtain ⟨j,hj,rfl⟩:=h2 x hx
    have a1:=hs j (m - 1) (by omega) (by omega)
    have a2:=hs (m - 1) m (by omega) (by omega)
    have a3:d[m]! ≠ d[m - 1]! := by
     simp only [keeps] at hk
     rcases Nat.eq_zero_or_pos m with e | e
     ·omega
     simpa [Nat.ne_of_gt e] using hk
    omega
   rw [if_pos rfl]
   refine ⟨List.pairwise_append.2 ⟨h1,List.pairwise_singleton _ _,fun x hx y hy=>by rw [List.mem_singleton.1 hy];exact hlt x hx⟩,fun x hx=>?_,fun j hj=>?_⟩
   ·rcases List.mem_append.1 hx with hx | hx
    ·obtain ⟨j,hj,e⟩:=h2 x hx
     exact ⟨j,by omega,e⟩
    exact ⟨m,by omega,List.mem_singleton.1 hx⟩
   by_cases e:j=m
   ·rw [e];exact List.mem_append_right _ (List.mem_singleton.2 rfl)
   exact List.mem_append_left _ (h3 j (by omega))
  | false =>
   rw [if_neg (by simp),List.append_nil]
   refine ⟨h1,fun x hx=>?_,fun j hj=>?_⟩
   ·obtain ⟨j,hj,e⟩:=h2 x hx
    exact ⟨j,by omega,e⟩
   by_cases e:j=m
   ·have hm0:m≠0:=fun e0=>by rw [e0] at hk;simp [keeps] at hk
    have:d[m]! = d[m - 1]! := by simpa [keeps,hm0] using hk
    rw [e,this]
    exact h3 (m - 1) (by omega)
   exact h3 j (by omega)
theorem sorted_at (xs:List Int):∀ i j,i<=j->j<(xs.mergeSort fun x y=>decide (x<=y)).toArray.size->(xs.mergeSort fun x y=>decide (x<=y)).toArray[i]! <= (xs.mergeSort fun x y=>decide (x<=y)).toArray[j]! := by
 intro i j hij hj
 have hp:(xs.mergeSort fun x y=>decide (x<=y)).Pairwise (fun a b=>decide (a<=b)=true):=List.pairwise_mergeSort (fun a b c h1 h2=>by simp at *;omega) (fun a b=>by simp;omega) xs
 have hj':j<(xs.mergeSort fun x y=>decide (x<=y)).length:=by simpa using hj
 rw [getElem!_pos _ i (by omega),getElem!_pos _ j hj]
 by_cases e:i=j
 ·subst e;exact Int.le_refl _
 have:=List.pairwise_iff_getElem.1 hp i j (by omega) hj' (by omega)
 simpa using this
theorem once_each (xs:List Int):(compact (xs.mergeSort fun x y=>decide (x<=y))).Pairwise (· < ·)/\∀ x,x∈compact (xs.mergeSort fun x y=>decide (x<=y))↔x∈xs:=by
 obtain ⟨h1,h2,h3⟩:=bC3 _ (sorted_at xs) _ (Nat.le_refl _)
 have e:compact (xs.mergeSort fun x y=>decide (x<=y))=compactUpTo (xs.mergeSort fun x y=>decide (x<=y)).toArray (xs.mergeSort fun x y=>decide (x<=y)).toArray.size:=by simp [compact]
 rw [e]
 refine ⟨h1,fun x=>⟨fun hx=>?_,fun hx=>?_⟩⟩
 ·obtain ⟨j,hj,rfl⟩:=h2 x hx
  rw [getElem!_pos _ j hj,<- List.mem_mergeSort (le:=fun x y=>decide (x<=y))]
  simp
 rw [<- List.mem_mergeSort (le:=fun x y=>decide (x<=y))] at hx
 obtain ⟨j,hj,e⟩:=List.getElem_of_mem hx
 have:=h3 j (by simpa using hj)
 rw [getElem!_pos _ j (by simpa using hj)] at this
 simpa [e] using this
def zT:Prop:=∀ (blk off cap:Nat) (zs:List Int) (w:World),Sort.Holds (Value.int .i64) w blk off zs.toArray->blk<w.heap.size->zs.length<4611686018427387904 ->
  Calls Tryz.prog 125 #[.slice (some ⟨blk,off,none⟩) zs.length cap] w fun e w' =>
   e=.returned (.tuple #[])/\∃ n os,w'=Sort.grow (Sort.putRow (Value.int .i64) (Sort.ahead w n) blk off (zs.mergeSort fun x y=>decide (x<=y)).toArray) os
def rU:Prop:=∀ (blk off cap:Nat) (zs:List Int) (w:World),Sort.Holds (Value.int .i64) w blk off zs.toArray->zs.length<=9223372036854775807->zs.length<=cap ->
  Calls Tryz.prog 126 #[.slice (some ⟨blk,off,none⟩) zs.length cap] w fun e w' =>
   e=.returned (.slice (some ⟨blk,off,none⟩) (compact zs).length cap)/\∃ q,w'=Sort.putRow (Value.int .i64) (Sort.ahead w q) blk off (compact zs ++ List.replicate (zs.length - (compact zs).length) 0).toArray
theorem yS {B:Nat} {w:World} {blk off n:Nat} {d:Array Int} (hB:B<=blk):Below B w (Sort.putRow (Value.int .i64) (Sort.ahead w n) blk off d):=by
 refine ⟨rfl,rfl,rfl,by simp [Sort.ahead],fun b hb=>?_⟩
 show (w.heap.modify blk _)[b]?=_
 rw [Array.getElem?_modify,if_neg (by omega)]
theorem xP {B:Nat} {w:World} {os:Array Obj} (hB:B<=w.heap.size):Below B w (Sort.grow w os):=by
 refine ⟨rfl,rfl,rfl,by simp [Sort.grow],fun b hb=>?_⟩
 show (w.heap ++ os)[b]?=_
 rw [Array.getElem?_append_left (by omega)]
end
section
open Go.RowKit Go.Lib
theorem info_i64:(Tryz.prog.info? 3).map (fun i=>(i.zero,i.size,i.bytes))=some (some (.int .i64 0),1,8):=by kernel_rfl
def bJ2 (lo:Nat) (w:World) (v:Value) (zs:List Int):Prop :=
 ∃ a cap,v=.slice a zs.length cap/\∀ i (h:i<zs.length),∃ b,a=some ⟨b,0,none⟩/\lo<=b/\w.cell? ⟨b,i,none⟩=some (.int .i64 zs[i])
theorem bJ2.other {lo b o:Nat} {w:World} {v u:Value} {zs:List Int} (h:bJ2 lo w v zs) (hb:b<lo):bJ2 lo (w.setCell ⟨b,o,none⟩ u) v zs:=by
 obtain ⟨a,cap,hv,h⟩:=h
 refine ⟨a,cap,hv,fun i hi=>?_⟩
 obtain ⟨g,ha,h1,hc⟩:=h i hi
 exact ⟨g,ha,h1,bJ (by simp;omega) hc⟩
def FnsOf (l:List Fr) (zs:List Int):Prop:=zs.Pairwise (· < ·)/\∀ x,x∈zs ↔ ∃ fr,fr∈l/\fr.fn=x
theorem holds_owns {B:Nat} {w:World} {g n cap:Nat} {zs:List Int} (h:w.ownsRow B 3 1 (.slice (some ⟨g,0,none⟩) n cap) n (zs.map (Value.int .i64))):Sort.Holds (Value.int .i64) w g 0 zs.toArray:=by
 intro j hj
 have hj':j<zs.length:=by simpa using hj
 have:=bL h j (.int .i64 zs[j]) (by rw [List.getElem?_map,List.getElem?_eq_getElem hj'];rfl)
 rw [Nat.zero_add,getElem!_pos _ j hj]
 simpa using this
theorem holds_below {w w':World} {g:Nat} {d:Array Int} (h:Sort.Holds (Value.int .i64) w g 0 d) (hb:Below w.heap.size w w'):Sort.Holds (Value.int .i64) w' g 0 d:=fun j hj =>
 ⟨bG hb (h j hj).1,by rw [hb.frozen (bV (h j hj).1)];exact (h j hj).2⟩
theorem bC4 {w:World} {g n:Nat} {d:Array Int} (h:Sort.Holds (Value.int .i64) w g 0 d):Sort.Holds (Value.int .i64) (Sort.ahead w n) g 0 d:=fun j hj=>h j hj
theorem compact_len (zs:List Int):(compact zs).length<=zs.length:=by
 unfold compact compactUpTo
 rw [List.length_map]
 exact Nat.le_trans (List.length_filter_le _ _) (by simp)
theorem fns_any (hso:zT) (hco:rU) (l:List Fr) (p:Option Addr) (w:World) (h:cR w l p) (hl:l.length<=200) (hne:l ≠ []) :
  Calls Tryz.prog 59 #[.pointer p] w fun e w'=>(∃ v zs,e=.returned v/\FnsOf l zs/\bJ2 w.heap.size w' v zs/\zs.length<=200)/\Below w.heap.size w w':=by
 have H:=O h
 have HSO:=O hso
 have HCO:=O hco
 clear h hso hco
 obtain ⟨i0,hi0,hz0,hz1,hz2⟩:=info_parts info_i64
 have II:=O (And.intro hi0 (And.intro hz0 (And.intro hz1 hz2)));clear hi0 hz0 hz1 hz2
 go_enter Tryz.func59,Tryz.ntmps59
 go_wp2
 go_loopg [0,3] l.length (fun k c v wr=>∃ (p:Option Addr) (d r:List Fr),c=.pointer p/\d ++ r=l/\r.length=k/\cR w r p/\wr.ownsRow w.heap.size 3 1 v d.length ((d.map Fr.fn).map (Value.int .i64))/\(∃ a n cp,v=.slice a n cp)/\Below w.heap.size w wr)
 case atStart=>exact ⟨p,[],l,rfl,rfl,rfl,Z H,World.ownsRow_nil _ _ _ _,⟨_,_,_,rfl⟩,Below.refl _ _⟩
 case round =>
  obtain ⟨p',d,r,rfl,hd,hr,hli,hfr,⟨va,vn,vc,rfl⟩,hb⟩:=hrel
  have HD:=O hd
  have HF:=O hfr
  have HB:=O hb
  cases r with
  | nil =>
   have e:p'=none:=hli
   subst e
   have hdl:d=l:=by have:=Z HD;simpa using this
   subst hdl
   have hdp:0<d.length:=by cases d with | nil=>exact absurd rfl hne | cons _ _=>simp
   obtain ⟨g,cap,ev,hgB,hgl⟩:=hfr.form hdp
   injection ev with e1 e2 e3
   subst e1 e2 e3
   clear hd hfr hb hli hr hne
   have hcap:d.length<=vc:=by
    rcases (Z HF).2 with ⟨h,_⟩ | ⟨g',cap',cur,hv,-,-,h1,-⟩
    ·cases h
    cases hv;exact h1
   have HH:Sort.Holds (Value.int .i64) wr g 0 (d.map Fr.fn).toArray:=holds_owns (Z HF)
   go_wp2_with fail
   have hs1:=Z HSO g 0 vc (d.map Fr.fn) wr HH hgl (by simp;omega)
   rw [List.length_map] at hs1
   refine hs1.mono ?_
   rintro e w2 ⟨rfl,n1,os,hw2⟩
   obtain ⟨zs,hzs⟩:∃ zs,zs=(d.map Fr.fn).mergeSort fun x y=>decide (x<=y):=⟨_,rfl⟩
   have hzl:zs.length=d.length:=by rw [hzs,List.length_mergeSort,List.length_map]
   rw [<- hzs] at hw2
   have HP:Sort.Holds (Value.int .i64) (Sort.putRow (Value.int .i64) (Sort.ahead wr n1) g 0 zs.toArray) g 0 zs.toArray:=Sort.holds_putRow _ _ _ _ _ _ (bC4 HH) (by simp [hzl])
   have hps:(Sort.putRow (Value.int .i64) (Sort.ahead wr n1) g 0 zs.toArray).heap.size=wr.heap.size:=by simp [Sort.ahead]
   have H2:Sort.Holds (Value.int .i64) w2 g 0 zs.toArray:=by rw [hw2];exact holds_below HP (xP (Nat.le_refl _))
   have HB2:Hid (Below w.heap.size w w2):=by
    rw [hw2]
    exact O (((Z HB).trans (yS hgB)).trans (xP (by rw [hps];omega)))
   have H2':=O H2
   have HZS:=O hzs
   have hs2:=Z HCO g 0 vc zs w2 H2 (by omega) (by omega)
   rw [hzl] at hs2
   have HS2:=O hs2
   have HZL:=O hzl
   clear hs1 hw2 HP hps HH H2 hs2 hzs hzl
   go_wp2_with fail
   refine (Z HS2).mono ?_
   rintro e w3 ⟨rfl,q,hw3⟩
   have HW3:=O hw3
   clear hw3
   go_wp2_with fail
   go_ret
   have hcl:=compact_len zs
   have hzl:=Z HZL
   obtain ⟨o1,o2⟩:=once_each (d.map Fr.fn)
   rw [<- Z HZS] at o1 o2
   refine ⟨⟨_,compact zs,rfl,⟨o1,fun x=>?_⟩,⟨_,_,rfl,fun i hi=>⟨g,rfl,hgB,?_⟩⟩,by omega⟩,?_⟩
   ·rw [o2 x,List.mem_map]
   ·rw [Z HW3]
    have:=Sort.cell?_putRow (Value.int .i64) (Sort.ahead w2 q) g 0 zs.toArray (compact zs ++ List.replicate (d.length - (compact zs).length) 0).toArray (bC4 (Z H2')) (by simp;omega) i (by simp;omega)
    rw [Nat.zero_add] at this
    rw [this,getElem!_pos _ i (by simp;omega)]
    simp [List.getElem_append_left hi]
   rw [Z HW3]
   exact (Z HB2).trans (yS hgB)
  | cons f r' =>
   obtain ⟨b,p2,rfl,k0,k1,k2,k3,k4,hli2⟩:=hli
   have HL2:=O hli2
   have c0:=bG hb k0
   have hlen:d.length+r'.length+1<=200:=by rw [<- hd] at hl;simp at hl;omega
   have hzz:w.heap.size<=wr.heap.size:=hb.size
   have K4:=O k4
   clear k0 k1 k2 k3 k4 hli2 hd hfr hb hne
   have HA:=O (bN (Z HF) (bH wr (.cells #[.int .i64 f.fn] 3)))
   have HNW:Hid (∀ j u,([.int .i64 f.fn]:List Value)[j]?=some u->(wr.alloc (.cells #[.int .i64 f.fn] 3)).cell? ((⟨wr.heap.size,0,none⟩:Addr).add j)=some u) :=
    O (World.news_of_block (cs:=#[.int .i64 f.fn]) (t:=3) (fr:=(0,0)) (heap_alloc_new wr _))
   go_wp2_with (at_builtin;refine wpList_append_lies _ (by rfl) _ _ _ (by rfl) w.heap.size 3 i0 _ 1 8 Tryz.underlying80 (Z II).1 (Z II).2.1 (Z II).2.2.1 (Z II).2.2.2 rfl (by omega) (.slice va vn vc) d.length ((d.map Fr.fn).map (Value.int .i64)) (by rfl) (Z HA) ⟨wr.heap.size,0,none⟩ 1 1 [.int .i64 f.fn] (by rfl) (by rfl) (Z HNW) (by simp [Value.oneCell']) (by omega) (by unfold maxLen;omega) (by omega) (by simp;omega) (wr.heap.size+1) (by simp) ?_;intro g2 cp2 w7 hown hgrow _ _;have hb7:Below w.heap.size w w7:=Below.grown ((Z HB).alloc hzz _) hgrow (by simp;omega) (fun k hk=>((Z HA).lt k hk).1);have k7:=bG hb7 (Z K4);have HB7:=O hb7;have HO7:=O hown;clear hown hgrow hb7)
   go_roundg r'.length
   case measure=>simp at hr;omega
   case rel =>
    refine ⟨p2,d ++ [f],r',rfl,?_,rfl,Z HL2,?_,⟨_,_,_,rfl⟩,Z HB7⟩
    ·rw [List.append_assoc];exact Z HD
    rw [List.length_append,List.map_append,List.map_append]
    exact Z HO7
end
section
open Go.RowKit Go.Lib
theorem field_top (a b c:Value) (w:World):(Instr.field 119 (.agg #[a,b,c]) 1).run Tryz.prog w=.ok b w:=by kernel_rfl
def tD (zs:List Int):List Fr:=zs.map fun x=>⟨x,0,0⟩
theorem bR0 (zs:List Int) (i:Nat):gK (tD zs) i=decide ((i:Int)∈zs):=by
 unfold gK tD
 rw [List.any_map]
 by_cases h:(i:Int)∈zs
 ·rw [decide_eq_true h,List.any_eq_true]
  exact ⟨_,h,by simp⟩
 rw [decide_eq_false h,List.any_eq_false]
 intro x hx
 simp only [Function.comp,decide_eq_true_eq]
 exact fun e=>h (e ▸ hx)
theorem hasFn_of {l:List Fr} {zs:List Int} (h:FnsOf l zs) (i:Nat):gK (tD zs) i=gK l i:=by
 rw [bR0]
 unfold gK
 by_cases e:(i:Int)∈zs
 ·rw [decide_eq_true e]
  obtain ⟨fr,h1,h2⟩:=(h.2 _).1 e
  exact (List.any_eq_true.2 ⟨fr,h1,by simpa using h2⟩).symm
 rw [decide_eq_false e]
 exact (List.any_eq_false.2 (fun fr hf=>by simp only [decide_eq_true_eq];exact fun h2=>e ((h.2 _).2 ⟨fr,hf,h2⟩))).symm
theorem notyet {zs:List Int} (h:zs.Pairwise (· < ·)) (q:Nat) (hq:q<zs.length):zs[q] ∉ zs.take q:=by
 intro hm
 obtain ⟨j,hj,e⟩:=List.getElem_of_mem hm
 have hj':j<q:=by simp at hj;omega
 rw [List.getElem_take] at e
 have:=List.pairwise_iff_getElem.1 h j q (by omega) hq hj'
 omega
theorem upto_k (n k:Nat) (h:k<n):cQ n (k:Int)=k+1:=by unfold cQ;omega
theorem asFrs_next (zs:List Int) (q:Nat) (hq:q<zs.length):tD (zs.take (q+1))=tD (zs.take q) ++ [⟨zs[q],0,0⟩]:=by
 unfold tD
 rw [bQ9 zs q hq,List.map_append]
 rfl
theorem runs_line {nf:Nat} {fns:Nat->ByteArray} {n:Nat} {f:Nat->M} (h:cB nf fns n f) (k:Nat) (hk:k<n) (h1:(f k).kind=1):tJ f (k+1) ≠ []:=by
 have hc:=h.2.2 k hk
 unfold eB code at hc
 rw [if_neg (by omega)] at hc
 have ht:(f k).task=(St.after f k).cur:=by
  by_cases e:(f k).task=(St.after f k).cur
  ·exact e
  rw [if_pos e] at hc;omega
 rw [if_neg (by omega),if_neg (by omega)] at hc
 by_cases hf:(f k).fn=topFn ((St.after f k).tasks (St.after f k).cur)
 ·rw [if_neg (by simpa using hf),if_pos h1] at hc
  have e:tJ f (k+1)=qG (f k).line ((St.after f k).tasks (St.after f k).cur):=by
   show ((St.after f k).step _ _ _ _ _).tasks ((St.after f k).step _ _ _ _ _).cur=_
   unfold St.step
   rw [if_neg (by omega),if_neg (by omega),if_pos h1]
   simp [St.put]
  rw [e]
  cases hl:(St.after f k).tasks (St.after f k).cur with
  | nil=>rw [hl] at hc;simp at hc
  | cons a r=>simp [qG]
 rw [if_pos hf] at hc;omega
theorem zU (hso:zT) (hco:rU) (lo:Nat) (v1 v2:Value) (nf:Nat) (fns:Nat->ByteArray) (n:Nat) (f:Nat->M) (w:World) (h1:eE lo w v1 nf fns) (h2:bQ lo w v2 n f) :
  Calls Tryz.prog 19 #[.agg #[v1,v2]] w fun e w'=>(∃ v n' F,e=.returned v/\FcAns nf fns n f n' F/\eQ w.heap.size w' v 4 n' F)/\Below w.heap.size w w':=by
 have H1:=O h1
 have H2:=O h2
 have HSO:=O hso
 have HCO:=O hco
 clear hso hco
 obtain ⟨a1,cap1,rfl,hn1,-⟩:=h1
 obtain ⟨a2,cap2,rfl,hn2,-⟩:=h2
 unfold maxLen at hn1 hn2
 have T0:=O (cS.new w (.slice a1 nf cap1) (.slice a2 n cap2))
 go_enter Tryz.func19,Tryz.ntmps19
 go_wp2_with fail
 refine (mU lo _ _ nf fns n f _ ((Z H1).below (Z T0).below) ((Z H2).below (Z T0).below)).mono ?_
 rintro e w1 ⟨⟨pv,c,m,rfl,ha,hp,pa,pn,pc,rfl⟩,hb1⟩
 have BA:=O (bH w1 (.cells #[.int .i64 c,.int .i64 m] 49))
 have T1:=O (((Z T0).go hb1).go (Z BA))
 clear hb1 T0
 by_cases hc:c=0
 ·have hS:=ha.zero.1.1 hc
  have HS:=O hS
  have hm:=ha.zero.2 hc
  have HP:=O ((hp hc).below (Z BA))
  have hnf:nf<=300:=hS.1.2.1
  have hnf0:nf≠0:=hS.1.1
  have hn3:n<=3000:=hS.1.2.2.1
  subst hm
  subst hc
  clear ha hp hS
  obtain ⟨mc,hmc⟩:∃ mc,mc=madeCells #[.int .i64 0,.int .i64 0,.int .i64 0,.int .i64 0] (nf*4):=⟨_,rfl⟩
  have hmk:∀ w,(Instr.makeSlice 51 (.int .i64 nf) (.int .i64 nf)).run Tryz.prog w=.ok (.slice (some ⟨w.heap.size,0,none⟩) nf nf) (w.alloc (.cells mc 97)):=fun w=>by
   rw [hmc]
   exact gY (P:=Tryz.prog) 51 97 _ _ _ Tryz.underlying51 yR nf (by omega) (by omega) w
  go_upto_region 4 with fail
  generalize w1.alloc (.cells #[.int .i64 0,.int .i64 0] 49)=wp at T1 HP ⊢
  clear BA
  have g0:=(Z T1).b0
  have HR0:Hid (eG 97 wp.heap.size (wp.alloc (.cells mc 97)) 4 nf (fun _ _=>0)):=by rw [hmc];exact O (eG.made wp nf)
  have HW0:=O (bH wp (.cells mc 97))
  have hwl:w.heap.size+1<=wp.heap.size:=(Z T1).size
  clear hmc
  go_wp2_with fail
  go_loopw [6,25] (fun _ i W=>∃ (k:Nat),k<=nf/\i=.int .i64 k/\eG 97 wp.heap.size W 4 nf (fun i j=>if i<k/\j=0 then (i:Int) else 0)/\Below wp.heap.size wp W) (fun _ i _=>nf - (intOf i).toNat)
  case atStart=>exact ⟨0,by omega,rfl,(Z HR0).congr (fun i j _ _=>by simp),Z HW0⟩
  case round =>
   clear HR0 HW0 g0 hmk
   obtain ⟨k,hk,rfl,hr,hbp⟩:=hrel
   have HR:=O hr
   have HBP:=O hbp
   clear hr hbp
   by_cases hlt:k<nf
   ·have hi0:(0:Int)<=(k:Int):=by omega
    have hi1:(k:Int)<(nf:Int):=by omega
    obtain ⟨c0,f0⟩:=(Z HR).cell k 0 hlt (by omega)
    rw [Nat.add_zero] at c0 f0
    go_wp2_with fail
    go_roundw
    case rel =>
     refine ⟨k+1,by omega,by go_num,((Z HR).set k 0 (by omega) k).congr (fun i j hi hj=>?_),(Z HBP).setCell (p:=⟨wp.heap.size,k*4,none⟩) (Nat.le_refl _) _⟩
     by_cases e:i=k/\j=0
     ·rw [if_pos e,if_pos (by omega)];omega
     rw [if_neg e]
     by_cases e2:i<k/\j=0
     ·rw [if_pos e2,if_pos (by omega)]
     rw [if_neg e2,if_neg (by omega)]
    case measure=>simp [intOf];omega
   have e:nf=k:=by omega
   subst e
   clear hk hlt
   have HT:=O ((Z T1).go (Z HBP))
   have g1:=(Z HT).b1
   obtain ⟨c1,f1⟩:=(Z HR).cell 0 1 (by omega) (by omega)
   rw [Nat.zero_mul,Nat.zero_add] at c1 f1
   have hk0:(0:Int)<(nf:Int):=by omega
   have hne1:wp.heap.size≠w.heap.size:=by omega
   have HR1:=O (((Z HR).set 0 1 (by omega) 1).congr (G:=dQ f 0) (fun i j hi hj=>by
    show _=if j=0 then (i:Int) else if j=1/\i=0 then 1 else 0
    by_cases e:i=0/\j=1
    ·rw [if_pos e,if_neg (by omega),if_pos (by omega)]
    rw [if_neg e]
    by_cases e2:j=0
    ·rw [if_pos ⟨hi,e2⟩,if_pos e2]
    rw [if_neg (by omega),if_neg e2,if_neg (by omega)]))
   have HB1:=O ((Z HBP).setCell (p:=⟨wp.heap.size,0*4+1,none⟩) (Nat.le_refl _) (.int .i64 1))
   rw [Nat.zero_mul,Nat.zero_add] at HR1 HB1
   clear HR HBP HT
   obtain ⟨b,hbe⟩:∃ b,b=wp.heap.size:=⟨_,rfl⟩
   go_wp2_with fail
   go_loopg [7,40] n (fun gg _ i W=>∃ (k:Nat),k+gg=n/\i=.int .i64 k/\eG 97 wp.heap.size W 4 nf (dQ f k)/\Below wp.heap.size wp W)
   case atStart=>exact ⟨0,by omega,rfl,Z HR1,Z HB1⟩
   case round =>
    clear HR1 HB1 g1 c1 f1 hbe b
    obtain ⟨k,hk,rfl,hr,hbp⟩:=hrel
    have HR:=O hr
    have HBP:=O hbp
    have HT:=O ((Z T1).go hbp)
    clear hr hbp
    by_cases hlt:k<n
    ·obtain ⟨_,_,e,_,hv⟩:=(Z H2).below (Z HT).below
     cases e
     obtain ⟨bm,om,vv,rfl,hc0,hc1,hc2,hc3,hc4,hc5,-,hs2,-⟩:=hv k hlt
     clear hv
     obtain ⟨av,capv,rfl,-⟩:=hs2
     have hmo:=(Z HS).2.1 k hlt
     have hf1:0<=(f k).fn:=hmo.1.2.2.2.2.1
     have hf2:(f k).fn<nf:=hmo.1.2.2.2.2.2.1
     clear hmo
     have hkn:(k:Int)<(n:Int):=by omega
     have hkz:(0:Int)<=(k:Int):=by omega
     obtain ⟨fnn,hfn⟩:=Int.eq_ofNat_of_zero_le hf1
     have hfnn:fnn<nf:=by omega
     have HFN:=O hfn
     rw [hfn] at hc2
     have hj0:(0:Int)<=(fnn:Int):=by omega
     have hj1:(fnn:Int)<(nf:Int):=by omega
     have hbw:wp.heap.size<wr.heap.size:=(Z HR).lt
     have hne2:wp.heap.size≠wr.heap.size:=by omega
     clear hf1 hf2 hfn
     generalize hkk:(f k).kind=kk at hc0
     have HKK:=O hkk
     clear hkk
     by_cases k2:kk=2
     ·have k2b:(kk == 2)=true:=by simpa using k2
      have HK2:=O k2
      clear k2
      obtain ⟨c1,f1⟩:=(Z HR).cell fnn 1 hfnn (by omega)
      have hx:=dN f fnn 1 (by omega) k
      generalize hxx:dQ f k fnn 1=x at c1 hx
      have HXX:=O hxx
      have wx:IntKind.i64.wrap (x+1)=x+1:=by rw [IntKind.wrap_i64];omega
      clear hxx
      go_wp2_with fail
      go_roundg (n - (k+1))
      case measure=>omega
      case rel =>
       refine ⟨k+1,by omega,by go_num,(((Z HR).set fnn 1 (by omega) (x+1)).congr (fun i j hi hj=>?_)).below (bH _ _),((Z HBP).setCell (p:=⟨wp.heap.size,fnn*4+1,none⟩) (Nat.le_refl _) _).trans ((bH _ _).mono (by simp;omega))⟩
       rw [rT]
       unfold pC
       rw [Z HKK,if_pos (Z HK2),Z HFN,<- Z HXX]
       by_cases e:i=fnn/\j=1
       ·rw [if_pos e,if_pos (by omega),e.1,e.2]
       rw [if_neg e,if_neg (by omega)];omega
     have k2b:(kk == 2)=false:=by simpa using k2
     by_cases k1:kk=1
     ·have k1b:(kk == 1)=true:=by rw [k1];rfl
      have HK1:=O k1
      have HNE:=O (runs_line (Z HS) k hlt (by rw [Z HKK];exact k1))
      clear k1 k2
      obtain ⟨c2,f2⟩:=(Z HR).cell fnn 2 hfnn (by omega)
      have hx:=dN f fnn 2 (by omega) k
      generalize hxx:dQ f k fnn 2=x at c2 hx
      have wx:IntKind.i64.wrap (x+1)=x+1:=by rw [IntKind.wrap_i64];omega
      have HR3:=O ((((Z HR).set fnn 2 (by omega) (x+1)).congr (G:=rC f k fnn (tD ([].take 0))) (fun i j hi hj=>by
       unfold rC
       by_cases e:i=fnn/\j=2
       ·rw [if_pos e,if_pos ⟨e.2,e.1⟩,e.1,e.2,hxx]
       rw [if_neg e,if_neg (fun h=>e ⟨h.2,h.1⟩),if_neg (by simp [gK,tD])];omega)).below (bH _ (.cells #[.int .i64 kk,.int .i64 (f k).task,.int .i64 fnn,.int .i64 (f k).line,.string (f k).text,.slice av (f k).nv capv] 108)))
      have HB3:Hid (Below wp.heap.size wp ((wr.setCell ⟨wp.heap.size,fnn*4+2,none⟩ (.int .i64 (x+1))).alloc (.cells #[.int .i64 kk,.int .i64 (f k).task,.int .i64 fnn,.int .i64 (f k).line,.string (f k).text,.slice av (f k).nv capv] 108))):=O (((Z HBP).setCell (p:=⟨wp.heap.size,fnn*4+2,none⟩) (Nat.le_refl _) _).trans ((bH _ _).mono (by simp;omega)))
      clear hxx
      go_upto_region 19 with fail
      generalize (wr.setCell ⟨wp.heap.size,fnn*4+2,none⟩ (.int .i64 (x+1))).alloc (.cells #[.int .i64 kk,.int .i64 (f k).task,.int .i64 fnn,.int .i64 (f k).line,.string (f k).text,.slice av (f k).nv capv] 108)=W3 at HR3 HB3 ⊢
      clear c2 f2 hc0 hc1 hc2 hc3 hc4 hc5 wx hx k1b k2b HR HBP HT hbw hne2
      go_wp2_with fail
      refine (jN _ _ n f k _ ((Z HP).below (Z HB3)) hn3 (by omega) (by omega)).mono ?_
      rintro e w4 ⟨⟨top,bw,rfl,hpl⟩,hb4⟩
      rw [upto_k n k hlt] at hpl
      have HR4:=O ((Z HR3).below hb4)
      have HB4:=hT HB3 hb4
      have hb4w:wp.heap.size<w4.heap.size:=(Z HR4).lt
      have HPL:=O hpl
      generalize ((St.after f (cQ n (k:Int))).cur:Int)=cu
      have hft:=field_top (.int .i64 cu) (.pointer top) (.pointer (some ⟨bw,0,none⟩))
      clear hpl hb4 HR3 HB3
      go_wp2_with fail
      refine (fns_any (Z HSO) (Z HCO) (tJ f (k+1)) top _ (Z HPL).1 ((Z HPL).2.2.2 _ (Z HPL).2.2.1).1 (Z HNE)).mono ?_
      rintro e w5 ⟨⟨v,zs,rfl,hfo,hin,hzl⟩,hb5⟩
      have HR5:=O ((Z HR4).below hb5)
      have HB5:=O ((Z HB4).trans (hb5.mono (by omega)))
      have HFO:=O hfo
      have HIN:=O hin
      obtain ⟨za,zc,rfl,_⟩:=hin
      clear hft hfo hb5 HR4 HB4 HPL
      go_wp2_with fail
      go_loopg [10,75] zs.length (fun gg _ i W=>∃ (q:Nat),q+gg=zs.length/\i=.int .i64 q/\eG 97 wp.heap.size W 4 nf (rC f k fnn (tD (zs.take q)))/\Below wp.heap.size wp W/\bJ2 w4.heap.size W (.slice za zs.length zc) zs)
      case atStart=>exact ⟨0,by omega,rfl,by simpa using Z HR5,Z HB5,Z HIN⟩
      case round =>
       clear HR5 HB5 HIN
       obtain ⟨q,hq,rfl,hr,hbp,hin⟩:=hrel
       have HR:=O hr
       have HBP:=O hbp
       have HIN:=O hin
       clear hr hbp
       by_cases hql:q<zs.length
       ·obtain ⟨_,_,ez,hzc⟩:=hin
        cases ez
        obtain ⟨zb,rfl,hzb,zcell⟩:=hzc q hql
        obtain ⟨fr,hfr1,hfr2⟩:=((Z HFO).2 _).1 (List.getElem_mem hql)
        have hrg:=zK (Z HS) (k+1) (by omega) _ fr hfr1
        rw [hfr2] at hrg
        obtain ⟨fq,hfq⟩:=Int.eq_ofNat_of_zero_le hrg.1
        have hfq2:fq<nf:=by omega
        have HNX:=O (asFrs_next zs q hql)
        have HNY:Hid (gK (tD (zs.take q)) fq=false):=O (by rw [bR0,<- hfq];exact decide_eq_false (notyet (Z HFO).1 q hql))
        have HFQ:=O hfq
        rw [hfq] at zcell
        obtain ⟨rc,rf⟩:=(Z HR).cell fq 3 hfq2 (by omega)
        have hx3:=bJ1 f k fnn (tD (zs.take q)) fq
        generalize hx3e:rC f k fnn (tD (zs.take q)) fq 3=x3 at rc hx3
        have HX3:=O hx3e
        have wx3:IntKind.i64.wrap (x3+1)=x3+1:=by rw [IntKind.wrap_i64];omega
        obtain ⟨zl,hzle⟩:∃ zl,zl=zs.length:=⟨_,rfl⟩
        rw [<- hzle] at hql hzl
        have hq0:(0:Int)<=(q:Int):=by omega
        have hq1:(q:Int)<(zl:Int):=by omega
        have hq2:(0:Int)<=(fq:Int):=by omega
        have hq3:(fq:Int)<(nf:Int):=by omega
        rw [<- hzle]
        have HZLE:=O hzle
        have HQ:=O hq
        clear hzc hfr1 hfr2 hrg hfq hx3e hzle hq
        go_wp2_with fail
        have ezl:=Z HZLE
        subst ezl
        have hq:=Z HQ
        go_roundg (zs.length - (q+1))
        case measure=>omega
        case rel =>
         refine ⟨q+1,by omega,by go_num,?_,(Z HBP).setCell (p:=⟨wp.heap.size,fq*4+3,none⟩) (Nat.le_refl _) _,(Z HIN).other hb4w⟩
         rw [Z HNX]
         refine ((Z HR).set fq 3 (by omega) (x3+1)).congr (fun i j _ _=>?_)
         rw [<- Z HX3]
         exact bQ8 (Z HFQ) (Z HNY) i j
       have e:q=zs.length:=by omega
       subst e
       clear hin
       go_wp2_with fail
       go_roundg (n - (k+1))
       case measure=>omega
       case rel =>
        have hr:=Z HR
        rw [List.take_of_length_le (Nat.le_refl _)] at hr
        exact ⟨k+1,by omega,by go_num,hr.congr (fun i j hi hj=>fcIn_all (by rw [Z HKK];exact Z HK1) (Z HFN) _ (fun i=>hasFn_of (Z HFO) i) i j),Z HBP⟩
     have k1b:(kk == 1)=false:=by simpa using k1
     have HK:=O (And.intro k1 k2)
     clear k1 k2
     go_wp2_with fail
     go_roundg (n - (k+1))
     case measure=>omega
     case rel =>
      refine ⟨k+1,by omega,by go_num,((Z HR).congr (fun i j hi hj=>?_)).below (bH _ _),(Z HBP).trans ((bH _ _).mono (by omega))⟩
      rw [rT]
      unfold pC
      rw [Z HKK,if_neg (Z HK).2,if_neg (Z HK).1]
      omega
    have e:n=k:=by omega
    subst e
    have hnk:¬ ((n:Int)<(n:Int)):=by omega
    go_wp2_with fail
    go_ret
    exact ⟨⟨_,rfl,nf,dQ f n,.inl ⟨Z HS,rfl,fun _ _ _ _=>rfl⟩,(Z HR).rowsAt (by omega)⟩,(Z HT).below⟩
 have HN:Hid (¬ cB nf fns n f):=O (fun h=>hc (ha.zero.1.2 h))
 have hcb:(c == 0)=false:=by simpa using hc
 clear ha hp hc
 go_wp2_with fail
 go_ret
 exact ⟨⟨_,0,fun _ _=>0,rfl,.inr ⟨Z HN,rfl⟩,eQ.nil _ _ _ _⟩,(Z T1).below⟩
end
end Go.Proofs.YtmnmeaeicjhkhaaGreatDoor
