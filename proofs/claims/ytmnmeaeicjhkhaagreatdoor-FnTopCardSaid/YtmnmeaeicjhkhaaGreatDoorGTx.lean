import Derived.Test.YtmnmeaeicjhkhaaGreatDoorGLx
import Derived.Deep.LoopGhost
set_option maxRecDepth 100000
set_option maxHeartbeats 16000000
namespace Go.Proofs.YtmnmeaeicjhkhaaGreatDoor
open Go.RowKit
def eA (lo:Nat) (w:World) (v:Value) (l:List Fr):Prop:=w.ownsRow lo 42 3 v l.length (cA l)
theorem eA.below {lo:Nat} {w w':World} {v:Value} {l:List Fr} (h:eA lo w v l) (hb:Below w.heap.size w w'):eA lo w' v l:=bN h hb
theorem bF5 (s:St) (t:Nat) (top:Option Addr) (bw:Nat) (w:World) (h:cZ w s top bw) (ht:t<101) :
  Calls Tryz.prog 153 #[.agg #[.int .i64 s.cur,.pointer top,.pointer (some ⟨bw,0,none⟩)],.int .i64 t] w fun e w'=>(∃ p,e=.returned (.pointer p)/\cR w' (s.tasks t) p)/\Below w.heap.size w w':=by
 obtain ⟨h1,⟨P,h2⟩,h3,h4⟩:=h
 by_cases hc:t=s.cur
 ·subst hc
  have H1:=O h1
  clear h1 h2 h4
  go_enter Tryz.func153,Tryz.ntmps153
  go_wp2
  go_ret
  exact ⟨⟨top,rfl,(Z H1).below (bH _ _)⟩,bH _ _⟩
 have k0:=bG (bH w (.cells #[.int .i64 s.cur,.pointer top,.pointer (some ⟨bw,0,none⟩)] 119)) (h2 t ht).1
 have HL:=O ((h2 t ht).2 hc)
 have hq:((t:Int) == (s.cur:Int))=false:=by rw [beq_eq_false_iff_ne];omega
 have hj1:(0:Int)<=(t:Int):=by omega
 have hj2:(t:Int)<101:=by omega
 clear h1 h2 h4 hc
 go_enter Tryz.func153,Tryz.ntmps153
 go_wp2
 go_ret
 exact ⟨⟨P t,rfl,(Z HL).below (bH _ _)⟩,bH _ _⟩
theorem bF6 (l:List Fr) (p:Option Addr) (w:World) (h:cR w l p) (hl:l.length<=200) :
  Calls Tryz.prog 154 #[.pointer p] w fun e w'=>(∃ v,e=.returned v/\eA w.heap.size w' v l)/\Below w.heap.size w w':=by
 have H:=O h
 clear h
 obtain ⟨i0,hi0,hz0,hz1,hz2⟩:=info_parts vZ
 have II:=O (And.intro hi0 (And.intro hz0 (And.intro hz1 hz2)));clear hi0 hz0 hz1 hz2
 go_enter Tryz.func154,Tryz.ntmps154
 go_wp2
 go_loopg [0,3] l.length (fun k c v wr=>∃ (p:Option Addr) (d r:List Fr),c=.pointer p/\d ++ r=l/\r.length=k/\cR w r p/\eA w.heap.size wr v d/\(∃ a n cp,v=.slice a n cp)/\Below w.heap.size w wr)
 case atStart=>exact ⟨p,[],l,rfl,rfl,rfl,Z H,World.ownsRow_nil _ _ _ _,⟨_,_,_,rfl⟩,Below.refl _ _⟩
 case round =>
  obtain ⟨p',d,r,rfl,hd,hr,hli,hfr,⟨va,vn,vc,rfl⟩,hb⟩:=hrel
  have HD:=O hd
  have HF:=O hfr
  have HB:=O hb
  cases r with
  | nil =>
   have e:p'=none:=hli
   subst e
   clear hd hfr hb hli hr
   go_wp2
   go_ret
   have hdl:d=l:=by have:=Z HD;simpa using this
   rw [<- hdl]
   exact ⟨⟨_,rfl,Z HF⟩,Z HB⟩
  | cons f r' =>
   obtain ⟨b,p2,rfl,k0,k1,k2,k3,k4,hli2⟩:=hli
   have HL2:=O hli2
   have c0:=bG hb k0
   have c1:=bG hb k1
   have c2:=bG hb k2
   have c4:=bG hb k4
   have hlen:d.length+r'.length+1<=200:=by rw [<- hd] at hl;simp at hl;omega
   have hzz:w.heap.size<=wr.heap.size:=hb.size
   have K4:=O k4
   clear k0 k1 k2 k3 k4 hli2 hd hfr hb c4
   have HA:=O ((Z HF).below (bH wr (.cells #[.int .i64 f.fn,.int .i64 f.line,.int .i64 f.frm] 42)))
   have HNW:Hid (∀ j u,([.int .i64 f.fn,.int .i64 f.line,.int .i64 f.frm]:List Value)[j]?=some u->(wr.alloc (.cells #[.int .i64 f.fn,.int .i64 f.line,.int .i64 f.frm] 42)).cell? ((⟨wr.heap.size,0,none⟩:Addr).add j)=some u) :=
    O (World.news_of_block (cs:=#[.int .i64 f.fn,.int .i64 f.line,.int .i64 f.frm]) (t:=42) (fr:=(0,0)) (heap_alloc_new wr _))
   go_wp2_with (at_builtin;refine wpList_append_lies _ (by rfl) _ _ _ (by rfl) w.heap.size 42 i0 _ 3 24 Tryz.underlying35 (Z II).1 (Z II).2.1 (Z II).2.2.1 (Z II).2.2.2 rfl (by omega) (.slice va vn vc) d.length (cA d) (by rfl) (Z HA) ⟨wr.heap.size,0,none⟩ 1 1 [.int .i64 f.fn,.int .i64 f.line,.int .i64 f.frm] (by rfl) (by rfl) (Z HNW) (by simp [Value.oneCell']) (by omega) (by unfold maxLen;omega) (by omega) (by simp;omega) (wr.heap.size+1) (by simp) ?_;intro g2 cp2 w7 hown hgrow _ _;have hb7:Below w.heap.size w w7:=Below.grown ((Z HB).alloc hzz _) hgrow (by simp;omega) (fun k hk=>((Z HA).lt k hk).1);have k7:=bG hb7 (Z K4);have HB7:=O hb7;have HO7:=O hown;clear hown hgrow hb7)
   go_roundg r'.length
   case measure=>simp at hr;omega
   case rel =>
    refine ⟨p2,d ++ [f],r',rfl,?_,rfl,Z HL2,?_,⟨_,_,_,rfl⟩,Z HB7⟩
    ·rw [List.append_assoc];exact Z HD
    unfold eA
    rw [List.length_append,gQ]
    exact Z HO7
theorem FrsAt_nil (lo:Nat) (w:World):eA lo w (.slice none 0 0) []:=World.ownsRow_nil _ _ _ _
theorem qH:∀ (l:List Fr) (i:Nat) (h:i<l.length),(cA l)[i*3]?=some (.int .i64 l[i].fn)/\(cA l)[i*3+1]?=some (.int .i64 l[i].line)/\(cA l)[i*3+2]?=some (.int .i64 l[i].frm)
 | f :: r,0,_=>⟨rfl,rfl,rfl⟩
 | f :: r,i+1,h=>by
  have ih:=qH r i (by simpa using h)
  have e:cA (f :: r)=[.int .i64 f.fn,.int .i64 f.line,.int .i64 f.frm] ++ cA r:=rfl
  rw [e,show (i+1)*3=3+i*3 by omega]
  refine ⟨?_,?_,?_⟩
  ·rw [List.getElem?_append_right (by simp)];simpa using ih.1
  ·rw [List.getElem?_append_right (by simp;omega),show 3+i*3+1 - [(Value.int .i64 f.fn),.int .i64 f.line,.int .i64 f.frm].length=i*3+1 by simp;omega];simpa using ih.2.1
  rw [List.getElem?_append_right (by simp;omega),show 3+i*3+2 - [(Value.int .i64 f.fn),.int .i64 f.line,.int .i64 f.frm].length=i*3+2 by simp;omega];simpa using ih.2.2
theorem l1inner_any (B:Nat) (v:Value) (l:List Fr) (w:World) (h:w.ownsRow B 42 3 v l.length (cA l.reverse)) (hl:l.length<=200) :
  Calls Tryz.prog 98 #[v] w fun e w'=>(∃ v',e=.returned v'/\eA w.heap.size w' v' l)/\Below w.heap.size w w':=by
 have H:=O h
 obtain ⟨va,vc,rfl⟩:=bR h
 clear h
 obtain ⟨i0,hi0,hz0,hz1,hz2⟩:=info_parts vZ
 have II:=O (And.intro hi0 (And.intro hz0 (And.intro hz1 hz2)));clear hi0 hz0 hz1 hz2
 obtain ⟨len,hlen⟩:∃ len,len=l.length:=⟨_,rfl⟩
 rw [<- hlen] at H hl
 rw [<- hlen]
 have HLN:=O hlen;clear hlen
 go_enter Tryz.func98,Tryz.ntmps98
 go_wp2
 go_loopw [3,4] (fun o i wr=>∃ (j:Nat),j<=len/\i=.int .i64 ((j:Int) - 1)/\eA w.heap.size wr o (l.take (len - j))/\(∃ a n cp,o=.slice a n cp)/\Below w.heap.size w wr) (fun _ i _=>(intOf i+1).toNat)
 case atStart=>exact ⟨len,Nat.le_refl _,rfl,by rw [Nat.sub_self,List.take_zero];exact FrsAt_nil _ _,⟨_,_,_,rfl⟩,Below.refl _ _⟩
 case round =>
  obtain ⟨j,hj,rfl,hfr,⟨oa,on,oc,rfl⟩,hb⟩:=hrel
  have HF:=O hfr
  have HB:=O hb
  cases j with
  | zero =>
   clear hfr hb
   go_wp2
   go_ret
   refine ⟨⟨_,rfl,?_⟩,Z HB⟩
   have:=Z HF
   rwa [Nat.sub_zero,List.take_of_length_le (by rw [Z HLN];exact Nat.le_refl _)] at this
  | succ j' =>
   have hj':j' < l.reverse.length:=by rw [List.length_reverse,<- Z HLN];omega
   obtain ⟨e0,e1,e2⟩:=qH l.reverse j' hj'
   obtain ⟨f,hf⟩:∃ f,f=l.reverse[j']:=⟨_,rfl⟩
   rw [<- hf] at e0 e1 e2
   have hfl:l[len - (j' + 1)]?=some f:=by
    rw [hf,List.getElem_reverse]
    rw [List.getElem?_eq_getElem (by rw [Z HLN] at hj ⊢;omega)]
    congr 1
    simp only [Z HLN]
    congr 1
    omega
   obtain ⟨ga,hga⟩:∃ ga,va=some ⟨ga,0,none⟩:=by
    rcases (Z H).2 with ⟨_,h0⟩ | ⟨g,cap,cur,hv,_⟩
    ·omega
    cases hv;exact ⟨g,rfl⟩
   subst hga
   have c0:=bG hb (bL (Z H) _ _ e0).1
   have c1:=bG hb (bL (Z H) _ _ e1).1
   have c2:=bG hb (bL (Z H) _ _ e2).1
   have hzz:w.heap.size<=wr.heap.size:=hb.size
   have HFL:=O hfl
   clear e0 e1 e2 hf hfl hfr hb
   have hdl:(l.take (len - (j' + 1))).length=len - (j' + 1):=by rw [List.length_take,<- Z HLN];omega
   have HA:=O ((Z HF).below (bH wr (.cells #[.int .i64 f.fn,.int .i64 f.line,.int .i64 f.frm] 42)))
   have HNW:Hid (∀ j u,([.int .i64 f.fn,.int .i64 f.line,.int .i64 f.frm]:List Value)[j]?=some u->(wr.alloc (.cells #[.int .i64 f.fn,.int .i64 f.line,.int .i64 f.frm] 42)).cell? ((⟨wr.heap.size,0,none⟩:Addr).add j)=some u) :=
    O (World.news_of_block (cs:=#[.int .i64 f.fn,.int .i64 f.line,.int .i64 f.frm]) (t:=42) (fr:=(0,0)) (heap_alloc_new wr _))
   have HDL:=O hdl
   have hm2:(l.take (len - (j' + 1))).length<=200:=by omega
   clear hdl
   obtain ⟨d,hd⟩:∃ d,d=l.take (len - (j' + 1)):=⟨_,rfl⟩
   rw [<- hd] at HA HF HDL hm2
   have HD:=O hd
   clear hd
   have hi1:(0:Int)<=(j':Int):=by omega
   have hi2:(j':Int)<(len:Int):=by omega
   have hi3:((j' + 1:Nat):Int) - 1=(j':Int):=by omega
   rw [hi3]
   clear hi3
   go_wp2_with (at_builtin;refine wpList_append_lies _ (by rfl) _ _ _ (by rfl) w.heap.size 42 i0 _ 3 24 Tryz.underlying35 (Z II).1 (Z II).2.1 (Z II).2.2.1 (Z II).2.2.2 rfl (by omega) (.slice oa on oc) d.length (cA d) (by rfl) (Z HA) ⟨wr.heap.size,0,none⟩ 1 1 [.int .i64 f.fn,.int .i64 f.line,.int .i64 f.frm] (by rfl) (by rfl) (Z HNW) (by simp [Value.oneCell']) (by omega) (by unfold maxLen;omega) (by omega) (by simp;omega) (wr.heap.size+1) (by simp) ?_;intro g2 cp2 w7 hown hgrow _ _;have HB7:Hid (Below w.heap.size w w7):=O (Below.grown ((Z HB).alloc hzz _) hgrow (by simp;omega) (fun k hk=>((Z HA).lt k hk).1));have HO7:=O hown;clear hown hgrow)
   go_roundw
   case rel =>
    refine ⟨j',by omega,rfl,?_,⟨_,_,_,rfl⟩,Z HB7⟩
    have e:l.take (len - j')=d ++ [f]:=by
     rw [show len - j'=(len - (j' + 1))+1 by omega,List.take_add_one,Z HFL,Z HD];rfl
    unfold eA
    rw [e,List.length_append,gQ]
    exact Z HO7
   case measure=>simp [intOf]
theorem eA.cells {lo:Nat} {w:World} {a:Option Addr} {cap:Nat} {l:List Fr} (h:eA lo w (.slice a l.length cap) l) (i:Nat) (hi:i<l.length) :
  ∃ g,a=some ⟨g,0,none⟩/\lo<=g/\g<w.heap.size/\w.cell? ⟨g,i*3,none⟩=some (.int .i64 l[i].fn)/\w.cell? ⟨g,i*3+1,none⟩=some (.int .i64 l[i].line)/\w.cell? ⟨g,i*3+2,none⟩=some (.int .i64 l[i].frm):=by
 obtain ⟨e0,e1,e2⟩:=qH l i hi
 have h':=h
 rcases h.2 with ⟨_,h0⟩ | ⟨g,cap',cur,hv,hB,hg,_⟩
 ·omega
 cases hv
 exact ⟨g,rfl,hB,(Array.getElem?_eq_some_iff.1 hg).1,(bL h' _ _ e0).1,(bL h' _ _ e1).1,(bL h' _ _ e2).1⟩
def bF7:Value->Bool
 | .int _ _=>true
 | .string _=>true
 | _=>false
structure dY (lo hi:Nat) (w w':World):Prop where
 os:w'.os=w.os
 tape:w'.tape=w.tape
 output:w'.output=w.output
 size:w.heap.size<=w'.heap.size
 block:∀ b,b<w.heap.size->(b<lo∨hi<=b)->w'.heap[b]?=w.heap[b]?
 fz:∀ p:Addr,p.block<w.heap.size->w'.frozen? p=w.frozen? p
 pl:∀ (p:Addr) (u:Value),w.cell? p=some u->bF7 u=true->∃ u',w'.cell? p=some u'/\bF7 u'=true
 fix:∀ (p:Addr) (u:Value),w.cell? p=some u->bF7 u=false->w'.cell? p=some u
theorem dY.refl (lo hi:Nat) (w:World):dY lo hi w w:=⟨rfl,rfl,rfl,Nat.le_refl _,fun _ _ _=>rfl,fun _ _=>rfl,fun _ u h e=>⟨u,h,e⟩,fun _ _ h _=>h⟩
theorem dY.trans {lo hi:Nat} {a b c:World} (h:dY lo hi a b) (k:dY lo hi b c):dY lo hi a c :=
 ⟨k.os.trans h.os,k.tape.trans h.tape,k.output.trans h.output,Nat.le_trans h.size k.size,fun i hi' hr=>(k.block i (Nat.lt_of_lt_of_le hi' h.size) hr).trans (h.block i hi' hr),
  fun p hp=>(k.fz p (Nat.lt_of_lt_of_le hp h.size)).trans (h.fz p hp),
  fun p u hu e=>by obtain ⟨u1,h1,e1⟩:=h.pl p u hu e;exact k.pl p u1 h1 e1,
  fun p u hu e=>k.fix p u (h.fix p u hu e) e⟩
theorem dY.of_below {w w':World} (lo hi:Nat) (h:Below w.heap.size w w'):dY lo hi w w' :=
 ⟨h.os,h.tape,h.output,h.size,fun b hb _=>h.block b hb,fun _ hp=>h.frozen hp,fun _ u hu e=>⟨u,bG h hu,e⟩,fun _ _ hu _=>bG h hu⟩
theorem dY.setCell {lo hi:Nat} {a w:World} (h:dY lo hi a w) {p:Addr} {u0 u:Value} (h1:lo<=p.block) (h2:p.block<hi) (hc:w.cell? p=some u0) (e0:bF7 u0=true) (e:bF7 u=true):dY lo hi a (w.setCell p u):=by
 refine h.trans ⟨rfl,rfl,rfl,by simp [World.setCell],fun b _ hr=>Below.heap_setCell _ _ _ _ (by omega),fun q _=>World.frozen?_setCell ..,fun q v hv ev=>?_,fun q v hv ev=>?_⟩
 ·by_cases hq:q=p
  ·subst hq
   exact ⟨u,World.cell?_setCell_same' _ _ _ (by rw [hc];rfl),e⟩
  exact ⟨v,by rw [World.cell?_setCell_other _ _ _ _ (fun h=>hq h.symm)];exact hv,ev⟩
 by_cases hq:q=p
 ·subst hq
  rw [hc] at hv
  cases hv
  rw [e0] at ev
  cases ev
 rw [World.cell?_setCell_other _ _ _ _ (fun h=>hq h.symm)];exact hv
theorem dY.below {lo hi:Nat} {w w':World} (h:dY lo hi w w') (hl:lo<=w.heap.size):Below lo w w':=⟨h.os,h.tape,h.output,h.size,fun b hb=>h.block b (by omega) (.inl hb)⟩
theorem bA8:∀ (l:List Fr) (j:Nat) (f:Fr),cA (l.set j f)=if j<l.length then (((cA l).set (j*3) (.int .i64 f.fn)).set (j*3+1) (.int .i64 f.line)).set (j*3+2) (.int .i64 f.frm) else cA l
 | [],j,f=>by simp
 | x :: r,0,f=>by simp [List.set];rfl
 | x :: r,j+1,f=>by
  have ih:=bA8 r j f
  have e:∀ (x:Fr) (r:List Fr),cA (x :: r)=.int .i64 x.fn :: .int .i64 x.line :: .int .i64 x.frm :: cA r:=fun _ _=>rfl
  rw [sx3,e,e,ih]
  by_cases h:j<r.length
  ·rw [if_pos h,if_pos (by simpa using h),show (j+1)*3=j*3+1+1+1 by omega]
   simp only [sx3]
  rw [if_neg h,if_neg (by simpa using h)]
end Go.Proofs.YtmnmeaeicjhkhaaGreatDoor
