import Derived.Deep.DeepCutAuto
import Derived.Test.YtmnmeaeicjhkhaaGreatDoorE2x
set_option maxRecDepth 100000
set_option maxHeartbeats 16000000
namespace Go.Proofs.YtmnmeaeicjhkhaaGreatDoor
section
open Go.RowKit
end
section
open Go.RowKit Go.Lib
def zM (o:Option ByteArray):ByteArray:=o.getD ByteArray.empty
theorem tK {vars:Nat->V} {nm:ByteArray} {k:Nat} (h:(vars k).name=nm):cP vars nm (k+1)=some (vars k).text:=by
 unfold cP;rw [if_pos h]
theorem tL {vars:Nat->V} {nm:ByteArray} {k:Nat} (h:(vars k).name≠nm):cP vars nm (k+1)=cP vars nm k:=by
 show (if (vars k).name=nm then _ else _)=_;rw [if_neg h]
theorem yH {a b:ByteArray} (h:a≠b):(a.toList == b.toList)=false:=by
 rw [beq_eq_false_iff_ne]
 intro e
 rw [ByteArray.toList_eq,ByteArray.toList_eq] at e
 apply h
 cases a;cases b
 congr
 exact Array.toList_inj.1 e
theorem tM (lo:Nat) (v:Value) (n:Nat) (vs:Nat->V) (nm:ByteArray) (w:World) (h:fN lo w v n vs) :
  Calls Tryz.prog 100 #[v,.string nm] w fun e w'=>e=.returned (.tuple #[.string (zM (cP vs nm n)),.bool (cP vs nm n).isSome])/\Below w.heap.size w w':=by
 have H:=O h
 obtain ⟨a,cap,rfl,hn,-⟩:=h
 unfold maxLen at hn
 go_enter Tryz.func100,Tryz.ntmps100
 go_wp2_with fail
 go_loopw [6,7,12] (fun x y i wr=>∃ (k:Nat),k<=n/\i=.int .i64 k/\x=.string (zM (cP vs nm k))/\y=.bool (cP vs nm k).isSome/\Below w.heap.size w wr) (fun _ _ i _=>n - (intOf i).toNat)
 case atStart=>exact ⟨0,by omega,rfl,rfl,rfl,Below.refl _ _⟩
 case round =>
  obtain ⟨k,hk,rfl,rfl,rfl,hb⟩:=hrel
  have HB:=O hb
  by_cases hlt:k<n
  ·obtain ⟨_,_,e,_,hv⟩:=(Z H).below hb
   cases e
   obtain ⟨b,o,rfl,c0,c1,-⟩:=hv k hlt
   clear hv hb
   have hk0:(0:Int)<=(k:Int):=by omega
   have hk1:(k:Int)<(n:Int):=by omega
   have hws:w.heap.size<=wr.heap.size:=(Z HB).size
   by_cases he:(vs k).name=nm
   ·have HE:=O he
    rw [he] at c0
    clear he
    go_wp2_with fail
    go_roundw
    case rel=>exact ⟨k+1,by omega,by go_num,by rw [tK (Z HE)];rfl,by rw [tK (Z HE)];rfl,(Z HB).alloc hws _⟩
    case measure=>simp [intOf];omega
   have HE:=O he
   have hbe:=yH he
   clear he
   go_wp2_with fail
   go_roundw
   case rel=>exact ⟨k+1,by omega,by go_num,by rw [tL (Z HE)],by rw [tL (Z HE)],(Z HB).alloc hws _⟩
   case measure=>simp [intOf];omega
  have e:k=n:=by omega
  subst e
  have hnk:¬ ((k:Int)<(k:Int)):=by omega
  clear hb
  go_wp2_with fail
  go_ret2
  exact ⟨rfl,Z HB⟩
end
section
open Go.RowKit Go.Lib
theorem info_Owner:(Tryz.prog.info? 275).map (fun i=>(i.zero,i.size,i.bytes))=some (some (.agg #[.bool false,.int .i64 0,.int .i64 0,.int .i64 0,.int .i64 0]),5,40):=by kernel_rfl
def kJ (f:Nat->M) (i:Nat):List Value :=
 match eL f i with
 | some fr=>[.bool true,.int .i64 (gH f i),.int .i64 fr.fn,.int .i64 fr.line,.int .i64 fr.frm]
 | none=>[.bool false,.int .i64 (gH f i),.int .i64 0,.int .i64 0,.int .i64 0]
def eY (f:Nat->M) (k:Nat):List Value:=(List.range k).flatMap (kJ f)
theorem jV (f:Nat->M) (k:Nat):eY f (k+1)=eY f k ++ kJ f k:=by
 unfold eY
 rw [List.range_succ,List.flatMap_append]
 simp
def cH (f:Nat->M) (k:Nat):St:=St.after f (if (f k).kind=3 then k else k+1)
theorem yJ {f:Nat->M} {k:Nat} (h:(cH f k).tasks (cH f k).cur=[]):kJ f k=[.bool false,.int .i64 (cH f k).cur,.int .i64 0,.int .i64 0,.int .i64 0]:=by
 have e:eL f k=none:=by
  show ((cH f k).tasks (cH f k).cur).head?=none
  rw [h];rfl
 unfold kJ
 rw [e]
 rfl
theorem vU {f:Nat->M} {k:Nat} {fr:Fr} {r:List Fr} (h:(cH f k).tasks (cH f k).cur=fr :: r):kJ f k=[.bool true,.int .i64 (cH f k).cur,.int .i64 fr.fn,.int .i64 fr.line,.int .i64 fr.frm]:=by
 have e:eL f k=some fr:=by
  show ((cH f k).tasks (cH f k).cur).head?=some fr
  rw [h];rfl
 unfold kJ
 rw [e]
 rfl
theorem cY {w:World} {b:Nat} {o:Obj} (h:w.heap[b]?=some o):b<w.heap.size:=(Array.getElem?_eq_some_iff.1 h).1
theorem fY {w:World} {b o1 o2 o3:Nat} {p:Addr} {v u1 u2 u3:Value} (hne:b≠p.block) (h:w.cell? p=some v):(((w.setCell ⟨b,o1,none⟩ u1).setCell ⟨b,o2,none⟩ u2).setCell ⟨b,o3,none⟩ u3).cell? p=some v:=bJ hne (bJ hne (bJ hne h))
theorem cG.turn {B:Nat} {w w':World} {ps:Nat} {s:St} {e0:TypeId} (h:cG B w ps s) (X:Nat->Prop) (hk:∀ b,b<w.heap.size->¬ X b->w'.heap[b]?=w.heap[b]?) (hX:∀ b,X b->b≠ps/\∃ cs fr,w.heap[b]?=some (.cells cs e0 fr)) (h1:e0≠42) (h2:e0≠35):cG B w' ps s:=by
 obtain ⟨bt,V,h⟩:=h
 have hps:w'.heap[ps]?=w.heap[ps]?:=hk ps (bV h.c0) (fun e=>(hX ps e).1 rfl)
 obtain ⟨cb,hcb,hsz,hfn⟩:=h.row
 have hbt:w'.heap[bt]?=w.heap[bt]?:=hk bt (Array.getElem?_eq_some_iff.1 hcb).1 (fun e=>by
  obtain ⟨cs,fr,e1⟩:=(hX bt e).2
  rw [hcb] at e1;cases e1;exact h2 rfl)
 refine ⟨bt,V,h.hp,h.hbt,h.ne,?_,?_,?_,h.row.of_block hbt,fun t ht=>?_,h.nps,h.nbt,h.dis,h.cur,h.len⟩
 ·rw [World.cell?_of_block hps];exact h.c0
 ·rw [World.cell?_of_block hps];exact h.c1
 ·rw [World.frozen?_of_block hps];exact h.fz
 obtain ⟨g1,g2⟩:=h.own t ht
 refine ⟨g1,?_⟩
 rcases g2 with g2 | ⟨g,cap,cur,hv,hg,hh,r⟩
 ·exact .inl g2
 refine .inr ⟨g,cap,cur,hv,hg,?_,r⟩
 rw [hk g (Array.getElem?_eq_some_iff.1 hh).1 (fun e=>by
  obtain ⟨cs,fr,e1⟩:=(hX g e).2
  rw [hh] at e1;cases e1;exact h1 rfl)]
 exact hh
theorem tN {w w':World} {ps B:Nat} {e:TypeId} {z:Nat} {v:Value} {n:Nat} {xs:List Value} (h:w.ownsRow B e z v n xs) (hk:gD ps w w') (h1:e≠42) (h2:e≠35) (hp:ps<B):w'.ownsRow B e z v n xs:=by
 refine ⟨h.1,?_⟩
 rcases h.2 with g2 | ⟨g,cap,cur,hv,hg,hh,r⟩
 ·exact .inl g2
 exact .inr ⟨g,cap,cur,hv,hg,(hk g _ _ _ hh (by omega) h1 h2).trans hh,r⟩
theorem l3owners_any (lo:Nat) (v1 v2:Value) (nf:Nat) (fns:Nat->ByteArray) (n:Nat) (f:Nat->M) (w:World) (h2:bQ lo w v2 n f) (hs:cB nf fns n f) :
  Calls Tryz.prog 138 #[.agg #[v1,v2]] w fun e w'=>(∃ v,e=.returned v/\w'.ownsRow w.heap.size 275 5 v n (eY f n))/\Below w.heap.size w w':=by
 have H2:=O h2
 have HS:=O hs
 obtain ⟨a2,cap2,rfl,hn2,-⟩:=h2
 have hn3:n<=3000:=hs.1.2.2.1
 unfold maxLen at hn2
 clear hs
 have T0:=O (cS.new w v1 (.slice a2 n cap2))
 obtain ⟨i0,hi0,hz0,hz1,hz2⟩:=info_parts info_Owner
 have II:=O (And.intro hi0 (And.intro hz0 (And.intro hz1 hz2)));clear hi0 hz0 hz1 hz2
 go_enter Tryz.func138,Tryz.ntmps138
 go_wp2_with fail
 refine (pA _).mono ?_
 rintro e w1 ⟨⟨ps,rfl,hsp⟩,hb1⟩
 have HT0:=O ((Z T0).go hb1)
 obtain ⟨B,hBe⟩:∃ B,B=w.heap.size+1:=⟨_,rfl⟩
 have HS0:Hid (cG B w1 ps St.init):=by rw [hBe];exact O (by simpa using hsp)
 have hps1:ps<w1.heap.size:=by obtain ⟨_,_,hh⟩:=Z HS0;exact bV hh.c0
 obtain ⟨B2,hB2⟩:∃ B2,B2=w1.heap.size:=⟨_,rfl⟩
 rw [<- hB2] at hps1
 have hwB:w.heap.size+1<=B2:=by rw [hB2];exact (Z HT0).size
 have hB2w:B2<=w1.heap.size:=by omega
 have g1:=(Z HT0).b1
 clear hsp hb1 T0 hB2
 go_wp2_with fail
 go_loopg [3,5,12] n (fun gg o _ i W=>∃ (k:Nat) (oa:Option Addr) (oc:Nat),k+gg=n/\i=.int .i64 k/\o=.slice oa k oc/\cG B W ps (St.after f k)/\W.ownsRow B2 275 5 o k (eY f k)/\cS w v1 (.slice a2 n cap2) W/\B2<=W.heap.size)
 case atStart=>exact ⟨0,none,0,by omega,rfl,rfl,Z HS0,World.ownsRow_nil _ _ _ _,Z HT0,hB2w⟩
 case round =>
  clear HT0 HS0 g1 hB2w
  obtain ⟨k,oa,oc,hk,rfl,rfl,hsp,hown,ht,hB2r⟩:=hrel
  have HSP:=O hsp
  have HOW:=O hown
  have HT:=O ht
  clear hsp hown ht
  by_cases hlt:k<n
  ·obtain ⟨_,_,e,_,hv⟩:=(Z H2).below (Z HT).below
   cases e
   obtain ⟨bm,om,vv,rfl,hc0,hc1,hc2,hc3,hc4,hc5,-,hs2,-⟩:=hv k hlt
   clear hv
   obtain ⟨av,capv,rfl,-⟩:=hs2
   have hmo:=(Z HS).2.1 k hlt
   have ht1:0<=(f k).task:=hmo.1.2.2.1
   have ht2:(f k).task<=100:=hmo.1.2.2.2.1
   have hcode:=(Z HS).2.2 k hlt
   have HCODE:=O hcode
   clear hmo hcode
   have hkn:(k:Int)<(n:Int):=by omega
   have hkz:(0:Int)<=(k:Int):=by omega
   generalize hkk:(f k).kind=kk at hc0
   have HKK:=O hkk
   clear hkk
   have HBN:=O (bH wr (.cells #[.int .i64 kk,.int .i64 (f k).task,.int .i64 (f k).fn,.int .i64 (f k).line,.string (f k).text,.slice av (f k).nv capv] 108))
   have HBX:=O (heap_alloc_new wr (.cells #[.int .i64 kk,.int .i64 (f k).task,.int .i64 (f k).fn,.int .i64 (f k).line,.string (f k).text,.slice av (f k).nv capv] 108))
   have HSA:=O ((Z HSP).below (Z HBN))
   have HOA:=O (bN (Z HOW) (Z HBN))
   have HTA:=O ((Z HT).go (Z HBN))
   obtain ⟨mb,hmb⟩:∃ mb,mb=wr.heap.size:=⟨_,rfl⟩
   rw [<- hmb] at HBX
   have hmA:mb<(wr.alloc (.cells #[.int .i64 kk,.int .i64 (f k).task,.int .i64 (f k).fn,.int .i64 (f k).line,.string (f k).text,.slice av (f k).nv capv] 108)).heap.size:=by rw [hmb];simp
   have hB2m:B2<=mb:=by omega
   by_cases k3:kk=3
   ·have k3b:(kk != 3)=false:=by rw [k3];rfl
    have k3c:(kk == 3)=true:=by rw [k3];rfl
    have hsh:cH f k=St.after f k:=by unfold cH;rw [if_pos (by rw [Z HKK];exact k3)]
    have HSH:=O hsh
    clear k3 hsh
    go_upto_if 19 with fail
    rw [<- hmb]
    generalize wr.alloc (.cells #[.int .i64 kk,.int .i64 (f k).task,.int .i64 (f k).fn,.int .i64 (f k).line,.string (f k).text,.slice av (f k).nv capv] 108)=Wm at HBX HSA HOA HTA hmA ⊢
    have m0:Wm.cell? ⟨mb,0,none⟩=some (.int .i64 kk):=by rw [cell_of_row Wm mb 0 _ _ _ (Z HBX)];rfl
    clear hc0 hc1 hc2 hc3 hc4 hc5 HBN HSP HOW HT hmb
    have HSm:Hid (cG B Wm ps (cH f k)):=by rw [Z HSH];exact HSA
    have HOm:=HOA
    have HTm:=HTA
    have HXm:=HBX
    have hmb2:=hmA
    clear HOA HTA HBX hmA HSA
    clear m0
    go_upto_region 8 with fail
    have c1:Wm.cell? ⟨ps,1,none⟩=some (.int .i64 (cH f k).cur):=by obtain ⟨bt,V,hh⟩:=Z HSm;exact hh.c1
    have HBO:=O (bH Wm (.cells #[.bool false,.int .i64 (cH f k).cur,.int .i64 0,.int .i64 0,.int .i64 0] 275))
    have HOX:=O (heap_alloc_new Wm (.cells #[.bool false,.int .i64 (cH f k).cur,.int .i64 0,.int .i64 0,.int .i64 0] 275))
    go_wp2_with fail
    refine (fZ B ps (cH f k) _ ((Z HSm).below (Z HBO))).mono ?_
    rintro e w3 ⟨rfl,q,hq⟩
    have HBn:Hid (Below Wm.heap.size Wm w3):=by rw [hq];exact O (below_drewN (Z HBO) _)
    have HOn:Hid (w3.heap[Wm.heap.size]?=some (.cells #[.bool false,.int .i64 (cH f k).cur,.int .i64 0,.int .i64 0,.int .i64 0] 275 (0,0))):=by rw [hq];exact O (by simpa using Z HOX)
    have hob:Wm.heap.size<w3.heap.size:=by rw [hq];simp
    have HSn:=O ((Z HSm).below (Z HBn))
    have HWn:=O (bN (Z HOm) (Z HBn))
    have HTn:=O ((Z HTm).go (Z HBn))
    have HXn:Hid (w3.heap[mb]?=some (.cells #[.int .i64 kk,.int .i64 (f k).task,.int .i64 (f k).fn,.int .i64 (f k).line,.string (f k).text,.slice av (f k).nv capv] 108 (0,0))):=O (((Z HBn).block mb hmb2).trans (Z HXm))
    obtain ⟨ob,hobe⟩:∃ ob,ob=Wm.heap.size:=⟨_,rfl⟩
    have hmo:mb<ob:=by omega
    have hpo:ps<ob:=by omega
    have HWO:Hid (∀ g,(Value.slice oa k oc).ownBlock=some g->B2<=g/\g<ob):=O (fun g hg=>by have:=(Z HOm).lt g hg;omega)
    rw [<- hobe] at HOn hob ⊢
    clear hq hobe HBn HBO HOX c1 HSm HOm HTm HXm hmb2
    cases htl:(cH f k).tasks (cH f k).cur with
    | nil =>
     have HCE:=O (yJ htl)
     have d0:((([]:List Fr).length:Int) - 1:Int)=-1:=rfl
     have q0:w3.cell? ⟨ob,0,none⟩=some (.bool false):=by rw [cell_of_row w3 ob 0 _ _ _ (Z HOn)];rfl
     have q1:w3.cell? ⟨ob,1,none⟩=some (.int .i64 (cH f k).cur):=by rw [cell_of_row w3 ob 1 _ _ _ (Z HOn)];rfl
     have q2:w3.cell? ⟨ob,2,none⟩=some (.int .i64 0):=by rw [cell_of_row w3 ob 2 _ _ _ (Z HOn)];rfl
     have q3:w3.cell? ⟨ob,3,none⟩=some (.int .i64 0):=by rw [cell_of_row w3 ob 3 _ _ _ (Z HOn)];rfl
     have q4:w3.cell? ⟨ob,4,none⟩=some (.int .i64 0):=by rw [cell_of_row w3 ob 4 _ _ _ (Z HOn)];rfl
     clear htl
     go_upto_region 12 with fail
     have HSx:=HSn
     have HWx:=HWn
     have HTx:=HTn
     have HXx:=HXn
     clear HOn HWO HSn HWn HTn HXn
     have hz13:B2<=w3.heap.size:=(by omega)
     have HA:=O (bN (Z HWx) (bH w3 (.cells #[.bool false,.int .i64 (cH f k).cur,.int .i64 0,.int .i64 0,.int .i64 0] 275)))
     have HNW:Hid (∀ j u,([.bool false,.int .i64 (cH f k).cur,.int .i64 0,.int .i64 0,.int .i64 0]:List Value)[j]?=some u->(w3.alloc (.cells #[.bool false,.int .i64 (cH f k).cur,.int .i64 0,.int .i64 0,.int .i64 0] 275)).cell? ((⟨w3.heap.size,0,none⟩:Addr).add j)=some u):=O (World.news_of_block (cs:=#[.bool false,.int .i64 (cH f k).cur,.int .i64 0,.int .i64 0,.int .i64 0]) (t:=275) (fr:=(0,0)) (heap_alloc_new w3 _))
     have HRT:Hid (∀ g,(Value.slice oa k oc).ownBlock=some g->(g≠ps/\∃ cs ff,(w3.alloc (.cells #[.bool false,.int .i64 (cH f k).cur,.int .i64 0,.int .i64 0,.int .i64 0] 275)).heap[g]?=some (.cells cs 275 ff))/\g≠mb):=O (fun g hg=>by
      obtain ⟨h1,cs,ff,h2⟩:=mP (Z HA) g hg
      refine ⟨⟨by omega,cs,ff,h2⟩,fun e=>?_⟩
      have h3:=Z HXx
      have hl:=cY h3
      rw [<- e] at h3 hl
      rw [Below.heap_alloc w3 _ g hl,h3] at h2
      cases h2)
     go_upto_region 13 with (at_builtin;refine wpList_append_lies _ (by rfl) _ _ _ (by rfl) B2 275 i0 _ 5 40 Tryz.underlying216 (Z II).1 (Z II).2.1 (Z II).2.2.1 (Z II).2.2.2 rfl (by omega) (.slice oa k oc) k (eY f k) (by rfl) (Z HA) ⟨w3.heap.size,0,none⟩ 1 1 [.bool false,.int .i64 (cH f k).cur,.int .i64 0,.int .i64 0,.int .i64 0] (by rfl) (by rfl) (Z HNW) (by simp [Value.oneCell']) (by omega) (by unfold maxLen;omega) (by omega) (by simp;omega) (w3.heap.size+1) (by simp) ?_;intro g2 cp2 w7 hown hgrow _ _;have HO7:=O hown;have HG7:=O hgrow;clear hown hgrow)
     have HS7:=O (((Z HSx).below (bH w3 (.cells #[.bool false,.int .i64 (cH f k).cur,.int .i64 0,.int .i64 0,.int .i64 0] 275))).turn (fun b=>(Value.slice oa k oc).ownBlock=some b) (fun b hb hx=>(Z HG7).block b hb (fun e=>hx e.symm)) (fun b hx=>(Z HRT b hx).1) (by decide) (by decide))
     have HT7:Hid (cS w v1 (.slice (some ⟨bm,om,none⟩) n cap2) w7):=O (Below.grown ((Z HTx).go (bH w3 (.cells #[.bool false,.int .i64 (cH f k).cur,.int .i64 0,.int .i64 0,.int .i64 0] 275))) (Z HG7) (by simp;omega) (fun g hg=>by have:=((Z HA).lt g hg).1;omega))
     have HX7:Hid (w7.heap[mb]?=some (.cells #[.int .i64 kk,.int .i64 (f k).task,.int .i64 (f k).fn,.int .i64 (f k).line,.string (f k).text,.slice av (f k).nv capv] 108 (0,0))):=O (by
      have h3:=Z HXx
      rw [(Z HG7).block mb (by have:=cY h3;simp;omega) (fun e=>(Z HRT mb e.symm).2 rfl),Below.heap_alloc w3 _ mb (cY h3)]
      exact h3)
     have hw7:B2<=w7.heap.size:=(by have:=(Z HG7).size;simp at this;omega)
     have HR7:Hid (w7.ownsRow B2 275 5 (.slice (some ⟨g2,0,none⟩) (k+1) cp2) (k+1) (eY f (k+1))):=O (by rw [jV,Z HCE];exact Z HO7)
     have m0:w7.cell? ⟨mb,0,none⟩=some (.int .i64 kk):=by rw [cell_of_row w7 mb 0 _ _ _ (Z HX7)];rfl
     clear HA HNW HRT HG7 HO7 HSx HWx HTx HXx q0 q1 q2 q3 q4 hz13
     have m1:w7.cell? ⟨mb,1,none⟩=some (.int .i64 (f k).task):=by rw [cell_of_row w7 mb 1 _ _ _ (Z HX7)];rfl
     have m2:w7.cell? ⟨mb,2,none⟩=some (.int .i64 (f k).fn):=by rw [cell_of_row w7 mb 2 _ _ _ (Z HX7)];rfl
     have m3:w7.cell? ⟨mb,3,none⟩=some (.int .i64 (f k).line):=by rw [cell_of_row w7 mb 3 _ _ _ (Z HX7)];rfl
     have m4:w7.cell? ⟨mb,4,none⟩=some (.string (f k).text):=by rw [cell_of_row w7 mb 4 _ _ _ (Z HX7)];rfl
     have m5:w7.cell? ⟨mb,5,none⟩=some (.slice av (f k).nv capv):=by rw [cell_of_row w7 mb 5 _ _ _ (Z HX7)];rfl
     go_wp2_with fail
     refine (mZ B ps (St.after f k) _ _ _ _ _ _ _ _ (by rw [<- Z HSH];exact Z HS7) ht1 ht2).mono ?_
     rintro e w8 ⟨rfl,hsp8,hb8,hkp⟩
     have HS8:Hid (cG B w8 ps (St.after f (k+1))):=by
      have h:=hsp8 (by have:=Z HCODE;unfold eB at this;rw [Z HKK] at this;exact this)
      have e:St.after f (k+1)=(St.after f k).step (f k).kind (f k).task (f k).fn (f k).line k:=rfl
      rw [e,Z HKK]
      exact O h
     have HR8:=O (tN (Z HR7) hkp (by decide) (by decide) hps1)
     have HT8:Hid (cS w v1 (.slice (some ⟨bm,om,none⟩) n cap2) w8):=O (Below.trans (Z HT7) (hb8.mono (by omega)))
     have hw8:B2<=w8.heap.size:=Nat.le_trans hw7 hb8.size
     clear hsp8 hb8 hkp m0 m1 m2 m3 m4 m5
     go_wp2_with fail
     go_roundg (n - (k+1))
     case measure=>omega
     case rel=>exact ⟨k+1,some ⟨g2,0,none⟩,cp2,by omega,by go_num,rfl,Z HS8,Z HR8,Z HT8,hw8⟩
    | cons fr r =>
     have HCE:=O (vU htl)
     obtain ⟨bt,V,hh⟩:=Z HSn
     have y0:=hh.c0
     have y1:=hh.c1
     have hcu:=hh.cur
     have y2:=hh.row.cell hcu
     have ylen:=hh.len _ hcu
     have yo:=hh.own _ hcu
     have ynb:=hh.row.lt
     rw [htl] at yo ylen
     obtain ⟨tg,tcap,hV,-,-,z0,z1,z2,-⟩:=pV yo
     have htg:tg<w3.heap.size:=(yo.lt tg (by rw [hV];rfl)).2
     rw [hV] at y2
     have yt1:ob≠tg:=fun e=>by
      obtain ⟨_,cs,fr',h1⟩:=mP yo tg (by rw [hV];rfl)
      rw [<- e,Z HOn] at h1;cases h1
     have yt2:ob≠bt:=fun e=>by
      obtain ⟨cb,hcb,-,-⟩:=hh.row
      rw [<- e,Z HOn] at hcb;cases hcb
     have hpo2:ob≠ps:=by omega
     have HTOP:Hid (∀ W,cG B W ps (cH f k)->Calls Tryz.prog 86 #[.pointer (some ⟨ps,0,none⟩)] W fun e w'=>e=.returned (.int .i64 (r.length:Int))/\∃ q,w'=W.drewN q):=O (fun W hW=>(fZ B ps _ W hW).mono (fun e w' h=>⟨by rw [h.1,htl];simp,h.2⟩))
     have q0:w3.cell? ⟨ob,0,none⟩=some (.bool false):=by rw [cell_of_row w3 ob 0 _ _ _ (Z HOn)];rfl
     have qf:w3.frozen? ⟨ob,0,none⟩=false:=frozen_of_row _ _ _ _ _ (Z HOn)
     have HSp:=O ((Z HSn).turn (w':=w3.setCell ⟨ob,0,none⟩ (.bool true)) (fun b=>b=ob) (fun b _ hx=>heap_setCell_other _ _ _ _ hx) (fun b hx=>by rw [hx];exact ⟨by omega,_,_,Z HOn⟩) (by decide) (by decide))
     have HWp:Hid ((w3.setCell ⟨ob,0,none⟩ (.bool true)).ownsRow B2 275 5 (.slice oa k oc) k (eY f k)):=O (cM (Z HWn) (fun e=>by have h1:B2<=ob/\ob<ob:=Z HWO _ e;omega))
     have HTp:Hid (cS w v1 (.slice (some ⟨bm,om,none⟩) n cap2) (w3.setCell ⟨ob,0,none⟩ (.bool true))):=O (Below.setCell (p:=⟨ob,0,none⟩) (Z HTn) (by show w.heap.size+1<=ob;omega) _)
     have HXp:Hid ((w3.setCell ⟨ob,0,none⟩ (.bool true)).heap[mb]?=some (.cells #[.int .i64 kk,.int .i64 (f k).task,.int .i64 (f k).fn,.int .i64 (f k).line,.string (f k).text,.slice av (f k).nv capv] 108 (0,0))):=O ((heap_setCell_other _ _ _ _ (by show mb≠ob;omega)).trans (Z HXn))
     have HOp:Hid ((w3.setCell ⟨ob,0,none⟩ (.bool true)).heap[ob]?=some (.cells #[.bool true,.int .i64 (cH f k).cur,.int .i64 0,.int .i64 0,.int .i64 0] 275 (0,0))):=O (heap_setCell_same _ _ _ _ _ _ (Z HOn))
     have y0:=bJ (p:=⟨ps,0,none⟩) (q:=⟨ob,0,none⟩) (u:=.bool true) hpo2 y0
     have y1:=bJ (p:=⟨ps,1,none⟩) (q:=⟨ob,0,none⟩) (u:=.bool true) hpo2 y1
     have y2:=bJ (q:=⟨ob,0,none⟩) (u:=.bool true) (show (⟨ob,0,none⟩:Addr).block≠bt from yt2) y2
     have z0:=bJ (q:=⟨ob,0,none⟩) (u:=.bool true) (show (⟨ob,0,none⟩:Addr).block≠tg from yt1) z0
     have z1:=bJ (q:=⟨ob,0,none⟩) (u:=.bool true) (show (⟨ob,0,none⟩:Addr).block≠tg from yt1) z1
     have z2:=bJ (q:=⟨ob,0,none⟩) (u:=.bool true) (show (⟨ob,0,none⟩:Addr).block≠tg from yt1) z2
     have hd0:decide ((0:Int)<=(((fr :: r).length:Nat):Int) - 1)=true:=by simp
     have hsp:ob<(w3.setCell ⟨ob,0,none⟩ (.bool true)).heap.size:=by simp;exact hob
     clear hV yo hh
     go_upto_region 11 with fail
     generalize w3.setCell ⟨ob,0,none⟩ (.bool true)=Wp at HSp HWp HTp HXp HOp y0 y1 y2 z0 z1 z2 hsp ⊢
     clear HOn HSn HWn HTn HXn q0 qf hd0 hob htg ynb
     have hr200:r.length<200:=by simp at ylen;omega
     clear ylen
     have HBd:Hid (∀ p,Below Wp.heap.size Wp (Wp.drew.drewN p)):=O (fun p=>below_drewN (Below.refl _ _).drew p)
     have hcz:(0:Int)<=((cH f k).cur:Int):=by omega
     have hcy:((cH f k).cur:Int)<101:=by omega
     generalize r.length=rn at *
     have hra:(0:Int)<=(rn:Int):=by omega
     have hrb:(rn:Int)<(rn:Int)+1:=by omega
     have x2:Wp.cell? ⟨ob,2,none⟩=some (.int .i64 0):=by rw [cell_of_row _ ob 2 _ _ _ (Z HOp)];rfl
     have x3:Wp.cell? ⟨ob,3,none⟩=some (.int .i64 0):=by rw [cell_of_row _ ob 3 _ _ _ (Z HOp)];rfl
     have x4:Wp.cell? ⟨ob,4,none⟩=some (.int .i64 0):=by rw [cell_of_row _ ob 4 _ _ _ (Z HOp)];rfl
     have xf2:Wp.frozen? ⟨ob,2,none⟩=false:=frozen_of_row _ _ _ _ _ (Z HOp)
     have xf3:Wp.frozen? ⟨ob,3,none⟩=false:=frozen_of_row _ _ _ _ _ (Z HOp)
     have xf4:Wp.frozen? ⟨ob,4,none⟩=false:=frozen_of_row _ _ _ _ _ (Z HOp)
     refine wp_region_held_drew (S:=fun w'=>w'.cell? ⟨ps,0,none⟩=some (.slice (some ⟨bt,0,none⟩) 101 101)/\w'.cell? ⟨ps,1,none⟩=some (.int .i64 (cH f k).cur)/\w'.cell? ⟨bt,(cH f k).cur,none⟩=some (.slice (some ⟨tg,0,none⟩) (rn+1) tcap)/\w'.cell? ⟨tg,rn*3,none⟩=some (.int .i64 fr.fn)/\w'.cell? ⟨tg,rn*3+1,none⟩=some (.int .i64 fr.line)/\w'.cell? ⟨tg,rn*3+2,none⟩=some (.int .i64 fr.frm)) (by kernel_rfl) ⟨y0,y1,y2,z0,z1,z2⟩ (fun hHeld=>?_)
     refine tka 0 33 (by assumption) ?_
     refine tka 1 34 (by assumption) ?_
     refine tka 2 35 (by assumption) ?_
     refine tka 3 36 (by assumption) ?_
     refine tka 4 37 (by assumption) ?_
     refine tka 5 38 (by assumption) ?_
     refine tka 6 39 (by assumption) ?_
     refine tka 7 40 (by assumption) ?_
     refine tka 8 41 (by assumption) ?_
     refine tka 9 42 (by assumption) ?_
     refine tka 10 43 (by assumption) ?_
     refine wpAnyH_ready (rs:=[11]) (by kernel_rfl) (by simp) ?_
     refine AllReadyH.cons rfl (fun K hK=>?_) AllReadyH.nil
     go_simp
     refine (Z HTOP _ ((Z HSp).below (Below.refl _ _).drew)).mono ?_
     rintro e wA ⟨rfl,qA,hqA⟩
     subst hqA
     refine hK.out _ _ ⟨bG (Z HBd qA) y0,bG (Z HBd qA) y1,bG (Z HBd qA) y2,bG (Z HBd qA) z0,bG (Z HBd qA) z1,bG (Z HBd qA) z2⟩ (fun hHeld=>?_)
     clear hK K
     try simp only [Act.put,sy]
     refine tka 12 45 (by assumption) ?_
     refine tka 13 46 (by assumption) ?_
     refine tka 14 47 (by assumption) ?_
     refine wpAnyH_ready (rs:=[15]) (by kernel_rfl) (by simp) ?_
     refine AllReadyH.cons rfl (fun K hK=>?_) AllReadyH.nil
     go_simp
     have HBe:Hid (Below Wp.heap.size Wp (Wp.drewN (1+qA))):=O (below_drewN (Below.refl _ _) _)
     refine hK.out _ _ ⟨fY hpo2 (bG (Z HBe) y0),fY hpo2 (bG (Z HBe) y1),fY yt2 (bG (Z HBe) y2),fY yt1 (bG (Z HBe) z0),fY yt1 (bG (Z HBe) z1),fY yt1 (bG (Z HBe) z2)⟩ (fun hHeld=>?_)
     clear hK K
     refine wpAnyH_done (by kernel_rfl) ?_ _
     have HOe:Hid ((Wp.drewN (1+qA)).heap[ob]?=some (.cells #[.bool true,.int .i64 (cH f k).cur,.int .i64 0,.int .i64 0,.int .i64 0] 275 (0,0))):=O (by rw [(Z HBe).block ob hsp];exact Z HOp)
     have HSe:=O ((Z HSp).below (Z HBe))
     have HWe:=O (bN (Z HWp) (Z HBe))
     have HTe:=O ((Z HTp).go (Z HBe))
     have HXe:Hid ((Wp.drewN (1+qA)).heap[mb]?=some (.cells #[.int .i64 kk,.int .i64 (f k).task,.int .i64 (f k).fn,.int .i64 (f k).line,.string (f k).text,.slice av (f k).nv capv] 108 (0,0))):=O (by rw [(Z HBe).block mb (by omega)];exact Z HXp)
     have hoe:ob<(Wp.drewN (1+qA)).heap.size:=cY (Z HOe)
     clear HBe HBd hHeld y0 y1 y2 z0 z1 z2 x2 x3 x4 xf2 xf3 xf4 HSp HWp HTp HXp HOp hsp HTOP hcz hcy hra hrb
     generalize Wp.drewN (1+qA)=We at HOe HSe HWe HTe HXe hoe ⊢
     have HOx:=heap_setCell_same _ _ 4 _ _ (.int .i64 fr.frm) (heap_setCell_same _ _ 3 _ _ (.int .i64 fr.line) (heap_setCell_same _ _ 2 _ _ (.int .i64 fr.fn) (Z HOe)))
     have HSx:=O ((Z HSe).turn (w':=((We.setCell ⟨ob,2,none⟩ (.int .i64 fr.fn)).setCell ⟨ob,3,none⟩ (.int .i64 fr.line)).setCell ⟨ob,4,none⟩ (.int .i64 fr.frm)) (fun b=>b=ob) (fun b _ hx=>by rw [heap_setCell_other _ _ _ _ hx,heap_setCell_other _ _ _ _ hx,heap_setCell_other _ _ _ _ hx]) (fun b hx=>by rw [hx];exact ⟨by omega,_,_,Z HOe⟩) (by decide) (by decide))
     have hno:(Value.slice oa k oc).ownBlock≠some ob:=fun e=>by have h1:B2<=ob/\ob<ob:=Z HWO _ e;omega
     have HWx:=O (cM (cM (cM (Z HWe) (a:=⟨ob,2,none⟩) (u:=.int .i64 fr.fn) hno) (a:=⟨ob,3,none⟩) (u:=.int .i64 fr.line) hno) (a:=⟨ob,4,none⟩) (u:=.int .i64 fr.frm) hno)
     have hwo:w.heap.size+1<=ob:=by omega
     have HTx:Hid (cS w v1 (.slice (some ⟨bm,om,none⟩) n cap2) (((We.setCell ⟨ob,2,none⟩ (.int .i64 fr.fn)).setCell ⟨ob,3,none⟩ (.int .i64 fr.line)).setCell ⟨ob,4,none⟩ (.int .i64 fr.frm))):=O (Below.setCell (p:=⟨ob,4,none⟩) (Below.setCell (p:=⟨ob,3,none⟩) (Below.setCell (p:=⟨ob,2,none⟩) (Z HTe) hwo _) hwo _) hwo _)
     have hmob:mb≠ob:=by omega
     have HXx:Hid ((((We.setCell ⟨ob,2,none⟩ (.int .i64 fr.fn)).setCell ⟨ob,3,none⟩ (.int .i64 fr.line)).setCell ⟨ob,4,none⟩ (.int .i64 fr.frm)).heap[mb]?=some (.cells #[.int .i64 kk,.int .i64 (f k).task,.int .i64 (f k).fn,.int .i64 (f k).line,.string (f k).text,.slice av (f k).nv capv] 108 (0,0))):=O (by rw [heap_setCell_other _ _ _ _ hmob,heap_setCell_other _ _ _ _ hmob,heap_setCell_other _ _ _ _ hmob];exact Z HXe)
     have hoe2:ob<(((We.setCell ⟨ob,2,none⟩ (.int .i64 fr.fn)).setCell ⟨ob,3,none⟩ (.int .i64 fr.line)).setCell ⟨ob,4,none⟩ (.int .i64 fr.frm)).heap.size:=cY HOx
     clear HOe HSe HWe HTe HXe hoe HWO hno hmob
     generalize ((We.setCell ⟨ob,2,none⟩ (.int .i64 fr.fn)).setCell ⟨ob,3,none⟩ (.int .i64 fr.line)).setCell ⟨ob,4,none⟩ (.int .i64 fr.frm)=Wx at HOx HSx HWx HTx HXx hoe2 ⊢
     have q0:Wx.cell? ⟨ob,0,none⟩=some (.bool true):=by rw [cell_of_row Wx ob 0 _ _ _ HOx];rfl
     have q1:Wx.cell? ⟨ob,1,none⟩=some (.int .i64 (cH f k).cur):=by rw [cell_of_row Wx ob 1 _ _ _ HOx];rfl
     have q2:Wx.cell? ⟨ob,2,none⟩=some (.int .i64 fr.fn):=by rw [cell_of_row Wx ob 2 _ _ _ HOx];rfl
     have q3:Wx.cell? ⟨ob,3,none⟩=some (.int .i64 fr.line):=by rw [cell_of_row Wx ob 3 _ _ _ HOx];rfl
     have q4:Wx.cell? ⟨ob,4,none⟩=some (.int .i64 fr.frm):=by rw [cell_of_row Wx ob 4 _ _ _ HOx];rfl
     clear HOx
     go_upto_region 12 with fail
     have hz13:B2<=Wx.heap.size:=(by omega)
     have HA:=O (bN (Z HWx) (bH Wx (.cells #[.bool true,.int .i64 (cH f k).cur,.int .i64 fr.fn,.int .i64 fr.line,.int .i64 fr.frm] 275)))
     have HNW:Hid (∀ j u,([.bool true,.int .i64 (cH f k).cur,.int .i64 fr.fn,.int .i64 fr.line,.int .i64 fr.frm]:List Value)[j]?=some u->(Wx.alloc (.cells #[.bool true,.int .i64 (cH f k).cur,.int .i64 fr.fn,.int .i64 fr.line,.int .i64 fr.frm] 275)).cell? ((⟨Wx.heap.size,0,none⟩:Addr).add j)=some u):=O (World.news_of_block (cs:=#[.bool true,.int .i64 (cH f k).cur,.int .i64 fr.fn,.int .i64 fr.line,.int .i64 fr.frm]) (t:=275) (fr:=(0,0)) (heap_alloc_new Wx _))
     have HRT:Hid (∀ g,(Value.slice oa k oc).ownBlock=some g->(g≠ps/\∃ cs ff,(Wx.alloc (.cells #[.bool true,.int .i64 (cH f k).cur,.int .i64 fr.fn,.int .i64 fr.line,.int .i64 fr.frm] 275)).heap[g]?=some (.cells cs 275 ff))/\g≠mb):=O (fun g hg=>by
      obtain ⟨h1,cs,ff,h2⟩:=mP (Z HA) g hg
      refine ⟨⟨by omega,cs,ff,h2⟩,fun e=>?_⟩
      have h3:=Z HXx
      have hl:=cY h3
      rw [<- e] at h3 hl
      rw [Below.heap_alloc Wx _ g hl,h3] at h2
      cases h2)
     go_upto_region 13 with (at_builtin;refine wpList_append_lies _ (by rfl) _ _ _ (by rfl) B2 275 i0 _ 5 40 Tryz.underlying216 (Z II).1 (Z II).2.1 (Z II).2.2.1 (Z II).2.2.2 rfl (by omega) (.slice oa k oc) k (eY f k) (by rfl) (Z HA) ⟨Wx.heap.size,0,none⟩ 1 1 [.bool true,.int .i64 (cH f k).cur,.int .i64 fr.fn,.int .i64 fr.line,.int .i64 fr.frm] (by rfl) (by rfl) (Z HNW) (by simp [Value.oneCell']) (by omega) (by unfold maxLen;omega) (by omega) (by simp;omega) (Wx.heap.size+1) (by simp) ?_;intro g2 cp2 w7 hown hgrow _ _;have HO7:=O hown;have HG7:=O hgrow;clear hown hgrow)
     have HS7:=O (((Z HSx).below (bH Wx (.cells #[.bool true,.int .i64 (cH f k).cur,.int .i64 fr.fn,.int .i64 fr.line,.int .i64 fr.frm] 275))).turn (fun b=>(Value.slice oa k oc).ownBlock=some b) (fun b hb hx=>(Z HG7).block b hb (fun e=>hx e.symm)) (fun b hx=>(Z HRT b hx).1) (by decide) (by decide))
     have HT7:Hid (cS w v1 (.slice (some ⟨bm,om,none⟩) n cap2) w7):=O (Below.grown ((Z HTx).go (bH Wx (.cells #[.bool true,.int .i64 (cH f k).cur,.int .i64 fr.fn,.int .i64 fr.line,.int .i64 fr.frm] 275))) (Z HG7) (by simp;omega) (fun g hg=>by have:=((Z HA).lt g hg).1;omega))
     have HX7:Hid (w7.heap[mb]?=some (.cells #[.int .i64 kk,.int .i64 (f k).task,.int .i64 (f k).fn,.int .i64 (f k).line,.string (f k).text,.slice av (f k).nv capv] 108 (0,0))):=O (by
      have h3:=Z HXx
      rw [(Z HG7).block mb (by have:=cY h3;simp;omega) (fun e=>(Z HRT mb e.symm).2 rfl),Below.heap_alloc Wx _ mb (cY h3)]
      exact h3)
     have hw7:B2<=w7.heap.size:=(by have:=(Z HG7).size;simp at this;omega)
     have HR7:Hid (w7.ownsRow B2 275 5 (.slice (some ⟨g2,0,none⟩) (k+1) cp2) (k+1) (eY f (k+1))):=O (by rw [jV,Z HCE];exact Z HO7)
     have m0:w7.cell? ⟨mb,0,none⟩=some (.int .i64 kk):=by rw [cell_of_row w7 mb 0 _ _ _ (Z HX7)];rfl
     clear HA HNW HRT HG7 HO7 HSx HWx HTx HXx q0 q1 q2 q3 q4 hz13
     have m1:w7.cell? ⟨mb,1,none⟩=some (.int .i64 (f k).task):=by rw [cell_of_row w7 mb 1 _ _ _ (Z HX7)];rfl
     have m2:w7.cell? ⟨mb,2,none⟩=some (.int .i64 (f k).fn):=by rw [cell_of_row w7 mb 2 _ _ _ (Z HX7)];rfl
     have m3:w7.cell? ⟨mb,3,none⟩=some (.int .i64 (f k).line):=by rw [cell_of_row w7 mb 3 _ _ _ (Z HX7)];rfl
     have m4:w7.cell? ⟨mb,4,none⟩=some (.string (f k).text):=by rw [cell_of_row w7 mb 4 _ _ _ (Z HX7)];rfl
     have m5:w7.cell? ⟨mb,5,none⟩=some (.slice av (f k).nv capv):=by rw [cell_of_row w7 mb 5 _ _ _ (Z HX7)];rfl
     go_wp2_with fail
     refine (mZ B ps (St.after f k) _ _ _ _ _ _ _ _ (by rw [<- Z HSH];exact Z HS7) ht1 ht2).mono ?_
     rintro e w8 ⟨rfl,hsp8,hb8,hkp⟩
     have HS8:Hid (cG B w8 ps (St.after f (k+1))):=by
      have h:=hsp8 (by have:=Z HCODE;unfold eB at this;rw [Z HKK] at this;exact this)
      have e:St.after f (k+1)=(St.after f k).step (f k).kind (f k).task (f k).fn (f k).line k:=rfl
      rw [e,Z HKK]
      exact O h
     have HR8:=O (tN (Z HR7) hkp (by decide) (by decide) hps1)
     have HT8:Hid (cS w v1 (.slice (some ⟨bm,om,none⟩) n cap2) w8):=O (Below.trans (Z HT7) (hb8.mono (by omega)))
     have hw8:B2<=w8.heap.size:=Nat.le_trans hw7 hb8.size
     clear hsp8 hb8 hkp m0 m1 m2 m3 m4 m5
     go_wp2_with fail
     go_roundg (n - (k+1))
     case measure=>omega
     case rel=>exact ⟨k+1,some ⟨g2,0,none⟩,cp2,by omega,by go_num,rfl,Z HS8,Z HR8,Z HT8,hw8⟩
   have k3b:(kk != 3)=true:=by simpa using k3
   have k3c:(kk == 3)=false:=by simpa using k3
   have hsh:cH f k=St.after f (k+1):=by unfold cH;rw [if_neg (by rw [Z HKK];exact k3)]
   have HSH:=O hsh
   clear k3 hsh
   go_upto_if 19 with fail
   rw [<- hmb]
   generalize wr.alloc (.cells #[.int .i64 kk,.int .i64 (f k).task,.int .i64 (f k).fn,.int .i64 (f k).line,.string (f k).text,.slice av (f k).nv capv] 108)=WA at HBX HSA HOA HTA hmA ⊢
   have m0:WA.cell? ⟨mb,0,none⟩=some (.int .i64 kk):=by rw [cell_of_row WA mb 0 _ _ _ (Z HBX)];rfl
   have m1:WA.cell? ⟨mb,1,none⟩=some (.int .i64 (f k).task):=by rw [cell_of_row WA mb 1 _ _ _ (Z HBX)];rfl
   have m2:WA.cell? ⟨mb,2,none⟩=some (.int .i64 (f k).fn):=by rw [cell_of_row WA mb 2 _ _ _ (Z HBX)];rfl
   have m3:WA.cell? ⟨mb,3,none⟩=some (.int .i64 (f k).line):=by rw [cell_of_row WA mb 3 _ _ _ (Z HBX)];rfl
   have m4:WA.cell? ⟨mb,4,none⟩=some (.string (f k).text):=by rw [cell_of_row WA mb 4 _ _ _ (Z HBX)];rfl
   have m5:WA.cell? ⟨mb,5,none⟩=some (.slice av (f k).nv capv):=by rw [cell_of_row WA mb 5 _ _ _ (Z HBX)];rfl
   clear hc0 hc1 hc2 hc3 hc4 hc5 HBN HSP HOW HT hmb
   go_wp2_with fail
   refine (mZ B ps (St.after f k) _ _ _ _ _ _ _ _ (Z HSA) ht1 ht2).mono ?_
   rintro e Wm ⟨rfl,hsp,hb2,hkp⟩
   have HSm:Hid (cG B Wm ps (cH f k)):=by
    rw [Z HSH]
    have h:=hsp (by have:=Z HCODE;unfold eB at this;rw [Z HKK] at this;exact this)
    have e:St.after f (k+1)=(St.after f k).step (f k).kind (f k).task (f k).fn (f k).line k:=rfl
    rw [e,Z HKK]
    exact O h
   have HOm:=O (tN (Z HOA) hkp (by decide) (by decide) hps1)
   have HTm:Hid (cS w v1 (.slice (some ⟨bm,om,none⟩) n cap2) Wm):=O (Below.trans (Z HTA) (hb2.mono (by omega)))
   have HXm:=O ((hkp _ _ _ _ (Z HBX) (by omega) (by decide) (by decide)).trans (Z HBX))
   have hmb2:mb<Wm.heap.size:=Nat.lt_of_lt_of_le hmA hb2.size
   clear hsp hb2 hkp HBX HSA HOA HTA hmA m0 m1 m2 m3 m4 m5
   generalize code (St.after f k) kk (f k).task (f k).fn=cd
   go_upto_region 8 with fail
   have c1:Wm.cell? ⟨ps,1,none⟩=some (.int .i64 (cH f k).cur):=by obtain ⟨bt,V,hh⟩:=Z HSm;exact hh.c1
   have HBO:=O (bH Wm (.cells #[.bool false,.int .i64 (cH f k).cur,.int .i64 0,.int .i64 0,.int .i64 0] 275))
   have HOX:=O (heap_alloc_new Wm (.cells #[.bool false,.int .i64 (cH f k).cur,.int .i64 0,.int .i64 0,.int .i64 0] 275))
   go_wp2_with fail
   refine (fZ B ps (cH f k) _ ((Z HSm).below (Z HBO))).mono ?_
   rintro e w3 ⟨rfl,q,hq⟩
   have HBn:Hid (Below Wm.heap.size Wm w3):=by rw [hq];exact O (below_drewN (Z HBO) _)
   have HOn:Hid (w3.heap[Wm.heap.size]?=some (.cells #[.bool false,.int .i64 (cH f k).cur,.int .i64 0,.int .i64 0,.int .i64 0] 275 (0,0))):=by rw [hq];exact O (by simpa using Z HOX)
   have hob:Wm.heap.size<w3.heap.size:=by rw [hq];simp
   have HSn:=O ((Z HSm).below (Z HBn))
   have HWn:=O (bN (Z HOm) (Z HBn))
   have HTn:=O ((Z HTm).go (Z HBn))
   have HXn:Hid (w3.heap[mb]?=some (.cells #[.int .i64 kk,.int .i64 (f k).task,.int .i64 (f k).fn,.int .i64 (f k).line,.string (f k).text,.slice av (f k).nv capv] 108 (0,0))):=O (((Z HBn).block mb hmb2).trans (Z HXm))
   obtain ⟨ob,hobe⟩:∃ ob,ob=Wm.heap.size:=⟨_,rfl⟩
   have hmo:mb<ob:=by omega
   have hpo:ps<ob:=by omega
   have HWO:Hid (∀ g,(Value.slice oa k oc).ownBlock=some g->B2<=g/\g<ob):=O (fun g hg=>by have:=(Z HOm).lt g hg;omega)
   rw [<- hobe] at HOn hob ⊢
   clear hq hobe HBn HBO HOX c1 HSm HOm HTm HXm hmb2
   cases htl:(cH f k).tasks (cH f k).cur with
   | nil =>
    have HCE:=O (yJ htl)
    have d0:((([]:List Fr).length:Int) - 1:Int)=-1:=rfl
    have q0:w3.cell? ⟨ob,0,none⟩=some (.bool false):=by rw [cell_of_row w3 ob 0 _ _ _ (Z HOn)];rfl
    have q1:w3.cell? ⟨ob,1,none⟩=some (.int .i64 (cH f k).cur):=by rw [cell_of_row w3 ob 1 _ _ _ (Z HOn)];rfl
    have q2:w3.cell? ⟨ob,2,none⟩=some (.int .i64 0):=by rw [cell_of_row w3 ob 2 _ _ _ (Z HOn)];rfl
    have q3:w3.cell? ⟨ob,3,none⟩=some (.int .i64 0):=by rw [cell_of_row w3 ob 3 _ _ _ (Z HOn)];rfl
    have q4:w3.cell? ⟨ob,4,none⟩=some (.int .i64 0):=by rw [cell_of_row w3 ob 4 _ _ _ (Z HOn)];rfl
    clear htl
    go_upto_region 12 with fail
    have HSx:=HSn
    have HWx:=HWn
    have HTx:=HTn
    have HXx:=HXn
    clear HOn HWO HSn HWn HTn HXn
    have hz13:B2<=w3.heap.size:=(by omega)
    have HA:=O (bN (Z HWx) (bH w3 (.cells #[.bool false,.int .i64 (cH f k).cur,.int .i64 0,.int .i64 0,.int .i64 0] 275)))
    have HNW:Hid (∀ j u,([.bool false,.int .i64 (cH f k).cur,.int .i64 0,.int .i64 0,.int .i64 0]:List Value)[j]?=some u->(w3.alloc (.cells #[.bool false,.int .i64 (cH f k).cur,.int .i64 0,.int .i64 0,.int .i64 0] 275)).cell? ((⟨w3.heap.size,0,none⟩:Addr).add j)=some u):=O (World.news_of_block (cs:=#[.bool false,.int .i64 (cH f k).cur,.int .i64 0,.int .i64 0,.int .i64 0]) (t:=275) (fr:=(0,0)) (heap_alloc_new w3 _))
    have HRT:Hid (∀ g,(Value.slice oa k oc).ownBlock=some g->(g≠ps/\∃ cs ff,(w3.alloc (.cells #[.bool false,.int .i64 (cH f k).cur,.int .i64 0,.int .i64 0,.int .i64 0] 275)).heap[g]?=some (.cells cs 275 ff))/\g≠mb):=O (fun g hg=>by
     obtain ⟨h1,cs,ff,h2⟩:=mP (Z HA) g hg
     refine ⟨⟨by omega,cs,ff,h2⟩,fun e=>?_⟩
     have h3:=Z HXx
     have hl:=cY h3
     rw [<- e] at h3 hl
     rw [Below.heap_alloc w3 _ g hl,h3] at h2
     cases h2)
    go_upto_region 13 with (at_builtin;refine wpList_append_lies _ (by rfl) _ _ _ (by rfl) B2 275 i0 _ 5 40 Tryz.underlying216 (Z II).1 (Z II).2.1 (Z II).2.2.1 (Z II).2.2.2 rfl (by omega) (.slice oa k oc) k (eY f k) (by rfl) (Z HA) ⟨w3.heap.size,0,none⟩ 1 1 [.bool false,.int .i64 (cH f k).cur,.int .i64 0,.int .i64 0,.int .i64 0] (by rfl) (by rfl) (Z HNW) (by simp [Value.oneCell']) (by omega) (by unfold maxLen;omega) (by omega) (by simp;omega) (w3.heap.size+1) (by simp) ?_;intro g2 cp2 w7 hown hgrow _ _;have HO7:=O hown;have HG7:=O hgrow;clear hown hgrow)
    have HS7:=O (((Z HSx).below (bH w3 (.cells #[.bool false,.int .i64 (cH f k).cur,.int .i64 0,.int .i64 0,.int .i64 0] 275))).turn (fun b=>(Value.slice oa k oc).ownBlock=some b) (fun b hb hx=>(Z HG7).block b hb (fun e=>hx e.symm)) (fun b hx=>(Z HRT b hx).1) (by decide) (by decide))
    have HT7:Hid (cS w v1 (.slice (some ⟨bm,om,none⟩) n cap2) w7):=O (Below.grown ((Z HTx).go (bH w3 (.cells #[.bool false,.int .i64 (cH f k).cur,.int .i64 0,.int .i64 0,.int .i64 0] 275))) (Z HG7) (by simp;omega) (fun g hg=>by have:=((Z HA).lt g hg).1;omega))
    have HX7:Hid (w7.heap[mb]?=some (.cells #[.int .i64 kk,.int .i64 (f k).task,.int .i64 (f k).fn,.int .i64 (f k).line,.string (f k).text,.slice av (f k).nv capv] 108 (0,0))):=O (by
     have h3:=Z HXx
     rw [(Z HG7).block mb (by have:=cY h3;simp;omega) (fun e=>(Z HRT mb e.symm).2 rfl),Below.heap_alloc w3 _ mb (cY h3)]
     exact h3)
    have hw7:B2<=w7.heap.size:=(by have:=(Z HG7).size;simp at this;omega)
    have HR7:Hid (w7.ownsRow B2 275 5 (.slice (some ⟨g2,0,none⟩) (k+1) cp2) (k+1) (eY f (k+1))):=O (by rw [jV,Z HCE];exact Z HO7)
    have m0:w7.cell? ⟨mb,0,none⟩=some (.int .i64 kk):=by rw [cell_of_row w7 mb 0 _ _ _ (Z HX7)];rfl
    clear HA HNW HRT HG7 HO7 HSx HWx HTx HXx q0 q1 q2 q3 q4 hz13
    go_wp2_with fail
    go_roundg (n - (k+1))
    case measure=>omega
    case rel=>exact ⟨k+1,some ⟨g2,0,none⟩,cp2,by omega,by go_num,rfl,by rw [<- Z HSH];exact Z HS7,Z HR7,Z HT7,hw7⟩
   | cons fr r =>
    have HCE:=O (vU htl)
    obtain ⟨bt,V,hh⟩:=Z HSn
    have y0:=hh.c0
    have y1:=hh.c1
    have hcu:=hh.cur
    have y2:=hh.row.cell hcu
    have ylen:=hh.len _ hcu
    have yo:=hh.own _ hcu
    have ynb:=hh.row.lt
    rw [htl] at yo ylen
    obtain ⟨tg,tcap,hV,-,-,z0,z1,z2,-⟩:=pV yo
    have htg:tg<w3.heap.size:=(yo.lt tg (by rw [hV];rfl)).2
    rw [hV] at y2
    have yt1:ob≠tg:=fun e=>by
     obtain ⟨_,cs,fr',h1⟩:=mP yo tg (by rw [hV];rfl)
     rw [<- e,Z HOn] at h1;cases h1
    have yt2:ob≠bt:=fun e=>by
     obtain ⟨cb,hcb,-,-⟩:=hh.row
     rw [<- e,Z HOn] at hcb;cases hcb
    have hpo2:ob≠ps:=by omega
    have HTOP:Hid (∀ W,cG B W ps (cH f k)->Calls Tryz.prog 86 #[.pointer (some ⟨ps,0,none⟩)] W fun e w'=>e=.returned (.int .i64 (r.length:Int))/\∃ q,w'=W.drewN q):=O (fun W hW=>(fZ B ps _ W hW).mono (fun e w' h=>⟨by rw [h.1,htl];simp,h.2⟩))
    have q0:w3.cell? ⟨ob,0,none⟩=some (.bool false):=by rw [cell_of_row w3 ob 0 _ _ _ (Z HOn)];rfl
    have qf:w3.frozen? ⟨ob,0,none⟩=false:=frozen_of_row _ _ _ _ _ (Z HOn)
    have HSp:=O ((Z HSn).turn (w':=w3.setCell ⟨ob,0,none⟩ (.bool true)) (fun b=>b=ob) (fun b _ hx=>heap_setCell_other _ _ _ _ hx) (fun b hx=>by rw [hx];exact ⟨by omega,_,_,Z HOn⟩) (by decide) (by decide))
    have HWp:Hid ((w3.setCell ⟨ob,0,none⟩ (.bool true)).ownsRow B2 275 5 (.slice oa k oc) k (eY f k)):=O (cM (Z HWn) (fun e=>by have h1:B2<=ob/\ob<ob:=Z HWO _ e;omega))
    have HTp:Hid (cS w v1 (.slice (some ⟨bm,om,none⟩) n cap2) (w3.setCell ⟨ob,0,none⟩ (.bool true))):=O (Below.setCell (p:=⟨ob,0,none⟩) (Z HTn) (by show w.heap.size+1<=ob;omega) _)
    have HXp:Hid ((w3.setCell ⟨ob,0,none⟩ (.bool true)).heap[mb]?=some (.cells #[.int .i64 kk,.int .i64 (f k).task,.int .i64 (f k).fn,.int .i64 (f k).line,.string (f k).text,.slice av (f k).nv capv] 108 (0,0))):=O ((heap_setCell_other _ _ _ _ (by show mb≠ob;omega)).trans (Z HXn))
    have HOp:Hid ((w3.setCell ⟨ob,0,none⟩ (.bool true)).heap[ob]?=some (.cells #[.bool true,.int .i64 (cH f k).cur,.int .i64 0,.int .i64 0,.int .i64 0] 275 (0,0))):=O (heap_setCell_same _ _ _ _ _ _ (Z HOn))
    have y0:=bJ (p:=⟨ps,0,none⟩) (q:=⟨ob,0,none⟩) (u:=.bool true) hpo2 y0
    have y1:=bJ (p:=⟨ps,1,none⟩) (q:=⟨ob,0,none⟩) (u:=.bool true) hpo2 y1
    have y2:=bJ (q:=⟨ob,0,none⟩) (u:=.bool true) (show (⟨ob,0,none⟩:Addr).block≠bt from yt2) y2
    have z0:=bJ (q:=⟨ob,0,none⟩) (u:=.bool true) (show (⟨ob,0,none⟩:Addr).block≠tg from yt1) z0
    have z1:=bJ (q:=⟨ob,0,none⟩) (u:=.bool true) (show (⟨ob,0,none⟩:Addr).block≠tg from yt1) z1
    have z2:=bJ (q:=⟨ob,0,none⟩) (u:=.bool true) (show (⟨ob,0,none⟩:Addr).block≠tg from yt1) z2
    have hd0:decide ((0:Int)<=(((fr :: r).length:Nat):Int) - 1)=true:=by simp
    have hsp:ob<(w3.setCell ⟨ob,0,none⟩ (.bool true)).heap.size:=by simp;exact hob
    clear hV yo hh
    go_upto_region 11 with fail
    generalize w3.setCell ⟨ob,0,none⟩ (.bool true)=Wp at HSp HWp HTp HXp HOp y0 y1 y2 z0 z1 z2 hsp ⊢
    clear HOn HSn HWn HTn HXn q0 qf hd0 hob htg ynb
    have hr200:r.length<200:=by simp at ylen;omega
    clear ylen
    have HBd:Hid (∀ p,Below Wp.heap.size Wp (Wp.drew.drewN p)):=O (fun p=>below_drewN (Below.refl _ _).drew p)
    have hcz:(0:Int)<=((cH f k).cur:Int):=by omega
    have hcy:((cH f k).cur:Int)<101:=by omega
    generalize r.length=rn at *
    have hra:(0:Int)<=(rn:Int):=by omega
    have hrb:(rn:Int)<(rn:Int)+1:=by omega
    have x2:Wp.cell? ⟨ob,2,none⟩=some (.int .i64 0):=by rw [cell_of_row _ ob 2 _ _ _ (Z HOp)];rfl
    have x3:Wp.cell? ⟨ob,3,none⟩=some (.int .i64 0):=by rw [cell_of_row _ ob 3 _ _ _ (Z HOp)];rfl
    have x4:Wp.cell? ⟨ob,4,none⟩=some (.int .i64 0):=by rw [cell_of_row _ ob 4 _ _ _ (Z HOp)];rfl
    have xf2:Wp.frozen? ⟨ob,2,none⟩=false:=frozen_of_row _ _ _ _ _ (Z HOp)
    have xf3:Wp.frozen? ⟨ob,3,none⟩=false:=frozen_of_row _ _ _ _ _ (Z HOp)
    have xf4:Wp.frozen? ⟨ob,4,none⟩=false:=frozen_of_row _ _ _ _ _ (Z HOp)
    refine wp_region_held_drew (S:=fun w'=>w'.cell? ⟨ps,0,none⟩=some (.slice (some ⟨bt,0,none⟩) 101 101)/\w'.cell? ⟨ps,1,none⟩=some (.int .i64 (cH f k).cur)/\w'.cell? ⟨bt,(cH f k).cur,none⟩=some (.slice (some ⟨tg,0,none⟩) (rn+1) tcap)/\w'.cell? ⟨tg,rn*3,none⟩=some (.int .i64 fr.fn)/\w'.cell? ⟨tg,rn*3+1,none⟩=some (.int .i64 fr.line)/\w'.cell? ⟨tg,rn*3+2,none⟩=some (.int .i64 fr.frm)) (by kernel_rfl) ⟨y0,y1,y2,z0,z1,z2⟩ (fun hHeld=>?_)
    refine tka 0 33 (by assumption) ?_
    refine tka 1 34 (by assumption) ?_
    refine tka 2 35 (by assumption) ?_
    refine tka 3 36 (by assumption) ?_
    refine tka 4 37 (by assumption) ?_
    refine tka 5 38 (by assumption) ?_
    refine tka 6 39 (by assumption) ?_
    refine tka 7 40 (by assumption) ?_
    refine tka 8 41 (by assumption) ?_
    refine tka 9 42 (by assumption) ?_
    refine tka 10 43 (by assumption) ?_
    refine wpAnyH_ready (rs:=[11]) (by kernel_rfl) (by simp) ?_
    refine AllReadyH.cons rfl (fun K hK=>?_) AllReadyH.nil
    go_simp
    refine (Z HTOP _ ((Z HSp).below (Below.refl _ _).drew)).mono ?_
    rintro e wA ⟨rfl,qA,hqA⟩
    subst hqA
    refine hK.out _ _ ⟨bG (Z HBd qA) y0,bG (Z HBd qA) y1,bG (Z HBd qA) y2,bG (Z HBd qA) z0,bG (Z HBd qA) z1,bG (Z HBd qA) z2⟩ (fun hHeld=>?_)
    clear hK K
    try simp only [Act.put,sy]
    refine tka 12 45 (by assumption) ?_
    refine tka 13 46 (by assumption) ?_
    refine tka 14 47 (by assumption) ?_
    refine wpAnyH_ready (rs:=[15]) (by kernel_rfl) (by simp) ?_
    refine AllReadyH.cons rfl (fun K hK=>?_) AllReadyH.nil
    go_simp
    have HBe:Hid (Below Wp.heap.size Wp (Wp.drewN (1+qA))):=O (below_drewN (Below.refl _ _) _)
    refine hK.out _ _ ⟨fY hpo2 (bG (Z HBe) y0),fY hpo2 (bG (Z HBe) y1),fY yt2 (bG (Z HBe) y2),fY yt1 (bG (Z HBe) z0),fY yt1 (bG (Z HBe) z1),fY yt1 (bG (Z HBe) z2)⟩ (fun hHeld=>?_)
    clear hK K
    refine wpAnyH_done (by kernel_rfl) ?_ _
    have HOe:Hid ((Wp.drewN (1+qA)).heap[ob]?=some (.cells #[.bool true,.int .i64 (cH f k).cur,.int .i64 0,.int .i64 0,.int .i64 0] 275 (0,0))):=O (by rw [(Z HBe).block ob hsp];exact Z HOp)
    have HSe:=O ((Z HSp).below (Z HBe))
    have HWe:=O (bN (Z HWp) (Z HBe))
    have HTe:=O ((Z HTp).go (Z HBe))
    have HXe:Hid ((Wp.drewN (1+qA)).heap[mb]?=some (.cells #[.int .i64 kk,.int .i64 (f k).task,.int .i64 (f k).fn,.int .i64 (f k).line,.string (f k).text,.slice av (f k).nv capv] 108 (0,0))):=O (by rw [(Z HBe).block mb (by omega)];exact Z HXp)
    have hoe:ob<(Wp.drewN (1+qA)).heap.size:=cY (Z HOe)
    clear HBe HBd hHeld y0 y1 y2 z0 z1 z2 x2 x3 x4 xf2 xf3 xf4 HSp HWp HTp HXp HOp hsp HTOP hcz hcy hra hrb
    generalize Wp.drewN (1+qA)=We at HOe HSe HWe HTe HXe hoe ⊢
    have HOx:=heap_setCell_same _ _ 4 _ _ (.int .i64 fr.frm) (heap_setCell_same _ _ 3 _ _ (.int .i64 fr.line) (heap_setCell_same _ _ 2 _ _ (.int .i64 fr.fn) (Z HOe)))
    have HSx:=O ((Z HSe).turn (w':=((We.setCell ⟨ob,2,none⟩ (.int .i64 fr.fn)).setCell ⟨ob,3,none⟩ (.int .i64 fr.line)).setCell ⟨ob,4,none⟩ (.int .i64 fr.frm)) (fun b=>b=ob) (fun b _ hx=>by rw [heap_setCell_other _ _ _ _ hx,heap_setCell_other _ _ _ _ hx,heap_setCell_other _ _ _ _ hx]) (fun b hx=>by rw [hx];exact ⟨by omega,_,_,Z HOe⟩) (by decide) (by decide))
    have hno:(Value.slice oa k oc).ownBlock≠some ob:=fun e=>by have h1:B2<=ob/\ob<ob:=Z HWO _ e;omega
    have HWx:=O (cM (cM (cM (Z HWe) (a:=⟨ob,2,none⟩) (u:=.int .i64 fr.fn) hno) (a:=⟨ob,3,none⟩) (u:=.int .i64 fr.line) hno) (a:=⟨ob,4,none⟩) (u:=.int .i64 fr.frm) hno)
    have hwo:w.heap.size+1<=ob:=by omega
    have HTx:Hid (cS w v1 (.slice (some ⟨bm,om,none⟩) n cap2) (((We.setCell ⟨ob,2,none⟩ (.int .i64 fr.fn)).setCell ⟨ob,3,none⟩ (.int .i64 fr.line)).setCell ⟨ob,4,none⟩ (.int .i64 fr.frm))):=O (Below.setCell (p:=⟨ob,4,none⟩) (Below.setCell (p:=⟨ob,3,none⟩) (Below.setCell (p:=⟨ob,2,none⟩) (Z HTe) hwo _) hwo _) hwo _)
    have hmob:mb≠ob:=by omega
    have HXx:Hid ((((We.setCell ⟨ob,2,none⟩ (.int .i64 fr.fn)).setCell ⟨ob,3,none⟩ (.int .i64 fr.line)).setCell ⟨ob,4,none⟩ (.int .i64 fr.frm)).heap[mb]?=some (.cells #[.int .i64 kk,.int .i64 (f k).task,.int .i64 (f k).fn,.int .i64 (f k).line,.string (f k).text,.slice av (f k).nv capv] 108 (0,0))):=O (by rw [heap_setCell_other _ _ _ _ hmob,heap_setCell_other _ _ _ _ hmob,heap_setCell_other _ _ _ _ hmob];exact Z HXe)
    have hoe2:ob<(((We.setCell ⟨ob,2,none⟩ (.int .i64 fr.fn)).setCell ⟨ob,3,none⟩ (.int .i64 fr.line)).setCell ⟨ob,4,none⟩ (.int .i64 fr.frm)).heap.size:=cY HOx
    clear HOe HSe HWe HTe HXe hoe HWO hno hmob
    generalize ((We.setCell ⟨ob,2,none⟩ (.int .i64 fr.fn)).setCell ⟨ob,3,none⟩ (.int .i64 fr.line)).setCell ⟨ob,4,none⟩ (.int .i64 fr.frm)=Wx at HOx HSx HWx HTx HXx hoe2 ⊢
    have q0:Wx.cell? ⟨ob,0,none⟩=some (.bool true):=by rw [cell_of_row Wx ob 0 _ _ _ HOx];rfl
    have q1:Wx.cell? ⟨ob,1,none⟩=some (.int .i64 (cH f k).cur):=by rw [cell_of_row Wx ob 1 _ _ _ HOx];rfl
    have q2:Wx.cell? ⟨ob,2,none⟩=some (.int .i64 fr.fn):=by rw [cell_of_row Wx ob 2 _ _ _ HOx];rfl
    have q3:Wx.cell? ⟨ob,3,none⟩=some (.int .i64 fr.line):=by rw [cell_of_row Wx ob 3 _ _ _ HOx];rfl
    have q4:Wx.cell? ⟨ob,4,none⟩=some (.int .i64 fr.frm):=by rw [cell_of_row Wx ob 4 _ _ _ HOx];rfl
    clear HOx
    go_upto_region 12 with fail
    have hz13:B2<=Wx.heap.size:=(by omega)
    have HA:=O (bN (Z HWx) (bH Wx (.cells #[.bool true,.int .i64 (cH f k).cur,.int .i64 fr.fn,.int .i64 fr.line,.int .i64 fr.frm] 275)))
    have HNW:Hid (∀ j u,([.bool true,.int .i64 (cH f k).cur,.int .i64 fr.fn,.int .i64 fr.line,.int .i64 fr.frm]:List Value)[j]?=some u->(Wx.alloc (.cells #[.bool true,.int .i64 (cH f k).cur,.int .i64 fr.fn,.int .i64 fr.line,.int .i64 fr.frm] 275)).cell? ((⟨Wx.heap.size,0,none⟩:Addr).add j)=some u):=O (World.news_of_block (cs:=#[.bool true,.int .i64 (cH f k).cur,.int .i64 fr.fn,.int .i64 fr.line,.int .i64 fr.frm]) (t:=275) (fr:=(0,0)) (heap_alloc_new Wx _))
    have HRT:Hid (∀ g,(Value.slice oa k oc).ownBlock=some g->(g≠ps/\∃ cs ff,(Wx.alloc (.cells #[.bool true,.int .i64 (cH f k).cur,.int .i64 fr.fn,.int .i64 fr.line,.int .i64 fr.frm] 275)).heap[g]?=some (.cells cs 275 ff))/\g≠mb):=O (fun g hg=>by
     obtain ⟨h1,cs,ff,h2⟩:=mP (Z HA) g hg
     refine ⟨⟨by omega,cs,ff,h2⟩,fun e=>?_⟩
     have h3:=Z HXx
     have hl:=cY h3
     rw [<- e] at h3 hl
     rw [Below.heap_alloc Wx _ g hl,h3] at h2
     cases h2)
    go_upto_region 13 with (at_builtin;refine wpList_append_lies _ (by rfl) _ _ _ (by rfl) B2 275 i0 _ 5 40 Tryz.underlying216 (Z II).1 (Z II).2.1 (Z II).2.2.1 (Z II).2.2.2 rfl (by omega) (.slice oa k oc) k (eY f k) (by rfl) (Z HA) ⟨Wx.heap.size,0,none⟩ 1 1 [.bool true,.int .i64 (cH f k).cur,.int .i64 fr.fn,.int .i64 fr.line,.int .i64 fr.frm] (by rfl) (by rfl) (Z HNW) (by simp [Value.oneCell']) (by omega) (by unfold maxLen;omega) (by omega) (by simp;omega) (Wx.heap.size+1) (by simp) ?_;intro g2 cp2 w7 hown hgrow _ _;have HO7:=O hown;have HG7:=O hgrow;clear hown hgrow)
    have HS7:=O (((Z HSx).below (bH Wx (.cells #[.bool true,.int .i64 (cH f k).cur,.int .i64 fr.fn,.int .i64 fr.line,.int .i64 fr.frm] 275))).turn (fun b=>(Value.slice oa k oc).ownBlock=some b) (fun b hb hx=>(Z HG7).block b hb (fun e=>hx e.symm)) (fun b hx=>(Z HRT b hx).1) (by decide) (by decide))
    have HT7:Hid (cS w v1 (.slice (some ⟨bm,om,none⟩) n cap2) w7):=O (Below.grown ((Z HTx).go (bH Wx (.cells #[.bool true,.int .i64 (cH f k).cur,.int .i64 fr.fn,.int .i64 fr.line,.int .i64 fr.frm] 275))) (Z HG7) (by simp;omega) (fun g hg=>by have:=((Z HA).lt g hg).1;omega))
    have HX7:Hid (w7.heap[mb]?=some (.cells #[.int .i64 kk,.int .i64 (f k).task,.int .i64 (f k).fn,.int .i64 (f k).line,.string (f k).text,.slice av (f k).nv capv] 108 (0,0))):=O (by
     have h3:=Z HXx
     rw [(Z HG7).block mb (by have:=cY h3;simp;omega) (fun e=>(Z HRT mb e.symm).2 rfl),Below.heap_alloc Wx _ mb (cY h3)]
     exact h3)
    have hw7:B2<=w7.heap.size:=(by have:=(Z HG7).size;simp at this;omega)
    have HR7:Hid (w7.ownsRow B2 275 5 (.slice (some ⟨g2,0,none⟩) (k+1) cp2) (k+1) (eY f (k+1))):=O (by rw [jV,Z HCE];exact Z HO7)
    have m0:w7.cell? ⟨mb,0,none⟩=some (.int .i64 kk):=by rw [cell_of_row w7 mb 0 _ _ _ (Z HX7)];rfl
    clear HA HNW HRT HG7 HO7 HSx HWx HTx HXx q0 q1 q2 q3 q4 hz13
    go_wp2_with fail
    go_roundg (n - (k+1))
    case measure=>omega
    case rel=>exact ⟨k+1,some ⟨g2,0,none⟩,cp2,by omega,by go_num,rfl,by rw [<- Z HSH];exact Z HS7,Z HR7,Z HT7,hw7⟩
  have e:n=k:=by omega
  subst e
  have hnk:¬ ((n:Int)<(n:Int)):=by omega
  go_wp2_with fail
  go_ret
  exact ⟨⟨_,rfl,eD (Z HOW) (by omega)⟩,(Z HT).below⟩
end
section
open Go.RowKit Go.Lib
def kU (f:Nat->M) (i:Nat):Fr:=(eL f i).getD ⟨0,0,0⟩
theorem bB3 (f:Nat->M) (i:Nat):kJ f i=[.bool (eL f i).isSome,.int .i64 (gH f i),.int .i64 (kU f i).fn,.int .i64 (kU f i).line,.int .i64 (kU f i).frm]:=by
 unfold kJ kU
 cases eL f i with
 | none=>rfl
 | some fr=>rfl
theorem bB4 (f:Nat->M):∀ n,(eY f n).length=n*5
 | 0=>rfl
 | n+1=>by
  rw [jV,List.length_append,bB4 f n,bB3]
  simp;omega
theorem bB5 (f:Nat->M):∀ n i j,i<n->j<5->(eY f n)[i*5+j]?=(kJ f i)[j]?
 | 0,i,j,hi,_=>absurd hi (Nat.not_lt_zero _)
 | n+1,i,j,hi,hj=>by
  have hl:=bB4 f n
  rw [jV]
  by_cases e:i<n
  ·rw [List.getElem?_append_left (by omega)]
   exact bB5 f n i j e hj
  have e:i=n:=by omega
  subst e
  rw [List.getElem?_append_right (by omega)]
  congr 1
  omega
def yK (w:World) (ob n:Nat) (f:Nat->M):Prop:=∀ i,i<n->w.cell? ⟨ob,i*5,none⟩=some (.bool (eL f i).isSome)/\w.cell? ⟨ob,i*5+1,none⟩=some (.int .i64 (gH f i)) /\
 w.cell? ⟨ob,i*5+2,none⟩=some (.int .i64 (kU f i).fn)/\w.cell? ⟨ob,i*5+3,none⟩=some (.int .i64 (kU f i).line)/\w.cell? ⟨ob,i*5+4,none⟩=some (.int .i64 (kU f i).frm)
theorem yK.below {w w':World} {ob n:Nat} {f:Nat->M} (h:yK w ob n f) (hb:Below w.heap.size w w'):yK w' ob n f:=fun i hi=>by
 obtain ⟨a,b,c,d,e⟩:=h i hi
 exact ⟨bG hb a,bG hb b,bG hb c,bG hb d,bG hb e⟩
theorem owners_of {w:World} {B n:Nat} {f:Nat->M} {v:Value} (h:w.ownsRow B 275 5 v n (eY f n)) (hn:0<n):∃ ob oc,v=.slice (some ⟨ob,0,none⟩) n oc/\B<=ob/\yK w ob n f:=by
 obtain ⟨ob,oc,e,hB,-⟩:=h.form hn
 refine ⟨ob,oc,e,hB,fun i hi=>?_⟩
 subst e
 have hg:∀ j v,j<5->(kJ f i)[j]?=some v->w.cell? ⟨ob,i*5+j,none⟩=some v:=fun j v hj hv=>(bL h (i*5+j) v (by rw [bB5 f n i j hi hj];exact hv)).1
 rw [bB3] at hg
 exact ⟨hg 0 _ (by omega) rfl,hg 1 _ (by omega) rfl,hg 2 _ (by omega) rfl,hg 3 _ (by omega) rfl,hg 4 _ (by omega) rfl⟩
theorem tP {f:Nat->M} {nm:ByteArray} {frm:Int}:∀ {k:Nat},(k:Int)<=frm->fE f nm frm k=none
 | 0,_=>rfl
 | k+1,h=>by
  rw [qP]
  have ih:=tP (f:=f) (nm:=nm) (frm:=frm) (k:=k) (by omega)
  cases e1:eL f k with
  | none=>exact ih
  | some fr =>
   cases e2:gR f nm k with
   | none=>exact ih
   | some t =>
    dsimp only
    rw [if_neg (by have:=bP9 e1;omega)]
    exact ih
theorem mV {f:Nat->M} {nm:ByteArray} {frm:Int} {k:Nat} (h:∀ fr t,eL f k=some fr->gR f nm k=some t->fr.frm≠frm):fE f nm frm (k+1)=fE f nm frm k:=by
 rw [qP]
 cases e1:eL f k with
 | none=>rfl
 | some fr =>
  cases e2:gR f nm k with
  | none=>rfl
  | some t=>dsimp only;rw [if_neg (h fr t e1 e2)]
theorem prevText_hit {f:Nat->M} {nm:ByteArray} {frm:Int} {k:Nat} {fr:Fr} {t:ByteArray} (h1:eL f k=some fr) (h2:gR f nm k=some t) (h3:fr.frm=frm):fE f nm frm (k+1)=some t:=by
 rw [qP,h1,h2]
 dsimp only
 rw [if_pos h3]
theorem vV {f:Nat->M} {s:Sp} {k:Nat} {fr:Fr} {t:ByteArray} (h1:eL f k=some fr) (h2:gR f s.name k=some t):dF f s k=(decide (fr.fn=s.fn) && decide (fE f s.name fr.frm k≠some t)):=by
 unfold dF;rw [h1,h2]
theorem tQ {f:Nat->M} {s:Sp} {k:Nat} (h1:eL f k=none):dF f s k=false:=by unfold dF;rw [h1]
theorem pZ {f:Nat->M} {s:Sp} {k:Nat} (h2:gR f s.name k=none):dF f s k=false:=by unfold dF;rw [h2];split<;>first | rfl | simp_all
structure Chg (w:World) (v1 v2:Value) (s:Sp) (ok:Bool) (task fn frm:Int) (W:World):Prop where
 below:Below w.heap.size w W
 t1:W.cell? ⟨w.heap.size,1,none⟩=some v2
 s1:W.cell? ⟨w.heap.size+1,1,none⟩=some (.int .i64 s.fn)
 s3:W.cell? ⟨w.heap.size+1,3,none⟩=some (.string s.name)
 o0:W.cell? ⟨w.heap.size+1+1,0,none⟩=some (.bool ok)
 o1:W.cell? ⟨w.heap.size+1+1,1,none⟩=some (.int .i64 task)
 o2:W.cell? ⟨w.heap.size+1+1,2,none⟩=some (.int .i64 fn)
 o4:W.cell? ⟨w.heap.size+1+1,4,none⟩=some (.int .i64 frm)
theorem Chg.go {w:World} {v1 v2:Value} {s:Sp} {ok:Bool} {task fn frm:Int} {W W':World} (h:Chg w v1 v2 s ok task fn frm W) (hb:Below W.heap.size W W'):Chg w v1 v2 s ok task fn frm W' :=
 ⟨h.below.trans (hb.mono h.below.size),bG hb h.t1,bG hb h.s1,bG hb h.s3,bG hb h.o0,bG hb h.o1,bG hb h.o2,bG hb h.o4⟩
theorem Chg.new (w:World) (v1 v2:Value) (s:Sp) (ok:Bool) (task fn line frm:Int):Chg w v1 v2 s ok task fn frm (((w.alloc (.cells #[v1,v2] 26)).alloc (.cells #[.int .i64 s.kind,.int .i64 s.fn,.int .i64 s.line,.string s.name] 45)).alloc (.cells #[.bool ok,.int .i64 task,.int .i64 fn,.int .i64 line,.int .i64 frm] 275)):=by
 obtain ⟨A,hA⟩:∃ A,A=w.alloc (.cells #[v1,v2] 26):=⟨_,rfl⟩
 have sA:A.heap.size=w.heap.size+1:=by rw [hA];simp
 have kA:A.heap[w.heap.size]?=some (.cells #[v1,v2] 26 (0,0)):=by rw [hA];exact heap_alloc_new w _
 have bA:Below w.heap.size w A:=by rw [hA];exact bH _ _
 rw [<- hA]
 obtain ⟨C,hC⟩:∃ C,C=A.alloc (.cells #[.int .i64 s.kind,.int .i64 s.fn,.int .i64 s.line,.string s.name] 45):=⟨_,rfl⟩
 have sC:C.heap.size=w.heap.size+1+1:=by rw [hC];simp [sA]
 have kC:C.heap[w.heap.size+1]?=some (.cells #[.int .i64 s.kind,.int .i64 s.fn,.int .i64 s.line,.string s.name] 45 (0,0)):=by rw [hC,<- sA];exact heap_alloc_new A _
 have bC:Below A.heap.size A C:=by rw [hC];exact bH _ _
 rw [<- hC]
 obtain ⟨D,hD⟩:∃ D,D=C.alloc (.cells #[.bool ok,.int .i64 task,.int .i64 fn,.int .i64 line,.int .i64 frm] 275):=⟨_,rfl⟩
 have kD:D.heap[w.heap.size+1+1]?=some (.cells #[.bool ok,.int .i64 task,.int .i64 fn,.int .i64 line,.int .i64 frm] 275 (0,0)):=by rw [hD,<- sC];exact heap_alloc_new C _
 have bD:Below C.heap.size C D:=by rw [hD];exact bH _ _
 rw [<- hD]
 refine ⟨bA.trans ((bC.mono (by omega)).trans (bD.mono (by omega))),?_,?_,?_,?_,?_,?_,?_⟩
 ·exact bG bD (bG bC (by rw [cell_of_row A _ 1 _ _ _ kA];rfl))
 ·exact bG bD (by rw [cell_of_row C _ 1 _ _ _ kC];rfl)
 ·exact bG bD (by rw [cell_of_row C _ 3 _ _ _ kC];rfl)
 ·rw [cell_of_row D _ 0 _ _ _ kD];rfl
 ·rw [cell_of_row D _ 1 _ _ _ kD];rfl
 ·rw [cell_of_row D _ 2 _ _ _ kD];rfl
 rw [cell_of_row D _ 4 _ _ _ kD];rfl
theorem bM9 (lo B:Nat) (v1 v2 ov:Value) (n:Nat) (f:Nat->M) (s:Sp) (k:Nat) (w:World) (h2:bQ lo w v2 n f) (ho:w.ownsRow B 275 5 ov n (eY f n)) (hk:k<n) (hn:n<=3000) :
  Calls Tryz.prog 139 #[.agg #[v1,v2],ov,.agg #[.int .i64 s.kind,.int .i64 s.fn,.int .i64 s.line,.string s.name],.int .i64 k] w fun e w'=>e=.returned (.bool (dF f s k))/\Below w.heap.size w w':=by
 obtain ⟨ob,oc,rfl,-,hos⟩:=owners_of ho (by omega)
 have H2:=O h2
 have HO:=O hos
 obtain ⟨a2,cap2,rfl,hn2,hv⟩:=h2
 obtain ⟨bm,om,-,rfl,-⟩:=hv k hk
 obtain ⟨p0,p1,p2,p3,p4⟩:=hos k hk
 have hkz:(0:Int)<=(k:Int):=by omega
 have hkn:(k:Int)<(n:Int):=by omega
 unfold maxLen at hn2
 clear hv hos ho
 have hob:ob<w.heap.size:=bV p0
 have p0':((w.alloc (.cells #[v1,.slice (some ⟨bm,om,none⟩) n cap2] 26)).alloc (.cells #[.int .i64 s.kind,.int .i64 s.fn,.int .i64 s.line,.string s.name] 45)).cell? ⟨ob,k*5,none⟩=some (.bool (eL f k).isSome):=bG (((Below.refl _ _).alloc (Nat.le_refl _) _).alloc (by simp) _) p0
 have p1':((w.alloc (.cells #[v1,.slice (some ⟨bm,om,none⟩) n cap2] 26)).alloc (.cells #[.int .i64 s.kind,.int .i64 s.fn,.int .i64 s.line,.string s.name] 45)).cell? ⟨ob,k*5+1,none⟩=some (.int .i64 (gH f k)):=bG (((Below.refl _ _).alloc (Nat.le_refl _) _).alloc (by simp) _) p1
 have p2':((w.alloc (.cells #[v1,.slice (some ⟨bm,om,none⟩) n cap2] 26)).alloc (.cells #[.int .i64 s.kind,.int .i64 s.fn,.int .i64 s.line,.string s.name] 45)).cell? ⟨ob,k*5+2,none⟩=some (.int .i64 (kU f k).fn):=bG (((Below.refl _ _).alloc (Nat.le_refl _) _).alloc (by simp) _) p2
 have p3':((w.alloc (.cells #[v1,.slice (some ⟨bm,om,none⟩) n cap2] 26)).alloc (.cells #[.int .i64 s.kind,.int .i64 s.fn,.int .i64 s.line,.string s.name] 45)).cell? ⟨ob,k*5+3,none⟩=some (.int .i64 (kU f k).line):=bG (((Below.refl _ _).alloc (Nat.le_refl _) _).alloc (by simp) _) p3
 have p4':((w.alloc (.cells #[v1,.slice (some ⟨bm,om,none⟩) n cap2] 26)).alloc (.cells #[.int .i64 s.kind,.int .i64 s.fn,.int .i64 s.line,.string s.name] 45)).cell? ⟨ob,k*5+4,none⟩=some (.int .i64 (kU f k).frm):=bG (((Below.refl _ _).alloc (Nat.le_refl _) _).alloc (by simp) _) p4
 clear p0 p1 p2 p3 p4
 go_enter Tryz.func139,Tryz.ntmps139
 go_upto_region 2 with fail
 have HC:=O (Chg.new w v1 (.slice (some ⟨bm,om,none⟩) n cap2) s (eL f k).isSome (gH f k) (kU f k).fn (kU f k).line (kU f k).frm)
 generalize ((w.alloc (.cells #[v1,.slice (some ⟨bm,om,none⟩) n cap2] 26)).alloc (.cells #[.int .i64 s.kind,.int .i64 s.fn,.int .i64 s.line,.string s.name] 45)).alloc (.cells #[.bool (eL f k).isSome,.int .i64 (gH f k),.int .i64 (kU f k).fn,.int .i64 (kU f k).line,.int .i64 (kU f k).frm] 275)=W0 at HC ⊢
 clear p0' p1' p2' p3' p4'
 have HM0:=O ((Z H2).below (Z HC).below)
 obtain ⟨_,_,e,_,hv⟩:=Z HM0
 cases e
 obtain ⟨_,_,vv,e,-,-,-,-,-,hc5,-,hvv,-⟩:=hv k hk
 cases e
 have HVV:=O hvv
 have t1:=(Z HC).t1
 have s3:=(Z HC).s3
 clear hv hvv
 go_region_held3 (fun w'=>w'.cell? ⟨w.heap.size,1,none⟩=some (.slice (some ⟨bm,om,none⟩) n cap2)/\w'.cell? ⟨bm,om+k*6+5,none⟩=some vv/\w'.cell? ⟨w.heap.size+1,3,none⟩=some (.string s.name))
  (first | (exact ⟨t1,hc5,s3⟩) | (exact ⟨bG hbA t1,bG hbA hc5,bG hbA s3⟩))
  ((go_at_call 100;refine (tM lo vv (f k).nv (f k).vars s.name _ (by exact (Z HVV).below (Below.refl _ _).drew)).mono ?_;rintro e wA ⟨rfl,hbA⟩))
 have HC1:=O (((Z HC).go (Below.refl _ _).drew).go hbA)
 have hlt:cP (f k).vars s.name (f k).nv=gR f s.name k:=rfl
 rw [hlt]
 clear hlt HC HM0 HVV t1 s3 hc5 hbA
 have q0:=(Z HC1).o0
 have q2:=(Z HC1).o2
 have r1:=(Z HC1).s1
 cases hown:eL f k with
 | none =>
  rw [hown] at q0
  simp only [Option.isSome_none] at q0
  have HW:=O (tQ (s:=s) hown)
  clear hown q2 r1
  go_wp2_with fail
  go_ret
  exact ⟨by rw [Z HW];rfl,(Z HC1).below⟩
 | some fr =>
  have efr:kU f k=fr:=by unfold kU;rw [hown];rfl
  rw [hown] at q0
  rw [efr] at q2 HC1
  simp only [Option.isSome_some] at q0
  have HOWN:=O hown
  clear efr hown
  by_cases hfn:fr.fn=s.fn
  ·have hfb:(fr.fn != s.fn)=false:=by rw [hfn];simp
   have HFN:=O hfn
   clear hfn
   cases hsh:gR f s.name k with
   | none =>
    have HW:=O (pZ hsh)
    clear hsh
    go_wp2_with fail
    go_ret
    exact ⟨by rw [Z HW];rfl,(Z HC1).below⟩
   | some t =>
    have HW:=O (vV (Z HOWN) hsh)
    have wx:IntKind.i64.wrap ((k:Int) - 1)=(k:Int) - 1:=by rw [IntKind.wrap_i64];omega
    clear hsh
    go_wp2_with fail
    go_loopw [12] (fun i W=>∃ (k':Nat),k'<=k/\i=.int .i64 ((k':Int) - 1)/\fE f s.name fr.frm k=fE f s.name fr.frm k'/\Chg w v1 (.slice (some ⟨bm,om,none⟩) n cap2) s (eL f k).isSome (gH f k) fr.fn fr.frm W) (fun i _=>(intOf i+1).toNat)
    case atStart=>exact ⟨k,Nat.le_refl _,rfl,rfl,Z HC1⟩
    case round =>
     clear HC1 q0 q2 r1 wx hfb
     obtain ⟨k',hk',rfl,hpv,hch⟩:=hrel
     have HPV:=O hpv
     have HC:=O hch
     clear hpv hch
     cases k' with
     | zero =>
      have e0:(((0:Nat):Int) - 1)=-1:=rfl
      rw [e0]
      have HW2:Hid (dF f s k=true):=O (by rw [Z HW,Z HPV];simp [fE,Z HFN])
      clear e0
      go_wp2_with fail
      go_ret
      exact ⟨by rw [Z HW2];rfl,(Z HC).below⟩
     | succ j =>
      have e0:(((j+1:Nat):Int) - 1)=(j:Int):=by omega
      rw [e0]
      have hjz:(0:Int)<=(j:Int):=by omega
      have hjn:(j:Int)<(n:Int):=by omega
      have q4:=(Z HC).o4
      by_cases hge:fr.frm<=(j:Int)
      ·have wj:IntKind.i64.wrap ((j:Int) - 1)=(j:Int) - 1:=by rw [IntKind.wrap_i64];omega
       obtain ⟨x0,x1,x2,x3,x4⟩:=((Z HO).below (Z HC).below) j (by omega)
       have q1:=(Z HC).o1
       cases hj:eL f j with
       | none =>
        rw [hj] at x0
        simp only [Option.isSome_none] at x0
        have HJ:=O hj
        clear hj x1 x2 x3 x4 e0
        go_wp2_with fail
        go_quiet (fail)
        go_wp2_with fail
        go_roundw
        case rel=>exact ⟨j,by omega,by go_num,(Z HPV).trans (mV (fun _ _ h _=>by rw [Z HJ] at h;cases h)),(Z HC).go (below_drewN (Below.refl _ _) _)⟩
        case measure=>first | (simp [intOf];done) | (simp [intOf];omega)
       | some fj =>
        have efj:kU f j=fj:=by unfold kU;rw [hj];rfl
        rw [hj] at x0
        rw [efj] at x2 x3 x4
        simp only [Option.isSome_some] at x0
        have HJ:=O hj
        clear hj efj e0
        by_cases htk:(gH f j:Int)=(gH f k:Int)
        ·have htb:((gH f j:Int) != (gH f k:Int))=false:=by rw [htk];simp
         by_cases hfm:fj.frm=fr.frm
         ·have hfb:(fj.frm != fr.frm)=false:=by rw [hfm];simp
          have HFM:=O hfm
          clear hfm htk
          go_upto_region 9 with (go_quiet (fail))
          generalize hwq:wr.drewN _=wq
          have HCq:Hid (Chg w v1 (.slice (some ⟨bm,om,none⟩) n cap2) s (eL f k).isSome (gH f k) fr.fn fr.frm wq):=by rw [<- hwq];exact O ((Z HC).go (below_drewN (Below.refl _ _) _))
          have HMq:=O ((Z H2).below (Z HCq).below)
          obtain ⟨_,_,e,_,hv⟩:=Z HMq
          cases e
          obtain ⟨_,_,vj,e,-,-,-,-,-,hc5,-,hvv,-⟩:=hv j (by omega)
          cases e
          have HVV:=O hvv
          have t1:=(Z HCq).t1
          have s3:=(Z HCq).s3
          clear hv hvv hwq x0 x1 x2 x3 x4 q1 q4 htb hfb
          go_region_held3 (fun w'=>w'.cell? ⟨w.heap.size,1,none⟩=some (.slice (some ⟨bm,om,none⟩) n cap2)/\w'.cell? ⟨bm,om+j*6+5,none⟩=some vj/\w'.cell? ⟨w.heap.size+1,3,none⟩=some (.string s.name))
           (first | (exact ⟨t1,hc5,s3⟩) | (exact ⟨bG hbA t1,bG hbA hc5,bG hbA s3⟩))
           ((go_at_call 100;refine (tM lo vj (f j).nv (f j).vars s.name _ (by exact (Z HVV).below (Below.refl _ _).drew)).mono ?_;rintro e wB ⟨rfl,hbA⟩))
          have HC2:=O (((Z HCq).go (Below.refl _ _).drew).go hbA)
          have hlt2:cP (f j).vars s.name (f j).nv=gR f s.name j:=rfl
          rw [hlt2]
          clear hlt2 HCq HMq HVV t1 s3 hc5 hbA
          cases hsj:gR f s.name j with
          | none =>
           have HSJ:=O hsj
           clear hsj
           simp only [Option.isSome_none]
           go_wp2_with fail
           refine ⟨⟨_,_,_,_,_,_,_,_,_,_,_,_,_,_,_,_,_,_,_,_,_,_,_,_,_,_,_,_,_,_,_,_,_,_,_,_,_,_,_,_,_,_,_,_,_,_,_,_,_,_,_,_,_,_,_,_,_,_,_,?rel,rfl⟩,?measure⟩
           case rel=>exact ⟨j,by omega,by go_num,(Z HPV).trans (mV (fun _ _ _ h=>by rw [Z HSJ] at h;cases h)),Z HC2⟩
           case measure=>first | (simp [intOf];done) | (simp [intOf];omega)
          | some tj =>
           have HPH:=O ((Z HPV).trans (prevText_hit (Z HJ) hsj (Z HFM)))
           clear hsj
           simp only [Option.isSome_some]
           by_cases het:tj=t
           ·subst het
            have HW2:Hid (dF f s k=false):=O (by rw [Z HW,Z HPH];simp)
            go_wp2_with fail
            go_ret
            exact ⟨by rw [Z HW2];simp [zM],(Z HC2).below⟩
           have HW2:Hid (dF f s k=true):=O (by rw [Z HW,Z HPH];simp [Z HFN,het])
           have hbe:=yH het
           clear het
           go_wp2_with fail
           go_ret
           exact ⟨by rw [Z HW2];simp [zM,hbe],(Z HC2).below⟩
         have hfb:(fj.frm != fr.frm)=true:=by simpa using hfm
         have HFM:=O hfm
         clear hfm htk
         go_wp2_with fail
         go_quiet (fail)
         go_wp2_with fail
         go_roundw
         case rel=>exact ⟨j,by omega,by go_num,(Z HPV).trans (mV (fun fr2 _ h _=>by rw [Z HJ] at h;cases h;exact Z HFM)),(Z HC).go (below_drewN (Below.refl _ _) _)⟩
         case measure=>first | (simp [intOf];done) | (simp [intOf];omega)
        have htb:((gH f j:Int) != (gH f k:Int))=true:=by simpa using htk
        have HTK:=O htk
        clear htk
        go_wp2_with fail
        go_quiet (fail)
        go_wp2_with fail
        go_roundw
        case rel=>exact ⟨j,by omega,by go_num,(Z HPV).trans (mV (fun fr2 _ h _ e=>by rw [Z HJ] at h;cases h;exact Z HTK (by rw [(bB2 (kZ (Z HJ)) (kZ (Z HOWN)) e).1]))),(Z HC).go (below_drewN (Below.refl _ _) _)⟩
        case measure=>first | (simp [intOf];done) | (simp [intOf];omega)
      have hgb:¬ (fr.frm<=(j:Int)):=hge
      have HW2:Hid (dF f s k=true):=O (by rw [Z HW,Z HPV,tP (by omega)];simp [Z HFN])
      clear hge e0
      go_wp2_with fail
      go_ret
      exact ⟨by rw [Z HW2];rfl,(Z HC).below⟩
  have hfb:(fr.fn != s.fn)=true:=by simpa using hfn
  have HFN:=O hfn
  clear hfn
  go_wp2_with fail
  go_ret
  refine ⟨?_,(Z HC1).below⟩
  cases hsh:gR f s.name k with
  | none=>rw [pZ hsh];rfl
  | some t=>rw [vV (Z HOWN) hsh,decide_eq_false (Z HFN)];rfl
end
section
open Go.RowKit Go.Lib
theorem info_bool':(Tryz.prog.info? 4).map (fun i=>(i.zero,i.size,i.bytes))=some (some (.bool false),1,1):=by kernel_rfl
def eX (b:Nat) (w:World) (n:Nat) (F:Nat->Bool):Prop:=(∃ cs,w.heap[b]?=some (.cells cs 4 (0,0)))/\∀ i,i<n->w.cell? ⟨b,i,none⟩=some (.bool (F i))
theorem eX.made (w:World) (n:Nat):eX w.heap.size (w.alloc (.cells (madeCells #[.bool false] n) 4)) n (fun _=>false):=by
 have hh:=heap_alloc_new w (.cells (madeCells #[.bool false] n) 4)
 refine ⟨⟨_,hh⟩,fun i hi=>?_⟩
 rw [cell_of_row _ _ _ _ _ _ hh]
 simp [madeCells,hi,Nat.mod_one]
theorem eX.lt {b:Nat} {w:World} {n:Nat} {F:Nat->Bool} (h:eX b w n F):b<w.heap.size:=by
 obtain ⟨⟨cs,h1⟩,_⟩:=h
 exact cY h1
theorem eX.of_block {b:Nat} {w w':World} {n:Nat} {F:Nat->Bool} (h:eX b w n F) (hb:w'.heap[b]?=w.heap[b]?):eX b w' n F:=by
 obtain ⟨⟨cs,h1⟩,h2⟩:=h
 exact ⟨⟨cs,hb.trans h1⟩,fun i hi=>by rw [World.cell?_of_block (w:=w) (w':=w') (a:=⟨b,i,none⟩) hb];exact h2 i hi⟩
theorem eX.below {b:Nat} {w w':World} {n:Nat} {F:Nat->Bool} (h:eX b w n F) (hb:Below w.heap.size w w'):eX b w' n F:=h.of_block (hb.block b h.lt)
theorem eX.frozen {b:Nat} {w:World} {n:Nat} {F:Nat->Bool} (h:eX b w n F) (i:Nat):w.frozen? ⟨b,i,none⟩=false:=by
 obtain ⟨⟨cs,h1⟩,_⟩:=h
 exact frozen_of_row _ _ _ _ _ h1
theorem eX.set {b:Nat} {w:World} {n:Nat} {F:Nat->Bool} (h:eX b w n F) (k:Nat) (hk:k<n) (x:Bool):eX b (w.setCell ⟨b,k,none⟩ (.bool x)) n (fun i=>if i=k then x else F i):=by
 obtain ⟨⟨cs,h1⟩,h2⟩:=h
 refine ⟨⟨_,heap_setCell_same _ _ _ _ _ _ h1⟩,fun i hi=>?_⟩
 dsimp only
 by_cases e:i=k
 ·subst e
  rw [if_pos rfl]
  exact World.cell?_setCell_same' _ _ _ (by rw [h2 i hi];rfl)
 rw [if_neg e,World.cell?_setCell_other _ _ _ _ (fun e2=>e (by injection e2 with _ e3;exact e3.symm))]
 exact h2 i hi
theorem eX.congr {b:Nat} {w:World} {n:Nat} {F G:Nat->Bool} (h:eX b w n F) (hg:∀ i,i<n->F i=G i):eX b w n G:=⟨h.1,fun i hi=>by rw [<- hg i hi];exact h.2 i hi⟩
def gL (w:World) (v1 v2:Value) (s:Sp) (W:World):Prop:=Below (w.heap.size+1+1) ((w.alloc (.cells #[v1,v2] 26)).alloc (.cells #[.int .i64 s.kind,.int .i64 s.fn,.int .i64 s.line,.string s.name] 45)) W
theorem gL.new (w:World) (v1 v2:Value) (s:Sp):gL w v1 v2 s ((w.alloc (.cells #[v1,v2] 26)).alloc (.cells #[.int .i64 s.kind,.int .i64 s.fn,.int .i64 s.line,.string s.name] 45)):=Below.refl _ _
section
variable {w W W':World} {v1 v2:Value} {s:Sp}
theorem gL.size (h:gL w v1 v2 s W):w.heap.size+1+1<=W.heap.size:=by have:=Below.size h;simpa using this
theorem gL.go (h:gL w v1 v2 s W) (hb:Below W.heap.size W W'):gL w v1 v2 s W':=Below.trans h (hb.mono h.size)
theorem gL.below (h:gL w v1 v2 s W):Below w.heap.size w W:=(((Below.refl _ _).alloc (Nat.le_refl _) _).alloc (by simp) _).trans (Below.mono h (by omega))
theorem gL.heap0 (h:gL w v1 v2 s W):W.heap[w.heap.size]?=some (.cells #[v1,v2] 26 (0,0)):=by
 rw [Below.block h _ (by omega),Below.heap_alloc _ _ _ (by simp)];exact heap_alloc_new w _
theorem gL.heap1 (h:gL w v1 v2 s W):W.heap[w.heap.size+1]?=some (.cells #[.int .i64 s.kind,.int .i64 s.fn,.int .i64 s.line,.string s.name] 45 (0,0)):=by
 rw [Below.block h _ (by omega)]
 have:=heap_alloc_new (w.alloc (.cells #[v1,v2] 26)) (.cells #[.int .i64 s.kind,.int .i64 s.fn,.int .i64 s.line,.string s.name] 45)
 simpa using this
theorem gL.t0 (h:gL w v1 v2 s W):W.cell? ⟨w.heap.size,0,none⟩=some v1:=by rw [cell_of_row W _ 0 _ _ _ h.heap0];rfl
theorem gL.t1 (h:gL w v1 v2 s W):W.cell? ⟨w.heap.size,1,none⟩=some v2:=by rw [cell_of_row W _ 1 _ _ _ h.heap0];rfl
theorem gL.s0 (h:gL w v1 v2 s W):W.cell? ⟨w.heap.size+1,0,none⟩=some (.int .i64 s.kind):=by rw [cell_of_row W _ 0 _ _ _ h.heap1];rfl
theorem gL.s1 (h:gL w v1 v2 s W):W.cell? ⟨w.heap.size+1,1,none⟩=some (.int .i64 s.fn):=by rw [cell_of_row W _ 1 _ _ _ h.heap1];rfl
theorem gL.s2 (h:gL w v1 v2 s W):W.cell? ⟨w.heap.size+1,2,none⟩=some (.int .i64 s.line):=by rw [cell_of_row W _ 2 _ _ _ h.heap1];rfl
theorem gL.s3 (h:gL w v1 v2 s W):W.cell? ⟨w.heap.size+1,3,none⟩=some (.string s.name):=by rw [cell_of_row W _ 3 _ _ _ h.heap1];rfl
end
def upHit (f:Nat->M) (s:Sp) (k i:Nat):Bool:=if i<k then hit f s i else false
theorem upHit_next {f:Nat->M} {s:Sp} {k:Nat} (i:Nat):(if i=k then hit f s k else upHit f s k i)=upHit f s (k+1) i:=by
 unfold upHit
 by_cases e:i=k
 ·rw [if_pos e,if_pos (by omega),e]
 rw [if_neg e]
 by_cases e2:i<k
 ·rw [if_pos e2,if_pos (by omega)]
 rw [if_neg e2,if_neg (by omega)]
structure HitI (w:World) (v1 v2:Value) (s:Sp) (n:Nat) (f:Nat->M) (B:Nat) (ov:Value) (k:Nat) (W:World):Prop where
 bools:eX (w.heap.size+1+1) W n (upHit f s k)
 own:W.ownsRow B 275 5 ov n (eY f n)
 box:gL w v1 v2 s W
theorem HitI.below {w:World} {v1 v2:Value} {s:Sp} {n:Nat} {f:Nat->M} {B:Nat} {ov:Value} {k:Nat} {W W':World} (h:HitI w v1 v2 s n f B ov k W) (hb:Below W.heap.size W W'):HitI w v1 v2 s n f B ov k W':=⟨h.bools.below hb,bN h.own hb,h.box.go hb⟩
theorem HitI.step {w:World} {v1 v2:Value} {s:Sp} {n:Nat} {f:Nat->M} {B:Nat} {ov:Value} {k:Nat} {W W':World} (h:HitI w v1 v2 s n f B ov k W) (hb:Below W.heap.size W W') (hB:w.heap.size+1+1<B) (hk:k<n) (x:Bool) (hx:x=hit f s k) :
  HitI w v1 v2 s n f B ov (k+1) (W'.setCell ⟨w.heap.size+1+1,k,none⟩ (.bool x)):=by
 have h':=h.below hb
 refine ⟨(h'.bools.set k hk x).congr (fun i _=>?_),cM h'.own (fun e=>?_),Below.setCell (p:=⟨w.heap.size+1+1,k,none⟩) h'.box (Nat.le_refl _) _⟩
 ·rw [hx];exact upHit_next i
 have h1:B<=w.heap.size+1+1:=(h'.own.lt _ e).1
 omega
theorem bG9 (lo:Nat) (v1 v2:Value) (nf:Nat) (fns:Nat->ByteArray) (n:Nat) (f:Nat->M) (s:Sp) (w:World) (h2:bQ lo w v2 n f) (hs:cB nf fns n f) :
  Calls Tryz.prog 91 #[.agg #[v1,v2],.agg #[.int .i64 s.kind,.int .i64 s.fn,.int .i64 s.line,.string s.name]] w fun e w'=>(∃ b,e=.returned (.slice (some ⟨b,0,none⟩) n n)/\eX b w' n (hit f s)/\w.heap.size<=b)/\Below w.heap.size w w':=by
 have H2:=O h2
 have HS:=O hs
 obtain ⟨a2,cap2,rfl,hn2,-⟩:=h2
 have hn3:n<=3000:=hs.1.2.2.1
 unfold maxLen at hn2
 clear hs
 have HB0:=O (gL.new w v1 (.slice a2 n cap2) s)
 have hmk:∀ w,(Instr.makeSlice 157 (.int .i64 n) (.int .i64 n)).run Tryz.prog w=.ok (.slice (some ⟨w.heap.size,0,none⟩) n n) (w.alloc (.cells (madeCells #[.bool false] n) 4)):=fun w=>by
  have h:=gY (P:=Tryz.prog) 157 4 _ _ _ Tryz.underlying157 info_bool' n (by omega) (by omega) w
  rw [Nat.mul_one] at h
  exact h
 go_enter Tryz.func91,Tryz.ntmps91
 go_upto_region 2 with fail
 have hsz0:=(Z HB0).size
 have HBM:=O (eX.made ((w.alloc (.cells #[v1,.slice a2 n cap2] 26)).alloc (.cells #[.int .i64 s.kind,.int .i64 s.fn,.int .i64 s.line,.string s.name] 45)) n)
 have hse:((w.alloc (.cells #[v1,.slice a2 n cap2] 26)).alloc (.cells #[.int .i64 s.kind,.int .i64 s.fn,.int .i64 s.line,.string s.name] 45)).heap.size=w.heap.size+1+1:=by simp
 rw [hse] at HBM
 have HB1:=O ((Z HB0).go (bH ((w.alloc (.cells #[v1,.slice a2 n cap2] 26)).alloc (.cells #[.int .i64 s.kind,.int .i64 s.fn,.int .i64 s.line,.string s.name] 45)) (.cells (madeCells #[.bool false] n) 4)))
 generalize ((w.alloc (.cells #[v1,.slice a2 n cap2] 26)).alloc (.cells #[.int .i64 s.kind,.int .i64 s.fn,.int .i64 s.line,.string s.name] 45)).alloc (.cells (madeCells #[.bool false] n) 4)=W1 at HBM HB1 ⊢
 clear hmk HB0 hsz0 hse
 have t0:=(Z HB1).t0
 have t1:=(Z HB1).t1
 go_wp2_with fail
 refine (l3owners_any lo _ _ nf fns n f _ ((Z H2).below (Z HB1).below) (Z HS)).mono ?_
 rintro e w2 ⟨⟨ov,rfl,hov⟩,hb2⟩
 have HOV:=O hov
 have HB2:=O ((Z HB1).go hb2)
 have HBM2:=O ((Z HBM).below hb2)
 have hbl:w.heap.size+1+1<W1.heap.size:=(Z HBM).lt
 obtain ⟨oa,oc,rfl⟩:=bR hov
 have g1:=(Z HB2).t1
 obtain ⟨B,hBe⟩:∃ B,B=W1.heap.size:=⟨_,rfl⟩
 rw [<- hBe] at HOV hbl
 clear hov hb2 HB1 HBM t0 t1 hBe
 go_wp2_with fail
 go_loopg [7,18] n (fun gg _ i W=>∃ (k:Nat),k+gg=n/\i=.int .i64 k/\HitI w v1 (.slice a2 n cap2) s n f B (.slice oa n oc) k W)
 case atStart=>exact ⟨0,by omega,rfl,(Z HBM2).congr (fun i _=>rfl),Z HOV,Z HB2⟩
 case round =>
  clear HBM2 HOV HB2 g1
  obtain ⟨k,hk,rfl,hi⟩:=hrel
  have HI:=O hi
  clear hi
  by_cases hlt:k<n
  ·obtain ⟨_,_,e,_,hv⟩:=(Z H2).below (Z HI).box.below
   cases e
   obtain ⟨bm,om,vv,rfl,hc0,hc1,hc2,hc3,hc4,hc5,-,hs2,-⟩:=hv k hlt
   clear hv
   obtain ⟨av,capv,rfl,-⟩:=hs2
   have hkn:(k:Int)<(n:Int):=by omega
   have hkz:(0:Int)<=(k:Int):=by omega
   have HBX:=O (heap_alloc_new wr (.cells #[.int .i64 (f k).kind,.int .i64 (f k).task,.int .i64 (f k).fn,.int .i64 (f k).line,.string (f k).text,.slice av (f k).nv capv] 108))
   have HJ:=O ((Z HI).below (bH wr (.cells #[.int .i64 (f k).kind,.int .i64 (f k).task,.int .i64 (f k).fn,.int .i64 (f k).line,.string (f k).text,.slice av (f k).nv capv] 108)))
   go_upto_region 6 with fail
   generalize wr.alloc (.cells #[.int .i64 (f k).kind,.int .i64 (f k).task,.int .i64 (f k).fn,.int .i64 (f k).line,.string (f k).text,.slice av (f k).nv capv] 108)=W3 at HBX HJ ⊢
   obtain ⟨mb,hmb⟩:∃ mb,mb=wr.heap.size:=⟨_,rfl⟩
   rw [<- hmb] at HBX ⊢
   clear hc0 hc1 hc2 hc3 hc4 hc5 HI hmb
   have HI:=HJ
   clear HJ
   have hc0:W3.cell? ⟨mb,0,none⟩=some (.int .i64 (f k).kind):=by rw [cell_of_row W3 mb 0 _ _ _ (Z HBX)];rfl
   have hc2:W3.cell? ⟨mb,2,none⟩=some (.int .i64 (f k).fn):=by rw [cell_of_row W3 mb 2 _ _ _ (Z HBX)];rfl
   have hc3:W3.cell? ⟨mb,3,none⟩=some (.int .i64 (f k).line):=by rw [cell_of_row W3 mb 3 _ _ _ (Z HBX)];rfl
   have y0:=(Z HI).box.s0
   have y1:=(Z HI).box.s1
   have y2:=(Z HI).box.s2
   have c0:=(Z HI).bools.2 k hlt
   have f0:=(Z HI).bools.frozen k
   generalize upHit f s k k=b0 at c0
   by_cases k1:s.kind=1
   ·have HK:=O k1
    rw [k1] at y0
    clear k1
    by_cases a1:(f k).kind=1
    ·have HA1:=O a1
     rw [a1] at hc0
     clear a1
     by_cases a2':(f k).fn=s.fn
     ·have ab2:((f k).fn == s.fn)=true:=by rw [a2'];simp
      by_cases a3:(f k).line=s.line
      ·have ab3:((f k).line == s.line)=true:=by rw [a3];simp
       have HA:=O (And.intro a2' a3)
       clear a2' a3
       go_wp2_with fail
       go_roundg (n - (k+1))
       case measure=>omega
       case rel=>exact ⟨k+1,by omega,by go_num,(Z HI).step (Below.refl _ _) hbl hlt _ (by unfold hit;rw [if_pos (Z HK)];exact (decide_eq_true ⟨Z HA1,(Z HA).1,(Z HA).2⟩).symm)⟩
      have ab3:((f k).line == s.line)=false:=by simpa using a3
      have HA:=O a3
      clear a2' a3
      go_wp2_with fail
      go_roundg (n - (k+1))
      case measure=>omega
      case rel=>exact ⟨k+1,by omega,by go_num,(Z HI).step (Below.refl _ _) hbl hlt _ (by unfold hit;rw [if_pos (Z HK)];exact (decide_eq_false (fun h=>Z HA h.2.2)).symm)⟩
     have ab2:((f k).fn == s.fn)=false:=by simpa using a2'
     have HA:=O a2'
     clear a2'
     go_wp2_with fail
     go_roundg (n - (k+1))
     case measure=>omega
     case rel=>exact ⟨k+1,by omega,by go_num,(Z HI).step (Below.refl _ _) hbl hlt _ (by unfold hit;rw [if_pos (Z HK)];exact (decide_eq_false (fun h=>Z HA h.2.1)).symm)⟩
    have ab1:((f k).kind == 1)=false:=by simpa using a1
    have HA:=O a1
    clear a1
    go_wp2_with fail
    go_roundg (n - (k+1))
    case measure=>omega
    case rel=>exact ⟨k+1,by omega,by go_num,(Z HI).step (Below.refl _ _) hbl hlt _ (by unfold hit;rw [if_pos (Z HK)];exact (decide_eq_false (fun h=>Z HA h.1)).symm)⟩
   have k1b:(s.kind == 1)=false:=by simpa using k1
   by_cases k2:s.kind=2
   ·have HK:=O (And.intro k1 k2)
    rw [k2] at y0
    clear k1 k2 k1b
    by_cases a1:(f k).kind=2
    ·have HA1:=O a1
     rw [a1] at hc0
     clear a1
     by_cases a2':(f k).fn=s.fn
     ·have ab2:((f k).fn == s.fn)=true:=by rw [a2'];simp
      have HA:=O a2'
      clear a2'
      go_wp2_with fail
      go_roundg (n - (k+1))
      case measure=>omega
      case rel=>exact ⟨k+1,by omega,by go_num,(Z HI).step (Below.refl _ _) hbl hlt _ (by unfold hit;rw [if_neg (Z HK).1,if_pos (Z HK).2];exact (decide_eq_true ⟨Z HA1,Z HA⟩).symm)⟩
     have ab2:((f k).fn == s.fn)=false:=by simpa using a2'
     have HA:=O a2'
     clear a2'
     go_wp2_with fail
     go_roundg (n - (k+1))
     case measure=>omega
     case rel=>exact ⟨k+1,by omega,by go_num,(Z HI).step (Below.refl _ _) hbl hlt _ (by unfold hit;rw [if_neg (Z HK).1,if_pos (Z HK).2];exact (decide_eq_false (fun h=>Z HA h.2)).symm)⟩
    have ab1:((f k).kind == 2)=false:=by simpa using a1
    have HA:=O a1
    clear a1
    go_wp2_with fail
    go_roundg (n - (k+1))
    case measure=>omega
    case rel=>exact ⟨k+1,by omega,by go_num,(Z HI).step (Below.refl _ _) hbl hlt _ (by unfold hit;rw [if_neg (Z HK).1,if_pos (Z HK).2];exact (decide_eq_false (fun h=>Z HA h.1)).symm)⟩
   have k2b:(s.kind == 2)=false:=by simpa using k2
   by_cases k3:s.kind=3
   ·have HK:=O (And.intro k1 (And.intro k2 k3))
    have k3b:(s.kind == 3)=true:=by rw [k3];rfl
    clear k1 k2 k3
    have x0:=(Z HI).box.t0
    have x1:=(Z HI).box.t1
    have y3:=(Z HI).box.s3
    go_wp2_with fail
    refine (bM9 lo B _ _ _ n f s k _ ((Z H2).below (Z HI).box.below) (Z HI).own hlt hn3).mono ?_
    rintro e w5 ⟨rfl,hb5⟩
    have c5:=bG hb5 c0
    have f5:w5.frozen? ⟨w.heap.size+1+1,k,none⟩=false:=by rw [hb5.frozen (bV c0)];exact f0
    have HB5:=O hb5
    clear hb5 x0 x1 y0 y1 y2 y3 c0 f0 hc0 hc2 hc3
    go_wp2_with fail
    go_roundg (n - (k+1))
    case measure=>omega
    case rel=>exact ⟨k+1,by omega,by go_num,(Z HI).step (Z HB5) hbl hlt _ (by unfold hit;rw [if_neg (Z HK).1,if_neg (Z HK).2.1,if_pos (Z HK).2.2])⟩
   have k3b:(s.kind == 3)=false:=by simpa using k3
   have HK:=O (And.intro k1 (And.intro k2 k3))
   clear k1 k2 k3
   by_cases a1:(f k).kind=4
   ·have HA:=O a1
    rw [a1] at hc0
    clear a1
    go_wp2_with fail
    go_roundg (n - (k+1))
    case measure=>omega
    case rel=>exact ⟨k+1,by omega,by go_num,(Z HI).step (Below.refl _ _) hbl hlt _ (by unfold hit;rw [if_neg (Z HK).1,if_neg (Z HK).2.1,if_neg (Z HK).2.2];exact (decide_eq_true (Z HA)).symm)⟩
   have ab1:((f k).kind == 4)=false:=by simpa using a1
   have HA:=O a1
   clear a1
   go_wp2_with fail
   go_roundg (n - (k+1))
   case measure=>omega
   case rel=>exact ⟨k+1,by omega,by go_num,(Z HI).step (Below.refl _ _) hbl hlt _ (by unfold hit;rw [if_neg (Z HK).1,if_neg (Z HK).2.1,if_neg (Z HK).2.2];exact (decide_eq_false (Z HA)).symm)⟩
  have e:n=k:=by omega
  subst e
  have hnk:¬ ((n:Int)<(n:Int)):=by omega
  go_wp2_with fail
  go_ret
  exact ⟨⟨_,rfl,(Z HI).bools.congr (fun i hi=>if_pos hi),by omega⟩,(Z HI).box.below⟩
end
section
open Go.RowKit Go.Lib
end
end Go.Proofs.YtmnmeaeicjhkhaaGreatDoor
