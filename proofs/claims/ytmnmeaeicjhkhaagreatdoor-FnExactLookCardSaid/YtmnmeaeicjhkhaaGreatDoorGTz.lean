import Derived.Test.YtmnmeaeicjhkhaaGreatDoorGLz
import Derived.Deep.LoopGhost
set_option maxRecDepth 100000
set_option maxHeartbeats 16000000
namespace Go.Proofs.YtmnmeaeicjhkhaaGreatDoor
open Go.RowKit
def FrsAt (lo:Nat) (w:World) (v:Value) (l:List Fr):Prop:=w.ownsRow lo 42 3 v l.length (frCells l)
theorem FrsAt.below {lo:Nat} {w w':World} {v:Value} {l:List Fr} (h:FrsAt lo w v l) (hb:Below w.heap.size w w'):FrsAt lo w' v l:=owns_below h hb
theorem openIn_any (s:St) (t:Nat) (top:Option Addr) (bw:Nat) (w:World) (h:PlaceAt w s top bw) (ht:t < 101) :
  Calls Tryz.prog 153 #[.agg #[.int .i64 s.cur,.pointer top,.pointer (some ⟨bw,0,none⟩)],.int .i64 t] w fun e w'=>(∃ p,e=.returned (.pointer p)∧ListAt w' (s.tasks t) p)∧Below w.heap.size w w':=by
 obtain ⟨h1,⟨P,h2⟩,h3,h4⟩:=h
 by_cases hc:t=s.cur
 ·subst hc
  have H1:=hide h1
  clear h1 h2 h4
  go_enter Tryz.func153,Tryz.ntmps153
  go_wp2
  go_ret
  exact ⟨⟨top,rfl,(uh H1).below (below_new _ _)⟩,below_new _ _⟩
 ·have k0:=cell_below (below_new w (.cells #[.int .i64 s.cur,.pointer top,.pointer (some ⟨bw,0,none⟩)] 119)) (h2 t ht).1
  have HL:=hide ((h2 t ht).2 hc)
  have hq:((t:Int) == (s.cur:Int))=false:=by rw [beq_eq_false_iff_ne];omega
  have hj1:(0:Int)≤(t:Int):=by omega
  have hj2:(t:Int) < 101:=by omega
  clear h1 h2 h4 hc
  go_enter Tryz.func153,Tryz.ntmps153
  go_wp2
  go_ret
  exact ⟨⟨P t,rfl,(uh HL).below (below_new _ _)⟩,below_new _ _⟩
theorem frames_any (l:List Fr) (p:Option Addr) (w:World) (h:ListAt w l p) (hl:l.length≤200) :
  Calls Tryz.prog 154 #[.pointer p] w fun e w'=>(∃ v,e=.returned v∧FrsAt w.heap.size w' v l)∧Below w.heap.size w w':=by
 have H:=hide h
 clear h
 obtain ⟨i0,hi0,hz0,hz1,hz2⟩:=info_parts info_Frame
 have II:=hide (And.intro hi0 (And.intro hz0 (And.intro hz1 hz2)));clear hi0 hz0 hz1 hz2
 go_enter Tryz.func154,Tryz.ntmps154
 go_wp2
 go_loopg [0,3] l.length (fun k c v wr=>∃ (p:Option Addr) (d r:List Fr),c=.pointer p∧d ++ r=l∧r.length=k∧ListAt w r p∧FrsAt w.heap.size wr v d∧(∃ a n cp,v=.slice a n cp)∧Below w.heap.size w wr)
 case atStart=>exact ⟨p,[],l,rfl,rfl,rfl,uh H,World.ownsRow_nil _ _ _ _,⟨_,_,_,rfl⟩,Below.refl _ _⟩
 case round =>
  obtain ⟨p',d,r,rfl,hd,hr,hli,hfr,⟨va,vn,vc,rfl⟩,hb⟩:=hrel
  have HD:=hide hd
  have HF:=hide hfr
  have HB:=hide hb
  cases r with
  | nil =>
   have e:p'=none:=hli
   subst e
   clear hd hfr hb hli hr
   go_wp2
   go_ret
   have hdl:d=l:=by have:=uh HD;simpa using this
   rw [← hdl]
   exact ⟨⟨_,rfl,uh HF⟩,uh HB⟩
  | cons f r' =>
   obtain ⟨b,p2,rfl,k0,k1,k2,k3,k4,hli2⟩:=hli
   have HL2:=hide hli2
   have c0:=cell_below hb k0
   have c1:=cell_below hb k1
   have c2:=cell_below hb k2
   have c4:=cell_below hb k4
   have hlen:d.length + r'.length + 1≤200:=by rw [← hd] at hl;simp at hl;omega
   have hzz:w.heap.size≤wr.heap.size:=hb.size
   have K4:=hide k4
   clear k0 k1 k2 k3 k4 hli2 hd hfr hb c4
   have HA:=hide ((uh HF).below (below_new wr (.cells #[.int .i64 f.fn,.int .i64 f.line,.int .i64 f.frm] 42)))
   have HNW:Hid (∀ j u,([.int .i64 f.fn,.int .i64 f.line,.int .i64 f.frm]:List Value)[j]?=some u→(wr.alloc (.cells #[.int .i64 f.fn,.int .i64 f.line,.int .i64 f.frm] 42)).cell? ((⟨wr.heap.size,0,none⟩:Addr).add j)=some u) :=
    hide (World.news_of_block (cs:=#[.int .i64 f.fn,.int .i64 f.line,.int .i64 f.frm]) (t:=42) (fr:=(0,0)) (heap_alloc_new wr _))
   go_wp2_with (at_builtin;refine wpList_append_lies _ (by rfl) _ _ _ (by rfl) w.heap.size 42 i0 _ 3 24 Tryz.underlying35 (uh II).1 (uh II).2.1 (uh II).2.2.1 (uh II).2.2.2 rfl (by omega) (.slice va vn vc) d.length (frCells d) (by rfl) (uh HA) ⟨wr.heap.size,0,none⟩ 1 1 [.int .i64 f.fn,.int .i64 f.line,.int .i64 f.frm] (by rfl) (by rfl) (uh HNW) (by simp [Value.oneCell']) (by omega) (by unfold maxLen;omega) (by omega) (by simp;omega) (wr.heap.size + 1) (by simp) ?_;intro g2 cp2 w7 hown hgrow _ _;have hb7:Below w.heap.size w w7:=Below.grown ((uh HB).alloc hzz _) hgrow (by simp;omega) (fun k hk=>((uh HA).lt k hk).1);have k7:=cell_below hb7 (uh K4);have HB7:=hide hb7;have HO7:=hide hown;clear hown hgrow hb7)
   go_roundg r'.length
   case measure=>simp at hr;omega
   case rel =>
    refine ⟨p2,d ++ [f],r',rfl,?_,rfl,uh HL2,?_,⟨_,_,_,rfl⟩,uh HB7⟩
    ·rw [List.append_assoc];exact uh HD
    ·unfold FrsAt
     rw [List.length_append,frCells_app]
     exact uh HO7
end Go.Proofs.YtmnmeaeicjhkhaaGreatDoor
namespace Go.Proofs.YtmnmeaeicjhkhaaGreatDoor
open Go.RowKit
theorem FrsAt_nil (lo:Nat) (w:World):FrsAt lo w (.slice none 0 0) []:=World.ownsRow_nil _ _ _ _
theorem frCells_get:∀ (l:List Fr) (i:Nat) (h:i < l.length),(frCells l)[i * 3]?=some (.int .i64 l[i].fn)∧(frCells l)[i * 3 + 1]?=some (.int .i64 l[i].line)∧(frCells l)[i * 3 + 2]?=some (.int .i64 l[i].frm)
 | f :: r,0,_=>⟨rfl,rfl,rfl⟩
 | f :: r,i + 1,h=>by
  have ih:=frCells_get r i (by simpa using h)
  have e:frCells (f :: r)=[.int .i64 f.fn,.int .i64 f.line,.int .i64 f.frm] ++ frCells r:=rfl
  rw [e,show (i + 1) * 3=3 + i * 3 by omega]
  refine ⟨?_,?_,?_⟩
  ·rw [List.getElem?_append_right (by simp)];simpa using ih.1
  ·rw [List.getElem?_append_right (by simp;omega),show 3 + i * 3 + 1 - [(Value.int .i64 f.fn),.int .i64 f.line,.int .i64 f.frm].length=i * 3 + 1 by simp;omega];simpa using ih.2.1
  ·rw [List.getElem?_append_right (by simp;omega),show 3 + i * 3 + 2 - [(Value.int .i64 f.fn),.int .i64 f.line,.int .i64 f.frm].length=i * 3 + 2 by simp;omega];simpa using ih.2.2
theorem l1inner_any (B:Nat) (v:Value) (l:List Fr) (w:World) (h:w.ownsRow B 42 3 v l.length (frCells l.reverse)) (hl:l.length≤200) :
  Calls Tryz.prog 98 #[v] w fun e w'=>(∃ v',e=.returned v'∧FrsAt w.heap.size w' v' l)∧Below w.heap.size w w':=by
 have H:=hide h
 obtain ⟨va,vc,rfl⟩:=owns_slice h
 clear h
 obtain ⟨i0,hi0,hz0,hz1,hz2⟩:=info_parts info_Frame
 have II:=hide (And.intro hi0 (And.intro hz0 (And.intro hz1 hz2)));clear hi0 hz0 hz1 hz2
 obtain ⟨len,hlen⟩:∃ len,len=l.length:=⟨_,rfl⟩
 rw [← hlen] at H hl
 rw [← hlen]
 have HLN:=hide hlen;clear hlen
 go_enter Tryz.func98,Tryz.ntmps98
 go_wp2
 go_loopw [3,4] (fun o i wr=>∃ (j:Nat),j≤len∧i=.int .i64 ((j:Int) - 1)∧FrsAt w.heap.size wr o (l.take (len - j))∧(∃ a n cp,o=.slice a n cp)∧Below w.heap.size w wr) (fun _ i _=>(intOf i + 1).toNat)
 case atStart=>exact ⟨len,Nat.le_refl _,rfl,by rw [Nat.sub_self,List.take_zero];exact FrsAt_nil _ _,⟨_,_,_,rfl⟩,Below.refl _ _⟩
 case round =>
  obtain ⟨j,hj,rfl,hfr,⟨oa,on,oc,rfl⟩,hb⟩:=hrel
  have HF:=hide hfr
  have HB:=hide hb
  cases j with
  | zero =>
   clear hfr hb
   go_wp2
   go_ret
   refine ⟨⟨_,rfl,?_⟩,uh HB⟩
   have:=uh HF
   rwa [Nat.sub_zero,List.take_of_length_le (by rw [uh HLN];exact Nat.le_refl _)] at this
  | succ j' =>
   have hj':j' < l.reverse.length:=by rw [List.length_reverse,← uh HLN];omega
   obtain ⟨e0,e1,e2⟩:=frCells_get l.reverse j' hj'
   obtain ⟨f,hf⟩:∃ f,f=l.reverse[j']:=⟨_,rfl⟩
   rw [← hf] at e0 e1 e2
   have hfl:l[len - (j' + 1)]?=some f:=by
    rw [hf,List.getElem_reverse]
    rw [List.getElem?_eq_getElem (by rw [uh HLN] at hj ⊢;omega)]
    congr 1
    simp only [uh HLN]
    congr 1
    omega
   obtain ⟨ga,hga⟩:∃ ga,va=some ⟨ga,0,none⟩:=by
    rcases (uh H).2 with ⟨_,h0⟩ | ⟨g,cap,cur,hv,_⟩
    ·omega
    ·cases hv;exact ⟨g,rfl⟩
   subst hga
   have c0:=cell_below hb (owns_cell (uh H) _ _ e0).1
   have c1:=cell_below hb (owns_cell (uh H) _ _ e1).1
   have c2:=cell_below hb (owns_cell (uh H) _ _ e2).1
   have hzz:w.heap.size≤wr.heap.size:=hb.size
   have HFL:=hide hfl
   clear e0 e1 e2 hf hfl hfr hb
   have hdl:(l.take (len - (j' + 1))).length=len - (j' + 1):=by rw [List.length_take,← uh HLN];omega
   have HA:=hide ((uh HF).below (below_new wr (.cells #[.int .i64 f.fn,.int .i64 f.line,.int .i64 f.frm] 42)))
   have HNW:Hid (∀ j u,([.int .i64 f.fn,.int .i64 f.line,.int .i64 f.frm]:List Value)[j]?=some u→(wr.alloc (.cells #[.int .i64 f.fn,.int .i64 f.line,.int .i64 f.frm] 42)).cell? ((⟨wr.heap.size,0,none⟩:Addr).add j)=some u) :=
    hide (World.news_of_block (cs:=#[.int .i64 f.fn,.int .i64 f.line,.int .i64 f.frm]) (t:=42) (fr:=(0,0)) (heap_alloc_new wr _))
   have HDL:=hide hdl
   have hm2:(l.take (len - (j' + 1))).length≤200:=by omega
   clear hdl
   obtain ⟨d,hd⟩:∃ d,d=l.take (len - (j' + 1)):=⟨_,rfl⟩
   rw [← hd] at HA HF HDL hm2
   have HD:=hide hd
   clear hd
   have hi1:(0:Int)≤(j':Int):=by omega
   have hi2:(j':Int) < (len:Int):=by omega
   have hi3:((j' + 1:Nat):Int) - 1=(j':Int):=by omega
   rw [hi3]
   clear hi3
   go_wp2_with (at_builtin;refine wpList_append_lies _ (by rfl) _ _ _ (by rfl) w.heap.size 42 i0 _ 3 24 Tryz.underlying35 (uh II).1 (uh II).2.1 (uh II).2.2.1 (uh II).2.2.2 rfl (by omega) (.slice oa on oc) d.length (frCells d) (by rfl) (uh HA) ⟨wr.heap.size,0,none⟩ 1 1 [.int .i64 f.fn,.int .i64 f.line,.int .i64 f.frm] (by rfl) (by rfl) (uh HNW) (by simp [Value.oneCell']) (by omega) (by unfold maxLen;omega) (by omega) (by simp;omega) (wr.heap.size + 1) (by simp) ?_;intro g2 cp2 w7 hown hgrow _ _;have HB7:Hid (Below w.heap.size w w7):=hide (Below.grown ((uh HB).alloc hzz _) hgrow (by simp;omega) (fun k hk=>((uh HA).lt k hk).1));have HO7:=hide hown;clear hown hgrow)
   go_roundw
   case rel =>
    refine ⟨j',by omega,rfl,?_,⟨_,_,_,rfl⟩,uh HB7⟩
    have e:l.take (len - j')=d ++ [f]:=by
     rw [show len - j'=(len - (j' + 1)) + 1 by omega,List.take_add_one,uh HFL,uh HD];rfl
    unfold FrsAt
    rw [e,List.length_append,frCells_app]
    exact uh HO7
   case measure=>simp [intOf]
end Go.Proofs.YtmnmeaeicjhkhaaGreatDoor
namespace Go.Proofs.YtmnmeaeicjhkhaaGreatDoor
open Go.RowKit
theorem eqFrame_any (a b c:Int) (w:World) :
  Calls Tryz.prog 177 #[.agg #[.int .i64 a,.int .i64 b,.int .i64 c],.agg #[.int .i64 a,.int .i64 b,.int .i64 c]] w fun e w'=>e=.returned (.bool true)∧Below w.heap.size w w':=by
 go_enter Tryz.func177,Tryz.ntmps177
 go_wp2
 go_ret
 exact ⟨rfl,((Below.refl _ _).alloc (Nat.le_refl _) _).alloc (by simp) _⟩
theorem FrsAt.cells {lo:Nat} {w:World} {a:Option Addr} {cap:Nat} {l:List Fr} (h:FrsAt lo w (.slice a l.length cap) l) (i:Nat) (hi:i < l.length) :
  ∃ g,a=some ⟨g,0,none⟩∧lo≤g∧g < w.heap.size∧w.cell? ⟨g,i * 3,none⟩=some (.int .i64 l[i].fn)∧w.cell? ⟨g,i * 3 + 1,none⟩=some (.int .i64 l[i].line)∧w.cell? ⟨g,i * 3 + 2,none⟩=some (.int .i64 l[i].frm):=by
 obtain ⟨e0,e1,e2⟩:=frCells_get l i hi
 have h':=h
 rcases h.2 with ⟨_,h0⟩ | ⟨g,cap',cur,hv,hB,hg,_⟩
 ·omega
 ·cases hv
  exact ⟨g,rfl,hB,(Array.getElem?_eq_some_iff.1 hg).1,(owns_cell h' _ _ e0).1,(owns_cell h' _ _ e1).1,(owns_cell h' _ _ e2).1⟩
theorem eqFrameS_any (lo lo':Nat) (v v':Value) (l:List Fr) (w:World) (hv:FrsAt lo w v l) (hv':FrsAt lo' w v' l) (hl:l.length≤200) :
  Calls Tryz.prog 132 #[v,v'] w fun e w'=>e=.returned (.bool true)∧Below w.heap.size w w':=by
 have HV:=hide hv
 have HV':=hide hv'
 obtain ⟨a,cap,rfl⟩:=owns_slice hv
 obtain ⟨a',cap',rfl⟩:=owns_slice hv'
 clear hv hv'
 obtain ⟨n,hn⟩:∃ n,n=l.length:=⟨_,rfl⟩
 have HN:=hide hn
 rw [← hn] at hl
 rw [← hn]
 clear hn
 go_enter Tryz.func132,Tryz.ntmps132
 go_wp2
 go_loopw [5] (fun i w'=>∃ (k:Nat),k≤n∧i=.int .i64 k∧Below w.heap.size w w') (fun i _=>n - (intOf i).toNat)
 case atStart=>exact ⟨0,by omega,rfl,Below.refl _ _⟩
 case round =>
  obtain ⟨k,hk,rfl,hb⟩:=hrel
  by_cases hlt:k < n
  ·have hkl:k < l.length:=by rw [← uh HN];exact hlt
   obtain ⟨g,rfl,-,-,c0,c1,c2⟩:=((uh HV).below hb).cells k hkl
   obtain ⟨g',rfl,-,-,d0,d1,d2⟩:=((uh HV').below hb).cells k hkl
   generalize l[k].fn=fa at *
   generalize l[k].line=fb at *
   generalize l[k].frm=fc at *
   have hi1:(0:Int)≤(k:Int):=by omega
   have hi2:(k:Int) < (n:Int):=by omega
   clear hkl
   go_wp2
   go_region_held3 (fun w'=>(w'.cell? ⟨g,k * 3,none⟩=some (.int .i64 fa)∧w'.cell? ⟨g,k * 3 + 1,none⟩=some (.int .i64 fb)∧w'.cell? ⟨g,k * 3 + 2,none⟩=some (.int .i64 fc))∧w'.cell? ⟨g',k * 3,none⟩=some (.int .i64 fa)∧w'.cell? ⟨g',k * 3 + 1,none⟩=some (.int .i64 fb)∧w'.cell? ⟨g',k * 3 + 2,none⟩=some (.int .i64 fc))
    (first | (exact ⟨⟨c0,c1,c2⟩,d0,d1,d2⟩) | (exact ⟨⟨cell_below hb1 c0,cell_below hb1 c1,cell_below hb1 c2⟩,cell_below hb1 d0,cell_below hb1 d1,cell_below hb1 d2⟩))
    ((go_at_call 177;refine (eqFrame_any _ _ _ _).mono ?_;rintro e w1 ⟨rfl,hb1⟩))
   go_wp2
   go_roundw
   case rel=>exact ⟨k + 1,by omega,by go_num,hb.drew.trans (hb1.mono (by simpa using hb.size))⟩
   case measure=>simp [intOf];omega
  ·go_wp2
   go_ret
   exact ⟨rfl,hb⟩
end Go.Proofs.YtmnmeaeicjhkhaaGreatDoor
namespace Go.Proofs.YtmnmeaeicjhkhaaGreatDoor
open Go.RowKit
theorem markText_any (k:Int) (w:World) (h1:0 < k) (h2:k≤4398046511104) :
  Calls Tryz.prog 78 #[.int .i64 k] w fun e w'=>(∃ s,e=.returned (.string s))∧Below w.heap.size w w':=by
 go_enter Tryz.func78,Tryz.ntmps78
 go_wp2
 go_loopw [0,3] (fun q o wr=>∃ (z:Int) (s:ByteArray),q=.int .i64 z∧o=.string s∧0≤z∧z + s.size≤k∧Below w.heap.size w wr) (fun q _ _=>(intOf q).toNat)
 case atStart=>exact ⟨k,ByteArray.empty,rfl,rfl,by omega,by simp,Below.refl _ _⟩
 case round =>
  obtain ⟨z,s,rfl,rfl,hz,hs,hb⟩:=hrel
  have HB:=hide hb
  clear hb
  by_cases hlt:0 < z
  ·have hcv:∀ d:Int,Sem.run Tryz.prog (convert 22 9 (.slice (some ⟨wr.heap.size,0,none⟩) 1 1)) (wr.alloc (.cells #[.int .u8 d] 5))=.ok (.string (strOfNums [d])) (wr.alloc (.cells #[.int .u8 d] 5)):=fun d=>by
    refine run_convert_bytes_arg (P:=Tryz.prog) (w:=wr.alloc (.cells #[.int .u8 d] 5)) 22 5 Tryz.underlying22 Tryz.underlying5 wr.heap.size 0 1 1 [d] rfl (fun i hi=>?_) 9 Tryz.underlying9
    have e:i=0:=by omega
    subst e
    rw [cell_alloc_at _ _ _ _ _ rfl];rfl
   have hsz:∀ d:Int,(strOfNums [d]).size=1:=fun d=>strOfNums_size [d]
   go_wp2
   refine ⟨⟨z / 10,_,rfl,rfl,by omega,?_,(uh HB).alloc (uh HB).size _⟩,?_⟩
   ·rw [ByteArray.size_append,hsz];omega
   ·simp only [intOf];omega
  ·go_wp2
   go_ret
   exact ⟨⟨_,rfl⟩,uh HB⟩
end Go.Proofs.YtmnmeaeicjhkhaaGreatDoor
namespace Go.Proofs.YtmnmeaeicjhkhaaGreatDoor
open Go.RowKit
def plainV:Value→Bool
 | .int _ _=>true
 | .string _=>true
 | _=>false
structure Betw (lo hi:Nat) (w w':World):Prop where
 os:w'.os=w.os
 tape:w'.tape=w.tape
 output:w'.output=w.output
 size:w.heap.size≤w'.heap.size
 block:∀ b,b < w.heap.size→(b < lo∨hi≤b)→w'.heap[b]?=w.heap[b]?
 fz:∀ p:Addr,p.block < w.heap.size→w'.frozen? p=w.frozen? p
 pl:∀ (p:Addr) (u:Value),w.cell? p=some u→plainV u=true→∃ u',w'.cell? p=some u'∧plainV u'=true
 fix:∀ (p:Addr) (u:Value),w.cell? p=some u→plainV u=false→w'.cell? p=some u
theorem Betw.refl (lo hi:Nat) (w:World):Betw lo hi w w:=⟨rfl,rfl,rfl,Nat.le_refl _,fun _ _ _=>rfl,fun _ _=>rfl,fun _ u h e=>⟨u,h,e⟩,fun _ _ h _=>h⟩
theorem Betw.trans {lo hi:Nat} {a b c:World} (h:Betw lo hi a b) (k:Betw lo hi b c):Betw lo hi a c :=
 ⟨k.os.trans h.os,k.tape.trans h.tape,k.output.trans h.output,Nat.le_trans h.size k.size,fun i hi' hr=>(k.block i (Nat.lt_of_lt_of_le hi' h.size) hr).trans (h.block i hi' hr),
  fun p hp=>(k.fz p (Nat.lt_of_lt_of_le hp h.size)).trans (h.fz p hp),
  fun p u hu e=>by obtain ⟨u1,h1,e1⟩:=h.pl p u hu e;exact k.pl p u1 h1 e1,
  fun p u hu e=>k.fix p u (h.fix p u hu e) e⟩
theorem Betw.of_below {w w':World} (lo hi:Nat) (h:Below w.heap.size w w'):Betw lo hi w w' :=
 ⟨h.os,h.tape,h.output,h.size,fun b hb _=>h.block b hb,fun _ hp=>h.frozen hp,fun _ u hu e=>⟨u,cell_below h hu,e⟩,fun _ _ hu _=>cell_below h hu⟩
theorem Betw.setCell {lo hi:Nat} {a w:World} (h:Betw lo hi a w) {p:Addr} {u0 u:Value} (h1:lo≤p.block) (h2:p.block < hi) (hc:w.cell? p=some u0) (e0:plainV u0=true) (e:plainV u=true):Betw lo hi a (w.setCell p u):=by
 refine h.trans ⟨rfl,rfl,rfl,by simp [World.setCell],fun b _ hr=>Below.heap_setCell _ _ _ _ (by omega),fun q _=>World.frozen?_setCell ..,fun q v hv ev=>?_,fun q v hv ev=>?_⟩
 ·by_cases hq:q=p
  ·subst hq
   exact ⟨u,World.cell?_setCell_same' _ _ _ (by rw [hc];rfl),e⟩
  ·exact ⟨v,by rw [World.cell?_setCell_other _ _ _ _ (fun h=>hq h.symm)];exact hv,ev⟩
 ·by_cases hq:q=p
  ·subst hq
   rw [hc] at hv
   cases hv
   rw [e0] at ev
   cases ev
  ·rw [World.cell?_setCell_other _ _ _ _ (fun h=>hq h.symm)];exact hv
theorem Betw.below {lo hi:Nat} {w w':World} (h:Betw lo hi w w') (hl:lo≤w.heap.size):Below lo w w':=⟨h.os,h.tape,h.output,h.size,fun b hb=>h.block b (by omega) (.inl hb)⟩
def Mk (lo hi:Nat) (w:World) (p:Addr):Prop:=lo≤p.block∧p.block < hi∧(∃ u,w.cell? p=some u∧plainV u=true)∧w.frozen? p=false
theorem Mk.go {lo hi:Nat} {w w':World} {p:Addr} (h:Mk lo hi w p) (hb:Betw lo hi w w'):Mk lo hi w' p:=by
 obtain ⟨h1,h2,⟨u,hu,e⟩,h4⟩:=h
 exact ⟨h1,h2,hb.pl p u hu e,by rw [hb.fz p (cell_lt hu)];exact h4⟩
theorem Mk.set {lo hi:Nat} {a w:World} {p:Addr} {u:Value} (h:Mk lo hi w p) (hb:Betw lo hi a w) (e:plainV u=true):Betw lo hi a (w.setCell p u):=by
 obtain ⟨h1,h2,⟨u0,hu,e0⟩,h4⟩:=h
 exact hb.setCell h1 h2 hu e0 e
def StrsM (lo hi:Nat) (w:World) (v:Value) (n:Nat):Prop :=
 ∃ a cap,v=.slice a n cap∧∀ i,i < n→∃ b o,a=some ⟨b,o,none⟩∧Mk lo hi w ⟨b,o + i,none⟩
def VarsM (lo hi:Nat) (w:World) (v:Value) (n:Nat):Prop :=
 ∃ a cap,v=.slice a n cap∧∀ i,i < n→∃ b o,a=some ⟨b,o,none⟩∧Mk lo hi w ⟨b,o + i * 2,none⟩∧Mk lo hi w ⟨b,o + i * 2 + 1,none⟩
def MomsM (lo hi:Nat) (w:World) (v:Value) (n:Nat):Prop :=
 ∃ a cap,v=.slice a n cap∧∀ i,i < n→∃ b o vv m,a=some ⟨b,o,none⟩∧(Mk lo hi w ⟨b,o + i * 6,none⟩∧Mk lo hi w ⟨b,o + i * 6 + 1,none⟩∧Mk lo hi w ⟨b,o + i * 6 + 2,none⟩∧Mk lo hi w ⟨b,o + i * 6 + 3,none⟩∧Mk lo hi w ⟨b,o + i * 6 + 4,none⟩) ∧
  w.cell? ⟨b,o + i * 6 + 5,none⟩=some vv∧VarsM lo hi w vv m∧m≤1048576
theorem StrsM.go {lo hi:Nat} {w w':World} {v:Value} {n:Nat} (h:StrsM lo hi w v n) (hb:Betw lo hi w w'):StrsM lo hi w' v n:=by
 obtain ⟨a,cap,hv,h⟩:=h
 refine ⟨a,cap,hv,fun i hi=>?_⟩
 obtain ⟨b,o,ha,h1⟩:=h i hi
 exact ⟨b,o,ha,h1.go hb⟩
theorem VarsM.go {lo hi:Nat} {w w':World} {v:Value} {n:Nat} (h:VarsM lo hi w v n) (hb:Betw lo hi w w'):VarsM lo hi w' v n:=by
 obtain ⟨a,cap,hv,h⟩:=h
 refine ⟨a,cap,hv,fun i hi=>?_⟩
 obtain ⟨b,o,ha,h1,h2⟩:=h i hi
 exact ⟨b,o,ha,h1.go hb,h2.go hb⟩
theorem MomsM.go {lo hi:Nat} {w w':World} {v:Value} {n:Nat} (h:MomsM lo hi w v n) (hb:Betw lo hi w w'):MomsM lo hi w' v n:=by
 obtain ⟨a,cap,hv,h⟩:=h
 refine ⟨a,cap,hv,fun i hi=>?_⟩
 obtain ⟨b,o,vv,m,ha,⟨h0,h1,h2,h3,h4⟩,hc,hvv,hm⟩:=h i hi
 refine ⟨b,o,vv,m,ha,⟨h0.go hb,h1.go hb,h2.go hb,h3.go hb,h4.go hb⟩,hb.fix _ _ hc ?_,hvv.go hb,hm⟩
 obtain ⟨a',cap',rfl,_⟩:=hvv
 rfl
theorem Mine.mk {lo:Nat} {w:World} {p:Addr} {u:Value} (hl:lo ≠ 0) (h:Mine lo w p) (hc:w.cell? p=some u) (e:plainV u=true):Mk lo w.heap.size w p:=⟨h.1,cell_lt hc,⟨u,hc,e⟩,h.2 hl⟩
theorem StrsAt.marks {lo:Nat} {w:World} {v:Value} {n:Nat} {f:Nat→ByteArray} (hl:lo ≠ 0) (h:StrsAt lo w v n f):StrsM lo w.heap.size w v n:=by
 obtain ⟨a,cap,hv,hn,h⟩:=h
 refine ⟨a,cap,hv,fun i hi=>?_⟩
 obtain ⟨b,o,ha,h1,h2,h3⟩:=h i hi
 exact ⟨b,o,ha,h3.mk hl h1 rfl⟩
theorem VarsAt.marks {lo:Nat} {w:World} {v:Value} {n:Nat} {f:Nat→V} (hl:lo ≠ 0) (h:VarsAt lo w v n f):VarsM lo w.heap.size w v n:=by
 obtain ⟨a,cap,hv,hn,h⟩:=h
 refine ⟨a,cap,hv,fun i hi=>?_⟩
 obtain ⟨b,o,ha,h1,h2,h3,h4,h5,h6⟩:=h i hi
 exact ⟨b,o,ha,h5.mk hl h1 rfl,h6.mk hl h2 rfl⟩
theorem MomsAt.marks {lo:Nat} {w:World} {v:Value} {n:Nat} {f:Nat→M} (hl:lo ≠ 0) (h:MomsAt lo w v n f) (hnv:∀ i,i < n→(f i).nv≤1048576):MomsM lo w.heap.size w v n:=by
 obtain ⟨a,cap,hv,hn,h⟩:=h
 refine ⟨a,cap,hv,fun i hi=>?_⟩
 obtain ⟨b,o,vv,ha,h0,h1,h2,h3,h4,h5,h6,h7,h8⟩:=h i hi
 exact ⟨b,o,vv,_,ha,⟨(h8 0 (by omega)).mk hl h0 rfl,(h8 1 (by omega)).mk hl h1 rfl,(h8 2 (by omega)).mk hl h2 rfl,(h8 3 (by omega)).mk hl h3 rfl,(h8 4 (by omega)).mk hl h4 rfl⟩,h5,h7.marks hl,hnv i hi⟩
theorem markStringS_any (lo hi:Nat) (v:Value) (n:Nat) (k:Int) (w:World) (hv:StrsM lo hi w v n) (hn:n≤1048576) (hk:0 < k) (hk2:k + n≤4398046511104) :
  Calls Tryz.prog 76 #[v,.int .i64 k] w fun e w'=>e=.returned (.int .i64 (k + n))∧Betw lo hi w w':=by
 have HV:=hide hv
 obtain ⟨a,cap,rfl,_⟩:=hv
 go_enter Tryz.func76,Tryz.ntmps76
 go_wp2
 go_loopw [1,5] (fun q i wr=>∃ (j:Nat),j≤n∧q=.int .i64 (k + j)∧i=.int .i64 j∧Betw lo hi w wr) (fun _ i _=>n - (intOf i).toNat)
 case atStart=>exact ⟨0,by omega,by simp,rfl,Betw.refl _ _ _⟩
 case round =>
  obtain ⟨j,hj,rfl,rfl,hb⟩:=hrel
  have HB:=hide hb
  clear hb
  by_cases hlt:j < n
  ·obtain ⟨a',cap',e,hv⟩:=(uh HV).go (uh HB)
   cases e
   obtain ⟨b,o,rfl,hm⟩:=hv j hlt
   clear hv
   have HM:=hide hm
   clear hm
   go_wp2_with fail
   refine (markText_any _ _ (by omega) (by omega)).mono ?_
   rintro e w1 ⟨⟨s,rfl⟩,hb1⟩
   have HB1:=hide ((uh HB).trans (Betw.of_below lo hi hb1))
   have HM1:=hide ((uh HM).go (Betw.of_below lo hi hb1))
   obtain ⟨-,-,⟨u,hc,-⟩,hf⟩:=uh HM1
   clear hb1 HM HB
   go_wp2
   go_roundw
   case rel=>exact ⟨j + 1,by omega,by go_num,by go_num,(uh HM1).set (uh HB1) rfl⟩
   case measure=>simp [intOf];omega
  ·have e:j=n:=by omega
   subst e
   go_wp2
   go_ret
   exact ⟨rfl,uh HB⟩
theorem markVarS_any (lo hi:Nat) (v:Value) (n:Nat) (k:Int) (w:World) (hv:VarsM lo hi w v n) (hn:n≤1048576) (hk:0 < k) (hk2:k + n * 2≤4398046511104) :
  Calls Tryz.prog 80 #[v,.int .i64 k] w fun e w'=>e=.returned (.int .i64 (k + n * 2))∧Betw lo hi w w':=by
 have HV:=hide hv
 obtain ⟨a,cap,rfl,_⟩:=hv
 go_enter Tryz.func80,Tryz.ntmps80
 go_wp2
 go_loopw [1,5] (fun q i wr=>∃ (j:Nat),j≤n∧q=.int .i64 (k + j * 2)∧i=.int .i64 j∧Betw lo hi w wr) (fun _ i _=>n - (intOf i).toNat)
 case atStart=>exact ⟨0,by omega,by simp,rfl,Betw.refl _ _ _⟩
 case round =>
  obtain ⟨j,hj,rfl,rfl,hb⟩:=hrel
  have HB:=hide hb
  clear hb
  by_cases hlt:j < n
  ·obtain ⟨a',cap',e,hv⟩:=(uh HV).go (uh HB)
   cases e
   obtain ⟨b,o,rfl,hm,hm2⟩:=hv j hlt
   clear hv
   have HM:=hide (And.intro hm hm2)
   clear hm hm2
   go_wp2_with fail
   refine (markText_any _ _ (by omega) (by omega)).mono ?_
   rintro e w1 ⟨⟨s,rfl⟩,hb1⟩
   have HB1:=hide ((uh HB).trans (Betw.of_below lo hi hb1))
   have HM1:=hide ((uh HM).1.go (Betw.of_below lo hi hb1))
   have HM2:=hide ((uh HM).2.go (Betw.of_below lo hi hb1))
   obtain ⟨-,-,⟨u,hc,-⟩,hf⟩:=uh HM1
   have HX:=hide ((uh HM1).set (u:=.string s) (Betw.refl lo hi w1) rfl)
   clear hb1 HM HB
   go_wp2_with fail
   refine (markText_any _ _ (by omega) (by omega)).mono ?_
   rintro e w2 ⟨⟨s2,rfl⟩,hb2⟩
   have HB2:=hide (((uh HB1).trans (uh HX)).trans (Betw.of_below lo hi hb2))
   have HM3:=hide (((uh HM2).go (uh HX)).go (Betw.of_below lo hi hb2))
   obtain ⟨-,-,⟨u2,hc2,-⟩,hf2⟩:=uh HM3
   clear hb2 hc hf
   go_wp2
   go_roundw
   case rel=>exact ⟨j + 1,by omega,by go_num,by go_num,(uh HM3).set (uh HB2) rfl⟩
   case measure=>simp [intOf];omega
  ·have e:j=n:=by omega
   subst e
   go_wp2
   go_ret
   exact ⟨rfl,uh HB⟩
end Go.Proofs.YtmnmeaeicjhkhaaGreatDoor
namespace Go.Proofs.YtmnmeaeicjhkhaaGreatDoor
open Go.RowKit
theorem frCells_set:∀ (l:List Fr) (j:Nat) (f:Fr),frCells (l.set j f)=if j < l.length then (((frCells l).set (j * 3) (.int .i64 f.fn)).set (j * 3 + 1) (.int .i64 f.line)).set (j * 3 + 2) (.int .i64 f.frm) else frCells l
 | [],j,f=>by simp
 | x :: r,0,f=>by simp [List.set];rfl
 | x :: r,j + 1,f=>by
  have ih:=frCells_set r j f
  have e:∀ (x:Fr) (r:List Fr),frCells (x :: r)=.int .i64 x.fn :: .int .i64 x.line :: .int .i64 x.frm :: frCells r:=fun _ _=>rfl
  rw [sx3,e,e,ih]
  by_cases h:j < r.length
  ·rw [if_pos h,if_pos (by simpa using h),show (j + 1) * 3=j * 3 + 1 + 1 + 1 by omega]
   simp only [sx3]
  ·rw [if_neg h,if_neg (by simpa using h)]
end Go.Proofs.YtmnmeaeicjhkhaaGreatDoor
