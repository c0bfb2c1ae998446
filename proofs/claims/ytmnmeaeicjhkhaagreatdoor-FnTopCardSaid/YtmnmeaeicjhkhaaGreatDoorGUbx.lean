import Derived.Test.YtmnmeaeicjhkhaaGreatDoorShelfBx
import Derived.Lib.AppendIntMem
import Derived.Lib.SmallJoins
import Derived.Test.YtmnmeaeicjhkhaaGreatDoorC8x
import Derived.Test.YtmnmeaeicjhkhaaGreatDoorGJbx
set_option maxRecDepth 100000
set_option maxHeartbeats 16000000
namespace Go.Proofs.YtmnmeaeicjhkhaaGreatDoor
section
open Go.RowKit Go.Lib
def dS (u:Nat):ByteArray:=⟨(Lib.decDigits u).toArray⟩
theorem u8_wrap (n:Int):IntKind.u8.wrap n=n % 256:=by simp [IntKind.wrap,IntKind.bits,IntKind.signed]
theorem conv_dig (W:World) (b:Nat) (d:Int) (h:W.cell? ⟨b,0,none⟩=some (.int .u8 d)):Sem.run Tryz.prog (convert 22 9 (.slice (some ⟨b,0,none⟩) 1 1)) W=.ok (.string (strOfNums [d])) W:=by
 refine run_convert_bytes_arg (P:=Tryz.prog) (w:=W) 22 5 Tryz.underlying22 Tryz.underlying5 b 0 1 1 [d] rfl (fun i hi=>?_) 9 Tryz.underlying9
 have e:i=0:=by omega
 subst e
 exact h
theorem bytes_ext {a b:ByteArray} (h:a.data=b.data):a=b:=by cases a;cases b;simpa using h
theorem yU (a b:List UInt8):(⟨a.toArray⟩:ByteArray) ++ ⟨b.toArray⟩=⟨(a ++ b).toArray⟩:=bytes_ext (by simp)
def bD0 (u m:Nat) (out:ByteArray):Prop:=∃ l:List UInt8,out=⟨l.toArray⟩/\Lib.decDigits u=Lib.decDigits m ++ l
theorem bD0.step {u m:Nat} {out:ByteArray} (h:bD0 u m out) (hm:¬ m<10):bD0 u (m / 10) (strOfNums [48+((m % 10:Nat):Int)] ++ out):=by
 obtain ⟨l,rfl,h⟩:=h
 refine ⟨UInt8.ofNat (48+m % 10) :: l,?_,?_⟩
 ·have e:strOfNums [48+((m % 10:Nat):Int)]=⟨[UInt8.ofNat (48+m % 10)].toArray⟩:=by
   unfold strOfNums
   have:(48+((m % 10:Nat):Int)).toNat=48+m % 10:=by omega
   simp only [List.map_cons,List.map_nil,this]
  rw [e,yU];rfl
 rw [h]
 conv=>lhs;rw [Lib.decDigits,dif_neg hm]
 rw [List.append_assoc];rfl
theorem bD0.last {u m:Nat} {out:ByteArray} (h:bD0 u m out) (hm:m<10):strOfNums [48+((m % 10:Nat):Int)] ++ out=dS u:=by
 obtain ⟨l,rfl,h⟩:=h
 have e:strOfNums [48+((m % 10:Nat):Int)]=⟨[UInt8.ofNat (48+m)].toArray⟩:=by
  unfold strOfNums
  have:(48+((m % 10:Nat):Int)).toNat=48+m:=by omega
  simp only [List.map_cons,List.map_nil,this]
 rw [e,yU]
 unfold dS
 rw [h]
 conv=>rhs;rw [Lib.decDigits,dif_pos hm]
theorem yV (u:Nat):(Lib.decDigits u).length<=u+1:=by
 induction u using Nat.strongRecOn with
 | ind u ih =>
  by_cases h:u<10
  ·rw [Lib.decDigits,dif_pos h];simp
  have h2:=ih (u / 10) (by omega)
  rw [Lib.decDigits,dif_neg h,List.length_append]
  simp only [List.length_cons,List.length_nil]
  omega
theorem bD0.size {u m:Nat} {out:ByteArray} (h:bD0 u m out):out.size<=u+1:=by
 obtain ⟨l,rfl,h⟩:=h
 have h1:=yV u
 rw [h,List.length_append] at h1
 show l.toArray.size<=u+1
 simp only [List.size_toArray]
 omega
theorem dig_size (d:Int):(strOfNums [d]).size=1:=rfl
theorem jB (u:Nat) (w:World) (hu:u<=1000000) :
  Calls Tryz.prog 50 #[.int .i64 (u:Int)] w fun e w'=>e=.returned (.string (dS u))/\Below w.heap.size w w':=by
 have h0:¬ (u:Int)<0:=by omega
 go_enter Tryz.func50,Tryz.ntmps50
 go_wp2_with fail
 go_loopg [0,3] u (fun gg nv ov W=>nv=.int .i64 (gg:Int)/\gg<=1000000/\(∃ out,ov=.string out/\bD0 u gg out)/\Below w.heap.size w W)
 case atStart=>exact ⟨rfl,hu,⟨_,rfl,[],rfl,by simp⟩,Below.refl _ _⟩
 case round =>
  obtain ⟨rfl,hg,⟨out,rfl,hd⟩,hb⟩:=hrel
  have HD:=O hd
  have HB:=O hb
  clear hd hb
  have wl:IntKind.i64.wrap (48+(gk:Int) % 10)=48+(gk:Int) % 10:=by rw [IntKind.wrap_i64];omega
  have wu:IntKind.u8.wrap (48+(gk:Int) % 10)=48+(gk:Int) % 10:=by rw [u8_wrap];omega
  have ec:=conv_dig (wr.alloc (.cells #[.int .u8 (48+(gk:Int) % 10)] 5)) wr.heap.size (48+(gk:Int) % 10) (by rw [cell_of_row _ _ 0 _ _ _ (heap_alloc_new wr _)];rfl)
  have ed:(48:Int)+(gk:Int) % 10=48+((gk % 10:Nat):Int):=by omega
  have HED:=O ed
  clear ed
  have HBN:=O ((Z HB).trans ((bH wr (.cells #[.int .u8 (48+(gk:Int) % 10)] 5)).mono (Z HB).size))
  have hos:=(Z HD).size
  have hds:=dig_size (48+(gk:Int) % 10)
  have hcs:¬ (9223372036854775807:Int)<((1+out.size:Nat):Int):=by omega
  have hcs2:((1+out.size:Nat):Int)<=9223372036854775807:=by omega
  by_cases h10:gk<10
  ·have hb:((gk:Int) / 10 == 0)=true:=by simp;omega
   have HL:=O ((Z HD).last h10)
   clear h10
   go_wp2
   go_ret
   exact ⟨by rw [<- Z HL,<- Z HED];rfl,Z HBN⟩
  have hb:((gk:Int) / 10 == 0)=false:=by simp;omega
  have HS:=O ((Z HD).step h10)
  have hlt:gk / 10<gk:=by omega
  have hle:gk / 10<=1000000:=by omega
  clear h10
  go_wp2_with fail
  go_roundg (gk / 10)
  case measure=>exact hlt
  case rel=>exact ⟨by go_num,hle,⟨_,rfl,by rw [Z HED];exact Z HS⟩,Z HBN⟩
end
section
open Go.RowKit Go.Shelf
abbrev tB:TypeId:=93
abbrev tU:TypeId:=5
theorem yW:(Tryz.prog.info? tB).map (·.size)=some 2:=by kernel_rfl
theorem lies_builder:liesAt Tryz.prog Tryz.prog.depth tB (2 / Tryz.prog.cellsOf tB) 0 tB 1=true:=by kernel_rfl
theorem info_byte:(Tryz.prog.info? tU).map (fun i=>(i.zero,i.size,i.bytes))=some (some (.int .u8 0),1,1):=by kernel_rfl
theorem bK6 (b:Nat) (w:World) (h0:w.cell? ⟨b,0,none⟩=some (.pointer (some ⟨b,0,none⟩))) :
  Calls Tryz.prog 120 #[.pointer (some ⟨b,0,none⟩)] w fun e w'=>e=.returned (.tuple #[])/\w'=w:=by
 obtain ⟨j,hj,_⟩:=Option.map_eq_some_iff.1 yW
 go_enter Tryz.func120,Tryz.ntmps120
 go_wp2
 rw [Lib.run_neq_ptr_same w _ Tryz.underlying91 hj]
 go_wp2
 go_end0
 exact ⟨rfl,rfl⟩
theorem bE0 (b:Nat) (w:World) (h0:w.cell? ⟨b,0,none⟩=some (.pointer none)) (hsh:w.shape? b=some (tB,2)) (hfz:w.frozen? ⟨b,0,none⟩=false) :
  Calls Tryz.prog 120 #[.pointer (some ⟨b,0,none⟩)] w fun e w'=>e=.returned (.tuple #[])/\w'=w.setCell ⟨b,0,none⟩ (.pointer (some ⟨b,0,none⟩)):=by
 obtain ⟨j,hj,hjs⟩:=Option.map_eq_some_iff.1 yW
 go_enter Tryz.func120,Tryz.ntmps120
 go_wp2
 rw [Lib.run_to_unsafe w ⟨b,0,none⟩ Tryz.underlying91 Tryz.underlying241 hj (by rw [hjs];decide) hsh (Nat.zero_lt_succ 1)]
 simp only [Result.andThen]
 rw [Oper.upon_value]
 go_wp2
 rw [run_callFunc_extern Tryz.func168 (by kernel_rfl) (by kernel_rfl) (by kernel_rfl) (e:=Extern.AbiNoEscape.same) (by kernel_rfl)]
 rw [Lib.run_noEscape]
 simp only [Result.andThen]
 rw [Oper.upon_value]
 go_wp2
 rw [Lib.run_from_unsafe w ⟨b,0,none⟩ Tryz.underlying241 Tryz.underlying91 hj hsh lies_builder]
 simp only [Result.andThen]
 rw [Oper.upon_value]
 go_wp2
 go_end0
 exact ⟨rfl,rfl⟩
end
section
open Go.RowKit Go.Lib
def bl (b:ByteArray):List UInt8:=b.data.toList
theorem bA1 (b:ByteArray):(bl b).length=b.size:=by cases b;rfl
theorem vD (s:ByteArray):Lib.strCells s=Lib.byteCells (bl s):=rfl
theorem qT (a b:List UInt8):Lib.byteCells (a ++ b)=Lib.byteCells a ++ Lib.byteCells b:=List.map_append ..
def pT (i:Nat) (name:ByteArray) (c s t:Nat):ByteArray :=
 ((((((((dS i ++ ⟨#[32]⟩) ++ name) ++ ⟨#[32,99,97,108,108,115,32]⟩) ++ dS c) ++ ⟨#[32,115,101,108,102,32]⟩) ++ dS s) ++ ⟨#[32,116,111,116,97,108,32]⟩) ++ dS t) ++ ⟨#[10]⟩
def vE (a b:Nat):ByteArray:=(((⟨#[9]⟩ ++ dS a) ++ ⟨#[32]⟩) ++ dS b) ++ ⟨#[10]⟩
theorem dU {u:Nat} (h:u<=100000):(dS u).size<=100001:=by
 have:=yV u
 show (Lib.decDigits u).toArray.size<=_
 simp only [List.size_toArray]
 omega
theorem rW {i c s t:Nat} {name:ByteArray} (hi:i<=100000) (hc:c<=100000) (hs:s<=100000) (ht:t<=100000) (hn:name.size<=40):(pT i name c s t).size<=500000:=by
 have h1:=dU hi
 have h2:=dU hc
 have h3:=dU hs
 have h4:=dU ht
 unfold pT
 simp only [ByteArray.size_append]
 have e1:(⟨#[32]⟩:ByteArray).size=1:=rfl
 have e2:(⟨#[32,99,97,108,108,115,32]⟩:ByteArray).size=7:=rfl
 have e3:(⟨#[32,115,101,108,102,32]⟩:ByteArray).size=6:=rfl
 have e4:(⟨#[32,116,111,116,97,108,32]⟩:ByteArray).size=7:=rfl
 have e5:(⟨#[10]⟩:ByteArray).size=1:=rfl
 omega
theorem lineT_size {a b:Nat} (ha:a<=100000) (hb:b<=100000):(vE a b).size<=250000:=by
 have h1:=dU ha
 have h2:=dU hb
 unfold vE
 simp only [ByteArray.size_append]
 have e1:(⟨#[9]⟩:ByteArray).size=1:=rfl
 have e2:(⟨#[32]⟩:ByteArray).size=1:=rfl
 have e3:(⟨#[10]⟩:ByteArray).size=1:=rfl
 omega
def jG (i:Nat) (l:List Lc) (q:Nat):List UInt8:=(l.take q).flatMap fun r=>if r.fn=(i:Int) then bl (vE r.line.toNat r.cnt.toNat) else []
theorem vF (i:Nat) (l:List Lc):jG i l 0=[]:=rfl
theorem vG (i:Nat) (l:List Lc) (q:Nat) (h:q<l.length):jG i l (q+1)=jG i l q ++ if l[q].fn=(i:Int) then bl (vE l[q].line.toNat l[q].cnt.toNat) else []:=by
 unfold jG
 have h1:l.take (q+1)=l.take q ++ [l[q]]:=by rw [List.take_add_one,List.getElem?_eq_getElem h];rfl
 rw [h1,List.flatMap_append]
 simp
def tF (f:Nat->M) (n:Nat) (fns:Nat->ByteArray) (l:List Lc) (i:Nat):List UInt8 :=
 if dQ f n i 1=0 then [] else bl (pT i (fns i) (dQ f n i 1).toNat (dQ f n i 2).toNat (dQ f n i 3).toNat) ++ jG i l l.length
def mD (f:Nat->M) (n:Nat) (fns:Nat->ByteArray) (l:List Lc):Nat->List UInt8
 | 0=>[]
 | k+1=>mD f n fns l k ++ tF f n fns l k
def SmallL (l:List Lc):Prop:=l.length<=3000/\∀ r,r∈l->0<=r.line/\r.line<=100000/\0<=r.cnt/\r.cnt<=100000
theorem rX {i:Nat} {l:List Lc} (h:SmallL l):∀ q,q<=l.length->(jG i l q).length<=q*250000
 | 0,_=>by rw [vF,Nat.zero_mul];exact Nat.le_refl 0
 | q+1,hq=>by
  have ih:=rX h (i:=i) q (by omega)
  rw [vG _ _ _ (by omega),List.length_append]
  have hr:=h.2 l[q] (List.getElem_mem (by omega))
  have hz:=lineT_size (a:=l[q].line.toNat) (b:=l[q].cnt.toNat) (by omega) (by omega)
  have e:(if l[q].fn=(i:Int) then bl (vE l[q].line.toNat l[q].cnt.toNat) else []).length<=250000:=by
   by_cases hc:l[q].fn=(i:Int)
   ·rw [if_pos hc,bA1];exact hz
   rw [if_neg hc];exact Nat.zero_le _
  rw [Nat.add_mul,Nat.one_mul]
  exact Nat.add_le_add ih e
theorem repFn_len {f:Nat->M} {n:Nat} {fns:Nat->ByteArray} {l:List Lc} {i:Nat} (h:SmallL l) (hn:n<=3000) (hi:i<=300) (hf:(fns i).size<=40):(tF f n fns l i).length<=800000000:=by
 unfold tF
 split
 ·exact Nat.zero_le _
 have b1:=dN f i 1 (by omega) n
 have b2:=dN f i 2 (by omega) n
 have b3:=dN f i 3 (by omega) n
 have h1:=rW (i:=i) (name:=fns i) (c:=(dQ f n i 1).toNat) (s:=(dQ f n i 2).toNat) (t:=(dQ f n i 3).toNat) (by omega) (by omega) (by omega) (by omega) hf
 have h2:=rX (i:=i) h l.length (Nat.le_refl _)
 have h3:=h.1
 rw [List.length_append,bA1]
 omega
theorem bA2 {f:Nat->M} {n:Nat} {fns:Nat->ByteArray} {l:List Lc} (h:SmallL l) (hn:n<=3000):∀ k,k<=300->(∀ i,i<k->(fns i).size<=40)->(mD f n fns l k).length<=k*800000000
 | 0,_,_=>by rw [Nat.zero_mul];exact Nat.le_refl 0
 | k+1,hk,hf=>by
  have ih:=bA2 (f:=f) h hn k (by omega) (fun i hi=>hf i (by omega))
  have h2:=repFn_len (f:=f) (n:=n) (fns:=fns) (i:=k) h hn (by omega) (hf k (by omega))
  show (mD f n fns l k ++ tF f n fns l k).length<=_
  rw [List.length_append]
  omega
theorem small_of {nf:Nat} {fns:Nat->ByteArray} {n:Nat} {f:Nat->M} {l:List Lc} (hS:cB nf fns n f) (h:kT f n l):SmallL l:=by
 have hn:=hS.1.2.2.1
 refine ⟨by have:=h.len;omega,fun r hr=>?_⟩
 obtain ⟨e,hc⟩:=h.cnt r hr
 have hb:=rD f r.fn r.line n
 have hex:∀ k,1<=lcN f k r.fn r.line->∃ i,i<k/\(f i).line=r.line:=by
  intro k
  induction k with
  | zero=>intro h0;exact absurd (show (1:Int)<=0 from h0) (by decide)
  | succ k ih =>
   intro h0
   rw [gX] at h0
   by_cases e:(f k).kind=1/\(f k).fn=r.fn/\(f k).line=r.line
   ·exact ⟨k,by omega,e.2.2⟩
   rw [if_neg e] at h0
   obtain ⟨i,hi,h2⟩:=ih (by omega)
   exact ⟨i,by omega,h2⟩
 obtain ⟨i,hi,e2⟩:=hex n (by omega)
 have hm:=(hS.2.1 i hi).1
 have h3:0<=(f i).line:=hm.2.2.2.2.2.2.1
 have h4:(f i).line<=100000:=hm.2.2.2.2.2.2.2.1
 omega
def bR4 (nf:Nat) (fns:Nat->ByteArray) (n:Nat) (f:Nat->M) (s:ByteArray):Prop :=
 (cB nf fns n f/\∃ l,kT f n l/\s=⟨(mD f n fns l nf).toArray⟩)∨(¬ cB nf fns n f/\s=⟨#[]⟩)
theorem bR4.unique {nf:Nat} {fns:Nat->ByteArray} {n:Nat} {f:Nat->M} {s1 s2:ByteArray} (h1:bR4 nf fns n f s1) (h2:bR4 nf fns n f s2):s1=s2:=by
 rcases h1 with ⟨a1,l1,i1,rfl⟩ | ⟨a1,rfl⟩<;>rcases h2 with ⟨a2,l2,i2,rfl⟩ | ⟨a2,rfl⟩
 ·rw [i1.unique i2]
 ·exact absurd a1 a2
 ·exact absurd a2 a1
 rfl
end
section
open Go.RowKit Go.Lib
theorem info_u8:(Tryz.prog.info? 5).map (fun i=>(i.zero,i.size,i.bytes))=some (some (.int .u8 0),1,1):=by kernel_rfl
theorem bA3 (P:Program) {w w':World} {t u ty e:TypeId} {i:TypeInfo} (ht:P.underlying t=some (.slice e)) (hu:P.underlying u=some .string) (hi:P.info? e=some i) (hz:i.zero=some (.int .u8 0))
  (hsize:i.size=1) (hby:i.bytes=1) {base:Nat} {v v':Value} {n:Nat} {xs:List Value} (hown:w.ownsRow base e 1 v n xs) {s:ByteArray} (h63:n+s.size<=maxLen) (hbytes:n+s.size<=140737488355328)
  (hr:(Builtin.append_ #[t,u] ty #[v,.string s]).run P w=.ok v' w'):∀ b,v'.ownBlock=some b->v.ownBlock=some b∨w.heap.size<=b:=by
 intro b hb
 rcases hown.2 with ⟨rfl,rfl⟩ | ⟨g,cap,cur,rfl,hbg,hg,hnc,hcm,hcs,htake⟩
 ·have hx:xs=[]:=List.eq_nil_of_length_eq_zero (by simpa using hown.1)
  obtain ⟨v2,w2,hr2,ho2,-,-⟩:=run_append_own_string (P:=P) w w.heap.size t u ty e i ht hu hi hz hsize hby _ 0 [] (World.ownsRow_nil w _ e 1) s h63 hbytes (Nat.le_refl _)
  rw [hr2] at hr
  cases hr
  exact .inr (ho2.lt b hb).1
 by_cases hroom:n+s.size<=cap
 ·have hr2:=run_append_room_string (P:=P) w t u ty e i ht hu hi hsize g n cap cur hg s hroom (by rw [hcs];omega)
  rw [hr2] at hr
  cases hr
  exact .inl hb
 have hr2:=run_append_grow_string (P:=P) w t u ty e i (.int .u8 0) ht hu hi hz ⟨g,0,none⟩ n cap xs (by rw [hsize];exact hown.1) (hown.cells (g:=g) rfl) s (by omega) (by unfold maxLen at h63;omega) (by rw [hby];exact growslice_fits (by omega) (by omega))
 rw [hr2] at hr
 cases hr
 have e:w.heap.size=b:=by simpa [Value.ownBlock] using hb
 exact .inr (by omega)
theorem mF {P:Program} {ops:Array Oper} {rest:List Oper} {o:Oper} {a:Act} {w:World} {Q:Exit->Act->World->Prop} (hgd:o.guard=none) (sl x:Operand) (t u:TypeId)
  (ho:o.op=.call { callee:=.builtin .append,args:=#[sl,x],argTypes:=#[t,u] })
  (base:Nat) (e:TypeId) (i:TypeInfo) (ht:P.underlying t=some (.slice e)) (hu:P.underlying u=some .string) (hi:P.info? e=some i) (hz:i.zero=some (.int .u8 0))
  (hsize:i.size=1) (hby:i.bytes=1)
  (v:Value) (n:Nat) (xs:List Value) (hs:a.eval sl=v) (hown:w.ownsRow base e 1 v n xs) (s:ByteArray) (hx:a.eval x=.string s)
  (h63:n+s.size<=140000000000000) (hbase:base<=w.heap.size)
  (h:∀ v' w',w'.ownsRow base e 1 v' (n+s.size) (xs ++ strCells s)->w.grownBy w' v.ownBlock->(∀ b,v'.ownBlock=some b->v.ownBlock=some b∨w.heap.size<=b)->wpList P ops Q rest (a.put o.dst v') w'):wpList P ops Q (o :: rest) a w:=by
 refine wpList_plain hgd fun K hK=>?_
 have h63':n+s.size<=maxLen:=by unfold maxLen;omega
 obtain ⟨v',w',hr,h2,h3,h4⟩:=run_append_own_string (P:=P) w base t u o.type e i ht hu hi hz hsize hby v n xs hown s h63' (by omega) hbase
 have h5:=bA3 P ht hu hi hz hsize hby hown h63' (by omega) hr
 unfold Oper.wp execOp
 simp only [ho,resolve,invoke,builtin,Sem.run_bind,Sem.run_pure,Result.andThen_ok,List.map_toArray,List.map_cons,List.map_nil,hs,hx,hr]
 exact hK _ _ (h v' w' h2 h3 h5)
theorem run_add_str (P:Program) (t:TypeId) (a b:ByteArray) (w:World) (h:a.size+b.size<=140000000000000):Sem.run P (Go.binOp .add t (.string a) (.string b)) w=.ok (.string (a ++ b)) w:=by
 have hm:¬ (((a.size+b.size:Nat):Int) > IntKind.i64.max):=by
  show ¬ ((9223372036854775807:Int)<((a.size+b.size:Nat):Int))
  omega
 show Sem.run P (Op.stringOp .add a b) w=_
 unfold Op.stringOp
 simp only [if_neg hm]
 rfl
theorem bE1 (L:List UInt8):strOfNums (L.map fun b=>(b.toNat:Int))=⟨L.toArray⟩:=by
 unfold strOfNums
 congr 1
 apply Array.ext'
 rw [List.toList_toArray,List.map_map]
 conv=>rhs;rw [<- List.map_id L]
 refine List.map_congr_left fun b _=>?_
 simp
theorem conv_bytes (W:World) (B:Nat) (v:Value) (L:List UInt8) (h:W.ownsRow B 5 1 v L.length (byteCells L)):Sem.run Tryz.prog (convert 22 9 v) W=.ok (.string ⟨L.toArray⟩) W:=by
 rcases h.2 with ⟨rfl,hn⟩ | ⟨g,cap,cur,rfl,-,hg,hnc,hcm,hcs,htake⟩
 ·rw [run_convert_bytes_nil (P:=Tryz.prog) (w:=W) 22 5 Tryz.underlying22 Tryz.underlying5 0 0 9 Tryz.underlying9]
  rw [List.eq_nil_of_length_eq_zero hn];rfl
 rw [run_convert_bytes_arg (P:=Tryz.prog) (w:=W) 22 5 Tryz.underlying22 Tryz.underlying5 g 0 L.length cap (L.map fun b=>(b.toNat:Int)) (by simp) (fun i hi=>?_) 9 Tryz.underlying9,bE1]
 have:=h.cells (g:=g) rfl i (.int .u8 (L[i].toNat:Int)) (by unfold byteCells;simp [hi])
 rw [show (⟨g,0+i,none⟩:Addr)=(⟨g,0,none⟩:Addr).add i by simp [Addr.add_lit],this]
 simp [List.getD,hi]
structure OutI (B cb N6:Nat) (W7:World) (ov:Value) (L:List UInt8) (W:World):Prop where
 own:W.ownsRow B 5 1 ov L.length (byteCells L)
 apart:∀ b,ov.ownBlock=some b->(b<N6/\b≠cb)∨W7.heap.size<=b
 keeps:∀ b,b<W7.heap.size->(b=cb∨N6<=b)->W.heap[b]?=W7.heap[b]?
 below:Below B W7 W
theorem OutI.go {B cb N6:Nat} {W7 W W':World} {ov:Value} {L:List UInt8} (h:OutI B cb N6 W7 ov L W) (hB:B<=W7.heap.size) (hb:Below W.heap.size W W'):OutI B cb N6 W7 ov L W' :=
 ⟨bN h.own hb,h.apart,fun b h1 h2=>by rw [hb.block b (Nat.lt_of_lt_of_le h1 h.below.size)];exact h.keeps b h1 h2,h.below.trans (hb.mono (Nat.le_trans hB h.below.size))⟩
theorem OutI.put {B cb N6:Nat} {W7 W W':World} {ov ov':Value} {L L':List UInt8} (h:OutI B cb N6 W7 ov L W) (hB:B<=W7.heap.size) (ho:W'.ownsRow B 5 1 ov' L'.length (byteCells L')) (hg:W.grownBy W' ov.ownBlock)
  (hn:∀ b,ov'.ownBlock=some b->ov.ownBlock=some b∨W.heap.size<=b):OutI B cb N6 W7 ov' L' W':=by
 have hs:=h.below.size
 refine ⟨ho,fun b hb=>?_,fun b h1 h2=>?_,h.below.grown hg (by omega) (fun k hk=>(h.own.lt k hk).1)⟩
 ·rcases hn b hb with e | e
  ·exact h.apart b e
  exact .inr (by omega)
 rw [hg.block b (by omega) (fun e=>by rcases h.apart b e.symm with x | x<;>omega)]
 exact h.keeps b h1 h2
end
section
open Go.RowKit Go.Lib
theorem bK7 (f:Nat->M) (i:Nat):∀ n,dQ f n i 0=(i:Int)
 | 0=>rfl
 | n+1=>by
  have ih:=bK7 f i n
  have h:pC (f n) (tJ f (n+1)) i 0=0:=by
   unfold pC;repeat' split
   all_goals first | rfl | omega
  show dQ f n i 0+pC (f n) (tJ f (n+1)) i 0=_
  omega
theorem lineT_of (u m:Nat):vE ((u:Int).toNat) ((m:Int).toNat)=vE u m:=rfl
theorem len_bl (L:List UInt8) (y:ByteArray):(L ++ bl y).length=L.length+y.size:=by rw [List.length_append,bA1]
theorem dG {P:Program} {a:Act} {o:Oper} (t ty:TypeId) (x y:Operand) (ho:o.op=.binOp .add t x y ty) (X Y:ByteArray) (hx:a.eval x=.string X) (hy:a.eval y=.string Y) (h:X.size+Y.size<=140000000000000) (w:World) :
  (execOp a.eval o).run P w=.ok (.value (.string (X ++ Y))) w:=by
 have e:=run_add_str P t X Y w h
 unfold execOp
 simp only [ho,hx,hy,Sem.run_bind,eqGuard,Bool.not_false,↓reduceIte,Sem.run_pure,Result.andThen_ok,e]
theorem bK8 (lo:Nat) (v1 v2:Value) (nf:Nat) (fns:Nat->ByteArray) (n:Nat) (f:Nat->M) (w:World) (h1:eE lo w v1 nf fns) (h2:bQ lo w v2 n f) :
  Calls Tryz.prog 14 #[.agg #[v1,v2]] w fun e w'=>(∃ s,e=.returned (.string s)/\bR4 nf fns n f s)/\Below w.heap.size w w':=by
 obtain ⟨i0,hi0,hz0,hz1,hz2⟩:=info_parts info_u8
 have II:=O (And.intro hi0 (And.intro hz0 (And.intro hz1 hz2)));clear hi0 hz0 hz1 hz2
 have H1:=O h1
 have H2:=O h2
 obtain ⟨a1,cap1,rfl,hn1,-⟩:=h1
 obtain ⟨a2,cap2,rfl,hn2,-⟩:=h2
 unfold maxLen at hn1 hn2
 have T0:=O (cS.new w (.slice a1 nf cap1) (.slice a2 n cap2))
 go_enter Tryz.func14,Tryz.ntmps14
 go_wp2_with fail
 refine (xV lo _ _ nf fns n f _ ((Z H1).below (Z T0).below) ((Z H2).below (Z T0).below)).mono ?_
 rintro e w1 ⟨⟨ok,rfl,hok⟩,hb1⟩
 have T1:=O ((Z T0).go hb1)
 clear hb1 T0
 cases ok with
 | false =>
  have HN:Hid (¬ cB nf fns n f):=O (fun h=>by have:=hok.2 h;cases this)
  clear hok
  go_wp2_with fail
  go_ret
  exact ⟨⟨_,rfl,.inr ⟨Z HN,rfl⟩⟩,(Z T1).below⟩
 | true =>
  have hS:=hok.1 rfl
  have HS:=O hS
  have hn3:n<=3000:=hS.1.2.2.1
  have hnf:nf<=300:=hS.1.2.1
  clear hok hS
  have g0:=(Z T1).b0
  have g1:=(Z T1).b1
  go_wp2_with fail
  refine (zS lo _ _ nf fns n f _ ((Z H1).below (Z T1).below) ((Z H2).below (Z T1).below)).mono ?_
  rintro e w2 ⟨⟨rv,rn,F,rfl,hans,hrow⟩,hb2⟩
  have T2:=O ((Z T1).go hb2)
  obtain ⟨rfl,hF⟩:nf=rn/\∀ i j,i<nf->j<4->F i j=dQ f n i j:=by
   rcases hans with ⟨-,e,h⟩ | ⟨h,-⟩
   ·exact ⟨e.symm,h⟩
   exact absurd (Z HS) h
  have HR:=O (hrow.congr (G:=dQ f n) (fun i j hi hj=>hF i j hi hj))
  obtain ⟨ra,rc,rfl⟩:=hrow.shape
  obtain ⟨l,hl,-,-⟩:=kT.exists f n
  have HL:=O hl
  have HSM:=O (small_of (Z HS) hl)
  clear hans hF hrow hb2 T1 g0 g1 hl F
  have hws:w.heap.size+1<=w2.heap.size:=(Z T2).size
  go_wp2_with fail
  go_loopg [3,16] nf (fun gg ov i W=>∃ (k:Nat),k+gg=nf/\i=.int .i64 k/\W.ownsRow w2.heap.size 5 1 ov (mD f n fns l k).length (byteCells (mD f n fns l k))/\Below w2.heap.size w2 W)
  case atStart=>exact ⟨0,by omega,rfl,World.ownsRow_nil _ _ _ _,Below.refl _ _⟩
  case round =>
   obtain ⟨k,hk,rfl,ho,hbw⟩:=hrel
   obtain ⟨wo,hwo⟩:∃ wo,wo=wr:=⟨_,rfl⟩
   subst hwo
   obtain ⟨ov,hov⟩:∃ ov,ov=u3:=⟨_,rfl⟩
   subst hov
   have HO:=O ho
   have HBW:=O hbw
   have HT:=O ((Z T2).go hbw)
   have hws2:w2.heap.size<=wo.heap.size:=hbw.size
   clear ho hbw
   obtain ⟨L,hL⟩:∃ L,L=mD f n fns l k:=⟨_,rfl⟩
   rw [<- hL] at HO
   have hLl:L.length<=k*800000000:=by rw [hL];exact bA2 (Z HSM) hn3 k (by omega) (fun i hi=>(Z HS).1.2.2.2 i (by omega))
   have HLD:=O hL
   clear hL
   by_cases hlt:k<nf
   ·have hnz:=(Z HS).1.2.2.2 k hlt
    obtain ⟨_,_,ec,hrow⟩:=(Z HR).below (Z HBW)
    cases ec
    obtain ⟨rb,rfl,-,hcr⟩:=hrow k hlt
    have c0:=(hcr 0 (by omega)).1
    have c1:=(hcr 1 (by omega)).1
    have c2:=(hcr 2 (by omega)).1
    have c3:=(hcr 3 (by omega)).1
    have b1:=dN f k 1 (by omega) n
    have b2:=dN f k 2 (by omega) n
    have b3:=dN f k 3 (by omega) n
    obtain ⟨c,hc⟩:∃ c:Nat,c=(dQ f n k 1).toNat:=⟨_,rfl⟩
    obtain ⟨s,hs⟩:∃ s:Nat,s=(dQ f n k 2).toNat:=⟨_,rfl⟩
    obtain ⟨t,ht⟩:∃ t:Nat,t=(dQ f n k 3).toNat:=⟨_,rfl⟩
    have hc':dQ f n k 1=(c:Int):=by omega
    have hs':dQ f n k 2=(s:Int):=by omega
    have ht':dQ f n k 3=(t:Int):=by omega
    rw [bK7] at c0
    rw [hc'] at c1 b1
    rw [hs'] at c2 b2
    rw [ht'] at c3 b3
    replace c0:wo.cell? ⟨rb,k*4,none⟩=some (.int .i64 (k:Int)):=c0
    replace c1:wo.cell? ⟨rb,k*4+1,none⟩=some (.int .i64 (c:Int)):=c1
    replace c2:wo.cell? ⟨rb,k*4+2,none⟩=some (.int .i64 (s:Int)):=c2
    replace c3:wo.cell? ⟨rb,k*4+3,none⟩=some (.int .i64 (t:Int)):=c3
    have HCS:=O (And.intro hc' (And.intro hc (And.intro hs ht)))
    clear hc hs ht hc' hs' ht' hrow hcr
    have hi0:(0:Int)<=(k:Int):=by omega
    have hi1:(k:Int)<(nf:Int):=by omega
    have wi:IntKind.i64.wrap ((k:Int)+1)=((k+1:Nat):Int):=by rw [IntKind.wrap_i64];omega
    have HBA:=O (bH wo (.cells #[.int .i64 (k:Int),.int .i64 (c:Int),.int .i64 (s:Int),.int .i64 (t:Int)] 97))
    by_cases hz:c=0
    ·have hcb:((c:Int) == 0)=true:=by rw [hz];rfl
     have HRP:Hid (mD f n fns l (k+1)=L):=O (by
      show mD f n fns l k ++ tF f n fns l k=L
      rw [<- Z HLD]
      unfold tF
      rw [if_pos (by rw [(Z HCS).1,hz];rfl),List.append_nil])
     clear hz
     as_aux_lemma =>
      go_wp2_with fail
      go_roundg (nf - (k+1))
      case measure=>omega
      case rel =>
       refine ⟨k+1,by omega,by go_num,?_,(Z HBW).trans ((Z HBA).mono hws2)⟩
       rw [Z HRP]
       exact bN (Z HO) (Z HBA)
    have hcb:((c:Int) == 0)=false:=by simp;omega
    have HCZ:=O hz
    clear hz
    as_aux_lemma =>
     go_upto_region 8 with fail
     have HX1:=O (heap_alloc_new wo (.cells #[.int .i64 (k:Int),.int .i64 (c:Int),.int .i64 (s:Int),.int .i64 (t:Int)] 97))
     have hsA:(wo.alloc (.cells #[.int .i64 (k:Int),.int .i64 (c:Int),.int .i64 (s:Int),.int .i64 (t:Int)] 97)).heap.size=wo.heap.size+1:=by simp
     generalize wo.alloc (.cells #[.int .i64 (k:Int),.int .i64 (c:Int),.int .i64 (s:Int),.int .i64 (t:Int)] 97)=W1 at HX1 HBA hsA ⊢
     have HT1:=O ((Z HT).go (Z HBA))
     have HO1:=O (bN (Z HO) (Z HBA))
     have HOB:Hid (∀ b,ov.ownBlock=some b->b<wo.heap.size):=O (fun b hb=>((Z HO).lt b hb).2)
     obtain ⟨_,_,ec,hn1',hst⟩:=(Z H1).below (Z HT1).below
     cases ec
     obtain ⟨sb,so,rfl,hsc,-,-⟩:=hst k hlt
     have HSS:Hid (∀ W,Below W1.heap.size W1 W->W.cell? ⟨wo.heap.size,0,none⟩=some (.int .i64 (k:Int))/\W.cell? ⟨wo.heap.size,1,none⟩=some (.int .i64 (c:Int))/\W.cell? ⟨wo.heap.size,2,none⟩=some (.int .i64 (s:Int))/\W.cell? ⟨wo.heap.size,3,none⟩=some (.int .i64 (t:Int))/\W.cell? ⟨w.heap.size,0,none⟩=some (.slice (some ⟨sb,so,none⟩) nf cap1)/\W.cell? ⟨sb,so+k,none⟩=some (.string (fns k))):=O (fun W hb=>⟨bG hb (by rw [cell_of_row _ _ 0 _ _ _ (Z HX1)];rfl),bG hb (by rw [cell_of_row _ _ 1 _ _ _ (Z HX1)];rfl),bG hb (by rw [cell_of_row _ _ 2 _ _ _ (Z HX1)];rfl),bG hb (by rw [cell_of_row _ _ 3 _ _ _ (Z HX1)];rfl),bG hb (Z HT1).b0,bG hb hsc⟩)
     have HB1:=O ((Z HBW).trans ((Z HBA).mono hws2))
     clear hst hn1' hsc c0 c1 c2 c3 HBA HT HO
     refine wp_region_held_drew (S:=fun W=>W.cell? ⟨wo.heap.size,0,none⟩=some (.int .i64 (k:Int))/\W.cell? ⟨wo.heap.size,1,none⟩=some (.int .i64 (c:Int))/\W.cell? ⟨wo.heap.size,2,none⟩=some (.int .i64 (s:Int))/\W.cell? ⟨wo.heap.size,3,none⟩=some (.int .i64 (t:Int))/\W.cell? ⟨w.heap.size,0,none⟩=some (.slice (some ⟨sb,so,none⟩) nf cap1)/\W.cell? ⟨sb,so+k,none⟩=some (.string (fns k))) (by kernel_rfl) (Z HSS _ (Below.refl _ _).drew) (fun hHeld=>?_)
     refine tka 0 23 hHeld ?_
     refine tka 1 24 hHeld ?_
     refine tka 4 27 hHeld ?_
     refine tka 5 28 hHeld ?_
     refine tka 6 29 hHeld ?_
     refine tka 7 30 hHeld ?_
     refine tka 8 31 hHeld ?_
     refine tka 9 32 hHeld ?_
     refine tka 12 35 hHeld ?_
     refine tka 13 36 hHeld ?_
     refine tka 17 40 hHeld ?_
     refine tka 18 41 hHeld ?_
     refine tka 22 45 hHeld ?_
     refine tka 23 46 hHeld ?_
     refine rdy 2 fun KK hK=>?_
     go_simp
     refine (jB k _ (by omega)).mono ?_
     rintro e wa ⟨rfl,hb⟩
     have HBwa:Hid (Below W1.heap.size W1 wa):=O ((Below.refl _ _).drew.trans hb)
     clear hb
     have zdwa:=dU (u:=k) (by omega)
     refine hK.out _ _ (Z HSS _ (Z HBwa)) (fun hHeld=>?_)
     clear hK KK
     try simp only [Act.put,sy]
     obtain ⟨x1,hx1⟩:∃ x,x=(dS k) ++ (⟨#[32]⟩:ByteArray):=⟨_,rfl⟩
     have qx1:(dS k).size+(⟨#[32]⟩:ByteArray).size<=140000000000000:=by have hy:((⟨#[32]⟩:ByteArray):ByteArray).size<=100001:=(by show _<=_;decide);skip;omega
     have zx1:x1.size<=300000:=by have hy:((⟨#[32]⟩:ByteArray):ByteArray).size<=100001:=(by show _<=_;decide);skip;rw [hx1,ByteArray.size_append];omega
     refine tkx 3 26 ?hy3a hHeld ?r3a (v:=.string x1)
     case hy3a=>intro wx hSw;rw [hx1];exact dG 9 9 _ _ rfl (dS k) (⟨#[32]⟩:ByteArray) (by rfl) (by rfl) qx1 wx
     simp only [Act.put,sx]
     have Hx1:=O hx1
     clear hx1 qx1
     obtain ⟨x2,hx2⟩:∃ x,x=x1 ++ (fns k):=⟨_,rfl⟩
     have qx2:x1.size+(fns k).size<=140000000000000:=by have hy:((fns k):ByteArray).size<=100001:=(by omega);skip;omega
     have zx2:x2.size<=500000:=by have hy:((fns k):ByteArray).size<=100001:=(by omega);skip;rw [hx2,ByteArray.size_append];omega
     refine tkx 10 33 ?hy10a hHeld ?r10a (v:=.string x2)
     case hy10a=>intro wx hSw;rw [hx2];exact dG 9 9 _ _ rfl x1 (fns k) (by rfl) (by rfl) qx2 wx
     simp only [Act.put,sx]
     have Hx2:=O hx2
     clear hx2 qx2
     obtain ⟨x3,hx3⟩:∃ x,x=x2 ++ (⟨#[32,99,97,108,108,115,32]⟩:ByteArray):=⟨_,rfl⟩
     have qx3:x2.size+(⟨#[32,99,97,108,108,115,32]⟩:ByteArray).size<=140000000000000:=by have hy:((⟨#[32,99,97,108,108,115,32]⟩:ByteArray):ByteArray).size<=100001:=(by show _<=_;decide);skip;omega
     have zx3:x3.size<=700000:=by have hy:((⟨#[32,99,97,108,108,115,32]⟩:ByteArray):ByteArray).size<=100001:=(by show _<=_;decide);skip;rw [hx3,ByteArray.size_append];omega
     refine tkx 11 34 ?hy11a hHeld ?r11a (v:=.string x3)
     case hy11a=>intro wx hSw;rw [hx3];exact dG 9 9 _ _ rfl x2 (⟨#[32,99,97,108,108,115,32]⟩:ByteArray) (by rfl) (by rfl) qx3 wx
     simp only [Act.put,sx]
     have Hx3:=O hx3
     clear hx3 qx3
     refine rdy 14 fun KK hK=>?_
     go_simp
     refine (jB c _ (by omega)).mono ?_
     rintro e wb ⟨rfl,hb⟩
     have HBwb:Hid (Below W1.heap.size W1 wb):=hT HBwa hb
     clear hb
     have zdwb:=dU (u:=c) (by omega)
     refine hK.out _ _ (Z HSS _ (Z HBwb)) (fun hHeld=>?_)
     clear hK KK
     try simp only [Act.put,sy]
     obtain ⟨x4,hx4⟩:∃ x,x=x3 ++ (dS c):=⟨_,rfl⟩
     have qx4:x3.size+(dS c).size<=140000000000000:=by have hy:((dS c):ByteArray).size<=100001:=(by omega);skip;omega
     have zx4:x4.size<=900000:=by have hy:((dS c):ByteArray).size<=100001:=(by omega);skip;rw [hx4,ByteArray.size_append];omega
     refine tkx 15 38 ?hy15a hHeld ?r15a (v:=.string x4)
     case hy15a=>intro wx hSw;rw [hx4];exact dG 9 9 _ _ rfl x3 (dS c) (by rfl) (by rfl) qx4 wx
     simp only [Act.put,sx]
     have Hx4:=O hx4
     clear hx4 qx4
     obtain ⟨x5,hx5⟩:∃ x,x=x4 ++ (⟨#[32,115,101,108,102,32]⟩:ByteArray):=⟨_,rfl⟩
     have qx5:x4.size+(⟨#[32,115,101,108,102,32]⟩:ByteArray).size<=140000000000000:=by have hy:((⟨#[32,115,101,108,102,32]⟩:ByteArray):ByteArray).size<=100001:=(by show _<=_;decide);skip;omega
     have zx5:x5.size<=1100000:=by have hy:((⟨#[32,115,101,108,102,32]⟩:ByteArray):ByteArray).size<=100001:=(by show _<=_;decide);skip;rw [hx5,ByteArray.size_append];omega
     refine tkx 16 39 ?hy16a hHeld ?r16a (v:=.string x5)
     case hy16a=>intro wx hSw;rw [hx5];exact dG 9 9 _ _ rfl x4 (⟨#[32,115,101,108,102,32]⟩:ByteArray) (by rfl) (by rfl) qx5 wx
     simp only [Act.put,sx]
     have Hx5:=O hx5
     clear hx5 qx5
     refine rdy 19 fun KK hK=>?_
     go_simp
     refine (jB s _ (by omega)).mono ?_
     rintro e wc ⟨rfl,hb⟩
     have HBwc:Hid (Below W1.heap.size W1 wc):=hT HBwb hb
     clear hb
     have zdwc:=dU (u:=s) (by omega)
     refine hK.out _ _ (Z HSS _ (Z HBwc)) (fun hHeld=>?_)
     clear hK KK
     try simp only [Act.put,sy]
     obtain ⟨x6,hx6⟩:∃ x,x=x5 ++ (dS s):=⟨_,rfl⟩
     have qx6:x5.size+(dS s).size<=140000000000000:=by have hy:((dS s):ByteArray).size<=100001:=(by omega);skip;omega
     have zx6:x6.size<=1300000:=by have hy:((dS s):ByteArray).size<=100001:=(by omega);skip;rw [hx6,ByteArray.size_append];omega
     refine tkx 20 43 ?hy20a hHeld ?r20a (v:=.string x6)
     case hy20a=>intro wx hSw;rw [hx6];exact dG 9 9 _ _ rfl x5 (dS s) (by rfl) (by rfl) qx6 wx
     simp only [Act.put,sx]
     have Hx6:=O hx6
     clear hx6 qx6
     obtain ⟨x7,hx7⟩:∃ x,x=x6 ++ (⟨#[32,116,111,116,97,108,32]⟩:ByteArray):=⟨_,rfl⟩
     have qx7:x6.size+(⟨#[32,116,111,116,97,108,32]⟩:ByteArray).size<=140000000000000:=by have hy:((⟨#[32,116,111,116,97,108,32]⟩:ByteArray):ByteArray).size<=100001:=(by show _<=_;decide);skip;omega
     have zx7:x7.size<=1500000:=by have hy:((⟨#[32,116,111,116,97,108,32]⟩:ByteArray):ByteArray).size<=100001:=(by show _<=_;decide);skip;rw [hx7,ByteArray.size_append];omega
     refine tkx 21 44 ?hy21a hHeld ?r21a (v:=.string x7)
     case hy21a=>intro wx hSw;rw [hx7];exact dG 9 9 _ _ rfl x6 (⟨#[32,116,111,116,97,108,32]⟩:ByteArray) (by rfl) (by rfl) qx7 wx
     simp only [Act.put,sx]
     have Hx7:=O hx7
     clear hx7 qx7
     refine rdy 24 fun KK hK=>?_
     go_simp
     refine (jB t _ (by omega)).mono ?_
     rintro e wd ⟨rfl,hb⟩
     have HBwd:Hid (Below W1.heap.size W1 wd):=hT HBwc hb
     clear hb
     have zdwd:=dU (u:=t) (by omega)
     refine hK.out _ _ (Z HSS _ (Z HBwd)) (fun hHeld=>?_)
     clear hK KK
     try simp only [Act.put,sy]
     obtain ⟨x8,hx8⟩:∃ x,x=x7 ++ (dS t):=⟨_,rfl⟩
     have qx8:x7.size+(dS t).size<=140000000000000:=by have hy:((dS t):ByteArray).size<=100001:=(by omega);skip;omega
     have zx8:x8.size<=1700000:=by have hy:((dS t):ByteArray).size<=100001:=(by omega);skip;rw [hx8,ByteArray.size_append];omega
     refine tkx 25 48 ?hy25a hHeld ?r25a (v:=.string x8)
     case hy25a=>intro wx hSw;rw [hx8];exact dG 9 9 _ _ rfl x7 (dS t) (by rfl) (by rfl) qx8 wx
     simp only [Act.put,sx]
     have Hx8:=O hx8
     clear hx8 qx8
     obtain ⟨x9,hx9⟩:∃ x,x=x8 ++ (⟨#[10]⟩:ByteArray):=⟨_,rfl⟩
     have qx9:x8.size+(⟨#[10]⟩:ByteArray).size<=140000000000000:=by have hy:((⟨#[10]⟩:ByteArray):ByteArray).size<=100001:=(by show _<=_;decide);skip;omega
     have zx9:x9.size<=1900000:=by have hy:((⟨#[10]⟩:ByteArray):ByteArray).size<=100001:=(by show _<=_;decide);skip;rw [hx9,ByteArray.size_append];omega
     refine tkx 26 49 ?hy26a hHeld ?r26a (v:=.string x9)
     case hy26a=>intro wx hSw;rw [hx9];exact dG 9 9 _ _ rfl x8 (⟨#[10]⟩:ByteArray) (by rfl) (by rfl) qx9 wx
     simp only [Act.put,sx]
     have Hx9:=O hx9
     clear hx9 qx9
     refine tka 27 6 hHeld ?_
     refine wpAnyH_done (by kernel_rfl) ?_ _
     have HLT:Hid (x9=pT k (fns k) c s t):=O (by
      unfold pT
      rw [Z Hx9,Z Hx8,Z Hx7,Z Hx6,Z Hx5,Z Hx4,Z Hx3,Z Hx2,Z Hx1])
     have hzl:x9.size<=500000:=by rw [Z HLT];exact rW (by omega) (by omega) (by omega) (by omega) hnz
     clear Hx1 Hx2 Hx3 Hx4 Hx5 Hx6 Hx7 Hx8 Hx9 zx1 zx2 zx3 zx4 zx5 zx6 zx7 zx8 zx9 zdwa zdwb zdwc zdwd HBwa HBwb HBwc hHeld HSS
     have HTd:=O ((Z HT1).go (Z HBwd))
     have HOd:=O (bN (Z HO1) (Z HBwd))
     have HBd:=O ((Z HB1).trans ((Z HBwd).mono (Z HB1).size))
     have HXd:=O (((Z HBwd).block wo.heap.size (by omega)).trans (Z HX1))
     have hsd:wo.heap.size+1<=wd.heap.size:=by have:=(Z HBwd).size;omega
     have hsd2:w2.heap.size<=wd.heap.size:=(Z HBd).size
     clear HT1 HO1 HB1 HX1 HBwd hsA
     go_wp2_with (at_builtin;refine mF (by rfl) _ _ _ _ (by rfl) w2.heap.size 5 i0 Tryz.underlying22 Tryz.underlying9 (Z II).1 (Z II).2.1 (Z II).2.2.1 (Z II).2.2.2 ov _ _ (by rfl) (Z HOd) x9 (by rfl) (by omega) hsd2 ?_;intro ov6 W6 hown6 hgrow6 hnew6;have hb6:Below w2.heap.size wd W6:=(Below.refl _ wd).grown hgrow6 hsd2 (fun k hk=>((Z HOd).lt k hk).1);have HT6:Hid (cS w (.slice (some ⟨sb,so,none⟩) nf cap1) (.slice a2 n cap2) W6):=O (Below.trans (Z HTd) (hb6.mono hws));have g0:=(Z HT6).b0;have g1:=(Z HT6).b1)
     obtain ⟨L2,hL2⟩:∃ L2,L2=L ++ bl x9:=⟨_,rfl⟩
     have HO6:Hid (W6.ownsRow w2.heap.size 5 1 ov6 L2.length (byteCells L2)):=O (by rw [hL2,List.length_append,bA1,qT,<- vD];exact hown6)
     have HX6:=O ((hgrow6.block wo.heap.size (by omega) (fun e=>by have:=Z HOB _ e.symm;omega)).trans (Z HXd))
     have HA6:Hid (∀ b,ov6.ownBlock=some b->b<W6.heap.size/\b≠wo.heap.size):=O (fun b hb=>⟨((Z HO6).lt b hb).2,by
      rcases hnew6 b hb with e | e
      ·have:=Z HOB b e;omega
      omega⟩)
     have hL2l:L2.length<=k*800000000+500000:=by rw [hL2,List.length_append,bA1];omega
     have HL2:=O hL2
     have HB6:=O ((Z HBd).trans hb6)
     have hs6:wo.heap.size+1<=W6.heap.size:=by have:=hb6.size;have:=hgrow6.size;omega
     clear hL2 hown6 hgrow6 hnew6 hb6 HTd HOd HBd HXd
     refine (xS lo _ _ nf fns n f _ ((Z H1).below (Z HT6).below) ((Z H2).below (Z HT6).below)).mono ?_
     rintro e W7 ⟨⟨lv,lc,F2,rfl,hans,hrow⟩,hb7⟩
     obtain ⟨rfl,hF⟩:l.length=lc/\∀ i j (h:i<l.length),j<3->F2 i j=xQ l[i] j:=by
      rcases hans with ⟨-,l2,hl2,e,h⟩ | ⟨h,-⟩
      ·obtain rfl:=hl2.unique (Z HL)
       exact ⟨e.symm,h⟩
      exact absurd (Z HS) h
     obtain ⟨la,lcp,rfl⟩:=hrow.shape
     have HR7:=O (And.intro hrow hF)
     have HX7:=O ((hb7.block _ (by omega)).trans (Z HX6))
     have hs7:W6.heap.size<=W7.heap.size:=hb7.size
     have hB7:w2.heap.size<=W7.heap.size:=by have:=(Z HB6).size;omega
     have HB7:=hT HB6 hb7
     have HI0:Hid (OutI w2.heap.size wo.heap.size W6.heap.size W7 ov6 (L2 ++ jG k l 0) W7):=O ⟨by rw [vF,List.append_nil];exact bN (Z HO6) hb7,fun b hb=>.inl (Z HA6 b hb),fun b _ _=>rfl,Below.refl _ _⟩
     have hll:l.length<=3000:=(Z HSM).1
     clear hans hrow hF hb7 HX6 HB6 HO6 HA6 HT6 g0 g1
     go_wp2_with fail
     go_loopg [3,56] l.length (fun gg ov i W=>∃ (q:Nat),q+gg=l.length/\i=.int .i64 q/\OutI w2.heap.size wo.heap.size W6.heap.size W7 ov (L2 ++ jG k l q) W)
     case atStart=>exact ⟨0,by omega,rfl,Z HI0⟩
     case round =>
      clear HI0
      obtain ⟨q,hq,rfl,hI⟩:=hrel
      have HI:=O hI
      have hrl:=rX (i:=k) (Z HSM) q (by omega)
      have hL3:(L2 ++ jG k l q).length<=300000000000:=by rw [List.length_append];omega
      by_cases hql:q<l.length
      ·as_aux_lemma =>
        obtain ⟨hrow,hF⟩:=Z HR7
        obtain ⟨_,_,ec,hrow⟩:=hrow
        cases ec
        obtain ⟨rb2,rfl,hlo,hcr⟩:=hrow q hql
        have c0:=(hcr 0 (by omega)).1
        have c1:=(hcr 1 (by omega)).1
        have c2:=(hcr 2 (by omega)).1
        have hbk:wr.heap[rb2]?=W7.heap[rb2]?:=hI.keeps rb2 (bV c0) (.inr hlo)
        rw [hF q 0 hql (by omega)] at c0
        rw [hF q 1 hql (by omega)] at c1
        rw [hF q 2 hql (by omega)] at c2
        rw [<- World.cell?_of_block hbk] at c0 c1 c2
        have hsm:=(Z HSM).2 l[q] (List.getElem_mem hql)
        have HRS:=O (vG k l q hql)
        obtain ⟨r,hr⟩:∃ r,r=l[q]:=⟨_,rfl⟩
        rw [<- hr] at c0 c1 c2 hsm HRS
        clear hr
        obtain ⟨rf,rl,rn⟩:=r
        obtain ⟨u,rfl⟩:∃ u:Nat,rl=(u:Int):=⟨rl.toNat,by have:0<=rl:=hsm.1;omega⟩
        obtain ⟨m,rfl⟩:∃ m:Nat,rn=(m:Int):=⟨rn.toNat,by have:0<=rn:=hsm.2.2.1;omega⟩
        have hu:u<=100000:=by have:(u:Int)<=100000:=hsm.2.1;omega
        have hm:m<=100000:=by have:(m:Int)<=100000:=hsm.2.2.2;omega
        replace c0:wr.cell? ⟨rb2,q*3,none⟩=some (.int .i64 rf):=c0
        replace c1:wr.cell? ⟨rb2,q*3+1,none⟩=some (.int .i64 (u:Int)):=c1
        replace c2:wr.cell? ⟨rb2,q*3+2,none⟩=some (.int .i64 (m:Int)):=c2
        have hxc:wr.heap[wo.heap.size]?=some (.cells #[.int .i64 (k:Int),.int .i64 (c:Int),.int .i64 (s:Int),.int .i64 (t:Int)] 97):=(hI.keeps _ (by omega) (.inl rfl)).trans (Z HX7)
        have x0:wr.cell? ⟨wo.heap.size,0,none⟩=some (.int .i64 (k:Int)):=by rw [cell_of_row _ _ 0 _ _ _ hxc];rfl
        have hsw:W7.heap.size<=wr.heap.size:=hI.below.size
        have hi0:(0:Int)<=(q:Int):=by omega
        have hi1:(q:Int)<(l.length:Int):=by omega
        have wi2:IntKind.i64.wrap ((q:Int)+1)=((q+1:Nat):Int):=by rw [IntKind.wrap_i64];omega
        have HBA:=O (bH wr (.cells #[.int .i64 rf,.int .i64 (u:Int),.int .i64 (m:Int)] 104))
        have x0':=bG (Z HBA) x0
        clear hrow hcr hF hsm hxc hI hbk
        by_cases he:rf=(k:Int)
        ·have heb:(rf == (k:Int))=true:=by rw [he];simp
         rw [if_pos he] at HRS
         clear he
         go_upto_region 14 with fail
         have HX1:=O (heap_alloc_new wr (.cells #[.int .i64 rf,.int .i64 (u:Int),.int .i64 (m:Int)] 104))
         have hsA:(wr.alloc (.cells #[.int .i64 rf,.int .i64 (u:Int),.int .i64 (m:Int)] 104)).heap.size=wr.heap.size+1:=by simp
         have HI1:=O ((Z HI).go hB7 (Z HBA))
         generalize wr.alloc (.cells #[.int .i64 rf,.int .i64 (u:Int),.int .i64 (m:Int)] 104)=W8 at HX1 HBA hsA HI1 ⊢
         have HSS:Hid (∀ W,Below W8.heap.size W8 W->W.cell? ⟨wr.heap.size,1,none⟩=some (.int .i64 (u:Int))/\W.cell? ⟨wr.heap.size,2,none⟩=some (.int .i64 (m:Int))):=O (fun W hb=>⟨bG hb (by rw [cell_of_row _ _ 1 _ _ _ (Z HX1)];rfl),bG hb (by rw [cell_of_row _ _ 2 _ _ _ (Z HX1)];rfl)⟩)
         clear c0 c1 c2 x0 x0' HBA HX1
         refine wp_region_held_drew (S:=fun W=>W.cell? ⟨wr.heap.size,1,none⟩=some (.int .i64 (u:Int))/\W.cell? ⟨wr.heap.size,2,none⟩=some (.int .i64 (m:Int))) (by kernel_rfl) (Z HSS _ (Below.refl _ _).drew) (fun hHeld=>?_)
         refine tka 0 65 hHeld ?_
         refine tka 1 66 hHeld ?_
         refine tka 5 70 hHeld ?_
         refine tka 6 71 hHeld ?_
         refine rdy 2 fun KK hK=>?_
         go_simp
         refine (jB u _ (by omega)).mono ?_
         rintro e we ⟨rfl,hb⟩
         have HBwe:Hid (Below W8.heap.size W8 we):=O ((Below.refl _ _).drew.trans hb)
         clear hb
         have zdwe:=dU (u:=u) (by omega)
         refine hK.out _ _ (Z HSS _ (Z HBwe)) (fun hHeld=>?_)
         clear hK KK
         try simp only [Act.put,sy]
         obtain ⟨y1,hy1⟩:∃ x,x=(⟨#[9]⟩:ByteArray) ++ (dS u):=⟨_,rfl⟩
         have qy1:(⟨#[9]⟩:ByteArray).size+(dS u).size<=140000000000000:=by have hy:((dS u):ByteArray).size<=100001:=(by omega);have hx:((⟨#[9]⟩:ByteArray):ByteArray).size<=100001:=(by show _<=_;decide);omega
         have zy1:y1.size<=300000:=by have hy:((dS u):ByteArray).size<=100001:=(by omega);have hx:((⟨#[9]⟩:ByteArray):ByteArray).size<=100001:=(by show _<=_;decide);rw [hy1,ByteArray.size_append];omega
         refine tkx 3 68 ?hy3b hHeld ?r3b (v:=.string y1)
         case hy3b=>intro wx hSw;rw [hy1];exact dG 9 9 _ _ rfl (⟨#[9]⟩:ByteArray) (dS u) (by rfl) (by rfl) qy1 wx
         simp only [Act.put,sx]
         have Hy1:=O hy1
         clear hy1 qy1
         obtain ⟨y2,hy2⟩:∃ x,x=y1 ++ (⟨#[32]⟩:ByteArray):=⟨_,rfl⟩
         have qy2:y1.size+(⟨#[32]⟩:ByteArray).size<=140000000000000:=by have hy:((⟨#[32]⟩:ByteArray):ByteArray).size<=100001:=(by show _<=_;decide);skip;omega
         have zy2:y2.size<=500000:=by have hy:((⟨#[32]⟩:ByteArray):ByteArray).size<=100001:=(by show _<=_;decide);skip;rw [hy2,ByteArray.size_append];omega
         refine tkx 4 69 ?hy4b hHeld ?r4b (v:=.string y2)
         case hy4b=>intro wx hSw;rw [hy2];exact dG 9 9 _ _ rfl y1 (⟨#[32]⟩:ByteArray) (by rfl) (by rfl) qy2 wx
         simp only [Act.put,sx]
         have Hy2:=O hy2
         clear hy2 qy2
         refine rdy 7 fun KK hK=>?_
         go_simp
         refine (jB m _ (by omega)).mono ?_
         rintro e wf ⟨rfl,hb⟩
         have HBwf:Hid (Below W8.heap.size W8 wf):=hT HBwe hb
         clear hb
         have zdwf:=dU (u:=m) (by omega)
         refine hK.out _ _ (Z HSS _ (Z HBwf)) (fun hHeld=>?_)
         clear hK KK
         try simp only [Act.put,sy]
         obtain ⟨y3,hy3⟩:∃ x,x=y2 ++ (dS m):=⟨_,rfl⟩
         have qy3:y2.size+(dS m).size<=140000000000000:=by have hy:((dS m):ByteArray).size<=100001:=(by omega);skip;omega
         have zy3:y3.size<=700000:=by have hy:((dS m):ByteArray).size<=100001:=(by omega);skip;rw [hy3,ByteArray.size_append];omega
         refine tkx 8 73 ?hy8b hHeld ?r8b (v:=.string y3)
         case hy8b=>intro wx hSw;rw [hy3];exact dG 9 9 _ _ rfl y2 (dS m) (by rfl) (by rfl) qy3 wx
         simp only [Act.put,sx]
         have Hy3:=O hy3
         clear hy3 qy3
         obtain ⟨y4,hy4⟩:∃ x,x=y3 ++ (⟨#[10]⟩:ByteArray):=⟨_,rfl⟩
         have qy4:y3.size+(⟨#[10]⟩:ByteArray).size<=140000000000000:=by have hy:((⟨#[10]⟩:ByteArray):ByteArray).size<=100001:=(by show _<=_;decide);skip;omega
         have zy4:y4.size<=900000:=by have hy:((⟨#[10]⟩:ByteArray):ByteArray).size<=100001:=(by show _<=_;decide);skip;rw [hy4,ByteArray.size_append];omega
         refine tkx 9 74 ?hy9b hHeld ?r9b (v:=.string y4)
         case hy9b=>intro wx hSw;rw [hy4];exact dG 9 9 _ _ rfl y3 (⟨#[10]⟩:ByteArray) (by rfl) (by rfl) qy4 wx
         simp only [Act.put,sx]
         have Hy4:=O hy4
         clear hy4 qy4
         refine tka 10 9 hHeld ?_
         refine wpAnyH_done (by kernel_rfl) ?_ _
         have HLT:Hid (y4=vE u m):=O (by
          unfold vE
          rw [Z Hy4,Z Hy3,Z Hy2,Z Hy1])
         clear Hy1 Hy2 Hy3 Hy4 zy1 zy2 zy3 zdwe zdwf HBwe hHeld HSS
         have HIf:=O ((Z HI1).go hB7 (Z HBwf))
         have HOf:=O (Z HIf).own
         have hsf:w2.heap.size<=wf.heap.size:=Nat.le_trans hB7 (Z HIf).below.size
         clear HI1 HBwf HI
         go_wp2_with (at_builtin;refine mF (by rfl) _ _ _ _ (by rfl) w2.heap.size 5 i0 Tryz.underlying22 Tryz.underlying9 (Z II).1 (Z II).2.1 (Z II).2.2.1 (Z II).2.2.2 u3 _ _ (by rfl) (Z HOf) y4 (by rfl) (by omega) hsf ?_;intro ov9 W9 hown9 hgrow9 hnew9;have HI9:Hid (OutI w2.heap.size wo.heap.size W6.heap.size W7 ov9 (L2 ++ jG k l (q+1)) W9):=O ((Z HIf).put hB7 (by have e:((L2 ++ jG k l q) ++ bl y4).length=(L2 ++ jG k l q).length+y4.size:=len_bl _ _;rw [Z HRS,lineT_of,<- Z HLT,<- List.append_assoc,e,qT (L2 ++ jG k l q),<- vD];exact hown9) hgrow9 hnew9);clear hown9 hgrow9 hnew9 HIf HOf)
         go_roundg (l.length - (q+1))
         case measure=>omega
         case rel=>exact ⟨q+1,by omega,by go_num,Z HI9⟩
        have heb:(rf == (k:Int))=false:=by simp [he]
        rw [if_neg he,List.append_nil] at HRS
        clear he
        go_wp2_with fail
        go_roundg (l.length - (q+1))
        case measure=>omega
        case rel=>exact ⟨q+1,by omega,by go_num,by rw [Z HRS];exact (Z HI).go hB7 (Z HBA)⟩
      obtain rfl:q=l.length:=by omega
      as_aux_lemma =>
       have HRP:Hid (mD f n fns l (k+1)=L2 ++ jG k l l.length):=O (by
        show mD f n fns l k ++ tF f n fns l k=_
        rw [<- Z HLD,Z HL2,Z HLT]
        obtain ⟨e1,e2,e3,e4⟩:=Z HCS
        have hz:=Z HCZ
        unfold tF
        rw [if_neg (by rw [e1];omega),<- e2,<- e3,<- e4,List.append_assoc])
       go_wp2_with fail
       go_roundg (nf - (k+1))
       case measure=>omega
       case rel=>exact ⟨k+1,by omega,by go_num,by rw [Z HRP];exact (Z HI).own,(Z HB7).trans hI.below⟩
   obtain rfl:k=nf:=by omega
   have ec:=conv_bytes wo w2.heap.size ov L (Z HO)
   have HTB:=O (Z HT).below
   go_wp2
   go_ret
   exact ⟨⟨_,rfl,.inl ⟨Z HS,l,Z HL,by rw [Z HLD]⟩⟩,Z HTB⟩
end
section
open Go.RowKit Go.Lib
def Tab (w:World):Prop:=Lib.TabIs Tryz.prog w "internal/strconv.uint64pow10" .u64 Lib.pow10Tab
theorem tab_lt {w:World} (h:Tab w):∃ g,Tryz.prog.globalNamed "internal/strconv.uint64pow10"=some g/\g < w.heap.size:=by
 unfold Tab Lib.TabIs World.var? at h
 cases e:Tryz.prog.globalNamed "internal/strconv.uint64pow10" with
 | none=>rw [e] at h;simp at h
 | some g =>
  rw [e] at h
  refine ⟨g,rfl,?_⟩
  rcases Nat.lt_or_ge g w.heap.size with x | x
  ·exact x
  simp [Array.getElem?_eq_none x] at h
theorem pN {w w':World} (h:Tab w) (hb:Below w.heap.size w w'):Tab w':=by
 obtain ⟨g,hg,hl⟩:=tab_lt h
 exact var?_below hb hg hl h
theorem rG (u:Nat) (w:World) (hu:u<=1000000) (h:Tab w) :
  Calls Tryz.prog 47 #[.int .i64 (u:Int)] w fun e w'=>e=.returned (.string (dS u))/\Below w.heap.size w w':=by
 refine (Tryz.strconv_Itoa (u:Int) (by omega) (by omega) w h).mono ?_
 rintro e w' ⟨rfl,k,os,rfl⟩
 refine ⟨?_,Lib.below_grow _ w (Nat.le_refl _) k os⟩
 unfold Lib.itoa dS
 rw [if_neg (by omega)]
 rfl
theorem fnText_any (k c s t:Nat) (name:ByteArray) (w:World) (hk:k<=100000) (hc:c<=100000) (hs:s<=100000) (ht:t<=100000) (hn:name.size<=40) (htab:Tab w) :
  Calls Tryz.prog 46 #[.agg #[.int .i64 (k:Int),.int .i64 (c:Int),.int .i64 (s:Int),.int .i64 (t:Int)],.string name] w fun e w'=>e=.returned (.string (pT k name c s t))/\Below w.heap.size w w':=by
 have HTAB0:=O htab
 clear htab
 go_enter Tryz.func46,Tryz.ntmps46
 go_upto_region 1 with fail
 have HX1:=O (heap_alloc_new w (.cells #[.int .i64 (k:Int),.int .i64 (c:Int),.int .i64 (s:Int),.int .i64 (t:Int)] 97))
 have HBA:=O (bH w (.cells #[.int .i64 (k:Int),.int .i64 (c:Int),.int .i64 (s:Int),.int .i64 (t:Int)] 97))
 generalize w.alloc (.cells #[.int .i64 (k:Int),.int .i64 (c:Int),.int .i64 (s:Int),.int .i64 (t:Int)] 97)=W1 at HX1 HBA ⊢
 have HTAB:=O (pN (Z HTAB0) (Z HBA))
 have HSS:Hid (∀ W,Below W1.heap.size W1 W->W.cell? ⟨w.heap.size,0,none⟩=some (.int .i64 (k:Int))/\W.cell? ⟨w.heap.size,1,none⟩=some (.int .i64 (c:Int))/\W.cell? ⟨w.heap.size,2,none⟩=some (.int .i64 (s:Int))/\W.cell? ⟨w.heap.size,3,none⟩=some (.int .i64 (t:Int))):=O (fun W hb=>⟨bG hb (by rw [cell_of_row _ _ 0 _ _ _ (Z HX1)];rfl),bG hb (by rw [cell_of_row _ _ 1 _ _ _ (Z HX1)];rfl),bG hb (by rw [cell_of_row _ _ 2 _ _ _ (Z HX1)];rfl),bG hb (by rw [cell_of_row _ _ 3 _ _ _ (Z HX1)];rfl)⟩)
 refine wp_region_held_drew (S:=fun W=>W.cell? ⟨w.heap.size,0,none⟩=some (.int .i64 (k:Int))/\W.cell? ⟨w.heap.size,1,none⟩=some (.int .i64 (c:Int))/\W.cell? ⟨w.heap.size,2,none⟩=some (.int .i64 (s:Int))/\W.cell? ⟨w.heap.size,3,none⟩=some (.int .i64 (t:Int))) (by kernel_rfl) (Z HSS _ (Below.refl _ _).drew) (fun hHeld=>?_)
 refine tka 0 5 hHeld ?_
 refine tka 1 6 hHeld ?_
 refine tka 4 9 hHeld ?_
 refine tka 7 12 hHeld ?_
 refine tka 8 13 hHeld ?_
 refine tka 12 17 hHeld ?_
 refine tka 13 18 hHeld ?_
 refine tka 17 22 hHeld ?_
 refine tka 18 23 hHeld ?_
 refine rdy 2 fun KK hK=>?_
 go_simp
 refine (rG k _ (by omega) (pN (Z HTAB) (Below.refl _ _).drew)).mono ?_
 rintro e wa ⟨rfl,hb⟩
 have HBwa:Hid (Below W1.heap.size W1 wa):=O ((Below.refl _ _).drew.trans hb)
 clear hb
 have zdwa:=dU (u:=k) (by omega)
 refine hK.out _ _ (Z HSS _ (Z HBwa)) (fun hHeld=>?_)
 clear hK KK
 try simp only [Act.put,sy]
 obtain ⟨x1,hx1⟩:∃ x,x=(dS k) ++ (⟨#[32]⟩:ByteArray):=⟨_,rfl⟩
 have qx1:(dS k).size+(⟨#[32]⟩:ByteArray).size<=140000000000000:=by have hy:((⟨#[32]⟩:ByteArray):ByteArray).size<=100001:=(by show _<=_;decide);skip;omega
 have zx1:x1.size<=300000:=by have hy:((⟨#[32]⟩:ByteArray):ByteArray).size<=100001:=(by show _<=_;decide);skip;rw [hx1,ByteArray.size_append];omega
 refine tkx 3 8 ?hy3a hHeld ?r3a (v:=.string x1)
 case hy3a=>intro wx hSw;rw [hx1];exact dG 9 9 _ _ rfl (dS k) (⟨#[32]⟩:ByteArray) (by rfl) (by rfl) qx1 wx
 simp only [Act.put,sx]
 have Hx1:=O hx1
 clear hx1 qx1
 obtain ⟨x2,hx2⟩:∃ x,x=x1 ++ name:=⟨_,rfl⟩
 have qx2:x1.size+name.size<=140000000000000:=by have hy:(name:ByteArray).size<=100001:=(by omega);skip;omega
 have zx2:x2.size<=500000:=by have hy:(name:ByteArray).size<=100001:=(by omega);skip;rw [hx2,ByteArray.size_append];omega
 refine tkx 5 10 ?hy5a hHeld ?r5a (v:=.string x2)
 case hy5a=>intro wx hSw;rw [hx2];exact dG 9 9 _ _ rfl x1 name (by rfl) (by rfl) qx2 wx
 simp only [Act.put,sx]
 have Hx2:=O hx2
 clear hx2 qx2
 obtain ⟨x3,hx3⟩:∃ x,x=x2 ++ (⟨#[32,99,97,108,108,115,32]⟩:ByteArray):=⟨_,rfl⟩
 have qx3:x2.size+(⟨#[32,99,97,108,108,115,32]⟩:ByteArray).size<=140000000000000:=by have hy:((⟨#[32,99,97,108,108,115,32]⟩:ByteArray):ByteArray).size<=100001:=(by show _<=_;decide);skip;omega
 have zx3:x3.size<=700000:=by have hy:((⟨#[32,99,97,108,108,115,32]⟩:ByteArray):ByteArray).size<=100001:=(by show _<=_;decide);skip;rw [hx3,ByteArray.size_append];omega
 refine tkx 6 11 ?hy6a hHeld ?r6a (v:=.string x3)
 case hy6a=>intro wx hSw;rw [hx3];exact dG 9 9 _ _ rfl x2 (⟨#[32,99,97,108,108,115,32]⟩:ByteArray) (by rfl) (by rfl) qx3 wx
 simp only [Act.put,sx]
 have Hx3:=O hx3
 clear hx3 qx3
 refine rdy 9 fun KK hK=>?_
 go_simp
 refine (rG c _ (by omega) (pN (Z HTAB) (Z HBwa))).mono ?_
 rintro e wb ⟨rfl,hb⟩
 have HBwb:Hid (Below W1.heap.size W1 wb):=hT HBwa hb
 clear hb
 have zdwb:=dU (u:=c) (by omega)
 refine hK.out _ _ (Z HSS _ (Z HBwb)) (fun hHeld=>?_)
 clear hK KK
 try simp only [Act.put,sy]
 obtain ⟨x4,hx4⟩:∃ x,x=x3 ++ (dS c):=⟨_,rfl⟩
 have qx4:x3.size+(dS c).size<=140000000000000:=by have hy:((dS c):ByteArray).size<=100001:=(by omega);skip;omega
 have zx4:x4.size<=900000:=by have hy:((dS c):ByteArray).size<=100001:=(by omega);skip;rw [hx4,ByteArray.size_append];omega
 refine tkx 10 15 ?hy10a hHeld ?r10a (v:=.string x4)
 case hy10a=>intro wx hSw;rw [hx4];exact dG 9 9 _ _ rfl x3 (dS c) (by rfl) (by rfl) qx4 wx
 simp only [Act.put,sx]
 have Hx4:=O hx4
 clear hx4 qx4
 obtain ⟨x5,hx5⟩:∃ x,x=x4 ++ (⟨#[32,115,101,108,102,32]⟩:ByteArray):=⟨_,rfl⟩
 have qx5:x4.size+(⟨#[32,115,101,108,102,32]⟩:ByteArray).size<=140000000000000:=by have hy:((⟨#[32,115,101,108,102,32]⟩:ByteArray):ByteArray).size<=100001:=(by show _<=_;decide);skip;omega
 have zx5:x5.size<=1100000:=by have hy:((⟨#[32,115,101,108,102,32]⟩:ByteArray):ByteArray).size<=100001:=(by show _<=_;decide);skip;rw [hx5,ByteArray.size_append];omega
 refine tkx 11 16 ?hy11a hHeld ?r11a (v:=.string x5)
 case hy11a=>intro wx hSw;rw [hx5];exact dG 9 9 _ _ rfl x4 (⟨#[32,115,101,108,102,32]⟩:ByteArray) (by rfl) (by rfl) qx5 wx
 simp only [Act.put,sx]
 have Hx5:=O hx5
 clear hx5 qx5
 refine rdy 14 fun KK hK=>?_
 go_simp
 refine (rG s _ (by omega) (pN (Z HTAB) (Z HBwb))).mono ?_
 rintro e wc ⟨rfl,hb⟩
 have HBwc:Hid (Below W1.heap.size W1 wc):=hT HBwb hb
 clear hb
 have zdwc:=dU (u:=s) (by omega)
 refine hK.out _ _ (Z HSS _ (Z HBwc)) (fun hHeld=>?_)
 clear hK KK
 try simp only [Act.put,sy]
 obtain ⟨x6,hx6⟩:∃ x,x=x5 ++ (dS s):=⟨_,rfl⟩
 have qx6:x5.size+(dS s).size<=140000000000000:=by have hy:((dS s):ByteArray).size<=100001:=(by omega);skip;omega
 have zx6:x6.size<=1300000:=by have hy:((dS s):ByteArray).size<=100001:=(by omega);skip;rw [hx6,ByteArray.size_append];omega
 refine tkx 15 20 ?hy15a hHeld ?r15a (v:=.string x6)
 case hy15a=>intro wx hSw;rw [hx6];exact dG 9 9 _ _ rfl x5 (dS s) (by rfl) (by rfl) qx6 wx
 simp only [Act.put,sx]
 have Hx6:=O hx6
 clear hx6 qx6
 obtain ⟨x7,hx7⟩:∃ x,x=x6 ++ (⟨#[32,116,111,116,97,108,32]⟩:ByteArray):=⟨_,rfl⟩
 have qx7:x6.size+(⟨#[32,116,111,116,97,108,32]⟩:ByteArray).size<=140000000000000:=by have hy:((⟨#[32,116,111,116,97,108,32]⟩:ByteArray):ByteArray).size<=100001:=(by show _<=_;decide);skip;omega
 have zx7:x7.size<=1500000:=by have hy:((⟨#[32,116,111,116,97,108,32]⟩:ByteArray):ByteArray).size<=100001:=(by show _<=_;decide);skip;rw [hx7,ByteArray.size_append];omega
 refine tkx 16 21 ?hy16a hHeld ?r16a (v:=.string x7)
 case hy16a=>intro wx hSw;rw [hx7];exact dG 9 9 _ _ rfl x6 (⟨#[32,116,111,116,97,108,32]⟩:ByteArray) (by rfl) (by rfl) qx7 wx
 simp only [Act.put,sx]
 have Hx7:=O hx7
 clear hx7 qx7
 refine rdy 19 fun KK hK=>?_
 go_simp
 refine (rG t _ (by omega) (pN (Z HTAB) (Z HBwc))).mono ?_
 rintro e wd ⟨rfl,hb⟩
 have HBwd:Hid (Below W1.heap.size W1 wd):=hT HBwc hb
 clear hb
 have zdwd:=dU (u:=t) (by omega)
 refine hK.out _ _ (Z HSS _ (Z HBwd)) (fun hHeld=>?_)
 clear hK KK
 try simp only [Act.put,sy]
 obtain ⟨x8,hx8⟩:∃ x,x=x7 ++ (dS t):=⟨_,rfl⟩
 have qx8:x7.size+(dS t).size<=140000000000000:=by have hy:((dS t):ByteArray).size<=100001:=(by omega);skip;omega
 have zx8:x8.size<=1700000:=by have hy:((dS t):ByteArray).size<=100001:=(by omega);skip;rw [hx8,ByteArray.size_append];omega
 refine tkx 20 25 ?hy20a hHeld ?r20a (v:=.string x8)
 case hy20a=>intro wx hSw;rw [hx8];exact dG 9 9 _ _ rfl x7 (dS t) (by rfl) (by rfl) qx8 wx
 simp only [Act.put,sx]
 have Hx8:=O hx8
 clear hx8 qx8
 obtain ⟨x9,hx9⟩:∃ x,x=x8 ++ (⟨#[10]⟩:ByteArray):=⟨_,rfl⟩
 have qx9:x8.size+(⟨#[10]⟩:ByteArray).size<=140000000000000:=by have hy:((⟨#[10]⟩:ByteArray):ByteArray).size<=100001:=(by show _<=_;decide);skip;omega
 have zx9:x9.size<=1900000:=by have hy:((⟨#[10]⟩:ByteArray):ByteArray).size<=100001:=(by show _<=_;decide);skip;rw [hx9,ByteArray.size_append];omega
 refine tkx 21 26 ?hy21a hHeld ?r21a (v:=.string x9)
 case hy21a=>intro wx hSw;rw [hx9];exact dG 9 9 _ _ rfl x8 (⟨#[10]⟩:ByteArray) (by rfl) (by rfl) qx9 wx
 simp only [Act.put,sx]
 have Hx9:=O hx9
 clear hx9 qx9
 refine tka 22 4 hHeld ?_
 refine wpAnyH_done (by kernel_rfl) ?_ _
 have HLT:Hid (x9=pT k name c s t):=O (by
  unfold pT
  rw [Z Hx9,Z Hx8,Z Hx7,Z Hx6,Z Hx5,Z Hx4,Z Hx3,Z Hx2,Z Hx1])
 have HE:=O ((Z HBA).trans ((Z HBwd).mono (Z HBA).size))
 go_wp2
 go_ret
 exact ⟨by rw [<- Z HLT];rfl,Z HE⟩
structure Bld (B b:Nat) (v:Value) (bs:List Value) (w:World):Prop where
 lo:B<=b
 blk:∃ p,(p=.pointer none∨p=.pointer (some ⟨b,0,none⟩))/\w.heap[b]?=some (.cells #[p,v] tB (0,0))
 own:w.ownsRow B tU 1 v bs.length bs
theorem Bld.is {B b:Nat} {v:Value} {bs:List Value} {w:World} (h:Bld B b v bs w):Lib.IsBuilder tB tU B b bs w:=by
 obtain ⟨p,e,hb⟩:=h.blk
 have hne:=Lib.ownBlock_ne h.own hb (by decide)
 rcases e with rfl | rfl
 ·exact .inl ⟨h.lo,v,hb,h.own,hne⟩
 exact .inr ⟨h.lo,v,hb,h.own,hne⟩
structure BKeeps (B b:Nat) (v v':Value) (w w':World):Prop where
 keeps:∀ k,k<w.heap.size->k≠b->v.ownBlock≠some k->w'.heap[k]?=w.heap[k]?
 size:w.heap.size<=w'.heap.size
 news:∀ k,v'.ownBlock=some k->v.ownBlock=some k∨w.heap.size<=k
 below:Below B w w'
theorem vX (B b:Nat) (v:Value) (bs:List Value) (s:ByteArray) (w:World) (h:Bld B b v bs w) (hlen:bs.length+s.size<=140000000000000) (hBw:B<=w.heap.size) :
  Calls Tryz.prog 45 #[.pointer (some ⟨b,0,none⟩),.string s] w fun e w'=>e=.returned (.tuple #[.int .i64 s.size,.nilIface])/\∃ v',Bld B b v' (bs ++ Lib.strCells s) w'/\BKeeps B b v v' w w':=by
 obtain ⟨i0,hi,hz0,hz1,hz2⟩:=info_parts info_byte
 have H:=O h
 have HC:Hid (Calls Tryz.prog 120 #[.pointer (some ⟨b,0,none⟩)] w fun e w'=>e=.returned (.tuple #[])/\w'.heap[b]?=some (.cells #[.pointer (some ⟨b,0,none⟩),v] tB (0,0))/\(∀ k,k≠b->w'.heap[k]?=w.heap[k]?)/\w'.heap.size=w.heap.size/\Below B w w'):=O (by
  obtain ⟨p,e,hb⟩:=h.blk
  have hlt:b<w.heap.size:=(Array.getElem?_eq_some_iff.1 hb).1
  rcases e with rfl | rfl
  ·refine (bE0 b w (by rw [Lib.cell_of_heap hb];rfl) (by simp [World.shape?,hb]) (Lib.frozen_of_heap hb 0)).mono ?_
   rintro e w' ⟨rfl,rfl⟩
   refine ⟨rfl,by simp [World.setCell,Array.getElem?_modify,hb],fun k hk=>Below.heap_setCell _ _ _ _ hk,by simp [World.setCell],(Below.refl B w).setCell (p:=⟨b,0,none⟩) h.lo _⟩
  refine (bK6 b w (by rw [Lib.cell_of_heap hb];rfl)).mono ?_
  rintro e w' ⟨rfl,rfl⟩
  exact ⟨rfl,hb,fun k _=>rfl,rfl,Below.refl B _⟩)
 clear h
 go_enter Tryz.func45,Tryz.ntmps45
 go_wp2_with fail
 refine (Z HC).mono ?_
 rintro e w1 ⟨rfl,hbk,hkp,hsz,hb1⟩
 have c0:w1.cell? ⟨b,0,none⟩=some (.pointer (some ⟨b,0,none⟩)):=by rw [Lib.cell_of_heap hbk];rfl
 have c1:w1.cell? ⟨b,1,none⟩=some v:=by rw [Lib.cell_of_heap hbk];rfl
 have hown:w1.ownsRow B tU 1 v bs.length bs:=(Z H).own.kept (row:=some b) ⟨hb1.os,hb1.tape,hb1.output,by omega,fun k _ hk=>hkp k (fun e=>hk (by rw [e]))⟩ (.inr (by
  obtain ⟨p,-,hb⟩:=(Z H).blk
  exact Lib.ownBlock_ne (Z H).own hb (by decide)))
 go_wp2_with (at_builtin;refine mF (by rfl) _ _ 22 9 (by rfl) B tU i0 Tryz.underlying22 Tryz.underlying9 hi hz0 hz1 hz2 _ _ _ (by rfl) hown s (by rfl) hlen (by omega) ?_)
 intro v' w2 hown' hgrow hnew
 have hne:v.ownBlock≠some b:=Lib.ownBlock_ne hown hbk (by decide)
 have hlt:b<w1.heap.size:=(Array.getElem?_eq_some_iff.1 hbk).1
 have hb2:w2.heap[b]?=some (.cells #[.pointer (some ⟨b,0,none⟩),v] tB (0,0)):=by
  rw [hgrow.block b hlt (fun e=>hne e.symm)]
  exact hbk
 have d0:w2.cell? ⟨b,0,none⟩=some (.pointer (some ⟨b,0,none⟩)):=by rw [Lib.cell_of_heap hb2];rfl
 have d1:w2.cell? ⟨b,1,none⟩=some v:=by rw [Lib.cell_of_heap hb2];rfl
 have f1:w2.frozen? ⟨b,1,none⟩=false:=Lib.frozen_of_heap hb2 1
 obtain ⟨ao,n',cap,rfl⟩:∃ ao n' cap,v'=.slice ao n' cap:=by
  rcases hown'.2 with ⟨hv,_⟩ | ⟨g,cap,cur,hv,_⟩
  ·exact ⟨_,_,_,hv⟩
  exact ⟨_,_,_,hv⟩
 have HO2:=O hown'
 have HG:=O hgrow
 have HN:=O hnew
 have HK:=O hkp
 have HB1:=O hb1
 clear hown' hgrow hnew hkp hb1
 go_wp2
 go_ret2
 refine ⟨rfl,.slice ao n' cap,⟨(Z H).lo,⟨_,.inr rfl,by simp [World.setCell,Array.getElem?_modify,hb2]⟩,?_⟩,⟨fun k hk hkb hko=>?_,?_,fun k hk=>?_,?_⟩⟩
 ·have hne2:=Lib.ownBlock_ne (Z HO2) hb2 (by decide)
  have:=(Z HO2).kept (row:=some b) (w':=w2.setCell ⟨b,1,none⟩ (.slice ao n' cap)) ⟨rfl,rfl,rfl,by simp [World.setCell],fun k _ hk=>Below.heap_setCell _ _ _ _ (fun e=>hk (by simp [e]))⟩ (Or.inr hne2)
  rw [List.length_append,Lib.strCells_length]
  exact this
 ·rw [Below.heap_setCell _ _ _ _ (show k≠(⟨b,1,none⟩:Addr).block from hkb),(Z HG).block k (by omega) (fun e=>hko e.symm),Z HK k hkb]
 ·have:=(Z HG).size
  simp [World.setCell];omega
 ·rcases Z HN k hk with e | e
  ·exact .inl e
  exact .inr (by omega)
 exact ((Z HB1).grown (Z HG) (by omega) (fun k hk=>(hown.lt k hk).1)).setCell (p:=⟨b,1,none⟩) (Z H).lo _
end
section
open Go.RowKit Go.Lib
structure BI (w2:World) (B b:Nat) (v:Value) (L:List UInt8) (W:World):Prop where
 bld:Bld B b v (byteCells L) W
 own:∀ x,v.ownBlock=some x->w2.heap.size<=x
 keeps:∀ x,x<w2.heap.size->x≠b->W.heap[x]?=w2.heap[x]?
 size:w2.heap.size<=W.heap.size
 below:Below B w2 W
theorem Bld.go {B b:Nat} {v:Value} {bs:List Value} {w w':World} (h:Bld B b v bs w) (hb:Below w.heap.size w w'):Bld B b v bs w':=by
 obtain ⟨p,e,hk⟩:=h.blk
 exact ⟨h.lo,⟨p,e,(hb.block b (Array.getElem?_eq_some_iff.1 hk).1).trans hk⟩,bN h.own hb⟩
theorem BI.go {w2:World} {B b:Nat} {v:Value} {L:List UInt8} {W W':World} (h:BI w2 B b v L W) (hB:B<=w2.heap.size) (hb:Below W.heap.size W W'):BI w2 B b v L W' :=
 ⟨h.bld.go hb,h.own,fun x h1 h2=>(hb.block x (Nat.lt_of_lt_of_le h1 h.size)).trans (h.keeps x h1 h2),Nat.le_trans h.size hb.size,h.below.trans (hb.mono (Nat.le_trans hB h.size))⟩
theorem BI.put {w2:World} {B b:Nat} {v v':Value} {L L':List UInt8} {W W':World} (h:BI w2 B b v L W) (hb:Bld B b v' (byteCells L') W') (hk:BKeeps B b v v' W W'):BI w2 B b v' L' W':=by
 have hs:=h.size
 have hs2:=hk.size
 refine ⟨hb,fun x hx=>?_,fun x h1 h2=>?_,by omega,h.below.trans hk.below⟩
 ·rcases hk.news x hx with e | e
  ·exact h.own x e
  omega
 rw [hk.keeps x (by omega) h2 (fun e=>by have:=h.own x e;omega)]
 exact h.keeps x h1 h2
theorem BI.other {w2:World} {B b:Nat} {v v':Value} {L:List UInt8} {W W':World} {cb:Nat} {cs:Array Value} {T:TypeId} (h:BI w2 B b v L W) (hk:BKeeps B b v v' W W') (hc:W.heap[cb]?=some (.cells cs T)) (hne:cb≠b) (hT:T≠tU):W'.heap[cb]?=some (.cells cs T):=by
 rw [hk.keeps cb (Array.getElem?_eq_some_iff.1 hc).1 hne (Lib.ownBlock_ne h.bld.own hc hT)]
 exact hc
theorem bR5 (L:List UInt8) (y:ByteArray):byteCells (L ++ bl y)=byteCells L ++ strCells y:=by rw [qT,<- vD]
theorem rH (L:List UInt8):(byteCells L).length=L.length:=by unfold byteCells;simp
theorem bK9 (lo:Nat) (v1 v2:Value) (nf:Nat) (fns:Nat->ByteArray) (n:Nat) (f:Nat->M) (w:World) (h1:eE lo w v1 nf fns) (h2:bQ lo w v2 n f) (htab:Tab w) :
  Calls Tryz.prog 13 #[.agg #[v1,v2]] w fun e w'=>(∃ s,e=.returned (.string s)/\bR4 nf fns n f s)/\Below w.heap.size w w':=by
 have H1:=O h1
 have H2:=O h2
 have HTAB0:=O htab
 obtain ⟨a1,cap1,rfl,hn1,-⟩:=h1
 obtain ⟨a2,cap2,rfl,hn2,-⟩:=h2
 clear htab
 unfold maxLen at hn1 hn2
 have T0:=O ((cS.new w (.slice a1 nf cap1) (.slice a2 n cap2)).go (bH _ (.cells #[.pointer none,.slice none 0 0] tB)))
 have HX0:=O (heap_alloc_new (w.alloc (.cells #[.slice a1 nf cap1,.slice a2 n cap2] 26)) (.cells #[.pointer none,.slice none 0 0] tB))
 have hsa:((w.alloc (.cells #[.slice a1 nf cap1,.slice a2 n cap2] 26)).alloc (.cells #[.pointer none,.slice none 0 0] tB)).heap.size=w.heap.size+2:=by simp
 have hsb:(w.alloc (.cells #[.slice a1 nf cap1,.slice a2 n cap2] 26)).heap.size=w.heap.size+1:=by simp
 have g0:=(Z T0).b0
 have g1:=(Z T0).b1
 go_enter Tryz.func13,Tryz.ntmps13
 go_wp2_with fail
 refine (xT lo _ _ nf fns n f _ ((Z H1).below (Z T0).below) ((Z H2).below (Z T0).below)).mono ?_
 rintro e w1 ⟨⟨lv,lc,F2,rfl,hans2,hrow2⟩,hb1⟩
 have T1:=O ((Z T0).go hb1)
 rw [hsb] at HX0
 have HX1:=O ((hb1.block (w.heap.size+1) (by omega)).trans (Z HX0))
 have hs1:w.heap.size+2<=w1.heap.size:=by have:=hb1.size;omega
 rw [hsa] at hrow2
 clear hb1 g0 g1 hsa T0 HX0
 obtain ⟨la,lcp,rfl⟩:=hrow2.shape
 have HLR:=O (And.intro hans2 hrow2)
 clear hans2 hrow2
 have g0:=(Z T1).b0
 have g1:=(Z T1).b1
 go_wp2_with fail
 refine (zU sortsInts compactsInts lo _ _ nf fns n f _ ((Z H1).below (Z T1).below) ((Z H2).below (Z T1).below)).mono ?_
 rintro e w2 ⟨⟨rv,rn,F,rfl,hans,hrow⟩,hb2⟩
 have T2:=O ((Z T1).go hb2)
 have HX2:=O ((hb2.block (w.heap.size+1) (by omega)).trans (Z HX1))
 have hs2:w.heap.size+2<=w2.heap.size:=by have:=hb2.size;omega
 have HLR2:=O (And.intro (Z HLR).1 ((Z HLR).2.below hb2))
 obtain ⟨ra,rc,rfl⟩:=hrow.shape
 have HR:=O (And.intro hans hrow)
 have hrn:rn<=300/\(rn=nf∨rn=0):=by
  rcases hans with ⟨h,e,-⟩ | ⟨-,e⟩
  ·exact ⟨by rw [e];exact h.1.2.1,.inl e⟩
  exact ⟨by omega,.inr e⟩
 clear hans hrow hb2 T1 g0 g1 HX1 HLR
 obtain ⟨l,hl,-,-⟩:=kT.exists f n
 have HL:=O hl
 clear hl
 go_wp2_with fail
 go_loopg [14] rn (fun gg i W=>∃ (k:Nat) (v:Value),k+gg=rn/\i=.int .i64 k/\BI w2 (w.heap.size+1) (w.heap.size+1) v (mD f n fns l k) W)
 case atStart=>exact ⟨0,.slice none 0 0,by omega,rfl,⟨⟨Nat.le_refl _,⟨_,.inl rfl,Z HX2⟩,World.ownsRow_nil _ _ _ _⟩,(fun x hx=>by cases hx),fun _ _ _=>rfl,Nat.le_refl _,Below.refl _ _⟩⟩
 case round =>
  obtain ⟨k,v,hk,rfl,hI⟩:=hrel
  obtain ⟨wo,hwo⟩:∃ wo,wo=wr:=⟨_,rfl⟩
  subst hwo
  have HI:=O hI
  have hso:w2.heap.size<=wo.heap.size:=hI.size
  have HBO:Hid (Below w.heap.size w wo):=O ((Z T2).below.trans (hI.below.mono (by omega)))
  have HTO:Hid (cS w (.slice a1 nf cap1) (.slice a2 n cap2) wo):=O (Below.trans (Z T2) hI.below)
  by_cases hlt:k<rn
  ·obtain ⟨hans,hrow⟩:=Z HR
   have hS:cB nf fns n f:=by
    rcases hans with ⟨h,-⟩ | ⟨-,e⟩
    ·exact h
    omega
   obtain ⟨rfl,hF⟩:nf=rn/\∀ i j,i<nf->j<4->F i j=dQ f n i j:=by
    rcases hans with ⟨-,e,h⟩ | ⟨h,-⟩
    ·exact ⟨e.symm,h⟩
    exact absurd hS h
   have HS:=O hS
   have HSM:=O (small_of hS (Z HL))
   have hn3:n<=3000:=hS.1.2.2.1
   have hnf:nf<=300:=hS.1.2.1
   have hnz:=hS.1.2.2.2 k hlt
   obtain ⟨L,hL⟩:∃ L,L=mD f n fns l k:=⟨_,rfl⟩
   rw [<- hL] at HI
   have hLl:L.length<=k*800000000:=by rw [hL];exact bA2 (Z HSM) hn3 k (by omega) (fun i hi=>hS.1.2.2.2 i (by omega))
   have HLD:=O hL
   obtain ⟨_,_,ec,hrow⟩:=hrow
   cases ec
   obtain ⟨rb,rfl,hrl,hcr⟩:=hrow k hlt
   have c0:=(hcr 0 (by omega)).1
   have hbk:wo.heap[rb]?=w2.heap[rb]?:=hI.keeps rb (bV c0) (by omega)
   have c1:=(hcr 1 (by omega)).1
   have c2:=(hcr 2 (by omega)).1
   have c3:=(hcr 3 (by omega)).1
   have b1:=dN f k 1 (by omega) n
   have b2:=dN f k 2 (by omega) n
   have b3:=dN f k 3 (by omega) n
   obtain ⟨c,hc⟩:∃ c:Nat,c=(dQ f n k 1).toNat:=⟨_,rfl⟩
   obtain ⟨s,hs⟩:∃ s:Nat,s=(dQ f n k 2).toNat:=⟨_,rfl⟩
   obtain ⟨t,ht⟩:∃ t:Nat,t=(dQ f n k 3).toNat:=⟨_,rfl⟩
   have hc':dQ f n k 1=(c:Int):=by omega
   have hs':dQ f n k 2=(s:Int):=by omega
   have ht':dQ f n k 3=(t:Int):=by omega
   rw [hF k 0 hlt (by omega),bK7,<- World.cell?_of_block hbk] at c0
   rw [hF k 1 hlt (by omega),hc',<- World.cell?_of_block hbk] at c1
   rw [hF k 2 hlt (by omega),hs',<- World.cell?_of_block hbk] at c2
   rw [hF k 3 hlt (by omega),ht',<- World.cell?_of_block hbk] at c3
   rw [hc'] at b1
   rw [hs'] at b2
   rw [ht'] at b3
   replace c0:wo.cell? ⟨rb,k*4,none⟩=some (.int .i64 (k:Int)):=c0
   replace c1:wo.cell? ⟨rb,k*4+1,none⟩=some (.int .i64 (c:Int)):=c1
   replace c2:wo.cell? ⟨rb,k*4+2,none⟩=some (.int .i64 (s:Int)):=c2
   replace c3:wo.cell? ⟨rb,k*4+3,none⟩=some (.int .i64 (t:Int)):=c3
   have HCS:=O (And.intro hc' (And.intro hc (And.intro hs ht)))
   clear hc hs ht hc' hs' ht' hrow hcr hF hans hS hL hbk hrl hrn
   have hi0:(0:Int)<=(k:Int):=by omega
   have hi1:(k:Int)<(nf:Int):=by omega
   have wi:IntKind.i64.wrap ((k:Int)+1)=((k+1:Nat):Int):=by rw [IntKind.wrap_i64];omega
   have HBA:=O (bH wo (.cells #[.int .i64 (k:Int),.int .i64 (c:Int),.int .i64 (s:Int),.int .i64 (t:Int)] 97))
   by_cases hz:c=0
   ·have hcb:((c:Int) == 0)=true:=by rw [hz];rfl
    have HRP:Hid (mD f n fns l (k+1)=L):=O (by
     show mD f n fns l k ++ tF f n fns l k=L
     rw [<- Z HLD]
     unfold tF
     rw [if_pos (by rw [(Z HCS).1,hz];rfl),List.append_nil])
    clear hz hI
    as_aux_lemma =>
     go_wp2_with fail
     go_roundg (nf - (k+1))
     case measure=>omega
     case rel=>exact ⟨k+1,v,by omega,by go_num,by rw [Z HRP];exact (Z HI).go (by omega) (Z HBA)⟩
   have hcb:((c:Int) == 0)=false:=by simp;omega
   have HCZ:=O hz
   clear hz hI
   as_aux_lemma =>
    go_upto_region 7 with fail
    have HX1:=O (heap_alloc_new wo (.cells #[.int .i64 (k:Int),.int .i64 (c:Int),.int .i64 (s:Int),.int .i64 (t:Int)] 97))
    have hsA:(wo.alloc (.cells #[.int .i64 (k:Int),.int .i64 (c:Int),.int .i64 (s:Int),.int .i64 (t:Int)] 97)).heap.size=wo.heap.size+1:=by simp
    have HI1:=O ((Z HI).go (by omega) (Z HBA))
    generalize wo.alloc (.cells #[.int .i64 (k:Int),.int .i64 (c:Int),.int .i64 (s:Int),.int .i64 (t:Int)] 97)=W1 at HX1 HBA hsA HI1 ⊢
    have HT1:=O ((Z HTO).go (Z HBA))
    obtain ⟨_,_,ec,hn1',hst⟩:=(Z H1).below (Z HT1).below
    cases ec
    obtain ⟨sb,so,rfl,hsc,-,-⟩:=hst k hlt
    have hsbl:sb<w.heap.size:=by
     obtain ⟨_,_,ec,-,hst⟩:=Z H1
     cases ec
     obtain ⟨_,_,e,hsc,-⟩:=hst k hlt
     cases e
     exact bV hsc
    have HSS:Hid (∀ W:World,W.heap[wo.heap.size]?=some (.cells #[.int .i64 (k:Int),.int .i64 (c:Int),.int .i64 (s:Int),.int .i64 (t:Int)] 97)->Below (w.heap.size+1) W1 W->W.cell? ⟨wo.heap.size,0,none⟩=some (.int .i64 (k:Int))/\W.cell? ⟨wo.heap.size,1,none⟩=some (.int .i64 (c:Int))/\W.cell? ⟨wo.heap.size,2,none⟩=some (.int .i64 (s:Int))/\W.cell? ⟨wo.heap.size,3,none⟩=some (.int .i64 (t:Int))/\W.cell? ⟨w.heap.size,0,none⟩=some (.slice (some ⟨sb,so,none⟩) nf cap1)/\W.cell? ⟨sb,so+k,none⟩=some (.string (fns k))):=O (fun W hx hb=>⟨by rw [cell_of_row _ _ 0 _ _ _ hx];rfl,by rw [cell_of_row _ _ 1 _ _ _ hx];rfl,by rw [cell_of_row _ _ 2 _ _ _ hx];rfl,by rw [cell_of_row _ _ 3 _ _ _ hx];rfl,by rw [World.cell?_of_block (hb.block _ (by show w.heap.size<_;omega))];exact (Z HT1).b0,by rw [World.cell?_of_block (hb.block _ (by show sb<_;omega))];exact hsc⟩)
    have HTAB:=O (pN (Z HTAB0) (Z HT1).below)
    clear hst hn1' c0 c1 c2 c3 HI HTO HBO
    refine wp_region_held_drew (S:=fun W=>W.cell? ⟨wo.heap.size,0,none⟩=some (.int .i64 (k:Int))/\W.cell? ⟨wo.heap.size,1,none⟩=some (.int .i64 (c:Int))/\W.cell? ⟨wo.heap.size,2,none⟩=some (.int .i64 (s:Int))/\W.cell? ⟨wo.heap.size,3,none⟩=some (.int .i64 (t:Int))/\W.cell? ⟨w.heap.size,0,none⟩=some (.slice (some ⟨sb,so,none⟩) nf cap1)/\W.cell? ⟨sb,so+k,none⟩=some (.string (fns k))) (by kernel_rfl) (Z HSS _ (Z HX1) ((Below.refl _ W1).drew)) (fun hHeld=>?_)
    refine tka 0 21 hHeld ?_
    refine tka 1 22 hHeld ?_
    refine tka 2 23 hHeld ?_
    refine tka 3 24 hHeld ?_
    refine tka 4 25 hHeld ?_
    refine tka 5 26 hHeld ?_
    refine tka 6 27 hHeld ?_
    refine rdy 7 fun KK hK=>?_
    go_simp
    refine (fnText_any k c s t (fns k) _ (by omega) (by omega) (by omega) (by omega) hnz (pN (Z HTAB) (Below.refl _ _).drew)).mono ?_
    rintro e wa ⟨rfl,hb⟩
    have HBwa:Hid (Below W1.heap.size W1 wa):=O ((Below.refl _ _).drew.trans hb)
    have HXa:=O (((Z HBwa).block wo.heap.size (by omega)).trans (Z HX1))
    have HIa:=O ((Z HI1).go (by omega) (Z HBwa))
    clear hb
    obtain ⟨x9,hx9⟩:∃ x,x=pT k (fns k) c s t:=⟨_,rfl⟩
    have hzl:x9.size<=500000:=by rw [hx9];exact rW (by omega) (by omega) (by omega) (by omega) hnz
    rw [<- hx9]
    have HLT:=O hx9
    clear hx9
    refine hK.out _ _ (Z HSS _ (Z HXa) ((Z HBwa).mono (by omega))) (fun hHeld=>?_)
    clear hK KK
    try simp only [Act.put,sy]
    refine rdy 8 fun KK hK=>?_
    go_simp
    have hsza:wo.heap.size+1<=wa.heap.size:=by have:=(Z HBwa).size;omega
    refine (vX (w.heap.size+1) (w.heap.size+1) v (byteCells L) x9 wa (Z HIa).bld (by rw [rH];omega) (by omega)).mono ?_
    rintro e wb ⟨rfl,v',hbl,hkp⟩
    obtain ⟨L2,hL2⟩:∃ L2,L2=L ++ bl x9:=⟨_,rfl⟩
    rw [<- bR5,<- hL2] at hbl
    have HIb:=O ((Z HIa).put hbl hkp)
    have HXb:=O ((Z HIa).other hkp (Z HXa) (by omega) (by decide))
    have hL2l:L2.length<=k*800000000+500000:=by rw [hL2,List.length_append,bA1];omega
    have HL2:=O hL2
    refine hK.out _ _ (Z HSS _ (Z HXb) (((Z HBwa).mono (by omega)).trans hkp.below)) (fun hHeld=>?_)
    clear hK KK hbl hkp hL2 hHeld HXa HIa HX1 HI1 HBA hsc HSS HBwa HT1 hsA hsza
    refine wpAnyH_done (by kernel_rfl) ?_ _
    obtain ⟨hans,hrow⟩:=Z HLR2
    obtain ⟨rfl,hF⟩:l.length=lc/\∀ i j (h:i<l.length),j<3->F2 i j=xQ l[i] j:=by
     rcases hans with ⟨-,l2,hl2,e,h⟩ | ⟨h,-⟩
     ·obtain rfl:=hl2.unique (Z HL)
      exact ⟨e.symm,h⟩
     exact absurd (Z HS) h
    have HR7:=O (And.intro hrow hF)
    have hll:l.length<=3000:=(Z HSM).1
    clear hans hrow hF HLR2
    go_wp2_with fail
    go_loopg [32] l.length (fun gg i W=>∃ (q:Nat) (v:Value),q+gg=l.length/\i=.int .i64 q/\BI w2 (w.heap.size+1) (w.heap.size+1) v (L2 ++ jG k l q) W/\W.heap[wo.heap.size]?=some (.cells #[.int .i64 (k:Int),.int .i64 (c:Int),.int .i64 (s:Int),.int .i64 (t:Int)] 97))
    case atStart=>exact ⟨0,v',by omega,rfl,by rw [vF,List.append_nil];exact Z HIb,Z HXb⟩
    case round =>
     clear HIb HXb
     obtain ⟨q,v3,hq,rfl,hI,hxc⟩:=hrel
     have HI:=O hI
     have HXC:=O hxc
     have hrl:=rX (i:=k) (Z HSM) q (by omega)
     have hL3:(L2 ++ jG k l q).length<=300000000000:=by rw [List.length_append];omega
     have hsw:w2.heap.size<=wr.heap.size:=hI.size
     have HTW:Hid (Tab wr):=O (pN (Z HTAB0) ((Z T2).below.trans (hI.below.mono (by omega))))
     by_cases hql:q<l.length
     ·as_aux_lemma =>
       obtain ⟨hrow,hF⟩:=Z HR7
       obtain ⟨_,_,ec,hrow⟩:=hrow
       cases ec
       obtain ⟨rb2,rfl,hlo,hcr⟩:=hrow q hql
       have c0:=(hcr 0 (by omega)).1
       have c1:=(hcr 1 (by omega)).1
       have c2:=(hcr 2 (by omega)).1
       have hbk:wr.heap[rb2]?=w2.heap[rb2]?:=hI.keeps rb2 (bV c0) (by omega)
       rw [hF q 0 hql (by omega)] at c0
       rw [hF q 1 hql (by omega)] at c1
       rw [hF q 2 hql (by omega)] at c2
       rw [<- World.cell?_of_block hbk] at c0 c1 c2
       have hsm:=(Z HSM).2 l[q] (List.getElem_mem hql)
       have HRS:=O (vG k l q hql)
       obtain ⟨r,hr⟩:∃ r,r=l[q]:=⟨_,rfl⟩
       rw [<- hr] at c0 c1 c2 hsm HRS
       clear hr
       obtain ⟨rf,rl,rn⟩:=r
       obtain ⟨u,rfl⟩:∃ u:Nat,rl=(u:Int):=⟨rl.toNat,by have:0<=rl:=hsm.1;omega⟩
       obtain ⟨m,rfl⟩:∃ m:Nat,rn=(m:Int):=⟨rn.toNat,by have:0<=rn:=hsm.2.2.1;omega⟩
       have hu:u<=100000:=by have:(u:Int)<=100000:=hsm.2.1;omega
       have hm:m<=100000:=by have:(m:Int)<=100000:=hsm.2.2.2;omega
       replace c0:wr.cell? ⟨rb2,q*3,none⟩=some (.int .i64 rf):=c0
       replace c1:wr.cell? ⟨rb2,q*3+1,none⟩=some (.int .i64 (u:Int)):=c1
       replace c2:wr.cell? ⟨rb2,q*3+2,none⟩=some (.int .i64 (m:Int)):=c2
       have x0:wr.cell? ⟨wo.heap.size,0,none⟩=some (.int .i64 (k:Int)):=by rw [cell_of_row _ _ 0 _ _ _ hxc];rfl
       have hi0:(0:Int)<=(q:Int):=by omega
       have hi1:(q:Int)<(l.length:Int):=by omega
       have wi2:IntKind.i64.wrap ((q:Int)+1)=((q+1:Nat):Int):=by rw [IntKind.wrap_i64];omega
       have HBA:=O (bH wr (.cells #[.int .i64 rf,.int .i64 (u:Int),.int .i64 (m:Int)] 104))
       have x0':=bG (Z HBA) x0
       have HXA:=O (((Z HBA).block _ (Array.getElem?_eq_some_iff.1 hxc).1).trans hxc)
       clear hrow hcr hF hsm hxc hI hbk
       by_cases he:rf=(k:Int)
       ·have heb:(rf == (k:Int))=true:=by rw [he];simp
        rw [if_pos he] at HRS
        clear he
        go_upto_region 12 with fail
        have HX1:=O (heap_alloc_new wr (.cells #[.int .i64 rf,.int .i64 (u:Int),.int .i64 (m:Int)] 104))
        have hsA:(wr.alloc (.cells #[.int .i64 rf,.int .i64 (u:Int),.int .i64 (m:Int)] 104)).heap.size=wr.heap.size+1:=by simp
        have HI1:=O ((Z HI).go (by omega) (Z HBA))
        generalize wr.alloc (.cells #[.int .i64 rf,.int .i64 (u:Int),.int .i64 (m:Int)] 104)=W8 at HX1 HBA hsA HI1 HXA ⊢
        have HTAB:=O (pN (Z HTW) (Z HBA))
        have HS8:Hid (∀ W:World,W.heap[wr.heap.size]?=some (.cells #[.int .i64 rf,.int .i64 (u:Int),.int .i64 (m:Int)] 104)->W.cell? ⟨wr.heap.size,1,none⟩=some (.int .i64 (u:Int))/\W.cell? ⟨wr.heap.size,2,none⟩=some (.int .i64 (m:Int))):=O (fun W hx=>⟨by rw [cell_of_row _ _ 1 _ _ _ hx];rfl,by rw [cell_of_row _ _ 2 _ _ _ hx];rfl⟩)
        have HSS:Hid (∀ W,Below W8.heap.size W8 W->W.cell? ⟨wr.heap.size,1,none⟩=some (.int .i64 (u:Int))/\W.cell? ⟨wr.heap.size,2,none⟩=some (.int .i64 (m:Int))):=O (fun W hb=>Z HS8 W ((hb.block _ (by omega)).trans (Z HX1)))
        clear c0 c1 c2 x0 x0' HBA
        refine wp_region_held_drew (S:=fun W=>W.cell? ⟨wr.heap.size,1,none⟩=some (.int .i64 (u:Int))/\W.cell? ⟨wr.heap.size,2,none⟩=some (.int .i64 (m:Int))) (by kernel_rfl) (Z HSS _ (Below.refl _ _).drew) (fun hHeld=>?_)
        refine tka 0 41 hHeld ?_
        refine tka 1 42 hHeld ?_
        refine tka 5 46 hHeld ?_
        refine tka 6 47 hHeld ?_
        refine rdy 2 fun KK hK=>?_
        go_simp
        refine (rG u _ (by omega) (pN (Z HTAB) (Below.refl _ _).drew)).mono ?_
        rintro e we ⟨rfl,hb⟩
        have HBwe:Hid (Below W8.heap.size W8 we):=O ((Below.refl _ _).drew.trans hb)
        clear hb
        have zdwe:=dU (u:=u) (by omega)
        refine hK.out _ _ (Z HSS _ (Z HBwe)) (fun hHeld=>?_)
        clear hK KK
        try simp only [Act.put,sy]
        obtain ⟨y1,hy1⟩:∃ x,x=(⟨#[9]⟩:ByteArray) ++ (dS u):=⟨_,rfl⟩
        have qy1:(⟨#[9]⟩:ByteArray).size+(dS u).size<=140000000000000:=by have hy:((dS u):ByteArray).size<=100001:=(by omega);have hx:((⟨#[9]⟩:ByteArray):ByteArray).size<=100001:=(by show _<=_;decide);omega
        have zy1:y1.size<=300000:=by have hy:((dS u):ByteArray).size<=100001:=(by omega);have hx:((⟨#[9]⟩:ByteArray):ByteArray).size<=100001:=(by show _<=_;decide);rw [hy1,ByteArray.size_append];omega
        refine tkx 3 44 ?hy3b hHeld ?r3b (v:=.string y1)
        case hy3b=>intro wx hSw;rw [hy1];exact dG 9 9 _ _ rfl (⟨#[9]⟩:ByteArray) (dS u) (by rfl) (by rfl) qy1 wx
        simp only [Act.put,sx]
        have Hy1:=O hy1
        clear hy1 qy1
        obtain ⟨y2,hy2⟩:∃ x,x=y1 ++ (⟨#[32]⟩:ByteArray):=⟨_,rfl⟩
        have qy2:y1.size+(⟨#[32]⟩:ByteArray).size<=140000000000000:=by have hy:((⟨#[32]⟩:ByteArray):ByteArray).size<=100001:=(by show _<=_;decide);skip;omega
        have zy2:y2.size<=500000:=by have hy:((⟨#[32]⟩:ByteArray):ByteArray).size<=100001:=(by show _<=_;decide);skip;rw [hy2,ByteArray.size_append];omega
        refine tkx 4 45 ?hy4b hHeld ?r4b (v:=.string y2)
        case hy4b=>intro wx hSw;rw [hy2];exact dG 9 9 _ _ rfl y1 (⟨#[32]⟩:ByteArray) (by rfl) (by rfl) qy2 wx
        simp only [Act.put,sx]
        have Hy2:=O hy2
        clear hy2 qy2
        refine rdy 7 fun KK hK=>?_
        go_simp
        refine (rG m _ (by omega) (pN (Z HTAB) (Z HBwe))).mono ?_
        rintro e wf ⟨rfl,hb⟩
        have HBwf:Hid (Below W8.heap.size W8 wf):=hT HBwe hb
        clear hb
        have zdwf:=dU (u:=m) (by omega)
        refine hK.out _ _ (Z HSS _ (Z HBwf)) (fun hHeld=>?_)
        clear hK KK
        try simp only [Act.put,sy]
        obtain ⟨y3,hy3⟩:∃ x,x=y2 ++ (dS m):=⟨_,rfl⟩
        have qy3:y2.size+(dS m).size<=140000000000000:=by have hy:((dS m):ByteArray).size<=100001:=(by omega);skip;omega
        have zy3:y3.size<=700000:=by have hy:((dS m):ByteArray).size<=100001:=(by omega);skip;rw [hy3,ByteArray.size_append];omega
        refine tkx 8 49 ?hy8b hHeld ?r8b (v:=.string y3)
        case hy8b=>intro wx hSw;rw [hy3];exact dG 9 9 _ _ rfl y2 (dS m) (by rfl) (by rfl) qy3 wx
        simp only [Act.put,sx]
        have Hy3:=O hy3
        clear hy3 qy3
        obtain ⟨y4,hy4⟩:∃ x,x=y3 ++ (⟨#[10]⟩:ByteArray):=⟨_,rfl⟩
        have qy4:y3.size+(⟨#[10]⟩:ByteArray).size<=140000000000000:=by have hy:((⟨#[10]⟩:ByteArray):ByteArray).size<=100001:=(by show _<=_;decide);skip;omega
        have zy4:y4.size<=900000:=by have hy:((⟨#[10]⟩:ByteArray):ByteArray).size<=100001:=(by show _<=_;decide);skip;rw [hy4,ByteArray.size_append];omega
        refine tkx 9 50 ?hy9b hHeld ?r9b (v:=.string y4)
        case hy9b=>intro wx hSw;rw [hy4];exact dG 9 9 _ _ rfl y3 (⟨#[10]⟩:ByteArray) (by rfl) (by rfl) qy4 wx
        simp only [Act.put,sx]
        have Hy4:=O hy4
        clear hy4 qy4
        have HLT2:Hid (y4=vE u m):=O (by
         unfold vE
         rw [Z Hy4,Z Hy3,Z Hy2,Z Hy1])
        have HIf:=O ((Z HI1).go (by omega) (Z HBwf))
        have HXf:=O (((Z HBwf).block wr.heap.size (by omega)).trans (Z HX1))
        have HXCf:=O (((Z HBwf).block wo.heap.size (by have:=(Array.getElem?_eq_some_iff.1 (Z HXA)).1;omega)).trans (Z HXA))
        have hszf:w2.heap.size<=wf.heap.size:=(Z HIf).size
        refine rdy 10 fun KK hK=>?_
        go_simp
        refine (vX (w.heap.size+1) (w.heap.size+1) v3 (byteCells (L2 ++ jG k l q)) y4 wf (Z HIf).bld (by rw [rH];omega) (by omega)).mono ?_
        rintro e wg ⟨rfl,v4,hbl,hkp⟩
        rw [<- bR5,List.append_assoc,Z HLT2,<- lineT_of u m,<- Z HRS] at hbl
        have HIg:=O ((Z HIf).put hbl hkp)
        have HXg:=O ((Z HIf).other hkp (Z HXf) (by omega) (by decide))
        have HXCg:=O ((Z HIf).other hkp (Z HXCf) (by omega) (by decide))
        refine hK.out _ _ (Z HS8 _ (Z HXg)) (fun hHeld=>?_)
        clear hK KK hbl hkp hHeld HXf HIf HXCf HX1 HI1 HBwe HBwf HSS HS8 HXA Hy1 Hy2 Hy3 Hy4
        refine wpAnyH_done (by kernel_rfl) ?_ _
        go_wp2_with fail
        go_roundg (l.length - (q+1))
        case measure=>omega
        case rel=>exact ⟨q+1,v4,by omega,by go_num,Z HIg,Z HXCg⟩
       have heb:(rf == (k:Int))=false:=by simp [he]
       rw [if_neg he,List.append_nil] at HRS
       clear he
       go_wp2_with fail
       go_roundg (l.length - (q+1))
       case measure=>omega
       case rel=>exact ⟨q+1,v3,by omega,by go_num,by rw [Z HRS];exact (Z HI).go (by omega) (Z HBA),Z HXA⟩
     obtain rfl:q=l.length:=by omega
     as_aux_lemma =>
      have HRP:Hid (mD f n fns l (k+1)=L2 ++ jG k l l.length):=O (by
       show mD f n fns l k ++ tF f n fns l k=_
       rw [<- Z HLD,Z HL2,Z HLT]
       obtain ⟨e1,e2,e3,e4⟩:=Z HCS
       have hz:=Z HCZ
       unfold tF
       rw [if_neg (by rw [e1];omega),<- e2,<- e3,<- e4,List.append_assoc])
      go_wp2_with fail
      go_roundg (nf - (k+1))
      case measure=>omega
      case rel=>exact ⟨k+1,v3,by omega,by go_num,by rw [Z HRP];exact (Z HI).go (by omega) (Below.refl _ _)⟩
  obtain rfl:k=rn:=by omega
  go_wp2_with fail
  refine (Tryz.Builder_String_any (w.heap.size+1) (w.heap.size+1) (mD f n fns l k) _ (Z HI).bld.is (by omega)).mono ?_
  rintro e w9 ⟨rfl,hb9⟩
  have HFB:=O ((Z HBO).trans (hb9.mono (by omega)))
  have HAN:Hid (bR4 nf fns n f ⟨(mD f n fns l k).toArray⟩):=O (by
   rcases (Z HR).1 with ⟨h,e,-⟩ | ⟨h,e⟩
   ·subst e;exact .inl ⟨h,l,Z HL,rfl⟩
   subst e;exact .inr ⟨h,rfl⟩)
  clear hb9
  go_wp2
  go_ret
  exact ⟨⟨_,rfl,Z HAN⟩,Z HFB⟩
end
end Go.Proofs.YtmnmeaeicjhkhaaGreatDoor
