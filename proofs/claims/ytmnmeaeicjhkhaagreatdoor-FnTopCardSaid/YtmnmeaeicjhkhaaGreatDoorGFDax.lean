import Derived.Test.YtmnmeaeicjhkhaaGreatDoorV0x
set_option maxRecDepth 100000
set_option maxHeartbeats 16000000
namespace Go.Proofs.YtmnmeaeicjhkhaaGreatDoor.Fun
open Go.RowKit
attribute [local go_sem ↓] Go.wp_at_zero Go.wp_at_succ
structure Cu where
 at_:Nat
 seed:Nat
 bs:Nat->Nat
structure Cur (K:Nat) (w:World) (pc:Nat) (len:Nat) (c:Cu):Prop where
 hk:pc<K
 cs:∃ a cap,w.cell? ⟨pc,0,none⟩=some (.slice a len cap)/\∀ i,i<len->∃ b o x,a=some ⟨b,o,none⟩/\b≠pc/\b<K/\w.cell? ⟨b,o+i,none⟩=some (.int .u8 x)/\0<=x/\(x<256/\x=(c.bs i:Int))
 c1:w.cell? ⟨pc,1,none⟩=some (.int .i64 c.at_)
 c2:w.cell? ⟨pc,2,none⟩=some (.int .u64 c.seed)
 f1:w.frozen? ⟨pc,1,none⟩=false
 f2:w.frozen? ⟨pc,2,none⟩=false
 hs:c.seed<18446744073709551616
 hl:len<=1048576
def nearS (s x:Nat):Nat:=(IntKind.u64.wrap (IntKind.u64.wrap (IntKind.u64.wrap ((s:Int)*6364136223846793005)+(x:Int))+1442695040888963407)).toNat
def fW (len:Nat) (c:Cu):Nat:=if c.at_<len then c.bs c.at_ else lcg c.seed % 18446744073709551616 / 1099511627776 % 256
def eF (len:Nat) (c:Cu):Cu:=⟨c.at_+1,if c.at_<len then nearS c.seed (c.bs c.at_) else lcg c.seed % 18446744073709551616,c.bs⟩
def pL (len:Nat):Nat->Cu->Cu
 | 0,c=>c
 | k+1,c=>eF len (pL len k c)
theorem bG3 (len a:Nat) (c:Cu):∀ b,pL len (a+b) c=pL len b (pL len a c)
 | 0=>rfl
 | b+1=>congrArg (eF len) (bG3 len a c b)
structure kW (len:Nat) (c c':Cu) (x:Int):Prop where
 x0:0<=x
 x1:x<256
 at1:c'.at_=c.at_+1
 far:len<=c.at_->c'.seed=lcg c.seed % 18446744073709551616/\x=(c'.seed / 1099511627776 % 256:Nat)
 nx:c'=eF len c/\x=(fW len c:Int)
theorem Cur.below {K:Nat} {w w':World} {pc len:Nat} {c:Cu} (h:Cur K w pc len c) (hb:Below K w w'):Cur K w' pc len c:=by
 obtain ⟨hk,⟨a,cap,h0,hx⟩,h1,h2,h3,h4,h5,h6⟩:=h
 have hf:∀ o,w'.frozen? ⟨pc,o,none⟩=w.frozen? ⟨pc,o,none⟩:=fun o=>hb.frozen hk
 have hc:∀ o,w'.cell? ⟨pc,o,none⟩=w.cell? ⟨pc,o,none⟩:=fun o=>hb.cell hk
 refine ⟨hk,⟨a,cap,by rw [hc];exact h0,fun i hi=>?_⟩,by rw [hc];exact h1,by rw [hc];exact h2,by rw [hf];exact h3,by rw [hf];exact h4,h5,h6⟩
 obtain ⟨b,o,x,ha,hne,hbk,hcx,hr⟩:=hx i hi
 exact ⟨b,o,x,ha,hne,hbk,by rw [hb.cell (p:=⟨b,o+i,none⟩) hbk];exact hcx,hr⟩
theorem Cur.go {K:Nat} {w:World} {pc len p s:Nat} {bs:Nat->Nat} (h:Cur K w pc len ⟨p,s,bs⟩) (p' s':Nat) (hs:s' < 18446744073709551616) :
  (Cur K ((w.setCell ⟨pc,1,none⟩ (.int .i64 p')).setCell ⟨pc,2,none⟩ (.int .u64 s')) pc len ⟨p',s',bs⟩/\dY pc (pc+1) w ((w.setCell ⟨pc,1,none⟩ (.int .i64 p')).setCell ⟨pc,2,none⟩ (.int .u64 s'))) /\
  (Cur K ((w.setCell ⟨pc,2,none⟩ (.int .u64 s')).setCell ⟨pc,1,none⟩ (.int .i64 p')) pc len ⟨p',s',bs⟩/\dY pc (pc+1) w ((w.setCell ⟨pc,2,none⟩ (.int .u64 s')).setCell ⟨pc,1,none⟩ (.int .i64 p'))):=by
 obtain ⟨hk,⟨a,cap,h0,hx⟩,h1,h2,h3,h4,h5,h6⟩:=h
 simp only at h1 h2 h5
 have n12:(⟨pc,1,none⟩:Addr)≠⟨pc,2,none⟩:=by simp
 have n21:(⟨pc,2,none⟩:Addr)≠⟨pc,1,none⟩:=by simp
 have n10:(⟨pc,1,none⟩:Addr)≠⟨pc,0,none⟩:=by simp
 have n20:(⟨pc,2,none⟩:Addr)≠⟨pc,0,none⟩:=by simp
 have s1:∀ u,(w.setCell ⟨pc,1,none⟩ u).cell? ⟨pc,2,none⟩=some (.int .u64 s):=fun u=>by rw [World.cell?_setCell_other _ _ _ _ n12];exact h2
 have s2:∀ u,(w.setCell ⟨pc,2,none⟩ u).cell? ⟨pc,1,none⟩=some (.int .i64 p):=fun u=>by rw [World.cell?_setCell_other _ _ _ _ n21];exact h1
 refine ⟨⟨⟨hk,⟨a,cap,?_,fun i hi=>?_⟩,?_,?_,?_,?_,hs,h6⟩,?_⟩,⟨⟨hk,⟨a,cap,?_,fun i hi=>?_⟩,?_,?_,?_,?_,hs,h6⟩,?_⟩⟩
 ·rw [World.cell?_setCell_other _ _ _ _ n20,World.cell?_setCell_other _ _ _ _ n10];exact h0
 ·obtain ⟨b,o,x,ha,hne,hbk,hc,hr⟩:=hx i hi
  exact ⟨b,o,x,ha,hne,hbk,bJ (fun e=>hne e.symm) (bJ (fun e=>hne e.symm) hc),hr⟩
 ·rw [World.cell?_setCell_other _ _ _ _ n21];exact World.cell?_setCell_same' _ _ _ (by rw [h1];rfl)
 ·exact World.cell?_setCell_same' _ _ _ (by rw [s1];rfl)
 ·rw [World.frozen?_setCell,World.frozen?_setCell];exact h3
 ·rw [World.frozen?_setCell,World.frozen?_setCell];exact h4
 ·exact ((dY.refl _ _ _).setCell (Nat.le_refl _) (Nat.lt_succ_self _) h1 rfl rfl).setCell (Nat.le_refl _) (Nat.lt_succ_self _) (s1 _) rfl rfl
 ·rw [World.cell?_setCell_other _ _ _ _ n10,World.cell?_setCell_other _ _ _ _ n20];exact h0
 ·obtain ⟨b,o,x,ha,hne,hbk,hc,hr⟩:=hx i hi
  exact ⟨b,o,x,ha,hne,hbk,bJ (fun e=>hne e.symm) (bJ (fun e=>hne e.symm) hc),hr⟩
 ·exact World.cell?_setCell_same' _ _ _ (by rw [s2];rfl)
 ·rw [World.cell?_setCell_other _ _ _ _ n12];exact World.cell?_setCell_same' _ _ _ (by rw [h2];rfl)
 ·rw [World.frozen?_setCell,World.frozen?_setCell];exact h3
 ·rw [World.frozen?_setCell,World.frozen?_setCell];exact h4
 exact ((dY.refl _ _ _).setCell (Nat.le_refl _) (Nat.lt_succ_self _) h2 rfl rfl).setCell (Nat.le_refl _) (Nat.lt_succ_self _) (s2 _) rfl rfl
theorem near_nx {p s len:Nat} {bs:Nat->Nat} {x:Int} {z:Nat} (h:p<len) (hx:x=(bs p:Int)) (hz:IntKind.u64.wrap (IntKind.u64.wrap (IntKind.u64.wrap ((s:Int)*6364136223846793005)+x)+1442695040888963407)=(z:Int)):(⟨p+1,z,bs⟩:Cu)=eF len ⟨p,s,bs⟩/\x=(fW len ⟨p,s,bs⟩:Int):=by
 have e:z=nearS s (bs p):=by unfold nearS;rw [<- hx,hz];rfl
 constructor
 ·unfold eF;rw [e];dsimp only;rw [if_pos h]
 unfold fW;dsimp only;rw [if_pos h];exact hx
theorem far_nx {p s len:Nat} {bs:Nat->Nat} {x:Int} {z:Nat} (h:¬ p<len) (hz:z=lcg s % 18446744073709551616) (hx:x=((z / 1099511627776 % 256:Nat):Int)):(⟨p+1,z,bs⟩:Cu)=eF len ⟨p,s,bs⟩/\x=(fW len ⟨p,s,bs⟩:Int):=by
 constructor
 ·unfold eF;dsimp only;rw [if_neg h,hz]
 unfold fW;dsimp only;rw [if_neg h,hx,hz]
theorem bF8 (K pc len:Nat) (c:Cu) (w:World) (h:Cur K w pc len c) (hat:c.at_<4611686018427387904) :
  Calls Tryz.prog 83 #[.pointer (some ⟨pc,0,none⟩)] w fun e w'=>(∃ x c',e=.returned (.int .i64 x)/\kW len c c' x/\Cur K w' pc len c')/\dY pc (pc+1) w w':=by
 have H:=O h
 obtain ⟨-,⟨a,cap,h0,hx⟩,h1,h2,h3,h4,h5,h6⟩:=h
 have HX:=O hx
 obtain ⟨p,s,bs⟩:=c
 simp only at h1 h2 h5 hat
 clear hx
 by_cases hlt:p<len
 ·obtain ⟨b,o,x,rfl,hne,-,hc,hx0,hx1,hxb⟩:=Z HX p hlt
  have HXB:Hid (x=(bs p:Int)):=O hxb
  clear hxb
  have hi1:(0:Int)<=(p:Int):=by omega
  have hi2:(p:Int)<(len:Int):=by omega
  have hd:decide ((p:Int)<(len:Int))=true:=by simpa using hi2
  go_enter Tryz.func83,Tryz.ntmps83
  go_wp2
  go_quiet (fail)
  go_wp2
  go_quiet (fail)
  obtain ⟨z,hz,ez⟩:=bP4 s x
  have HEZ:=O ez
  go_wp2
  go_ret
  have HC:=fun q=>(((Z H).below (below_drewN (Below.refl K _) q)).go (p+1) z hz).1
  exact ⟨⟨x,⟨p+1,z,bs⟩,rfl,⟨hx0,hx1,rfl,fun hf=>absurd hf (by simpa using hlt),near_nx hlt (Z HXB) (Z HEZ)⟩,(HC _).1⟩,(dY.of_below _ _ (bP _ _)).trans (HC _).2⟩
 have hd:decide ((p:Int)<(len:Int))=false:=by simpa using hlt
 go_enter Tryz.func83,Tryz.ntmps83
 go_wp2
 go_quiet (fail)
 have ez:=seed_far s
 obtain ⟨z,hz⟩:∃ z,z=lcg s % 18446744073709551616:=⟨_,rfl⟩
 have HZ:=O hz
 have hz2:z<18446744073709551616:=by rw [hz];exact Nat.mod_lt _ (by omega)
 rw [<- hz] at ez
 clear hz
 have ed:=draw_far z hz2
 go_wp2
 go_ret
 have HC:=fun q=>(((Z H).below (below_drewN (Below.refl K _) q)).go (p+1) z hz2).2
 exact ⟨⟨_,⟨p+1,z,bs⟩,rfl,⟨by omega,by omega,rfl,fun _=>⟨Z HZ,ed⟩,far_nx hlt (Z HZ) ed⟩,(HC _).1⟩,(dY.of_below _ _ (bP _ _)).trans (HC _).2⟩
theorem bY (K pc len:Nat) (c:Cu) (n:Nat) (w:World) (h:Cur K w pc len c) (hat:c.at_<4611686018427387904) (hn:2<=n) (hn2:n<=200) :
  Calls Tryz.prog 34 #[.pointer (some ⟨pc,0,none⟩),.int .i64 n] w fun e w'=>(∃ (x:Nat) (c':Cu),e=.returned (.int .i64 ((x % n:Nat):Int))/\kW len c c' x/\Cur K w' pc len c')/\dY pc (pc+1) w w':=by
 have H:=O h
 clear h
 go_enter Tryz.func34,Tryz.ntmps34
 go_wp2_with fail
 refine (bF8 K pc len c _ (Z H) hat).mono ?_
 rintro e w1 ⟨⟨x,c',rfl,hd,hc⟩,hb⟩
 have HD:=O hd
 have HC:=O hc
 have HB:=O hb
 obtain ⟨y,rfl⟩:∃ y:Nat,x=(y:Int):=Int.eq_ofNat_of_zero_le hd.x0
 have hy:(y:Int)<256:=hd.x1
 clear hd hc hb
 obtain ⟨r,hr⟩:∃ r,r=y % n:=⟨_,rfl⟩
 have em:(y:Int).tmod (n:Int)=(r:Int):=by rw [hr];exact (Int.ofNat_tmod y n).symm
 have HR:=O hr
 clear hr
 go_wp2
 go_ret
 exact ⟨⟨y,c',by rw [Z HR];rfl,Z HD,Z HC⟩,Z HB⟩
structure jQ (len d:Nat) (c c':Cu):Prop where
 at1:c'.at_=c.at_+d
 far:len<=c.at_->c'.seed % 18446744073709551616=itr d c.seed % 18446744073709551616
 it:c'=pL len d c
theorem jQ.refl (len:Nat) (c:Cu):jQ len 0 c c:=⟨rfl,fun _=>rfl,rfl⟩
theorem jQ.next {len d:Nat} {c c1 c2:Cu} {x:Int} (h:jQ len d c c1) (k:kW len c1 c2 x):jQ len (d+1) c c2:=by
 refine ⟨by rw [k.at1,h.at1];omega,fun hf=>?_,by rw [k.nx.1,h.it];rfl⟩
 have h1:=h.far hf
 have h2:=(k.far (by rw [h.at1];omega)).1
 rw [h2,Nat.mod_mod]
 rw [show d+1=d+1 from rfl,vJ]
 show lcg c1.seed % _=lcg (itr d c.seed) % _
 unfold lcg
 rw [Nat.add_mod,Nat.mul_mod,h1,<- Nat.mul_mod,<- Nat.add_mod]
end Go.Proofs.YtmnmeaeicjhkhaaGreatDoor.Fun
namespace Go.Proofs.YtmnmeaeicjhkhaaGreatDoor.Fun
open Go.RowKit
attribute [local go_sem ↓] Go.wp_at_zero Go.wp_at_succ
def vAt (len:Nat) (c:Cu) (i:Nat):V:=⟨strOfNums [97+((fW len (pL len (1+2*i) c) % 3:Nat):Int)],strOfNums [48+((fW len (pL len (1+2*i+1) c) % 3:Nat):Int)]⟩
def VRel (len:Nat) (c:Cu) (l:List V):Prop:=l=(List.range l.length).map (vAt len c)
theorem kW.num {len:Nat} {c c':Cu} {x:Nat} (h:kW len c c' (x:Int)):x=fW len c:=by have:=h.nx.2;omega
theorem zJ {len:Nat} {c c1 ca cb:Cu} {l:List V} {xa xb ra rb:Nat} (h:VRel len c l) (hd:c1=pL len (1+2*l.length) c) (ha:kW len c1 ca (xa:Int)) (hra:ra=xa % 3) (hb:kW len ca cb (xb:Int)) (hrb:rb=xb % 3):VRel len c (l ++ [⟨strOfNums [97+(ra:Int)],strOfNums [48+(rb:Int)]⟩]):=by
 unfold VRel at h ⊢
 rw [List.length_append,List.length_singleton,List.range_succ,List.map_append,<- h]
 congr 1
 have e2:ca=pL len (1+2*l.length+1) c:=by rw [ha.nx.1,hd];rfl
 rw [hra,hrb,ha.num,hb.num,e2,hd]
 rfl
theorem yE (K pc len:Nat) (c:Cu) (w:World) (h:Cur K w pc len c) (hK:K<=w.heap.size) (hat:c.at_<4611686018427387800) :
  Calls Tryz.prog 85 #[.pointer (some ⟨pc,0,none⟩)] w fun e w'=>(∃ v l c',e=.returned v/\l.length<=3/\qW w.heap.size w' v l/\jQ len (1+2*l.length) c c'/\(VRel len c l/\l.length=fW len c % 4)/\Cur K w' pc len c')/\dY pc (pc+1) w w':=by
 have H:=O h
 clear h
 obtain ⟨i0,hi0,hz0,hz1,hz2⟩:=info_parts bE8
 have II:=O (And.intro hi0 (And.intro hz0 (And.intro hz1 hz2)));clear hi0 hz0 hz1 hz2
 go_enter Tryz.func85,Tryz.ntmps85
 go_wp2_with fail
 refine (bY K pc len c 4 _ (Z H) (by omega) (by omega) (by omega)).mono ?_
 rintro e w0 ⟨⟨x,c0,rfl,hd,hc⟩,hb⟩
 obtain ⟨n,hn⟩:∃ n,n=x % 4:=⟨_,rfl⟩
 have hn3:n<=3:=by omega
 rw [<- hn]
 have HXN:Hid (n=fW len c % 4):=O (by rw [hn,hd.num])
 have HD:=O ((jQ.refl len c).next hd)
 have HC:=O hc
 have HB:=O hb
 clear hd hc hb hn
 go_wp2
 go_loopw [3,4] (fun o i wr=>∃ (l:List V) (c1:Cu) (a:Option Addr) (oc m:Nat),l.length+m=n/\i=.int .i64 (m:Int)/\o=.slice a l.length oc/\qW w.heap.size wr o l/\jQ len (1+2*l.length) c c1/\Cur K wr pc len c1/\dY pc (pc+1) w wr/\VRel len c l) (fun _ i _=>(intOf i).toNat)
 case atStart=>exact ⟨[],c0,none,0,n,by simp,rfl,rfl,⟨World.ownsRow_nil _ _ _ _,by simp⟩,Z HD,Z HC,Z HB,rfl⟩
 case round =>
  obtain ⟨l,c1,oa,oc,m,hl,rfl,rfl,ho,hd,hc,hb,hvr⟩:=hrel
  have HVR:=O hvr
  have HO:=O ho
  have HD1:=O hd
  have HC1:=O hc
  have HB1:=O hb
  have hat1:c1.at_<4611686018427387900:=by rw [hd.at1];omega
  have hs1:w.heap.size<=wr.heap.size:=hb.size
  have hpk:pc<K:=hc.hk
  clear ho hd hc hb hvr HD HC HB
  obtain ⟨ln,hln⟩:∃ ln,ln=l.length:=⟨_,rfl⟩
  rw [<- hln] at hl
  rw [<- hln]
  have HLN:=O hln
  clear hln
  have hln3:ln<=3:=by omega
  by_cases hlt:0<m
  ·have hi1:(0:Int)<(m:Int):=by omega
   go_wp2_with fail
   refine wp_region_held_drew (S:=fun _=>True) (by kernel_rfl) trivial (fun hHeld=>?_)
   refine tka 0 11 hHeld ?_
   refine tka 1 12 hHeld ?_
   refine tka 7 18 hHeld ?_
   refine rdy 2 fun KK hK=>?_
   go_simp
   refine (bY K pc len c1 3 _ ((Z HC1).below (Below.refl _ _).drew) (by omega) (by omega) (by omega)).mono ?_
   rintro e wa ⟨⟨xa,ca,rfl,hda,hca⟩,hba⟩
   obtain ⟨ra,hra⟩:∃ ra,ra=xa % 3:=⟨_,rfl⟩
   rw [<- hra]
   have hra3:(ra:Int)<3:=by omega
   have HDA:=O hda.at1
   have HDD:=O ((Z HD1).next hda)
   have HCA:=O hca
   have HBA:=O ((dY.of_below pc (pc+1) (Below.refl wr.heap.size wr).drew).trans hba)
   have hsa:wr.heap.size<=wa.heap.size:=by simpa using hba.size
   have HNA:=O hda
   have HRA:=O hra
   clear hda hca hba hra
   have wr1:IntKind.i64.wrap (97+(ra:Int))=97+ra:=by rw [IntKind.wrap_i64];omega
   have wu1:IntKind.u8.wrap (97+(ra:Int))=97+ra:=by rw [qX];omega
   refine hK.out _ _ trivial (fun hHeld=>?_)
   clear hK KK
   try simp only [Act.put,sy]
   refine tka 3 14 hHeld ?_
   refine tka 4 15 hHeld ?_
   have NB:Hid (∀ b,wr.heap.size<=b->(Value.slice oa ln oc).ownBlock≠some b):=O (fun b hb e=>by have:=((Z HO).1.lt b (by rw [<- Z HLN];exact e)).2;omega)
   refine wpAnyH_ready (rs:=[5,8]) (by kernel_rfl) (by simp) ?_
   refine AllReadyH.cons rfl (fun KK hK=>?_) (AllReadyH.cons rfl (fun KK hK=>?_) AllReadyH.nil)
   ·go_simp
    have BL1:=O (bH wa (.cells #[.int .u8 (97+(ra:Int))] 5))
    refine hK.out _ _ trivial (fun hHeld=>?_)
    clear hK KK
    try simp only [Act.put,sy]
    refine jP (S':=fun W=>W.cell? ⟨wa.heap.size,0,none⟩=some (.int .u8 (97+(ra:Int)))) (fun _ _=>trivial) _ _ _ _ ?_
    replace hHeld:(wa.alloc (.cells #[.int .u8 (97+(ra:Int))] 5)).cell? ⟨wa.heap.size,0,none⟩=some (.int .u8 (97+(ra:Int))):=by rw [bK _ _ _ _ _ rfl];rfl
    refine tkx 6 17 ?hy6a hHeld ?r6a (v:=?v6a)
    case hy6a=>intro wx hSw;have ec:=kY wx _ _ hSw;go_simp;with_reducible rfl
    simp only [Act.put,sx]
    refine rdy 8 fun KK hK=>?_
    have HC2:=O ((Z HCA).below ((Z BL1).mono (by omega)))
    go_simp
    refine (bY K pc len ca 3 _ (Z HC2) (by rw [Z HDA];omega) (by omega) (by omega)).mono ?_
    rintro e wb ⟨⟨xb,cb,rfl,hdb,hcb⟩,hbb⟩
    obtain ⟨rb,hrb⟩:∃ rb,rb=xb % 3:=⟨_,rfl⟩
    rw [<- hrb]
    have hrb3:(rb:Int)<3:=by omega
    have HDB:=O hdb
    have HCB:=O hcb
    have HBB:=O hbb
    have HRB:=O hrb
    clear hdb hcb hbb hrb
    have wr2:IntKind.i64.wrap (48+(rb:Int))=48+rb:=by rw [IntKind.wrap_i64];omega
    have wu2:IntKind.u8.wrap (48+(rb:Int))=48+rb:=by rw [qX];omega
    have HB2:=O ((Z HBA).trans ((dY.of_below pc (pc+1) (Z BL1)).trans (Z HBB)))
    have hsb:wa.heap.size+1<=wb.heap.size:=by simpa using (Z HBB).size
    refine hK.out _ _ ((Z HBB).cell (by omega) hHeld) (fun hHeld=>?_)
    clear hK KK
    try simp only [Act.put,sy]
    refine tka 9 20 hHeld ?_
    refine tka 10 21 hHeld ?_
    refine rdy 11 fun KK hK=>?_
    go_simp
    have BL2:=O (bH wb (.cells #[.int .u8 (48+(rb:Int))] 5))
    refine hK.out _ _ (bG (Z BL2) hHeld) (fun hHeld=>?_)
    clear hK KK
    try simp only [Act.put,sy]
    refine jP (S':=fun W=>W.cell? ⟨wa.heap.size,0,none⟩=some (.int .u8 (97+(ra:Int)))/\W.cell? ⟨wb.heap.size,0,none⟩=some (.int .u8 (48+(rb:Int)))) (fun _ h=>h.1) _ _ _ _ ?_
    replace hHeld:(wb.alloc (.cells #[.int .u8 (48+(rb:Int))] 5)).cell? ⟨wa.heap.size,0,none⟩=some (.int .u8 (97+(ra:Int)))/\(wb.alloc (.cells #[.int .u8 (48+(rb:Int))] 5)).cell? ⟨wb.heap.size,0,none⟩=some (.int .u8 (48+(rb:Int))):=⟨hHeld,by rw [bK _ _ _ _ _ rfl];rfl⟩
    refine tkx 12 23 ?hy12a hHeld ?r12a (v:=?v12a)
    case hy12a=>intro wx hSw;have ec:=kY wx _ _ hSw.2;go_simp;with_reducible rfl
    simp only [Act.put,sx]
    have HCW:=O ((Z HCB).below ((Z BL2).mono (by omega)))
    have HBW:=O ((Z HB2).trans (dY.of_below pc (pc+1) (Z BL2)))
    refine tka 13 24 hHeld ?_
    refine rdy 14 fun KK hK=>?_
    go_simp
    have BL:=O (bH (wb.alloc (.cells #[.int .u8 (48+(rb:Int))] 5)) (.cells #[.string (strOfNums [97+(ra:Int)]),.string (strOfNums [48+(rb:Int)])] 40))
    refine hK.out _ _ ⟨bG (Z BL) hHeld.1,bG (Z BL) hHeld.2⟩ (fun hHeld=>?_)
    clear hK KK
    try simp only [Act.put,sy]
    refine rdy 15 fun KK hK=>?_
    have HOW:=O (bN (mN (Z HO).1 (Z HBW) (by omega)) (Z BL))
    have hszW:wr.heap.size<=(wb.alloc (.cells #[.int .u8 (48+(rb:Int))] 5)).heap.size:=(Z HBW).size
    refine step_append_lies _ (by rfl) _ _ _ (by rfl) w.heap.size 40 i0 _ 2 32 Tryz.underlying36 (Z II).1 (Z II).2.1 (Z II).2.2.1 (Z II).2.2.2 rfl (by omega) (.slice oa ln oc) ln (gW l) (by rfl) (by rw [Z HLN];exact Z HOW)
     ⟨wb.heap.size+1,0,none⟩ 1 1 [.string (strOfNums [97+(ra:Int)]),.string (strOfNums [48+(rb:Int)])] (by rfl) (by rfl) (World.news_of_block (cs:=#[.string (strOfNums [97+(ra:Int)]),.string (strOfNums [48+(rb:Int)])]) (t:=40) (fr:=(0,0)) (by have:=heap_alloc_new (wb.alloc (.cells #[.int .u8 (48+(rb:Int))] 5)) (.cells #[.string (strOfNums [97+(ra:Int)]),.string (strOfNums [48+(rb:Int)])] 40);simpa using this)) (by simp [Value.oneCell'])
     (by omega) (by unfold maxLen;omega) (by omega) (by simp;omega) ((wb.alloc (.cells #[.int .u8 (48+(rb:Int))] 5)).heap.size+1) (by simp) ?_
    intro g cap' w7 hown1 hgrow _ _
    have HBG:Hid (Below w.heap.size (wb.alloc (.cells #[.int .u8 (48+(rb:Int))] 5)) w7):=O (Below.grown ((Z BL).mono (by omega)) hgrow (by simp;omega) (fun k hk=>((Z HO).1.lt k (by rw [<- Z HLN];exact hk)).1))
    have HW:=O hown1
    have hx1:=(hgrow.cell_far ⟨wa.heap.size,0,none⟩ (by simp<;>omega) (Ne.symm (Z NB (wa.heap.size) (by omega)))).trans hHeld.1
    have hx2:=(hgrow.cell_far ⟨wb.heap.size,0,none⟩ (by simp<;>omega) (Ne.symm (Z NB (wb.heap.size) (by omega)))).trans hHeld.2
    refine hK.out _ _ ⟨hx1,hx2⟩ (fun hHeld=>?_)
    clear hK KK
    try simp only [Act.put,sy]
    refine tka 16 3 hHeld ?_
    refine wpAnyH_done (by kernel_rfl) ?_ _
    have HCG:=O ((Z HCW).below ((Z HBG).mono hK))
    have HBB2:=O (((Z HB1).trans (Z HBW)).onw (Z HBG))
    clear hown1 hgrow hx1 hx2 hHeld
    go_wp2
    go_roundw
    case rel =>
     refine ⟨l ++ [⟨strOfNums [97+(ra:Int)],strOfNums [48+(rb:Int)]⟩],cb,some ⟨g,0,none⟩,cap',m - 1,?_,?_,?_,⟨?_,?_⟩,?_,Z HCG,Z HBB2,zJ (Z HVR) (Z HD1).it (Z HNA) (Z HRA) (Z HDB) (Z HRB)⟩
     ·rw [List.length_append,<- Z HLN,List.length_singleton];omega
     ·congr 1;omega
     ·rw [List.length_append,<- Z HLN,List.length_singleton]
     ·rw [List.length_append,<- Z HLN,List.length_singleton,rM];exact Z HW
     ·intro x hx
      rcases List.mem_append.1 hx with hx | hx
      ·exact (Z HO).2 x hx
      rw [List.mem_singleton.1 hx];exact ⟨strOfNums_size _,strOfNums_size _⟩
     rw [List.length_append,List.length_singleton,show 1+2*(l.length+1)=1+2*l.length+1+1 by omega];exact (Z HDD).next (Z HDB)
    case measure=>simp [intOf];omega
   have HC2:=HCA
   go_simp
   refine (bY K pc len ca 3 _ (Z HC2) (by rw [Z HDA];omega) (by omega) (by omega)).mono ?_
   rintro e wb ⟨⟨xb,cb,rfl,hdb,hcb⟩,hbb⟩
   obtain ⟨rb,hrb⟩:∃ rb,rb=xb % 3:=⟨_,rfl⟩
   rw [<- hrb]
   have hrb3:(rb:Int)<3:=by omega
   have HDB:=O hdb
   have HCB:=O hcb
   have HBB:=O hbb
   have HRB:=O hrb
   clear hdb hcb hbb hrb
   have wr2:IntKind.i64.wrap (48+(rb:Int))=48+rb:=by rw [IntKind.wrap_i64];omega
   have wu2:IntKind.u8.wrap (48+(rb:Int))=48+rb:=by rw [qX];omega
   have HB2:=O ((Z HBA).trans (Z HBB))
   have hsb:wa.heap.size<=wb.heap.size:=(Z HBB).size
   refine hK.out _ _ trivial (fun hHeld=>?_)
   clear hK KK
   try simp only [Act.put,sy]
   refine tka 9 20 hHeld ?_
   refine tka 10 21 hHeld ?_
   refine wpAnyH_ready (rs:=[5,11]) (by kernel_rfl) (by simp) ?_
   refine AllReadyH.cons rfl (fun KK hK=>?_) (AllReadyH.cons rfl (fun KK hK=>?_) AllReadyH.nil)
   ·go_simp
    have BL1:=O (bH wb (.cells #[.int .u8 (97+(ra:Int))] 5))
    refine hK.out _ _ trivial (fun hHeld=>?_)
    clear hK KK
    try simp only [Act.put,sy]
    refine jP (S':=fun W=>W.cell? ⟨wb.heap.size,0,none⟩=some (.int .u8 (97+(ra:Int)))) (fun _ _=>trivial) _ _ _ _ ?_
    replace hHeld:(wb.alloc (.cells #[.int .u8 (97+(ra:Int))] 5)).cell? ⟨wb.heap.size,0,none⟩=some (.int .u8 (97+(ra:Int))):=by rw [bK _ _ _ _ _ rfl];rfl
    refine tkx 6 17 ?hy6c hHeld ?r6c (v:=?v6c)
    case hy6c=>intro wx hSw;have ec:=kY wx _ _ hSw;go_simp;with_reducible rfl
    simp only [Act.put,sx]
    refine rdy 11 fun KK hK=>?_
    go_simp
    have BL2:=O (bH (wb.alloc (.cells #[.int .u8 (97+(ra:Int))] 5)) (.cells #[.int .u8 (48+(rb:Int))] 5))
    refine hK.out _ _ (bG (Z BL2) hHeld) (fun hHeld=>?_)
    clear hK KK
    try simp only [Act.put,sy]
    refine jP (S':=fun W=>W.cell? ⟨wb.heap.size,0,none⟩=some (.int .u8 (97+(ra:Int)))/\W.cell? ⟨wb.heap.size+1,0,none⟩=some (.int .u8 (48+(rb:Int)))) (fun _ h=>h.1) _ _ _ _ ?_
    replace hHeld:((wb.alloc (.cells #[.int .u8 (97+(ra:Int))] 5)).alloc (.cells #[.int .u8 (48+(rb:Int))] 5)).cell? ⟨wb.heap.size,0,none⟩=some (.int .u8 (97+(ra:Int)))/\((wb.alloc (.cells #[.int .u8 (97+(ra:Int))] 5)).alloc (.cells #[.int .u8 (48+(rb:Int))] 5)).cell? ⟨wb.heap.size+1,0,none⟩=some (.int .u8 (48+(rb:Int))):=⟨hHeld,by rw [bK _ _ _ _ _ (by simp)];rfl⟩
    refine tkx 12 23 ?hy12c hHeld ?r12c (v:=?v12c)
    case hy12c=>intro wx hSw;have ec:=kY wx _ _ hSw.2;go_simp;with_reducible rfl
    simp only [Act.put,sx]
    have HCW:=O (((Z HCB).below ((Z BL1).mono (by omega))).below ((Z BL2).mono (by simp;omega)))
    have HBW:=O ((Z HB2).trans ((dY.of_below pc (pc+1) (Z BL1)).trans (dY.of_below pc (pc+1) (Z BL2))))
    refine tka 13 24 hHeld ?_
    refine rdy 14 fun KK hK=>?_
    go_simp
    have BL:=O (bH ((wb.alloc (.cells #[.int .u8 (97+(ra:Int))] 5)).alloc (.cells #[.int .u8 (48+(rb:Int))] 5)) (.cells #[.string (strOfNums [97+(ra:Int)]),.string (strOfNums [48+(rb:Int)])] 40))
    refine hK.out _ _ ⟨bG (Z BL) hHeld.1,bG (Z BL) hHeld.2⟩ (fun hHeld=>?_)
    clear hK KK
    try simp only [Act.put,sy]
    refine rdy 15 fun KK hK=>?_
    have HOW:=O (bN (mN (Z HO).1 (Z HBW) (by omega)) (Z BL))
    have hszW:wr.heap.size<=((wb.alloc (.cells #[.int .u8 (97+(ra:Int))] 5)).alloc (.cells #[.int .u8 (48+(rb:Int))] 5)).heap.size:=(Z HBW).size
    refine step_append_lies _ (by rfl) _ _ _ (by rfl) w.heap.size 40 i0 _ 2 32 Tryz.underlying36 (Z II).1 (Z II).2.1 (Z II).2.2.1 (Z II).2.2.2 rfl (by omega) (.slice oa ln oc) ln (gW l) (by rfl) (by rw [Z HLN];exact Z HOW)
     ⟨wb.heap.size+1+1,0,none⟩ 1 1 [.string (strOfNums [97+(ra:Int)]),.string (strOfNums [48+(rb:Int)])] (by rfl) (by rfl) (World.news_of_block (cs:=#[.string (strOfNums [97+(ra:Int)]),.string (strOfNums [48+(rb:Int)])]) (t:=40) (fr:=(0,0)) (by have:=heap_alloc_new ((wb.alloc (.cells #[.int .u8 (97+(ra:Int))] 5)).alloc (.cells #[.int .u8 (48+(rb:Int))] 5)) (.cells #[.string (strOfNums [97+(ra:Int)]),.string (strOfNums [48+(rb:Int)])] 40);simpa using this)) (by simp [Value.oneCell'])
     (by omega) (by unfold maxLen;omega) (by omega) (by simp;omega) (((wb.alloc (.cells #[.int .u8 (97+(ra:Int))] 5)).alloc (.cells #[.int .u8 (48+(rb:Int))] 5)).heap.size+1) (by simp) ?_
    intro g cap' w7 hown1 hgrow _ _
    have HBG:Hid (Below w.heap.size ((wb.alloc (.cells #[.int .u8 (97+(ra:Int))] 5)).alloc (.cells #[.int .u8 (48+(rb:Int))] 5)) w7):=O (Below.grown ((Z BL).mono (by omega)) hgrow (by simp;omega) (fun k hk=>((Z HO).1.lt k (by rw [<- Z HLN];exact hk)).1))
    have HW:=O hown1
    have hx1:=(hgrow.cell_far ⟨wb.heap.size,0,none⟩ (by simp<;>omega) (Ne.symm (Z NB (wb.heap.size) (by omega)))).trans hHeld.1
    have hx2:=(hgrow.cell_far ⟨wb.heap.size+1,0,none⟩ (by simp<;>omega) (Ne.symm (Z NB (wb.heap.size+1) (by omega)))).trans hHeld.2
    refine hK.out _ _ ⟨hx1,hx2⟩ (fun hHeld=>?_)
    clear hK KK
    try simp only [Act.put,sy]
    refine tka 16 3 hHeld ?_
    refine wpAnyH_done (by kernel_rfl) ?_ _
    have HCG:=O ((Z HCW).below ((Z HBG).mono hK))
    have HBB2:=O (((Z HB1).trans (Z HBW)).onw (Z HBG))
    clear hown1 hgrow hx1 hx2 hHeld
    go_wp2
    go_roundw
    case rel =>
     refine ⟨l ++ [⟨strOfNums [97+(ra:Int)],strOfNums [48+(rb:Int)]⟩],cb,some ⟨g,0,none⟩,cap',m - 1,?_,?_,?_,⟨?_,?_⟩,?_,Z HCG,Z HBB2,zJ (Z HVR) (Z HD1).it (Z HNA) (Z HRA) (Z HDB) (Z HRB)⟩
     ·rw [List.length_append,<- Z HLN,List.length_singleton];omega
     ·congr 1;omega
     ·rw [List.length_append,<- Z HLN,List.length_singleton]
     ·rw [List.length_append,<- Z HLN,List.length_singleton,rM];exact Z HW
     ·intro x hx
      rcases List.mem_append.1 hx with hx | hx
      ·exact (Z HO).2 x hx
      rw [List.mem_singleton.1 hx];exact ⟨strOfNums_size _,strOfNums_size _⟩
     rw [List.length_append,List.length_singleton,show 1+2*(l.length+1)=1+2*l.length+1+1 by omega];exact (Z HDD).next (Z HDB)
    case measure=>simp [intOf];omega
   go_simp
   have BL1:=O (bH wb (.cells #[.int .u8 (48+(rb:Int))] 5))
   refine hK.out _ _ trivial (fun hHeld=>?_)
   clear hK KK
   try simp only [Act.put,sy]
   refine jP (S':=fun W=>W.cell? ⟨wb.heap.size,0,none⟩=some (.int .u8 (48+(rb:Int)))) (fun _ _=>trivial) _ _ _ _ ?_
   replace hHeld:(wb.alloc (.cells #[.int .u8 (48+(rb:Int))] 5)).cell? ⟨wb.heap.size,0,none⟩=some (.int .u8 (48+(rb:Int))):=by rw [bK _ _ _ _ _ rfl];rfl
   refine tkx 12 23 ?hy12d hHeld ?r12d (v:=?v12d)
   case hy12d=>intro wx hSw;have ec:=kY wx _ _ hSw;go_simp;with_reducible rfl
   simp only [Act.put,sx]
   refine rdy 5 fun KK hK=>?_
   go_simp
   have BL2:=O (bH (wb.alloc (.cells #[.int .u8 (48+(rb:Int))] 5)) (.cells #[.int .u8 (97+(ra:Int))] 5))
   refine hK.out _ _ (bG (Z BL2) hHeld) (fun hHeld=>?_)
   clear hK KK
   try simp only [Act.put,sy]
   refine jP (S':=fun W=>W.cell? ⟨wb.heap.size,0,none⟩=some (.int .u8 (48+(rb:Int)))/\W.cell? ⟨wb.heap.size+1,0,none⟩=some (.int .u8 (97+(ra:Int)))) (fun _ h=>h.1) _ _ _ _ ?_
   replace hHeld:((wb.alloc (.cells #[.int .u8 (48+(rb:Int))] 5)).alloc (.cells #[.int .u8 (97+(ra:Int))] 5)).cell? ⟨wb.heap.size,0,none⟩=some (.int .u8 (48+(rb:Int)))/\((wb.alloc (.cells #[.int .u8 (48+(rb:Int))] 5)).alloc (.cells #[.int .u8 (97+(ra:Int))] 5)).cell? ⟨wb.heap.size+1,0,none⟩=some (.int .u8 (97+(ra:Int))):=⟨hHeld,by rw [bK _ _ _ _ _ (by simp)];rfl⟩
   refine tkx 6 17 ?hy6d hHeld ?r6d (v:=?v6d)
   case hy6d=>intro wx hSw;have ec:=kY wx _ _ hSw.2;go_simp;with_reducible rfl
   simp only [Act.put,sx]
   have HCW:=O (((Z HCB).below ((Z BL1).mono (by omega))).below ((Z BL2).mono (by simp;omega)))
   have HBW:=O ((Z HB2).trans ((dY.of_below pc (pc+1) (Z BL1)).trans (dY.of_below pc (pc+1) (Z BL2))))
   refine tka 13 24 hHeld ?_
   refine rdy 14 fun KK hK=>?_
   go_simp
   have BL:=O (bH ((wb.alloc (.cells #[.int .u8 (48+(rb:Int))] 5)).alloc (.cells #[.int .u8 (97+(ra:Int))] 5)) (.cells #[.string (strOfNums [97+(ra:Int)]),.string (strOfNums [48+(rb:Int)])] 40))
   refine hK.out _ _ ⟨bG (Z BL) hHeld.1,bG (Z BL) hHeld.2⟩ (fun hHeld=>?_)
   clear hK KK
   try simp only [Act.put,sy]
   refine rdy 15 fun KK hK=>?_
   have HOW:=O (bN (mN (Z HO).1 (Z HBW) (by omega)) (Z BL))
   have hszW:wr.heap.size<=((wb.alloc (.cells #[.int .u8 (48+(rb:Int))] 5)).alloc (.cells #[.int .u8 (97+(ra:Int))] 5)).heap.size:=(Z HBW).size
   refine step_append_lies _ (by rfl) _ _ _ (by rfl) w.heap.size 40 i0 _ 2 32 Tryz.underlying36 (Z II).1 (Z II).2.1 (Z II).2.2.1 (Z II).2.2.2 rfl (by omega) (.slice oa ln oc) ln (gW l) (by rfl) (by rw [Z HLN];exact Z HOW)
    ⟨wb.heap.size+1+1,0,none⟩ 1 1 [.string (strOfNums [97+(ra:Int)]),.string (strOfNums [48+(rb:Int)])] (by rfl) (by rfl) (World.news_of_block (cs:=#[.string (strOfNums [97+(ra:Int)]),.string (strOfNums [48+(rb:Int)])]) (t:=40) (fr:=(0,0)) (by have:=heap_alloc_new ((wb.alloc (.cells #[.int .u8 (48+(rb:Int))] 5)).alloc (.cells #[.int .u8 (97+(ra:Int))] 5)) (.cells #[.string (strOfNums [97+(ra:Int)]),.string (strOfNums [48+(rb:Int)])] 40);simpa using this)) (by simp [Value.oneCell'])
    (by omega) (by unfold maxLen;omega) (by omega) (by simp;omega) (((wb.alloc (.cells #[.int .u8 (48+(rb:Int))] 5)).alloc (.cells #[.int .u8 (97+(ra:Int))] 5)).heap.size+1) (by simp) ?_
   intro g cap' w7 hown1 hgrow _ _
   have HBG:Hid (Below w.heap.size ((wb.alloc (.cells #[.int .u8 (48+(rb:Int))] 5)).alloc (.cells #[.int .u8 (97+(ra:Int))] 5)) w7):=O (Below.grown ((Z BL).mono (by omega)) hgrow (by simp;omega) (fun k hk=>((Z HO).1.lt k (by rw [<- Z HLN];exact hk)).1))
   have HW:=O hown1
   have hx1:=(hgrow.cell_far ⟨wb.heap.size,0,none⟩ (by simp<;>omega) (Ne.symm (Z NB (wb.heap.size) (by omega)))).trans hHeld.1
   have hx2:=(hgrow.cell_far ⟨wb.heap.size+1,0,none⟩ (by simp<;>omega) (Ne.symm (Z NB (wb.heap.size+1) (by omega)))).trans hHeld.2
   refine hK.out _ _ ⟨hx1,hx2⟩ (fun hHeld=>?_)
   clear hK KK
   try simp only [Act.put,sy]
   refine tka 16 3 hHeld ?_
   refine wpAnyH_done (by kernel_rfl) ?_ _
   have HCG:=O ((Z HCW).below ((Z HBG).mono hK))
   have HBB2:=O (((Z HB1).trans (Z HBW)).onw (Z HBG))
   clear hown1 hgrow hx1 hx2 hHeld
   go_wp2
   go_roundw
   case rel =>
    refine ⟨l ++ [⟨strOfNums [97+(ra:Int)],strOfNums [48+(rb:Int)]⟩],cb,some ⟨g,0,none⟩,cap',m - 1,?_,?_,?_,⟨?_,?_⟩,?_,Z HCG,Z HBB2,zJ (Z HVR) (Z HD1).it (Z HNA) (Z HRA) (Z HDB) (Z HRB)⟩
    ·rw [List.length_append,<- Z HLN,List.length_singleton];omega
    ·congr 1;omega
    ·rw [List.length_append,<- Z HLN,List.length_singleton]
    ·rw [List.length_append,<- Z HLN,List.length_singleton,rM];exact Z HW
    ·intro x hx
     rcases List.mem_append.1 hx with hx | hx
     ·exact (Z HO).2 x hx
     rw [List.mem_singleton.1 hx];exact ⟨strOfNums_size _,strOfNums_size _⟩
    rw [List.length_append,List.length_singleton,show 1+2*(l.length+1)=1+2*l.length+1+1 by omega];exact (Z HDD).next (Z HDB)
   case measure=>simp [intOf];omega
  have e:m=0:=by omega
  subst e
  go_wp2
  go_ret
  exact ⟨⟨_,l,c1,rfl,by rw [<- Z HLN];omega,by rw [<- Z HLN] at HO;exact Z HO,Z HD1,⟨Z HVR,by rw [<- Z HLN,<- Z HXN];omega⟩,Z HC1⟩,Z HB1⟩
end Go.Proofs.YtmnmeaeicjhkhaaGreatDoor.Fun
namespace Go.Proofs.YtmnmeaeicjhkhaaGreatDoor.Fun
open Go.RowKit
attribute [local go_sem ↓] Go.wp_at_zero Go.wp_at_succ
structure dL (w0:World) (K pc len N B2 ps:Nat) (wr:World) (c:Cu) (s:St) (ms:List Mo) (wv mv:Value) (ws:List Int):Prop where
 cur:Cur K wr pc len c
 kn:K<=N
 w0N:w0.heap.size=N
 spec:cG (N+3) wr ps s
 psB:ps<B2
 nb:N+3<=B2
 bB:B2<=wr.heap.size
 rbx:wr.heap[N]?=some (.cells #[.slice none 0 0,.slice none 0 0] 26 (0,0))
 fnx:wr.heap[N+1]?=some (.cells qJ 9 (0,0))
 tbx:wr.heap[N+2]?=some (.cells #[.slice (some ⟨N+1,0,none⟩) 4 4,mv] 26 (0,0))
 mom:bD6 B2 wr mv ms
 wai:wr.ownsRow B2 3 1 wv ws.length (ws.map (Value.int .i64))
 betw:dY pc (pc+1) w0 wr
theorem dL.draw {w0:World} {K pc len N B2 ps:Nat} {wr w':World} {c c':Cu} {s:St} {ms:List Mo} {wv mv:Value} {ws:List Int} (h:dL w0 K pc len N B2 ps wr c s ms wv mv ws) (hb:dY pc (pc+1) wr w') (hc:Cur K w' pc len c') :
  dL w0 K pc len N B2 ps w' c' s ms wv mv ws:=by
 have hp:pc<N:=Nat.lt_of_lt_of_le h.cur.hk h.kn
 have hn:=h.nb
 have hx:∀ b,N<=b->b<wr.heap.size->w'.heap[b]?=wr.heap[b]?:=fun b h1 h2=>hb.block b h2 (.inr (by omega))
 exact ⟨hc,h.kn,h.w0N,h.spec.blocks (fun b h1 h2=>hx b (by omega) h2),h.psB,h.nb,Nat.le_trans h.bB hb.size,by rw [hx _ (by omega) (fT h.rbx)];exact h.rbx,by rw [hx _ (by omega) (fT h.fnx)];exact h.fnx,by rw [hx _ (by omega) (fT h.tbx)];exact h.tbx,
  h.mom.betw hb (by omega),mN h.wai hb (by omega),h.betw.trans hb⟩
theorem dL.below {w0:World} {K pc len N B2 ps:Nat} {wr w':World} {c:Cu} {s:St} {ms:List Mo} {wv mv:Value} {ws:List Int} (h:dL w0 K pc len N B2 ps wr c s ms wv mv ws) (hb:Below wr.heap.size wr w') :
  dL w0 K pc len N B2 ps w' c s ms wv mv ws:=by
 have hK:K<=wr.heap.size:=by
  have:=fT h.rbx
  have:=h.kn
  omega
 exact h.draw (dY.of_below _ _ hb) (h.cur.below (hb.mono hK))
theorem dL.move {w0:World} {K pc len N B2 ps:Nat} {wr w':World} {c:Cu} {s s':St} {ms:List Mo} {wv mv:Value} {ws:List Int} (h:dL w0 K pc len N B2 ps wr c s ms wv mv ws) (hs:cG (N+3) w' ps s') (hb:Below (N+3) wr w') (hk:gD ps wr w') :
  dL w0 K pc len N B2 ps w' c s' ms wv mv ws:=by
 have hn:=h.kn
 have hw:=h.w0N
 exact ⟨h.cur.below (hb.mono (by omega)),h.kn,h.w0N,hs,h.psB,h.nb,Nat.le_trans h.bB hb.size,by rw [hb.block _ (by omega)];exact h.rbx,by rw [hb.block _ (by omega)];exact h.fnx,by rw [hb.block _ (by omega)];exact h.tbx,
  h.mom.keeps hk h.psB,xE h.wai hk h.psB (by decide) (by decide),h.betw.onw (hb.mono (by omega))⟩
theorem dL.waits {w0:World} {K pc len N B2 ps:Nat} {wr w':World} {c:Cu} {s:St} {ms:List Mo} {wv mv wv':Value} {ws ws':List Int} (h:dL w0 K pc len N B2 ps wr c s ms wv mv ws) (hg:wr.grownBy w' wv.ownBlock) (ho:w'.ownsRow B2 3 1 wv' ws'.length (ws'.map (Value.int .i64))) :
  dL w0 K pc len N B2 ps w' c s ms wv' mv ws':=by
 have hn:=h.nb
 have hk:=h.kn
 have hw:=h.w0N
 have hB:=h.bB
 have hr:=vK h.wai
 have hb:Below B2 wr w':=Below.grown (Below.refl _ _) hg h.bB (fun k e=>(hr k e).1)
 refine ⟨h.cur.below (hb.mono (by omega)),h.kn,h.w0N,h.spec.apart h.psB hg hr (by decide) (by decide),h.psB,h.nb,Nat.le_trans h.bB hg.size,by rw [hb.block _ (by omega)];exact h.rbx,by rw [hb.block _ (by omega)];exact h.fnx,by rw [hb.block _ (by omega)];exact h.tbx,⟨?_,fun x hx=>⟨⟨?_,(h.mom.vars x hx).1.2⟩,(h.mom.vars x hx).2⟩⟩,ho,h.betw.onw (hb.mono (by omega))⟩
 ·exact kS h.mom.row hg (fun g e=>(hr g e).2) (by decide)
 exact kS (h.mom.vars x hx).1.1 hg (fun g e=>(hr g e).2) (by decide)
theorem dL.moms {w0:World} {K pc len N B2 ps:Nat} {wr w':World} {c:Cu} {s:St} {ms:List Mo} {wv mv mv':Value} {ws:List Int} (x:Mo) (h:dL w0 K pc len N B2 ps wr c s ms wv mv ws) (hg:wr.grownBy w' mv.ownBlock) (ho:w'.ownsRow B2 108 6 mv' (ms ++ [x]).length (fD (ms ++ [x])))
  (hv:qW B2 wr x.vv x.l) (hl:x.l.length<=3) (ht:x.text.size<=1):dL w0 K pc len N B2 ps (w'.setCell ⟨N+2,1,none⟩ mv') c s (ms ++ [x]) wv mv' ws:=by
 have hn:=h.nb
 have hk:=h.kn
 have hw:=h.w0N
 have hB:=h.bB
 have hr:=vK h.mom.row
 have hb:Below B2 wr w':=Below.grown (Below.refl _ _) hg h.bB (fun k e=>(hr k e).1)
 have hb2:Below (N+2) wr (w'.setCell ⟨N+2,1,none⟩ mv'):=(hb.mono (B':=N+2) (by omega)).setCell (p:=⟨N+2,1,none⟩) (Nat.le_refl _) _
 have hs:∀ b,b≠N+2->(w'.setCell ⟨N+2,1,none⟩ mv').heap[b]?=w'.heap[b]?:=fun b e=>Below.heap_setCell _ _ _ _ e
 have hx:∀ {B:Nat} {e:TypeId} {z:Nat} {v:Value} {n:Nat} {xs:List Value},w'.ownsRow B e z v n xs->N+3<=B->(w'.setCell ⟨N+2,1,none⟩ mv').ownsRow B e z v n xs:=by
  intro B e z v n xs h1 h2
  refine ⟨h1.1,?_⟩
  rcases h1.2 with hn | ⟨g,cap,cur,hv,hB,hh,rest⟩
  ·exact .inl hn
  exact .inr ⟨g,cap,cur,hv,hB,by rw [hs g (by omega)];exact hh,rest⟩
 refine ⟨h.cur.below (hb2.mono (by omega)),h.kn,h.w0N,(h.spec.apart h.psB hg hr (by decide) (by decide)).blocks (fun b h1 _=>hs b (by omega)),h.psB,h.nb,Nat.le_trans h.bB hb2.size,?_,?_,?_,⟨hx ho h.nb,fun y hy=>?_⟩,?_,h.betw.onw (hb2.mono (by omega))⟩
 ·rw [hs _ (by omega),hb.block _ (by omega)];exact h.rbx
 ·rw [hs _ (by omega),hb.block _ (by omega)];exact h.fnx
 ·exact setCells_two _ _ _ _ _ _ (by rw [hb.block _ (by omega)];exact h.tbx)
 ·rcases List.mem_append.1 hy with hy | hy
  ·exact ⟨⟨hx (kS (h.mom.vars y hy).1.1 hg (fun g e=>(hr g e).2) (by decide)) h.nb,(h.mom.vars y hy).1.2⟩,(h.mom.vars y hy).2⟩
  rw [List.mem_singleton.1 hy]
  exact ⟨⟨hx (kS hv.1 hg (fun g e=>(hr g e).2) (by decide)) h.nb,hv.2⟩,hl,ht⟩
 exact hx (kS h.wai hg (fun g e=>(hr g e).2) (by decide)) h.nb
theorem dL.c1 {w0:World} {K pc len N B2 ps:Nat} {wr:World} {c:Cu} {s:St} {ms:List Mo} {wv mv:Value} {ws:List Int} (h:dL w0 K pc len N B2 ps wr c s ms wv mv ws):wr.cell? ⟨ps,1,none⟩=some (.int .i64 s.cur):=by
 obtain ⟨bt,V,hh⟩:=h.spec
 exact hh.c1
theorem dL.t1 {w0:World} {K pc len N B2 ps:Nat} {wr:World} {c:Cu} {s:St} {ms:List Mo} {wv mv:Value} {ws:List Int} (h:dL w0 K pc len N B2 ps wr c s ms wv mv ws):wr.cell? ⟨N+2,1,none⟩=some mv:=by
 rw [cell_of_row wr (N+2) 1 _ _ _ h.tbx];rfl
structure vT (w0:World) (K pc len N B2 ps n:Nat) (g:Nat) (wr:World) (c:Cu) (s:St) (ms:List Mo) (wv mv:Value) (ws:List Int) (nt t:Nat):Prop where
 mem:dL w0 K pc len N B2 ps wr c s ms wv mv ws
 path:bG1 ms s
 okay:zF s ms.length
 w9:∀ x,x∈ws->0<=x/\x<9
 n1:ws.length<nt
 n9:nt<=9
 msn:ms.length<=n
 t48:t<281474976710656
 tt:len<=c.at_->itr t c.seed % 281474976710656=10
 att:c.at_+t<=len+12+(ms.length+1)*281474976710680
 gg:g=(n - ms.length)*1180591620717411303424+(len - c.at_)*562949953421312+t
theorem dL.start {K pc len ps:Nat} {c:Cu} {w w1:World} (h:Cur K w pc len c) (hK:K<=w.heap.size)
  (hs:cG (w.heap.size+3) w1 ps St.init)
  (hb:Below (w.heap.size+3) (((w.alloc (.cells #[.slice none 0 0,.slice none 0 0] 26)).alloc (.cells qJ 9)).alloc (.cells #[.slice (some ⟨w.heap.size+1,0,none⟩) 4 4,.slice none 0 0] 26)) w1) :
  dL w K pc len w.heap.size w1.heap.size ps (w1.alloc (.cells #[] 3)) c St.init [] (.slice (some ⟨w1.heap.size,0,none⟩) 0 0) (.slice none 0 0) []:=by
 have b3:Below w.heap.size w (((w.alloc (.cells #[.slice none 0 0,.slice none 0 0] 26)).alloc (.cells qJ 9)).alloc (.cells #[.slice (some ⟨w.heap.size+1,0,none⟩) 4 4,.slice none 0 0] 26)) :=
  (((Below.refl _ _).alloc (Nat.le_refl _) _).alloc (by simp) _).alloc (by simp;omega) _
 have b1:Below w.heap.size w w1:=b3.trans (hb.mono (by omega))
 have sz:w.heap.size+3<=w1.heap.size:=by have:=hb.size;simpa using this
 have bl:=bH w1 (.cells #[] 3)
 have b2:Below w.heap.size w (w1.alloc (.cells #[] 3)):=b1.trans (bl.mono (by omega))
 have hp:ps<w1.heap.size:=by obtain ⟨bt,V,hh⟩:=hs;exact bV hh.c0
 have e0:∀ b,b<w.heap.size+3->(w1.alloc (.cells #[] 3)).heap[b]?=(((w.alloc (.cells #[.slice none 0 0,.slice none 0 0] 26)).alloc (.cells qJ 9)).alloc (.cells #[.slice (some ⟨w.heap.size+1,0,none⟩) 4 4,.slice none 0 0] 26)).heap[b]?:=fun b hb'=>by
  rw [bl.block b (by omega),hb.block b hb']
 refine ⟨h.below (b2.mono hK),hK,rfl,hs.below bl,hp,sz,by simp,?_,?_,?_,⟨World.ownsRow_nil _ _ _ _,fun x hx=>by cases hx⟩,⟨rfl,.inr ⟨w1.heap.size,0,#[],rfl,Nat.le_refl _,?_,Nat.le_refl _,by unfold maxLen;omega,rfl,rfl⟩⟩,dY.of_below _ _ b2⟩
 ·rw [e0 _ (by omega),Below.heap_alloc _ _ _ (by simp<;>omega),Below.heap_alloc _ _ _ (by simp<;>omega)]
  exact heap_alloc_new w _
 ·rw [e0 _ (by omega),Below.heap_alloc _ _ _ (by simp<;>omega)]
  have:=heap_alloc_new (w.alloc (.cells #[.slice none 0 0,.slice none 0 0] 26)) (.cells qJ 9)
  simpa using this
 ·rw [e0 _ (by omega)]
  have:=heap_alloc_new ((w.alloc (.cells #[.slice none 0 0,.slice none 0 0] 26)).alloc (.cells qJ 9)) (.cells #[.slice (some ⟨w.heap.size+1,0,none⟩) 4 4,.slice none 0 0] 26)
  simpa using this
 exact heap_alloc_new w1 _
theorem vT.again {w0:World} {K pc len N B2 ps n g:Nat} {wr w':World} {c c':Cu} {s:St} {ms:List Mo} {wv mv:Value} {ws:List Int} {nt t d x:Nat} (h:vT w0 K pc len N B2 ps n g wr c s ms wv mv ws nt t) (hm:dL w0 K pc len N B2 ps w' c' s ms wv mv ws)
  (h1:1<=d) (h9:d<=9) (hd:jQ len d c c') (hx:len<=c.at_->x=c'.seed / 1099511627776 % 256) (h8:x % 14=8∨x % 14=9):∃ g' t',g' < g/\vT w0 K pc len N B2 ps n g' w' c' s ms wv mv ws nt t':=by
 have ha:=hd.at1
 have ht:=h.t48
 have hatt:=h.att
 have hgg:=h.gg
 by_cases hl:len<=c.at_
 ·have hz:=hd.far hl
  have hle:=far_draw t d c.seed c'.seed x (h.tt hl) hz (hx hl) (by omega) h8
  refine ⟨_,t - d,?_,hm,h.path,h.okay,h.w9,h.n1,h.n9,h.msn,by omega,fun _=>seed_less t d c.seed c'.seed (h.tt hl) hz hle,by omega,rfl⟩
  rw [hgg];omega
 obtain ⟨t',ht',e'⟩:=xD c'.seed
 refine ⟨_,t',?_,hm,h.path,h.okay,h.w9,h.n1,h.n9,h.msn,ht',fun _=>e',by omega,rfl⟩
 rw [hgg];omega
theorem vT.next {w0:World} {K pc len N B2 ps n g:Nat} {wr w':World} {c c':Cu} {s s':St} {ms:List Mo} {x:Mo} {wv mv wv' mv':Value} {ws ws':List Int} {nt nt' t:Nat} (h:vT w0 K pc len N B2 ps n g wr c s ms wv mv ws nt t) (hm:dL w0 K pc len N B2 ps w' c' s' (ms ++ [x]) wv' mv' ws')
  (hl:ms.length<n) (hp:bG1 (ms ++ [x]) s') (ho:zF s' (ms.length+1)) (h9:∀ x,x∈ws'->0<=x/\x<9) (n1:ws'.length<nt') (n9:nt'<=9) (hc1:c.at_<=c'.at_) (hc2:c'.at_<=c.at_+12):∃ g' t',g' < g/\vT w0 K pc len N B2 ps n g' w' c' s' (ms ++ [x]) wv' mv' ws' nt' t':=by
 have hatt:=h.att
 have hgg:=h.gg
 have el:(ms ++ [x]).length=ms.length+1:=by simp
 obtain ⟨t',ht',e'⟩:=xD c'.seed
 refine ⟨_,t',?_,hm,hp,by rw [el];exact ho,h9,n1,n9,by rw [el];omega,ht',fun _=>e',by rw [el];omega,rfl⟩
 rw [hgg,el];omega
theorem vT.drawn {w0:World} {K pc len N B2 ps n g:Nat} {wr:World} {c:Cu} {s:St} {ms:List Mo} {wv mv:Value} {ws:List Int} {nt t:Nat} (h:vT w0 K pc len N B2 ps n g wr c s ms wv mv ws nt t) (hl:ms.length=n) (hn:n<90) :
  eE (N+1) wr (.slice (some ⟨N+1,0,none⟩) 4 4) 4 gA/\bQ (N+1) wr mv n (fC ms)/\cB 4 gA n (fC ms):=by
 have hb:=h.mem.nb
 obtain ⟨_,hs⟩:=h.path.sound
 refine ⟨⟨some ⟨N+1,0,none⟩,4,rfl,by unfold maxLen;omega,fun i hi=>⟨N+1,0,rfl,?_,?_,Nat.le_refl _,fun _=>?_⟩⟩,?_,bB0 hn,fun j hj=>(hs j (by omega)).1,fun j hj=>(hs j (by omega)).2⟩
 ·rw [Nat.zero_add,cell_of_row wr (N+1) i _ _ _ h.mem.fnx]
  rcases (show i=0∨i=1∨i=2∨i=3 by omega) with rfl | rfl | rfl | rfl
  all_goals rfl
 ·have:=(bB0 hn).2.2.2 i hi
  unfold maxLen;omega
 ·rw [Nat.zero_add]
  simp [World.frozen?,h.mem.fnx]
 have:=h.mem.mom.momsAt (by omega)
 rw [hl] at this
 exact this.low (by omega)
theorem dL.setBox {w0:World} {K pc len N B2 ps mb i:Nat} {wr:World} {c:Cu} {s:St} {ms:List Mo} {wv mv vv u:Value} {ws:List Int} {l:List V} {k t fn ln:Int} {tx:ByteArray} (h:dL w0 K pc len N B2 ps wr c s ms wv mv ws) (hx:Bx B2 mb wr mv vv l k t fn ln tx) :
  dL w0 K pc len N B2 ps (wr.setCell ⟨mb,i,none⟩ u) c s ms wv mv ws:=by
 have hn:=h.nb
 have hk:=h.kn
 have hw:=h.w0N
 have hB:=hx.hB
 have hp:=h.psB
 have hb:Below B2 wr (wr.setCell ⟨mb,i,none⟩ u):=(Below.refl _ _).setCell (p:=⟨mb,i,none⟩) hx.hB _
 exact ⟨h.cur.below (hb.mono (by omega)),h.kn,h.w0N,h.spec.but (mb:=mb) (fun b e=>Below.heap_setCell _ _ _ _ e) (by omega) hx.box (by decide) (by decide),h.psB,h.nb,Nat.le_trans h.bB hb.size,by rw [hb.block _ (by omega)];exact h.rbx,by rw [hb.block _ (by omega)];exact h.fnx,by rw [hb.block _ (by omega)];exact h.tbx,
  ⟨cM h.mom.row hx.far,fun x hx'=>⟨⟨fQ (h.mom.vars x hx').1.1 hx.box (by decide),(h.mom.vars x hx').1.2⟩,(h.mom.vars x hx').2⟩⟩,fQ h.wai hx.box (by decide),h.betw.onw (hb.mono (by omega))⟩
theorem jQ.trans {len d e:Nat} {c c1 c2:Cu} (h:jQ len d c c1) (k:jQ len e c1 c2):jQ len (d+e) c c2:=by
 refine ⟨by rw [k.at1,h.at1];omega,fun hf=>?_,by rw [k.it,h.it,bG3]⟩
 rw [k.far (by rw [h.at1];omega),<- bP5,h.far hf,bP5,vJ]
theorem dL.zbox {w0:World} {K pc len N B2 ps S0:Nat} {wr:World} {c:Cu} {s:St} {ms:List Mo} {wv mv:Value} {ws:List Int} (_:dL w0 K pc len N B2 ps wr c s ms wv mv ws) (hS:S0<=wr.heap.size) :
  xF S0 wr.heap.size (wr.alloc (.cells #[.int .i64 0,.int .i64 0,.int .i64 0,.int .i64 0,.string ByteArray.empty,.slice none 0 0] 108)):=xF.new hS
theorem dL.bnew {w0:World} {K pc len N B2 ps:Nat} {wr:World} {c:Cu} {s:St} {ms:List Mo} {wv mv:Value} {ws:List Int} (_:dL w0 K pc len N B2 ps wr c s ms wv mv ws) :
  Below wr.heap.size wr (wr.alloc (.cells #[.int .i64 0,.int .i64 0,.int .i64 0,.int .i64 0,.string ByteArray.empty,.slice none 0 0] 108)):=bH _ _
theorem dL.setAt {w0:World} {K pc len N B2 ps mb i:Nat} {wr:World} {c:Cu} {s:St} {ms:List Mo} {wv mv u:Value} {ws:List Int} {cs:Array Value} {fr:Nat × Nat} (h:dL w0 K pc len N B2 ps wr c s ms wv mv ws) (hB:B2<=mb) (hbx:wr.heap[mb]?=some (.cells cs 108 fr)) (hfar:mv.ownBlock≠some mb) :
  dL w0 K pc len N B2 ps (wr.setCell ⟨mb,i,none⟩ u) c s ms wv mv ws/\∃ cs',(wr.setCell ⟨mb,i,none⟩ u).heap[mb]?=some (.cells cs' 108 fr):=by
 have hn:=h.nb
 have hk:=h.kn
 have hw:=h.w0N
 have hp:=h.psB
 have hb:Below B2 wr (wr.setCell ⟨mb,i,none⟩ u):=(Below.refl _ _).setCell (p:=⟨mb,i,none⟩) hB _
 exact ⟨⟨h.cur.below (hb.mono (by omega)),h.kn,h.w0N,h.spec.but (mb:=mb) (fun b e=>Below.heap_setCell _ _ _ _ e) (by omega) hbx (by decide) (by decide),h.psB,h.nb,Nat.le_trans h.bB hb.size,by rw [hb.block _ (by omega)];exact h.rbx,by rw [hb.block _ (by omega)];exact h.fnx,by rw [hb.block _ (by omega)];exact h.tbx,
  ⟨cM h.mom.row hfar,fun x hx'=>⟨⟨fQ (h.mom.vars x hx').1.1 hbx (by decide),(h.mom.vars x hx').1.2⟩,(h.mom.vars x hx').2⟩⟩,fQ h.wai hbx (by decide),h.betw.onw (hb.mono (by omega))⟩,⟨cs.setIfInBounds i u,by simp [World.setCell,Array.getElem?_modify,hbx]⟩⟩
theorem dL.full {w0:World} {K pc len N B2 ps S0 mb:Nat} {W:World} {c:Cu} {s:St} {ms:List Mo} {wv mv vv:Value} {ws:List Int} {l:List V} (h:dL w0 K pc len N B2 ps W c s ms wv mv ws) (hz:xF S0 mb W) (hB:B2<=S0) (hfar:mv.ownBlock≠some mb) (hov:qW B2 W vv l) (hl:l.length<=3) (t fn ln:Int) :
  dL w0 K pc len N B2 ps ((((((W.setCell ⟨mb,0,none⟩ (.int .i64 0)).setCell ⟨mb,1,none⟩ (.int .i64 t)).setCell ⟨mb,2,none⟩ (.int .i64 fn)).setCell ⟨mb,3,none⟩ (.int .i64 ln)).setCell ⟨mb,4,none⟩ (.string ByteArray.empty)).setCell ⟨mb,5,none⟩ vv) c s ms wv mv ws /\
  Bx B2 mb ((((((W.setCell ⟨mb,0,none⟩ (.int .i64 0)).setCell ⟨mb,1,none⟩ (.int .i64 t)).setCell ⟨mb,2,none⟩ (.int .i64 fn)).setCell ⟨mb,3,none⟩ (.int .i64 ln)).setCell ⟨mb,4,none⟩ (.string ByteArray.empty)).setCell ⟨mb,5,none⟩ vv) mv vv l 0 t fn ln ByteArray.empty:=by
 have hm:B2<=mb:=Nat.le_trans hB hz.hS
 obtain ⟨h1,c1,b1⟩:=h.setAt (i:=0) (u:=.int .i64 0) hm hz.box hfar
 obtain ⟨h2,c2,b2⟩:=h1.setAt (i:=1) (u:=.int .i64 t) hm b1 hfar
 obtain ⟨h3,c3,b3⟩:=h2.setAt (i:=2) (u:=.int .i64 fn) hm b2 hfar
 obtain ⟨h4,c4,b4⟩:=h3.setAt (i:=3) (u:=.int .i64 ln) hm b3 hfar
 obtain ⟨h5,c5,b5⟩:=h4.setAt (i:=4) (u:=.string ByteArray.empty) hm b4 hfar
 obtain ⟨h6,c6,b6⟩:=h5.setAt (i:=5) (u:=vv) hm b5 hfar
 refine ⟨h6,hm,?_,hfar,⟨?_,hov.2⟩,hl,by decide⟩
 ·simp [World.setCell,Array.getElem?_modify,hz.box]
 exact fQ (fQ (fQ (fQ (fQ (fQ hov.1 hz.box (by decide)) b1 (by decide)) b2 (by decide)) b3 (by decide)) b4 (by decide)) b5 (by decide)
theorem dL.pop {w0:World} {K pc len N B2 ps g cap:Nat} {wr:World} {c:Cu} {s:St} {ms:List Mo} {mv:Value} {ws:List Int} {x:Int} (h:dL w0 K pc len N B2 ps wr c s ms (.slice (some ⟨g,0,none⟩) (ws.length+1) cap) mv (ws ++ [x])) :
  dL w0 K pc len N B2 ps wr c s ms (.slice (some ⟨g,0,none⟩) ws.length cap) mv ws:=by
 have hw:=h.wai
 rw [List.map_append,List.length_append] at hw
 exact ⟨h.cur,h.kn,h.w0N,h.spec,h.psB,h.nb,h.bB,h.rbx,h.fnx,h.tbx,h.mom,ownsRow_pop (by simp) hw,h.betw⟩
def eK (len:Nat) (c1:Cu) (cu:Nat) (tf:Int) (xl:Nat) (ws:List Int) (nt:Nat):Cu × Int × Int × Int × Int × ByteArray × List Int × Nat :=
 if fW len c1 % 14<5 then (eF len c1,1,(cu:Int),tf,(xl:Int)+1,ByteArray.empty,ws,nt)
 else if fW len c1 % 14<8 then (eF len (eF len c1),2,(cu:Int),((fW len (eF len c1) % 4:Nat):Int),(xl:Int),ByteArray.empty,ws,nt)
 else if fW len c1 % 14<10 then (eF len c1,3,(cu:Int),tf,(xl:Int),ByteArray.empty,ws,nt)
 else if fW len c1 % 14<11 then (eF len (eF len c1),4+((fW len (eF len c1) % 3:Nat):Int),(cu:Int),tf,(xl:Int),⟨#[55]⟩,ws,nt)
 else if fW len c1 % 14<12 then
  if fW len (eF len c1) % 2=0/\nt<9 then (eF len (eF len c1),7,(nt:Int),0,(xl:Int),ByteArray.empty,ws ++ [(cu:Int)],nt+1)
  else match ws.getLast? with
   | some x=>(eF len (eF len c1),7,x,0,(xl:Int),ByteArray.empty,ws.dropLast,nt)
   | none=>if nt<=1 then (eF len (eF len c1),7,0,0,(xl:Int),ByteArray.empty,ws,nt)
    else (eF len (eF len (eF len c1)),7,((fW len (eF len (eF len c1)) % nt:Nat):Int),0,(xl:Int),ByteArray.empty,ws,nt)
 else (eF len (eF len c1),1,(cu:Int),tf,1+((fW len (eF len c1) % 2:Nat):Int),ByteArray.empty,ws,nt)
section
variable {len:Nat} {c1 c2 c3 c4:Cu} {cu:Nat} {tf:Int} {xl:Nat} {ws:List Int} {nt x y z r ry rz:Nat}
theorem yF (h:kW len c1 c2 (x:Int)) (hr:r=x % 14) (h5:r<5):(c2,(1:Int),(cu:Int),tf,(xl:Int)+1,ByteArray.empty,ws,nt)=eK len c1 cu tf xl ws nt:=by
 unfold eK
 rw [if_pos (by rw [<- h.num,<- hr];exact h5),h.nx.1]
theorem ch_call (h:kW len c1 c2 (x:Int)) (hr:r=x % 14) (h5:5<=r) (h8:r<8) (hy:kW len c2 c3 (y:Int)) (hry:ry=y % 4):(c3,(2:Int),(cu:Int),(ry:Int),(xl:Int),ByteArray.empty,ws,nt)=eK len c1 cu tf xl ws nt:=by
 unfold eK
 rw [if_neg (by rw [<- h.num,<- hr];omega),if_pos (by rw [<- h.num,<- hr];exact h8),hy.nx.1,hry,hy.num,h.nx.1]
theorem ch_back (h:kW len c1 c2 (x:Int)) (hr:r=x % 14) (h8:8<=r) (h10:r<10):(c2,(3:Int),(cu:Int),tf,(xl:Int),ByteArray.empty,ws,nt)=eK len c1 cu tf xl ws nt:=by
 unfold eK
 rw [if_neg (by rw [<- h.num,<- hr];omega),if_neg (by rw [<- h.num,<- hr];omega),if_pos (by rw [<- h.num,<- hr];exact h10),h.nx.1]
theorem ch_thr (h:kW len c1 c2 (x:Int)) (hr:10=x % 14) (hy:kW len c2 c3 (y:Int)) (hry:ry=y % 3):(c3,4+(ry:Int),(cu:Int),tf,(xl:Int),(⟨#[55]⟩:ByteArray),ws,nt)=eK len c1 cu tf xl ws nt:=by
 unfold eK
 rw [if_neg (by rw [<- h.num,<- hr];omega),if_neg (by rw [<- h.num,<- hr];omega),if_neg (by rw [<- h.num,<- hr];omega),if_pos (by rw [<- h.num,<- hr];omega),hy.nx.1,hry,hy.num,h.nx.1]
theorem ch_last (h:kW len c1 c2 (x:Int)) (hr:r=x % 14) (h12:12<=r) (hy:kW len c2 c3 (y:Int)) (hry:ry=y % 2):(c3,(1:Int),(cu:Int),tf,1+(ry:Int),ByteArray.empty,ws,nt)=eK len c1 cu tf xl ws nt:=by
 unfold eK
 rw [if_neg (by rw [<- h.num,<- hr];omega),if_neg (by rw [<- h.num,<- hr];omega),if_neg (by rw [<- h.num,<- hr];omega),if_neg (by rw [<- h.num,<- hr];omega),if_neg (by rw [<- h.num,<- hr];omega),hy.nx.1,hry,hy.num,h.nx.1]
theorem bE3 (h:kW len c1 c2 (x:Int)) (hr:11=x % 14) (hy:kW len c2 c3 (y:Int)):eK len c1 cu tf xl ws nt=if y % 2=0/\nt<9 then (c3,(7:Int),(nt:Int),(0:Int),(xl:Int),ByteArray.empty,ws ++ [(cu:Int)],nt+1)
  else match ws.getLast? with
   | some x=>(c3,(7:Int),x,(0:Int),(xl:Int),ByteArray.empty,ws.dropLast,nt)
   | none=>if nt<=1 then (c3,(7:Int),(0:Int),(0:Int),(xl:Int),ByteArray.empty,ws,nt)
    else (eF len c3,(7:Int),((fW len c3 % nt:Nat):Int),(0:Int),(xl:Int),ByteArray.empty,ws,nt):=by
 unfold eK
 rw [if_neg (by rw [<- h.num,<- hr];omega),if_neg (by rw [<- h.num,<- hr];omega),if_neg (by rw [<- h.num,<- hr];omega),if_neg (by rw [<- h.num,<- hr];omega),if_pos (by rw [<- h.num,<- hr];omega),hy.nx.1,hy.num,h.nx.1]
theorem ch_new (h:kW len c1 c2 (x:Int)) (hr:11=x % 14) (hy:kW len c2 c3 (y:Int)) (hry:0=y % 2) (hn:nt<9):(c3,(7:Int),(nt:Int),(0:Int),(xl:Int),ByteArray.empty,ws ++ [(cu:Int)],nt+1)=eK len c1 cu tf xl ws nt:=by
 rw [bE3 h hr hy,if_pos ⟨hry.symm,hn⟩]
theorem ch_pop {r0:List Int} {xw:Int} (h:kW len c1 c2 (x:Int)) (hr:11=x % 14) (hy:kW len c2 c3 (y:Int)) (hn:¬ (y % 2=0/\nt<9)) (hw:ws=r0 ++ [xw]):(c3,(7:Int),xw,(0:Int),(xl:Int),ByteArray.empty,r0,nt)=eK len c1 cu tf xl ws nt:=by
 rw [bE3 h hr hy,if_neg hn,hw]
 simp
theorem ch_one (h:kW len c1 c2 (x:Int)) (hr:11=x % 14) (hy:kW len c2 c3 (y:Int)) (hn:¬ (y % 2=0/\nt<9)) (hw:ws=[]) (h1:nt<=1):(c3,(7:Int),(0:Int),(0:Int),(xl:Int),ByteArray.empty,ws,nt)=eK len c1 cu tf xl ws nt:=by
 rw [bE3 h hr hy,if_neg hn,hw]
 simp [h1]
theorem ch_any (h:kW len c1 c2 (x:Int)) (hr:11=x % 14) (hy:kW len c2 c3 (y:Int)) (hn:¬ (y % 2=0/\nt<9)) (hw:ws=[]) (h1:¬ nt<=1) (hz:kW len c3 c4 (z:Int)) (hrz:rz=z % nt):(c4,(7:Int),(rz:Int),(0:Int),(xl:Int),ByteArray.empty,ws,nt)=eK len c1 cu tf xl ws nt:=by
 rw [bE3 h hr hy,if_neg hn,hw,hz.nx.1,hrz,hz.num]
 simp [h1]
end
def rN (s:St) (k fn:Int):Int × Int:=if (s.tasks s.cur).length=0/\k=1 then (2,1) else (k,fn)
theorem third_yes {s:St} {fn:Int} (h:(s.tasks s.cur).length=0):((2:Int),(1:Int))=rN s 1 fn:=by unfold rN;rw [if_pos ⟨h,rfl⟩]
theorem third_no {s:St} {k fn:Int} (h:(s.tasks s.cur).length≠0∨k≠1):(k,fn)=rN s k fn:=by
 unfold rN;rw [if_neg (fun q=>h.elim (fun h=>h q.1) (fun h=>h q.2))]
def bG4 (len:Nat) (c:Cu) (xl:Nat) (l:List V):Prop:=xl=fW len c % 4/\VRel len (eF len c) l/\l.length=fW len (eF len c) % 4
theorem headIs {len:Nat} {c cp:Cu} {xp xl:Nat} {l:List V} (h:kW len c cp (xp:Int)) (hx:xl=xp % 4) (hv:VRel len cp l/\l.length=fW len cp % 4):bG4 len c xl l:=by
 rw [h.nx.1] at hv
 exact ⟨by rw [hx,h.num],hv.1,hv.2⟩
def pX (x:Mo):Mo:=⟨x.kind,x.task,x.fn,x.line,x.text,.slice none 0 0,x.l⟩
theorem xG (ms:List Mo):fC (ms.map pX)=fC ms:=by
 funext i
 unfold fC
 rw [List.getD_eq_getElem?_getD,List.getD_eq_getElem?_getD,List.getElem?_map]
 cases ms[i]?<;>rfl
structure PSt where
 c:Cu
 ms:List Mo
 ws:List Int
 nt:Nat
def bP6 (len:Nat) (c:Cu):List V:=(List.range (fW len c % 4)).map (vAt len c)
def endF (s:St) (ms:List Mo) (l:List V) (q:Cu × Int × Int × Int × Int × ByteArray × List Int × Nat) (kf:Int × Int):PSt :=
 if kf.1=3/\gU (s.tasks s.cur)<0 then ⟨q.1,ms,q.2.2.2.2.2.2.1,q.2.2.2.2.2.2.2⟩ else ⟨q.1,ms ++ [⟨kf.1,q.2.2.1,kf.2,q.2.2.2.2.1,q.2.2.2.2.2.1,.slice none 0 0,l⟩],q.2.2.2.2.2.2.1,q.2.2.2.2.2.2.2⟩
def roundS (len:Nat) (s:St) (x:PSt):PSt :=
 endF s x.ms (bP6 len (eF len x.c)) (eK len (pL len (2+2*(bP6 len (eF len x.c)).length) x.c) s.cur (topFn (s.tasks s.cur)) (fW len x.c % 4) x.ws x.nt)
  (rN s (eK len (pL len (2+2*(bP6 len (eF len x.c)).length) x.c) s.cur (topFn (s.tasks s.cur)) (fW len x.c % 4) x.ws x.nt).2.1 (eK len (pL len (2+2*(bP6 len (eF len x.c)).length) x.c) s.cur (topFn (s.tasks s.cur)) (fW len x.c % 4) x.ws x.nt).2.2.2.1)
def xH (len:Nat) (x:PSt):PSt:=roundS len (St.after (fC x.ms) x.ms.length) x
section
variable {len:Nat} {s:St} {ms:List Mo} {c c1 c':Cu} {xl cu:Nat} {l:List V} {tf k t fn ln k2 fn2:Int} {tx:ByteArray} {ws ws':List Int} {nt nt':Nat}
theorem bP7 (hs:St.after (fC ms) ms.length=s) (hD:jQ len (2+2*l.length) c c1) (hh:bG4 len c xl l) (hcu:cu=s.cur) (htf:tf=topFn (s.tasks s.cur)) (hc:(c',k,t,fn,ln,tx,ws',nt')=eK len c1 cu tf xl ws nt) (h3:(k2,fn2)=rN s k fn) :
  xH len ⟨c,ms.map pX,ws,nt⟩=endF s (ms.map pX) l (c',k,t,fn,ln,tx,ws',nt') (k2,fn2):=by
 subst hcu
 subst htf
 obtain ⟨h1,h2,hl⟩:=hh
 have el:bP6 len (eF len c)=l:=by unfold bP6;rw [<- hl];exact h2.symm
 unfold xH
 dsimp only
 rw [xG,List.length_map,hs]
 unfold roundS
 dsimp only
 rw [el,<- h1,<- hD.it,<- hc,h3]
theorem round_put (hs:St.after (fC ms) ms.length=s) (hD:jQ len (2+2*l.length) c c1) (hh:bG4 len c xl l) (hcu:cu=s.cur) (htf:tf=topFn (s.tasks s.cur)) (hc:(c',k,t,fn,ln,tx,ws',nt')=eK len c1 cu tf xl ws nt) (h3:(k2,fn2)=rN s k fn) (hf:k2=3->0<=gU (s.tasks s.cur)) (vv:Value) :
  xH len ⟨c,ms.map pX,ws,nt⟩=⟨c',(ms ++ [(⟨k2,t,fn2,ln,tx,vv,l⟩:Mo)]).map pX,ws',nt'⟩:=by
 rw [bP7 hs hD hh hcu htf hc h3]
 unfold endF
 rw [if_neg (fun q=>by have:=hf q.1;omega),List.map_append]
 rfl
theorem bG5 (hs:St.after (fC ms) ms.length=s) (hD:jQ len (2+2*l.length) c c1) (hh:bG4 len c xl l) (hcu:cu=s.cur) (htf:tf=topFn (s.tasks s.cur)) (hc:(c',k,t,fn,ln,tx,ws',nt')=eK len c1 cu tf xl ws nt) (h3:((3:Int),fn2)=rN s k fn) (hf:gU (s.tasks s.cur)<0) :
  xH len ⟨c,ms.map pX,ws,nt⟩=⟨c',ms.map pX,ws',nt'⟩:=by
 rw [bP7 hs hD hh hcu htf hc h3]
 unfold endF
 rw [if_pos ⟨rfl,hf⟩]
end
def iterF (len:Nat) (c0:Cu):Nat->PSt
 | 0=>⟨c0,[],[],1⟩
 | j+1=>xH len (iterF len c0 j)
def Det (len n:Nat) (c0 c:Cu) (ms:List Mo) (ws:List Int) (nt:Nat):Prop:=∃ j,iterF len c0 j=⟨c,ms.map pX,ws,nt⟩/\∀ i,i<j->(iterF len c0 i).ms.length<n
theorem Det.start (len n:Nat) (c0:Cu):Det len n c0 c0 [] [] 1:=⟨0,rfl,fun _ h=>absurd h (Nat.not_lt_zero _)⟩
theorem Det.step {len n:Nat} {c0 c c':Cu} {ms ms':List Mo} {ws ws':List Int} {nt nt':Nat} (h:Det len n c0 c ms ws nt) (hl:ms.length<n) (hr:xH len ⟨c,ms.map pX,ws,nt⟩=⟨c',ms'.map pX,ws',nt'⟩):Det len n c0 c' ms' ws' nt':=by
 obtain ⟨j,h1,h2⟩:=h
 refine ⟨j+1,by show xH len (iterF len c0 j)=_;rw [h1,hr],fun i hi=>?_⟩
 by_cases e:i<j
 ·exact h2 i e
 have e:i=j:=by omega
 rw [e,h1]
 show (ms.map pX).length<n
 rw [List.length_map];exact hl
theorem Det.uniq {len n:Nat} {c0 c c':Cu} {ms ms':List Mo} {ws ws':List Int} {nt nt':Nat} (h:Det len n c0 c ms ws nt) (h':Det len n c0 c' ms' ws' nt') (hl:ms.length=n) (hl':ms'.length=n):ms.map pX=ms'.map pX:=by
 obtain ⟨j,h1,h2⟩:=h
 obtain ⟨j',h1',h2'⟩:=h'
 have e:j=j':=by
  rcases Nat.lt_trichotomy j j' with q | q | q
  ·have:=h2' j q
   rw [h1] at this
   have:(ms.map pX).length<n:=this
   rw [List.length_map] at this;omega
  ·exact q
  have:=h2 j' q
  rw [h1'] at this
  have:(ms'.map pX).length<n:=this
  rw [List.length_map] at this;omega
 rw [e] at h1
 exact congrArg PSt.ms (h1.symm.trans h1')
def Chosen (w0:World) (K pc len B2 ps mb:Nat) (s:St) (ms:List Mo) (c:Cu) (wv mv:Value) (ws:List Int) (nt:Nat) (wv' nv':Value) (c1:Cu) (xl cu:Nat) (tf:Int) (l0:List V) (W:World):Prop :=
 ∃ (c':Cu) (wa:Option Addr) (wcap:Nat) (ws':List Int) (nt':Nat) (vv:Value) (l:List V) (k t fn ln:Int) (tx:ByteArray),
  (l=l0/\(c',k,t,fn,ln,tx,ws',nt')=eK len c1 cu tf xl ws nt)/\wv'=.slice wa ws'.length wcap/\nv'=.int .i64 nt'/\dL w0 K pc len w0.heap.size B2 ps W c' s ms wv' mv ws'/\Bx B2 mb W mv vv l k t fn ln tx/\(∀ x,x∈ws'->0<=x/\x<9)/\ws'.length<nt'/\nt'<=9/\c.at_<=c'.at_/\c'.at_<=c.at_+12 /\
  bD7 s k t fn ln (wv'=wv/\ws'=ws/\nt'=nt/\∃ d x,1<=d/\d<=9/\jQ len d c c'/\(len<=c.at_->x=c'.seed / 1099511627776 % 256)/\(x % 14=8∨x % 14=9))
def CurLeft (K:Nat) (w:World) (pc len:Nat):Prop:=∃ c:Cu,Cur K w pc len c/\c.at_<=30000000000000000
end Go.Proofs.YtmnmeaeicjhkhaaGreatDoor.Fun
