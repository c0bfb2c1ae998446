import Derived.Test.YtmnmeaeicjhkhaaGreatDoorGZaz
import Derived.Test.YtmnmeaeicjhkhaaGreatDoorGXcz
import Derived.Test.YtmnmeaeicjhkhaaGreatDoorGEez
import Derived.Test.YtmnmeaeicjhkhaaGreatDoorGTz
set_option maxRecDepth 100000
set_option maxHeartbeats 16000000
namespace Go.Proofs.YtmnmeaeicjhkhaaGreatDoor
open Go.RowKit
theorem eqTold_any (lo lo':Nat) (k c m:Int) (tx:ByteArray) (v v' u u':Value) (fr:List Fr) (vs:List V) (w:World) (hv:FrsAt lo w v fr) (hv':FrsAt lo' w v' fr) (hu:VsAt lo w u vs) (hu':VsAt lo' w u' vs) (hl:fr.length≤200) :
  Calls Tryz.prog 72 #[.agg #[.int .i64 k,.int .i64 c,.int .i64 m,.string tx,v,u],.agg #[.int .i64 k,.int .i64 c,.int .i64 m,.string tx,v',u']] w fun e w'=>e=.returned (.bool true)∧Below w.heap.size w w':=by
 obtain ⟨w2,hw2⟩:∃ w2,w2=(w.alloc (.cells #[.int .i64 k,.int .i64 c,.int .i64 m,.string tx,v,u] 38)).alloc (.cells #[.int .i64 k,.int .i64 c,.int .i64 m,.string tx,v',u'] 38):=⟨_,rfl⟩
 have hb:Below w.heap.size w w2:=by rw [hw2];exact ((Below.refl _ _).alloc (Nat.le_refl _) _).alloc (by simp) _
 have HV:=hide (hv.below hb);clear hv
 have HV':=hide (hv'.below hb);clear hv'
 have HU:=hide (hu.below hb);clear hu
 have HU':=hide (hu'.below hb);clear hu'
 have HB:=hide hb
 have c5:w2.cell? ⟨w.heap.size,5,none⟩=some u:=by
  rw [hw2,World.cell?_alloc_old _ _ _ (by simp),cell_alloc_at _ _ _ _ _ rfl];rfl
 have d5:w2.cell? ⟨w.heap.size + 1,5,none⟩=some u':=by
  rw [hw2,cell_alloc_at _ _ _ _ _ (by simp)];rfl
 clear hb
 go_enter Tryz.func72,Tryz.ntmps72
 go_wp2_with fail
 rw [← hw2]
 refine (eqFrameS_any lo lo' _ _ fr _ (uh HV) (uh HV') hl).mono ?_
 rintro e w3 ⟨rfl,hb3⟩
 have c5':=cell_below hb3 c5
 have d5':=cell_below hb3 d5
 have HU3:=hide ((uh HU).below hb3)
 have HU3':=hide ((uh HU').below hb3)
 have HB3:=hide ((uh HB).trans (hb3.mono (uh HB).size))
 clear hb3 c5 d5 hw2
 go_wp2_with fail
 refine (eqVarS_any lo lo' _ _ _ _ _ (uh HU3).vars (uh HU3').vars).mono ?_
 rintro e w4 ⟨rfl,hb4⟩
 have HB4:=hide ((uh HB3).trans (hb4.mono (uh HB3).size))
 clear hb4 c5' d5'
 go_wp2
 go_ret
 exact ⟨rfl,uh HB4⟩
theorem eqToldS_any (lo lo':Nat) (v v':Value) (ts us:List Tl) (w:World) (hv:TdsAt lo w v ts) (hv':TdsAt lo' w v' us) (he:ts.map (fun x=>(x.at_,x.d))=us.map (fun x=>(x.at_,x.d))) (hl:ts.length≤500) (hsh:Short ts) :
  Calls Tryz.prog 27 #[v,v'] w fun e w'=>e=.returned (.bool true)∧Below w.heap.size w w':=by
 have HV:=hide hv
 have HV':=hide hv'
 have HSH:=hide hsh
 have HE:=hide he
 have hlen:us.length=ts.length:=by have:=congrArg List.length he;simpa using this.symm
 have hrow:=hv.row
 have hrow':=hv'.row
 rw [hlen] at hrow'
 obtain ⟨n,hn⟩:∃ n,n=ts.length:=⟨_,rfl⟩
 rw [← hn] at hl hrow hrow'
 have HN:=hide hn
 obtain ⟨a,cap,rfl⟩:=owns_slice hrow
 obtain ⟨a',cap',rfl⟩:=owns_slice hrow'
 have HR:=hide hrow
 have HR':=hide hrow'
 clear hv hv' he hsh hn hrow hrow' hlen
 go_enter Tryz.func27,Tryz.ntmps27
 go_wp2
 go_loopw [5] (fun i w'=>∃ (k:Nat),k≤n∧i=.int .i64 k∧Below w.heap.size w w') (fun i _=>n - (intOf i).toNat)
 case atStart=>exact ⟨0,by omega,rfl,Below.refl _ _⟩
 case round =>
  obtain ⟨k,hk,rfl,hb⟩:=hrel
  by_cases hlt:k < n
  ·obtain ⟨x,hx⟩:∃ x,ts[k]?=some x:=⟨_,List.getElem?_eq_getElem (by rw [← uh HN];exact hlt)⟩
   obtain ⟨y,hy,exy⟩:∃ y,us[k]?=some y∧(y.at_,y.d)=(x.at_,x.d):=by
    have h:=congrArg (fun l:List (Int × Td)=>l[k]?) (uh HE)
    simp only [List.getElem?_map,hx] at h
    cases hy:us[k]? with
    | none=>rw [hy] at h;cases h
    | some y=>rw [hy] at h;exact ⟨y,rfl,by simpa using h.symm⟩
   obtain ⟨ga,hga⟩:∃ ga,a=some ⟨ga,0,none⟩:=by
    rcases (uh HR).2 with ⟨_,h0⟩ | ⟨g,cap,cur,hv,_⟩
    ·omega
    ·cases hv;exact ⟨g,rfl⟩
   obtain ⟨gb,hgb⟩:∃ gb,a'=some ⟨gb,0,none⟩:=by
    rcases (uh HR').2 with ⟨_,h0⟩ | ⟨g,cap,cur,hv,_⟩
    ·omega
    ·cases hv;exact ⟨g,rfl⟩
   subst hga
   subst hgb
   obtain ⟨e0,e1,e2,e3,e4,e5⟩:=tlCells_get _ k _ hx
   obtain ⟨i0,i1,i2,i3,i4,i5⟩:=tlCells_get _ k _ hy
   have HO:=owns_below (uh HR) hb
   have HO':=owns_below (uh HR') hb
   obtain ⟨c0,-⟩:=owns_cell HO _ _ e0
   obtain ⟨c1,-⟩:=owns_cell HO _ _ e1
   obtain ⟨c2,-⟩:=owns_cell HO _ _ e2
   obtain ⟨c3,-⟩:=owns_cell HO _ _ e3
   obtain ⟨c4,-⟩:=owns_cell HO _ _ e4
   obtain ⟨c5,-⟩:=owns_cell HO _ _ e5
   obtain ⟨d0,-⟩:=owns_cell HO' _ _ i0
   obtain ⟨d1,-⟩:=owns_cell HO' _ _ i1
   obtain ⟨d2,-⟩:=owns_cell HO' _ _ i2
   obtain ⟨d3,-⟩:=owns_cell HO' _ _ i3
   obtain ⟨d4,-⟩:=owns_cell HO' _ _ i4
   obtain ⟨d5,-⟩:=owns_cell HO' _ _ i5
   have hf1:=((uh HV).fr x (List.mem_iff_getElem?.2 ⟨k,hx⟩)).below hb
   have hv1:=((uh HV).vs x (List.mem_iff_getElem?.2 ⟨k,hx⟩)).below hb
   have hf2:=((uh HV').fr y (List.mem_iff_getElem?.2 ⟨k,hy⟩)).below hb
   have hv2:=((uh HV').vs y (List.mem_iff_getElem?.2 ⟨k,hy⟩)).below hb
   have hs:=(uh HSH x (List.mem_iff_getElem?.2 ⟨k,hx⟩)).1
   obtain ⟨yat,yd,y5,y6⟩:=y
   obtain ⟨xat,⟨q1,q2,q3,q4,q5⟩,x5,x6⟩:=x
   cases exy
   have HF1:=hide hf1
   have HF2:=hide hf2
   have HV1:=hide hv1
   have HV2:=hide hv2
   dsimp only at c0 c1 c2 c3 c4 c5 d0 d1 d2 d3 d4 d5 hs
   clear HO HO' e0 e1 e2 e3 e4 e5 i0 i1 i2 i3 i4 i5 hx hy hf1 hf2 hv1 hv2
   have hi1:(0:Int)≤(k:Int):=by omega
   have hi2:(k:Int) < (n:Int):=by omega
   go_wp2
   go_region_held3 (fun w'=>(w'.cell? ⟨ga,k * 6,none⟩=some (.int .i64 yat)∧w'.cell? ⟨ga,k * 6 + 1,none⟩=some (.int .i64 q1)∧w'.cell? ⟨ga,k * 6 + 2,none⟩=some (.int .i64 q2)∧w'.cell? ⟨ga,k * 6 + 3,none⟩=some (.string q3)∧w'.cell? ⟨ga,k * 6 + 4,none⟩=some x5∧w'.cell? ⟨ga,k * 6 + 5,none⟩=some x6) ∧
     w'.cell? ⟨gb,k * 6,none⟩=some (.int .i64 yat)∧w'.cell? ⟨gb,k * 6 + 1,none⟩=some (.int .i64 q1)∧w'.cell? ⟨gb,k * 6 + 2,none⟩=some (.int .i64 q2)∧w'.cell? ⟨gb,k * 6 + 3,none⟩=some (.string q3)∧w'.cell? ⟨gb,k * 6 + 4,none⟩=some y5∧w'.cell? ⟨gb,k * 6 + 5,none⟩=some y6)
    (first | (exact ⟨⟨c0,c1,c2,c3,c4,c5⟩,d0,d1,d2,d3,d4,d5⟩) | (exact ⟨⟨cell_below hb1 c0,cell_below hb1 c1,cell_below hb1 c2,cell_below hb1 c3,cell_below hb1 c4,cell_below hb1 c5⟩,cell_below hb1 d0,cell_below hb1 d1,cell_below hb1 d2,cell_below hb1 d3,cell_below hb1 d4,cell_below hb1 d5⟩))
    ((go_at_call 72;refine (eqTold_any lo lo' _ _ _ _ _ _ _ _ q4 q5 _ ((uh HF1).below (Below.refl _ _).drew) ((uh HF2).below (Below.refl _ _).drew) ((uh HV1).below (Below.refl _ _).drew) ((uh HV2).below (Below.refl _ _).drew) hs).mono ?_;rintro e w1 ⟨rfl,hb1⟩))
   go_wp2
   go_roundw
   case rel=>exact ⟨k + 1,by omega,by go_num,hb.drew.trans (hb1.mono (by simpa using hb.size))⟩
   case measure=>simp [intOf];omega
  ·go_wp2
   go_ret
   exact ⟨rfl,hb⟩
end Go.Proofs.YtmnmeaeicjhkhaaGreatDoor
namespace Go.Proofs.YtmnmeaeicjhkhaaGreatDoor
open Go.RowKit
theorem info_Ask:(Tryz.prog.info? 47).map (fun i=>(i.zero,i.size,i.bytes))=some (some (.agg #[.int .i64 0,.int .i64 0,.string ByteArray.empty,.int .i64 0,.int .i64 0,.int .i64 0,.string ByteArray.empty]),7,72):=by kernel_rfl
theorem szAsk_any (a:Ak) (left:Int) (w:World) (hz:a.name.size≤maxLen) (hz2:a.stop.name.size≤maxLen) (hl:0≤left) (hl2:left≤1048576) :
  Calls Tryz.prog 68 #[.agg #[.int .i64 a.op,.int .i64 a.n,.string a.name,.int .i64 a.stop.kind,.int .i64 a.stop.fn,.int .i64 a.stop.line,.string a.stop.name],.int .i64 left] w fun e w'=>(∃ r:Int,e=.returned (.int .i64 r)∧r≤left)∧Below w.heap.size w w':=by
 have hw:IntKind.i64.wrap (left - (a.name.size:Int))=left - (a.name.size:Int):=by rw [IntKind.wrap_i64];unfold maxLen at hz;omega
 by_cases h:decide (left - (a.name.size:Int) < 0)=true
 ·go_enter Tryz.func68,Tryz.ntmps68
  go_wp2
  go_ret
  exact ⟨⟨-1,rfl,by omega⟩,(Below.refl _ _).alloc (Nat.le_refl _) _⟩
 ·have h:decide (left - (a.name.size:Int) < 0)=false:=Bool.of_not_eq_true h
  have h':0≤left - (a.name.size:Int):=by have:=of_decide_eq_false h;omega
  go_enter Tryz.func68,Tryz.ntmps68
  go_wp2_with (go_at_call 129;refine (szStop_any _ _ _ _ _ _ hz2 h' (by omega)).mono ?_;rintro e w1 ⟨⟨r1,rfl,hr3⟩,hb1⟩)
  ·go_ret
   exact ⟨⟨-1,rfl,by omega⟩,((Below.refl _ _).alloc (Nat.le_refl _) _).trans (hb1.mono (by simp))⟩
  ·go_ret
   exact ⟨⟨r1,rfl,by omega⟩,((Below.refl _ _).alloc (Nat.le_refl _) _).trans (hb1.mono (by simp))⟩
theorem szAskS_any (lo:Nat) (v:Value) (n:Nat) (A:Nat→Ak) (left:Int) (w:World) (hv:AksAt lo w v n A) (hl:0≤left) (hl2:left≤1048576) :
  Calls Tryz.prog 24 #[v,.int .i64 left] w fun e w'=>(∃ r:Int,e=.returned (.int .i64 r)∧r≤left∧(0≤r→(n:Int)≤1048576))∧Below w.heap.size w w':=by
 have HV:=hide hv
 obtain ⟨a,cap,rfl,hn,_⟩:=hv
 unfold maxLen at hn
 go_enter Tryz.func24,Tryz.ntmps24
 by_cases h0:left - n < 0
 ·go_wp2
  go_ret
  exact ⟨⟨_,rfl,by omega,by omega⟩,Below.refl _ _⟩
 ·go_wp2
  go_loopw [1,5] (fun l i w'=>∃ (k:Nat) (r:Int),k≤n∧i=.int .i64 k∧l=.int .i64 r∧0≤r∧r≤left - n∧Below w.heap.size w w') (fun _ i _=>n - (intOf i).toNat)
  case atStart=>exact ⟨0,_,by omega,rfl,rfl,by omega,by omega,Below.refl _ _⟩
  case round =>
   obtain ⟨k,r,hk,rfl,rfl,hr1,hr2,hb⟩:=hrel
   by_cases hlt:k < n
   ·obtain ⟨a',cap',e,_,hv⟩:=(uh HV).below hb
    cases e
    obtain ⟨b,o,rfl,c0,c1,c2,c3,c4,c5,c6,z1,z2,-⟩:=hv k hlt
    clear hv
    have hi1:(0:Int)≤(k:Int):=by omega
    have hi2:(k:Int) < (n:Int):=by omega
    go_wp2_with (go_at_call 68;refine (szAsk_any (A k) _ _ z1 z2 hr1 (by omega)).mono ?_;rintro e w1 ⟨⟨r1,rfl,hr3⟩,hb1⟩)
    ·go_ret
     exact ⟨⟨_,rfl,by omega,by omega⟩,hb.trans (hb1.mono hb.size)⟩
    ·go_roundw
     case rel=>exact ⟨k + 1,_,by omega,by go_num,rfl,by omega,by omega,hb.trans (hb1.mono hb.size)⟩
     case measure=>simp [intOf];omega
   ·go_wp2
    go_ret
    exact ⟨⟨_,rfl,by omega,by omega⟩,hb⟩
theorem toAsk_any (a:Ak) (w:World) :
  Calls Tryz.prog 71 #[.agg #[.int .i64 a.op,.int .i64 a.n,.string a.name,.int .i64 a.stop.kind,.int .i64 a.stop.fn,.int .i64 a.stop.line,.string a.stop.name]] w fun e w'=>e=.returned (.agg #[.int .i64 a.op,.int .i64 a.n,.string a.name,.int .i64 a.stop.kind,.int .i64 a.stop.fn,.int .i64 a.stop.line,.string a.stop.name])∧Below w.heap.size w w':=by
 go_enter Tryz.func71,Tryz.ntmps71
 go_wp2_with fail
 refine (toStop_any _ _ _ _ _).mono ?_
 rintro e w1 ⟨rfl,hb1⟩
 have hb0:Below w.heap.size w (((w.alloc (.cells #[.int .i64 a.op,.int .i64 a.n,.string a.name,.int .i64 a.stop.kind,.int .i64 a.stop.fn,.int .i64 a.stop.line,.string a.stop.name] 138)).alloc (.cells #[.int .i64 0,.int .i64 0,.string ⟨#[]⟩,.int .i64 0,.int .i64 0,.int .i64 0,.string ⟨#[]⟩] 47)).alloc (.cells #[.int .i64 a.op,.int .i64 a.n,.string a.name,.int .i64 0,.int .i64 0,.int .i64 0,.string ⟨#[]⟩] 47)):=(((Below.refl _ _).alloc (Nat.le_refl _) _).alloc (by simp) _).alloc (by simp;omega) _
 have BY:w1.heap[w.heap.size + 1 + 1]?=some (.cells #[.int .i64 a.op,.int .i64 a.n,.string a.name,.int .i64 0,.int .i64 0,.int .i64 0,.string ⟨#[]⟩] 47 (0,0)):=by
  rw [hb1.block (w.heap.size + 1 + 1) (by simp)]
  have h:=heap_alloc_new ((w.alloc (.cells #[.int .i64 a.op,.int .i64 a.n,.string a.name,.int .i64 a.stop.kind,.int .i64 a.stop.fn,.int .i64 a.stop.line,.string a.stop.name] 138)).alloc (.cells #[.int .i64 0,.int .i64 0,.string ⟨#[]⟩,.int .i64 0,.int .i64 0,.int .i64 0,.string ⟨#[]⟩] 47)) (.cells #[.int .i64 a.op,.int .i64 a.n,.string a.name,.int .i64 0,.int .i64 0,.int .i64 0,.string ⟨#[]⟩] 47)
  simpa using h
 have BX:w1.heap[w.heap.size + 1]?=some (.cells #[.int .i64 0,.int .i64 0,.string ⟨#[]⟩,.int .i64 0,.int .i64 0,.int .i64 0,.string ⟨#[]⟩] 47 (0,0)):=by
  rw [hb1.block (w.heap.size + 1) (by simp),Below.heap_alloc _ _ _ (by simp)]
  have h:=heap_alloc_new (w.alloc (.cells #[.int .i64 a.op,.int .i64 a.n,.string a.name,.int .i64 a.stop.kind,.int .i64 a.stop.fn,.int .i64 a.stop.line,.string a.stop.name] 138)) (.cells #[.int .i64 0,.int .i64 0,.string ⟨#[]⟩,.int .i64 0,.int .i64 0,.int .i64 0,.string ⟨#[]⟩] 47)
  simpa using h
 have ry0:w1.cell? ⟨w.heap.size + 1 + 1,0,none⟩=some (.int .i64 a.op):=by rw [cell_of_row w1 (w.heap.size + 1 + 1) 0 _ _ _ BY];rfl
 have fy0:w1.frozen? ⟨w.heap.size + 1 + 1,0,none⟩=false:=by simp [World.frozen?,show w1.heap[w.heap.size + 1 + 1]?=_ from BY]
 have ry1:w1.cell? ⟨w.heap.size + 1 + 1,1,none⟩=some (.int .i64 a.n):=by rw [cell_of_row w1 (w.heap.size + 1 + 1) 1 _ _ _ BY];rfl
 have fy1:w1.frozen? ⟨w.heap.size + 1 + 1,1,none⟩=false:=by simp [World.frozen?,show w1.heap[w.heap.size + 1 + 1]?=_ from BY]
 have ry2:w1.cell? ⟨w.heap.size + 1 + 1,2,none⟩=some (.string a.name):=by rw [cell_of_row w1 (w.heap.size + 1 + 1) 2 _ _ _ BY];rfl
 have fy2:w1.frozen? ⟨w.heap.size + 1 + 1,2,none⟩=false:=by simp [World.frozen?,show w1.heap[w.heap.size + 1 + 1]?=_ from BY]
 have ry3:w1.cell? ⟨w.heap.size + 1 + 1,3,none⟩=some (.int .i64 0):=by rw [cell_of_row w1 (w.heap.size + 1 + 1) 3 _ _ _ BY];rfl
 have fy3:w1.frozen? ⟨w.heap.size + 1 + 1,3,none⟩=false:=by simp [World.frozen?,show w1.heap[w.heap.size + 1 + 1]?=_ from BY]
 have ry4:w1.cell? ⟨w.heap.size + 1 + 1,4,none⟩=some (.int .i64 0):=by rw [cell_of_row w1 (w.heap.size + 1 + 1) 4 _ _ _ BY];rfl
 have fy4:w1.frozen? ⟨w.heap.size + 1 + 1,4,none⟩=false:=by simp [World.frozen?,show w1.heap[w.heap.size + 1 + 1]?=_ from BY]
 have ry5:w1.cell? ⟨w.heap.size + 1 + 1,5,none⟩=some (.int .i64 0):=by rw [cell_of_row w1 (w.heap.size + 1 + 1) 5 _ _ _ BY];rfl
 have fy5:w1.frozen? ⟨w.heap.size + 1 + 1,5,none⟩=false:=by simp [World.frozen?,show w1.heap[w.heap.size + 1 + 1]?=_ from BY]
 have ry6:w1.cell? ⟨w.heap.size + 1 + 1,6,none⟩=some (.string ⟨#[]⟩):=by rw [cell_of_row w1 (w.heap.size + 1 + 1) 6 _ _ _ BY];rfl
 have fy6:w1.frozen? ⟨w.heap.size + 1 + 1,6,none⟩=false:=by simp [World.frozen?,show w1.heap[w.heap.size + 1 + 1]?=_ from BY]
 have rx0:w1.cell? ⟨w.heap.size + 1,0,none⟩=some (.int .i64 0):=by rw [cell_of_row w1 (w.heap.size + 1) 0 _ _ _ BX];rfl
 have fx0:w1.frozen? ⟨w.heap.size + 1,0,none⟩=false:=by simp [World.frozen?,show w1.heap[w.heap.size + 1]?=_ from BX]
 have rx1:w1.cell? ⟨w.heap.size + 1,1,none⟩=some (.int .i64 0):=by rw [cell_of_row w1 (w.heap.size + 1) 1 _ _ _ BX];rfl
 have fx1:w1.frozen? ⟨w.heap.size + 1,1,none⟩=false:=by simp [World.frozen?,show w1.heap[w.heap.size + 1]?=_ from BX]
 have rx2:w1.cell? ⟨w.heap.size + 1,2,none⟩=some (.string ⟨#[]⟩):=by rw [cell_of_row w1 (w.heap.size + 1) 2 _ _ _ BX];rfl
 have fx2:w1.frozen? ⟨w.heap.size + 1,2,none⟩=false:=by simp [World.frozen?,show w1.heap[w.heap.size + 1]?=_ from BX]
 have rx3:w1.cell? ⟨w.heap.size + 1,3,none⟩=some (.int .i64 0):=by rw [cell_of_row w1 (w.heap.size + 1) 3 _ _ _ BX];rfl
 have fx3:w1.frozen? ⟨w.heap.size + 1,3,none⟩=false:=by simp [World.frozen?,show w1.heap[w.heap.size + 1]?=_ from BX]
 have rx4:w1.cell? ⟨w.heap.size + 1,4,none⟩=some (.int .i64 0):=by rw [cell_of_row w1 (w.heap.size + 1) 4 _ _ _ BX];rfl
 have fx4:w1.frozen? ⟨w.heap.size + 1,4,none⟩=false:=by simp [World.frozen?,show w1.heap[w.heap.size + 1]?=_ from BX]
 have rx5:w1.cell? ⟨w.heap.size + 1,5,none⟩=some (.int .i64 0):=by rw [cell_of_row w1 (w.heap.size + 1) 5 _ _ _ BX];rfl
 have fx5:w1.frozen? ⟨w.heap.size + 1,5,none⟩=false:=by simp [World.frozen?,show w1.heap[w.heap.size + 1]?=_ from BX]
 have rx6:w1.cell? ⟨w.heap.size + 1,6,none⟩=some (.string ⟨#[]⟩):=by rw [cell_of_row w1 (w.heap.size + 1) 6 _ _ _ BX];rfl
 have fx6:w1.frozen? ⟨w.heap.size + 1,6,none⟩=false:=by simp [World.frozen?,show w1.heap[w.heap.size + 1]?=_ from BX]
 have HB:=hide (hb0.trans (hb1.mono (by simp;omega)))
 clear hb0 hb1 BY BX
 go_wp2
 refine bodyPost_ret (v:=.agg #[.int .i64 a.op,.int .i64 a.n,.string a.name,.int .i64 a.stop.kind,.int .i64 a.stop.fn,.int .i64 a.stop.line,.string a.stop.name]) (by simp [results,Tryz.results71,go_sem, *]) rfl ⟨rfl,?_⟩
 exact (((((((((((uh HB).setCell (p:=⟨w.heap.size + 1 + 1,3,none⟩) (by simp;omega) _).setCell (p:=⟨w.heap.size + 1 + 1,4,none⟩) (by simp;omega) _).setCell (p:=⟨w.heap.size + 1 + 1,5,none⟩) (by simp;omega) _).setCell (p:=⟨w.heap.size + 1 + 1,6,none⟩) (by simp;omega) _).setCell (p:=⟨w.heap.size + 1,0,none⟩) (by simp) _).setCell (p:=⟨w.heap.size + 1,1,none⟩) (by simp) _).setCell (p:=⟨w.heap.size + 1,2,none⟩) (by simp) _).setCell (p:=⟨w.heap.size + 1,3,none⟩) (by simp) _).setCell (p:=⟨w.heap.size + 1,4,none⟩) (by simp) _).setCell (p:=⟨w.heap.size + 1,5,none⟩) (by simp) _).setCell (p:=⟨w.heap.size + 1,6,none⟩) (by simp) _
theorem eqAsk_any (a:Ak) (w:World) :
  Calls Tryz.prog 75 #[.agg #[.int .i64 a.op,.int .i64 a.n,.string a.name,.int .i64 a.stop.kind,.int .i64 a.stop.fn,.int .i64 a.stop.line,.string a.stop.name],.agg #[.int .i64 a.op,.int .i64 a.n,.string a.name,.int .i64 a.stop.kind,.int .i64 a.stop.fn,.int .i64 a.stop.line,.string a.stop.name]] w fun e w'=>e=.returned (.bool true)∧Below w.heap.size w w':=by
 go_enter Tryz.func75,Tryz.ntmps75
 go_wp2_with fail
 refine (eqStop_any a.stop _).mono ?_
 rintro e w1 ⟨rfl,hb1⟩
 have HB:=hide hb1;clear hb1
 go_wp2
 go_ret
 exact ⟨rfl,Below.trans (by exact ((Below.refl _ _).alloc (Nat.le_refl _) _).alloc (by simp) _) ((uh HB).mono (by simp;omega))⟩
theorem toAskS_any (lo:Nat) (v:Value) (n:Nat) (A:Nat→Ak) (w:World) (hv:AksAt lo w v n A) (hn:n≤1048576) :
  Calls Tryz.prog 26 #[v] w fun e w'=>(∃ v',e=.returned v'∧AksAt w.heap.size w' v' n A)∧Below w.heap.size w w':=by
 have HV:=hide hv
 obtain ⟨a,cap,rfl,hn',_⟩:=hv
 clear hn'
 have hmk:=run_make_many (P:=Tryz.prog) 28 47 _ _ _ Tryz.underlying28 info_Ask n (by omega) (by omega)
 obtain ⟨F0,hF0⟩:=row_made w #[.int .i64 0,.int .i64 0,.string ByteArray.empty,.int .i64 0,.int .i64 0,.int .i64 0,.string ByteArray.empty] (n * 7) 47
 have HF0:=hide hF0;clear hF0
 go_enter Tryz.func26,Tryz.ntmps26
 go_wp2
 go_loopw [4] (fun i w'=>∃ (k:Nat) (F:Nat→Value),k≤n∧i=.int .i64 k∧w'.rowIs w.heap.size 47 (n * 7) F∧(∀ i,i < k→F (i * 7)=.int .i64 (A i).op∧F (i * 7 + 1)=.int .i64 (A i).n∧F (i * 7 + 2)=.string (A i).name∧F (i * 7 + 3)=.int .i64 (A i).stop.kind∧F (i * 7 + 4)=.int .i64 (A i).stop.fn∧F (i * 7 + 5)=.int .i64 (A i).stop.line∧F (i * 7 + 6)=.string (A i).stop.name)∧Below w.heap.size w w') (fun i _=>n - (intOf i).toNat)
 case atStart=>exact ⟨0,F0,by omega,rfl,by simpa using uh HF0,by omega,(Below.refl _ _).alloc (Nat.le_refl _) _⟩
 case round =>
  obtain ⟨k,F,hk,rfl,hrow,hF,hb⟩:=hrel
  have HF:=hide hF;clear hF
  have HR:=hide hrow;clear hrow
  by_cases hlt:k < n
  ·obtain ⟨a',cap',e,_,hv⟩:=(uh HV).below hb
   cases e
   obtain ⟨b,o,rfl,hc0,hc1,hc2,hc3,hc4,hc5,hc6,-,-,-⟩:=hv k hlt
   clear hv
   have hi1:(0:Int)≤(k:Int):=by omega
   have hi2:(k:Int) < (n:Int):=by omega
   have hlt2:=(uh HR).lt
   go_wp2_with fail
   refine (toAsk_any (A k) _).mono ?_
   rintro e w1 ⟨rfl,hb1⟩
   have HR1:=hide ((uh HR).of_block (hb1.block _ hlt2))
   have hz0:=(uh HR1).frozen (k * 7)
   have hy0:=(uh HR1).cell (i:=k * 7) (by omega)
   have hz1:=(uh HR1).frozen (k * 7 + 1)
   have hy1:=(uh HR1).cell (i:=k * 7 + 1) (by omega)
   have hz2:=(uh HR1).frozen (k * 7 + 2)
   have hy2:=(uh HR1).cell (i:=k * 7 + 2) (by omega)
   have hz3:=(uh HR1).frozen (k * 7 + 3)
   have hy3:=(uh HR1).cell (i:=k * 7 + 3) (by omega)
   have hz4:=(uh HR1).frozen (k * 7 + 4)
   have hy4:=(uh HR1).cell (i:=k * 7 + 4) (by omega)
   have hz5:=(uh HR1).frozen (k * 7 + 5)
   have hy5:=(uh HR1).cell (i:=k * 7 + 5) (by omega)
   have hz6:=(uh HR1).frozen (k * 7 + 6)
   have hy6:=(uh HR1).cell (i:=k * 7 + 6) (by omega)
   go_wp2
   go_roundw
   case rel =>
    refine ⟨k + 1,_,by omega,by go_num,(((((((uh HR1).set (k * 7) _).set (k * 7 + 1) _).set (k * 7 + 2) _).set (k * 7 + 3) _).set (k * 7 + 4) _).set (k * 7 + 5) _).set (k * 7 + 6) _,fun i hi=>?_,(((((((hb.trans (hb1.mono hb.size)).setCell (Nat.le_refl _) _).setCell (Nat.le_refl _) _).setCell (Nat.le_refl _) _).setCell (Nat.le_refl _) _).setCell (Nat.le_refl _) _).setCell (Nat.le_refl _) _).setCell (Nat.le_refl _) _⟩
    by_cases hik:i=k
    ·simp [hik]
    ·have:=uh HF i (by omega)
     repeat rw [if_neg (by omega)]
     exact this
   case measure=>simp [intOf];omega
  ·go_wp2
   go_ret
   refine ⟨⟨_,rfl,_,_,rfl,by unfold maxLen;omega,fun i hi=>?_⟩,hb⟩
   have hF:=uh HF i (by omega)
   obtain ⟨_,_,_,_,hv⟩:=uh HV
   obtain ⟨_,_,_,_,_,_,_,_,_,_,z1,z2,_⟩:=hv i hi
   refine ⟨_,_,rfl,?_,?_,?_,?_,?_,?_,?_,z1,z2,fun j hj=>⟨Nat.le_refl _,fun _=>(uh HR).frozen _⟩⟩
   ·rw [Nat.zero_add,(uh HR).cell (by omega),hF.1]
   ·rw [Nat.zero_add,(uh HR).cell (by omega),hF.2.1]
   ·rw [Nat.zero_add,(uh HR).cell (by omega),hF.2.2.1]
   ·rw [Nat.zero_add,(uh HR).cell (by omega),hF.2.2.2.1]
   ·rw [Nat.zero_add,(uh HR).cell (by omega),hF.2.2.2.2.1]
   ·rw [Nat.zero_add,(uh HR).cell (by omega),hF.2.2.2.2.2.1]
   ·rw [Nat.zero_add,(uh HR).cell (by omega),hF.2.2.2.2.2.2]
theorem eqAskS_any (lo lo':Nat) (v v':Value) (n:Nat) (A:Nat→Ak) (w:World) (hv:AksAt lo w v n A) (hv':AksAt lo' w v' n A) :
  Calls Tryz.prog 29 #[v,v'] w fun e w'=>e=.returned (.bool true)∧Below w.heap.size w w':=by
 have HV:=hide hv
 have HV':=hide hv'
 obtain ⟨a,cap,rfl,hn,_⟩:=hv
 obtain ⟨a',cap',rfl,_,_⟩:=hv'
 unfold maxLen at hn
 go_enter Tryz.func29,Tryz.ntmps29
 go_wp2
 go_loopw [5] (fun i w'=>∃ (k:Nat),k≤n∧i=.int .i64 k∧Below w.heap.size w w') (fun i _=>n - (intOf i).toNat)
 case atStart=>exact ⟨0,by omega,rfl,Below.refl _ _⟩
 case round =>
  obtain ⟨k,hk,rfl,hb⟩:=hrel
  by_cases hlt:k < n
  ·obtain ⟨_,_,e,_,h1⟩:=(uh HV).below hb
   cases e
   obtain ⟨b,o,rfl,c0,c1,c2,c3,c4,c5,c6,-⟩:=h1 k hlt
   obtain ⟨_,_,e,_,h2⟩:=(uh HV').below hb
   cases e
   obtain ⟨b',o',rfl,d0,d1,d2,d3,d4,d5,d6,-⟩:=h2 k hlt
   clear h1 h2
   have hi1:(0:Int)≤(k:Int):=by omega
   have hi2:(k:Int) < (n:Int):=by omega
   go_wp2
   go_region_held3 (fun w'=>(w'.cell? ⟨b,o + k * 7,none⟩=some (.int .i64 (A k).op)∧w'.cell? ⟨b,o + k * 7 + 1,none⟩=some (.int .i64 (A k).n)∧w'.cell? ⟨b,o + k * 7 + 2,none⟩=some (.string (A k).name)∧w'.cell? ⟨b,o + k * 7 + 3,none⟩=some (.int .i64 (A k).stop.kind)∧w'.cell? ⟨b,o + k * 7 + 4,none⟩=some (.int .i64 (A k).stop.fn)∧w'.cell? ⟨b,o + k * 7 + 5,none⟩=some (.int .i64 (A k).stop.line)∧w'.cell? ⟨b,o + k * 7 + 6,none⟩=some (.string (A k).stop.name)) ∧
     w'.cell? ⟨b',o' + k * 7,none⟩=some (.int .i64 (A k).op)∧w'.cell? ⟨b',o' + k * 7 + 1,none⟩=some (.int .i64 (A k).n)∧w'.cell? ⟨b',o' + k * 7 + 2,none⟩=some (.string (A k).name)∧w'.cell? ⟨b',o' + k * 7 + 3,none⟩=some (.int .i64 (A k).stop.kind)∧w'.cell? ⟨b',o' + k * 7 + 4,none⟩=some (.int .i64 (A k).stop.fn)∧w'.cell? ⟨b',o' + k * 7 + 5,none⟩=some (.int .i64 (A k).stop.line)∧w'.cell? ⟨b',o' + k * 7 + 6,none⟩=some (.string (A k).stop.name))
    (first | (exact ⟨⟨c0,c1,c2,c3,c4,c5,c6⟩,d0,d1,d2,d3,d4,d5,d6⟩) | (exact ⟨⟨cell_below hb1 c0,cell_below hb1 c1,cell_below hb1 c2,cell_below hb1 c3,cell_below hb1 c4,cell_below hb1 c5,cell_below hb1 c6⟩,cell_below hb1 d0,cell_below hb1 d1,cell_below hb1 d2,cell_below hb1 d3,cell_below hb1 d4,cell_below hb1 d5,cell_below hb1 d6⟩))
    ((go_at_call 75;refine (eqAsk_any (A k) _).mono ?_;rintro e w1 ⟨rfl,hb1⟩))
   go_wp2
   go_roundw
   case rel=>exact ⟨k + 1,by omega,by go_num,hb.drew.trans (hb1.mono (by simpa using hb.size))⟩
   case measure=>simp [intOf];omega
  ·go_wp2
   go_ret
   exact ⟨rfl,hb⟩
def AksM (lo hi:Nat) (w:World) (v:Value) (n:Nat):Prop :=
 ∃ a cap,v=.slice a n cap∧∀ i,i < n→∃ b o,a=some ⟨b,o,none⟩∧Mk lo hi w ⟨b,o + i * 7,none⟩∧Mk lo hi w ⟨b,o + i * 7 + 1,none⟩∧Mk lo hi w ⟨b,o + i * 7 + 2,none⟩∧Mk lo hi w ⟨b,o + i * 7 + 3,none⟩∧Mk lo hi w ⟨b,o + i * 7 + 4,none⟩∧Mk lo hi w ⟨b,o + i * 7 + 5,none⟩∧Mk lo hi w ⟨b,o + i * 7 + 6,none⟩
theorem AksM.go {lo hi:Nat} {w w':World} {v:Value} {n:Nat} (h:AksM lo hi w v n) (hb:Betw lo hi w w'):AksM lo hi w' v n:=by
 obtain ⟨a,cap,hv,h⟩:=h
 refine ⟨a,cap,hv,fun i hi=>?_⟩
 obtain ⟨b,o,ha,h0,h1,h2,h3,h4,h5,h6⟩:=h i hi
 exact ⟨b,o,ha,h0.go hb,h1.go hb,h2.go hb,h3.go hb,h4.go hb,h5.go hb,h6.go hb⟩
theorem AksAt.marks {lo:Nat} {w:World} {v:Value} {n:Nat} {A:Nat→Ak} (hl:lo ≠ 0) (h:AksAt lo w v n A):AksM lo w.heap.size w v n:=by
 obtain ⟨a,cap,hv,hn,h⟩:=h
 refine ⟨a,cap,hv,fun i hi=>?_⟩
 obtain ⟨b,o,ha,c0,c1,c2,c3,c4,c5,c6,-,-,m⟩:=h i hi
 exact ⟨b,o,ha,(m 0 (by omega)).mk hl c0 rfl,(m 1 (by omega)).mk hl c1 rfl,(m 2 (by omega)).mk hl c2 rfl,(m 3 (by omega)).mk hl c3 rfl,(m 4 (by omega)).mk hl c4 rfl,(m 5 (by omega)).mk hl c5 rfl,(m 6 (by omega)).mk hl c6 rfl⟩
theorem markAskS_any (lo hi:Nat) (v:Value) (n:Nat) (k:Int) (w:World) (hv:AksM lo hi w v n) (hn:n≤1048576) (hk:0 < k) (hk2:k≤2300000000000) :
  Calls Tryz.prog 31 #[v,.int .i64 k] w fun e w'=>(∃ r:Int,e=.returned (.int .i64 r)∧0≤r)∧Betw lo hi w w':=by
 have HV:=hide hv
 obtain ⟨a,cap,rfl,_⟩:=hv
 go_enter Tryz.func31,Tryz.ntmps31
 go_wp2
 go_loopw [1,5] (fun q i wr=>∃ (j:Nat) (z:Int),j≤n∧q=.int .i64 z∧0 < z∧z≤k + j * 7∧i=.int .i64 j∧Betw lo hi w wr) (fun _ i _=>n - (intOf i).toNat)
 case atStart=>exact ⟨0,k,by omega,rfl,hk,by omega,rfl,Betw.refl _ _ _⟩
 case round =>
  obtain ⟨j,z,hj,rfl,hz,hz2,rfl,hb⟩:=hrel
  have HB:=hide hb
  clear hb
  by_cases hlt:j < n
  ·obtain ⟨a',cap',e,hv⟩:=(uh HV).go (uh HB)
   cases e
   obtain ⟨b,o,rfl,m0,m1,m2,m3,m4,m5,m6⟩:=hv j hlt
   clear hv
   have X0:=hide (m0.set (u:=.int .i64 z) (Betw.refl lo hi wr) rfl)
   have X1:=hide ((m1.go (uh X0)).set (u:=.int .i64 (z + 1)) (uh X0) rfl)
   have M2:=hide (m2.go (uh X1))
   have M3:=hide (m3.go (uh X1))
   have M4:=hide (m4.go (uh X1))
   have M5:=hide (m5.go (uh X1))
   have M6:=hide (m6.go (uh X1))
   obtain ⟨-,-,⟨u0,c0,-⟩,f0⟩:=m0
   obtain ⟨-,-,⟨u1,c1,-⟩,f1⟩:=m1
   clear m2 m3 m4 m5 m6
   have hi1:(0:Int)≤(j:Int):=by omega
   have hi2:(j:Int) < (n:Int):=by omega
   go_wp2_with fail
   refine (markText_any _ _ (by omega) (by omega)).mono ?_
   rintro e w1 ⟨⟨s,rfl⟩,hb1⟩
   have N0:=hide ((uh X1).trans (Betw.of_below lo hi hb1))
   have N2:=hide ((uh M2).go (Betw.of_below lo hi hb1))
   have Y2:=hide ((uh N2).set (u:=.string s) (Betw.refl lo hi w1) rfl)
   have N3:=hide (((uh M3).go (Betw.of_below lo hi hb1)).go (uh Y2))
   have Y3:=hide ((uh N3).set (u:=.int .i64 (z + 1 + 1 + 1)) (uh Y2) rfl)
   have N4:=hide (((uh M4).go (Betw.of_below lo hi hb1)).go (uh Y3))
   have Y4:=hide ((uh N4).set (u:=.int .i64 (z + 1 + 1 + 1 + 1)) (uh Y3) rfl)
   have N5:=hide (((uh M5).go (Betw.of_below lo hi hb1)).go (uh Y4))
   have Y5:=hide ((uh N5).set (u:=.int .i64 (z + 1 + 1 + 1 + 1 + 1)) (uh Y4) rfl)
   have N6:=hide (((uh M6).go (Betw.of_below lo hi hb1)).go (uh Y5))
   obtain ⟨-,-,⟨u2,c2,-⟩,f2⟩:=uh N2
   obtain ⟨-,-,⟨u3,c3,-⟩,f3⟩:=(uh M3).go (Betw.of_below lo hi hb1)
   obtain ⟨-,-,⟨u4,c4,-⟩,f4⟩:=(uh M4).go (Betw.of_below lo hi hb1)
   obtain ⟨-,-,⟨u5,c5,-⟩,f5⟩:=(uh M5).go (Betw.of_below lo hi hb1)
   clear hb1 c0 c1 f0 f1 M2 M3 M4 M5 M6 X0 X1
   go_wp2_with fail
   refine (markText_any _ _ (by omega) (by omega)).mono ?_
   rintro e w2 ⟨⟨s2,rfl⟩,hb2⟩
   have P0:=hide (((uh N0).trans (uh Y5)).trans (Betw.of_below lo hi hb2))
   have P6:=hide ((uh N6).go (Betw.of_below lo hi hb2))
   have Q6:=hide ((uh P6).set (u:=.string s2) (uh P0) rfl)
   obtain ⟨-,-,⟨u6,c6,-⟩,f6⟩:=uh P6
   clear hb2 c2 c3 c4 c5 f2 f3 f4 f5
   go_wp2
   go_roundw
   case rel=>exact ⟨j + 1,_,by omega,rfl,by omega,by omega,by go_num,(uh HB).trans (uh Q6)⟩
   case measure=>simp [intOf];omega
  ·go_wp2
   go_ret
   exact ⟨⟨z,rfl,by omega⟩,uh HB⟩
theorem markMomentSK_any (lo hi:Nat) (v:Value) (n:Nat) (k:Int) (w:World) (hv:MomsM lo hi w v n) (hn:n≤1048576) (hk:0 < k) (hk2:k≤1048577) :
  Calls Tryz.prog 77 #[v,.int .i64 k] w fun e w'=>(∃ r:Int,e=.returned (.int .i64 r)∧0 < r∧r≤2200000000000)∧Betw lo hi w w':=by
 have HV:=hide hv
 obtain ⟨a,cap,rfl,_⟩:=hv
 go_enter Tryz.func77,Tryz.ntmps77
 go_wp2
 go_loopw [1,5] (fun q i wr=>∃ (j:Nat) (z:Int),j≤n∧q=.int .i64 z∧0 < z∧z≤1048577 + j * 2097157∧i=.int .i64 j∧Betw lo hi w wr) (fun _ i _=>n - (intOf i).toNat)
 case atStart=>exact ⟨0,k,by omega,rfl,hk,by omega,rfl,Betw.refl _ _ _⟩
 case round =>
  obtain ⟨j,z,hj,rfl,hz,hz2,rfl,hb⟩:=hrel
  have HB:=hide hb
  clear hb
  by_cases hlt:j < n
  ·obtain ⟨a',cap',e,hv⟩:=(uh HV).go (uh HB)
   cases e
   obtain ⟨b,o,vv,m,rfl,⟨m0,m1,m2,m3,m4⟩,hc5,hvv,hm⟩:=hv j hlt
   clear hv
   have hzz:z≤1048577 + 1048575 * 2097157:=by omega
   have X0:=hide (m0.set (u:=.int .i64 z) (Betw.refl lo hi wr) rfl)
   have X1:=hide ((m1.go (uh X0)).set (u:=.int .i64 (z + 1)) (uh X0) rfl)
   have X2:=hide ((m2.go (uh X1)).set (u:=.int .i64 (z + 1 + 1)) (uh X1) rfl)
   have X3:=hide ((m3.go (uh X2)).set (u:=.int .i64 (z + 1 + 1 + 1)) (uh X2) rfl)
   have HV5:=hide hvv
   have HC5:=hide hc5
   obtain ⟨va,vc,rfl,-⟩:=hvv
   have M4:=hide (m4.go (uh X3))
   obtain ⟨-,-,⟨u0,c0,-⟩,f0⟩:=m0
   obtain ⟨-,-,⟨u1,c1,-⟩,f1⟩:=m1
   obtain ⟨-,-,⟨u2,c2,-⟩,f2⟩:=m2
   obtain ⟨-,-,⟨u3,c3,-⟩,f3⟩:=m3
   clear m4 hc5
   have hi1:(0:Int)≤(j:Int):=by omega
   have hi2:(j:Int) < (n:Int):=by omega
   go_wp2_with fail
   refine (markText_any _ _ (by omega) (by omega)).mono ?_
   rintro e w1 ⟨⟨s,rfl⟩,hb1⟩
   have Y1:=hide ((uh X3).trans (Betw.of_below lo hi hb1))
   have M4':=hide ((uh M4).go (Betw.of_below lo hi hb1))
   have Y2:=hide ((uh M4').set (u:=.string s) (uh Y1) rfl)
   obtain ⟨-,-,⟨u4,c4,-⟩,f4⟩:=uh M4'
   have V5:=hide ((uh HV5).go (uh Y2))
   have C5:=(uh Y2).fix _ _ (uh HC5) rfl
   clear hb1 M4 HV5 HC5 c0 c1 c2 c3 f0 f1 f2 f3 X0 X1 X2 X3
   go_wp2_with fail
   refine (markVarS_any lo hi _ m _ _ (uh V5) hm (by omega) (by omega)).mono ?_
   rintro e w2 ⟨rfl,hb2⟩
   have HB2:=hide ((uh HB).trans ((uh Y2).trans hb2))
   clear hb2 c4 f4 C5
   go_wp2
   go_roundw
   case rel=>exact ⟨j + 1,_,by omega,rfl,by omega,by omega,by go_num,uh HB2⟩
   case measure=>simp [intOf];omega
  ·go_wp2
   go_ret
   exact ⟨⟨z,rfl,by omega,by omega⟩,uh HB⟩
theorem markTraceK_any (lo hi:Nat) (v1 v2:Value) (nf n:Nat) (w:World) (h1:StrsM lo hi w v1 nf) (h2:MomsM lo hi w v2 n) (hh:hi≤w.heap.size) (hnf:nf≤1048576) (hn:n≤1048576) :
  Calls Tryz.prog 30 #[.agg #[v1,v2],.int .i64 1] w fun e w'=>(∃ r:Int,e=.returned (.int .i64 r)∧0 < r∧r≤2200000000000)∧Betw lo hi w w':=by
 have B0:=hide (Betw.of_below lo hi (below_new w (.cells #[v1,v2] 26)))
 have H1:=hide (h1.go (uh B0))
 have H2:=hide (h2.go (uh B0))
 obtain ⟨a1,c1,rfl,-⟩:=h1
 obtain ⟨a2,c2,rfl,-⟩:=h2
 go_enter Tryz.func30,Tryz.ntmps30
 go_wp2_with fail
 refine (markStringS_any lo hi _ nf _ _ (uh H1) hnf (by omega) (by omega)).mono ?_
 rintro e w1 ⟨rfl,hb1⟩
 have B1:=hide ((uh B0).trans hb1)
 have H3:=hide ((uh H2).go hb1)
 have g1:w1.cell? ⟨w.heap.size,1,none⟩=some (.slice a2 n c2):=by
  rw [World.cell?_of_block (hb1.block w.heap.size (by simp) (.inr hh)),cell_alloc_at _ _ _ _ _ rfl];rfl
 clear hb1 B0 H1 H2
 go_wp2_with fail
 refine (markMomentSK_any lo hi _ n _ _ (uh H3) hn (by omega) (by omega)).mono ?_
 rintro e w2 ⟨⟨r,rfl,hr,hr2⟩,hb2⟩
 have B2:=hide ((uh B1).trans hb2)
 clear hb2 g1
 go_wp2
 go_ret
 exact ⟨⟨r,rfl,hr,hr2⟩,uh B2⟩
end Go.Proofs.YtmnmeaeicjhkhaaGreatDoor
namespace Go.Proofs.YtmnmeaeicjhkhaaGreatDoor
open Go.RowKit
theorem setLine_len (x:Int):∀ l:List Fr,(setLine x l).length=l.length
 | []=>rfl
 | _ :: _=>rfl
theorem depth_le {f:Nat→M}:∀ (k:Nat),(∀ j,j < k→codeAt f j=0)→∀ t,((St.after f k).tasks t).length≤200
 | 0,_,t=>by
  show (if t=0 then [(⟨0,0,-1⟩:Fr)] else []).length≤200
  split<;>simp
 | k + 1,h,t=>by
  have ih:=depth_le k (fun j hj=>h j (by omega))
  have hc:=h k (by omega)
  unfold codeAt code at hc
  show (((St.after f k).step (f k).kind (f k).task (f k).fn (f k).line k).tasks t).length≤200
  unfold St.step
  by_cases h7:(f k).kind=7
  ·rw [if_pos h7];exact ih t
  rw [if_neg h7] at hc ⊢
  by_cases h2:(f k).kind=2
  ·rw [if_pos h2] at hc ⊢
   show (if t=(St.after f k).cur then _ else _:List Fr).length≤200
   by_cases hq:(f k).task ≠ (St.after f k).cur
   ·rw [if_pos hq] at hc;cases hc
   rw [if_neg hq] at hc
   by_cases hl:((St.after f k).tasks (St.after f k).cur).length=200
   ·rw [if_pos hl] at hc;cases hc
   split
   ·rw [List.length_cons];have:=ih (St.after f k).cur;omega
   ·exact ih t
  rw [if_neg h2]
  by_cases h1:(f k).kind=1
  ·rw [if_pos h1]
   show (if t=(St.after f k).cur then _ else _:List Fr).length≤200
   split
   ·rw [setLine_len];exact ih _
   ·exact ih t
  rw [if_neg h1]
  by_cases h3:(f k).kind=3
  ·rw [if_pos h3]
   show (if t=(St.after f k).cur then _ else _:List Fr).length≤200
   split
   ·rw [List.length_tail];have:=ih (St.after f k).cur;omega
   ·exact ih t
  rw [if_neg h3]
  exact ih t
theorem AskIs.short {nf:Nat} {fns:Nat→ByteArray} {n:Nat} {f:Nat→M} {s s':LS} {a:Ak} {d:Td} (hs:Sound nf fns n f) (hi:AskIs n f s a s' d):d.fr.length≤200∧d.vs.length≤200:=by
 have z:(([]:List Fr).length≤200∧([]:List V).length≤200):=by simp
 unfold AskIs at hi
 by_cases hok:¬ OkAsk a
 ·rw [if_neg hok] at hi;rw [hi.2];exact z
 have hok:=Classical.not_not.1 hok
 rw [if_pos hok] at hi
 by_cases e1:a.op=1
 ·rw [if_pos e1] at hi
  by_cases q:s.stops.length=50
  ·rw [if_pos q] at hi;rw [hi.2];exact z
  ·rw [if_neg q] at hi;rw [hi.2];exact z
 rw [if_neg e1] at hi
 by_cases e2:a.op=2
 ·rw [if_pos e2] at hi
  by_cases q:(s.stops.length:Int)≤a.n
  ·rw [if_pos q] at hi;rw [hi.2];exact z
  ·rw [if_neg q] at hi;rw [hi.2];exact z
 rw [if_neg e2] at hi
 by_cases e8:a.op=8
 ·rw [if_pos e8] at hi
  cases hg:s.past.getLast? with
  | none=>rw [hg] at hi;rw [hi.2];exact z
  | some x=>rw [hg] at hi;rw [hi.2];exact z
 rw [if_neg e8] at hi
 by_cases e9:a.op=9∧(n:Int) < a.n
 ·rw [if_pos e9] at hi;rw [hi.2];exact z
 rw [if_neg e9] at hi
 by_cases e10:a.op=10
 ·rw [if_pos e10] at hi;rw [hi.2]
  exact ⟨depth_le _ (fun j hj=>hs.2.2 j (by unfold upto at hj;omega)) _,by simp⟩
 rw [if_neg e10] at hi
 by_cases e11:a.op=11
 ·rw [if_pos e11] at hi;rw [hi.2]
  refine ⟨by simp,?_⟩
  show (varsOf n f s.at_).length≤200
  unfold varsOf nvAt
  rw [List.length_map,List.length_range]
  split
  ·rename_i h;exact (hs.2.1 _ (by omega)).2.1
  ·omega
 rw [if_neg e11] at hi
 by_cases e12:a.op=12
 ·rw [if_pos e12] at hi
  cases hg:lastText (varAt f s.at_) a.name (nvAt n f s.at_) with
  | none=>rw [hg] at hi;rw [hi.2];exact z
  | some x=>rw [hg] at hi;rw [hi.2];exact z
 rw [if_neg e12] at hi
 by_cases e13:a.op=13
 ·rw [if_pos e13] at hi
  by_cases q:(s.stops.length:Int)≤a.n
  ·rw [if_pos q] at hi;rw [hi.2];exact z
  ·rw [if_neg q] at hi;rw [hi.2];exact z
 rw [if_neg e13] at hi
 obtain ⟨y,m,-,rfl⟩:=hi
 exact z
theorem Asked.short {nf:Nat} {fns:Nat→ByteArray} {n:Nat} {f:Nat→M} {s s':LS} {aq:List Ak} {ds:List (Int × Td)} (hs:Sound nf fns n f) (h:Asked n f s aq s' ds):∀ x,x ∈ ds→x.2.fr.length≤200∧x.2.vs.length≤200:=by
 induction h with
 | nil=>intro x hx;cases hx
 | snoc _ k ih =>
  intro x hx
  rcases List.mem_append.1 hx with hx | hx
  ·exact ih x hx
  ·rw [List.mem_singleton.1 hx];exact AskIs.short hs k
section
variable {nf:Nat} {fns:Nat→ByteArray} {n:Nat} {f:Nat→M} {na:Nat} {A:Nat→Ak} {ts us:List Tl}
theorem LookAns.uniq (h:LookAns nf fns n f na A ts) (h':LookAns nf fns n f na A us):ts.map (fun x=>(x.at_,x.d))=us.map (fun x=>(x.at_,x.d)):=by
 rcases h with ⟨a,s',h⟩ | ⟨a,rfl⟩<;>rcases h' with ⟨a',s'',h'⟩ | ⟨a',rfl⟩
 ·exact (h.uniq h').2
 ·exact absurd a a'
 ·exact absurd a' a
 ·rfl
theorem LookAns.short (h:LookAns nf fns n f na A ts):Short ts:=by
 rcases h with ⟨a,s',h⟩ | ⟨a,rfl⟩
 ·intro x hx
  exact h.short a.1 (x.at_,x.d) (List.mem_map.2 ⟨x,hx,rfl⟩)
 ·intro x hx;cases hx
theorem LookAns.le (h:LookAns nf fns n f na A ts):ts.length≤500:=by
 rcases h with ⟨a,s',h⟩ | ⟨a,rfl⟩
 ·have:=h.len
  rw [List.length_map,List.length_map,List.length_range] at this
  omega
 ·simp
end
theorem owns_betwz {lo hi B:Nat} {w w':World} {e:TypeId} {z:Nat} {v:Value} {n:Nat} {xs:List Value} (h:w.ownsRow B e z v n xs) (hb:Betw lo hi w w') (hB:hi≤B):w'.ownsRow B e z v n xs:=by
 obtain ⟨h1,h2⟩:=h
 refine ⟨h1,?_⟩
 rcases h2 with h2 | ⟨g,cap,cur,hv,hg,hh,r⟩
 ·exact .inl h2
 ·exact .inr ⟨g,cap,cur,hv,hg,by rw [hb.block g (Array.getElem?_eq_some_iff.1 hh).1 (.inr (by omega))];exact hh,r⟩
theorem TdsAt.betw {lo hi B:Nat} {w w':World} {v:Value} {ts:List Tl} (h:TdsAt B w v ts) (hb:Betw lo hi w w') (hB:hi≤B):TdsAt B w' v ts :=
 ⟨owns_betwz h.row hb hB,fun x hx=>owns_betwz (h.fr x hx) hb hB,fun x hx=>⟨owns_betwz (h.vs x hx).row hb hB,(h.vs x hx).sz⟩,h.dis⟩
theorem Betw.wide {lo hi lo' hi':Nat} {w w':World} (h:Betw lo hi w w') (h1:lo'≤lo) (h2:hi≤hi'):Betw lo' hi' w w' :=
 ⟨h.os,h.tape,h.output,h.size,fun b hb hr=>h.block b hb (by omega),h.fz,h.pl,h.fix⟩
theorem Mk.wide {lo hi lo' hi':Nat} {w:World} {p:Addr} (h:Mk lo hi w p) (h1:lo'≤lo) (h2:hi≤hi'):Mk lo' hi' w p:=⟨by have:=h.1;omega,by have:=h.2.1;omega,h.2.2⟩
theorem AksM.wide {lo hi lo' hi':Nat} {w:World} {v:Value} {n:Nat} (h:AksM lo hi w v n) (q1:lo'≤lo) (q2:hi≤hi'):AksM lo' hi' w v n:=by
 obtain ⟨a,cap,hv,h⟩:=h
 refine ⟨a,cap,hv,fun i hi=>?_⟩
 obtain ⟨b,o,ha,h0,h1,h2,h3,h4,h5,h6⟩:=h i hi
 exact ⟨b,o,ha,h0.wide q1 q2,h1.wide q1 q2,h2.wide q1 q2,h3.wide q1 q2,h4.wide q1 q2,h5.wide q1 q2,h6.wide q1 q2⟩
end Go.Proofs.YtmnmeaeicjhkhaaGreatDoor
