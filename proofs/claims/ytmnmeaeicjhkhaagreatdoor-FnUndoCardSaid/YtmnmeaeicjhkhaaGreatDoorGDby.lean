import Derived.Test.YtmnmeaeicjhkhaaGreatDoorGDay
import Derived.Deep.RegionLaw
import Derived.Test.YtmnmeaeicjhkhaaGreatDoorGScy
set_option maxRecDepth 100000
set_option maxHeartbeats 16000000
namespace Go.Proofs.YtmnmeaeicjhkhaaGreatDoor
open Go.RowKit
attribute [local go_sem ↓] Go.wp_at_zero Go.wp_at_succ
def varCells (l:List V):List Value:=l.flatMap fun v=>[.string v.name,.string v.text]
theorem varCells_app (a b:List V):varCells (a ++ b)=varCells a ++ varCells b:=List.flatMap_append ..
def OwnV (B:Nat) (w:World) (v:Value) (l:List V):Prop:=w.ownsRow B 40 2 v l.length (varCells l)∧∀ x,x ∈ l→x.name.size=1∧x.text.size=1
theorem Betw.onw {lo hi:Nat} {a w w':World} (h:Betw lo hi a w) (hb:Below a.heap.size w w'):Betw lo hi a w':=by
 refine ⟨hb.os.trans h.os,hb.tape.trans h.tape,hb.output.trans h.output,Nat.le_trans h.size hb.size,fun b hb' hr=>(hb.block b hb').trans (h.block b hb' hr),fun p hp=>(hb.frozen hp).trans (h.fz p hp),fun p u hu e=>?_,fun p u hu e=>?_⟩
 ·obtain ⟨u',h1,e1⟩:=h.pl p u hu e
  exact ⟨u',by rw [hb.cell (cell_lt hu)];exact h1,e1⟩
 ·rw [hb.cell (cell_lt hu)];exact h.fix p u hu e
theorem owns_betw {lo hi B:Nat} {w w':World} {e:TypeId} {z:Nat} {v:Value} {n:Nat} {xs:List Value} (h:w.ownsRow B e z v n xs) (hb:Betw lo hi w w') (hB:hi≤B):w'.ownsRow B e z v n xs:=by
 obtain ⟨h1,h2⟩:=h
 refine ⟨h1,?_⟩
 rcases h2 with h2 | ⟨g,cap,cur,hv,hg,hh,r⟩
 ·exact .inl h2
 ·exact .inr ⟨g,cap,cur,hv,hg,by rw [hb.block g (Array.getElem?_eq_some_iff.1 hh).1 (.inr (by omega))];exact hh,r⟩
theorem Betw.cell {lo hi:Nat} {w w':World} (h:Betw lo hi w w') {b o:Nat} {u:Value} (hb:hi≤b) (hc:w.cell? ⟨b,o,none⟩=some u):w'.cell? ⟨b,o,none⟩=some u:=by
 have hl:b < w.heap.size:=cell_lt hc
 rw [World.cell?_of_block (h.block b hl (.inr hb))];exact hc
theorem wrap_u8' (n:Int):IntKind.u8.wrap n=n % 256:=by simp [IntKind.wrap,IntKind.bits,IntKind.signed]
theorem conv_one (W:World) (b:Nat) (d:Int) (h:W.cell? ⟨b,0,none⟩=some (.int .u8 d)):Sem.run Tryz.prog (convert 22 9 (.slice (some ⟨b,0,none⟩) 1 1)) W=.ok (.string (strOfNums [d])) W:=by
 refine run_convert_bytes_arg (P:=Tryz.prog) (w:=W) 22 5 Tryz.underlying22 Tryz.underlying5 b 0 1 1 [d] rfl (fun i hi=>?_) 9 Tryz.underlying9
 have e:i=0:=by omega
 subst e
 exact h
theorem wpAnyH_more {P:Program} {md:Region.Mode} {ops:Array Oper} {Q:Exit→Act→World→Prop} {S S':World→Prop} (hs:∀ w,S' w→S w):∀ (fuel:Nat) (listed:Array Bool) (a:Act) (w:World),wpAnyH P md ops Q S' fuel listed a w→wpAnyH P md ops Q S fuel listed a w
 | 0,_,_,_,h=>h
 | fuel + 1,_,_,_,h=>⟨h.1,fun i hi=>wpOp_mono (fun a' w' h'=>⟨hs w' h'.1,wpAnyH_more hs fuel _ a' w' h'.2⟩) (h.2 i hi)⟩
theorem vars_any (K pc len:Nat) (c:Cu) (w:World) (h:Cur K w pc len c) (hK:K≤w.heap.size) (hat:c.at_ < 4611686018427387800) :
  Calls Tryz.prog 85 #[.pointer (some ⟨pc,0,none⟩)] w fun e w'=>(∃ v l c',e=.returned v∧l.length≤3∧OwnV w.heap.size w' v l∧Draws len (1 + 2 * l.length) c c'∧Cur K w' pc len c')∧Betw pc (pc + 1) w w':=by
 have H:=hide h
 clear h
 obtain ⟨i0,hi0,hz0,hz1,hz2⟩:=info_parts info_Var
 have II:=hide (And.intro hi0 (And.intro hz0 (And.intro hz1 hz2)));clear hi0 hz0 hz1 hz2
 go_enter Tryz.func85,Tryz.ntmps85
 go_wp2_with fail
 refine (pick_any K pc len c 4 _ (uh H) (by omega) (by omega) (by omega)).mono ?_
 rintro e w0 ⟨⟨x,c0,rfl,hd,hc⟩,hb⟩
 obtain ⟨n,hn⟩:∃ n,n=x % 4:=⟨_,rfl⟩
 have hn3:n≤3:=by omega
 rw [← hn]
 have HD:=hide ((Draws.refl len c).next hd)
 have HC:=hide hc
 have HB:=hide hb
 clear hd hc hb hn
 go_wp2
 go_loopw [3,4] (fun o i wr=>∃ (l:List V) (c1:Cu) (a:Option Addr) (oc m:Nat),l.length + m=n∧i=.int .i64 (m:Int)∧o=.slice a l.length oc∧OwnV w.heap.size wr o l∧Draws len (1 + 2 * l.length) c c1∧Cur K wr pc len c1∧Betw pc (pc + 1) w wr) (fun _ i _=>(intOf i).toNat)
 case atStart=>exact ⟨[],c0,none,0,n,by simp,rfl,rfl,⟨World.ownsRow_nil _ _ _ _,by simp⟩,uh HD,uh HC,uh HB⟩
 case round =>
  obtain ⟨l,c1,oa,oc,m,hl,rfl,rfl,ho,hd,hc,hb⟩:=hrel
  have HO:=hide ho
  have HD1:=hide hd
  have HC1:=hide hc
  have HB1:=hide hb
  have hat1:c1.at_ < 4611686018427387900:=by rw [hd.at1];omega
  have hs1:w.heap.size≤wr.heap.size:=hb.size
  have hpk:pc < K:=hc.hk
  clear ho hd hc hb HD HC HB
  obtain ⟨ln,hln⟩:∃ ln,ln=l.length:=⟨_,rfl⟩
  rw [← hln] at hl
  rw [← hln]
  have HLN:=hide hln
  clear hln
  have hln3:ln≤3:=by omega
  by_cases hlt:0 < m
  ·have hi1:(0:Int) < (m:Int):=by omega
   go_wp2_with fail
   refine wp_region_held_drew (S:=fun _=>True) (by kernel_rfl) trivial (fun hHeld=>?_)
   refine tka 0 11 ?hy0z hHeld ?r0z (v:=?v0z)
   case hy0z=>intro wx hSw;go_simp;with_reducible rfl
   simp only [Act.put,sx1,sx2,sx3]
   refine tka 1 12 ?hy1z hHeld ?r1z (v:=?v1z)
   case hy1z=>intro wx hSw;go_simp;with_reducible rfl
   simp only [Act.put,sx1,sx2,sx3]
   refine tka 7 18 ?hy7z hHeld ?r7z (v:=?v7z)
   case hy7z=>intro wx hSw;go_simp;with_reducible rfl
   simp only [Act.put,sx1,sx2,sx3]
   refine wpAnyH_ready (rs:=[2]) (by kernel_rfl) (by simp) ?_
   refine AllReadyH.cons rfl (fun KK hK=>?_) AllReadyH.nil
   go_simp
   refine (pick_any K pc len c1 3 _ ((uh HC1).below (Below.refl _ _).drew) (by omega) (by omega) (by omega)).mono ?_
   rintro e wa ⟨⟨xa,ca,rfl,hda,hca⟩,hba⟩
   obtain ⟨ra,hra⟩:∃ ra,ra=xa % 3:=⟨_,rfl⟩
   rw [← hra]
   have hra3:(ra:Int) < 3:=by omega
   have HDA:=hide hda.at1
   have HDD:=hide ((uh HD1).next hda)
   have HCA:=hide hca
   have HBA:=hide ((Betw.of_below pc (pc + 1) (Below.refl wr.heap.size wr).drew).trans hba)
   have hsa:wr.heap.size≤wa.heap.size:=by simpa using hba.size
   clear hda hca hba hra
   have wr1:IntKind.i64.wrap (97 + (ra:Int))=97 + ra:=by rw [IntKind.wrap_i64];omega
   have wu1:IntKind.u8.wrap (97 + (ra:Int))=97 + ra:=by rw [wrap_u8'];omega
   refine hK.out _ _ trivial (fun hHeld=>?_)
   clear hK KK
   try simp only [Act.put,sx1,sx4,sx5,sx6,sx2,sx3]
   refine tka 3 14 ?hy3z hHeld ?r3z (v:=?v3z)
   case hy3z=>intro wx hSw;go_simp;with_reducible rfl
   simp only [Act.put,sx1,sx2,sx3]
   refine tka 4 15 ?hy4z hHeld ?r4z (v:=?v4z)
   case hy4z=>intro wx hSw;go_simp;with_reducible rfl
   simp only [Act.put,sx1,sx2,sx3]
   have NB:Hid (∀ b,wr.heap.size≤b→(Value.slice oa ln oc).ownBlock ≠ some b):=hide (fun b hb e=>by have:=((uh HO).1.lt b (by rw [← uh HLN];exact e)).2;omega)
   refine wpAnyH_ready (rs:=[5,8]) (by kernel_rfl) (by simp) ?_
   refine AllReadyH.cons rfl (fun KK hK=>?_) (AllReadyH.cons rfl (fun KK hK=>?_) AllReadyH.nil)
   ·go_simp
    have BL1:=hide (below_new wa (.cells #[.int .u8 (97 + (ra:Int))] 5))
    refine hK.out _ _ trivial (fun hHeld=>?_)
    clear hK KK
    try simp only [Act.put,sx1,sx4,sx5,sx6,sx2,sx3]
    refine wpAnyH_more (S':=fun W=>W.cell? ⟨wa.heap.size,0,none⟩=some (.int .u8 (97 + (ra:Int)))) (fun _ _=>trivial) _ _ _ _ ?_
    replace hHeld:(wa.alloc (.cells #[.int .u8 (97 + (ra:Int))] 5)).cell? ⟨wa.heap.size,0,none⟩=some (.int .u8 (97 + (ra:Int))):=by rw [cell_alloc_at _ _ _ _ _ rfl];rfl
    refine tka 6 17 ?hy6a hHeld ?r6a (v:=?v6a)
    case hy6a=>intro wx hSw;have ec:=conv_one wx _ _ hSw;go_simp;with_reducible rfl
    simp only [Act.put,sx1,sx2,sx3]
    refine wpAnyH_ready (rs:=[8]) (by kernel_rfl) (by simp) ?_
    refine AllReadyH.cons rfl (fun KK hK=>?_) AllReadyH.nil
    have HC2:=hide ((uh HCA).below ((uh BL1).mono (by omega)))
    go_simp
    refine (pick_any K pc len ca 3 _ (uh HC2) (by rw [uh HDA];omega) (by omega) (by omega)).mono ?_
    rintro e wb ⟨⟨xb,cb,rfl,hdb,hcb⟩,hbb⟩
    obtain ⟨rb,hrb⟩:∃ rb,rb=xb % 3:=⟨_,rfl⟩
    rw [← hrb]
    have hrb3:(rb:Int) < 3:=by omega
    have HDB:=hide hdb
    have HCB:=hide hcb
    have HBB:=hide hbb
    clear hdb hcb hbb hrb
    have wr2:IntKind.i64.wrap (48 + (rb:Int))=48 + rb:=by rw [IntKind.wrap_i64];omega
    have wu2:IntKind.u8.wrap (48 + (rb:Int))=48 + rb:=by rw [wrap_u8'];omega
    have HB2:=hide ((uh HBA).trans ((Betw.of_below pc (pc + 1) (uh BL1)).trans (uh HBB)))
    have hsb:wa.heap.size + 1≤wb.heap.size:=by simpa using (uh HBB).size
    refine hK.out _ _ ((uh HBB).cell (by omega) hHeld) (fun hHeld=>?_)
    clear hK KK
    try simp only [Act.put,sx1,sx4,sx5,sx6,sx2,sx3]
    refine tka 9 20 ?hy9a hHeld ?r9a (v:=?v9a)
    case hy9a=>intro wx hSw;go_simp;with_reducible rfl
    simp only [Act.put,sx1,sx2,sx3]
    refine tka 10 21 ?hy10a hHeld ?r10a (v:=?v10a)
    case hy10a=>intro wx hSw;go_simp;with_reducible rfl
    simp only [Act.put,sx1,sx2,sx3]
    refine wpAnyH_ready (rs:=[11]) (by kernel_rfl) (by simp) ?_
    refine AllReadyH.cons rfl (fun KK hK=>?_) AllReadyH.nil
    go_simp
    have BL2:=hide (below_new wb (.cells #[.int .u8 (48 + (rb:Int))] 5))
    refine hK.out _ _ (cell_below (uh BL2) hHeld) (fun hHeld=>?_)
    clear hK KK
    try simp only [Act.put,sx1,sx4,sx5,sx6,sx2,sx3]
    refine wpAnyH_more (S':=fun W=>W.cell? ⟨wa.heap.size,0,none⟩=some (.int .u8 (97 + (ra:Int)))∧W.cell? ⟨wb.heap.size,0,none⟩=some (.int .u8 (48 + (rb:Int)))) (fun _ h=>h.1) _ _ _ _ ?_
    replace hHeld:(wb.alloc (.cells #[.int .u8 (48 + (rb:Int))] 5)).cell? ⟨wa.heap.size,0,none⟩=some (.int .u8 (97 + (ra:Int)))∧(wb.alloc (.cells #[.int .u8 (48 + (rb:Int))] 5)).cell? ⟨wb.heap.size,0,none⟩=some (.int .u8 (48 + (rb:Int))):=⟨hHeld,by rw [cell_alloc_at _ _ _ _ _ rfl];rfl⟩
    refine tka 12 23 ?hy12a hHeld ?r12a (v:=?v12a)
    case hy12a=>intro wx hSw;have ec:=conv_one wx _ _ hSw.2;go_simp;with_reducible rfl
    simp only [Act.put,sx1,sx2,sx3]
    have HCW:=hide ((uh HCB).below ((uh BL2).mono (by omega)))
    have HBW:=hide ((uh HB2).trans (Betw.of_below pc (pc + 1) (uh BL2)))
    refine tka 13 24 ?hy13a hHeld ?r13a (v:=?v13a)
    case hy13a=>intro wx hSw;go_simp;with_reducible rfl
    simp only [Act.put,sx1,sx2,sx3]
    refine wpAnyH_ready (rs:=[14]) (by kernel_rfl) (by simp) ?_
    refine AllReadyH.cons rfl (fun KK hK=>?_) AllReadyH.nil
    go_simp
    have BL:=hide (below_new (wb.alloc (.cells #[.int .u8 (48 + (rb:Int))] 5)) (.cells #[.string (strOfNums [97 + (ra:Int)]),.string (strOfNums [48 + (rb:Int)])] 40))
    refine hK.out _ _ ⟨cell_below (uh BL) hHeld.1,cell_below (uh BL) hHeld.2⟩ (fun hHeld=>?_)
    clear hK KK
    try simp only [Act.put,sx1,sx4,sx5,sx6,sx2,sx3]
    refine wpAnyH_ready (rs:=[15]) (by kernel_rfl) (by simp) ?_
    refine AllReadyH.cons rfl (fun KK hK=>?_) AllReadyH.nil
    have HOW:=hide (owns_below (owns_betw (uh HO).1 (uh HBW) (by omega)) (uh BL))
    have hszW:wr.heap.size≤(wb.alloc (.cells #[.int .u8 (48 + (rb:Int))] 5)).heap.size:=(uh HBW).size
    refine step_append_lies _ (by rfl) _ _ _ (by rfl) w.heap.size 40 i0 _ 2 32 Tryz.underlying36 (uh II).1 (uh II).2.1 (uh II).2.2.1 (uh II).2.2.2 rfl (by omega) (.slice oa ln oc) ln (varCells l) (by rfl) (by rw [uh HLN];exact uh HOW)
     ⟨wb.heap.size + 1,0,none⟩ 1 1 [.string (strOfNums [97 + (ra:Int)]),.string (strOfNums [48 + (rb:Int)])] (by rfl) (by rfl) (World.news_of_block (cs:=#[.string (strOfNums [97 + (ra:Int)]),.string (strOfNums [48 + (rb:Int)])]) (t:=40) (fr:=(0,0)) (by have:=heap_alloc_new (wb.alloc (.cells #[.int .u8 (48 + (rb:Int))] 5)) (.cells #[.string (strOfNums [97 + (ra:Int)]),.string (strOfNums [48 + (rb:Int)])] 40);simpa using this)) (by simp [Value.oneCell'])
     (by omega) (by unfold maxLen;omega) (by omega) (by simp;omega) ((wb.alloc (.cells #[.int .u8 (48 + (rb:Int))] 5)).heap.size + 1) (by simp) ?_
    intro g cap' w7 hown1 hgrow _ _
    have HBG:Hid (Below w.heap.size (wb.alloc (.cells #[.int .u8 (48 + (rb:Int))] 5)) w7):=hide (Below.grown ((uh BL).mono (by omega)) hgrow (by simp;omega) (fun k hk=>((uh HO).1.lt k (by rw [← uh HLN];exact hk)).1))
    have HW:=hide hown1
    have hx1:=(hgrow.cell_far ⟨wa.heap.size,0,none⟩ (by simp<;>omega) (Ne.symm (uh NB (wa.heap.size) (by omega)))).trans hHeld.1
    have hx2:=(hgrow.cell_far ⟨wb.heap.size,0,none⟩ (by simp<;>omega) (Ne.symm (uh NB (wb.heap.size) (by omega)))).trans hHeld.2
    refine hK.out _ _ ⟨hx1,hx2⟩ (fun hHeld=>?_)
    clear hK KK
    try simp only [Act.put,sx1,sx4,sx5,sx6,sx2,sx3]
    refine tka 16 3 ?hy16a hHeld ?r16a (v:=?v16a)
    case hy16a=>intro wx hSw;go_simp;with_reducible rfl
    simp only [Act.put,sx1,sx2,sx3]
    refine wpAnyH_done (by kernel_rfl) ?_ _
    have HCG:=hide ((uh HCW).below ((uh HBG).mono hK))
    have HBB2:=hide (((uh HB1).trans (uh HBW)).onw (uh HBG))
    clear hown1 hgrow hx1 hx2 hHeld
    go_wp2
    go_roundw
    case rel =>
     refine ⟨l ++ [⟨strOfNums [97 + (ra:Int)],strOfNums [48 + (rb:Int)]⟩],cb,some ⟨g,0,none⟩,cap',m - 1,?_,?_,?_,⟨?_,?_⟩,?_,uh HCG,uh HBB2⟩
     ·rw [List.length_append,← uh HLN,List.length_singleton];omega
     ·congr 1;omega
     ·rw [List.length_append,← uh HLN,List.length_singleton]
     ·rw [List.length_append,← uh HLN,List.length_singleton,varCells_app];exact uh HW
     ·intro x hx
      rcases List.mem_append.1 hx with hx | hx
      ·exact (uh HO).2 x hx
      ·rw [List.mem_singleton.1 hx];exact ⟨strOfNums_size _,strOfNums_size _⟩
     ·rw [List.length_append,List.length_singleton,show 1 + 2 * (l.length + 1)=1 + 2 * l.length + 1 + 1 by omega];exact (uh HDD).next (uh HDB)
    case measure=>simp [intOf];omega
   ·have HC2:=HCA
    go_simp
    refine (pick_any K pc len ca 3 _ (uh HC2) (by rw [uh HDA];omega) (by omega) (by omega)).mono ?_
    rintro e wb ⟨⟨xb,cb,rfl,hdb,hcb⟩,hbb⟩
    obtain ⟨rb,hrb⟩:∃ rb,rb=xb % 3:=⟨_,rfl⟩
    rw [← hrb]
    have hrb3:(rb:Int) < 3:=by omega
    have HDB:=hide hdb
    have HCB:=hide hcb
    have HBB:=hide hbb
    clear hdb hcb hbb hrb
    have wr2:IntKind.i64.wrap (48 + (rb:Int))=48 + rb:=by rw [IntKind.wrap_i64];omega
    have wu2:IntKind.u8.wrap (48 + (rb:Int))=48 + rb:=by rw [wrap_u8'];omega
    have HB2:=hide ((uh HBA).trans (uh HBB))
    have hsb:wa.heap.size≤wb.heap.size:=(uh HBB).size
    refine hK.out _ _ trivial (fun hHeld=>?_)
    clear hK KK
    try simp only [Act.put,sx1,sx4,sx5,sx6,sx2,sx3]
    refine tka 9 20 ?hy9b hHeld ?r9b (v:=?v9b)
    case hy9b=>intro wx hSw;go_simp;with_reducible rfl
    simp only [Act.put,sx1,sx2,sx3]
    refine tka 10 21 ?hy10b hHeld ?r10b (v:=?v10b)
    case hy10b=>intro wx hSw;go_simp;with_reducible rfl
    simp only [Act.put,sx1,sx2,sx3]
    refine wpAnyH_ready (rs:=[5,11]) (by kernel_rfl) (by simp) ?_
    refine AllReadyH.cons rfl (fun KK hK=>?_) (AllReadyH.cons rfl (fun KK hK=>?_) AllReadyH.nil)
    ·go_simp
     have BL1:=hide (below_new wb (.cells #[.int .u8 (97 + (ra:Int))] 5))
     refine hK.out _ _ trivial (fun hHeld=>?_)
     clear hK KK
     try simp only [Act.put,sx1,sx4,sx5,sx6,sx2,sx3]
     refine wpAnyH_more (S':=fun W=>W.cell? ⟨wb.heap.size,0,none⟩=some (.int .u8 (97 + (ra:Int)))) (fun _ _=>trivial) _ _ _ _ ?_
     replace hHeld:(wb.alloc (.cells #[.int .u8 (97 + (ra:Int))] 5)).cell? ⟨wb.heap.size,0,none⟩=some (.int .u8 (97 + (ra:Int))):=by rw [cell_alloc_at _ _ _ _ _ rfl];rfl
     refine tka 6 17 ?hy6c hHeld ?r6c (v:=?v6c)
     case hy6c=>intro wx hSw;have ec:=conv_one wx _ _ hSw;go_simp;with_reducible rfl
     simp only [Act.put,sx1,sx2,sx3]
     refine wpAnyH_ready (rs:=[11]) (by kernel_rfl) (by simp) ?_
     refine AllReadyH.cons rfl (fun KK hK=>?_) AllReadyH.nil
     go_simp
     have BL2:=hide (below_new (wb.alloc (.cells #[.int .u8 (97 + (ra:Int))] 5)) (.cells #[.int .u8 (48 + (rb:Int))] 5))
     refine hK.out _ _ (cell_below (uh BL2) hHeld) (fun hHeld=>?_)
     clear hK KK
     try simp only [Act.put,sx1,sx4,sx5,sx6,sx2,sx3]
     refine wpAnyH_more (S':=fun W=>W.cell? ⟨wb.heap.size,0,none⟩=some (.int .u8 (97 + (ra:Int)))∧W.cell? ⟨wb.heap.size + 1,0,none⟩=some (.int .u8 (48 + (rb:Int)))) (fun _ h=>h.1) _ _ _ _ ?_
     replace hHeld:((wb.alloc (.cells #[.int .u8 (97 + (ra:Int))] 5)).alloc (.cells #[.int .u8 (48 + (rb:Int))] 5)).cell? ⟨wb.heap.size,0,none⟩=some (.int .u8 (97 + (ra:Int)))∧((wb.alloc (.cells #[.int .u8 (97 + (ra:Int))] 5)).alloc (.cells #[.int .u8 (48 + (rb:Int))] 5)).cell? ⟨wb.heap.size + 1,0,none⟩=some (.int .u8 (48 + (rb:Int))):=⟨hHeld,by rw [cell_alloc_at _ _ _ _ _ (by simp)];rfl⟩
     refine tka 12 23 ?hy12c hHeld ?r12c (v:=?v12c)
     case hy12c=>intro wx hSw;have ec:=conv_one wx _ _ hSw.2;go_simp;with_reducible rfl
     simp only [Act.put,sx1,sx2,sx3]
     have HCW:=hide (((uh HCB).below ((uh BL1).mono (by omega))).below ((uh BL2).mono (by simp;omega)))
     have HBW:=hide ((uh HB2).trans ((Betw.of_below pc (pc + 1) (uh BL1)).trans (Betw.of_below pc (pc + 1) (uh BL2))))
     refine tka 13 24 ?hy13c hHeld ?r13c (v:=?v13c)
     case hy13c=>intro wx hSw;go_simp;with_reducible rfl
     simp only [Act.put,sx1,sx2,sx3]
     refine wpAnyH_ready (rs:=[14]) (by kernel_rfl) (by simp) ?_
     refine AllReadyH.cons rfl (fun KK hK=>?_) AllReadyH.nil
     go_simp
     have BL:=hide (below_new ((wb.alloc (.cells #[.int .u8 (97 + (ra:Int))] 5)).alloc (.cells #[.int .u8 (48 + (rb:Int))] 5)) (.cells #[.string (strOfNums [97 + (ra:Int)]),.string (strOfNums [48 + (rb:Int)])] 40))
     refine hK.out _ _ ⟨cell_below (uh BL) hHeld.1,cell_below (uh BL) hHeld.2⟩ (fun hHeld=>?_)
     clear hK KK
     try simp only [Act.put,sx1,sx4,sx5,sx6,sx2,sx3]
     refine wpAnyH_ready (rs:=[15]) (by kernel_rfl) (by simp) ?_
     refine AllReadyH.cons rfl (fun KK hK=>?_) AllReadyH.nil
     have HOW:=hide (owns_below (owns_betw (uh HO).1 (uh HBW) (by omega)) (uh BL))
     have hszW:wr.heap.size≤((wb.alloc (.cells #[.int .u8 (97 + (ra:Int))] 5)).alloc (.cells #[.int .u8 (48 + (rb:Int))] 5)).heap.size:=(uh HBW).size
     refine step_append_lies _ (by rfl) _ _ _ (by rfl) w.heap.size 40 i0 _ 2 32 Tryz.underlying36 (uh II).1 (uh II).2.1 (uh II).2.2.1 (uh II).2.2.2 rfl (by omega) (.slice oa ln oc) ln (varCells l) (by rfl) (by rw [uh HLN];exact uh HOW)
      ⟨wb.heap.size + 1 + 1,0,none⟩ 1 1 [.string (strOfNums [97 + (ra:Int)]),.string (strOfNums [48 + (rb:Int)])] (by rfl) (by rfl) (World.news_of_block (cs:=#[.string (strOfNums [97 + (ra:Int)]),.string (strOfNums [48 + (rb:Int)])]) (t:=40) (fr:=(0,0)) (by have:=heap_alloc_new ((wb.alloc (.cells #[.int .u8 (97 + (ra:Int))] 5)).alloc (.cells #[.int .u8 (48 + (rb:Int))] 5)) (.cells #[.string (strOfNums [97 + (ra:Int)]),.string (strOfNums [48 + (rb:Int)])] 40);simpa using this)) (by simp [Value.oneCell'])
      (by omega) (by unfold maxLen;omega) (by omega) (by simp;omega) (((wb.alloc (.cells #[.int .u8 (97 + (ra:Int))] 5)).alloc (.cells #[.int .u8 (48 + (rb:Int))] 5)).heap.size + 1) (by simp) ?_
     intro g cap' w7 hown1 hgrow _ _
     have HBG:Hid (Below w.heap.size ((wb.alloc (.cells #[.int .u8 (97 + (ra:Int))] 5)).alloc (.cells #[.int .u8 (48 + (rb:Int))] 5)) w7):=hide (Below.grown ((uh BL).mono (by omega)) hgrow (by simp;omega) (fun k hk=>((uh HO).1.lt k (by rw [← uh HLN];exact hk)).1))
     have HW:=hide hown1
     have hx1:=(hgrow.cell_far ⟨wb.heap.size,0,none⟩ (by simp<;>omega) (Ne.symm (uh NB (wb.heap.size) (by omega)))).trans hHeld.1
     have hx2:=(hgrow.cell_far ⟨wb.heap.size + 1,0,none⟩ (by simp<;>omega) (Ne.symm (uh NB (wb.heap.size + 1) (by omega)))).trans hHeld.2
     refine hK.out _ _ ⟨hx1,hx2⟩ (fun hHeld=>?_)
     clear hK KK
     try simp only [Act.put,sx1,sx4,sx5,sx6,sx2,sx3]
     refine tka 16 3 ?hy16c hHeld ?r16c (v:=?v16c)
     case hy16c=>intro wx hSw;go_simp;with_reducible rfl
     simp only [Act.put,sx1,sx2,sx3]
     refine wpAnyH_done (by kernel_rfl) ?_ _
     have HCG:=hide ((uh HCW).below ((uh HBG).mono hK))
     have HBB2:=hide (((uh HB1).trans (uh HBW)).onw (uh HBG))
     clear hown1 hgrow hx1 hx2 hHeld
     go_wp2
     go_roundw
     case rel =>
      refine ⟨l ++ [⟨strOfNums [97 + (ra:Int)],strOfNums [48 + (rb:Int)]⟩],cb,some ⟨g,0,none⟩,cap',m - 1,?_,?_,?_,⟨?_,?_⟩,?_,uh HCG,uh HBB2⟩
      ·rw [List.length_append,← uh HLN,List.length_singleton];omega
      ·congr 1;omega
      ·rw [List.length_append,← uh HLN,List.length_singleton]
      ·rw [List.length_append,← uh HLN,List.length_singleton,varCells_app];exact uh HW
      ·intro x hx
       rcases List.mem_append.1 hx with hx | hx
       ·exact (uh HO).2 x hx
       ·rw [List.mem_singleton.1 hx];exact ⟨strOfNums_size _,strOfNums_size _⟩
      ·rw [List.length_append,List.length_singleton,show 1 + 2 * (l.length + 1)=1 + 2 * l.length + 1 + 1 by omega];exact (uh HDD).next (uh HDB)
     case measure=>simp [intOf];omega
    ·go_simp
     have BL1:=hide (below_new wb (.cells #[.int .u8 (48 + (rb:Int))] 5))
     refine hK.out _ _ trivial (fun hHeld=>?_)
     clear hK KK
     try simp only [Act.put,sx1,sx4,sx5,sx6,sx2,sx3]
     refine wpAnyH_more (S':=fun W=>W.cell? ⟨wb.heap.size,0,none⟩=some (.int .u8 (48 + (rb:Int)))) (fun _ _=>trivial) _ _ _ _ ?_
     replace hHeld:(wb.alloc (.cells #[.int .u8 (48 + (rb:Int))] 5)).cell? ⟨wb.heap.size,0,none⟩=some (.int .u8 (48 + (rb:Int))):=by rw [cell_alloc_at _ _ _ _ _ rfl];rfl
     refine tka 12 23 ?hy12d hHeld ?r12d (v:=?v12d)
     case hy12d=>intro wx hSw;have ec:=conv_one wx _ _ hSw;go_simp;with_reducible rfl
     simp only [Act.put,sx1,sx2,sx3]
     refine wpAnyH_ready (rs:=[5]) (by kernel_rfl) (by simp) ?_
     refine AllReadyH.cons rfl (fun KK hK=>?_) AllReadyH.nil
     go_simp
     have BL2:=hide (below_new (wb.alloc (.cells #[.int .u8 (48 + (rb:Int))] 5)) (.cells #[.int .u8 (97 + (ra:Int))] 5))
     refine hK.out _ _ (cell_below (uh BL2) hHeld) (fun hHeld=>?_)
     clear hK KK
     try simp only [Act.put,sx1,sx4,sx5,sx6,sx2,sx3]
     refine wpAnyH_more (S':=fun W=>W.cell? ⟨wb.heap.size,0,none⟩=some (.int .u8 (48 + (rb:Int)))∧W.cell? ⟨wb.heap.size + 1,0,none⟩=some (.int .u8 (97 + (ra:Int)))) (fun _ h=>h.1) _ _ _ _ ?_
     replace hHeld:((wb.alloc (.cells #[.int .u8 (48 + (rb:Int))] 5)).alloc (.cells #[.int .u8 (97 + (ra:Int))] 5)).cell? ⟨wb.heap.size,0,none⟩=some (.int .u8 (48 + (rb:Int)))∧((wb.alloc (.cells #[.int .u8 (48 + (rb:Int))] 5)).alloc (.cells #[.int .u8 (97 + (ra:Int))] 5)).cell? ⟨wb.heap.size + 1,0,none⟩=some (.int .u8 (97 + (ra:Int))):=⟨hHeld,by rw [cell_alloc_at _ _ _ _ _ (by simp)];rfl⟩
     refine tka 6 17 ?hy6d hHeld ?r6d (v:=?v6d)
     case hy6d=>intro wx hSw;have ec:=conv_one wx _ _ hSw.2;go_simp;with_reducible rfl
     simp only [Act.put,sx1,sx2,sx3]
     have HCW:=hide (((uh HCB).below ((uh BL1).mono (by omega))).below ((uh BL2).mono (by simp;omega)))
     have HBW:=hide ((uh HB2).trans ((Betw.of_below pc (pc + 1) (uh BL1)).trans (Betw.of_below pc (pc + 1) (uh BL2))))
     refine tka 13 24 ?hy13d hHeld ?r13d (v:=?v13d)
     case hy13d=>intro wx hSw;go_simp;with_reducible rfl
     simp only [Act.put,sx1,sx2,sx3]
     refine wpAnyH_ready (rs:=[14]) (by kernel_rfl) (by simp) ?_
     refine AllReadyH.cons rfl (fun KK hK=>?_) AllReadyH.nil
     go_simp
     have BL:=hide (below_new ((wb.alloc (.cells #[.int .u8 (48 + (rb:Int))] 5)).alloc (.cells #[.int .u8 (97 + (ra:Int))] 5)) (.cells #[.string (strOfNums [97 + (ra:Int)]),.string (strOfNums [48 + (rb:Int)])] 40))
     refine hK.out _ _ ⟨cell_below (uh BL) hHeld.1,cell_below (uh BL) hHeld.2⟩ (fun hHeld=>?_)
     clear hK KK
     try simp only [Act.put,sx1,sx4,sx5,sx6,sx2,sx3]
     refine wpAnyH_ready (rs:=[15]) (by kernel_rfl) (by simp) ?_
     refine AllReadyH.cons rfl (fun KK hK=>?_) AllReadyH.nil
     have HOW:=hide (owns_below (owns_betw (uh HO).1 (uh HBW) (by omega)) (uh BL))
     have hszW:wr.heap.size≤((wb.alloc (.cells #[.int .u8 (48 + (rb:Int))] 5)).alloc (.cells #[.int .u8 (97 + (ra:Int))] 5)).heap.size:=(uh HBW).size
     refine step_append_lies _ (by rfl) _ _ _ (by rfl) w.heap.size 40 i0 _ 2 32 Tryz.underlying36 (uh II).1 (uh II).2.1 (uh II).2.2.1 (uh II).2.2.2 rfl (by omega) (.slice oa ln oc) ln (varCells l) (by rfl) (by rw [uh HLN];exact uh HOW)
      ⟨wb.heap.size + 1 + 1,0,none⟩ 1 1 [.string (strOfNums [97 + (ra:Int)]),.string (strOfNums [48 + (rb:Int)])] (by rfl) (by rfl) (World.news_of_block (cs:=#[.string (strOfNums [97 + (ra:Int)]),.string (strOfNums [48 + (rb:Int)])]) (t:=40) (fr:=(0,0)) (by have:=heap_alloc_new ((wb.alloc (.cells #[.int .u8 (48 + (rb:Int))] 5)).alloc (.cells #[.int .u8 (97 + (ra:Int))] 5)) (.cells #[.string (strOfNums [97 + (ra:Int)]),.string (strOfNums [48 + (rb:Int)])] 40);simpa using this)) (by simp [Value.oneCell'])
      (by omega) (by unfold maxLen;omega) (by omega) (by simp;omega) (((wb.alloc (.cells #[.int .u8 (48 + (rb:Int))] 5)).alloc (.cells #[.int .u8 (97 + (ra:Int))] 5)).heap.size + 1) (by simp) ?_
     intro g cap' w7 hown1 hgrow _ _
     have HBG:Hid (Below w.heap.size ((wb.alloc (.cells #[.int .u8 (48 + (rb:Int))] 5)).alloc (.cells #[.int .u8 (97 + (ra:Int))] 5)) w7):=hide (Below.grown ((uh BL).mono (by omega)) hgrow (by simp;omega) (fun k hk=>((uh HO).1.lt k (by rw [← uh HLN];exact hk)).1))
     have HW:=hide hown1
     have hx1:=(hgrow.cell_far ⟨wb.heap.size,0,none⟩ (by simp<;>omega) (Ne.symm (uh NB (wb.heap.size) (by omega)))).trans hHeld.1
     have hx2:=(hgrow.cell_far ⟨wb.heap.size + 1,0,none⟩ (by simp<;>omega) (Ne.symm (uh NB (wb.heap.size + 1) (by omega)))).trans hHeld.2
     refine hK.out _ _ ⟨hx1,hx2⟩ (fun hHeld=>?_)
     clear hK KK
     try simp only [Act.put,sx1,sx4,sx5,sx6,sx2,sx3]
     refine tka 16 3 ?hy16d hHeld ?r16d (v:=?v16d)
     case hy16d=>intro wx hSw;go_simp;with_reducible rfl
     simp only [Act.put,sx1,sx2,sx3]
     refine wpAnyH_done (by kernel_rfl) ?_ _
     have HCG:=hide ((uh HCW).below ((uh HBG).mono hK))
     have HBB2:=hide (((uh HB1).trans (uh HBW)).onw (uh HBG))
     clear hown1 hgrow hx1 hx2 hHeld
     go_wp2
     go_roundw
     case rel =>
      refine ⟨l ++ [⟨strOfNums [97 + (ra:Int)],strOfNums [48 + (rb:Int)]⟩],cb,some ⟨g,0,none⟩,cap',m - 1,?_,?_,?_,⟨?_,?_⟩,?_,uh HCG,uh HBB2⟩
      ·rw [List.length_append,← uh HLN,List.length_singleton];omega
      ·congr 1;omega
      ·rw [List.length_append,← uh HLN,List.length_singleton]
      ·rw [List.length_append,← uh HLN,List.length_singleton,varCells_app];exact uh HW
      ·intro x hx
       rcases List.mem_append.1 hx with hx | hx
       ·exact (uh HO).2 x hx
       ·rw [List.mem_singleton.1 hx];exact ⟨strOfNums_size _,strOfNums_size _⟩
      ·rw [List.length_append,List.length_singleton,show 1 + 2 * (l.length + 1)=1 + 2 * l.length + 1 + 1 by omega];exact (uh HDD).next (uh HDB)
     case measure=>simp [intOf];omega
  ·have e:m=0:=by omega
   subst e
   go_wp2
   go_ret
   exact ⟨⟨_,l,c1,rfl,by rw [← uh HLN];omega,by rw [← uh HLN] at HO;exact uh HO,uh HD1,uh HC1⟩,uh HB1⟩
end Go.Proofs.YtmnmeaeicjhkhaaGreatDoor
namespace Go.Proofs.YtmnmeaeicjhkhaaGreatDoor
structure Mo where
 kind:Int
 task:Int
 fn:Int
 line:Int
 text:ByteArray
 vv:Value
 l:List V
def V.nul:V:=⟨ByteArray.empty,ByteArray.empty⟩
def Mo.m (x:Mo):M:=⟨x.kind,x.task,x.fn,x.line,x.text,x.l.length,fun i=>x.l.getD i V.nul⟩
def Mo.nul:Mo:=⟨0,0,0,0,ByteArray.empty,.slice none 0 0,[]⟩
def momOf (ms:List Mo) (i:Nat):M:=(ms.getD i Mo.nul).m
theorem after_congr {f g:Nat→M}:∀ k,(∀ i,i < k→f i=g i)→St.after f k=St.after g k
 | 0,_=>rfl
 | k + 1,h=>by
  have ih:=after_congr k (fun i hi=>h i (by omega))
  show (St.after f k).step _ _ _ _ _=(St.after g k).step _ _ _ _ _
  rw [ih,h k (by omega)]
theorem momOf_left (ms:List Mo) (m:Mo) (i:Nat) (hi:i < ms.length):momOf (ms ++ [m]) i=momOf ms i:=by
 unfold momOf
 rw [List.getD_eq_getElem?_getD,List.getD_eq_getElem?_getD,List.getElem?_append_left hi]
theorem momOf_last (ms:List Mo) (m:Mo):momOf (ms ++ [m]) ms.length=m.m:=by
 unfold momOf
 rw [List.getD_eq_getElem?_getD,List.getElem?_append_right (Nat.le_refl _),Nat.sub_self]
 rfl
def Path (ms:List Mo) (s:St):Prop:=St.after (momOf ms) ms.length=s∧∀ i,i < ms.length→MomentOk 4 (momOf ms i)∧codeAt (momOf ms) i=0
theorem Path.sound {ms:List Mo} {s:St} (h:Path ms s):St.after (momOf ms) ms.length=s∧∀ i,i < ms.length→MomentOk 4 (momOf ms i)∧codeAt (momOf ms) i=0:=h
theorem Path.nil:Path [] St.init:=⟨rfl,fun _ hi=>absurd hi (Nat.not_lt_zero _)⟩
theorem Path.snoc {ms:List Mo} {s:St} (m:Mo) (h:Path ms s) (hm:MomentOk 4 m.m) (hc:code s m.kind m.task m.fn=0):Path (ms ++ [m]) (s.step m.kind m.task m.fn m.line ms.length):=by
 obtain ⟨ih1,ih2⟩:=h
 have hcg:∀ k,k≤ms.length→St.after (momOf (ms ++ [m])) k=St.after (momOf ms) k:=fun k hk=>after_congr k (fun i hi=>momOf_left ms m i (by omega))
 refine ⟨?_,fun i hi=>?_⟩
 ·rw [List.length_append,List.length_singleton]
  show (St.after (momOf (ms ++ [m])) ms.length).step _ _ _ _ _=_
  rw [hcg _ (Nat.le_refl _),ih1,momOf_last]
  rfl
 ·rw [List.length_append,List.length_singleton] at hi
  by_cases e:i=ms.length
  ·subst e
   unfold codeAt
   rw [momOf_last,hcg _ (Nat.le_refl _),ih1]
   exact ⟨hm,hc⟩
  ·unfold codeAt
   rw [momOf_left ms m i (by omega),hcg i (by omega)]
   exact ih2 i (by omega)
structure Okay (s:St) (n:Nat):Prop where
 cur9:s.cur < 9
 deep:∀ t,(s.tasks t).length≤n + 1
 fns:∀ t (fr:Fr),fr ∈ s.tasks t→0≤fr.fn∧fr.fn < 4
theorem Okay.init:Okay St.init 0:=by
 refine ⟨by decide,fun t=>?_,fun t fr hf=>?_⟩
 ·simp only [St.init];split<;>simp
 ·simp only [St.init] at hf
  split at hf
  ·rw [List.mem_singleton.1 hf];decide
  ·cases hf
theorem Okay.topFn {s:St} {n:Nat} (h:Okay s n) (t:Nat):0≤topFn (s.tasks t)∧topFn (s.tasks t) < 4:=by
 cases e:s.tasks t with
 | nil=>exact ⟨Int.le_refl _,by decide⟩
 | cons f r=>exact h.fns t f (by rw [e];exact List.mem_cons_self ..)
def Good (s:St) (k t fn l:Int):Prop :=
 0≤l∧l≤4∧((k=7∧0≤t∧t < 9∧fn=0)∨(t=s.cur∧((k=2∧0≤fn∧fn < 4)∨(k=1∧fn=topFn (s.tasks s.cur)∧(s.tasks s.cur).length ≠ 0∧1≤l)∨(k=3∧fn=topFn (s.tasks s.cur)∧0≤topFrom (s.tasks s.cur))∨(4≤k∧k≤6∧fn=topFn (s.tasks s.cur)))))
theorem Good.ok {s:St} {n:Nat} {x:Mo} (h:Good s x.kind x.task x.fn x.line) (ho:Okay s n) (hn:n < 190) (ht:x.text.size≤1) (hl:x.l.length≤3) (hv:∀ v,v ∈ x.l→v.name.size=1∧v.text.size=1) :
  MomentOk 4 x.m∧code s x.kind x.task x.fn=0:=by
 have h9:=ho.cur9
 have hd:=ho.deep s.cur
 obtain ⟨f1,f2⟩:=ho.topFn s.cur
 obtain ⟨l1,l2,hk⟩:=h
 refine ⟨⟨?_,?_,fun i hi=>?_⟩,?_⟩
 ·show HeadOk 4 x.kind x.task x.fn x.line x.text.size
  unfold HeadOk
  rcases hk with ⟨a,b,c,d⟩ | ⟨a,⟨b,c,d⟩ | ⟨b,c,d,e⟩ | ⟨b,c,d⟩ | ⟨b,c,d⟩⟩
  all_goals omega
 ·show x.l.length≤200
  omega
 ·have hm:x.l.getD i V.nul ∈ x.l:=by
   have hi':i < x.l.length:=hi
   rw [List.getD_eq_getElem?_getD,List.getElem?_eq_getElem hi']
   exact List.getElem_mem hi'
  obtain ⟨e1,e2⟩:=hv _ hm
  show (x.l.getD i V.nul).name.size ≠ 0∧(x.l.getD i V.nul).name.size≤40∧(x.l.getD i V.nul).text.size≤4000
  omega
 ·unfold code
  rcases hk with ⟨a,b,c,d⟩ | ⟨a,⟨b,c,d⟩ | ⟨b,c,d,e⟩ | ⟨b,c,d⟩ | ⟨b,c,d⟩⟩
  ·rw [if_pos a]
  ·rw [if_neg (by omega),if_neg (by omega),if_pos b,if_neg (by omega)]
  ·rw [if_neg (by omega),if_neg (by omega),if_neg (by omega),if_neg (by omega),if_pos b,if_neg d]
  ·rw [if_neg (by omega),if_neg (by omega),if_neg (by omega),if_neg (by omega),if_neg (by omega),if_pos b,if_neg (by omega)]
  ·rw [if_neg (by omega),if_neg (by omega),if_neg (by omega),if_neg (by omega),if_neg (by omega),if_neg (by omega)]
theorem Okay.put {s:St} {n:Nat} (h:Okay s n) (l:List Fr) (h1:l.length≤n + 2) (h2:∀ fr,fr ∈ l→0≤fr.fn∧fr.fn < 4):Okay (s.put l) (n + 1):=by
 refine ⟨h.cur9,fun t=>?_,fun t fr hf=>?_⟩
 ·simp only [St.put]
  split
  ·omega
  ·have:=h.deep t;omega
 ·simp only [St.put] at hf
  split at hf
  ·exact h2 fr hf
  ·exact h.fns t fr hf
theorem Good.step {s:St} {n:Nat} {k t fn l:Int} (h:Good s k t fn l) (ho:Okay s n) (i:Int):Okay (s.step k t fn l i) (n + 1):=by
 obtain ⟨l1,l2,hk⟩:=h
 have hd:=ho.deep s.cur
 unfold St.step
 rcases hk with ⟨a,b,c,d⟩ | ⟨a,⟨b,c,d⟩ | ⟨b,c,d,e⟩ | ⟨b,c,d⟩ | ⟨b,c,d⟩⟩
 ·rw [if_pos a]
  exact ⟨by show t.toNat < 9;omega,fun t=>by have:=ho.deep t;show (s.tasks t).length≤_;omega,ho.fns⟩
 ·rw [if_neg (by omega),if_pos b]
  refine ho.put _ (by simp;omega) (fun fr hf=>?_)
  rcases List.mem_cons.1 hf with e | e
  ·rw [e];exact ⟨c,d⟩
  ·exact ho.fns _ _ e
 ·rw [if_neg (by omega),if_neg (by omega),if_pos b]
  cases e2:s.tasks s.cur with
  | nil=>exact absurd (by rw [e2];rfl) d
  | cons f r =>
   refine ho.put _ (by have:=hd;rw [e2] at this;simp [setLine] at this ⊢;omega) (fun fr hf=>?_)
   have hf':fr=⟨f.fn,l,f.frm⟩∨fr ∈ r:=by simpa [setLine] using hf
   rcases hf' with e | e
   ·rw [e];exact ho.fns s.cur f (by rw [e2];exact List.mem_cons_self ..)
   ·exact ho.fns s.cur fr (by rw [e2];exact List.mem_cons_of_mem _ e)
 ·rw [if_neg (by omega),if_neg (by omega),if_neg (by omega),if_pos b]
  refine ho.put _ (by simp;omega) (fun fr hf=>ho.fns s.cur fr (List.mem_of_mem_tail hf))
 ·rw [if_neg (by omega),if_neg (by omega),if_neg (by omega),if_neg (by omega)]
  exact ⟨ho.cur9,fun t=>by have:=ho.deep t;omega,ho.fns⟩
theorem itr_mod48 (t s:Nat):itr t (s % 281474976710656) % 281474976710656=itr t s % 281474976710656:=by
 induction t generalizing s with
 | zero=>simp [itr]
 | succ t ih =>
  simp only [itr]
  rw [← ih (lcg (s % 281474976710656)),← ih (lcg s)]
  have e:lcg (s % 281474976710656) % 281474976710656=lcg s % 281474976710656:=by
   unfold lcg
   rw [Nat.add_mod,Nat.mul_mod,Nat.mod_mod,← Nat.mul_mod,← Nat.add_mod]
  rw [e]
theorem window (j:Nat) (h1:1≤j) (h2:j≤12):itr j 10 % 281474976710656 / 1099511627776 % 14 ≠ 8∧itr j 10 % 281474976710656 / 1099511627776 % 14 ≠ 9:=by
 have:∀ j,j < 13→1≤j→itr j 10 % 281474976710656 / 1099511627776 % 14 ≠ 8∧itr j 10 % 281474976710656 / 1099511627776 % 14 ≠ 9:=by decide
 exact this j (by omega) h1
theorem far_draw (t d s z x:Nat) (ht:itr t s % 281474976710656=10) (hz:z % 18446744073709551616=itr d s % 18446744073709551616) (hx:x=z / 1099511627776 % 256) (hd:d≤12) (h8:x % 14=8∨x % 14=9):d≤t:=by
 refine Nat.le_of_not_lt (fun hlt=>?_)
 obtain ⟨j,rfl⟩:∃ j,d=t + j:=⟨d - t,by omega⟩
 have e1:itr (t + j) s % 281474976710656=itr j 10 % 281474976710656:=by
  rw [itr_add,← itr_mod48,ht]
 have e2:z % 281474976710656=itr j 10 % 281474976710656:=by
  rw [← e1];omega
 have hw:=window j (by omega) (by omega)
 rw [← e2] at hw
 have e3:z % 281474976710656 / 1099511627776=z / 1099511627776 % 256:=by omega
 rw [e3,← hx] at hw
 omega
theorem seed_ahead (s:Nat):∃ t,t < 281474976710656∧itr t s % 281474976710656=10:=by
 obtain ⟨t,h1,h2⟩:=itr_any 48 s 10
 exact ⟨t,by simpa using h1,by simpa using h2⟩
theorem seed_less (t d s z:Nat) (ht:itr t s % 281474976710656=10) (hz:z % 18446744073709551616=itr d s % 18446744073709551616) (hd:d≤t):itr (t - d) z % 281474976710656=10:=by
 rw [← itr_mod48,show z % 281474976710656=itr d s % 281474976710656 by omega,itr_mod48,← itr_add,show d + (t - d)=t by omega]
 exact ht
end Go.Proofs.YtmnmeaeicjhkhaaGreatDoor
namespace Go.Proofs.YtmnmeaeicjhkhaaGreatDoor
open Go.RowKit
def momCells (ms:List Mo):List Value:=ms.flatMap fun x=>[.int .i64 x.kind,.int .i64 x.task,.int .i64 x.fn,.int .i64 x.line,.string x.text,x.vv]
theorem momCells_app (a b:List Mo):momCells (a ++ b)=momCells a ++ momCells b:=List.flatMap_append ..
theorem momCells_get:∀ (l:List Mo) (i:Nat) (h:i < l.length),(momCells l)[i * 6]?=some (.int .i64 l[i].kind)∧(momCells l)[i * 6 + 1]?=some (.int .i64 l[i].task)∧(momCells l)[i * 6 + 2]?=some (.int .i64 l[i].fn) ∧
  (momCells l)[i * 6 + 3]?=some (.int .i64 l[i].line)∧(momCells l)[i * 6 + 4]?=some (.string l[i].text)∧(momCells l)[i * 6 + 5]?=some l[i].vv
 | x :: r,0,_=>⟨rfl,rfl,rfl,rfl,rfl,rfl⟩
 | x :: r,i + 1,h=>by
  have ih:=momCells_get r i (by simpa using h)
  have e:momCells (x :: r)=.int .i64 x.kind :: .int .i64 x.task :: .int .i64 x.fn :: .int .i64 x.line :: .string x.text :: x.vv :: momCells r:=rfl
  rw [e,show (i + 1) * 6=i * 6 + 1 + 1 + 1 + 1 + 1 + 1 by omega]
  simpa only [List.getElem?_cons_succ,sx5] using ih
theorem varCells_get:∀ (l:List V) (i:Nat) (h:i < l.length),(varCells l)[i * 2]?=some (.string l[i].name)∧(varCells l)[i * 2 + 1]?=some (.string l[i].text)
 | x :: r,0,_=>⟨rfl,rfl⟩
 | x :: r,i + 1,h=>by
  have ih:=varCells_get r i (by simpa using h)
  have e:varCells (x :: r)=.string x.name :: .string x.text :: varCells r:=rfl
  rw [e,show (i + 1) * 2=i * 2 + 1 + 1 by omega]
  simpa only [List.getElem?_cons_succ,sx5] using ih
theorem owns_at {w:World} {B:Nat} {e:TypeId} {z:Nat} {v:Value} {n:Nat} {xs:List Value} (h:w.ownsRow B e z v n xs) (hn:n ≠ 0):∃ g cap,v=.slice (some ⟨g,0,none⟩) n cap∧B≤g:=by
 rcases h.2 with ⟨_,h0⟩ | ⟨g,cap,cur,hv,hB,_⟩
 ·exact absurd h0 hn
 ·exact ⟨g,cap,hv,hB⟩
theorem getD_at {α:Type} (l:List α) (i:Nat) (d:α) (h:i < l.length):l.getD i d=l[i]:=by
 rw [List.getD_eq_getElem?_getD,List.getElem?_eq_getElem h];rfl
theorem OwnV.varsAt {B:Nat} {w:World} {v:Value} {l:List V} (h:OwnV B w v l) (hl:l.length≤3):VarsAt B w v l.length (fun i=>l.getD i V.nul):=by
 obtain ⟨a,cap,rfl⟩:=owns_slice h.1
 refine ⟨a,cap,rfl,by unfold maxLen;omega,fun i hi=>?_⟩
 obtain ⟨g,cap',e,hB⟩:=owns_at h.1 (by omega)
 cases e
 obtain ⟨e0,e1⟩:=varCells_get l i hi
 obtain ⟨c0,f0⟩:=owns_cell h.1 _ _ e0
 obtain ⟨c1,f1⟩:=owns_cell h.1 _ _ e1
 obtain ⟨z0,z1⟩:=h.2 l[i] (List.getElem_mem hi)
 refine ⟨g,0,rfl,?_,?_,?_,?_,⟨hB,fun _=>?_⟩,⟨hB,fun _=>?_⟩⟩
 ·dsimp only;rw [Nat.zero_add,getD_at _ _ _ hi];exact c0
 ·dsimp only;rw [Nat.zero_add,getD_at _ _ _ hi];exact c1
 ·dsimp only;rw [getD_at _ _ _ hi,z0];unfold maxLen;omega
 ·dsimp only;rw [getD_at _ _ _ hi,z1];unfold maxLen;omega
 ·rw [Nat.zero_add];exact f0
 ·rw [Nat.zero_add];exact f1
structure OwnM (B:Nat) (w:World) (v:Value) (ms:List Mo):Prop where
 row:w.ownsRow B 108 6 v ms.length (momCells ms)
 vars:∀ x,x ∈ ms→OwnV B w x.vv x.l∧x.l.length≤3∧x.text.size≤1
theorem OwnM.momsAt {B:Nat} {w:World} {v:Value} {ms:List Mo} (h:OwnM B w v ms) (hl:ms.length≤100):MomsAt B w v ms.length (momOf ms):=by
 obtain ⟨a,cap,rfl⟩:=owns_slice h.row
 refine ⟨a,cap,rfl,by unfold maxLen;omega,fun i hi=>?_⟩
 obtain ⟨g,cap',e,hB⟩:=owns_at h.row (by omega)
 cases e
 obtain ⟨e0,e1,e2,e3,e4,e5⟩:=momCells_get ms i hi
 obtain ⟨c0,f0⟩:=owns_cell h.row _ _ e0
 obtain ⟨c1,f1⟩:=owns_cell h.row _ _ e1
 obtain ⟨c2,f2⟩:=owns_cell h.row _ _ e2
 obtain ⟨c3,f3⟩:=owns_cell h.row _ _ e3
 obtain ⟨c4,f4⟩:=owns_cell h.row _ _ e4
 obtain ⟨c5,f5⟩:=owns_cell h.row _ _ e5
 obtain ⟨hv,hv3,htx⟩:=h.vars ms[i] (List.getElem_mem hi)
 have em:momOf ms i=ms[i].m:=by unfold momOf;rw [getD_at _ _ _ hi]
 rw [em]
 refine ⟨g,0,ms[i].vv,rfl,?_,?_,?_,?_,?_,?_,?_,hv.varsAt hv3,fun j hj=>⟨hB,fun _=>?_⟩⟩
 ·rw [Nat.zero_add];exact c0
 ·rw [Nat.zero_add];exact c1
 ·rw [Nat.zero_add];exact c2
 ·rw [Nat.zero_add];exact c3
 ·rw [Nat.zero_add];exact c4
 ·rw [Nat.zero_add];exact c5
 ·show ms[i].text.size≤maxLen
  unfold maxLen;omega
 ·rw [Nat.zero_add]
  rcases (show j=0∨j=1∨j=2∨j=3∨j=4∨j=5 by omega) with rfl | rfl | rfl | rfl | rfl | rfl
  ·exact f0
  ·exact f1
  ·exact f2
  ·exact f3
  ·exact f4
  ·exact f5
theorem owns_keeps {w w':World} {B ps:Nat} {e:TypeId} {z:Nat} {v:Value} {n:Nat} {xs:List Value} (h:w.ownsRow B e z v n xs) (hk:Keeps ps w w') (hp:ps < B) (h1:e ≠ 42) (h2:e ≠ 35):w'.ownsRow B e z v n xs:=by
 refine ⟨h.1,?_⟩
 rcases h.2 with hn | ⟨g,cap,cur,hv,hB,hg,rest⟩
 ·exact .inl hn
 ·exact .inr ⟨g,cap,cur,hv,hB,by rw [hk g cur e _ hg (by omega) h1 h2];exact hg,rest⟩
theorem OwnV.keeps {B ps:Nat} {w w':World} {v:Value} {l:List V} (h:OwnV B w v l) (hk:Keeps ps w w') (hp:ps < B):OwnV B w' v l:=⟨owns_keeps h.1 hk hp (by decide) (by decide),h.2⟩
theorem OwnM.keeps {B ps:Nat} {w w':World} {v:Value} {ms:List Mo} (h:OwnM B w v ms) (hk:Keeps ps w w') (hp:ps < B):OwnM B w' v ms :=
 ⟨owns_keeps h.row hk hp (by decide) (by decide),fun x hx=>⟨(h.vars x hx).1.keeps hk hp,(h.vars x hx).2⟩⟩
theorem OwnV.betw {lo hi B:Nat} {w w':World} {v:Value} {l:List V} (h:OwnV B w v l) (hb:Betw lo hi w w') (hB:hi≤B):OwnV B w' v l:=⟨owns_betw h.1 hb hB,h.2⟩
theorem OwnM.betw {lo hi B:Nat} {w w':World} {v:Value} {ms:List Mo} (h:OwnM B w v ms) (hb:Betw lo hi w w') (hB:hi≤B):OwnM B w' v ms :=
 ⟨owns_betw h.row hb hB,fun x hx=>⟨(h.vars x hx).1.betw hb hB,(h.vars x hx).2⟩⟩
end Go.Proofs.YtmnmeaeicjhkhaaGreatDoor
namespace Go.Proofs.YtmnmeaeicjhkhaaGreatDoor
open Go.RowKit
theorem SpecCore.blocks {B:Nat} {w w':World} {ps bt:Nat} {V:Nat→Value} {s:St} (h:SpecCore B w ps bt V s) (hb:∀ b,B≤b→b < w.heap.size→w'.heap[b]?=w.heap[b]?):SpecCore B w' ps bt V s:=by
 have hps:w'.heap[ps]?=w.heap[ps]?:=hb ps h.hp (cell_lt h.c0)
 have hbt:w'.heap[bt]?=w.heap[bt]?:=hb bt h.hbt h.row.lt
 refine ⟨h.hp,h.hbt,h.ne,?_,?_,?_,h.row.of_block hbt,fun t ht=>?_,h.nps,h.nbt,h.dis,h.cur,h.len⟩
 ·rw [World.cell?_of_block hps];exact h.c0
 ·rw [World.cell?_of_block hps];exact h.c1
 ·rw [World.frozen?_of_block hps];exact h.fz
 ·obtain ⟨h1,h2⟩:=h.own t ht
  refine ⟨h1,?_⟩
  rcases h2 with h2 | ⟨g,cap,cur,hv,hg,hh,r⟩
  ·exact .inl h2
  ·exact .inr ⟨g,cap,cur,hv,hg,by rw [hb g hg (Array.getElem?_eq_some_iff.1 hh).1];exact hh,r⟩
theorem SpecAt.blocks {B:Nat} {w w':World} {ps:Nat} {s:St} (h:SpecAt B w ps s) (hb:∀ b,B≤b→b < w.heap.size→w'.heap[b]?=w.heap[b]?):SpecAt B w' ps s:=by
 obtain ⟨bt,V,h⟩:=h
 exact ⟨bt,V,h.blocks hb⟩
def drawnFns (i:Nat):ByteArray:=([⟨#[109,97,105,110]⟩,⟨#[102]⟩,⟨#[]⟩,⟨#[103]⟩]:List ByteArray).getD i ByteArray.empty
def fnCells:Array Value:=#[.string ⟨#[109,97,105,110]⟩,.string ⟨#[102]⟩,.string ⟨#[]⟩,.string ⟨#[103]⟩]
structure TrMem (w0:World) (K pc len N B2 ps:Nat) (wr:World) (c:Cu) (s:St) (ms:List Mo) (wv mv:Value) (ws:List Int):Prop where
 cur:Cur K wr pc len c
 kn:K≤N
 w0N:w0.heap.size=N
 spec:SpecAt (N + 3) wr ps s
 psB:ps < B2
 nb:N + 3≤B2
 bB:B2≤wr.heap.size
 rbx:wr.heap[N]?=some (.cells #[.slice none 0 0,.slice none 0 0] 26 (0,0))
 fnx:wr.heap[N + 1]?=some (.cells fnCells 9 (0,0))
 tbx:wr.heap[N + 2]?=some (.cells #[.slice (some ⟨N + 1,0,none⟩) 4 4,mv] 26 (0,0))
 mom:OwnM B2 wr mv ms
 wai:wr.ownsRow B2 3 1 wv ws.length (ws.map (Value.int .i64))
 betw:Betw pc (pc + 1) w0 wr
theorem heap_lt {w:World} {b:Nat} {o:Obj} (h:w.heap[b]?=some o):b < w.heap.size:=(Array.getElem?_eq_some_iff.1 h).1
theorem TrMem.draw {w0:World} {K pc len N B2 ps:Nat} {wr w':World} {c c':Cu} {s:St} {ms:List Mo} {wv mv:Value} {ws:List Int} (h:TrMem w0 K pc len N B2 ps wr c s ms wv mv ws) (hb:Betw pc (pc + 1) wr w') (hc:Cur K w' pc len c') :
  TrMem w0 K pc len N B2 ps w' c' s ms wv mv ws:=by
 have hp:pc < N:=Nat.lt_of_lt_of_le h.cur.hk h.kn
 have hn:=h.nb
 have hx:∀ b,N≤b→b < wr.heap.size→w'.heap[b]?=wr.heap[b]?:=fun b h1 h2=>hb.block b h2 (.inr (by omega))
 exact ⟨hc,h.kn,h.w0N,h.spec.blocks (fun b h1 h2=>hx b (by omega) h2),h.psB,h.nb,Nat.le_trans h.bB hb.size,by rw [hx _ (by omega) (heap_lt h.rbx)];exact h.rbx,by rw [hx _ (by omega) (heap_lt h.fnx)];exact h.fnx,by rw [hx _ (by omega) (heap_lt h.tbx)];exact h.tbx,
  h.mom.betw hb (by omega),owns_betw h.wai hb (by omega),h.betw.trans hb⟩
theorem TrMem.below {w0:World} {K pc len N B2 ps:Nat} {wr w':World} {c:Cu} {s:St} {ms:List Mo} {wv mv:Value} {ws:List Int} (h:TrMem w0 K pc len N B2 ps wr c s ms wv mv ws) (hb:Below wr.heap.size wr w') :
  TrMem w0 K pc len N B2 ps w' c s ms wv mv ws:=by
 have hK:K≤wr.heap.size:=by
  have:=heap_lt h.rbx
  have:=h.kn
  omega
 exact h.draw (Betw.of_below _ _ hb) (h.cur.below (hb.mono hK))
theorem TrMem.move {w0:World} {K pc len N B2 ps:Nat} {wr w':World} {c:Cu} {s s':St} {ms:List Mo} {wv mv:Value} {ws:List Int} (h:TrMem w0 K pc len N B2 ps wr c s ms wv mv ws) (hs:SpecAt (N + 3) w' ps s') (hb:Below (N + 3) wr w') (hk:Keeps ps wr w') :
  TrMem w0 K pc len N B2 ps w' c s' ms wv mv ws:=by
 have hn:=h.kn
 have hw:=h.w0N
 exact ⟨h.cur.below (hb.mono (by omega)),h.kn,h.w0N,hs,h.psB,h.nb,Nat.le_trans h.bB hb.size,by rw [hb.block _ (by omega)];exact h.rbx,by rw [hb.block _ (by omega)];exact h.fnx,by rw [hb.block _ (by omega)];exact h.tbx,
  h.mom.keeps hk h.psB,owns_keeps h.wai hk h.psB (by decide) (by decide),h.betw.onw (hb.mono (by omega))⟩
theorem owns_apart {w w':World} {B:Nat} {e e0:TypeId} {z:Nat} {v:Value} {n:Nat} {xs:List Value} {row:Option Nat} (h:w.ownsRow B e z v n xs) (hg:w.grownBy w' row) (hr:∀ g,row=some g→∃ cs fr,w.heap[g]?=some (.cells cs e0 fr)) (hne:e ≠ e0):w'.ownsRow B e z v n xs:=by
 refine ⟨h.1,?_⟩
 rcases h.2 with hn | ⟨g,cap,cur,hv,hB,hh,rest⟩
 ·exact .inl hn
 ·refine .inr ⟨g,cap,cur,hv,hB,?_,rest⟩
  rw [hg.block g (heap_lt hh) (fun er=>?_)]
  ·exact hh
  ·obtain ⟨cs,fr,e1⟩:=hr g er.symm
   rw [hh] at e1
   cases e1
   exact hne rfl
theorem owns_kind {w:World} {B:Nat} {e:TypeId} {z:Nat} {v:Value} {n:Nat} {xs:List Value} (h:w.ownsRow B e z v n xs):∀ g,v.ownBlock=some g→B≤g∧∃ cs fr,w.heap[g]?=some (.cells cs e fr):=by
 intro g hg
 rcases h.2 with ⟨e1,_⟩ | ⟨g',cap,cur,e1,hB,hh,_⟩
 ·rw [e1] at hg;cases hg
 ·rw [e1] at hg;cases hg;exact ⟨hB,cur,_,hh⟩
theorem SpecAt.apart {B B2:Nat} {w w':World} {ps:Nat} {s:St} {e0:TypeId} {row:Option Nat} (h:SpecAt B w ps s) (hp:ps < B2) (hg:w.grownBy w' row) (hr:∀ g,row=some g→B2≤g∧∃ cs fr,w.heap[g]?=some (.cells cs e0 fr)) (h1:e0 ≠ 42) (h2:e0 ≠ 35):SpecAt B w' ps s:=by
 obtain ⟨bt,V,h⟩:=h
 have hps:w'.heap[ps]?=w.heap[ps]?:=hg.block ps (cell_lt h.c0) (fun e=>by have:=(hr ps e.symm).1;omega)
 obtain ⟨cb,hcb,hsz,hfn⟩:=h.row
 have hbt:w'.heap[bt]?=w.heap[bt]?:=hg.block bt (heap_lt hcb) (fun e=>by
  obtain ⟨cs,fr,e1⟩:=(hr bt e.symm).2
  rw [hcb] at e1;cases e1;exact h2 rfl)
 refine ⟨bt,V,h.hp,h.hbt,h.ne,?_,?_,?_,h.row.of_block hbt,fun t ht=>owns_apart (h.own t ht) hg (fun g e=>(hr g e).2) (Ne.symm h1),h.nps,h.nbt,h.dis,h.cur,h.len⟩
 ·rw [World.cell?_of_block hps];exact h.c0
 ·rw [World.cell?_of_block hps];exact h.c1
 ·rw [World.frozen?_of_block hps];exact h.fz
theorem TrMem.waits {w0:World} {K pc len N B2 ps:Nat} {wr w':World} {c:Cu} {s:St} {ms:List Mo} {wv mv wv':Value} {ws ws':List Int} (h:TrMem w0 K pc len N B2 ps wr c s ms wv mv ws) (hg:wr.grownBy w' wv.ownBlock) (ho:w'.ownsRow B2 3 1 wv' ws'.length (ws'.map (Value.int .i64))) :
  TrMem w0 K pc len N B2 ps w' c s ms wv' mv ws':=by
 have hn:=h.nb
 have hk:=h.kn
 have hw:=h.w0N
 have hB:=h.bB
 have hr:=owns_kind h.wai
 have hb:Below B2 wr w':=Below.grown (Below.refl _ _) hg h.bB (fun k e=>(hr k e).1)
 refine ⟨h.cur.below (hb.mono (by omega)),h.kn,h.w0N,h.spec.apart h.psB hg hr (by decide) (by decide),h.psB,h.nb,Nat.le_trans h.bB hg.size,by rw [hb.block _ (by omega)];exact h.rbx,by rw [hb.block _ (by omega)];exact h.fnx,by rw [hb.block _ (by omega)];exact h.tbx,⟨?_,fun x hx=>⟨⟨?_,(h.mom.vars x hx).1.2⟩,(h.mom.vars x hx).2⟩⟩,ho,h.betw.onw (hb.mono (by omega))⟩
 ·exact owns_apart h.mom.row hg (fun g e=>(hr g e).2) (by decide)
 ·exact owns_apart (h.mom.vars x hx).1.1 hg (fun g e=>(hr g e).2) (by decide)
theorem setCells_two (a b u:Value) (t:TypeId) (w:World) (g:Nat) (h:w.heap[g]?=some (.cells #[a,b] t (0,0))):(w.setCell ⟨g,1,none⟩ u).heap[g]?=some (.cells #[a,u] t (0,0)):=by
 simp [World.setCell,Array.getElem?_modify,h]
theorem TrMem.moms {w0:World} {K pc len N B2 ps:Nat} {wr w':World} {c:Cu} {s:St} {ms:List Mo} {wv mv mv':Value} {ws:List Int} (x:Mo) (h:TrMem w0 K pc len N B2 ps wr c s ms wv mv ws) (hg:wr.grownBy w' mv.ownBlock) (ho:w'.ownsRow B2 108 6 mv' (ms ++ [x]).length (momCells (ms ++ [x])))
  (hv:OwnV B2 wr x.vv x.l) (hl:x.l.length≤3) (ht:x.text.size≤1):TrMem w0 K pc len N B2 ps (w'.setCell ⟨N + 2,1,none⟩ mv') c s (ms ++ [x]) wv mv' ws:=by
 have hn:=h.nb
 have hk:=h.kn
 have hw:=h.w0N
 have hB:=h.bB
 have hr:=owns_kind h.mom.row
 have hb:Below B2 wr w':=Below.grown (Below.refl _ _) hg h.bB (fun k e=>(hr k e).1)
 have hb2:Below (N + 2) wr (w'.setCell ⟨N + 2,1,none⟩ mv'):=(hb.mono (B':=N + 2) (by omega)).setCell (p:=⟨N + 2,1,none⟩) (Nat.le_refl _) _
 have hs:∀ b,b ≠ N + 2→(w'.setCell ⟨N + 2,1,none⟩ mv').heap[b]?=w'.heap[b]?:=fun b e=>Below.heap_setCell _ _ _ _ e
 have hx:∀ {B:Nat} {e:TypeId} {z:Nat} {v:Value} {n:Nat} {xs:List Value},w'.ownsRow B e z v n xs→N + 3≤B→(w'.setCell ⟨N + 2,1,none⟩ mv').ownsRow B e z v n xs:=by
  intro B e z v n xs h1 h2
  refine ⟨h1.1,?_⟩
  rcases h1.2 with hn | ⟨g,cap,cur,hv,hB,hh,rest⟩
  ·exact .inl hn
  ·exact .inr ⟨g,cap,cur,hv,hB,by rw [hs g (by omega)];exact hh,rest⟩
 refine ⟨h.cur.below (hb2.mono (by omega)),h.kn,h.w0N,(h.spec.apart h.psB hg hr (by decide) (by decide)).blocks (fun b h1 _=>hs b (by omega)),h.psB,h.nb,Nat.le_trans h.bB hb2.size,?_,?_,?_,⟨hx ho h.nb,fun y hy=>?_⟩,?_,h.betw.onw (hb2.mono (by omega))⟩
 ·rw [hs _ (by omega),hb.block _ (by omega)];exact h.rbx
 ·rw [hs _ (by omega),hb.block _ (by omega)];exact h.fnx
 ·exact setCells_two _ _ _ _ _ _ (by rw [hb.block _ (by omega)];exact h.tbx)
 ·rcases List.mem_append.1 hy with hy | hy
  ·exact ⟨⟨hx (owns_apart (h.mom.vars y hy).1.1 hg (fun g e=>(hr g e).2) (by decide)) h.nb,(h.mom.vars y hy).1.2⟩,(h.mom.vars y hy).2⟩
  ·rw [List.mem_singleton.1 hy]
   exact ⟨⟨hx (owns_apart hv.1 hg (fun g e=>(hr g e).2) (by decide)) h.nb,hv.2⟩,hl,ht⟩
 ·exact hx (owns_apart h.wai hg (fun g e=>(hr g e).2) (by decide)) h.nb
end Go.Proofs.YtmnmeaeicjhkhaaGreatDoor
namespace Go.Proofs.YtmnmeaeicjhkhaaGreatDoor
open Go.RowKit
theorem TrMem.c1 {w0:World} {K pc len N B2 ps:Nat} {wr:World} {c:Cu} {s:St} {ms:List Mo} {wv mv:Value} {ws:List Int} (h:TrMem w0 K pc len N B2 ps wr c s ms wv mv ws):wr.cell? ⟨ps,1,none⟩=some (.int .i64 s.cur):=by
 obtain ⟨bt,V,hh⟩:=h.spec
 exact hh.c1
theorem TrMem.t1 {w0:World} {K pc len N B2 ps:Nat} {wr:World} {c:Cu} {s:St} {ms:List Mo} {wv mv:Value} {ws:List Int} (h:TrMem w0 K pc len N B2 ps wr c s ms wv mv ws):wr.cell? ⟨N + 2,1,none⟩=some mv:=by
 rw [cell_of_row wr (N + 2) 1 _ _ _ h.tbx];rfl
structure TrRel (w0:World) (K pc len N B2 ps n:Nat) (g:Nat) (wr:World) (c:Cu) (s:St) (ms:List Mo) (wv mv:Value) (ws:List Int) (nt t:Nat):Prop where
 mem:TrMem w0 K pc len N B2 ps wr c s ms wv mv ws
 path:Path ms s
 okay:Okay s ms.length
 w9:∀ x,x ∈ ws→0≤x∧x < 9
 n1:ws.length < nt
 n9:nt≤9
 msn:ms.length≤n
 t48:t < 281474976710656
 tt:len≤c.at_→itr t c.seed % 281474976710656=10
 att:c.at_ + t≤len + 12 + (ms.length + 1) * 281474976710680
 gg:g=(n - ms.length) * 1180591620717411303424 + (len - c.at_) * 562949953421312 + t
theorem TrMem.start {K pc len ps:Nat} {c:Cu} {w w1:World} (h:Cur K w pc len c) (hK:K≤w.heap.size)
  (hs:SpecAt (w.heap.size + 3) w1 ps St.init)
  (hb:Below (w.heap.size + 3) (((w.alloc (.cells #[.slice none 0 0,.slice none 0 0] 26)).alloc (.cells fnCells 9)).alloc (.cells #[.slice (some ⟨w.heap.size + 1,0,none⟩) 4 4,.slice none 0 0] 26)) w1) :
  TrMem w K pc len w.heap.size w1.heap.size ps (w1.alloc (.cells #[] 3)) c St.init [] (.slice (some ⟨w1.heap.size,0,none⟩) 0 0) (.slice none 0 0) []:=by
 have b3:Below w.heap.size w (((w.alloc (.cells #[.slice none 0 0,.slice none 0 0] 26)).alloc (.cells fnCells 9)).alloc (.cells #[.slice (some ⟨w.heap.size + 1,0,none⟩) 4 4,.slice none 0 0] 26)) :=
  (((Below.refl _ _).alloc (Nat.le_refl _) _).alloc (by simp) _).alloc (by simp;omega) _
 have b1:Below w.heap.size w w1:=b3.trans (hb.mono (by omega))
 have sz:w.heap.size + 3≤w1.heap.size:=by have:=hb.size;simpa using this
 have bl:=below_new w1 (.cells #[] 3)
 have b2:Below w.heap.size w (w1.alloc (.cells #[] 3)):=b1.trans (bl.mono (by omega))
 have hp:ps < w1.heap.size:=by obtain ⟨bt,V,hh⟩:=hs;exact cell_lt hh.c0
 have e0:∀ b,b < w.heap.size + 3→(w1.alloc (.cells #[] 3)).heap[b]?=(((w.alloc (.cells #[.slice none 0 0,.slice none 0 0] 26)).alloc (.cells fnCells 9)).alloc (.cells #[.slice (some ⟨w.heap.size + 1,0,none⟩) 4 4,.slice none 0 0] 26)).heap[b]?:=fun b hb'=>by
  rw [bl.block b (by omega),hb.block b hb']
 refine ⟨h.below (b2.mono hK),hK,rfl,hs.below bl,hp,sz,by simp,?_,?_,?_,⟨World.ownsRow_nil _ _ _ _,fun x hx=>by cases hx⟩,⟨rfl,.inr ⟨w1.heap.size,0,#[],rfl,Nat.le_refl _,?_,Nat.le_refl _,by unfold maxLen;omega,rfl,rfl⟩⟩,Betw.of_below _ _ b2⟩
 ·rw [e0 _ (by omega),Below.heap_alloc _ _ _ (by simp<;>omega),Below.heap_alloc _ _ _ (by simp<;>omega)]
  exact heap_alloc_new w _
 ·rw [e0 _ (by omega),Below.heap_alloc _ _ _ (by simp<;>omega)]
  have:=heap_alloc_new (w.alloc (.cells #[.slice none 0 0,.slice none 0 0] 26)) (.cells fnCells 9)
  simpa using this
 ·rw [e0 _ (by omega)]
  have:=heap_alloc_new ((w.alloc (.cells #[.slice none 0 0,.slice none 0 0] 26)).alloc (.cells fnCells 9)) (.cells #[.slice (some ⟨w.heap.size + 1,0,none⟩) 4 4,.slice none 0 0] 26)
  simpa using this
 ·exact heap_alloc_new w1 _
theorem TrRel.again {w0:World} {K pc len N B2 ps n g:Nat} {wr w':World} {c c':Cu} {s:St} {ms:List Mo} {wv mv:Value} {ws:List Int} {nt t d x:Nat} (h:TrRel w0 K pc len N B2 ps n g wr c s ms wv mv ws nt t) (hm:TrMem w0 K pc len N B2 ps w' c' s ms wv mv ws)
  (h1:1≤d) (h9:d≤9) (hd:Draws len d c c') (hx:len≤c.at_→x=c'.seed / 1099511627776 % 256) (h8:x % 14=8∨x % 14=9):∃ g' t',g' < g∧TrRel w0 K pc len N B2 ps n g' w' c' s ms wv mv ws nt t':=by
 have ha:=hd.at1
 have ht:=h.t48
 have hatt:=h.att
 have hgg:=h.gg
 by_cases hl:len≤c.at_
 ·have hz:=hd.far hl
  have hle:=far_draw t d c.seed c'.seed x (h.tt hl) hz (hx hl) (by omega) h8
  refine ⟨_,t - d,?_,hm,h.path,h.okay,h.w9,h.n1,h.n9,h.msn,by omega,fun _=>seed_less t d c.seed c'.seed (h.tt hl) hz hle,by omega,rfl⟩
  rw [hgg];omega
 ·obtain ⟨t',ht',e'⟩:=seed_ahead c'.seed
  refine ⟨_,t',?_,hm,h.path,h.okay,h.w9,h.n1,h.n9,h.msn,ht',fun _=>e',by omega,rfl⟩
  rw [hgg];omega
theorem TrRel.next {w0:World} {K pc len N B2 ps n g:Nat} {wr w':World} {c c':Cu} {s s':St} {ms:List Mo} {x:Mo} {wv mv wv' mv':Value} {ws ws':List Int} {nt nt' t:Nat} (h:TrRel w0 K pc len N B2 ps n g wr c s ms wv mv ws nt t) (hm:TrMem w0 K pc len N B2 ps w' c' s' (ms ++ [x]) wv' mv' ws')
  (hl:ms.length < n) (hp:Path (ms ++ [x]) s') (ho:Okay s' (ms.length + 1)) (h9:∀ x,x ∈ ws'→0≤x∧x < 9) (n1:ws'.length < nt') (n9:nt'≤9) (hc1:c.at_≤c'.at_) (hc2:c'.at_≤c.at_ + 12):∃ g' t',g' < g∧TrRel w0 K pc len N B2 ps n g' w' c' s' (ms ++ [x]) wv' mv' ws' nt' t':=by
 have hatt:=h.att
 have hgg:=h.gg
 have el:(ms ++ [x]).length=ms.length + 1:=by simp
 obtain ⟨t',ht',e'⟩:=seed_ahead c'.seed
 refine ⟨_,t',?_,hm,hp,by rw [el];exact ho,h9,n1,n9,by rw [el];omega,ht',fun _=>e',by rw [el];omega,rfl⟩
 rw [hgg,el];omega
theorem drawn_sizes {n:Nat} (hn:n < 90):SizesOk 4 drawnFns n:=by
 refine ⟨by decide,by decide,by omega,fun i hi=>?_⟩
 rcases (show i=0∨i=1∨i=2∨i=3 by omega) with rfl | rfl | rfl | rfl
 all_goals decide
theorem TrRel.drawn {w0:World} {K pc len N B2 ps n g:Nat} {wr:World} {c:Cu} {s:St} {ms:List Mo} {wv mv:Value} {ws:List Int} {nt t:Nat} (h:TrRel w0 K pc len N B2 ps n g wr c s ms wv mv ws nt t) (hl:ms.length=n) (hn:n < 90) :
  StrsAt (N + 1) wr (.slice (some ⟨N + 1,0,none⟩) 4 4) 4 drawnFns∧MomsAt (N + 1) wr mv n (momOf ms)∧Sound 4 drawnFns n (momOf ms):=by
 have hb:=h.mem.nb
 obtain ⟨_,hs⟩:=h.path.sound
 refine ⟨⟨some ⟨N + 1,0,none⟩,4,rfl,by unfold maxLen;omega,fun i hi=>⟨N + 1,0,rfl,?_,?_,Nat.le_refl _,fun _=>?_⟩⟩,?_,drawn_sizes hn,fun j hj=>(hs j (by omega)).1,fun j hj=>(hs j (by omega)).2⟩
 ·rw [Nat.zero_add,cell_of_row wr (N + 1) i _ _ _ h.mem.fnx]
  rcases (show i=0∨i=1∨i=2∨i=3 by omega) with rfl | rfl | rfl | rfl
  all_goals rfl
 ·have:=(drawn_sizes hn).2.2.2 i hi
  unfold maxLen;omega
 ·rw [Nat.zero_add]
  simp [World.frozen?,h.mem.fnx]
 ·have:=h.mem.mom.momsAt (by omega)
  rw [hl] at this
  exact this.low (by omega)
end Go.Proofs.YtmnmeaeicjhkhaaGreatDoor
namespace Go.Proofs.YtmnmeaeicjhkhaaGreatDoor
open Go.RowKit
theorem SpecAt.but {B mb:Nat} {w w':World} {ps:Nat} {s:St} {cs:Array Value} {e0:TypeId} {fr:Nat × Nat} (h:SpecAt B w ps s) (hb:∀ b,b ≠ mb→w'.heap[b]?=w.heap[b]?) (hp:ps ≠ mb) (hm:w.heap[mb]?=some (.cells cs e0 fr)) (h1:e0 ≠ 42) (h2:e0 ≠ 35):SpecAt B w' ps s:=by
 obtain ⟨bt,V,h⟩:=h
 have hps:w'.heap[ps]?=w.heap[ps]?:=hb ps hp
 obtain ⟨cb,hcb,hsz,hfn⟩:=h.row
 have hbt:w'.heap[bt]?=w.heap[bt]?:=hb bt (fun e=>by
  rw [e,hm] at hcb;cases hcb;exact h2 rfl)
 refine ⟨bt,V,h.hp,h.hbt,h.ne,?_,?_,?_,h.row.of_block hbt,fun t ht=>?_,h.nps,h.nbt,h.dis,h.cur,h.len⟩
 ·rw [World.cell?_of_block hps];exact h.c0
 ·rw [World.cell?_of_block hps];exact h.c1
 ·rw [World.frozen?_of_block hps];exact h.fz
 ·obtain ⟨g1,g2⟩:=h.own t ht
  refine ⟨g1,?_⟩
  rcases g2 with g2 | ⟨g,cap,cur,hv,hg,hh,r⟩
  ·exact .inl g2
  ·exact .inr ⟨g,cap,cur,hv,hg,by rw [hb g (fun e=>by rw [e,hm] at hh;cases hh;exact h1 rfl)];exact hh,r⟩
theorem owns_but {w:World} {B mb i:Nat} {e e0:TypeId} {z:Nat} {v u:Value} {n:Nat} {xs:List Value} {cs:Array Value} {fr:Nat × Nat} (h:w.ownsRow B e z v n xs) (hm:w.heap[mb]?=some (.cells cs e0 fr)) (hne:e ≠ e0):(w.setCell ⟨mb,i,none⟩ u).ownsRow B e z v n xs:=by
 refine owns_setCell h (fun e1=>?_)
 obtain ⟨_,cs',fr',h1⟩:=owns_kind h mb e1
 rw [hm] at h1;cases h1;exact hne rfl
structure Bx (B2 mb:Nat) (W:World) (mv vv:Value) (l:List V) (k t fn ln:Int) (tx:ByteArray):Prop where
 hB:B2≤mb
 box:W.heap[mb]?=some (.cells #[.int .i64 k,.int .i64 t,.int .i64 fn,.int .i64 ln,.string tx,vv] 108 (0,0))
 far:mv.ownBlock ≠ some mb
 vars:OwnV B2 W vv l
 l3:l.length≤3
 tx1:tx.size≤1
theorem TrMem.setBox {w0:World} {K pc len N B2 ps mb i:Nat} {wr:World} {c:Cu} {s:St} {ms:List Mo} {wv mv vv u:Value} {ws:List Int} {l:List V} {k t fn ln:Int} {tx:ByteArray} (h:TrMem w0 K pc len N B2 ps wr c s ms wv mv ws) (hx:Bx B2 mb wr mv vv l k t fn ln tx) :
  TrMem w0 K pc len N B2 ps (wr.setCell ⟨mb,i,none⟩ u) c s ms wv mv ws:=by
 have hn:=h.nb
 have hk:=h.kn
 have hw:=h.w0N
 have hB:=hx.hB
 have hp:=h.psB
 have hb:Below B2 wr (wr.setCell ⟨mb,i,none⟩ u):=(Below.refl _ _).setCell (p:=⟨mb,i,none⟩) hx.hB _
 exact ⟨h.cur.below (hb.mono (by omega)),h.kn,h.w0N,h.spec.but (mb:=mb) (fun b e=>Below.heap_setCell _ _ _ _ e) (by omega) hx.box (by decide) (by decide),h.psB,h.nb,Nat.le_trans h.bB hb.size,by rw [hb.block _ (by omega)];exact h.rbx,by rw [hb.block _ (by omega)];exact h.fnx,by rw [hb.block _ (by omega)];exact h.tbx,
  ⟨owns_setCell h.mom.row hx.far,fun x hx'=>⟨⟨owns_but (h.mom.vars x hx').1.1 hx.box (by decide),(h.mom.vars x hx').1.2⟩,(h.mom.vars x hx').2⟩⟩,owns_but h.wai hx.box (by decide),h.betw.onw (hb.mono (by omega))⟩
theorem Bx.draw {B2 mb pc:Nat} {W W':World} {mv vv:Value} {l:List V} {k t fn ln:Int} {tx:ByteArray} (h:Bx B2 mb W mv vv l k t fn ln tx) (hb:Betw pc (pc + 1) W W') (hp:pc < B2):Bx B2 mb W' mv vv l k t fn ln tx :=
 ⟨h.hB,by have:=h.hB;rw [hb.block mb (heap_lt h.box) (.inr (by omega))];exact h.box,h.far,h.vars.betw hb hp,h.l3,h.tx1⟩
theorem Bx.below {B2 mb:Nat} {W W':World} {mv vv:Value} {l:List V} {k t fn ln:Int} {tx:ByteArray} (h:Bx B2 mb W mv vv l k t fn ln tx) (hb:Below W.heap.size W W'):Bx B2 mb W' mv vv l k t fn ln tx :=
 ⟨h.hB,by rw [hb.block mb (heap_lt h.box)];exact h.box,h.far,⟨owns_below h.vars.1 hb,h.vars.2⟩,h.l3,h.tx1⟩
theorem Bx.kind {B2 mb:Nat} {W:World} {mv vv:Value} {l:List V} {k t fn ln:Int} {tx:ByteArray} (h:Bx B2 mb W mv vv l k t fn ln tx) (x:Int):Bx B2 mb (W.setCell ⟨mb,0,none⟩ (.int .i64 x)) mv vv l x t fn ln tx :=
 ⟨h.hB,by simp [World.setCell,Array.getElem?_modify,h.box],h.far,⟨owns_but h.vars.1 h.box (by decide),h.vars.2⟩,h.l3,h.tx1⟩
theorem Bx.task {B2 mb:Nat} {W:World} {mv vv:Value} {l:List V} {k t fn ln:Int} {tx:ByteArray} (h:Bx B2 mb W mv vv l k t fn ln tx) (x:Int):Bx B2 mb (W.setCell ⟨mb,1,none⟩ (.int .i64 x)) mv vv l k x fn ln tx :=
 ⟨h.hB,by simp [World.setCell,Array.getElem?_modify,h.box],h.far,⟨owns_but h.vars.1 h.box (by decide),h.vars.2⟩,h.l3,h.tx1⟩
theorem Bx.fn {B2 mb:Nat} {W:World} {mv vv:Value} {l:List V} {k t fn ln:Int} {tx:ByteArray} (h:Bx B2 mb W mv vv l k t fn ln tx) (x:Int):Bx B2 mb (W.setCell ⟨mb,2,none⟩ (.int .i64 x)) mv vv l k t x ln tx :=
 ⟨h.hB,by simp [World.setCell,Array.getElem?_modify,h.box],h.far,⟨owns_but h.vars.1 h.box (by decide),h.vars.2⟩,h.l3,h.tx1⟩
theorem Bx.line {B2 mb:Nat} {W:World} {mv vv:Value} {l:List V} {k t fn ln:Int} {tx:ByteArray} (h:Bx B2 mb W mv vv l k t fn ln tx) (x:Int):Bx B2 mb (W.setCell ⟨mb,3,none⟩ (.int .i64 x)) mv vv l k t fn x tx :=
 ⟨h.hB,by simp [World.setCell,Array.getElem?_modify,h.box],h.far,⟨owns_but h.vars.1 h.box (by decide),h.vars.2⟩,h.l3,h.tx1⟩
theorem Bx.text {B2 mb:Nat} {W:World} {mv vv:Value} {l:List V} {k t fn ln:Int} {tx:ByteArray} (h:Bx B2 mb W mv vv l k t fn ln tx) (x:ByteArray) (hx:x.size≤1):Bx B2 mb (W.setCell ⟨mb,4,none⟩ (.string x)) mv vv l k t fn ln x :=
 ⟨h.hB,by simp [World.setCell,Array.getElem?_modify,h.box],h.far,⟨owns_but h.vars.1 h.box (by decide),h.vars.2⟩,h.l3,hx⟩
theorem Bx.waits {B2 mb:Nat} {W W':World} {mv vv wv:Value} {l:List V} {k t fn ln:Int} {tx:ByteArray} {n:Nat} {xs:List Value} (h:Bx B2 mb W mv vv l k t fn ln tx) (hw:W.ownsRow B2 3 1 wv n xs) (hg:W.grownBy W' wv.ownBlock):Bx B2 mb W' mv vv l k t fn ln tx:=by
 have hr:=owns_kind hw
 refine ⟨h.hB,?_,h.far,⟨owns_apart h.vars.1 hg (fun g e=>(hr g e).2) (by decide),h.vars.2⟩,h.l3,h.tx1⟩
 rw [hg.block mb (heap_lt h.box) (fun er=>?_)]
 ·exact h.box
 ·obtain ⟨_,cs,fr,e1⟩:=hr mb er.symm
  rw [h.box] at e1;cases e1
theorem itr_mod64 (t s:Nat):itr t (s % 18446744073709551616) % 18446744073709551616=itr t s % 18446744073709551616:=by
 induction t generalizing s with
 | zero=>simp [itr]
 | succ t ih =>
  simp only [itr]
  rw [← ih (lcg (s % 18446744073709551616)),← ih (lcg s)]
  have e:lcg (s % 18446744073709551616) % 18446744073709551616=lcg s % 18446744073709551616:=by
   unfold lcg
   rw [Nat.add_mod,Nat.mul_mod,Nat.mod_mod,← Nat.mul_mod,← Nat.add_mod]
  rw [e]
theorem Draws.trans {len d e:Nat} {c c1 c2:Cu} (h:Draws len d c c1) (k:Draws len e c1 c2):Draws len (d + e) c c2:=by
 refine ⟨by rw [k.at1,h.at1];omega,fun hf=>?_⟩
 rw [k.far (by rw [h.at1];omega),← itr_mod64,h.far hf,itr_mod64,itr_add]
theorem OwnV.low {B B':Nat} {w:World} {v:Value} {l:List V} (h:OwnV B w v l) (hB:B'≤B):OwnV B' w v l:=by
 refine ⟨⟨h.1.1,?_⟩,h.2⟩
 rcases h.1.2 with hn | ⟨g,cap,cur,hv,hb,rest⟩
 ·exact .inl hn
 ·exact .inr ⟨g,cap,cur,hv,by omega,rest⟩
theorem OwnV.below {B:Nat} {w w':World} {v:Value} {l:List V} (h:OwnV B w v l) (hb:Below w.heap.size w w'):OwnV B w' v l:=⟨owns_below h.1 hb,h.2⟩
structure ZBox (S0 mb:Nat) (W:World):Prop where
 hS:S0≤mb
 box:W.heap[mb]?=some (.cells #[.int .i64 0,.int .i64 0,.int .i64 0,.int .i64 0,.string ByteArray.empty,.slice none 0 0] 108 (0,0))
theorem ZBox.new {S0:Nat} {W:World} (h:S0≤W.heap.size):ZBox S0 W.heap.size (W.alloc (.cells #[.int .i64 0,.int .i64 0,.int .i64 0,.int .i64 0,.string ByteArray.empty,.slice none 0 0] 108)) :=
 ⟨h,heap_alloc_new W _⟩
theorem ZBox.below {S0 mb:Nat} {W W':World} (h:ZBox S0 mb W) (hb:Below W.heap.size W W'):ZBox S0 mb W' :=
 ⟨h.hS,by rw [hb.block mb (heap_lt h.box)];exact h.box⟩
theorem ZBox.draw {S0 mb pc:Nat} {W W':World} (h:ZBox S0 mb W) (hb:Betw pc (pc + 1) W W') (hp:pc < S0):ZBox S0 mb W' :=
 ⟨h.hS,by have:=h.hS;rw [hb.block mb (heap_lt h.box) (.inr (by omega))];exact h.box⟩
theorem TrMem.zbox {w0:World} {K pc len N B2 ps S0:Nat} {wr:World} {c:Cu} {s:St} {ms:List Mo} {wv mv:Value} {ws:List Int} (_:TrMem w0 K pc len N B2 ps wr c s ms wv mv ws) (hS:S0≤wr.heap.size) :
  ZBox S0 wr.heap.size (wr.alloc (.cells #[.int .i64 0,.int .i64 0,.int .i64 0,.int .i64 0,.string ByteArray.empty,.slice none 0 0] 108)):=ZBox.new hS
theorem TrMem.bnew {w0:World} {K pc len N B2 ps:Nat} {wr:World} {c:Cu} {s:St} {ms:List Mo} {wv mv:Value} {ws:List Int} (_:TrMem w0 K pc len N B2 ps wr c s ms wv mv ws) :
  Below wr.heap.size wr (wr.alloc (.cells #[.int .i64 0,.int .i64 0,.int .i64 0,.int .i64 0,.string ByteArray.empty,.slice none 0 0] 108)):=below_new _ _
theorem ZBox.cells {S0 mb:Nat} {W:World} (h:ZBox S0 mb W):W.cell? ⟨mb,0,none⟩=some (.int .i64 0)∧W.cell? ⟨mb,1,none⟩=some (.int .i64 0)∧W.cell? ⟨mb,2,none⟩=some (.int .i64 0)∧W.cell? ⟨mb,3,none⟩=some (.int .i64 0)∧W.cell? ⟨mb,4,none⟩=some (.string ByteArray.empty)∧W.cell? ⟨mb,5,none⟩=some (.slice none 0 0):=by
 refine ⟨?_,?_,?_,?_,?_,?_⟩
 all_goals (rw [cell_of_row W mb _ _ _ _ h.box];rfl)
theorem ZBox.fz {S0 mb:Nat} {W:World} (h:ZBox S0 mb W):W.frozen? ⟨mb,0,none⟩=false∧W.frozen? ⟨mb,1,none⟩=false∧W.frozen? ⟨mb,2,none⟩=false∧W.frozen? ⟨mb,3,none⟩=false∧W.frozen? ⟨mb,4,none⟩=false∧W.frozen? ⟨mb,5,none⟩=false:=by
 refine ⟨?_,?_,?_,?_,?_,?_⟩
 all_goals simp [World.frozen?,h.box]
theorem TrMem.setAt {w0:World} {K pc len N B2 ps mb i:Nat} {wr:World} {c:Cu} {s:St} {ms:List Mo} {wv mv u:Value} {ws:List Int} {cs:Array Value} {fr:Nat × Nat} (h:TrMem w0 K pc len N B2 ps wr c s ms wv mv ws) (hB:B2≤mb) (hbx:wr.heap[mb]?=some (.cells cs 108 fr)) (hfar:mv.ownBlock ≠ some mb) :
  TrMem w0 K pc len N B2 ps (wr.setCell ⟨mb,i,none⟩ u) c s ms wv mv ws∧∃ cs',(wr.setCell ⟨mb,i,none⟩ u).heap[mb]?=some (.cells cs' 108 fr):=by
 have hn:=h.nb
 have hk:=h.kn
 have hw:=h.w0N
 have hp:=h.psB
 have hb:Below B2 wr (wr.setCell ⟨mb,i,none⟩ u):=(Below.refl _ _).setCell (p:=⟨mb,i,none⟩) hB _
 exact ⟨⟨h.cur.below (hb.mono (by omega)),h.kn,h.w0N,h.spec.but (mb:=mb) (fun b e=>Below.heap_setCell _ _ _ _ e) (by omega) hbx (by decide) (by decide),h.psB,h.nb,Nat.le_trans h.bB hb.size,by rw [hb.block _ (by omega)];exact h.rbx,by rw [hb.block _ (by omega)];exact h.fnx,by rw [hb.block _ (by omega)];exact h.tbx,
  ⟨owns_setCell h.mom.row hfar,fun x hx'=>⟨⟨owns_but (h.mom.vars x hx').1.1 hbx (by decide),(h.mom.vars x hx').1.2⟩,(h.mom.vars x hx').2⟩⟩,owns_but h.wai hbx (by decide),h.betw.onw (hb.mono (by omega))⟩,⟨cs.setIfInBounds i u,by simp [World.setCell,Array.getElem?_modify,hbx]⟩⟩
theorem TrMem.full {w0:World} {K pc len N B2 ps S0 mb:Nat} {W:World} {c:Cu} {s:St} {ms:List Mo} {wv mv vv:Value} {ws:List Int} {l:List V} (h:TrMem w0 K pc len N B2 ps W c s ms wv mv ws) (hz:ZBox S0 mb W) (hB:B2≤S0) (hfar:mv.ownBlock ≠ some mb) (hov:OwnV B2 W vv l) (hl:l.length≤3) (t fn ln:Int) :
  TrMem w0 K pc len N B2 ps ((((((W.setCell ⟨mb,0,none⟩ (.int .i64 0)).setCell ⟨mb,1,none⟩ (.int .i64 t)).setCell ⟨mb,2,none⟩ (.int .i64 fn)).setCell ⟨mb,3,none⟩ (.int .i64 ln)).setCell ⟨mb,4,none⟩ (.string ByteArray.empty)).setCell ⟨mb,5,none⟩ vv) c s ms wv mv ws ∧
  Bx B2 mb ((((((W.setCell ⟨mb,0,none⟩ (.int .i64 0)).setCell ⟨mb,1,none⟩ (.int .i64 t)).setCell ⟨mb,2,none⟩ (.int .i64 fn)).setCell ⟨mb,3,none⟩ (.int .i64 ln)).setCell ⟨mb,4,none⟩ (.string ByteArray.empty)).setCell ⟨mb,5,none⟩ vv) mv vv l 0 t fn ln ByteArray.empty:=by
 have hm:B2≤mb:=Nat.le_trans hB hz.hS
 obtain ⟨h1,c1,b1⟩:=h.setAt (i:=0) (u:=.int .i64 0) hm hz.box hfar
 obtain ⟨h2,c2,b2⟩:=h1.setAt (i:=1) (u:=.int .i64 t) hm b1 hfar
 obtain ⟨h3,c3,b3⟩:=h2.setAt (i:=2) (u:=.int .i64 fn) hm b2 hfar
 obtain ⟨h4,c4,b4⟩:=h3.setAt (i:=3) (u:=.int .i64 ln) hm b3 hfar
 obtain ⟨h5,c5,b5⟩:=h4.setAt (i:=4) (u:=.string ByteArray.empty) hm b4 hfar
 obtain ⟨h6,c6,b6⟩:=h5.setAt (i:=5) (u:=vv) hm b5 hfar
 refine ⟨h6,hm,?_,hfar,⟨?_,hov.2⟩,hl,by decide⟩
 ·simp [World.setCell,Array.getElem?_modify,hz.box]
 ·exact owns_but (owns_but (owns_but (owns_but (owns_but (owns_but hov.1 hz.box (by decide)) b1 (by decide)) b2 (by decide)) b3 (by decide)) b4 (by decide)) b5 (by decide)
def Half (s:St) (k t fn l:Int) (q:Prop):Prop :=
 0≤l∧l≤4∧((k=7∧0≤t∧t < 9∧fn=0)∨(t=s.cur∧((k=2∧0≤fn∧fn < 4)∨(k=1∧fn=topFn (s.tasks s.cur)∧1≤l)∨(k=3∧fn=topFn (s.tasks s.cur)∧q)∨(4≤k∧k≤6∧fn=topFn (s.tasks s.cur)))))
theorem Bx.cells {B2 mb:Nat} {W:World} {mv vv:Value} {l:List V} {k t fn ln:Int} {tx:ByteArray} (h:Bx B2 mb W mv vv l k t fn ln tx):W.cell? ⟨mb,0,none⟩=some (.int .i64 k)∧W.cell? ⟨mb,1,none⟩=some (.int .i64 t)∧W.cell? ⟨mb,2,none⟩=some (.int .i64 fn)∧W.cell? ⟨mb,3,none⟩=some (.int .i64 ln)∧W.cell? ⟨mb,4,none⟩=some (.string tx)∧W.cell? ⟨mb,5,none⟩=some vv:=by
 refine ⟨?_,?_,?_,?_,?_,?_⟩
 all_goals (rw [cell_of_row W mb _ _ _ _ h.box];rfl)
theorem Bx.fz {B2 mb:Nat} {W:World} {mv vv:Value} {l:List V} {k t fn ln:Int} {tx:ByteArray} (h:Bx B2 mb W mv vv l k t fn ln tx):W.frozen? ⟨mb,0,none⟩=false∧W.frozen? ⟨mb,1,none⟩=false∧W.frozen? ⟨mb,2,none⟩=false∧W.frozen? ⟨mb,3,none⟩=false∧W.frozen? ⟨mb,4,none⟩=false:=by
 refine ⟨?_,?_,?_,?_,?_⟩
 all_goals simp [World.frozen?,h.box]
theorem info_int:(Tryz.prog.info? 3).map (fun i=>(i.zero,i.size,i.bytes))=some (some (.int .i64 0),1,8):=by kernel_rfl
theorem owns_cap {w:World} {B:Nat} {e:TypeId} {z g n cap:Nat} {xs:List Value} (h:w.ownsRow B e z (.slice (some ⟨g,0,none⟩) n cap) n xs):n≤cap:=by
 rcases h.2 with ⟨h,_⟩ | ⟨g',cap',cur,hv,-,-,h1,-⟩
 ·cases h
 ·cases hv;exact h1
theorem snoc_cases {α:Type} (l:List α):l=[]∨∃ r x,l=r ++ [x]:=by
 by_cases h:l=[]
 ·exact .inl h
 ·exact .inr ⟨l.dropLast,l.getLast h,(List.dropLast_concat_getLast h).symm⟩
theorem TrMem.pop {w0:World} {K pc len N B2 ps g cap:Nat} {wr:World} {c:Cu} {s:St} {ms:List Mo} {mv:Value} {ws:List Int} {x:Int} (h:TrMem w0 K pc len N B2 ps wr c s ms (.slice (some ⟨g,0,none⟩) (ws.length + 1) cap) mv (ws ++ [x])) :
  TrMem w0 K pc len N B2 ps wr c s ms (.slice (some ⟨g,0,none⟩) ws.length cap) mv ws:=by
 have hw:=h.wai
 rw [List.map_append,List.length_append] at hw
 exact ⟨h.cur,h.kn,h.w0N,h.spec,h.psB,h.nb,h.bB,h.rbx,h.fnx,h.tbx,h.mom,ownsRow_pop (by simp) hw,h.betw⟩
theorem Bx.keeps {B2 mb ps:Nat} {W W':World} {mv vv:Value} {l:List V} {k t fn ln:Int} {tx:ByteArray} (h:Bx B2 mb W mv vv l k t fn ln tx) (hk:Keeps ps W W') (hp:ps < B2):Bx B2 mb W' mv vv l k t fn ln tx :=
 ⟨h.hB,by have:=h.hB;rw [hk mb _ _ _ h.box (by omega) (by decide) (by decide)];exact h.box,h.far,h.vars.keeps hk hp,h.l3,h.tx1⟩
theorem Half.good {s:St} {k t fn l:Int} {q:Prop} (h:Half s k t fn l q) (h1:k=1→(s.tasks s.cur).length ≠ 0) (h3:k=3→0≤topFrom (s.tasks s.cur)):Good s k t fn l:=by
 obtain ⟨l1,l2,hk⟩:=h
 refine ⟨l1,l2,?_⟩
 rcases hk with a | ⟨a,b | ⟨b,c,d⟩ | ⟨b,c,d⟩ | b⟩
 ·exact .inl a
 ·exact .inr ⟨a,.inl b⟩
 ·exact .inr ⟨a,.inr (.inl ⟨b,c,h1 b,d⟩)⟩
 ·exact .inr ⟨a,.inr (.inr (.inl ⟨b,c,h3 b⟩))⟩
 ·exact .inr ⟨a,.inr (.inr (.inr b))⟩
theorem Half.leave {s:St} {t fn l:Int} {q:Prop} (h:Half s 3 t fn l q):q:=by
 obtain ⟨_,_,hk⟩:=h
 rcases hk with ⟨a,_⟩ | ⟨a,⟨b,_⟩ | ⟨b,_⟩ | ⟨_,_,d⟩ | ⟨b,_⟩⟩
 ·omega
 ·omega
 ·omega
 ·exact d
 ·omega
theorem Half.call {s:St} {t fn l:Int} {q:Prop} (h:Half s 1 t fn l q):Half s 2 t 1 l q:=by
 obtain ⟨l1,l2,hk⟩:=h
 rcases hk with ⟨a,_⟩ | ⟨a,_⟩
 ·omega
 ·exact ⟨l1,l2,.inr ⟨a,.inl ⟨rfl,by omega,by omega⟩⟩⟩
theorem Half.task {s:St} {k t fn l:Int} {q:Prop} (h:Half s k t fn l q) (h9:s.cur < 9):0≤t∧t < 9:=by
 obtain ⟨l1,l2,hk⟩:=h
 rcases hk with ⟨_,a,b,_⟩ | ⟨a,_⟩
 ·exact ⟨a,b⟩
 ·omega
def Chosen (w0:World) (K pc len B2 ps mb:Nat) (s:St) (ms:List Mo) (c:Cu) (wv mv:Value) (ws:List Int) (nt:Nat) (wv' nv':Value) (W:World):Prop :=
 ∃ (c':Cu) (wa:Option Addr) (wcap:Nat) (ws':List Int) (nt':Nat) (vv:Value) (l:List V) (k t fn ln:Int) (tx:ByteArray),
  wv'=.slice wa ws'.length wcap∧nv'=.int .i64 nt'∧TrMem w0 K pc len w0.heap.size B2 ps W c' s ms wv' mv ws'∧Bx B2 mb W mv vv l k t fn ln tx∧(∀ x,x ∈ ws'→0≤x∧x < 9)∧ws'.length < nt'∧nt'≤9∧c.at_≤c'.at_∧c'.at_≤c.at_ + 12 ∧
  Half s k t fn ln (wv'=wv∧ws'=ws∧nt'=nt∧∃ d x,1≤d∧d≤9∧Draws len d c c'∧(len≤c.at_→x=c'.seed / 1099511627776 % 256)∧(x % 14=8∨x % 14=9))
end Go.Proofs.YtmnmeaeicjhkhaaGreatDoor
