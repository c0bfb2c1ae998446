import Derived.Test.YtmnmeaeicjhkhaaGreatDoorGTx
set_option maxRecDepth 100000
set_option maxHeartbeats 16000000
namespace Go.Proofs.YtmnmeaeicjhkhaaGreatDoor
def lcg (s:Nat):Nat:=6364136223846793005*s+1442695040888963407
def itr:Nat->Nat->Nat
 | 0,s=>s
 | t+1,s=>itr t (lcg s)
theorem vJ (a b s:Nat):itr (a+b) s=itr b (itr a s):=by
 induction a generalizing s with
 | zero=>simp [itr]
 | succ a ih=>rw [show a+1+b=(a+b)+1 by omega];exact ih (lcg s)
theorem itr_pow (k:Nat):∃ p q:Nat,∀ s,itr (2 ^ k) s=s+2 ^ (k+2)*p*s+2 ^ k*(2*q+1):=by
 induction k with
 | zero=>exact ⟨1591034055961698251,721347520444481703,fun s=>by simp only [itr,lcg];omega⟩
 | succ k ih =>
  obtain ⟨p,q,h⟩:=ih
  refine ⟨p+2 ^ (k+1)*(p*p),q+2 ^ k*p*(2*q+1),fun s=>?_⟩
  rw [show 2 ^ (k+1)=2 ^ k+2 ^ k by omega,vJ,h,h]
  have e1:2 ^ (k+2)=4*2 ^ k:=by rw [Nat.pow_succ,Nat.pow_succ];omega
  have e2:2 ^ (k+1+2)=8*2 ^ k:=by rw [Nat.pow_succ,Nat.pow_succ,Nat.pow_succ];omega
  have e3:2 ^ (k+1)=2*2 ^ k:=by omega
  rw [e1,e2]
  generalize 2 ^ k=z
  grind
theorem itr_any (k:Nat):∀ s τ:Nat,∃ t,t<2 ^ k/\itr t s % 2 ^ k=τ % 2 ^ k:=by
 induction k with
 | zero=>exact fun s τ=>⟨0,by omega,by simp [Nat.mod_one]⟩
 | succ k ih =>
  intro s τ
  obtain ⟨t,ht,e⟩:=ih s τ
  obtain ⟨p,q,h⟩:=itr_pow k
  by_cases hx:itr t s % 2 ^ (k+1)=τ % 2 ^ (k+1)
  ·exact ⟨t,by omega,hx⟩
  refine ⟨t+2 ^ k,by omega,?_⟩
  rw [vJ,h]
  generalize itr t s=x at *
  have e1:2 ^ (k+2)=2 ^ (k+1)*2:=Nat.pow_succ ..
  have e2:x+2 ^ (k+2)*p*x+2 ^ k*(2*q+1)=(x+2 ^ k)+2 ^ (k+1)*(2*(p*x)+q):=by
   rw [e1,show 2 ^ (k+1)=2*2 ^ k by omega]
   generalize 2 ^ k=z
   grind
  rw [e2,Nat.add_mul_mod_self_left]
  have e3:2 ^ (k+1)=2 ^ k*2:=by omega
  have a1:=Nat.mod_mul (x:=x) (a:=2 ^ k) (b:=2)
  have a2:=Nat.mod_mul (x:=τ) (a:=2 ^ k) (b:=2)
  have a3:=Nat.mod_mul (x:=x+2 ^ k) (a:=2 ^ k) (b:=2)
  have hz:0<2 ^ k:=Nat.two_pow_pos k
  rw [Nat.add_mod_right,Nat.add_div_right _ hz] at a3
  rw [e3] at hx ⊢
  rw [a1,a2,e] at hx
  rw [a3,a2,e]
  have b1:=Nat.mod_lt (x / 2 ^ k) (show 0<2 by omega)
  have b2:=Nat.mod_lt (τ / 2 ^ k) (show 0<2 by omega)
  have hne:x / 2 ^ k % 2≠τ / 2 ^ k % 2:=fun e=>hx (by rw [e])
  have:(x / 2 ^ k).succ % 2=τ / 2 ^ k % 2:=by omega
  rw [this]
section
open Go.RowKit
structure Cu where
 at_:Nat
 seed:Nat
structure Cur (K:Nat) (w:World) (pc:Nat) (len:Nat) (c:Cu):Prop where
 hk:pc<K
 cs:∃ a cap,w.cell? ⟨pc,0,none⟩=some (.slice a len cap)/\∀ i,i<len->∃ b o x,a=some ⟨b,o,none⟩/\b≠pc/\b<K/\w.cell? ⟨b,o+i,none⟩=some (.int .u8 x)/\0<=x/\x<256
 c1:w.cell? ⟨pc,1,none⟩=some (.int .i64 c.at_)
 c2:w.cell? ⟨pc,2,none⟩=some (.int .u64 c.seed)
 f1:w.frozen? ⟨pc,1,none⟩=false
 f2:w.frozen? ⟨pc,2,none⟩=false
 hs:c.seed<18446744073709551616
 hl:len<=1048576
structure kW (len:Nat) (c c':Cu) (x:Int):Prop where
 x0:0<=x
 x1:x<256
 at1:c'.at_=c.at_+1
 far:len<=c.at_->c'.seed=lcg c.seed % 18446744073709551616/\x=(c'.seed / 1099511627776 % 256:Nat)
theorem Cur.below {K:Nat} {w w':World} {pc len:Nat} {c:Cu} (h:Cur K w pc len c) (hb:Below K w w'):Cur K w' pc len c:=by
 obtain ⟨hk,⟨a,cap,h0,hx⟩,h1,h2,h3,h4,h5,h6⟩:=h
 have hf:∀ o,w'.frozen? ⟨pc,o,none⟩=w.frozen? ⟨pc,o,none⟩:=fun o=>hb.frozen hk
 have hc:∀ o,w'.cell? ⟨pc,o,none⟩=w.cell? ⟨pc,o,none⟩:=fun o=>hb.cell hk
 refine ⟨hk,⟨a,cap,by rw [hc];exact h0,fun i hi=>?_⟩,by rw [hc];exact h1,by rw [hc];exact h2,by rw [hf];exact h3,by rw [hf];exact h4,h5,h6⟩
 obtain ⟨b,o,x,ha,hne,hbk,hcx,hr⟩:=hx i hi
 exact ⟨b,o,x,ha,hne,hbk,by rw [hb.cell (p:=⟨b,o+i,none⟩) hbk];exact hcx,hr⟩
theorem wrap_u64_63 (n:Int) (h₀:0<=n) (h₁:n<2 ^ 63):IntKind.u64.wrap n=n:=by rw [IntKind.wrap_u64];omega
theorem low8 (a:Int) (h0:0<=a) (h1:a<16777216):bits .and .u64 a 255=a % 256:=by
 have h:=bits_mask .u64 63 (by decide) wrap_u64_63 8 (by decide) a h0 (by omega)
 have e:((2:Int) ^ 8 - 1)=255:=by decide
 have e2:((2:Int) ^ 8)=256:=by decide
 rwa [e,e2] at h
theorem seed_far (s:Nat):IntKind.u64.wrap (IntKind.u64.wrap ((s:Int)*6364136223846793005)+1442695040888963407)=((lcg s % 18446744073709551616:Nat):Int):=by
 rw [IntKind.wrap_u64,IntKind.wrap_u64]
 unfold lcg
 omega
theorem bP4 (s:Nat) (x:Int):∃ z:Nat,z<18446744073709551616/\IntKind.u64.wrap (IntKind.u64.wrap (IntKind.u64.wrap ((s:Int)*6364136223846793005)+x)+1442695040888963407)=(z:Int):=by
 rw [IntKind.wrap_u64]
 generalize IntKind.u64.wrap (IntKind.u64.wrap ((s:Int)*6364136223846793005)+x)+1442695040888963407=y
 exact ⟨(y % 18446744073709551616).toNat,by omega,by omega⟩
theorem draw_far (z:Nat) (hz:z<18446744073709551616):wrap64 (bits .and .u64 ((z:Int) / 1099511627776) 255)=((z / 1099511627776 % 256:Nat):Int):=by
 rw [low8 _ (by omega) (by omega)]
 unfold wrap64
 omega
theorem Cur.go {K:Nat} {w:World} {pc len p s:Nat} (h:Cur K w pc len ⟨p,s⟩) (p' s':Nat) (hs:s' < 18446744073709551616) :
  (Cur K ((w.setCell ⟨pc,1,none⟩ (.int .i64 p')).setCell ⟨pc,2,none⟩ (.int .u64 s')) pc len ⟨p',s'⟩/\dY pc (pc+1) w ((w.setCell ⟨pc,1,none⟩ (.int .i64 p')).setCell ⟨pc,2,none⟩ (.int .u64 s'))) /\
  (Cur K ((w.setCell ⟨pc,2,none⟩ (.int .u64 s')).setCell ⟨pc,1,none⟩ (.int .i64 p')) pc len ⟨p',s'⟩/\dY pc (pc+1) w ((w.setCell ⟨pc,2,none⟩ (.int .u64 s')).setCell ⟨pc,1,none⟩ (.int .i64 p'))):=by
 obtain ⟨hk,⟨a,cap,h0,hx⟩,h1,h2,h3,h4,h5,h6⟩:=h
 simp only at h1 h2 h5
 have n12:(⟨pc,1,none⟩:Addr)≠⟨pc,2,none⟩:=by simp
 have n21:(⟨pc,2,none⟩:Addr)≠⟨pc,1,none⟩:=by simp
 have n10:(⟨pc,1,none⟩:Addr)≠⟨pc,0,none⟩:=by simp
 have n20:(⟨pc,2,none⟩:Addr)≠⟨pc,0,none⟩:=by simp
 have s1:∀ u,(w.setCell ⟨pc,1,none⟩ u).cell? ⟨pc,2,none⟩=some (.int .u64 s):=fun u=>by rw [World.cell?_setCell_other _ _ _ _ n12];exact h2
 have s2:∀ u,(w.setCell ⟨pc,2,none⟩ u).cell? ⟨pc,1,none⟩=some (.int .i64 p):=fun u=>by rw [World.cell?_setCell_other _ _ _ _ n21];exact h1
 refine ⟨⟨⟨hk,⟨a,cap,?_,fun i hi=>?_⟩,?_,?_,?_,?_,hs,h6⟩,?_⟩,⟨⟨hk,⟨a,cap,?_,fun i hi=>?_⟩,?_,?_,?_,?_,hs,h6⟩,?_⟩⟩
 ·rw [World.cell?_setCell_other _ _ _ _ n20,World.cell?_setCell_other _ _ _ _ n10];exact h0
 ·obtain ⟨b,o,x,ha,hne,hbk,hc,hr⟩:=hx i hi
  exact ⟨b,o,x,ha,hne,hbk,bJ (fun e=>hne e.symm) (bJ (fun e=>hne e.symm) hc),hr⟩
 ·rw [World.cell?_setCell_other _ _ _ _ n21];exact World.cell?_setCell_same' _ _ _ (by rw [h1];rfl)
 ·exact World.cell?_setCell_same' _ _ _ (by rw [s1];rfl)
 ·rw [World.frozen?_setCell,World.frozen?_setCell];exact h3
 ·rw [World.frozen?_setCell,World.frozen?_setCell];exact h4
 ·exact ((dY.refl _ _ _).setCell (Nat.le_refl _) (Nat.lt_succ_self _) h1 rfl rfl).setCell (Nat.le_refl _) (Nat.lt_succ_self _) (s1 _) rfl rfl
 ·rw [World.cell?_setCell_other _ _ _ _ n10,World.cell?_setCell_other _ _ _ _ n20];exact h0
 ·obtain ⟨b,o,x,ha,hne,hbk,hc,hr⟩:=hx i hi
  exact ⟨b,o,x,ha,hne,hbk,bJ (fun e=>hne e.symm) (bJ (fun e=>hne e.symm) hc),hr⟩
 ·exact World.cell?_setCell_same' _ _ _ (by rw [s2];rfl)
 ·rw [World.cell?_setCell_other _ _ _ _ n12];exact World.cell?_setCell_same' _ _ _ (by rw [h2];rfl)
 ·rw [World.frozen?_setCell,World.frozen?_setCell];exact h3
 ·rw [World.frozen?_setCell,World.frozen?_setCell];exact h4
 exact ((dY.refl _ _ _).setCell (Nat.le_refl _) (Nat.lt_succ_self _) h2 rfl rfl).setCell (Nat.le_refl _) (Nat.lt_succ_self _) (s2 _) rfl rfl
theorem bF8 (K pc len:Nat) (c:Cu) (w:World) (h:Cur K w pc len c) (hat:c.at_<4611686018427387904) :
  Calls Tryz.prog 83 #[.pointer (some ⟨pc,0,none⟩)] w fun e w'=>(∃ x c',e=.returned (.int .i64 x)/\kW len c c' x/\Cur K w' pc len c')/\dY pc (pc+1) w w':=by
 have H:=O h
 obtain ⟨-,⟨a,cap,h0,hx⟩,h1,h2,h3,h4,h5,h6⟩:=h
 have HX:=O hx
 obtain ⟨p,s⟩:=c
 simp only at h1 h2 h5 hat
 clear hx
 by_cases hlt:p<len
 ·obtain ⟨b,o,x,rfl,hne,-,hc,hx0,hx1⟩:=Z HX p hlt
  have hi1:(0:Int)<=(p:Int):=by omega
  have hi2:(p:Int)<(len:Int):=by omega
  have hd:decide ((p:Int)<(len:Int))=true:=by simpa using hi2
  go_enter Tryz.func83,Tryz.ntmps83
  go_wp2
  go_quiet (fail)
  go_wp2
  go_quiet (fail)
  obtain ⟨z,hz,ez⟩:=bP4 s x
  go_wp2
  go_ret
  have HC:=fun q=>(((Z H).below (below_drewN (Below.refl K _) q)).go (p+1) z hz).1
  exact ⟨⟨x,⟨p+1,z⟩,rfl,⟨hx0,hx1,rfl,fun hf=>absurd hf (by simpa using hlt)⟩,(HC _).1⟩,(dY.of_below _ _ (bP _ _)).trans (HC _).2⟩
 have hd:decide ((p:Int)<(len:Int))=false:=by simpa using hlt
 go_enter Tryz.func83,Tryz.ntmps83
 go_wp2
 go_quiet (fail)
 have ez:=seed_far s
 obtain ⟨z,hz⟩:∃ z,z=lcg s % 18446744073709551616:=⟨_,rfl⟩
 have HZ:=O hz
 have hz2:z<18446744073709551616:=by rw [hz];exact Nat.mod_lt _ (by omega)
 rw [<- hz] at ez
 clear hz
 have ed:=draw_far z hz2
 go_wp2
 go_ret
 have HC:=fun q=>(((Z H).below (below_drewN (Below.refl K _) q)).go (p+1) z hz2).2
 exact ⟨⟨_,⟨p+1,z⟩,rfl,⟨by omega,by omega,rfl,fun _=>⟨Z HZ,ed⟩⟩,(HC _).1⟩,(dY.of_below _ _ (bP _ _)).trans (HC _).2⟩
end
section
open Go.RowKit
theorem bY (K pc len:Nat) (c:Cu) (n:Nat) (w:World) (h:Cur K w pc len c) (hat:c.at_<4611686018427387904) (hn:2<=n) (hn2:n<=200) :
  Calls Tryz.prog 34 #[.pointer (some ⟨pc,0,none⟩),.int .i64 n] w fun e w'=>(∃ (x:Nat) (c':Cu),e=.returned (.int .i64 ((x % n:Nat):Int))/\kW len c c' x/\Cur K w' pc len c')/\dY pc (pc+1) w w':=by
 have H:=O h
 clear h
 go_enter Tryz.func34,Tryz.ntmps34
 go_wp2_with fail
 refine (bF8 K pc len c _ (Z H) hat).mono ?_
 rintro e w1 ⟨⟨x,c',rfl,hd,hc⟩,hb⟩
 have HD:=O hd
 have HC:=O hc
 have HB:=O hb
 obtain ⟨y,rfl⟩:∃ y:Nat,x=(y:Int):=Int.eq_ofNat_of_zero_le hd.x0
 have hy:(y:Int)<256:=hd.x1
 clear hd hc hb
 obtain ⟨r,hr⟩:∃ r,r=y % n:=⟨_,rfl⟩
 have em:(y:Int).tmod (n:Int)=(r:Int):=by rw [hr];exact (Int.ofNat_tmod y n).symm
 have HR:=O hr
 clear hr
 go_wp2
 go_ret
 exact ⟨⟨y,c',by rw [Z HR];rfl,Z HD,Z HC⟩,Z HB⟩
theorem pick_one (pc:Nat) (n:Int) (w:World) (hn:n<=1) :
  Calls Tryz.prog 34 #[.pointer (some ⟨pc,0,none⟩),.int .i64 n] w fun e w'=>e=.returned (.int .i64 0)/\w'=w:=by
 go_enter Tryz.func34,Tryz.ntmps34
 go_wp2
 go_ret
 exact ⟨rfl,rfl⟩
end
end Go.Proofs.YtmnmeaeicjhkhaaGreatDoor
