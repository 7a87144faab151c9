import Derived.Test.YtogcbbkhnpmgeaaGreatDoorZBD
set_option maxRecDepth 100000
set_option maxHeartbeats 4000000
namespace Go.Proofs.YtogcbbkhnpmgeaaGreatDoor
open Go.RowKit
theorem zuu(a:Option Addr)(n cap:Nat)(hn:8<=n)(w:World):(Instr.arrayAt 85 (.slice a n cap)).run Tryz.prog w=.ok (.pointer a) w:=by
 have h:¬ n<8:=by omega
 simp[Instr.arrayAt,run_underlying Tryz.underlying85,h,go_sem]
theorem zra(b o n c:Nat)(x:Ino)(w:World)(hn:11<=n)(hc:n<=c)(hb:b<w.heap.size)(h:∀ j,j<11->w.cell? ⟨b,o+j,none⟩=x.cs[j]?) :
  zC 34 #[.slice (some ⟨b,o,none⟩) n c] w fun e w'=>e=.returned x.v/\zB w w':=by
 have BW:=zaa ((Below.refl w.heap.size w).alloc zL (.cells #[.I 0,.I 0,.I 0,.I 0,.I 0,.I 0,.I 0,.I 0,.I 0,.I 0,.I 0] 87))
 have S:Hid (∀ w',zB w w'->w'.cell? ⟨b,o,none⟩=some (.I x.kind)/\w'.cell? ⟨b,o+1,none⟩=some (.I x.size)/\w'.cell? ⟨b,o+2,none⟩=some (.I x.links)/\w'.cell? ⟨b,o+3,none⟩=some (.I x.m0)/\w'.cell? ⟨b,o+3+1,none⟩=some (.I x.m1)/\w'.cell? ⟨b,o+3+2,none⟩=some (.I x.m2)/\w'.cell? ⟨b,o+3+3,none⟩=some (.I x.m3)/\w'.cell? ⟨b,o+3+4,none⟩=some (.I x.m4)/\w'.cell? ⟨b,o+3+5,none⟩=some (.I x.m5)/\w'.cell? ⟨b,o+3+6,none⟩=some (.I x.m6)/\w'.cell? ⟨b,o+3+7,none⟩=some (.I x.m7)):=fun w' hw' =>
  have g:=fun j (hj:j<11)=>(hw'.cell (p:=⟨b,o+j,none⟩) hb).trans (h j hj)
  ⟨g 0 (by omega),g 1 (by omega),g 2 (by omega),g 3 (by omega),g 4 (by omega),g 5 (by omega),g 6 (by omega),g 7 (by omega),g 8 (by omega),g 9 (by omega),g 10 (by omega)⟩
 obtain⟨s0,s1,s2,s3,s4,s5,s6,s7,s8,s9,s10⟩:=S.o _ BW.o
 have i0:(0:Int)<(n:Int):=by omega
 have i00:0<n:=by omega
 have i1:(1:Int)<(n:Int):=by omega
 have i2:(2:Int)<(n:Int):=by omega
 have i3:(11:Int)<=(c:Int):=by omega
 have i4:¬ c=3:=by omega
 have i5:(3:Int)<=11:=by omega
 have har:=zuu (some ⟨b,o+3,none⟩) 8 (c-3) zL;unfold Ino.v;clear h hn hc;go_enter Tryz.func34,Tryz.ntmps34;go_wp2_with fail
 go_region_held3 (fun w'=>w'.cell? ⟨b,o,none⟩=some (.I x.kind)/\w'.cell? ⟨b,o+1,none⟩=some (.I x.size)/\w'.cell? ⟨b,o+2,none⟩=some (.I x.links)/\w'.cell? ⟨b,o+3,none⟩=some (.I x.m0)/\w'.cell? ⟨b,o+3+1,none⟩=some (.I x.m1)/\w'.cell? ⟨b,o+3+2,none⟩=some (.I x.m2)/\w'.cell? ⟨b,o+3+3,none⟩=some (.I x.m3)/\w'.cell? ⟨b,o+3+4,none⟩=some (.I x.m4)/\w'.cell? ⟨b,o+3+5,none⟩=some (.I x.m5)/\w'.cell? ⟨b,o+3+6,none⟩=some (.I x.m6)/\w'.cell? ⟨b,o+3+7,none⟩=some (.I x.m7))
  (exact S.o _ (by repeat (first | with_reducible exact BW.o | with_reducible refine zav ?_ _ | with_reducible exact zR | with_reducible refine Below.drew ?_)))
  (fail)
 all_goals
  go_wp2;refine bodyPost_ret (v:=.agg #[.I x.kind,.I x.size,.I x.links,.I x.m0,.I x.m1,.I x.m2,.I x.m3,.I x.m4,.I x.m5,.I x.m6,.I x.m7]) (by simp[results,Tryz.results34,go_sem]) rfl ⟨rfl,?_⟩
  repeat (first | with_reducible exact zR | with_reducible refine zav ?_ _ | with_reducible refine Below.drew ?_)
def denZ(z0 z1 z2:Int):Den:=if z2=0 then⟨0,⟨#[]⟩,-1⟩ else⟨z0,zte z1,z2-1⟩
def znx(z0 z1 z2:Int):Bool:=if z2=0 then z0 == 0&&z1 == 0 else zfs z1
theorem zpe(b o n c:Nat)(z0 z1 z2:Int)(w:World)(hn:3<=n)(_hc:n<=c)(hb:b<w.heap.size)(h0:w.cell? ⟨b,o,none⟩=some (.I z0))(h1:w.cell? ⟨b,o+1,none⟩=some (.I z1))(h2:w.cell? ⟨b,o+2,none⟩=some (.I z2))(hF:FD w)(r1:z1<=9223372036854775807)(r2:0<=z2/\z2<=9223372036854775807) :
  zC 35 #[.slice (some ⟨b,o,none⟩) n c] w fun e w'=>(∃ s,e=.returned (.tuple #[.agg #[.I (denZ z0 z1 z2).dir,.string s,.I (denZ z0 z1 z2).child],.bool (znx z0 z1 z2)])/\(znx z0 z1 z2=true->s=(denZ z0 z1 z2).name))/\zB w w':=by
 have BW:=zaa ((Below.refl w.heap.size w).alloc zL (.cells #[.I 0,.string ⟨#[]⟩,.I 0] 90))
 have S:Hid (∀ w',zB w w'->w'.cell? ⟨b,o,none⟩=some (.I z0)/\w'.cell? ⟨b,o+1,none⟩=some (.I z1)/\w'.cell? ⟨b,o+2,none⟩=some (.I z2)):=fun w' hw'=>⟨(hw'.cell (p:=⟨b,o,none⟩) hb).trans h0,(hw'.cell (p:=⟨b,o+1,none⟩) hb).trans h1,(hw'.cell (p:=⟨b,o+2,none⟩) hb).trans h2⟩
 obtain⟨s0,s1,s2⟩:=S.o _ BW.o;have F:=zaa hF
 have i0:(0:Int)<(n:Int):=by omega
 have i00:0<n:=by omega
 have i1:(1:Int)<(n:Int):=by omega
 have i2:(2:Int)<(n:Int):=by omega
 clear h0 h1 h2 hF
 by_cases c2:z2=0
 ·subst c2
  have E1:denZ z0 z1 0=⟨0,⟨#[]⟩,-1⟩:=by unfold denZ;rw[if_pos rfl]
  have E2:znx z0 z1 0=(z0 == 0&&z1 == 0):=by unfold znx;rw[if_pos rfl]
  rw[E1,E2];clear E1 E2;obtain⟨f0,f1,f2⟩:=FD.cells (F.o.below BW.o)
  by_cases c0:z0=0
  ·have q0:(z0 == 0)=true:=by rw[c0];rfl
   have EQ:Hid ((z0 == 0&&z1 == 0)=(z1 == 0)):=by unfold Hid;rw[q0];rfl
   rw[EQ.o];clear c0 EQ;go_enter Tryz.func35,Tryz.ntmps35;go_wp2_with fail
   go_region_held3 (fun w'=>(w'.cell? ⟨b,o,none⟩=some (.I z0)/\w'.cell? ⟨b,o+1,none⟩=some (.I z1)/\w'.cell? ⟨b,o+2,none⟩=some (.I 0))/\w'.cell? ⟨0,0,none⟩=some (.I 0)/\w'.cell? ⟨0,1,none⟩=some (.string ⟨#[]⟩)/\w'.cell? ⟨0,2,none⟩=some (.I (-1)))
    (exact⟨S.o _ (by repeat (first | with_reducible exact BW.o | with_reducible refine zav ?_ _ | with_reducible exact zR | with_reducible refine Below.drew ?_)),FD.cells (F.o.below (by repeat (first | with_reducible exact BW.o | with_reducible refine zav ?_ _ | with_reducible exact zR | with_reducible refine Below.drew ?_)))⟩)
    (fail)
   all_goals
    go_wp2;refine bodyPost_ret (v:=.tuple #[.agg #[.I 0,.string ⟨#[]⟩,.I (-1)],.bool (z1 == 0)]) (by simp[results,Tryz.results35,go_sem]) rfl ?_;exact⟨⟨_,rfl,fun _=>rfl⟩,(by repeat (first | with_reducible exact BW.o | with_reducible exact zR | with_reducible refine zav ?_ _ | with_reducible refine Below.drew ?_ | refine Below.setCell ?_ (by exact Nat.le_refl _) _))⟩
  ·have q0:(z0 == 0)=false:=by rw[beq_eq_false_iff_ne];exact c0
   have EQ:Hid ((z0 == 0&&z1 == 0)=false):=by unfold Hid;rw[q0];rfl
   rw[EQ.o];clear c0 EQ;go_enter Tryz.func35,Tryz.ntmps35;go_wp2_with fail
   go_region
   all_goals
    go_wp2;refine bodyPost_ret (v:=.tuple #[.agg #[.I 0,.string ⟨#[]⟩,.I (-1)],.bool false]) (by simp[results,Tryz.results35,go_sem]) rfl ?_;exact⟨⟨_,rfl,fun _=>rfl⟩,(by repeat (first | with_reducible exact BW.o | with_reducible exact zR | with_reducible refine zav ?_ _ | with_reducible refine Below.drew ?_ | refine Below.setCell ?_ (by exact Nat.le_refl _) _))⟩
 ·have q:(z2 == 0)=false:=by rw[beq_eq_false_iff_ne];exact c2
  have E1:denZ z0 z1 z2=⟨z0,zte z1,z2-1⟩:=by unfold denZ;rw[if_neg c2]
  have E2:znx z0 z1 z2=zfs z1:=by unfold znx;rw[if_neg c2]
  rw[E1,E2];have LU:=zaa (fun w1=>zjq z1 w1 r1)
  have EU:Hid ((unpC z1 == 0)=zfs z1):=by
   unfold Hid unpC
   cases zfs z1<;>rfl
  have wp1:IntKind.i64.wrap (z2-1)=z2-1:=by rw[IntKind.wrap_i64];omega
  rw[<- EU.o];clear E1 E2 c2 EU;generalize unpC z1=uc at *;generalize zte z1=us at *;go_enter Tryz.func35,Tryz.ntmps35;go_wp2_with fail;refine(LU.o _).mono ?_;rintro e w1 ⟨rfl,hb1⟩;have B1:=zaa (zab BW.o hb1 BW.o.size);have VB:Hid (w1.heap[w.heap.size]?=some (.cells #[.I 0,.string ⟨#[]⟩,.I 0] 90 (0,0))):=(hb1.block _ (by simp)).trans (zah rfl);clear hb1 s0 s1 s2;obtain⟨s0,s1,s2⟩:=S.o _ B1.o;obtain⟨t0,t1,t2⟩:=zba VB.o;have u0:=(zak (xs:=[.I 0,.string ⟨#[]⟩,.I 0]) VB.o 0).2;have u1:=(zak (xs:=[.I 0,.string ⟨#[]⟩,.I 0]) VB.o 1).2;have u2:=(zak (xs:=[.I 0,.string ⟨#[]⟩,.I 0]) VB.o 2).2;go_wp2_with fail
  go_region_held3 (fun w'=>w'.cell? ⟨b,o,none⟩=some (.I z0)/\w'.cell? ⟨b,o+1,none⟩=some (.I z1)/\w'.cell? ⟨b,o+2,none⟩=some (.I z2))
   (exact S.o _ (by repeat (first | with_reducible exact B1.o | with_reducible refine Below.drew ?_ | refine Below.setCell ?_ (by exact Nat.le_refl _) _)))
   (fail)
  all_goals
   go_wp2;refine bodyPost_ret (v:=.tuple #[.agg #[.I z0,.string us,.I (z2-1)],.bool (uc == 0)]) (by simp[results,Tryz.results35,go_sem,t0,t1,t2]) rfl ?_;exact⟨⟨_,rfl,fun _=>rfl⟩,(by repeat (first | with_reducible exact B1.o | with_reducible refine Below.drew ?_ | refine Below.setCell ?_ (by exact Nat.le_refl _) _))⟩
theorem zrm{w:World}{base:Nat}{e:TypeId}{size:Nat}{v:Value}{n:Nat}{xs:List Value}(h:w.ownsRow base e size v n xs)(hn:0<n):∃ b c,v=.slice (some ⟨b,0,none⟩) n c/\n<=c:=by
 rcases(zad h).shape with ⟨_,e,_⟩ | ⟨b,c,rfl,hc,_⟩
 ·omega
 ·exact⟨b,c,rfl,hc⟩
theorem yaiz(ls:List Int)(k:Nat):denZ (wdI ls (240+3*(k:Int))) (wdI ls (240+3*(k:Int)+1)) (wdI ls (240+3*(k:Int)+2))=zfe ls k/\znx (wdI ls (240+3*(k:Int))) (wdI ls (240+3*(k:Int)+1)) (wdI ls (240+3*(k:Int)+2))=zbo ls k:=⟨rfl,rfl⟩
theorem yaqn(ls:List Int)(n j:Nat)(h:n+j<ls.length):ls[n+j]=wdI ls ((n:Int)+(j:Int)):=by
 have:=yaos h;rw[<- this]
 congr 1
theorem yauu(ls:List Int)(i:Nat)(hi:i<16)(hl:ls.length=336)(j:Nat)(hj:j<11):(zdb ls)[48+12*i+j]?=(zdj ls i).cs[j]?:=by
 rw[zcp ls (48+12*i+j) (by omega),yaqn ls (48+12*i) j (by omega),show(((48+12*i:Nat):Int)+(j:Int))=48+12*(i:Int)+(j:Int) by omega]
 rcases(show j=0\/j=1\/j=2\/j=3\/j=4\/j=5\/j=6\/j=7\/j=8\/j=9\/j=10 by omega)with rfl|rfl|rfl|rfl|rfl|rfl|rfl|rfl|rfl|rfl|rfl
 ·simp[zdj,Ino.cs]
 all_goals rfl
theorem zgd(v:Value)(ws:List Int)(ps:List St)(w:World)(h:RdPm w v ws ps)(hw:ws.length<=1048576)(hp:ps.length<=1048576)(hT:TS w)(hE:ED w)(hF:FD w) :
  zC 12 #[v] w fun e w'=>∃ v',e=.returned (.tuple #[v',.I (riC ws ps)])/\RowIm w' w.heap.size w'.heap.size v' (riN ws ps) (riD ws ps)/\zB w w':=by
 have HR:=zaa h;have LS:=zaa (fun w1 h=>zph v ws ps w1 h hw hp);have T:=zaa hT;have E:=zaa hE;have F:=zaa hF;obtain⟨vW,vP,rfl,h1,h2⟩:=h;obtain⟨aW,cW,rfl,_,_⟩:=h1.shape;obtain⟨aP,cP,rfl,_,_⟩:=h2.shape;clear h1 h2 hT hE hF
 obtain⟨W1,hW1⟩:=zE ((w.alloc (.cells #[.slice aW ws.length cW,.slice aP ps.length cP] 26)).alloc (.cells #[.N,.N] 51))
 have hz1:W1.heap.size=w.heap.size+1+1:=by rw[hW1];simp
 have CA:Hid (∀ w',zB W1 w'->w'.cell? ⟨w.heap.size,0,none⟩=some (.slice aW ws.length cW)/\w'.cell? ⟨w.heap.size,1,none⟩=some (.slice aP ps.length cP)):=fun w' hb=>by
  have:w'.heap[w.heap.size]?=some (.cells #[.slice aW ws.length cW,.slice aP ps.length cP] 26 (0,0)):=(hb.block _ (by omega)).trans (by rw[hW1];exact zal (zah rfl));exact⟨(zac this).1,(zac this).2.1⟩
 have CR:Hid (∀ w',zB W1 w'->w'.heap[w.heap.size+1]?=some (.cells #[.N,.N] 51 (0,0))):=fun w' hb=>(hb.block _ (by omega)).trans (by
  rw[hW1];have:=zah (w:=w.alloc (.cells #[.slice aW ws.length cW,.slice aP ps.length cP] 26)) (o:=.cells #[.N,.N] 51) rfl;rw[World.size_alloc]at this
  exact this)
 have BW:Hid (zB w W1):=by rw[hW1];exact(zR.alloc zL _).alloc (by simp) _
 have hz0:w.heap.size+1<W1.heap.size:=by omega
 clear hz1;obtain⟨x0,x1⟩:=CA.o W1 zR
 cases c1:pmB ws ps with
 | false =>
  obtain⟨E1,E2,E3⟩:=yaot c1;obtain⟨S1,S2⟩:=zzf c1;rw[S1,S2]at LS;rw[E1,E2,E3];clear c1 E1 E2 E3 S1 S2;go_enter Tryz.func12,Tryz.ntmps12;go_wp2_with fail;rw[<- hW1];clear hW1;refine(LS.o _ (HR.o.below BW.o)).mono ?_;rintro e w1 ⟨v1,rfl,_,hb1⟩;have B1:=zaa hb1;clear x0 x1 hb1;have CB:=zaa (CR.o _ B1.o);obtain⟨p0,p1,p2,p3⟩:=zac CB.o;have BR:Hid (zB w ((w1.setCell ⟨w.heap.size+1,0,none⟩ (.N)).setCell ⟨w.heap.size+1,1,none⟩ (.N))):=((zab BW.o B1.o BW.o.size).setCell (by simp only;omega) _).setCell (by simp only;omega) _;go_wp2;refine bodyPost_ret (v:=.tuple #[.agg #[.N,.N],.I 1]) (by simp[results,Tryz.results12,go_sem,p0,p1]) rfl ?_;exact⟨_,rfl,zhk _ _ _,BR.o⟩
 | true =>
 have C1:=zaa c1;obtain⟨S1,S2⟩:=yakd c1;rw[S1,S2]at LS;have L336:=zaa (show(zbz ws ps).length=336 by rw[zcg];exact(zed c1).1);have WR:=zaa (fun z=>zoh c1 z);have NO:=zaa (fun q=>yago C1.o q);have YES:=zaa (fun q=>yauv C1.o q);have RB:=zaa (show riB (zbz ws ps)=(wdI (zbz ws ps) 0 == 7&&(zci (zbz ws ps) 24&&zcr (zbb (zbz ws ps) 16) (zbc (zbz ws ps) 24)))from rfl);have LI:=zaa (fun v w1 h hT hE hF=>zhn v (zbb (zbz ws ps) 16) (zbc (zbz ws ps) 24) w1 h (by rw[zca];omega) (by rw[zbl];omega) hT hE hF (zsi C1.o 16) (zir _ 24));clear c1 S1 S2;generalize riC ws ps=rc at *;generalize riN ws ps=rn at *;generalize riD ws ps=rd at *;generalize zbz ws ps=ls at *;go_enter Tryz.func12,Tryz.ntmps12;go_wp2_with fail;rw[<- hW1];clear hW1;refine(LS.o _ (HR.o.below BW.o)).mono ?_;rintro e w1 ⟨v1,rfl,hr1,hb1⟩;have B1:=zaa hb1;have hzz:W1.heap.size<=w1.heap.size:=hb1.size;obtain⟨b,c,rfl,hcap⟩:=zrm hr1.1 (by have:=L336.o;omega)
 obtain⟨_,_,_,hbl,_,hcl⟩:=hr1.at
 have HC:Hid (∀ w',zB w1 w'->∀ j,j<336->w'.cell? ⟨b,j,none⟩=(zdb ls)[j]?):=fun w' hb j hj=>(hb.cell (p:=⟨b,j,none⟩) hbl).trans (hcl j (by have:=L336.o;omega))
 have c336:336<=c:=by have:=L336.o;omega
 simp only[L336.o];clear hr1 hb1 hcl hcap x0 x1 LS
 have START:Hid (RimI w1 (w1.alloc (.cells #[.N,.N] 51)) w1.heap.size (.N) (.N) (zbb ls 0) []):=⟨zah rfl,World.ownsRow_nil _ _ _ _,World.ownsRow_nil _ _ _ _,zR.alloc zL _,Nat.le_refl _⟩
 go_wp2_with fail
 go_loopg [20] 16 (fun g i wr=>∃ k:Nat,k+g=16/\i=.I k/\Hid (∃ vI vD,RimI w1 wr w1.heap.size vI vD (zbb ls k) []))
 case atStart=>exact⟨0,rfl,rfl,_,_,START.o⟩
 case round =>
  obtain⟨k,hk,rfl,J⟩:=hrel;obtain⟨vI,vD,I⟩:=J.o;have I:=zaa I
  have k0:(0:Int)<=(k:Int):=by omega
  clear J START
  by_cases hlt:k<16
  ·have k1:(k:Int)<16:=by omega
   obtain⟨n,hn⟩:∃ n:Nat,n=48+12*k:=⟨_,rfl⟩
   have wm:IntKind.i64.wrap (12*(k:Int))=12*(k:Int):=by rw[IntKind.wrap_i64];omega
   have wa:IntKind.i64.wrap (48+12*(k:Int))=(n:Int):=by rw[IntKind.wrap_i64];omega
   have a0:(0:Int)<=(n:Int):=by omega
   have a1:(n:Int)<=336:=by omega
   have a2:(n:Int)<=(c:Int):=by omega
   have a3:¬ c=n:=by omega
   have LRI:=zaa (fun w2 (hb:zB wr w2)=>zra b n (336-n) (c-n) (zdj ls k) w2 (by omega) (by omega) (Nat.lt_of_lt_of_le hbl (zab I.o.b hb I.o.z).size) (fun j hj=>by
    have:=HC.o w2 (zab I.o.b hb I.o.z) (n+j) (by omega);rw[this,hn]
    exact yauu ls k hlt L336.o j hj))
   have MN:=zaa (znp ls k);have ML:=zca ls k;unfold Ino.v at LRI;clear hn;generalize zdj ls k=x at *;obtain⟨m0,m1,_,_⟩:=zac I.o.m;have hzI:=I.o.z;go_wp2_with fail
   go_region_law (first
     | (go_simp;go_at_call 34;refine(LRI.o _ (by repeat (first | with_reducible exact BF.o | with_reducible exact zR | with_reducible refine Below.drew ?_))).mono ?_;rintro e w2 ⟨rfl,hb2⟩;have BF:Hid (zB wr w2):=zpj (by repeat (first | with_reducible exact BF.o | with_reducible exact zR | with_reducible refine Below.drew ?_)) hb2;clear hb2;have IA:=zaa ((I.o.below BF.o).below (zR.alloc zL (.cells #[.I x.kind,.I x.size,.I x.links,.I x.m0,.I x.m1,.I x.m2,.I x.m3,.I x.m4,.I x.m5,.I x.m6,.I x.m7] 87)));have RX:=zaa (yapk w2 x);obtain⟨e0,e1,_,_⟩:=zac (I.o.below BF.o).m;obtain⟨f0,f1,_,_⟩:=zac IA.o.m)
     | (refine zan rfl (.tmp 24) (.tmp 31) 48 rfl w1.heap.size 87 (.agg #[.I 0,.I 0,.I 0,.I 0,.I 0,.I 0,.I 0,.I 0,.I 0,.I 0,.I 0]) 11 88 Tryz.underlying48 yait rfl (by decide) _ _ _ rfl IA.o.i _ 1 _ rfl RX.o (ztl _) (by simp[maxLen];omega) (by omega) IA.o.z ?_;intro vN wN hownN hgrN;obtain⟨bN,cN,rfl,_⟩:=zrm hownN (by omega);have GG:=zaa (IA.o.growI x hownN hgrN);obtain⟨g0,g1,g2,g3⟩:=zac GG.o.1;clear hownN hgrN))
   all_goals
    have G:=zaa GG.o.2;rw[<- MN.o]at G;simp only[zca]at G;go_wp2
    go_roundg (16-(k+1))
    case measure=>omega
    case rel=>exact⟨k+1,by omega,by go_num,_,_,G.o⟩
  ·obtain rfl:k=16:=by omega
   have SE:Hid (∃ vI vD,RimI w1 wr w1.heap.size vI vD (zbb ls 16) (zbc ls 0)):=⟨vI,vD,I.o⟩
   have AG0:Hid (∀ j,j<0->zbo ls j=true):=fun j h=>absurd h (by omega)
   have BB:=zaa (zab BW.o B1.o BW.o.size);clear I;go_wp2_with fail
   go_loopg [35] 24 (fun g i wq=>∃ k:Nat,k+g=24/\i=.I k/\Hid ((∃ vI vD,RimI w1 wq w1.heap.size vI vD (zbb ls 16) (zbc ls k))/\∀ j,j<k->zbo ls j=true))
   case atStart=>exact⟨0,rfl,rfl,SE.o,AG0.o⟩
   case round =>
    obtain⟨k,hk,rfl,J⟩:=hrel;obtain⟨vI,vD,I⟩:=J.o.1;have I:=zaa I;have AG:=zaa J.o.2
    have k0:(0:Int)<=(k:Int):=by omega
    clear J SE AG0
    by_cases hlt:k<24
    ·have k1:(k:Int)<24:=by omega
     obtain⟨n,hn⟩:∃ n:Nat,n=240+3*k:=⟨_,rfl⟩
     have wm:IntKind.i64.wrap (3*(k:Int))=3*(k:Int):=by rw[IntKind.wrap_i64];omega
     have wa:IntKind.i64.wrap (240+3*(k:Int))=(n:Int):=by rw[IntKind.wrap_i64];omega
     have a0:(0:Int)<=(n:Int):=by omega
     have a1:(n:Int)<=336:=by omega
     have a2:(n:Int)<=(c:Int):=by omega
     have a3:¬ c=n:=by omega
     have r1:=WR.o (240+3*(k:Int)+1);have r2:=WR.o (240+3*(k:Int)+2)
     have HX:Hid (∀ w2,zB wr w2->∀ j:Nat,j<3->w2.cell? ⟨b,n+j,none⟩=some (.I (wdI ls (240+3*(k:Int)+(j:Int))))):=fun w2 hb j hj=>by
      rw[HC.o w2 (zab I.o.b hb I.o.z) (n+j) (by omega),zcp ls (n+j) (by have:=L336.o;omega),yaqn ls n j (by have:=L336.o;omega),show((n:Int)+(j:Int))=240+3*(k:Int)+(j:Int) by omega]
     have LRD:=zaa (fun w2 (hb:zB wr w2)=>zpe b n (336-n) (c-n) (wdI ls (240+3*(k:Int))) (wdI ls (240+3*(k:Int)+1)) (wdI ls (240+3*(k:Int)+2)) w2 (by omega) (by omega) (Nat.lt_of_lt_of_le hbl (zab I.o.b hb I.o.z).size) (by have:=HX.o w2 hb 0 (by omega);simpa using this) (by have:=HX.o w2 hb 1 (by omega);simpa using this) (by have:=HX.o w2 hb 2 (by omega);simpa using this) (F.o.below (zab BB.o (zab I.o.b hb I.o.z) BB.o.size)) (by omega) (by omega));simp only[(yaiz ls k).1,(yaiz ls k).2]at LRD
     have AGN:Hid (zbo ls k=true->∀ j,j<k+1->zbo ls j=true):=fun q j h=>by
      by_cases e:j=k
      ·subst e;exact q
      ·exact AG.o j (by omega)
     have MN:=zaa (zix ls k);have ML:=zbl ls k
     have GF:Hid (zbo ls k=false->zci ls 24=false):=fun q=>zht (n:=24) hlt q
     clear hn HX r1 r2;generalize zfe ls k=x at *;generalize zbo ls k=gd at *;go_wp2_with fail;refine(LRD.o _ zR).mono ?_;rintro e w2 ⟨⟨s,rfl,hs⟩,hb2⟩;have B2:=zaa hb2;clear LRD hb2;have B3:=zaa (zav B2.o (.cells #[.I x.dir,.string s,.I x.child] 90));have hz2:wr.heap.size<=w2.heap.size:=B2.o.size;have hz3:w1.heap.size<=wr.heap.size:=I.o.z
     cases gd with
     | false =>
      clear hs AGN MN ML;have CB:=zaa (CR.o _ (zpj B1.o (zab I.o.b B3.o I.o.z)));obtain⟨p0,p1,p2,p3⟩:=zac CB.o;have EE:=zaa (NO.o (by rw[RB.o,GF.o rfl];simp));have BR:Hid (zB w (((w2.alloc (.cells #[.I x.dir,.string s,.I x.child] 90)).setCell ⟨w.heap.size+1,0,none⟩ (.N)).setCell ⟨w.heap.size+1,1,none⟩ (.N))):=((zab BB.o (zab I.o.b B3.o I.o.z) BB.o.size).setCell (by simp only;omega) _).setCell (by simp only;omega) _;go_wp2;refine bodyPost_ret (v:=.tuple #[.agg #[.N,.N],.I 3]) (by simp[results,Tryz.results12,go_sem,p0,p1]) rfl ?_;obtain⟨E1,E2,E3⟩:=EE.o;rw[E1,E2,E3];exact⟨_,rfl,zhk _ _ _,BR.o⟩
     | true =>
      obtain rfl:=hs rfl;have AG2:=zaa (AGN.o rfl);clear hs GF AGN;have XB:Hid (BoxZ 90 wr (w2.alloc (.cells #[.I x.dir,.string x.name,.I x.child] 90)) w2.heap.size [.I x.dir,.string x.name,.I x.child]):=BoxZ.new B2.o;have e0:=(XB.o.cell 0).1;have e1:=(XB.o.cell 1).1;have e2:=(XB.o.cell 2).1;simp only[List.getElem?_cons_zero,List.getElem?_cons_succ]at e0 e1 e2;have IR:=zaa (I.o.below B3.o);obtain⟨n0,n1,_,_⟩:=zac IR.o.m;have IA:=zaa (IR.o.below (zR.alloc zL (.cells #[.I x.dir,.string x.name,.I x.child] 90)));have RX:=zaa (yabk (w2.alloc (.cells #[.I x.dir,.string x.name,.I x.child] 90)) x);simp only[World.size_alloc]at RX;have hzA:=IA.o.z;simp only[World.size_alloc]at hzA;go_wp2_with (at_builtin;refine zae _ rfl (.tmp 51) (.tmp 53) 49 rfl w1.heap.size 90 (.agg #[.I 0,.string ⟨#[]⟩,.I 0]) 3 32 Tryz.underlying49 zmy rfl (by decide) _ _ _ rfl IA.o.d _ 1 _ rfl RX.o (zhi _) (by simp[maxLen];omega) (by omega) IA.o.z ?_);intro vN wN hownN hgrN;obtain⟨bN,cN,rfl,_⟩:=zrm hownN (by omega);obtain⟨g1,g2⟩:=IA.o.growD x (by rw[zbl];exact hownN) hgrN;have G:=zaa g2;rw[<- MN.o]at G;clear n0 n1 g2 IA RX hownN hgrN ML MN;obtain⟨n0,n1,n2,n3⟩:=zac g1;clear g1;go_wp2
      go_roundg (24-(k+1))
      case measure=>omega
      case rel=>exact⟨k+1,by omega,by go_num,⟨_,_,G.o⟩,AG2.o⟩
    ·obtain rfl:k=24:=by omega
     have EB:=zaa (zgk (ls:=ls) (n:=24) AG.o);rw[EB.o,Bool.true_and]at RB
     rcases(zad I.o.i).shape with ⟨_,e,_⟩ | ⟨b1,c1,rfl,_,_⟩
     ·rw[zca]at e;omega
     rcases(zad I.o.d).shape with ⟨_,e,_⟩ | ⟨b2,c2,rfl,_,_⟩
     ·rw[zbl]at e;omega
     simp only[zca,zbl]at I
     have R0:Hid (RowIm wr w1.heap.size wr.heap.size (.agg #[.slice (some ⟨b1,0,none⟩) 16 c1,.slice (some ⟨b2,0,none⟩) 24 c2]) (zbb ls 16) (zbc ls 24)):=⟨_,_,rfl,zad I.o.i,zad I.o.d⟩
     obtain⟨n0,n1,_,_⟩:=zac I.o.m;have hzr:w1.heap.size<=wr.heap.size:=I.o.z;have BWr:=zaa (zab BB.o I.o.b BB.o.size);have CB:=zaa (CR.o _ (zpj B1.o I.o.b));have IM:=zaa I.o.m;have IL:=I.o.lt
     have h0:wr.cell? ⟨b,0,none⟩=some (.I (wdI ls 0)):=by
      rw[HC.o wr I.o.b 0 (by omega),zcp ls 0 (by have:=L336.o;omega),yaqn ls 0 0 (by have:=L336.o;omega)];rfl
     clear AG EB I HC WR
     by_cases z:wdI ls 0=7
     case neg =>
      have q:(wdI ls 0 != 7)=true:=by rw[bne_iff_ne];exact z
      have EE:=zaa (NO.o (by rw[RB.o,show(wdI ls 0 == 7)=false by rw[beq_eq_false_iff_ne];exact z];simp));obtain⟨p0,p1,p2,p3⟩:=zac CB.o;have BR:Hid (zB w ((wr.setCell ⟨w.heap.size+1,0,none⟩ (.N)).setCell ⟨w.heap.size+1,1,none⟩ (.N))):=(BWr.o.setCell (by simp only;omega) _).setCell (by simp only;omega) _;clear z;go_wp2;refine bodyPost_ret (v:=.tuple #[.agg #[.N,.N],.I 3]) (by simp[results,Tryz.results12,go_sem,p0,p1]) rfl ?_;obtain⟨E1,E2,E3⟩:=EE.o;rw[E1,E2,E3];exact⟨_,rfl,zhk _ _ _,BR.o⟩
     have q:(wdI ls 0 != 7)=false:=by rw[z];rfl
     rw[z]at RB;have LI2:=zaa (LI.o _ wr R0.o.rd (T.o.below BWr.o) (E.o.below BWr.o) (F.o.below BWr.o));clear LI;generalize zcr (zbb ls 16) (zbc ls 24)=ib at *;rw[z]at h0;clear z q;go_wp2_with fail;refine LI2.o.mono ?_;rintro e w5 ⟨rfl,hb5⟩;have hz5:wr.heap.size<=w5.heap.size:=hb5.size;have B5:=zaa (zab BWr.o hb5 BWr.o.size);have R5:=zaa (R0.o.below hb5 zL);have CB5:=zaa ((hb5.block _ (by omega)).trans CB.o);have IM5:=zaa ((hb5.block _ IL).trans IM.o);clear n0 n1 h0 hb5 R0 CB IM LI2;obtain⟨n0,n1,_,_⟩:=zac IM5.o;obtain⟨p0,p1,p2,p3⟩:=zac CB5.o
     cases ib with
     | false =>
      have EE:=zaa (NO.o (by rw[RB.o];rfl));have BR:Hid (zB w ((w5.setCell ⟨w.heap.size+1,0,none⟩ (.N)).setCell ⟨w.heap.size+1,1,none⟩ (.N))):=(B5.o.setCell (by simp only;omega) _).setCell (by simp only;omega) _;go_wp2;refine bodyPost_ret (v:=.tuple #[.agg #[.N,.N],.I 3]) (by simp[results,Tryz.results12,go_sem,p0,p1]) rfl ?_;obtain⟨E1,E2,E3⟩:=EE.o;rw[E1,E2,E3];exact⟨_,rfl,zhk _ _ _,BR.o⟩
     | true =>
      have EE:=zaa (YES.o (by rw[RB.o];rfl));have BR:Hid (zB w ((w5.setCell ⟨w.heap.size+1,0,none⟩ (.slice (some ⟨b1,0,none⟩) 16 c1)).setCell ⟨w.heap.size+1,1,none⟩ (.slice (some ⟨b2,0,none⟩) 24 c2))):=(B5.o.setCell (by simp only;omega) _).setCell (by simp only;omega) _;have RF:=zaa (zqh (yaex R5.o CB5.o (.slice (some ⟨b1,0,none⟩) 16 c1) (.slice (some ⟨b2,0,none⟩) 24 c2)) (lo':=w.heap.size) (hi':=((w5.setCell ⟨w.heap.size+1,0,none⟩ (.slice (some ⟨b1,0,none⟩) 16 c1)).setCell ⟨w.heap.size+1,1,none⟩ (.slice (some ⟨b2,0,none⟩) 24 c2)).heap.size) (by have:=BB.o.size;omega) (by simp;omega));clear CB5 R5 IM5;go_wp2;refine bodyPost_ret (v:=.tuple #[.agg #[.slice (some ⟨b1,0,none⟩) 16 c1,.slice (some ⟨b2,0,none⟩) 24 c2],.I 0]) (by simp[results,Tryz.results12,go_sem,p0,p1]) rfl ?_;obtain⟨E1,E2,E3⟩:=EE.o;rw[E1,E2,E3];exact⟨_,rfl,RF.o,BR.o⟩
end Go.Proofs.YtogcbbkhnpmgeaaGreatDoor
