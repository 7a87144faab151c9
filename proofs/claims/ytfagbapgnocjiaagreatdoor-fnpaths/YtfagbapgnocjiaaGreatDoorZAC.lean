import Derived.Test.YtfagbapgnocjiaaGreatDoorZAA
import Derived.BigRegion
set_option maxRecDepth 100000
set_option maxHeartbeats 8000000
namespace Go.Proofs.YtfagbapgnocjiaaGreatDoor
open Go.RowKit
def TS(w:World):Prop:=∃ t fr,w.heap[5]?=some (.cells #[.I 1,.I 24,.I 32] t fr)
theorem TS.lt{w:World}(h:TS w):5<w.heap.size:=by
 obtain⟨t,fr,h⟩:=h;exact(Array.getElem?_eq_some_iff.1 h).1
theorem TS.below{w w':World}(h:TS w)(hb:zB w w'):TS w':=by
 have hl:=h.lt;obtain⟨t,fr,h⟩:=h;exact⟨t,fr,(hb.block _ hl).trans h⟩
theorem TS.cells{w:World}(h:TS w):w.cell? ⟨5,0,none⟩=some (.I 1)/\w.cell? ⟨5,1,none⟩=some (.I 24)/\w.cell? ⟨5,2,none⟩=some (.I 32):=by
 obtain⟨t,fr,h⟩:=h;simp[World.cell?,h]
def zgt(t a:Int):Bool:=decide ((t=0/\a=0)\/(t=1/\0<=a/\a<24)\/(t=2/\0<=a/\a<32))
theorem yaba{t a:Int}(h:(t=0/\a=0)\/(t=1/\0<=a/\a<24)\/(t=2/\0<=a/\a<32)):zgt t a=true:=decide_eq_true h
theorem zja{t a:Int}(h:¬ ((t=0/\a=0)\/(t=1/\0<=a/\a<24)\/(t=2/\0<=a/\a<32))):zgt t a=false:=decide_eq_false h
theorem yabt{t a:Int}(h:zgt t a=true):(t=0/\a=0)\/(t=1/\0<=a/\a<24)\/(t=2/\0<=a/\a<32):=of_decide_eq_true h
def zel(e:Int):Bool:=decide (0<=e)&&zgt (e%4) (e/4)
def tieT(e:Int):Int:=if zel e=true then e%4 else 0
def tieA(e:Int):Int:=if zel e=true then e/4 else 0
def tieC(e:Int):Int:=if zel e=true then 0 else 3
theorem yanz{e:Int}(h:zel e=true):tieT e=e%4/\tieA e=e/4/\tieC e=0:=by unfold tieT tieA tieC;rw[if_pos h,if_pos h,if_pos h];exact⟨rfl,rfl,rfl⟩
theorem zyq{e:Int}(h:zel e=false):tieT e=0/\tieA e=0/\tieC e=3:=by unfold tieT tieA tieC;rw[h];exact⟨rfl,rfl,rfl⟩
theorem yaev{n:Int}(h:n<0):zgt (n.tmod 4) (n.tdiv 4)=false:=by
 apply zja
 obtain⟨m,rfl⟩:∃ m:Int,n=-m:=⟨-n,by omega⟩
 rw[Int.neg_tmod,Int.neg_tdiv,Int.tmod_eq_emod_of_nonneg (by omega),Int.tdiv_eq_ediv_of_nonneg (by omega)];omega
theorem zom{a b c d e f:Int}(h:a=b)(k:c=d)(l:e=f):Ending.returned (.tuple #[.I a,.I c,.I e])=.returned (.tuple #[.I b,.I d,.I f]):=by rw[h,k,l]
theorem zrs(t a:Int)(w:World)(hT:TS w)(h:zgt t a=true):zC 186 #[.I t,.I a] w fun e w'=>e=.returned (.bool true)/\w'=w:=by
 obtain⟨x0,x1,x2⟩:=hT.cells;clear hT
 rcases yabt h with ⟨rfl,rfl⟩ | ⟨rfl,h1,h2⟩ | ⟨rfl,h1,h2⟩
 all_goals
  clear h;go_enter Tryz.func186,Tryz.ntmps186;go_wp2_with (go_at_call 31;refine(zba _ _ _ (by omega)).mono ?_;rintro e w' ⟨rfl,rfl⟩);go_ret;exact⟨rfl,rfl⟩
theorem zkn(t a:Int)(w:World)(hT:TS w)(h:zgt t a=false):zC 186 #[.I t,.I a] w fun e w'=>e=.returned (.bool false)/\w'=w:=by
 obtain⟨x0,x1,x2⟩:=hT.cells;have h':¬ ((t=0/\a=0)\/(t=1/\0<=a/\a<24)\/(t=2/\0<=a/\a<32)):=of_decide_eq_false h;clear hT h
 rcases(show(t=0/\¬ (0<=a/\a<1))\/(t=1/\¬ (0<=a/\a<24))\/(t=2/\¬ (0<=a/\a<32))\/¬ (0<=t/\t<3) by omega)with ⟨rfl,ha⟩ | ⟨rfl,ha⟩ | ⟨rfl,ha⟩ | ha
 all_goals
  have H:=zaa ha;clear h' ha;go_enter Tryz.func186,Tryz.ntmps186;go_wp2_with (first | (go_at_call 31;refine(zba _ _ _ (by omega)).mono ?_;rintro e w' ⟨rfl,rfl⟩) | (go_at_call 31;refine(zdy _ _ _ H.o).mono ?_;rintro e w' ⟨rfl,rfl⟩));go_ret;exact⟨rfl,rfl⟩
theorem zhw(n:Int)(w:World)(hT:TS w)(h0:-9223372036854775808<=n)(h1:n<=9223372036854775807):zC 174 #[.I n] w fun e w'=>e=.returned (.tuple #[.I (tieT n),.I (tieA n),.I (tieC n)])/\w'=w:=by
 have T:=zaa hT;clear hT
 by_cases c0:0<=n
 ·by_cases c:zgt (n%4) (n/4)=true
  ·have E:=zaa (yanz (e:=n) (by unfold zel;rw[c,decide_eq_true c0];rfl));have C:=zaa c;clear c;go_enter Tryz.func174,Tryz.ntmps174;go_wp2_with (go_at_call 186;refine(zrs _ _ _ T.o C.o).mono ?_;rintro e w' ⟨rfl,rfl⟩);go_ret3;exact⟨zom (by rw[E.o.1]) (by rw[E.o.2.1]) E.o.2.2.symm,rfl⟩
  ·have c':zgt (n%4) (n/4)=false:=by simpa using c
   have E:=zaa (zyq (e:=n) (by unfold zel;rw[c'];simp));have C:=zaa c';clear c c';go_enter Tryz.func174,Tryz.ntmps174;go_wp2_with (go_at_call 186;refine(zkn _ _ _ T.o C.o).mono ?_;rintro e w' ⟨rfl,rfl⟩);go_ret3;exact⟨zom E.o.1.symm E.o.2.1.symm E.o.2.2.symm,rfl⟩
 ·have E:=zaa (zyq (e:=n) (by unfold zel;rw[decide_eq_false c0];rfl));go_enter Tryz.func174,Tryz.ntmps174;go_wp2_with (go_at_call 186;refine(zkn _ _ _ T.o (yaev (by omega))).mono ?_;rintro e w' ⟨rfl,rfl⟩);go_ret3;exact⟨zom E.o.1.symm E.o.2.1.symm E.o.2.2.symm,rfl⟩
theorem zfh(t a:Int)(w:World)(h:0<=t/\t<3)(k:0<=a/\a<32):zC 146 #[.I t,.I a] w fun e w'=>e=.returned (.I (4*a+t))/\w'=w:=by
 go_enter Tryz.func146,Tryz.ntmps146;go_wp2;go_ret;exact⟨rfl,rfl⟩
theorem zef(n:Int)(w:World)(h0:0<=n)(h1:n<=9223372036854775807):zC 128 #[.I n] w fun e w'=>e=.returned (.tuple #[.I (n%4),.I (n/4)])/\w'=w:=by
 go_enter Tryz.func128,Tryz.ntmps128;go_wp2;go_ret2;exact⟨rfl,rfl⟩
theorem zwp(n:Int)(w:World)(h0:n<0)(h1:-9223372036854775808<=n):zC 128 #[.I n] w fun e w'=>(∃ x y:Int,e=.returned (.tuple #[.I x,.I y]))/\w'=w:=by
 go_enter Tryz.func128,Tryz.ntmps128;go_wp2;go_ret2;exact⟨⟨_,_,rfl⟩,rfl⟩
theorem zeg(n:Int)(w:World)(h0:-9223372036854775808<=n)(h1:n<=9223372036854775807):zC 88 #[.I n] w fun e w'=>e=.returned (.bool (zel n))/\w'=w:=by
 rcases(show n<0\/n=0\/0<n by omega)with c | rfl | c
 ·have E:=zaa (show zel n=false by unfold zel;rw[decide_eq_false (by omega)];rfl)
  have q0:(n == 0)=false:=by rw[beq_eq_false_iff_ne];omega
  have q1:¬ 0<n:=by omega
  go_enter Tryz.func88,Tryz.ntmps88;go_wp2_with fail;refine(zwp _ _ c h0).mono ?_;rintro e w' ⟨⟨x,y,rfl⟩,rfl⟩;go_wp2;go_ret;exact⟨zah E.o.symm,rfl⟩
 ·go_enter Tryz.func88,Tryz.ntmps88;go_wp2;go_ret;exact⟨zah (by decide),rfl⟩
 ·have q0:(n == 0)=false:=by rw[beq_eq_false_iff_ne];omega
  have E:=zaa (show zel n=zgt (n%4) (n/4) by unfold zel;rw[decide_eq_true (by omega)];rfl)
  rcases(show(n%4=1/\n/4<24)\/(n%4=1/\¬ n/4<24)\/(n%4=2/\n/4<32)\/(n%4=2/\¬ n/4<32)\/(¬ n%4=1/\¬ n%4=2) by omega)with ⟨r,q⟩ | ⟨r,q⟩ | ⟨r,q⟩ | ⟨r,q⟩ | ⟨r,q⟩
  ·have A:=zaa (yaba (t:=n%4) (a:=n/4) (by omega))
   have r1:(n%4 == 1)=true:=by rw[beq_iff_eq];exact r
   clear r;go_enter Tryz.func88,Tryz.ntmps88;go_wp2_with fail;refine(zef _ _ (by omega) h1).mono ?_;rintro e w' ⟨rfl,rfl⟩;go_wp2;go_ret;exact⟨zah (by rw[E.o,A.o];first | done | exact decide_eq_false (by omega)),rfl⟩
  ·have A:=zaa (zja (t:=n%4) (a:=n/4) (by omega))
   have r1:(n%4 == 1)=true:=by rw[beq_iff_eq];exact r
   have r2:(n%4 == 2)=false:=by rw[beq_eq_false_iff_ne];omega
   clear r;go_enter Tryz.func88,Tryz.ntmps88;go_wp2_with fail;refine(zef _ _ (by omega) h1).mono ?_;rintro e w' ⟨rfl,rfl⟩;go_wp2;go_ret;exact⟨zah (by rw[E.o,A.o];first | done | exact decide_eq_false (by omega)),rfl⟩
  ·have A:=zaa (yaba (t:=n%4) (a:=n/4) (by omega))
   have r1:(n%4 == 1)=false:=by rw[beq_eq_false_iff_ne];omega
   have r2:(n%4 == 2)=true:=by rw[beq_iff_eq];exact r
   clear r;go_enter Tryz.func88,Tryz.ntmps88;go_wp2_with fail;refine(zef _ _ (by omega) h1).mono ?_;rintro e w' ⟨rfl,rfl⟩;go_wp2;go_ret;exact⟨zah (by rw[E.o,A.o];first | done | exact decide_eq_false (by omega)),rfl⟩
  ·have A:=zaa (zja (t:=n%4) (a:=n/4) (by omega))
   have r1:(n%4 == 1)=false:=by rw[beq_eq_false_iff_ne];omega
   have r2:(n%4 == 2)=true:=by rw[beq_iff_eq];exact r
   clear r;go_enter Tryz.func88,Tryz.ntmps88;go_wp2_with fail;refine(zef _ _ (by omega) h1).mono ?_;rintro e w' ⟨rfl,rfl⟩;go_wp2;go_ret;exact⟨zah (by rw[E.o,A.o];first | done | exact decide_eq_false (by omega)),rfl⟩
  ·have A:=zaa (zja (t:=n%4) (a:=n/4) (by omega))
   have r1:(n%4 == 1)=false:=by rw[beq_eq_false_iff_ne];exact r
   have r2:(n%4 == 2)=false:=by rw[beq_eq_false_iff_ne];exact q
   clear r q;go_enter Tryz.func88,Tryz.ntmps88;go_wp2_with fail;refine(zef _ _ (by omega) h1).mono ?_;rintro e w' ⟨rfl,rfl⟩;go_wp2;go_ret;exact⟨zah (by rw[E.o,A.o];first | done | exact decide_eq_false (by omega)),rfl⟩
def bys(zs:List Int):List Value:=zs.map (Value.int .u8)
theorem yanv(zs:List Int)(k:Nat)(h:k<zs.length):(bys zs)[k]?=some (.int .u8 zs[k]):=by simp[bys,h]
def RdB(w:World)(v:Value)(zs:List Int):Prop:=Rd w 1 v zs.length (bys zs)/\∀ k (h:k<zs.length),0<=zs[k]/\zs[k]<256
theorem RdB.shape{w:World}{v:Value}{zs:List Int}(h:RdB w v zs):∃ ao cap,v=.slice ao zs.length cap/\zs.length<=cap/\(0<zs.length->∃ b o,ao=some ⟨b,o,none⟩/\b<w.heap.size/\∀ k (h:k<zs.length),w.cell? ⟨b,o+k,none⟩=some (.int .u8 zs[k])):=by
 obtain⟨⟨_,ao,cap,rfl,h2,h3⟩,_⟩:=h;refine⟨ao,cap,rfl,h2.1,fun hn=>?_⟩;obtain⟨b,o,rfl,hb,hc⟩:=h3 hn;exact⟨b,o,rfl,hb,fun k hk=>(hc k (by omega)).trans (yanv zs k hk)⟩
theorem RdB.below{w w':World}{v:Value}{zs:List Int}(h:RdB w v zs)(hb:zB w w'):RdB w' v zs:=⟨h.1.below hb,h.2⟩
theorem zfq{w:World}{b:Nat}{x y z:Value}{t:TypeId}(h:w.heap[b]?=some (.cells #[x,y,z] t (0,0))) :
  w.cell? ⟨b,0,none⟩=some x/\w.cell? ⟨b,1,none⟩=some y/\w.cell? ⟨b,2,none⟩=some z/\∀ j,w.frozen? ⟨b,j,none⟩=false:=by
 refine⟨?_,?_,?_,fun j=>?_⟩<;>simp[World.cell?,World.frozen?,h]
structure Src(w0 w:World)(b:Nat)(vC:Value)(bs:List Int)(k:Nat):Prop where
 code:RdB w0 vC bs
 len:bs.length<=1048576
 old:w0.heap.size<=b
 below:zB w0 w
 size:b<w.heap.size
 cells:∃ at_ seed:Int,0<=at_/\at_<=k/\0<=seed/\seed<2147483648/\w.heap[b]?=some (.cells #[vC,.I at_,.I seed] 67 (0,0))
theorem Src.outside{w0 w w':World}{b k:Nat}{vC:Value}{bs:List Int}(h:Src w0 w b vC bs k){lo hi:Nat}(ho:Outside lo hi w w')(hl:b<lo\/hi<=b)(hl2:w0.heap.size<=lo):Src w0 w' b vC bs k :=
 ⟨h.code,h.len,h.old,h.below.trans (ho.below hl2 h.below.size),Nat.lt_of_lt_of_le h.size ho.size,by
  obtain⟨a,s,h1,h2,h3,h4,h5⟩:=h.cells
  exact⟨a,s,h1,h2,h3,h4,(ho.block b h.size hl).trans h5⟩⟩
theorem Src.newer{w0 w w':World}{b k:Nat}{vC:Value}{bs:List Int}(h:Src w0 w b vC bs k)(hb:zB w w'):Src w0 w' b vC bs k :=
 h.outside (lo:=w.heap.size) (hi:=w'.heap.size) (Outside.of_below hb) (.inl h.size) h.below.size
theorem Outside.drewN{lo hi:Nat}{a w:World}(h:Outside lo hi a w)(n:Nat):Outside lo hi a (w.drewN n):=by
 induction n with
 | zero=>exact h
 | succ n ih=>exact⟨ih.os,ih.tape,ih.output,ih.size,ih.block⟩
theorem yana{w:World}{b:Nat}{x y z:Value}{t:TypeId}(h:w.heap[b]?=some (.cells #[x,y,z] t (0,0)))(u:Value):(w.setCell ⟨b,1,none⟩ u).heap[b]?=some (.cells #[x,u,z] t (0,0)):=by
 simp[World.setCell,Array.getElem?_modify,h]
theorem zyv{w:World}{b:Nat}{x y z:Value}{t:TypeId}(h:w.heap[b]?=some (.cells #[x,y,z] t (0,0)))(u:Value):(w.setCell ⟨b,2,none⟩ u).heap[b]?=some (.cells #[x,y,u] t (0,0)):=by
 simp[World.setCell,Array.getElem?_modify,h]
theorem Src.set{w0 w w':World}{b k k':Nat}{vC:Value}{bs:List Int}(h:Src w0 w b vC bs k)(ho:Outside b (b+1) w w'){at_ seed:Int}(h1:0<=at_)(h2:at_<=k')(h3:0<=seed)(h4:seed<2147483648)(h5:w'.heap[b]?=some (.cells #[vC,.I at_,.I seed] 67 (0,0))):Src w0 w' b vC bs k' :=
 ⟨h.code,h.len,h.old,h.below.trans (ho.below h.old h.below.size),Nat.lt_of_lt_of_le h.size ho.size,⟨at_,seed,h1,h2,h3,h4,h5⟩⟩
theorem Src.more{w0 w:World}{b k k':Nat}{vC:Value}{bs:List Int}(h:Src w0 w b vC bs k)(hk:k<=k'):Src w0 w b vC bs k' :=
 ⟨h.code,h.len,h.old,h.below,h.size,by obtain⟨a,s,h1,h2,h3⟩:=h.cells;exact⟨a,s,h1,by omega,h3⟩⟩
theorem size_set(w:World)(a:Addr)(u:Value):(w.setCell a u).heap.size=w.heap.size:=by simp[World.setCell]
theorem zdz(w:World)(n:Nat):(w.drewN n).heap=w.heap:=by
 induction n with
 | zero=>rfl
 | succ n ih=>exact ih
def zqw(bs:List Int)(m:Nat)(seed:Int):Int:=if m<bs.length then bs[m]?.getD 0 else if 3000<m+1 then 0 else(seed*1103515245+12345)%2147483648/65536%256
def zys(bs:List Int)(m:Nat)(seed:Int):Int:=if m<bs.length then(seed*31+bs[m]?.getD 0+7)%2147483648 else if 3000<m+1 then seed else(seed*1103515245+12345)%2147483648
theorem yaih{bs:List Int}{m:Nat}(seed:Int)(h:m<bs.length):zqw bs m seed=bs[m]/\zys bs m seed=(seed*31+bs[m]+7)%2147483648:=by
 unfold zqw zys;rw[if_pos h,if_pos h];simp[h]
theorem zze{bs:List Int}{m:Nat}(seed:Int)(h:¬ m<bs.length)(h2:3000<m+1):zqw bs m seed=0/\zys bs m seed=seed:=by
 unfold zqw zys;rw[if_neg h,if_neg h,if_pos h2,if_pos h2];exact⟨rfl,rfl⟩
theorem zum{bs:List Int}{m:Nat}(seed:Int)(h:¬ m<bs.length)(h2:¬ 3000<m+1):zqw bs m seed=(seed*1103515245+12345)%2147483648/65536%256/\zys bs m seed=(seed*1103515245+12345)%2147483648:=by
 unfold zqw zys;rw[if_neg h,if_neg h,if_neg h2,if_neg h2];exact⟨rfl,rfl⟩
structure SrcE(w0 w:World)(b:Nat)(vC:Value)(bs:List Int)(m:Nat)(seed:Int):Prop where
 src:Src w0 w b vC bs m
 s0:0<=seed
 s1:seed<2147483648
 cells:w.heap[b]?=some (.cells #[vC,.I (m:Int),.I seed] 67 (0,0))
theorem SrcE.set{w0 w w':World}{b m:Nat}{vC:Value}{bs:List Int}{seed seed':Int}(h:SrcE w0 w b vC bs m seed)(ho:Outside b (b+1) w w')(h3:0<=seed')(h4:seed'<2147483648)(h5:w'.heap[b]?=some (.cells #[vC,.I ((m:Int)+1),.I seed'] 67 (0,0))):SrcE w0 w' b vC bs (m+1) seed' :=
 ⟨h.src.set ho (at_:=(m:Int)+1) (seed:=seed') (by omega) (by omega) h3 h4 h5,h3,h4,h5⟩
theorem zsc(w0 w:World)(b m:Nat)(vC:Value)(bs:List Int)(seed:Int)(h:SrcE w0 w b vC bs m seed)(hk:m<=1000000) :
  zC 111 #[.pointer (some ⟨b,0,none⟩)] w fun e w'=>e=.returned (.I (zqw bs m seed))/\SrcE w0 w' b vC bs (m+1) (zys bs m seed)/\Outside b (b+1) w w'/\w'.heap.size=w.heap.size:=by
 have HS:=zaa h;obtain⟨hsrc,s0,s1,hblk⟩:=h;obtain⟨aC,cC,rfl,_,hcC⟩:=hsrc.code.shape;obtain⟨c0,c1,c2,c3⟩:=zfq hblk;have f1:=c3 1;have hlen:=hsrc.len;have NB:=zaa (yana hblk (.I ((m:Int)+1)));have O1:=zaa ((Outside.refl b (b+1) w).setCell (a:=⟨b,1,none⟩) zL (by simp) (.I ((m:Int)+1)));have B1:=zaa (hsrc.below.trans (O1.o.below hsrc.old hsrc.below.size));have hold:=hsrc.old;clear hsrc hblk c3;go_enter Tryz.func111,Tryz.ntmps111;go_wp2_with fail;clear c0 c1 c2 f1;generalize hw1:w.setCell ⟨b,1,none⟩ (.I ((m:Int)+1))=w1 at *
 have hz1:w1.heap.size=w.heap.size:=by rw[<- hw1];exact size_set _ _ _
 obtain⟨c0,c1,c2,c3⟩:=zfq NB.o;have f2:=c3 2;clear c3 hw1
 by_cases c:m<bs.length
 ·obtain⟨bc,oc,rfl,hbc,hcc⟩:=hcC (by omega);have x0:=(B1.o.cell (p:=⟨bc,oc+m,none⟩) hbc).trans (hcc m c);obtain⟨x1,x2⟩:=HS.o.src.code.2 m c;clear hcC hcc;obtain⟨E1,E2⟩:=yaih seed c;have EE:=zaa (And.intro E1 E2);clear E1 E2;generalize bs[m]=x at *
  have cc:((m:Int)+1)<=(bs.length:Int):=by omega
  have c4:(m:Int)<(bs.length:Int):=by omega
  have c5:(0:Int)<=(m:Int):=by omega
  go_quiet (fail)
  go_wp2_with fail;generalize hw2:w1.drewN _=w2
  have e2:w2.heap=w1.heap:=by rw[<- hw2];exact zdz _ _
  have O2:Hid (Outside b (b+1) w w2):=by rw[<- hw2];exact O1.o.drewN _
  have NB2:Hid (w2.heap[b]?=some (.cells #[.slice (some ⟨bc,oc,none⟩) bs.length cC,.I ((m:Int)+1),.I seed] 67 (0,0))):=by rw[e2];exact NB.o
  have x2':=(World.cell?_of_block (w:=w1) (a:=⟨bc,oc+m,none⟩) (by rw[e2])).trans x0;clear c0 c1 c2 f2 x0;obtain⟨c0,c1,c2,c3⟩:=zfq NB2.o;have f2:=c3 2
  have hz2:w2.heap.size=w.heap.size:=by rw[e2];exact hz1
  clear c3 hw2 e2
  go_region
  go_wp2_with fail;have O3:=zaa (Outside.drewN (O2.o.setCell (a:=⟨b,2,none⟩) zL (by simp) (.I ((seed*31+x+7)%2147483648))) 1);have NB3:=zaa (zyv NB2.o (.I ((seed*31+x+7)%2147483648)));generalize hw3:(w2.setCell ⟨b,2,none⟩ (.I ((seed*31+x+7)%2147483648))).drew=w3
  have O4:Hid (Outside b (b+1) w w3):=by rw[<- hw3];exact O3.o
  have NB4:Hid (w3.heap[b]?=some (.cells #[.slice (some ⟨bc,oc,none⟩) bs.length cC,.I ((m:Int)+1),.I ((seed*31+x+7)%2147483648)] 67 (0,0))):=by rw[<- hw3];exact NB3.o
  have hz3:w3.heap.size=w.heap.size:=by rw[<- hw3];exact(size_set _ _ _).trans hz2
  have x3:w3.cell? ⟨bc,oc+m,none⟩=some (.int .u8 x):=by
   rw[<- hw3];exact(World.cell?_of_block (w:=w2) (a:=⟨bc,oc+m,none⟩) (Below.heap_setCell _ _ _ _ (by simp only;omega))).trans x2'
  clear c0 c1 c2 f2 x2' hw3 O3 NB3;obtain⟨c0,c1,c2,c3⟩:=zfq NB4.o;clear c3
  go_quiet (fail)
  go_wp2;go_ret;rw[EE.o.1,EE.o.2];exact⟨rfl,HS.o.set (O4.o.drewN _) (by omega) (by omega) (by rw[zdz];exact NB4.o),O4.o.drewN _,by rw[zdz];exact hz3⟩
 ·have cc:¬ ((m:Int)+1)<=(bs.length:Int):=by omega
  clear hcC
  go_quiet (fail)
  go_wp2
  ·go_ret;obtain⟨E1,E2⟩:=zze seed c (by omega);rw[E1,E2];exact⟨rfl,HS.o.set (O1.o.drewN _) (by omega) (by omega) (by rw[zdz];exact NB.o),O1.o.drewN _,by rw[zdz];exact hz1⟩
  ·go_ret;have O3:=(O1.o.drewN nq).setCell (a:=⟨b,2,none⟩) zL (by simp) (.I ((seed*1103515245+12345)%2147483648));obtain⟨E1,E2⟩:=zum seed c (by omega);rw[E1,E2];refine⟨rfl,HS.o.set O3 (by omega) (by omega) (zyv (by rw[zdz];exact NB.o) _),O3,by rw[size_set,zdz];exact hz1⟩
theorem yakk{w:World}{v:Value}{bs:List Int}(h:RdB w v bs)(m:Nat)(seed:Int):0<=zqw bs m seed/\zqw bs m seed<256:=by
 by_cases c:m<bs.length
 ·rw[(yaih seed c).1];exact h.2 m c
 ·by_cases c2:3000<m+1
  ·rw[(zze seed c c2).1];omega
  ·rw[(zum seed c c2).1];omega
theorem zge(w0 w:World)(b k:Nat)(vC:Value)(bs:List Int)(h:Src w0 w b vC bs k)(hk:k<=1000000) :
  zC 111 #[.pointer (some ⟨b,0,none⟩)] w fun e w'=>∃ r:Int,e=.returned (.I r)/\0<=r/\r<256/\Src w0 w' b vC bs (k+1)/\Outside b (b+1) w w'/\w'.heap.size=w.heap.size:=by
 obtain⟨at_,seed,a0,a1,s0,s1,hblk⟩:=h.cells
 obtain⟨m,rfl⟩:∃ m:Nat,at_=m:=⟨at_.toNat,by omega⟩
 have bd:=yakk h.code m seed;refine(zsc w0 w b m vC bs seed ⟨h.set (Outside.refl _ _ _) a0 (Int.le_refl _) s0 s1 hblk,s0,s1,hblk⟩ (by omega)).mono ?_;rintro e w' ⟨rfl,h1,h2,h3⟩;exact⟨_,rfl,bd.1,bd.2,h1.src.more (by omega),h2,h3⟩
theorem zbn(n:Int)(hn:2<=n/\n<=1000)(w0 w:World)(b k:Nat)(vC:Value)(bs:List Int)(h:Src w0 w b vC bs k)(hk:k<=900000) :
  zC 61 #[.pointer (some ⟨b,0,none⟩),.I n] w fun e w'=>∃ r:Int,e=.returned (.I r)/\0<=r/\r<n/\Src w0 w' b vC bs (k+3)/\Outside b (b+1) w w'/\w'.heap.size=w.heap.size:=by
 have HS:=zaa h;clear h
 by_cases c:n<=256
 ·go_enter Tryz.func61,Tryz.ntmps61;go_wp2_with fail;refine(zge w0 w b k vC bs HS.o (by omega)).mono ?_;rintro e w1 ⟨r,rfl,r0,r1,hs,ho,hz⟩;have S1:=zaa hs;have O1:=zaa ho;clear hs ho;go_wp2;go_ret;exact⟨_,rfl,Int.emod_nonneg _ (by omega),Int.emod_lt_of_pos _ (by omega),S1.o.more (by omega),O1.o,hz⟩
 ·go_enter Tryz.func61,Tryz.ntmps61;go_wp2_with fail;refine(zge w0 w b k vC bs HS.o (by omega)).mono ?_;rintro e w1 ⟨r,rfl,r0,r1,hs,ho,hz⟩;have S1:=zaa hs;have O1:=zaa ho;clear hs ho;go_wp2_with fail;refine(zge w0 w1 b (k+1) vC bs S1.o (by omega)).mono ?_;rintro e w2 ⟨r',rfl,r2,r3,hs,ho,hz2⟩;have S2:=zaa hs;have O2:=zaa (O1.o.trans ho);clear hs ho;go_wp2_with fail;refine(zge w0 w2 b (k+2) vC bs S2.o (by omega)).mono ?_;rintro e w3 ⟨r'',rfl,r4,r5,hs,ho,hz3⟩;have S3:=zaa hs;have O3:=zaa (O2.o.trans ho);clear hs ho;go_wp2;go_ret;exact⟨_,rfl,Int.emod_nonneg _ (by omega),Int.emod_lt_of_pos _ (by omega),S3.o,O3.o,by omega⟩
theorem yadl{w w':World}{cs:Array Value}{t:TypeId}{lo hi:Nat}(ho:Outside lo hi (w.alloc (.cells cs t)) w')(hl:hi<=w.heap.size):w'.heap[w.heap.size]?=some (.cells cs t (0,0)) :=
 (ho.block w.heap.size (by simp) (.inr hl)).trans (zai rfl)
theorem zmv(w0 w:World)(b k:Nat)(vC:Value)(bs:List Int)(h:Src w0 w b vC bs k)(hk:k<=800000) :
  zC 117 #[.pointer (some ⟨b,0,none⟩)] w fun e w'=>∃ r:Int,e=.returned (.I r)/\0<=r/\r<1099511627776/\Src w0 w' b vC bs (k+9)/\Outside b (b+1) w w':=by
 have HS:=zaa h;have hsz:=h.size;clear h;go_enter Tryz.func117,Tryz.ntmps117;go_wp2_with fail;refine(zbn 9 (by omega) w0 w b k vC bs HS.o (by omega)).mono ?_;rintro e w1 ⟨r,rfl,r0,r1,hs,ho,hz⟩;have S1:=zaa hs;have O1:=zaa ho;clear hs ho;go_wp2_with fail;refine(zbn 1000 (by omega) w0 w1 b (k+3) vC bs S1.o (by omega)).mono ?_;rintro e w2 ⟨r',rfl,r2,r3,hs,ho,hz2⟩;have S2:=zaa (hs.newer (zR.alloc zL (.cells #[.I r,.I r',.I 1099511627775] 3)));have O2:=zaa ((O1.o.trans ho).trans (Outside.of_below (zR.alloc zL (.cells #[.I r,.I r',.I 1099511627775] 3))));clear hs ho;go_wp2_with fail;refine(zbn 9 (by omega) w0 _ b (k+6) vC bs S2.o (by omega)).mono ?_;rintro e w3 ⟨r'',rfl,r4,r5,hs,ho,hz3⟩;obtain⟨c0,c1,c2,_⟩:=zfq (yadl ho (by omega));rw[hz2,hz]at c0 c1 c2;have S3:=zaa hs;have O3:=zaa (O2.o.trans ho);clear hs ho
 rcases(show r'' / 4=0\/r'' / 4=1\/r'' / 4=2 by omega)with e | e | e
 ·go_wp2;go_ret;exact⟨_,rfl,by omega,by omega,S3.o,O3.o⟩
 ·go_wp2;go_ret;exact⟨_,rfl,by omega,by omega,S3.o,O3.o⟩
 ·go_wp2;go_ret;exact⟨_,rfl,by omega,by omega,S3.o,O3.o⟩
end Go.Proofs.YtfagbapgnocjiaaGreatDoor
