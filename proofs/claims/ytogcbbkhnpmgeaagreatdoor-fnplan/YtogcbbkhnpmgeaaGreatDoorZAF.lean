import Derived.BigRegion
import Derived.ProofKit
import Derived.OpenShut
import Derived.ShutString
import Derived.ChangeOld
import Derived.Lib.SmallJoins
import Derived.Deep.Slices
import Derived.Deep.Strs
import Derived.Test.YtogcbbkhnpmgeaaGreatDoorZAE
set_option maxRecDepth 100000
set_option maxHeartbeats 8000000
namespace Go.Proofs.YtogcbbkhnpmgeaaGreatDoor
open Go.RowKit
def bys(zs:List Int):List Value:=zs.map (Value.int .u8)
theorem yawu(zs:List Int)(k:Nat)(h:k<zs.length):(bys zs)[k]?=some (.int .u8 zs[k]):=by simp[bys,h]
def RdB(w:World)(v:Value)(zs:List Int):Prop:=Rd w 1 v zs.length (bys zs)/\∀ k (h:k<zs.length),0<=zs[k]/\zs[k]<256
theorem RdB.shape{w:World}{v:Value}{zs:List Int}(h:RdB w v zs):∃ ao cap,v=.slice ao zs.length cap/\zs.length<=cap/\(0<zs.length->∃ b o,ao=some ⟨b,o,none⟩/\b<w.heap.size/\∀ k (h:k<zs.length),w.cell? ⟨b,o+k,none⟩=some (.int .u8 zs[k])):=by
 obtain⟨⟨_,ao,cap,rfl,h2,h3⟩,_⟩:=h;refine⟨ao,cap,rfl,h2.1,fun hn=>?_⟩;obtain⟨b,o,rfl,hb,hc⟩:=h3 hn;exact⟨b,o,rfl,hb,fun k hk=>(hc k (by omega)).trans (yawu zs k hk)⟩
theorem RdB.below{w w':World}{v:Value}{zs:List Int}(h:RdB w v zs)(hb:zB w w'):RdB w' v zs:=⟨h.1.below hb,h.2⟩
theorem zht{w:World}{b:Nat}{x y z:Value}{t:TypeId}(h:w.heap[b]?=some (.cells #[x,y,z] t (0,0))) :
  w.cell? ⟨b,0,none⟩=some x/\w.cell? ⟨b,1,none⟩=some y/\w.cell? ⟨b,2,none⟩=some z/\∀ j,w.frozen? ⟨b,j,none⟩=false:=by
 refine⟨?_,?_,?_,fun j=>?_⟩<;>simp[World.cell?,World.frozen?,h]
structure Src(w0 w:World)(b:Nat)(vC:Value)(bs:List Int)(k:Nat):Prop where
 code:RdB w0 vC bs
 len:bs.length<=1048576
 old:w0.heap.size<=b
 below:zB w0 w
 size:b<w.heap.size
 cells:∃ at_ seed:Int,0<=at_/\at_<=k/\0<=seed/\seed<2147483648/\w.heap[b]?=some (.cells #[vC,.I at_,.I seed] 110 (0,0))
theorem Src.outside{w0 w w':World}{b k:Nat}{vC:Value}{bs:List Int}(h:Src w0 w b vC bs k){lo hi:Nat}(ho:Outside lo hi w w')(hl:b<lo\/hi<=b)(hl2:w0.heap.size<=lo):Src w0 w' b vC bs k :=
 ⟨h.code,h.len,h.old,h.below.trans (ho.below hl2 h.below.size),Nat.lt_of_lt_of_le h.size ho.size,by
  obtain⟨a,s,h1,h2,h3,h4,h5⟩:=h.cells
  exact⟨a,s,h1,h2,h3,h4,(ho.block b h.size hl).trans h5⟩⟩
theorem Src.newer{w0 w w':World}{b k:Nat}{vC:Value}{bs:List Int}(h:Src w0 w b vC bs k)(hb:zB w w'):Src w0 w' b vC bs k :=
 h.outside (lo:=w.heap.size) (hi:=w'.heap.size) (Outside.of_below hb) (.inl h.size) h.below.size
theorem Outside.drewN{lo hi:Nat}{a w:World}(h:Outside lo hi a w)(n:Nat):Outside lo hi a (w.drewN n):=by
 induction n with
 | zero=>exact h
 | succ n ih=>exact⟨ih.os,ih.tape,ih.output,ih.size,ih.block⟩
theorem yati{w:World}{b:Nat}{x y z:Value}{t:TypeId}(h:w.heap[b]?=some (.cells #[x,y,z] t (0,0)))(u:Value):(w.setCell ⟨b,1,none⟩ u).heap[b]?=some (.cells #[x,u,z] t (0,0)):=by
 simp[World.setCell,Array.getElem?_modify,h]
theorem yagd{w:World}{b:Nat}{x y z:Value}{t:TypeId}(h:w.heap[b]?=some (.cells #[x,y,z] t (0,0)))(u:Value):(w.setCell ⟨b,2,none⟩ u).heap[b]?=some (.cells #[x,y,u] t (0,0)):=by
 simp[World.setCell,Array.getElem?_modify,h]
theorem Src.set{w0 w w':World}{b k k':Nat}{vC:Value}{bs:List Int}(h:Src w0 w b vC bs k)(ho:Outside b (b+1) w w'){at_ seed:Int}(h1:0<=at_)(h2:at_<=k')(h3:0<=seed)(h4:seed<2147483648)(h5:w'.heap[b]?=some (.cells #[vC,.I at_,.I seed] 110 (0,0))):Src w0 w' b vC bs k' :=
 ⟨h.code,h.len,h.old,h.below.trans (ho.below h.old h.below.size),Nat.lt_of_lt_of_le h.size ho.size,⟨at_,seed,h1,h2,h3,h4,h5⟩⟩
theorem Src.more{w0 w:World}{b k k':Nat}{vC:Value}{bs:List Int}(h:Src w0 w b vC bs k)(hk:k<=k'):Src w0 w b vC bs k' :=
 ⟨h.code,h.len,h.old,h.below,h.size,by obtain⟨a,s,h1,h2,h3⟩:=h.cells;exact⟨a,s,h1,by omega,h3⟩⟩
theorem size_set(w:World)(a:Addr)(u:Value):(w.setCell a u).heap.size=w.heap.size:=by simp[World.setCell]
theorem zey(w:World)(n:Nat):(w.drewN n).heap=w.heap:=by
 induction n with
 | zero=>rfl
 | succ n ih=>exact ih
def zvt(bs:List Int)(m:Nat)(seed:Int):Int:=if m<bs.length then bs[m]?.getD 0 else if 3000<m+1 then 0 else(seed*1103515245+12345)%2147483648/65536%256
def yaer(bs:List Int)(m:Nat)(seed:Int):Int:=if m<bs.length then(seed*31+bs[m]?.getD 0+7)%2147483648 else if 3000<m+1 then seed else(seed*1103515245+12345)%2147483648
theorem yanx{bs:List Int}{m:Nat}(seed:Int)(h:m<bs.length):zvt bs m seed=bs[m]/\yaer bs m seed=(seed*31+bs[m]+7)%2147483648:=by
 unfold zvt yaer;rw[if_pos h,if_pos h];simp[h]
theorem yaft{bs:List Int}{m:Nat}(seed:Int)(h:¬ m<bs.length)(h2:3000<m+1):zvt bs m seed=0/\yaer bs m seed=seed:=by
 unfold zvt yaer;rw[if_neg h,if_neg h,if_pos h2,if_pos h2];exact⟨rfl,rfl⟩
theorem yaav{bs:List Int}{m:Nat}(seed:Int)(h:¬ m<bs.length)(h2:¬ 3000<m+1):zvt bs m seed=(seed*1103515245+12345)%2147483648/65536%256/\yaer bs m seed=(seed*1103515245+12345)%2147483648:=by
 unfold zvt yaer;rw[if_neg h,if_neg h,if_neg h2,if_neg h2];exact⟨rfl,rfl⟩
structure SrcE(w0 w:World)(b:Nat)(vC:Value)(bs:List Int)(m:Nat)(seed:Int):Prop where
 src:Src w0 w b vC bs m
 s0:0<=seed
 s1:seed<2147483648
 cells:w.heap[b]?=some (.cells #[vC,.I (m:Int),.I seed] 110 (0,0))
theorem SrcE.set{w0 w w':World}{b m:Nat}{vC:Value}{bs:List Int}{seed seed':Int}(h:SrcE w0 w b vC bs m seed)(ho:Outside b (b+1) w w')(h3:0<=seed')(h4:seed'<2147483648)(h5:w'.heap[b]?=some (.cells #[vC,.I ((m:Int)+1),.I seed'] 110 (0,0))):SrcE w0 w' b vC bs (m+1) seed' :=
 ⟨h.src.set ho (at_:=(m:Int)+1) (seed:=seed') (by omega) (by omega) h3 h4 h5,h3,h4,h5⟩
theorem zvf(w0 w:World)(b m:Nat)(vC:Value)(bs:List Int)(seed:Int)(h:SrcE w0 w b vC bs m seed)(hk:m<=1000000) :
  zC 103 #[.pointer (some ⟨b,0,none⟩)] w fun e w'=>e=.returned (.I (zvt bs m seed))/\SrcE w0 w' b vC bs (m+1) (yaer bs m seed)/\Outside b (b+1) w w'/\w'.heap.size=w.heap.size:=by
 have HS:=zaa h;obtain⟨hsrc,s0,s1,hblk⟩:=h;obtain⟨aC,cC,rfl,_,hcC⟩:=hsrc.code.shape;obtain⟨c0,c1,c2,c3⟩:=zht hblk;have f1:=c3 1;have hlen:=hsrc.len;have NB:=zaa (yati hblk (.I ((m:Int)+1)));have O1:=zaa ((Outside.refl b (b+1) w).setCell (a:=⟨b,1,none⟩) zL (by simp) (.I ((m:Int)+1)));have B1:=zaa (hsrc.below.trans (O1.o.below hsrc.old hsrc.below.size));have hold:=hsrc.old;clear hsrc hblk c3;go_enter Tryz.func103,Tryz.ntmps103;go_wp2_with fail;clear c0 c1 c2 f1;generalize hw1:w.setCell ⟨b,1,none⟩ (.I ((m:Int)+1))=w1 at *
 have hz1:w1.heap.size=w.heap.size:=by rw[<- hw1];exact size_set _ _ _
 obtain⟨c0,c1,c2,c3⟩:=zht NB.o;have f2:=c3 2;clear c3 hw1
 by_cases c:m<bs.length
 ·obtain⟨bc,oc,rfl,hbc,hcc⟩:=hcC (by omega);have x0:=(B1.o.cell (p:=⟨bc,oc+m,none⟩) hbc).trans (hcc m c);obtain⟨x1,x2⟩:=HS.o.src.code.2 m c;clear hcC hcc;obtain⟨E1,E2⟩:=yanx seed c;have EE:=zaa (And.intro E1 E2);clear E1 E2;generalize bs[m]=x at *
  have cc:((m:Int)+1)<=(bs.length:Int):=by omega
  have c4:(m:Int)<(bs.length:Int):=by omega
  have c5:(0:Int)<=(m:Int):=by omega
  go_quiet (fail)
  go_wp2_with fail;generalize hw2:w1.drewN _=w2
  have e2:w2.heap=w1.heap:=by rw[<- hw2];exact zey _ _
  have O2:Hid (Outside b (b+1) w w2):=by rw[<- hw2];exact O1.o.drewN _
  have NB2:Hid (w2.heap[b]?=some (.cells #[.slice (some ⟨bc,oc,none⟩) bs.length cC,.I ((m:Int)+1),.I seed] 110 (0,0))):=by rw[e2];exact NB.o
  have x2':=(World.cell?_of_block (w:=w1) (a:=⟨bc,oc+m,none⟩) (by rw[e2])).trans x0;clear c0 c1 c2 f2 x0;obtain⟨c0,c1,c2,c3⟩:=zht NB2.o;have f2:=c3 2
  have hz2:w2.heap.size=w.heap.size:=by rw[e2];exact hz1
  clear c3 hw2 e2
  go_region
  go_wp2_with fail;have O3:=zaa (Outside.drewN (O2.o.setCell (a:=⟨b,2,none⟩) zL (by simp) (.I ((seed*31+x+7)%2147483648))) 1);have NB3:=zaa (yagd NB2.o (.I ((seed*31+x+7)%2147483648)));generalize hw3:(w2.setCell ⟨b,2,none⟩ (.I ((seed*31+x+7)%2147483648))).drew=w3
  have O4:Hid (Outside b (b+1) w w3):=by rw[<- hw3];exact O3.o
  have NB4:Hid (w3.heap[b]?=some (.cells #[.slice (some ⟨bc,oc,none⟩) bs.length cC,.I ((m:Int)+1),.I ((seed*31+x+7)%2147483648)] 110 (0,0))):=by rw[<- hw3];exact NB3.o
  have hz3:w3.heap.size=w.heap.size:=by rw[<- hw3];exact(size_set _ _ _).trans hz2
  have x3:w3.cell? ⟨bc,oc+m,none⟩=some (.int .u8 x):=by
   rw[<- hw3];exact(World.cell?_of_block (w:=w2) (a:=⟨bc,oc+m,none⟩) (Below.heap_setCell _ _ _ _ (by simp only;omega))).trans x2'
  clear c0 c1 c2 f2 x2' hw3 O3 NB3;obtain⟨c0,c1,c2,c3⟩:=zht NB4.o;clear c3
  go_quiet (fail)
  go_wp2;go_ret;rw[EE.o.1,EE.o.2];exact⟨rfl,HS.o.set (O4.o.drewN _) (by omega) (by omega) (by rw[zey];exact NB4.o),O4.o.drewN _,by rw[zey];exact hz3⟩
 ·have cc:¬ ((m:Int)+1)<=(bs.length:Int):=by omega
  clear hcC
  go_quiet (fail)
  go_wp2
  ·go_ret;obtain⟨E1,E2⟩:=yaft seed c (by omega);rw[E1,E2];exact⟨rfl,HS.o.set (O1.o.drewN _) (by omega) (by omega) (by rw[zey];exact NB.o),O1.o.drewN _,by rw[zey];exact hz1⟩
  ·go_ret;have O3:=(O1.o.drewN nq).setCell (a:=⟨b,2,none⟩) zL (by simp) (.I ((seed*1103515245+12345)%2147483648));obtain⟨E1,E2⟩:=yaav seed c (by omega);rw[E1,E2];refine⟨rfl,HS.o.set O3 (by omega) (by omega) (yagd (by rw[zey];exact NB.o) _),O3,by rw[size_set,zey];exact hz1⟩
theorem yasw{w:World}{v:Value}{bs:List Int}(h:RdB w v bs)(m:Nat)(seed:Int):0<=zvt bs m seed/\zvt bs m seed<256:=by
 by_cases c:m<bs.length
 ·rw[(yanx seed c).1];exact h.2 m c
 ·by_cases c2:3000<m+1
  ·rw[(yaft seed c c2).1];omega
  ·rw[(yaav seed c c2).1];omega
theorem zio(w0 w:World)(b k:Nat)(vC:Value)(bs:List Int)(h:Src w0 w b vC bs k)(hk:k<=1000000) :
  zC 103 #[.pointer (some ⟨b,0,none⟩)] w fun e w'=>∃ r:Int,e=.returned (.I r)/\0<=r/\r<256/\Src w0 w' b vC bs (k+1)/\Outside b (b+1) w w'/\w'.heap.size=w.heap.size:=by
 obtain⟨at_,seed,a0,a1,s0,s1,hblk⟩:=h.cells
 obtain⟨m,rfl⟩:∃ m:Nat,at_=m:=⟨at_.toNat,by omega⟩
 have bd:=yasw h.code m seed;refine(zvf w0 w b m vC bs seed ⟨h.set (Outside.refl _ _ _) a0 (Int.le_refl _) s0 s1 hblk,s0,s1,hblk⟩ (by omega)).mono ?_;rintro e w' ⟨rfl,h1,h2,h3⟩;exact⟨_,rfl,bd.1,bd.2,h1.src.more (by omega),h2,h3⟩
theorem zcd(n:Int)(hn:2<=n/\n<=1000)(w0 w:World)(b k:Nat)(vC:Value)(bs:List Int)(h:Src w0 w b vC bs k)(hk:k<=900000) :
  zC 49 #[.pointer (some ⟨b,0,none⟩),.I n] w fun e w'=>∃ r:Int,e=.returned (.I r)/\0<=r/\r<n/\Src w0 w' b vC bs (k+3)/\Outside b (b+1) w w'/\w'.heap.size=w.heap.size:=by
 have HS:=zaa h;clear h
 by_cases c:n<=256
 ·go_enter Tryz.func49,Tryz.ntmps49;go_wp2_with fail;refine(zio w0 w b k vC bs HS.o (by omega)).mono ?_;rintro e w1 ⟨r,rfl,r0,r1,hs,ho,hz⟩;have S1:=zaa hs;have O1:=zaa ho;clear hs ho;go_wp2;go_ret;exact⟨_,rfl,Int.emod_nonneg _ (by omega),Int.emod_lt_of_pos _ (by omega),S1.o.more (by omega),O1.o,hz⟩
 ·go_enter Tryz.func49,Tryz.ntmps49;go_wp2_with fail;refine(zio w0 w b k vC bs HS.o (by omega)).mono ?_;rintro e w1 ⟨r,rfl,r0,r1,hs,ho,hz⟩;have S1:=zaa hs;have O1:=zaa ho;clear hs ho;go_wp2_with fail;refine(zio w0 w1 b (k+1) vC bs S1.o (by omega)).mono ?_;rintro e w2 ⟨r',rfl,r2,r3,hs,ho,hz2⟩;have S2:=zaa hs;have O2:=zaa (O1.o.trans ho);clear hs ho;go_wp2_with fail;refine(zio w0 w2 b (k+2) vC bs S2.o (by omega)).mono ?_;rintro e w3 ⟨r'',rfl,r4,r5,hs,ho,hz3⟩;have S3:=zaa hs;have O3:=zaa (O2.o.trans ho);clear hs ho;go_wp2;go_ret;exact⟨_,rfl,Int.emod_nonneg _ (by omega),Int.emod_lt_of_pos _ (by omega),S3.o,O3.o,by omega⟩
theorem yame{w w':World}{cs:Array Value}{t:TypeId}{lo hi:Nat}(ho:Outside lo hi (w.alloc (.cells cs t)) w')(hl:hi<=w.heap.size):w'.heap[w.heap.size]?=some (.cells cs t (0,0)) :=
 (ho.block w.heap.size (by simp) (.inr hl)).trans (zaf rfl)
theorem zqe(w0 w:World)(b k:Nat)(vC:Value)(bs:List Int)(h:Src w0 w b vC bs k)(hk:k<=800000) :
  zC 55 #[.pointer (some ⟨b,0,none⟩)] w fun e w'=>∃ r:Int,e=.returned (.I r)/\0<=r/\r<1099511627776/\Src w0 w' b vC bs (k+9)/\Outside b (b+1) w w':=by
 have HS:=zaa h;have hsz:=h.size;clear h;go_enter Tryz.func55,Tryz.ntmps55;go_wp2_with fail;refine(zcd 9 (by omega) w0 w b k vC bs HS.o (by omega)).mono ?_;rintro e w1 ⟨r,rfl,r0,r1,hs,ho,hz⟩;have S1:=zaa hs;have O1:=zaa ho;clear hs ho;go_wp2_with fail;refine(zcd 1000 (by omega) w0 w1 b (k+3) vC bs S1.o (by omega)).mono ?_;rintro e w2 ⟨r',rfl,r2,r3,hs,ho,hz2⟩;have S2:=zaa (hs.newer (zR.alloc zL (.cells #[.I r,.I r',.I 1099511627775] 3)));have O2:=zaa ((O1.o.trans ho).trans (Outside.of_below (zR.alloc zL (.cells #[.I r,.I r',.I 1099511627775] 3))));clear hs ho;go_wp2_with fail;refine(zcd 9 (by omega) w0 _ b (k+6) vC bs S2.o (by omega)).mono ?_;rintro e w3 ⟨r'',rfl,r4,r5,hs,ho,hz3⟩;obtain⟨c0,c1,c2,_⟩:=zht (yame ho (by omega));rw[hz2,hz]at c0 c1 c2;have S3:=zaa hs;have O3:=zaa (O2.o.trans ho);clear hs ho
 rcases(show r'' / 4=0\/r'' / 4=1\/r'' / 4=2 by omega)with e | e | e
 ·go_wp2;go_ret;exact⟨_,rfl,by omega,by omega,S3.o,O3.o⟩
 ·go_wp2;go_ret;exact⟨_,rfl,by omega,by omega,S3.o,O3.o⟩
 ·go_wp2;go_ret;exact⟨_,rfl,by omega,by omega,S3.o,O3.o⟩
theorem zmm(v:Value)(bs:List Int)(w:World)(h:RdB w v bs)(hl:bs.length<=1048576) :
  zC 20 #[v] w fun e w'=>e=.returned (.pointer (some ⟨w.heap.size,0,none⟩))/\SrcE w w' w.heap.size v bs 0 ((bs.length:Int)%1000)/\zB w w':=by
 have H:=zaa h;obtain⟨aC,cC,rfl,_⟩:=h.shape;clear h
 have hm:(0:Int)<=(bs.length:Int):=by omega
 go_enter Tryz.func20,Tryz.ntmps20;go_wp2;go_ret;refine⟨rfl,⟨⟨H.o,hl,Nat.le_refl _,zR.alloc zL _,by simp,0,(bs.length:Int)%1000,by omega,by omega,by omega,by omega,zaf rfl⟩,by omega,by omega,zaf rfl⟩,zR.alloc zL _⟩
def zce(ws:List Int)(ps:List St):List Int:=ps.foldl (fun acc p=>acc.set p.at_.toNat p.val) ws
theorem yala(ws:List Int)(ps:List St)(p:St):zce ws (ps++[p])=(zce ws ps).set p.at_.toNat p.val:=by simp[zce]
theorem zcp(ws:List Int):∀ ps:List St,(zce ws ps).length=ws.length:=by
 intro ps;unfold zce
 induction ps generalizing ws with
 | nil=>rfl
 | cons p ps ih=>rw[List.foldl_cons,ih];simp
theorem yaoy:∀ (ps:List St) (ws:List Int) (k:Nat) (hk:k<ws.length) (_:∀ p∈ps,0<=p.at_) (hk':k<(zce ws ps).length),(zce ws ps)[k]=zlj (k:Int) ws[k] ps
 | [],ws,k,hk,_,_=>rfl
 | p::ps,ws,k,hk,h0,hk'=>by
  have hk2:k<(ws.set p.at_.toNat p.val).length:=by simpa using hk
  have:=yaoy ps (ws.set p.at_.toNat p.val) k hk2 (fun q hq=>h0 q (by simp[hq])) hk'
  show(zce (ws.set p.at_.toNat p.val) ps)[k]=zlj (k:Int) (if p.at_=(k:Int)then p.val else ws[k]) ps
  rw[this,List.getElem_set];have hp:=h0 p (by simp)
  by_cases e:p.at_=(k:Int)
  ·rw[if_pos (by omega),if_pos e]
  ·rw[if_neg (by omega),if_neg e]
def yanc(ws:List Int)(ps:List St):Int:=if pmB ws ps=true then 0 else 1
def yajx(ws:List Int)(ps:List St):List Int:=if pmB ws ps=true then zce ws ps else[]
theorem yaeu{ws:List Int}{ps:List St}(h:pmB ws ps=false):yanc ws ps=1/\yajx ws ps=[]:=by
 unfold yanc yajx;rw[h];exact⟨rfl,rfl⟩
theorem yaoz{ws:List Int}{ps:List St}(h:pmB ws ps=true):yanc ws ps=0/\yajx ws ps=zce ws ps:=by
 unfold yanc yajx;rw[h];exact⟨rfl,rfl⟩
theorem ztk(v:Value)(ws:List Int)(ps:List St)(w:World)(h:RdPm w v ws ps)(hw:ws.length<=1048576)(hp:ps.length<=1048576) :
  zC 33 #[v] w fun e w'=>∃ v',e=.returned (.tuple #[v',.I (yanc ws ps)])/\Row w' 3 1 w.heap.size w'.heap.size v' (yajx ws ps).length (zeg (yajx ws ps))/\zB w w':=by
 have HR:=zaa h;obtain⟨vW,vP,rfl,h1,h2⟩:=h;have H1:=zaa h1;obtain⟨aW,cW,rfl,_⟩:=h1.shape;obtain⟨aP,cP,rfl,_,hcP⟩:=h2.shape;have HP:=zaa hcP;clear h1 h2 hcP;have hb0:zB w (w.alloc (.cells #[.slice aW ws.length cW,.slice aP ps.length cP] 26)):=zR.alloc zL _
 by_cases hc:pmB ws ps=true
 ·obtain⟨e1,e2⟩:=yaoz hc;rw[e1,e2];clear e1 e2;have OK:=zaa (ybcj hc);go_enter Tryz.func33,Tryz.ntmps33;go_wp2_with fail;refine(zfi _ ws ps _ (HR.o.below hb0) hw hp).mono ?_;rintro e w1 ⟨rfl,hb1⟩
  have hz1:w.heap.size+1<=w1.heap.size:=by have:=hb1.size;simp at this;omega
  have V0:=(hb1.block w.heap.size (by simp<;>omega)).trans (zaf rfl);obtain⟨x1,x2,x3,x4⟩:=zac V0;have B1:=zaa (zab hb0 hb1 (by simp<;>omega));have VH:=zaa V0;clear hb0 hb1 V0;go_wp2_with (at_builtin;refine zae _ rfl (.const (.N)) (.tmp 11) 23 rfl w1.heap.size 3 (.I 0) 1 8 Tryz.underlying23 zmo rfl (by decide) _ 0 [] rfl (World.ownsRow_nil _ _ _ _) _ ws.length (zeg ws) rfl (Rd.below H1.o B1.o) (zgp ws) (by simp[maxLen];omega) (by omega) zL ?_);intro v2 w2 hown2 hgr2
  have hown2:w2.ownsRow w1.heap.size 3 1 v2 ws.length (zeg ws):=by simpa using hown2
  obtain⟨aW2,cW2,rfl⟩:=RdI.form (zad hown2).rd rfl;have hz2:w1.heap.size<=w2.heap.size:=hgr2.size;have B2:=B1.o.grown hgr2 (by omega) (fun k hk=>by cases hk);have V0:=(hgr2.block w.heap.size (by omega) (by simp[Value.ownBlock])).trans VH.o;obtain⟨z1,z2,z3,z4⟩:=zac V0;have START:=zaa (And.intro (zad hown2) B2);clear x1 x2 x3 x4 hown2 hgr2 B2 V0;go_wp2
  go_loopw [6,16] (fun _ i wr=>∃ m:Nat,m<=ps.length/\i=.I m/\Row wr 3 1 w1.heap.size w2.heap.size (.slice aW2 ws.length cW2) ws.length (zeg (zce ws (ps.take m)))/\zB w wr/\w2.heap.size<=wr.heap.size) (fun _ i _=>ps.length-(intOf i).toNat)
  case atStart=>exact⟨0,by omega,rfl,START.o.1,START.o.2,Nat.le_refl _⟩
  case round =>
   obtain⟨m,hm,rfl,hrow,hb,hz⟩:=hrel
   by_cases hlt:m<ps.length
   ·obtain⟨b,o,rfl,hbl,hcell⟩:=HP.o (by omega);obtain⟨e0,e1,e2⟩:=hcell m hlt;have d0:=(hb.cell (p:=⟨b,o+m*3,none⟩) hbl).trans e0;have d1:=(hb.cell (p:=⟨b,o+m*3+1,none⟩) hbl).trans e1;have d2:=(hb.cell (p:=⟨b,o+m*3+2,none⟩) hbl).trans e2;obtain⟨q0,q1⟩:=OK.o m hlt;obtain⟨_,aw',cw',ew',_,hcw⟩:=hrow.rd
    cases ew'
    obtain⟨bw,ow,rfl,hblw,_⟩:=hcw (by omega)
    obtain⟨rfl,hb1,_,_,hfrw,hclw⟩:=(hrow.alloc hz (.cells #[.I ps[m].at_,.I ps[m].val,.bool ps[m].fl] 138)).at
    have hj:ps[m].at_.toNat<(zce ws (ps.take m)).length:=by rw[zcp];omega
    have g0:=hfrw ps[m].at_.toNat;have g1:=(hclw ps[m].at_.toNat (by omega)).trans (zdx _ _ hj)
    have F:Hid (Row ((wr.setCell ⟨bw,ps[m].at_.toNat,none⟩ (.I ps[m].val)).alloc (.cells #[.I ps[m].at_,.I ps[m].val,.bool ps[m].fl] 138)) 3 1 w1.heap.size w2.heap.size (.slice (some ⟨bw,0,none⟩) ws.length cW2) ws.length (zeg (zce ws (ps.take (m+1))))):=by
     rw[zfh ps m hlt,yala,<- zna];exact(hrow.stored _ _).alloc (by simp;omega) _
    have G:=zaa ((hb.setCell (p:=⟨bw,ps[m].at_.toNat,none⟩) (by simp only;omega) (.I ps[m].val)).alloc (by simp;omega) (.cells #[.I ps[m].at_,.I ps[m].val,.bool ps[m].fl] 138));clear hrow hcell e0 e1 e2 hcw hfrw hclw;go_wp2
    go_roundw
    case rel=>exact⟨m+1,by omega,by go_num,F.o,G.o,by simp;omega⟩
    case measure=>simp[intOf];omega
   ·have e:m=ps.length:=by omega
    subst e;have R:=zaa hrow;clear hrow;go_wp2;go_ret2;refine⟨_,rfl,?_,hb⟩;have:=R.o;rw[List.take_length]at this;rw[zcp];exact this.wide (by omega) hz
 ·have hc':pmB ws ps=false:=by simpa using hc
  clear hc;obtain⟨e1,e2⟩:=yaeu hc';rw[e1,e2];clear e1 e2;go_enter Tryz.func33,Tryz.ntmps33;go_wp2_with fail;refine(zfi _ ws ps _ (HR.o.below hb0) hw hp).mono ?_;rintro e w1 ⟨rfl,hb1⟩;have B1:=zaa (zab hb0 hb1 (by simp<;>omega));clear hb0 hb1;go_wp2;go_ret2;exact⟨_,rfl,Row.nil _ _ _ _ _,B1.o⟩
end Go.Proofs.YtogcbbkhnpmgeaaGreatDoor

namespace Go.Proofs.YtogcbbkhnpmgeaaGreatDoor
open Go.ChangeShapes Go.WideShapes Go.ChangeAt Go.RowKit Go.Joins
theorem own:ownKnob Tryz.prog.godebug=none:=by kernel_rfl
theorem znl:laidOutB Tryz.prog=true:=by kernel_rfl
theorem zyu:Tryz.prog.cellsOf 3=1:=by kernel_rfl
section
variable {H:Type} {enc:TypeId×Value->H} {W:World} {sp:Nat->Bool} {held:Bool} {fuel:Nat} {v:Value} {y:DataW H×List MemPlace}
end
end Go.Proofs.YtogcbbkhnpmgeaaGreatDoor

namespace Go.Proofs.YtogcbbkhnpmgeaaGreatDoor
open Go.ChangeShapes Go.WideShapes Go.ChangeAt Go.RowKit Go.Joins
theorem Below.drewN''{B:Nat}{a w:World}(h:Below B a w)(n:Nat):Below B a (w.drewN n):=by
 induction n with
 | zero=>exact h
 | succ n ih=>exact⟨ih.os,ih.tape,ih.output,ih.size,ih.block⟩
theorem ybcb:Tryz.prog.cellsOf 5=1:=by kernel_rfl
section
variable {H:Type} {enc:TypeId×Value->H} {W:World} {sp:Nat->Bool} {held:Bool} {fuel:Nat} {v:Value} {y:DataW H×List MemPlace}
theorem yben{z:Int}(h:(Lit.int .u8 z).wf=true):0<=z/\z<256:=by
 have h1:IntKind.u8.min<=z/\z<=IntKind.u8.max:=by simpa[Lit.wf]using h
 have a:IntKind.u8.min=0:=by rfl
 have b:IntKind.u8.max=255:=by rfl
 omega
theorem yafk(h:DataW.trod enc Tryz.prog W 0 sp held fuel 22 [v]=some y):∃ zs:List Int,RdB W v zs/\zs.length<=maxLen:=by
 rcases open_ints Tryz.underlying22 Tryz.underlying5 ybcb h with ⟨hcs,_⟩ | ⟨a,len,cap,zs,hcs,_,hl,hm,hz,_,hcell,hwz⟩
 ·simp only[List.cons.injEq,and_true]at hcs;subst hcs;exact⟨[],⟨⟨rfl,none,0,rfl,⟨Nat.le_refl _,fun _=>rfl⟩,fun h=>absurd h (by simp)⟩,fun k hk=>by simp at hk⟩,by simp⟩
 ·simp only[List.cons.injEq,and_true]at hcs;subst hcs
  have hzl:len<=zs.length:=by rw[hz];split<;>omega
  have e:(zs.take len).length=len:=by simp;omega
  refine⟨zs.take len,⟨⟨by simp[bys],some a,cap,by rw[e],⟨by rw[e];exact hl,fun e=>by cases e⟩,fun hn=>?_⟩,fun k hk=>yben (hwz _ (List.mem_of_mem_take (List.getElem_mem hk)))⟩,by rw[e];omega⟩;rw[e]at hn;obtain⟨b,off,spot⟩:=a;have hc:=hcell 0 (by omega)
  have hspot:spot=none:=by simpa[Addr.add]using World.cell?_spot hc
  subst hspot;refine⟨b,off,rfl,World.block_lt_of_cell? W _ (by simpa[Addr.add]using hc),fun j hj=>?_⟩;rw[e]at hj;have hc:=hcell j (by omega);rw[Addr.add_lit]at hc;rw[hc,yawu _ j (by rw[e];omega)];simp[List.getD,show j<zs.length by omega]
end
end Go.Proofs.YtogcbbkhnpmgeaaGreatDoor

namespace Go.Proofs.YtogcbbkhnpmgeaaGreatDoor
def up(a v:Int):St:=⟨a,v,false⟩
def stM(p:St):Mi:=⟨1,p.at_,p.val⟩
def zsc(ks:List Int)(i:Nat):Bool:=(List.range i).any (fun k=>ks[k]?.getD 0/8 == ks[i]?.getD 0/8)
def nl(ks:List Int):Nat->List Mi
 | 0=>[]
 | i+1=>if zsc ks i=true then nl ks i else nl ks i++[⟨2,ks[i]?.getD 0,0⟩]
def zbe(ks:List Int):List Mi:=nl ks ks.length++[⟨3,0,0⟩]
def seg(S:List St):List Mi:=S.map stM++zbe (S.map (·.at_))
def jrn:Nat->List St->List St
 | _,[]=>[]
 | i,u::us=>⟨9+2*(i:Int),u.at_,false⟩::⟨9+2*(i:Int)+1,u.val,false⟩::jrn (i+1) us
def cnt(n:Int):List St:=[⟨8,n,false⟩]
def ziw(us:List St):List Mi:=seg us++seg (cnt 0)
def zct(us:List St):List Mi:=if us.length=0 then[]else seg (jrn 0 us)++seg (cnt (us.length:Int))++ziw us
end Go.Proofs.YtogcbbkhnpmgeaaGreatDoor

namespace Go.Proofs.YtogcbbkhnpmgeaaGreatDoor
def zwk(s:List Int×List St)(m:Mi):List Int×List St :=
 if m.kind=1 then(s.1,s.2++[⟨m.at_,m.val,false⟩])else if m.kind=2 then(s.1,s.2.map (fl1 m.at_))else if m.kind=3 then(zqi s.1 s.2,zog s.2)else s
def zrs(s:List Int×List St)(l:List Mi):List Int×List St:=l.foldl zwk s
theorem yase(s:List Int×List St):zrs s []=s:=rfl
theorem zlu(s:List Int×List St)(m:Mi)(l:List Mi):zrs s (m::l)=zrs (zwk s m) l:=rfl
theorem zei(s:List Int×List St)(l l':List Mi):zrs s (l++l')=zrs (zrs s l) l':=by simp[zrs]
theorem yadh(s:List Int×List St)(p:St):zwk s (stM p)=(s.1,s.2++[⟨p.at_,p.val,false⟩]):=if_pos rfl
theorem yaeh(s:List Int×List St)(a:Int):zwk s ⟨2,a,0⟩=(s.1,s.2.map (fl1 a)):=by
 unfold zwk;rw[if_neg (show ¬ (2:Int)=1 by decide),if_pos rfl]
theorem yaea(s:List Int×List St):zwk s ⟨3,0,0⟩=(zqi s.1 s.2,zog s.2):=by
 unfold zwk;rw[if_neg (by decide),if_neg (by decide),if_pos rfl]
theorem zwz(ks:List Int):∀ i,∀ m∈nl ks i,m=⟨2,m.at_,0⟩
 | 0,m,h=>by cases h
 | i+1,m,h=>by
  rw[nl]at h
  split at h
  ·exact zwz ks i m h
  ·rcases List.mem_append.1 h with h | h
   ·exact zwz ks i m h
   ·rw[List.mem_singleton.1 h]
theorem yakt(ks:List Int):∀ i k,k<i->∃ m∈nl ks i,m.at_/8=ks[k]?.getD 0/8
 | 0,k,h=>absurd h (by omega)
 | i+1,k,h=>by
  rw[nl]
  by_cases e:k<i
  ·obtain⟨m,hm,e⟩:=yakt ks i k e
   split
   ·exact⟨m,hm,e⟩
   ·exact⟨m,List.mem_append_left _ hm,e⟩
  ·obtain rfl:k=i:=by omega
   split
   ·rename_i hk;simp only[zsc,List.any_eq_true,List.mem_range,beq_iff_eq]at hk;obtain⟨j,hj,e⟩:=hk;obtain⟨m,hm,e2⟩:=yakt ks k j hj;exact⟨m,hm,e2.trans e⟩
   ·exact⟨_,List.mem_append_right _ (List.mem_singleton.2 rfl),rfl⟩
theorem zqp:∀ (l:List Mi) (s:List Int×List St),(∀ m∈l,m=⟨2,m.at_,0⟩)->∃ g:St->St,zrs s l=(s.1,s.2.map g)/\(∀ p,(g p).at_=p.at_/\(g p).val=p.val/\(p.fl=true->(g p).fl=true))/\∀ p,(∃ m∈l,m.at_/8=p.at_/8)->(g p).fl=true
 | [],s,_=>⟨id,by simp[zrs],fun p=>⟨rfl,rfl,id⟩,fun p h=>by obtain⟨m,hm,_⟩:=h;cases hm⟩
 | m::l,s,h=>by
  have hm:=h m (by simp);obtain⟨g,e,h1,h2⟩:=zqp l (s.1,s.2.map (fl1 m.at_)) (fun x hx=>h x (by simp[hx]))
  have hf:∀ p:St,(fl1 m.at_ p).at_=p.at_/\(fl1 m.at_ p).val=p.val/\(p.fl=true->(fl1 m.at_ p).fl=true):=fun p=>by
   unfold fl1
   split
   ·exact⟨rfl,rfl,fun _=>rfl⟩
   ·exact⟨rfl,rfl,id⟩
  refine⟨fun p=>g (fl1 m.at_ p),?_,fun p=>?_,fun p hp=>?_⟩
  ·rw[zlu,hm,yaeh]
   show zrs (s.1,s.2.map (fl1 m.at_)) l=_
   rw[e,List.map_map];rfl
  ·have a:=h1 (fl1 m.at_ p);have b:=hf p;exact⟨a.1.trans b.1,a.2.1.trans b.2.1,fun x=>a.2.2 (b.2.2 x)⟩
  ·obtain⟨x,hx,e2⟩:=hp
   rcases List.mem_cons.1 hx with rfl | hx
   ·apply (h1 _).2.2;unfold fl1;rw[if_pos e2.symm]
   ·apply h2;exact⟨x,hx,by rw[(hf p).1];exact e2⟩
theorem yaou:∀ (ps:List St) (ws:List Int),(∀ p∈ps,p.fl=true)->zqi ws ps=zce ws ps/\zog ps=[]
 | [],_,_=>⟨rfl,rfl⟩
 | p::ps,ws,h=>by
  have hp:=h p (by simp);have ih:=yaou ps (ws.set p.at_.toNat p.val) (fun q hq=>h q (by simp[hq]));refine⟨?_,?_⟩
  ·show zqi (if p.fl then ws.set p.at_.toNat p.val else ws) ps=zce (ws.set p.at_.toNat p.val) ps
   rw[hp];exact ih.1
  ·unfold zog at ih ⊢;rw[List.filter_cons,hp];exact ih.2
theorem yahg(g:St->St)(hg:∀ p,(g p).at_=p.at_/\(g p).val=p.val):∀ (ps:List St) (ws:List Int),zce ws (ps.map g)=zce ws ps
 | [],_=>rfl
 | p::ps,ws=>by
  show zce (ws.set (g p).at_.toNat (g p).val) (ps.map g)=zce (ws.set p.at_.toNat p.val) ps
  rw[(hg p).1,(hg p).2];exact yahg g hg ps _
theorem zty:∀ (S:List St) (s:List Int×List St),zrs s (S.map stM)=(s.1,s.2++S.map (fun p=>(⟨p.at_,p.val,false⟩:St)))
 | [],s=>by simp[zrs]
 | p::S,s=>by
  rw[List.map_cons,zlu,yadh,zty S];simp
theorem zlp(S:List St)(ws:List Int):zrs (ws,[]) (seg S)=(zce ws S,[]):=by
 have e0:zrs (ws,[]) (S.map stM)=(ws,S.map (fun p=>(⟨p.at_,p.val,false⟩:St))):=by rw[zty];simp
 unfold seg zbe;rw[zei,e0,zei];obtain⟨g,e,h1,h2⟩:=zqp (nl (S.map (·.at_)) (S.map (·.at_)).length) (ws,S.map (fun p=>(⟨p.at_,p.val,false⟩:St))) (zwz _ _);rw[e,zlu,yase,yaea]
 have hall:∀ p∈(S.map (fun p=>(⟨p.at_,p.val,false⟩:St))).map g,p.fl=true:=by
  intro p hp;rw[List.map_map,List.mem_map]at hp;obtain⟨q,hq,rfl⟩:=hp;apply h2;obtain⟨i,hi,rfl⟩:=List.getElem_of_mem hq;obtain⟨m,hm,e2⟩:=yakt (S.map (·.at_)) (S.map (·.at_)).length i (by simpa using hi);refine⟨m,hm,?_⟩;rw[e2];simp[hi]
 have f:=yaou _ ws hall
 show(zqi ws ((S.map (fun p=>(⟨p.at_,p.val,false⟩:St))).map g),zog _)=_
 rw[f.1,f.2,List.map_map,yahg (g ∘ fun p=>(⟨p.at_,p.val,false⟩:St)) (fun p=>⟨(h1 _).1,(h1 _).2.1⟩)]
theorem yanw:∀ (us:List St) (i:Nat),∀ p∈jrn i us,9+2*(i:Int)<=p.at_/\p.at_<9+2*((i+us.length:Nat):Int)
 | [],_,p,h=>by cases h
 | u::us,i,p,h=>by
  rw[jrn]at h;simp only[List.length_cons]
  rcases List.mem_cons.1 h with rfl | h
  ·exact⟨Int.le_refl _,by show 9+2*(i:Int)<_;omega⟩
  ·rcases List.mem_cons.1 h with rfl | h
   ·exact⟨by show _<=9+2*(i:Int)+1;omega,by show 9+2*(i:Int)+1<_;omega⟩
   ·have:=yanw us (i+1) p h;omega
end Go.Proofs.YtogcbbkhnpmgeaaGreatDoor

namespace Go.Proofs.YtogcbbkhnpmgeaaGreatDoor
open Go.RowKit
def StOK(m:Mi):Prop:=miB m=true/\(m.kind=1\/m.kind=2\/m.kind=3)
theorem yamp(ks:List Int):∀ i,i<=ks.length->∀ m∈nl ks i,∃ k,k<ks.length/\m.at_=ks[k]?.getD 0
 | 0,_,m,h=>by cases h
 | i+1,hi,m,h=>by
  rw[nl]at h
  split at h
  ·exact yamp ks i (by omega) m h
  ·rcases List.mem_append.1 h with h | h
   ·exact yamp ks i (by omega) m h
   ·rw[List.mem_singleton.1 h];exact⟨i,by omega,rfl⟩
theorem yaae{S:List St}(h:∀ p∈S,(0<=p.at_/\p.at_<336)/\0<=p.val/\p.val<1099511627776):∀ m∈seg S,StOK m:=by
 intro m hm;unfold seg zbe at hm
 rcases List.mem_append.1 hm with hm | hm
 ·obtain⟨p,hp,rfl⟩:=List.mem_map.1 hm;have:=h p hp;exact⟨(zol 1 p.at_ p.val).2 (.inl ⟨rfl,this⟩),.inl rfl⟩
 ·rcases List.mem_append.1 hm with hm | hm
  ·have e:=zwz _ _ m hm;obtain⟨k,hk,ek⟩:=yamp _ _ zL m hm
   have:∃ p∈S,m.at_=p.at_:=by
    rw[List.length_map]at hk;exact⟨S[k],List.getElem_mem hk,by rw[ek,List.getElem?_map,List.getElem?_eq_getElem hk];rfl⟩
   obtain⟨p,hp,ep⟩:=this;rw[e];have:=h p hp;exact⟨(zol 2 m.at_ 0).2 (.inr (.inl ⟨rfl,by rw[ep];exact this.1,rfl⟩)),.inr (.inl rfl)⟩
  ·rw[List.mem_singleton.1 hm];exact⟨(zol 3 0 0).2 (.inr (.inr (.inr ⟨.inl rfl,rfl,rfl⟩))),.inr (.inr rfl)⟩
theorem yaoh:∀ (us:List St) (i:Nat),(∀ p∈us,(48<=p.at_/\p.at_<336)/\0<=p.val/\p.val<1099511627776)->∀ p∈jrn i us,0<=p.val/\p.val<1099511627776
 | [],_,_,p,h=>by cases h
 | u::us,i,hu,p,h=>by
  rw[jrn]at h;have h0:=hu u List.mem_cons_self
  rcases List.mem_cons.1 h with rfl | h
  ·exact⟨by show 0<=u.at_;omega,by show u.at_<_;omega⟩
  ·rcases List.mem_cons.1 h with rfl | h
   ·exact⟨by show 0<=u.val;omega,by show u.val<_;omega⟩
   ·exact yaoh us (i+1) (fun q hq=>hu q (List.mem_cons_of_mem _ hq)) p h
theorem yawi(n:Int)(h:0<=n/\n<1099511627776):∀ p∈cnt n,(0<=p.at_/\p.at_<336)/\0<=p.val/\p.val<1099511627776:=by
 intro p hp;rw[List.mem_singleton.1 hp];exact⟨⟨by show(0:Int)<=8;omega,by show(8:Int)<336;omega⟩,h⟩
theorem zco{w:World}{b:Nat}{t:TypeId}{xs:List Value}(h:w.heap[b]?=some (.cells xs.toArray t (0,0)))(j:Nat)(u:Value):(w.setCell ⟨b,j,none⟩ u).heap[b]?=some (.cells (xs.set j u).toArray t (0,0)):=by
 simp[World.setCell,Array.getElem?_modify,h]
theorem zag{w:World}{b:Nat}{t:TypeId}{xs:List Value}(h:w.heap[b]?=some (.cells xs.toArray t (0,0)))(j:Nat):w.cell? ⟨b,j,none⟩=xs[j]?/\w.frozen? ⟨b,j,none⟩=false:=by
 simp[World.cell?,World.frozen?,h]
structure Ino where
 kind:Int
 size:Int
 links:Int
 m0:Int
 m1:Int
 m2:Int
 m3:Int
 m4:Int
 m5:Int
 m6:Int
 m7:Int
def Ino.map(x:Ino):List Int:=[x.m0,x.m1,x.m2,x.m3,x.m4,x.m5,x.m6,x.m7]
def Ino.v(x:Ino):Value:=.agg #[.I x.kind,.I x.size,.I x.links,.I x.m0,.I x.m1,.I x.m2,.I x.m3,.I x.m4,.I x.m5,.I x.m6,.I x.m7]
def Ino.cs(x:Ino):List Value:=[.I x.kind,.I x.size,.I x.links,.I x.m0,.I x.m1,.I x.m2,.I x.m3,.I x.m4,.I x.m5,.I x.m6,.I x.m7]
end Go.Proofs.YtogcbbkhnpmgeaaGreatDoor
