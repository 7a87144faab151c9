import Derived.BigRegion
import Derived.Test.YtdiaiejmoocpmaaGreatDoorZAO
set_option maxRecDepth 100000
set_option maxHeartbeats 8000000
namespace Go.Proofs.YtdiaiejmoocpmaaGreatDoor
open Go.RowKit
def bys(zs:List Int):List Value:=zs.map (Value.int .u8)
theorem yave(zs:List Int)(k:Nat)(h:k<zs.length):(bys zs)[k]?=some (.int .u8 zs[k]):=by simp[bys,h]
def RdB(w:World)(v:Value)(zs:List Int):Prop:=Rd w 1 v zs.length (bys zs)/\∀ k (h:k<zs.length),0<=zs[k]/\zs[k]<256
theorem RdB.shape{w:World}{v:Value}{zs:List Int}(h:RdB w v zs):∃ ao cap,v=.slice ao zs.length cap/\zs.length<=cap/\(0<zs.length->∃ b o,ao=some ⟨b,o,none⟩/\b<w.heap.size/\∀ k (h:k<zs.length),w.cell? ⟨b,o+k,none⟩=some (.int .u8 zs[k])):=by
 obtain⟨⟨_,ao,cap,rfl,h2,h3⟩,_⟩:=h;refine⟨ao,cap,rfl,h2.1,fun hn=>?_⟩;obtain⟨b,o,rfl,hb,hc⟩:=h3 hn;exact⟨b,o,rfl,hb,fun k hk=>(hc k (by omega)).trans (yave zs k hk)⟩
theorem RdB.below{w w':World}{v:Value}{zs:List Int}(h:RdB w v zs)(hb:zB w w'):RdB w' v zs:=⟨h.1.below hb,h.2⟩
theorem zhm{w:World}{b:Nat}{x y z:Value}{t:TypeId}(h:w.heap[b]?=some (.cells #[x,y,z] t (0,0))) :
  w.cell? ⟨b,0,none⟩=some x/\w.cell? ⟨b,1,none⟩=some y/\w.cell? ⟨b,2,none⟩=some z/\∀ j,w.frozen? ⟨b,j,none⟩=false:=by
 refine⟨?_,?_,?_,fun j=>?_⟩<;>simp[World.cell?,World.frozen?,h]
structure Src(w0 w:World)(b:Nat)(vC:Value)(bs:List Int)(k:Nat):Prop where
 code:RdB w0 vC bs
 len:bs.length<=1048576
 old:w0.heap.size<=b
 below:zB w0 w
 size:b<w.heap.size
 cells:∃ at_ seed:Int,0<=at_/\at_<=k/\0<=seed/\seed<2147483648/\w.heap[b]?=some (.cells #[vC,.I at_,.I seed] 93 (0,0))
theorem Src.outside{w0 w w':World}{b k:Nat}{vC:Value}{bs:List Int}(h:Src w0 w b vC bs k){lo hi:Nat}(ho:Outside lo hi w w')(hl:b<lo\/hi<=b)(hl2:w0.heap.size<=lo):Src w0 w' b vC bs k :=
 ⟨h.code,h.len,h.old,h.below.trans (ho.below hl2 h.below.size),Nat.lt_of_lt_of_le h.size ho.size,by
  obtain⟨a,s,h1,h2,h3,h4,h5⟩:=h.cells
  exact⟨a,s,h1,h2,h3,h4,(ho.block b h.size hl).trans h5⟩⟩
theorem Src.newer{w0 w w':World}{b k:Nat}{vC:Value}{bs:List Int}(h:Src w0 w b vC bs k)(hb:zB w w'):Src w0 w' b vC bs k :=
 h.outside (lo:=w.heap.size) (hi:=w'.heap.size) (Outside.of_below hb) (.inl h.size) h.below.size
theorem Outside.drewN{lo hi:Nat}{a w:World}(h:Outside lo hi a w)(n:Nat):Outside lo hi a (w.drewN n):=by
 induction n with
 | zero=>exact h
 | succ n ih=>exact⟨ih.os,ih.tape,ih.output,ih.size,ih.block⟩
theorem yaqi{w:World}{b:Nat}{x y z:Value}{t:TypeId}(h:w.heap[b]?=some (.cells #[x,y,z] t (0,0)))(u:Value):(w.setCell ⟨b,1,none⟩ u).heap[b]?=some (.cells #[x,u,z] t (0,0)):=by
 simp[World.setCell,Array.getElem?_modify,h]
theorem yael{w:World}{b:Nat}{x y z:Value}{t:TypeId}(h:w.heap[b]?=some (.cells #[x,y,z] t (0,0)))(u:Value):(w.setCell ⟨b,2,none⟩ u).heap[b]?=some (.cells #[x,y,u] t (0,0)):=by
 simp[World.setCell,Array.getElem?_modify,h]
theorem Src.set{w0 w w':World}{b k k':Nat}{vC:Value}{bs:List Int}(h:Src w0 w b vC bs k)(ho:Outside b (b+1) w w'){at_ seed:Int}(h1:0<=at_)(h2:at_<=k')(h3:0<=seed)(h4:seed<2147483648)(h5:w'.heap[b]?=some (.cells #[vC,.I at_,.I seed] 93 (0,0))):Src w0 w' b vC bs k' :=
 ⟨h.code,h.len,h.old,h.below.trans (ho.below h.old h.below.size),Nat.lt_of_lt_of_le h.size ho.size,⟨at_,seed,h1,h2,h3,h4,h5⟩⟩
theorem Src.more{w0 w:World}{b k k':Nat}{vC:Value}{bs:List Int}(h:Src w0 w b vC bs k)(hk:k<=k'):Src w0 w b vC bs k' :=
 ⟨h.code,h.len,h.old,h.below,h.size,by obtain⟨a,s,h1,h2,h3⟩:=h.cells;exact⟨a,s,h1,by omega,h3⟩⟩
theorem size_set(w:World)(a:Addr)(u:Value):(w.setCell a u).heap.size=w.heap.size:=by simp[World.setCell]
theorem zez(w:World)(n:Nat):(w.drewN n).heap=w.heap:=by
 induction n with
 | zero=>rfl
 | succ n ih=>exact ih
def zwd(bs:List Int)(m:Nat)(seed:Int):Int:=if m<bs.length then bs[m]?.getD 0 else if 3000<m+1 then 0 else(seed*1103515245+12345)%2147483648/65536%256
def yadc(bs:List Int)(m:Nat)(seed:Int):Int:=if m<bs.length then(seed*31+bs[m]?.getD 0+7)%2147483648 else if 3000<m+1 then seed else(seed*1103515245+12345)%2147483648
theorem yapl{bs:List Int}{m:Nat}(seed:Int)(h:m<bs.length):zwd bs m seed=bs[m]/\yadc bs m seed=(seed*31+bs[m]+7)%2147483648:=by
 unfold zwd yadc;rw[if_pos h,if_pos h];simp[h]
theorem yafv{bs:List Int}{m:Nat}(seed:Int)(h:¬ m<bs.length)(h2:3000<m+1):zwd bs m seed=0/\yadc bs m seed=seed:=by
 unfold zwd yadc;rw[if_neg h,if_neg h,if_pos h2,if_pos h2];exact⟨rfl,rfl⟩
theorem zyx{bs:List Int}{m:Nat}(seed:Int)(h:¬ m<bs.length)(h2:¬ 3000<m+1):zwd bs m seed=(seed*1103515245+12345)%2147483648/65536%256/\yadc bs m seed=(seed*1103515245+12345)%2147483648:=by
 unfold zwd yadc;rw[if_neg h,if_neg h,if_neg h2,if_neg h2];exact⟨rfl,rfl⟩
structure SrcE(w0 w:World)(b:Nat)(vC:Value)(bs:List Int)(m:Nat)(seed:Int):Prop where
 src:Src w0 w b vC bs m
 s0:0<=seed
 s1:seed<2147483648
 cells:w.heap[b]?=some (.cells #[vC,.I (m:Int),.I seed] 93 (0,0))
theorem SrcE.set{w0 w w':World}{b m:Nat}{vC:Value}{bs:List Int}{seed seed':Int}(h:SrcE w0 w b vC bs m seed)(ho:Outside b (b+1) w w')(h3:0<=seed')(h4:seed'<2147483648)(h5:w'.heap[b]?=some (.cells #[vC,.I ((m:Int)+1),.I seed'] 93 (0,0))):SrcE w0 w' b vC bs (m+1) seed' :=
 ⟨h.src.set ho (at_:=(m:Int)+1) (seed:=seed') (by omega) (by omega) h3 h4 h5,h3,h4,h5⟩
theorem zvg(w0 w:World)(b m:Nat)(vC:Value)(bs:List Int)(seed:Int)(h:SrcE w0 w b vC bs m seed)(hk:m<=1000000) :
  zC 88 #[.pointer (some ⟨b,0,none⟩)] w fun e w'=>e=.returned (.I (zwd bs m seed))/\SrcE w0 w' b vC bs (m+1) (yadc bs m seed)/\Outside b (b+1) w w'/\w'.heap.size=w.heap.size:=by
 have HS:=zaa h;obtain⟨hsrc,s0,s1,hblk⟩:=h;obtain⟨aC,cC,rfl,_,hcC⟩:=hsrc.code.shape;obtain⟨c0,c1,c2,c3⟩:=zhm hblk;have f1:=c3 1;have hlen:=hsrc.len;have NB:=zaa (yaqi hblk (.I ((m:Int)+1)));have O1:=zaa ((Outside.refl b (b+1) w).setCell (a:=⟨b,1,none⟩) zL (by simp) (.I ((m:Int)+1)));have B1:=zaa (hsrc.below.trans (O1.o.below hsrc.old hsrc.below.size));have hold:=hsrc.old;clear hsrc hblk c3;go_enter Tryz.func88,Tryz.ntmps88;go_wp2_with fail;clear c0 c1 c2 f1;generalize hw1:w.setCell ⟨b,1,none⟩ (.I ((m:Int)+1))=w1 at *
 have hz1:w1.heap.size=w.heap.size:=by rw[<- hw1];exact size_set _ _ _
 obtain⟨c0,c1,c2,c3⟩:=zhm NB.o;have f2:=c3 2;clear c3 hw1
 by_cases c:m<bs.length
 ·obtain⟨bc,oc,rfl,hbc,hcc⟩:=hcC (by omega);have x0:=(B1.o.cell (p:=⟨bc,oc+m,none⟩) hbc).trans (hcc m c);obtain⟨x1,x2⟩:=HS.o.src.code.2 m c;clear hcC hcc;obtain⟨E1,E2⟩:=yapl seed c;have EE:=zaa (And.intro E1 E2);clear E1 E2;generalize bs[m]=x at *
  have cc:((m:Int)+1)<=(bs.length:Int):=by omega
  have c4:(m:Int)<(bs.length:Int):=by omega
  have c5:(0:Int)<=(m:Int):=by omega
  go_quiet (fail)
  go_wp2_with fail;generalize hw2:w1.drewN _=w2
  have e2:w2.heap=w1.heap:=by rw[<- hw2];exact zez _ _
  have O2:Hid (Outside b (b+1) w w2):=by rw[<- hw2];exact O1.o.drewN _
  have NB2:Hid (w2.heap[b]?=some (.cells #[.slice (some ⟨bc,oc,none⟩) bs.length cC,.I ((m:Int)+1),.I seed] 93 (0,0))):=by rw[e2];exact NB.o
  have x2':=(World.cell?_of_block (w:=w1) (a:=⟨bc,oc+m,none⟩) (by rw[e2])).trans x0;clear c0 c1 c2 f2 x0;obtain⟨c0,c1,c2,c3⟩:=zhm NB2.o;have f2:=c3 2
  have hz2:w2.heap.size=w.heap.size:=by rw[e2];exact hz1
  clear c3 hw2 e2
  go_region
  go_wp2_with fail;have O3:=zaa (Outside.drewN (O2.o.setCell (a:=⟨b,2,none⟩) zL (by simp) (.I ((seed*31+x+7)%2147483648))) 1);have NB3:=zaa (yael NB2.o (.I ((seed*31+x+7)%2147483648)));generalize hw3:(w2.setCell ⟨b,2,none⟩ (.I ((seed*31+x+7)%2147483648))).drew=w3
  have O4:Hid (Outside b (b+1) w w3):=by rw[<- hw3];exact O3.o
  have NB4:Hid (w3.heap[b]?=some (.cells #[.slice (some ⟨bc,oc,none⟩) bs.length cC,.I ((m:Int)+1),.I ((seed*31+x+7)%2147483648)] 93 (0,0))):=by rw[<- hw3];exact NB3.o
  have hz3:w3.heap.size=w.heap.size:=by rw[<- hw3];exact(size_set _ _ _).trans hz2
  have x3:w3.cell? ⟨bc,oc+m,none⟩=some (.int .u8 x):=by
   rw[<- hw3];exact(World.cell?_of_block (w:=w2) (a:=⟨bc,oc+m,none⟩) (Below.heap_setCell _ _ _ _ (by simp only;omega))).trans x2'
  clear c0 c1 c2 f2 x2' hw3 O3 NB3;obtain⟨c0,c1,c2,c3⟩:=zhm NB4.o;clear c3
  go_quiet (fail)
  go_wp2;go_ret;rw[EE.o.1,EE.o.2];exact⟨rfl,HS.o.set (O4.o.drewN _) (by omega) (by omega) (by rw[zez];exact NB4.o),O4.o.drewN _,by rw[zez];exact hz3⟩
 ·have cc:¬ ((m:Int)+1)<=(bs.length:Int):=by omega
  clear hcC
  go_quiet (fail)
  go_wp2
  ·go_ret;obtain⟨E1,E2⟩:=yafv seed c (by omega);rw[E1,E2];exact⟨rfl,HS.o.set (O1.o.drewN _) (by omega) (by omega) (by rw[zez];exact NB.o),O1.o.drewN _,by rw[zez];exact hz1⟩
  ·go_ret;have O3:=(O1.o.drewN nq).setCell (a:=⟨b,2,none⟩) zL (by simp) (.I ((seed*1103515245+12345)%2147483648));obtain⟨E1,E2⟩:=zyx seed c (by omega);rw[E1,E2];refine⟨rfl,HS.o.set O3 (by omega) (by omega) (yael (by rw[zez];exact NB.o) _),O3,by rw[size_set,zez];exact hz1⟩
theorem yasn{w:World}{v:Value}{bs:List Int}(h:RdB w v bs)(m:Nat)(seed:Int):0<=zwd bs m seed/\zwd bs m seed<256:=by
 by_cases c:m<bs.length
 ·rw[(yapl seed c).1];exact h.2 m c
 ·by_cases c2:3000<m+1
  ·rw[(yafv seed c c2).1];omega
  ·rw[(zyx seed c c2).1];omega
theorem zid(w0 w:World)(b k:Nat)(vC:Value)(bs:List Int)(h:Src w0 w b vC bs k)(hk:k<=1000000) :
  zC 88 #[.pointer (some ⟨b,0,none⟩)] w fun e w'=>∃ r:Int,e=.returned (.I r)/\0<=r/\r<256/\Src w0 w' b vC bs (k+1)/\Outside b (b+1) w w'/\w'.heap.size=w.heap.size:=by
 obtain⟨at_,seed,a0,a1,s0,s1,hblk⟩:=h.cells
 obtain⟨m,rfl⟩:∃ m:Nat,at_=m:=⟨at_.toNat,by omega⟩
 have bd:=yasn h.code m seed;refine(zvg w0 w b m vC bs seed ⟨h.set (Outside.refl _ _ _) a0 (Int.le_refl _) s0 s1 hblk,s0,s1,hblk⟩ (by omega)).mono ?_;rintro e w' ⟨rfl,h1,h2,h3⟩;exact⟨_,rfl,bd.1,bd.2,h1.src.more (by omega),h2,h3⟩
theorem zbz(n:Int)(hn:2<=n/\n<=1000)(w0 w:World)(b k:Nat)(vC:Value)(bs:List Int)(h:Src w0 w b vC bs k)(hk:k<=900000) :
  zC 38 #[.pointer (some ⟨b,0,none⟩),.I n] w fun e w'=>∃ r:Int,e=.returned (.I r)/\0<=r/\r<n/\Src w0 w' b vC bs (k+3)/\Outside b (b+1) w w'/\w'.heap.size=w.heap.size:=by
 have HS:=zaa h;clear h
 by_cases c:n<=256
 ·go_enter Tryz.func38,Tryz.ntmps38;go_wp2_with fail;refine(zid w0 w b k vC bs HS.o (by omega)).mono ?_;rintro e w1 ⟨r,rfl,r0,r1,hs,ho,hz⟩;have S1:=zaa hs;have O1:=zaa ho;clear hs ho;go_wp2;go_ret;exact⟨_,rfl,Int.emod_nonneg _ (by omega),Int.emod_lt_of_pos _ (by omega),S1.o.more (by omega),O1.o,hz⟩
 ·go_enter Tryz.func38,Tryz.ntmps38;go_wp2_with fail;refine(zid w0 w b k vC bs HS.o (by omega)).mono ?_;rintro e w1 ⟨r,rfl,r0,r1,hs,ho,hz⟩;have S1:=zaa hs;have O1:=zaa ho;clear hs ho;go_wp2_with fail;refine(zid w0 w1 b (k+1) vC bs S1.o (by omega)).mono ?_;rintro e w2 ⟨r',rfl,r2,r3,hs,ho,hz2⟩;have S2:=zaa hs;have O2:=zaa (O1.o.trans ho);clear hs ho;go_wp2_with fail;refine(zid w0 w2 b (k+2) vC bs S2.o (by omega)).mono ?_;rintro e w3 ⟨r'',rfl,r4,r5,hs,ho,hz3⟩;have S3:=zaa hs;have O3:=zaa (O2.o.trans ho);clear hs ho;go_wp2;go_ret;exact⟨_,rfl,Int.emod_nonneg _ (by omega),Int.emod_lt_of_pos _ (by omega),S3.o,O3.o,by omega⟩
theorem yajf{w w':World}{cs:Array Value}{t:TypeId}{lo hi:Nat}(ho:Outside lo hi (w.alloc (.cells cs t)) w')(hl:hi<=w.heap.size):w'.heap[w.heap.size]?=some (.cells cs t (0,0)) :=
 (ho.block w.heap.size (by simp) (.inr hl)).trans (zaf rfl)
theorem zlf(w0 w:World)(b k:Nat)(vC:Value)(bs:List Int)(h:Src w0 w b vC bs k)(hk:k<=800000) :
  zC 17 #[.pointer (some ⟨b,0,none⟩)] w fun e w'=>∃ r:Int,e=.returned (.I r)/\0<=r/\r<1099511627776/\Src w0 w' b vC bs (k+9)/\Outside b (b+1) w w':=by
 have HS:=zaa h;have hsz:=h.size;clear h;go_enter Tryz.func17,Tryz.ntmps17;go_wp2_with fail;refine(zbz 9 (by omega) w0 w b k vC bs HS.o (by omega)).mono ?_;rintro e w1 ⟨r,rfl,r0,r1,hs,ho,hz⟩;have S1:=zaa hs;have O1:=zaa ho;clear hs ho;go_wp2_with fail;refine(zbz 1000 (by omega) w0 w1 b (k+3) vC bs S1.o (by omega)).mono ?_;rintro e w2 ⟨r',rfl,r2,r3,hs,ho,hz2⟩;have S2:=zaa (hs.newer (zR.alloc zL (.cells #[.I r,.I r',.I 1099511627775] 3)));have O2:=zaa ((O1.o.trans ho).trans (Outside.of_below (zR.alloc zL (.cells #[.I r,.I r',.I 1099511627775] 3))));clear hs ho;go_wp2_with fail;refine(zbz 9 (by omega) w0 _ b (k+6) vC bs S2.o (by omega)).mono ?_;rintro e w3 ⟨r'',rfl,r4,r5,hs,ho,hz3⟩;obtain⟨c0,c1,c2,_⟩:=zhm (yajf ho (by omega));rw[hz2,hz]at c0 c1 c2;have S3:=zaa hs;have O3:=zaa (O2.o.trans ho);clear hs ho
 rcases(show r'' / 4=0\/r'' / 4=1\/r'' / 4=2 by omega)with e | e | e
 ·go_wp2;go_ret;exact⟨_,rfl,by omega,by omega,S3.o,O3.o⟩
 ·go_wp2;go_ret;exact⟨_,rfl,by omega,by omega,S3.o,O3.o⟩
 ·go_wp2;go_ret;exact⟨_,rfl,by omega,by omega,S3.o,O3.o⟩
theorem zhs(v:Value)(bs:List Int)(w:World)(h:RdB w v bs)(hl:bs.length<=1048576) :
  zC 14 #[v] w fun e w'=>e=.returned (.pointer (some ⟨w.heap.size,0,none⟩))/\SrcE w w' w.heap.size v bs 0 ((bs.length:Int)%1000)/\zB w w':=by
 have H:=zaa h;obtain⟨aC,cC,rfl,_⟩:=h.shape;clear h
 have hm:(0:Int)<=(bs.length:Int):=by omega
 go_enter Tryz.func14,Tryz.ntmps14;go_wp2;go_ret;refine⟨rfl,⟨⟨H.o,hl,Nat.le_refl _,zR.alloc zL _,by simp,0,(bs.length:Int)%1000,by omega,by omega,by omega,by omega,zaf rfl⟩,by omega,by omega,zaf rfl⟩,zR.alloc zL _⟩
theorem yaiu(v:Value)(bs:List Int)(w:World)(h:RdB w v bs)(hl:bs.length<=1048576) :
  zC 7 #[v] w fun e w'=>∃ r:Int,e=.returned (.I r)/\0<=r/\r<1099511627776/\zB w w':=by
 have H:=zaa h;obtain⟨aC,cC,rfl,_⟩:=h.shape;clear h;go_enter Tryz.func7,Tryz.ntmps7;go_wp2_with fail;refine(zhs _ bs w H.o hl).mono ?_;rintro e w1 ⟨rfl,S,hb⟩;have S1:=zaa S;have B1:=zaa hb;clear S hb;go_wp2_with fail;refine(zlf w w1 _ 0 _ bs S1.o.src (by omega)).mono ?_;rintro e w2 ⟨r,rfl,r0,r1,S,ho⟩;have B2:=zaa (B1.o.trans (ho.below zL B1.o.size));clear S ho;go_wp2;go_ret;exact⟨_,rfl,r0,r1,B2.o⟩
theorem zuk(v:Value)(ws:List Int)(ps:List St)(w:World)(h:RdPm w v ws ps)(hw:ws.length<=2147483648)(hp:ps.length<=2147483648) :
  zC 133 #[v] w fun e w'=>∃ v',e=.returned v'/\RowPm w' w.heap.size w'.heap.size v' ws ps/\zB w w':=by
 obtain⟨vW,vP,rfl,h1,h2⟩:=h;have H1:=zaa h1;have H2:=zaa h2;obtain⟨aW,cW,rfl,_⟩:=h1.shape;obtain⟨aP,cP,rfl,_⟩:=h2.shape;clear h1 h2
 have hb0:zB w (((w.alloc (.cells #[.slice aW ws.length cW,.slice aP ps.length cP] 26)).alloc (.cells #[.N,.N] 26)).alloc (.cells #[] 3)):=by
  repeat (refine Below.alloc ?_ (by simp<;>omega) _)
  exact zR
 have ho0:(((w.alloc (.cells #[.slice aW ws.length cW,.slice aP ps.length cP] 26)).alloc (.cells #[.N,.N] 26)).alloc (.cells #[] 3)).ownsRow (w.heap.size+2) 3 1 (.slice (some ⟨w.heap.size+1+1,0,none⟩) 0 0) 0 []:=by
  simpa using World.ownsRow_lit (base:=w.heap.size+2) (e:=3) (size:=1) ((w.alloc (.cells #[.slice aW ws.length cW,.slice aP ps.length cP] 26)).alloc (.cells #[.N,.N] 26)) #[] 0 (by simp) (by simp) rfl
 have HO:=zaa ho0;have HB:=zaa hb0;clear ho0 hb0;go_enter Tryz.func133,Tryz.ntmps133;go_wp2_with (at_builtin;refine zae _ rfl (.tmp 3) (.tmp 5) 23 rfl (w.heap.size+2) 3 (.I 0) 1 8 Tryz.underlying23 zim rfl (by decide) _ 0 [] rfl HO.o _ ws.length (zcl ws) rfl (Rd.below H1.o HB.o) (zeg ws) (by simp[maxLen];omega) (by omega) (by simp) ?_);intro v1 w1 hown1 hgr1
 have hown1:w1.ownsRow (w.heap.size+2) 3 1 v1 ws.length (zcl ws):=by simpa using hown1
 have R1:=zaa (zad hown1);obtain⟨_,a1,c1,rfl,_⟩:=(zad hown1).rd
 have hz1:w.heap.size+3<=w1.heap.size:=by have:=hgr1.size;simp at this;omega
 have V0:=(hgr1.block w.heap.size (by simp<;>omega) (by simp[Value.ownBlock]<;>omega)).trans (zaj (zaj (zaf rfl)));have V1:=(hgr1.block (w.heap.size+1) (by simp<;>omega) (by simp[Value.ownBlock]<;>omega)).trans (zaj (zaf (by simp)));have B1:=HB.o.grown hgr1 (by simp<;>omega) (fun k hk=>by simp[Value.ownBlock]at hk;omega);have V0':=zaj (o:=.cells #[] 175) (zmu V0 (.slice a1 ws.length c1));have V1':=zaj (o:=.cells #[] 175) ((Below.heap_setCell w1 ⟨w.heap.size,0,none⟩ (.slice a1 ws.length c1) (w.heap.size+1) (by simp)).trans V1);obtain⟨x1,x2,x3,x4⟩:=zac V0;obtain⟨x5,x6,x7,x8⟩:=zac V0';have HV:=zaa (And.intro V0' V1');have hB2:=(B1.setCell (p:=⟨w.heap.size,0,none⟩) zL (.slice a1 ws.length c1)).alloc (by simp;omega) (.cells #[] 175)
 have ho2:((w1.setCell ⟨w.heap.size,0,none⟩ (.slice a1 ws.length c1)).alloc (.cells #[] 175)).ownsRow w1.heap.size 175 3 (.slice (some ⟨w1.heap.size,0,none⟩) 0 0) 0 []:=by
  simpa using World.ownsRow_lit (base:=w1.heap.size) (e:=175) (size:=3) (w1.setCell ⟨w.heap.size,0,none⟩ (.slice a1 ws.length c1)) #[] 0 (by simp) (by simp) rfl
 have HB2:=zaa hB2;have HO2:=zaa ho2;clear hown1 hgr1 V0 V1 B1 V0' V1' hB2 ho2;go_wp2_with (at_builtin;refine zae _ rfl (.tmp 8) (.tmp 10) 24 rfl w1.heap.size 175 (.agg #[.I 0,.I 0,.bool false]) 3 24 Tryz.underlying24 zom rfl (by decide) _ 0 [] rfl HO2.o _ ps.length (sts ps) rfl (Rd.below H2.o HB2.o) (zvu ps) (by simp[maxLen];omega) (by omega) (by simp) ?_);intro v2 w2 hown2 hgr2
 have hown2:w2.ownsRow w1.heap.size 175 3 v2 ps.length (sts ps):=by simpa using hown2
 have R2:=zaa (zad hown2);obtain⟨_,a2,c2,rfl,_⟩:=(zad hown2).rd
 have hz2:w1.heap.size+1<=w2.heap.size:=by have:=hgr2.size;simp at this;omega
 have V0:=(hgr2.block w.heap.size (by simp<;>omega) (by simp[Value.ownBlock];omega)).trans HV.o.1;have V1:=(hgr2.block (w.heap.size+1) (by simp<;>omega) (by simp[Value.ownBlock];omega)).trans HV.o.2;have B2:=zaa (HB2.o.grown hgr2 (by simp<;>omega) (fun k hk=>by simp[Value.ownBlock]at hk;omega))
 have K2:Hid (∀ b,w.heap.size+2<=b->b<w1.heap.size->w2.heap[b]?=w1.heap[b]?):=by
  intro b h1 h2;rw[hgr2.block b (by simp<;>omega) (by simp[Value.ownBlock];omega),zfw,if_neg (by simp;omega),Below.heap_setCell _ _ _ _ (by simp only;omega)]
 obtain⟨z1,z2,z3,z4⟩:=zac V0;obtain⟨t1,t2,t3,t4⟩:=zac V1;clear hown2 hgr2 V0 V1;go_wp2;refine bodyPost_ret (v:=.agg #[.slice a1 ws.length c1,.slice a2 ps.length c2]) (by simp[results,Tryz.results133,go_sem,t1,t2]) rfl ?_;refine⟨_,rfl,⟨_,_,rfl,(R1.o.same fun b h1 h2=>?_).wide (by omega) (by simp;omega),(R2.o.same fun b h1 h2=>?_).wide (by omega) (by simp)⟩,?_⟩
 ·rw[Below.heap_setCell _ _ _ _ (by simp only;omega),Below.heap_setCell _ _ _ _ (by simp only;omega),Below.heap_setCell _ _ _ _ (by simp only;omega),K2.o b h1 h2]
 ·rw[Below.heap_setCell _ _ _ _ (by simp only;omega),Below.heap_setCell _ _ _ _ (by simp only;omega),Below.heap_setCell _ _ _ _ (by simp only;omega)]
 ·exact((B2.o.setCell (by simp only;omega) _).setCell (by simp only;omega) _).setCell (by simp only;omega) _
def CopyInv(w a:World)(x y:Value):Prop:=zB w a/\a.heap[w.heap.size]?=some (.cells #[x,y] 26 (0,0))/\a.heap[w.heap.size+1]?=some (.cells #[.N,.N] 26 (0,0))
theorem CopyInv.grown{w a b:World}{x y:Value}(h:CopyInv w a x y)(hg:a.grownBy b none):CopyInv w b x y:=by
 obtain⟨h1,h2,h3⟩:=h;have l2:=(Array.getElem?_eq_some_iff.1 h2).1;have l3:=(Array.getElem?_eq_some_iff.1 h3).1;exact⟨h1.grown hg h1.size (fun k hk=>by cases hk),(hg.block _ l2 (by simp)).trans h2,(hg.block _ l3 (by simp)).trans h3⟩
theorem CopyInv.rd{w a:World}{x y:Value}(h:CopyInv w a x y){size:Nat}{v:Value}{n:Nat}{xs:List Value}(hr:Rd w size v n xs):Rd a size v n xs:=hr.below h.1
theorem CopyInv.base{w a:World}{x y:Value}(h:CopyInv w a x y):w.heap.size+2<=a.heap.size:=(Array.getElem?_eq_some_iff.1 h.2.2).1
theorem Row.grownNone{a b:World}{e:TypeId}{size lo:Nat}{v:Value}{n:Nat}{xs:List Value}(h:Row a e size lo a.heap.size v n xs)(hg:a.grownBy b none):Row b e size lo b.heap.size v n xs :=
 (h.same (fun k _ hk=>hg.block k hk (by simp))).wide zL hg.size
theorem yaet{w b:World}{x y v1 v2:Value}{ws:List Int}{ps:List St}(hI:CopyInv w b x y)(r1:Row b 3 1 (w.heap.size+2) b.heap.size v1 ws.length (zcl ws))(r2:Row b 175 3 (w.heap.size+2) b.heap.size v2 ps.length (sts ps)) :
  RowPm ((b.setCell ⟨w.heap.size+1,0,none⟩ v1).setCell ⟨w.heap.size+1,1,none⟩ v2) w.heap.size ((b.setCell ⟨w.heap.size+1,0,none⟩ v1).setCell ⟨w.heap.size+1,1,none⟩ v2).heap.size (.agg #[v1,v2]) ws ps /\
   zB w ((b.setCell ⟨w.heap.size+1,0,none⟩ v1).setCell ⟨w.heap.size+1,1,none⟩ v2):=by
 refine⟨⟨_,_,rfl,(r1.same fun k h1 h2=>?_).wide (by omega) (by simp),(r2.same fun k h1 h2=>?_).wide (by omega) (by simp)⟩,(hI.1.setCell (by simp only;omega) _).setCell (by simp only;omega) _⟩
 ·rw[Below.heap_setCell _ _ _ _ (by simp only;omega),Below.heap_setCell _ _ _ _ (by simp only;omega)]
 ·rw[Below.heap_setCell _ _ _ _ (by simp only;omega),Below.heap_setCell _ _ _ _ (by simp only;omega)]
theorem zju(v:Value)(ws:List Int)(ps:List St)(w:World)(h:RdPm w v ws ps)(hw:ws.length<=2147483648)(hp:ps.length<=2147483648) :
  zC 74 #[v] w fun e w'=>∃ v',e=.returned v'/\RowPm w' w.heap.size w'.heap.size v' ws ps/\zB w w':=by
 obtain⟨vW,vP,rfl,h1,h2⟩:=h;have H1:=zaa h1;have H2:=zaa h2;obtain⟨aW,cW,rfl,_⟩:=h1.shape;obtain⟨aP,cP,rfl,_⟩:=h2.shape;clear h1 h2
 have I0:CopyInv w ((w.alloc (.cells #[.slice aW ws.length cW,.slice aP ps.length cP] 26)).alloc (.cells #[.N,.N] 26)).drew (.slice aW ws.length cW) (.slice aP ps.length cP):=by
  refine⟨Below.drew ?_,zaj (zaf rfl),zaf (by simp)⟩
  repeat (refine Below.alloc ?_ (by simp<;>omega) _)
  exact zR
 have HI:=zaa I0;clear I0;go_enter Tryz.func74,Tryz.ntmps74;go_wp2_with fail
 go_region_law (first
  | (refine zap rfl (.const (.N)) (.tmp 4) 23 rfl (w.heap.size+2) 3 (.I 0) 1 8 Tryz.underlying23 zim rfl (by decide) (.N) 0 [] rfl (World.ownsRow_nil _ _ _ _) (.slice aW ws.length cW) ws.length (zcl ws) rfl (by first | exact HI.o.rd H1.o | exact CopyInv.rd (Hid.o ‹_›) H1.o) (zeg ws) (by simp[maxLen];omega) (by omega) (by first | exact HI.o.base | exact CopyInv.base (Hid.o ‹_›)) ?_;intro v1 w1 hown1 hgr1;have hown1:w1.ownsRow (w.heap.size+2) 3 1 v1 ws.length (zcl ws):=(by simpa using hown1);have I1:=zaa (CopyInv.grown (by first | exact HI.o | exact Hid.o ‹_›) hgr1);obtain⟨_,a1,c1,rfl,_⟩:=(zad hown1).rd;obtain⟨x1,x2,x3,x4⟩:=zac I1.o.2.1;obtain⟨y1,y2,y3,y4⟩:=zac I1.o.2.2)
  | (refine zap rfl (.const (.N)) (.tmp 7) 24 rfl (w.heap.size+2) 175 (.agg #[.I 0,.I 0,.bool false]) 3 24 Tryz.underlying24 zom rfl (by decide) (.N) 0 [] rfl (World.ownsRow_nil _ _ _ _) (.slice aP ps.length cP) ps.length (sts ps) rfl (by first | exact HI.o.rd H2.o | exact CopyInv.rd (Hid.o ‹_›) H2.o) (zvu ps) (by simp[maxLen];omega) (by omega) (by first | exact HI.o.base | exact CopyInv.base (Hid.o ‹_›)) ?_;intro v2 w2 hown2 hgr2;have hown2:w2.ownsRow (w.heap.size+2) 175 3 v2 ps.length (sts ps):=(by simpa using hown2);have I2:=zaa (CopyInv.grown (by first | exact HI.o | exact Hid.o ‹_›) hgr2);obtain⟨_,a2,c2,rfl,_⟩:=(zad hown2).rd;obtain⟨z1,z2,z3,z4⟩:=zac I2.o.2.1;obtain⟨t1,t2,t3,t4⟩:=zac I2.o.2.2))
 all_goals
  go_wp2;refine bodyPost_ret (v:=.agg #[.slice a1 ws.length c1,.slice a2 ps.length c2]) (by first | (simp[results,Tryz.results74,go_sem,t1,t2];done) | (simp[results,Tryz.results74,go_sem,y1,y2];done)) rfl ?_;refine⟨_,rfl,?_⟩
  first
   | exact yaet I2.o (Row.grownNone (zad hown1) hgr2) (zad hown2)
   | exact yaet I1.o (zad hown1) (Row.grownNone (zad hown2) hgr1)
def zex(ws:List Int)(ps:List St)(at_ v:Int):Int:=if zij ws ps at_=0 then if zat v=false then 4 else if ps.length=400 then 7 else 0 else zij ws ps at_
def zdo(ws:List Int)(ps:List St)(at_ v:Int):List Int:=if zex ws ps at_ v=0\/zex ws ps at_ v=7 then ws else[]
def zdp(ws:List Int)(ps:List St)(at_ v:Int):List St:=if zex ws ps at_ v=0 then ps++[⟨at_,v,false⟩]else if zex ws ps at_ v=7 then ps else[]
theorem zlk(ws:List Int)(ps:List St)(at_ v:Int) :
  ((zij ws ps at_=1\/zij ws ps at_=14)/\zex ws ps at_ v=zij ws ps at_/\zdo ws ps at_ v=[]/\zdp ws ps at_ v=[]) \/
  (zij ws ps at_=0/\zat v=false/\zex ws ps at_ v=4/\zdo ws ps at_ v=[]/\zdp ws ps at_ v=[]) \/
  (zij ws ps at_=0/\zat v=true/\ps.length=400/\zex ws ps at_ v=7/\zdo ws ps at_ v=ws/\zdp ws ps at_ v=ps) \/
  (zij ws ps at_=0/\zat v=true/\¬ ps.length=400/\zex ws ps at_ v=0/\zdo ws ps at_ v=ws/\zdp ws ps at_ v=ps++[⟨at_,v,false⟩]):=by
 rcases znu ws ps at_ with hc | ⟨hc,_⟩
 ·left
  have e:zex ws ps at_ v=zij ws ps at_:=by unfold zex;rw[if_neg (by omega)]
  refine⟨hc,e,?_,?_⟩
  ·unfold zdo;rw[e,if_neg (by omega)]
  ·unfold zdp;rw[e,if_neg (by omega),if_neg (by omega)]
 ·right
  by_cases c1:zat v=true
  ·right
   by_cases c2:ps.length=400
   ·have e:zex ws ps at_ v=7:=by unfold zex;rw[if_pos hc,if_neg (by rw[c1];simp),if_pos c2]
    refine .inl ⟨hc,c1,c2,e,?_,?_⟩
    ·unfold zdo;rw[e,if_pos (.inr rfl)]
    ·unfold zdp;rw[e,if_neg (by decide),if_pos rfl]
   ·have e:zex ws ps at_ v=0:=by unfold zex;rw[if_pos hc,if_neg (by rw[c1];simp),if_neg c2]
    refine .inr ⟨hc,c1,c2,e,?_,?_⟩
    ·unfold zdo;rw[e,if_pos (.inl rfl)]
    ·unfold zdp;rw[e,if_pos rfl]
  ·have c1':zat v=false:=by simpa using c1
   have e:zex ws ps at_ v=4:=by unfold zex;rw[if_pos hc,if_pos c1']
   refine .inl ⟨hc,c1',e,?_,?_⟩
   ·unfold zdo;rw[e,if_neg (by decide)]
   ·unfold zdp;rw[e,if_neg (by decide),if_neg (by decide)]
theorem yaae(v:Value)(ws:List Int)(ps:List St)(at_ x:Int)(w:World)(h:RdPm w v ws ps)(hp:ps.length<=1048576) :
  zC 162 #[v,.I at_,.I x] w fun e w'=>∃ v',e=.returned v'/\RdPm w' v' ws (ps++[⟨at_,x,false⟩])/\zB w w':=by
 obtain⟨vW,vP,rfl,h1,h2⟩:=h;have H1:=zaa h1;have H2:=zaa h2;obtain⟨aW,cW,rfl,_⟩:=h1.shape;obtain⟨aP,cP,rfl,_⟩:=h2.shape;clear h1 h2
 have hb0:zB w (((w.alloc (.cells #[.slice aW ws.length cW,.slice aP ps.length cP] 26)).alloc (.cells #[.N,.N] 26)).alloc (.cells #[] 175)):=by
  repeat (refine Below.alloc ?_ (by simp<;>omega) _)
  exact zR
 have ho0:(((w.alloc (.cells #[.slice aW ws.length cW,.slice aP ps.length cP] 26)).alloc (.cells #[.N,.N] 26)).alloc (.cells #[] 175)).ownsRow (w.heap.size+2) 175 3 (.slice (some ⟨w.heap.size+1+1,0,none⟩) 0 0) 0 []:=by
  simpa using World.ownsRow_lit (base:=w.heap.size+2) (e:=175) (size:=3) ((w.alloc (.cells #[.slice aW ws.length cW,.slice aP ps.length cP] 26)).alloc (.cells #[.N,.N] 26)) #[] 0 (by simp) (by simp) rfl
 have HO:=zaa ho0;have HB:=zaa hb0;clear ho0 hb0;go_enter Tryz.func162,Tryz.ntmps162;go_wp2_with (at_builtin;refine zae _ rfl (.tmp 7) (.tmp 9) 24 rfl (w.heap.size+2) 175 (.agg #[.I 0,.I 0,.bool false]) 3 24 Tryz.underlying24 zom rfl (by decide) _ 0 [] rfl HO.o _ ps.length (sts ps) rfl (Rd.below H2.o HB.o) (zvu ps) (by simp[maxLen];omega) (by omega) (by simp) ?_);intro v1 w1 hown1 hgr1
 have hown1:w1.ownsRow (w.heap.size+2) 175 3 v1 ps.length (sts ps):=by simpa using hown1
 have hz1:w.heap.size+3<=w1.heap.size:=by have:=hgr1.size;simp at this;omega
 have V0:=(hgr1.block w.heap.size (by simp<;>omega) (by simp[Value.ownBlock]<;>omega)).trans (zaj (zaj (zaf rfl)));have V1:=(hgr1.block (w.heap.size+1) (by simp<;>omega) (by simp[Value.ownBlock]<;>omega)).trans (zaj (zaf (by simp)));have B1:=HB.o.grown hgr1 (by simp<;>omega) (fun k hk=>by simp[Value.ownBlock]at hk;omega);have hB2:=B1.alloc (by omega) (.cells #[.I at_,.I x,.bool false] 175);have V0':=zaj (o:=.cells #[.I at_,.I x,.bool false] 175) V0;have V1':=zaj (o:=.cells #[.I at_,.I x,.bool false] 175) V1;have ho2:=hown1.alloc (.cells #[.I at_,.I x,.bool false] 175)
 have hr2:Rd (w1.alloc (.cells #[.I at_,.I x,.bool false] 175)) 3 (.slice (some ⟨w1.heap.size,0,none⟩) 1 1) 1 (St.cells ⟨at_,x,false⟩):=by
  refine⟨rfl,_,_,rfl,⟨Nat.le_refl _,fun e=>by cases e⟩,fun _=>⟨w1.heap.size,0,rfl,by simp,fun j hj=>?_⟩⟩;obtain⟨e0,e1,e2⟩:=zay (zaf (w:=w1) (o:=.cells #[.I at_,.I x,.bool false] 175) rfl);rw[Nat.zero_add]
  rcases(show j=0\/j=1\/j=2 from by omega)with rfl|rfl|rfl
  ·exact e0
  ·exact e1
  ·exact e2
 have HV:=zaa (And.intro V0' V1');have HB2:=zaa hB2;have HO2:=zaa ho2;have HR2:=zaa hr2;clear hown1 hgr1 V0 V1 B1 V0' V1' hB2 ho2 hr2;go_wp2_with (at_builtin;refine zae _ rfl (.tmp 10) (.tmp 14) 24 rfl (w.heap.size+2) 175 (.agg #[.I 0,.I 0,.bool false]) 3 24 Tryz.underlying24 zom rfl (by decide) _ ps.length (sts ps) rfl HO2.o _ 1 (St.cells ⟨at_,x,false⟩) rfl HR2.o (fun u hu=>by simp[St.cells]at hu;rcases hu with rfl|rfl|rfl<;>rfl) (by simp[maxLen];omega) (by omega) (by simp;omega) ?_);intro v2 w2 hown2 hgr2
 have hr3:RdS w2 v2 (ps++[⟨at_,x,false⟩]):=by
  have:=(zad hown2).rd;unfold RdS;rw[zpx,List.length_append];exact this
 have L3:=zaa (fun k hk=>(hown2.lt k hk).1);have R3:Hid (RdS w2 v2 (ps++[⟨at_,x,false⟩])):=hr3;obtain⟨_,a2,c2,e2,_⟩:=hr3;simp only[List.length_append,List.length_singleton]at e2;subst e2
 have hz2:w1.heap.size+1<=w2.heap.size:=by have:=hgr2.size;simp at this;omega
 have hne:∀ b,b<w.heap.size+2->¬ some b=Value.ownBlock v1:=by
  intro b hb e;have:=(HO2.o.lt b e.symm).1;omega
 have V0:=(hgr2.block w.heap.size (by simp<;>omega) (hne _ (by omega))).trans HV.o.1;have V1:=(hgr2.block (w.heap.size+1) (by simp<;>omega) (hne _ (by omega))).trans HV.o.2;have B2:=zaa (HB2.o.grown hgr2 (by simp<;>omega) (fun k hk=>by have:=(HO2.o.lt k hk).1;omega));obtain⟨z1,z2,z3,z4⟩:=zac V0;obtain⟨t1,t2,t3,t4⟩:=zac V1;clear hown2 hgr2 V0 V1;go_wp2;refine bodyPost_ret (v:=.agg #[.slice aW ws.length cW,.slice a2 (ps.length+1) c2]) (by simp[results,Tryz.results162,go_sem,t1,t2]) rfl ?_;have B3:=((B2.o.setCell (p:=⟨w.heap.size,1,none⟩) zL (.slice a2 (ps.length+1) c2)).setCell (p:=⟨w.heap.size+1,0,none⟩) (by simp only;omega) (.slice aW ws.length cW)).setCell (p:=⟨w.heap.size+1,1,none⟩) (by simp only;omega) (.slice a2 (ps.length+1) c2);refine⟨_,rfl,⟨_,_,rfl,Rd.below H1.o B3,Rd.same R3.o (by simp) (fun b _ hb=>?_)⟩,B3⟩;have:=L3.o b hb;rw[Below.heap_setCell _ _ _ _ (by simp only;omega),Below.heap_setCell _ _ _ _ (by simp only;omega),Below.heap_setCell _ _ _ _ (by simp only;omega)]
end Go.Proofs.YtdiaiejmoocpmaaGreatDoor
