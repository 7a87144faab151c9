import Derived.Test.YtdiaiejmoocpmaaGreatDoorZAB
import Derived.Laws.IdiomStrings
import Derived.Laws.BytesArg
set_option maxRecDepth 100000
set_option maxHeartbeats 4000000
namespace Go.Proofs.YtdiaiejmoocpmaaGreatDoor
open Go.RowKit
theorem yafd{a b:ByteArray}{c d:Int}(h:a=b)(k:c=d):Ending.returned (.tuple #[.string a,.I c])=.returned (.tuple #[.string b,.I d]):=by rw[h,k]
theorem yavq{a b:ByteArray}{c d:Bool}(h:a=b)(k:c=d):Ending.returned (.tuple #[.string a,.bool c])=.returned (.tuple #[.string b,.bool d]):=by rw[h,k]
theorem yahu(n:Int)(w:World)(h:1<=n/\n<=6):zC 65 #[.I n,.I 1,.I 6] w fun e w'=>e=.returned (.bool true)/\w'=w:=by
 obtain⟨h1,h2⟩:=h;go_enter Tryz.func65,Tryz.ntmps65;go_wp2;go_ret;exact⟨rfl,rfl⟩
theorem yanh(n:Int)(w:World)(h:¬ (1<=n/\n<=6)):zC 65 #[.I n,.I 1,.I 6] w fun e w'=>e=.returned (.bool false)/\w'=w:=by
 rcases(show ¬ 1<=n\/(1<=n/\¬ n<=6) by omega)with h1 | ⟨h1,h2⟩
 all_goals
  clear h;go_enter Tryz.func65,Tryz.ntmps65;go_wp2;go_ret;exact⟨rfl,rfl⟩
theorem zfg(s:ByteArray)(w:World)(hs:s.size<=maxLen):zC 159 #[.string s] w fun e w'=>e=.returned (.bool (nmB s))/\w'=w:=by
 unfold maxLen at hs
 by_cases c:1<=s.size/\s.size<=6
 ·have c':1<=(s.size:Int)/\(s.size:Int)<=6:=by omega
  have C:=zaa c';obtain⟨c1,c2⟩:=c;clear c';go_enter Tryz.func159,Tryz.ntmps159;go_wp2_with (go_at_call 65;refine(yahu _ _ C.o).mono ?_;rintro e w' ⟨rfl,rfl⟩)
  go_loop [3] (fun i=>∃ k:Nat,k<=s.size/\i=.I k/\Hid (∀ j (h:j<s.size),j<k->97<=s[j].toNat/\s[j].toNat<=122)) (fun i=>s.size-(intOf i).toNat)
  case atStart=>exact⟨0,by omega,rfl,fun j h b=>absurd b (by omega)⟩
  case round =>
   obtain⟨k,hk,rfl,H⟩:=hrel
   by_cases hlt:k<s.size
   ·rcases(show((s[k].toNat:Int)<97)\/(¬ ((s[k].toNat:Int)<97)/\(122:Int)<(s[k].toNat:Int))\/(¬ ((s[k].toNat:Int)<97)/\¬ (122:Int)<(s[k].toNat:Int)) by omega)with d | ⟨d,d'⟩ | ⟨d,d'⟩
    ·have E:=zaa (zrh hlt (by omega));go_wp2;go_ret;exact⟨zag E.o.symm,rfl⟩
    ·have E:=zaa (zrh hlt (by omega));go_wp2;go_ret;exact⟨zag E.o.symm,rfl⟩
    ·go_wp2
     go_round
     case rel =>
      refine⟨k+1,by omega,by go_num,fun j h b=>?_⟩
      by_cases e:j=k
      ·subst e;omega
      ·exact H.o j h (by omega)
     case measure=>simp[intOf];omega
   ·have E:=zaa (yacs c1 c2 (fun j h=>H.o j h (by omega)));go_wp2;go_ret;exact⟨zag E.o.symm,rfl⟩
 ·have c':¬ (1<=(s.size:Int)/\(s.size:Int)<=6):=by omega
  have C:=zaa c';have E:=zaa (show nmB s=false from decide_eq_false (fun x=>c ⟨x.1,x.2.1⟩));clear c c';go_enter Tryz.func159,Tryz.ntmps159;go_wp2_with (go_at_call 65;refine(yanh _ _ C.o).mono ?_;rintro e w' ⟨rfl,rfl⟩);go_ret;exact⟨zag E.o.symm,rfl⟩
theorem yaml{s:ByteArray}(h:65536<s.size):zob s=0/\ztc s=2:=by
 unfold zob ztc;rw[if_neg (by rw[zxa (by omega)];simp),if_pos h];exact⟨rfl,rfl⟩
theorem zpu{s:ByteArray}(h:¬ 65536<s.size)(h2:nmB s=false):zob s=0/\ztc s=12:=by
 unfold zob ztc;rw[h2,if_neg h];exact⟨rfl,rfl⟩
theorem yafq{s:ByteArray}(h:nmB s=true):zob s=((pk s s.size:Nat):Int)/\ztc s=0:=by
 unfold zob ztc;have:=(zfx h).2.1;rw[if_pos h,if_neg (by omega),if_pos h];exact⟨rfl,rfl⟩
theorem zox(s:ByteArray)(w:World)(hs:s.size<=maxLen):zC 191 #[.string s] w fun e w'=>e=.returned (.tuple #[.I (zob s),.I (ztc s)])/\zB w w':=by
 unfold maxLen at hs
 by_cases c0:65536<s.size
 ·have E:=zaa (yaml c0);go_enter Tryz.func191,Tryz.ntmps191;go_wp2;go_ret2;exact⟨zdf E.o.1.symm E.o.2.symm,zR⟩
 by_cases c1:s.size<1
 ·have E:=zaa (zpu c0 (zye c1));go_enter Tryz.func191,Tryz.ntmps191;go_wp2;go_ret2;exact⟨zdf E.o.1.symm E.o.2.symm,zR⟩
 by_cases c2:6<s.size
 ·have E:=zaa (zpu c0 (zxa c2));go_enter Tryz.func191,Tryz.ntmps191;go_wp2;go_ret2;exact⟨zdf E.o.1.symm E.o.2.symm,zR⟩
 have hconv:=run_bytes_of_string (P:=Tryz.prog) w 9 22 5 s Tryz.underlying9 Tryz.underlying22 Tryz.underlying5;generalize hcap:grownCap w s.size 0 5=cap at hconv
 have CELL:Hid (∀ k (h:k<s.size),(w.drew.alloc (.cells (bytesRow s cap) 5 ((bytesRow s cap).size,(bytesRow s cap).size+1))).cell? ⟨w.heap.size,k,none⟩=some (.int .u8 (s[k].toNat:Int))):=fun k h=>by
  have e:=World.cell?_alloc_mark w.drew (bytesRow s cap) 5 ((bytesRow s cap).size,(bytesRow s cap).size+1) k;rw[bytesRow_at s cap k h]at e;exact e
 have BB:Hid (zB w (w.drew.alloc (.cells (bytesRow s cap) 5 ((bytesRow s cap).size,(bytesRow s cap).size+1)))):=(zR.drew).alloc zL _;clear hcap;generalize w.drew.alloc (.cells (bytesRow s cap) 5 ((bytesRow s cap).size,(bytesRow s cap).size+1))=w1 at hconv CELL BB;go_enter Tryz.func191,Tryz.ntmps191;go_wp2
 go_loop [4,6,21] (fun n _ i=>∃ k:Nat,k<=s.size/\i=.I k/\n=.I ((pk s k:Nat):Int)/\Hid (∀ j (h:j<s.size),j<k->97<=s[j].toNat/\s[j].toNat<=122)) (fun _ _ i=>s.size-(intOf i).toNat)
 case atStart=>exact⟨0,by omega,rfl,by rw[yadh];rfl,fun j h b=>absurd b (by omega)⟩
 case round =>
  obtain⟨k,hk,rfl,rfl,H⟩:=hrel
  by_cases hlt:k<s.size
  ·have x0:=CELL.o k hlt;have bd:pk s k<387420489:=yaxe H.o (by omega);have SU:=zaa (yajy s k hlt);have b255:s[k].toNat<256:=s[k].toNat_lt;have NO:=zaa (zrh (s:=s) hlt)
   have NX:Hid (97<=s[k].toNat/\s[k].toNat<=122->∀ j (h:j<s.size),j<k+1->97<=s[j].toNat/\s[j].toNat<=122):=fun hx j h b=>by
    by_cases e:j=k
    ·subst e;exact hx
    ·exact H.o j h (by omega)
   generalize s[k].toNat=x at x0 SU b255 NO NX
   rcases(show((x:Int)<97)\/(¬ ((x:Int)<97)/\(122:Int)<(x:Int))\/(¬ ((x:Int)<97)/\¬ (122:Int)<(x:Int)) by omega)with d | ⟨d,d'⟩ | ⟨d,d'⟩
   ·have E:=zaa (zpu c0 (NO.o (by omega)));go_wp2;go_ret2;exact⟨zdf E.o.1.symm E.o.2.symm,BB.o⟩
   ·have E:=zaa (zpu c0 (NO.o (by omega)));go_wp2;go_ret2;exact⟨zdf E.o.1.symm E.o.2.symm,BB.o⟩
   ·go_wp2
    go_round
    case rel=>exact⟨k+1,by omega,by go_num,by rw[SU.o];congr 1;omega,NX.o (by omega)⟩
    case measure=>simp[intOf];omega
  ·have ek:k=s.size:=by omega
   subst ek;have E:=zaa (yafq (yacs (s:=s) (by omega) (by omega) (fun j h=>H.o j h h)));go_wp2;go_ret2;exact⟨zdf E.o.1.symm E.o.2.symm,BB.o⟩
theorem yabi(s:ByteArray)(w:World)(hs:nmB s=true):zC 208 #[.string s] w fun e w'=>e=.returned (.I ((pk s s.size:Nat):Int))/\w'=w:=by
 have N:=zaa (zfx hs);have h6:s.size<=6:=(zfx hs).2.1;clear hs;go_enter Tryz.func208,Tryz.ntmps208;go_wp2
 go_loop [3,4] (fun n i=>∃ k:Nat,k<=s.size/\i=.I k/\n=.I ((pk s k:Nat):Int)) (fun _ i=>s.size-(intOf i).toNat)
 case atStart=>exact⟨0,by omega,rfl,by rw[yadh];rfl⟩
 case round =>
  obtain⟨k,hk,rfl,rfl⟩:=hrel
  by_cases hlt:k<s.size
  ·have bd:pk s k<387420489:=yaxe (fun j h _=>N.o.2.2 j h) (by omega);have SU:=zaa (yajy s k hlt);have b1:=N.o.2.2 k hlt;go_wp2
   go_round
   case rel=>exact⟨k+1,by omega,by go_num,by rw[SU.o];congr 1;omega⟩
   case measure=>simp[intOf];omega
  ·have ek:k=s.size:=by omega
   subst ek;go_wp2;go_ret;exact⟨rfl,rfl⟩
theorem zpl(w:World)(t:TypeId)(size:Nat):Row (w.alloc (.cells #[] t)) t size w.heap.size (w.alloc (.cells #[] t)).heap.size (.slice (some ⟨w.heap.size,0,none⟩) 0 0) 0 [] :=
 zad (World.ownsRow_lit w #[] 0 zL (by simp[maxLen]) (by simp))
theorem Ino.all{x:Ino}{w':World}{b:Nat}(h:∀ j,w'.cell? ⟨b,j,none⟩=x.cs[j]?):w'.cell? ⟨b,0,none⟩=some (.I x.kind)/\w'.cell? ⟨b,1,none⟩=some (.I x.size)/\w'.cell? ⟨b,2,none⟩=some (.I x.links)/\w'.cell? ⟨b,3,none⟩=some (.I x.m0)/\w'.cell? ⟨b,4,none⟩=some (.I x.m1)/\w'.cell? ⟨b,5,none⟩=some (.I x.m2)/\w'.cell? ⟨b,6,none⟩=some (.I x.m3)/\w'.cell? ⟨b,7,none⟩=some (.I x.m4)/\w'.cell? ⟨b,8,none⟩=some (.I x.m5)/\w'.cell? ⟨b,9,none⟩=some (.I x.m6)/\w'.cell? ⟨b,10,none⟩=some (.I x.m7):=⟨h 0,h 1,h 2,h 3,h 4,h 5,h 6,h 7,h 8,h 9,h 10⟩
def inos(ps:List Ino):List Value:=ps.flatMap Ino.cs
theorem Ino.cs_len(x:Ino):x.cs.length=11:=rfl
theorem zgm(ps:List Ino)(k i:Nat)(h:k<ps.length)(hi:i<11):(inos ps)[k*11+i]?=ps[k].cs[i]?:=(zbt _ 11 Ino.cs_len ps k i h hi).trans (by rw[List.getElem?_eq_getElem (show i<ps[k].cs.length by rw[Ino.cs_len];exact hi)])
def RdN(w:World)(v:Value)(ps:List Ino):Prop:=Rd w 11 v ps.length (inos ps)
theorem RdN.shape{w:World}{v:Value}{ps:List Ino}(h:RdN w v ps):∃ ao cap,v=.slice ao ps.length cap/\ps.length<=cap/\(0<ps.length->∃ b o,ao=some ⟨b,o,none⟩/\b<w.heap.size /\
  ∀ k (h:k<ps.length),w.cell? ⟨b,o+k*11,none⟩=some (.I ps[k].kind)/\w.cell? ⟨b,o+k*11+1,none⟩=some (.I ps[k].size)/\w.cell? ⟨b,o+k*11+2,none⟩=some (.I ps[k].links)/\w.cell? ⟨b,o+k*11+3,none⟩=some (.I ps[k].m0)/\w.cell? ⟨b,o+k*11+4,none⟩=some (.I ps[k].m1)/\w.cell? ⟨b,o+k*11+5,none⟩=some (.I ps[k].m2)/\w.cell? ⟨b,o+k*11+6,none⟩=some (.I ps[k].m3)/\w.cell? ⟨b,o+k*11+7,none⟩=some (.I ps[k].m4)/\w.cell? ⟨b,o+k*11+8,none⟩=some (.I ps[k].m5)/\w.cell? ⟨b,o+k*11+9,none⟩=some (.I ps[k].m6)/\w.cell? ⟨b,o+k*11+10,none⟩=some (.I ps[k].m7)):=by
 obtain⟨_,ao,cap,rfl,h2,h3⟩:=h;refine⟨ao,cap,rfl,h2.1,fun hn=>?_⟩;obtain⟨b,o,rfl,hb,hc⟩:=h3 hn;exact⟨b,o,rfl,hb,fun k hk=>⟨(hc (k*11) (by omega)).trans (zgm ps k 0 hk (by omega)),(hc (k*11+1) (by omega)).trans (zgm ps k 1 hk (by omega)),(hc (k*11+2) (by omega)).trans (zgm ps k 2 hk (by omega)),(hc (k*11+3) (by omega)).trans (zgm ps k 3 hk (by omega)),(hc (k*11+4) (by omega)).trans (zgm ps k 4 hk (by omega)),(hc (k*11+5) (by omega)).trans (zgm ps k 5 hk (by omega)),(hc (k*11+6) (by omega)).trans (zgm ps k 6 hk (by omega)),(hc (k*11+7) (by omega)).trans (zgm ps k 7 hk (by omega)),(hc (k*11+8) (by omega)).trans (zgm ps k 8 hk (by omega)),(hc (k*11+9) (by omega)).trans (zgm ps k 9 hk (by omega)),(hc (k*11+10) (by omega)).trans (zgm ps k 10 hk (by omega))⟩⟩
theorem yapg:(Tryz.prog.info? 59).map (fun i=>(i.zero,i.size,i.bytes))=some (some (.agg #[.I 0,.I 0,.I 0,.I 0,.I 0,.I 0,.I 0,.I 0,.I 0,.I 0,.I 0]),11,88):=by kernel_rfl
structure St where
 at_:Int
 val:Int
 fl:Bool
deriving DecidableEq
def St.cells(s:St):List Value:=[.I s.at_,.I s.val,.bool s.fl]
def sts(ps:List St):List Value:=ps.flatMap St.cells
theorem St.cells_len(s:St):s.cells.length=3:=rfl
theorem zwv(ps:List St):(sts ps).length=ps.length*3:=zrb _ 3 St.cells_len ps
theorem znv(ps:List St)(k:Nat)(h:k<ps.length):(sts ps)[k*3]?=some (.I ps[k].at_):=zbt _ 3 St.cells_len ps k 0 h (by omega)
theorem yakz(ps:List St)(k:Nat)(h:k<ps.length):(sts ps)[k*3+1]?=some (.I ps[k].val):=zbt _ 3 St.cells_len ps k 1 h (by omega)
theorem zux(ps:List St)(k:Nat)(h:k<ps.length):(sts ps)[k*3+2]?=some (.bool ps[k].fl):=zbt _ 3 St.cells_len ps k 2 h (by omega)
def RdS(w:World)(v:Value)(ps:List St):Prop:=Rd w 3 v ps.length (sts ps)
theorem RdS.shape{w:World}{v:Value}{ps:List St}(h:RdS w v ps):∃ ao cap,v=.slice ao ps.length cap/\ps.length<=cap/\(0<ps.length->∃ b o,ao=some ⟨b,o,none⟩/\b<w.heap.size /\
  ∀ k (h:k<ps.length),w.cell? ⟨b,o+k*3,none⟩=some (.I ps[k].at_)/\w.cell? ⟨b,o+k*3+1,none⟩=some (.I ps[k].val)/\w.cell? ⟨b,o+k*3+2,none⟩=some (.bool ps[k].fl)):=by
 obtain⟨_,ao,cap,rfl,h2,h3⟩:=h;refine⟨ao,cap,rfl,h2.1,fun hn=>?_⟩;obtain⟨b,o,rfl,hb,hc⟩:=h3 hn;exact⟨b,o,rfl,hb,fun k hk=>⟨(hc (k*3) (by omega)).trans (znv ps k hk),(hc (k*3+1) (by omega)).trans (yakz ps k hk),(hc (k*3+2) (by omega)).trans (zux ps k hk)⟩⟩
theorem zom:(Tryz.prog.info? 175).map (fun i=>(i.zero,i.size,i.bytes))=some (some (.agg #[.I 0,.I 0,.bool false]),3,24):=by kernel_rfl
structure Den where
 dir:Int
 name:ByteArray
 child:Int
def Den.v(x:Den):Value:=.agg #[.I x.dir,.string x.name,.I x.child]
def Den.freeB(x:Den):Bool:=x.dir == 0&&(x.name.size == 0&&x.child == -1)
def Den.okB(x:Den):Bool:=x.freeB||(decide (1<=x.child/\x.child<=15)&&(decide (0<=x.dir/\x.dir<=15)&&nmB x.name))
def enL(k:Int)(x:Den):List Se:=[⟨240+3*k,x.dir⟩,⟨240+3*k+1,((pk x.name x.name.size:Nat):Int)⟩,⟨240+3*k+2,x.child+1⟩]
theorem zze(s:ByteArray)(w:World)(hs:s.size=0):zC 208 #[.string s] w fun e w'=>e=.returned (.I ((pk s s.size:Nat):Int))/\w'=w:=by
 have E:=zaa (show((pk s s.size:Nat):Int)=0 by rw[hs,yadh];rfl);rw[E.o];go_enter Tryz.func208,Tryz.ntmps208;go_wp2
 go_loop [3,4] (fun n i=>i=.I 0/\n=.I 0) (fun _ i=>0)
 case atStart=>exact⟨rfl,rfl⟩
 case round =>
  obtain⟨rfl,rfl⟩:=hrel;go_wp2;go_ret;exact⟨rfl,rfl⟩
theorem zgv(k:Int)(x:Den)(w:World)(hk:0<=k/\k<24)(hc:-1<=x.child/\x.child<=15)(hn:x.name.size=0\/nmB x.name=true) :
  zC 198 #[.I k,x.v] w fun e w'=>∃ v',e=.returned v'/\Row w' 114 2 w.heap.size w'.heap.size v' (enL k x).length (ses (enL k x))/\zB w w':=by
 have LP:=zaa (fun w1=>show zC 208 #[.string x.name] w1 fun e w'=>e=.returned (.I ((pk x.name x.name.size:Nat):Int))/\w'=w1 by
  rcases hn with h | h
  ·exact zze _ _ h
  ·exact yabi _ _ h)
 clear hn;have EL:=zaa (show enL k x=[⟨240+3*k,x.dir⟩,⟨240+3*k+1,((pk x.name x.name.size:Nat):Int)⟩,⟨240+3*k+2,x.child+1⟩]from rfl);generalize ((pk x.name x.name.size:Nat):Int)=p at LP EL
 obtain⟨W,hW⟩:=zE (w.alloc (.cells #[.I x.dir,.string x.name,.I x.child] 158))
 have SK:Hid (∀ w',zB W w'->w'.cell? ⟨w.heap.size,0,none⟩=some (.I x.dir)/\w'.cell? ⟨w.heap.size,1,none⟩=some (.string x.name)/\w'.cell? ⟨w.heap.size,2,none⟩=some (.I x.child)):=fun w' hb=>by
  have:w'.heap[w.heap.size]?=some (.cells #[.I x.dir,.string x.name,.I x.child] 158 (0,0)):=(hb.block _ (by rw[hW];simp)).trans (by rw[hW];exact zaf rfl);exact zay this
 have BW:Hid (zB w W):=by rw[hW];exact zR.alloc zL _
 have hz:w.heap.size<=W.heap.size:=BW.o.size;unfold Den.v;go_enter Tryz.func198,Tryz.ntmps198;go_wp2_with fail;rw[<- hW];clear hW
 go_region_held3 (fun w'=>w'.cell? ⟨w.heap.size,0,none⟩=some (.I x.dir)/\w'.cell? ⟨w.heap.size,1,none⟩=some (.string x.name)/\w'.cell? ⟨w.heap.size,2,none⟩=some (.I x.child))
  (exact SK.o _ (by repeat (first | exact zR | refine Below.drew ?_ | refine Below.alloc ?_ (by simp) _)))
  (first | (go_at_call 128;refine(zev _ _ _ hk (by omega)).mono ?_;rintro e w' ⟨rfl,hw'⟩;subst w') | (go_at_call 208;refine(LP.o _).mono ?_;rintro e w' ⟨rfl,hw'⟩;subst w'))
 have wp1:IntKind.i64.wrap (x.child+1)=x.child+1:=by rw[IntKind.wrap_i64];omega
 rw[wp1]
 have R:Hid (UpI W (W.alloc (.cells #[.I (240+3*k),.I x.dir,.I (240+3*k+1),.I p,.I (240+3*k+2),.I (x.child+1)] 114)).drew (.slice (some ⟨W.heap.size,0,none⟩) 3 3) (enL k x)):=by
  show UpI _ _ _ _
  rw[EL.o];exact UpI.below (w:=W.alloc (.cells #[.I (240+3*k),.I x.dir,.I (240+3*k+1),.I p,.I (240+3*k+2),.I (x.child+1)] 114)) ⟨World.ownsRow_lit W _ 3 zL (by simp[maxLen]) rfl,zR.alloc zL _⟩ (zR.drew)
 go_wp2;go_ret;exact⟨_,rfl,(zad R.o.l).wide hz zL,zab BW.o R.o.b hz⟩
theorem yakw(s:ByteArray):s.toList=[]↔s.size=0:=by
 rw[ByteArray.toList_eq];obtain⟨⟨x⟩⟩:=s
 show x=[]↔x.length=0
 exact List.length_eq_zero_iff.symm
def Den.cells(s:Den):List Value:=[.I s.dir,.string s.name,.I s.child]
def dens(ps:List Den):List Value:=ps.flatMap Den.cells
theorem Den.cells_len(s:Den):s.cells.length=3:=rfl
theorem yafw(ps:List Den):(dens ps).length=ps.length*3:=zrb _ 3 Den.cells_len ps
theorem yath(ps:List Den)(k:Nat)(h:k<ps.length):(dens ps)[k*3]?=some (.I ps[k].dir):=zbt _ 3 Den.cells_len ps k 0 h (by omega)
theorem yaqn(ps:List Den)(k:Nat)(h:k<ps.length):(dens ps)[k*3+1]?=some (.string ps[k].name):=zbt _ 3 Den.cells_len ps k 1 h (by omega)
theorem yasq(ps:List Den)(k:Nat)(h:k<ps.length):(dens ps)[k*3+2]?=some (.I ps[k].child):=zbt _ 3 Den.cells_len ps k 2 h (by omega)
def RdD(w:World)(v:Value)(ps:List Den):Prop:=Rd w 3 v ps.length (dens ps)
theorem RdD.shape{w:World}{v:Value}{ps:List Den}(h:RdD w v ps):∃ ao cap,v=.slice ao ps.length cap/\ps.length<=cap/\(0<ps.length->∃ b o,ao=some ⟨b,o,none⟩/\b<w.heap.size /\
  ∀ k (h:k<ps.length),w.cell? ⟨b,o+k*3,none⟩=some (.I ps[k].dir)/\w.cell? ⟨b,o+k*3+1,none⟩=some (.string ps[k].name)/\w.cell? ⟨b,o+k*3+2,none⟩=some (.I ps[k].child)):=by
 obtain⟨_,ao,cap,rfl,h2,h3⟩:=h;refine⟨ao,cap,rfl,h2.1,fun hn=>?_⟩;obtain⟨b,o,rfl,hb,hc⟩:=h3 hn;exact⟨b,o,rfl,hb,fun k hk=>⟨(hc (k*3) (by omega)).trans (yath ps k hk),(hc (k*3+1) (by omega)).trans (yaqn ps k hk),(hc (k*3+2) (by omega)).trans (yasq ps k hk)⟩⟩
theorem zqj:(Tryz.prog.info? 158).map (fun i=>(i.zero,i.size,i.bytes))=some (some (.agg #[.I 0,.string ⟨#[]⟩,.I 0]),3,32):=by kernel_rfl
def RdIm(w:World)(v:Value)(ws:List Ino)(ps:List Den):Prop:=∃ vW vP,v=.agg #[vW,vP]/\RdN w vW ws/\RdD w vP ps
def RowIm(w:World)(lo hi:Nat)(v:Value)(ws:List Ino)(ps:List Den):Prop:=∃ vW vP,v=.agg #[vW,vP]/\Row w 59 11 lo hi vW ws.length (inos ws)/\Row w 158 3 lo hi vP ps.length (dens ps)
theorem RowIm.rd{w:World}{lo hi:Nat}{v:Value}{ws:List Ino}{ps:List Den}(h:RowIm w lo hi v ws ps):RdIm w v ws ps:=by
 obtain⟨vW,vP,rfl,h1,h2⟩:=h;exact⟨vW,vP,rfl,h1.rd,h2.rd⟩
theorem RdIm.below{w w':World}{v:Value}{ws:List Ino}{ps:List Den}(h:RdIm w v ws ps)(hb:zB w w'):RdIm w' v ws ps:=by
 obtain⟨vW,vP,rfl,h1,h2⟩:=h;exact⟨vW,vP,rfl,Rd.below h1 hb,Rd.below h2 hb⟩
theorem RowIm.below{w w':World}{lo hi:Nat}{v:Value}{ws:List Ino}{ps:List Den}(h:RowIm w lo hi v ws ps){B:Nat}(hb:Below B w w')(hB:hi<=B):RowIm w' lo hi v ws ps:=by
 obtain⟨vW,vP,rfl,h1,h2⟩:=h;exact⟨vW,vP,rfl,h1.below hb hB,h2.below hb hB⟩
def zey(zs:List Int)(n:Int):Bool:=zs.contains n
theorem yako{zs:List Int}{n:Int}(h:∀ j (h:j<zs.length),¬ zs[j]=n):zey zs n=false:=by
 unfold zey;rw[List.contains_eq_any_beq,List.any_eq_false];intro z hz;obtain⟨j,hj,rfl⟩:=List.getElem_of_mem hz;simp only[beq_iff_eq]
 exact fun e=>h j hj e.symm
theorem znz(v:Value)(zs:List Int)(n:Int)(w:World)(h:RdI w v zs)(hn:zs.length<=1048576) :
  zC 119 #[v,.I n] w fun e w'=>e=.returned (.bool (zey zs n))/\w'=w:=by
 obtain⟨aZ,cZ,rfl,_,hcZ⟩:=h.shape;have HZ:=zaa hcZ;clear h hcZ;go_enter Tryz.func119,Tryz.ntmps119;go_wp2
 go_loop [5] (fun i=>∃ k:Nat,k<=zs.length/\i=.I k/\Hid (∀ j (h:j<zs.length),j<k->¬ zs[j]=n)) (fun i=>zs.length-(intOf i).toNat)
 case atStart=>exact⟨0,by omega,rfl,fun j h a=>absurd a (by omega)⟩
 case round =>
  obtain⟨k,hk,rfl,H⟩:=hrel
  by_cases hlt:k<zs.length
  ·obtain⟨b,o,rfl,hbl,hcell⟩:=HZ.o (by omega);have d0:=hcell k hlt
   have k0:(0:Int)<=(k:Int):=by omega
   have k1:(k:Int)<(zs.length:Int):=by omega
   have HY:=zaa (fun e:zs[k]=n=>show zey zs n=true by unfold zey;rw[<- e];exact List.contains_iff_mem.2 (List.getElem_mem hlt))
   have HX:=zaa (fun(e:¬ zs[k]=n) j (h:j<zs.length) (a:j<k+1)=>show ¬ zs[j]=n by
    by_cases q:j=k
    ·subst q;exact e
    ·exact H.o j h (by omega))
   clear hcell;generalize zs[k]=z at *
   by_cases q:z=n
   ·have q1:(z == n)=true:=beq_iff_eq.2 q;have E:=zaa (HY.o q);clear q HX HY;go_wp2;go_ret;exact⟨zag E.o.symm,rfl⟩
   ·have q1:(z == n)=false:=beq_eq_false_iff_ne.2 q;have E:=zaa (HX.o q);clear q HX HY;go_wp2
    go_round
    case rel=>exact⟨k+1,by omega,by go_num,E⟩
    case measure=>simp[intOf];omega
  ·obtain rfl:k=zs.length:=by omega
   have E:=zaa (yako (fun j h=>H.o j h h));go_wp2;go_ret;exact⟨zag E.o.symm,rfl⟩
theorem zul(b:Bool)(w:World):zC 180 #[.bool b] w fun e w'=>e=.returned (.I (if b=true then 1 else 0))/\w'=w:=by
 cases b
 all_goals
  go_enter Tryz.func180,Tryz.ntmps180;go_wp2;go_ret;exact⟨rfl,rfl⟩
def upD(ds:List Den)(c:Int):Int:=((ds.find? fun x=>x.child == c).map Den.dir).getD (-1)
theorem ybal{ds:List Den}{c:Int}(h:∀ j (h:j<ds.length),¬ ds[j].child=c):upD ds c=-1:=by
 unfold upD;rw[List.find?_eq_none.2]
 ·rfl
 ·intro x hx;obtain⟨j,hj,rfl⟩:=List.getElem_of_mem hx;simp only[beq_iff_eq];exact h j hj
theorem yapx{ds:List Den}{c:Int}{k:Nat}(hk:k<ds.length)(h:∀ j (h:j<ds.length),j<k->¬ ds[j].child=c)(e:ds[k].child=c):upD ds c=ds[k].dir:=by
 unfold upD
 have:ds.find? (fun x=>x.child == c)=some ds[k]:=List.find?_eq_some_iff_getElem.2 ⟨beq_iff_eq.2 e,k,hk,rfl,fun j hj=>by
  have:=h j (by omega) hj
  simp[this]⟩
 rw[this];rfl
theorem zxq(v:Value)(ws:List Ino)(ps:List Den)(c:Int)(w:World)(h:RdIm w v ws ps)(hn:ps.length<=1048576) :
  zC 194 #[v,.I c] w fun e w'=>e=.returned (.I (upD ps c))/\zB w w':=by
 obtain⟨vW,vP,rfl,h1,h2⟩:=h;obtain⟨aW,cW,rfl,_⟩:=h1.shape;obtain⟨aP,cP,rfl,_,hcP⟩:=h2.shape;have HZ:=zaa hcP;clear h1 h2 hcP
 obtain⟨W,hW⟩:=zE (w.alloc (.cells #[.slice aW ws.length cW,.slice aP ps.length cP] 67))
 have CA:Hid (∀ w',zB W w'->w'.cell? ⟨w.heap.size,1,none⟩=some (.slice aP ps.length cP)):=fun w' hb=>by
  have:w'.heap[w.heap.size]?=some (.cells #[.slice aW ws.length cW,.slice aP ps.length cP] 67 (0,0)):=(hb.block _ (by rw[hW];simp)).trans (by rw[hW];exact zaf rfl);exact(zac this).2.1
 have BW:Hid (zB w W):=by rw[hW];exact zR.alloc zL _
 have hz:w.heap.size<=W.heap.size:=BW.o.size;go_enter Tryz.func194,Tryz.ntmps194;go_wp2;rw[<- hW];clear hW
 go_loopw [5] (fun i wr=>∃ k:Nat,k<=ps.length/\i=.I k/\Hid (zB W wr/\∀ j (h:j<ps.length),j<k->¬ ps[j].child=c)) (fun i _=>ps.length-(intOf i).toNat)
 case atStart=>exact⟨0,by omega,rfl,zR,fun j h a=>absurd a (by omega)⟩
 case round =>
  obtain⟨k,hk,rfl,J⟩:=hrel;have x1:=CA.o wr J.o.1
  by_cases hlt:k<ps.length
  ·obtain⟨b,o,rfl,hbl,hcell⟩:=HZ.o (by omega);have BR:=zab BW.o J.o.1 hz;obtain⟨c0,c1,c2⟩:=hcell k hlt;have d0:=(BR.cell (p:=⟨b,o+k*3,none⟩) hbl).trans c0;have d2:=(BR.cell (p:=⟨b,o+k*3+2,none⟩) hbl).trans c2;have B:=zaa BR
   have k0:(0:Int)<=(k:Int):=by omega
   have k1:(k:Int)<(ps.length:Int):=by omega
   have HY:=zaa (fun e:ps[k].child=c=>yapx hlt J.o.2 e)
   have HX:=zaa (fun(e:¬ ps[k].child=c) j (h:j<ps.length) (a:j<k+1)=>show ¬ ps[j].child=c by
    by_cases q:j=k
    ·subst q;exact e
    ·exact J.o.2 j h (by omega))
   clear hcell c0 c1 c2 BR;generalize ps[k].child=z at *;generalize ps[k].dir=y at *
   by_cases q:z=c
   ·have q1:(z == c)=true:=beq_iff_eq.2 q;have E:=zaa (HY.o q);clear q HX HY;go_wp2;go_ret;exact⟨zdq E.o.symm,B.o⟩
   ·have q1:(z == c)=false:=beq_eq_false_iff_ne.2 q
    have E:Hid (zB W wr/\∀ j (h:j<ps.length),j<k+1->¬ ps[j].child=c):=⟨J.o.1,HX.o q⟩
    clear q HX HY;go_wp2
    go_roundw
    case rel=>exact⟨k+1,by omega,by go_num,E⟩
    case measure=>simp[intOf];omega
  ·obtain rfl:k=ps.length:=by omega
   have E:=zaa (ybal (fun j h=>J.o.2 j h h));go_wp2;go_ret;exact⟨zdq E.o.symm,zab BW.o J.o.1 hz⟩
def zem(ds:List Den):Nat->Int->Bool
 | 0,_=>false
 | n+1,d=>if d=0 then true else if upD ds d<0 then false else zem ds n (upD ds d)
theorem zyj(v:Value)(ws:List Ino)(ps:List Den)(c:Int)(w:World)(h:RdIm w v ws ps)(hn:ps.length<=1048576) :
  zC 181 #[v,.I c] w fun e w'=>e=.returned (.bool (zem ps 16 c))/\zB w w':=by
 have HR:=zaa h;obtain⟨vW,vP,rfl,h1,h2⟩:=h;obtain⟨aW,cW,rfl,_⟩:=h1.shape;obtain⟨aP,cP,rfl,_,hcP⟩:=h2.shape;clear h1 h2 hcP
 obtain⟨W,hW⟩:=zE (w.alloc (.cells #[.slice aW ws.length cW,.slice aP ps.length cP] 67))
 have CA:Hid (∀ w',zB W w'->w'.cell? ⟨w.heap.size,0,none⟩=some (.slice aW ws.length cW)/\w'.cell? ⟨w.heap.size,1,none⟩=some (.slice aP ps.length cP)):=fun w' hb=>by
  have:w'.heap[w.heap.size]?=some (.cells #[.slice aW ws.length cW,.slice aP ps.length cP] 67 (0,0)):=(hb.block _ (by rw[hW];simp)).trans (by rw[hW];exact zaf rfl);exact⟨(zac this).1,(zac this).2.1⟩
 have BW:Hid (zB w W):=by rw[hW];exact zR.alloc zL _
 have hz:w.heap.size<=W.heap.size:=BW.o.size;have LU:=zaa (fun d w1 h=>zxq (.agg #[.slice aW ws.length cW,.slice aP ps.length cP]) ws ps d w1 h hn);go_enter Tryz.func181,Tryz.ntmps181;go_wp2;rw[<- hW];clear hW
 go_loopw [1,5] (fun d i wr=>∃ (k:Nat) (z:Int),k<=16/\i=.I k/\d=.I z/\Hid (zB W wr/\zem ps 16 c=zem ps (16-k) z)) (fun _ i _=>16-(intOf i).toNat)
 case atStart=>exact⟨0,c,by omega,rfl,rfl,zR,rfl⟩
 case round =>
  obtain⟨k,z,hk,rfl,rfl,J⟩:=hrel;obtain⟨x0,x1⟩:=CA.o wr J.o.1
  by_cases hlt:k<16
  ·have ES:=zaa (show zem ps (16-k) z=if z=0 then true else if upD ps z<0 then false else zem ps (16-(k+1)) (upD ps z) by
    rw[show 16-k=(16-(k+1))+1 by omega];rfl)
   have B:=zaa (zab BW.o J.o.1 hz)
   by_cases q:z=0
   ·subst q;have E:=zaa (show zem ps 16 c=true by rw[J.o.2,ES.o,if_pos rfl]);go_wp2;go_ret;exact⟨zag E.o.symm,B.o⟩
   ·have q1:(z == 0)=false:=beq_eq_false_iff_ne.2 q;have R:=zaa (HR.o.below B.o)
    by_cases r:upD ps z<0
    ·have E:=zaa (show zem ps 16 c=false by rw[J.o.2,ES.o,if_neg q,if_pos r]);go_wp2_with fail;refine(LU.o _ _ R.o).mono ?_;rintro e w1 ⟨rfl,hb1⟩;have B1:=zaa (zab B.o hb1 B.o.size);clear hb1;go_wp2;go_ret;exact⟨zag E.o.symm,B1.o⟩
    ·have E:=zaa (show zem ps 16 c=zem ps (16-(k+1)) (upD ps z) by rw[J.o.2,ES.o,if_neg q,if_neg r]);go_wp2_with fail;refine(LU.o _ _ R.o).mono ?_;rintro e w1 ⟨rfl,hb1⟩;have B1:=zaa (zab J.o.1 hb1 J.o.1.size);clear hb1;go_wp2
     go_roundw
     case rel=>exact⟨k+1,_,by omega,by go_num,rfl,B1.o,E.o⟩
     case measure=>simp[intOf];omega
  ·obtain rfl:k=16:=by omega
   have E:=zaa (show zem ps 16 c=false by rw[J.o.2];rfl);go_wp2;go_ret;exact⟨zag E.o.symm,zab BW.o J.o.1 hz⟩
end Go.Proofs.YtdiaiejmoocpmaaGreatDoor
