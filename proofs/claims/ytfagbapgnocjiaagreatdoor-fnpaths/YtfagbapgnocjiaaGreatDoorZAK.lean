import Derived.Test.YtfagbapgnocjiaaGreatDoorZAJ
import Derived.Test.YtfagbapgnocjiaaGreatDoorZAF
import Derived.Lib.LaidTab
set_option maxRecDepth 100000
set_option maxHeartbeats 4000000
namespace Go.Proofs.YtfagbapgnocjiaaGreatDoor
open Go.RowKit
theorem yahh(w1:World)(x:Den):Rd (w1.alloc (.cells #[.I x.dir,.string x.name,.I x.child] 52)) 3 (.slice (some ⟨w1.heap.size,0,none⟩) 1 1) 1 (dens [x]):=by
 refine⟨rfl,_,_,rfl,⟨Nat.le_refl _,fun e=>by cases e⟩,fun _=>⟨w1.heap.size,0,rfl,by simp,fun j hj=>?_⟩⟩;obtain⟨e0,e1,e2⟩:=zaz (zai (w:=w1) (o:=.cells #[.I x.dir,.string x.name,.I x.child] 52) rfl)
 rcases(show j=0\/j=1\/j=2 by omega)with rfl|rfl|rfl
 ·exact e0
 ·exact e1
 ·exact e2
theorem zis(l:List Den):∀ u∈dens l,u.oneCell'=true:=by
 intro u hu;simp only[dens,List.mem_flatMap]at hu;obtain⟨m,_,hm⟩:=hu;simp[Den.cells]at hm
 rcases hm with rfl|rfl|rfl<;>rfl
theorem ziv(l l':List Den):dens (l++l')=dens l++dens l':=by simp[dens]
structure DnI(W w:World)(vL:Value)(ds:List Den):Prop where
 l:w.ownsRow W.heap.size 52 3 vL ds.length (dens ds)
 b:zB W w
theorem DnI.z{W w:World}{vL:Value}{ds:List Den}(h:DnI W w vL ds):W.heap.size<=w.heap.size:=h.b.size
theorem DnI.below{W w w':World}{vL:Value}{ds:List Den}(h:DnI W w vL ds)(hb:zB w w'):DnI W w' vL ds :=
 ⟨((zac h.l).below hb zL).1,zab h.b hb h.z⟩
theorem DnI.grow{W w w':World}{vL v':Value}{ds:List Den}(h:DnI W w vL ds)(ms:List Den)(ho:w'.ownsRow W.heap.size 52 3 v' (ds.length+ms.length) (dens ds++dens ms))(hg:w.grownBy w' vL.ownBlock):DnI W w' v' (ds++ms) :=
 ⟨by rw[ziv,List.length_append];exact ho,h.b.grown hg h.z (fun q hq=>(h.l.lt q hq).1)⟩
def zan(ps:List Den):List Den:=ps.filter fun x=>!x.freeB
theorem yaca{ps:List Den}{k:Nat}(h:k<ps.length):zan (ps.take (k+1))=if ps[k].freeB=true then zan (ps.take k)else zan (ps.take k)++[ps[k]]:=by
 unfold zan;rw[List.take_succ_eq_append_getElem h,List.filter_append]
 cases hf:ps[k].freeB<;>simp[hf]
theorem zoc(ps:List Den):(zan ps).length<=ps.length:=List.length_filter_le _ _
theorem zem(v:Value)(ps:List Den)(w:World)(h:RdD w v ps)(hn:ps.length<=4096)(hF:FD w) :
  zC 17 #[v] w fun e w'=>∃ v',e=.returned v'/\Row w' 52 3 w.heap.size w'.heap.size v' (zan ps).length (dens (zan ps))/\zB w w':=by
 obtain⟨aP,cP,rfl,_,hcP⟩:=h.shape;have HP:=zaa hcP;have F:=zaa hF;clear h hcP hF;go_enter Tryz.func17,Tryz.ntmps17;go_wp2
 go_loopw [3,5,8] (fun vL _ i wr=>∃ k:Nat,k<=ps.length/\i=.I k/\Hid (DnI w wr vL (zan (ps.take k)))/\w.heap.size<=wr.heap.size) (fun _ _ i _=>ps.length-(intOf i).toNat)
 case atStart=>exact⟨0,by omega,rfl,⟨World.ownsRow_nil _ _ _ _,zR⟩,Nat.le_refl _⟩
 case round =>
  obtain⟨k,hk,rfl,I,hz⟩:=hrel
  by_cases hlt:k<ps.length
  ·obtain⟨b,o,rfl,hbl,hcell⟩:=HP.o (by omega);obtain⟨a0,a1,a2⟩:=hcell k hlt;have d0:=(I.o.b.cell (p:=⟨b,o+k*3,none⟩) hbl).trans a0;have d1:=(I.o.b.cell (p:=⟨b,o+k*3+1,none⟩) hbl).trans a1;have d2:=(I.o.b.cell (p:=⟨b,o+k*3+2,none⟩) hbl).trans a2
   have k0:(0:Int)<=(k:Int):=by omega
   have k1:(k:Int)<(ps.length:Int):=by omega
   have TS:=zaa (yaca hlt);have TL:=zoc (ps.take k);rw[List.length_take]at TL;have DF:=zqu ps[k];clear a0 a1 a2 hcell;generalize ps[k]=x at *;have IB:Hid (DnI w (wr.alloc (.cells #[.I x.dir,.string x.name,.I x.child] 52)) u3 (zan (ps.take k))):=I.o.below (zR.alloc zL _);obtain⟨f0,f1,f2⟩:=FD.cells (F.o.below IB.o.b);have hzb:=IB.o.z
   cases hf:x.freeB with
   | true =>
    have G:Hid (DnI w (wr.alloc (.cells #[.I x.dir,.string x.name,.I x.child] 52)) u3 (zan (ps.take (k+1)))):=by unfold Hid;rw[TS.o,if_pos hf];exact IB.o
    rw[hf]at DF;clear IB I TS hf TL;go_wp2
    go_roundw
    case rel=>exact⟨k+1,by omega,by go_num,G,hzb⟩
    case measure=>simp[intOf];omega
   | false =>
    have IC:Hid (DnI w ((wr.alloc (.cells #[.I x.dir,.string x.name,.I x.child] 52)).alloc (.cells #[.I x.dir,.string x.name,.I x.child] 52)) u3 (zan (ps.take k))):=IB.o.below (zR.alloc zL _);have RC:=zaa (yahh (wr.alloc (.cells #[.I x.dir,.string x.name,.I x.child] 52)) x);have hzc:=IC.o.z
    have TN:Hid (zan (ps.take (k+1))=zan (ps.take k)++[x]):=by unfold Hid;rw[TS.o,if_neg (by rw[hf];decide)]
    rw[hf]at DF;rw[World.size_alloc]at RC;clear IB I TS hf;go_wp2_with (at_builtin;refine zaf _ rfl (.tmp 15) (.tmp 17) 24 rfl w.heap.size 52 (.agg #[.I 0,.string ⟨#[]⟩,.I 0]) 3 32 Tryz.underlying24 zrh rfl (by decide) _ _ _ rfl IC.o.l _ 1 _ rfl RC.o (zis _) (by simp[maxLen];omega) (by omega) (by omega) ?_);intro vN wN hownN hgrN;have G:=zaa (IC.o.grow [x] hownN hgrN);rw[<- TN.o]at G;have hzN:=G.o.z;clear hownN hgrN IC RC;go_wp2
    go_roundw
    case rel=>exact⟨k+1,by omega,by go_num,G,hzN⟩
    case measure=>simp[intOf];omega
  ·obtain rfl:k=ps.length:=by omega
   have E:=zaa (show zan (ps.take ps.length)=zan ps by rw[List.take_length]);rw[E.o]at I;obtain⟨-,aL,cL,hvL,-⟩:=(zac I.o.l).rd;subst hvL;go_wp2;go_ret;exact⟨_,rfl,zac I.o.l,I.o.b⟩
def zif(ds:List Den)(c:Int)(k:Nat):Nat:=((ds.take k).filter fun x=>x.child == c).length
theorem yair(ds:List Den)(c:Int):zif ds c 0=0:=rfl
theorem zfv{ds:List Den}{c:Int}{k:Nat}(h:k<ds.length):zif ds c (k+1)=zif ds c k+(if (ds[k].child == c)=true then 1 else 0):=by
 unfold zif;rw[List.take_succ_eq_append_getElem h,List.filter_append,List.length_append]
 congr 1
 cases q:ds[k].child == c<;>simp[List.filter,q]
theorem yaje(ds:List Den)(c:Int)(k:Nat):zif ds c k<=k:=by
 unfold zif;exact Nat.le_trans (List.length_filter_le _ _) (by simp;omega)
def zfn(ps:List Den)(i:Nat)(x:Ino):Bool:=decide ((if i=0 then 1 else 0)+(zif ps i ps.length:Int)=x.links)&&(decide (¬ x.kind=2)||zcg ps 16 i)
def zfz(ws:List Ino)(ps:List Den):Bool:=decide (∀ i (h:i<ws.length),zfn ps i ws[i]=true)
theorem yacn{ws:List Ino}{ps:List Den}{i:Nat}(h:i<ws.length)(q:zfn ps i ws[i]=false):zfz ws ps=false:=decide_eq_false (fun e=>by rw[e i h]at q;cases q)
theorem yaap(w:World):zC 90 #[.bool true] w fun e w'=>e=.returned (.I 1)/\w'=w:=zpv true w
theorem zyx(w:World):zC 90 #[.bool false] w fun e w'=>e=.returned (.I 0)/\w'=w:=zpv false w
theorem zud(v:Value)(ws:List Ino)(ps:List Den)(w:World)(h:RdIm w v ws ps)(hm:ws.length<=1048576)(hn:ps.length<=1048576) :
  zC 47 #[v] w fun e w'=>e=.returned (.bool (zfz ws ps))/\zB w w':=by
 have HR:=zaa h;obtain⟨vW,vP,rfl,h1,h2⟩:=h;obtain⟨aW,cW,rfl,_,hcW⟩:=h1.shape;obtain⟨aP,cP,rfl,_,hcP⟩:=h2.shape;have HW:=zaa hcW;have HZ:=zaa hcP;clear h1 h2 hcP hcW
 obtain⟨W,hW⟩:=zE (w.alloc (.cells #[.slice aW ws.length cW,.slice aP ps.length cP] 26))
 have CA:Hid (∀ w',zB W w'->w'.cell? ⟨w.heap.size,0,none⟩=some (.slice aW ws.length cW)/\w'.cell? ⟨w.heap.size,1,none⟩=some (.slice aP ps.length cP)):=fun w' hb=>by
  have:w'.heap[w.heap.size]?=some (.cells #[.slice aW ws.length cW,.slice aP ps.length cP] 26 (0,0)):=(hb.block _ (by rw[hW];simp)).trans (by rw[hW];exact zai rfl);exact⟨(zad this).1,(zad this).2.1⟩
 have BW:Hid (zB w W):=by rw[hW];exact zR.alloc zL _
 have hz:w.heap.size<=W.heap.size:=BW.o.size;have LH:=zaa (fun d w1 h=>ztt (.agg #[.slice aW ws.length cW,.slice aP ps.length cP]) ws ps d w1 h hn);go_enter Tryz.func47,Tryz.ntmps47;go_wp2;rw[<- hW];clear hW
 go_loopw [3] (fun i wr=>∃ k:Nat,k<=ws.length/\i=.I k/\Hid (zB W wr/\∀ j (h:j<ws.length),j<k->zfn ps j ws[j]=true)) (fun i _=>ws.length-(intOf i).toNat)
 case atStart=>exact⟨0,by omega,rfl,zR,fun j h a=>absurd a (by omega)⟩
 case round =>
  obtain⟨i,hi,rfl,J⟩:=hrel;obtain⟨x0,x1⟩:=CA.o wr J.o.1
  by_cases hlt:i<ws.length
  ·have i0:(0:Int)<=(i:Int):=by omega
   have i1:(i:Int)<(ws.length:Int):=by omega
   obtain⟨b0,HB,b1,LB⟩:∃ b0:Int,Hid (b0=if i=0 then 1 else 0)/\(0<=b0/\b0<=1)/\Hid (∀ w1:World,zC 90 #[.bool ((i:Int) == 0)] w1 fun e w'=>e=.returned (.I b0)/\w'=w1):=by
    by_cases q:i=0
    ·refine⟨1,zaa (by rw[if_pos q]),by omega,fun w1=>?_⟩;rw[show((i:Int) == 0)=true by rw[beq_iff_eq];omega];exact yaap w1
    ·refine⟨0,zaa (by rw[if_neg q]),by omega,fun w1=>?_⟩;rw[show((i:Int) == 0)=false by rw[beq_eq_false_iff_ne];omega];exact zyx w1
   have START:Hid (zB W wr):=J.o.1;go_wp2_with (go_at_call 90;refine(LB.o _).mono ?_;rintro e w' ⟨rfl,hw'⟩;subst w')
   go_loopw [4,5] (fun n kk wq=>∃ k:Nat,k<=ps.length/\kk=.I k/\n=.I (b0+(zif ps i k:Int))/\Hid (zB W wq)) (fun _ kk _=>ps.length-(intOf kk).toNat)
   case atStart=>exact⟨0,by omega,rfl,by rw[yair];simp,START⟩
   case round =>
    obtain⟨k,hk,rfl,rfl,K⟩:=hrel;obtain⟨y0,y1⟩:=CA.o wr K.o;have B:=zaa (zab BW.o K.o hz);have cl:=yaje ps i k
    have k0:(0:Int)<=(k:Int):=by omega
    clear x0 x1 START
    by_cases hlk:k<ps.length
    ·obtain⟨b,o,rfl,hbl,hcell⟩:=HZ.o (by omega);obtain⟨_,_,c2⟩:=hcell k hlk;have d2:=(B.o.cell (p:=⟨b,o+k*3+2,none⟩) hbl).trans c2
     have k1:(k:Int)<(ps.length:Int):=by omega
     obtain⟨t,HT,t1,LT⟩:∃ t:Int,Hid ((zif ps i (k+1):Int)=(zif ps i k:Int)+t)/\(0<=t/\t<=1)/\Hid (∀ w1:World,zC 90 #[.bool (ps[k].child == (i:Int))] w1 fun e w'=>e=.returned (.I t)/\w'=w1):=by
      cases q:(ps[k].child == (i:Int))
      ·refine⟨0,zaa (by rw[zfv hlk,q];simp),by omega,fun w1=>?_⟩;exact zyx w1
      ·refine⟨1,zaa (by rw[zfv hlk,q];simp),by omega,fun w1=>?_⟩;exact yaap w1
     clear hcell c2;generalize ps[k].child=z at *
     have cc0:(0:Int)<=(zif ps i k:Int)/\(zif ps i k:Int)<=1048576:=by omega
     generalize (zif ps i k:Int)=cc at *;go_wp2_with (go_at_call 90;refine(LT.o _).mono ?_;rintro e w' ⟨rfl,hw'⟩;subst w')
     go_roundw
     case rel=>exact⟨k+1,by omega,by go_num,by rw[HT.o,Int.add_assoc],K⟩
     case measure=>simp[intOf];omega
    ·obtain rfl:k=ps.length:=by omega
     obtain⟨b,o,rfl,hbl,hcell⟩:=HW.o (by omega);obtain⟨c0,_,c2,_⟩:=hcell i hlt;have d0:=(B.o.cell (p:=⟨b,o+i*11,none⟩) hbl).trans c0;have d2:=(B.o.cell (p:=⟨b,o+i*11+2,none⟩) hbl).trans c2;have EL:=zaa (show zfn ps i ws[i]=(decide (b0+(zif ps i ps.length:Int)=ws[i].links)&&(decide (¬ ws[i].kind=2)||zcg ps 16 i)) by unfold zfn;rw[HB.o]);have NO:=zaa (fun e=>yacn (ps:=ps) hlt e)
     have YES:=zaa (fun(e:zfn ps i ws[i]=true) j (h:j<ws.length) (a:j<i+1)=>show zfn ps j ws[j]=true by
      by_cases q:j=i
      ·subst q;exact e
      ·exact J.o.2 j h (by omega))
     clear hcell c0 c2 J HB LB
     have cc0:(0:Int)<=(zif ps i ps.length:Int)/\(zif ps i ps.length:Int)<=1048576:=by omega
     generalize (zif ps i ps.length:Int)=cc at *;generalize zfn ps i ws[i]=lb at EL NO YES;generalize ws[i].links=zl at *;generalize ws[i].kind=zk at *
     by_cases q:b0+cc=zl
     ·by_cases r:zk=2
      ·subst r
       cases hh:zcg ps 16 i with
       | true =>
        have E:=zaa (YES.o (by rw[EL.o,decide_eq_true q,hh];rfl));have HH:=zaa hh;have R:=zaa (HR.o.below B.o)
        have q1:(b0+cc != zl)=false:=by rw[q];simp
        clear hh EL NO YES q;go_wp2_with fail;refine(LH.o _ _ R.o).mono ?_;rw[HH.o];rintro e w1 ⟨rfl,hb1⟩;have B1:=zaa (zab K.o hb1 K.o.size);clear hb1;go_wp2
        go_roundw
        case rel=>exact⟨i+1,by omega,by go_num,B1.o,E.o⟩
        case measure=>simp[intOf];omega
       | false =>
        have E:=zaa (NO.o (by rw[EL.o,hh];simp));have HH:=zaa hh;have R:=zaa (HR.o.below B.o)
        have q1:(b0+cc != zl)=false:=by rw[q];simp
        clear hh EL NO YES q;go_wp2_with fail;refine(LH.o _ _ R.o).mono ?_;rw[HH.o];rintro e w1 ⟨rfl,hb1⟩;have B1:=zaa (zab B.o hb1 B.o.size);clear hb1;go_wp2;go_ret;exact⟨zah E.o.symm,B1.o⟩
      ·have E:Hid (zB W wr/\∀ j (h:j<ws.length),j<i+1->zfn ps j ws[j]=true):=⟨K.o,YES.o (by rw[EL.o,decide_eq_true q,decide_eq_true r];rfl)⟩
       have r1:(zk == 2)=false:=beq_eq_false_iff_ne.2 r
       have q1:(b0+cc != zl)=false:=by rw[q];simp
       clear EL NO YES q r;go_wp2
       go_roundw
       case rel=>exact⟨i+1,by omega,by go_num,E⟩
       case measure=>simp[intOf];omega
     ·have q1:(b0+cc != zl)=true:=by rw[bne_iff_ne];exact q
      have E:=zaa (NO.o (by rw[EL.o,decide_eq_false q];rfl));clear q EL NO YES;go_wp2;go_ret;exact⟨zah E.o.symm,B.o⟩
  ·obtain rfl:i=ws.length:=by omega
   have E:=zaa (show zfz ws ps=true from decide_eq_true (fun j h=>J.o.2 j h h));go_wp2;go_ret;exact⟨zah E.o.symm,zab BW.o J.o.1 hz⟩
end Go.Proofs.YtfagbapgnocjiaaGreatDoor

namespace Go.Proofs.YtfagbapgnocjiaaGreatDoor
open Go.ChangeShapes Go.WideShapes Go.ChangeAt Go.RowKit Go.Joins
theorem zje {H:Type} {enc:TypeId×Value->H} {P:Program} {w:World} {base:Nat} {sp:Nat->Bool} {held:Bool} {fuel:Nat} {t e:TypeId} {n:Nat} {cs:List Value} {zs:List Int} {p:List MemPlace}
  (ht:P.underlying t=some (.array n e)) (he:P.underlying e=some (.int .i64)) (hce:P.cellsOf e=1) (hct:P.cellsOf t=n)
  (h:DataW.trod enc P w base sp held fuel t cs=some (.agg (zs.map fun z=>.lit (.int .i64 z)),p)):cs=zs.map (Value.int .i64):=by
 cases fuel with
 | zero=>simp[DataW.trod]at h
 | succ fuel =>
  simp only[DataW.trod,ht,hce,hct,Nat.mul_one]at h
  split at h
  ·rename_i hl;obtain⟨xs,hm,hx⟩:=Option.map_eq_some_iff.1 h
   have hxs:xs.map (·.1)=zs.map fun z=>(DataW.lit (.int .i64 z):DataW H):=by
    have:=congrArg Prod.fst hx;simpa using this
   have hxl:xs.length=n:=by simpa using Lib.mapM_length hm
   have hzl:zs.length=n:=by
    have:=congrArg List.length hxs;simp at this;omega
   apply List.ext_getElem?;intro i
   by_cases hi:i<n
   ·obtain⟨b,hb,hf⟩:=Lib.mapM_at hm i i (by simp[hi]);obtain⟨z,hc,rfl,_⟩:=DataW.trod_int he hf
    have h1:cs[i]?=some (.I z):=by
     have:=congrArg (·[0]?) hc;simpa[List.getElem?_take,List.getElem?_drop]using this
    have h2:(xs.map (·.1))[i]?=some (DataW.lit (.int .i64 z):DataW H):=by simp[hb]
    rw[hxs]at h2;simp only[List.getElem?_map,Option.map_eq_some_iff,DataW.lit.injEq,Lit.int.injEq]at h2;obtain⟨z',hz',e⟩:=h2;simp[h1,hz',e.2]
   ·rw[List.getElem?_eq_none (by omega),List.getElem?_eq_none (by simp;omega)]
  ·cases h
theorem yadd:Tryz.prog.cellsOf 41=11:=by kernel_rfl
theorem yant:Tryz.prog.cellsOf 39=8:=by kernel_rfl
theorem yafl:Tryz.prog.cellsOf 52=3:=by kernel_rfl
theorem yasu:Tryz.prog.cellsOf 9=1:=by kernel_rfl
section
variable {H:Type} {enc:TypeId×Value->H} {W:World} {base:Nat} {sp:Nat->Bool} {held:Bool} {fuel:Nat} {v:Value} {y:DataW H×List MemPlace}
end
section
variable {H:Type} {enc:TypeId×Value->H} {W:World} {sp:Nat->Bool} {held:Bool} {r:Reach} {b0:Nat} {v:Value} {d:DataW H} {p:List MemPlace}
end
section
variable {H:Type} {enc:TypeId×Value->H} {w:World} {base:Nat} {sp:Nat->Bool} {held:Bool} {fuel:Nat} {cs:List Value} {p:List MemPlace}
theorem yami(h:DataW.trod enc Tryz.prog w base sp held fuel 218 cs=some (.agg [.lit (.int .i64 1),.lit (.int .i64 24),.lit (.int .i64 32)],p)):cs=[.I 1,.I 24,.I 32] :=
 zje (zs:=[1,24,32]) Tryz.underlying218 Tryz.underlying3 zzt (show Tryz.prog.cellsOf 218=3 by kernel_rfl) h
theorem yamo(h:DataW.trod enc Tryz.prog w base sp held fuel 41 cs=some (.agg [.lit (.int .i64 2),.lit (.int .i64 0),.lit (.int .i64 1),.agg [.lit (.int .i64 0),.lit (.int .i64 0),.lit (.int .i64 0),.lit (.int .i64 0),.lit (.int .i64 0),.lit (.int .i64 0),.lit (.int .i64 0),.lit (.int .i64 0)]],p)) :
  cs=[.I 2,.I 0,.I 1,.I 0,.I 0,.I 0,.I 0,.I 0,.I 0,.I 0,.I 0]:=by
 obtain⟨y0,y1,y2,y3,n,hx,hl,t0,t1,t2,t3⟩:=trod_struct4 Tryz.underlying41 h;obtain⟨z0,e0,hy0,_⟩:=DataW.trod_int Tryz.underlying3 t0;obtain⟨z1,e1,hy1,_⟩:=DataW.trod_int Tryz.underlying3 t1;obtain⟨z2,e2,hy2,_⟩:=DataW.trod_int Tryz.underlying3 t2;obtain⟨y3a,y3b⟩:=y3;subst hy0 hy1 hy2;simp only[Prod.mk.injEq,DataW.agg.injEq,List.cons.injEq,DataW.lit.injEq,Lit.int.injEq,true_and,and_true]at hx;obtain⟨⟨g0,g1,g2,g3⟩,_⟩:=hx;subst g3;have A:=zje (zs:=[0,0,0,0,0,0,0,0]) Tryz.underlying39 Tryz.underlying3 zzt yant t3;rw[yadd]at hl;simp only[zzt,yant]at e0 e1 e2 A
 match cs,hl with
 | [c0,c1,c2,c3,c4,c5,c6,c7,c8,c9,c10],_ =>
  simp at e0 e1 e2 A;rw[e0,e1,e2,<- g0,<- g1,<- g2,A.1,A.2.1,A.2.2.1,A.2.2.2.1,A.2.2.2.2.1,A.2.2.2.2.2.1,A.2.2.2.2.2.2.1,A.2.2.2.2.2.2.2]
theorem yamb(h:DataW.trod enc Tryz.prog w base sp held fuel 52 cs=some (.agg [.lit (.int .i64 0),.lit (.string []),.lit (.int .i64 (-1))],p)):cs=[.I 0,.string ⟨#[]⟩,.I (-1)]:=by
 obtain⟨y0,y1,y2,n,hx,hl,t0,t1,t2⟩:=Deep.trod_struct3 Tryz.underlying52 h;obtain⟨z0,e0,hy0,_⟩:=DataW.trod_int Tryz.underlying3 t0;obtain⟨s,e1,hy1,_⟩:=DataW.trod_string Tryz.underlying9 t1;obtain⟨z2,e2,hy2,_⟩:=DataW.trod_int Tryz.underlying3 t2;subst hy0 hy1 hy2;simp only[Prod.mk.injEq,DataW.agg.injEq,List.cons.injEq,DataW.lit.injEq,Lit.int.injEq,Lit.string.injEq,true_and,and_true]at hx;obtain⟨⟨g0,g1,g2⟩,_⟩:=hx;rw[yafl]at hl;simp only[zzt,yasu]at e0 e1 e2
 match cs,hl with
 | [c0,c1,c2],_ =>
  simp at e0 e1 e2
  have hs:s=⟨#[]⟩:=by
   obtain⟨⟨l⟩⟩:=s;have g1':([]:List UInt8)=l:=g1;rw[<- g1']
  rw[e0,e1,e2,<- g0,<- g2,hs]
end
end Go.Proofs.YtfagbapgnocjiaaGreatDoor
