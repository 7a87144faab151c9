import Derived.Test.YtogcbbkhnpmgeaaGreatDoorZAU
import Derived.ProofKit
import Derived.OpenShut
import Derived.ShutString
import Derived.ChangeOld
import Derived.Lib.SmallJoins
import Derived.Deep.Slices
import Derived.Deep.Strs
import Derived.Test.YtogcbbkhnpmgeaaGreatDoorZAT
set_option maxRecDepth 100000
set_option maxHeartbeats 8000000
namespace Go.Proofs.YtogcbbkhnpmgeaaGreatDoor
open Go.RowKit
def zoq(ws:List Int)(ps:List St):List Int:=ps.foldl (fun acc p=>if p.fl then acc.set p.at_.toNat p.val else acc) ws
def zle(ps:List St):List St:=ps.filter (fun p=>!p.fl)
theorem zwi(ws:List Int)(ps:List St)(p:St):zoq ws (ps++[p])=if p.fl then(zoq ws ps).set p.at_.toNat p.val else zoq ws ps:=by simp[zoq]
theorem zmp(ws:List Int):∀ ps:List St,(zoq ws ps).length=ws.length:=by
 intro ps;unfold zoq
 induction ps generalizing ws with
 | nil=>rfl
 | cons p ps ih =>
  rw[List.foldl_cons,ih]
  split<;>simp
theorem zvm(ps:List St)(p:St):zle (ps++[p])=if p.fl then zle ps else zle ps++[p]:=by
 unfold zle;rw[List.filter_append]
 cases h:p.fl<;>simp[h]
theorem yasb(ps:List St):(zle ps).length<=ps.length:=List.length_filter_le _ _
structure FenInv(w wr:World)(ws:List Int)(ps:List St)(lo hi:Nat)(vW vP vL:Value)(m:Nat):Prop where
 words:Row wr 3 1 lo hi vW ws.length (zdb (zoq ws (ps.take m)))
 left:wr.ownsRow hi 138 3 vL (zle (ps.take m)).length (sts (zle (ps.take m)))
 pend:Row wr 138 3 lo hi vP ps.length (sts ps)
 box:wr.heap[w.heap.size]?=some (.cells #[vW,vP] 26 (0,0))
 res:wr.heap[w.heap.size+1]?=some (.cells #[.N,.N] 26 (0,0))
 below:zB w wr
 size:hi<=wr.heap.size
theorem FenInv.hit{w wr:World}{ws:List Int}{ps:List St}{lo hi:Nat}{b n cap:Nat}{vP vL:Value}{m:Nat}(h:FenInv w wr ws ps lo hi (.slice (some ⟨b,0,none⟩) n cap) vP vL m)(hm:m<ps.length)(hf:ps[m].fl=true)(hlo:w.heap.size+2<=lo)(o:Obj)(hn:n=ws.length) :
  FenInv w ((wr.setCell ⟨b,ps[m].at_.toNat,none⟩ (.I ps[m].val)).alloc o) ws ps lo hi (.slice (some ⟨b,0,none⟩) n cap) vP vL (m+1):=by
 subst hn;obtain⟨h1,h2,h3,h4,h5,h6,h7⟩:=h
 obtain⟨_,hb1,hb2,_⟩:=h1.at
 have e1:zoq ws (ps.take (m+1))=(zoq ws (ps.take m)).set ps[m].at_.toNat ps[m].val:=by rw[zei ps m hm,zwi,if_pos hf]
 have e2:zle (ps.take (m+1))=zle (ps.take m):=by rw[zei ps m hm,zvm,if_pos hf]
 refine⟨?_,?_,?_,?_,?_,?_,?_⟩
 ·rw[e1,<- zho];exact(h1.stored _ _).alloc (by simp;omega) o
 ·rw[e2];exact((zad h2).same (w':=wr.setCell ⟨b,ps[m].at_.toNat,none⟩ (.I ps[m].val)) (fun k hk _=>Below.heap_setCell _ _ _ _ (by simp only;omega))).1.alloc o
 ·exact(h3.apart h1 (by decide) (World.ownsRow.stored h1.1 _ _).2).alloc (by simp;omega) o
 ·refine zal ?_;rw[Below.heap_setCell _ _ _ _ (by simp only;omega)];exact h4
 ·refine zal ?_;rw[Below.heap_setCell _ _ _ _ (by simp only;omega)];exact h5
 ·exact(h6.setCell (by simp only;omega) _).alloc (by simp;exact h6.size) o
 ·simp;omega
theorem FenInv.miss {w wr w':World} {ws:List Int} {ps:List St} {lo hi:Nat} {vW vP vL vL':Value} {m:Nat} (h:FenInv w wr ws ps lo hi vW vP vL m) (hm:m<ps.length) (hf:ps[m].fl=false) (hlo:w.heap.size+2<=lo) (hhi:lo<=hi) (o o':Obj)
  (ho:w'.ownsRow hi 138 3 vL' ((zle (ps.take m)).length+1) (sts (zle (ps.take m))++St.cells ps[m])) (hg:((wr.alloc o).alloc o').grownBy w' vL.ownBlock):FenInv w w' ws ps lo hi vW vP vL' (m+1):=by
 obtain⟨h1,h2,h3,h4,h5,h6,h7⟩:=h
 have hl:=fun k hk=>(((h2.alloc o).alloc o').lt k hk).1
 have e1:zoq ws (ps.take (m+1))=zoq ws (ps.take m):=by rw[zei ps m hm,zwi,hf];rfl
 have e2:zle (ps.take (m+1))=zle (ps.take m)++[ps[m]]:=by rw[zei ps m hm,zvm,hf];rfl
 have keep:∀ k,k<hi->w'.heap[k]?=((wr.alloc o).alloc o').heap[k]?:=fun k hk=>hg.block k (by simp;omega) (fun e=>by have:=hl k e.symm;omega)
 have l4:=(Array.getElem?_eq_some_iff.1 h4).1;refine⟨?_,?_,?_,?_,?_,?_,?_⟩
 ·rw[e1];exact((h1.alloc h7 o).alloc (by simp;omega) o').same (fun k _ hk=>keep k hk)
 ·rw[e2,List.length_append,zzu];exact ho
 ·exact((h3.alloc h7 o).alloc (by simp;omega) o').same (fun k _ hk=>keep k hk)
 ·rw[keep _ (by omega)];exact zal (zal h4)
 ·rw[keep _ (by omega)];exact zal (zal h5)
 ·exact((h6.alloc h6.size o).alloc (by simp;have:=h6.size;omega) o').grown hg (by simp;have:=h6.size;omega) (fun k hk=>by have:=hl k hk;omega)
 ·have:=hg.size;simp at this;omega
theorem zwc(v:Value)(ws:List Int)(ps:List St)(w:World)(h:RdPm w v ws ps)(hw:ws.length<=1048576)(hp:ps.length<=1048576)(hok:∀ j (h:j<ps.length),0<=ps[j].at_/\ps[j].at_<ws.length) :
  zC 209 #[v] w fun e w'=>∃ v',e=.returned v'/\RowPm w' w.heap.size w'.heap.size v' (zoq ws ps) (zle ps)/\zB w w':=by
 have HR:=zaa h;obtain⟨vW,vP,rfl,h1,h2⟩:=h;obtain⟨aW,cW,rfl,_⟩:=h1.shape;obtain⟨aP,cP,rfl,_⟩:=h2.shape;have HOK:=zaa hok;clear h1 h2 hok
 have hb0:zB w ((w.alloc (.cells #[.slice aW ws.length cW,.slice aP ps.length cP] 26)).alloc (.cells #[.N,.N] 26)):=by
  repeat (refine Below.alloc ?_ (by simp<;>omega) _)
  exact zR
 go_enter Tryz.func209,Tryz.ntmps209;go_wp2_with fail;refine(zqq _ ws ps _ (HR.o.below hb0) (by omega) (by omega)).mono ?_;rintro e w2 ⟨v2,rfl,hr2,hb2⟩;obtain⟨vW2,vP2,rfl,hI2,hS2⟩:=hr2;obtain⟨aW2,cW2,rfl⟩:=RdI.form hI2.rd rfl;obtain⟨aP2,cP2,rfl⟩:=RdS.form hS2.rd rfl;simp only[World.size_alloc]at hI2 hS2
 have hz2:w.heap.size+2<=w2.heap.size:=by have:=hb2.size;simp at this;omega
 have V0:=(hb2.block w.heap.size (by simp<;>omega)).trans (zal (zah rfl));have V1:=(hb2.block (w.heap.size+1) (by simp)).trans (zah (by simp));have B2:=zab hb0 hb2 (by simp<;>omega);obtain⟨x1,x2,x3,x4⟩:=zac V0
 have INV:Hid (FenInv w (((w2.setCell ⟨w.heap.size,0,none⟩ (.slice aW2 ws.length cW2)).setCell ⟨w.heap.size,1,none⟩ (.slice aP2 ps.length cP2)).alloc (.cells #[] 138)) ws ps (w.heap.size+1+1) w2.heap.size (.slice aW2 ws.length cW2) (.slice aP2 ps.length cP2) (.slice (some ⟨w2.heap.size,0,none⟩) 0 0) 0):=by
  refine⟨?_,?_,?_,?_,?_,?_,?_⟩
  ·refine((hI2.same fun b hb1 _=>?_).alloc (by simp) _);rw[Below.heap_setCell _ _ _ _ (by simp only;omega),Below.heap_setCell _ _ _ _ (by simp only;omega)]
  ·have:=World.ownsRow_lit (base:=w2.heap.size) (e:=138) (size:=3) ((w2.setCell ⟨w.heap.size,0,none⟩ (.slice aW2 ws.length cW2)).setCell ⟨w.heap.size,1,none⟩ (.slice aP2 ps.length cP2)) #[] 0 (by simp) (by simp) rfl;simpa[zle,sts]using this
  ·refine((hS2.same fun b hb1 _=>?_).alloc (by simp) _);rw[Below.heap_setCell _ _ _ _ (by simp only;omega),Below.heap_setCell _ _ _ _ (by simp only;omega)]
  ·exact zal (zmm (zje V0 _) _)
  ·refine zal ?_;rw[Below.heap_setCell _ _ _ _ (by simp only;omega),Below.heap_setCell _ _ _ _ (by simp only;omega)];exact V1
  ·exact((B2.setCell (by simp only;omega) _).setCell (by simp only;omega) _).alloc (by simp;omega) _
  ·simp
 clear hb0 hb2 hI2 hS2 V0 V1 B2;go_wp2
 go_loopw [3,4,5] (fun vL i _ wr=>∃ m:Nat,m<=ps.length/\i=.I m/\Hid (FenInv w wr ws ps (w.heap.size+1+1) w2.heap.size (.slice aW2 ws.length cW2) (.slice aP2 ps.length cP2) vL m)) (fun _ i _ _=>ps.length-(intOf i).toNat)
 case atStart=>exact⟨0,by omega,rfl,INV⟩
 case round =>
  obtain⟨m,hm,rfl,I⟩:=hrel;obtain⟨y1,y2,y3,y4⟩:=zac I.o.box
  by_cases hlt:m<ps.length
  ·obtain⟨_,ao',cap',e',_,hc⟩:=I.o.pend.rd
   cases e'
   obtain⟨b,o,rfl,hbl,_⟩:=hc (by omega)
   obtain⟨rfl,_,_,_,hfr,hcl⟩:=I.o.pend.at
   have e0:=(hcl (m*3) (by omega)).trans (zmx _ m hlt);have e1:=(hcl (m*3+1) (by omega)).trans (yagd _ m hlt);have e2:=(hcl (m*3+2) (by omega)).trans (zya _ m hlt);obtain⟨q0,q1⟩:=HOK.o m hlt;have hsz:=I.o.size;clear hc hfr hcl
   cases hf:ps[m].fl
   ·rw[hf]at e2
    have ec:St.cells ⟨ps[m].at_,ps[m].val,false⟩=St.cells ps[m]:=by simp[St.cells,hf]
    have hr:=yaup (wr.alloc (.cells #[.I ps[m].at_,.I ps[m].val,.bool false] 138)) ps[m].at_ ps[m].val false;simp only[World.size_alloc]at hr;have HRD:=zaa hr;have HOW:=zaa ((I.o.left.alloc (.cells #[.I ps[m].at_,.I ps[m].val,.bool false] 138)).alloc (.cells #[.I ps[m].at_,.I ps[m].val,.bool false] 138));have hfl:=yasb (ps.take m);rw[List.length_take]at hfl;have EC:=zaa ec;have HF:=zaa hf;have HS:=zaa hsz;clear hr ec hf hsz;go_wp2_with (at_builtin;refine zae _ rfl (.tmp 30) (.tmp 32) 24 rfl w2.heap.size 138 (.agg #[.I 0,.I 0,.bool false]) 3 24 Tryz.underlying24 zpy rfl (by decide) _ _ _ rfl HOW.o _ 1 (St.cells ⟨ps[m].at_,ps[m].val,false⟩) rfl HRD.o (yadu _) (by simp[maxLen];omega) (by omega) (by have:=HS.o;simp;omega) ?_);intro vN wN hownN hgrN;have I1:=zaa (I.o.miss hlt HF.o zL hz2 _ _ (by rw[<- EC.o];exact hownN) hgrN);clear hownN hgrN;go_wp2
    go_roundw
    case rel=>exact⟨m+1,by omega,by go_num,I1⟩
    case measure=>simp[intOf];omega
   ·rw[hf]at e2;obtain⟨_,aw',cw',ew',_,hcw⟩:=I.o.words.rd
    cases ew'
    obtain⟨bw,ow,rfl,hblw,_⟩:=hcw (by omega)
    obtain⟨rfl,_,_,_,hfrw,hclw⟩:=(I.o.words.alloc hsz (.cells #[.I ps[m].at_,.I ps[m].val,.bool true] 138)).at
    have hj:ps[m].at_.toNat<(zoq ws (ps.take m)).length:=by rw[zmp];omega
    have g0:=hfrw ps[m].at_.toNat;have g1:=(hclw ps[m].at_.toNat (by omega)).trans (zcp _ _ hj);have I1:=zaa (I.o.hit hlt hf zL (.cells #[.I ps[m].at_,.I ps[m].val,.bool true] 138) rfl);obtain⟨z1,z2,_,_⟩:=zac (zal (o:=.cells #[.I ps[m].at_,.I ps[m].val,.bool true] 138) I.o.box);clear hcw hfrw hclw;go_wp2
    go_roundw
    case rel=>exact⟨m+1,by omega,by go_num,I1⟩
    case measure=>simp[intOf];omega
  ·have e:m=ps.length:=by omega
   subst e;obtain⟨aL,cL,hvL⟩:=RdS.form (zad I.o.left).rd (n:=(zle ps).length) (by rw[List.take_length]);subst hvL;obtain⟨t1,t2,t3,t4⟩:=zac I.o.res;have hsz:=I.o.size;go_wp2;have I2:=I.o;refine bodyPost_ret (v:=.agg #[.slice aW2 ws.length cW2,.slice aL (zle ps).length cL]) (by simp[results,Tryz.results209,go_sem,t1,t2]) rfl ?_;refine⟨_,rfl,⟨_,_,rfl,?_,?_⟩,((I2.below.setCell (by simp only;omega) _).setCell (by simp only;omega) _).setCell (by simp only;omega) _⟩
   ·rw[zmp];have:=I2.words;rw[List.take_length]at this;refine(this.same fun b h1 h2=>?_).wide (by omega) (by simp;omega);rw[Below.heap_setCell _ _ _ _ (by simp only;omega),Below.heap_setCell _ _ _ _ (by simp only;omega),Below.heap_setCell _ _ _ _ (by simp only;omega)]
   ·have:=zad I2.left;rw[List.take_length]at this;refine(this.same fun b h1 h2=>?_).wide (by omega) (by simp);rw[Below.heap_setCell _ _ _ _ (by simp only;omega),Below.heap_setCell _ _ _ _ (by simp only;omega),Below.heap_setCell _ _ _ _ (by simp only;omega)]
end Go.Proofs.YtogcbbkhnpmgeaaGreatDoor

namespace Go.Proofs.YtogcbbkhnpmgeaaGreatDoor
open Go.ChangeShapes Go.WideShapes Go.ChangeAt Go.RowKit Go.Joins
theorem own:ownKnob Tryz.prog.godebug=none:=by kernel_rfl
theorem zla:laidOutB Tryz.prog=true:=by kernel_rfl
theorem zvi:Tryz.prog.cellsOf 3=1:=by kernel_rfl
section
variable {H:Type} {enc:TypeId×Value->H} {W:World} {sp:Nat->Bool} {held:Bool} {fuel:Nat} {v:Value} {y:DataW H×List MemPlace}
end
end Go.Proofs.YtogcbbkhnpmgeaaGreatDoor

namespace Go.Proofs.YtogcbbkhnpmgeaaGreatDoor
open Go.ChangeShapes Go.WideShapes Go.ChangeAt Go.RowKit Go.Joins
theorem Below.drewN''{B:Nat}{a w:World}(h:Below B a w)(n:Nat):Below B a (w.drewN n):=by
 induction n with
 | zero=>exact h
 | succ n ih=>exact⟨ih.os,ih.tape,ih.output,ih.size,ih.block⟩
def atX(bs:List Int)(i:Int):Int:=bs[(i%(bs.length:Int)).toNat]?.getD 0
def atV(bs:List Int)(i n:Int):Int:=if bs.length=0 then i*7%n else(atX bs i*31+atX bs (i+1)+i/(bs.length:Int))%n
theorem yatc(bs:List Int)(i n:Int)(h:2<=n):0<=atV bs i n/\atV bs i n<n:=by
 unfold atV
 split
 ·exact⟨Int.emod_nonneg _ (by omega),Int.emod_lt_of_pos _ (by omega)⟩
 ·exact⟨Int.emod_nonneg _ (by omega),Int.emod_lt_of_pos _ (by omega)⟩
theorem yams(v:Value)(bs:List Int)(i n:Int)(w:World)(h:RdB w v bs)(hl:bs.length<=1048576)(h0:0<=i)(h1:i<=9)(hn:2<=n)(hn2:n<=100000) :
  zC 14 #[v,.I i,.I n] w fun e w'=>e=.returned (.I (atV bs i n))/\zB w w':=by
 obtain⟨aC,cC,rfl,_,hc⟩:=h.shape
 by_cases c:bs.length=0
 ·have c':((bs.length:Int) == 0)=true:=by simp[c]
  have E:=zaa (show atV bs i n=i*7%n by unfold atV;rw[if_pos c]);clear hc;go_enter Tryz.func14,Tryz.ntmps14;go_wp2;go_ret;exact⟨zcq (by rw[E.o]),zR⟩
 ·obtain⟨b,o,rfl,hb,hc⟩:=hc (by omega)
  have l0:(0:Int)<(bs.length:Int):=by omega
  have i0:=Int.emod_nonneg i (b:=(bs.length:Int)) (by omega);have i1:=Int.emod_lt_of_pos i l0;have j0:=Int.emod_nonneg (i+1) (b:=(bs.length:Int)) (by omega);have j1:=Int.emod_lt_of_pos (i+1) l0;have x0:=hc (i%(bs.length:Int)).toNat (by omega);have y0:=hc ((i+1)%(bs.length:Int)).toNat (by omega);have bx:=h.2 (i%(bs.length:Int)).toNat (by omega);have byy:=h.2 ((i+1)%(bs.length:Int)).toNat (by omega);have d0:0<=i/(bs.length:Int):=Int.ediv_nonneg h0 (by omega);have d1:i/(bs.length:Int)<=9:=Int.le_trans (Int.ediv_le_self _ h0) h1
  have c':((bs.length:Int) == 0)=false:=by simpa using c
  have ex:atX bs i=bs[(i%(bs.length:Int)).toNat]:=by unfold atX;rw[List.getElem?_eq_getElem (by omega)];rfl
  have ey:atX bs (i+1)=bs[((i+1)%(bs.length:Int)).toNat]:=by unfold atX;rw[List.getElem?_eq_getElem (by omega)];rfl
  have E:=zaa (show atV bs i n=(bs[(i%(bs.length:Int)).toNat]*31+bs[((i+1)%(bs.length:Int)).toNat]+i/(bs.length:Int))%n by unfold atV;rw[if_neg c,ex,ey]);clear hc ex ey;generalize bs[(i%(bs.length:Int)).toNat]=x at *;generalize bs[((i+1)%(bs.length:Int)).toNat]=y at *;go_enter Tryz.func14,Tryz.ntmps14;go_wp2
  go_quiet (fail)
  go_wp2;go_ret;exact⟨zcq (by rw[E.o]),Below.drewN'' zR _⟩
theorem yauf:Tryz.prog.cellsOf 5=1:=by kernel_rfl
section
variable {H:Type} {enc:TypeId×Value->H} {W:World} {sp:Nat->Bool} {held:Bool} {fuel:Nat} {v:Value} {y:DataW H×List MemPlace}
theorem yavp{z:Int}(h:(Lit.int .u8 z).wf=true):0<=z/\z<256:=by
 have h1:IntKind.u8.min<=z/\z<=IntKind.u8.max:=by simpa[Lit.wf]using h
 have a:IntKind.u8.min=0:=by rfl
 have b:IntKind.u8.max=255:=by rfl
 omega
theorem yaar(h:DataW.trod enc Tryz.prog W 0 sp held fuel 22 [v]=some y):∃ zs:List Int,RdB W v zs/\zs.length<=maxLen:=by
 rcases open_ints Tryz.underlying22 Tryz.underlying5 yauf h with ⟨hcs,_⟩ | ⟨a,len,cap,zs,hcs,_,hl,hm,hz,_,hcell,hwz⟩
 ·simp only[List.cons.injEq,and_true]at hcs;subst hcs;exact⟨[],⟨⟨rfl,none,0,rfl,⟨Nat.le_refl _,fun _=>rfl⟩,fun h=>absurd h (by simp)⟩,fun k hk=>by simp at hk⟩,by simp⟩
 ·simp only[List.cons.injEq,and_true]at hcs;subst hcs
  have hzl:len<=zs.length:=by rw[hz];split<;>omega
  have e:(zs.take len).length=len:=by simp;omega
  refine⟨zs.take len,⟨⟨by simp[bys],some a,cap,by rw[e],⟨by rw[e];exact hl,fun e=>by cases e⟩,fun hn=>?_⟩,fun k hk=>yavp (hwz _ (List.mem_of_mem_take (List.getElem_mem hk)))⟩,by rw[e];omega⟩;rw[e]at hn;obtain⟨b,off,spot⟩:=a;have hc:=hcell 0 (by omega)
  have hspot:spot=none:=by simpa[Addr.add]using World.cell?_spot hc
  subst hspot;refine⟨b,off,rfl,World.block_lt_of_cell? W _ (by simpa[Addr.add]using hc),fun j hj=>?_⟩;rw[e]at hj;have hc:=hcell j (by omega);rw[Addr.add_lit]at hc;rw[hc,yapm _ j (by rw[e];omega)];simp[List.getD,show j<zs.length by omega]
end
end Go.Proofs.YtogcbbkhnpmgeaaGreatDoor

namespace Go.Proofs.YtogcbbkhnpmgeaaGreatDoor
open Go.RowKit
structure Mi where
 kind:Int
 at_:Int
 val:Int
def Mi.v(m:Mi):Value:=.agg #[.I m.kind,.I m.at_,.I m.val]
def miB(m:Mi):Bool:=decide ((m.kind=1/\(0<=m.at_/\m.at_<336)/\0<=m.val/\m.val<1099511627776)\/(m.kind=2/\(0<=m.at_/\m.at_<336)/\m.val=0)\/(m.kind=4/\(0<=m.at_/\m.at_<32)/\0<=m.val/\m.val<1099511627776)\/((m.kind=3\/m.kind=5)/\m.at_=0/\m.val=0))
theorem yasn{m:Mi}:miB m=true↔((m.kind=1/\(0<=m.at_/\m.at_<336)/\0<=m.val/\m.val<1099511627776)\/(m.kind=2/\(0<=m.at_/\m.at_<336)/\m.val=0)\/(m.kind=4/\(0<=m.at_/\m.at_<32)/\0<=m.val/\m.val<1099511627776)\/((m.kind=3\/m.kind=5)/\m.at_=0/\m.val=0)):=by unfold miB;exact decide_eq_true_iff
theorem zlj(k a v:Int):miB ⟨k,a,v⟩=true↔((k=1/\(0<=a/\a<336)/\0<=v/\v<1099511627776)\/(k=2/\(0<=a/\a<336)/\v=0)\/(k=4/\(0<=a/\a<32)/\0<=v/\v<1099511627776)\/((k=3\/k=5)/\a=0/\v=0)):=yasn
end Go.Proofs.YtogcbbkhnpmgeaaGreatDoor

namespace Go.Proofs.YtogcbbkhnpmgeaaGreatDoor
def up(a v:Int):St:=⟨a,v,false⟩
def stM(p:St):Mi:=⟨1,p.at_,p.val⟩
def yafb(ks:List Int)(i:Nat):Bool:=(List.range i).any (fun k=>ks[k]?.getD 0/8 == ks[i]?.getD 0/8)
def nl(ks:List Int):Nat->List Mi
 | 0=>[]
 | i+1=>if yafb ks i=true then nl ks i else nl ks i++[⟨2,ks[i]?.getD 0,0⟩]
def zbf(ks:List Int):List Mi:=nl ks ks.length++[⟨3,0,0⟩]
def seg(S:List St):List Mi:=S.map stM++zbf (S.map (·.at_))
def jrn:Nat->List St->List St
 | _,[]=>[]
 | i,u::us=>⟨9+2*(i:Int),u.at_,false⟩::⟨9+2*(i:Int)+1,u.val,false⟩::jrn (i+1) us
def cnt(n:Int):List St:=[⟨8,n,false⟩]
def zid(us:List St):List Mi:=seg us++seg (cnt 0)
def zds(us:List St):List Mi:=if us.length=0 then[]else seg (jrn 0 us)++seg (cnt (us.length:Int))++zid us
end Go.Proofs.YtogcbbkhnpmgeaaGreatDoor

namespace Go.Proofs.YtogcbbkhnpmgeaaGreatDoor
def zrc(s:List Int×List St)(m:Mi):List Int×List St :=
 if m.kind=1 then(s.1,s.2++[⟨m.at_,m.val,false⟩])else if m.kind=2 then(s.1,s.2.map (fl1 m.at_))else if m.kind=3 then(zoq s.1 s.2,zle s.2)else s
def zna(s:List Int×List St)(l:List Mi):List Int×List St:=l.foldl zrc s
theorem yald(s:List Int×List St):zna s []=s:=rfl
theorem zjg(s:List Int×List St)(m:Mi)(l:List Mi):zna s (m::l)=zna (zrc s m) l:=rfl
theorem zdg(s:List Int×List St)(l l':List Mi):zna s (l++l')=zna (zna s l) l':=by simp[zna]
theorem zxv(s:List Int×List St)(p:St):zrc s (stM p)=(s.1,s.2++[⟨p.at_,p.val,false⟩]):=if_pos rfl
theorem zxs(s:List Int×List St)(a:Int):zrc s ⟨2,a,0⟩=(s.1,s.2.map (fl1 a)):=by
 unfold zrc;rw[if_neg (show ¬ (2:Int)=1 by decide),if_pos rfl]
theorem zxb(s:List Int×List St):zrc s ⟨3,0,0⟩=(zoq s.1 s.2,zle s.2):=by
 unfold zrc;rw[if_neg (by decide),if_neg (by decide),if_pos rfl]
theorem zsf(ks:List Int):∀ i,∀ m∈nl ks i,m=⟨2,m.at_,0⟩
 | 0,m,h=>by cases h
 | i+1,m,h=>by
  rw[nl]at h
  split at h
  ·exact zsf ks i m h
  ·rcases List.mem_append.1 h with h | h
   ·exact zsf ks i m h
   ·rw[List.mem_singleton.1 h]
theorem yahp(ks:List Int):∀ i k,k<i->∃ m∈nl ks i,m.at_/8=ks[k]?.getD 0/8
 | 0,k,h=>absurd h (by omega)
 | i+1,k,h=>by
  rw[nl]
  by_cases e:k<i
  ·obtain⟨m,hm,e⟩:=yahp ks i k e
   split
   ·exact⟨m,hm,e⟩
   ·exact⟨m,List.mem_append_left _ hm,e⟩
  ·obtain rfl:k=i:=by omega
   split
   ·rename_i hk;simp only[yafb,List.any_eq_true,List.mem_range,beq_iff_eq]at hk;obtain⟨j,hj,e⟩:=hk;obtain⟨m,hm,e2⟩:=yahp ks k j hj;exact⟨m,hm,e2.trans e⟩
   ·exact⟨_,List.mem_append_right _ (List.mem_singleton.2 rfl),rfl⟩
theorem zod:∀ (l:List Mi) (s:List Int×List St),(∀ m∈l,m=⟨2,m.at_,0⟩)->∃ g:St->St,zna s l=(s.1,s.2.map g)/\(∀ p,(g p).at_=p.at_/\(g p).val=p.val/\(p.fl=true->(g p).fl=true))/\∀ p,(∃ m∈l,m.at_/8=p.at_/8)->(g p).fl=true
 | [],s,_=>⟨id,by simp[zna],fun p=>⟨rfl,rfl,id⟩,fun p h=>by obtain⟨m,hm,_⟩:=h;cases hm⟩
 | m::l,s,h=>by
  have hm:=h m (by simp);obtain⟨g,e,h1,h2⟩:=zod l (s.1,s.2.map (fl1 m.at_)) (fun x hx=>h x (by simp[hx]))
  have hf:∀ p:St,(fl1 m.at_ p).at_=p.at_/\(fl1 m.at_ p).val=p.val/\(p.fl=true->(fl1 m.at_ p).fl=true):=fun p=>by
   unfold fl1
   split
   ·exact⟨rfl,rfl,fun _=>rfl⟩
   ·exact⟨rfl,rfl,id⟩
  refine⟨fun p=>g (fl1 m.at_ p),?_,fun p=>?_,fun p hp=>?_⟩
  ·rw[zjg,hm,zxs]
   show zna (s.1,s.2.map (fl1 m.at_)) l=_
   rw[e,List.map_map];rfl
  ·have a:=h1 (fl1 m.at_ p);have b:=hf p;exact⟨a.1.trans b.1,a.2.1.trans b.2.1,fun x=>a.2.2 (b.2.2 x)⟩
  ·obtain⟨x,hx,e2⟩:=hp
   rcases List.mem_cons.1 hx with rfl | hx
   ·apply (h1 _).2.2;unfold fl1;rw[if_pos e2.symm]
   ·apply h2;exact⟨x,hx,by rw[(hf p).1];exact e2⟩
theorem yahq:∀ (ps:List St) (ws:List Int),(∀ p∈ps,p.fl=true)->zoq ws ps=zbz ws ps/\zle ps=[]
 | [],_,_=>⟨rfl,rfl⟩
 | p::ps,ws,h=>by
  have hp:=h p (by simp);have ih:=yahq ps (ws.set p.at_.toNat p.val) (fun q hq=>h q (by simp[hq]));refine⟨?_,?_⟩
  ·show zoq (if p.fl then ws.set p.at_.toNat p.val else ws) ps=zbz (ws.set p.at_.toNat p.val) ps
   rw[hp];exact ih.1
  ·unfold zle at ih ⊢;rw[List.filter_cons,hp];exact ih.2
theorem zzd(g:St->St)(hg:∀ p,(g p).at_=p.at_/\(g p).val=p.val):∀ (ps:List St) (ws:List Int),zbz ws (ps.map g)=zbz ws ps
 | [],_=>rfl
 | p::ps,ws=>by
  show zbz (ws.set (g p).at_.toNat (g p).val) (ps.map g)=zbz (ws.set p.at_.toNat p.val) ps
  rw[(hg p).1,(hg p).2];exact zzd g hg ps _
theorem zqe:∀ (S:List St) (s:List Int×List St),zna s (S.map stM)=(s.1,s.2++S.map (fun p=>(⟨p.at_,p.val,false⟩:St)))
 | [],s=>by simp[zna]
 | p::S,s=>by
  rw[List.map_cons,zjg,zxv,zqe S];simp
theorem ziv(S:List St)(ws:List Int):zna (ws,[]) (seg S)=(zbz ws S,[]):=by
 have e0:zna (ws,[]) (S.map stM)=(ws,S.map (fun p=>(⟨p.at_,p.val,false⟩:St))):=by rw[zqe];simp
 unfold seg zbf;rw[zdg,e0,zdg];obtain⟨g,e,h1,h2⟩:=zod (nl (S.map (·.at_)) (S.map (·.at_)).length) (ws,S.map (fun p=>(⟨p.at_,p.val,false⟩:St))) (zsf _ _);rw[e,zjg,yald,zxb]
 have hall:∀ p∈(S.map (fun p=>(⟨p.at_,p.val,false⟩:St))).map g,p.fl=true:=by
  intro p hp;rw[List.map_map,List.mem_map]at hp;obtain⟨q,hq,rfl⟩:=hp;apply h2;obtain⟨i,hi,rfl⟩:=List.getElem_of_mem hq;obtain⟨m,hm,e2⟩:=yahp (S.map (·.at_)) (S.map (·.at_)).length i (by simpa using hi);refine⟨m,hm,?_⟩;rw[e2];simp[hi]
 have f:=yahq _ ws hall
 show(zoq ws ((S.map (fun p=>(⟨p.at_,p.val,false⟩:St))).map g),zle _)=_
 rw[f.1,f.2,List.map_map,zzd (g ∘ fun p=>(⟨p.at_,p.val,false⟩:St)) (fun p=>⟨(h1 _).1,(h1 _).2.1⟩)]
theorem yahc:∀ (us:List St) (i:Nat),∀ p∈jrn i us,9+2*(i:Int)<=p.at_/\p.at_<9+2*((i+us.length:Nat):Int)
 | [],_,p,h=>by cases h
 | u::us,i,p,h=>by
  rw[jrn]at h;simp only[List.length_cons]
  rcases List.mem_cons.1 h with rfl | h
  ·exact⟨Int.le_refl _,by show 9+2*(i:Int)<_;omega⟩
  ·rcases List.mem_cons.1 h with rfl | h
   ·exact⟨by show _<=9+2*(i:Int)+1;omega,by show 9+2*(i:Int)+1<_;omega⟩
   ·have:=yahc us (i+1) p h;omega
end Go.Proofs.YtogcbbkhnpmgeaaGreatDoor

namespace Go.Proofs.YtogcbbkhnpmgeaaGreatDoor
open Go.RowKit
def Mi.cells(s:Mi):List Value:=[.I s.kind,.I s.at_,.I s.val]
def mis(ps:List Mi):List Value:=ps.flatMap Mi.cells
theorem Mi.cells_len(s:Mi):s.cells.length=3:=rfl
theorem yafn(ps:List Mi)(k:Nat)(h:k<ps.length):(mis ps)[k*3]?=some (.I ps[k].kind):=zbh _ 3 Mi.cells_len ps k 0 h (by omega)
theorem yaet(ps:List Mi)(k:Nat)(h:k<ps.length):(mis ps)[k*3+1]?=some (.I ps[k].at_):=zbh _ 3 Mi.cells_len ps k 1 h (by omega)
theorem yads(ps:List Mi)(k:Nat)(h:k<ps.length):(mis ps)[k*3+2]?=some (.I ps[k].val):=zbh _ 3 Mi.cells_len ps k 2 h (by omega)
def RdM(w:World)(v:Value)(ps:List Mi):Prop:=Rd w 3 v ps.length (mis ps)
theorem RdM.shape{w:World}{v:Value}{ps:List Mi}(h:RdM w v ps):∃ ao cap,v=.slice ao ps.length cap/\ps.length<=cap/\(0<ps.length->∃ b o,ao=some ⟨b,o,none⟩/\b<w.heap.size /\
  ∀ k (h:k<ps.length),w.cell? ⟨b,o+k*3,none⟩=some (.I ps[k].kind)/\w.cell? ⟨b,o+k*3+1,none⟩=some (.I ps[k].at_)/\w.cell? ⟨b,o+k*3+2,none⟩=some (.I ps[k].val)):=by
 obtain⟨_,ao,cap,rfl,h2,h3⟩:=h;refine⟨ao,cap,rfl,h2.1,fun hn=>?_⟩;obtain⟨b,o,rfl,hb,hc⟩:=h3 hn;exact⟨b,o,rfl,hb,fun k hk=>⟨(hc (k*3) (by omega)).trans (yafn ps k hk),(hc (k*3+1) (by omega)).trans (yaet ps k hk),(hc (k*3+2) (by omega)).trans (yads ps k hk)⟩⟩
theorem zbx:(Tryz.prog.info? 82).map (fun i=>(i.zero,i.size,i.bytes))=some (some (.agg #[.I 0,.I 0,.I 0]),3,24):=by kernel_rfl
end Go.Proofs.YtogcbbkhnpmgeaaGreatDoor
