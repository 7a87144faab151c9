import Derived.Test.YtfagbapgnocjiaaGreatDoorZAP
import Derived.Test.YtfagbapgnocjiaaGreatDoorZBB
set_option maxRecDepth 100000
set_option maxHeartbeats 16000000
namespace Go.Proofs.YtfagbapgnocjiaaGreatDoor
open Go.RowKit
def zgr(ps:List Den):Nat->Int->Int->Bool
 | 0,_,_=>false
 | n+1,a,b=>if a<0 then false else if a=b then true else zgr ps n (upD ps a) b
theorem zdk(ps:List Den)(n:Nat)(a b:Int):zgr ps (n+1) a b=if a<0 then false else if a=b then true else zgr ps n (upD ps a) b:=rfl
theorem zmb(ps:List Den):∀ (n:Nat) (a b:Int),a<0->zgr ps n a b=false
 | 0,_,_,_=>rfl
 | n+1,a,b,h=>by rw[zdk,if_pos h]
theorem zdt(ps:List Den)(n:Nat)(d:Int):zcg ps (n+1) d=if d=0 then true else if upD ps d<0 then false else zcg ps n (upD ps d):=rfl
theorem zeb(ps:List Den)(d:Int):zcg ps 0 d=false:=rfl
theorem zpp{ps:List Den}:∀ (k:Nat) (x:Int),zcg ps k x=true->zcg ps (k+1) x=true
 | 0,x,h=>by rw[zeb]at h;cases h
 | k+1,x,h=>by
  rw[zdt]at h ⊢
  by_cases q:x=0
  ·rw[if_pos q]
  ·rw[if_neg q]at h ⊢
   by_cases r:upD ps x<0
   ·rw[if_pos r]at h;cases h
   ·rw[if_neg r]at h ⊢;exact zpp k _ h
theorem zrp{ps:List Den}(u0:upD ps 0=-1):∀ (k n:Nat) (a b:Int),zcg ps k a=true->0<=a->k<=n->zgr ps n a b=zgr ps k a b
 | 0,_,_,_,h,_,_=>by rw[zeb]at h;cases h
 | k+1,0,_,_,_,_,hn=>absurd hn (by omega)
 | k+1,n+1,a,b,h,ha,hn=>by
  have n0:¬ a<0:=by omega
  rw[zdk,zdk,if_neg n0,if_neg n0]
  by_cases q:a=b
  ·rw[if_pos q,if_pos q]
  ·rw[if_neg q,if_neg q];rw[zdt]at h
   by_cases r:a=0
   ·subst r;rw[u0,zmb ps n (-1) b (by omega),zmb ps k (-1) b (by omega)]
   ·rw[if_neg r]at h
    by_cases s:upD ps a<0
    ·rw[if_pos s]at h;cases h
    ·rw[if_neg s]at h;exact zrp u0 k n _ _ h (by omega) (by omega)
theorem zfd{ps:List Den}{k:Nat}{x:Int}(h:zcg ps (k+1) x=true)(q:¬ x=0):0<=upD ps x/\zcg ps k (upD ps x)=true:=by
 rw[zdt,if_neg q]at h
 by_cases r:upD ps x<0
 ·rw[if_pos r]at h;cases h
 ·rw[if_neg r]at h;exact⟨by omega,h⟩
theorem zao{ws:List Ino}{ps:List Den}(h:zbo ws ps=true):ws.length=16/\ps.length=24/\zag ws 0=2/\zty ws=true/\zhn ws ps=true/\zfz ws ps=true/\zig ws=true:=by
 unfold zbo at h;simp only[Bool.and_eq_true,decide_eq_true_eq,beq_iff_eq]at h;exact h
theorem zdg{ws:List Ino}{ps:List Den}(h:zbo ws ps=true)(i:Nat)(hi:i<ps.length):(ps[i].child=-1/\ps[i].name.size=0)\/((1<=ps[i].child/\ps[i].child<=15)/\(0<=ps[i].dir/\ps[i].dir<=15)/\nmB ps[i].name=true/\¬ zag ws ps[i].child=0/\zag ws ps[i].dir=2):=by
 obtain⟨_,_,_,_,he,_,_⟩:=zao h;have e:=(of_decide_eq_true he:∀ i (h:i<ps.length),zcj ws ps i ps[i]=true) i hi;unfold zcj at e
 split at e
 ·rename_i c;left;refine⟨c,?_⟩;unfold Den.freeB at e;simp only[Bool.and_eq_true,beq_iff_eq]at e;have:=e.2.1
  first
   | exact this
   | simpa using this
   | (simp at this;rw[this];rfl)
 ·right;simp only[Bool.and_eq_true,decide_eq_true_eq,Bool.not_eq_true',beq_eq_false_iff_ne,beq_iff_eq]at e;exact⟨e.1,e.2.1,e.2.2.1,e.2.2.2.1,e.2.2.2.2.1⟩
theorem ztx{ws:List Ino}{ps:List Den}(h:zbo ws ps=true):upD ps 0=-1:=by
 apply yaee;intro j hj e
 rcases zdg h j hj with q | q
 ·omega
 ·omega
theorem zqc{ws:List Ino}{ps:List Den}(h:zbo ws ps=true){i:Int}(h0:0<=i/\i<=15)(hk:zag ws i=2):zcg ps 16 i=true:=by
 obtain⟨hl,_,_,_,_,hL,_⟩:=zao h
 obtain⟨n,rfl⟩:∃ n:Nat,i=(n:Int):=⟨i.toNat,by omega⟩
 have hn:n<ws.length:=by omega
 have:=(of_decide_eq_true hL:∀ i (h:i<ws.length),zfn ps i ws[i]=true) n hn;unfold zfn at this;rw[zbc hn]at hk;simp only[Bool.and_eq_true,Bool.or_eq_true,decide_eq_true_eq]at this
 rcases this.2 with q | q
 ·exact absurd hk q
 ·exact q
def beC(ws:List Ino)(ps:List Den)(a b:Int):Int:=if zbo ws ps=true then(if (0<=a/\a<=15)/\(0<=b/\b<=15) then(if zag ws a=2/\zag ws b=2 then 0 else 10)else 4)else 1
def beV(ws:List Ino)(ps:List Den)(a b:Int):Bool:=if beC ws ps a b=0 then zgr ps 17 a b else false
def zbu(p:Nat->Bool)(n:Nat):Int:=match (List.range n).find? p with | some i=>(i:Int) | none=>-1
theorem zrq{p:Nat->Bool}{n k:Nat}(hk:k<n)(h:∀ j,j<k->p j=false)(e:p k=true):zbu p n=(k:Int):=by
 have:(List.range n).find? p=some k:=List.find?_range_eq_some.2 ⟨e,List.mem_range.2 hk,fun j hj=>by rw[h j hj];rfl⟩;unfold zbu;rw[this]
theorem zjv{p:Nat->Bool}{n:Nat}(h:∀ j,j<n->p j=false):zbu p n=-1:=by
 have:(List.range n).find? p=none:=List.find?_eq_none.2 (fun j hj=>by rw[h j (List.mem_range.1 hj)];decide);unfold zbu;rw[this]
theorem zds(p:Nat->Bool)(n:Nat):-1<=zbu p n/\zbu p n<n:=by
 unfold zbu
 split
 ·rename_i i h;have:=List.mem_range.1 (List.mem_of_find?_eq_some h);omega
 ·omega
theorem zmp{ws:List Ino}{ps:List Den}(h:zbo ws ps=true):ws.length=16/\ps.length=24/\zag ws 0=2/\zty ws=true:=by
 unfold zbo at h;simp only[Bool.and_eq_true,decide_eq_true_eq,beq_iff_eq]at h;exact⟨h.1,h.2.1,h.2.2.1,h.2.2.2.1⟩
def RdFs(w:World)(v:Value)(ws es hs:List Int)(td:List Mi)(cd vl:Int)(nm:List ByteArray)(fr:Bool):Prop :=
 ∃ aW cW aP cP aS cS aQ cQ aH cH aT cT aN cN,v=.agg #[.slice aW ws.length cW,.slice aP 0 cP,.slice aS es.length cS,.slice aQ 0 cQ,.slice aH hs.length cH,.slice aT td.length cT,.I cd,.I vl,.slice aN nm.length cN,.bool fr]/\RdDev w (.agg #[.slice aW ws.length cW,.slice aP 0 cP,.slice aS es.length cS,.slice aQ 0 cQ]) ws [] es []/\RdI w (.slice aH hs.length cH) hs/\RdM w (.slice aT td.length cT) td/\RdT w (.slice aN nm.length cN) nm
theorem RdFs.soft{w w':World}{v:Value}{ws es hs:List Int}{td:List Mi}{cd vl:Int}{nm:List ByteArray}{fr:Bool}(h:RdFs w v ws es hs td cd vl nm fr)(s:Soft w w')(h1:3<=ws.length)(h2:3<=es.length)(h3:3<=hs.length):RdFs w' v ws es hs td cd vl nm fr:=by
 obtain⟨aW,cW,aP,cP,aS,cS,aQ,cQ,aH,cH,aT,cT,aN,cN,rfl,a,b,c,d⟩:=h;exact⟨aW,cW,aP,cP,aS,cS,aQ,cQ,aH,cH,aT,cT,aN,cN,rfl,a.soft s h1 h2,b.soft s h3,c.soft s,d.soft s⟩
theorem RdFs.below{w w':World}{v:Value}{ws es hs:List Int}{td:List Mi}{cd vl:Int}{nm:List ByteArray}{fr:Bool}(h:RdFs w v ws es hs td cd vl nm fr)(s:zB w w'):RdFs w' v ws es hs td cd vl nm fr:=by
 obtain⟨aW,cW,aP,cP,aS,cS,aQ,cQ,aH,cH,aT,cT,aN,cN,rfl,a,b,c,d⟩:=h;exact⟨aW,cW,aP,cP,aS,cS,aQ,cQ,aH,cH,aT,cT,aN,cN,rfl,a.below s,Rd.below b s,Rd.below c s,Rd.below d s⟩
theorem zaj{w:World}{b:Nat}{t:TypeId}{x0 x1 x2 x3 x4 x5 x6 x7 x8 x9:Value}(h:w.heap[b]?=some (.cells #[x0,x1,x2,x3,x4,x5,x6,x7,x8,x9] t (0,0))):w.cell? ⟨b,0,none⟩=some x0/\w.cell? ⟨b,1,none⟩=some x1/\w.cell? ⟨b,2,none⟩=some x2/\w.cell? ⟨b,3,none⟩=some x3/\w.cell? ⟨b,4,none⟩=some x4/\w.cell? ⟨b,5,none⟩=some x5/\w.cell? ⟨b,6,none⟩=some x6/\w.cell? ⟨b,7,none⟩=some x7/\w.cell? ⟨b,8,none⟩=some x8/\w.cell? ⟨b,9,none⟩=some x9/\w.frozen? ⟨b,0,none⟩=false/\w.frozen? ⟨b,1,none⟩=false/\w.frozen? ⟨b,2,none⟩=false/\w.frozen? ⟨b,3,none⟩=false/\w.frozen? ⟨b,4,none⟩=false/\w.frozen? ⟨b,5,none⟩=false/\w.frozen? ⟨b,6,none⟩=false/\w.frozen? ⟨b,7,none⟩=false/\w.frozen? ⟨b,8,none⟩=false/\w.frozen? ⟨b,9,none⟩=false:=by
 simp[World.cell?,World.frozen?,h]
theorem zzl{w:World}{b:Nat}{t:TypeId}{x0 x1 x2 x3 x4 x5 x6 x7 x8 x9:Value}(h:w.heap[b]?=some (.cells #[x0,x1,x2,x3,x4,x5,x6,x7,x8,x9] t (0,0)))(u:Value):(w.setCell ⟨b,0,none⟩ u).heap[b]?=some (.cells #[u,x1,x2,x3,x4,x5,x6,x7,x8,x9] t (0,0)):=by simp[World.setCell,Array.getElem?_modify,h]
theorem zzg{w:World}{b:Nat}{t:TypeId}{x0 x1 x2 x3 x4 x5 x6 x7 x8 x9:Value}(h:w.heap[b]?=some (.cells #[x0,x1,x2,x3,x4,x5,x6,x7,x8,x9] t (0,0)))(u:Value):(w.setCell ⟨b,1,none⟩ u).heap[b]?=some (.cells #[x0,u,x2,x3,x4,x5,x6,x7,x8,x9] t (0,0)):=by simp[World.setCell,Array.getElem?_modify,h]
theorem yaaw{w:World}{b:Nat}{t:TypeId}{x0 x1 x2 x3 x4 x5 x6 x7 x8 x9:Value}(h:w.heap[b]?=some (.cells #[x0,x1,x2,x3,x4,x5,x6,x7,x8,x9] t (0,0)))(u:Value):(w.setCell ⟨b,2,none⟩ u).heap[b]?=some (.cells #[x0,x1,u,x3,x4,x5,x6,x7,x8,x9] t (0,0)):=by simp[World.setCell,Array.getElem?_modify,h]
theorem zzn{w:World}{b:Nat}{t:TypeId}{x0 x1 x2 x3 x4 x5 x6 x7 x8 x9:Value}(h:w.heap[b]?=some (.cells #[x0,x1,x2,x3,x4,x5,x6,x7,x8,x9] t (0,0)))(u:Value):(w.setCell ⟨b,3,none⟩ u).heap[b]?=some (.cells #[x0,x1,x2,u,x4,x5,x6,x7,x8,x9] t (0,0)):=by simp[World.setCell,Array.getElem?_modify,h]
theorem zry{w:World}{b:Nat}{t:TypeId}{x0 x1 x2 x3 x4 x5 x6 x7 x8 x9:Value}(h:w.heap[b]?=some (.cells #[x0,x1,x2,x3,x4,x5,x6,x7,x8,x9] t (0,0)))(u:Value):(w.setCell ⟨b,4,none⟩ u).heap[b]?=some (.cells #[x0,x1,x2,x3,u,x5,x6,x7,x8,x9] t (0,0)):=by simp[World.setCell,Array.getElem?_modify,h]
theorem zgh{w:World}{b:Nat}{t:TypeId}{x0 x1 x2 x3 x4 x5 x6 x7 x8 x9:Value}(h:w.heap[b]?=some (.cells #[x0,x1,x2,x3,x4,x5,x6,x7,x8,x9] t (0,0)))(u:Value):(w.setCell ⟨b,5,none⟩ u).heap[b]?=some (.cells #[x0,x1,x2,x3,x4,u,x6,x7,x8,x9] t (0,0)):=by simp[World.setCell,Array.getElem?_modify,h]
theorem zlp{w:World}{b:Nat}{t:TypeId}{x0 x1 x2 x3 x4 x5 x6 x7 x8 x9:Value}(h:w.heap[b]?=some (.cells #[x0,x1,x2,x3,x4,x5,x6,x7,x8,x9] t (0,0)))(u:Value):(w.setCell ⟨b,6,none⟩ u).heap[b]?=some (.cells #[x0,x1,x2,x3,x4,x5,u,x7,x8,x9] t (0,0)):=by simp[World.setCell,Array.getElem?_modify,h]
theorem zls{w:World}{b:Nat}{t:TypeId}{x0 x1 x2 x3 x4 x5 x6 x7 x8 x9:Value}(h:w.heap[b]?=some (.cells #[x0,x1,x2,x3,x4,x5,x6,x7,x8,x9] t (0,0)))(u:Value):(w.setCell ⟨b,7,none⟩ u).heap[b]?=some (.cells #[x0,x1,x2,x3,x4,x5,x6,u,x8,x9] t (0,0)):=by simp[World.setCell,Array.getElem?_modify,h]
theorem zjn{w:World}{b:Nat}{t:TypeId}{x0 x1 x2 x3 x4 x5 x6 x7 x8 x9:Value}(h:w.heap[b]?=some (.cells #[x0,x1,x2,x3,x4,x5,x6,x7,x8,x9] t (0,0)))(u:Value):(w.setCell ⟨b,8,none⟩ u).heap[b]?=some (.cells #[x0,x1,x2,x3,x4,x5,x6,x7,u,x9] t (0,0)):=by simp[World.setCell,Array.getElem?_modify,h]
theorem zlz{w:World}{b:Nat}{t:TypeId}{x0 x1 x2 x3 x4 x5 x6 x7 x8 x9:Value}(h:w.heap[b]?=some (.cells #[x0,x1,x2,x3,x4,x5,x6,x7,x8,x9] t (0,0)))(u:Value):(w.setCell ⟨b,9,none⟩ u).heap[b]?=some (.cells #[x0,x1,x2,x3,x4,x5,x6,x7,x8,u] t (0,0)):=by simp[World.setCell,Array.getElem?_modify,h]
theorem yadz{w:World}{b:Nat}{t:TypeId}{x0 x1 x2 x3 x4 x5 x6 x7 x8 x9:Value}(h:w.heap[b]?=some (.cells #[x0,x1,x2,x3,x4,x5,x6,x7,x8,x9] t (0,0)))(p q r s:Value):(putR w b p q r s).heap[b]?=some (.cells #[p,q,r,s,x4,x5,x6,x7,x8,x9] t (0,0)):=zzn (yaaw (zzg (zzl h p) q) r) s
def zfp(w:World)(b:Nat)(x0 x1 x2 x3 x4 x5 x6 x7 x8 x9:Value):World:=((((((((((w.setCell ⟨b,0,none⟩ x0).setCell ⟨b,1,none⟩ x1).setCell ⟨b,2,none⟩ x2).setCell ⟨b,3,none⟩ x3).setCell ⟨b,4,none⟩ x4).setCell ⟨b,5,none⟩ x5).setCell ⟨b,6,none⟩ x6).setCell ⟨b,7,none⟩ x7).setCell ⟨b,8,none⟩ x8).setCell ⟨b,9,none⟩ x9)
theorem zbt(w:World)(b:Nat)(x0 x1 x2 x3 x4 x5 x6 x7 x8 x9:Value):Outside b (b+1) w (zfp w b x0 x1 x2 x3 x4 x5 x6 x7 x8 x9):=by
 unfold zfp
 repeat (refine Outside.setCell ?_ (by simp only;omega) (by simp only;omega) _)
 exact Outside.refl _ _ _
theorem zpl(w:World)(b:Nat)(x0 x1 x2 x3 x4 x5 x6 x7 x8 x9:Value):(zfp w b x0 x1 x2 x3 x4 x5 x6 x7 x8 x9).heap.size=w.heap.size:=by simp[zfp,World.setCell]
theorem tri3{w:World}{b:Nat}{t:TypeId}{x y z:Value}(h:w.heap[b]?=some (.cells #[x,y,z] t (0,0))):w.cell? ⟨b,0,none⟩=some x/\w.cell? ⟨b,1,none⟩=some y/\w.cell? ⟨b,2,none⟩=some z/\w.frozen? ⟨b,0,none⟩=false/\w.frozen? ⟨b,1,none⟩=false/\w.frozen? ⟨b,2,none⟩=false:=by simp[World.cell?,World.frozen?,h]
def zdr:List Value:=[.N,.N,.N,.N,.N,.N,.I 0,.I 0,.N,.bool false]
theorem zjg(v:Value)(ws es hs:List Int)(td:List Mi)(cd vl:Int)(nm:List ByteArray)(fr:Bool)(ws' es':List Int)(w:World)(h:RdFs w v ws es hs td cd vl nm fr)(hp:pmB ws []=true)(hb:zpe es []=true)(hh:3<=hs.length)(hm:∀ m∈td,miB m=true)(hl:td.length<=1000)(r:mr td ws [] es []=⟨0,ws',[],es',[]⟩)(hp':pmB ws' []=true)(hb':zpe es' []=true) :
  zC 65 #[v] w fun e w'=>∃ v',e=.returned v'/\RdFs w' v' ws' es' hs [] cd vl nm fr/\zB w w':=by
 have h336:Hid (3<=ws'.length):=by have:=(zhx hp').1;unfold Hid;omega
 have h32:Hid (3<=es'.length):=by have:=(zet hb').1;unfold Hid;omega
 have HH:=zaa hh;have HF:=zaa h;obtain⟨aW,cW,aP,cP,aS,cS,aQ,cQ,aH,cH,aT,cT,aN,cN,rfl,a,b,c,d⟩:=h
 have LA:Hid (∀ w1,zB w w1->zC 115 #[.agg #[.slice aW ws.length cW,.slice aP 0 cP,.slice aS es.length cS,.slice aQ 0 cQ],.slice aT td.length cT] w1 fun e w'=>∃ v',e=.returned v'/\RdDev w' v' ws' [] es' []/\zB w1 w'):=fun w1 hb1=>yaci _ _ td ws [] es [] ws' [] es' [] w1 (a.below hb1) (Rd.below c hb1) hp hb hm hl r
 have RH:=zaa b;have RN:=zaa d;clear a b c d hp hb hm hl r hp' hb' hh HF
 obtain⟨V,hV⟩:=zE ((w.alloc (.cells #[.slice aW ws.length cW,.slice aP 0 cP,.slice aS es.length cS,.slice aQ 0 cQ,.slice aH hs.length cH,.slice aT td.length cT,.I cd,.I vl,.slice aN nm.length cN,.bool fr] 83)).alloc (.cells zdr.toArray 83))
 have hzV:V.heap.size=w.heap.size+1+1:=by rw[hV];simp
 have BV:Hid (zB w V):=by rw[hV];exact(zR.alloc zL _).alloc (by simp) _
 have XV:Hid (V.heap[w.heap.size]?=some (.cells #[.slice aW ws.length cW,.slice aP 0 cP,.slice aS es.length cS,.slice aQ 0 cQ,.slice aH hs.length cH,.slice aT td.length cT,.I cd,.I vl,.slice aN nm.length cN,.bool fr] 83 (0,0))):=by rw[hV];exact zak (zai rfl)
 have YV:Hid (V.heap[w.heap.size+1]?=some (.cells zdr.toArray 83 (0,0))):=by
  rw[hV];have:=zai (w:=w.alloc (.cells #[.slice aW ws.length cW,.slice aP 0 cP,.slice aS es.length cS,.slice aQ 0 cQ,.slice aH hs.length cH,.slice aT td.length cT,.I cd,.I vl,.slice aN nm.length cN,.bool fr] 83)) (o:=.cells zdr.toArray 83) rfl;rw[World.size_alloc]at this;exact this
 unfold zdr at hV;go_enter Tryz.func65,Tryz.ntmps65;go_upto_region 1 with fail;rw[<- hV];clear hV;obtain⟨x0,x1,x2,x3,x4,x5,x6,x7,x8,x9,-⟩:=zaj XV.o;go_wp2_with fail;refine(LA.o _ BV.o).mono ?_;rintro e w1 ⟨v1,rfl,hr1,hb1⟩;obtain⟨iW,jW,iP,jP,iS,jS,iQ,jQ,rfl,-,-⟩:=hr1.form;have z1:V.heap.size<=w1.heap.size:=hb1.size;have B1:=zaa (zab BV.o hb1 BV.o.size);have X1:=zaa ((hb1.block _ (by omega)).trans XV.o);have Y1:=zaa ((hb1.block _ (by omega)).trans YV.o);have D1:=zaa hr1;clear hr1 hb1 x0 x1 x2 x3 x4 x5 x6 x7 x8 x9 XV YV LA;obtain⟨x0,x1,x2,x3,x4,x5,x6,x7,x8,x9,g0,g1,g2,g3,g4,g5,g6,g7,g8,g9⟩:=zaj X1.o
 obtain⟨w2,hw2⟩:=zE (putR w1 w.heap.size (.slice iW ws'.length jW) (.slice iP 0 jP) (.slice iS es'.length jS) (.slice iQ 0 jQ))
 have O2:=zaa (zhj w1 w.heap.size (.slice iW ws'.length jW) (.slice iP 0 jP) (.slice iS es'.length jS) (.slice iQ 0 jQ))
 have S2:Hid (Soft w1 w2):=by rw[hw2];exact Soft.outside O2.o X1.o rfl
 have X2:Hid (w2.heap[w.heap.size]?=some (.cells #[.slice iW ws'.length jW,.slice iP 0 jP,.slice iS es'.length jS,.slice iQ 0 jQ,.slice aH hs.length cH,.slice aT td.length cT,.I cd,.I vl,.slice aN nm.length cN,.bool fr] 83 (0,0))):=by rw[hw2];exact yadz X1.o _ _ _ _
 have Y2:Hid (w2.heap[w.heap.size+1]?=some (.cells zdr.toArray 83 (0,0))):=by rw[hw2];exact(O2.o.block _ (by omega) (by omega)).trans Y1.o
 have B2:Hid (zB w w2):=by rw[hw2];exact B1.o.trans (O2.o.below zL (by omega))
 have z2:w1.heap.size=w2.heap.size:=by rw[hw2,zoa]
 unfold putR at hw2;go_upto_region 2 with fail;rw[<- hw2];clear hw2 O2 x0 x1 x2 x3 x4 x5 x6 x7 x8 x9 g0 g1 g2 g3 g4 g5 g6 g7 g8 g9 X1 Y1
 obtain⟨w3,hw3⟩:=zE ((w2.alloc (.cells #[] 173)).setCell ⟨w.heap.size,5,none⟩ (.slice (some ⟨w2.heap.size,0,none⟩) 0 0))
 have X2a:=zaa (zak (o:=.cells #[] 173) X2.o)
 have S3:Hid (Soft w2 w3):=by rw[hw3];exact((Soft.refl _).alloc _).set X2a.o rfl _ _
 have X3:Hid (w3.heap[w.heap.size]?=some (.cells #[.slice iW ws'.length jW,.slice iP 0 jP,.slice iS es'.length jS,.slice iQ 0 jQ,.slice aH hs.length cH,.slice (some ⟨w2.heap.size,0,none⟩) 0 0,.I cd,.I vl,.slice aN nm.length cN,.bool fr] 83 (0,0))):=by rw[hw3];exact zgh X2a.o _
 have Y3:Hid (w3.heap[w.heap.size+1]?=some (.cells zdr.toArray 83 (0,0))):=by rw[hw3,Below.heap_setCell _ _ _ _ (by simp only;omega)];exact zak Y2.o
 have B3:Hid (zB w w3):=by rw[hw3];exact(B2.o.alloc B2.o.size _).setCell zL _
 have z3:w2.heap.size+1=w3.heap.size:=by rw[hw3];simp[World.setCell]
 obtain⟨-,-,-,-,-,x5,-,-,-,-,-,-,-,-,-,g5,-⟩:=zaj X2a.o;go_upto_region 3 with fail;rw[<- hw3];clear hw3 x5 g5 X2 Y2 X2a;obtain⟨x0,x1,x2,x3,x4,x5,x6,x7,x8,x9,-⟩:=zaj X3.o;have Y3':w3.heap[w.heap.size+1]?=some (.cells #[.N,.N,.N,.N,.N,.N,.I 0,.I 0,.N,.bool false] 83 (0,0)):=Y3.o;obtain⟨y0,y1,y2,y3,y4,y5,y6,y7,y8,y9,g0,g1,g2,g3,g4,g5,g6,g7,g8,g9⟩:=zaj Y3';clear Y3';have O4:=zaa (zbt w3 (w.heap.size+1) (.slice iW ws'.length jW) (.slice iP 0 jP) (.slice iS es'.length jS) (.slice iQ 0 jQ) (.slice aH hs.length cH) (.slice (some ⟨w2.heap.size,0,none⟩) 0 0) (.I cd) (.I vl) (.slice aN nm.length cN) (.bool fr));have S4:=zaa (Soft.outside O4.o Y3.o rfl);have SS:=zaa ((S2.o.trans S3.o).trans S4.o);have B4:=zaa (B3.o.trans (O4.o.below (B:=w.heap.size) (by omega) (by omega)))
 have NIL:Hid (RdM w3 (.slice (some ⟨w2.heap.size,0,none⟩) 0 0) []):=⟨rfl,_,_,rfl,⟨Nat.le_refl _,fun e=>by cases e⟩,fun h=>absurd h (by simp)⟩
 have F4:Hid (RdFs _ (.agg #[.slice iW ws'.length jW,.slice iP 0 jP,.slice iS es'.length jS,.slice iQ 0 jQ,.slice aH hs.length cH,.slice (some ⟨w2.heap.size,0,none⟩) 0 0,.I cd,.I vl,.slice aN nm.length cN,.bool fr]) ws' es' hs [] cd vl nm fr) :=
  ⟨iW,jW,iP,jP,iS,jS,iQ,jQ,aH,cH,_,_,aN,cN,rfl,RdDev.soft D1.o SS.o h336.o h32.o,RdI.soft (Rd.below RH.o B1.o) SS.o HH.o,RdM.soft NIL.o S4.o,RdT.soft (Rd.below RN.o B1.o) SS.o⟩
 clear O4 S4 SS S2 S3 D1 NIL;go_wp2;refine bodyPost_ret (v:=.agg #[.slice iW ws'.length jW,.slice iP 0 jP,.slice iS es'.length jS,.slice iQ 0 jQ,.slice aH hs.length cH,.slice (some ⟨w2.heap.size,0,none⟩) 0 0,.I cd,.I vl,.slice aN nm.length cN,.bool fr]) (by simp[results,Tryz.results65,go_sem,y0,y1,y2,y3,y4,y5,y6,y7,y8,y9]) rfl ?_;exact⟨_,rfl,F4.o,B4.o⟩
theorem zoy(v:Value)(ws:List Ino)(ps:List Den)(a b:Int)(w:World)(h:RdIm w v ws ps)(hn:ps.length<=1048576) :
  zC 192 #[v,.I a,.I b] w fun e w'=>e=.returned (.bool (zgr ps 17 a b))/\zB w w':=by
 have HR:=zaa h;obtain⟨vW,vP,rfl,h1,h2⟩:=h;obtain⟨aW,cW,rfl,_⟩:=h1.shape;obtain⟨aP,cP,rfl,_,hcP⟩:=h2.shape;clear h1 h2 hcP
 obtain⟨W,hW⟩:=zE (w.alloc (.cells #[.slice aW ws.length cW,.slice aP ps.length cP] 26))
 have CA:Hid (∀ w',zB W w'->w'.cell? ⟨w.heap.size,0,none⟩=some (.slice aW ws.length cW)/\w'.cell? ⟨w.heap.size,1,none⟩=some (.slice aP ps.length cP)):=fun w' hb=>by
  have:w'.heap[w.heap.size]?=some (.cells #[.slice aW ws.length cW,.slice aP ps.length cP] 26 (0,0)):=(hb.block _ (by rw[hW];simp)).trans (by rw[hW];exact zai rfl);exact⟨(zad this).1,(zad this).2.1⟩
 have BW:Hid (zB w W):=by rw[hW];exact zR.alloc zL _
 have hz:w.heap.size<=W.heap.size:=BW.o.size;have LU:=zaa (fun d w1 h=>ztu (.agg #[.slice aW ws.length cW,.slice aP ps.length cP]) ws ps d w1 h hn);go_enter Tryz.func192,Tryz.ntmps192;go_wp2;rw[<- hW];clear hW
 go_loopw [1,7] (fun d i wr=>∃ (k:Nat) (z:Int),k<=17/\i=.I k/\d=.I z/\Hid (zB W wr/\zgr ps 17 a b=zgr ps (17-k) z b)) (fun _ i _=>17-(intOf i).toNat)
 case atStart=>exact⟨0,a,by omega,rfl,rfl,zR,rfl⟩
 case round =>
  obtain⟨k,z,hk,rfl,rfl,J⟩:=hrel;obtain⟨x0,x1⟩:=CA.o wr J.o.1;have B:=zaa (zab BW.o J.o.1 hz)
  by_cases hlt:k<17
  ·have ES:=zaa (show zgr ps (17-k) z b=if z<0 then false else if z=b then true else zgr ps (17-(k+1)) (upD ps z) b by
    rw[show 17-k=(17-(k+1))+1 by omega];rfl)
   have k16:(k:Int)<=16:=by omega
   by_cases q:z<0
   ·have E:=zaa (show zgr ps 17 a b=false by rw[J.o.2,ES.o,if_pos q])
    have q1:¬ z>=0:=by omega
    clear ES J;go_wp2;go_ret;exact⟨zah E.o.symm,B.o⟩
   ·have q1:z>=0:=by omega
    by_cases r:z=b
    ·subst r;have E:=zaa (show zgr ps 17 a z=true by rw[J.o.2,ES.o,if_neg q,if_pos rfl]);clear ES J;go_wp2;go_ret;exact⟨zah E.o.symm,B.o⟩
    ·have r1:(z == b)=false:=beq_eq_false_iff_ne.2 r;have R:=zaa (HR.o.below B.o);have E:=zaa (show zgr ps 17 a b=zgr ps (17-(k+1)) (upD ps z) b by rw[J.o.2,ES.o,if_neg q,if_neg r]);have J1:=zaa J.o.1;clear ES J q r;go_wp2_with fail;refine(LU.o _ _ R.o).mono ?_;rintro e w1 ⟨rfl,hb1⟩;have B1:=zaa (zab J1.o hb1 J1.o.size);clear hb1;go_wp2
     go_roundw
     case rel=>exact⟨k+1,_,by omega,by go_num,rfl,B1.o,E.o⟩
     case measure=>simp[intOf];omega
  ·obtain rfl:k=17:=by omega
   have E:=zaa (show zgr ps 17 a b=false by rw[J.o.2];rfl);clear J;go_wp2;go_ret;exact⟨zah E.o.symm,B.o⟩
theorem yasg{ws:List Ino}{ps:List Den}{a b:Int}(h:zbo ws ps=false):beC ws ps a b=1/\beV ws ps a b=false:=by
 have e:beC ws ps a b=1:=by unfold beC;rw[h];rfl
 exact⟨e,by unfold beV;rw[e];rfl⟩
theorem yaar{ws:List Ino}{ps:List Den}{a b:Int}(h:zbo ws ps=true)(q:¬ ((0<=a/\a<=15)/\(0<=b/\b<=15))):beC ws ps a b=4/\beV ws ps a b=false:=by
 have e:beC ws ps a b=4:=by unfold beC;rw[if_pos h,if_neg q]
 exact⟨e,by unfold beV;rw[e];rfl⟩
theorem yamx{ws:List Ino}{ps:List Den}{a b:Int}(h:zbo ws ps=true)(q:(0<=a/\a<=15)/\(0<=b/\b<=15))(r:¬ (zag ws a=2/\zag ws b=2)):beC ws ps a b=10/\beV ws ps a b=false:=by
 have e:beC ws ps a b=10:=by unfold beC;rw[if_pos h,if_pos q,if_neg r]
 exact⟨e,by unfold beV;rw[e];rfl⟩
theorem yaue{ws:List Ino}{ps:List Den}{a b:Int}(h:zbo ws ps=true)(q:(0<=a/\a<=15)/\(0<=b/\b<=15))(r:zag ws a=2/\zag ws b=2):beC ws ps a b=0/\beV ws ps a b=zgr ps 17 a b:=by
 have e:beC ws ps a b=0:=by unfold beC;rw[if_pos h,if_pos q,if_pos r]
 exact⟨e,by unfold beV;rw[e];rfl⟩
end Go.Proofs.YtfagbapgnocjiaaGreatDoor
