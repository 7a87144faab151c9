import Derived.Test.YtfagbapgnocjiaaGreatDoorZAT
import Derived.ArgAppend
import Derived.Test.YtfagbapgnocjiaaGreatDoorStN
import Derived.Maps.Views
set_option maxRecDepth 100000
set_option maxHeartbeats 4000000
namespace Go.Proofs.YtfagbapgnocjiaaGreatDoor
open Go.RowKit
def lkI(ws:List Ino)(ps:List Den)(s:ByteArray):Int×Int:=if spB s=true then wk ws ps 0 (spL s) else(0,12)
def lkR(ws:List Ino)(ps:List Den)(s:ByteArray):Int×Int:=if 65536<s.size then(0,2)else if zbo ws ps=true then lkI ws ps s else(0,1)
def paN(ws:List Ino)(ps:List Den)(xs:List ByteArray)(x:ByteArray):Int×ByteArray×Int:=if (wk ws ps 0 xs).2=0 then(if zag ws (wk ws ps 0 xs).1=2 then((wk ws ps 0 xs).1,x,0) else(0,⟨#[]⟩,10)) else(0,⟨#[]⟩,(wk ws ps 0 xs).2)
def paL(ws:List Ino)(ps:List Den)(ns:List ByteArray):Int×ByteArray×Int:=if ns=[] then(0,⟨#[]⟩,19)else paN ws ps ns.dropLast (ns.getLastD ⟨#[]⟩)
def paI(ws:List Ino)(ps:List Den)(s:ByteArray):Int×ByteArray×Int:=if spB s=true then paL ws ps (spL s) else(0,⟨#[]⟩,12)
def paR(ws:List Ino)(ps:List Den)(s:ByteArray):Int×ByteArray×Int:=if 65536<s.size then(0,⟨#[]⟩,2)else if zbo ws ps=true then paI ws ps s else(0,⟨#[]⟩,1)
theorem zly(ws:List Ino)(ps:List Den)(xs:List ByteArray)(x:ByteArray):paL ws ps (xs++[x])=paN ws ps xs x:=by
 unfold paL;rw[if_neg (by simp),List.dropLast_concat]
 congr 1
 simp
theorem zxj{ns:List ByteArray}(h:¬ ns=[]):∃ xs x,ns=xs++[x]:=⟨ns.dropLast,ns.getLast h,(List.dropLast_concat_getLast h).symm⟩
theorem zeu(v:Value)(ws:List Ino)(ps:List Den)(s:ByteArray)(w:World)(h:RdIm w v ws ps)(hi:zbo ws ps=true)(hs:s.size<=65536) :
  zC 139 #[v,.string s] w fun e w'=>e=.returned (.tuple #[.I (lkI ws ps s).1,.I (lkI ws ps s).2])/\zB w w':=by
 have HR:=zaa h;have LS:=zaa (fun w1=>zko s w1 hs);have LW:=zaa (fun vL w1 h hL=>znb v vL ws ps (spL s) w1 h hL hi (by have:=@zoj s;omega));have EL:=zaa (show lkI ws ps s=if spB s=true then wk ws ps 0 (spL s) else(0,12)from rfl);obtain⟨vW,vP,rfl,h1,h2⟩:=h;obtain⟨aW,cW,rfl,_,_⟩:=h1.shape;obtain⟨aP,cP,rfl,_,_⟩:=h2.shape;clear h1 h2 hi
 have CA:Hid (∀ w',Below (w.alloc (.cells #[.slice aW ws.length cW,.slice aP ps.length cP] 26)).heap.size (w.alloc (.cells #[.slice aW ws.length cW,.slice aP ps.length cP] 26)) w'->w'.cell? ⟨w.heap.size,0,none⟩=some (.slice aW ws.length cW)/\w'.cell? ⟨w.heap.size,1,none⟩=some (.slice aP ps.length cP)):=fun w' hb=>by
  have:w'.heap[w.heap.size]?=some (.cells #[.slice aW ws.length cW,.slice aP ps.length cP] 26 (0,0)):=(hb.block _ (by simp)).trans (zai rfl);exact⟨(zad this).1,(zad this).2.1⟩
 have BW:Hid (zB w (w.alloc (.cells #[.slice aW ws.length cW,.slice aP ps.length cP] 26))):=zR.alloc zL _;generalize lkI ws ps s=res at *;generalize wk ws ps 0 (spL s)=rw0 at *
 cases c:spB s with
 | false =>
  rw[c]at LS EL;obtain rfl:=EL.o;clear EL LW;go_enter Tryz.func139,Tryz.ntmps139;go_wp2_with fail;refine(LS.o _).mono ?_;rintro e w1 ⟨v1,rfl,hr1,hb1⟩;have B1:=zaa (zab BW.o hb1 BW.o.size);clear hr1 hb1;go_wp2;go_ret2;exact⟨rfl,B1.o⟩
 | true =>
  rw[c]at LS EL;obtain rfl:res=rw0:=EL.o;clear EL;go_enter Tryz.func139,Tryz.ntmps139;go_wp2_with fail;refine(LS.o _).mono ?_;rintro e w1 ⟨v1,rfl,hr1,hb1⟩;have B1:=zaa (zab BW.o hb1 BW.o.size);obtain⟨x0,x1⟩:=CA.o _ hb1;have R1:=zaa hr1;clear hr1 hb1;go_wp2_with fail;refine(LW.o _ _ (HR.o.below B1.o) R1.o).mono ?_;rintro e w2 ⟨rfl,hb2⟩;have B2:=zaa (zab B1.o hb2 B1.o.size);clear hb2 x0 x1;go_wp2;go_ret2;exact⟨rfl,B2.o⟩
def OutI(W w:World)(b0:Nat)(v:Value)(ss:List ByteArray):Prop:=(v=.slice (some ⟨b0,0,none⟩) 0 0/\ss=[]/\zB W w)\/(SnI W w v ss/\0<ss.length)
theorem OutI.b{W w:World}{b0:Nat}{v:Value}{ss:List ByteArray}(h:OutI W w b0 v ss):zB W w:=by
 rcases h with ⟨_,_,h⟩ | ⟨h,_⟩
 ·exact h
 ·exact h.b
theorem OutI.below{W w w':World}{b0:Nat}{v:Value}{ss:List ByteArray}(h:OutI W w b0 v ss)(hb:zB w w'):OutI W w' b0 v ss:=by
 rcases h with ⟨e,f,h⟩ | ⟨h,q⟩
 ·exact .inl ⟨e,f,zab h hb h.size⟩
 ·exact .inr ⟨h.below hb,q⟩
theorem OutI.form{W w:World}{b0:Nat}{v:Value}{ss:List ByteArray}(h:OutI W w b0 v ss):∃ b c,v=.slice (some ⟨b,0,none⟩) ss.length c:=by
 rcases h with ⟨e,f,_⟩ | ⟨h,q⟩
 ·subst f;exact⟨b0,0,e⟩
 ·obtain⟨b,c,e,_⟩:=h.form (h.some_ q);exact⟨b,c,e⟩
theorem yakx{w:World}{base base':Nat}{e:TypeId}{size:Nat}{v:Value}{n:Nat}{xs:List Value}(h:w.ownsRow base e size v n xs)(hb:base'<=base):w.ownsRow base' e size v n xs:=by
 obtain⟨hl,h | ⟨g,cap,cur,h1,h2,h3⟩⟩:=h
 ·exact⟨hl,.inl h⟩
 ·exact⟨hl,.inr ⟨g,cap,cur,h1,Nat.le_trans hb h2,h3⟩⟩
theorem zpd{W w:World}{b0:Nat}{v u:Value}{ss l:List ByteArray}(ty:TypeId)(ho:OutI W w b0 v ss)(hr:RdT w u l)(hq:0<ss.length\/0<l.length)(h63:ss.length+l.length<=1099511627776) :
  ∃ v' w',(Builtin.append_ #[28,28] ty #[v,u]).run Tryz.prog w=.ok v' w'/\OutI W w' b0 v' (ss++l):=by
 have hm:(1099511627776:Nat)<=maxLen:=by simp[maxLen]
 ·rcases ho with ⟨rfl,rfl,hb⟩ | ⟨h,q0⟩
  ·have q:0<l.length:=by simpa using hq
   obtain⟨ao,cap,rfl,_,hc⟩:=hr.shape;obtain⟨b,o,rfl,_,hcell⟩:=hc (by omega);obtain⟨i,hi,hz,hs,hby⟩:=info_parts zdu
   obtain⟨v',w',hrun,h2,h3⟩:=run_append_arg_grows (P:=Tryz.prog) w 28 ty 9 i (.string ⟨#[]⟩) 1 16 Tryz.underlying28 hi hz hs hby rfl (by decide) ⟨b0,0,none⟩ 0 0 [] rfl (fun j u hj=>by simp at hj) ⟨b,o,none⟩ l.length cap (zcs l) (by simp[zcs]) (fun j u hj=>by
    have hj':j<l.length:=by
     have:=(List.getElem?_eq_some_iff.1 hj).1;simpa[zcs]using this
    rw[Addr.add_lit,hcell j hj']
    simpa[zcs,List.getElem?_map,List.getElem?_eq_getElem hj']using hj) (by omega) (by omega) (by omega)
   refine⟨v',w',hrun,.inr ⟨⟨?_,?_⟩,by simpa using q⟩⟩
   ·have:=yakx h2 hb.size;simpa using this
   ·exact hb.grown h3 hb.size (fun q hq=>by cases hq)
  ·obtain⟨v',w',hrun,h2,h3⟩:=zji (P:=Tryz.prog) w W.heap.size 28 ty 9 (.string ⟨#[]⟩) 1 16 Tryz.underlying28 zdu rfl (by decide) v ss.length (zcs ss) h.l u l.length (zcs l) hr (zbb _) (by omega) (by omega) h.z;exact⟨v',w',hrun,.inr ⟨h.grow l rfl h2 h3,by rw[List.length_append];omega⟩⟩
theorem zfr {W w:World} {b0:Nat} {v u:Value} {ss l:List ByteArray} {ops:Array Oper} {rest:List Oper} {o:Oper} {a:Act} {Q:Exit->Act->World->Prop} (hgd:o.guard=none) (s x:Operand)
  (hop:o.op=.call { callee:=.builtin .append,args:=#[s,x],argTypes:=#[28,28] }) (hs:a.eval s=v) (ho:OutI W w b0 v ss) (hx:a.eval x=u) (hr:RdT w u l) (hq:0<ss.length\/0<l.length) (h63:ss.length+l.length<=1099511627776)
  (h:∀ v' w',OutI W w' b0 v' (ss++l)->wpList Tryz.prog ops Q rest (a.put o.dst v') w'):wpList Tryz.prog ops Q (o::rest) a w:=by
 refine wpList_plain hgd fun K hK=>?_
 obtain⟨v',w',hrun,h2⟩:=zpd o.type ho hr hq h63;unfold Oper.wp execOp;simp only[hop,resolve,invoke,builtin,Sem.run_bind,Sem.run_pure,Result.andThen_ok,List.map_toArray,List.map_cons,List.map_nil,hs,hx,hrun];exact hK _ _ (h v' w' h2)
def freeD:Den:=⟨0,⟨#[]⟩,-1⟩
def fiI(ws:List Ino):Int:=zbu (fun i=>decide (1<=i)&&zag ws (i:Int) == 0) ws.length
def feI(ps:List Den):Int:=zbu (fun i=>decide (zap ps i<0)) ps.length
def zeo(ws:List Ino)(z:Int):Int:=(ws.getD z.toNat ⟨0,0,0,0,0,0,0,0,0,0,0⟩).links
theorem zjf{ws:List Ino}{i:Nat}(h:i<ws.length):zeo ws (i:Int)=ws[i].links:=by
 unfold zeo;rw[Int.toNat_natCast,List.getD_eq_getElem?_getD,List.getElem?_eq_getElem h];rfl
def mkU(i k:Int)(kind:Int)(d:Int)(nm:ByteArray):List Se:=[⟨48+12*i,kind⟩,⟨48+12*i+2,1⟩]++enL k ⟨d,nm,i⟩
def mkN(ws:List Ino)(ps:List Den)(kind d:Int)(nm:ByteArray):List Se×Int:=if 0<=zjr ps d nm then([],8)else if fiI ws<0 then([],7)else if feI ps<0 then([],7) else(mkU (fiI ws) (feI ps) kind d nm,0)
def mkI(ws:List Ino)(ps:List Den)(s:ByteArray)(kind:Int):List Se×Int:=if (paI ws ps s).2.2=0 then mkN ws ps kind (paI ws ps s).1 (paI ws ps s).2.1 else([],(paI ws ps s).2.2)
def rmU(k i l:Int):List Se:=enL k freeD++(if 1<l then[⟨48+12*i+2,l-1⟩]else wrL i zhe 8)
def rmC(ws:List Ino)(ps:List Den)(k:Nat):List Se×Int:=if zag ws (zap ps k)=2/\¬ zaw ps (zap ps k)=[] then([],11) else(rmU (k:Int) (zap ps k) (zeo ws (zap ps k)),0)
def rmN(ws:List Ino)(ps:List Den)(d:Int)(nm:ByteArray):List Se×Int:=match zbj ps d nm with | none=>([],5) | some k=>rmC ws ps k
def rmI(ws:List Ino)(ps:List Den)(s:ByteArray):List Se×Int:=if (paI ws ps s).2.2=0 then rmN ws ps (paI ws ps s).1 (paI ws ps s).2.1 else([],(paI ws ps s).2.2)
def lnN(ws:List Ino)(ps:List Den)(i d:Int)(nm:ByteArray):List Se×Int:=if 0<=zjr ps d nm then([],8)else if feI ps<0 then([],7) else(enL (feI ps) ⟨d,nm,i⟩++[⟨48+12*i+2,zeo ws i+1⟩],0)
def lnP(ws:List Ino)(ps:List Den)(t:ByteArray)(i:Int):List Se×Int:=if (paI ws ps t).2.2=0 then lnN ws ps i (paI ws ps t).1 (paI ws ps t).2.1 else([],(paI ws ps t).2.2)
def lnI(ws:List Ino)(ps:List Den)(s t:ByteArray):List Se×Int:=if (lkI ws ps s).2=0 then(if zag ws (lkI ws ps s).1=2 then([],9)else lnP ws ps t (lkI ws ps s).1) else([],(lkI ws ps s).2)
def rnN(ws:List Ino)(ps:List Den)(k:Nat)(d:Int)(nm:ByteArray):List Se×Int:=if 0<=zjr ps d nm then([],8)else if zag ws (zap ps k)=2/\zgr ps 17 d (zap ps k)=true then([],13) else(enL (k:Int) ⟨d,nm,zap ps k⟩,0)
def rnP(ws:List Ino)(ps:List Den)(t:ByteArray)(k:Nat):List Se×Int:=if (paI ws ps t).2.2=0 then rnN ws ps k (paI ws ps t).1 (paI ws ps t).2.1 else([],(paI ws ps t).2.2)
def rnE(ws:List Ino)(ps:List Den)(t:ByteArray)(d:Int)(nm:ByteArray):List Se×Int:=match zbj ps d nm with | none=>([],5) | some k=>rnP ws ps t k
def rnI(ws:List Ino)(ps:List Den)(s t:ByteArray):List Se×Int:=if (paI ws ps s).2.2=0 then rnE ws ps t (paI ws ps s).1 (paI ws ps s).2.1 else([],(paI ws ps s).2.2)
theorem yalx{s x:ByteArray}(hm:x∈spL s):nmB x=true:=by
 unfold spL at hm
 split at hm
 ·cases hm
 ·split at hm
  ·rename_i h;unfold spN at h;simp only[Bool.and_eq_true,List.all_eq_true]at h;exact h.2.2 x hm
  ·cases hm
theorem zjp{ws:List Ino}{ps:List Den}{s:ByteArray}(h:zbo ws ps=true)(c:(paI ws ps s).2.2=0):(0<=(paI ws ps s).1/\(paI ws ps s).1<=15)/\zag ws (paI ws ps s).1=2/\nmB (paI ws ps s).2.1=true:=by
 unfold paI at c ⊢
 by_cases q:spB s=true
 ·rw[if_pos q]at c ⊢
  by_cases e:spL s=[]
  ·unfold paL at c;rw[if_pos e]at c
   cases c
  ·obtain⟨xs,x,hx⟩:=zxj e;have hn:nmB x=true:=yalx (s:=s) (by rw[hx];simp);rw[hx,zly]at c ⊢;unfold paN at c ⊢
   by_cases q1:(wk ws ps 0 xs).2=0
   ·rw[if_pos q1]at c ⊢
    by_cases q2:zag ws (wk ws ps 0 xs).1=2
    ·rw[if_pos q2]at c ⊢;exact⟨zjm h xs 0 (by omega),q2,hn⟩
    ·rw[if_neg q2]at c;cases c
   ·rw[if_neg q1]at c;exact absurd c q1
 ·rw[if_neg q]at c;cases c
theorem yaab{ws:List Ino}{ps:List Den}{s:ByteArray}(h:zbo ws ps=true):0<=(lkI ws ps s).1/\(lkI ws ps s).1<=15:=by
 unfold lkI
 split
 ·exact zjm h _ 0 (by omega)
 ·exact⟨by decide,by decide⟩
theorem zmj{ps:List Den}{d:Int}{nm:ByteArray}:zbj ps d nm=none↔¬ 0<=zjr ps d nm:=by
 unfold zjr
 cases zbj ps d nm with
 | none=>simp
 | some k=>simp
theorem zti{ps:List Den}{d:Int}{nm:ByteArray}{k:Nat}(h:zbj ps d nm=some k):zjr ps d nm=(k:Int):=by
 unfold zjr;rw[h]
theorem zpx{ws:List Ino}{ps:List Den}(h:zbo ws ps=true){i:Int}(h0:0<=i/\i<=15):0<=zeo ws i/\zeo ws i<=24:=by
 obtain⟨hl,_,_,ho,_⟩:=zao h
 obtain⟨n,rfl⟩:∃ n:Nat,i=(n:Int):=⟨i.toNat,by omega⟩
 have hn:n<ws.length:=by omega
 rw[zjf hn];have:=(of_decide_eq_true ho:∀ k (h:k<ws.length),zdp ws[k]=true) n hn;unfold zdp at this;simp only[Bool.and_eq_true,decide_eq_true_eq]at this;exact this.2.2.1
theorem yamy{ws:List Ino}{ps:List Den}(h:zbo ws ps=true):fiI ws<16:=by
 have:=(zds (fun i=>decide (1<=i)&&zag ws (i:Int) == 0) ws.length).2;have e:=(zao h).1;unfold fiI;omega
theorem zzx{ws:List Ino}{ps:List Den}(h:zbo ws ps=true):feI ps<24:=by
 have:=(zds (fun i=>decide (zap ps i<0)) ps.length).2;have e:=(zao h).2.1;unfold feI;omega
theorem znp{p:Nat->Bool}{n:Nat}(h:¬ zbu p n<0):p (zbu p n).toNat=true:=by
 unfold zbu at h ⊢
 split
 ·rename_i i e;simpa using List.find?_some e
 ·rename_i e;rw[e]at h;exact absurd (by decide) h
theorem yasd{ws:List Ino}(h:¬ fiI ws<0):1<=fiI ws:=by
 have:=znp h;simp only[Bool.and_eq_true,decide_eq_true_eq]at this;unfold fiI at h ⊢;omega
theorem zmk{s t:ByteArray}:(s.toList == t.toList)=true↔s=t:=by
 rw[beq_iff_eq,ByteArray.toList_eq,ByteArray.toList_eq];exact⟨zmt,fun h=>by rw[h]⟩
theorem zkf{d:Int}{nm:ByteArray}{x:Den}:zbf d nm x=true↔0<=x.child/\x.dir=d/\x.name=nm:=by
 unfold zbf;rw[Bool.and_eq_true,Bool.and_eq_true,decide_eq_true_eq,beq_iff_eq,zmk]
theorem yalq{ws:List Ino}{ps:List Den}(h:zbo ws ps=true){d:Int}{nm:ByteArray}{i j:Nat}(hi:i<ps.length)(hj:j<ps.length)(ei:zbf d nm ps[i]=true)(ej:zbf d nm ps[j]=true):i=j:=by
 obtain⟨_,_,_,_,he,_,_⟩:=zao h
 have he:=(of_decide_eq_true he:∀ i (h:i<ps.length),zcj ws ps i ps[i]=true)
 have one:∀ {i j:Nat} (hi:i<ps.length) (hj:j<ps.length),zbf d nm ps[i]=true->zbf d nm ps[j]=true->¬ i<j:=by
  intro i j hi hj ei ej lt;obtain⟨a1,a2,a3⟩:=zkf.1 ei;obtain⟨b1,b2,b3⟩:=zkf.1 ej;have e:=he j hj;unfold zcj at e;rw[if_neg (by omega)]at e;simp only[Bool.and_eq_true,List.all_eq_true]at e
  have q:=e.2.2.2.2.2 ps[i] (by
   rw[List.mem_take_iff_getElem]
   exact⟨i,by omega,rfl⟩)
  unfold zde at q;rw[a2,a3,b2,b3,decide_eq_true a1]at q;simp at q
 have q1:=one hi hj ei ej;have q2:=one hj hi ej ei;omega
theorem yabg{ws:List Ino}{ps:List Den}(h:zbo ws ps=true){d:Int}(k:¬ zag ws d=2):zaw ps d=[]:=by
 unfold zaw;rw[List.map_eq_nil_iff,List.filter_eq_nil_iff];intro x hx;obtain⟨j,hj,rfl⟩:=List.getElem_of_mem hx;rw[decide_eq_true_eq];rintro⟨a,b⟩
 rcases zdg h j hj with q | q
 ·omega
 ·exact k (by rw[<- b];exact q.2.2.2.2)
def zal(ws:List Ino)(i:Nat):Ino:=ws.getD i zhe
def zav(ps:List Den)(k:Nat):Den:=ps.getD k freeD
theorem zcc{ws:List Ino}{i:Nat}(h:i<ws.length):zal ws i=ws[i]:=by
 unfold zal;rw[List.getD_eq_getElem?_getD,List.getElem?_eq_getElem h];rfl
theorem zcd{ps:List Den}{i:Nat}(h:i<ps.length):zav ps i=ps[i]:=by
 unfold zav;rw[List.getD_eq_getElem?_getD,List.getElem?_eq_getElem h];rfl
theorem zbd(ws:List Ino)(i:Nat):zag ws (i:Int)=(zal ws i).kind:=by unfold zag zal;rfl
theorem zpu(ws:List Ino)(i:Nat):zeo ws (i:Int)=(zal ws i).links:=by unfold zeo zal;rfl
theorem zxw{ps:List Den}{k:Nat}(h:k<ps.length):zap ps k=(zav ps k).child:=by rw[zch h,zcd h]
theorem zci{ws:List Ino}{i:Nat}(h:i<ws.length)(x:Ino)(j:Nat):zal (ws.set i x) j=if j=i then x else zal ws j:=by
 unfold zal;rw[List.getD_eq_getElem?_getD,List.getD_eq_getElem?_getD,List.getElem?_set]
 by_cases e:i=j
 ·subst e;simp[h]
 ·have:¬ j=i:=fun q=>e q.symm
  simp[e,this]
theorem zax{ps:List Den}{i:Nat}(h:i<ps.length)(x:Den)(j:Nat):zav (ps.set i x) j=if j=i then x else zav ps j:=by
 unfold zav;rw[List.getD_eq_getElem?_getD,List.getD_eq_getElem?_getD,List.getElem?_set]
 by_cases e:i=j
 ·subst e;simp[h]
 ·have:¬ j=i:=fun q=>e q.symm
  simp[e,this]
theorem yaeb{x:Den}:x.freeB=true↔x=freeD:=by
 unfold Den.freeB freeD;simp only[Bool.and_eq_true,beq_iff_eq];constructor
 ·rintro⟨h1,h2,h3⟩;obtain⟨d,n,c⟩:=x;simp only at h1 h2 h3;subst h1 h3
  have:n=⟨#[]⟩:=by
   apply zmt
   have:n.data.toList.length=0:=by simpa using h2
   rw[List.eq_nil_of_length_eq_zero this]
  rw[this]
 ·intro h;rw[h];exact⟨rfl,rfl,rfl⟩
def zhd(ws:List Ino)(x:Den):Prop:=(1<=x.child/\x.child<=15)/\(0<=x.dir/\x.dir<=15)/\nmB x.name=true/\¬ zag ws x.child=0/\zag ws x.dir=2
def zim(ps:List Den)(c:Int):Nat:=(ps.filter fun x=>x.child == c).length
structure Img(ws:List Ino)(ps:List Den):Prop where
 l16:ws.length=16
 l24:ps.length=24
 root:zag ws 0=2
 ok:∀ i,i<16->zdp (zal ws i)=true
 ent:∀ k,k<24->zav ps k=freeD\/zhd ws (zav ps k)
 once:∀ j k,j<24->k<24->0<=(zav ps j).child->0<=(zav ps k).child->(zav ps j).dir=(zav ps k).dir->(zav ps j).name=(zav ps k).name->j=k
 links:∀ i:Nat,i<16->(if i=0 then 1 else 0)+(zim ps (i:Int):Int)=(zal ws i).links
 hang:∀ i:Nat,i<16->(zal ws i).kind=2->zcg ps 16 (i:Int)=true
 sing:(zaq ws).Pairwise fun x y=>x≠y
theorem zpt{ws:List Ino}(l16:ws.length=16)(ok:∀ i,i<16->zdp (zal ws i)=true):∀ e∈zaq ws,0<=e/\(e%4=1\/e%4=2):=by
 apply zny;intro i hi;have:=ok i (by omega);rw[zcc hi]at this;exact(zfk this).1
theorem zbv{ws:List Ino}{ps:List Den}:zbo ws ps=true↔Img ws ps:=by
 constructor
 ·intro h;obtain⟨l1,l2,r,o,e,l,s⟩:=zao h
  have o':=(of_decide_eq_true o:∀ k (h:k<ws.length),zdp ws[k]=true)
  have e':=(of_decide_eq_true e:∀ i (h:i<ps.length),zcj ws ps i ps[i]=true)
  have l':=(of_decide_eq_true l:∀ i (h:i<ws.length),zfn ps i ws[i]=true)
  have ok:∀ i,i<16->zdp (zal ws i)=true:=fun i hi=>by rw[zcc (by omega)];exact o' i (by omega)
  refine⟨l1,l2,r,ok,?_,?_,?_,?_,?_⟩
  ·intro k hk;rw[zcd (by omega)];have q:=e' k (by omega);unfold zcj at q
   split at q
   ·exact .inl (yaeb.1 q)
   ·right
    rcases zdg h k (by omega)with a | a
    ·rename_i c;exact absurd a.1 c
    ·exact a
  ·intro j k hj hk cj ck hd hn;refine yalq h (d:=(zav ps j).dir) (nm:=(zav ps j).name) (i:=j) (j:=k) (by omega) (by omega) ?_ ?_
   ·rw[zcd (by omega)]at cj ⊢;exact zkf.2 ⟨cj,rfl,rfl⟩
   ·rw[zcd (i:=k) (by omega)]at ck hd hn;exact zkf.2 ⟨ck,hd.symm,hn.symm⟩
  ·intro i hi;have q:=l' i (by omega);unfold zfn zif at q;simp only[Bool.and_eq_true,decide_eq_true_eq]at q;rw[zcc (by omega),<- q.1,List.take_length];rfl
  ·intro i hi hk;rw[zcc (by omega)]at hk;have q:=l' i (by omega);unfold zfn at q;simp only[Bool.and_eq_true,Bool.or_eq_true,decide_eq_true_eq]at q
   rcases q.2 with q | q
   ·exact absurd hk q
   ·exact q
  ·unfold zig at s;rw[znf (fun e he=>(zpt l1 ok e he).2),zfx]at s;exact s
 ·rintro⟨l1,l2,r,o,e,c,l,g,s⟩;unfold zbo
  have hs:zig ws=true:=by
   unfold zig;rw[znf (fun e he=>(zpt l1 o e he).2),zfx];exact s
  have ho:zty ws=true:=decide_eq_true fun k hk=>by rw[<- zcc hk];exact o k (by omega)
  have hl:zfz ws ps=true:=decide_eq_true fun i hi=>by
   unfold zfn zif;rw[List.take_length,<- zcc hi];simp only[Bool.and_eq_true,Bool.or_eq_true,decide_eq_true_eq];refine⟨l i (by omega),?_⟩
   by_cases q:(zal ws i).kind=2
   ·exact .inr (g i (by omega) q)
   ·exact .inl q
  have he:zhn ws ps=true:=decide_eq_true fun i hi=>by
   unfold zcj;rw[<- zcd hi]
   rcases e i (by omega)with q | q
   ·rw[q];rfl
   ·obtain⟨q1,q2,q3,q4,q5⟩:=q;rw[if_neg (by omega),decide_eq_true q1,decide_eq_true q2,q3,q5];simp only[Bool.true_and,Bool.and_eq_true,Bool.not_eq_true',beq_eq_false_iff_ne,List.all_eq_true];refine⟨q4,by decide,?_⟩;intro y hy;obtain⟨j,hj,rfl⟩:=List.mem_take_iff_getElem.1 hy;have hj:=Nat.lt_min.1 hj
    have hc:zde ps[j] (zav ps i)=false:=by
     rw[Bool.eq_false_iff];intro hc;unfold zde at hc;rw[Bool.and_eq_true,Bool.and_eq_true,decide_eq_true_eq,beq_iff_eq,zmk]at hc;rw[<- zcd hj.2]at hc;have:=c j i (by omega) (by omega) hc.1 (by omega) hc.2.1 hc.2.2;omega
    rw[hc]
  rw[decide_eq_true l1,decide_eq_true l2,r,ho,he,hl,hs];rfl
theorem zgi:∀ (ps:List Den) (k:Nat) (x:Den) (c:Int),k<ps.length->zim (ps.set k x) c+(if (zav ps k).child=c then 1 else 0)=zim ps c+(if x.child=c then 1 else 0)
 | [],k,x,c,h=>absurd h (by simp)
 | y::ps,0,x,c,h=>by
  unfold zim zav;simp only[List.set_cons_zero,List.getD_cons_zero]
  by_cases a:y.child=c<;>by_cases b:x.child=c<;>simp[a,b]
 | y::ps,k+1,x,c,h=>by
  have ih:=zgi ps k x c (by simpa using h);unfold zim zav at *;simp only[List.set_cons_succ,List.getD_cons_succ]
  by_cases a:y.child=c
  ·simp only[List.filter_cons,a,beq_self_eq_true,if_true,List.length_cons];omega
  ·simp only[List.filter_cons,show(y.child == c)=false by rw[beq_eq_false_iff_ne];exact a,Bool.false_eq_true,if_false];exact ih
theorem zll{ps:List Den}{c:Int}(h:zim ps c=0):∀ k,k<ps.length->¬ (zav ps k).child=c:=by
 intro k hk e;unfold zim at h;have:=List.filter_eq_nil_iff.1 (List.eq_nil_of_length_eq_zero h) ps[k] (List.getElem_mem hk);rw[zcd hk]at e;simp[e]at this
theorem yalr{ps:List Den}{c:Int}(h:∀ k,k<ps.length->¬ (zav ps k).child=c):zim ps c=0:=by
 unfold zim;rw[List.length_eq_zero_iff,List.filter_eq_nil_iff];intro x hx;obtain⟨k,hk,rfl⟩:=List.getElem_of_mem hx;have:=h k hk;rw[zcd hk]at this;simpa using this
theorem yaox{ps:List Den}{c:Int}(h:zim ps c=1){j k:Nat}(hj:j<ps.length)(hk:k<ps.length)(ej:(zav ps j).child=c)(ek:(zav ps k).child=c):j=k:=by
 apply Classical.byContradiction;intro ne
 by_cases hc:c=-1
 ·subst hc;have a:=zgi ps k ⟨0,⟨#[]⟩,-2⟩ (-1) hk;rw[if_pos ek,if_neg (by decide),h]at a
  have z:zim (ps.set k ⟨0,⟨#[]⟩,-2⟩) (-1)=0:=by omega
  refine zll z j (by simpa using hj) ?_;rw[zax hk,if_neg ne];exact ej
 ·have a:=zgi ps k freeD c hk;rw[if_pos ek,if_neg (fun q=>hc (by rw[<- q];rfl)),h]at a
  have z:zim (ps.set k freeD) c=0:=by omega
  refine zll z j (by simpa using hj) ?_;rw[zax hk,if_neg ne];exact ej
theorem yafo{ps:List Den}{c:Int}{k:Nat}(hk:k<ps.length)(e:(zav ps k).child=c)(h:∀ j,j<ps.length->(zav ps j).child=c->j=k):upD ps c=(zav ps k).dir:=by
 rw[zcd hk]at e ⊢;exact zqp hk (fun j hj lt q=>by have:=h j hj (by rw[zcd hj];exact q);omega) e
theorem zqx{ps qs:List Den}{c:Int}(hl:ps.length=qs.length)(h:∀ k,k<ps.length->(zav ps k=zav qs k\/(¬ (zav ps k).child=c/\¬ (zav qs k).child=c))):upD ps c=upD qs c:=by
 unfold upD
 congr 2
 induction ps generalizing qs with
 | nil =>
  cases qs with
  | nil=>rfl
  | cons=>simp at hl
 | cons x ps ih =>
  cases qs with
  | nil=>simp at hl
  | cons y qs =>
   have h0:=h 0 (by simp)
   have ih':=ih (qs:=qs) (by simpa using hl) (fun k hk=>by
    have:=h (k+1) (by simpa using hk)
    simpa[zav]using this)
   simp only[zav,List.getD_cons_zero]at h0
   rcases h0 with e | ⟨a,b⟩
   ·subst e;simp only[List.find?_cons];rw[ih']
   ·rw[List.find?_cons_of_neg (by simpa using a),List.find?_cons_of_neg (by simpa using b)];exact ih'
theorem zjs(v:Value)(ws:List Ino)(ps:List Den)(d:Int)(w:World)(h:RdIm w v ws ps)(hw:ws.length<=1048576)(hp:ps.length<=1048576)(hT:TS w)(hE:ED w)(hF:FD w)(hr:∀ k (h:k<ws.length),ws[k].R)(hs:∀ k (h:k<ps.length),ps[k].name.size<=maxLen) :
  zC 12 #[v,.I d] w fun e w'=>∃ v',e=.returned (.tuple #[v',.I (eoC ws ps d)])/\Row w' 9 1 w.heap.size w'.heap.size v' (eoL ws ps d).length (zcs (eoL ws ps d))/\zB w w':=by
 have LI:=zaa (fun w1 (hb:zB w w1)=>zdo v ws ps w1 (h.below hb) hw hp (hT.below hb) (hE.below hb) (hF.below hb) hr hs);have FD_:=zaa hF;obtain⟨vW,vP,rfl,h1,h2⟩:=h;have RP:=zaa h2;obtain⟨aW,cW,rfl,_,hcW⟩:=h1.shape;have HW:=zaa hcW;obtain⟨aP,cP,rfl,_,_⟩:=h2.shape;have LM:=zaa (fun w1 (hb:zB w w1) (hl:ps.length<=4096)=>zem (.slice aP ps.length cP) ps w1 (Rd.below RP.o hb) hl (FD_.o.below hb));clear h1 h2 hr hs hT hE hF hcW
 have CA:Hid (∀ w',Below (w.alloc (.cells #[.slice aW ws.length cW,.slice aP ps.length cP] 26)).heap.size (w.alloc (.cells #[.slice aW ws.length cW,.slice aP ps.length cP] 26)) w'->w'.cell? ⟨w.heap.size,0,none⟩=some (.slice aW ws.length cW)/\w'.cell? ⟨w.heap.size,1,none⟩=some (.slice aP ps.length cP)):=fun w' hb=>by
  have:w'.heap[w.heap.size]?=some (.cells #[.slice aW ws.length cW,.slice aP ps.length cP] 26 (0,0)):=(hb.block _ (by simp)).trans (zai rfl);exact⟨(zad this).1,(zad this).2.1⟩
 have BW:Hid (zB w (w.alloc (.cells #[.slice aW ws.length cW,.slice aP ps.length cP] 26))):=zR.alloc zL _;obtain⟨x0,x1⟩:=CA.o _ zR
 cases c1:zbo ws ps with
 | false =>
  rw[c1]at LI
  have E1:eoC ws ps d=1:=by unfold eoC;rw[c1];rfl
  rw[show eoL ws ps d=[] by unfold eoL;rw[E1];rfl,E1];clear c1 E1;go_enter Tryz.func12,Tryz.ntmps12;go_wp2_with fail;refine(LI.o _ BW.o).mono ?_;rintro e w1 ⟨rfl,hb1⟩;have B1:=zaa (zab BW.o hb1 BW.o.size);clear hb1 x0 x1;go_wp2;go_ret2;exact⟨_,rfl,Row.nil _ _ _ _ _,B1.o⟩
 | true =>
 rw[c1]at LI
 by_cases c2:0<=d/\d<=15
 case neg =>
  have E1:eoC ws ps d=4:=by unfold eoC;rw[if_pos c1,if_neg c2]
  rw[show eoL ws ps d=[] by unfold eoL;rw[E1];rfl,E1]
  have C2:Hid (¬ (0<=d/\d<16)):=fun h=>c2 (by omega)
  clear c1 c2 E1;go_enter Tryz.func12,Tryz.ntmps12;go_wp2_with fail;refine(LI.o _ BW.o).mono ?_;rintro e w1 ⟨rfl,hb1⟩;have B1:=zaa (zab BW.o hb1 BW.o.size);clear hb1 x0 x1;go_wp2_with fail;refine(zdy _ _ _ C2.o).mono ?_;rintro e w2 ⟨rfl,hw2⟩;subst w2;go_wp2;go_ret2;exact⟨_,rfl,Row.nil _ _ _ _ _,B1.o⟩
 obtain⟨dn,hdn⟩:∃ n:Nat,d=(n:Int):=⟨d.toNat,by omega⟩
 have L24:=zaa (show ps.length<=4096 by have:=(zmp c1).2.1;omega)
 have d1:dn<ws.length:=by have:=(zmp c1).1;omega
 obtain⟨bW,oW,rfl,hblW,hcellW⟩:=HW.o (by omega)
 have HK:Hid (∀ w',zB w w'->w'.cell? ⟨bW,oW+dn*11,none⟩=some (.I (zag ws d))):=fun w' hb=>by
  rw[hdn,zbc d1];exact(hb.cell (p:=⟨bW,oW+dn*11,none⟩) hblW).trans (hcellW dn d1).1
 clear hcellW HW
 have C2:Hid (0<=d/\d<16):=by unfold Hid;omega
 have d2:(0:Int)<=(dn:Int):=by omega
 have d3:(dn:Int)<(ws.length:Int):=by omega
 have ENC:Hid (eoC ws ps d=if zag ws d=2 then 0 else 10):=by unfold Hid eoC;rw[if_pos c1,if_pos c2]
 have ENL:Hid (eoC ws ps d=0->eoL ws ps d=zbk (zqt (zan ps) d)):=fun h=>by unfold eoL;rw[if_pos h,zpn (zzf c1)]
 have ENN:Hid (eoC ws ps d=10->eoL ws ps d=[]):=fun h=>by unfold eoL;rw[h];rfl
 have tl:(zan ps).length<=24:=by have:=zoc ps;have:=(zmp c1).2.1;omega
 generalize eoC ws ps d=EC at *;generalize eoL ws ps d=EL at *;generalize zag ws d=kd at *;clear c1 c2;subst hdn
 by_cases c3:kd=2
 case neg =>
  have e1:EC=10:=by rw[ENC.o,if_neg c3]
  rw[ENN.o e1,e1]
  have q:(kd != 2)=true:=by rw[bne_iff_ne];exact c3
  clear c3 e1 ENC ENL ENN;go_enter Tryz.func12,Tryz.ntmps12;go_wp2_with fail;refine(LI.o _ BW.o).mono ?_;rintro e w1 ⟨rfl,hb1⟩;have B1:=zaa (zab BW.o hb1 BW.o.size);clear x0 x1;obtain⟨x0,x1⟩:=CA.o _ hb1;clear hb1;have k1:=HK.o w1 B1.o;go_wp2_with fail;refine(zba _ _ _ C2.o).mono ?_;rintro e w2 ⟨rfl,hw2⟩;subst w2;go_wp2;go_ret2;exact⟨_,rfl,Row.nil _ _ _ _ _,B1.o⟩
 have e1:EC=0:=by rw[ENC.o,if_pos c3]
 rw[ENL.o e1,e1]
 have q:(kd != 2)=false:=by rw[c3];rfl
 clear c3 e1 ENC ENL ENN;generalize zan ps=ts at *;go_enter Tryz.func12,Tryz.ntmps12;go_wp2_with fail;refine(LI.o _ BW.o).mono ?_;rintro e w1 ⟨rfl,hb1⟩;have B1:=zaa (zab BW.o hb1 BW.o.size);clear x0 x1;obtain⟨x0,x1⟩:=CA.o _ hb1;clear hb1;have k1:=HK.o w1 B1.o;go_wp2_with fail;refine(zba _ _ _ C2.o).mono ?_;rintro e w2 ⟨rfl,hw2⟩;subst w2;go_wp2_with fail;refine(LM.o _ B1.o L24.o).mono ?_;rintro e w2 ⟨v2,rfl,hr2,hb2⟩;obtain⟨-,aM,cM,hvM,-⟩:=hr2.rd;subst hvM;have R2:Hid (RdD w2 (.slice aM ts.length cM) ts):=hr2.rd;have B2:=zaa (zab B1.o hb2 B1.o.size);have hz2:w.heap.size<=w2.heap.size:=B2.o.size;obtain⟨aZ,cZ,eZ,_,hcZ⟩:=R2.o.shape;have HZ:=zaa hcZ
 obtain⟨rfl,rfl⟩:aZ=aM/\cZ=cM:=by cases eZ;exact⟨rfl,rfl⟩
 clear eZ hcZ hr2 hb2 x0 x1 k1 LI LM HK CA;go_wp2
 go_loopw [6,8,26] (fun vL _ i wr=>∃ k:Nat,k<=ts.length/\i=.I k/\Hid (SnI w2 wr vL (zqt (ts.take k) (dn:Int)))/\w2.heap.size<=wr.heap.size) (fun _ _ i _=>ts.length-(intOf i).toNat)
 case atStart=>exact⟨0,by omega,rfl,⟨World.ownsRow_nil _ _ _ _,zR⟩,Nat.le_refl _⟩
 case round =>
  obtain⟨k,hk,rfl,I,hz⟩:=hrel
  by_cases hlt:k<ts.length
  ·obtain⟨b,o,rfl,hbl,hcell⟩:=HZ.o (by omega);obtain⟨a0,a1,a2⟩:=hcell k hlt;have f0:=(I.o.b.cell (p:=⟨b,o+k*3,none⟩) hbl).trans a0;have f1:=(I.o.b.cell (p:=⟨b,o+k*3+1,none⟩) hbl).trans a1;have f2:=(I.o.b.cell (p:=⟨b,o+k*3+2,none⟩) hbl).trans a2
   have k0:(0:Int)<=(k:Int):=by omega
   have k1:(k:Int)<(ts.length:Int):=by omega
   have US:=zaa (yagi (d:=(dn:Int)) hlt);have UL:=yaal (ts.take k) (dn:Int);rw[List.length_take]at UL;clear hcell a0 a1 a2;generalize ts[k]=x at *
   obtain⟨wx,hwx⟩:=zE (wr.alloc (.cells #[.I x.dir,.string x.name,.I x.child] 52))
   have BX:Hid (zB wr wx):=by rw[hwx];exact zR.alloc zL _
   have IX:=zaa (I.o.below BX.o);have hzx:=IX.o.z
   by_cases r:x.dir=(dn:Int)
   ·have r':(x.dir == (dn:Int))=true:=by rw[beq_iff_eq];exact r
    have JB:Hid (SnI w2 (wx.alloc (.cells #[.string x.name] 9)) u6 (zqt (ts.take k) (dn:Int))):=IX.o.below (zR.alloc zL _);have RB:=zaa (zfw wx x.name);have hzb:=JB.o.z
    have MN:Hid (zqt (ts.take (k+1)) (dn:Int)=zqt (ts.take k) (dn:Int)++[x.name]):=by unfold Hid;rw[US.o,if_pos r]
    rw[hwx]at JB RB hzb;simp only[World.size_alloc]at RB hzb;clear r I US IX BX;go_wp2_with (at_builtin;refine zaf _ rfl (.tmp 34) (.tmp 37) 28 rfl w2.heap.size 9 (.string ⟨#[]⟩) 1 16 Tryz.underlying28 zdu rfl (by decide) _ _ _ rfl JB.o.l _ 1 _ rfl RB.o (zbb _) (by simp[maxLen];omega) (by omega) JB.o.z ?_);intro vN wN hownN hgrN;have G:=zaa (JB.o.grow [x.name] rfl hownN hgrN);rw[<- MN.o]at G;have hzN:=G.o.z;clear hownN hgrN JB RB;go_wp2
    go_roundw
    case rel=>exact⟨k+1,by omega,by go_num,G,hzN⟩
    case measure=>simp[intOf];omega
   ·have r':(x.dir == (dn:Int))=false:=by rw[beq_eq_false_iff_ne];exact r
    have G:Hid (SnI w2 wx u6 (zqt (ts.take (k+1)) (dn:Int))):=by unfold Hid;rw[US.o,if_neg r];exact IX.o
    clear r I US IX BX;go_wp2;rw[<- hwx]
    go_roundw
    case rel=>exact⟨k+1,by omega,by go_num,G,hzx⟩
    case measure=>simp[intOf];omega
  ·obtain rfl:k=ts.length:=by omega
   have E:=zaa (show zqt (ts.take ts.length) (dn:Int)=zqt ts (dn:Int) by rw[List.take_length]);rw[E.o]at I;have SL:=yaal ts (dn:Int);have SRT:=zaa (yanc u6 (zqt ts (dn:Int)) w2.heap.size wr.heap.size wr (zac I.o.l) (by omega));have SLN:=zaa (zex (zqt ts (dn:Int)));go_wp2_with fail;refine SRT.o.mono ?_;rintro e w3 ⟨rfl,hr3,hg3⟩;have B3:Hid (zB w2 w3):=I.o.b.grown hg3 hz (fun q hq=>(I.o.l.lt q hq).1);have R3:=zaa (hr3.wide hz2 hg3.size);obtain⟨-,aL,cL,hvL,-⟩:=hr3.rd;subst hvL;clear hr3 hg3 I SRT;go_wp2;go_ret2;exact⟨_,rfl,by rw[SLN.o];exact R3.o,zab B2.o B3.o hz2⟩
end Go.Proofs.YtfagbapgnocjiaaGreatDoor
