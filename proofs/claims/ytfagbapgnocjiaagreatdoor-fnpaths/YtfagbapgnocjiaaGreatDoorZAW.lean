import Derived.Test.YtfagbapgnocjiaaGreatDoorZBF
set_option maxRecDepth 100000
set_option maxHeartbeats 4000000
namespace Go.Proofs.YtfagbapgnocjiaaGreatDoor
open Go.RowKit
def jnP(hd:ByteArray):List ByteArray->ByteArray
 | []=>hd
 | nm::t=>jnP (hd++⟨#[47]⟩++nm) t
structure EntP(ws:List Ino)(ps:List Den)(m:Nat)(z:Int)(x:ByteArray)(j:Nat):Prop where
 lt:j<ps.length
 at_:zbj ps z x=some j
 dir:ps[j].dir=z
 name:ps[j].name=x
 rng:1<=ps[j].child/\ps[j].child<=15
 zr:0<=z/\z<=15
 kind:zag ws z=2
 dep:dep ps m z
 mem:x∈zbk (zaw ps z)
theorem yagc{ws:List Ino}{ps:List Den}(h:zbo ws ps=true):∀ (n m:Nat) (d:Int) (hd s:ByteArray),zag ws d=2->(0<=d/\d<=15)->dep ps m d->s∈zrg ws ps n d hd ->
  ∃ (xs:List ByteArray) (x:ByteArray) (z:Int) (j:Nat),s=jnP hd (xs++[x])/\(∀ y∈xs++[x],nmB y=true)/\wk ws ps d xs=(z,0)/\EntP ws ps (m+xs.length) z x j
 | 0,_,_,_,_,_,_,_,hs=>by cases hs
 | n+1,m,d,hd,s,kd,rd,dd,hs=>by
  rw[zrg,List.mem_flatMap]at hs;obtain⟨nm,hn,hs⟩:=hs;obtain⟨j,hj,ea,ed,en,ec,r1,r2⟩:=yaam h hn
  have nb:nmB nm=true:=by
   rcases zdg h j hj with q | q
   ·omega
   ·rw[<- en];exact q.2.2.1
  rcases List.mem_cons.1 hs with rfl | hs
  ·exact⟨[],nm,d,j,rfl,fun y hy=>by simp at hy;rw[hy];exact nb,rfl,hj,ea,ed,en,⟨r1,r2⟩,rd,kd,dd,hn⟩
  ·by_cases kc:zag ws (zfm ps d nm)=2
   ·rw[if_pos kc]at hs;rw[ec]at hs kc;have dd2:dep ps (m+1) ps[j].child:=zgl h hj ⟨r1,r2⟩ kc (by rw[ed];exact dd);obtain⟨xs,x,z,i,e1,e2,e3,e4⟩:=yagc h n (m+1) _ _ s kc (by omega) dd2 hs;refine⟨nm::xs,x,z,i,e1,fun y hy=>?_,?_,?_⟩
    ·rcases List.mem_cons.1 hy with rfl | hy
     ·exact nb
     ·exact e2 y hy
    ·rw[zgc kd ea,zch hj];exact e3
    ·rw[List.length_cons,show m+(xs.length+1)=m+1+xs.length by omega];exact e4
   ·rw[if_neg kc]at hs;cases hs
theorem zzo{y:ByteArray}(h:nmB y=true):(∀ c∈y.data.toList,¬ c=47)/\0<y.size:=by
 obtain⟨h1,-,h3⟩:=of_decide_eq_true h;refine⟨fun c hc e=>?_,by omega⟩;obtain⟨j,hj,rfl⟩:=List.getElem_of_mem hc
 have hj':j<y.size:=by simpa using hj
 have q:=(h3 j hj').1
 have e2:y[j]=47:=by
  have:y[j]=y.data.toList[j]:=rfl;rw[this];exact e
 rw[e2]at q
 revert q
 decide
theorem zqs:∀ (l:List ByteArray) (hd:ByteArray),(jnP hd l).data.toList=hd.data.toList++l.flatMap (fun y=>47::y.data.toList)
 | [],hd=>by simp[jnP]
 | nm::t,hd=>by
  rw[jnP,zqs t,List.flatMap_cons,ByteArray.data_append,ByteArray.data_append];simp
theorem yann:∀ (l:List ByteArray) (cur:List UInt8),(∀ y∈l,∀ c∈y.data.toList,¬ c=47)->zhr cur (l.flatMap fun y=>47::y.data.toList)=cur::l.map fun y=>y.data.toList
 | [],_,_=>rfl
 | nm::t,cur,h=>by
  rw[List.flatMap_cons,List.cons_append,zcn,if_pos rfl,List.map_cons]
  cases t with
  | nil =>
   rw[List.flatMap_nil,List.append_nil,zmr _ _ (h nm List.mem_cons_self)];rfl
  | cons n2 t2 =>
   have ih:=yann (n2::t2) nm.data.toList (fun y hy=>h y (List.mem_cons_of_mem _ hy));rw[List.flatMap_cons,List.cons_append,zcn,if_pos rfl]at ih;rw[List.flatMap_cons,List.cons_append,zmf _ _ _ (h nm List.mem_cons_self),List.nil_append];exact congrArg (cur::·) ih
theorem yara{l:List ByteArray}(h:∀ y∈l,nmB y=true):pcs (jnP ⟨#[]⟩ l)=mkB []::l:=by
 unfold pcs;rw[zqs,show(⟨#[]⟩:ByteArray).data.toList=[]from rfl,List.nil_append,yann l [] (fun y hy=>(zzo (h y hy)).1),List.map_cons,List.map_map]
 congr 1
 conv=>rhs;rw[<- List.map_id l]
 exact List.map_congr_left fun y _=>zzb y
theorem yasr{l:List ByteArray}(h:∀ y∈l,nmB y=true)(hl:¬ l=[])(q:spB (jnP ⟨#[]⟩ l)=true):spL (jnP ⟨#[]⟩ l)=l:=by
 have hp:=yara h
 have ns:zhv (jnP ⟨#[]⟩ l)=false:=by
  cases e:zhv (jnP ⟨#[]⟩ l) with
  | false=>rfl
  | true =>
   exfalso;unfold zhv at e;rw[beq_iff_eq]at e
   cases l with
   | nil=>exact hl rfl
   | cons x t =>
    have hx:=(zzo (h x List.mem_cons_self)).2
    have hd:(jnP ⟨#[]⟩ (x::t)).data.toList=[47]:=by rw[<- Lib.toList_data];exact e
    rw[zqs,List.flatMap_cons]at hd;have:=congrArg List.length hd;have z:x.data.toList.length=x.size:=rfl;simp only[List.length_append,List.length_cons,List.length_nil,z]at this;omega
 have sn:spN (jnP ⟨#[]⟩ l)=true:=by
  unfold spB at q;rw[ns]at q;simpa using q
 rw[(yaho ns sn).2,hp];rfl
theorem yaiw{ps:List Den}(u0:upD ps 0=-1):∀ (n k:Nat) (a b:Int),dep ps k a->zgr ps n a b=true->∃ m,m<=k/\dep ps m b
 | 0,_,_,_,_,hb=>by cases hb
 | n+1,k,a,b,hd,hb=>by
  rw[zdk]at hb
  split at hb
  ·cases hb
  split at hb
  ·rename_i e;subst e;exact⟨k,Nat.le_refl _,hd⟩
  ·cases k with
   | zero =>
    have e:a=0:=hd;subst e;rw[u0,zmb _ _ _ _ (by decide)]at hb
    cases hb
   | succ k =>
    obtain⟨m,hm,q⟩:=yaiw u0 n k _ b hd.2 hb;exact⟨m,by omega,q⟩
theorem yadm{ws:List Ino}{ps:List Den}:∀ (xs:List ByteArray) (d z:Int) (x:ByteArray),wk ws ps d xs=(z,0)->wk ws ps d (xs++[x])=wk ws ps z [x]
 | [],d,z,x,h=>by rw[yans]at h;cases h;rfl
 | y::t,d,z,x,h=>by
  by_cases kd:zag ws d=2
  ·cases e:zbj ps d y with
   | none=>rw[zjz kd e]at h;cases h
   | some k =>
    rw[zgc kd e]at h;rw[List.cons_append,zgc kd e];exact yadm t _ z x h
  ·rw[zhk kd]at h;cases h
theorem yadi{ws:List Ino}{ps:List Den}(h:zbo ws ps=true){n:Nat}{s:ByteArray}(hs:s∈zrg ws ps n 0 ⟨#[]⟩)(q:spB s=true) :
  ∃ (xs:List ByteArray) (x:ByteArray) (z:Int) (j m:Nat),EntP ws ps m z x j/\spL s=xs++[x]/\lkI ws ps s=(zap ps j,0)/\paI ws ps s=(z,x,0)/\(1<=zap ps j/\zap ps j<=15) /\
   (zag ws (zap ps j)=2->zgr ps 17 (zap ps j) z=true/\zgr ps 17 z (zap ps j)=false):=by
 have k0:=(zao h).2.2.1;obtain⟨xs,x,z,j,e1,e2,e3,e⟩:=yagc h n 0 0 ⟨#[]⟩ s k0 (by omega) rfl hs
 have ne:¬ xs++[x]=[]:=by simp
 have sl:spL s=xs++[x]:=by rw[e1]at q ⊢;exact yasr e2 ne q
 have hj:=e.lt;have ca:=zch hj;have rg:=e.rng;refine⟨xs,x,z,j,_,e,sl,?_,?_,by rw[ca];exact rg,fun kc=>?_⟩
 ·unfold lkI;rw[if_pos q,sl,yadm xs 0 z x e3,zgc e.kind e.at_,yans]
 ·unfold paI;rw[if_pos q,sl,zly];unfold paN;rw[e3];simp[e.kind]
 ·rw[ca]at kc ⊢;have up:upD ps ps[j].child=z:=(yagq h e.lt rg kc).trans e.dir;have u0:=ztx h;constructor
  ·rw[zdk,if_neg (by omega)]
   split
   ·rfl
   ·have:=e.zr;rw[up,zdk,if_neg (by omega),if_pos rfl]
  ·cases b:zgr ps 17 z ps[j].child with
   | false=>rfl
   | true =>
    obtain⟨i,hi,di⟩:=yaiw u0 17 _ _ _ e.dep b;have dc:=zgl h e.lt rg kc (by rw[e.dir];exact e.dep);have:=zso _ _ _ di dc;omega
def poC(ws:List Ino)(ps:List Den):Int:=if zbo ws ps=true then 0 else 1
def poL(ws:List Ino)(ps:List Den):List ByteArray:=if zbo ws ps=true then zrg ws ps 16 0 ⟨#[]⟩ else[]
theorem zne(v:Value)(ws:List Ino)(ps:List Den)(w:World)(h:RdIm w v ws ps)(hw:ws.length<=1048576)(hp:ps.length<=1048576)(hr:∀ k (h:k<ws.length),ws[k].R)(hs:∀ k (h:k<ps.length),ps[k].name.size<=maxLen) :
  zC 6 #[v] w fun e w'=>∃ v',e=.returned (.tuple #[v',.I (poC ws ps)])/\Row w' 9 1 w.heap.size w'.heap.size v' (poL ws ps).length (zcs (poL ws ps))/\zB w w':=by
 have HRD:=zaa h;have LI:=zaa (fun w1 h=>zmd v ws ps w1 h hw hp hr hs);have LU:=zaa (fun w1 h (o:zbo ws ps=true)=>zsw o 16 0 0 ⟨#[]⟩ v w1 (by omega) rfl (by omega) (zao o).2.2.1 (by decide) h);have RE:=zaa (fun w1:World=>And.intro (zmx w1) ((Below.refl w1.heap.size w1).alloc zL (.cells #[] 9)));obtain⟨vW,vP,rfl,h1,h2⟩:=h;obtain⟨aW,cW,rfl,_,_⟩:=h1.shape;obtain⟨aP,cP,rfl,_,_⟩:=h2.shape;clear h1 h2 hr hs
 have CA:Hid (∀ w',Below (w.alloc (.cells #[.slice aW ws.length cW,.slice aP ps.length cP] 26)).heap.size (w.alloc (.cells #[.slice aW ws.length cW,.slice aP ps.length cP] 26)) w'->w'.cell? ⟨w.heap.size,0,none⟩=some (.slice aW ws.length cW)/\w'.cell? ⟨w.heap.size,1,none⟩=some (.slice aP ps.length cP)):=fun w' hb=>by
  have:w'.heap[w.heap.size]?=some (.cells #[.slice aW ws.length cW,.slice aP ps.length cP] 26 (0,0)):=(hb.block _ (by simp)).trans (zai rfl);exact⟨(zad this).1,(zad this).2.1⟩
 have BW:Hid (zB w (w.alloc (.cells #[.slice aW ws.length cW,.slice aP ps.length cP] 26))):=zR.alloc zL _;obtain⟨x0,x1⟩:=CA.o _ zR
 cases c1:zbo ws ps with
 | false =>
  rw[c1]at LI;rw[show poL ws ps=[] by unfold poL;rw[c1];rfl,show poC ws ps=1 by unfold poC;rw[c1];rfl];clear c1;go_enter Tryz.func6,Tryz.ntmps6;go_wp2_with fail;refine(LI.o _ (HRD.o.below BW.o)).mono ?_;rintro e w1 ⟨rfl,hb1⟩;have B1:=zaa (zab BW.o hb1 BW.o.size);clear hb1 x0 x1;go_wp2;go_ret2;exact⟨_,rfl,(RE.o _).1.wide B1.o.size zL,zab B1.o (RE.o _).2 B1.o.size⟩
 | true =>
  have LU2:=zaa (fun w1 h=>LU.o w1 h c1);rw[c1]at LI;rw[show poL ws ps=zrg ws ps 16 0 ⟨#[]⟩ by unfold poL;rw[c1];rfl,show poC ws ps=0 by unfold poC;rw[c1];rfl];clear c1 LU;generalize zrg ws ps 16 0 ⟨#[]⟩=L at *;go_enter Tryz.func6,Tryz.ntmps6;go_wp2_with fail;refine(LI.o _ (HRD.o.below BW.o)).mono ?_;rintro e w1 ⟨rfl,hb1⟩;have B1:=zaa (zab BW.o hb1 BW.o.size);clear x0 x1;obtain⟨x0,x1⟩:=CA.o _ hb1;clear hb1;go_wp2_with fail;refine(LU2.o _ (HRD.o.below B1.o)).mono ?_;rintro e w2 ⟨v2,rfl,hr2,hb2⟩;have B2:=zaa (zab B1.o hb2 B1.o.size);have R2:=zaa (hr2.wide (lo':=w.heap.size) (hi':=w2.heap.size) B1.o.size zL);obtain⟨_,a2,c2,rfl,_⟩:=R2.o.rd;clear hr2 hb2 x0 x1;go_wp2;go_ret2;exact⟨_,rfl,R2.o,B2.o⟩
def zce(x:Ino):Ino:=if 1<x.links then⟨x.kind,x.size,x.links-1,x.m0,x.m1,x.m2,x.m3,x.m4,x.m5,x.m6,x.m7⟩else zhe
def zgn(x:Ino):Ino:=⟨x.kind,x.size,x.links+1,x.m0,x.m1,x.m2,x.m3,x.m4,x.m5,x.m6,x.m7⟩
theorem zcf{x:Ino}(h:zdp x=true):(0<=x.kind/\x.kind<=2)/\(0<=x.size/\x.size<=8)/\(0<=x.links/\x.links<=24)/\mapB x.map x.size=true/\zek x=true:=by
 unfold zdp at h;simp only[Bool.and_eq_true,decide_eq_true_eq]at h;exact h
theorem zzm{x:Ino}(h1:0<=x.kind/\x.kind<=2)(h2:0<=x.size/\x.size<=8)(h3:0<=x.links/\x.links<=24)(h4:mapB x.map x.size=true)(h5:zek x=true):zdp x=true:=by
 unfold zdp;rw[decide_eq_true h1,decide_eq_true h2,decide_eq_true h3,h4,h5];rfl
theorem zin{x:Ino}(h:zdp x=true)(k:x.kind=2):x.links=1/\x.size=0:=by
 have:=(zcf h).2.2.2.2;unfold zek at this;rw[if_neg (by omega),if_pos k]at this;simp only[Bool.and_eq_true,beq_iff_eq]at this;exact⟨this.2,this.1⟩
theorem yaco{x:Ino}(h:zdp x=true)(k:¬ x.kind=0):0<x.links:=by
 by_cases q:x.kind=2
 ·rw[(zin h q).1];decide
 ·have:=(zcf h).2.2.2.2;unfold zek at this;rw[if_neg k,if_neg q]at this;simpa using this
theorem yaph{x:Ino}(h:zdp x=true):zdp (zce x)=true:=by
 unfold zce
 split
 ·rename_i q;obtain⟨a,b,c,d,e⟩:=zcf h
  have k2:¬ x.kind=2:=fun k=>by have:=(zin h k).1;omega
  have k0:¬ x.kind=0:=by
   intro k;unfold zek at e;rw[if_pos k]at e;have:=(of_decide_eq_true e).2.1;omega
  refine zzm a b ⟨by show 0<=x.links-1;omega,by show x.links-1<=24;omega⟩ d ?_;unfold zek;rw[if_neg k0,if_neg k2];exact decide_eq_true (show 0<x.links-1 by omega)
 ·decide
theorem yapv{x:Ino}(h:zdp x=true)(k:x.kind=1)(l:x.links<24):zdp (zgn x)=true:=by
 obtain⟨a,b,c,d,e⟩:=zcf h;refine zzm a b ⟨by show 0<=x.links+1;omega,by show x.links+1<=24;omega⟩ d ?_;unfold zek;rw[if_neg (by show ¬ x.kind=0;omega),if_neg (by show ¬ x.kind=2;omega)];exact decide_eq_true (show 0<x.links+1 by omega)
theorem yaiz{x:Ino}:(zcz (zce x).map).Sublist (zcz x.map):=by
 unfold zce
 split
 ·exact List.Sublist.refl _
 ·exact List.nil_sublist _
theorem yarn(ps:List Den)(c:Int):zim ps c<=ps.length:=List.length_filter_le _ _
theorem yams{ps:List Den}{c:Int}{k:Nat}(hk:k<ps.length)(ne:¬ (zav ps k).child=c):zim ps c<ps.length:=by
 have a:=zgi ps k ⟨0,⟨#[]⟩,c⟩ c hk;rw[if_neg ne,if_pos rfl]at a;have:=yarn (ps.set k ⟨0,⟨#[]⟩,c⟩) c;rw[List.length_set]at this;omega
theorem yacu{ws:List Ino}{ps:List Den}(h:Img ws ps){i k:Nat}(hk:k<24)(ci:(zav ps k).child=(i:Int))(em:∀ j,j<24->¬ (0<=(zav ps j).child/\(zav ps j).dir=(i:Int))) :
  Img (ws.set i (zce (zal ws i))) (ps.set k freeD):=by
 have hk':k<ps.length:=by rw[h.l24];exact hk
 have ek:zhd ws (zav ps k):=by
  rcases h.ent k hk with q | q
  ·rw[q]at ci;have:(-1:Int)=(i:Int):=ci;omega
  ·exact q
 have hi:i<16:=by have:=ek.1;omega
 have i0:¬ i=0:=by have:=ek.1;omega
 have hi':i<ws.length:=by rw[h.l16];exact hi
 have ki:¬ (zal ws i).kind=0:=by rw[<- zbd,<- ci];exact ek.2.2.2.1
 have KA:=fun c hc=>zlw hi' (zce (zal ws i)) c hc
 have noin:∀ c,0<=c->0<=upD ps c->¬ upD ps c=(i:Int):=by
  intro c hc hu e;obtain⟨j,hj,cj,dj,q⟩:=yanq h.ent' hc hu;exact em j (by rw[h.l24]at hj;exact hj) ⟨by omega,by rw[dj,e]⟩
 have ln:=h.links i hi;rw[if_neg i0]at ln
 have entn:∀ j,j<24->zav (ps.set k freeD) j=freeD\/zhd (ws.set i (zce (zal ws i))) (zav (ps.set k freeD) j):=by
  intro j hj;rw[zax hk']
  by_cases e:j=k
  ·rw[if_pos e];exact .inl rfl
  ·rw[if_neg e]
   rcases h.ent j hj with q | q
   ·exact .inl q
   ·right
    have dne:¬ (zav ps j).dir=(i:Int):=fun e=>em j hj ⟨by have:=q.1;omega,e⟩
    obtain⟨q1,q2,q3,q4,q5⟩:=q;refine⟨q1,q2,q3,?_,?_⟩
    ·rw[KA _ (by omega)]
     by_cases e2:(zav ps j).child=(i:Int)
     ·rw[if_pos e2]
      have two:1<(zal ws i).links:=by
       have a:=zgi ps k freeD (i:Int) hk';rw[if_pos ci,if_neg (show ¬ freeD.child=(i:Int) by show ¬ (-1:Int)=(i:Int);omega)]at a
       have b:¬ zim (ps.set k freeD) (i:Int)=0:=by
        intro z;refine zll z j (by rw[List.length_set,h.l24];exact hj) ?_;rw[zax hk',if_neg e];exact e2
       omega
      unfold zce;rw[if_pos two];exact ki
     ·rw[if_neg e2];exact q4
    ·rw[KA _ q2.1,if_neg dne];exact q5
 have entn':∀ j,j<(ps.set k freeD).length->zav (ps.set k freeD) j=freeD\/zhd (ws.set i (zce (zal ws i))) (zav (ps.set k freeD) j):=fun j hj=>entn j (by rw[List.length_set,h.l24]at hj;exact hj)
 have US:∀ c,0<=c->¬ c=(i:Int)->upD (ps.set k freeD) c=upD ps c:=by
  intro c hc ne;refine zqx (by simp) ?_;intro j hj;rw[zax hk']
  by_cases e:j=k
  ·rw[if_pos e];right;refine⟨?_,?_⟩
   ·intro q;have:(-1:Int)=c:=q;omega
   ·rw[e,ci];exact fun q=>ne q.symm
  ·rw[if_neg e];exact .inl rfl
 refine⟨by rw[List.length_set];exact h.l16,by rw[List.length_set];exact h.l24,?_,?_,entn,?_,?_,?_,?_⟩
 ·rw[KA 0 (by omega),if_neg (by omega)];exact h.root
 ·intro j hj;rw[zci hi']
  by_cases e:j=i
  ·rw[if_pos e];exact yaph (h.ok i hi)
  ·rw[if_neg e];exact h.ok j hj
 ·intro j l hj hl cj cl ed en;rw[zax hk']at cj ed en;rw[zax hk' _ l]at cl ed en
  have e1:¬ j=k:=by
   intro e;rw[if_pos e]at cj;exact absurd cj (by decide)
  have e2:¬ l=k:=by
   intro e;rw[if_pos e]at cl;exact absurd cl (by decide)
  rw[if_neg e1,if_neg e2]at ed en;rw[if_neg e1]at cj;rw[if_neg e2]at cl;exact h.once j l hj hl cj cl ed en
 ·intro j hj;have c:=zgi ps k freeD (j:Int) hk';rw[if_neg (show ¬ freeD.child=(j:Int) by show ¬ (-1:Int)=(j:Int);omega)]at c;rw[zci hi']
  by_cases e:j=i
  ·rw[if_pos (show(zav ps k).child=(j:Int) by rw[ci];omega)]at c;rw[if_pos e,if_neg (by omega)];have l1:=yaco (h.ok i hi) ki;rw[e]at c ⊢;unfold zce
   by_cases two:1<(zal ws i).links
   ·rw[if_pos two]
    show 0+((zim _ (i:Int):Nat):Int)=(zal ws i).links-1
    omega
   ·rw[if_neg two]
    show 0+((zim _ (i:Int):Nat):Int)=0
    omega
  ·rw[if_neg (show ¬ (zav ps k).child=(j:Int) by rw[ci];omega)]at c;rw[if_neg e,<- h.links j hj]
   have:zim (ps.set k freeD) (j:Int)=zim ps (j:Int):=by omega
   rw[this]
 ·intro j hj kj;rw[zci hi']at kj
  have e:¬ j=i:=by
   intro e;rw[if_pos e]at kj;unfold zce at kj
   split at kj
   ·rename_i two;have:=(zin (h.ok i hi) kj).1;omega
   ·exact absurd kj (by decide)
  rw[if_neg e]at kj;refine zlh ?_ ⟨by omega,by omega⟩ (yamf entn');exact zlj (G:=fun c=>0<=c) (i:=(i:Int)) (fun c hc hu=>⟨noin c hc hu,hu⟩) (fun c hc ne=>US c hc ne) (h.rch hj kj) (by omega) (by omega)
 ·exact zli hi' h.sing yaiz
theorem yamz {ws:List Ino} {ps:List Den} (h:Img ws ps) {i k:Nat} {d:Int} {nm:ByteArray} (hi:i<16) (i0:¬ i=0) (ki:(zal ws i).kind=1) (hk:k<24) (fk:zav ps k=freeD)
  (hd:0<=d/\d<=15) (dd:zag ws d=2) (hn:nmB nm=true) (new:∀ j,j<24->0<=(zav ps j).child->(zav ps j).dir=d->¬ (zav ps j).name=nm) :
  Img (ws.set i (zgn (zal ws i))) (ps.set k ⟨d,nm,(i:Int)⟩):=by
 have hi':i<ws.length:=by rw[h.l16];exact hi
 have hk':k<ps.length:=by rw[h.l24];exact hk
 have KA:∀ c,0<=c->zag (ws.set i (zgn (zal ws i))) c=zag ws c:=by
  intro c hc;rw[zlw hi' _ c hc]
  by_cases e:c=(i:Int)
  ·rw[if_pos e,e,zbd];rfl
  ·rw[if_neg e]
 have room:=yams (c:=(i:Int)) hk' (by rw[fk];show ¬ (-1:Int)=(i:Int);omega);have ln:=h.links i hi;rw[if_neg i0]at ln
 have entn:∀ j,j<24->zav (ps.set k ⟨d,nm,(i:Int)⟩) j=freeD\/zhd (ws.set i (zgn (zal ws i))) (zav (ps.set k ⟨d,nm,(i:Int)⟩) j):=by
  intro j hj;rw[zax hk']
  by_cases e:j=k
  ·rw[if_pos e];right;refine⟨⟨?_,?_⟩,hd,hn,?_,?_⟩
   ·show 1<=(i:Int);omega
   ·show(i:Int)<=15;omega
   ·show ¬ zag _ (i:Int)=0
    rw[KA _ (by omega),zbd,ki];decide
   ·show zag _ d=2
    rw[KA _ hd.1];exact dd
  ·rw[if_neg e]
   rcases h.ent j hj with q | q
   ·exact .inl q
   ·right;obtain⟨q1,q2,q3,q4,q5⟩:=q;exact⟨q1,q2,q3,by rw[KA _ (by omega)];exact q4,by rw[KA _ q2.1];exact q5⟩
 have entn':∀ j,j<(ps.set k ⟨d,nm,(i:Int)⟩).length->zav (ps.set k ⟨d,nm,(i:Int)⟩) j=freeD\/zhd (ws.set i (zgn (zal ws i))) (zav (ps.set k ⟨d,nm,(i:Int)⟩) j):=fun j hj=>entn j (by rw[List.length_set,h.l24]at hj;exact hj)
 have US:∀ c,0<=c->¬ c=(i:Int)->upD (ps.set k ⟨d,nm,(i:Int)⟩) c=upD ps c:=by
  intro c hc ne;refine zqx (by simp) ?_;intro j hj;rw[zax hk']
  by_cases e:j=k
  ·rw[if_pos e];right;refine⟨fun q=>ne q.symm,?_⟩;rw[e,fk];intro q;have:(-1:Int)=c:=q;omega
  ·rw[if_neg e];exact .inl rfl
 refine⟨by rw[List.length_set];exact h.l16,by rw[List.length_set];exact h.l24,?_,?_,entn,?_,?_,?_,?_⟩
 ·rw[KA 0 (by omega)];exact h.root
 ·intro j hj;rw[zci hi']
  by_cases e:j=i
  ·rw[if_pos e];refine yapv (h.ok i hi) ki ?_;have:=h.l24;omega
  ·rw[if_neg e];exact h.ok j hj
 ·intro j l hj hl cj cl ed en;rw[zax hk']at cj ed en;rw[zax hk' _ l]at cl ed en
  by_cases e1:j=k
  ·by_cases e2:l=k
   ·omega
   ·rw[if_pos e1,if_neg e2]at ed en;rw[if_neg e2]at cl;exact absurd en.symm (new l hl cl ed.symm)
  ·by_cases e2:l=k
   ·rw[if_neg e1,if_pos e2]at ed en;rw[if_neg e1]at cj;exact absurd en (new j hj cj ed)
   ·rw[if_neg e1,if_neg e2]at ed en;rw[if_neg e1]at cj;rw[if_neg e2]at cl;exact h.once j l hj hl cj cl ed en
 ·intro j hj;have c:=zgi ps k ⟨d,nm,(i:Int)⟩ (j:Int) hk';rw[fk,if_neg (show ¬ freeD.child=(j:Int) by show ¬ (-1:Int)=(j:Int);omega)]at c;rw[zci hi']
  by_cases e:j=i
  ·rw[if_pos (show(i:Int)=(j:Int) by omega)]at c;rw[if_pos e,if_neg (by omega)];rw[e]at c ⊢
   show 0+((zim _ (i:Int):Nat):Int)=(zal ws i).links+1
   omega
  ·rw[if_neg (show ¬ (i:Int)=(j:Int) by omega)]at c;rw[if_neg e,<- h.links j hj]
   have:zim (ps.set k ⟨d,nm,(i:Int)⟩) (j:Int)=zim ps (j:Int):=by omega
   rw[this]
 ·intro j hj kj;rw[zci hi']at kj
  have e:¬ j=i:=by
   intro e;rw[if_pos e]at kj;have:(zal ws i).kind=2:=kj;omega
  rw[if_neg e]at kj;refine zlh ?_ ⟨by omega,by omega⟩ (yamf entn');refine zlj (G:=fun c=>0<=c) (i:=(i:Int)) (fun c hc hu=>⟨?_,hu⟩) (fun c hc ne=>US c hc ne) (h.rch hj kj) (by omega) (by omega);intro e;have:=(h.dir hc hu).1;rw[e,zbd,ki]at this
  cases this
 ·refine zli hi' h.sing ?_;exact List.Sublist.refl _
theorem yacp {ws:List Ino} {ps:List Den} (h:Img ws ps) {i k:Nat} {d:Int} {nm:ByteArray} (hk:k<24) (ci:(zav ps k).child=(i:Int))
  (hd:0<=d/\d<=15) (dd:zag ws d=2) (hn:nmB nm=true) (new:∀ j,j<24->0<=(zav ps j).child->(zav ps j).dir=d->¬ (zav ps j).name=nm)
  (loop:¬ (zag ws (i:Int)=2/\zgr ps 17 d (i:Int)=true)) :
  Img ws (ps.set k ⟨d,nm,(i:Int)⟩):=by
 have hk':k<ps.length:=by rw[h.l24];exact hk
 have ek:zhd ws (zav ps k):=by
  rcases h.ent k hk with q | q
  ·rw[q]at ci;have:(-1:Int)=(i:Int):=ci;omega
  ·exact q
 have hi:i<16:=by have:=ek.1;omega
 have i0:¬ i=0:=by have:=ek.1;omega
 have entn:∀ j,j<24->zav (ps.set k ⟨d,nm,(i:Int)⟩) j=freeD\/zhd ws (zav (ps.set k ⟨d,nm,(i:Int)⟩) j):=by
  intro j hj;rw[zax hk']
  by_cases e:j=k
  ·rw[if_pos e];right;refine⟨⟨by show 1<=(i:Int);omega,by show(i:Int)<=15;omega⟩,hd,hn,?_,dd⟩
   show ¬ zag ws (i:Int)=0
   rw[<- ci];exact ek.2.2.2.1
  ·rw[if_neg e];exact h.ent j hj
 have entn':∀ j,j<(ps.set k ⟨d,nm,(i:Int)⟩).length->zav (ps.set k ⟨d,nm,(i:Int)⟩) j=freeD\/zhd ws (zav (ps.set k ⟨d,nm,(i:Int)⟩) j):=fun j hj=>entn j (by rw[List.length_set,h.l24]at hj;exact hj)
 have US:∀ c,0<=c->¬ c=(i:Int)->upD (ps.set k ⟨d,nm,(i:Int)⟩) c=upD ps c:=by
  intro c hc ne;refine zqx (by simp) ?_;intro j hj;rw[zax hk']
  by_cases e:j=k
  ·rw[if_pos e];right;refine⟨fun q=>ne q.symm,?_⟩;rw[e,ci]
   exact fun q=>ne q.symm
  ·rw[if_neg e];exact .inl rfl
 have CN:∀ c:Int,zim (ps.set k ⟨d,nm,(i:Int)⟩) c=zim ps c:=by
  intro c;have a:=zgi ps k ⟨d,nm,(i:Int)⟩ c hk';rw[ci]at a;have b:(if (i:Int)=c then(1:Nat)else 0)=(if (Den.mk d nm (i:Int)).child=c then 1 else 0):=rfl;omega
 have ALL:∀ c,Rch ps c->0<=c->zag ws c=2->Rch (ps.set k ⟨d,nm,(i:Int)⟩) c:=by
  by_cases ki:zag ws (i:Int)=2
  ·have nb:zgr ps 17 d (i:Int)=false:=by
    cases q:zgr ps 17 d (i:Int) with
    | false=>rfl
    | true=>exact absurd ⟨ki,q⟩ loop
   have UI:upD (ps.set k ⟨d,nm,(i:Int)⟩) (i:Int)=d:=by
    have one:zim ps (i:Int)=1:=by
     have l:=h.links i hi;rw[if_neg i0,(zin (h.ok i hi) (by rw[<- zbd];exact ki)).1]at l;omega
    have q:=yafo (ps:=ps.set k ⟨d,nm,(i:Int)⟩) (c:=(i:Int)) (k:=k) (by rw[List.length_set];exact hk') (by rw[zax hk',if_pos rfl]) (fun j hj e=>by
     rw[List.length_set]at hj;rw[zax hk']at e
     by_cases ej:j=k
     ·exact ej
     ·rw[if_neg ej]at e
      exact yaox one hj hk' e ci)
    rw[q,zax hk',if_pos rfl]
   obtain⟨dn,rfl⟩:∃ n:Nat,d=(n:Int):=⟨d.toNat,by omega⟩
   have rd:Rch (ps.set k ⟨(dn:Int),nm,(i:Int)⟩) (dn:Int):=zqh US 16 _ (h.hang dn (by omega) (by rw[<- zbd];exact dd)) (by omega) nb;have ri:Rch (ps.set k ⟨(dn:Int),nm,(i:Int)⟩) (i:Int):=zix (by rw[UI];omega) (by rw[UI];exact rd);intro c hr hc _
   have:0<=c->Rch (ps.set k ⟨(dn:Int),nm,(i:Int)⟩) c:=by
    refine yagr (P:=fun c=>0<=c->Rch (ps.set k ⟨(dn:Int),nm,(i:Int)⟩) c) hr (fun _=>zrb _) ?_;intro c c0 cu ih hc
    by_cases e:c=(i:Int)
    ·rw[e];exact ri
    ·have u:=US c hc e;refine zix (by rw[u];exact cu) ?_;rw[u];exact ih cu
   exact this hc
  ·intro c hr hc kc;refine zlj (G:=fun c=>0<=c) (i:=(i:Int)) (fun c hc hu=>⟨?_,hu⟩) (fun c hc ne=>US c hc ne) hr hc (fun e=>ki (by rw[<- e];exact kc));intro e;have:=(h.dir hc hu).1;rw[e]at this;exact ki this
 refine⟨h.l16,by rw[List.length_set];exact h.l24,h.root,h.ok,entn,?_,?_,?_,h.sing⟩
 ·intro j l hj hl cj cl ed en;rw[zax hk']at cj ed en;rw[zax hk' _ l]at cl ed en
  by_cases e1:j=k
  ·by_cases e2:l=k
   ·omega
   ·rw[if_pos e1,if_neg e2]at ed en;rw[if_neg e2]at cl;exact absurd en.symm (new l hl cl ed.symm)
  ·by_cases e2:l=k
   ·rw[if_neg e1,if_pos e2]at ed en;rw[if_neg e1]at cj;exact absurd en (new j hj cj ed)
   ·rw[if_neg e1,if_neg e2]at ed en;rw[if_neg e1]at cj;rw[if_neg e2]at cl;exact h.once j l hj hl cj cl ed en
 ·intro j hj;rw[CN];exact h.links j hj
 ·intro j hj kj;refine zlh ?_ ⟨by omega,by omega⟩ (yamf entn');exact ALL _ (h.rch hj kj) (by omega) (by rw[zbd];exact kj)
def wkF(bR bS bF:Nat):Value:=.func (.func 21) #[] #[.pointer (some ⟨bR,0,none⟩),.pointer (some ⟨bS,0,none⟩),.pointer (some ⟨bF,0,none⟩)]
structure WkI(tF:TypeId)(W w:World)(bR bS bF:Nat)(vS:Value)(ss:List ByteArray):Prop where
 s:w.heap[bS]?=some (.cells #[vS] 28 (0,0))
 f:w.heap[bF]?=some (.cells #[wkF bR bS bF] tF (0,0))
 i:SnI W w vS ss
 hs:W.heap.size<=bS
 ne:¬ bF=bS
theorem WkI.below{tF:TypeId}{W w w':World}{bR bS bF:Nat}{vS:Value}{ss:List ByteArray}(h:WkI tF W w bR bS bF vS ss)(hb:zB w w'):WkI tF W w' bR bS bF vS ss :=
 ⟨(hb.block _ (Array.getElem?_eq_some_iff.1 h.s).1).trans h.s,(hb.block _ (Array.getElem?_eq_some_iff.1 h.f).1).trans h.f,h.i.below hb,h.hs,h.ne⟩
theorem WkI.grow{tF:TypeId}{W w w':World}{bR bS bF:Nat}{vS v':Value}{ss:List ByteArray}(h:WkI tF W w bR bS bF vS ss)(hF:(9:Nat)≠tF)(l:List ByteArray){m:Nat}(hm:m=l.length)(ho:w'.ownsRow W.heap.size 9 1 v' (ss.length+m) (zcs ss++zcs l))(hg:w.grownBy w' vS.ownBlock) :
  w'.heap[bS]?=some (.cells #[vS] 28 (0,0))/\WkI tF W (w'.setCell ⟨bS,0,none⟩ v') bR bS bF v' (ss++l):=by
 have hs:w'.heap[bS]?=some (.cells #[vS] 28 (0,0)):=(hg.block _ (Array.getElem?_eq_some_iff.1 h.s).1 (zcl h.i.l h.s (by decide)).symm).trans h.s;have hf:w'.heap[bF]?=some (.cells #[wkF bR bS bF] tF (0,0)):=(hg.block _ (Array.getElem?_eq_some_iff.1 h.f).1 (zcl h.i.l h.f hF).symm).trans h.f;have g:=h.i.grow l hm ho hg;refine⟨hs,zbs (xs:=[vS]) hs 0 v',?_,⟨?_,g.b.setCell h.hs _⟩,h.hs,h.ne⟩
 ·rw[Below.heap_setCell _ _ _ _ (by exact h.ne)];exact hf
 ·exact ownsRow_setCell_other g.l (zcl g.l hs (by decide)) _
theorem zfb{w:World}{b:Nat}{t:TypeId}{x:Value}(h:w.heap[b]?=some (.cells #[x] t (0,0))):w.cell? ⟨b,0,none⟩=some x/\w.frozen? ⟨b,0,none⟩=false:=zat (xs:=[x]) h 0
def wkK(rs:List Den)(m:Nat)(d:Int)(hd:ByteArray)(l:List Den):List ByteArray:=(l.filter fun x=>x.dir == d).flatMap fun x=>(hd++⟨#[47]⟩++x.name)::pthR rs m x.child (hd++⟨#[47]⟩++x.name)
theorem yand(rs:List Den)(m:Nat)(d:Int)(hd:ByteArray){l:List Den}{k:Nat}(hk:k<l.length):wkK rs m d hd (l.take (k+1))=if l[k].dir=d then(wkK rs m d hd (l.take k)++[hd++⟨#[47]⟩++l[k].name])++pthR rs m l[k].child (hd++⟨#[47]⟩++l[k].name)else wkK rs m d hd (l.take k):=by
 unfold wkK;rw[List.take_succ_eq_append_getElem hk,List.filter_append,List.flatMap_append]
 by_cases c:l[k].dir=d
 ·rw[if_pos c];simp[c]
 ·rw[if_neg c];simp[c]
theorem yaml{rs l:List Den}{d:Int}(h:∀ x∈l,¬ x.dir=d)(m:Nat)(hd:ByteArray):wkK rs m d hd l=[]:=by
 unfold wkK;rw[List.filter_eq_nil_iff.2 (fun x hx=>by simp[h x hx])];rfl
theorem yakm(rs:List Den)(m:Nat)(d:Int)(hd:ByteArray)(l:List Den)(j:Nat):(wkK rs m d hd (l.take j)).length<=(wkK rs m d hd l).length:=by
 have e:wkK rs m d hd l=wkK rs m d hd (l.take j)++wkK rs m d hd (l.drop j):=by
  unfold wkK;rw[<- List.flatMap_append,<- List.filter_append,List.take_append_drop]
 rw[e,List.length_append];omega
end Go.Proofs.YtfagbapgnocjiaaGreatDoor
