import Derived.Test.YtfagbapgnocjiaaGreatDoorZAV
set_option maxRecDepth 100000
set_option maxHeartbeats 2000000
namespace Go.Proofs.YtfagbapgnocjiaaGreatDoor
open Go.RowKit
theorem zso{ps:List Den}:∀ (a b:Nat) (d:Int),dep ps a d->dep ps b d->a=b
 | 0,0,_,_,_=>rfl
 | 0,_+1,_,h,h'=>absurd h h'.1
 | _+1,0,_,h,h'=>absurd h' h.1
 | a+1,b+1,_,h,h'=>by rw[zso a b _ h.2 h'.2]
def upI(ps:List Den):Nat->Int->Int
 | 0,d=>d
 | i+1,d=>upD ps (upI ps i d)
def visR(rs:List Den):Nat->Int->List Den
 | 0,_=>[]
 | n+1,d=>(rs.filter fun x=>x.dir == d).flatMap fun x=>x::visR rs n x.child
theorem yahm(rs:List Den):∀ (n:Nat) (d:Int) (hd:ByteArray),(pthR rs n d hd).length=(visR rs n d).length
 | 0,_,_=>rfl
 | n+1,d,hd=>by
  unfold pthR visR;rw[List.length_flatMap,List.length_flatMap]
  congr 1
  apply List.map_congr_left;intro x _;rw[List.length_cons,List.length_cons,yahm rs n]
theorem yagv{rs:List Den}{n:Nat}{d:Int}{z:Den}(h:z∈visR rs (n+1) d):∃ x,x∈rs/\x.dir=d/\(z=x\/z∈visR rs n x.child):=by
 unfold visR at h;rw[List.mem_flatMap]at h;obtain⟨x,hx,hz⟩:=h;rw[List.mem_filter,beq_iff_eq]at hx;exact⟨x,hx.1,hx.2,List.mem_cons.1 hz⟩
def zkq(ps rs:List Den):Prop:=∀ x∈rs,∃ (k:Nat) (hk:k<ps.length),ps[k]=x/\0<=x.child
theorem zii{ws:List Ino}{ps rs:List Den}(h:zbo ws ps=true)(hm:zkq ps rs){x:Den}(hx:x∈rs):(1<=x.child/\x.child<=15)/\(0<=x.dir/\x.dir<=15)/\zag ws x.dir=2:=by
 obtain⟨k,hk,rfl,hc⟩:=hm x hx
 rcases zdg h k hk with r | r
 ·omega
 ·exact⟨r.1,r.2.1,r.2.2.2.2⟩
theorem zyd{ws:List Ino}{ps rs:List Den}(h:zbo ws ps=true)(hm:zkq ps rs){n:Nat}{d:Int}{z:Den}(hz:z∈visR rs n d):zag ws d=2:=by
 cases n with
 | zero=>cases hz
 | succ n =>
  obtain⟨x,hx,e,_⟩:=yagv hz;rw[<- e];exact(zii h hm hx).2.2
theorem yafg{ws:List Ino}{ps rs:List Den}(h:zbo ws ps=true)(hm:zkq ps rs):∀ (n k:Nat) (d:Int),dep ps k d->∀ z∈visR rs n d,z∈rs/\∃ i,dep ps (k+i) z.dir/\upI ps i z.dir=d
 | 0,_,_,_,z,hz=>by cases hz
 | n+1,k,d,hd,z,hz=>by
  obtain⟨x,hx,e,r⟩:=yagv hz
  rcases r with rfl | r
  ·exact⟨hx,0,by rw[e];exact hd,e⟩
  ·have q:=zyd h hm r;have c:=zii h hm hx;obtain⟨j,hj,rfl,_⟩:=hm x hx;have hd2:dep ps (k+1) ps[j].child:=zgl h hj c.1 q (by rw[e];exact hd);obtain⟨a,i,b1,b2⟩:=yafg h hm n (k+1) _ hd2 z r;refine⟨a,i+1,?_,?_⟩
   ·rw[show k+(i+1)=k+1+i by omega];exact b1
   ·unfold upI;rw[b2,yagq h hj c.1 q,e]
theorem zuq{ws:List Ino}{ps rs:List Den}(h:zbo ws ps=true)(hm:zkq ps rs)(hn:rs.Nodup):∀ (n k:Nat) (d:Int),dep ps k d->(visR rs n d).Nodup
 | 0,_,_,_=>List.nodup_nil
 | n+1,k,d,hd=>by
  have down:∀ x∈rs,x.dir=d->∀ z∈visR rs n x.child,dep ps (k+1) x.child/\∃ i,dep ps (k+1+i) z.dir/\upI ps i z.dir=x.child:=by
   intro x hx e z hz;have q:=zyd h hm hz;have c:=zii h hm hx;obtain⟨j,hj,rfl,_⟩:=hm x hx;have hd2:dep ps (k+1) ps[j].child:=zgl h hj c.1 q (by rw[e];exact hd);exact⟨hd2,(yafg h hm n (k+1) _ hd2 z hz).2⟩
  have apart:∀ x∈rs,x.dir=d->∀ y∈rs,y.dir=d->¬ y∈visR rs n x.child:=by
   intro x hx e y hy e' hz;obtain⟨_,i,b,_⟩:=down x hx e y hz;rw[e']at b;have:=zso _ _ _ hd b;omega
  unfold visR;refine List.pairwise_flatMap.2 ⟨fun x hx=>?_,?_⟩
  ·rw[List.mem_filter,beq_iff_eq]at hx;refine List.nodup_cons.2 ⟨apart x hx.1 hx.2 x hx.1 hx.2,?_⟩
   cases e:visR rs n x.child with
   | nil=>exact List.nodup_nil
   | cons z l =>
    rw[<- e];exact zuq h hm hn n (k+1) _ (down x hx.1 hx.2 z (by rw[e];exact List.mem_cons_self)).1
  ·have hf:(rs.filter fun x=>x.dir == d).Nodup:=List.Nodup.sublist List.filter_sublist hn;refine List.Pairwise.imp_of_mem (fun {x y} hx hy hne=>?_) hf;rw[List.mem_filter,beq_iff_eq]at hx hy;intro z hz z' hz' e;subst e
   rcases List.mem_cons.1 hz with rfl | r
   ·rcases List.mem_cons.1 hz' with e | r'
    ·exact hne e
    ·exact apart y hy.1 hy.2 z hx.1 hx.2 r'
   ·rcases List.mem_cons.1 hz' with rfl | r'
    ·exact apart x hx.1 hx.2 z hy.1 hy.2 r
    ·obtain⟨_,i,b1,b2⟩:=down x hx.1 hx.2 z r;obtain⟨_,j,c1,c2⟩:=down y hy.1 hy.2 z r';have:=zso _ _ _ b1 c1
     obtain rfl:i=j:=by omega
     have e:=b2.symm.trans c2;have q:=zyd h hm r;have cx:=zii h hm hx.1;obtain⟨a,ha,rfl,_⟩:=hm x hx.1;obtain⟨b,hb,rfl,_⟩:=hm y hy.1
     rcases Nat.lt_trichotomy a b with t | t | t
     ·exact yajm h t hb cx.1 q rfl e.symm
     ·subst t;exact hne rfl
     ·exact yajm h t ha cx.1 q e.symm rfl
theorem yafy{ws:List Ino}{ps rs:List Den}(h:zbo ws ps=true)(hm:zkq ps rs)(hn:rs.Nodup)(n k:Nat)(d:Int)(hd:ByteArray)(hk:dep ps k d):(pthR rs n d hd).length<=rs.length:=by
 rw[yahm]
 exact List.Nodup.length_le_of_subset (zuq h hm hn n k d hk) fun z hz=>(yafg h hm n k d hk z hz).1
theorem zfs{ws:List Ino}{ps:List Den}(h:zbo ws ps=true):zkq ps (zan ps):=by
 intro x hx;unfold zan at hx;rw[List.mem_filter]at hx;obtain⟨k,hk,rfl⟩:=List.getElem_of_mem hx.1;refine⟨k,hk,rfl,?_⟩
 rcases zdg h k hk with r | r
 ·obtain⟨_,_,_,_,he,_,_⟩:=zao h;have e:=(of_decide_eq_true he:∀ i (h:i<ps.length),zcj ws ps i ps[i]=true) k hk;unfold zcj at e;rw[if_pos r.1]at e;rw[e]at hx;exact absurd hx.2 (by decide)
 ·omega
theorem zno{ws:List Ino}{ps:List Den}(h:zbo ws ps=true):(zan ps).Nodup:=by
 have hm:=zfs h;unfold zan at hm ⊢;refine List.pairwise_filter.2 (List.pairwise_iff_getElem.2 fun i j hi hj hij pi pj e=>?_)
 have ci:0<=ps[i].child:=by
  obtain⟨_,_,_,c⟩:=hm ps[i] (List.mem_filter.2 ⟨List.getElem_mem hi,pi⟩);exact c
 refine yadq h (d:=ps[i].dir) (nm:=ps[i].name) hij hj ?_ ?_
 ·unfold zbf;rw[decide_eq_true ci];simp
 ·rw[<- e];unfold zbf;rw[decide_eq_true ci];simp
theorem zjo{ps rs ts:List Den}(hp:rs.Perm ts)(h:zkq ps ts):zkq ps rs:=fun x hx=>h x (hp.mem_iff.1 hx)
theorem zpj{ws:List Ino}{ps rs:List Den}(h:zbo ws ps=true)(hp:rs.Perm (zan ps))(hs:rs.Pairwise fun a b=>a.name.toList<=b.name.toList)(d:Int):(rs.filter fun x=>x.dir == d).map Den.name=zbk (zaw ps d):=by
 refine zpo ?_ ?_
 ·unfold Ord;rw[List.pairwise_map];exact List.Pairwise.sublist List.filter_sublist hs
 ·rw[<- zpn (zzf h) d];unfold zqt;exact(hp.filter _).map _
def rise(ps:List Den):List Den:=(zan ps).mergeSort fun a b=>decide (a.name.toList<=b.name.toList)
theorem zft(ps:List Den):(rise ps).Perm (zan ps):=List.mergeSort_perm _ _
theorem zmi(ps:List Den):(rise ps).Pairwise fun a b=>a.name.toList<=b.name.toList:=by
 have:=List.pairwise_mergeSort (le:=fun a b:Den=>decide (a.name.toList<=b.name.toList)) (fun a b c h1 h2=>by simp only[decide_eq_true_eq]at *;exact List.le_trans h1 h2) (fun a b=>by simp only[Bool.or_eq_true,decide_eq_true_eq];exact List.le_total _ _) (zan ps);exact List.Pairwise.imp (fun h=>by simpa using h) this
theorem zqg{ws:List Ino}{ps rs:List Den}(h:zbo ws ps=true)(hp:rs.Perm (zan ps))(hs:rs.Pairwise fun a b=>a.name.toList<=b.name.toList)(n:Nat)(d:Int)(hd:ByteArray):pthR rs n d hd=zrg ws ps n d hd :=
 zzy h (zjo hp (zfs h)) (zpj h hp hs) n d hd
theorem zrl{ws:List Ino}{ps:List Den}(h:zbo ws ps=true)(n k:Nat)(d:Int)(hd:ByteArray)(hk:dep ps k d):(zrg ws ps n d hd).length<=24:=by
 rw[<- zqg h (zft ps) (zmi ps)];refine Nat.le_trans (yafy h (zjo (zft ps) (zfs h)) ((zft ps).nodup_iff.2 (zno h)) n k d hd hk) ?_;rw[(zft ps).length_eq];refine Nat.le_trans (List.length_filter_le _ _) ?_;rw[(zao h).2.1];exact Nat.le_refl _
def ztp(ws:List Ino)(ps:List Den)(n:Nat)(d:Int)(hd:ByteArray)(ns:List ByteArray):List ByteArray:=ns.flatMap fun nm=>(hd++⟨#[47]⟩++nm)::(if zag ws (zfm ps d nm)=2 then zrg ws ps n (zfm ps d nm) (hd++⟨#[47]⟩++nm) else[])
theorem yaaj(ws:List Ino)(ps:List Den)(n:Nat)(d:Int)(hd:ByteArray):zrg ws ps (n+1) d hd=ztp ws ps n d hd (zbk (zaw ps d)):=rfl
theorem yaia(ws:List Ino)(ps:List Den)(n:Nat)(d:Int)(hd:ByteArray)(ns:List ByteArray):ztp ws ps n d hd (ns.take 0)=[]:=rfl
theorem yaej(ws:List Ino)(ps:List Den)(n:Nat)(d:Int)(hd:ByteArray){ns:List ByteArray}{k:Nat}(hk:k<ns.length):ztp ws ps n d hd (ns.take (k+1))=(ztp ws ps n d hd (ns.take k)++[hd++⟨#[47]⟩++ns[k]])++(if zag ws (zfm ps d ns[k])=2 then zrg ws ps n (zfm ps d ns[k]) (hd++⟨#[47]⟩++ns[k]) else[]):=by
 unfold ztp;rw[List.take_succ_eq_append_getElem hk,List.flatMap_append,List.flatMap_cons,List.flatMap_nil,List.append_nil,List.append_assoc];rfl
theorem yaam{ws:List Ino}{ps:List Den}(h:zbo ws ps=true){d:Int}{nm:ByteArray}(hn:nm∈zbk (zaw ps d)):∃ (j:Nat) (hj:j<ps.length),zbj ps d nm=some j/\ps[j].dir=d/\ps[j].name=nm/\zfm ps d nm=ps[j].child/\1<=ps[j].child/\ps[j].child<=15:=by
 rw[<- zpj h (zft ps) (zmi ps) d,List.mem_map]at hn;obtain⟨x,hx,rfl⟩:=hn;rw[List.mem_filter,beq_iff_eq]at hx;have hm:=zjo (zft ps) (zfs h);have c:=zii h hm hx.1;obtain⟨j,hj,rfl,h0⟩:=hm x hx.1
 have e:zbf ps[j].dir ps[j].name ps[j]=true:=by unfold zbf;rw[decide_eq_true h0];simp
 have a:zbj ps ps[j].dir ps[j].name=some j:=zsn hj (fun i hi hij=>by
  cases q:zbf ps[j].dir ps[j].name ps[i] with
  | false=>rfl
  | true=>exact(yadq h hij hj q e).elim) e
 obtain⟨_,rfl⟩:=hx;exact⟨j,hj,a,rfl,rfl,zpq h hj h0,c.1.1,c.1.2⟩
def Rch(ps:List Den)(d:Int):Prop:=∃ n,zcg ps n d=true
theorem zrb(ps:List Den):Rch ps 0:=⟨1,by rw[zdt,if_pos rfl]⟩
theorem zix{ps:List Den}{c:Int}(h0:0<=upD ps c)(h:Rch ps (upD ps c)):Rch ps c:=by
 obtain⟨n,hn⟩:=h;refine⟨n+1,?_⟩;rw[zdt]
 by_cases q:c=0
 ·rw[if_pos q]
 ·rw[if_neg q,if_neg (by omega)];exact hn
theorem zun{ps:List Den}{P:Int->Prop}(h0:P 0)(hs:∀ c,¬ c=0->0<=upD ps c->P (upD ps c)->P c):∀ (n:Nat) (d:Int),zcg ps n d=true->P d
 | 0,d,h=>by rw[zeb]at h;cases h
 | n+1,d,h=>by
  by_cases q:d=0
  ·rw[q];exact h0
  ·obtain⟨a,b⟩:=zfd h q;exact hs d q a (zun h0 hs n _ b)
theorem yagr{ps:List Den}{P:Int->Prop}{d:Int}(h:Rch ps d)(h0:P 0)(hs:∀ c,¬ c=0->0<=upD ps c->P (upD ps c)->P c):P d:=by
 obtain⟨n,hn⟩:=h;exact zun h0 hs n d hn
theorem yahx(f:Int->Int)(n:Nat)(i:Int):zcy f (n+1) i=f (zcy f n i):=by
 rw[zeq f n 1 i];rfl
theorem zyu{ps:List Den}:∀ (n:Nat) (d:Int),zcg ps n d=true->∃ m,m<n/\zcy (upD ps) m d=0/\∀ j,j<m->¬ zcy (upD ps) j d=0/\0<=zcy (upD ps) (j+1) d
 | 0,d,h=>by rw[zeb]at h;cases h
 | n+1,d,h=>by
  by_cases q:d=0
  ·exact⟨0,by omega,q,fun j hj=>absurd hj (by omega)⟩
  ·obtain⟨a,b⟩:=zfd h q;obtain⟨m,hm,e,r⟩:=zyu n _ b;refine⟨m+1,by omega,e,?_⟩;intro j hj
   cases j with
   | zero=>exact⟨q,a⟩
   | succ j=>exact r j (by omega)
theorem zzu{ps:List Den}:∀ (m n:Nat) (d:Int),m<n->zcy (upD ps) m d=0->(∀ j,j<m->0<=zcy (upD ps) (j+1) d)->zcg ps n d=true
 | _,0,_,h,_,_=>absurd h (by omega)
 | 0,n+1,d,_,e,_=>by
  rw[zdt,if_pos (show d=0 from e)]
 | m+1,n+1,d,h,e,r=>by
  rw[zdt]
  by_cases q:d=0
  ·rw[if_pos q]
  ·have a:0<=upD ps d:=r 0 (by omega);rw[if_neg q,if_neg (show ¬ upD ps d<0 by omega)];exact zzu m n (upD ps d) (by omega) e (fun j hj=>r (j+1) (by omega))
theorem zlh{ps:List Den}{d:Int}(h:Rch ps d)(hd:0<=d/\d<=15)(hu:∀ c,upD ps c<=15):zcg ps 16 d=true:=by
 obtain⟨n,hn⟩:=h;obtain⟨m,_,e,r⟩:=zyu n d hn
 have rng:∀ j,j<=m->0<=zcy (upD ps) j d/\zcy (upD ps) j d<=15:=by
  intro j hj
  cases j with
  | zero=>exact hd
  | succ j =>
   refine⟨(r j (by omega)).2,?_⟩;rw[yahx];exact hu _
 by_cases hm:m<16
 ·exact zzu m 16 d hm e (fun j hj=>(r j hj).2)
 ·exfalso;obtain⟨a,b,hab,hb,he⟩:=yaib 16 (fun k=>(zcy (upD ps) k d).toNat) (fun k hk=>by have:=rng k (by omega);show(zcy (upD ps) k d).toNat<16;omega);have ra:=rng a (by omega);have rb:=rng b (by omega)
  have he':zcy (upD ps) a d=zcy (upD ps) b d:=by
   have:(zcy (upD ps) a d).toNat=(zcy (upD ps) b d).toNat:=he;omega
  have z:zcy (upD ps) (a+(m-b)) d=0:=by
   rw[zeq,he',<- zeq,show b+(m-b)=m by omega];exact e
  exact(r (a+(m-b)) (by omega)).1 z
theorem yanq{ws:List Ino}{ps:List Den}(ent:∀ k,k<ps.length->zav ps k=freeD\/zhd ws (zav ps k)){c:Int}(hc:0<=c)(h:0<=upD ps c):∃ k,k<ps.length/\(zav ps k).child=c/\(zav ps k).dir=upD ps c/\zhd ws (zav ps k):=by
 unfold upD at h ⊢
 cases e:ps.find? fun x=>x.child == c with
 | none=>rw[e]at h;exact absurd h (by decide)
 | some x =>
  have hx:=List.mem_of_find?_eq_some e;have hp:=List.find?_some e;obtain⟨k,hk,rfl⟩:=List.getElem_of_mem hx;refine⟨k,hk,?_⟩;rw[zcd hk];refine⟨by simpa using hp,rfl,?_⟩;have:=ent k hk;rw[zcd hk]at this
  rcases this with q | q
  ·rw[q]at hp
   have:freeD.child=c:=by simpa using hp
   exact absurd hc (by rw[<- this];decide)
  ·exact q
theorem yamf{ws:List Ino}{ps:List Den}(ent:∀ k,k<ps.length->zav ps k=freeD\/zhd ws (zav ps k))(c:Int):upD ps c<=15:=by
 unfold upD
 cases e:ps.find? fun x=>x.child == c with
 | none=>decide
 | some x =>
  have hx:=List.mem_of_find?_eq_some e;obtain⟨k,hk,rfl⟩:=List.getElem_of_mem hx;have:=ent k hk;rw[zcd hk]at this
  show ps[k].dir<=15
  rcases this with q | q
  ·rw[q];decide
  ·exact q.2.1.2
theorem zlj{ps qs:List Den}{i:Int}{G:Int->Prop}(hG:∀ c,G c->0<=upD ps c->¬ upD ps c=i/\G (upD ps c))(hs:∀ c,G c->¬ c=i->upD qs c=upD ps c){d:Int}(h:Rch ps d)(hd:G d)(hi:¬ d=i):Rch qs d:=by
 have:G d->¬ d=i->Rch qs d:=by
  refine yagr (P:=fun c=>G c->¬ c=i->Rch qs c) h (fun _ _=>zrb qs) ?_;intro c c0 cu ih g ne;obtain⟨a,b⟩:=hG c g cu;have e:=hs c g ne;refine zix (by rw[e];exact cu) ?_;rw[e];exact ih b a
 exact this hd hi
theorem zqh{ps qs:List Den}{i:Int}(hs:∀ c,0<=c->¬ c=i->upD qs c=upD ps c):∀ (n:Nat) (d:Int),zcg ps n d=true->0<=d->zgr ps (n+1) d i=false->Rch qs d
 | 0,d,h,_,_=>by rw[zeb]at h;cases h
 | n+1,d,h,hd,hb=>by
  by_cases q:d=0
  ·rw[q];exact zrb qs
  ·obtain⟨a,b⟩:=zfd h q;rw[zdk,if_neg (by omega)]at hb
   by_cases e:d=i
   ·rw[if_pos e]at hb;cases hb
   ·rw[if_neg e]at hb;have u:=hs d hd e;refine zix (by rw[u];exact a) ?_;rw[u];exact zqh hs n _ b a hb
theorem zga(v:Value)(ws:List Ino)(ps:List Den)(w:World)(h:RdIm w v ws ps)(hl:ps.length<=4096) :
  zC 189 #[v] w fun e w'=>e=.returned (.I (feI ps))/\zB w w':=by
 obtain⟨vW,vP,rfl,h1,h2⟩:=h;obtain⟨aW,cW,rfl,_,_⟩:=h1.shape;obtain⟨aP,cP,rfl,_,hcP⟩:=h2.shape;have HP:=zaa hcP;clear h1 h2 hcP
 have CA:Hid (∀ w',Below (w.alloc (.cells #[.slice aW ws.length cW,.slice aP ps.length cP] 26)).heap.size (w.alloc (.cells #[.slice aW ws.length cW,.slice aP ps.length cP] 26)) w'->w'.cell? ⟨w.heap.size,0,none⟩=some (.slice aW ws.length cW)/\w'.cell? ⟨w.heap.size,1,none⟩=some (.slice aP ps.length cP)):=fun w' hb=>by
  have:w'.heap[w.heap.size]?=some (.cells #[.slice aW ws.length cW,.slice aP ps.length cP] 26 (0,0)):=(hb.block _ (by simp)).trans (zai rfl);exact⟨(zad this).1,(zad this).2.1⟩
 have BW:Hid (zB w (w.alloc (.cells #[.slice aW ws.length cW,.slice aP ps.length cP] 26))):=zR.alloc zL _
 obtain⟨W,hW⟩:=zE (w.alloc (.cells #[.slice aW ws.length cW,.slice aP ps.length cP] 26))
 rw[<- hW]at CA BW;obtain⟨y0,y1⟩:=CA.o _ zR;have EF:=zaa (show feI ps=zbu (fun i=>decide (zap ps i<0)) ps.length from rfl);go_enter Tryz.func189,Tryz.ntmps189;go_wp2;rw[<- hW];clear hW
 go_loopw [3] (fun i wr=>∃ k:Nat,k<=ps.length/\i=.I k/\wr=W/\Hid (∀ j,j<k->decide (zap ps j<0)=false)) (fun i _=>ps.length-(intOf i).toNat)
 case atStart=>exact⟨0,by omega,rfl,rfl,fun j a=>absurd a (by omega)⟩
 case round =>
  obtain⟨k,hk,rfl,rfl,H⟩:=hrel
  have k0:(0:Int)<=(k:Int):=by omega
  by_cases hlt:k<ps.length
  ·obtain⟨b,o,rfl,hbl,hcell⟩:=HP.o (by omega);have d0:=(BW.o.cell (p:=⟨b,o+k*3+2,none⟩) hbl).trans (hcell k hlt).2.2;rw[<- zch hlt]at d0
   have k1:(k:Int)<(ps.length:Int):=by omega
   clear hcell
   by_cases q:zap ps k<0
   ·have E:=zaa (EF.o.trans (zrq (p:=fun i=>decide (zap ps i<0)) hlt H.o (decide_eq_true q)));clear H;generalize zap ps k=z at d0 q;go_wp2;go_ret;exact⟨zcx E.o.symm,BW.o⟩
   ·have H':Hid (∀ j,j<k+1->decide (zap ps j<0)=false):=fun j a=>by
     by_cases e:j=k
     ·subst e;exact decide_eq_false q
     ·exact H.o j (by omega)
    clear H;generalize zap ps k=z at d0 q;go_wp2
    go_roundw
    case rel=>exact⟨k+1,by omega,by go_num,trivial,H'⟩
    case measure=>simp[intOf];omega
  ·have E:=zaa (EF.o.trans (zjv (p:=fun i=>decide (zap ps i<0)) (n:=ps.length) (fun j hj=>H.o j (by omega))))
   have k2:¬ (k:Int)<(ps.length:Int):=by omega
   clear H;go_wp2;go_ret;exact⟨zcx E.o.symm,BW.o⟩
end Go.Proofs.YtfagbapgnocjiaaGreatDoor
