import Derived.Test.YtfagbapgnocjiaaGreatDoorZBC
set_option maxRecDepth 100000
set_option maxHeartbeats 16000000
namespace Go.Proofs.YtfagbapgnocjiaaGreatDoor
def zqv(s:List Int×List St)(m:Mi):List Int×List St :=
 if m.kind=1 then(s.1,s.2++[⟨m.at_,m.val,false⟩])else if m.kind=2 then(s.1,s.2.map (fl1 m.at_))else if m.kind=3 then(zmc s.1 s.2,zkr s.2)else s
def zon(s:List Int×List St)(l:List Mi):List Int×List St:=l.foldl zqv s
theorem yako(s:List Int×List St):zon s []=s:=rfl
theorem zjc(s:List Int×List St)(m:Mi)(l:List Mi):zon s (m::l)=zon (zqv s m) l:=rfl
theorem zdb(s:List Int×List St)(l l':List Mi):zon s (l++l')=zon (zon s l) l':=by simp[zon]
theorem zxh(s:List Int×List St)(p:St):zqv s (stM p)=(s.1,s.2++[⟨p.at_,p.val,false⟩]):=if_pos rfl
theorem zxg(s:List Int×List St)(a:Int):zqv s ⟨2,a,0⟩=(s.1,s.2.map (fl1 a)):=by
 unfold zqv;rw[if_neg (show ¬ (2:Int)=1 by decide),if_pos rfl]
theorem zwl(s:List Int×List St):zqv s ⟨3,0,0⟩=(zmc s.1 s.2,zkr s.2):=by
 unfold zqv;rw[if_neg (by decide),if_neg (by decide),if_pos rfl]
theorem zqo(ks:List Int):∀ i,∀ m∈nl ks i,m=⟨2,m.at_,0⟩
 | 0,m,h=>by cases h
 | i+1,m,h=>by
  rw[nl]at h
  split at h
  ·exact zqo ks i m h
  ·rcases List.mem_append.1 h with h | h
   ·exact zqo ks i m h
   ·rw[List.mem_singleton.1 h]
theorem yael(ks:List Int):∀ i k,k<i->∃ m∈nl ks i,m.at_/8=ks[k]?.getD 0/8
 | 0,k,h=>absurd h (by omega)
 | i+1,k,h=>by
  rw[nl]
  by_cases e:k<i
  ·obtain⟨m,hm,e⟩:=yael ks i k e
   split
   ·exact⟨m,hm,e⟩
   ·exact⟨m,List.mem_append_left _ hm,e⟩
  ·obtain rfl:k=i:=by omega
   split
   ·rename_i hk;simp only[yagk,List.any_eq_true,List.mem_range,beq_iff_eq]at hk;obtain⟨j,hj,e⟩:=hk;obtain⟨m,hm,e2⟩:=yael ks k j hj;exact⟨m,hm,e2.trans e⟩
   ·exact⟨_,List.mem_append_right _ (List.mem_singleton.2 rfl),rfl⟩
theorem znw:∀ (l:List Mi) (s:List Int×List St),(∀ m∈l,m=⟨2,m.at_,0⟩)->∃ g:St->St,zon s l=(s.1,s.2.map g)/\(∀ p,(g p).at_=p.at_/\(g p).val=p.val/\(p.fl=true->(g p).fl=true))/\∀ p,(∃ m∈l,m.at_/8=p.at_/8)->(g p).fl=true
 | [],s,_=>⟨id,by simp[zon],fun p=>⟨rfl,rfl,id⟩,fun p h=>by obtain⟨m,hm,_⟩:=h;cases hm⟩
 | m::l,s,h=>by
  have hm:=h m (by simp);obtain⟨g,e,h1,h2⟩:=znw l (s.1,s.2.map (fl1 m.at_)) (fun x hx=>h x (by simp[hx]))
  have hf:∀ p:St,(fl1 m.at_ p).at_=p.at_/\(fl1 m.at_ p).val=p.val/\(p.fl=true->(fl1 m.at_ p).fl=true):=fun p=>by
   unfold fl1
   split
   ·exact⟨rfl,rfl,fun _=>rfl⟩
   ·exact⟨rfl,rfl,id⟩
  refine⟨fun p=>g (fl1 m.at_ p),?_,fun p=>?_,fun p hp=>?_⟩
  ·rw[zjc,hm,zxg]
   show zon (s.1,s.2.map (fl1 m.at_)) l=_
   rw[e,List.map_map];rfl
  ·have a:=h1 (fl1 m.at_ p);have b:=hf p;exact⟨a.1.trans b.1,a.2.1.trans b.2.1,fun x=>a.2.2 (b.2.2 x)⟩
  ·obtain⟨x,hx,e2⟩:=hp
   rcases List.mem_cons.1 hx with rfl | hx
   ·apply (h1 _).2.2;unfold fl1;rw[if_pos e2.symm]
   ·apply h2;exact⟨x,hx,by rw[(hf p).1];exact e2⟩
theorem yaed:∀ (ps:List St) (ws:List Int),(∀ p∈ps,p.fl=true)->zmc ws ps=zdv ws ps/\zkr ps=[]
 | [],_,_=>⟨rfl,rfl⟩
 | p::ps,ws,h=>by
  have hp:=h p (by simp);have ih:=yaed ps (ws.set p.at_.toNat p.val) (fun q hq=>h q (by simp[hq]));refine⟨?_,?_⟩
  ·show zmc (if p.fl then ws.set p.at_.toNat p.val else ws) ps=zdv (ws.set p.at_.toNat p.val) ps
   rw[hp];exact ih.1
  ·unfold zkr at ih ⊢;rw[List.filter_cons,hp];exact ih.2
theorem zyt(g:St->St)(hg:∀ p,(g p).at_=p.at_/\(g p).val=p.val):∀ (ps:List St) (ws:List Int),zdv ws (ps.map g)=zdv ws ps
 | [],_=>rfl
 | p::ps,ws=>by
  show zdv (ws.set (g p).at_.toNat (g p).val) (ps.map g)=zdv (ws.set p.at_.toNat p.val) ps
  rw[(hg p).1,(hg p).2];exact zyt g hg ps _
theorem zqa:∀ (S:List St) (s:List Int×List St),zon s (S.map stM)=(s.1,s.2++S.map (fun p=>(⟨p.at_,p.val,false⟩:St)))
 | [],s=>by simp[zon]
 | p::S,s=>by
  rw[List.map_cons,zjc,zxh,zqa S];simp
theorem zik(S:List St)(ws:List Int):zon (ws,[]) (seg S)=(zdv ws S,[]):=by
 have e0:zon (ws,[]) (S.map stM)=(ws,S.map (fun p=>(⟨p.at_,p.val,false⟩:St))):=by rw[zqa];simp
 unfold seg zbg;rw[zdb,e0,zdb];obtain⟨g,e,h1,h2⟩:=znw (nl (S.map (·.at_)) (S.map (·.at_)).length) (ws,S.map (fun p=>(⟨p.at_,p.val,false⟩:St))) (zqo _ _);rw[e,zjc,yako,zwl]
 have hall:∀ p∈(S.map (fun p=>(⟨p.at_,p.val,false⟩:St))).map g,p.fl=true:=by
  intro p hp;rw[List.map_map,List.mem_map]at hp;obtain⟨q,hq,rfl⟩:=hp;apply h2;obtain⟨i,hi,rfl⟩:=List.getElem_of_mem hq;obtain⟨m,hm,e2⟩:=yael (S.map (·.at_)) (S.map (·.at_)).length i (by simpa using hi);refine⟨m,hm,?_⟩;rw[e2];simp[hi]
 have f:=yaed _ ws hall
 show(zmc ws ((S.map (fun p=>(⟨p.at_,p.val,false⟩:St))).map g),zkr _)=_
 rw[f.1,f.2,List.map_map,zyt (g ∘ fun p=>(⟨p.at_,p.val,false⟩:St)) (fun p=>⟨(h1 _).1,(h1 _).2.1⟩)]
theorem yafw:∀ (us:List St) (i:Nat),∀ p∈jrn i us,9+2*(i:Int)<=p.at_/\p.at_<9+2*((i+us.length:Nat):Int)
 | [],_,p,h=>by cases h
 | u::us,i,p,h=>by
  rw[jrn]at h;simp only[List.length_cons]
  rcases List.mem_cons.1 h with rfl | h
  ·exact⟨Int.le_refl _,by show 9+2*(i:Int)<_;omega⟩
  ·rcases List.mem_cons.1 h with rfl | h
   ·exact⟨by show _<=9+2*(i:Int)+1;omega,by show 9+2*(i:Int)+1<_;omega⟩
   ·have:=yafw us (i+1) p h;omega
end Go.Proofs.YtfagbapgnocjiaaGreatDoor

namespace Go.Proofs.YtfagbapgnocjiaaGreatDoor
open Go.RowKit
def StOK(m:Mi):Prop:=miB m=true/\(m.kind=1\/m.kind=2\/m.kind=3)
theorem yago(ks:List Int):∀ i,i<=ks.length->∀ m∈nl ks i,∃ k,k<ks.length/\m.at_=ks[k]?.getD 0
 | 0,_,m,h=>by cases h
 | i+1,hi,m,h=>by
  rw[nl]at h
  split at h
  ·exact yago ks i (by omega) m h
  ·rcases List.mem_append.1 h with h | h
   ·exact yago ks i (by omega) m h
   ·rw[List.mem_singleton.1 h];exact⟨i,by omega,rfl⟩
theorem ztv{S:List St}(h:∀ p∈S,(0<=p.at_/\p.at_<336)/\0<=p.val/\p.val<1099511627776):∀ m∈seg S,StOK m:=by
 intro m hm;unfold seg zbg at hm
 rcases List.mem_append.1 hm with hm | hm
 ·obtain⟨p,hp,rfl⟩:=List.mem_map.1 hm;have:=h p hp;exact⟨(zkp 1 p.at_ p.val).2 (.inl ⟨rfl,this⟩),.inl rfl⟩
 ·rcases List.mem_append.1 hm with hm | hm
  ·have e:=zqo _ _ m hm;obtain⟨k,hk,ek⟩:=yago _ _ zL m hm
   have:∃ p∈S,m.at_=p.at_:=by
    rw[List.length_map]at hk;exact⟨S[k],List.getElem_mem hk,by rw[ek,List.getElem?_map,List.getElem?_eq_getElem hk];rfl⟩
   obtain⟨p,hp,ep⟩:=this;rw[e];have:=h p hp;exact⟨(zkp 2 m.at_ 0).2 (.inr (.inl ⟨rfl,by rw[ep];exact this.1,rfl⟩)),.inr (.inl rfl)⟩
  ·rw[List.mem_singleton.1 hm];exact⟨(zkp 3 0 0).2 (.inr (.inr (.inr ⟨.inl rfl,rfl,rfl⟩))),.inr (.inr rfl)⟩
theorem yagl:∀ (us:List St) (i:Nat),(∀ p∈us,(48<=p.at_/\p.at_<336)/\0<=p.val/\p.val<1099511627776)->∀ p∈jrn i us,0<=p.val/\p.val<1099511627776
 | [],_,_,p,h=>by cases h
 | u::us,i,hu,p,h=>by
  rw[jrn]at h;have h0:=hu u List.mem_cons_self
  rcases List.mem_cons.1 h with rfl | h
  ·exact⟨by show 0<=u.at_;omega,by show u.at_<_;omega⟩
  ·rcases List.mem_cons.1 h with rfl | h
   ·exact⟨by show 0<=u.val;omega,by show u.val<_;omega⟩
   ·exact yagl us (i+1) (fun q hq=>hu q (List.mem_cons_of_mem _ hq)) p h
theorem yanu(n:Int)(h:0<=n/\n<1099511627776):∀ p∈cnt n,(0<=p.at_/\p.at_<336)/\0<=p.val/\p.val<1099511627776:=by
 intro p hp;rw[List.mem_singleton.1 hp];exact⟨⟨by show(0:Int)<=8;omega,by show(8:Int)<336;omega⟩,h⟩
theorem zre{ls ls':List Int}{ws:List Ino}{ps:List Den}(h:Wi ls ws ps)(hl:ls'.length=336)(ag:∀ z:Int,z=0\/(48<=z/\z<312)->wdI ls' z=wdI ls z):Wi ls' ws ps:=by
 refine⟨hl,?_,?_,?_,?_,h.img⟩
 ·rw[ag 0 (.inl rfl)];exact h.mark
 ·have g:=h.good;unfold zcm at g ⊢;rw[List.all_eq_true]at g ⊢;intro k hk;have q:=g k hk;have:=List.mem_range.1 hk;unfold zcp at q ⊢;rw[ag _ (.inr (by omega)),ag _ (.inr (by omega)),ag _ (.inr (by omega))];exact q
 ·rw[<- h.inos];unfold zbq;apply List.map_congr_left;intro i hi;have:=List.mem_range.1 hi;unfold zee;rw[ag _ (.inr (by omega)),ag _ (.inr (by omega)),ag _ (.inr (by omega)),ag _ (.inr (by omega)),ag _ (.inr (by omega)),ag _ (.inr (by omega)),ag _ (.inr (by omega)),ag _ (.inr (by omega)),ag _ (.inr (by omega)),ag _ (.inr (by omega)),ag _ (.inr (by omega))]
 ·rw[<- h.dens];unfold zby;apply List.map_congr_left;intro i hi;have:=List.mem_range.1 hi;unfold zfo;rw[ag _ (.inr (by omega)),ag _ (.inr (by omega)),ag _ (.inr (by omega))]
theorem yaoc(us:List Se):∀ ls:List Int,zdv ls (zdq us)=zco ls us:=by
 induction us with
 | nil=>intro ls;rfl
 | cons u us ih=>intro ls;exact ih _
theorem zxq{z:Int}(hz:0<=z):∀ (S:List St) (ls:List Int),(∀ p∈S,0<=p.at_/\p.at_<(ls.length:Int)/\¬ p.at_=z)->wdI (zdv ls S) z=wdI ls z:=by
 intro S
 induction S with
 | nil=>intro ls _;rfl
 | cons p S ih =>
  intro ls h
  show wdI (zdv (ls.set p.at_.toNat p.val) S) z=_
  rw[ih _ (fun q hq=>by rw[List.length_set];exact h q (List.mem_cons_of_mem _ hq))];obtain⟨a,b,c⟩:=h p (List.mem_cons_self ..);rw[zdx a b hz,if_neg (fun e=>c e.symm)]
def zng(ls:List Int)(us:List Se):List Int:=if us.length=0 then ls else zdv (zdv (zdv (zdv ls (jrn 0 (zdq us))) (cnt (us.length:Int))) (zdq us)) (cnt 0)
theorem zvw(ls:List Int)(us:List Se):zon (ls,[]) (zdh (zdq us))=(zng ls us,[]):=by
 unfold zdh zng zht;rw[zca]
 by_cases h:us.length=0
 ·rw[if_pos h,if_pos h];rfl
 ·rw[if_neg h,if_neg h,zdb,zdb,zdb,zik,zik,zik,zik]
theorem yahl(ls:List Int)(us:List Se):(zng ls us).length=ls.length:=by
 unfold zng
 split
 ·rfl
 ·rw[zcr,zcr,zcr,zcr]
theorem yalc{ls:List Int}{us:List Se}(hl:ls.length=336)(h16:us.length<=16)(ui:UpIn us){z:Int}(hz:z=0\/(48<=z/\z<336)):wdI (zng ls us) z=wdI (zco ls us) z:=by
 have hz0:0<=z:=by omega
 unfold zng
 by_cases h:us.length=0
 ·rw[if_pos h,List.eq_nil_of_length_eq_zero h];rfl
 ·rw[if_neg h,zxq hz0 (cnt 0) _ (fun p hp=>by
   rw[List.mem_singleton.1 hp,zcr,zcr,zcr,hl]
   exact⟨by show(0:Int)<=8;omega,by show(8:Int)<336;omega,by show ¬ (8:Int)=z;omega⟩),yaoc]
  have same:∀ (us:List Se) (a b:List Int),a.length=336->b.length=336->UpIn us->wdI a z=wdI b z->wdI (zco a us) z=wdI (zco b us) z:=by
   intro us
   induction us with
   | nil=>intro a b _ _ _ e;exact e
   | cons u us ih =>
    intro a b ha hb ui e;have q:=ui u (List.mem_cons_self ..);refine ih _ _ (by rw[List.length_set];exact ha) (by rw[List.length_set];exact hb) (fun v hv=>ui v (List.mem_cons_of_mem _ hv)) ?_;rw[zdx (by omega) (by omega) hz0,zdx (by omega) (by omega) hz0,e]
  refine same us _ _ (by rw[zcr,zcr];exact hl) hl ui ?_
  rw[zxq hz0 (cnt (us.length:Int)) _ (fun p hp=>by
   rw[List.mem_singleton.1 hp,zcr,hl]
   exact⟨by show(0:Int)<=8;omega,by show(8:Int)<336;omega,by show ¬ (8:Int)=z;omega⟩)]
  rw[zxq hz0 (jrn 0 (zdq us)) _ (fun p hp=>by
   have:=yafw (zdq us) 0 p hp;rw[zca]at this;rw[hl]
   exact⟨by omega,by omega,by omega⟩)]
theorem zod{ls:List Int}{us:List Se}(hl:ls.length=336)(c:wdI ls 8=0):wdI (zng ls us) 8=0:=by
 unfold zng
 by_cases h:us.length=0
 ·rw[if_pos h];exact c
 ·rw[if_neg h]
  show wdI ((zdv (zdv (zdv ls (jrn 0 (zdq us))) (cnt (us.length:Int))) (zdq us)).set (8:Int).toNat 0) 8=0
  rw[zdx (by omega) (by rw[zcr,zcr,zcr,hl];omega) (by omega),if_pos rfl]
theorem yajn{ls:List Int}{us:List Se}{ws:List Ino}{ps:List Den}(hl:ls.length=336)(h16:us.length<=16)(ui:UpIn us)(h:Wi (zco ls us) ws ps):Wi (zng ls us) ws ps :=
 zre h (by rw[yahl];exact hl) (fun z hz=>yalc hl h16 ui (by omega))
theorem zfa{B:Nat}{a w:World}(h:Below B a w)(q:Nat):Below B a (w.drewN q):=⟨h.os,h.tape,h.output,h.size,h.block⟩
theorem yarg{ns:List Ino}{hs:List Int}{t:Int}{hot:Bool}{b:Int}{i:Nat}(h:pgE ns i=0\/¬ pgE ns i%4=t):pkS ns hs t hot b i=b:=by unfold pkS;rw[if_pos h]
theorem yald{ns:List Ino}{hs:List Int}{t:Int}{hot:Bool}{b:Int}{i:Nat}(h:¬ (pgE ns i=0\/¬ pgE ns i%4=t))(c:b<0\/(hot=true/\hs.getD b.toNat 0<hs.getD i 0)\/(hot=false/\hs.getD i 0<hs.getD b.toNat 0)):pkS ns hs t hot b i=(i:Int):=by unfold pkS;rw[if_neg h,if_pos c]
theorem yapc{ns:List Ino}{hs:List Int}{t:Int}{hot:Bool}{b:Int}{i:Nat}(h:¬ (pgE ns i=0\/¬ pgE ns i%4=t))(c:¬ (b<0\/(hot=true/\hs.getD b.toNat 0<hs.getD i 0)\/(hot=false/\hs.getD i 0<hs.getD b.toNat 0))):pkS ns hs t hot b i=b:=by unfold pkS;rw[if_neg h,if_neg c]
theorem zxl(v vh:Value)(ns:List Ino)(ds:List Den)(hs:List Int)(t:Int)(hot:Bool)(w:World)(h:RdIm w v ns ds)(hi:zbo ns ds=true)(hh:RdI w vh hs)(hb:zij hs=true) :
  zC 112 #[v,vh,.I t,.bool hot] w fun e w'=>e=.returned (.I (pkN ns hs t hot 128))/\zB w w':=by
 have TI:=zaa (fun k (hk:k<16) j=>yaie hi hk j);obtain⟨l16,l24,_⟩:=zao hi;have L16:=zaa l16;have L128:=zaa (zbl hb).1;obtain⟨vW,vP,rfl,h1,h2⟩:=h;obtain⟨aW,cW,rfl,_,hcW⟩:=h1.shape;obtain⟨aP,cP,rfl,_,hcP⟩:=h2.shape;obtain⟨aH,cH,rfl,_,hcH⟩:=hh.shape;obtain⟨bW,oW,rfl,hblW,hcellW⟩:=hcW (by omega);obtain⟨bH,oH,rfl,hblH,hcellH⟩:=hcH (by have:=L128.o;omega)
 have HM:Hid (∀ k,k<16->∀ w',zB w w'->∀ j,j<8->w'.cell? ⟨bW,oW+k*11+3+j,none⟩=some (.I ((zal ns k).map.getD j 0))):=fun k hk w' hb j hj=>by
  rw[zcc (by have:=L16.o;omega:k<ns.length)];obtain⟨a0,a1,a2,a3,a4,a5,a6,a7,a8,a9,a10⟩:=hcellW k (by omega)
  rcases(show j=0\/j=1\/j=2\/j=3\/j=4\/j=5\/j=6\/j=7 by omega)with rfl|rfl|rfl|rfl|rfl|rfl|rfl|rfl
  ·exact(hb.cell (p:=⟨bW,oW+k*11+3,none⟩) hblW).trans a3
  ·exact(hb.cell (p:=⟨bW,oW+k*11+4,none⟩) hblW).trans a4
  ·exact(hb.cell (p:=⟨bW,oW+k*11+5,none⟩) hblW).trans a5
  ·exact(hb.cell (p:=⟨bW,oW+k*11+6,none⟩) hblW).trans a6
  ·exact(hb.cell (p:=⟨bW,oW+k*11+7,none⟩) hblW).trans a7
  ·exact(hb.cell (p:=⟨bW,oW+k*11+8,none⟩) hblW).trans a8
  ·exact(hb.cell (p:=⟨bW,oW+k*11+9,none⟩) hblW).trans a9
  ·exact(hb.cell (p:=⟨bW,oW+k*11+10,none⟩) hblW).trans a10
 have HH:Hid (∀ k,k<128->∀ w',zB w w'->w'.cell? ⟨bH,oH+k,none⟩=some (.I (hs.getD k 0))):=fun k hk w' hb=>by
  have q:k<hs.length:=by have:=L128.o;omega
  rw[List.getD_eq_getElem?_getD,List.getElem?_eq_getElem q];exact(hb.cell (p:=⟨bH,oH+k,none⟩) hblH).trans (hcellH k q)
 clear h1 h2 hi hcW hcP hcellW hcH hcellH l16 l24 hh hb
 obtain⟨W,hW⟩:=zE (w.alloc (.cells #[.slice (some ⟨bW,oW,none⟩) ns.length cW,.slice aP ds.length cP] 26))
 have CA:Hid (∀ w',zB W w'->w'.cell? ⟨w.heap.size,0,none⟩=some (.slice (some ⟨bW,oW,none⟩) ns.length cW)/\w'.cell? ⟨w.heap.size,1,none⟩=some (.slice aP ds.length cP)):=fun w' hb=>by
  have:w'.heap[w.heap.size]?=some (.cells #[.slice (some ⟨bW,oW,none⟩) ns.length cW,.slice aP ds.length cP] 26 (0,0)):=(hb.block _ (by rw[hW];simp)).trans (by rw[hW];exact zai rfl);exact⟨(zad this).1,(zad this).2.1⟩
 have BW:Hid (zB w W):=by rw[hW];exact zR.alloc zL _
 have PK:=zaa (fun m=>ztc ns hs t hot m);have PN:=zaa (fun m=>show pkN ns hs t hot (m+1)=pkS ns hs t hot (pkN ns hs t hot m) m from rfl);have P0:=zaa (show pkN ns hs t hot 0=-1 from rfl)
 have PG:=zaa (fun a b (_:b<8)=>show pgE ns (8*a+b)=(zal ns a).map.getD b 0 by
  unfold pgE
  rw[show(8*a+b)/8=a by omega,show(8*a+b)%8=b by omega])
 go_enter Tryz.func112,Tryz.ntmps112;go_upto_region 2 with fail;rw[<- hW];clear hW;go_wp2_with fail
 go_loopw [9,10] (fun b i wr=>∃ m:Nat,m<=128/\i=.I (m:Int)/\b=.I (pkN ns hs t hot m)/\Hid (zB W wr)) (fun _ i _=>128-(intOf i).toNat)
 case atStart=>exact⟨0,by omega,rfl,by rw[P0.o],zR⟩
 case round =>
  obtain⟨m,hm,rfl,rfl,J⟩:=hrel;obtain⟨x0,x1⟩:=CA.o _ J.o;have JW:=zaa (zab BW.o J.o BW.o.size)
  have m0:(0:Int)<=(m:Int):=by omega
  by_cases hlt:m<128
  case neg =>
   obtain rfl:m=128:=by omega
   go_wp2;go_ret;exact⟨rfl,JW.o⟩
  have m1:(m:Int)<128:=by omega
  obtain⟨a,b,ha,hb8,hab⟩:∃ a b:Nat,a<16/\b<8/\m=8*a+b:=⟨m/8,m%8,by omega,by omega,by omega⟩
  have PE:Hid (pgE ns m=(zal ns a).map.getD b 0):=by unfold Hid;rw[hab];exact PG.o a b hb8
  have e0:=HM.o a ha wr JW.o b hb8;rw[<- PE.o]at e0;have hm0:=HH.o m hlt wr JW.o;obtain⟨z0,z1⟩:=zei (by have:=TI.o a ha b;rw[<- PE.o]at this;exact this);obtain⟨r0,r1⟩:=PK.o m
  have SN:Hid (pgE ns m=0\/¬ pgE ns m%4=t->pkN ns hs t hot (m+1)=pkN ns hs t hot m):=fun h=>(PN.o m).trans (yarg h)
  have ST:Hid (¬ (pgE ns m=0\/¬ pgE ns m%4=t)->(pkN ns hs t hot m<0\/(hot=true/\hs.getD (pkN ns hs t hot m).toNat 0<hs.getD m 0)\/(hot=false/\hs.getD m 0<hs.getD (pkN ns hs t hot m).toNat 0))->pkN ns hs t hot (m+1)=(m:Int)):=fun h c=>(PN.o m).trans (yald h c)
  have SX:Hid (¬ (pgE ns m=0\/¬ pgE ns m%4=t)->¬ (pkN ns hs t hot m<0\/(hot=true/\hs.getD (pkN ns hs t hot m).toNat 0<hs.getD m 0)\/(hot=false/\hs.getD m 0<hs.getD (pkN ns hs t hot m).toNat 0))->pkN ns hs t hot (m+1)=pkN ns hs t hot m):=fun h c=>(PN.o m).trans (yapc h c)
  have tq:Int.tdiv (m:Int) 8=(a:Int):=by rw[Int.tdiv_eq_ediv_of_nonneg (by omega)];omega
  have tr:Int.tmod (m:Int) 8=(b:Int):=by rw[Int.tmod_eq_emod_of_nonneg (by omega)];omega
  have a0:(0:Int)<=(a:Int):=by omega
  have a1:(a:Int)<(ns.length:Int):=by have:=L16.o;omega
  have b0:(0:Int)<=(b:Int):=by omega
  have b1:(b:Int)<8:=by omega
  have mh:(m:Int)<(hs.length:Int):=by have:=L128.o;omega
  have te:Int.tmod (pgE ns m) 4=pgE ns m%4:=Int.tmod_eq_emod_of_nonneg z0
  have HB:Hid (∀ q:Nat,q<128->wr.cell? ⟨bH,oH+q,none⟩=some (.I (hs.getD q 0))):=fun q hq=>HH.o q hq wr JW.o
  have hl:hs.length<=128:=by have:=L128.o;omega
  have HL:=zaa (show 128<=hs.length by have:=L128.o;omega);clear HM TI PG PN PK P0 PE HH L16 L128 hab CA BW;generalize pgE ns m=e at *;generalize pkN ns hs t hot m=pb at *
  obtain⟨nx,hnx⟩:∃ nx,pkN ns hs t hot (m+1)=nx:=⟨_,rfl⟩
  have HN:=zaa hnx;rw[hnx]at SN ST SX;clear hnx
  by_cases c1:e=0
  ·subst c1;obtain rfl:=SN.o (.inl rfl);clear SN ST SX HB hm0 JW;go_wp2
   go_roundw
   case rel=>exact⟨m+1,by omega,by go_num,by rw[HN.o],J⟩
   case measure=>simp[intOf];omega
  have q1:(e == 0)=false:=by rw[beq_eq_false_iff_ne];exact c1
  by_cases c2:e%4=t
  case neg =>
   obtain rfl:=SN.o (.inr c2)
   have q2:(e%4 != t)=true:=by rw[bne_iff_ne];exact c2
   clear SN ST SX HB hm0 JW;go_wp2
   go_roundw
   case rel=>exact⟨m+1,by omega,by go_num,by rw[HN.o],J⟩
   case measure=>simp[intOf];omega
  have q2:(e%4 != t)=false:=by rw[bne_eq_false_iff_eq];exact c2
  have cc:¬ (e=0\/¬ e%4=t):=fun h=>h.elim c1 (fun h=>h c2)
  have ST2:=zaa (ST.o cc);have SX2:=zaa (SX.o cc);clear SN ST SX cc c1 c2
  by_cases c3:pb<0
  ·obtain rfl:=ST2.o (.inl c3);have d3:decide (pb<0)=true:=decide_eq_true c3;clear ST2 SX2 HB JW;go_wp2_with fail
   go_quiet (fail)
   go_wp2
   go_roundw
   case rel=>exact⟨m+1,by omega,by go_num,by rw[HN.o],zfa J.o _⟩
   case measure=>simp[intOf];omega
  obtain⟨q,rfl⟩:∃ q:Nat,pb=(q:Int):=⟨pb.toNat,by omega⟩
  have q128:q<128:=by omega
  have hq0:=HB.o q q128;rw[Int.toNat_natCast]at ST2 SX2;have d3:decide ((q:Int)<0)=false:=decide_eq_false (by omega)
  have qh0:(0:Int)<=(q:Int):=by omega
  have qh:(q:Int)<(hs.length:Int):=by have:=HL.o;omega
  generalize hs.getD q 0=zq at *;generalize hs.getD m 0=zm at *;clear HB c3 JW
  cases hot with
  | true =>
   by_cases c4:zq<zm
   ·obtain rfl:=ST2.o (.inr (.inl ⟨rfl,c4⟩));have d4:decide (zm>zq)=true:=decide_eq_true c4;clear ST2 SX2;go_wp2_with fail
    go_quiet (fail)
    go_wp2
    go_roundw
    case rel=>exact⟨m+1,by omega,by go_num,by rw[HN.o],zfa J.o _⟩
    case measure=>simp[intOf];omega
   ·obtain rfl:=SX2.o (fun h=>by rcases h with h | h | h<;>first | omega | cases h.1);have d4:decide (zm>zq)=false:=decide_eq_false c4;clear ST2 SX2;go_wp2_with fail
    go_quiet (fail)
    go_wp2
    go_roundw
    case rel=>exact⟨m+1,by omega,by go_num,by rw[HN.o],zfa J.o _⟩
    case measure=>simp[intOf];omega
  | false =>
   by_cases c4:zm<zq
   ·obtain rfl:=ST2.o (.inr (.inr ⟨rfl,c4⟩));have d4:decide (zm<zq)=true:=decide_eq_true c4;clear ST2 SX2;go_wp2_with fail
    go_quiet (fail)
    go_wp2
    go_roundw
    case rel=>exact⟨m+1,by omega,by go_num,by rw[HN.o],zfa J.o _⟩
    case measure=>simp[intOf];omega
   ·obtain rfl:=SX2.o (fun h=>by rcases h with h | h | h<;>first | omega | cases h.1);have d4:decide (zm<zq)=false:=decide_eq_false c4;clear ST2 SX2;go_wp2_with fail
    go_quiet (fail)
    go_wp2
    go_roundw
    case rel=>exact⟨m+1,by omega,by go_num,by rw[HN.o],zfa J.o _⟩
    case measure=>simp[intOf];omega
end Go.Proofs.YtfagbapgnocjiaaGreatDoor
