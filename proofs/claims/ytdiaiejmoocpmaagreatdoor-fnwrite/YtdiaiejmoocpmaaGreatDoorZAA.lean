import Derived.Test.YtdiaiejmoocpmaaGreatDoorRows
import Derived.WalkKit
import Derived.WalkSpells
import Derived.WalkSmall
import Derived.Deep.OwnRows
import Derived.Deep.QuietTactic
import Derived.BigQuiet
namespace Go.Proofs.YtdiaiejmoocpmaaGreatDoor
open Go.RowKit
theorem zL{n:Nat}:n<=n:=Nat.le_refl n
theorem zR{B:Nat}{w:World}:Below B w w:=Below.refl B w
theorem zE{α:Type}(a:α):∃ b,b=a:=⟨a,rfl⟩
abbrev _root_.Go.Value.I(x:Int):Value:=.int .i64 x
abbrev _root_.Go.Value.N:Value:=.slice none 0 0
abbrev zB(a b:World):Prop:=Below a.heap.size a b
abbrev zC:=Calls Tryz.prog
theorem _root_.Go.RowKit.Hid.o{p : Prop}(h : Hid p) : p := h
theorem zaa{p:Prop}(h:p):Hid p:=h
theorem zag{a b:Bool}(h:a=b):Ending.returned (.bool a)=.returned (.bool b):=by rw[h]
theorem zdq{a b:Int}(h:a=b):Ending.returned (.I a)=.returned (.I b):=by rw[h]
def Rd(w:World)(size:Nat)(v:Value)(n:Nat)(xs:List Value):Prop :=
 xs.length=n*size/\∃ ao cap,v=.slice ao n cap/\(n<=cap/\(ao=none->cap=0))/\(0<n->∃ b o,ao=some ⟨b,o,none⟩/\b<w.heap.size/\∀ j,j<n*size->w.cell? ⟨b,o+j,none⟩=xs[j]?)
theorem Rd.same{w w':World}{size:Nat}{v:Value}{n:Nat}{xs:List Value}(h:Rd w size v n xs)(hz:w.heap.size<=w'.heap.size)(hs:∀ b,b<w.heap.size->v.ownBlock=some b->w'.heap[b]?=w.heap[b]?):Rd w' size v n xs:=by
 obtain⟨h1,ao,cap,rfl,h2,h3⟩:=h;refine⟨h1,ao,cap,rfl,h2,fun hn=>?_⟩;obtain⟨b,o,rfl,hb,hc⟩:=h3 hn;exact⟨b,o,rfl,Nat.lt_of_lt_of_le hb hz,fun j hj=>(World.cell?_of_block (w:=w) (hs b hb rfl)).trans (hc j hj)⟩
theorem Rd.below{w w':World}{size:Nat}{v:Value}{n:Nat}{xs:List Value}(h:Rd w size v n xs)(hb:zB w w'):Rd w' size v n xs :=
 h.same hb.size (fun b hlt _=>hb.block b hlt)
theorem Rd.alloc{w:World}{size:Nat}{v:Value}{n:Nat}{xs:List Value}(h:Rd w size v n xs)(o:Obj):Rd (w.alloc o) size v n xs :=
 h.below (zR.alloc zL _)
def Row(w:World)(e:TypeId)(size lo hi:Nat)(v:Value)(n:Nat)(xs:List Value):Prop:=w.ownsRow lo e size v n xs/\∀ k,v.ownBlock=some k->k<hi
theorem Row.rd{w:World}{e:TypeId}{size lo hi:Nat}{v:Value}{n:Nat}{xs:List Value}(h:Row w e size lo hi v n xs):Rd w size v n xs:=by
 obtain⟨h,_⟩:=h;refine⟨h.1,?_⟩
 rcases h.2 with ⟨rfl,rfl⟩ | ⟨g,cap,cur,rfl,hb,hg,hnc,hcm,hcs,htake⟩
 ·exact⟨none,0,rfl,⟨Nat.le_refl _,fun _=>rfl⟩,fun h=>absurd h (by omega)⟩
 ·refine⟨_,cap,rfl,⟨hnc,fun e=>by cases e⟩,fun _=>⟨g,0,rfl,(Array.getElem?_eq_some_iff.1 hg).1,fun j hj=>?_⟩⟩;rw[Nat.zero_add];exact World.ownsRow.cellAt h j hj
theorem Row.same{w w':World}{e:TypeId}{size lo hi:Nat}{v:Value}{n:Nat}{xs:List Value}(h:Row w e size lo hi v n xs)(hs:∀ b,lo<=b->b<hi->w'.heap[b]?=w.heap[b]?):Row w' e size lo hi v n xs:=by
 obtain⟨⟨h1,h2⟩,h3⟩:=h;refine⟨⟨h1,?_⟩,h3⟩
 rcases h2 with h2 | ⟨g,cap,cur,rfl,hb,hg,r⟩
 ·exact .inl h2
 ·exact .inr ⟨g,cap,cur,rfl,hb,(hs g hb (h3 g rfl)).trans hg,r⟩
theorem Row.below{w w':World}{e:TypeId}{size lo hi:Nat}{v:Value}{n:Nat}{xs:List Value}(h:Row w e size lo hi v n xs){B:Nat}(hb:Below B w w')(hB:hi<=B):Row w' e size lo hi v n xs :=
 h.same (fun b _ hb2=>hb.block b (by omega))
theorem Row.wide{w:World}{e:TypeId}{size lo hi:Nat}{v:Value}{n:Nat}{xs:List Value}(h:Row w e size lo hi v n xs){lo' hi':Nat}(h1:lo'<=lo)(h2:hi<=hi'):Row w e size lo' hi' v n xs:=by
 obtain⟨⟨a,b⟩,c⟩:=h;refine⟨⟨a,?_⟩,fun k hk=>Nat.lt_of_lt_of_le (c k hk) h2⟩
 rcases b with b | ⟨g,cap,cur,rfl,hb,r⟩
 ·exact .inl b
 ·exact .inr ⟨g,cap,cur,rfl,Nat.le_trans h1 hb,r⟩
theorem Row.nil(w:World)(e:TypeId)(size lo hi:Nat):Row w e size lo hi (.N) 0 []:=⟨World.ownsRow_nil w lo e size,fun _ h=>by cases h⟩
structure Outside(lo hi:Nat)(w w':World):Prop where
 os:w'.os=w.os
 tape:w'.tape=w.tape
 output:w'.output=w.output
 size:w.heap.size<=w'.heap.size
 block:∀ k,k<w.heap.size->(k<lo\/hi<=k)->w'.heap[k]?=w.heap[k]?
theorem Outside.refl(lo hi:Nat)(w:World):Outside lo hi w w:=⟨rfl,rfl,rfl,Nat.le_refl _,fun _ _ _=>rfl⟩
theorem Outside.trans{lo hi:Nat}{a b c:World}(h:Outside lo hi a b)(k:Outside lo hi b c):Outside lo hi a c :=
 ⟨k.os.trans h.os,k.tape.trans h.tape,k.output.trans h.output,Nat.le_trans h.size k.size,fun i hi' ho=>(k.block i (Nat.lt_of_lt_of_le hi' h.size) ho).trans (h.block i hi' ho)⟩
theorem Outside.of_below{lo hi:Nat}{w w':World}(h:zB w w'):Outside lo hi w w':=⟨h.os,h.tape,h.output,h.size,fun k hk _=>h.block k hk⟩
theorem Outside.below{lo hi B:Nat}{w w':World}(h:Outside lo hi w w')(hB:B<=lo)(hz:B<=w.heap.size):Below B w w':=⟨h.os,h.tape,h.output,h.size,fun k hk=>h.block k (by omega) (.inl (by omega))⟩
theorem Outside.setCell{lo hi:Nat}{w w':World}(h:Outside lo hi w w'){a:Addr}(h1:lo<=a.block)(h2:a.block<hi)(u:Value):Outside lo hi w (w'.setCell a u) :=
 h.trans ⟨rfl,rfl,rfl,by simp[World.setCell],fun k _ ho=>Below.heap_setCell _ _ _ _ (by omega)⟩
theorem Row.outside{w w':World}{e:TypeId}{size lo hi:Nat}{v:Value}{n:Nat}{xs:List Value}(h:Row w e size lo hi v n xs){lo' hi':Nat}(ho:Outside lo' hi' w w')(hd:hi<=lo'\/hi'<=lo)(hz:hi<=w.heap.size):Row w' e size lo hi v n xs :=
 h.same (fun b h1 h2=>ho.block b (by omega) (by omega))
theorem Row.apart{w w':World}{e e':TypeId}{size size' lo hi lo' hi':Nat}{v v':Value}{n n':Nat}{xs xs':List Value}(h:Row w e size lo hi v n xs)(h':Row w e' size' lo' hi' v' n' xs')(hne:e≠e')(hg:w.grownBy w' v'.ownBlock):Row w' e size lo hi v n xs:=by
 obtain⟨⟨h1,h2⟩,h3⟩:=h;refine⟨⟨h1,?_⟩,h3⟩
 rcases h2 with h2 | ⟨g,cap,cur,rfl,hb,hh,r⟩
 ·exact .inl h2
 ·refine .inr ⟨g,cap,cur,rfl,hb,?_,r⟩;rw[hg.block g (Array.getElem?_eq_some_iff.1 hh).1 ?_]
  ·exact hh
  ·intro e0
   rcases h'.1.2 with ⟨rfl,_⟩ | ⟨g',cap',cur',rfl,_,hh',_⟩
   ·cases e0
   ·cases e0
    rw[hh]at hh';simp at hh';exact hne hh'.2
def zcl(zs:List Int):List Value:=zs.map (Value.int .i64)
theorem zgb(zs:List Int):(zcl zs).length=zs.length:=by simp[zcl]
theorem zde(zs:List Int)(k:Nat)(h:k<zs.length):(zcl zs)[k]?=some (.I zs[k]):=by simp[zcl,h]
def RdI(w:World)(v:Value)(zs:List Int):Prop:=Rd w 1 v zs.length (zcl zs)
theorem RdI.shape{w:World}{v:Value}{zs:List Int}(h:RdI w v zs):∃ ao cap,v=.slice ao zs.length cap/\zs.length<=cap/\(0<zs.length->∃ b o,ao=some ⟨b,o,none⟩/\b<w.heap.size/\∀ k (h:k<zs.length),w.cell? ⟨b,o+k,none⟩=some (.I zs[k])):=by
 obtain⟨_,ao,cap,rfl,h2,h3⟩:=h;refine⟨ao,cap,rfl,h2.1,fun hn=>?_⟩;obtain⟨b,o,rfl,hb,hc⟩:=h3 hn;exact⟨b,o,rfl,hb,fun k hk=>(hc k (by omega)).trans (zde zs k hk)⟩
theorem zmo {P:Program} (t e:TypeId) (z:Value) (size bytes:Nat) (ht:P.underlying t=some (.slice e)) (hinfo:(P.info? e).map (fun i=>(i.zero,i.size,i.bytes))=some (some z,size,bytes))
  (kl kc:IntKind) (n:Nat) (hbytes:bytes*n<=281474976710656) (h63:n<=9223372036854775807) (w:World) :
  (Instr.makeSlice t (.int kl (n:Int)) (.int kc (n:Int))).run P w=.ok (.slice (some ⟨w.heap.size,0,none⟩) n n) (w.alloc (.cells (madeCells z.cells (n*size)) e)):=by
 obtain⟨i,hi,hz,hs,hb⟩:=info_parts hinfo;subst hs;subst hb
 have hb':(i.bytes:Int)*(n:Int)<=281474976710656:=by
  have h:((i.bytes*n:Nat):Int)<=281474976710656:=by omega
  rwa [Int.natCast_mul]at h
 have hr:=run_make (P:=P) w t e i z ht hi hz kl kc n n (by omega) (Int.le_refl _) hb' (by omega);simp only[Int.toNat_natCast]at hr;exact hr
theorem Row.at{w:World}{e:TypeId}{size lo hi:Nat}{b o n cap:Nat}{xs:List Value}(h:Row w e size lo hi (.slice (some ⟨b,o,none⟩) n cap) n xs) :
  o=0/\lo<=b/\b<hi/\b<w.heap.size/\(∀ j,w.frozen? ⟨b,j,none⟩=false)/\∀ j,j<n*size->w.cell? ⟨b,j,none⟩=xs[j]?:=by
 have ho:o=0:=by
  rcases h.1.2 with ⟨e,_⟩ | ⟨g,cp,cur,e,_⟩
  ·cases e
  ·cases e;rfl
 subst ho;exact⟨rfl,(h.1.lt b rfl).1,h.2 b rfl,(h.1.lt b rfl).2,fun j=>h.1.frozenAt j,fun j hj=>h.1.cellAt j hj⟩
theorem Row.stored{w:World}{e:TypeId}{size lo hi:Nat}{b n cap:Nat}{xs:List Value}(h:Row w e size lo hi (.slice (some ⟨b,0,none⟩) n cap) n xs)(j:Nat)(u:Value):Row (w.setCell ⟨b,j,none⟩ u) e size lo hi (.slice (some ⟨b,0,none⟩) n cap) n (xs.set j u) :=
 ⟨(World.ownsRow.stored h.1 j u).1,h.2⟩
theorem Row.shape{w:World}{e:TypeId}{size lo hi:Nat}{v:Value}{n:Nat}{xs:List Value}(h:Row w e size lo hi v n xs):(v=.N/\n=0/\xs=[])\/∃ b cap,v=.slice (some ⟨b,0,none⟩) n cap/\n<=cap/\cap<=maxLen:=by
 rcases h.1.2 with ⟨rfl,rfl⟩ | ⟨g,cap,cur,rfl,_,_,hnc,hcm,_⟩
 ·exact .inl ⟨rfl,rfl,List.eq_nil_of_length_eq_zero (by simpa using h.1.1)⟩
 ·exact .inr ⟨g,cap,rfl,hnc,hcm⟩
theorem yaox{zs:List Value}{j:Nat}{u:Value}{i:Nat}(hi:i<zs.length):(zs.set j u)[i]?=if i=j then some u else zs[i]?:=by
 by_cases e:i=j
 ·subst e;simp[hi]
 ·simp[e,show ¬ j=i from fun h=>e h.symm]
theorem zwb {P:Program} (w:World) (base:Nat) (t ty e:TypeId) (z:Value) (size bytes:Nat) (ht:P.underlying t=some (.slice e)) (hinfo:(P.info? e).map (fun i=>(i.zero,i.size,i.bytes))=some (some z,size,bytes)) (hzs:z.cells.size=size) (hsz:0<size)
  (v:Value) (n:Nat) (xs:List Value) (hown:w.ownsRow base e size v n xs) (u:Value) (m:Nat) (ys:List Value) (hr:Rd w size u m ys) (h1:∀ u∈ys,u.oneCell'=true)
  (h63:n+m<=maxLen) (hbytes:(n+m)*bytes<=140737488355328) (hbase:base<=w.heap.size) :
  ∃ v' w',(Builtin.append_ #[t,t] ty #[v,u]).run P w=.ok v' w'/\w'.ownsRow base e size v' (n+m) (xs++ys)/\w.grownBy w' v.ownBlock:=by
 obtain⟨i,hi,hz,hs,hb⟩:=info_parts hinfo;obtain⟨hl,ao,cap,rfl,⟨_,hnone⟩,hc⟩:=hr
 cases ao with
 | none =>
  have hm:m=0:=by
   rcases Nat.eq_zero_or_pos m with h | h
   ·exact h
   ·obtain⟨b,o,e,_⟩:=hc h;cases e
  subst hm;rw[hnone rfl];have hy:ys=[]:=List.eq_nil_of_length_eq_zero (by simpa using hl);subst hy;refine⟨v,w,run_append_owned_none (P:=P) w base t ty e i size ht hi v n xs hown,by simpa using hown,World.grownBy.refl _ _⟩
 | some a =>
  obtain⟨v',w',hrun,h2,h3,_⟩:=run_append_own (P:=P) w base t ty e i z size bytes ht hi hz hs hb hzs hsz v n xs hown a m cap ys hl (fun j u hu=>by
   have hj:j<ys.length:=(List.getElem?_eq_some_iff.1 hu).1
   have hm:0<m:=by
    rcases Nat.eq_zero_or_pos m with h | h
    ·subst h;simp at hl;subst hl;simp at hj
    ·exact h
   obtain⟨b,o,e,_,hcell⟩:=hc hm
   cases e
   rw[Addr.add_lit,hcell j (by omega)];exact hu) h1 h63 hbytes hbase
  exact⟨v',w',hrun,h2,h3⟩
theorem zok {P:Program} (w:World) {o:Oper} {a:Act} {K:Act->World->Prop} {Q:Exit->Act->World->Prop} (s x:Operand) (t:TypeId)
  (ho:o.op=.call { callee:=.builtin .append,args:=#[s,x],argTypes:=#[t,t] })
  (base:Nat) (e:TypeId) (z:Value) (size bytes:Nat) (ht:P.underlying t=some (.slice e)) (hinfo:(P.info? e).map (fun i=>(i.zero,i.size,i.bytes))=some (some z,size,bytes)) (hzs:z.cells.size=size) (hsz:0<size)
  (v:Value) (n:Nat) (xs:List Value) (hs:a.eval s=v) (hown:w.ownsRow base e size v n xs) (u:Value) (m:Nat) (ys:List Value) (hx:a.eval x=u) (hr:Rd w size u m ys) (h1:∀ u∈ys,u.oneCell'=true)
  (h63:n+m<=maxLen) (hbytes:(n+m)*bytes<=140737488355328) (hbase:base<=w.heap.size)
  (h:∀ v' w',w'.ownsRow base e size v' (n+m) (xs++ys)->w.grownBy w' v.ownBlock->K (a.put o.dst v') w'):o.wp P a w K Q:=by
 obtain⟨v',w',hrun,h2,h3⟩:=zwb (P:=P) w base t o.type e z size bytes ht hinfo hzs hsz v n xs hown u m ys hr h1 h63 hbytes hbase;unfold Oper.wp execOp;simp only[ho,resolve,invoke,builtin,Sem.run_bind,Sem.run_pure,Result.andThen_ok,List.map_toArray,List.map_cons,List.map_nil,hs,hx,hrun];exact h v' w' h2 h3
theorem zae {P:Program} (w:World) {ops:Array Oper} {rest:List Oper} {o:Oper} {a:Act} {Q:Exit->Act->World->Prop} (hgd:o.guard=none) (s x:Operand) (t:TypeId)
  (ho:o.op=.call { callee:=.builtin .append,args:=#[s,x],argTypes:=#[t,t] })
  (base:Nat) (e:TypeId) (z:Value) (size bytes:Nat) (ht:P.underlying t=some (.slice e)) (hinfo:(P.info? e).map (fun i=>(i.zero,i.size,i.bytes))=some (some z,size,bytes)) (hzs:z.cells.size=size) (hsz:0<size)
  (v:Value) (n:Nat) (xs:List Value) (hs:a.eval s=v) (hown:w.ownsRow base e size v n xs) (u:Value) (m:Nat) (ys:List Value) (hx:a.eval x=u) (hr:Rd w size u m ys) (h1:∀ u∈ys,u.oneCell'=true)
  (h63:n+m<=maxLen) (hbytes:(n+m)*bytes<=140737488355328) (hbase:base<=w.heap.size)
  (h:∀ v' w',w'.ownsRow base e size v' (n+m) (xs++ys)->w.grownBy w' v.ownBlock->wpList P ops Q rest (a.put o.dst v') w'):wpList P ops Q (o::rest) a w :=
 wpList_plain hgd fun _ hK=>zok w s x t ho base e z size bytes ht hinfo hzs hsz v n xs hs hown u m ys hx hr h1 h63 hbytes hbase fun v' w' h2 h3=>hK _ _ (h v' w' h2 h3)
theorem zap {P:Program} {ops:Array Oper} {o:Oper} {a:Act} {w:World} {K:Act->World->Prop} {Q:Exit->Act->World->Prop} {E:Prop}
  (hg:o.guard=none) (s x:Operand) (t:TypeId) (ho:o.op=Op.call { callee:=Callee.builtin Builtin.append,args:=#[s,x],argTypes:=#[t,t] })
  (base:Nat) (e:TypeId) (z:Value) (size bytes:Nat) (ht:P.underlying t=some (.slice e)) (hinfo:(P.info? e).map (fun i=>(i.zero,i.size,i.bytes))=some (some z,size,bytes)) (hzs:z.cells.size=size) (hsz:0<size)
  (v:Value) (n:Nat) (xs:List Value) (hs:a.eval s=v) (hown:w.ownsRow base e size v n xs) (u:Value) (m:Nat) (ys:List Value) (hx:a.eval x=u) (hr:Rd w size u m ys) (h1:∀ u∈ys,u.oneCell'=true)
  (h63:n+m<=maxLen) (hbytes:(n+m)*bytes<=140737488355328) (hbase:base<=w.heap.size)
  (h:∀ v' w',w'.ownsRow base e size v' (n+m) (xs++ys)->w.grownBy w' v.ownBlock->K (a.put o.dst v') w'):if Region.wanted o (yielded ops a.tmps)=true then Oper.wp P o a w K Q else E:=by
 have hw:Region.wanted o (yielded ops a.tmps)=true:=by simp[Region.wanted,hg]
 rw[if_pos hw];exact zok w s x t ho base e z size bytes ht hinfo hzs hsz v n xs hs hown u m ys hx hr h1 h63 hbytes hbase h
theorem zad{w:World}{base:Nat}{e:TypeId}{size:Nat}{v:Value}{n:Nat}{xs:List Value}(h:w.ownsRow base e size v n xs):Row w e size base w.heap.size v n xs:=⟨h,fun k hk=>(h.lt k hk).2⟩
theorem zfw(w:World)(o:Obj)(k:Nat):(w.alloc o).heap[k]?=if k=w.heap.size then some o else w.heap[k]?:=by
 show(w.heap.push o)[k]?=_
 rw[Array.getElem?_push]
theorem zaf{w:World}{o:Obj}{k:Nat}(h:k=w.heap.size):(w.alloc o).heap[k]?=some o:=by rw[zfw,if_pos h]
theorem zaj{w:World}{o x:Obj}{k:Nat}(h:w.heap[k]?=some x):(w.alloc o).heap[k]?=some x:=by
 rw[zfw,if_neg]
 ·exact h
 ·have:=(Array.getElem?_eq_some_iff.1 h).1;omega
theorem zac{w:World}{b:Nat}{t:TypeId}{x y:Value}(h:w.heap[b]?=some (.cells #[x,y] t (0,0))) :
  w.cell? ⟨b,0,none⟩=some x/\w.cell? ⟨b,1,none⟩=some y/\w.frozen? ⟨b,0,none⟩=false/\w.frozen? ⟨b,1,none⟩=false:=by
 simp[World.cell?,World.frozen?,h]
theorem zmu{w:World}{b:Nat}{t:TypeId}{x y:Value}(h:w.heap[b]?=some (.cells #[x,y] t (0,0)))(u:Value):(w.setCell ⟨b,0,none⟩ u).heap[b]?=some (.cells #[u,y] t (0,0)):=by
 simp[World.setCell,Array.getElem?_modify,h]
theorem zmw{w:World}{b:Nat}{t:TypeId}{x y:Value}(h:w.heap[b]?=some (.cells #[x,y] t (0,0)))(u:Value):(w.setCell ⟨b,1,none⟩ u).heap[b]?=some (.cells #[x,u] t (0,0)):=by
 simp[World.setCell,Array.getElem?_modify,h]
theorem zbt{α:Type}(f:α->List Value)(n:Nat)(hf:∀ x,(f x).length=n):∀ (l:List α) (k j:Nat) (hk:k<l.length),j<n->(l.flatMap f)[k*n+j]?=(f l[k])[j]?
 | [],k,j,hk,_=>by simp at hk
 | x::l,0,j,_,hj=>by
  rw[List.flatMap_cons,Nat.zero_mul,Nat.zero_add,List.getElem?_append_left (by rw[hf];exact hj)];rfl
 | x::l,k+1,j,hk,hj=>by
  have e:(k+1)*n+j=n+(k*n+j):=by rw[Nat.add_mul,Nat.one_mul];omega
  rw[List.flatMap_cons,e,List.getElem?_append_right (by rw[hf];omega),hf,Nat.add_sub_cancel_left];simpa using zbt f n hf l k j (by simpa using hk) hj
theorem zrb{α:Type}(f:α->List Value)(n:Nat)(hf:∀ x,(f x).length=n)(l:List α):(l.flatMap f).length=l.length*n:=by
 induction l with
 | nil=>simp
 | cons x l ih=>rw[List.flatMap_cons,List.length_append,hf,ih,List.length_cons,Nat.add_mul];omega
theorem zab{B:Nat}{a b c:World}(h:Below B a b)(k:zB b c)(hB:B<=b.heap.size):Below B a c:=h.trans (k.mono hB)
theorem zdf{a b c d:Int}(h:a=b)(k:c=d):Ending.returned (.tuple #[.I a,.I c])=.returned (.tuple #[.I b,.I d]):=by rw[h,k]
theorem Row.sameV{w w':World}{e:TypeId}{size lo hi:Nat}{v:Value}{n:Nat}{xs:List Value}(h:Row w e size lo hi v n xs)(hs:∀ b,v.ownBlock=some b->w'.heap[b]?=w.heap[b]?):Row w' e size lo hi v n xs:=by
 obtain⟨⟨h1,h2⟩,h3⟩:=h;refine⟨⟨h1,?_⟩,h3⟩
 rcases h2 with h2 | ⟨g,cap,cur,rfl,hb,hg,r⟩
 ·exact .inl h2
 ·exact .inr ⟨g,cap,cur,rfl,hb,(hs g rfl).trans hg,r⟩
theorem Row.setOther{w:World}{e:TypeId}{size lo hi:Nat}{v:Value}{n:Nat}{xs:List Value}(h:Row w e size lo hi v n xs){a:Addr}(ha:v.ownBlock≠some a.block)(u:Value):Row (w.setCell a u) e size lo hi v n xs :=
 h.sameV (fun b hb=>Below.heap_setCell _ _ _ _ (fun e=>ha (by rw[hb,e])))
theorem Row.ne_type{w:World}{e:TypeId}{size lo hi:Nat}{v:Value}{n:Nat}{xs:List Value}(h:Row w e size lo hi v n xs){b:Nat}{t:TypeId}{cs:Array Value}{fr:Nat×Nat}(hb:w.heap[b]?=some (.cells cs t fr))(ht:t≠e):v.ownBlock≠some b:=by
 intro e0
 rcases h.1.2 with ⟨rfl,_⟩ | ⟨g,cap,cur,rfl,_,hg,_⟩
 ·cases e0
 ·cases e0
  rw[hg]at hb;simp at hb;exact ht hb.2.1.symm
theorem Row.alloc{w:World}{e:TypeId}{size lo hi:Nat}{v:Value}{n:Nat}{xs:List Value}(h:Row w e size lo hi v n xs)(hi1:hi<=w.heap.size)(o:Obj):Row (w.alloc o) e size lo hi v n xs :=
 h.below (zR.alloc zL o) hi1
theorem zay{w:World}{b:Nat}{t:TypeId}{x y z:Value}{fr:Nat×Nat}(h:w.heap[b]?=some (.cells #[x,y,z] t fr)) :
  w.cell? ⟨b,0,none⟩=some x/\w.cell? ⟨b,1,none⟩=some y/\w.cell? ⟨b,2,none⟩=some z:=by
 simp[World.cell?,h]
theorem zdb{α:Type}(l:List α)(m:Nat)(h:m<l.length):l.take (m+1)=l.take m++[l[m]]:=List.take_succ_eq_append_getElem h
theorem zim:(Tryz.prog.info? 3).map (fun i=>(i.zero,i.size,i.bytes))=some (some (.I 0),1,8):=by kernel_rfl
theorem zeg(zs:List Int):∀ u∈zcl zs,u.oneCell'=true:=ints_oneCell _ zs
theorem RdI.form{w:World}{v:Value}{zs:List Int}(h:RdI w v zs){n:Nat}(hn:zs.length=n):∃ ao cap,v=.slice ao n cap:=by
 obtain⟨ao,cap,e,_⟩:=h.shape;exact⟨ao,cap,by rw[<- hn];exact e⟩
theorem zic(zs:List Int)(j:Nat)(x:Int):(zcl zs).set j (.I x)=zcl (zs.set j x):=by simp[zcl,List.map_set]
theorem yaon(zs:List Int)(x:Int):zcl (zs++[x])=zcl zs++[.I x]:=by simp[zcl]
theorem zxv(w1:World)(x:Int):Rd (w1.alloc (.cells #[.I x] 3)) 1 (.slice (some ⟨w1.heap.size,0,none⟩) 1 1) 1 [.I x]:=by
 refine⟨rfl,_,_,rfl,⟨Nat.le_refl _,fun e=>by cases e⟩,fun _=>⟨w1.heap.size,0,rfl,by simp,fun j hj=>?_⟩⟩
 have hj0:j=0:=by omega
 subst hj0;have e:=zaf (w:=w1) (o:=.cells #[.I x] 3) rfl;simp only[World.cell?,Nat.add_zero];rw[e];rfl
theorem zbr(n lo hi:Int)(w:World)(h:lo<=n/\n<=hi):zC 65 #[.I n,.I lo,.I hi] w fun e w'=>e=.returned (.bool true)/\w'=w:=by
 obtain⟨h1,h2⟩:=h;go_enter Tryz.func65,Tryz.ntmps65;go_wp2;go_ret;exact⟨rfl,rfl⟩
theorem zgs(n lo hi:Int)(w:World)(h:¬ (lo<=n/\n<=hi)):zC 65 #[.I n,.I lo,.I hi] w fun e w'=>e=.returned (.bool false)/\w'=w:=by
 rcases(show ¬ lo<=n\/(lo<=n/\¬ n<=hi) by omega)with h1 | ⟨h1,h2⟩
 all_goals
  clear h;go_enter Tryz.func65,Tryz.ntmps65;go_wp2;go_ret;exact⟨rfl,rfl⟩
theorem zaq(n hi:Int)(w:World)(h:0<=n/\n<hi):zC 50 #[.I n,.I hi] w fun e w'=>e=.returned (.bool true)/\w'=w:=by
 obtain⟨h1,h2⟩:=h;go_enter Tryz.func50,Tryz.ntmps50;go_wp2;go_ret;exact⟨rfl,rfl⟩
theorem zbe(n hi:Int)(w:World)(h:¬ (0<=n/\n<hi)):zC 50 #[.I n,.I hi] w fun e w'=>e=.returned (.bool false)/\w'=w:=by
 rcases(show ¬ 0<=n\/(0<=n/\¬ n<hi) by omega)with h1 | ⟨h1,h2⟩
 all_goals
  clear h;go_enter Tryz.func50,Tryz.ntmps50;go_wp2;go_ret;exact⟨rfl,rfl⟩
def inoV(i f:Int):Int:=if (0<=i/\i<16)/\0<=f/\f<11 then 48+12*i+f else 0
def inoC(i f:Int):Int:=if (0<=i/\i<16)/\0<=f/\f<11 then 0 else 4
theorem yaux{i f:Int}(h:0<=i/\i<16)(k:0<=f/\f<11):inoV i f=48+12*i+f/\inoC i f=0:=by unfold inoV inoC;rw[if_pos ⟨h,k⟩,if_pos ⟨h,k⟩];exact⟨rfl,rfl⟩
theorem yans{i f:Int}(h:¬ ((0<=i/\i<16)/\0<=f/\f<11)):inoV i f=0/\inoC i f=4:=by unfold inoV inoC;rw[if_neg h,if_neg h];exact⟨rfl,rfl⟩
theorem zbf(i f:Int)(w:World)(h:0<=i/\i<16)(k:0<=f/\f<11):zC 71 #[.I i,.I f] w fun e w'=>e=.returned (.I (48+12*i+f))/\w'=w:=by
 go_enter Tryz.func71,Tryz.ntmps71;go_wp2;go_ret;exact⟨zdq (by first | rfl | omega | (go_num;omega)),rfl⟩
theorem zvz(i f:Int)(w:World):zC 149 #[.I i,.I f] w fun e w'=>e=.returned (.tuple #[.I (inoV i f),.I (inoC i f)])/\w'=w:=by
 by_cases c1:0<=i/\i<16
 ·by_cases c2:0<=f/\f<11
  ·have c3:=c1.1;have c4:=c1.2;have E:=zaa (yaux c1 c2);go_enter Tryz.func149,Tryz.ntmps149;go_wp2_with (first | (go_at_call 50;refine(zaq _ _ _ (by omega)).mono ?_;rintro e w' ⟨rfl,rfl⟩) | (go_at_call 50;refine(zbe _ _ _ (by omega)).mono ?_;rintro e w' ⟨rfl,rfl⟩));go_ret2;exact⟨zdf (by rw[E.o.1]) E.o.2.symm,rfl⟩
  ·have c3:¬ ((0<=i/\i<16)/\0<=f/\f<11):=fun x=>c2 x.2
   have E:=zaa (yans c3);go_enter Tryz.func149,Tryz.ntmps149;go_wp2_with (first | (go_at_call 50;refine(zaq _ _ _ (by omega)).mono ?_;rintro e w' ⟨rfl,rfl⟩) | (go_at_call 50;refine(zbe _ _ _ (by omega)).mono ?_;rintro e w' ⟨rfl,rfl⟩));go_ret2;exact⟨zdf (by rw[E.o.1]) E.o.2.symm,rfl⟩
 ·have c3:¬ ((0<=i/\i<16)/\0<=f/\f<11):=fun x=>c1 x.1
  have E:=zaa (yans c3);go_enter Tryz.func149,Tryz.ntmps149;go_wp2_with (first | (go_at_call 50;refine(zaq _ _ _ (by omega)).mono ?_;rintro e w' ⟨rfl,rfl⟩) | (go_at_call 50;refine(zbe _ _ _ (by omega)).mono ?_;rintro e w' ⟨rfl,rfl⟩));go_ret2;exact⟨zdf (by rw[E.o.1]) E.o.2.symm,rfl⟩
theorem zev(i f:Int)(w:World)(h:0<=i/\i<24)(k:0<=f/\f<3):zC 128 #[.I i,.I f] w fun e w'=>e=.returned (.I (240+3*i+f))/\w'=w:=by
 go_enter Tryz.func128,Tryz.ntmps128;go_wp2;go_ret;exact⟨zdq (by first | rfl | omega | (go_num;omega)),rfl⟩
theorem zcq{w:World}{b:Nat}{t:TypeId}{xs:List Value}(h:w.heap[b]?=some (.cells xs.toArray t (0,0)))(j:Nat)(u:Value):(w.setCell ⟨b,j,none⟩ u).heap[b]?=some (.cells (xs.set j u).toArray t (0,0)):=by
 simp[World.setCell,Array.getElem?_modify,h]
theorem zak{w:World}{b:Nat}{t:TypeId}{xs:List Value}(h:w.heap[b]?=some (.cells xs.toArray t (0,0)))(j:Nat):w.cell? ⟨b,j,none⟩=xs[j]?/\w.frozen? ⟨b,j,none⟩=false:=by
 simp[World.cell?,World.frozen?,h]
structure Ino where
 kind:Int
 size:Int
 links:Int
 m0:Int
 m1:Int
 m2:Int
 m3:Int
 m4:Int
 m5:Int
 m6:Int
 m7:Int
def Ino.map(x:Ino):List Int:=[x.m0,x.m1,x.m2,x.m3,x.m4,x.m5,x.m6,x.m7]
def Ino.v(x:Ino):Value:=.agg #[.I x.kind,.I x.size,.I x.links,.I x.m0,.I x.m1,.I x.m2,.I x.m3,.I x.m4,.I x.m5,.I x.m6,.I x.m7]
def Ino.cs(x:Ino):List Value:=[.I x.kind,.I x.size,.I x.links,.I x.m0,.I x.m1,.I x.m2,.I x.m3,.I x.m4,.I x.m5,.I x.m6,.I x.m7]
def TS(w:World):Prop:=∃ t fr,w.heap[1]?=some (.cells #[.I 1,.I 24,.I 32] t fr)
theorem TS.lt{w:World}(h:TS w):1<w.heap.size:=by
 obtain⟨t,fr,h⟩:=h;exact(Array.getElem?_eq_some_iff.1 h).1
theorem TS.below{w w':World}(h:TS w)(hb:zB w w'):TS w':=by
 have hl:=h.lt;obtain⟨t,fr,h⟩:=h;exact⟨t,fr,(hb.block _ hl).trans h⟩
theorem TS.cells{w:World}(h:TS w):w.cell? ⟨1,0,none⟩=some (.I 1)/\w.cell? ⟨1,1,none⟩=some (.I 24)/\w.cell? ⟨1,2,none⟩=some (.I 32):=by
 obtain⟨t,fr,h⟩:=h;simp[World.cell?,h]
def zfb(t a:Int):Bool:=decide ((t=0/\a=0)\/(t=1/\0<=a/\a<24)\/(t=2/\0<=a/\a<32))
def entV(t a:Int):Int:=if zfb t a=true then 4*a+t else 0
def entC(t a:Int):Int:=if zfb t a=true then 0 else 4
theorem ybbb{t a:Int}(h:zfb t a=true):entV t a=4*a+t/\entC t a=0:=by unfold entV entC;rw[if_pos h,if_pos h];exact⟨rfl,rfl⟩
theorem yays{t a:Int}(h:zfb t a=false):entV t a=0/\entC t a=4:=by unfold entV entC;rw[h];exact⟨rfl,rfl⟩
theorem yaga{t a:Int}(h:(t=0/\a=0)\/(t=1/\0<=a/\a<24)\/(t=2/\0<=a/\a<32)):zfb t a=true:=decide_eq_true h
theorem zlv{t a:Int}(h:¬ ((t=0/\a=0)\/(t=1/\0<=a/\a<24)\/(t=2/\0<=a/\a<32))):zfb t a=false:=decide_eq_false h
theorem ztz{t a:Int}(h:zfb t a=true):(t=0/\a=0)\/(t=1/\0<=a/\a<24)\/(t=2/\0<=a/\a<32):=of_decide_eq_true h
def zeo(e:Int):Bool:=decide (0<=e)&&zfb (e%4) (e/4)
def tieT(e:Int):Int:=if zeo e=true then e%4 else 0
def tieA(e:Int):Int:=if zeo e=true then e/4 else 0
def tieC(e:Int):Int:=if zeo e=true then 0 else 3
theorem zun{e:Int}(h:zeo e=true):tieT e=e%4/\tieA e=e/4/\tieC e=0:=by unfold tieT tieA tieC;rw[if_pos h,if_pos h,if_pos h];exact⟨rfl,rfl,rfl⟩
theorem yadr{e:Int}(h:zeo e=false):tieT e=0/\tieA e=0/\tieC e=3:=by unfold tieT tieA tieC;rw[h];exact⟨rfl,rfl,rfl⟩
theorem yaoz{n:Int}(h:n<0):zfb (n.tmod 4) (n.tdiv 4)=false:=by
 apply zlv
 obtain⟨m,rfl⟩:∃ m:Int,n=-m:=⟨-n,by omega⟩
 rw[Int.neg_tmod,Int.neg_tdiv,Int.tmod_eq_emod_of_nonneg (by omega),Int.tdiv_eq_ediv_of_nonneg (by omega)];omega
theorem zqw{a b c d e f:Int}(h:a=b)(k:c=d)(l:e=f):Ending.returned (.tuple #[.I a,.I c,.I e])=.returned (.tuple #[.I b,.I d,.I f]):=by rw[h,k,l]
theorem zmk(t a:Int)(w:World)(hT:TS w)(h:zfb t a=true):zC 54 #[.I t,.I a] w fun e w'=>e=.returned (.bool true)/\w'=w:=by
 obtain⟨x0,x1,x2⟩:=hT.cells;clear hT
 rcases ztz h with ⟨rfl,rfl⟩ | ⟨rfl,h1,h2⟩ | ⟨rfl,h1,h2⟩
 all_goals
  clear h;go_enter Tryz.func54,Tryz.ntmps54;go_wp2_with (go_at_call 50;refine(zaq _ _ _ (by omega)).mono ?_;rintro e w' ⟨rfl,rfl⟩);go_ret;exact⟨rfl,rfl⟩
theorem ziz(t a:Int)(w:World)(hT:TS w)(h:zfb t a=false):zC 54 #[.I t,.I a] w fun e w'=>e=.returned (.bool false)/\w'=w:=by
 obtain⟨x0,x1,x2⟩:=hT.cells;have h':¬ ((t=0/\a=0)\/(t=1/\0<=a/\a<24)\/(t=2/\0<=a/\a<32)):=of_decide_eq_false h;clear hT h
 rcases(show(t=0/\¬ (0<=a/\a<1))\/(t=1/\¬ (0<=a/\a<24))\/(t=2/\¬ (0<=a/\a<32))\/¬ (0<=t/\t<3) by omega)with ⟨rfl,ha⟩ | ⟨rfl,ha⟩ | ⟨rfl,ha⟩ | ha
 all_goals
  have H:=zaa ha;clear h' ha;go_enter Tryz.func54,Tryz.ntmps54;go_wp2_with (first | (go_at_call 50;refine(zaq _ _ _ (by omega)).mono ?_;rintro e w' ⟨rfl,rfl⟩) | (go_at_call 50;refine(zbe _ _ _ H.o).mono ?_;rintro e w' ⟨rfl,rfl⟩));go_ret;exact⟨rfl,rfl⟩
theorem zng(t a:Int)(w:World)(hT:TS w):zC 23 #[.I t,.I a] w fun e w'=>e=.returned (.tuple #[.I (entV t a),.I (entC t a)])/\w'=w:=by
 by_cases c:zfb t a=true
 ·have E:=zaa (ybbb c);have C:=zaa c;have b:=ztz c;have T:=zaa hT
  have t0:0<=t/\t<3:=by omega
  have a0:0<=a/\a<32:=by omega
  obtain⟨t1,t2⟩:=t0;obtain⟨a1,a2⟩:=a0;clear b c hT;go_enter Tryz.func23,Tryz.ntmps23;go_wp2_with (go_at_call 54;refine(zmk _ _ _ T.o C.o).mono ?_;rintro e w' ⟨rfl,rfl⟩);go_ret2;exact⟨zdf (by rw[E.o.1]) E.o.2.symm,rfl⟩
 ·have c':zfb t a=false:=by simpa using c
  have E:=zaa (yays c');have C:=zaa c';have T:=zaa hT;clear c c' hT;go_enter Tryz.func23,Tryz.ntmps23;go_wp2_with (go_at_call 54;refine(ziz _ _ _ T.o C.o).mono ?_;rintro e w' ⟨rfl,rfl⟩);go_ret2;exact⟨zdf E.o.1.symm E.o.2.symm,rfl⟩
theorem zfi(n:Int)(w:World)(hT:TS w)(h0:-9223372036854775808<=n)(h1:n<=9223372036854775807):zC 81 #[.I n] w fun e w'=>e=.returned (.tuple #[.I (tieT n),.I (tieA n),.I (tieC n)])/\w'=w:=by
 have T:=zaa hT;clear hT
 by_cases c0:0<=n
 ·by_cases c:zfb (n%4) (n/4)=true
  ·have E:=zaa (zun (e:=n) (by unfold zeo;rw[c,decide_eq_true c0];rfl));have C:=zaa c;clear c;go_enter Tryz.func81,Tryz.ntmps81;go_wp2_with (go_at_call 54;refine(zmk _ _ _ T.o C.o).mono ?_;rintro e w' ⟨rfl,rfl⟩);go_ret3;exact⟨zqw (by rw[E.o.1]) (by rw[E.o.2.1]) E.o.2.2.symm,rfl⟩
  ·have c':zfb (n%4) (n/4)=false:=by simpa using c
   have E:=zaa (yadr (e:=n) (by unfold zeo;rw[c'];simp));have C:=zaa c';clear c c';go_enter Tryz.func81,Tryz.ntmps81;go_wp2_with (go_at_call 54;refine(ziz _ _ _ T.o C.o).mono ?_;rintro e w' ⟨rfl,rfl⟩);go_ret3;exact⟨zqw E.o.1.symm E.o.2.1.symm E.o.2.2.symm,rfl⟩
 ·have E:=zaa (yadr (e:=n) (by unfold zeo;rw[decide_eq_false c0];rfl));go_enter Tryz.func81,Tryz.ntmps81;go_wp2_with (go_at_call 54;refine(ziz _ _ _ T.o (yaoz (by omega))).mono ?_;rintro e w' ⟨rfl,rfl⟩);go_ret3;exact⟨zqw E.o.1.symm E.o.2.1.symm E.o.2.2.symm,rfl⟩
theorem zgt(t a:Int)(w:World)(h:0<=t/\t<3)(k:0<=a/\a<32):zC 70 #[.I t,.I a] w fun e w'=>e=.returned (.I (4*a+t))/\w'=w:=by
 go_enter Tryz.func70,Tryz.ntmps70;go_wp2;go_ret;exact⟨rfl,rfl⟩
theorem zfd(n:Int)(w:World)(h0:0<=n)(h1:n<=9223372036854775807):zC 160 #[.I n] w fun e w'=>e=.returned (.tuple #[.I (n%4),.I (n/4)])/\w'=w:=by
 go_enter Tryz.func160,Tryz.ntmps160;go_wp2;go_ret2;exact⟨rfl,rfl⟩
theorem yacc(n:Int)(w:World)(h0:n<0)(h1:-9223372036854775808<=n):zC 160 #[.I n] w fun e w'=>(∃ x y:Int,e=.returned (.tuple #[.I x,.I y]))/\w'=w:=by
 go_enter Tryz.func160,Tryz.ntmps160;go_wp2;go_ret2;exact⟨⟨_,_,rfl⟩,rfl⟩
theorem zfk(n:Int)(w:World)(h0:-9223372036854775808<=n)(h1:n<=9223372036854775807):zC 179 #[.I n] w fun e w'=>e=.returned (.bool (zeo n))/\w'=w:=by
 rcases(show n<0\/n=0\/0<n by omega)with c | rfl | c
 ·have E:=zaa (show zeo n=false by unfold zeo;rw[decide_eq_false (by omega)];rfl)
  have q0:(n == 0)=false:=by rw[beq_eq_false_iff_ne];omega
  have q1:¬ 0<n:=by omega
  go_enter Tryz.func179,Tryz.ntmps179;go_wp2_with fail;refine(yacc _ _ c h0).mono ?_;rintro e w' ⟨⟨x,y,rfl⟩,rfl⟩;go_wp2;go_ret;exact⟨zag E.o.symm,rfl⟩
 ·go_enter Tryz.func179,Tryz.ntmps179;go_wp2;go_ret;exact⟨zag (by decide),rfl⟩
 ·have q0:(n == 0)=false:=by rw[beq_eq_false_iff_ne];omega
  have E:=zaa (show zeo n=zfb (n%4) (n/4) by unfold zeo;rw[decide_eq_true (by omega)];rfl)
  rcases(show(n%4=1/\n/4<24)\/(n%4=1/\¬ n/4<24)\/(n%4=2/\n/4<32)\/(n%4=2/\¬ n/4<32)\/(¬ n%4=1/\¬ n%4=2) by omega)with ⟨r,q⟩ | ⟨r,q⟩ | ⟨r,q⟩ | ⟨r,q⟩ | ⟨r,q⟩
  ·have A:=zaa (yaga (t:=n%4) (a:=n/4) (by omega))
   have r1:(n%4 == 1)=true:=by rw[beq_iff_eq];exact r
   clear r;go_enter Tryz.func179,Tryz.ntmps179;go_wp2_with fail;refine(zfd _ _ (by omega) h1).mono ?_;rintro e w' ⟨rfl,rfl⟩;go_wp2;go_ret;exact⟨zag (by rw[E.o,A.o];first | done | exact decide_eq_false (by omega)),rfl⟩
  ·have A:=zaa (zlv (t:=n%4) (a:=n/4) (by omega))
   have r1:(n%4 == 1)=true:=by rw[beq_iff_eq];exact r
   have r2:(n%4 == 2)=false:=by rw[beq_eq_false_iff_ne];omega
   clear r;go_enter Tryz.func179,Tryz.ntmps179;go_wp2_with fail;refine(zfd _ _ (by omega) h1).mono ?_;rintro e w' ⟨rfl,rfl⟩;go_wp2;go_ret;exact⟨zag (by rw[E.o,A.o];first | done | exact decide_eq_false (by omega)),rfl⟩
  ·have A:=zaa (yaga (t:=n%4) (a:=n/4) (by omega))
   have r1:(n%4 == 1)=false:=by rw[beq_eq_false_iff_ne];omega
   have r2:(n%4 == 2)=true:=by rw[beq_iff_eq];exact r
   clear r;go_enter Tryz.func179,Tryz.ntmps179;go_wp2_with fail;refine(zfd _ _ (by omega) h1).mono ?_;rintro e w' ⟨rfl,rfl⟩;go_wp2;go_ret;exact⟨zag (by rw[E.o,A.o];first | done | exact decide_eq_false (by omega)),rfl⟩
  ·have A:=zaa (zlv (t:=n%4) (a:=n/4) (by omega))
   have r1:(n%4 == 1)=false:=by rw[beq_eq_false_iff_ne];omega
   have r2:(n%4 == 2)=true:=by rw[beq_iff_eq];exact r
   clear r;go_enter Tryz.func179,Tryz.ntmps179;go_wp2_with fail;refine(zfd _ _ (by omega) h1).mono ?_;rintro e w' ⟨rfl,rfl⟩;go_wp2;go_ret;exact⟨zag (by rw[E.o,A.o];first | done | exact decide_eq_false (by omega)),rfl⟩
  ·have A:=zaa (zlv (t:=n%4) (a:=n/4) (by omega))
   have r1:(n%4 == 1)=false:=by rw[beq_eq_false_iff_ne];exact r
   have r2:(n%4 == 2)=false:=by rw[beq_eq_false_iff_ne];exact q
   clear r q;go_enter Tryz.func179,Tryz.ntmps179;go_wp2_with fail;refine(zfd _ _ (by omega) h1).mono ?_;rintro e w' ⟨rfl,rfl⟩;go_wp2;go_ret;exact⟨zag (by rw[E.o,A.o];first | done | exact decide_eq_false (by omega)),rfl⟩
end Go.Proofs.YtdiaiejmoocpmaaGreatDoor
