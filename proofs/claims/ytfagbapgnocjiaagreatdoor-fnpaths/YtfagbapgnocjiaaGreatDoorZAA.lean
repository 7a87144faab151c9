import Derived.Test.YtfagbapgnocjiaaGreatDoorRows
import Derived.WalkKit
import Derived.WalkSpells
import Derived.WalkSmall
import Derived.Deep.OwnRows
import Derived.Deep.QuietTactic
import Derived.BigQuiet
import Derived.Deep.RegionWith
namespace Go.Proofs.YtfagbapgnocjiaaGreatDoor
open Go.RowKit
theorem zL{n:Nat}:n<=n:=Nat.le_refl n
theorem zR{B:Nat}{w:World}:Below B w w:=Below.refl B w
theorem zE{α:Type}(a:α):∃ b,b=a:=⟨a,rfl⟩
abbrev _root_.Go.Value.I(x:Int):Value:=.int .i64 x
abbrev _root_.Go.Value.N:Value:=.slice none 0 0
abbrev zB(a b:World):Prop:=Below a.heap.size a b
abbrev zC:=Calls Tryz.prog
theorem _root_.Go.RowKit.Hid.o{p : Prop}(h : Hid p) : p := h
theorem zaa{p:Prop}(h:p):Hid p:=h
theorem zah{a b:Bool}(h:a=b):Ending.returned (.bool a)=.returned (.bool b):=by rw[h]
theorem zcx{a b:Int}(h:a=b):Ending.returned (.I a)=.returned (.I b):=by rw[h]
def Rd(w:World)(size:Nat)(v:Value)(n:Nat)(xs:List Value):Prop :=
 xs.length=n*size/\∃ ao cap,v=.slice ao n cap/\(n<=cap/\(ao=none->cap=0))/\(0<n->∃ b o,ao=some ⟨b,o,none⟩/\b<w.heap.size/\∀ j,j<n*size->w.cell? ⟨b,o+j,none⟩=xs[j]?)
theorem Rd.same{w w':World}{size:Nat}{v:Value}{n:Nat}{xs:List Value}(h:Rd w size v n xs)(hz:w.heap.size<=w'.heap.size)(hs:∀ b,b<w.heap.size->v.ownBlock=some b->w'.heap[b]?=w.heap[b]?):Rd w' size v n xs:=by
 obtain⟨h1,ao,cap,rfl,h2,h3⟩:=h;refine⟨h1,ao,cap,rfl,h2,fun hn=>?_⟩;obtain⟨b,o,rfl,hb,hc⟩:=h3 hn;exact⟨b,o,rfl,Nat.lt_of_lt_of_le hb hz,fun j hj=>(World.cell?_of_block (w:=w) (hs b hb rfl)).trans (hc j hj)⟩
theorem Rd.below{w w':World}{size:Nat}{v:Value}{n:Nat}{xs:List Value}(h:Rd w size v n xs)(hb:zB w w'):Rd w' size v n xs :=
 h.same hb.size (fun b hlt _=>hb.block b hlt)
theorem Rd.alloc{w:World}{size:Nat}{v:Value}{n:Nat}{xs:List Value}(h:Rd w size v n xs)(o:Obj):Rd (w.alloc o) size v n xs :=
 h.below (zR.alloc zL _)
def Row(w:World)(e:TypeId)(size lo hi:Nat)(v:Value)(n:Nat)(xs:List Value):Prop:=w.ownsRow lo e size v n xs/\∀ k,v.ownBlock=some k->k<hi
theorem Row.rd{w:World}{e:TypeId}{size lo hi:Nat}{v:Value}{n:Nat}{xs:List Value}(h:Row w e size lo hi v n xs):Rd w size v n xs:=by
 obtain⟨h,_⟩:=h;refine⟨h.1,?_⟩
 rcases h.2 with ⟨rfl,rfl⟩ | ⟨g,cap,cur,rfl,hb,hg,hnc,hcm,hcs,htake⟩
 ·exact⟨none,0,rfl,⟨Nat.le_refl _,fun _=>rfl⟩,fun h=>absurd h (by omega)⟩
 ·refine⟨_,cap,rfl,⟨hnc,fun e=>by cases e⟩,fun _=>⟨g,0,rfl,(Array.getElem?_eq_some_iff.1 hg).1,fun j hj=>?_⟩⟩;rw[Nat.zero_add];exact World.ownsRow.cellAt h j hj
theorem Row.same{w w':World}{e:TypeId}{size lo hi:Nat}{v:Value}{n:Nat}{xs:List Value}(h:Row w e size lo hi v n xs)(hs:∀ b,lo<=b->b<hi->w'.heap[b]?=w.heap[b]?):Row w' e size lo hi v n xs:=by
 obtain⟨⟨h1,h2⟩,h3⟩:=h;refine⟨⟨h1,?_⟩,h3⟩
 rcases h2 with h2 | ⟨g,cap,cur,rfl,hb,hg,r⟩
 ·exact .inl h2
 ·exact .inr ⟨g,cap,cur,rfl,hb,(hs g hb (h3 g rfl)).trans hg,r⟩
theorem Row.below{w w':World}{e:TypeId}{size lo hi:Nat}{v:Value}{n:Nat}{xs:List Value}(h:Row w e size lo hi v n xs){B:Nat}(hb:Below B w w')(hB:hi<=B):Row w' e size lo hi v n xs :=
 h.same (fun b _ hb2=>hb.block b (by omega))
theorem Row.wide{w:World}{e:TypeId}{size lo hi:Nat}{v:Value}{n:Nat}{xs:List Value}(h:Row w e size lo hi v n xs){lo' hi':Nat}(h1:lo'<=lo)(h2:hi<=hi'):Row w e size lo' hi' v n xs:=by
 obtain⟨⟨a,b⟩,c⟩:=h;refine⟨⟨a,?_⟩,fun k hk=>Nat.lt_of_lt_of_le (c k hk) h2⟩
 rcases b with b | ⟨g,cap,cur,rfl,hb,r⟩
 ·exact .inl b
 ·exact .inr ⟨g,cap,cur,rfl,Nat.le_trans h1 hb,r⟩
theorem Row.nil(w:World)(e:TypeId)(size lo hi:Nat):Row w e size lo hi (.N) 0 []:=⟨World.ownsRow_nil w lo e size,fun _ h=>by cases h⟩
structure Outside(lo hi:Nat)(w w':World):Prop where
 os:w'.os=w.os
 tape:w'.tape=w.tape
 output:w'.output=w.output
 size:w.heap.size<=w'.heap.size
 block:∀ k,k<w.heap.size->(k<lo\/hi<=k)->w'.heap[k]?=w.heap[k]?
theorem Outside.refl(lo hi:Nat)(w:World):Outside lo hi w w:=⟨rfl,rfl,rfl,Nat.le_refl _,fun _ _ _=>rfl⟩
theorem Outside.trans{lo hi:Nat}{a b c:World}(h:Outside lo hi a b)(k:Outside lo hi b c):Outside lo hi a c :=
 ⟨k.os.trans h.os,k.tape.trans h.tape,k.output.trans h.output,Nat.le_trans h.size k.size,fun i hi' ho=>(k.block i (Nat.lt_of_lt_of_le hi' h.size) ho).trans (h.block i hi' ho)⟩
theorem Outside.of_below{lo hi:Nat}{w w':World}(h:zB w w'):Outside lo hi w w':=⟨h.os,h.tape,h.output,h.size,fun k hk _=>h.block k hk⟩
theorem Outside.below{lo hi B:Nat}{w w':World}(h:Outside lo hi w w')(hB:B<=lo)(hz:B<=w.heap.size):Below B w w':=⟨h.os,h.tape,h.output,h.size,fun k hk=>h.block k (by omega) (.inl (by omega))⟩
theorem Outside.setCell{lo hi:Nat}{w w':World}(h:Outside lo hi w w'){a:Addr}(h1:lo<=a.block)(h2:a.block<hi)(u:Value):Outside lo hi w (w'.setCell a u) :=
 h.trans ⟨rfl,rfl,rfl,by simp[World.setCell],fun k _ ho=>Below.heap_setCell _ _ _ _ (by omega)⟩
theorem Row.outside{w w':World}{e:TypeId}{size lo hi:Nat}{v:Value}{n:Nat}{xs:List Value}(h:Row w e size lo hi v n xs){lo' hi':Nat}(ho:Outside lo' hi' w w')(hd:hi<=lo'\/hi'<=lo)(hz:hi<=w.heap.size):Row w' e size lo hi v n xs :=
 h.same (fun b h1 h2=>ho.block b (by omega) (by omega))
theorem Row.grown_outside{w0 w w':World}{e:TypeId}{size lo hi:Nat}{v:Value}{n:Nat}{xs:List Value}(h:Row w0 e size lo hi v n xs)(hg:w.grownBy w' v.ownBlock):Outside lo hi w w' :=
 ⟨hg.os,hg.tape,hg.output,hg.size,fun k hk ho=>hg.block k hk (fun e=>by have h1:=(h.1.lt k e.symm).1;have h2:=h.2 k e.symm;omega)⟩
theorem Row.apart{w w':World}{e e':TypeId}{size size' lo hi lo' hi':Nat}{v v':Value}{n n':Nat}{xs xs':List Value}(h:Row w e size lo hi v n xs)(h':Row w e' size' lo' hi' v' n' xs')(hne:e≠e')(hg:w.grownBy w' v'.ownBlock):Row w' e size lo hi v n xs:=by
 obtain⟨⟨h1,h2⟩,h3⟩:=h;refine⟨⟨h1,?_⟩,h3⟩
 rcases h2 with h2 | ⟨g,cap,cur,rfl,hb,hh,r⟩
 ·exact .inl h2
 ·refine .inr ⟨g,cap,cur,rfl,hb,?_,r⟩;rw[hg.block g (Array.getElem?_eq_some_iff.1 hh).1 ?_]
  ·exact hh
  ·intro e0
   rcases h'.1.2 with ⟨rfl,_⟩ | ⟨g',cap',cur',rfl,_,hh',_⟩
   ·cases e0
   ·cases e0
    rw[hh]at hh';simp at hh';exact hne hh'.2
def zeh(zs:List Int):List Value:=zs.map (Value.int .i64)
theorem ziz(zs:List Int):(zeh zs).length=zs.length:=by simp[zeh]
theorem zen(zs:List Int)(k:Nat)(h:k<zs.length):(zeh zs)[k]?=some (.I zs[k]):=by simp[zeh,h]
def RdI(w:World)(v:Value)(zs:List Int):Prop:=Rd w 1 v zs.length (zeh zs)
theorem RdI.shape{w:World}{v:Value}{zs:List Int}(h:RdI w v zs):∃ ao cap,v=.slice ao zs.length cap/\zs.length<=cap/\(0<zs.length->∃ b o,ao=some ⟨b,o,none⟩/\b<w.heap.size/\∀ k (h:k<zs.length),w.cell? ⟨b,o+k,none⟩=some (.I zs[k])):=by
 obtain⟨_,ao,cap,rfl,h2,h3⟩:=h;refine⟨ao,cap,rfl,h2.1,fun hn=>?_⟩;obtain⟨b,o,rfl,hb,hc⟩:=h3 hn;exact⟨b,o,rfl,hb,fun k hk=>(hc k (by omega)).trans (zen zs k hk)⟩
theorem zit {P:Program} (t e:TypeId) (z:Value) (size bytes:Nat) (ht:P.underlying t=some (.slice e)) (hinfo:(P.info? e).map (fun i=>(i.zero,i.size,i.bytes))=some (some z,size,bytes))
  (kl kc:IntKind) (n:Nat) (hbytes:bytes*n<=281474976710656) (h63:n<=9223372036854775807) (w:World) :
  (Instr.makeSlice t (.int kl (n:Int)) (.int kc (n:Int))).run P w=.ok (.slice (some ⟨w.heap.size,0,none⟩) n n) (w.alloc (.cells (madeCells z.cells (n*size)) e)):=by
 obtain⟨i,hi,hz,hs,hb⟩:=info_parts hinfo;subst hs;subst hb
 have hb':(i.bytes:Int)*(n:Int)<=281474976710656:=by
  have h:((i.bytes*n:Nat):Int)<=281474976710656:=by omega
  rwa [Int.natCast_mul]at h
 have hr:=run_make (P:=P) w t e i z ht hi hz kl kc n n (by omega) (Int.le_refl _) hb' (by omega);simp only[Int.toNat_natCast]at hr;exact hr
theorem Row.at{w:World}{e:TypeId}{size lo hi:Nat}{b o n cap:Nat}{xs:List Value}(h:Row w e size lo hi (.slice (some ⟨b,o,none⟩) n cap) n xs) :
  o=0/\lo<=b/\b<hi/\b<w.heap.size/\(∀ j,w.frozen? ⟨b,j,none⟩=false)/\∀ j,j<n*size->w.cell? ⟨b,j,none⟩=xs[j]?:=by
 have ho:o=0:=by
  rcases h.1.2 with ⟨e,_⟩ | ⟨g,cp,cur,e,_⟩
  ·cases e
  ·cases e;rfl
 subst ho;exact⟨rfl,(h.1.lt b rfl).1,h.2 b rfl,(h.1.lt b rfl).2,fun j=>h.1.frozenAt j,fun j hj=>h.1.cellAt j hj⟩
theorem Row.stored{w:World}{e:TypeId}{size lo hi:Nat}{b n cap:Nat}{xs:List Value}(h:Row w e size lo hi (.slice (some ⟨b,0,none⟩) n cap) n xs)(j:Nat)(u:Value):Row (w.setCell ⟨b,j,none⟩ u) e size lo hi (.slice (some ⟨b,0,none⟩) n cap) n (xs.set j u) :=
 ⟨(World.ownsRow.stored h.1 j u).1,h.2⟩
theorem Row.shape{w:World}{e:TypeId}{size lo hi:Nat}{v:Value}{n:Nat}{xs:List Value}(h:Row w e size lo hi v n xs):(v=.N/\n=0/\xs=[])\/∃ b cap,v=.slice (some ⟨b,0,none⟩) n cap/\n<=cap/\cap<=maxLen:=by
 rcases h.1.2 with ⟨rfl,rfl⟩ | ⟨g,cap,cur,rfl,_,_,hnc,hcm,_⟩
 ·exact .inl ⟨rfl,rfl,List.eq_nil_of_length_eq_zero (by simpa using h.1.1)⟩
 ·exact .inr ⟨g,cap,rfl,hnc,hcm⟩
theorem Row.len{w:World}{e:TypeId}{size lo hi:Nat}{v:Value}{n:Nat}{xs:List Value}(h:Row w e size lo hi v n xs):xs.length=n*size:=h.1.1
theorem yaeo{zs:List Value}{j:Nat}{u:Value}{i:Nat}(hi:i<zs.length):(zs.set j u)[i]?=if i=j then some u else zs[i]?:=by
 by_cases e:i=j
 ·subst e;simp[hi]
 ·simp[e,show ¬ j=i from fun h=>e h.symm]
theorem zji {P:Program} (w:World) (base:Nat) (t ty e:TypeId) (z:Value) (size bytes:Nat) (ht:P.underlying t=some (.slice e)) (hinfo:(P.info? e).map (fun i=>(i.zero,i.size,i.bytes))=some (some z,size,bytes)) (hzs:z.cells.size=size) (hsz:0<size)
  (v:Value) (n:Nat) (xs:List Value) (hown:w.ownsRow base e size v n xs) (u:Value) (m:Nat) (ys:List Value) (hr:Rd w size u m ys) (h1:∀ u∈ys,u.oneCell'=true)
  (h63:n+m<=maxLen) (hbytes:(n+m)*bytes<=140737488355328) (hbase:base<=w.heap.size) :
  ∃ v' w',(Builtin.append_ #[t,t] ty #[v,u]).run P w=.ok v' w'/\w'.ownsRow base e size v' (n+m) (xs++ys)/\w.grownBy w' v.ownBlock:=by
 obtain⟨i,hi,hz,hs,hb⟩:=info_parts hinfo;obtain⟨hl,ao,cap,rfl,⟨_,hnone⟩,hc⟩:=hr
 cases ao with
 | none =>
  have hm:m=0:=by
   rcases Nat.eq_zero_or_pos m with h | h
   ·exact h
   ·obtain⟨b,o,e,_⟩:=hc h;cases e
  subst hm;rw[hnone rfl];have hy:ys=[]:=List.eq_nil_of_length_eq_zero (by simpa using hl);subst hy;refine⟨v,w,run_append_owned_none (P:=P) w base t ty e i size ht hi v n xs hown,by simpa using hown,World.grownBy.refl _ _⟩
 | some a =>
  obtain⟨v',w',hrun,h2,h3,_⟩:=run_append_own (P:=P) w base t ty e i z size bytes ht hi hz hs hb hzs hsz v n xs hown a m cap ys hl (fun j u hu=>by
   have hj:j<ys.length:=(List.getElem?_eq_some_iff.1 hu).1
   have hm:0<m:=by
    rcases Nat.eq_zero_or_pos m with h | h
    ·subst h;simp at hl;subst hl;simp at hj
    ·exact h
   obtain⟨b,o,e,_,hcell⟩:=hc hm
   cases e
   rw[Addr.add_lit,hcell j (by omega)];exact hu) h1 h63 hbytes hbase
  exact⟨v',w',hrun,h2,h3⟩
theorem zks {P:Program} (w:World) {o:Oper} {a:Act} {K:Act->World->Prop} {Q:Exit->Act->World->Prop} (s x:Operand) (t:TypeId)
  (ho:o.op=.call { callee:=.builtin .append,args:=#[s,x],argTypes:=#[t,t] })
  (base:Nat) (e:TypeId) (z:Value) (size bytes:Nat) (ht:P.underlying t=some (.slice e)) (hinfo:(P.info? e).map (fun i=>(i.zero,i.size,i.bytes))=some (some z,size,bytes)) (hzs:z.cells.size=size) (hsz:0<size)
  (v:Value) (n:Nat) (xs:List Value) (hs:a.eval s=v) (hown:w.ownsRow base e size v n xs) (u:Value) (m:Nat) (ys:List Value) (hx:a.eval x=u) (hr:Rd w size u m ys) (h1:∀ u∈ys,u.oneCell'=true)
  (h63:n+m<=maxLen) (hbytes:(n+m)*bytes<=140737488355328) (hbase:base<=w.heap.size)
  (h:∀ v' w',w'.ownsRow base e size v' (n+m) (xs++ys)->w.grownBy w' v.ownBlock->K (a.put o.dst v') w'):o.wp P a w K Q:=by
 obtain⟨v',w',hrun,h2,h3⟩:=zji (P:=P) w base t o.type e z size bytes ht hinfo hzs hsz v n xs hown u m ys hr h1 h63 hbytes hbase;unfold Oper.wp execOp;simp only[ho,resolve,invoke,builtin,Sem.run_bind,Sem.run_pure,Result.andThen_ok,List.map_toArray,List.map_cons,List.map_nil,hs,hx,hrun];exact h v' w' h2 h3
theorem zaf {P:Program} (w:World) {ops:Array Oper} {rest:List Oper} {o:Oper} {a:Act} {Q:Exit->Act->World->Prop} (hgd:o.guard=none) (s x:Operand) (t:TypeId)
  (ho:o.op=.call { callee:=.builtin .append,args:=#[s,x],argTypes:=#[t,t] })
  (base:Nat) (e:TypeId) (z:Value) (size bytes:Nat) (ht:P.underlying t=some (.slice e)) (hinfo:(P.info? e).map (fun i=>(i.zero,i.size,i.bytes))=some (some z,size,bytes)) (hzs:z.cells.size=size) (hsz:0<size)
  (v:Value) (n:Nat) (xs:List Value) (hs:a.eval s=v) (hown:w.ownsRow base e size v n xs) (u:Value) (m:Nat) (ys:List Value) (hx:a.eval x=u) (hr:Rd w size u m ys) (h1:∀ u∈ys,u.oneCell'=true)
  (h63:n+m<=maxLen) (hbytes:(n+m)*bytes<=140737488355328) (hbase:base<=w.heap.size)
  (h:∀ v' w',w'.ownsRow base e size v' (n+m) (xs++ys)->w.grownBy w' v.ownBlock->wpList P ops Q rest (a.put o.dst v') w'):wpList P ops Q (o::rest) a w :=
 wpList_plain hgd fun _ hK=>zks w s x t ho base e z size bytes ht hinfo hzs hsz v n xs hs hown u m ys hx hr h1 h63 hbytes hbase fun v' w' h2 h3=>hK _ _ (h v' w' h2 h3)
theorem zam {P:Program} {ops:Array Oper} {o:Oper} {a:Act} {w:World} {K:Act->World->Prop} {Q:Exit->Act->World->Prop} {E:Prop}
  (hg:o.guard=none) (s x:Operand) (t:TypeId) (ho:o.op=Op.call { callee:=Callee.builtin Builtin.append,args:=#[s,x],argTypes:=#[t,t] })
  (base:Nat) (e:TypeId) (z:Value) (size bytes:Nat) (ht:P.underlying t=some (.slice e)) (hinfo:(P.info? e).map (fun i=>(i.zero,i.size,i.bytes))=some (some z,size,bytes)) (hzs:z.cells.size=size) (hsz:0<size)
  (v:Value) (n:Nat) (xs:List Value) (hs:a.eval s=v) (hown:w.ownsRow base e size v n xs) (u:Value) (m:Nat) (ys:List Value) (hx:a.eval x=u) (hr:Rd w size u m ys) (h1:∀ u∈ys,u.oneCell'=true)
  (h63:n+m<=maxLen) (hbytes:(n+m)*bytes<=140737488355328) (hbase:base<=w.heap.size)
  (h:∀ v' w',w'.ownsRow base e size v' (n+m) (xs++ys)->w.grownBy w' v.ownBlock->K (a.put o.dst v') w'):if Region.wanted o (yielded ops a.tmps)=true then Oper.wp P o a w K Q else E:=by
 have hw:Region.wanted o (yielded ops a.tmps)=true:=by simp[Region.wanted,hg]
 rw[if_pos hw];exact zks w s x t ho base e z size bytes ht hinfo hzs hsz v n xs hs hown u m ys hx hr h1 h63 hbytes hbase h
theorem zac{w:World}{base:Nat}{e:TypeId}{size:Nat}{v:Value}{n:Nat}{xs:List Value}(h:w.ownsRow base e size v n xs):Row w e size base w.heap.size v n xs:=⟨h,fun k hk=>(h.lt k hk).2⟩
theorem zev(w:World)(o:Obj)(k:Nat):(w.alloc o).heap[k]?=if k=w.heap.size then some o else w.heap[k]?:=by
 show(w.heap.push o)[k]?=_
 rw[Array.getElem?_push]
theorem zai{w:World}{o:Obj}{k:Nat}(h:k=w.heap.size):(w.alloc o).heap[k]?=some o:=by rw[zev,if_pos h]
theorem zak{w:World}{o x:Obj}{k:Nat}(h:w.heap[k]?=some x):(w.alloc o).heap[k]?=some x:=by
 rw[zev,if_neg]
 ·exact h
 ·have:=(Array.getElem?_eq_some_iff.1 h).1;omega
theorem zad{w:World}{b:Nat}{t:TypeId}{x y:Value}(h:w.heap[b]?=some (.cells #[x,y] t (0,0))) :
  w.cell? ⟨b,0,none⟩=some x/\w.cell? ⟨b,1,none⟩=some y/\w.frozen? ⟨b,0,none⟩=false/\w.frozen? ⟨b,1,none⟩=false:=by
 simp[World.cell?,World.frozen?,h]
theorem zlt{w:World}{b:Nat}{t:TypeId}{x y:Value}(h:w.heap[b]?=some (.cells #[x,y] t (0,0)))(u:Value):(w.setCell ⟨b,0,none⟩ u).heap[b]?=some (.cells #[u,y] t (0,0)):=by
 simp[World.setCell,Array.getElem?_modify,h]
theorem zsi{w:World}{b:Nat}{t:TypeId}{x y:Value}(h:w.heap[b]?=some (.cells #[x,y] t (0,0)))(u:Value):(w.setCell ⟨b,1,none⟩ u).heap[b]?=some (.cells #[x,u] t (0,0)):=by
 simp[World.setCell,Array.getElem?_modify,h]
theorem zbe{α:Type}(f:α->List Value)(n:Nat)(hf:∀ x,(f x).length=n):∀ (l:List α) (k j:Nat) (hk:k<l.length),j<n->(l.flatMap f)[k*n+j]?=(f l[k])[j]?
 | [],k,j,hk,_=>by simp at hk
 | x::l,0,j,_,hj=>by
  rw[List.flatMap_cons,Nat.zero_mul,Nat.zero_add,List.getElem?_append_left (by rw[hf];exact hj)];rfl
 | x::l,k+1,j,hk,hj=>by
  have e:(k+1)*n+j=n+(k*n+j):=by rw[Nat.add_mul,Nat.one_mul];omega
  rw[List.flatMap_cons,e,List.getElem?_append_right (by rw[hf];omega),hf,Nat.add_sub_cancel_left];simpa using zbe f n hf l k j (by simpa using hk) hj
theorem zoh{α:Type}(f:α->List Value)(n:Nat)(hf:∀ x,(f x).length=n)(l:List α):(l.flatMap f).length=l.length*n:=by
 induction l with
 | nil=>simp
 | cons x l ih=>rw[List.flatMap_cons,List.length_append,hf,ih,List.length_cons,Nat.add_mul];omega
theorem zab{B:Nat}{a b c:World}(h:Below B a b)(k:zB b c)(hB:B<=b.heap.size):Below B a c:=h.trans (k.mono hB)
theorem zkh{a b c d:Int}(h:a=b)(k:c=d):Ending.returned (.tuple #[.I a,.I c])=.returned (.tuple #[.I b,.I d]):=by rw[h,k]
theorem Row.alloc{w:World}{e:TypeId}{size lo hi:Nat}{v:Value}{n:Nat}{xs:List Value}(h:Row w e size lo hi v n xs)(hi1:hi<=w.heap.size)(o:Obj):Row (w.alloc o) e size lo hi v n xs :=
 h.below (zR.alloc zL o) hi1
theorem zaz{w:World}{b:Nat}{t:TypeId}{x y z:Value}{fr:Nat×Nat}(h:w.heap[b]?=some (.cells #[x,y,z] t fr)) :
  w.cell? ⟨b,0,none⟩=some x/\w.cell? ⟨b,1,none⟩=some y/\w.cell? ⟨b,2,none⟩=some z:=by
 simp[World.cell?,h]
theorem zhb{α:Type}(l:List α)(m:Nat)(h:m<l.length):l.take (m+1)=l.take m++[l[m]]:=List.take_succ_eq_append_getElem h
theorem zmu:(Tryz.prog.info? 3).map (fun i=>(i.zero,i.size,i.bytes))=some (some (.I 0),1,8):=by kernel_rfl
theorem zhg(zs:List Int):∀ u∈zeh zs,u.oneCell'=true:=ints_oneCell _ zs
theorem RdI.form{w:World}{v:Value}{zs:List Int}(h:RdI w v zs){n:Nat}(hn:zs.length=n):∃ ao cap,v=.slice ao n cap:=by
 obtain⟨ao,cap,e,_⟩:=h.shape;exact⟨ao,cap,by rw[<- hn];exact e⟩
theorem zlk(zs:List Int)(j:Nat)(x:Int):(zeh zs).set j (.I x)=zeh (zs.set j x):=by simp[zeh,List.map_set]
theorem yafv(zs:List Int)(x:Int):zeh (zs++[x])=zeh zs++[.I x]:=by simp[zeh]
theorem yajj(w1:World)(x:Int):Rd (w1.alloc (.cells #[.I x] 3)) 1 (.slice (some ⟨w1.heap.size,0,none⟩) 1 1) 1 [.I x]:=by
 refine⟨rfl,_,_,rfl,⟨Nat.le_refl _,fun e=>by cases e⟩,fun _=>⟨w1.heap.size,0,rfl,by simp,fun j hj=>?_⟩⟩
 have hj0:j=0:=by omega
 subst hj0;have e:=zai (w:=w1) (o:=.cells #[.I x] 3) rfl;simp only[World.cell?,Nat.add_zero];rw[e];rfl
theorem zbi(n lo hi:Int)(w:World)(h:lo<=n/\n<=hi):zC 87 #[.I n,.I lo,.I hi] w fun e w'=>e=.returned (.bool true)/\w'=w:=by
 obtain⟨h1,h2⟩:=h;go_enter Tryz.func87,Tryz.ntmps87;go_wp2;go_ret;exact⟨rfl,rfl⟩
theorem zfi(n lo hi:Int)(w:World)(h:¬ (lo<=n/\n<=hi)):zC 87 #[.I n,.I lo,.I hi] w fun e w'=>e=.returned (.bool false)/\w'=w:=by
 rcases(show ¬ lo<=n\/(lo<=n/\¬ n<=hi) by omega)with h1 | ⟨h1,h2⟩
 all_goals
  clear h;go_enter Tryz.func87,Tryz.ntmps87;go_wp2;go_ret;exact⟨rfl,rfl⟩
theorem zba(n hi:Int)(w:World)(h:0<=n/\n<hi):zC 31 #[.I n,.I hi] w fun e w'=>e=.returned (.bool true)/\w'=w:=by
 obtain⟨h1,h2⟩:=h;go_enter Tryz.func31,Tryz.ntmps31;go_wp2;go_ret;exact⟨rfl,rfl⟩
theorem zdy(n hi:Int)(w:World)(h:¬ (0<=n/\n<hi)):zC 31 #[.I n,.I hi] w fun e w'=>e=.returned (.bool false)/\w'=w:=by
 rcases(show ¬ 0<=n\/(0<=n/\¬ n<hi) by omega)with h1 | ⟨h1,h2⟩
 all_goals
  clear h;go_enter Tryz.func31,Tryz.ntmps31;go_wp2;go_ret;exact⟨rfl,rfl⟩
theorem zay(i f:Int)(w:World)(h:0<=i/\i<16)(k:0<=f/\f<11):zC 56 #[.I i,.I f] w fun e w'=>e=.returned (.I (48+12*i+f))/\w'=w:=by
 go_enter Tryz.func56,Tryz.ntmps56;go_wp2;go_ret;exact⟨zcx (by first | rfl | omega | (go_num;omega)),rfl⟩
theorem zdj(i f:Int)(w:World)(h:0<=i/\i<24)(k:0<=f/\f<3):zC 57 #[.I i,.I f] w fun e w'=>e=.returned (.I (240+3*i+f))/\w'=w:=by
 go_enter Tryz.func57,Tryz.ntmps57;go_wp2;go_ret;exact⟨zcx (by first | rfl | omega | (go_num;omega)),rfl⟩
theorem zbs{w:World}{b:Nat}{t:TypeId}{xs:List Value}(h:w.heap[b]?=some (.cells xs.toArray t (0,0)))(j:Nat)(u:Value):(w.setCell ⟨b,j,none⟩ u).heap[b]?=some (.cells (xs.set j u).toArray t (0,0)):=by
 simp[World.setCell,Array.getElem?_modify,h]
theorem zat{w:World}{b:Nat}{t:TypeId}{xs:List Value}(h:w.heap[b]?=some (.cells xs.toArray t (0,0)))(j:Nat):w.cell? ⟨b,j,none⟩=xs[j]?/\w.frozen? ⟨b,j,none⟩=false:=by
 simp[World.cell?,World.frozen?,h]
structure Ino where
 kind:Int
 size:Int
 links:Int
 m0:Int
 m1:Int
 m2:Int
 m3:Int
 m4:Int
 m5:Int
 m6:Int
 m7:Int
def Ino.map(x:Ino):List Int:=[x.m0,x.m1,x.m2,x.m3,x.m4,x.m5,x.m6,x.m7]
def Ino.v(x:Ino):Value:=.agg #[.I x.kind,.I x.size,.I x.links,.I x.m0,.I x.m1,.I x.m2,.I x.m3,.I x.m4,.I x.m5,.I x.m6,.I x.m7]
def Ino.cs(x:Ino):List Value:=[.I x.kind,.I x.size,.I x.links,.I x.m0,.I x.m1,.I x.m2,.I x.m3,.I x.m4,.I x.m5,.I x.m6,.I x.m7]
structure Se where
 at_:Int
 val:Int
deriving DecidableEq
def Se.cells(s:Se):List Value:=[.I s.at_,.I s.val]
def ses(ps:List Se):List Value:=ps.flatMap Se.cells
theorem Se.cells_len(s:Se):s.cells.length=2:=rfl
theorem zrx(ps:List Se)(k:Nat)(h:k<ps.length):(ses ps)[k*2]?=some (.I ps[k].at_):=zbe _ 2 Se.cells_len ps k 0 h (by omega)
theorem yaei(ps:List Se)(k:Nat)(h:k<ps.length):(ses ps)[k*2+1]?=some (.I ps[k].val):=zbe _ 2 Se.cells_len ps k 1 h (by omega)
def RdE(w:World)(v:Value)(ps:List Se):Prop:=Rd w 2 v ps.length (ses ps)
theorem RdE.shape{w:World}{v:Value}{ps:List Se}(h:RdE w v ps):∃ ao cap,v=.slice ao ps.length cap/\ps.length<=cap/\(0<ps.length->∃ b o,ao=some ⟨b,o,none⟩/\b<w.heap.size /\
  ∀ k (h:k<ps.length),w.cell? ⟨b,o+k*2,none⟩=some (.I ps[k].at_)/\w.cell? ⟨b,o+k*2+1,none⟩=some (.I ps[k].val)):=by
 obtain⟨_,ao,cap,rfl,h2,h3⟩:=h;refine⟨ao,cap,rfl,h2.1,fun hn=>?_⟩;obtain⟨b,o,rfl,hb,hc⟩:=h3 hn;exact⟨b,o,rfl,hb,fun k hk=>⟨(hc (k*2) (by omega)).trans (zrx ps k hk),(hc (k*2+1) (by omega)).trans (yaei ps k hk)⟩⟩
theorem zxo:(Tryz.prog.info? 213).map (fun i=>(i.zero,i.size,i.bytes))=some (some (.agg #[.I 0,.I 0]),2,16):=by kernel_rfl
structure St where
 at_:Int
 val:Int
 fl:Bool
deriving DecidableEq
def St.cells(s:St):List Value:=[.I s.at_,.I s.val,.bool s.fl]
def sts(ps:List St):List Value:=ps.flatMap St.cells
theorem St.cells_len(s:St):s.cells.length=3:=rfl
theorem zwg(ps:List St):(sts ps).length=ps.length*3:=zoh _ 3 St.cells_len ps
theorem znn(ps:List St)(k:Nat)(h:k<ps.length):(sts ps)[k*3]?=some (.I ps[k].at_):=zbe _ 3 St.cells_len ps k 0 h (by omega)
theorem yaes(ps:List St)(k:Nat)(h:k<ps.length):(sts ps)[k*3+1]?=some (.I ps[k].val):=zbe _ 3 St.cells_len ps k 1 h (by omega)
theorem zxm(ps:List St)(k:Nat)(h:k<ps.length):(sts ps)[k*3+2]?=some (.bool ps[k].fl):=zbe _ 3 St.cells_len ps k 2 h (by omega)
def RdS(w:World)(v:Value)(ps:List St):Prop:=Rd w 3 v ps.length (sts ps)
theorem RdS.shape{w:World}{v:Value}{ps:List St}(h:RdS w v ps):∃ ao cap,v=.slice ao ps.length cap/\ps.length<=cap/\(0<ps.length->∃ b o,ao=some ⟨b,o,none⟩/\b<w.heap.size /\
  ∀ k (h:k<ps.length),w.cell? ⟨b,o+k*3,none⟩=some (.I ps[k].at_)/\w.cell? ⟨b,o+k*3+1,none⟩=some (.I ps[k].val)/\w.cell? ⟨b,o+k*3+2,none⟩=some (.bool ps[k].fl)):=by
 obtain⟨_,ao,cap,rfl,h2,h3⟩:=h;refine⟨ao,cap,rfl,h2.1,fun hn=>?_⟩;obtain⟨b,o,rfl,hb,hc⟩:=h3 hn;exact⟨b,o,rfl,hb,fun k hk=>⟨(hc (k*3) (by omega)).trans (znn ps k hk),(hc (k*3+1) (by omega)).trans (yaes ps k hk),(hc (k*3+2) (by omega)).trans (zxm ps k hk)⟩⟩
theorem zuw:(Tryz.prog.info? 140).map (fun i=>(i.zero,i.size,i.bytes))=some (some (.agg #[.I 0,.I 0,.bool false]),3,24):=by kernel_rfl
def zbz(n:Int):Bool:=decide (0<=n/\n<1099511627776)
def zvh(n:Int):Bool:=decide (0<=n/\n<336)
def secB(n:Int):Bool:=decide (0<=n/\n<32)
theorem yaio{n:Int}(h:secB n=true):0<=n/\n<32:=of_decide_eq_true h
theorem znc{n:Int}(h:zvh n=true):0<=n/\n<336:=of_decide_eq_true h
def inB(n lo hi:Int):Bool:=decide (lo<=n/\n<=hi)
theorem yafn(n lo hi:Int)(w:World):zC 87 #[.I n,.I lo,.I hi] w fun e w'=>e=.returned (.bool (inB n lo hi))/\w'=w:=by
 by_cases h0:lo<=n
 ·by_cases h1:n<=hi
  ·have e:inB n lo hi=true:=decide_eq_true ⟨h0,h1⟩;rw[e];clear e;go_enter Tryz.func87,Tryz.ntmps87;go_wp2;go_ret;exact⟨rfl,rfl⟩
  ·have e:inB n lo hi=false:=decide_eq_false (fun h=>h1 h.2);rw[e];clear e;go_enter Tryz.func87,Tryz.ntmps87;go_wp2;go_ret;exact⟨rfl,rfl⟩
 ·have e:inB n lo hi=false:=decide_eq_false (fun h=>h0 h.1);rw[e];clear e;go_enter Tryz.func87,Tryz.ntmps87;go_wp2;go_ret;exact⟨rfl,rfl⟩
theorem yamq(n:Int):inB n 0 1099511627775=zbz n:=by
 unfold inB zbz;rw[decide_eq_decide];omega
theorem zwo(n:Int)(w:World):zC 178 #[.I n] w fun e w'=>e=.returned (.bool (zbz n))/\w'=w:=by
 have E:=zaa (yamq n);go_enter Tryz.func178,Tryz.ntmps178;go_wp2_with fail;refine(yafn n 0 1099511627775 _).mono ?_;rw[E.o];rintro e w' ⟨rfl,rfl⟩;go_wp2;go_ret;exact⟨rfl,rfl⟩
def RdPm(w:World)(v:Value)(ws:List Int)(ps:List St):Prop:=∃ vW vP,v=.agg #[vW,vP]/\RdI w vW ws/\RdS w vP ps
def RowPm(w:World)(lo hi:Nat)(v:Value)(ws:List Int)(ps:List St):Prop:=∃ vW vP,v=.agg #[vW,vP]/\Row w 3 1 lo hi vW ws.length (zeh ws)/\Row w 140 3 lo hi vP ps.length (sts ps)
theorem RowPm.rd{w:World}{lo hi:Nat}{v:Value}{ws:List Int}{ps:List St}(h:RowPm w lo hi v ws ps):RdPm w v ws ps:=by
 obtain⟨vW,vP,rfl,h1,h2⟩:=h;exact⟨vW,vP,rfl,h1.rd,h2.rd⟩
theorem RdPm.below{w w':World}{v:Value}{ws:List Int}{ps:List St}(h:RdPm w v ws ps)(hb:zB w w'):RdPm w' v ws ps:=by
 obtain⟨vW,vP,rfl,h1,h2⟩:=h;exact⟨vW,vP,rfl,Rd.below h1 hb,Rd.below h2 hb⟩
theorem RowPm.below{w w':World}{lo hi:Nat}{v:Value}{ws:List Int}{ps:List St}(h:RowPm w lo hi v ws ps){B:Nat}(hb:Below B w w')(hB:hi<=B):RowPm w' lo hi v ws ps:=by
 obtain⟨vW,vP,rfl,h1,h2⟩:=h;exact⟨vW,vP,rfl,h1.below hb hB,h2.below hb hB⟩
theorem RowPm.outside{w w':World}{lo hi:Nat}{v:Value}{ws:List Int}{ps:List St}(h:RowPm w lo hi v ws ps){lo' hi':Nat}(ho:Outside lo' hi' w w')(hd:hi<=lo'\/hi'<=lo)(hz:hi<=w.heap.size):RowPm w' lo hi v ws ps:=by
 obtain⟨vW,vP,rfl,h1,h2⟩:=h;exact⟨vW,vP,rfl,h1.outside ho hd hz,h2.outside ho hd hz⟩
def RdBlk(w:World)(v:Value)(ws:List Int)(ps:List Se):Prop:=∃ vW vP,v=.agg #[vW,vP]/\RdI w vW ws/\RdE w vP ps
def RowZ(w:World)(lo hi:Nat)(v:Value)(n:Nat)(xs:List Value):Prop:=∃ e,e≠213/\Row w e 1 lo hi v n xs
theorem RowZ.rd{w:World}{lo hi:Nat}{v:Value}{n:Nat}{xs:List Value}(h:RowZ w lo hi v n xs):Rd w 1 v n xs:=by
 obtain⟨_,_,h⟩:=h;exact h.rd
theorem RowZ.outside{w w':World}{lo hi:Nat}{v:Value}{n:Nat}{xs:List Value}(h:RowZ w lo hi v n xs){lo' hi':Nat}(ho:Outside lo' hi' w w')(hd:hi<=lo'\/hi'<=lo)(hz:hi<=w.heap.size):RowZ w' lo hi v n xs:=by
 obtain⟨e,he,h⟩:=h;exact⟨e,he,h.outside ho hd hz⟩
theorem Row.z{w:World}{lo hi:Nat}{v:Value}{n:Nat}{xs:List Value}(h:Row w 3 1 lo hi v n xs):RowZ w lo hi v n xs:=⟨3,by decide,h⟩
def RowBlk(w:World)(lo hi:Nat)(v:Value)(ws:List Int)(ps:List Se):Prop:=∃ vW vP,v=.agg #[vW,vP]/\RowZ w lo hi vW ws.length (zeh ws)/\Row w 213 2 lo hi vP ps.length (ses ps)
theorem RowBlk.rd{w:World}{lo hi:Nat}{v:Value}{ws:List Int}{ps:List Se}(h:RowBlk w lo hi v ws ps):RdBlk w v ws ps:=by
 obtain⟨vW,vP,rfl,h1,h2⟩:=h;exact⟨vW,vP,rfl,h1.rd,h2.rd⟩
theorem RdBlk.below{w w':World}{v:Value}{ws:List Int}{ps:List Se}(h:RdBlk w v ws ps)(hb:zB w w'):RdBlk w' v ws ps:=by
 obtain⟨vW,vP,rfl,h1,h2⟩:=h;exact⟨vW,vP,rfl,Rd.below h1 hb,Rd.below h2 hb⟩
theorem RowBlk.outside{w w':World}{lo hi:Nat}{v:Value}{ws:List Int}{ps:List Se}(h:RowBlk w lo hi v ws ps){lo' hi':Nat}(ho:Outside lo' hi' w w')(hd:hi<=lo'\/hi'<=lo)(hz:hi<=w.heap.size):RowBlk w' lo hi v ws ps:=by
 obtain⟨vW,vP,rfl,h1,h2⟩:=h;exact⟨vW,vP,rfl,h1.outside ho hd hz,h2.outside ho hd hz⟩
structure Mi where
 kind:Int
 at_:Int
 val:Int
def Mi.v(m:Mi):Value:=.agg #[.I m.kind,.I m.at_,.I m.val]
def miB(m:Mi):Bool:=decide ((m.kind=1/\(0<=m.at_/\m.at_<336)/\0<=m.val/\m.val<1099511627776)\/(m.kind=2/\(0<=m.at_/\m.at_<336)/\m.val=0)\/(m.kind=4/\(0<=m.at_/\m.at_<32)/\0<=m.val/\m.val<1099511627776)\/((m.kind=3\/m.kind=5)/\m.at_=0/\m.val=0))
theorem yapr{m:Mi}:miB m=true↔((m.kind=1/\(0<=m.at_/\m.at_<336)/\0<=m.val/\m.val<1099511627776)\/(m.kind=2/\(0<=m.at_/\m.at_<336)/\m.val=0)\/(m.kind=4/\(0<=m.at_/\m.at_<32)/\0<=m.val/\m.val<1099511627776)\/((m.kind=3\/m.kind=5)/\m.at_=0/\m.val=0)):=by unfold miB;exact decide_eq_true_iff
theorem zkp(k a v:Int):miB ⟨k,a,v⟩=true↔((k=1/\(0<=a/\a<336)/\0<=v/\v<1099511627776)\/(k=2/\(0<=a/\a<336)/\v=0)\/(k=4/\(0<=a/\a<32)/\0<=v/\v<1099511627776)\/((k=3\/k=5)/\a=0/\v=0)):=yapr
end Go.Proofs.YtfagbapgnocjiaaGreatDoor
