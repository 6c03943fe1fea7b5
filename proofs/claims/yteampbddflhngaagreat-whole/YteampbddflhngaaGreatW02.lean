import Derived.Test.YteampbddflhngaaGreatW01
import Derived.Deep.QuietTactic
import Derived.BigQuiet
import Derived.Deep.LoopGhost

namespace Go.Proofs.YteampbddflhngaaGreat
open Go.RowKit
variable {lo:Nat}
variable {t:ByteArray}{r base n b:Nat}{w w':World}{v wv:Value}{xs:List Value}{c:Array Value}{l:List ByteArray}
abbrev Tok:=Int × ByteArray
structure zbu where
 neg:Bool
 pred:ByteArray
 args:List ByteArray
structure zab where
 head:zbu
 body:List zbu
def isT(k:Int):Bool:=k == 1 || k == 3 || k == 2
def hdK:List Tok->Int
 |[]=>0
 |x::_=>x.1
def zbv:List Tok->Option (List ByteArray × List Tok)
 |[]=>none
 |[x]=>if isT x.1 then some ([x.2],[]) else none
 |x::y::r=>if isT x.1 then(if y.1=6 then(zbv r).map fun z=>(x.2::z.1,z.2) else some ([x.2],y::r)) else none
theorem z3o{k:Int}{r:List Tok}(h:isT k=false):zbv ((k,t)::r)=none:=by cases r <;> simp[zbv,h]
theorem zwl{k:Int}{r:List Tok}(h:isT k=true)(h6:hdK r≠6):zbv ((k,t)::r)=some ([t],r):=by
 cases r with
 |nil=>simp[zbv,h]
 |cons y r=>simp only[hdK] at h6;simp[zbv,h,h6]
theorem zwk{k:Int}{r:List Tok}(h:isT k=true)(h6:hdK r=6):zbv ((k,t)::r)=(zbv r.tail).map fun z=>(t::z.1,z.2):=by
 cases r with
 |nil=>simp[hdK] at h6
 |cons y r=>simp only[hdK] at h6;simp[zbv,h,h6]
def zeh(r:List Tok):Option (zbu × List Tok) :=
 if hdK r=1 then
  if hdK r.tail=4 then
   match zbv r.tail.tail with
   |none=>none
   |some (ts,r2)=>if hdK r2=5 then some (⟨false,(r.headD (0,ByteArray.empty)).2,ts⟩,r2.tail) else none
  else some (⟨false,(r.headD (0,ByteArray.empty)).2,[]⟩,r.tail)
 else none
def zsf(r:List Tok):Option (zbu × List Tok) :=
 if hdK r=8 then(zeh r.tail).map fun z=>({ z.1 with neg:=true },z.2) else zeh r
structure But (r:Nat) (w w':World):Prop where
 os:w'.os=w.os
 tape:w'.tape=w.tape
 output:w'.output=w.output
 size:w.heap.size<=w'.heap.size
 block:∀ k,k < w.heap.size->k≠r->w'.heap[k]?=w.heap[k]?
theorem But.refl(r:Nat)(w:World):But r w w:=⟨rfl,rfl,rfl,uaa _,fun _ _ _=>rfl⟩
theorem But.trans{r:Nat}{a b c:World}(h:But r a b)(k:But r b c):But r a c :=
 ⟨k.os.trans h.os,k.tape.trans h.tape,k.output.trans h.output,uap h.size k.size,fun i hi hr=>(k.block i (ual hi h.size) hr).trans (h.block i hi hr)⟩
theorem But.of(h:Below w.heap.size w w'):But r w w':=⟨h.os,h.tape,h.output,h.size,fun k hk _=>h.block k hk⟩
theorem But.below{B:Nat}(h:But r w w')(hr:B<=r)(hB:B<=w.heap.size):Below B w w':=⟨h.os,h.tape,h.output,h.size,fun k hk=>h.block k (by omega) (by omega)⟩
theorem But.setCell{r:Nat}{a w:World}(h:But r a w)(o:Nat)(u:Value):But r a (w.setCell ⟨r,o,none⟩ u) :=
 h.trans ⟨rfl,rfl,rfl,by simp[World.setCell],fun _ _ hr=>Below.heap_setCell _ _ _ _ hr⟩
theorem But.alloc{r:Nat}{a w:World}(h:But r a w)(o:Obj):But r a (w.alloc o):=h.trans (But.of ((Below.refl _ _).alloc (uaa _) o))
theorem But.setNew{a:World}(h:But r a w){p:Addr}(hp:a.heap.size<=p.block)(u:Value):But r a (w.setCell p u) :=
 ⟨h.os,h.tape,h.output,by simp[World.setCell];exact h.size,fun k hk hr=>(Below.heap_setCell _ _ _ _ (by omega)).trans (h.block k hk hr)⟩
theorem zb9{e:TypeId}{size:Nat}(h:w.ownsRow base e size v n xs)(hb:But r w w')
  {c:Array Value} {T:TypeId} {f:Nat × Nat} (hr:w.heap[r]?=some (.cells c T f)) (hT:T≠e):w'.ownsRow base e size v n xs:=by
 obtain⟨h1,h2⟩:=h
 refine⟨h1,?_⟩
 rcases h2 with h2|⟨g,cap,cur,hv,hg,hh,rr⟩
 ·exact Or.inl h2
 ·refine Or.inr ⟨g,cap,cur,hv,hg,?_,rr⟩
  rw[hb.block g (uaz.1 hh).1 (fun hgr=>by subst hgr;rw[hh] at hr;simp at hr;exact hT hr.2.1.symm)];exact hh
theorem zac{e:TypeId}{size:Nat}(h:w.ownsRow base e size v n xs):∃ ao cap,v=.slice ao n cap:=by
 obtain⟨_,⟨hv,hn⟩|⟨g,cap,cur,hv,_⟩⟩:=h
 ·exact⟨none,0,by rw[hv,hn]⟩
 ·exact⟨_,cap,hv⟩
theorem zal{e:TypeId}{size:Nat}(h:w.ownsRow base e size v n xs)(hn:0 < n) :
  ∃ g cap,v=.slice (some ⟨g,0,none⟩) n cap/\base<=g/\g < w.heap.size/\∀ j u,xs[j]?=some u->w.cell? ⟨g,j,none⟩=some u:=by
 obtain⟨hl,⟨hv,h0⟩|⟨g,cap,cur,hv,hg,hh,hc1,hc2,hc3,hx⟩⟩:=h
 ·omega
 ·refine⟨g,cap,hv,hg,(uaz.1 hh).1,fun j u hj=>?_⟩
  unfold World.cell?
  rw[hh]
  simp
  rw[← hx,ubq] at hj
  split at hj
  ·simpa using hj
  ·simp at hj
def Box(w:World)(b:Nat)(c:Array Value)(T:TypeId):Prop:=w.heap[b]?=some (.cells c T (0,0))
theorem Box.lt{T:TypeId}(h:Box w b c T):b < w.heap.size:=(uaz.1 h).1
theorem Box.new(w:World)(c:Array Value)(T:TypeId):Box (w.alloc (.cells c T)) w.heap.size c T:=by unfold Box;show(w.heap.push _)[w.heap.size]?=_;simp
theorem Box.below{T:TypeId}(h:Box w b c T)(hb:Below w.heap.size w w'):Box w' b c T:=by have:=h.lt;unfold Box at *;rw[hb.block b this];exact h
theorem Box.but{T:TypeId}(h:Box w b c T)(hb:But r w w')(hne:b≠r):Box w' b c T:=by have:=h.lt;unfold Box at *;rw[hb.block b this hne];exact h
theorem Box.rules{T:TypeId}(h:Box w b c T):(∀ o,w.cell? ⟨b,o,none⟩=c[o]?)/\(∀ o,w.frozen? ⟨b,o,none⟩=false):=by
 unfold Box at h
 exact⟨fun o=>by unfold World.cell?;rw[h];simp,fun o=>by unfold World.frozen?;rw[h];simp⟩
def SIn(lo:Nat)(w:World)(v:Value)(l:List ByteArray):Prop:=w.ownsRow lo 9 1 v l.length (l.map Value.string)
theorem zbf{a:Nat}{e:TypeId}{size:Nat}(h:w.ownsRow b e size v n xs)(hab:a<=b):w.ownsRow a e size v n xs:=by
 obtain⟨h1,h2⟩:=h
 refine⟨h1,?_⟩
 rcases h2 with h2|⟨g,cap,cur,hv,hg,rr⟩
 ·exact Or.inl h2
 ·exact Or.inr ⟨g,cap,cur,hv,by omega,rr⟩
theorem SIn.low{a:Nat}(h:SIn b w v l)(hab:a<=b):SIn a w v l:=zbf h hab
theorem SIn.nil(w:World):SIn lo w (.slice none 0 0) []:=World.ownsRow_nil _ _ _ _
theorem SIn.shape(h:SIn lo w v l):∃ ao cap,v=.slice ao l.length cap:=zac h
theorem SIn.below(h:SIn lo w v l)(hb:Below w.heap.size w w'):SIn lo w' v l:=zaa h hb
theorem SIn.but(h:SIn lo w v l)(hb:But r w w'){T:TypeId}{f:Nat × Nat}(hr:w.heap[r]?=some (.cells c T f))(hT:T≠9):SIn lo w' v l:=by
 exact zb9 h hb hr hT
structure Rd (w:World) (r:Nat) (wv:Value) (l rest:List Tok):Prop where
 box:∃ p:Nat,p<=l.length/\rest=l.drop p/\w.heap[r]?=some (.cells #[wv,.int .i64 p] 185 (0,0))
 words:∃ base,w.ownsRow base 182 2 wv l.length (zgi l)
theorem Rd.cell{l rest:List Tok}(h:Rd w r wv l rest):∃ c f,w.heap[r]?=some (.cells c 185 f):=by
 obtain⟨p,_,_,hh⟩:=h.box;exact⟨_,_,hh⟩
theorem Rd.lt{l rest:List Tok}(h:Rd w r wv l rest):r < w.heap.size:=by
 obtain⟨p,_,_,hh⟩:=h.box;exact(uaz.1 hh).1
theorem Rd.below{l rest:List Tok}(h:Rd w r wv l rest)(hb:Below w.heap.size w w'):Rd w' r wv l rest:=by
 have hlt:=h.lt
 obtain⟨⟨p,h1,h2,h3⟩,b,h4⟩:=h
 exact⟨⟨p,h1,h2,by rw[hb.block r hlt];exact h3⟩,b,zaa h4 hb⟩
theorem z4p(l:List Tok)(p:Nat)(k:Int)(t:ByteArray)(r:List Tok)(h:(k,t)::r=l.drop p):(zgi l)[p * 2]?=some (.int .i64 k)/\(zgi l)[p * 2+1]?=some (.string t):=by
 induction l generalizing p with
 |nil=>simp at h
 |cons x l ih =>
  cases p with
  |zero=>simp at h;obtain⟨rfl,_⟩:=h;simp[zgi]
  |succ p =>
   have:=ih p (by simpa using h)
   simp only[zgi,ua5] at this ⊢
   rw[show(p+1) * 2=p * 2+1+1 from by omega]
   simpa using this
theorem Rd.view{l rest:List Tok}(h:Rd w r wv l rest):∃(p:Nat) (ao:Option Addr) (cap:Nat),p<=l.length/\rest=l.drop p/\wv=.slice ao l.length cap ∧
  w.heap[r]?=some (.cells #[wv,.int .i64 p] 185 (0,0))/\w.cell? ⟨r,0,none⟩=some wv/\w.cell? ⟨r,1,none⟩=some (.int .i64 p)/\(∀ o,w.frozen? ⟨r,o,none⟩=false) ∧
  (∀ k t r',rest=(k,t)::r'->∃ g,ao=some ⟨g,0,none⟩/\g < w.heap.size/\p < l.length/\w.cell? ⟨g,p * 2,none⟩=some (.int .i64 k)/\w.cell? ⟨g,p * 2+1,none⟩=some (.string t)):=by
 obtain⟨⟨p,h1,h2,h3⟩,b,h4⟩:=h
 obtain⟨ao,cap,hv⟩:=zac h4
 refine⟨p,ao,cap,h1,h2,hv,h3,by unfold World.cell?;rw[h3];simp,by unfold World.cell?;rw[h3];simp,fun o=>by unfold World.frozen?;rw[h3];simp,?_⟩
 intro k t r' hr
 have hp:p < l.length:=by
  rcases Nat.lt_or_ge p l.length with h|h
  ·exact h
  ·rw[uaq h] at h2;rw[h2] at hr;cases hr
 obtain⟨g,cap',hv',_,hg,hc⟩:=zal h4 (by omega)
 rw[hv] at hv'
 simp at hv'
 obtain⟨w1,w2⟩:=z4p l p k t r' (by rw[← hr,h2])
 exact⟨g,hv'.1,hg,hp,hc _ _ w1,hc _ _ w2⟩
theorem Rd.keep{wO w2:World}{l rest0 rest:List Tok}(h0:Rd w r wv l rest0)(h:Rd wO r wv l rest)(hb:Below w.heap.size wO w2):Rd w2 r wv l rest:=by
 have hlt:=h0.lt
 obtain⟨_,b0,_,hw0⟩:=h0
 obtain⟨⟨p,h1,h2,h3⟩,b,hl,hw⟩:=h
 refine⟨⟨p,h1,h2,by rw[hb.block r hlt];exact h3⟩,b,hl,?_⟩
 rcases hw with hw|⟨g,cap,cur,hv,hg,hh,rr⟩
 ·exact Or.inl hw
 ·refine Or.inr ⟨g,cap,cur,hv,hg,?_,rr⟩
  rcases hw0 with ⟨hv0,_⟩|⟨g0,cap0,cur0,hv0,_,hh0,_⟩
  ·rw[hv0] at hv;cases hv
  ·rw[hv0] at hv;simp at hv;obtain⟨rfl,rfl⟩:=hv
   rw[hb.block g0 (uaz.1 hh0).1];exact hh
theorem But.onto{a b c:World}(h:But r a b)(k:Below a.heap.size b c):But r a c :=
 ⟨k.os.trans h.os,k.tape.trans h.tape,k.output.trans h.output,uap h.size k.size,fun i hi hr=>(k.block i hi).trans (h.block i hi hr)⟩
theorem Rd.next{l rest:List Tok}{p:Nat}(h3:w.heap[r]?=some (.cells #[wv,.int .i64 p] 185 (0,0)))(hp:p < l.length)(h2:rest=l.drop p)
  (hw:∃ base,w.ownsRow base 182 2 wv l.length (zgi l)):Rd (w.setCell ⟨r,1,none⟩ (.int .i64 ((p:Int)+1))) r wv l rest.tail:=by
 refine⟨⟨p+1,hp,by rw[h2,List.tail_drop],?_⟩,?_⟩
 ·simp[World.setCell,Array.getElem?_modify,h3]
 ·obtain⟨b,hb⟩:=hw
  exact⟨b,zb9 hb ((But.refl r w).setCell 1 _) h3 (by decide)⟩
end Go.Proofs.YteampbddflhngaaGreat
namespace Go.Proofs.YteampbddflhngaaGreat
set_option maxRecDepth 100000
set_option maxHeartbeats 1000000
open Go.RowKit
theorem zl8(k:Int)(w:World) :
  Calls Tryz.prog 199 #[.int .i64 k] w fun e w'=>e=.returned (.bool (isT k))/\w'=w:=by
 go_enter Tryz.func199,Tryz.ntmps199
 go_wp2
 all_goals go_ret
 all_goals go_light
 all_goals exact⟨by simp_all [isT],rfl⟩
theorem zh8(w:World)(r:Nat)(wv:Value)(l rest:List Tok)(h:Rd w r wv l rest)(_:l.length<=500) :
  Calls Tryz.prog 179 #[.pointer (some ⟨r,0,none⟩)] w fun e w'=>e=.returned (.agg #[.int .i64 (hdK rest),.string (rest.headD (0,ByteArray.empty)).2])/\Below w.heap.size w w':=by
 have hlt:=h.lt
 obtain⟨p,ao,cap,hp,hr,rfl,hblk,hc0,hc1,hfz,hx⟩:=h.view
 clear h
 cases rest with
 |nil =>
  have hpl:p=l.length:=by
   have:=congrArg List.length hr;simp at this;omega
  clear hr hx
  subst hpl
  go_enter Tryz.func179,Tryz.ntmps179
  go_wp2
  go_quiet (fail)
  go_wp2
  go_returns
  exact⟨rfl,(by repeat'(first|with_reducible(first|exact zR _ _|assumption|refine zN ?_ _|refine zA ?_ ?_ _|refine zD ?_|refine zS ?_ ?_ _)|go_size))⟩
 |cons x r' =>
  obtain⟨k,t⟩:=x
  obtain⟨g,rfl,hg,hpl,hg0,hg1⟩:=hx k t r' rfl
  clear hx hr
  go_enter Tryz.func179,Tryz.ntmps179
  go_wp2
  go_quiet (fail)
  go_wp2
  go_region
  all_goals go_wp2
  all_goals exact bodyPost_ret (v:=.agg #[.int .i64 k,.string t]) (by simp[results,Tryz.results179,go_sem]) rfl ⟨rfl,(by repeat'(first|with_reducible(first|exact zR _ _|assumption|refine zN ?_ _|refine zA ?_ ?_ _|refine zD ?_|refine zS ?_ ?_ _)|go_size))⟩
theorem take_any(w:World)(r:Nat)(wv:Value)(l rest:List Tok)(k:Int)(h:Rd w r wv l rest)(hl:l.length<=500)(hk:k≠0) :
  Calls Tryz.prog 143 #[.pointer (some ⟨r,0,none⟩),.int .i64 k] w fun e w'=>e=.returned (.bool (hdK rest == k))/\Rd w' r wv l (if hdK rest=k then rest.tail else rest)/\But r w w':=by
 have hpk:=zh8 w r wv l rest h hl
 by_cases hh:hdK rest=k
 ·obtain⟨p,ao,cap,hp,hr,hwv,hblk,hc0,hc1,hfz,hx⟩:=h.view
  have hw:=h.words
  have hlt:=h.lt
  cases rest with
  |nil=>exact absurd hh.symm hk
  |cons x r' =>
   obtain⟨k',t⟩:=x
   obtain⟨g,_,hg,hpl,hg0,hg1⟩:=hx k' t r' rfl
   have HR:Hid ((k',t)::r'=l.drop p):=hr
   simp only[hdK] at hh hpk ⊢
   subst hh
   simp only[if_true,beq_self_eq_true,List.tail_cons]
   clear hx h hg0 hg1 hc0 hwv hk hr
   go_enter Tryz.func143,Tryz.ntmps143
   go_wp2_with (first|(go_at_call 179;(refine hpk.mono ?_;rintro e w1 ⟨rfl,hb1⟩;clear hpk;have hz:=hb1.size;have hlt1:r < w1.heap.size:=(by omega);have hd1:=(hb1.cell (p:=⟨r,1,none⟩) hlt).trans hc1;have hf1:=(hb1.frozen (p:=⟨r,1,none⟩) hlt).trans (hfz 1))))
   go_ret
   refine⟨rfl,?_,?_⟩
   ·obtain⟨bs,hw⟩:=hw
    exact(Rd.next (w:=w1) (rest:=(k',t)::r') ((hb1.block r hlt).trans hblk) hpl HR ⟨bs,zaa hw hb1⟩).below ((Below.refl _ _).alloc (uaa _) _)
   ·have hB:=But.of (r:=r) hb1
    exact(by repeat'(first|(with_reducible exact But.refl _ _)|(with_reducible assumption)|(with_reducible refine But.drewN ?_ _)|(with_reducible refine But.alloc ?_ _)|(with_reducible refine But.drew ?_)|(with_reducible refine But.setCell ?_ _ _)|(with_reducible refine But.setNew ?_ ?_ _)|go_size))
 ·rw[if_neg hh]
  have hbq:(hdK rest == k)=false:=by simpa using hh
  rw[hbq]
  clear hh
  generalize hdK rest=kd at *
  go_enter Tryz.func143,Tryz.ntmps143
  go_wp2_with (first|(go_at_call 179;refine hpk.mono ?_;rintro e w1 ⟨rfl,hb1⟩;clear hpk))
  go_ret
  exact⟨rfl,h.below (hb1.alloc hb1.size _),But.of (hb1.alloc hb1.size _)⟩
theorem zdw(w:World)(r:Nat)(wv:Value)(l rest:List Tok)(k:Int)(h:Rd w r wv l rest)(hl:l.length<=500)(hk:k≠0)(hh:hdK rest=k) :
  Calls Tryz.prog 143 #[.pointer (some ⟨r,0,none⟩),.int .i64 k] w fun e w'=>e=.returned (.bool true)/\Rd w' r wv l rest.tail/\But r w w':=by
 have:=take_any w r wv l rest k h hl hk
 rw[if_pos hh,hh,beq_self_eq_true] at this
 exact this
theorem zjb(w:World)(r:Nat)(wv:Value)(l rest:List Tok)(k:Int)(h:Rd w r wv l rest)(hl:l.length<=500)(hk:k≠0)(hh:hdK rest≠k) :
  Calls Tryz.prog 143 #[.pointer (some ⟨r,0,none⟩),.int .i64 k] w fun e w'=>e=.returned (.bool false)/\Rd w' r wv l rest/\But r w w':=by
 have:=take_any w r wv l rest k h hl hk
 rw[if_neg hh,show(hdK rest == k)=false by simpa using hh] at this
 exact this
end Go.Proofs.YteampbddflhngaaGreat
namespace Go.Proofs.YteampbddflhngaaGreat
set_option maxRecDepth 100000
set_option maxHeartbeats 1000000
open Go.RowKit
variable {lo:Nat}
theorem Tryz.infoString:(Tryz.prog.info? 9).map (fun i=>(i.zero,i.size,i.bytes))=some (some (.string ByteArray.empty),1,16):=by kernel_rfl
def ziq(w:World)(r:Nat)(wv:Value)(l rest:List Tok)(e:Ending)(w':World):Prop :=
 But r w w'/\match zbv rest with
  |none=>e=.returned (.tuple #[.slice none 0 0,.bool false])
  |some (ts,r2)=>∃ v,e=.returned (.tuple #[v,.bool true])/\SIn w.heap.size w' v ts/\Rd w' r wv l r2
theorem zj1{w w':World}{r:Nat}{wv:Value}{l rest:List Tok}(h:Hid (zbv rest=none))(hb:But r w w'):ziq w r wv l rest (.returned (.tuple #[.slice none 0 0,.bool false])) w':=by
 have h':zbv rest=none:=h
 unfold ziq;rw[h'];exact⟨hb,rfl⟩
theorem zpq{w w':World}{r:Nat}{wv v:Value}{l rest r2:List Tok}{ts:List ByteArray}(h:Hid (zbv rest=some (ts,r2)))(hb:But r w w')(hs:SIn w.heap.size w' v ts)(hr:Rd w' r wv l r2) :
  ziq w r wv l rest (.returned (.tuple #[v,.bool true])) w':=by
 have h':zbv rest=some (ts,r2):=h
 unfold ziq;rw[h'];exact⟨hb,v,rfl,hs,hr⟩
theorem zt5{α β:Type}(o:Option (List α × β))(acc:List α)(x:α):((o.map fun z=>(x::z.1,z.2)).map fun z=>(acc++z.1,z.2))=o.map fun z=>((acc++[x])++z.1,z.2):=by cases o <;> simp
theorem zuv(w:World)(r:Nat)(wv:Value)(l rest:List Tok)(h:Rd w r wv l rest)(hl:l.length<=500) :
  Calls Tryz.prog 180 #[.pointer (some ⟨r,0,none⟩)] w fun e w'=>ziq w r wv l rest e w':=by
 obtain⟨i0,hi,hz0,hz1,hz2⟩:=info_parts Tryz.infoString
 have hlt:=h.lt
 go_enter Tryz.func180,Tryz.ntmps180
 go_wp2
 go_loopg [4,5] (rest.length) (fun n v t wr=>∃(acc:List ByteArray) (rst:List Tok) (more:Bool),t=.bool more/\rst.length<=n/\rst.length+acc.length<=rest.length ∧
   wr.ownsRow w.heap.size 9 1 v acc.length (acc.map Value.string)/\Rd wr r wv l rst/\But r w wr ∧
   Hid (more=true->zbv rest=(zbv rst).map fun z=>(acc++z.1,z.2))/\Hid (more=false->zbv rest=some (acc,rst)))
 case atStart=>exact⟨[],rest,true,rfl,uaa _,by simp,World.ownsRow_nil _ _ _ _,h,But.refl _ _,(fun _=>by simp),(fun h=>by cases h)⟩
 case round =>
  obtain⟨acc,rst,more,rfl,hn,hra,hown,hrd,hbut,H1,H2⟩:=hrel
  have hrl:rest.length<=l.length:=by
   obtain⟨p,_,hp,_⟩:=h.box;rw[hp];simp
  have hws:=hbut.size
  have hltr:=hrd.lt
  cases more with
  |false =>
   have H3:Hid (zbv rest=some (acc,rst)):=H2 rfl
   clear H1 H2
   go_wp2
   go_ret2
   exact zpq H3 hbut hown hrd
  |true =>
   have hpk:=zh8 wr r wv l rst hrd hl
   cases rst with
   |nil =>
    have H3:Hid (zbv rest=none):=by rw[Hid.out H1 rfl];simp[zbv,Hid]
    clear H1 H2
    have hT:isT 0=false:=rfl
    simp only[hdK] at hpk
    go_wp2_with (first|(go_at_call 179;refine hpk.mono ?_;rintro e w1 ⟨rfl,hb1⟩;clear hpk;have hz:=hb1.size)|(go_at_call 199;refine(zl8 _ _).mono ?_;rintro e w' ⟨rfl,rfl⟩))
    go_ret2
    have hB:=hbut.trans (But.of hb1)
    exact zj1 H3 (by repeat'(first|(with_reducible exact But.refl _ _)|(with_reducible assumption)|(with_reducible refine But.drewN ?_ _)|(with_reducible refine But.alloc ?_ _)|(with_reducible refine But.drew ?_)|(with_reducible refine But.setCell ?_ _ _)|(with_reducible refine But.setNew ?_ ?_ _)|go_size))
   |cons x r1 =>
    obtain⟨k,t⟩:=x
    simp only[hdK,List.headD_cons] at hpk
    cases hT:isT k with
    |false =>
     have H3:Hid (zbv rest=none):=by rw[Hid.out H1 rfl,z3o hT];simp[Hid]
     clear H1 H2
     go_wp2_with (first|(go_at_call 179;refine hpk.mono ?_;rintro e w1 ⟨rfl,hb1⟩;clear hpk;have hz:=hb1.size)|(go_at_call 199;refine(zl8 _ _).mono ?_;rintro e w' ⟨rfl,rfl⟩))
     go_ret2
     have hB:=hbut.trans (But.of hb1)
     exact zj1 H3 (by repeat'(first|(with_reducible exact But.refl _ _)|(with_reducible assumption)|(with_reducible refine But.drewN ?_ _)|(with_reducible refine But.alloc ?_ _)|(with_reducible refine But.drew ?_)|(with_reducible refine But.setCell ?_ _ _)|(with_reducible refine But.setNew ?_ ?_ _)|go_size))
    |true =>
     obtain⟨p,ao,cap,hp,hr,hwv,hblk,hc0,hc1,hfz,hx⟩:=hrd.view
     obtain⟨g,_,hg,hpl,hg0,hg1⟩:=hx k t r1 rfl
     have HR:Hid ((k,t)::r1=l.drop p):=hr
     have HW:Hid (wv=.slice ao l.length cap):=hwv
     clear hx hr hg0 hg1 hc0 hwv
     go_wp2_with (first|(go_at_call 179;refine hpk.mono ?_;rintro e w1 ⟨rfl,hb1⟩;clear hpk;have hz:=hb1.size;have hlt1:r < w1.heap.size:=(by omega);have hd1:=(hb1.cell (p:=⟨r,1,none⟩) hltr).trans hc1;have hf1:=(hb1.frozen (p:=⟨r,1,none⟩) hltr).trans (hfz 1);have hbA:=hb1;have hrdO:=Rd.next (w:=w1) (rest:=(k,t)::r1) ((hb1.block r hltr).trans hblk) hpl HR ⟨_,zaa hrd.words.choose_spec hb1⟩;have hoO:=zb9 (zaa hown hb1) ((But.refl r w1).setCell 1 (.int .i64 ((p:Int)+1))) ((hb1.block r hltr).trans hblk) (by decide);have hbO:=(hbut.trans (But.of hb1)).setCell 1 (.int .i64 ((p:Int)+1));have hzO:(w1.setCell ⟨r,1,none⟩ (.int .i64 ((p:Int)+1))).heap.size=w1.heap.size:=(by simp);clear hbA)|(go_at_call 199;refine(zl8 _ _).mono ?_;rintro e w' ⟨rfl,rfl⟩)|(at_builtin;refine zg3 (w1.setCell ⟨r,1,none⟩ (.int .i64 ((p:Int)+1))) _ _ _ rfl (.tmp 21) (.tmp 24) 30 rfl w.heap.size 9 i0 _ 1 16 Tryz.underlying30 hi hz0 hz1 hz2 rfl (by decide) _ _ _ rfl hoO ((Below.refl _ _).alloc (uaa _) _) _ _ rfl (by simp) rfl (by simp[Value.oneCell']) (by simp at hra;omega) (by omega) (by omega) ?_;intro v' w2 ho2 hB2 hc2 hf2 hk2 hz2';clear hc2 hf2 hk2;have hrd2:=Rd.keep h hrdO hB2;have hbut2:=hbO.onto hB2;have htk:=take_any w2 r wv l r1 6 hrd2 hl (by decide))|(go_at_call 143;refine htk.mono ?_;rintro e w3 ⟨rfl,hrd3,hbut3⟩;clear htk))
     obtain⟨c3,f3,hcell⟩:=hrd2.cell
     have ho3:=zb9 ho2 hbut3 hcell (by decide)
     have hP:=Hid.out H1 trivial
     simp only[ua7] at hn hra
     have htl:(if hdK r1=6 then r1.tail else r1).length<=r1.length:=by split <;> simp
     go_roundg r1.length
     case measure=>omega
     case rel =>
      refine⟨acc++[t],(if hdK r1=6 then r1.tail else r1),(hdK r1 == 6),rfl,htl,by simp;omega,by simpa using ho3,hrd3,hbut2.trans hbut3,?_,?_⟩
      ·intro h6
       have h6':hdK r1=6:=by simpa using h6
       rw[if_pos h6',hP,zwk hT h6',zt5]
      ·intro h6
       have h6':hdK r1≠6:=by simpa using h6
       rw[if_neg h6',hP,zwl hT h6'];simp
theorem z7f(w:World)(r:Nat)(wv:Value)(l rest:List Tok)(h:Rd w r wv l rest)(hl:l.length<=500)(hp:zbv rest=none) :
  Calls Tryz.prog 180 #[.pointer (some ⟨r,0,none⟩)] w fun e w'=>e=.returned (.tuple #[.slice none 0 0,.bool false])/\But r w w':=by
 refine(zuv w r wv l rest h hl).mono ?_
 rintro e w' ⟨h1,h2⟩
 rw[hp] at h2
 exact⟨h2,h1⟩
theorem zuw(w:World)(r:Nat)(wv:Value)(l rest r2:List Tok)(ts:List ByteArray)(h:Rd w r wv l rest)(hl:l.length<=500)(hp:zbv rest=some (ts,r2)) :
  Calls Tryz.prog 180 #[.pointer (some ⟨r,0,none⟩)] w fun e w'=>∃ v,e=.returned (.tuple #[v,.bool true])/\SIn w.heap.size w' v ts/\Rd w' r wv l r2/\But r w w':=by
 refine(zuv w r wv l rest h hl).mono ?_
 rintro e w' ⟨h1,h2⟩
 rw[hp] at h2
 obtain⟨v,a,b,c⟩:=h2
 exact⟨v,a,b,c,h1⟩
def zgj(o:Option (zbu × List Tok))(w:World)(r:Nat)(wv:Value)(l:List Tok)(e:Ending)(w':World):Prop :=
 But r w w'/\match o with
  |none=>e=.returned (.tuple #[.agg #[.bool false,.string ByteArray.empty,.slice none 0 0],.bool false])
  |some (a,r2)=>∃ va,e=.returned (.tuple #[.agg #[.bool a.neg,.string a.pred,va],.bool true])/\SIn w.heap.size w' va a.args/\Rd w' r wv l r2
theorem z8a(w:World)(r:Nat)(wv:Value)(l rest:List Tok)(h:Rd w r wv l rest)(hl:l.length<=500)(h1:(hdK rest == 1)=false) :
  Calls Tryz.prog 142 #[.pointer (some ⟨r,0,none⟩)] w fun e w'=>zgj none w r wv l e w':=by
 have hlt:=h.lt
 have hne:w.heap.size≠r:=by omega
 go_enter Tryz.func142,Tryz.ntmps142
 go_wp2_with (first|(go_at_call 179;refine(zh8 _ r wv l rest (by exact h.below (by go_grown)) hl).mono ?_;rintro e w1 ⟨rfl,hb1⟩;have hB1:=zae ((Below.refl _ _).alloc (uaa _) _) hb1 (uaa _);have hx1:=(Box.new w _ _).below hb1;have hr1:=h.below hB1)|(go_at_call 143;refine(take_any _ r wv l rest 1 (by exact hr1.below (by go_grown)) hl (by decide)).mono ?_;rintro e w2 ⟨rfl,hrd2,hbut2⟩;have hx2:=(hx1.below ((Below.refl _ _).alloc (uaa _) _)).but hbut2 hne;obtain⟨hc2,hf2⟩:=hx2.rules))
 have hB:=(But.of hB1).trans (((But.refl r w1).alloc _).trans hbut2)
 exact bodyPost_ret (v:=.tuple #[.agg #[.bool false,.string ByteArray.empty,.slice none 0 0],.bool false]) (by simp[results,Tryz.results142,go_sem,hc2];rfl) rfl ⟨(by repeat'(first|(with_reducible exact But.refl _ _)|(with_reducible assumption)|(with_reducible refine But.drewN ?_ _)|(with_reducible refine But.alloc ?_ _)|(with_reducible refine But.drew ?_)|(with_reducible refine But.setCell ?_ _ _)|(with_reducible refine But.setNew ?_ ?_ _)|go_size)),rfl⟩
theorem z1a(w:World)(r:Nat)(wv:Value)(l rest:List Tok)(h:Rd w r wv l rest)(hl:l.length<=500)(h1:hdK rest=1)(h4:hdK rest.tail≠4) :
  Calls Tryz.prog 142 #[.pointer (some ⟨r,0,none⟩)] w fun e w'=>zgj (some (⟨false,(rest.headD (0,ByteArray.empty)).2,[]⟩,rest.tail)) w r wv l e w':=by
 have hlt:=h.lt
 have hne:w.heap.size≠r:=by omega
 generalize ht:(rest.headD (0,ByteArray.empty)).2=t
 have HT:Hid ((rest.headD (0,ByteArray.empty)).2=t):=ht
 clear ht
 have H1:Hid (hdK rest=1):=h1
 have HPK:Hid (∀ W,Rd W r wv l rest->Calls Tryz.prog 179 #[.pointer (some ⟨r,0,none⟩)] W fun e w'=>e=.returned (.agg #[.int .i64 1,.string t])/\Below W.heap.size W w'):=fun W hW=>by
  have:=zh8 W r wv l rest hW hl
  rw[h1,Hid.out HT] at this
  exact this
 have H4:Hid (hdK rest.tail≠4):=h4
 clear h1 h4 HT
 go_enter Tryz.func142,Tryz.ntmps142
 go_wp2_with (first|(go_at_call 179;refine(Hid.out HPK _ (by exact h.below (by go_grown))).mono ?_;rintro e w1 ⟨rfl,hb1⟩;have hB1:=zae ((Below.refl _ _).alloc (uaa _) _) hb1 (uaa _);have hx1:=(Box.new w _ _).below hb1;have hz1:=hx1.lt;have hr1:=h.below hB1;have hlt1:r < w1.heap.size:=(by omega);have hne1:w1.heap.size≠r:=(by omega))|(go_at_call 143;have hq:=hr2;refine(zjb _ r wv l rest.tail 4 hq hl (by decide) H4).mono ?_;rintro e w3 ⟨rfl,hr3,hbut3⟩;have hx3:=hx2.but hbut3 hne;have hy3:=hy2.but hbut3 hne1;clear hc2 hf2 hd2 he2;obtain⟨hc3,hf3⟩:=hx3.rules;obtain⟨hd3,he3⟩:=hy3.rules;have hz3:=hx3.lt;have hzy3:=hy3.lt;have hlt3:=hr3.lt;have hB3:=hB2.trans hbut3;clear hq)|(go_at_call 143;have hq:=hr1;refine(zdw _ r wv l rest 1 (by exact hq.below (by go_grown)) hl (by decide) H1).mono ?_;rintro e w2 ⟨rfl,hr2,hbut2⟩;have hx2:=(hx1.below ((Below.refl _ _).alloc (uaa _) _)).but hbut2 hne;have hy2:=(Box.new w1 _ _).but hbut2 hne1;obtain⟨hc2,hf2⟩:=hx2.rules;obtain⟨hd2,he2⟩:=hy2.rules;have hz2:=hx2.lt;have hzy2:=hy2.lt;have hlt2:=hr2.lt;have hB2:=(But.of hB1).trans (((But.refl r w1).alloc _).trans hbut2);clear hq))
 exact bodyPost_ret (v:=.tuple #[.agg #[.bool false,.string t,.slice none 0 0],.bool true]) (by simp[results,Tryz.results142,go_sem,hc3]) rfl ⟨(by repeat'(first|(with_reducible exact But.refl _ _)|(with_reducible assumption)|(with_reducible refine But.drewN ?_ _)|(with_reducible refine But.alloc ?_ _)|(with_reducible refine But.drew ?_)|(with_reducible refine But.setCell ?_ _ _)|(with_reducible refine But.setNew ?_ ?_ _)|go_size)),_,rfl,SIn.nil _,h.keep hr3 (by go_grown)⟩
theorem z1b(w:World)(r:Nat)(wv:Value)(l rest:List Tok)(h:Rd w r wv l rest)(hl:l.length<=500)(h1:hdK rest=1)(h4:hdK rest.tail=4)(h5:zbv rest.tail.tail=none) :
  Calls Tryz.prog 142 #[.pointer (some ⟨r,0,none⟩)] w fun e w'=>zgj none w r wv l e w':=by
 have hlt:=h.lt
 have hne:w.heap.size≠r:=by omega
 obtain⟨t,HT⟩:∃ t,Hid ((rest.headD (0,ByteArray.empty)).2=t):=⟨_,rfl⟩
 have H1:Hid (hdK rest=1):=h1
 have HPK:Hid (∀ W,Rd W r wv l rest->Calls Tryz.prog 179 #[.pointer (some ⟨r,0,none⟩)] W fun e w'=>e=.returned (.agg #[.int .i64 1,.string t])/\Below W.heap.size W w'):=fun W hW=>by
  have:=zh8 W r wv l rest hW hl
  rw[h1,Hid.out HT] at this
  exact this
 have H4:Hid (hdK rest.tail=4):=h4
 have H5:Hid (zbv rest.tail.tail=none):=h5
 clear h1 h4 h5 HT
 go_enter Tryz.func142,Tryz.ntmps142
 go_wp2_with (first|(go_at_call 179;refine(Hid.out HPK _ (by exact h.below (by go_grown))).mono ?_;rintro e w1 ⟨rfl,hb1⟩;have hB1:=zae ((Below.refl _ _).alloc (uaa _) _) hb1 (uaa _);have hx1:=(Box.new w _ _).below hb1;have hz1:=hx1.lt;have hr1:=h.below hB1;have hlt1:r < w1.heap.size:=(by omega);have hne1:w1.heap.size≠r:=(by omega))|(go_at_call 180;refine(z7f _ r wv l rest.tail.tail hr3 hl H5).mono ?_;rintro e w4 ⟨rfl,hbut4⟩;have hx4:=hx3.but hbut4 hne;have hy4:=hy3.but hbut4 hne1;clear hc3 hf3 hd3 he3;obtain⟨hc4,hf4⟩:=hx4.rules;obtain⟨hd4,he4⟩:=hy4.rules;have hz4:=hx4.lt;have hzy4:=hy4.lt;have hB4:=hB3.trans hbut4)|(go_at_call 143;have hq:=hr2;refine(zdw _ r wv l rest.tail 4 hq hl (by decide) H4).mono ?_;rintro e w3 ⟨rfl,hr3,hbut3⟩;have hx3:=hx2.but hbut3 hne;have hy3:=hy2.but hbut3 hne1;clear hc2 hf2 hd2 he2;obtain⟨hc3,hf3⟩:=hx3.rules;obtain⟨hd3,he3⟩:=hy3.rules;have hz3:=hx3.lt;have hzy3:=hy3.lt;have hlt3:=hr3.lt;have hB3:=hB2.trans hbut3;clear hq)|(go_at_call 143;have hq:=hr1;refine(zdw _ r wv l rest 1 (by exact hq.below (by go_grown)) hl (by decide) H1).mono ?_;rintro e w2 ⟨rfl,hr2,hbut2⟩;have hx2:=(hx1.below ((Below.refl _ _).alloc (uaa _) _)).but hbut2 hne;have hy2:=(Box.new w1 _ _).but hbut2 hne1;obtain⟨hc2,hf2⟩:=hx2.rules;obtain⟨hd2,he2⟩:=hy2.rules;have hz2:=hx2.lt;have hzy2:=hy2.lt;have hlt2:=hr2.lt;have hB2:=(But.of hB1).trans (((But.refl r w1).alloc _).trans hbut2);clear hq))
 exact bodyPost_ret (v:=.tuple #[.agg #[.bool false,.string ByteArray.empty,.slice none 0 0],.bool false]) (by simp[results,Tryz.results142,go_sem,hc4];rfl) rfl ⟨(by repeat'(first|(with_reducible exact But.refl _ _)|(with_reducible assumption)|(with_reducible refine But.drewN ?_ _)|(with_reducible refine But.alloc ?_ _)|(with_reducible refine But.drew ?_)|(with_reducible refine But.setCell ?_ _ _)|(with_reducible refine But.setNew ?_ ?_ _)|go_size)),rfl⟩
theorem zvo(w:World)(r:Nat)(wv:Value)(l rest r2:List Tok)(ts:List ByteArray)(h:Rd w r wv l rest)(hl:l.length<=500)(h1:hdK rest=1)(h4:hdK rest.tail=4)(h5:zbv rest.tail.tail=some (ts,r2))(h6:hdK r2≠5) :
  Calls Tryz.prog 142 #[.pointer (some ⟨r,0,none⟩)] w fun e w'=>zgj none w r wv l e w':=by
 have hlt:=h.lt
 have hne:w.heap.size≠r:=by omega
 obtain⟨t,HT⟩:∃ t,Hid ((rest.headD (0,ByteArray.empty)).2=t):=⟨_,rfl⟩
 have H1:Hid (hdK rest=1):=h1
 have HPK:Hid (∀ W,Rd W r wv l rest->Calls Tryz.prog 179 #[.pointer (some ⟨r,0,none⟩)] W fun e w'=>e=.returned (.agg #[.int .i64 1,.string t])/\Below W.heap.size W w'):=fun W hW=>by
  have:=zh8 W r wv l rest hW hl
  rw[h1,Hid.out HT] at this
  exact this
 have H4:Hid (hdK rest.tail=4):=h4
 have H5:Hid (zbv rest.tail.tail=some (ts,r2)):=h5
 have H6:Hid (hdK r2≠5):=h6
 clear h1 h4 h5 h6 HT
 go_enter Tryz.func142,Tryz.ntmps142
 go_wp2_with (first|(go_at_call 179;refine(Hid.out HPK _ (by exact h.below (by go_grown))).mono ?_;rintro e w1 ⟨rfl,hb1⟩;have hB1:=zae ((Below.refl _ _).alloc (uaa _) _) hb1 (uaa _);have hx1:=(Box.new w _ _).below hb1;have hz1:=hx1.lt;have hr1:=h.below hB1;have hlt1:r < w1.heap.size:=(by omega);have hne1:w1.heap.size≠r:=(by omega))|(go_at_call 180;refine(zuw _ r wv l rest.tail.tail r2 ts hr3 hl H5).mono ?_;rintro e w4 ⟨va,rfl,hsin,hr4,hbut4⟩;obtain⟨ao,cp,rfl⟩:=hsin.shape;have hx4:=hx3.but hbut4 hne;have hy4:=hy3.but hbut4 hne1;clear hc3 hf3 hd3 he3;obtain⟨hc4,hf4⟩:=hx4.rules;obtain⟨hd4,he4⟩:=hy4.rules;have hz4:=hx4.lt;have hzy4:=hy4.lt;have hlt4:=hr4.lt;have hB4:=hB3.trans hbut4)|(go_at_call 143;have hq:=hr4;refine(zjb _ r wv l r2 5 hq hl (by decide) H6).mono ?_;rintro e w5 ⟨rfl,hr5,hbut5⟩;have hx5:=hx4.but hbut5 hne;have hy5:=hy4.but hbut5 hne1;clear hc4 hf4 hd4 he4;obtain⟨hc5,hf5⟩:=hx5.rules;obtain⟨hd5,he5⟩:=hy5.rules;have hz5:=hx5.lt;have hzy5:=hy5.lt;have hlt5:=hr5.lt;have hB5:=hB4.trans hbut5;clear hq)|(go_at_call 143;have hq:=hr2;refine(zdw _ r wv l rest.tail 4 hq hl (by decide) H4).mono ?_;rintro e w3 ⟨rfl,hr3,hbut3⟩;have hx3:=hx2.but hbut3 hne;have hy3:=hy2.but hbut3 hne1;clear hc2 hf2 hd2 he2;obtain⟨hc3,hf3⟩:=hx3.rules;obtain⟨hd3,he3⟩:=hy3.rules;have hz3:=hx3.lt;have hzy3:=hy3.lt;have hlt3:=hr3.lt;have hB3:=hB2.trans hbut3;clear hq)|(go_at_call 143;have hq:=hr1;refine(zdw _ r wv l rest 1 (by exact hq.below (by go_grown)) hl (by decide) H1).mono ?_;rintro e w2 ⟨rfl,hr2,hbut2⟩;have hx2:=(hx1.below ((Below.refl _ _).alloc (uaa _) _)).but hbut2 hne;have hy2:=(Box.new w1 _ _).but hbut2 hne1;obtain⟨hc2,hf2⟩:=hx2.rules;obtain⟨hd2,he2⟩:=hy2.rules;have hz2:=hx2.lt;have hzy2:=hy2.lt;have hlt2:=hr2.lt;have hB2:=(But.of hB1).trans (((But.refl r w1).alloc _).trans hbut2);clear hq))
 exact bodyPost_ret (v:=.tuple #[.agg #[.bool false,.string ByteArray.empty,.slice none 0 0],.bool false]) (by simp[results,Tryz.results142,go_sem,hc5];rfl) rfl ⟨(by repeat'(first|(with_reducible exact But.refl _ _)|(with_reducible assumption)|(with_reducible refine But.drewN ?_ _)|(with_reducible refine But.alloc ?_ _)|(with_reducible refine But.drew ?_)|(with_reducible refine But.setCell ?_ _ _)|(with_reducible refine But.setNew ?_ ?_ _)|go_size)),rfl⟩
theorem zyv(w:World)(r:Nat)(wv:Value)(l rest r2:List Tok)(ts:List ByteArray)(h:Rd w r wv l rest)(hl:l.length<=500)(h1:hdK rest=1)(h4:hdK rest.tail=4)(h5:zbv rest.tail.tail=some (ts,r2))(h6:hdK r2=5) :
  Calls Tryz.prog 142 #[.pointer (some ⟨r,0,none⟩)] w fun e w'=>zgj (some (⟨false,(rest.headD (0,ByteArray.empty)).2,ts⟩,r2.tail)) w r wv l e w':=by
 have hlt:=h.lt
 have hne:w.heap.size≠r:=by omega
 generalize ht:(rest.headD (0,ByteArray.empty)).2=t
 have HT:Hid ((rest.headD (0,ByteArray.empty)).2=t):=ht
 clear ht
 have H1:Hid (hdK rest=1):=h1
 have HPK:Hid (∀ W,Rd W r wv l rest->Calls Tryz.prog 179 #[.pointer (some ⟨r,0,none⟩)] W fun e w'=>e=.returned (.agg #[.int .i64 1,.string t])/\Below W.heap.size W w'):=fun W hW=>by
  have:=zh8 W r wv l rest hW hl
  rw[h1,Hid.out HT] at this
  exact this
 have H4:Hid (hdK rest.tail=4):=h4
 have H5:Hid (zbv rest.tail.tail=some (ts,r2)):=h5
 have H6:Hid (hdK r2=5):=h6
 clear h1 h4 h5 h6 HT
 go_enter Tryz.func142,Tryz.ntmps142
 go_wp2_with (first|(go_at_call 179;refine(Hid.out HPK _ (by exact h.below (by go_grown))).mono ?_;rintro e w1 ⟨rfl,hb1⟩;have hB1:=zae ((Below.refl _ _).alloc (uaa _) _) hb1 (uaa _);have hx1:=(Box.new w _ _).below hb1;have hz1:=hx1.lt;have hr1:=h.below hB1;have hlt1:r < w1.heap.size:=(by omega);have hne1:w1.heap.size≠r:=(by omega))|(go_at_call 180;refine(zuw _ r wv l rest.tail.tail r2 ts hr3 hl H5).mono ?_;rintro e w4 ⟨va,rfl,hsin,hr4,hbut4⟩;obtain⟨ao,cp,rfl⟩:=hsin.shape;have hx4:=hx3.but hbut4 hne;have hy4:=hy3.but hbut4 hne1;clear hc3 hf3 hd3 he3;obtain⟨hc4,hf4⟩:=hx4.rules;obtain⟨hd4,he4⟩:=hy4.rules;have hz4:=hx4.lt;have hzy4:=hy4.lt;have hlt4:=hr4.lt;have hB4:=hB3.trans hbut4)|(go_at_call 143;have hq:=hr4;refine(zdw _ r wv l r2 5 hq hl (by decide) H6).mono ?_;rintro e w5 ⟨rfl,hr5,hbut5⟩;have hx5:=hx4.but hbut5 hne;have hy5:=hy4.but hbut5 hne1;clear hc4 hf4 hd4 he4;obtain⟨hc5,hf5⟩:=hx5.rules;obtain⟨hd5,he5⟩:=hy5.rules;have hz5:=hx5.lt;have hzy5:=hy5.lt;have hlt5:=hr5.lt;have hB5:=hB4.trans hbut5;clear hq)|(go_at_call 143;have hq:=hr2;refine(zdw _ r wv l rest.tail 4 hq hl (by decide) H4).mono ?_;rintro e w3 ⟨rfl,hr3,hbut3⟩;have hx3:=hx2.but hbut3 hne;have hy3:=hy2.but hbut3 hne1;clear hc2 hf2 hd2 he2;obtain⟨hc3,hf3⟩:=hx3.rules;obtain⟨hd3,he3⟩:=hy3.rules;have hz3:=hx3.lt;have hzy3:=hy3.lt;have hlt3:=hr3.lt;have hB3:=hB2.trans hbut3;clear hq)|(go_at_call 143;have hq:=hr1;refine(zdw _ r wv l rest 1 (by exact hq.below (by go_grown)) hl (by decide) H1).mono ?_;rintro e w2 ⟨rfl,hr2,hbut2⟩;have hx2:=(hx1.below ((Below.refl _ _).alloc (uaa _) _)).but hbut2 hne;have hy2:=(Box.new w1 _ _).but hbut2 hne1;obtain⟨hc2,hf2⟩:=hx2.rules;obtain⟨hd2,he2⟩:=hy2.rules;have hz2:=hx2.lt;have hzy2:=hy2.lt;have hlt2:=hr2.lt;have hB2:=(But.of hB1).trans (((But.refl r w1).alloc _).trans hbut2);clear hq))
 obtain⟨c4,f4,hcl⟩:=hr4.cell
 have hs5:=hsin.but hbut5 hcl (by decide)
 exact bodyPost_ret (v:=.tuple #[.agg #[.bool false,.string t,.slice ao ts.length cp],.bool true]) (by simp[results,Tryz.results142,go_sem,hc5]) rfl ⟨(by repeat'(first|(with_reducible exact But.refl _ _)|(with_reducible assumption)|(with_reducible refine But.drewN ?_ _)|(with_reducible refine But.alloc ?_ _)|(with_reducible refine But.drew ?_)|(with_reducible refine But.setCell ?_ _ _)|(with_reducible refine But.setNew ?_ ?_ _)|go_size)),_,rfl,(hs5.low hB3.size).but (r:=w.heap.size) (by repeat'(first|(with_reducible exact But.refl _ _)|(with_reducible assumption)|(with_reducible refine But.drewN ?_ _)|(with_reducible refine But.alloc ?_ _)|(with_reducible refine But.drew ?_)|(with_reducible refine But.setCell ?_ _ _)|(with_reducible refine But.setNew ?_ ?_ _)|go_size)) hx5 (by decide),h.keep hr5 (by go_grown)⟩
theorem zxh(w:World)(r:Nat)(wv:Value)(l rest:List Tok)(h:Rd w r wv l rest)(hl:l.length<=500) :
  Calls Tryz.prog 142 #[.pointer (some ⟨r,0,none⟩)] w fun e w'=>zgj (zeh rest) w r wv l e w':=by
 unfold zeh
 split
 ·rename_i h1
  split
  ·rename_i h4
   split
   ·rename_i h5;exact z1b w r wv l rest h hl h1 h4 h5
   ·rename_i ts r2 h5
    split
    ·rename_i h6;exact zyv w r wv l rest r2 ts h hl h1 h4 h5 h6
    ·rename_i h6;exact zvo w r wv l rest r2 ts h hl h1 h4 h5 h6
  ·rename_i h4;exact z1a w r wv l rest h hl h1 h4
 ·rename_i h1;exact z8a w r wv l rest h hl (by simpa using h1)
end Go.Proofs.YteampbddflhngaaGreat
