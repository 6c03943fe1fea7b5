import Derived.Test.YteampbddflhngabGreatJ01
import Derived.Deep.QuietTactic
import Derived.BigQuiet
import Derived.Deep.LoopGhost

namespace Go.Proofs.YteampbddflhngabGreat
open Go.RowKit
variable {lo:Nat}
abbrev Tok:=Int × ByteArray
structure zbv where
 neg:Bool
 pred:ByteArray
 args:List ByteArray
structure zac where
 head:zbv
 body:List zbv
def isT(k:Int):Bool:=k == 1 || k == 3 || k == 2
def hdK:List Tok->Int
 |[]=>0
 |x::_=>x.1
def zbm:List Tok->Option (List ByteArray × List Tok)
 |[]=>none
 |[x]=>if isT x.1 then some ([x.2],[]) else none
 |x::y::r=>if isT x.1 then(if y.1=6 then(zbm r).map fun z=>(x.2::z.1,z.2) else some ([x.2],y::r)) else none
theorem z1s{k:Int}{t:ByteArray}{r:List Tok}(h:isT k=false):zbm ((k,t)::r)=none:=by cases r <;> simp[zbm,h]
theorem zvi{k:Int}{t:ByteArray}{r:List Tok}(h:isT k=true)(h6:hdK r≠6):zbm ((k,t)::r)=some ([t],r):=by
 cases r with
 |nil=>simp[zbm,h]
 |cons y r=>simp only[hdK] at h6;simp[zbm,h,h6]
theorem zvh{k:Int}{t:ByteArray}{r:List Tok}(h:isT k=true)(h6:hdK r=6):zbm ((k,t)::r)=(zbm r.tail).map fun z=>(t::z.1,z.2):=by
 cases r with
 |nil=>simp[hdK] at h6
 |cons y r=>simp only[hdK] at h6;simp[zbm,h,h6]
def zd9(r:List Tok):Option (zbv × List Tok) :=
 if hdK r=1 then
  if hdK r.tail=4 then
   match zbm r.tail.tail with
   |none=>none
   |some (ts,r2)=>if hdK r2=5 then some (⟨false,(r.headD (0,ByteArray.empty)).2,ts⟩,r2.tail) else none
  else some (⟨false,(r.headD (0,ByteArray.empty)).2,[]⟩,r.tail)
 else none
def zri(r:List Tok):Option (zbv × List Tok) :=
 if hdK r=8 then(zd9 r.tail).map fun z=>({ z.1 with neg:=true },z.2) else zd9 r
structure But (r:Nat) (w w':World):Prop where
 os:w'.os=w.os
 tape:w'.tape=w.tape
 output:w'.output=w.output
 size:w.heap.size<=w'.heap.size
 block:∀ k,k < w.heap.size->k≠r->w'.heap[k]?=w.heap[k]?
theorem But.refl(r:Nat)(w:World):But r w w:=⟨rfl,rfl,rfl,Nat.le_refl _,fun _ _ _=>rfl⟩
theorem But.trans{r:Nat}{a b c:World}(h:But r a b)(k:But r b c):But r a c :=
 ⟨k.os.trans h.os,k.tape.trans h.tape,k.output.trans h.output,Nat.le_trans h.size k.size,fun i hi hr=>(k.block i (Nat.lt_of_lt_of_le hi h.size) hr).trans (h.block i hi hr)⟩
theorem But.of{r:Nat}{w w':World}(h:Below w.heap.size w w'):But r w w':=⟨h.os,h.tape,h.output,h.size,fun k hk _=>h.block k hk⟩
theorem But.below{r B:Nat}{w w':World}(h:But r w w')(hr:B<=r)(hB:B<=w.heap.size):Below B w w':=⟨h.os,h.tape,h.output,h.size,fun k hk=>h.block k (by omega) (by omega)⟩
theorem But.setCell{r:Nat}{a w:World}(h:But r a w)(o:Nat)(u:Value):But r a (w.setCell ⟨r,o,none⟩ u) :=
 h.trans ⟨rfl,rfl,rfl,by simp[World.setCell],fun _ _ hr=>Below.heap_setCell _ _ _ _ hr⟩
theorem But.alloc{r:Nat}{a w:World}(h:But r a w)(o:Obj):But r a (w.alloc o):=h.trans (But.of ((Below.refl _ _).alloc (Nat.le_refl _) o))
theorem But.setNew{r:Nat}{a w:World}(h:But r a w){p:Addr}(hp:a.heap.size<=p.block)(u:Value):But r a (w.setCell p u) :=
 ⟨h.os,h.tape,h.output,by simp[World.setCell];exact h.size,fun k hk hr=>(Below.heap_setCell _ _ _ _ (by omega)).trans (h.block k hk hr)⟩
theorem zb4{r:Nat}{w w':World}{base:Nat}{e:TypeId}{size:Nat}{v:Value}{n:Nat}{xs:List Value}(h:w.ownsRow base e size v n xs)(hb:But r w w')
  {c:Array Value} {T:TypeId} {f:Nat × Nat} (hr:w.heap[r]?=some (.cells c T f)) (hT:T≠e):w'.ownsRow base e size v n xs:=by
 obtain⟨h1,h2⟩:=h
 refine⟨h1,?_⟩
 rcases h2 with h2|⟨g,cap,cur,hv,hg,hh,rr⟩
 ·exact Or.inl h2
 ·refine Or.inr ⟨g,cap,cur,hv,hg,?_,rr⟩
  rw[hb.block g (Array.getElem?_eq_some_iff.1 hh).1 (fun hgr=>by subst hgr;rw[hh] at hr;simp at hr;exact hT hr.2.1.symm)];exact hh
theorem zab{w:World}{base:Nat}{e:TypeId}{size:Nat}{v:Value}{n:Nat}{xs:List Value}(h:w.ownsRow base e size v n xs):∃ ao cap,v=.slice ao n cap:=by
 obtain⟨_,⟨hv,hn⟩|⟨g,cap,cur,hv,_⟩⟩:=h
 ·exact⟨none,0,by rw[hv,hn]⟩
 ·exact⟨_,cap,hv⟩
theorem zas{w:World}{base:Nat}{e:TypeId}{size:Nat}{v:Value}{n:Nat}{xs:List Value}(h:w.ownsRow base e size v n xs)(hn:0 < n) :
  ∃ g cap,v=.slice (some ⟨g,0,none⟩) n cap/\base<=g/\g < w.heap.size/\∀ j u,xs[j]?=some u->w.cell? ⟨g,j,none⟩=some u:=by
 obtain⟨hl,⟨hv,h0⟩|⟨g,cap,cur,hv,hg,hh,hc1,hc2,hc3,hx⟩⟩:=h
 ·omega
 ·refine⟨g,cap,hv,hg,(Array.getElem?_eq_some_iff.1 hh).1,fun j u hj=>?_⟩
  unfold World.cell?
  rw[hh]
  simp
  rw[← hx,List.getElem?_take] at hj
  split at hj
  ·simpa using hj
  ·simp at hj
def Box(w:World)(b:Nat)(c:Array Value)(T:TypeId):Prop:=w.heap[b]?=some (.cells c T (0,0))
theorem Box.lt{w:World}{b:Nat}{c:Array Value}{T:TypeId}(h:Box w b c T):b < w.heap.size:=(Array.getElem?_eq_some_iff.1 h).1
theorem Box.new(w:World)(c:Array Value)(T:TypeId):Box (w.alloc (.cells c T)) w.heap.size c T:=by unfold Box;show(w.heap.push _)[w.heap.size]?=_;simp
theorem Box.below{w w':World}{b:Nat}{c:Array Value}{T:TypeId}(h:Box w b c T)(hb:Below w.heap.size w w'):Box w' b c T:=by have:=h.lt;unfold Box at *;rw[hb.block b this];exact h
theorem Box.but{r:Nat}{w w':World}{b:Nat}{c:Array Value}{T:TypeId}(h:Box w b c T)(hb:But r w w')(hne:b≠r):Box w' b c T:=by have:=h.lt;unfold Box at *;rw[hb.block b this hne];exact h
theorem Box.rules{w:World}{b:Nat}{c:Array Value}{T:TypeId}(h:Box w b c T):(∀ o,w.cell? ⟨b,o,none⟩=c[o]?)/\(∀ o,w.frozen? ⟨b,o,none⟩=false):=by
 unfold Box at h
 exact⟨fun o=>by unfold World.cell?;rw[h];simp,fun o=>by unfold World.frozen?;rw[h];simp⟩
def SIn(lo:Nat)(w:World)(v:Value)(l:List ByteArray):Prop:=w.ownsRow lo 9 1 v l.length (l.map Value.string)
theorem zbb{w:World}{a b:Nat}{e:TypeId}{size:Nat}{v:Value}{n:Nat}{xs:List Value}(h:w.ownsRow b e size v n xs)(hab:a<=b):w.ownsRow a e size v n xs:=by
 obtain⟨h1,h2⟩:=h
 refine⟨h1,?_⟩
 rcases h2 with h2|⟨g,cap,cur,hv,hg,rr⟩
 ·exact Or.inl h2
 ·exact Or.inr ⟨g,cap,cur,hv,by omega,rr⟩
theorem SIn.low{a b:Nat}{w:World}{v:Value}{l:List ByteArray}(h:SIn b w v l)(hab:a<=b):SIn a w v l:=zbb h hab
theorem SIn.nil(w:World):SIn lo w (.slice none 0 0) []:=World.ownsRow_nil _ _ _ _
theorem SIn.shape{w:World}{v:Value}{l:List ByteArray}(h:SIn lo w v l):∃ ao cap,v=.slice ao l.length cap:=zab h
theorem SIn.below{w w':World}{v:Value}{l:List ByteArray}(h:SIn lo w v l)(hb:Below w.heap.size w w'):SIn lo w' v l:=zaa h hb
theorem SIn.but{r:Nat}{w w':World}{v:Value}{l:List ByteArray}(h:SIn lo w v l)(hb:But r w w'){c:Array Value}{T:TypeId}{f:Nat × Nat}(hr:w.heap[r]?=some (.cells c T f))(hT:T≠9):SIn lo w' v l:=by
 exact zb4 h hb hr hT
structure Rd (w:World) (r:Nat) (wv:Value) (l rest:List Tok):Prop where
 box:∃ p:Nat,p<=l.length/\rest=l.drop p/\w.heap[r]?=some (.cells #[wv,.int .i64 p] 132 (0,0))
 words:∃ base,w.ownsRow base 129 2 wv l.length (zgb l)
theorem Rd.cell{w:World}{r:Nat}{wv:Value}{l rest:List Tok}(h:Rd w r wv l rest):∃ c f,w.heap[r]?=some (.cells c 132 f):=by
 obtain⟨p,_,_,hh⟩:=h.box;exact⟨_,_,hh⟩
theorem Rd.lt{w:World}{r:Nat}{wv:Value}{l rest:List Tok}(h:Rd w r wv l rest):r < w.heap.size:=by
 obtain⟨p,_,_,hh⟩:=h.box;exact(Array.getElem?_eq_some_iff.1 hh).1
theorem Rd.below{w w':World}{r:Nat}{wv:Value}{l rest:List Tok}(h:Rd w r wv l rest)(hb:Below w.heap.size w w'):Rd w' r wv l rest:=by
 have hlt:=h.lt
 obtain⟨⟨p,h1,h2,h3⟩,b,h4⟩:=h
 exact⟨⟨p,h1,h2,by rw[hb.block r hlt];exact h3⟩,b,zaa h4 hb⟩
theorem z2r(l:List Tok)(p:Nat)(k:Int)(t:ByteArray)(r:List Tok)(h:(k,t)::r=l.drop p):(zgb l)[p * 2]?=some (.int .i64 k)/\(zgb l)[p * 2+1]?=some (.string t):=by
 induction l generalizing p with
 |nil=>simp at h
 |cons x l ih =>
  cases p with
  |zero=>simp at h;obtain⟨rfl,_⟩:=h;simp[zgb]
  |succ p =>
   have:=ih p (by simpa using h)
   simp only[zgb,List.flatMap_cons] at this ⊢
   rw[show(p+1) * 2=p * 2+1+1 from by omega]
   simpa using this
theorem Rd.view{w:World}{r:Nat}{wv:Value}{l rest:List Tok}(h:Rd w r wv l rest):∃(p:Nat) (ao:Option Addr) (cap:Nat),p<=l.length/\rest=l.drop p/\wv=.slice ao l.length cap ∧
  w.heap[r]?=some (.cells #[wv,.int .i64 p] 132 (0,0))/\w.cell? ⟨r,0,none⟩=some wv/\w.cell? ⟨r,1,none⟩=some (.int .i64 p)/\(∀ o,w.frozen? ⟨r,o,none⟩=false) ∧
  (∀ k t r',rest=(k,t)::r'->∃ g,ao=some ⟨g,0,none⟩/\g < w.heap.size/\p < l.length/\w.cell? ⟨g,p * 2,none⟩=some (.int .i64 k)/\w.cell? ⟨g,p * 2+1,none⟩=some (.string t)):=by
 obtain⟨⟨p,h1,h2,h3⟩,b,h4⟩:=h
 obtain⟨ao,cap,hv⟩:=zab h4
 refine⟨p,ao,cap,h1,h2,hv,h3,by unfold World.cell?;rw[h3];simp,by unfold World.cell?;rw[h3];simp,fun o=>by unfold World.frozen?;rw[h3];simp,?_⟩
 intro k t r' hr
 have hp:p < l.length:=by
  rcases Nat.lt_or_ge p l.length with h|h
  ·exact h
  ·rw[List.drop_eq_nil_of_le h] at h2;rw[h2] at hr;cases hr
 obtain⟨g,cap',hv',_,hg,hc⟩:=zas h4 (by omega)
 rw[hv] at hv'
 simp at hv'
 obtain⟨w1,w2⟩:=z2r l p k t r' (by rw[← hr,h2])
 exact⟨g,hv'.1,hg,hp,hc _ _ w1,hc _ _ w2⟩
theorem Rd.keep{w wO w2:World}{r:Nat}{wv:Value}{l rest0 rest:List Tok}(h0:Rd w r wv l rest0)(h:Rd wO r wv l rest)(hb:Below w.heap.size wO w2):Rd w2 r wv l rest:=by
 have hlt:=h0.lt
 obtain⟨_,b0,_,hw0⟩:=h0
 obtain⟨⟨p,h1,h2,h3⟩,b,hl,hw⟩:=h
 refine⟨⟨p,h1,h2,by rw[hb.block r hlt];exact h3⟩,b,hl,?_⟩
 rcases hw with hw|⟨g,cap,cur,hv,hg,hh,rr⟩
 ·exact Or.inl hw
 ·refine Or.inr ⟨g,cap,cur,hv,hg,?_,rr⟩
  rcases hw0 with ⟨hv0,_⟩|⟨g0,cap0,cur0,hv0,_,hh0,_⟩
  ·rw[hv0] at hv;cases hv
  ·rw[hv0] at hv;simp at hv;obtain⟨rfl,rfl⟩:=hv
   rw[hb.block g0 (Array.getElem?_eq_some_iff.1 hh0).1];exact hh
theorem But.onto{r:Nat}{a b c:World}(h:But r a b)(k:Below a.heap.size b c):But r a c :=
 ⟨k.os.trans h.os,k.tape.trans h.tape,k.output.trans h.output,Nat.le_trans h.size k.size,fun i hi hr=>(k.block i hi).trans (h.block i hi hr)⟩
theorem Rd.next{w:World}{r:Nat}{wv:Value}{l rest:List Tok}{p:Nat}(h3:w.heap[r]?=some (.cells #[wv,.int .i64 p] 132 (0,0)))(hp:p < l.length)(h2:rest=l.drop p)
  (hw:∃ base,w.ownsRow base 129 2 wv l.length (zgb l)):Rd (w.setCell ⟨r,1,none⟩ (.int .i64 ((p:Int)+1))) r wv l rest.tail:=by
 refine⟨⟨p+1,hp,by rw[h2,List.tail_drop],?_⟩,?_⟩
 ·simp[World.setCell,Array.getElem?_modify,h3]
 ·obtain⟨b,hb⟩:=hw
  exact⟨b,zb4 hb ((But.refl r w).setCell 1 _) h3 (by decide)⟩
end Go.Proofs.YteampbddflhngabGreat
namespace Go.Proofs.YteampbddflhngabGreat
set_option maxRecDepth 100000
set_option maxHeartbeats 1000000
open Go.RowKit
theorem zlj(k:Int)(w:World) :
  Calls Tryz.prog 130 #[.int .i64 k] w fun e w'=>e=.returned (.bool (isT k))/\w'=w:=by
 go_enter Tryz.func130,Tryz.ntmps130
 go_wp2
 all_goals go_ret
 all_goals go_light
 all_goals exact⟨by simp_all [isT],rfl⟩
theorem zh0(w:World)(r:Nat)(wv:Value)(l rest:List Tok)(h:Rd w r wv l rest)(_:l.length<=500) :
  Calls Tryz.prog 116 #[.pointer (some ⟨r,0,none⟩)] w fun e w'=>e=.returned (.agg #[.int .i64 (hdK rest),.string (rest.headD (0,ByteArray.empty)).2])/\Below w.heap.size w w':=by
 have hlt:=h.lt
 obtain⟨p,ao,cap,hp,hr,rfl,hblk,hc0,hc1,hfz,hx⟩:=h.view
 clear h
 cases rest with
 |nil =>
  have hpl:p=l.length:=by
   have:=congrArg List.length hr;simp at this;omega
  clear hr hx
  subst hpl
  go_enter Tryz.func116,Tryz.ntmps116
  go_wp2
  go_quiet (fail)
  go_wp2
  go_returns
  exact⟨rfl,(by repeat'(first|with_reducible(first|exact zR _ _|assumption|refine zN ?_ _|refine zA ?_ ?_ _|refine zD ?_|refine zS ?_ ?_ _)|go_size))⟩
 |cons x r' =>
  obtain⟨k,t⟩:=x
  obtain⟨g,rfl,hg,hpl,hg0,hg1⟩:=hx k t r' rfl
  clear hx hr
  go_enter Tryz.func116,Tryz.ntmps116
  go_wp2
  go_quiet (fail)
  go_wp2
  go_region
  all_goals go_wp2
  all_goals exact bodyPost_ret (v:=.agg #[.int .i64 k,.string t]) (by simp[results,Tryz.results116,go_sem]) rfl ⟨rfl,(by repeat'(first|with_reducible(first|exact zR _ _|assumption|refine zN ?_ _|refine zA ?_ ?_ _|refine zD ?_|refine zS ?_ ?_ _)|go_size))⟩
theorem take_any(w:World)(r:Nat)(wv:Value)(l rest:List Tok)(k:Int)(h:Rd w r wv l rest)(hl:l.length<=500)(hk:k≠0) :
  Calls Tryz.prog 89 #[.pointer (some ⟨r,0,none⟩),.int .i64 k] w fun e w'=>e=.returned (.bool (hdK rest == k))/\Rd w' r wv l (if hdK rest=k then rest.tail else rest)/\But r w w':=by
 have hpk:=zh0 w r wv l rest h hl
 by_cases hh:hdK rest=k
 ·obtain⟨p,ao,cap,hp,hr,hwv,hblk,hc0,hc1,hfz,hx⟩:=h.view
  have hw:=h.words
  have hlt:=h.lt
  cases rest with
  |nil=>exact absurd hh.symm hk
  |cons x r' =>
   obtain⟨k',t⟩:=x
   obtain⟨g,_,hg,hpl,hg0,hg1⟩:=hx k' t r' rfl
   have HR:Hid ((k',t)::r'=l.drop p):=hr
   simp only[hdK] at hh hpk ⊢
   subst hh
   simp only[if_true,beq_self_eq_true,List.tail_cons]
   clear hx h hg0 hg1 hc0 hwv hk hr
   go_enter Tryz.func89,Tryz.ntmps89
   go_wp2_with (first|(go_at_call 116;(refine hpk.mono ?_;rintro e w1 ⟨rfl,hb1⟩;clear hpk;have hz:=hb1.size;have hlt1:r < w1.heap.size:=(by omega);have hd1:=(hb1.cell (p:=⟨r,1,none⟩) hlt).trans hc1;have hf1:=(hb1.frozen (p:=⟨r,1,none⟩) hlt).trans (hfz 1))))
   go_ret
   refine⟨rfl,?_,?_⟩
   ·obtain⟨bs,hw⟩:=hw
    exact(Rd.next (w:=w1) (rest:=(k',t)::r') ((hb1.block r hlt).trans hblk) hpl HR ⟨bs,zaa hw hb1⟩).below ((Below.refl _ _).alloc (Nat.le_refl _) _)
   ·have hB:=But.of (r:=r) hb1
    exact(by repeat'(first|(with_reducible exact But.refl _ _)|(with_reducible assumption)|(with_reducible refine But.drewN ?_ _)|(with_reducible refine But.alloc ?_ _)|(with_reducible refine But.drew ?_)|(with_reducible refine But.setCell ?_ _ _)|(with_reducible refine But.setNew ?_ ?_ _)|go_size))
 ·rw[if_neg hh]
  have hbq:(hdK rest == k)=false:=by simpa using hh
  rw[hbq]
  clear hh
  generalize hdK rest=kd at *
  go_enter Tryz.func89,Tryz.ntmps89
  go_wp2_with (first|(go_at_call 116;refine hpk.mono ?_;rintro e w1 ⟨rfl,hb1⟩;clear hpk))
  go_ret
  exact⟨rfl,h.below (hb1.alloc hb1.size _),But.of (hb1.alloc hb1.size _)⟩
theorem zdn(w:World)(r:Nat)(wv:Value)(l rest:List Tok)(k:Int)(h:Rd w r wv l rest)(hl:l.length<=500)(hk:k≠0)(hh:hdK rest=k) :
  Calls Tryz.prog 89 #[.pointer (some ⟨r,0,none⟩),.int .i64 k] w fun e w'=>e=.returned (.bool true)/\Rd w' r wv l rest.tail/\But r w w':=by
 have:=take_any w r wv l rest k h hl hk
 rw[if_pos hh,hh,beq_self_eq_true] at this
 exact this
theorem ziy(w:World)(r:Nat)(wv:Value)(l rest:List Tok)(k:Int)(h:Rd w r wv l rest)(hl:l.length<=500)(hk:k≠0)(hh:hdK rest≠k) :
  Calls Tryz.prog 89 #[.pointer (some ⟨r,0,none⟩),.int .i64 k] w fun e w'=>e=.returned (.bool false)/\Rd w' r wv l rest/\But r w w':=by
 have:=take_any w r wv l rest k h hl hk
 rw[if_neg hh,show(hdK rest == k)=false by simpa using hh] at this
 exact this
end Go.Proofs.YteampbddflhngabGreat
namespace Go.Proofs.YteampbddflhngabGreat
set_option maxRecDepth 100000
set_option maxHeartbeats 1000000
open Go.RowKit
variable {lo:Nat}
theorem Tryz.infoString:(Tryz.prog.info? 9).map (fun i=>(i.zero,i.size,i.bytes))=some (some (.string ByteArray.empty),1,16):=by kernel_rfl
def zid(w:World)(r:Nat)(wv:Value)(l rest:List Tok)(e:Ending)(w':World):Prop :=
 But r w w'/\match zbm rest with
  |none=>e=.returned (.tuple #[.slice none 0 0,.bool false])
  |some (ts,r2)=>∃ v,e=.returned (.tuple #[v,.bool true])/\SIn w.heap.size w' v ts/\Rd w' r wv l r2
theorem zji{w w':World}{r:Nat}{wv:Value}{l rest:List Tok}(h:Hid (zbm rest=none))(hb:But r w w'):zid w r wv l rest (.returned (.tuple #[.slice none 0 0,.bool false])) w':=by
 have h':zbm rest=none:=h
 unfold zid;rw[h'];exact⟨hb,rfl⟩
theorem zos{w w':World}{r:Nat}{wv v:Value}{l rest r2:List Tok}{ts:List ByteArray}(h:Hid (zbm rest=some (ts,r2)))(hb:But r w w')(hs:SIn w.heap.size w' v ts)(hr:Rd w' r wv l r2) :
  zid w r wv l rest (.returned (.tuple #[v,.bool true])) w':=by
 have h':zbm rest=some (ts,r2):=h
 unfold zid;rw[h'];exact⟨hb,v,rfl,hs,hr⟩
theorem zs5{α β:Type}(o:Option (List α × β))(acc:List α)(x:α):((o.map fun z=>(x::z.1,z.2)).map fun z=>(acc++z.1,z.2))=o.map fun z=>((acc++[x])++z.1,z.2):=by cases o <;> simp
theorem ztu(w:World)(r:Nat)(wv:Value)(l rest:List Tok)(h:Rd w r wv l rest)(hl:l.length<=500) :
  Calls Tryz.prog 117 #[.pointer (some ⟨r,0,none⟩)] w fun e w'=>zid w r wv l rest e w':=by
 obtain⟨i0,hi,hz0,hz1,hz2⟩:=info_parts Tryz.infoString
 have hlt:=h.lt
 go_enter Tryz.func117,Tryz.ntmps117
 go_wp2
 go_loopg [4,5] (rest.length) (fun n v t wr=>∃(acc:List ByteArray) (rst:List Tok) (more:Bool),t=.bool more/\rst.length<=n/\rst.length+acc.length<=rest.length ∧
   wr.ownsRow w.heap.size 9 1 v acc.length (acc.map Value.string)/\Rd wr r wv l rst/\But r w wr ∧
   Hid (more=true->zbm rest=(zbm rst).map fun z=>(acc++z.1,z.2))/\Hid (more=false->zbm rest=some (acc,rst)))
 case atStart=>exact⟨[],rest,true,rfl,Nat.le_refl _,by simp,World.ownsRow_nil _ _ _ _,h,But.refl _ _,(fun _=>by simp),(fun h=>by cases h)⟩
 case round =>
  obtain⟨acc,rst,more,rfl,hn,hra,hown,hrd,hbut,H1,H2⟩:=hrel
  have hrl:rest.length<=l.length:=by
   obtain⟨p,_,hp,_⟩:=h.box;rw[hp];simp
  have hws:=hbut.size
  have hltr:=hrd.lt
  cases more with
  |false =>
   have H3:Hid (zbm rest=some (acc,rst)):=H2 rfl
   clear H1 H2
   go_wp2
   go_ret2
   exact zos H3 hbut hown hrd
  |true =>
   have hpk:=zh0 wr r wv l rst hrd hl
   cases rst with
   |nil =>
    have H3:Hid (zbm rest=none):=by rw[Hid.out H1 rfl];simp[zbm,Hid]
    clear H1 H2
    have hT:isT 0=false:=rfl
    simp only[hdK] at hpk
    go_wp2_with (first|(go_at_call 116;refine hpk.mono ?_;rintro e w1 ⟨rfl,hb1⟩;clear hpk;have hz:=hb1.size)|(go_at_call 130;refine(zlj _ _).mono ?_;rintro e w' ⟨rfl,rfl⟩))
    go_ret2
    have hB:=hbut.trans (But.of hb1)
    exact zji H3 (by repeat'(first|(with_reducible exact But.refl _ _)|(with_reducible assumption)|(with_reducible refine But.drewN ?_ _)|(with_reducible refine But.alloc ?_ _)|(with_reducible refine But.drew ?_)|(with_reducible refine But.setCell ?_ _ _)|(with_reducible refine But.setNew ?_ ?_ _)|go_size))
   |cons x r1 =>
    obtain⟨k,t⟩:=x
    simp only[hdK,List.headD_cons] at hpk
    cases hT:isT k with
    |false =>
     have H3:Hid (zbm rest=none):=by rw[Hid.out H1 rfl,z1s hT];simp[Hid]
     clear H1 H2
     go_wp2_with (first|(go_at_call 116;refine hpk.mono ?_;rintro e w1 ⟨rfl,hb1⟩;clear hpk;have hz:=hb1.size)|(go_at_call 130;refine(zlj _ _).mono ?_;rintro e w' ⟨rfl,rfl⟩))
     go_ret2
     have hB:=hbut.trans (But.of hb1)
     exact zji H3 (by repeat'(first|(with_reducible exact But.refl _ _)|(with_reducible assumption)|(with_reducible refine But.drewN ?_ _)|(with_reducible refine But.alloc ?_ _)|(with_reducible refine But.drew ?_)|(with_reducible refine But.setCell ?_ _ _)|(with_reducible refine But.setNew ?_ ?_ _)|go_size))
    |true =>
     obtain⟨p,ao,cap,hp,hr,hwv,hblk,hc0,hc1,hfz,hx⟩:=hrd.view
     obtain⟨g,_,hg,hpl,hg0,hg1⟩:=hx k t r1 rfl
     have HR:Hid ((k,t)::r1=l.drop p):=hr
     have HW:Hid (wv=.slice ao l.length cap):=hwv
     clear hx hr hg0 hg1 hc0 hwv
     go_wp2_with (first|(go_at_call 116;refine hpk.mono ?_;rintro e w1 ⟨rfl,hb1⟩;clear hpk;have hz:=hb1.size;have hlt1:r < w1.heap.size:=(by omega);have hd1:=(hb1.cell (p:=⟨r,1,none⟩) hltr).trans hc1;have hf1:=(hb1.frozen (p:=⟨r,1,none⟩) hltr).trans (hfz 1);have hbA:=hb1;have hrdO:=Rd.next (w:=w1) (rest:=(k,t)::r1) ((hb1.block r hltr).trans hblk) hpl HR ⟨_,zaa hrd.words.choose_spec hb1⟩;have hoO:=zb4 (zaa hown hb1) ((But.refl r w1).setCell 1 (.int .i64 ((p:Int)+1))) ((hb1.block r hltr).trans hblk) (by decide);have hbO:=(hbut.trans (But.of hb1)).setCell 1 (.int .i64 ((p:Int)+1));have hzO:(w1.setCell ⟨r,1,none⟩ (.int .i64 ((p:Int)+1))).heap.size=w1.heap.size:=(by simp);clear hbA)|(go_at_call 130;refine(zlj _ _).mono ?_;rintro e w' ⟨rfl,rfl⟩)|(at_builtin;refine zgw (w1.setCell ⟨r,1,none⟩ (.int .i64 ((p:Int)+1))) _ _ _ rfl (.tmp 21) (.tmp 24) 38 rfl w.heap.size 9 i0 _ 1 16 Tryz.underlying38 hi hz0 hz1 hz2 rfl (by decide) _ _ _ rfl hoO ((Below.refl _ _).alloc (Nat.le_refl _) _) _ _ rfl (by simp) rfl (by simp[Value.oneCell']) (by simp at hra;omega) (by omega) (by omega) ?_;intro v' w2 ho2 hB2 hc2 hf2 hk2 hz2';clear hc2 hf2 hk2;have hrd2:=Rd.keep h hrdO hB2;have hbut2:=hbO.onto hB2;have htk:=take_any w2 r wv l r1 6 hrd2 hl (by decide))|(go_at_call 89;refine htk.mono ?_;rintro e w3 ⟨rfl,hrd3,hbut3⟩;clear htk))
     obtain⟨c3,f3,hcell⟩:=hrd2.cell
     have ho3:=zb4 ho2 hbut3 hcell (by decide)
     have hP:=Hid.out H1 trivial
     simp only[List.length_cons] at hn hra
     have htl:(if hdK r1=6 then r1.tail else r1).length<=r1.length:=by split <;> simp
     go_roundg r1.length
     case measure=>omega
     case rel =>
      refine⟨acc++[t],(if hdK r1=6 then r1.tail else r1),(hdK r1 == 6),rfl,htl,by simp;omega,by simpa using ho3,hrd3,hbut2.trans hbut3,?_,?_⟩
      ·intro h6
       have h6':hdK r1=6:=by simpa using h6
       rw[if_pos h6',hP,zvh hT h6',zs5]
      ·intro h6
       have h6':hdK r1≠6:=by simpa using h6
       rw[if_neg h6',hP,zvi hT h6'];simp
theorem z5e(w:World)(r:Nat)(wv:Value)(l rest:List Tok)(h:Rd w r wv l rest)(hl:l.length<=500)(hp:zbm rest=none) :
  Calls Tryz.prog 117 #[.pointer (some ⟨r,0,none⟩)] w fun e w'=>e=.returned (.tuple #[.slice none 0 0,.bool false])/\But r w w':=by
 refine(ztu w r wv l rest h hl).mono ?_
 rintro e w' ⟨h1,h2⟩
 rw[hp] at h2
 exact⟨h2,h1⟩
theorem ztv(w:World)(r:Nat)(wv:Value)(l rest r2:List Tok)(ts:List ByteArray)(h:Rd w r wv l rest)(hl:l.length<=500)(hp:zbm rest=some (ts,r2)) :
  Calls Tryz.prog 117 #[.pointer (some ⟨r,0,none⟩)] w fun e w'=>∃ v,e=.returned (.tuple #[v,.bool true])/\SIn w.heap.size w' v ts/\Rd w' r wv l r2/\But r w w':=by
 refine(ztu w r wv l rest h hl).mono ?_
 rintro e w' ⟨h1,h2⟩
 rw[hp] at h2
 obtain⟨v,a,b,c⟩:=h2
 exact⟨v,a,b,c,h1⟩
end Go.Proofs.YteampbddflhngabGreat
