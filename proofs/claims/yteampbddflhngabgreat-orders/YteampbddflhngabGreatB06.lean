import Derived.Test.YteampbddflhngabGreatB05

namespace Go.Proofs.YteampbddflhngabGreat
set_option maxRecDepth 100000
set_option maxHeartbeats 1000000
open Go.RowKit
variable{lo:Nat}
theorem count_any(w:World)(vb:Nat)(nv:Value)(vs:List ByteArray)(hbox:Box w vb #[nv] 124)(hs:SIn lo w nv vs) :
  Calls Tryz.prog 92 #[.pointer(some⟨vb,0,none⟩)] w fun e w'=>e=.returned(.int .i64 vs.length)/\w'=w:=by
 obtain⟨hc,hf⟩:=hbox.rules
 obtain⟨ao,cap,rfl⟩:=hs.shape
 go_enter Tryz.func92,Tryz.ntmps92
 go_wp2
 go_ret
 exact⟨rfl,rfl⟩
def coverB(vs args:List ByteArray):Bool:=args.all fun t=>!isVarB t || memB t vs
theorem all_drop{α:Type}(l:List α)(p:α->Bool)(k:Nat)(hk:k < l.length):(l.drop k).all p=(p l[k] && (l.drop(k+1)).all p):=by rw [List.drop_eq_getElem_cons hk,List.all_cons]
theorem any_drop{α:Type}(l:List α)(p:α->Bool)(k:Nat)(hk:k < l.length):(l.drop k).any p=(p l[k] || (l.drop(k+1)).any p):=by rw [List.drop_eq_getElem_cons hk,List.any_cons]
theorem cover_any(w:World)(vb:Nat)(nv:Value)(vs args:List ByteArray)(neg:Bool)(pred:ByteArray)(va:Value)(hbox:Box w vb #[nv] 124)(hv:SIn lo w nv vs){lo2:Nat}(hs:SIn lo2 w va args)(hl:vs.length<=1000)(hl2:args.length<=1000) :
  Calls Tryz.prog 94 #[.pointer(some⟨vb,0,none⟩),.agg #[.bool neg,.string pred,va]] w fun e w'=>e=.returned(.bool(coverB vs args))/\Below w.heap.size w w':=by
 obtain⟨ao,cap,rfl⟩:=hs.shape
 have hbA:=(Below.refl w.heap.size w).alloc(Nat.le_refl _)(.cells #[.bool neg,.string pred,.slice ao args.length cap] 45)
 have hbox1:=hbox.below hbA
 have hv1:=hv.below hbA
 go_enter Tryz.func94,Tryz.ntmps94
 go_wp2
 go_loop [10](fun i=>∃ k:Nat,k<=args.length/\i=.int .i64 k/\Hid(coverB vs args=(args.drop k).all fun t=>!isVarB t || memB t vs))(fun i=>args.length - (intOf i).toNat)
 case atStart=>exact⟨0,Nat.zero_le _,rfl,rfl⟩
 case round =>
  obtain⟨k,hk,rfl,H⟩:=hrel
  by_cases hlt:k < args.length
  ·obtain⟨g,rfl,hg,hck⟩:=hs.cell k hlt
   have hdr:=all_drop args(fun t=>!isVarB t || memB t vs) k hlt
   generalize args[k]=x at *
   have HD:Hid(coverB vs args=((!isVarB x || memB x vs) && (args.drop(k+1)).all fun t=>!isVarB t || memB t vs)):=by rw [Hid,H.out,hdr]
   clear hdr H
   cases hT:isVarB x with
   |false =>
    have HR:Hid(coverB vs args=(args.drop(k+1)).all fun t=>!isVarB t || memB t vs):=by rw [Hid,HD.out,hT];rfl
    clear HD
    go_wp2_with(first|(go_at_call 98;refine(isVariable_any _ _).mono ?_;rintro e w'⟨rfl,rfl⟩))
    go_round
    case rel=>exact⟨k+1,by omega,by go_num,HR⟩
    case measure=>simp [intOf];omega
   |true =>
    cases hM:memB x vs with
    |true =>
     have HR:Hid(coverB vs args=(args.drop(k+1)).all fun t=>!isVarB t || memB t vs):=by rw [Hid,HD.out,hM];simp
     clear HD
     go_wp2_with(first|(go_at_call 98;refine(isVariable_any _ _).mono ?_;rintro e w'⟨rfl,rfl⟩)|(go_at_call 109;refine(has_any _ vb _ vs x hbox1 hv1 hl).mono ?_;rintro e w'⟨rfl,rfl⟩))
     go_round
     case rel=>exact⟨k+1,by omega,by go_num,HR⟩
     case measure=>simp [intOf];omega
    |false =>
     have HR:Hid(coverB vs args=false):=by rw [Hid,HD.out,hM,hT];rfl
     clear HD
     go_wp2_with(first|(go_at_call 98;refine(isVariable_any _ _).mono ?_;rintro e w'⟨rfl,rfl⟩)|(go_at_call 109;refine(has_any _ vb _ vs x hbox1 hv1 hl).mono ?_;rintro e w'⟨rfl,rfl⟩))
     go_ret
     exact⟨by rw [HR.out];rfl,hbA⟩
  ·have HR:Hid(coverB vs args=true):=by rw [Hid,H.out,List.drop_eq_nil_of_le(by omega)];rfl
   clear H
   go_wp2
   go_ret
   exact⟨by rw [HR.out];rfl,hbA⟩
def manyC(c:PClause):Bool:=decide(3 < c.head.args.length) || decide(6 < c.body.length) || c.body.any(fun l=>decide(3 < l.args.length)) || decide(5 < (allVs c).length)
def safeC(c:PClause):Bool:=coverB(plainVs c) c.head.args && c.body.all fun l=>!l.neg || coverB(plainVs c) l.args
theorem manyIn_any(w:World)(c:PClause)(va vb:Value)(hs:SIn lo w va c.head.args)(hb:LIn lo w vb c.body)(hl:c.head.args.length+sumArgs c.body<=1000)(hl2:c.body.length<=1000) :
  Calls Tryz.prog 62 #[.agg #[.bool c.head.neg,.string c.head.pred,va,vb]] w fun e w'=>e=.returned(.bool(manyC c))/\Below w.heap.size w w':=by
 have hall:=fun W hW1 hW2=>all_any(lo:=lo) W c va vb hW1 hW2 hl hl2
 obtain⟨ao,cap,rfl⟩:=hs.shape
 obtain⟨aob,capb,rfl⟩:=hb.shape
 have HALL:Hid(∀ W,SIn lo W(.slice ao c.head.args.length cap) c.head.args->LIn lo W(.slice aob c.body.length capb) c.body->Calls Tryz.prog 91 #[.agg #[.bool c.head.neg,.string c.head.pred,.slice ao c.head.args.length cap,.slice aob c.body.length capb]] W fun e w'=>∃ nv,e=.returned(.agg #[nv])/\w'.ownsRow W.heap.size 9 1 nv(allVs c).length((allVs c).map Value.string)/\Below W.heap.size W w'):=hall
 clear hall
 by_cases h1:3 < c.head.args.length∨6 < c.body.length
 ·have HM:Hid(manyC c=true):=by unfold Hid manyC;rcases h1 with h1|h1 <;> simp [h1]
  go_enter Tryz.func62,Tryz.ntmps62
  rcases h1 with h1|h1
  ·go_wp2
   go_ret
   exact⟨by rw [HM.out];rfl,(by repeat'(first|with_reducible(first|exact zR _ _|assumption|refine zN ?_ _|refine zA ?_ ?_ _|refine zD ?_|refine zS ?_ ?_ _)|go_size))⟩
  ·by_cases h3:3 < c.head.args.length
   all_goals
    go_wp2
    go_ret
    exact⟨by rw [HM.out];rfl,(by repeat'(first|with_reducible(first|exact zR _ _|assumption|refine zN ?_ _|refine zA ?_ ?_ _|refine zD ?_|refine zS ?_ ?_ _)|go_size))⟩
 ·have h3:¬ 3 < c.head.args.length:=by omega
  have h6:¬ 6 < c.body.length:=by omega
  have HM:Hid(manyC c=(c.body.any(fun l=>decide(3 < l.args.length)) || decide(5 < (allVs c).length))):=by unfold Hid manyC;simp [h3,h6]
  clear h1
  go_enter Tryz.func62,Tryz.ntmps62
  go_wp2
  go_loopw [20](fun i wr=>∃ k:Nat,k<=c.body.length/\i=.int .i64 k/\Below w.heap.size w wr/\Box wr w.heap.size #[.bool c.head.neg,.string c.head.pred,.slice ao c.head.args.length cap,.slice aob c.body.length capb] 90/\Hid(manyC c=((c.body.drop k).any(fun l=>decide(3 < l.args.length)) || decide(5 < (allVs c).length))))(fun i _=>c.body.length - (intOf i).toNat)
  case atStart=>exact⟨0,Nat.zero_le _,rfl,(by repeat'(first|with_reducible(first|exact zR _ _|assumption|refine zN ?_ _|refine zA ?_ ?_ _|refine zD ?_|refine zS ?_ ?_ _)|go_size)),Box.new _ _ _,HM⟩
  case round =>
   obtain⟨k,hk,rfl,hbk,hbx,H⟩:=hrel
   have hszk:=hbk.size
   by_cases hlt:k < c.body.length
   ·obtain⟨g,ao2,cap2,rfl,hg,hc0,hc1,hc2,hsk⟩:=hb.cell k hlt
    have hd0:=(hbk.cell(p:=⟨g,k * 3,none⟩) hg).trans hc0
    have hd1:=(hbk.cell(p:=⟨g,k * 3+1,none⟩) hg).trans hc1
    have hd2:=(hbk.cell(p:=⟨g,k * 3+2,none⟩) hg).trans hc2
    have hgr:g < wr.heap.size:=by omega
    have hdr:=any_drop c.body(fun l=>decide(3 < l.args.length)) k hlt
    clear hc0 hc1 hc2 hsk
    generalize c.body[k]=a at *
    have HD:Hid(manyC c=(decide(3 < a.args.length) || (c.body.drop(k+1)).any(fun l=>decide(3 < l.args.length)) || decide(5 < (allVs c).length))):=by rw [Hid,H.out,hdr]
    clear hdr H HM
    by_cases h4:3 < a.args.length
    ·have HR:Hid(manyC c=true):=by rw [Hid,HD.out];simp [h4]
     clear HD
     go_wp2
     go_ret
     exact⟨by rw [HR.out];rfl,(by repeat'(first|with_reducible(first|exact zR _ _|assumption|refine zN ?_ _|refine zA ?_ ?_ _|refine zD ?_|refine zS ?_ ?_ _)|go_size))⟩
    ·have HR:Hid(manyC c=((c.body.drop(k+1)).any(fun l=>decide(3 < l.args.length)) || decide(5 < (allVs c).length))):=by rw [Hid,HD.out];simp [h4]
     clear HD
     go_wp2
     go_roundw
     case rel=>exact⟨k+1,by omega,by go_num,(by repeat'(first|with_reducible(first|exact zR _ _|assumption|refine zN ?_ _|refine zA ?_ ?_ _|refine zD ?_|refine zS ?_ ?_ _)|go_size)),hbx.below(by repeat'(first|with_reducible(first|exact zR _ _|assumption|refine zN ?_ _|refine zA ?_ ?_ _|refine zD ?_|refine zS ?_ ?_ _)|go_size)),HR⟩
     case measure=>simp [intOf];omega
   ·have HR:Hid(manyC c=decide(5 < (allVs c).length)):=by rw [Hid,H.out,List.drop_eq_nil_of_le(by omega)];simp
    have hsr:=hs.below hbk
    have hbr:=hb.below hbk
    obtain⟨hc,hf⟩:=hbx.rules
    have hblt:=hbx.lt
    clear H HM
    go_wp2_with(first|(go_at_call 91;refine(HALL.out _ hsr hbr).mono ?_;rintro e w1⟨nv,rfl,hown,hb1⟩;obtain⟨ao3,cap3,rfl⟩:=own_view hown;have hB1:=bnext hbk hb1(Nat.le_refl _);have hz1:=hB1.size)|(go_at_call 92;refine(count_any _ _ _(allVs c)(by exact Box.new _ _ _)(by exact owns_below hown(by repeat'(first|with_reducible(first|exact zR _ _|assumption|refine zN ?_ _|refine zA ?_ ?_ _|refine zD ?_|refine zS ?_ ?_ _)|go_size)))).mono ?_;rintro e w2⟨rfl,rfl⟩))
    go_ret
    exact⟨by rw [HR.out];simp;omega,(by repeat'(first|with_reducible(first|exact zR _ _|assumption|refine zN ?_ _|refine zA ?_ ?_ _|refine zD ?_|refine zS ?_ ?_ _)|go_size))⟩
theorem safeIn_any(w:World)(c:PClause)(va vb:Value)(hs:SIn lo w va c.head.args)(hb:LIn lo w vb c.body)(hl:c.head.args.length+sumArgs c.body<=1000)(hl2:c.body.length<=1000) :
  Calls Tryz.prog 64 #[.agg #[.bool c.head.neg,.string c.head.pred,va,vb]] w fun e w'=>e=.returned(.bool(safeC c))/\Below w.heap.size w w':=by
 have hall:=fun W hW1 hW2=>plain_any(lo:=lo) W c va vb hW1 hW2 hl hl2
 obtain⟨ao,cap,rfl⟩:=hs.shape
 obtain⟨aob,capb,rfl⟩:=hb.shape
 have HALL:Hid(∀ W,SIn lo W(.slice ao c.head.args.length cap) c.head.args->LIn lo W(.slice aob c.body.length capb) c.body->Calls Tryz.prog 57 #[.agg #[.bool c.head.neg,.string c.head.pred,.slice ao c.head.args.length cap,.slice aob c.body.length capb]] W fun e w'=>∃ nv,e=.returned(.agg #[nv])/\w'.ownsRow W.heap.size 9 1 nv(plainVs c).length((plainVs c).map Value.string)/\Below W.heap.size W w'):=hall
 clear hall
 have hpl:(plainVs c).length<=1000:=by have:=plainV_len c.body [];unfold plainVs;simp at this;omega
 have hargs:∀ k(hk:k < c.body.length),c.body[k].args.length<=1000:=fun k hk=>by
  have:=sumArgs_take c.body k hk;rw [List.getElem?_eq_getElem hk] at this;simp at this;omega
 have HARGS:Hid(∀ k(hk:k < c.body.length),c.body[k].args.length<=1000):=hargs
 clear hargs
 cases hH:coverB(plainVs c) c.head.args with
 |false =>
  have HM:Hid(safeC c=false):=by unfold Hid safeC;simp [hH]
  go_enter Tryz.func64,Tryz.ntmps64
  go_wp2_with(first|(go_at_call 57;refine(HALL.out _(by exact hs.below(by repeat'(first|with_reducible(first|exact zR _ _|assumption|refine zN ?_ _|refine zA ?_ ?_ _|refine zD ?_|refine zS ?_ ?_ _)|go_size)))(by exact hb.below(by repeat'(first|with_reducible(first|exact zR _ _|assumption|refine zN ?_ _|refine zA ?_ ?_ _|refine zD ?_|refine zS ?_ ?_ _)|go_size)))).mono ?_;rintro e w1⟨nv,rfl,hown,hb1⟩;obtain⟨ao3,cap3,rfl⟩:=own_view hown;have hB1:=bnext((Below.refl _ _).alloc(Nat.le_refl _) _) hb1(Nat.le_refl _);have hz1:=hB1.size;have hbx1:=(Box.new w _ _).below hb1;obtain⟨hc1,hf1⟩:=hbx1.rules;have hblt:=hbx1.lt)|(go_at_call 94;refine(cover_any _ _ _(plainVs c) c.head.args _ _ _(by exact Box.new _ _ _)(by exact owns_below hown(by repeat'(first|with_reducible(first|exact zR _ _|assumption|refine zN ?_ _|refine zA ?_ ?_ _|refine zD ?_|refine zS ?_ ?_ _)|go_size)))(by exact(hs.below hB1).below(by repeat'(first|with_reducible(first|exact zR _ _|assumption|refine zN ?_ _|refine zA ?_ ?_ _|refine zD ?_|refine zS ?_ ?_ _)|go_size))) hpl(by omega)).mono ?_;rintro e w2⟨rfl,hb2⟩;have hB2:=bnext(hB1.alloc hz1 _) hb2(Nat.le_refl _)))
  go_ret
  exact⟨by rw [HM.out];rfl,hB2⟩
 |true =>
  have HM:Hid(safeC c=c.body.all fun l=>!l.neg || coverB(plainVs c) l.args):=by unfold Hid safeC;simp [hH]
  go_enter Tryz.func64,Tryz.ntmps64
  go_wp2_with(first|(go_at_call 57;refine(HALL.out _(by exact hs.below(by repeat'(first|with_reducible(first|exact zR _ _|assumption|refine zN ?_ _|refine zA ?_ ?_ _|refine zD ?_|refine zS ?_ ?_ _)|go_size)))(by exact hb.below(by repeat'(first|with_reducible(first|exact zR _ _|assumption|refine zN ?_ _|refine zA ?_ ?_ _|refine zD ?_|refine zS ?_ ?_ _)|go_size)))).mono ?_;rintro e w1⟨nv,rfl,hown,hb1⟩;obtain⟨ao3,cap3,rfl⟩:=own_view hown;have hB1:=bnext((Below.refl _ _).alloc(Nat.le_refl _) _) hb1(Nat.le_refl _);have hz1:=hB1.size;have hbx1:=(Box.new w _ _).below hb1;obtain⟨hc1,hf1⟩:=hbx1.rules;have hblt:=hbx1.lt)|(go_at_call 94;refine(cover_any _ _ _(plainVs c) c.head.args _ _ _(by exact Box.new _ _ _)(by exact owns_below hown(by repeat'(first|with_reducible(first|exact zR _ _|assumption|refine zN ?_ _|refine zA ?_ ?_ _|refine zD ?_|refine zS ?_ ?_ _)|go_size)))(by exact(hs.below hB1).below(by repeat'(first|with_reducible(first|exact zR _ _|assumption|refine zN ?_ _|refine zA ?_ ?_ _|refine zD ?_|refine zS ?_ ?_ _)|go_size))) hpl(by omega)).mono ?_;rintro e w2⟨rfl,hb2⟩;have hB2:=bnext(hB1.alloc hz1 _) hb2(Nat.le_refl _);have hz2:=hb2.size;simp only [World.size_alloc] at hz2;have hbx2:=(hbx1.below((Below.refl _ _).alloc(Nat.le_refl _) _)).below hb2;obtain⟨hc2,hf2⟩:=hbx2.rules;have hblt2:=hbx2.lt;have hvb2:=(Box.new w1 _ _).below hb2;have hown2:=owns_below(owns_below hown((Below.refl _ _).alloc(Nat.le_refl _) _)) hb2))
  go_loopw [15](fun i wr=>∃ k:Nat,k<=c.body.length/\i=.int .i64 k/\Below w.heap.size w wr/\Box wr w1.heap.size #[.slice ao3(plainVs c).length cap3] 124/\SIn 0 wr(.slice ao3(plainVs c).length cap3)(plainVs c)/\Hid(safeC c=(c.body.drop k).all fun l=>!l.neg || coverB(plainVs c) l.args))(fun i _=>c.body.length - (intOf i).toNat)
  case atStart=>exact⟨0,Nat.zero_le _,rfl,hB2,hvb2,own_low hown2(Nat.zero_le _),HM⟩
  case round =>
   obtain⟨k,hk,rfl,hbk,hbx,hsv,H⟩:=hrel
   have hszk:=hbk.size
   by_cases hlt:k < c.body.length
   ·obtain⟨g,ao2,cap2,rfl,hg,hc0,hc1',hc2',hsk⟩:=hb.cell k hlt
    have hd0:=(hbk.cell(p:=⟨g,k * 3,none⟩) hg).trans hc0
    have hd1:=(hbk.cell(p:=⟨g,k * 3+1,none⟩) hg).trans hc1'
    have hd2:=(hbk.cell(p:=⟨g,k * 3+2,none⟩) hg).trans hc2'
    have hgr:g < wr.heap.size:=by omega
    have hdr:=all_drop c.body(fun l=>!l.neg || coverB(plainVs c) l.args) k hlt
    have hskr:=hsk.below hbk
    have hal:=HARGS.out k hlt
    clear hc0 hc1' hc2' hsk
    generalize c.body[k]=a at *
    have HD:Hid(safeC c=((!a.neg || coverB(plainVs c) a.args) && (c.body.drop(k+1)).all fun l=>!l.neg || coverB(plainVs c) l.args)):=by rw [Hid,H.out,hdr]
    clear hdr H HM
    cases hN:a.neg with
    |false =>
     have HR:Hid(safeC c=(c.body.drop(k+1)).all fun l=>!l.neg || coverB(plainVs c) l.args):=by rw [Hid,HD.out,hN];rfl
     rw [hN] at hd0
     clear HD hN
     go_wp2
     go_roundw
     case rel=>exact⟨k+1,by omega,by go_num,(by repeat'(first|with_reducible(first|exact zR _ _|assumption|refine zN ?_ _|refine zA ?_ ?_ _|refine zD ?_|refine zS ?_ ?_ _)|go_size)),hbx.below(by repeat'(first|with_reducible(first|exact zR _ _|assumption|refine zN ?_ _|refine zA ?_ ?_ _|refine zD ?_|refine zS ?_ ?_ _)|go_size)),hsv.below(by repeat'(first|with_reducible(first|exact zR _ _|assumption|refine zN ?_ _|refine zA ?_ ?_ _|refine zD ?_|refine zS ?_ ?_ _)|go_size)),HR⟩
     case measure=>simp [intOf];omega
    |true =>
     rw [hN] at hd0
     cases hC:coverB(plainVs c) a.args with
     |true =>
      have HR:Hid(safeC c=(c.body.drop(k+1)).all fun l=>!l.neg || coverB(plainVs c) l.args):=by rw [Hid,HD.out,hC];simp
      clear HD hN
      go_wp2_with(first|(go_at_call 94;refine(cover_any _ _ _(plainVs c) a.args _ _ _(by exact hbx.below(by repeat'(first|with_reducible(first|exact zR _ _|assumption|refine zN ?_ _|refine zA ?_ ?_ _|refine zD ?_|refine zS ?_ ?_ _)|go_size)))(by exact hsv.below(by repeat'(first|with_reducible(first|exact zR _ _|assumption|refine zN ?_ _|refine zA ?_ ?_ _|refine zD ?_|refine zS ?_ ?_ _)|go_size)))(by exact hskr.below(by repeat'(first|with_reducible(first|exact zR _ _|assumption|refine zN ?_ _|refine zA ?_ ?_ _|refine zD ?_|refine zS ?_ ?_ _)|go_size))) hpl hal).mono ?_;rintro e w3⟨rfl,hb3⟩;have hB3:=bnext((Below.refl wr.heap.size wr).alloc(Nat.le_refl _) _) hb3(Nat.le_refl _)))
      go_roundw
      case rel=>exact⟨k+1,by omega,by go_num,bnext hbk hB3(Nat.le_refl _),hbx.below hB3,hsv.below hB3,HR⟩
      case measure=>simp [intOf];omega
     |false =>
      have HR:Hid(safeC c=false):=by rw [Hid,HD.out,hC,hN];rfl
      clear HD hN
      go_wp2_with(first|(go_at_call 94;refine(cover_any _ _ _(plainVs c) a.args _ _ _(by exact hbx.below(by repeat'(first|with_reducible(first|exact zR _ _|assumption|refine zN ?_ _|refine zA ?_ ?_ _|refine zD ?_|refine zS ?_ ?_ _)|go_size)))(by exact hsv.below(by repeat'(first|with_reducible(first|exact zR _ _|assumption|refine zN ?_ _|refine zA ?_ ?_ _|refine zD ?_|refine zS ?_ ?_ _)|go_size)))(by exact hskr.below(by repeat'(first|with_reducible(first|exact zR _ _|assumption|refine zN ?_ _|refine zA ?_ ?_ _|refine zD ?_|refine zS ?_ ?_ _)|go_size))) hpl hal).mono ?_;rintro e w3⟨rfl,hb3⟩;have hB3:=bnext((Below.refl wr.heap.size wr).alloc(Nat.le_refl _) _) hb3(Nat.le_refl _)))
      go_ret
      exact⟨by rw [HR.out];rfl,bnext hbk hB3(Nat.le_refl _)⟩
   ·have HR:Hid(safeC c=true):=by rw [Hid,H.out,List.drop_eq_nil_of_le(by omega)];rfl
    clear H HM
    go_wp2
    go_ret
    exact⟨by rw [HR.out];rfl,hbk⟩
end Go.Proofs.YteampbddflhngabGreat

namespace Go.Proofs.YteampbddflhngabGreat
set_option maxRecDepth 100000
set_option maxHeartbeats 1000000
open Go.RowKit
variable{lo:Nat}
theorem CIn.cell{T:TypeId}{w:World}{ao:Option Addr}{n cap:Nat}{cs:List PClause}(h:CIn lo T w(.slice ao n cap) cs)(k:Nat)(hk:k < cs.length):∃ g ao2 cap2 ao3 cap3,ao=some⟨g,0,none⟩/\g < w.heap.size ∧
  w.cell?⟨g,k * 4,none⟩=some(.bool cs[k].head.neg)/\w.cell?⟨g,k * 4+1,none⟩=some(.string cs[k].head.pred)/\w.cell?⟨g,k * 4+2,none⟩=some(.slice ao2 cs[k].head.args.length cap2) ∧
  w.cell?⟨g,k * 4+3,none⟩=some(.slice ao3 cs[k].body.length cap3)/\SIn lo w(.slice ao2 cs[k].head.args.length cap2) cs[k].head.args/\LIn lo w(.slice ao3 cs[k].body.length cap3) cs[k].body:=by
 obtain⟨xs,ho,hc⟩:=h
 obtain⟨g,cap',hv,_,hg,hcl⟩:=own_cells ho(by omega)
 simp at hv
 obtain⟨va,vb,a1,a2,a3,a4,a5,a6⟩:=hc.at k cs[k](by simp [hk])
 obtain⟨ao2,cap2,rfl⟩:=a5.shape
 obtain⟨ao3,cap3,rfl⟩:=a6.shape
 exact⟨g,ao2,cap2,ao3,cap3,hv.1,hg,hcl _ _ a1,hcl _ _ a2,hcl _ _ a3,hcl _ _ a4,a5,a6⟩
def ClOK(c:PClause):Prop:=c.head.args.length+sumArgs c.body<=1000/\c.body.length<=1000
theorem many_any(w:World)(v:Value)(cs:List PClause)(hcs:CIn lo 90 w v cs)(hok:∀ c∈cs,ClOK c)(hl:cs.length<=1000) :
  Calls Tryz.prog 39 #[v] w fun e w'=>e=.returned(.bool(cs.any manyC))/\Below w.heap.size w w':=by
 obtain⟨ao,cap,rfl⟩:=hcs.shape
 have HOK:Hid(∀ c∈cs,ClOK c):=hok
 clear hok
 go_enter Tryz.func39,Tryz.ntmps39
 go_wp2
 go_loopw [7](fun i wr=>∃ k:Nat,k<=cs.length/\i=.int .i64 k/\Below w.heap.size w wr/\Hid(cs.any manyC=(cs.drop k).any manyC))(fun i _=>cs.length - (intOf i).toNat)
 case atStart=>exact⟨0,Nat.zero_le _,rfl,Below.refl _ _,rfl⟩
 case round =>
  obtain⟨k,hk,rfl,hbk,H⟩:=hrel
  have hszk:=hbk.size
  by_cases hlt:k < cs.length
  ·have hdr:=any_drop cs manyC k hlt
   obtain⟨g,ao2,cap2,ao3,cap3,rfl,hg,hc0,hc1,hc2,hc3,hsk,hlk⟩:=hcs.cell k hlt
   have hd0:=(hbk.cell(p:=⟨g,k * 4,none⟩) hg).trans hc0
   have hd1:=(hbk.cell(p:=⟨g,k * 4+1,none⟩) hg).trans hc1
   have hd2:=(hbk.cell(p:=⟨g,k * 4+2,none⟩) hg).trans hc2
   have hd3:=(hbk.cell(p:=⟨g,k * 4+3,none⟩) hg).trans hc3
   have hgr:g < wr.heap.size:=by omega
   have hskr:=hsk.below hbk
   have hlkr:=hlk.below hbk
   obtain⟨hk1,hk2⟩:=HOK.out _(List.getElem_mem hlt)
   clear hc0 hc1 hc2 hc3 hsk hlk
   generalize cs[k]=a at *
   have HD:Hid(cs.any manyC=(manyC a || (cs.drop(k+1)).any manyC)):=by rw [Hid,H.out,hdr]
   clear hdr H
   cases hM:manyC a with
   |true =>
    have HR:Hid(cs.any manyC=true):=by rw [Hid,HD.out,hM];rfl
    clear HD
    go_wp2_with(first|(go_at_call 62;refine(manyIn_any _ a _ _(by exact hskr.below(by repeat'(first|with_reducible(first|exact zR _ _|assumption|refine zN ?_ _|refine zA ?_ ?_ _|refine zD ?_|refine zS ?_ ?_ _)|go_size)))(by exact hlkr.below(by repeat'(first|with_reducible(first|exact zR _ _|assumption|refine zN ?_ _|refine zA ?_ ?_ _|refine zD ?_|refine zS ?_ ?_ _)|go_size))) hk1 hk2).mono ?_;rintro e w1⟨rfl,hb1⟩;have hB1:=bnext((Below.refl wr.heap.size wr).alloc(Nat.le_refl _) _) hb1(Nat.le_refl _)))
    go_ret
    exact⟨by rw [HR.out];rfl,bnext hbk hB1(Nat.le_refl _)⟩
   |false =>
    have HR:Hid(cs.any manyC=(cs.drop(k+1)).any manyC):=by rw [Hid,HD.out,hM];rfl
    clear HD
    go_wp2_with(first|(go_at_call 62;refine(manyIn_any _ a _ _(by exact hskr.below(by repeat'(first|with_reducible(first|exact zR _ _|assumption|refine zN ?_ _|refine zA ?_ ?_ _|refine zD ?_|refine zS ?_ ?_ _)|go_size)))(by exact hlkr.below(by repeat'(first|with_reducible(first|exact zR _ _|assumption|refine zN ?_ _|refine zA ?_ ?_ _|refine zD ?_|refine zS ?_ ?_ _)|go_size))) hk1 hk2).mono ?_;rintro e w1⟨rfl,hb1⟩;have hB1:=bnext((Below.refl wr.heap.size wr).alloc(Nat.le_refl _) _) hb1(Nat.le_refl _)))
    go_roundw
    case rel=>exact⟨k+1,by omega,by go_num,bnext hbk hB1(Nat.le_refl _),HR⟩
    case measure=>simp [intOf];omega
  ·have HR:Hid(cs.any manyC=false):=by rw [Hid,H.out,List.drop_eq_nil_of_le(by omega)];rfl
   clear H
   go_wp2
   go_ret
   exact⟨by rw [HR.out];rfl,hbk⟩
theorem safe_any(w:World)(v:Value)(cs:List PClause)(hcs:CIn lo 90 w v cs)(hok:∀ c∈cs,ClOK c)(hl:cs.length<=1000) :
  Calls Tryz.prog 41 #[v] w fun e w'=>e=.returned(.bool(cs.all safeC))/\Below w.heap.size w w':=by
 obtain⟨ao,cap,rfl⟩:=hcs.shape
 have HOK:Hid(∀ c∈cs,ClOK c):=hok
 clear hok
 go_enter Tryz.func41,Tryz.ntmps41
 go_wp2
 go_loopw [7](fun i wr=>∃ k:Nat,k<=cs.length/\i=.int .i64 k/\Below w.heap.size w wr/\Hid(cs.all safeC=(cs.drop k).all safeC))(fun i _=>cs.length - (intOf i).toNat)
 case atStart=>exact⟨0,Nat.zero_le _,rfl,Below.refl _ _,rfl⟩
 case round =>
  obtain⟨k,hk,rfl,hbk,H⟩:=hrel
  have hszk:=hbk.size
  by_cases hlt:k < cs.length
  ·have hdr:=all_drop cs safeC k hlt
   obtain⟨g,ao2,cap2,ao3,cap3,rfl,hg,hc0,hc1,hc2,hc3,hsk,hlk⟩:=hcs.cell k hlt
   have hd0:=(hbk.cell(p:=⟨g,k * 4,none⟩) hg).trans hc0
   have hd1:=(hbk.cell(p:=⟨g,k * 4+1,none⟩) hg).trans hc1
   have hd2:=(hbk.cell(p:=⟨g,k * 4+2,none⟩) hg).trans hc2
   have hd3:=(hbk.cell(p:=⟨g,k * 4+3,none⟩) hg).trans hc3
   have hgr:g < wr.heap.size:=by omega
   have hskr:=hsk.below hbk
   have hlkr:=hlk.below hbk
   obtain⟨hk1,hk2⟩:=HOK.out _(List.getElem_mem hlt)
   clear hc0 hc1 hc2 hc3 hsk hlk
   generalize cs[k]=a at *
   have HD:Hid(cs.all safeC=(safeC a && (cs.drop(k+1)).all safeC)):=by rw [Hid,H.out,hdr]
   clear hdr H
   cases hM:safeC a with
   |false =>
    have HR:Hid(cs.all safeC=false):=by rw [Hid,HD.out,hM];rfl
    clear HD
    go_wp2_with(first|(go_at_call 64;refine(safeIn_any _ a _ _(by exact hskr.below(by repeat'(first|with_reducible(first|exact zR _ _|assumption|refine zN ?_ _|refine zA ?_ ?_ _|refine zD ?_|refine zS ?_ ?_ _)|go_size)))(by exact hlkr.below(by repeat'(first|with_reducible(first|exact zR _ _|assumption|refine zN ?_ _|refine zA ?_ ?_ _|refine zD ?_|refine zS ?_ ?_ _)|go_size))) hk1 hk2).mono ?_;rintro e w1⟨rfl,hb1⟩;have hB1:=bnext((Below.refl wr.heap.size wr).alloc(Nat.le_refl _) _) hb1(Nat.le_refl _)))
    go_ret
    exact⟨by rw [HR.out];rfl,bnext hbk hB1(Nat.le_refl _)⟩
   |true =>
    have HR:Hid(cs.all safeC=(cs.drop(k+1)).all safeC):=by rw [Hid,HD.out,hM];rfl
    clear HD
    go_wp2_with(first|(go_at_call 64;refine(safeIn_any _ a _ _(by exact hskr.below(by repeat'(first|with_reducible(first|exact zR _ _|assumption|refine zN ?_ _|refine zA ?_ ?_ _|refine zD ?_|refine zS ?_ ?_ _)|go_size)))(by exact hlkr.below(by repeat'(first|with_reducible(first|exact zR _ _|assumption|refine zN ?_ _|refine zA ?_ ?_ _|refine zD ?_|refine zS ?_ ?_ _)|go_size))) hk1 hk2).mono ?_;rintro e w1⟨rfl,hb1⟩;have hB1:=bnext((Below.refl wr.heap.size wr).alloc(Nat.le_refl _) _) hb1(Nat.le_refl _)))
    go_roundw
    case rel=>exact⟨k+1,by omega,by go_num,bnext hbk hB1(Nat.le_refl _),HR⟩
    case measure=>simp [intOf];omega
  ·have HR:Hid(cs.all safeC=true):=by rw [Hid,H.out,List.drop_eq_nil_of_le(by omega)];rfl
   clear H
   go_wp2
   go_ret
   exact⟨by rw [HR.out];rfl,hbk⟩
end Go.Proofs.YteampbddflhngabGreat

namespace Go.Proofs.YteampbddflhngabGreat
set_option maxRecDepth 100000
set_option maxHeartbeats 1000000
open Go.RowKit
structure PEnt where
 name:ByteArray
 arity:Nat
 stratum:Nat
def ltB(a b:ByteArray):Bool:=Op.bytesLess a.toList b.toList
def placeB:List PEnt->ByteArray->Nat
 |[],_=>0
 |e::r,n=>if ltB e.name n then placeB r n+1 else 0
theorem placeB_le:∀ (t:List PEnt)(n:ByteArray),placeB t n<=t.length
 |[],_=>Nat.le_refl _
 |e::r,n=>by have:=placeB_le r n;unfold placeB;split <;> simp <;> omega
theorem placeB_drop:∀ (t:List PEnt)(n:ByteArray)(k:Nat),(∀ j(hj:j < t.length),j < k->ltB t[j].name n=true)->k<=t.length->placeB t n=k+placeB(t.drop k) n
 |[],n,k,_,hk=>by simp at hk;subst hk;simp
 |e::r,n,0,_,_=>by simp
 |e::r,n,k+1,h,hk=>by
  have h0:=h 0(by simp)(by omega)
  simp at h0
  have:=placeB_drop r n k(fun j hj hjk=>by have:=h(j+1)(by simpa using hj)(by omega);simpa using this)(by simpa using hk)
  simp [placeB,h0];omega
theorem placeB_stop(t:List PEnt)(n:ByteArray)(k:Nat)(h:∀ j(hj:j < t.length),j < k->ltB t[j].name n=true)(hk:k < t.length)(hn:ltB t[k].name n=false):placeB t n=k:=by
 rw [placeB_drop t n k h(by omega),List.drop_eq_getElem_cons hk,placeB,hn];rfl
theorem placeB_end(t:List PEnt)(n:ByteArray)(h:∀ j(hj:j < t.length),ltB t[j].name n=true):placeB t n=t.length:=by
 rw [placeB_drop t n t.length(fun j hj _=>h j hj)(Nat.le_refl _)];simp [placeB]
def pcells(t:List PEnt):List Value:=t.flatMap fun e=>[.string e.name,.int .i64(e.arity:Int),.int .i64(e.stratum:Int)]
theorem pcells_len(t:List PEnt):(pcells t).length=t.length * 3:=by
 induction t with
 |nil=>rfl
 |cons a t ih=>simp [pcells] at ih ⊢;omega
theorem pcells_at:∀ (t:List PEnt)(k:Nat)(hk:k < t.length),(pcells t)[k * 3]?=some(.string t[k].name)/\(pcells t)[k * 3+1]?=some(.int .i64(t[k].arity:Int))/\(pcells t)[k * 3+2]?=some(.int .i64(t[k].stratum:Int))
 |[],k,hk=>by simp at hk
 |e::r,0,_=>by simp [pcells]
 |e::r,k+1,hk=>by
  have:=pcells_at r k(by simpa using hk)
  simp only [pcells,List.flatMap_cons] at this ⊢
  rw [show(k+1) * 3=k * 3+1+1+1 from by omega,show k * 3+1+1+1+1=k * 3+1+1+1+1 from rfl,show k * 3+1+1+1+2=k * 3+2+1+1+1 from by omega]
  simpa using this
def TA(B:Nat)(w:World)(tb:Nat)(t:List PEnt):Prop:=∃ pv,Box w tb #[pv] 84/\w.ownsRow B 138 3 pv t.length(pcells t)
theorem TA.below{B:Nat}{w w':World}{tb:Nat}{t:List PEnt}(h:TA B w tb t)(hb:Below w.heap.size w w'):TA B w' tb t:=by
 obtain⟨nv,h1,h2⟩:=h;exact⟨nv,h1.below hb,owns_below h2 hb⟩
theorem TA.view{B:Nat}{w:World}{tb:Nat}{t:List PEnt}(h:TA B w tb t):∃ ao cap,Box w tb #[.slice ao t.length cap] 84/\w.ownsRow B 138 3(.slice ao t.length cap) t.length(pcells t):=by
 obtain⟨nv,h1,h2⟩:=h
 obtain⟨ao,cap,rfl⟩:=own_view h2
 exact⟨ao,cap,h1,h2⟩
theorem ent_cell{B:Nat}{w:World}{ao:Option Addr}{n cap:Nat}{t:List PEnt}(h:w.ownsRow B 138 3(.slice ao n cap) t.length(pcells t))(k:Nat)(hk:k < t.length):∃ g,ao=some⟨g,0,none⟩/\g < w.heap.size/\B<=g ∧
  w.cell?⟨g,k * 3,none⟩=some(.string t[k].name)/\w.cell?⟨g,k * 3+1,none⟩=some(.int .i64(t[k].arity:Int))/\w.cell?⟨g,k * 3+2,none⟩=some(.int .i64(t[k].stratum:Int)):=by
 obtain⟨g,cap',hv,hB,hg,hcl⟩:=own_cells h(by omega)
 simp at hv
 obtain⟨a1,a2,a3⟩:=pcells_at t k hk
 exact⟨g,hv.1,hg,hB,hcl _ _ a1,hcl _ _ a2,hcl _ _ a3⟩
theorem place_any(B:Nat)(w:World)(tb:Nat)(t:List PEnt)(n:ByteArray)(h:TA B w tb t)(hl:t.length<=1000) :
  Calls Tryz.prog 78 #[.pointer(some⟨tb,0,none⟩),.string n] w fun e w'=>e=.returned(.int .i64(placeB t n))/\w'=w:=by
 obtain⟨ao,cap,hbx,hown⟩:=h.view
 obtain⟨hc,hf⟩:=hbx.rules
 clear h
 go_enter Tryz.func78,Tryz.ntmps78
 go_wp2
 go_loop [5](fun i=>∃ k:Nat,k<=t.length/\i=.int .i64 k/\Hid(∀ j(hj:j < t.length),j < k->ltB t[j].name n=true))(fun i=>t.length - (intOf i).toNat)
 case atStart=>exact⟨0,Nat.zero_le _,rfl,fun j hj h=>by omega⟩
 case round =>
  obtain⟨k,hk,rfl,H⟩:=hrel
  by_cases hlt:k < t.length
  ·obtain⟨g,rfl,hg,_,hd0,_,_⟩:=ent_cell hown k hlt
   cases hL:ltB t[k].name n with
   |true =>
    have H2:Hid(∀ j(hj:j < t.length),j < k+1->ltB t[j].name n=true):=fun j hj h=>by
     rcases Nat.lt_or_ge j k with h'|h'
     ·exact H.out j hj h'
     ·obtain rfl:j=k:=by omega
      exact hL
    unfold ltB at hL
    generalize t[k].name=x at *
    clear H
    go_wp2
    go_round
    case rel=>exact⟨k+1,by omega,by go_num,H2⟩
    case measure=>simp [intOf];omega
   |false =>
    have H2:Hid(placeB t n=k):=placeB_stop t n k H.out hlt hL
    unfold ltB at hL
    generalize t[k].name=x at *
    clear H
    go_wp2
    go_ret
    exact⟨by rw [H2.out];rfl,rfl⟩
  ·have H2:Hid(placeB t n=k):=by
    have:=placeB_end t n(fun j hj=>H.out j hj(by omega));unfold Hid;omega
   clear H
   go_wp2
   go_ret
   exact⟨by rw [H2.out];rfl,rfl⟩
end Go.Proofs.YteampbddflhngabGreat
