package impl

const MaxText = 300
const MaxNodes = 60

// kinds has the kind of every sign, one byte each.
const kinds = "0!?~+&#=*"

// sign is a process as a tree: its first sign together with its parts.
type sign interface {
	kind() string
	parts() []sign
}

// single is embedded in the signs with one part, pair in those with two.
type single struct{ rest sign }
type pair struct{ left, right sign }

type nothing struct{}

type send struct {
	over, name byte
	single
}

type receive struct {
	over, bound byte
	single
}

type silent struct{ single }
type choice struct{ pair }
type beside struct{ pair }

type own struct {
	bound byte
	single
}

type match struct {
	one, other byte
	single
}

type repeat struct{ single }

func (nothing) kind() string { return "0" }
func (send) kind() string    { return "!" }
func (receive) kind() string { return "?" }
func (silent) kind() string  { return "~" }
func (choice) kind() string  { return "+" }
func (beside) kind() string  { return "&" }
func (own) kind() string     { return "#" }
func (match) kind() string   { return "=" }
func (repeat) kind() string  { return "*" }

func (nothing) parts() []sign  { return nil }
func (s single) parts() []sign { return []sign{s.rest} }
func (p pair) parts() []sign   { return []sign{p.left, p.right} }

// withParts returns s with other parts, as many as it has.
func withParts(s sign, parts []sign) sign {
	switch x := s.(type) {
	case send:
		x.rest = parts[0]
		return x
	case receive:
		x.rest = parts[0]
		return x
	case silent:
		x.rest = parts[0]
		return x
	case choice:
		x.left, x.right = parts[0], parts[1]
		return x
	case beside:
		x.left, x.right = parts[0], parts[1]
		return x
	case own:
		x.rest = parts[0]
		return x
	case match:
		x.rest = parts[0]
		return x
	case repeat:
		x.rest = parts[0]
		return x
	}
	return s
}

// binderOf returns the name that the sign itself binds, if it binds one.
func binderOf(s sign) (byte, bool) {
	switch x := s.(type) {
	case receive:
		return x.bound, true
	case own:
		return x.bound, true
	}
	return 0, false
}

// withBinder returns s binding another name; the places that it binds stay as they are.
func withBinder(s sign, bound byte) sign {
	switch x := s.(type) {
	case receive:
		x.bound = bound
		return x
	case own:
		x.bound = bound
		return x
	}
	return s
}

// usedBy returns the names in the sign itself that it does not bind.
func usedBy(s sign) nameSet {
	switch x := s.(type) {
	case send:
		return nameSet(0).with(x.over).with(x.name)
	case receive:
		return nameSet(0).with(x.over)
	case match:
		return nameSet(0).with(x.one).with(x.other)
	}
	return 0
}

// withUsed returns s with each of the names of usedBy changed.
func withUsed(s sign, change func(byte) byte) sign {
	switch x := s.(type) {
	case send:
		x.over, x.name = change(x.over), change(x.name)
		return x
	case receive:
		x.over = change(x.over)
		return x
	case match:
		x.one, x.other = change(x.one), change(x.other)
		return x
	}
	return s
}

// nameSet is a set of letters, a bit for each.
type nameSet uint32

func (n nameSet) has(name byte) bool        { return n&nameSet(0).with(name) != 0 }
func (n nameSet) with(name byte) nameSet    { return n | 1<<(name-'a') }
func (n nameSet) without(name byte) nameSet { return n &^ nameSet(0).with(name) }

func setOf(names []byte) nameSet {
	set := nameSet(0)
	for _, name := range names {
		set = set.with(name)
	}
	return set
}

// letters returns the names of the set, in order.
func (n nameSet) letters() []byte {
	var out []byte
	for name := byte('a'); name <= 'z'; name++ {
		if n.has(name) {
			out = append(out, name)
		}
	}
	return out
}

// others returns the letters that are not in the set, in order.
func (n nameSet) others() []byte { return (^n).letters() }

// firstOther returns the first letter that is not in the set. It fails if all are.
func (n nameSet) firstOther() (byte, bool) {
	others := n.others()
	if len(others) == 0 {
		return 0, false
	}
	return others[0], true
}

// withNew returns the set with the first letter that is not in it, if there is one.
func (n nameSet) withNew() nameSet {
	if name, ok := n.firstOther(); ok {
		return n.with(name)
	}
	return n
}

func isLetter(r rune) bool { return 'a' <= r && r <= 'z' }

// readName returns the name that is the whole text.
func readName(text string) (byte, bool) {
	if len(text) != 1 || !isLetter(rune(text[0])) {
		return 0, false
	}
	return text[0], true
}

// reader reads a process from a text, from the left.
type reader struct {
	text string
	at   int
}

// take goes on behind the next byte if it is the wanted one.
func (r *reader) take(want byte) bool {
	if r.at == len(r.text) || r.text[r.at] != want {
		return false
	}
	r.at++
	return true
}

func (r *reader) name() (byte, bool) {
	if r.at == len(r.text) || !isLetter(rune(r.text[r.at])) {
		return 0, false
	}
	r.at++
	return r.text[r.at-1], true
}

func (r *reader) process() (sign, bool) {
	if r.take('0') {
		return nothing{}, true
	}
	if r.take('(') {
		return r.pair()
	}
	head, ok := r.head()
	if !ok {
		return nil, false
	}
	rest, ok := r.process()
	if !ok {
		return nil, false
	}
	return withParts(head, []sign{rest}), true
}

// pair reads a sign with two parts, behind its bracket.
func (r *reader) pair() (sign, bool) {
	left, ok := r.process()
	if !ok {
		return nil, false
	}
	both := sign(beside{})
	if !r.take('&') {
		both = choice{}
		if !r.take('+') {
			return nil, false
		}
	}
	right, ok := r.process()
	if !ok || !r.take(')') {
		return nil, false
	}
	return withParts(both, []sign{left, right}), true
}

// head reads what is written before the part of a sign with one part.
func (r *reader) head() (sign, bool) {
	switch {
	case r.take('~'):
		return silent{}, r.take('.')
	case r.take('*'):
		return repeat{}, true
	case r.take('#'):
		bound, ok := r.name()
		return own{bound: bound}, ok && r.take('.')
	case r.take('['):
		one, oneOk := r.name()
		equals := r.take('=')
		other, otherOk := r.name()
		return match{one: one, other: other}, oneOk && equals && otherOk && r.take(']')
	}
	return r.transfer()
}

// transfer reads what is written before the part of a sign that sends or receives.
func (r *reader) transfer() (sign, bool) {
	over, ok := r.name()
	if !ok {
		return nil, false
	}
	sends := r.take('!')
	if !sends && !r.take('?') {
		return nil, false
	}
	name, ok := r.name()
	if !ok || !r.take('.') {
		return nil, false
	}
	if sends {
		return send{over: over, name: name}, true
	}
	return receive{over: over, bound: name}, true
}

// parse returns the tree of a process. It fails if the text is none.
func parse(p string) (sign, bool) {
	if len(p) > MaxText {
		return nil, false
	}
	r := reader{text: p}
	s, ok := r.process()
	if !ok || r.at != len(p) || size(s) > MaxNodes {
		return nil, false
	}
	return s, true
}

// write appends the text of a process.
func write(out []byte, s sign) []byte {
	switch x := s.(type) {
	case nothing:
		return append(out, '0')
	case choice:
		return writePair(out, x.left, '+', x.right)
	case beside:
		return writePair(out, x.left, '&', x.right)
	}
	out = writeHead(out, s)
	for _, part := range s.parts() {
		out = write(out, part)
	}
	return out
}

// writeHead appends what is written before the part of a sign with one part.
func writeHead(out []byte, s sign) []byte {
	switch x := s.(type) {
	case send:
		out = append(out, x.over, '!', x.name, '.')
	case receive:
		out = append(out, x.over, '?', x.bound, '.')
	case silent:
		out = append(out, '~', '.')
	case own:
		out = append(out, '#', x.bound, '.')
	case match:
		out = append(out, '[', x.one, '=', x.other, ']')
	case repeat:
		out = append(out, '*')
	}
	return out
}

func writePair(out []byte, left sign, between byte, right sign) []byte {
	out = write(append(out, '('), left)
	out = write(append(out, between), right)
	return append(out, ')')
}

func textOf(s sign) string { return string(write(nil, s)) }

func textsOf(list []sign) []string {
	var texts []string
	for _, s := range list {
		texts = append(texts, textOf(s))
	}
	return texts
}

// processText returns the text of a tree. It fails if it exceeds the limits of a process.
func processText(s sign) (string, bool) {
	text := textOf(s)
	if len(text) > MaxText || size(s) > MaxNodes {
		return "", false
	}
	return text, true
}

// visitAll calls visit with each subterm, the whole first.
func visitAll(s sign, visit func(sign)) {
	visit(s)
	for _, part := range s.parts() {
		visitAll(part, visit)
	}
}

// countOf returns how many subterms there are for which holds is true.
func countOf(s sign, holds func(sign) bool) int {
	n := 0
	visitAll(s, func(t sign) {
		if holds(t) {
			n++
		}
	})
	return n
}

func size(s sign) int { return countOf(s, func(sign) bool { return true }) }

func countKind(s sign, kind string) int {
	return countOf(s, func(t sign) bool { return t.kind() == kind })
}

func depth(s sign) int {
	deepest := 0
	for _, part := range s.parts() {
		deepest = max(deepest, depth(part))
	}
	return deepest + 1
}

func freeNames(s sign) nameSet {
	free := nameSet(0)
	for _, part := range s.parts() {
		free |= freeNames(part)
	}
	if bound, ok := binderOf(s); ok {
		free = free.without(bound)
	}
	return free | usedBy(s)
}

func boundNames(s sign) nameSet {
	names := nameSet(0)
	visitAll(s, func(t sign) {
		if bound, ok := binderOf(t); ok {
			names = names.with(bound)
		}
	})
	return names
}

// partAt returns the part with the index that a step of a path tells.
func partAt(s sign, step rune) (sign, bool) {
	parts := s.parts()
	i := int(step - '0')
	if i < 0 || i >= len(parts) {
		return nil, false
	}
	return parts[i], true
}

func subtermAt(s sign, path string) (sign, bool) {
	for _, step := range path {
		part, ok := partAt(s, step)
		if !ok {
			return nil, false
		}
		s = part
	}
	return s, true
}

func replaceAt(s sign, path string, q sign) (sign, bool) {
	if path == "" {
		return q, true
	}
	part, ok := partAt(s, rune(path[0]))
	if !ok {
		return nil, false
	}
	part, ok = replaceAt(part, path[1:], q)
	if !ok {
		return nil, false
	}
	parts := s.parts()
	parts[path[0]-'0'] = part
	return withParts(s, parts), true
}

// renameFree puts name in all places where old is free. It fails if a sign that binds needs another letter and none is left.
func renameFree(s sign, old, name byte) (sign, bool) {
	if old == name || !freeNames(s).has(old) {
		return s, true
	}
	s, ok := withoutCapture(s, old, name)
	if !ok {
		return nil, false
	}
	parts := s.parts()
	if bound, binds := binderOf(s); !binds || bound != old {
		for i, part := range parts {
			if parts[i], ok = renameFree(part, old, name); !ok {
				return nil, false
			}
		}
	}
	return withUsed(withParts(s, parts), func(used byte) byte {
		if used == old {
			return name
		}
		return used
	}), true
}

// withoutCapture returns s binding another letter if it binds name above a place where old is free.
func withoutCapture(s sign, old, name byte) (sign, bool) {
	bound, binds := binderOf(s)
	if !binds || bound != name {
		return s, true
	}
	part := s.parts()[0]
	free := freeNames(part)
	if !free.has(old) {
		return s, true
	}
	letter, ok := free.with(name).firstOther() // old is free there
	if !ok {
		return nil, false
	}
	part, ok = renameFree(part, bound, letter)
	if !ok {
		return nil, false
	}
	return withBinder(withParts(s, []sign{part}), letter), true
}

// scope tells for each name what stands for it where it is used.
type scope [256]byte

func freeScope() scope {
	var sc scope
	for i := range sc {
		sc[i] = byte(i)
	}
	return sc
}

// bindInOrder lets each sign that binds, the first one first, bind the next of the names, of which there are enough and none is free in s; it returns those that are left.
func bindInOrder(s sign, sc scope, names []byte) (sign, []byte) {
	s = withUsed(s, func(used byte) byte { return sc[used] })
	if bound, ok := binderOf(s); ok {
		sc[bound] = names[0]
		s, names = withBinder(s, names[0]), names[1:]
	}
	parts := s.parts()
	for i, part := range parts {
		parts[i], names = bindInOrder(part, sc, names)
	}
	return withParts(s, parts), names
}

// numbered returns the same tree for all that are alike by names: each sign that binds has a byte behind the letters of its own as its name, of which there are enough for two processes side by side.
func numbered(s sign) sign {
	var names []byte
	for i := 'z' + 1; i < 256; i++ {
		names = append(names, byte(i))
	}
	s, _ = bindInOrder(s, freeScope(), names)
	return s
}

func bindersIn(s sign) int { return countKind(s, "?") + countKind(s, "#") }

func isGuarded(s sign) bool {
	open := countOf(s, func(t sign) bool {
		sum, ok := t.(choice)
		return ok && !(isGuard(sum.left) && isGuard(sum.right))
	})
	return open == 0
}

// isGuard reports whether s may be a part of a sum.
func isGuard(s sign) bool {
	switch s.(type) {
	case send, receive, silent, choice, nothing:
		return true
	}
	return false
}

func isSimple(s sign) bool {
	other := countOf(s, func(t sign) bool {
		again, ok := t.(repeat)
		return ok && again.rest.kind() != "?"
	})
	return other == 0 && isGuarded(s)
}

// IsProcess reports whether p is a process.
func IsProcess(p string) bool {
	_, ok := parse(p)
	return ok
}

// SizeOf returns how many signs a process has.
func SizeOf(p string) (int, bool) {
	s, ok := parse(p)
	if !ok {
		return 0, false
	}
	return size(s), true
}

// DepthOf returns the greatest number of signs on a way from the whole to a 0, both counted.
func DepthOf(p string) (int, bool) {
	s, ok := parse(p)
	if !ok {
		return 0, false
	}
	return depth(s), true
}

// KindOf returns the kind of the first sign.
func KindOf(p string) (string, bool) {
	s, ok := parse(p)
	if !ok {
		return "", false
	}
	return s.kind(), true
}

// PartsOf returns the parts.
func PartsOf(p string) ([]string, bool) {
	s, ok := parse(p)
	if !ok {
		return nil, false
	}
	return textsOf(s.parts()), true
}

// SubtermAt returns the subterm at a path.
func SubtermAt(p string, path string) (string, bool) {
	s, ok := parse(p)
	if !ok {
		return "", false
	}
	if s, ok = subtermAt(s, path); !ok {
		return "", false
	}
	return textOf(s), true
}

// ReplaceAt returns the process with another one in place of the subterm at a path, whatever is bound there.
func ReplaceAt(p string, path string, q string) (string, bool) {
	s, okS := parse(p)
	t, okT := parse(q)
	if !okS || !okT {
		return "", false
	}
	s, ok := replaceAt(s, path, t)
	if !ok {
		return "", false
	}
	return processText(s)
}

// CountKind returns how many signs of a kind there are.
func CountKind(p string, kind string) (int, bool) {
	s, ok := parse(p)
	if !ok || !isKind(kind) {
		return 0, false
	}
	return countKind(s, kind), true
}

func isKind(kind string) bool {
	for _, r := range kinds {
		if string(r) == kind {
			return true
		}
	}
	return false
}

// FreeNames returns all free names, each once, in order of letters, as one text.
func FreeNames(p string) (string, bool) {
	s, ok := parse(p)
	if !ok {
		return "", false
	}
	return string(freeNames(s).letters()), true
}

// BoundNames returns all names that some sign binds, in the same way.
func BoundNames(p string) (string, bool) {
	s, ok := parse(p)
	if !ok {
		return "", false
	}
	return string(boundNames(s).letters()), true
}

// FreshName returns the first letter that is not in a text of names, which may be in any order.
func FreshName(taken string) (string, bool) {
	names := nameSet(0)
	for _, r := range taken {
		if !isLetter(r) {
			return "", false
		}
		names = names.with(byte(r))
	}
	name, ok := names.firstOther()
	if !ok {
		return "", false
	}
	return string(name), true
}

// RenameFree returns the process with a free name renamed.
func RenameFree(p string, old string, name string) (string, bool) {
	s, okS := parse(p)
	from, okFrom := readName(old)
	to, okTo := readName(name)
	if !okS || !okFrom || !okTo {
		return "", false
	}
	s, ok := renameFree(s, from, to)
	if !ok {
		return "", false
	}
	return processText(s)
}

// CanonicalNames returns the process alike by names in which each sign that binds, the first one first, binds the first letter that is neither free in the whole process nor bound by an earlier one.
func CanonicalNames(p string) (string, bool) {
	s, ok := parse(p)
	if !ok {
		return "", false
	}
	letters := freeNames(s).others()
	if bindersIn(s) > len(letters) {
		return "", false
	}
	s, _ = bindInOrder(s, freeScope(), letters)
	return textOf(s), true
}

// AreAlpha reports whether two processes are alike by names.
func AreAlpha(p string, q string) (bool, bool) {
	s, okS := parse(p)
	t, okT := parse(q)
	if !okS || !okT {
		return false, false
	}
	return textOf(numbered(s)) == textOf(numbered(t)), true
}

// IsWellNamed reports whether no name is bound by two signs, or bound and free.
func IsWellNamed(p string) (bool, bool) {
	s, ok := parse(p)
	if !ok {
		return false, false
	}
	bound := boundNames(s)
	return bindersIn(s) == len(bound.letters()) && bound&freeNames(s) == 0, true
}

// IsGuarded reports whether each part of a + is of the kind !, ?, ~, + or 0.
func IsGuarded(p string) (bool, bool) {
	s, ok := parse(p)
	if !ok {
		return false, false
	}
	return isGuarded(s), true
}

// IsFinite reports whether there is no *.
func IsFinite(p string) (bool, bool) {
	s, ok := parse(p)
	if !ok {
		return false, false
	}
	return countKind(s, "*") == 0, true
}

// IsSimple reports whether a process is guarded and the part of each * is of the kind ?.
func IsSimple(p string) (bool, bool) {
	s, ok := parse(p)
	if !ok {
		return false, false
	}
	return isSimple(s), true
}
