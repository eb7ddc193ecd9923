package save

// head is what a snapshot begins with.
const head = "ANVILS\x01Z"

// The bytes of a snapshot's numbers.
const (
	byteBytes   = 1
	halfBytes   = 2
	wordBytes   = 4
	doubleBytes = 8
)

// noPage stands where a page's number would, behind the last page.
const noPage = 0xffff

// pageBytes is how many bytes a page has; a last one may have fewer.
const pageBytes = 256

// pageCount is how many pages so many bytes of RAM have.
func pageCount(ram int) int { return (ram + pageBytes - 1) / pageBytes }

// page is a page of RAM, cut off so that nothing behind it can be reached.
func page(ram []byte, number int) []byte {
	from := number * pageBytes
	to := min(from+pageBytes, len(ram))
	return ram[from:to:to]
}

// isBlank tells whether a page has no byte that is not 0: such a page is not told, so that a whole has one snapshot alone.
func isBlank(p []byte) bool {
	for _, b := range p {
		if b != 0 {
			return false
		}
	}
	return true
}
